/-
  Ties behind an empty list that a call has made, as a law for the walk; the library's Clone of ties. At lists of at most 1000 that are not nil.
-/
import Derived.Test.YtfahhjgpgccdhacLists
import Derived.Lib.SliceRun
import Derived.Laws.AppendOwn
namespace Go.Proofs.Ytfahhjgpgccdhac
open Go.RowKit

theorem addr_addT (g o j : Nat) : (⟨g, o, none⟩ : Addr).add j = ⟨g, o + j, none⟩ := by unfold Addr.add; split <;> simp_all
/-- The cells of ties. -/
def flatT (ps : List Ti) : List Value := (List.range (ps.length * 3)).map fun p => tiC (elAt ps (p / 3)) (p % 3)
theorem flatT_len (ps : List Ti) : (flatT ps).length = ps.length * 3 := by simp [flatT]
theorem flatT_at {ps : List Ti} {p : Nat} (hp : p < ps.length * 3) : (flatT ps)[p]? = some (tiC (elAt ps (p / 3)) (p % 3)) := by simp [flatT, hp]
theorem tiC_one (x : Ti) (q : Nat) : (tiC x q).oneCell' = true := by unfold tiC; split <;> rfl
theorem wp_app_ties {o : Oper} {a : Act} {K : Act → World → Prop} {Q : Exit → Act → World → Prop} {w : World} (s xo : Operand) (ho : o.op = .call { callee := .builtin .append, args := #[s, xo], argTypes := #[41, 41] })
    {base : Nat} {v : Value} (hO : OwnE 3 tiC w base 51 v []) (hs : a.eval s = v) (g off m c : Nat) (ys : List Ti) (hx : a.eval xo = .slice (some ⟨g, off, none⟩) m c) (hy : RowE 3 tiC w (some ⟨g, off, none⟩) m ys) (hm : m ≤ 1000) (hb : base ≤ w.heap.size)
    (h : ∀ v' w', OwnE 3 tiC w' base 51 v' ys → w.grownBy w' v.ownBlock → (v' = .slice none 0 0 → v = .slice none 0 0) → K (a.put o.dst v') w') : Oper.wp Try.prog o a w K Q := by
  obtain ⟨i0, hii, hz0, hz1, hz2⟩ := info_parts infoTi
  obtain ⟨xs, hown, _⟩ := hO.own
  have hlen := hy.len_eq
  have hx0 : xs = [] := List.length_eq_zero_iff.1 (by simpa using hown.1)
  subst hx0
  refine wp_append_own w s xo 41 ho base 51 i0 _ 3 24 Try.underlying41 hii hz0 hz1 hz2 rfl (by decide) v 0 [] hs hown ⟨g, off, none⟩ m c (flatT ys) hx (by rw [flatT_len, hlen]) (fun j u hj => ?_) (fun u hu => ?_) (by unfold maxLen; omega) (by omega) hb ?_
  · have hj' : j < ys.length * 3 := by
      rcases Nat.lt_or_ge j (ys.length * 3) with h | h
      · exact h
      · rw [List.getElem?_eq_none (by rw [flatT_len]; exact h)] at hj; cases hj
    rw [flatT_at hj'] at hj
    obtain ⟨b', off', e, hc⟩ := hy.at_ (j / 3) (by omega)
    simp only [Option.some.injEq, Addr.mk.injEq, and_true] at e
    obtain ⟨rfl, rfl⟩ := e
    have e : off + j = off + j / 3 * 3 + j % 3 := by omega
    rw [addr_addT, e, ← hj]; exact hc (j % 3) (by omega)
  · obtain ⟨p, _, rfl⟩ := List.mem_map.1 hu; exact tiC_one _ _
  · intro v' w' h1 h2 h3
    refine h v' w' ⟨⟨flatT ys, ?_, fun j hj q hq => ?_⟩⟩ h2 (fun e => (h3.1 e).1)
    · rw [hlen]; simpa using h1
    · rw [flatT_at (in_row hj hq)]
      rw [show (j * 3 + q) / 3 = j by omega, show (j * 3 + q) % 3 = q by omega]
theorem wpList_app_ties {ops : Array Oper} {rest : List Oper} {o : Oper} {a : Act} {Q : Exit → Act → World → Prop} {w : World} (hgd : o.guard = none) (s xo : Operand) (ho : o.op = .call { callee := .builtin .append, args := #[s, xo], argTypes := #[41, 41] })
    {base : Nat} {v : Value} (hO : OwnE 3 tiC w base 51 v []) (hs : a.eval s = v) (g off m c : Nat) (ys : List Ti) (hx : a.eval xo = .slice (some ⟨g, off, none⟩) m c) (hy : RowE 3 tiC w (some ⟨g, off, none⟩) m ys) (hm : m ≤ 1000) (hb : base ≤ w.heap.size)
    (h : ∀ v' w', OwnE 3 tiC w' base 51 v' ys → w.grownBy w' v.ownBlock → (v' = .slice none 0 0 → v = .slice none 0 0) → wpList Try.prog ops Q rest (a.put o.dst v') w') : wpList Try.prog ops Q (o :: rest) a w :=
  wpList_plain hgd fun _ hK => wp_app_ties s xo ho hO hs g off m c ys hx hy hm hb fun v' w' h1 h2 h3 => hK _ _ (h v' w' h1 h2 h3)
/-- One tie's mark turned. -/
theorem shut_own {w : World} {base g n c : Nat} {ps : List Ti} {i : Nat} (h : OwnE 3 tiC w base 51 (.slice (some ⟨g, 0, none⟩) n c) ps) (hl : ps.length = n) (hi : i < n) : OwnE 3 tiC (w.setCell ⟨g, i * 3 + 2, none⟩ (.bool true)) base 51 (.slice (some ⟨g, 0, none⟩) n c) (ps.set i ⟨(elAt ps i).a0, (elAt ps i).a1, true⟩) := by
  refine h.setOne hl i hi 2 (by omega) (.bool true) _ (fun p hp => ?_)
  rcases (by omega : p = 0 ∨ p = 1 ∨ p = 2) with rfl | rfl | rfl <;> simp [tiC]

set_option maxRecDepth 20000 in
set_option maxHeartbeats 1000000 in
theorem cloneT_any (g off len cap : Nat) (zs : List Ti) (w : World) (hr : RowE 3 tiC w (some ⟨g, off, none⟩) len zs) (hl : len ≤ 1000) :
    Calls Try.prog 69 #[.slice (some ⟨g, off, none⟩) len cap] w fun e w' => ∃ q c, e = .returned (.slice (some ⟨q, 0, none⟩) len c) ∧ OwnE 3 tiC w' w.heap.size 51 (.slice (some ⟨q, 0, none⟩) len c) zs ∧ Below w.heap.size w w' := by
  have HZ := hide hr.len_eq
  have R2 := hide (hr.alloc (Obj.cells #[] 51))
  have G1 : Hid (OwnE 3 tiC (w.alloc (Obj.cells #[] 51)) w.heap.size 51 (.slice (some ⟨w.heap.size, 0, none⟩) 0 0) []) := hide (ownE_none (w := w) (w1 := w) (Nat.le_refl _))
  have HL := hide hl
  clear hr hl
  have hnil : ∀ (w : World) (a : Option Addr) (n c n' c' : Nat), (binOp .eql 41 (.slice a n c) (.slice none n' c')).run Try.prog w = .ok (.bool a.isNone) w := fun w a n c n' c' => Lib.run_eql_slice_nil w _ _ a n c n' c' Try.underlying41
  go_enter Try.func69, Try.ntmps69
  go_wp2_with (at_builtin; refine wpList_app_ties rfl _ _ rfl (unhide G1) rfl g off len cap zs rfl (unhide R2) (unhide HL) (by simp) ?_; intro v1 w2 o2 g2 n2)
  have B2 := hide ((bel1 (w := w) (Obj.cells #[] 51)).grown g2 (by simp) (fun q hq => by have e := Option.some.inj (show some w.heap.size = some q from hq); omega))
  rcases o2.form with ⟨e, _⟩ | ⟨q, c, e, _⟩
  · exact absurd (n2 e) (by simp)
  · rw [unhide HZ] at e
    subst e
    have O2 := hide o2
    clear o2 g2 n2
    go_ret
    exact ⟨q, c, rfl, unhide O2, unhide B2⟩

end Go.Proofs.Ytfahhjgpgccdhac

/-
  A list of bools behind a list that a call has made; the library's Clone of lists of bools and of whole numbers: the answer owns its memory. At lists of at most 2000000.
-/
import Derived.Test.YtidgkkldhnckeadAppL
import Derived.Lib.SliceRun
import Derived.Test.YtidgkkldhnckeadRowBo
import Derived.Test.YtidgkkldhnckeadOnly
namespace Go.Proofs.Ytidgkkldhnckead
open Go.RowKit

theorem ownB_of_map {w : World} {base : Nat} {v : Value} {zs : List Bool} (h : w.ownsRow base 4 1 v zs.length (zs.map Value.bool)) : OwnE 1 boC w base 4 v zs :=
  ⟨⟨_, h, fun j hj q hq => by obtain rfl : q = 0 := by omega
                              simp [elAt, hj, boC]⟩⟩
theorem OwnE.mapB {w : World} {base : Nat} {v : Value} {zs : List Bool} (h : OwnE 1 boC w base 4 v zs) : w.ownsRow base 4 1 v zs.length (zs.map Value.bool) := by
  obtain ⟨xs, hown, hx⟩ := h.own
  have hl : xs.length = zs.length := by simpa using hown.1
  have e : xs = zs.map Value.bool := by
    apply List.ext_getElem?
    intro j
    by_cases hj : j < zs.length
    · have := hx j hj 0 (by omega)
      simp only [Nat.mul_one, Nat.add_zero] at this
      rw [this]; simp [elAt, hj, boC]
    · rw [List.getElem?_eq_none (by omega), List.getElem?_eq_none (by simp; omega)]
  rw [← e]; exact hown
theorem addr_addC (g o j : Nat) : (⟨g, o, none⟩ : Addr).add j = ⟨g, o + j, none⟩ := by unfold Addr.add; split <;> simp_all
theorem row_none {w : World} {len : Nat} {zs : List Int} (h : Row w none len zs) : len = 0 ∧ zs = [] := by
  rcases h.open_ with h | ⟨b, off, e, _⟩
  · exact h
  · cases e
theorem rowE_none {α : Type} [Inhabited α] {K : Nat} {cells : α → Nat → Value} {w : World} {len : Nat} {zs : List α} (h : RowE K cells w none len zs) : len = 0 ∧ zs = [] := by
  rcases h.open_ with h | ⟨b, off, e, _⟩
  · exact h
  · cases e
theorem wp_app_bools {o : Oper} {a : Act} {K : Act → World → Prop} {Q : Exit → Act → World → Prop} {w : World} (s xo : Operand) (ho : o.op = .call { callee := .builtin .append, args := #[s, xo], argTypes := #[25, 25] })
    {base : Nat} {v : Value} {zs : List Bool} (hO : OwnE 1 boC w base 4 v zs) (hs : a.eval s = v) (ad : Addr) (m c : Nat) (ys : List Bool) (hx : a.eval xo = .slice (some ad) m c) (hy : ys.length = m)
    (hc : ∀ j, j < m → w.cell? (ad.add j) = some (.bool (elAt ys j))) (hsm : zs.length + m ≤ 4000000) (hb : base ≤ w.heap.size)
    (h : ∀ v' w', OwnE 1 boC w' base 4 v' (zs ++ ys) → w.grownBy w' v.ownBlock → (v' = .slice none 0 0 → v = .slice none 0 0) → K (a.put o.dst v') w') : Oper.wp Try.prog o a w K Q := by
  subst hy
  obtain ⟨i0, hii, hz0, hz1, hz2⟩ := info_parts infoBo
  refine wp_append_own w s xo 25 ho base 4 i0 (.bool false) 1 1 Try.underlying25 hii hz0 hz1 hz2 rfl (by decide) v zs.length _ hs hO.mapB ad ys.length c (ys.map Value.bool) hx (by simp) (fun j u hj => ?_) (fun u hu => ?_) (by unfold maxLen; omega) (by omega) hb ?_
  · have hj' : j < ys.length := by
      rcases Nat.lt_or_ge j ys.length with h | h
      · exact h
      · rw [List.getElem?_eq_none (by simpa using h)] at hj; cases hj
    rw [hc j hj', ← hj]; simp [elAt, hj']
  · obtain ⟨x, _, rfl⟩ := List.mem_map.1 hu; rfl
  · intro v' w' h1 h2 h3
    refine h v' w' (ownB_of_map ?_) h2 (fun e => (h3.1 e).1)
    simpa using h1
theorem wpList_app_bools {ops : Array Oper} {rest : List Oper} {o : Oper} {a : Act} {Q : Exit → Act → World → Prop} {w : World} (hgd : o.guard = none) (s xo : Operand) (ho : o.op = .call { callee := .builtin .append, args := #[s, xo], argTypes := #[25, 25] })
    {base : Nat} {v : Value} {zs : List Bool} (hO : OwnE 1 boC w base 4 v zs) (hs : a.eval s = v) (ad : Addr) (m c : Nat) (ys : List Bool) (hx : a.eval xo = .slice (some ad) m c) (hy : ys.length = m)
    (hc : ∀ j, j < m → w.cell? (ad.add j) = some (.bool (elAt ys j))) (hsm : zs.length + m ≤ 4000000) (hb : base ≤ w.heap.size)
    (h : ∀ v' w', OwnE 1 boC w' base 4 v' (zs ++ ys) → w.grownBy w' v.ownBlock → (v' = .slice none 0 0 → v = .slice none 0 0) → wpList Try.prog ops Q rest (a.put o.dst v') w') : wpList Try.prog ops Q (o :: rest) a w :=
  wpList_plain hgd fun _ hK => wp_app_bools s xo ho hO hs ad m c ys hx hy hc hsm hb fun v' w' h1 h2 h3 => hK _ _ (h v' w' h1 h2 h3)

set_option maxRecDepth 20000 in
set_option maxHeartbeats 1000000 in
theorem cloneB_any (ad : Option Addr) (len cap : Nat) (zs : List Bool) (w : World) (hr : RowE 1 boC w ad len zs) (hl : len ≤ 2000000) :
    Calls Try.prog 68 #[.slice ad len cap] w fun e w' => ∃ a c, e = .returned (.slice a len c) ∧ OwnE 1 boC w' w.heap.size 4 (.slice a len c) zs ∧ Below w.heap.size w w' := by
  have HZ := hide hr.len_eq
  cases ad with
  | none =>
    obtain ⟨rfl, rfl⟩ := rowE_none hr
    clear hl HZ hr
    have hnil : ∀ (w : World) (a : Option Addr) (n c n' c' : Nat), (binOp .eql 25 (.slice a n c) (.slice none n' c')).run Try.prog w = .ok (.bool a.isNone) w := fun w a n c n' c' => Lib.run_eql_slice_nil w _ _ a n c n' c' Try.underlying25
    go_enter Try.func68, Try.ntmps68
    go_wp2_with fail
    go_ret
    exact ⟨none, 0, rfl, ownE_nil _ _ _, Below.refl _ _⟩
  | some p =>
    have R2 := hide (hr.alloc (Obj.cells #[] 4))
    have G1 : Hid (OwnE 1 boC (w.alloc (Obj.cells #[] 4)) w.heap.size 4 (.slice (some ⟨w.heap.size, 0, none⟩) 0 0) []) := hide (ownE_none (w := w) (w1 := w) (Nat.le_refl _))
    have HC : Hid (∀ j, j < len → (w.alloc (Obj.cells #[] 4)).cell? (p.add j) = some (.bool (elAt zs j))) := hide (fun j hj => by
      obtain ⟨b, off, e, hc⟩ := (unhide R2).at_ j hj
      cases e
      rw [addr_addC]
      have := hc 0 (by omega)
      simpa [boC] using this)
    have HL := hide hl
    clear hr hl
    have hnil : ∀ (w : World) (a : Option Addr) (n c n' c' : Nat), (binOp .eql 25 (.slice a n c) (.slice none n' c')).run Try.prog w = .ok (.bool a.isNone) w := fun w a n c n' c' => Lib.run_eql_slice_nil w _ _ a n c n' c' Try.underlying25
    go_enter Try.func68, Try.ntmps68
    go_wp2_with (at_builtin; refine wpList_app_bools rfl _ _ rfl (unhide G1) rfl p len cap zs rfl (unhide HZ) (unhide HC) (by have := unhide HL; simp; omega) (by simp) ?_; intro v1 w2 o2 g2 n2)
    have B2 := hide ((bel1 (w := w) (Obj.cells #[] 4)).grown g2 (by simp) (fun q hq => by have e := Option.some.inj (show some w.heap.size = some q from hq); omega))
    rcases o2.form with ⟨e, _⟩ | ⟨g, c, e, _⟩
    · exact absurd (n2 e) (by simp)
    · rw [List.nil_append, unhide HZ] at e
      rw [List.nil_append] at o2
      subst e
      have O2 := hide o2
      clear o2 g2 n2
      go_ret
      exact ⟨some ⟨g, 0, none⟩, c, rfl, unhide O2, unhide B2⟩

set_option maxRecDepth 20000 in
set_option maxHeartbeats 1000000 in
theorem cloneI_any (ad : Option Addr) (len cap : Nat) (zs : List Int) (w : World) (hr : Row w ad len zs) (hl : len ≤ 2000000) :
    Calls Try.prog 69 #[.slice ad len cap] w fun e w' => ∃ a c, e = .returned (.slice a len c) ∧ OwnI w' w.heap.size (.slice a len c) zs ∧ Below w.heap.size w w' := by
  have HZ := hide hr.len_eq
  have HF := hide hr.fit
  cases ad with
  | none =>
    obtain ⟨rfl, rfl⟩ := row_none hr
    clear hl HZ hr HF
    have hnil : ∀ (w : World) (a : Option Addr) (n c n' c' : Nat), (binOp .eql 26 (.slice a n c) (.slice none n' c')).run Try.prog w = .ok (.bool a.isNone) w := fun w a n c n' c' => Lib.run_eql_slice_nil w _ _ a n c n' c' Try.underlying26
    go_enter Try.func69, Try.ntmps69
    go_wp2_with fail
    go_ret
    exact ⟨none, 0, rfl, ownI_nil _ _, Below.refl _ _⟩
  | some p =>
    have R2 := hide (hr.alloc (Obj.cells #[] 3))
    have G1 : Hid (OwnI (w.alloc (Obj.cells #[] 3)) w.heap.size (.slice (some ⟨w.heap.size, 0, none⟩) 0 0) []) := hide (ownI_none (w := w) (w1 := w) (Nat.le_refl _))
    have HC : Hid (∀ j, j < len → (w.alloc (Obj.cells #[] 3)).cell? (p.add j) = some (.int .i64 (nth zs j))) := hide (fun j hj => by
      obtain ⟨b, off, e, hc⟩ := (unhide R2).cells j hj
      cases e
      rw [addr_addC]; exact hc)
    have HL := hide hl
    clear hr hl
    have hnil : ∀ (w : World) (a : Option Addr) (n c n' c' : Nat), (binOp .eql 26 (.slice a n c) (.slice none n' c')).run Try.prog w = .ok (.bool a.isNone) w := fun w a n c n' c' => Lib.run_eql_slice_nil w _ _ a n c n' c' Try.underlying26
    go_enter Try.func69, Try.ntmps69
    go_wp2_with (at_builtin; refine wpList_app_ints rfl _ _ rfl (unhide G1) rfl p len cap zs rfl (unhide HZ) (unhide HC) (unhide HF) (by have := unhide HL; simp; omega) (by simp) ?_; intro v1 w2 o2 g2 n2)
    have B2 := hide ((bel1 (w := w) (Obj.cells #[] 3)).grown g2 (by simp) (fun q hq => by have e := Option.some.inj (show some w.heap.size = some q from hq); omega))
    rcases o2.form with ⟨e, _⟩ | ⟨g, c, e, _⟩
    · exact absurd (n2 e) (by simp)
    · rw [List.nil_append, unhide HZ] at e
      rw [List.nil_append] at o2
      subst e
      have O2 := hide o2
      clear o2 g2 n2
      go_ret
      exact ⟨some ⟨g, 0, none⟩, c, rfl, unhide O2, unhide B2⟩

end Go.Proofs.Ytidgkkldhnckead

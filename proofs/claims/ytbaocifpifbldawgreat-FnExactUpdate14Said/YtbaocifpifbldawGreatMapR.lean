/-
  More of maps by texts: kept where only other blocks turn; a delete in a range. No condition.
-/
import Derived.Test.YtbaocifpifbldawGreatSetS
namespace Go.Proofs.YtbaocifpifbldawGreat
open Go.RowKit Go.Maps Go.WideMaps

theorem MapIs.only {w w' : World} {b n lo hi : Nat} {F : ByteArray → Option Value} (h : MapIs w b n F) (k : Only lo hi w w') (hs : b < lo ∨ hi ≤ b) : MapIs w' b n F := by
  obtain ⟨D, ⟨es, clock, h1, h2⟩, h3⟩ := h
  have hlt : b < w.heap.size := (Array.getElem?_eq_some_iff.1 h1).1
  exact ⟨D, ⟨es, clock, (k.block b hlt hs).trans h1, h2⟩, h3⟩
theorem SetIs.only {w w' : World} {b n lo hi : Nat} {S : ByteArray → Bool} (h : SetIs w b n S) (k : Only lo hi w w') (hs : b < lo ∨ hi ≤ b) : SetIs w' b n S := MapIs.only h k hs
theorem RangeIs.turned {w w' : World} {b r n cnt c : Nat} {F : ByteArray → Option Value} {L : ByteArray → Bool} (h : RangeIs w b r n F L cnt) (k : w.mapTurned w' c) (hb : b ≠ c) (hr : r ≠ c) : RangeIs w' b r n F L cnt := h.kept k.grown (by simp [hb]) (by simp [hr])
section
variable {ops : Array Oper} {rest : List Oper} {o : Oper} {a : Act} {Q : Exit → Act → World → Prop}
/-- 'delete(m, s)' in a range over m. -/
theorem wpList_delete_is {w : World} (hg : o.guard = none) (m x : Operand) (t : TypeId) (hop : o.op = Op.call { callee := Callee.builtin Builtin.delete, args := #[m, x], argTypes := #[t, 9] }) {e : TypeId} (ht : Tryz.prog.underlying t = some (.map 9 e)) {b r n cnt : Nat} {F : ByteArray → Option Value} {L : ByteArray → Bool}
    (hm : a.eval m = .map (some b)) (h : RangeIs w b r n F L cnt) {s : ByteArray} (hx : a.eval x = .string s) (hs : s.size ≤ 9223372036854775807)
    (hK : ∀ (w' : World) (cnt' : Nat), RangeIs w' b r n (delF F s) (fun u => L u && !decide (u = s)) cnt' → cnt' ≤ cnt → w.mapTurned w' b → wpList Tryz.prog ops Q rest (a.put o.dst (.tuple #[])) w') :
    wpList Tryz.prog ops Q (o :: rest) a w := by
  obtain ⟨D, left, h1, h2, h3⟩ := h
  refine wpList_delete_ranges w hg m x t 9 hop e keyed_str ht selfR b r n D left cnt hm h1 (.string s) (txK s) hx (key_str hs) (fun w' cnt' hr hle htu => hK w' cnt' ⟨_, _, hr, h2.del s, fun u => ?_⟩ hle htu)
  have hk : (txK u).sameKey (txK s) = decide (u = s) := by
    rw [Bool.eq_iff_iff, WideAt.sameKey_iff (txK_isKey s), decide_eq_true_eq]
    exact ⟨fun e => txK_inj e, fun e => by rw [e]⟩
  show (left (txK u) && !(txK u).sameKey (txK s)) = _
  rw [h3 u, hk]
end
theorem Only.grown {lo hi : Nat} {w wr w' : World} {row : Option Nat} (h : Only lo hi w wr) (g : wr.grownBy w' row) (hr : ∀ q, row = some q → w.heap.size ≤ q ∨ (lo ≤ q ∧ q < hi)) : Only lo hi w w' :=
  ⟨g.os.trans h.os, g.tape.trans h.tape, g.output.trans h.output, Nat.le_trans h.size g.size, fun k hk he => (g.block k (Nat.lt_of_lt_of_le hk h.size) (fun e => by have := hr k e.symm; omega)).trans (h.block k hk he)⟩
/-- Two sets together. -/
def orS (S T : ByteArray → Bool) : ByteArray → Bool := fun t => S t || T t
/-- A set copied into another one, so far. -/
structure Cpm (w wr : World) (bd bs n m cnt : Nat) (S T L : ByteArray → Bool) : Prop where
  r : RangeIs wr bs w.heap.size m (setF T) L cnt
  d : ∃ k, k + cnt ≤ n + m ∧ SetIs wr bd k (fun t => S t || (T t && !L t))
  o : Only bd (bd + 1) w wr
set_option maxRecDepth 20000 in
set_option maxHeartbeats 1000000 in
theorem copyS_any (bd bs n m : Nat) (S T : ByteArray → Bool) (w : World) (hd : SetIs w bd n S) (hs : SetIs w bs m T) (hne : bs ≠ bd) (hn : n + m < 9223372036854775807) :
    Calls Tryz.prog 53 #[.map (some bd), .map (some bs)] w fun e w' => e = .returned (.tuple #[]) ∧ SetIs w' bd (n + m) (orS S T) ∧ Only bd (bd + 1) w w' := by
  have HD := hide hd
  have HS := hide hs
  have hdl := MapIs.lt hd
  have hsl := MapIs.lt hs
  clear hd hs
  go_enter Tryz.func53, Tryz.ntmps53
  go_wp2_with (first
    | (at_range; refine wpList_range_is rfl _ 59 rfl Tryz.underlying59 rfl (unhide HS) ?_; intro w1 cnt1 hrg1 hc1 hg1 hs1)
    | go_in)
  go_frame
  have b1 : Below w.heap.size w w1 := (Below.refl w.heap.size w).grown hg1 (Nat.le_refl _) (fun j hj => by cases hj)
  have K1 : Hid (Cpm w w1 bd bs n m cnt1 S T T) := hide ⟨by
      have e : (fun s => (setF T s).isSome) = T := by funext s; exact setF_is T s
      rw [e] at hrg1; exact hrg1, ⟨n, by omega, by
      have e : (fun t => S t || (T t && !T t)) = S := by funext t; cases S t <;> cases T t <;> rfl
      rw [e]; exact (unhide HD).below b1⟩, Only.of_below b1⟩
  clear hrg1 hg1 hs1 b1 HD HS
  go_loopw [] (fun wr => ∃ (L : ByteArray → Bool) (cnt : Nat), Hid (Cpm w wr bd bs n m cnt S T L)) (fun wr => wr.rangeLeft bs w.heap.size)
  case atStart => exact ⟨_, _, K1⟩
  case round =>
    clear K1 hc1
    obtain ⟨L, cnt, HK⟩ := hrel
    go_wp2_with (first
      | (at_next; refine wpList_next_is rfl _ rfl rfl (unhide HK).r ?_ ?_)
      | go_in)
    · intro hl
      have HE : Hid (SetIs wr bd (n + m) (orS S T)) := hide (by
        obtain ⟨k, hk, hs⟩ := (unhide HK).d
        have e : (fun t => S t || (T t && !L t)) = orS S T := by funext t; unfold orS; rw [hl t]; cases S t <;> cases T t <;> rfl
        rw [e] at hs
        exact MapIs.mono hs (by omega))
      have HO := hide (unhide HK).o
      clear hl
      go_wp2_with fail
      go_end0
      exact ⟨rfl, unhide HE, unhide HO⟩
    · intro s v w4 cnt4 hss hL hF hrg4 hlt4 hg4 hs4 hen
      have hT : T s = true := by have := setF_is T s; rw [hF] at this; exact this.symm
      obtain rfl : v = .agg #[] := by unfold setF at hF; rw [hT] at hF; exact (Option.some.inj hF).symm
      have o4 : Only bd (bd + 1) w w4 := (unhide HK).o.grown hg4 (fun q hq => by cases hq; exact .inl (Nat.le_refl _))
      obtain ⟨k, hk, hsd⟩ := (unhide HK).d
      have d4 : SetIs w4 bd k (fun t => S t || (T t && !L t)) := MapIs.kept hsd hg4 (by simp; omega)
      obtain ⟨V, hV⟩ : ∃ V, V = w4.alloc (Obj.cells #[] 86) := ⟨_, rfl⟩
      have dV : SetIs V bd k (fun t => S t || (T t && !L t)) := by rw [hV]; exact d4.below (bel1 _)
      have rV : RangeIs V bs w.heap.size m (setF T) (fun t => L t && !decide (t = s)) cnt4 := by rw [hV]; exact hrg4.below (bel1 _)
      have oV : Only bd (bd + 1) w V := by rw [hV]; exact o4.trans (Only.of_below (bel1 _))
      obtain ⟨w5, hup, hm5, ht5⟩ := MapIs.store dV Tryz.underlying59 (by omega) hss (.agg #[])
      rw [setF_add] at hm5
      have K5 : Hid (Cpm w w5 bd bs n m cnt4 S T (fun t => L t && !decide (t = s))) := hide ⟨rV.turned ht5 hne (by omega), ⟨k + 1, by omega, by
          have e : addS (fun t => S t || (T t && !L t)) s = (fun t => S t || (T t && !(L t && !decide (t = s)))) := by
            funext t
            unfold addS
            by_cases c : t = s
            · subst c; simp [hT]
            · simp [c]
          rw [← e]; exact hm5⟩, oV.grown ht5.grown (fun q hq => by cases hq; exact .inr ⟨Nat.le_refl _, by omega⟩)⟩
      rw [hV] at hup
      clear hV dV rV oV d4 o4 hrg4 hg4 hs4 hm5 ht5 hF hk hsd hT
      go_wp2_with fail
      go_roundw
      case rel => exact ⟨_, cnt4, K5⟩
      case measure => rw [(unhide K5).r.left_eq, (unhide HK).r.left_eq]; exact hlt4

end Go.Proofs.YtbaocifpifbldawGreat

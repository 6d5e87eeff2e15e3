/-
  The model's lesser and greater of two numbers; no memory is written. No condition.
  What the model's l19Behind and l19Left answer. No condition beyond sizes of numbers.
  Which parts are due, in plain numbers. No program here.
  What the program's someMet answers: whether some bound is met. Nothing that was there is written.
  A list behind a list that a call has made: elements of several cells, as a law for the walk. At lists of at most 1000 together, the second not nil.
  A region that draws its order and whose last operation waits for all others: these only read (their callees may make memory): one walk, in the order of the text, then the last operation. No condition.
-/
import Derived.Test.YticdccdkjepifaaGreatMLowPure
import Derived.Test.YticdccdkjepifaaGreatMLeftImpl
import Derived.Test.YticdccdkjepifaaGreatMTaAlert
import Derived.Test.YticdccdkjepifaaGreatChecked
import Derived.Test.YticdccdkjepifaaGreatMBase
import Derived.Laws.AppendOwn
import Derived.Laws.OwnMore
import Derived.Test.YticdccdkjepifaaGreatMOnly

namespace Go.Proofs.YticdccdkjepifaaGreat
open Go.RowKit

set_option maxHeartbeats 400000 in
theorem l1Max_eq (x y : Int) (w : World) :
    Calls Tryz.prog 131 #[.int .i64 x, .int .i64 y] w fun e w' => e = .returned (.int .i64 (max x y)) ∧ w' = w := by
  by_cases h : x < y
  all_goals
    by_cases h2 : y < x
    all_goals
      go_enter Tryz.func131, Tryz.ntmps131
      go_wp2
      go_ret
      exact ⟨ret_int (by omega), rfl⟩

end Go.Proofs.YticdccdkjepifaaGreat

namespace Go.Proofs.YticdccdkjepifaaGreat
open Go.RowKit

set_option maxRecDepth 20000 in
theorem specBehind_is {b : Bool} (ah ac ad bh bc bd : Int) (w : World) (hc : bhB ah ac ad bh bc bd = b) :
    Calls Tryz.prog 68 #[.agg #[.int .i64 ah, .int .i64 ac, .int .i64 ad], .agg #[.int .i64 bh, .int .i64 bc, .int .i64 bd]] w fun e w' => e = .returned (.bool b) ∧ Below w.heap.size w w' := by
  subst hc
  rcases three (decide (ah ≤ bh)) (decide (ac ≤ bc)) (decide (ad ≤ bd)) with ⟨q1, hv⟩ | ⟨q1, q2, hv⟩ | ⟨q1, q2, q3, hv⟩ | ⟨q1, q2, q3, hv⟩
  all_goals
    have HE := hide (show bhB ah ac ad bh bc bd = _ from hv)
    rw [unhide HE]
    clear hv
    simp only [decide_eq_true_eq, decide_eq_false_iff_not] at *
    go_enter Tryz.func68, Tryz.ntmps68
    go_wp2_with fail
    go_ret
    exact ⟨rfl, (by repeat (first | exact Below.refl _ _ | refine Below.alloc ?_ (by simp; try omega) _ | refine taDr ?_ _))⟩

theorem specLeft_is {r : Int} (b p : Int) (w : World) (hb : 0 ≤ b ∧ b ≤ 100000) (hp : 0 ≤ p ∧ p ≤ 1000000) (hr : lfI b p = r) :
    Calls Tryz.prog 117 #[.int .i64 b, .int .i64 p] w fun e w' => e = .returned (.int .i64 r) ∧ w' = w := by
  by_cases q : b = 0
  · have hz : r = 0 := by rw [← hr, lfI, if_pos q]
    subst hz
    go_enter Tryz.func117, Tryz.ntmps117
    go_wp2_with fail
    go_ret
    exact ⟨rfl, rfl⟩
  · have hz : r = max 0 (b - p) := by rw [← hr, lfI, if_neg q]
    subst hz
    clear hr
    go_enter Tryz.func117, Tryz.ntmps117
    go_wp2_with (first | (go_at_call 131; refine (l1Max_eq _ _ _).mono ?_; rintro e w' ⟨rfl, hw⟩; subst w'))
    go_ret
    exact ⟨rfl, rfl⟩

end Go.Proofs.YticdccdkjepifaaGreat

namespace Go.Proofs.YticdccdkjepifaaGreat
open Go

/-- Whether the bound at a place is there and met. -/
def metAt (b0 b1 b2 s0 s1 s2 : Int) (k : Nat) : Bool := decide (of3 b0 b1 b2 k ≠ 0) && decide (of3 b0 b1 b2 k ≤ of3 s0 s1 s2 k)
/-- Whether some bound is met. -/
def metB (b0 b1 b2 s0 s1 s2 : Int) : Bool := metAt b0 b1 b2 s0 s1 s2 0 || metAt b0 b1 b2 s0 s1 s2 1 || metAt b0 b1 b2 s0 s1 s2 2
theorem metB_yes {b0 b1 b2 s0 s1 s2 : Int} {k : Nat} (hk : k < 3) (h : metAt b0 b1 b2 s0 s1 s2 k = true) : metB b0 b1 b2 s0 s1 s2 = true := by
  unfold metB
  rcases (show k = 0 ∨ k = 1 ∨ k = 2 from by omega) with rfl | rfl | rfl <;> simp [h]
theorem metB_no {b0 b1 b2 s0 s1 s2 : Int} (h : ∀ j, j < 3 → metAt b0 b1 b2 s0 s1 s2 j = false) : metB b0 b1 b2 s0 s1 s2 = false := by
  unfold metB
  rw [h 0 (by omega), h 1 (by omega), h 2 (by omega)]; rfl

end Go.Proofs.YticdccdkjepifaaGreat

namespace Go.Proofs.YticdccdkjepifaaGreat
open Go.RowKit
attribute [local go_sem high] run_ix0 run_ix1 run_ix2

set_option maxRecDepth 20000 in
set_option maxHeartbeats 4000000 in
theorem someMet_any (b0 b1 b2 s0 s1 s2 : Int) (w : World) :
    Calls Tryz.prog 133 #[.agg #[.int .i64 b0, .int .i64 b1, .int .i64 b2], .agg #[.int .i64 s0, .int .i64 s1, .int .i64 s2]] w fun x w' => x = .returned (.bool (metB b0 b1 b2 s0 s1 s2)) ∧ Below w.heap.size w w' := by
  have R0 := hide ((Blk.new (w := w) [.int .i64 b0, .int .i64 b1, .int .i64 b2] 142).alloc (Obj.cells #[.int .i64 s0, .int .i64 s1, .int .i64 s2] 142))
  have R1 : Hid (Blk ((w.alloc (Obj.cells #[.int .i64 b0, .int .i64 b1, .int .i64 b2] 142)).alloc (Obj.cells #[.int .i64 s0, .int .i64 s1, .int .i64 s2] 142)) (w.heap.size + 1) [.int .i64 s0, .int .i64 s1, .int .i64 s2]) := hide (by
    have := Blk.new (w := w.alloc (Obj.cells #[.int .i64 b0, .int .i64 b1, .int .i64 b2] 142)) [.int .i64 s0, .int .i64 s1, .int .i64 s2] 142
    simpa using this)
  have B0 := hide (bel2 (w := w) (Obj.cells #[.int .i64 b0, .int .i64 b1, .int .i64 b2] 142) (Obj.cells #[.int .i64 s0, .int .i64 s1, .int .i64 s2] 142))
  go_enter Tryz.func133, Tryz.ntmps133
  go_wp2_with fail
  go_loopw [8] (fun iv wr => ∃ (k : Nat), k ≤ 3 ∧ iv = .int .i64 k ∧ Hid (∀ j, j < k → metAt b0 b1 b2 s0 s1 s2 j = false) ∧ Blk wr w.heap.size [.int .i64 b0, .int .i64 b1, .int .i64 b2] ∧ Blk wr (w.heap.size + 1) [.int .i64 s0, .int .i64 s1, .int .i64 s2] ∧ Below w.heap.size w wr) (fun i _ => 3 - (intOf i).toNat)
  case atStart => exact ⟨0, by omega, rfl, hide (fun j hj => by omega), unhide R0, unhide R1, unhide B0⟩
  case round =>
    clear R0 R1 B0
    obtain ⟨k, hk, rfl, HN, hB, hS, hbel⟩ := hrel
    have c0 : wr.cell? ⟨w.heap.size, 0, none⟩ = some (.int .i64 b0) := hB.c 0 (by simp)
    have c1 : wr.cell? ⟨w.heap.size, 1, none⟩ = some (.int .i64 b1) := hB.c 1 (by simp)
    have c2 : wr.cell? ⟨w.heap.size, 2, none⟩ = some (.int .i64 b2) := hB.c 2 (by simp)
    have e0 : wr.cell? ⟨w.heap.size + 1, 0, none⟩ = some (.int .i64 s0) := hS.c 0 (by simp)
    have e1 : wr.cell? ⟨w.heap.size + 1, 1, none⟩ = some (.int .i64 s1) := hS.c 1 (by simp)
    have e2 : wr.cell? ⟨w.heap.size + 1, 2, none⟩ = some (.int .i64 s2) := hS.c 2 (by simp)
    have HB := hide hB
    have HS := hide hS
    have HL := hide hbel
    clear hB hS hbel
    rcases (show k = 0 ∨ k = 1 ∨ k = 2 ∨ k = 3 from by omega) with rfl | rfl | rfl | rfl
    · by_cases hz : b0 = 0
      · have HA : Hid (metAt b0 b1 b2 s0 s1 s2 0 = false) := hide (by simp [metAt, of3, hz])
        have HN1 : Hid (∀ j, j < 1 → metAt b0 b1 b2 s0 s1 s2 j = false) := hide (fun j hj => by
          rcases (show j < 0 ∨ j = 0 from by omega) with h | h
          · exact unhide HN j h
          · subst h; exact unhide HA)
        have hz' : (b0 != 0) = false := by simpa using hz
        clear hz
        go_wp2_with fail
        go_roundw
        case rel => exact ⟨1, by omega, by go_num, HN1, unhide HB, unhide HS, unhide HL⟩
        case measure => simp [intOf]
      · have hz' : (b0 != 0) = true := by simpa using hz
        by_cases hc : b0 ≤ s0
        · have HE := hide (metB_yes (b0 := b0) (b1 := b1) (b2 := b2) (s0 := s0) (s1 := s1) (s2 := s2) (k := 0) (by omega) (by simp [metAt, of3, hz, hc]))
          go_wp2_with fail
          go_ret
          exact ⟨ret_bool (unhide HE).symm, unhide HL⟩
        · have HA : Hid (metAt b0 b1 b2 s0 s1 s2 0 = false) := hide (by simp [metAt, of3]; omega)
          have HN1 : Hid (∀ j, j < 1 → metAt b0 b1 b2 s0 s1 s2 j = false) := hide (fun j hj => by
            rcases (show j < 0 ∨ j = 0 from by omega) with h | h
            · exact unhide HN j h
            · subst h; exact unhide HA)
          go_wp2_with fail
          go_roundw
          case rel => exact ⟨1, by omega, by go_num, HN1, unhide HB, unhide HS, unhide HL⟩
          case measure => simp [intOf]
    · by_cases hz : b1 = 0
      · have HA : Hid (metAt b0 b1 b2 s0 s1 s2 1 = false) := hide (by simp [metAt, of3, hz])
        have HN1 : Hid (∀ j, j < 2 → metAt b0 b1 b2 s0 s1 s2 j = false) := hide (fun j hj => by
          rcases (show j < 1 ∨ j = 1 from by omega) with h | h
          · exact unhide HN j h
          · subst h; exact unhide HA)
        have hz' : (b1 != 0) = false := by simpa using hz
        clear hz
        go_wp2_with fail
        go_roundw
        case rel => exact ⟨2, by omega, by go_num, HN1, unhide HB, unhide HS, unhide HL⟩
        case measure => simp [intOf]
      · have hz' : (b1 != 0) = true := by simpa using hz
        by_cases hc : b1 ≤ s1
        · have HE := hide (metB_yes (b0 := b0) (b1 := b1) (b2 := b2) (s0 := s0) (s1 := s1) (s2 := s2) (k := 1) (by omega) (by simp [metAt, of3, hz, hc]))
          go_wp2_with fail
          go_ret
          exact ⟨ret_bool (unhide HE).symm, unhide HL⟩
        · have HA : Hid (metAt b0 b1 b2 s0 s1 s2 1 = false) := hide (by simp [metAt, of3]; omega)
          have HN1 : Hid (∀ j, j < 2 → metAt b0 b1 b2 s0 s1 s2 j = false) := hide (fun j hj => by
            rcases (show j < 1 ∨ j = 1 from by omega) with h | h
            · exact unhide HN j h
            · subst h; exact unhide HA)
          go_wp2_with fail
          go_roundw
          case rel => exact ⟨2, by omega, by go_num, HN1, unhide HB, unhide HS, unhide HL⟩
          case measure => simp [intOf]
    · by_cases hz : b2 = 0
      · have HA : Hid (metAt b0 b1 b2 s0 s1 s2 2 = false) := hide (by simp [metAt, of3, hz])
        have HN1 : Hid (∀ j, j < 3 → metAt b0 b1 b2 s0 s1 s2 j = false) := hide (fun j hj => by
          rcases (show j < 2 ∨ j = 2 from by omega) with h | h
          · exact unhide HN j h
          · subst h; exact unhide HA)
        have hz' : (b2 != 0) = false := by simpa using hz
        clear hz
        go_wp2_with fail
        go_roundw
        case rel => exact ⟨3, by omega, by go_num, HN1, unhide HB, unhide HS, unhide HL⟩
        case measure => simp [intOf]
      · have hz' : (b2 != 0) = true := by simpa using hz
        by_cases hc : b2 ≤ s2
        · have HE := hide (metB_yes (b0 := b0) (b1 := b1) (b2 := b2) (s0 := s0) (s1 := s1) (s2 := s2) (k := 2) (by omega) (by simp [metAt, of3, hz, hc]))
          go_wp2_with fail
          go_ret
          exact ⟨ret_bool (unhide HE).symm, unhide HL⟩
        · have HA : Hid (metAt b0 b1 b2 s0 s1 s2 2 = false) := hide (by simp [metAt, of3]; omega)
          have HN1 : Hid (∀ j, j < 3 → metAt b0 b1 b2 s0 s1 s2 j = false) := hide (fun j hj => by
            rcases (show j < 2 ∨ j = 2 from by omega) with h | h
            · exact unhide HN j h
            · subst h; exact unhide HA)
          go_wp2_with fail
          go_roundw
          case rel => exact ⟨3, by omega, by go_num, HN1, unhide HB, unhide HS, unhide HL⟩
          case measure => simp [intOf]
    · have HE := hide (metB_no (unhide HN))
      go_wp2_with fail
      go_ret
      exact ⟨ret_bool (unhide HE).symm, unhide HL⟩

end Go.Proofs.YticdccdkjepifaaGreat

namespace Go.Proofs.YticdccdkjepifaaGreat
open Go.RowKit

theorem addr_addR (g o j : Nat) : (⟨g, o, none⟩ : Addr).add j = ⟨g, o + j, none⟩ := by unfold Addr.add; split <;> simp_all
section
variable {α : Type} [Inhabited α] {K : Nat} {cells : α → Nat → Value}

/-- The cells of a list. -/
def flatE (K : Nat) (cells : α → Nat → Value) (ps : List α) : List Value := (List.range (ps.length * K)).map fun p => cells (elAt ps (p / K)) (p % K)
theorem flatE_len (ps : List α) : (flatE K cells ps).length = ps.length * K := by simp [flatE]
theorem flatE_at {ps : List α} {p : Nat} (hp : p < ps.length * K) : (flatE K cells ps)[p]? = some (cells (elAt ps (p / K)) (p % K)) := by simp [flatE, hp]
theorem elAt_right (xs ys : List α) (j : Nat) : elAt (xs ++ ys) (xs.length + j) = elAt ys j := by
  unfold elAt; rw [List.getElem?_append_right (by omega)]; congr 2; omega
theorem elAt_left {xs ys : List α} {j : Nat} (h : j < xs.length) : elAt (xs ++ ys) j = elAt xs j := by
  unfold elAt; rw [List.getElem?_append_left h]
theorem ownE_apps {w : World} {base : Nat} {T : TypeId} {v : Value} {xs ys : List α} {vs : List Value} (hK : 0 < K) (h : w.ownsRow base T K v (xs.length + ys.length) (vs ++ flatE K cells ys)) (hl : vs.length = xs.length * K)
    (hx : ∀ j, j < xs.length → ∀ q, q < K → vs[j * K + q]? = some (cells (elAt xs j) q)) : OwnE K cells w base T v (xs ++ ys) := by
  refine ⟨⟨_, by rw [List.length_append]; exact h, fun j hj q hq => ?_⟩⟩
  rw [List.length_append] at hj
  by_cases e : j < xs.length
  · rw [elAt_left e, List.getElem?_append_left (by rw [hl]; exact in_row e hq)]
    exact hx j e q hq
  · obtain ⟨i, rfl⟩ : ∃ i, j = xs.length + i := ⟨j - xs.length, by omega⟩
    have hi : i < ys.length := by omega
    have e1 : (xs.length + i) * K + q = vs.length + (i * K + q) := by rw [hl, Nat.add_mul]; omega
    rw [e1, List.getElem?_append_right (by omega), elAt_right, show vs.length + (i * K + q) - vs.length = i * K + q by omega, flatE_at (in_row hi hq)]
    have e2 : (i * K + q) / K = i := by rw [Nat.add_comm, Nat.add_mul_div_right _ _ hK, Nat.div_eq_of_lt hq, Nat.zero_add]
    have e3 : (i * K + q) % K = q := by rw [Nat.add_comm, Nat.add_mul_mod_self_right, Nat.mod_eq_of_lt hq]
    rw [e2, e3]
theorem wpList_app_els {ops : Array Oper} {rest : List Oper} {o : Oper} {a : Act} {Q : Exit → Act → World → Prop} {w : World} (hwn : Region.wanted o (yielded ops a.tmps) = true) (s xo : Operand) (sT eT : TypeId) (ho : o.op = .call { callee := .builtin .append, args := #[s, xo], argTypes := #[sT, sT] })
    (hU : Tryz.prog.underlying sT = some (.slice eT)) {z : Value} {bytes : Nat} (hI : (Tryz.prog.info? eT).map (fun i => (i.zero, i.size, i.bytes)) = some (some z, K, bytes)) (hz : z.cells.size = K) (hK : 0 < K) (hby : bytes ≤ 1000) (h1c : ∀ x q, (cells x q).oneCell' = true)
    {base : Nat} {v : Value} {zs : List α} (hO : OwnE K cells w base eT v zs) (hs : a.eval s = v) (g off m c : Nat) (ys : List α) (hx : a.eval xo = .slice (some ⟨g, off, none⟩) m c) (hy : RowE K cells w (some ⟨g, off, none⟩) m ys) (hm : zs.length + m ≤ 1000) (hb : base ≤ w.heap.size)
    (h : ∀ v' w', OwnE K cells w' base eT v' (zs ++ ys) → w.grownBy w' v.ownBlock → (v' = .slice none 0 0 → v = .slice none 0 0) → wpList Tryz.prog ops Q rest (a.put o.dst v') w') : wpList Tryz.prog ops Q (o :: rest) a w := by
  refine wpList_step fun _ hK' => ?_
  rw [if_pos hwn]
  obtain ⟨i0, hii, hz0, hz1, hz2⟩ := info_parts hI
  obtain ⟨vs, hown, hvx⟩ := hO.own
  have hlen := hy.len_eq
  have hmul : (zs.length + m) * bytes ≤ 1000 * 1000 := Nat.mul_le_mul hm hby
  refine wp_append_own w s xo sT ho base eT i0 z K bytes hU hii hz0 hz1 hz2 hz hK v zs.length vs hs hown ⟨g, off, none⟩ m c (flatE K cells ys) hx (by rw [flatE_len, hlen]) (fun j u hj => ?_) (fun u hu => ?_) (by unfold maxLen; omega) (by omega) hb ?_
  · have hj' : j < ys.length * K := by
      rcases Nat.lt_or_ge j (ys.length * K) with h | h
      · exact h
      · rw [List.getElem?_eq_none (by rw [flatE_len]; exact h)] at hj; cases hj
    rw [flatE_at hj'] at hj
    have hd : j / K < m := by rw [← hlen]; exact Nat.div_lt_of_lt_mul (by rw [Nat.mul_comm]; exact hj')
    obtain ⟨b', off', e, hc⟩ := hy.at_ (j / K) hd
    simp only [Option.some.injEq, Addr.mk.injEq, and_true] at e
    obtain ⟨rfl, rfl⟩ := e
    have e : off + j = off + j / K * K + j % K := by rw [Nat.add_assoc, Nat.div_add_mod']
    rw [addr_addR, e, ← hj]; exact hc (j % K) (Nat.mod_lt _ hK)
  · obtain ⟨p, _, rfl⟩ := List.mem_map.1 hu; exact h1c _ _
  · intro v' w' h1 h2 h3
    exact hK' _ _ (h v' w' (ownE_apps hK (by rw [hlen]; exact h1) hown.1 hvx) h2 (fun e => (h3.1 e).1))
theorem ownE_one {w : World} {base : Nat} {T : TypeId} {x : α} (us : List Value) (hul : us.length = K) (hux : ∀ q, q < K → us[q]? = some (cells x q)) (h : base ≤ w.heap.size) : OwnE K cells (w.alloc (Obj.cells us.toArray T)) base T (.slice (some ⟨w.heap.size, 0, none⟩) 1 1) [x] := by
  refine ⟨⟨us, ?_, fun j hj q hq => ?_⟩⟩
  · have := World.ownsRow_lit (base := base) (e := T) (size := K) w us.toArray 1 h (by unfold maxLen; omega) (by simp [hul])
    simpa using this
  · obtain rfl : j = 0 := by simp at hj; omega
    rw [Nat.zero_mul, Nat.zero_add]; exact hux q hq

end

end Go.Proofs.YticdccdkjepifaaGreat

namespace Go.Proofs.YticdccdkjepifaaGreat
open Go.RowKit

def lastOf : List Oper → Oper
  | [] => default
  | [o] => o
  | _ :: b :: l => lastOf (b :: l)
/-- The last operation hands on a constant in place of what it does. -/
def swapLast : List Oper → List Oper
  | [] => []
  | [o] => [⟨o.dst, .move (.const (.bool true)), o.type, o.pos, o.after, o.guard⟩]
  | a :: b :: l => a :: swapLast (b :: l)

theorem swapLast_len : ∀ L : List Oper, (swapLast L).length = L.length
  | [] => rfl
  | [_] => rfl
  | _ :: b :: l => by simp [swapLast, swapLast_len (b :: l)]
theorem swapLast_at : ∀ (L : List Oper) (i : Nat), i + 1 < L.length → (swapLast L)[i]? = L[i]?
  | [], i, h => by simp at h
  | [_], i, h => by simp at h
  | a :: b :: l, 0, _ => by simp [swapLast]
  | a :: b :: l, i + 1, h => by
    have := swapLast_at (b :: l) i (by simpa using h)
    simpa [swapLast] using this
theorem lastOf_at : ∀ (L : List Oper), 0 < L.length → L[L.length - 1]? = some (lastOf L) ∧ (swapLast L)[L.length - 1]? = some ⟨(lastOf L).dst, .move (.const (.bool true)), (lastOf L).type, (lastOf L).pos, (lastOf L).after, (lastOf L).guard⟩
  | [], h => by simp at h
  | [_], _ => by simp [lastOf, swapLast]
  | a :: b :: l, _ => by
    have := lastOf_at (b :: l) (by simp)
    simpa [lastOf, swapLast] using this

/-- What is asked of the region's edges. -/
def lateB (L : List Oper) : Bool :=
  decide (0 < L.length) && (lastOf L).guard.isNone && (lastOf L).dst.isNone &&
  (List.range L.length).all (fun i => ((L[i]?).map fun o => o.after.all fun e => !Region.binds .any e || decide (e.on < i)).getD true) &&
  (List.range (L.length - 1)).all (fun i => (List.range L.length).any fun j => decide (i < j) && ((L[j]?).map fun o => o.after.toList.any fun e => Region.binds .any e && decide (e.on = i)).getD false)

theorem mem_ready {ops : Array Oper} {listed : Array Bool} {i : Nat} : i ∈ Region.ready .any ops listed ↔ i < ops.size ∧ listed.getD i true = false ∧ ∃ oi, ops[i]? = some oi ∧ ∀ e ∈ oi.after, Region.binds .any e = true → listed.getD e.on false = true := by
  unfold Region.ready
  simp only [List.mem_filter, List.mem_range, Bool.and_eq_true, Bool.not_eq_true']
  constructor
  · rintro ⟨h1, h2, h3⟩
    refine ⟨h1, h2, ?_⟩
    cases h : ops[i]? with
    | none => rw [h] at h3; simp at h3
    | some oi =>
      rw [h] at h3
      simp only [Option.map_some, Option.getD_some, Array.all_eq_true_iff_forall_mem, Bool.or_eq_true, Bool.not_eq_true'] at h3
      refine ⟨oi, rfl, fun e he hb => ?_⟩
      rcases h3 e he with k | k
      · rw [hb] at k; cases k
      · exact k
  · rintro ⟨h1, h2, oi, h, h3⟩
    refine ⟨h1, h2, ?_⟩
    rw [h]
    simp only [Option.map_some, Option.getD_some, Array.all_eq_true_iff_forall_mem, Bool.or_eq_true, Bool.not_eq_true']
    intro e he
    cases hb : Region.binds .any e
    · exact .inl rfl
    · exact .inr (h3 e he hb)

/-- Whatever came up, what it waits for came up. -/
def Closed (ops : Array Oper) (listed : Array Bool) : Prop := ∀ j oj, ops[j]? = some oj → listed.getD j true = true → ∀ e ∈ oj.after, Region.binds .any e = true → listed.getD e.on false = true

theorem getD_set (listed : Array Bool) (i j : Nat) (d : Bool) (hi : i < listed.size) : (listed.setIfInBounds i true).getD j d = if j = i then true else listed.getD j d := by
  simp only [Array.getD_eq_getD_getElem?, Array.getElem?_setIfInBounds]
  by_cases e : i = j
  · subst e; simp [hi]
  · simp [e, Ne.symm e]

theorem then_aux {P : Program} {ops ops' : Array Oper} {n : Nat} {o : Oper} {C : World → Prop} {Q' : Exit → Act → World → Prop}
    (hsz : ops.size = n + 1) (hsz' : ops'.size = n + 1) (hsame : ∀ i, i < n → ops'[i]? = ops[i]?)
    (ho : ops[n]? = some o) (ho' : ops'[n]? = some ⟨o.dst, .move (.const (.bool true)), o.type, o.pos, o.after, o.guard⟩) (hg : o.guard = none) (hd : o.dst = none)
    (hE1 : ∀ i oi, ops[i]? = some oi → ∀ e ∈ oi.after, Region.binds .any e = true → e.on < i)
    (hE2 : ∀ i, i < n → ∃ j oj, i < j ∧ ops[j]? = some oj ∧ ∃ e ∈ oj.after, Region.binds .any e = true ∧ e.on = i) :
    ∀ (fuel : Nat) (listed : Array Bool) (a : Act), listed.size = n + 1 → Closed ops listed → listed.getD n true = false →
      wpAnyQ P .any ops' C (fun a => ∀ w', C w' → o.wp P a w' (fun a w => Q' .normal a w) Q') fuel listed a → ∀ w, C w → wpAny P .any ops Q' fuel listed a w := by
  have hget : ∀ i : Nat, (ops'[i]?).map (fun x : Oper => (x.after, x.dst)) = (ops[i]?).map (fun x : Oper => (x.after, x.dst)) := by
    intro i
    rcases Nat.lt_trichotomy i n with h | h | h
    · rw [hsame i h]
    · subst h; rw [ho, ho']; rfl
    · rw [Array.getElem?_eq_none (by omega), Array.getElem?_eq_none (by omega)]
  have hready : ∀ listed, Region.ready .any ops' listed = Region.ready .any ops listed := by
    intro listed
    unfold Region.ready
    rw [hsz, hsz']
    refine List.filter_congr fun i _ => ?_
    congr 1
    have := hget i
    cases h1 : ops[i]? <;> cases h2 : ops'[i]? <;> simp [h1, h2] at this ⊢
    rw [this.1]
  have hyield : ∀ (tm : Array Value) j, yielded ops' tm j = yielded ops tm j := by
    intro tm j
    unfold yielded
    have := hget j
    cases h1 : ops[j]? <;> cases h2 : ops'[j]? <;> simp [h1, h2] at this ⊢
    rw [this.2]
  have hsome : ∀ listed : Array Bool, listed.size = n + 1 → listed.getD n true = false → Region.ready .any ops listed ≠ [] := by
    intro listed hls hn h0
    have key : ∀ i, i ≤ n → listed.getD i true = true := by
      intro i
      induction i using Nat.strongRecOn with
      | ind i ih =>
        intro hi
        cases hl : listed.getD i true
        · exfalso
          have hi2 : ops[i]? = some (ops[i]'(by omega)) := Array.getElem?_eq_getElem (by omega)
          have : i ∈ Region.ready .any ops listed := by
            rw [mem_ready]
            refine ⟨by omega, hl, _, hi2, fun e he hb => ?_⟩
            have hlt := hE1 i _ hi2 e he hb
            have h1 := ih e.on hlt (by omega)
            simp only [Array.getD_eq_getD_getElem?] at h1 ⊢
            have h3 : listed[e.on]? = some (listed[e.on]'(by omega)) := Array.getElem?_eq_getElem (by omega)
            rw [h3] at h1 ⊢
            simpa using h1
          rw [h0] at this
          cases this
        · rfl
    rw [key n (Nat.le_refl _)] at hn
    cases hn
  intro fuel
  induction fuel with
  | zero =>
    intro listed a hls hcl hn h w hC
    obtain ⟨h1, _⟩ := h
    rw [hready] at h1
    exact absurd h1 (hsome listed hls hn)
  | succ fuel ih =>
    intro listed a hls hcl hn h w hC
    refine ⟨fun h0 => absurd h0 (hsome listed hls hn), fun i hi => ?_⟩
    have hq := h.2 i (by rw [hready]; exact hi)
    obtain ⟨hi1, hi2, oi, hoi, hed⟩ := mem_ready.1 hi
    rw [hsz] at hi1
    by_cases hin : i = n
    · subst hin
      rw [ho] at hoi
      simp only [Option.some.injEq] at hoi
      subst hoi
      -- all others have come up
      have hall : ∀ m j, j + m = i → j < i → listed.getD j true = true := by
        intro m
        induction m using Nat.strongRecOn with
        | ind m ihm =>
          intro j hj hlt
          obtain ⟨k, ok, hjk, hok, e, he, hb, heq⟩ := hE2 j hlt
          have hk : k ≤ i := by
            rcases Nat.lt_or_ge i k with h | h
            · rw [Array.getElem?_eq_none (by omega)] at hok; cases hok
            · exact h
          have : listed.getD e.on false = true := by
            by_cases hki : k = i
            · subst hki
              rw [ho] at hok
              simp only [Option.some.injEq] at hok
              subst hok
              exact hed e he hb
            · exact hcl k ok hok (ihm (i - k) (by omega) k (by omega) (by omega)) e he hb
          rw [heq] at this
          simp only [Array.getD_eq_getD_getElem?] at this ⊢
          have h3 : listed[j]? = some (listed[j]'(by omega)) := Array.getElem?_eq_getElem (by omega)
          rw [h3] at this ⊢
          simpa using this
      have hdone : Region.ready .any ops (listed.setIfInBounds i true) = [] := by
        refine List.eq_nil_iff_forall_not_mem.2 fun j hj => ?_
        obtain ⟨j1, j2, _⟩ := mem_ready.1 hj
        rw [getD_set _ _ _ _ (by omega)] at j2
        by_cases e : j = i
        · rw [if_pos e] at j2; cases j2
        · rw [if_neg e, hall (i - j) j (by omega) (by omega)] at j2; cases j2
      have hQ : ∀ w', C w' → o.wp P a w' (fun a w => Q' .normal a w) Q' := by
        unfold qOp at hq
        simp only [ho'] at hq
        rw [if_pos (by simp [Region.wanted, hg])] at hq
        obtain ⟨v, _, hk⟩ := hq
        simp only [hd, Act.put] at hk
        cases fuel with
        | zero => exact hk.2
        | succ fuel => exact hk.1 (by rw [hready]; exact hdone)
      unfold wpOp
      simp only [ho]
      rw [if_pos (by simp [Region.wanted, hg])]
      exact .inl (Oper.wp_mono (fun a' w' h' => wpAny_done hdone h' fuel) (hQ w hC))
    · have hi3 : i < n := by omega
      have hmono : ∀ a' w', C w' → wpAnyQ P .any ops' C (fun a => ∀ w', C w' → o.wp P a w' (fun a w => Q' .normal a w) Q') fuel (listed.setIfInBounds i true) a' → wpAny P .any ops Q' fuel (listed.setIfInBounds i true) a' w' := by
        intro a' w' hC' hk
        refine ih (listed.setIfInBounds i true) a' (by simpa using hls) ?_ ?_ hk w' hC'
        · intro j oj hoj hj e he hb
          rw [getD_set _ _ _ _ (by omega)] at hj ⊢
          by_cases e1 : j = i
          · subst e1
            rw [hoi] at hoj
            simp only [Option.some.injEq] at hoj
            subst hoj
            have := hed e he hb
            split
            · rfl
            · exact this
          · rw [if_neg e1] at hj
            have := hcl j oj hoj hj e he hb
            split
            · rfl
            · exact this
        · rw [getD_set _ _ _ _ (by omega), if_neg (by omega)]; exact hn
      unfold qOp at hq
      rw [hsame i hi3, hoi] at hq
      unfold wpOp
      rw [hoi]
      have hy : yielded ops' a.tmps = yielded ops a.tmps := funext (hyield a.tmps)
      simp only [hy] at hq ⊢
      split
      · rename_i hw
        simp only [hw, if_true] at hq
        exact .inl (Oper.wp_of_quiet hC hmono hq)
      · rename_i hw
        simp only [hw] at hq
        exact hmono _ _ hC hq

/-- The region: a walk of the reads in the order of the text, then the last operation. -/
theorem wp_region_then {P : Program} {id : Nat} {Q : Exit → Act → World → Prop} {a : Act} {w : World} {L : List Oper} {ι : Type} {f : ι → World} (hall : ∀ w', Below w.heap.size w w' → ∃ x, w' = f x)
    (hm : P.follows .mixedOrders = true) (hB : Region.lexB .any (swapLast L).toArray = true) (hL : lateB L = true)
    (h : wpQuiet P (swapLast L).toArray (fun w' => ∃ x, w' = f x) (fun a' => ∀ w', (∃ x, w' = f x) → (lastOf L).wp P a' w' (fun a w => Q .normal a w) Q) (swapLast L) a) : (Code.region id L.toArray true).wp P Q a w := by
  simp only [lateB, Bool.and_eq_true, decide_eq_true_eq, Option.isNone_iff_eq_none, List.all_eq_true, List.mem_range, List.any_eq_true] at hL
  obtain ⟨⟨⟨⟨h0, hg⟩, hd⟩, e1⟩, e2⟩ := hL
  obtain ⟨n, hn⟩ : ∃ n, L.length = n + 1 := ⟨L.length - 1, by omega⟩
  simp only [Region.lexB, Bool.and_eq_true] at hB
  have hlex := wpAnyQ_lex (P := P) (C := fun w' => ∃ x, w' = f x) (md := .any) hB.1 (swapLast L) 0 (Array.replicate (swapLast L).length false) a (by simp) (by simpa using hB.2) h
  have hla := lastOf_at L h0
  rw [hn] at hla
  simp only [Nat.add_sub_cancel] at hla
  refine wp_region_any hm ?_
  have hfin := then_aux (P := P) (ops := L.toArray) (ops' := (swapLast L).toArray) (n := n) (o := lastOf L) (C := fun w' => ∃ x, w' = f x) (Q' := Q) (by simpa using hn) (by simp [swapLast_len, hn])
    (fun i hi => by simpa using swapLast_at L i (by omega)) (by simpa using hla.1) (by simpa using hla.2) hg hd
    (fun i oi hoi e he hb => by
      have hi : i < L.length := by
        rcases Nat.lt_or_ge i L.length with h | h
        · exact h
        · rw [Array.getElem?_eq_none (by simpa using h)] at hoi; cases hoi
      have := e1 i hi
      have hoi' : L[i]? = some oi := by simpa using hoi
      rw [hoi'] at this
      simp only [Option.map_some, Option.getD_some, Array.all_eq_true_iff_forall_mem, Bool.or_eq_true, Bool.not_eq_true', decide_eq_true_eq] at this
      rcases this e he with k | k
      · rw [hb] at k; cases k
      · exact k)
    (fun i hi => by
      obtain ⟨j, hj, hx⟩ := e2 i (by omega)
      obtain ⟨hij, hx⟩ := hx
      cases hoj : L[j]? with
      | none => rw [hoj] at hx; simp at hx
      | some oj =>
        rw [hoj] at hx
        simp only [Option.map_some, Option.getD_some, List.any_eq_true, Bool.and_eq_true, decide_eq_true_eq] at hx
        obtain ⟨e, he, hb, heq⟩ := hx
        exact ⟨j, oj, hij, by simpa using hoj, e, by simpa using he, hb, heq⟩)
    (swapLast L).length (Array.replicate (swapLast L).length false) a (by simp [swapLast_len, hn])
    (fun j oj hoj hj => by
      have hjl : j < L.length := by
        rcases Nat.lt_or_ge j L.length with h | h
        · exact h
        · rw [Array.getElem?_eq_none (by simpa using h)] at hoj; cases hoj
      simp [Array.getD_eq_getD_getElem?, swapLast_len, hjl] at hj)
    (by simp [Array.getD_eq_getD_getElem?, swapLast_len, hn]) hlex { w with drawn := w.drawn + 1 } (hall _ ⟨rfl, rfl, rfl, Nat.le_refl _, fun _ _ => rfl⟩)
  have hs : L.toArray.size = (swapLast L).length := by simp [swapLast_len]
  rw [hs]
  exact hfin

end Go.Proofs.YticdccdkjepifaaGreat

/-
  The model's lesser and greater of two numbers; no memory is written. No condition.
  What the model's l19Behind and l19Left answer. No condition beyond sizes of numbers.
  Which parts are due, in plain numbers. No program here.
  What the program's someMet answers: whether some bound is met. Nothing that was there is written.
  A list behind a list that a call has made: elements of several cells, as a law for the walk. At lists of at most 1000 together, the second not nil.
-/
import Derived.Test.YtfnnfldfnjnlfagMSmall
import Derived.Test.YtfnnfldfnjnlfagMLeftImpl
import Derived.Test.YtfnnfldfnjnlfagMToCk
import Derived.Test.YtfnnfldfnjnlfagChecked
import Derived.Test.YtfnnfldfnjnlfagMLowPure
import Derived.Laws.AppendOwn
import Derived.Laws.OwnMore

namespace Go.Proofs.Ytfnnfldfnjnlfag
open Go.RowKit

set_option maxHeartbeats 400000 in
theorem l1Max_eq (x y : Int) (w : World) :
    Calls Try.prog 101 #[.int .i64 x, .int .i64 y] w fun e w' => e = .returned (.int .i64 (max x y)) ∧ w' = w := by
  by_cases h : x < y
  all_goals
    by_cases h2 : y < x
    all_goals
      go_enter Try.func101, Try.ntmps101
      go_wp2
      go_ret
      exact ⟨ret_int (by omega), rfl⟩
set_option maxHeartbeats 400000 in
theorem l1Min_eq (x y : Int) (w : World) :
    Calls Try.prog 102 #[.int .i64 x, .int .i64 y] w fun e w' => e = .returned (.int .i64 (min x y)) ∧ w' = w := by
  by_cases h : x < y
  all_goals
    by_cases h2 : y < x
    all_goals
      go_enter Try.func102, Try.ntmps102
      go_wp2
      go_ret
      exact ⟨ret_int (by omega), rfl⟩

end Go.Proofs.Ytfnnfldfnjnlfag

namespace Go.Proofs.Ytfnnfldfnjnlfag
open Go.RowKit

set_option maxRecDepth 20000 in
theorem specBehind_is {b : Bool} (ah ac ad bh bc bd : Int) (w : World) (hc : bhB ah ac ad bh bc bd = b) :
    Calls Try.prog 96 #[.agg #[.int .i64 ah, .int .i64 ac, .int .i64 ad], .agg #[.int .i64 bh, .int .i64 bc, .int .i64 bd]] w fun e w' => e = .returned (.bool b) ∧ Below w.heap.size w w' := by
  subst hc
  rcases three (decide (ah ≤ bh)) (decide (ac ≤ bc)) (decide (ad ≤ bd)) with ⟨q1, hv⟩ | ⟨q1, q2, hv⟩ | ⟨q1, q2, q3, hv⟩ | ⟨q1, q2, q3, hv⟩
  all_goals
    have HE := hide (show bhB ah ac ad bh bc bd = _ from hv)
    rw [unhide HE]
    clear hv
    simp only [decide_eq_true_eq, decide_eq_false_iff_not] at *
    go_enter Try.func96, Try.ntmps96
    go_wp2_with fail
    go_ret
    exact ⟨rfl, (by repeat (first | exact Below.refl _ _ | refine Below.alloc ?_ (by simp; try omega) _ | refine taDr ?_ _))⟩

theorem specLeft_is {r : Int} (b p : Int) (w : World) (hb : 0 ≤ b ∧ b ≤ 100000) (hp : 0 ≤ p ∧ p ≤ 1000000) (hr : lfI b p = r) :
    Calls Try.prog 99 #[.int .i64 b, .int .i64 p] w fun e w' => e = .returned (.int .i64 r) ∧ w' = w := by
  by_cases q : b = 0
  · have hz : r = 0 := by rw [← hr, lfI, if_pos q]
    subst hz
    go_enter Try.func99, Try.ntmps99
    go_wp2_with fail
    go_ret
    exact ⟨rfl, rfl⟩
  · have hz : r = max 0 (b - p) := by rw [← hr, lfI, if_neg q]
    subst hz
    clear hr
    go_enter Try.func99, Try.ntmps99
    go_wp2_with (first | (go_at_call 101; refine (l1Max_eq _ _ _).mono ?_; rintro e w' ⟨rfl, hw⟩; subst w'))
    go_ret
    exact ⟨rfl, rfl⟩

end Go.Proofs.Ytfnnfldfnjnlfag

namespace Go.Proofs.Ytfnnfldfnjnlfag
open Go

/-- Whether the bound at a place is there and met. -/
def metAt (b0 b1 b2 s0 s1 s2 : Int) (k : Nat) : Bool := decide (of3 b0 b1 b2 k ≠ 0) && decide (of3 b0 b1 b2 k ≤ of3 s0 s1 s2 k)
/-- Whether some bound is met. -/
def metB (b0 b1 b2 s0 s1 s2 : Int) : Bool := metAt b0 b1 b2 s0 s1 s2 0 || metAt b0 b1 b2 s0 s1 s2 1 || metAt b0 b1 b2 s0 s1 s2 2
theorem metB_yes {b0 b1 b2 s0 s1 s2 : Int} {k : Nat} (hk : k < 3) (h : metAt b0 b1 b2 s0 s1 s2 k = true) : metB b0 b1 b2 s0 s1 s2 = true := by
  unfold metB
  rcases (show k = 0 ∨ k = 1 ∨ k = 2 from by omega) with rfl | rfl | rfl <;> simp [h]
theorem metB_no {b0 b1 b2 s0 s1 s2 : Int} (h : ∀ j, j < 3 → metAt b0 b1 b2 s0 s1 s2 j = false) : metB b0 b1 b2 s0 s1 s2 = false := by
  unfold metB
  rw [h 0 (by omega), h 1 (by omega), h 2 (by omega)]; rfl

end Go.Proofs.Ytfnnfldfnjnlfag

namespace Go.Proofs.Ytfnnfldfnjnlfag
open Go.RowKit
attribute [local go_sem high] run_ix0 run_ix1 run_ix2

set_option maxRecDepth 20000 in
set_option maxHeartbeats 4000000 in
theorem someMet_any (b0 b1 b2 s0 s1 s2 : Int) (w : World) :
    Calls Try.prog 56 #[.agg #[.int .i64 b0, .int .i64 b1, .int .i64 b2], .agg #[.int .i64 s0, .int .i64 s1, .int .i64 s2]] w fun x w' => x = .returned (.bool (metB b0 b1 b2 s0 s1 s2)) ∧ Below w.heap.size w w' := by
  have R0 := hide ((Blk.new (w := w) [.int .i64 b0, .int .i64 b1, .int .i64 b2] 86).alloc (Obj.cells #[.int .i64 s0, .int .i64 s1, .int .i64 s2] 86))
  have R1 : Hid (Blk ((w.alloc (Obj.cells #[.int .i64 b0, .int .i64 b1, .int .i64 b2] 86)).alloc (Obj.cells #[.int .i64 s0, .int .i64 s1, .int .i64 s2] 86)) (w.heap.size + 1) [.int .i64 s0, .int .i64 s1, .int .i64 s2]) := hide (by
    have := Blk.new (w := w.alloc (Obj.cells #[.int .i64 b0, .int .i64 b1, .int .i64 b2] 86)) [.int .i64 s0, .int .i64 s1, .int .i64 s2] 86
    simpa using this)
  have B0 := hide (bel2 (w := w) (Obj.cells #[.int .i64 b0, .int .i64 b1, .int .i64 b2] 86) (Obj.cells #[.int .i64 s0, .int .i64 s1, .int .i64 s2] 86))
  go_enter Try.func56, Try.ntmps56
  go_wp2_with fail
  go_loopw [8] (fun iv wr => ∃ (k : Nat), k ≤ 3 ∧ iv = .int .i64 k ∧ Hid (∀ j, j < k → metAt b0 b1 b2 s0 s1 s2 j = false) ∧ Blk wr w.heap.size [.int .i64 b0, .int .i64 b1, .int .i64 b2] ∧ Blk wr (w.heap.size + 1) [.int .i64 s0, .int .i64 s1, .int .i64 s2] ∧ Below w.heap.size w wr) (fun i _ => 3 - (intOf i).toNat)
  case atStart => exact ⟨0, by omega, rfl, hide (fun j hj => by omega), unhide R0, unhide R1, unhide B0⟩
  case round =>
    clear R0 R1 B0
    obtain ⟨k, hk, rfl, HN, hB, hS, hbel⟩ := hrel
    have c0 : wr.cell? ⟨w.heap.size, 0, none⟩ = some (.int .i64 b0) := hB.c 0 (by simp)
    have c1 : wr.cell? ⟨w.heap.size, 1, none⟩ = some (.int .i64 b1) := hB.c 1 (by simp)
    have c2 : wr.cell? ⟨w.heap.size, 2, none⟩ = some (.int .i64 b2) := hB.c 2 (by simp)
    have e0 : wr.cell? ⟨w.heap.size + 1, 0, none⟩ = some (.int .i64 s0) := hS.c 0 (by simp)
    have e1 : wr.cell? ⟨w.heap.size + 1, 1, none⟩ = some (.int .i64 s1) := hS.c 1 (by simp)
    have e2 : wr.cell? ⟨w.heap.size + 1, 2, none⟩ = some (.int .i64 s2) := hS.c 2 (by simp)
    have HB := hide hB
    have HS := hide hS
    have HL := hide hbel
    clear hB hS hbel
    rcases (show k = 0 ∨ k = 1 ∨ k = 2 ∨ k = 3 from by omega) with rfl | rfl | rfl | rfl
    · by_cases hz : b0 = 0
      · have HA : Hid (metAt b0 b1 b2 s0 s1 s2 0 = false) := hide (by simp [metAt, of3, hz])
        have HN1 : Hid (∀ j, j < 1 → metAt b0 b1 b2 s0 s1 s2 j = false) := hide (fun j hj => by
          rcases (show j < 0 ∨ j = 0 from by omega) with h | h
          · exact unhide HN j h
          · subst h; exact unhide HA)
        have hz' : (b0 != 0) = false := by simpa using hz
        clear hz
        go_wp2_with fail
        go_roundw
        case rel => exact ⟨1, by omega, by go_num, HN1, unhide HB, unhide HS, unhide HL⟩
        case measure => simp [intOf]
      · have hz' : (b0 != 0) = true := by simpa using hz
        by_cases hc : b0 ≤ s0
        · have HE := hide (metB_yes (b0 := b0) (b1 := b1) (b2 := b2) (s0 := s0) (s1 := s1) (s2 := s2) (k := 0) (by omega) (by simp [metAt, of3, hz, hc]))
          go_wp2_with fail
          go_ret
          exact ⟨ret_bool (unhide HE).symm, unhide HL⟩
        · have HA : Hid (metAt b0 b1 b2 s0 s1 s2 0 = false) := hide (by simp [metAt, of3]; omega)
          have HN1 : Hid (∀ j, j < 1 → metAt b0 b1 b2 s0 s1 s2 j = false) := hide (fun j hj => by
            rcases (show j < 0 ∨ j = 0 from by omega) with h | h
            · exact unhide HN j h
            · subst h; exact unhide HA)
          go_wp2_with fail
          go_roundw
          case rel => exact ⟨1, by omega, by go_num, HN1, unhide HB, unhide HS, unhide HL⟩
          case measure => simp [intOf]
    · by_cases hz : b1 = 0
      · have HA : Hid (metAt b0 b1 b2 s0 s1 s2 1 = false) := hide (by simp [metAt, of3, hz])
        have HN1 : Hid (∀ j, j < 2 → metAt b0 b1 b2 s0 s1 s2 j = false) := hide (fun j hj => by
          rcases (show j < 1 ∨ j = 1 from by omega) with h | h
          · exact unhide HN j h
          · subst h; exact unhide HA)
        have hz' : (b1 != 0) = false := by simpa using hz
        clear hz
        go_wp2_with fail
        go_roundw
        case rel => exact ⟨2, by omega, by go_num, HN1, unhide HB, unhide HS, unhide HL⟩
        case measure => simp [intOf]
      · have hz' : (b1 != 0) = true := by simpa using hz
        by_cases hc : b1 ≤ s1
        · have HE := hide (metB_yes (b0 := b0) (b1 := b1) (b2 := b2) (s0 := s0) (s1 := s1) (s2 := s2) (k := 1) (by omega) (by simp [metAt, of3, hz, hc]))
          go_wp2_with fail
          go_ret
          exact ⟨ret_bool (unhide HE).symm, unhide HL⟩
        · have HA : Hid (metAt b0 b1 b2 s0 s1 s2 1 = false) := hide (by simp [metAt, of3]; omega)
          have HN1 : Hid (∀ j, j < 2 → metAt b0 b1 b2 s0 s1 s2 j = false) := hide (fun j hj => by
            rcases (show j < 1 ∨ j = 1 from by omega) with h | h
            · exact unhide HN j h
            · subst h; exact unhide HA)
          go_wp2_with fail
          go_roundw
          case rel => exact ⟨2, by omega, by go_num, HN1, unhide HB, unhide HS, unhide HL⟩
          case measure => simp [intOf]
    · by_cases hz : b2 = 0
      · have HA : Hid (metAt b0 b1 b2 s0 s1 s2 2 = false) := hide (by simp [metAt, of3, hz])
        have HN1 : Hid (∀ j, j < 3 → metAt b0 b1 b2 s0 s1 s2 j = false) := hide (fun j hj => by
          rcases (show j < 2 ∨ j = 2 from by omega) with h | h
          · exact unhide HN j h
          · subst h; exact unhide HA)
        have hz' : (b2 != 0) = false := by simpa using hz
        clear hz
        go_wp2_with fail
        go_roundw
        case rel => exact ⟨3, by omega, by go_num, HN1, unhide HB, unhide HS, unhide HL⟩
        case measure => simp [intOf]
      · have hz' : (b2 != 0) = true := by simpa using hz
        by_cases hc : b2 ≤ s2
        · have HE := hide (metB_yes (b0 := b0) (b1 := b1) (b2 := b2) (s0 := s0) (s1 := s1) (s2 := s2) (k := 2) (by omega) (by simp [metAt, of3, hz, hc]))
          go_wp2_with fail
          go_ret
          exact ⟨ret_bool (unhide HE).symm, unhide HL⟩
        · have HA : Hid (metAt b0 b1 b2 s0 s1 s2 2 = false) := hide (by simp [metAt, of3]; omega)
          have HN1 : Hid (∀ j, j < 3 → metAt b0 b1 b2 s0 s1 s2 j = false) := hide (fun j hj => by
            rcases (show j < 2 ∨ j = 2 from by omega) with h | h
            · exact unhide HN j h
            · subst h; exact unhide HA)
          go_wp2_with fail
          go_roundw
          case rel => exact ⟨3, by omega, by go_num, HN1, unhide HB, unhide HS, unhide HL⟩
          case measure => simp [intOf]
    · have HE := hide (metB_no (unhide HN))
      go_wp2_with fail
      go_ret
      exact ⟨ret_bool (unhide HE).symm, unhide HL⟩

end Go.Proofs.Ytfnnfldfnjnlfag

namespace Go.Proofs.Ytfnnfldfnjnlfag
open Go.RowKit

theorem addr_addR (g o j : Nat) : (⟨g, o, none⟩ : Addr).add j = ⟨g, o + j, none⟩ := by unfold Addr.add; split <;> simp_all
section
variable {α : Type} [Inhabited α] {K : Nat} {cells : α → Nat → Value}

/-- The cells of a list. -/
def flatE (K : Nat) (cells : α → Nat → Value) (ps : List α) : List Value := (List.range (ps.length * K)).map fun p => cells (elAt ps (p / K)) (p % K)
theorem flatE_len (ps : List α) : (flatE K cells ps).length = ps.length * K := by simp [flatE]
theorem flatE_at {ps : List α} {p : Nat} (hp : p < ps.length * K) : (flatE K cells ps)[p]? = some (cells (elAt ps (p / K)) (p % K)) := by simp [flatE, hp]
theorem elAt_right (xs ys : List α) (j : Nat) : elAt (xs ++ ys) (xs.length + j) = elAt ys j := by
  unfold elAt; rw [List.getElem?_append_right (by omega)]; congr 2; omega
theorem elAt_left {xs ys : List α} {j : Nat} (h : j < xs.length) : elAt (xs ++ ys) j = elAt xs j := by
  unfold elAt; rw [List.getElem?_append_left h]
theorem ownE_apps {w : World} {base : Nat} {T : TypeId} {v : Value} {xs ys : List α} {vs : List Value} (hK : 0 < K) (h : w.ownsRow base T K v (xs.length + ys.length) (vs ++ flatE K cells ys)) (hl : vs.length = xs.length * K)
    (hx : ∀ j, j < xs.length → ∀ q, q < K → vs[j * K + q]? = some (cells (elAt xs j) q)) : OwnE K cells w base T v (xs ++ ys) := by
  refine ⟨⟨_, by rw [List.length_append]; exact h, fun j hj q hq => ?_⟩⟩
  rw [List.length_append] at hj
  by_cases e : j < xs.length
  · rw [elAt_left e, List.getElem?_append_left (by rw [hl]; exact in_row e hq)]
    exact hx j e q hq
  · obtain ⟨i, rfl⟩ : ∃ i, j = xs.length + i := ⟨j - xs.length, by omega⟩
    have hi : i < ys.length := by omega
    have e1 : (xs.length + i) * K + q = vs.length + (i * K + q) := by rw [hl, Nat.add_mul]; omega
    rw [e1, List.getElem?_append_right (by omega), elAt_right, show vs.length + (i * K + q) - vs.length = i * K + q by omega, flatE_at (in_row hi hq)]
    have e2 : (i * K + q) / K = i := by rw [Nat.add_comm, Nat.add_mul_div_right _ _ hK, Nat.div_eq_of_lt hq, Nat.zero_add]
    have e3 : (i * K + q) % K = q := by rw [Nat.add_comm, Nat.add_mul_mod_self_right, Nat.mod_eq_of_lt hq]
    rw [e2, e3]
theorem wpList_app_els {ops : Array Oper} {rest : List Oper} {o : Oper} {a : Act} {Q : Exit → Act → World → Prop} {w : World} (hwn : Region.wanted o (yielded ops a.tmps) = true) (s xo : Operand) (sT eT : TypeId) (ho : o.op = .call { callee := .builtin .append, args := #[s, xo], argTypes := #[sT, sT] })
    (hU : Try.prog.underlying sT = some (.slice eT)) {z : Value} {bytes : Nat} (hI : (Try.prog.info? eT).map (fun i => (i.zero, i.size, i.bytes)) = some (some z, K, bytes)) (hz : z.cells.size = K) (hK : 0 < K) (hby : bytes ≤ 1000) (h1c : ∀ x q, (cells x q).oneCell' = true)
    {base : Nat} {v : Value} {zs : List α} (hO : OwnE K cells w base eT v zs) (hs : a.eval s = v) (g off m c : Nat) (ys : List α) (hx : a.eval xo = .slice (some ⟨g, off, none⟩) m c) (hy : RowE K cells w (some ⟨g, off, none⟩) m ys) (hm : zs.length + m ≤ 1000) (hb : base ≤ w.heap.size)
    (h : ∀ v' w', OwnE K cells w' base eT v' (zs ++ ys) → w.grownBy w' v.ownBlock → (v' = .slice none 0 0 → v = .slice none 0 0) → wpList Try.prog ops Q rest (a.put o.dst v') w') : wpList Try.prog ops Q (o :: rest) a w := by
  refine wpList_step fun _ hK' => ?_
  rw [if_pos hwn]
  obtain ⟨i0, hii, hz0, hz1, hz2⟩ := info_parts hI
  obtain ⟨vs, hown, hvx⟩ := hO.own
  have hlen := hy.len_eq
  have hmul : (zs.length + m) * bytes ≤ 1000 * 1000 := Nat.mul_le_mul hm hby
  refine wp_append_own w s xo sT ho base eT i0 z K bytes hU hii hz0 hz1 hz2 hz hK v zs.length vs hs hown ⟨g, off, none⟩ m c (flatE K cells ys) hx (by rw [flatE_len, hlen]) (fun j u hj => ?_) (fun u hu => ?_) (by unfold maxLen; omega) (by omega) hb ?_
  · have hj' : j < ys.length * K := by
      rcases Nat.lt_or_ge j (ys.length * K) with h | h
      · exact h
      · rw [List.getElem?_eq_none (by rw [flatE_len]; exact h)] at hj; cases hj
    rw [flatE_at hj'] at hj
    have hd : j / K < m := by rw [← hlen]; exact Nat.div_lt_of_lt_mul (by rw [Nat.mul_comm]; exact hj')
    obtain ⟨b', off', e, hc⟩ := hy.at_ (j / K) hd
    simp only [Option.some.injEq, Addr.mk.injEq, and_true] at e
    obtain ⟨rfl, rfl⟩ := e
    have e : off + j = off + j / K * K + j % K := by rw [Nat.add_assoc, Nat.div_add_mod']
    rw [addr_addR, e, ← hj]; exact hc (j % K) (Nat.mod_lt _ hK)
  · obtain ⟨p, _, rfl⟩ := List.mem_map.1 hu; exact h1c _ _
  · intro v' w' h1 h2 h3
    exact hK' _ _ (h v' w' (ownE_apps hK (by rw [hlen]; exact h1) hown.1 hvx) h2 (fun e => (h3.1 e).1))
theorem ownE_one {w : World} {base : Nat} {T : TypeId} {x : α} (us : List Value) (hul : us.length = K) (hux : ∀ q, q < K → us[q]? = some (cells x q)) (h : base ≤ w.heap.size) : OwnE K cells (w.alloc (Obj.cells us.toArray T)) base T (.slice (some ⟨w.heap.size, 0, none⟩) 1 1) [x] := by
  refine ⟨⟨us, ?_, fun j hj q hq => ?_⟩⟩
  · have := World.ownsRow_lit (base := base) (e := T) (size := K) w us.toArray 1 h (by unfold maxLen; omega) (by simp [hul])
    simpa using this
  · obtain rfl : j = 0 := by simp at hj; omega
    rw [Nat.zero_mul, Nat.zero_add]; exact hux q hq

end

end Go.Proofs.Ytfnnfldfnjnlfag

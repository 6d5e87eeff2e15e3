/-
  Which of a part's bounds is used most, and what is left of it, in plain numbers. No program here.
  What the program's ClockOk and TaskOk answer: plain answers, at every argument; nothing that was there is written.
  What the program's carryOf and manyOf answer: plain answers; nothing that was there is written.
  A region that draws its order, by an invariant: what is true at the start, is kept by each operation that may come next, and is enough when all are done. One goal an operation, whatever the number of orders. No program here.
-/
import Derived.Test.YtfnnfldfnjnlfahMCur
import Derived.Test.YtfnnfldfnjnlfahMCkPure
import Derived.Test.YtfnnfldfnjnlfahMTxDe
import Derived.Test.YtfnnfldfnjnlfahTaAlert
import Derived.Test.YtfnnfldfnjnlfahMBlk
import Derived.Test.YtfnnfldfnjnlfahMWhole
import Derived.Orders
import Derived.RegionTactic

namespace Go.Proofs.Ytfnnfldfnjnlfah
open Go

/-- The number at place 0, 1 or 2. -/
def of3 (a b c : Int) : Nat → Int
  | 0 => a
  | 1 => b
  | _ => c
/-- Whether the bound at a place comes before the one that was found. -/
def moreB (b0 b1 b2 s0 s1 s2 : Int) (m : Int) (k : Nat) : Bool :=
  decide (of3 b0 b1 b2 k ≠ 0) && (decide (m = -1) || decide (of3 s0 s1 s2 m.toNat * of3 b0 b1 b2 k < of3 s0 s1 s2 k * of3 b0 b1 b2 m.toNat))
/-- The bound that is used most, of the first places; -1 where there is none. -/
def mostTo (b0 b1 b2 s0 s1 s2 : Int) : Nat → Int
  | 0 => -1
  | k + 1 => if moreB b0 b1 b2 s0 s1 s2 (mostTo b0 b1 b2 s0 s1 s2 k) k = true then (k : Int) else mostTo b0 b1 b2 s0 s1 s2 k
theorem mostTo_in (b0 b1 b2 s0 s1 s2 : Int) (k : Nat) : mostTo b0 b1 b2 s0 s1 s2 k = -1 ∨ (0 ≤ mostTo b0 b1 b2 s0 s1 s2 k ∧ mostTo b0 b1 b2 s0 s1 s2 k < k) := by
  induction k with
  | zero => exact .inl rfl
  | succ k ih => simp only [mostTo]; split <;> omega
theorem mostTo_yes {b0 b1 b2 s0 s1 s2 : Int} {k : Nat} (h : moreB b0 b1 b2 s0 s1 s2 (mostTo b0 b1 b2 s0 s1 s2 k) k = true) : mostTo b0 b1 b2 s0 s1 s2 (k + 1) = (k : Int) := by
  simp [mostTo, h]
theorem mostTo_no {b0 b1 b2 s0 s1 s2 : Int} {k : Nat} (h : moreB b0 b1 b2 s0 s1 s2 (mostTo b0 b1 b2 s0 s1 s2 k) k = false) : mostTo b0 b1 b2 s0 s1 s2 (k + 1) = mostTo b0 b1 b2 s0 s1 s2 k := by
  simp [mostTo, h]
/-- Whether three numbers are in 0 .. M. -/
def in3 (a b c M : Int) : Bool := inB a 0 M && inB b 0 M && inB c 0 M
theorem in3_facts {a b c M : Int} (h : in3 a b c M = true) : (0 ≤ a ∧ a ≤ M) ∧ (0 ≤ b ∧ b ≤ M) ∧ (0 ≤ c ∧ c ≤ M) := by
  simp [in3, inB] at h; omega
theorem in3_all (a b c M : Int) : allB [a, b, c] 0 M = in3 a b c M := by
  unfold allB in3
  by_cases h0 : inB a 0 M = true <;> by_cases h1 : inB b 0 M = true <;> by_cases h2 : inB c 0 M = true
  all_goals
    first
    | (have : ∀ i, i < [a, b, c].length → inB (nth [a, b, c] i) 0 M = true := by
         intro i hi
         rcases (show i = 0 ∨ i = 1 ∨ i = 2 from by simp at hi; omega) with rfl | rfl | rfl
         · exact h0
         · exact h1
         · exact h2
       rw [decide_eq_true this, h0, h1, h2]; rfl)
    | (have hn : ¬ ∀ i, i < [a, b, c].length → inB (nth [a, b, c] i) 0 M = true := fun k => by
         have k0 := k 0 (by simp)
         have k1 := k 1 (by simp)
         have k2 := k 2 (by simp)
         simp [nth] at k0 k1 k2
         first | exact h0 k0 | exact h1 k1 | exact h2 k2
       rw [decide_eq_false hn]
       simp [h0, h1, h2])
/-- Whether a life, a stay is so; whether Left6 tells something. -/
def lifeB (n : ByteArray) (a b c : Int) : Bool := nameB n && in3 a b c 1000000
def stayB (n : ByteArray) (a b c : Int) : Bool := nameB n && in3 a b c 10000000
def leftOk (n : ByteArray) (b0 b1 b2 : Int) (m : ByteArray) (s0 s1 s2 : Int) : Bool := nameB n && (m.toList == n.toList) && in3 b0 b1 b2 1000000 && in3 s0 s1 s2 10000000
def leftM (b0 b1 b2 s0 s1 s2 : Int) : Int := mostTo b0 b1 b2 s0 s1 s2 3
/-- What Left6 tells: the bound, what is left, and whether. -/
def leftR (n : ByteArray) (b0 b1 b2 : Int) (m : ByteArray) (s0 s1 s2 : Int) : Int × Int × Bool :=
  if leftOk n b0 b1 b2 m s0 s1 s2 = true ∧ leftM b0 b1 b2 s0 s1 s2 ≠ -1 then (leftM b0 b1 b2 s0 s1 s2, of3 b0 b1 b2 (leftM b0 b1 b2 s0 s1 s2).toNat - of3 s0 s1 s2 (leftM b0 b1 b2 s0 s1 s2).toNat, true) else (-1, 0, false)
theorem leftR_no {n m : ByteArray} {b0 b1 b2 s0 s1 s2 : Int} (h : leftOk n b0 b1 b2 m s0 s1 s2 = false) : leftR n b0 b1 b2 m s0 s1 s2 = (-1, 0, false) := by
  simp [leftR, h]
theorem leftR_none {n m : ByteArray} {b0 b1 b2 s0 s1 s2 : Int} (h : leftM b0 b1 b2 s0 s1 s2 = -1) : leftR n b0 b1 b2 m s0 s1 s2 = (-1, 0, false) := by
  simp [leftR, h]
theorem leftR_yes {n m : ByteArray} {b0 b1 b2 s0 s1 s2 : Int} (h : leftOk n b0 b1 b2 m s0 s1 s2 = true) (h2 : leftM b0 b1 b2 s0 s1 s2 ≠ -1) :
    leftR n b0 b1 b2 m s0 s1 s2 = (leftM b0 b1 b2 s0 s1 s2, of3 b0 b1 b2 (leftM b0 b1 b2 s0 s1 s2).toNat - of3 s0 s1 s2 (leftM b0 b1 b2 s0 s1 s2).toNat, true) := by
  simp [leftR, h, h2]
theorem ret_left {a b a' b' : Int} {c d : Bool} (h : (a, a', c) = (b, b', d)) : Ending.returned (.tuple #[.int .i64 a, .int .i64 a', .bool c]) = .returned (.tuple #[.int .i64 b, .int .i64 b', .bool d]) := by
  cases h; rfl

end Go.Proofs.Ytfnnfldfnjnlfah

namespace Go.Proofs.Ytfnnfldfnjnlfah
open Go.RowKit

theorem ckB_in3 (h c d : Int) : in3 h c d 1000000 = ckB h c d := rfl
theorem tsB_in3 (t : Ts) : tsB t = (nameB t.nm && in3 t.h t.c t.d 100000 && decide (0 < t.h + t.c + t.d) && ckB t.dh t.dc t.dd) := by
  unfold tsB in3
  cases nameB t.nm <;> cases inB t.h 0 100000 <;> cases inB t.c 0 100000 <;> simp
set_option maxHeartbeats 400000 in
/-- Three numbers in a block of their own, whatever they are. -/
theorem allW3 (g cap : Nat) (x y z a b : Int) (w : World) (hg : Blk w g [.int .i64 x, .int .i64 y, .int .i64 z]) :
    Calls Try.prog 43 #[.slice (some ⟨g, 0, none⟩) 3 cap, .int .i64 a, .int .i64 b] w fun e w' => e = .returned (.bool (allB [x, y, z] a b)) ∧ Below w.heap.size w w' := by
  have hc : ∀ i, i < 3 → w.cell? ⟨g, i, none⟩ = some (.int .i64 (nth [x, y, z] i)) := fun i hi => by
    rcases (show i = 0 ∨ i = 1 ∨ i = 2 from by omega) with rfl | rfl | rfl
    · exact hg.c 0 (by simp)
    · exact hg.c 1 (by simp)
    · exact hg.c 2 (by simp)
  obtain ⟨zs, hzs⟩ : ∃ zs, zs = [x, y, z] := ⟨_, rfl⟩
  have HL : Hid (zs.length = 3) := hide (by rw [hzs]; rfl)
  rw [← hzs] at hc ⊢
  clear hzs hg
  go_enter Try.func43, Try.ntmps43
  go_wp2
  go_loopw [11] (fun i wr => ∃ k n : Nat, k ≤ 3 ∧ i = .int .i64 k ∧ Hid (∀ j, j < k → inB (nth zs j) a b = true) ∧ wr = w.drewN n) (fun i _ => 3 - (intOf i).toNat)
  case atStart => exact ⟨0, 0, Nat.zero_le _, rfl, (fun j hj => by omega), rfl⟩
  case round =>
    obtain ⟨k, n, hk, rfl, hall, rfl⟩ := hrel
    by_cases hlt : k < 3
    · have hcell := hc k hlt
      clear hc
      cases hin : inB (nth zs k) a b
      · have Hin : Hid (inB (nth zs k) a b = false) := hin
        go_wp2_with (go_at_call 59; refine (within_any _ _ _ _).mono ?_; rintro e w' ⟨rfl, rfl⟩)
        go_ret
        exact ⟨ret_bool (allB_false (by rw [unhide HL]; exact hlt) Hin.out).symm, bel0d _⟩
      · have Hin : Hid (inB (nth zs k) a b = true) := hin
        go_wp2_with (go_at_call 59; refine (within_any _ _ _ _).mono ?_; rintro e w' ⟨rfl, rfl⟩)
        go_roundw
        case rel => exact ⟨k + 1, n, by omega, by go_num, (fun j hj => by rcases Nat.lt_succ_iff_lt_or_eq.1 hj with h | h; exact hall.out j h; subst h; exact Hin.out), rfl⟩
        case measure => simp [intOf]; omega
    · go_wp2
      go_ret
      exact ⟨ret_bool (allB_true fun j hj => hall.out j (by have := unhide HL; omega)).symm, bel0d _⟩
set_option maxHeartbeats 1000000 in
theorem asCounts_any (h c d : Int) (w : World) :
    Calls Try.prog 104 #[.agg #[.int .i64 h, .int .i64 c, .int .i64 d]] w fun e w' => e = .returned (.agg #[.int .i64 h, .int .i64 c, .int .i64 d]) ∧ Below w.heap.size w w' := by
  go_enter Try.func104, Try.ntmps104
  go_wp2
  refine bodyPost_ret (v := .agg #[.int .i64 h, .int .i64 c, .int .i64 d]) (by simp [results, Try.results104, go_sem]) rfl ⟨rfl, ?_⟩
  repeat (first | exact bel2 _ _ | exact bel3 _ _ _ | refine Below.setCell ?_ (by simp; try omega) _)
set_option maxHeartbeats 1000000 in
theorem tBounds_any (nm : ByteArray) (h c d dh dc dd : Int) (w : World) :
    Calls Try.prog 126 #[.agg #[.string nm, .int .i64 h, .int .i64 c, .int .i64 d, .int .i64 dh, .int .i64 dc, .int .i64 dd]] w fun e w' => e = .returned (.agg #[.int .i64 h, .int .i64 c, .int .i64 d]) ∧ Below w.heap.size w w' := by
  go_enter Try.func126, Try.ntmps126
  go_wp2
  refine bodyPost_ret (v := .agg #[.int .i64 h, .int .i64 c, .int .i64 d]) (by simp [results, Try.results126, go_sem]) rfl ⟨rfl, ?_⟩
  repeat (first | exact bel2 _ _ | exact bel3 _ _ _ | refine Below.setCell ?_ (by simp; try omega) _)
set_option maxRecDepth 20000 in
set_option maxHeartbeats 2000000 in
theorem implClockOk_is {b : Bool} (h c d : Int) (w : World) (hc : ckB h c d = b) :
    Calls Try.prog 81 #[.agg #[.int .i64 h, .int .i64 c, .int .i64 d]] w fun e w' => e = .returned (.bool b) ∧ Below w.heap.size w w' := by
  have HE : Hid (allB [h, c, d] 0 1000000 = b) := hide (by rw [in3_all, ckB_in3]; exact hc)
  clear hc
  go_enter Try.func81, Try.ntmps81
  go_wp2_with fail
  refine (asCounts_any h c d _).mono ?_
  rintro x w1 ⟨rfl, b1⟩
  have B1 := hide ((bel1 _).trans (b1.mono (by simp)))
  clear b1
  obtain ⟨W, hW⟩ : ∃ W, W = w1.alloc (Obj.cells #[.int .i64 h, .int .i64 c, .int .i64 d] 149) := ⟨_, rfl⟩
  have R3 : Hid (Blk W w1.heap.size [.int .i64 h, .int .i64 c, .int .i64 d]) := hide (by rw [hW]; exact Blk.new _ _)
  have B3 : Hid (Below w.heap.size w W) := hide (by rw [hW]; exact (unhide B1).alloc (unhide B1).size _)
  have HW := hide hW
  clear hW
  go_wp2_with fail
  rw [← unhide HW]
  refine (allW3 _ _ _ _ _ _ _ W (unhide R3)).mono ?_
  rintro x w4 ⟨rfl, b4⟩
  have B4 := hide ((unhide B3).trans (b4.mono (unhide B3).size))
  clear b4
  rw [unhide HE]
  go_wp2_with fail
  go_ret
  exact ⟨rfl, unhide B4⟩

end Go.Proofs.Ytfnnfldfnjnlfah

namespace Go.Proofs.Ytfnnfldfnjnlfah
open Go Go.RowKit

/-- The carry of a name; the plain one where there is none. -/
def crAt (cs : List Cr) (nm : ByteArray) : Cr := if ixE (qCr nm) cs < 0 then default else elAt cs (ixE (qCr nm) cs).toNat
theorem txl_no {x y : ByteArray} (h : ¬ x = y) : (x.toList == y.toList) = false := by
  rw [beq_eq_false_iff_ne]
  intro e
  rw [ByteArray.toList_eq, ByteArray.toList_eq] at e
  exact h (by cases x; cases y; simp only [ByteArray.mk.injEq]; exact Array.toList_inj.1 e)
theorem crAt_yes {cs : List Cr} {nm : ByteArray} {k : Nat} (hk : k < cs.length) (h : (elAt cs k).n = nm) (hj : ∀ j, j < k → qCr nm (elAt cs j) = false) : ixE (qCr nm) cs = (k : Int) ∧ crAt cs nm = elAt cs k := by
  have e := ixE_at (P := qCr nm) hk (decide_eq_true h) hj
  refine ⟨e, ?_⟩
  rw [crAt, e, if_neg (by omega)]
  simp
theorem crAt_no {cs : List Cr} {nm : ByteArray} (hj : ∀ j, j < cs.length → qCr nm (elAt cs j) = false) : ixE (qCr nm) cs = -1 ∧ crAt cs nm = default := by
  have e := ixE_none (P := qCr nm) hj
  exact ⟨e, by rw [crAt, e, if_pos (by omega)]⟩
theorem ret_cr {x y : Cr} {b c : Bool} (h : x = y) (k : b = c) : Ending.returned (.tuple #[.agg #[.string x.n, .int .i64 x.m, .int .i64 x.d], .bool b]) = .returned (.tuple #[.agg #[.string y.n, .int .i64 y.m, .int .i64 y.d], .bool c]) := by rw [h, k]
set_option maxRecDepth 20000 in
set_option maxHeartbeats 2000000 in
theorem carryOf_any (nh nc nd : Int) (a1 a2 a3 : Option Addr) (l1 c1 l2 c2 l3 c3 : Nat) (cs : List Cr) (nm : ByteArray) (w : World) (hr : RowE 3 crC w a2 l2 cs) :
    Calls Try.prog 129 #[.agg #[.slice a1 l1 c1, .slice a2 l2 c2, .slice a3 l3 c3, .int .i64 nh, .int .i64 nc, .int .i64 nd], .string nm] w fun e w' => e = .returned (.tuple #[.agg #[.string (crAt cs nm).n, .int .i64 (crAt cs nm).m, .int .i64 (crAt cs nm).d], .bool (!decide (ixE (qCr nm) cs < 0))]) ∧ Below w.heap.size w w' := by
  have hz := hr.len_eq
  have hsm := hr.small
  have HR := hide hr
  clear hr
  subst hz
  obtain ⟨W, hW⟩ : ∃ W, W = (w.alloc (Obj.cells #[.slice a1 l1 c1, .slice a2 cs.length c2, .slice a3 l3 c3, .int .i64 nh, .int .i64 nc, .int .i64 nd] 35)).alloc (Obj.cells #[.string ⟨#[]⟩, .int .i64 0, .int .i64 0] 123) := ⟨_, rfl⟩
  have K0 : Hid (Blk W w.heap.size [.slice a1 l1 c1, .slice a2 cs.length c2, .slice a3 l3 c3, .int .i64 nh, .int .i64 nc, .int .i64 nd]) := hide (by rw [hW]; exact blkAt2_0)
  have K1 : Hid (Blk W (w.heap.size + 1) [.string ⟨#[]⟩, .int .i64 0, .int .i64 0]) := hide (by rw [hW]; exact blkAt2_1)
  have B0 : Hid (Below w.heap.size w W) := hide (by rw [hW]; exact bel2 _ _)
  have g1 : W.cell? ⟨w.heap.size, 1, none⟩ = some (.slice a2 cs.length c2) := (unhide K0).c 1 (by simp)
  rw [hW] at g1
  have HW := hide hW
  clear hW
  go_enter Try.func129, Try.ntmps129
  go_wp2_with fail
  rw [← unhide HW]
  clear HW g1
  go_loopw [11] (fun i wr => ∃ k : Nat, i = .int .i64 k ∧ k ≤ cs.length ∧ Hid (Blk wr (w.heap.size + 1) [.string ⟨#[]⟩, .int .i64 0, .int .i64 0]) ∧ Hid (Below w.heap.size w wr) ∧ Hid (∀ j, j < k → qCr nm (elAt cs j) = false)) (fun i _ => cs.length - (intOf i).toNat)
  case atStart => exact ⟨0, rfl, Nat.zero_le _, K1, B0, hide (fun j hj => by omega)⟩
  case round =>
    clear K0 K1 B0
    obtain ⟨k, rfl, hk, KR, BW, AL⟩ := hrel
    by_cases hlt : k < cs.length
    · obtain ⟨bb, off, rfl, hc⟩ := (unhide HR).at_ k hlt
      have s0 : w.cell? ⟨bb, off + k * 3, none⟩ = some (.string (elAt cs k).n) := hc 0 (by omega)
      have s0 := ((unhide BW).cell (block_lt_of_cell s0)).trans s0
      have s1 : w.cell? ⟨bb, off + k * 3 + 1, none⟩ = some (.int .i64 (elAt cs k).m) := hc 1 (by omega)
      have s1 := ((unhide BW).cell (block_lt_of_cell s1)).trans s1
      have s2 : w.cell? ⟨bb, off + k * 3 + 2, none⟩ = some (.int .i64 (elAt cs k).d) := hc 2 (by omega)
      have s2 := ((unhide BW).cell (block_lt_of_cell s2)).trans s2
      have hi1 : (k : Int) < (cs.length : Int) := by omega
      have hi0 : (0 : Int) ≤ (k : Int) := by omega
      obtain ⟨x, hx⟩ : ∃ x, elAt cs k = x := ⟨_, rfl⟩
      rw [hx] at s0 s1 s2
      have HX := hide hx
      have r0 : wr.cell? ⟨w.heap.size + 1, 0, none⟩ = some (.string ⟨#[]⟩) := (unhide KR).c 0 (by simp)
      have r1 : wr.cell? ⟨w.heap.size + 1, 1, none⟩ = some (.int .i64 0) := (unhide KR).c 1 (by simp)
      have r2 : wr.cell? ⟨w.heap.size + 1, 2, none⟩ = some (.int .i64 0) := (unhide KR).c 2 (by simp)
      have t0 : wr.frozen? ⟨w.heap.size + 1, 0, none⟩ = false := (unhide KR).f 0 (by simp)
      have t1 : wr.frozen? ⟨w.heap.size + 1, 1, none⟩ = false := (unhide KR).f 1 (by simp)
      have t2 : wr.frozen? ⟨w.heap.size + 1, 2, none⟩ = false := (unhide KR).f 2 (by simp)
      have hlt2 := (unhide KR).lt
      have BA := hide ((unhide BW).alloc (unhide BW).size (Obj.cells #[.string x.n, .int .i64 x.m, .int .i64 x.d] 123))
      have KA := hide ((unhide KR).alloc (Obj.cells #[.string x.n, .int .i64 x.m, .int .i64 x.d] 123))
      clear hc hx
      by_cases e : x.n = nm
      · have HE := hide (crAt_yes hlt (by rw [unhide HX]; exact e) (unhide AL))
        have d : (x.n.toList == nm.toList) = true := by rw [e]; simp
        clear e AL KR
        go_wp2_with ((with_reducible show wpList _ _ _ (⟨none, .store 123 (.tmp 4) _, _, _, _, none⟩ :: _) _ _); refine at_storeAgg (us := [.string ⟨#[]⟩, .int .i64 0, .int .i64 0]) (vs := [.string x.n, .int .i64 x.m, .int .i64 x.d]) Try.sizeOf123 rfl rfl (unhide KA) rfl (by intro v hv; simp at hv; rcases hv with rfl | rfl | rfl <;> rfl) ?_; intro w5 kk gg)
        have BE : Below w.heap.size w w5 := (unhide BA).grown gg (unhide BA).size (fun q hq => by cases hq; omega)
        exact bodyPost_ret (results_cellB (vs := [.string x.n, .int .i64 x.m, .int .i64 x.d]) rfl Try.isAgg123 Try.sizeOf123 rfl kk rfl) rfl ⟨ret_cr (by rw [(unhide HE).2, unhide HX]) (by rw [(unhide HE).1]; simp <;> omega), BE⟩
      · have d := txl_no e
        have NX : Hid (∀ j, j < k + 1 → qCr nm (elAt cs j) = false) := hide (fun j hj => by
          by_cases e3 : j = k
          · rw [e3, unhide HX]; exact decide_eq_false e
          · exact (unhide AL) j (by omega))
        clear e AL KR r0 r1 r2 t0 t1 t2
        go_wp2_with fail
        go_roundw
        case rel => exact ⟨k + 1, by go_num, by omega, KA, BA, NX⟩
        case measure => simp [intOf]; omega
    · have hi1 : ¬ (k : Int) < (cs.length : Int) := by omega
      have HE := hide (crAt_no (nm := nm) (fun j hj => (unhide AL) j (by omega)))
      have hlt2 := (unhide KR).lt
      clear AL
      go_wp2_with ((with_reducible show wpList _ _ _ (⟨none, .store 123 (.tmp 4) _, _, _, _, none⟩ :: _) _ _); refine at_storeAgg (us := [.string ⟨#[]⟩, .int .i64 0, .int .i64 0]) (vs := [.string ⟨#[]⟩, .int .i64 0, .int .i64 0]) Try.sizeOf123 rfl rfl (unhide KR) rfl (by intro v hv; simp at hv; rcases hv with rfl | rfl <;> rfl) ?_; intro w5 kk gg)
      have BE : Below w.heap.size w w5 := (unhide BW).grown gg (unhide BW).size (fun q hq => by cases hq; omega)
      exact bodyPost_ret (results_cellB (vs := [.string ⟨#[]⟩, .int .i64 0, .int .i64 0]) rfl Try.isAgg123 Try.sizeOf123 rfl kk rfl) rfl ⟨ret_cr (x := default) (by rw [(unhide HE).2]) (by rw [(unhide HE).1]; simp), BE⟩
set_option maxRecDepth 20000 in
set_option maxHeartbeats 2000000 in
theorem manyOf_any (nh nc nd : Int) (a1 a2 a3 : Option Addr) (l1 c1 l2 c2 l3 c3 : Nat) (ds : List Df) (nm : ByteArray) (w : World) (hr : RowE 3 dfC w a3 l3 ds) (hl : l3 ≤ 100) :
    Calls Try.prog 130 #[.agg #[.slice a1 l1 c1, .slice a2 l2 c2, .slice a3 l3 c3, .int .i64 nh, .int .i64 nc, .int .i64 nd], .string nm] w fun e w' => e = .returned (.int .i64 (mnF ds nm)) ∧ Below w.heap.size w w' := by
  have hz := hr.len_eq
  have HR := hide hr
  clear hr
  subst hz
  obtain ⟨W, hW⟩ : ∃ W, W = w.alloc (Obj.cells #[.slice a1 l1 c1, .slice a2 l2 c2, .slice a3 ds.length c3, .int .i64 nh, .int .i64 nc, .int .i64 nd] 35) := ⟨_, rfl⟩
  have K0 : Hid (Blk W w.heap.size [.slice a1 l1 c1, .slice a2 l2 c2, .slice a3 ds.length c3, .int .i64 nh, .int .i64 nc, .int .i64 nd]) := hide (by rw [hW]; exact Blk.new _ _)
  have B0 : Hid (Below w.heap.size w W) := hide (by rw [hW]; exact bel1 _)
  have HW := hide hW
  clear hW
  go_enter Try.func130, Try.ntmps130
  go_wp2_with fail
  rw [← unhide HW]
  clear HW
  go_loopw [5, 11] (fun m i wr => ∃ k : Nat, m = .int .i64 (mnK ds nm k) ∧ i = .int .i64 k ∧ k ≤ ds.length ∧ Hid (Below w.heap.size w wr)) (fun _ i _ => ds.length - (intOf i).toNat)
  case atStart => exact ⟨0, rfl, rfl, Nat.zero_le _, B0⟩
  case round =>
    clear K0 B0
    obtain ⟨k, rfl, rfl, hk, BW⟩ := hrel
    by_cases hlt : k < ds.length
    · obtain ⟨bb, off, rfl, hc⟩ := (unhide HR).at_ k hlt
      have s0 : w.cell? ⟨bb, off + k * 3, none⟩ = some (.string (elAt ds k).n) := hc 0 (by omega)
      have s0 := ((unhide BW).cell (block_lt_of_cell s0)).trans s0
      have s1 : w.cell? ⟨bb, off + k * 3 + 1, none⟩ = some (.int .i64 (elAt ds k).i) := hc 1 (by omega)
      have s1 := ((unhide BW).cell (block_lt_of_cell s1)).trans s1
      have s2 : w.cell? ⟨bb, off + k * 3 + 2, none⟩ = some (.int .i64 (elAt ds k).s) := hc 2 (by omega)
      have s2 := ((unhide BW).cell (block_lt_of_cell s2)).trans s2
      have hi1 : (k : Int) < (ds.length : Int) := by omega
      have hi0 : (0 : Int) ≤ (k : Int) := by omega
      have hm := mnK_bd ds nm k
      have HS : Hid (mnK ds nm (k + 1) = mnK ds nm k + if (elAt ds k).n = nm then 1 else 0) := hide rfl
      obtain ⟨M, hM⟩ : ∃ m, mnK ds nm k = m := ⟨_, rfl⟩
      rw [hM] at HS hm ⊢
      obtain ⟨x, hx⟩ : ∃ x, elAt ds k = x := ⟨_, rfl⟩
      rw [hx] at s0 s1 s2 HS
      have BA := hide ((unhide BW).alloc (unhide BW).size (Obj.cells #[.string x.n, .int .i64 x.i, .int .i64 x.s] 40))
      clear hc hx hM
      by_cases e : x.n = nm
      · have d : (x.n.toList == nm.toList) = true := by rw [e]; simp
        have HS2 : Hid (mnK ds nm (k + 1) = M + 1) := hide (by rw [unhide HS, if_pos e])
        clear e HS
        go_wp2_with fail
        go_roundw
        case rel => exact ⟨k + 1, by rw [unhide HS2], by go_num, by omega, BA⟩
        case measure => simp [intOf]; omega
      · have d := txl_no e
        have HS2 : Hid (mnK ds nm (k + 1) = M) := hide (by rw [unhide HS, if_neg e]; omega)
        clear e HS
        go_wp2_with fail
        go_roundw
        case rel => exact ⟨k + 1, by rw [unhide HS2], by go_num, by omega, BA⟩
        case measure => simp [intOf]; omega
    · have hi1 : ¬ (k : Int) < (ds.length : Int) := by omega
      have HK : Hid (mnK ds nm k = mnF ds nm) := hide (by rw [mnF, show k = ds.length by omega])
      rw [unhide HK]
      go_wp2_with fail
      go_ret
      exact ⟨rfl, unhide BW⟩

end Go.Proofs.Ytfnnfldfnjnlfah

namespace Go.Proofs.Ytfnnfldfnjnlfah
open Go

theorem countP_less {p q : Nat → Bool} : ∀ {l : List Nat}, (∀ x, q x = true → p x = true) → (∃ x, x ∈ l ∧ p x = true ∧ q x = false) → l.countP q < l.countP p
  | [], _, ⟨_, h, _⟩ => by cases h
  | y :: l, hpq, ⟨x, hx, h1, h2⟩ => by
    rw [List.countP_cons, List.countP_cons]
    have hle : l.countP q ≤ l.countP p := List.countP_mono_left (fun z _ => hpq z)
    rcases List.mem_cons.1 hx with rfl | hx
    · rw [h1, h2]; simp; omega
    · have ih := countP_less (l := l) hpq ⟨x, hx, h1, h2⟩
      cases hq : q y with
      | false => cases p y <;> simp <;> omega
      | true => rw [hpq y hq]; simp; omega
/-- How many operations are still to be done. -/
def unl (ops : Array Oper) (listed : Array Bool) : Nat := (List.range ops.size).countP fun i => !listed.getD i true
section
variable {P : Program} {ops : Array Oper} {Q : Exit → Act → World → Prop} {md : Region.Mode}
theorem unl_step {listed : Array Bool} {i : Nat} (hi : i < ops.size) (hl : listed.getD i true = false) : unl ops (listed.setIfInBounds i true) < unl ops listed := by
  have hs : i < listed.size := by
    rcases Nat.lt_or_ge i listed.size with h | h
    · exact h
    · simp [Array.getD, Nat.not_lt.2 h] at hl
  refine countP_less (fun x hx => ?_) ⟨i, List.mem_range.2 hi, by rw [hl]; rfl, ?_⟩
  · by_cases e : i = x
    · subst e; rw [hl]; rfl
    · simpa [Array.getD_eq_getD_getElem?, Array.getElem?_setIfInBounds_ne e] using hx
  · simp [Array.getD_eq_getD_getElem?, Array.getElem?_setIfInBounds_self_of_lt hs]
theorem wpAny_inv (I : Array Bool → Act → World → Prop) (hdone : ∀ listed a w, I listed a w → Region.ready md ops listed = [] → Q .normal a w)
    (hstep : ∀ listed a w i, I listed a w → i ∈ Region.ready md ops listed → wpOp P ops Q i (I (listed.setIfInBounds i true)) a w) :
    ∀ (fuel : Nat) (listed : Array Bool) (a : Act) (w : World), unl ops listed ≤ fuel → I listed a w → wpAny P md ops Q fuel listed a w
  | 0, listed, a, w, hu, h => by
    have hr : Region.ready md ops listed = [] := by
      cases hr : Region.ready md ops listed with
      | nil => rfl
      | cons i l =>
        have hm : i ∈ Region.ready md ops listed := by rw [hr]; exact List.mem_cons_self ..
        obtain ⟨h1, o, ho, _⟩ := mem_ready.1 hm
        have := unl_step (ops := ops) (Array.getElem?_eq_some_iff.1 ho).1 h1
        omega
    exact ⟨hr, hdone _ _ _ h hr⟩
  | fuel + 1, listed, a, w, hu, h => by
    refine ⟨fun hr => hdone _ _ _ h hr, fun i hi => ?_⟩
    obtain ⟨h1, o, ho, _⟩ := mem_ready.1 hi
    have hlt := unl_step (ops := ops) (Array.getElem?_eq_some_iff.1 ho).1 h1
    exact wpOp_mono (fun a' w' h' => wpAny_inv I hdone hstep fuel _ a' w' (by omega) h') (hstep _ _ _ _ h hi)
/-- One operation, as a walk of its own. -/
def stepQ (K : Act → World → Prop) : Exit → Act → World → Prop := fun e a w => e = .normal ∧ K a w
theorem wpOp_of_list {i : Nat} {o : Oper} {K : Act → World → Prop} {a : Act} {w : World} (ho : ops[i]? = some o) (h : wpList P ops (stepQ K) [o] a w) : wpOp P ops Q i K a w := by
  unfold wpOp
  simp only [ho]
  unfold wpList at h
  split
  · rename_i hw
    rw [if_pos hw] at h
    rcases h with h | ⟨_, _, _, h, _⟩
    · left
      unfold Oper.wp at *
      generalize (execOp a.eval o).run P w = r at *
      cases r with
      | ok n w' =>
        cases n <;> simp only [Oper.upon] at h ⊢ <;>
          first
            | exact h.2
            | exact Calls.mono h (fun e w'' he => by
                cases e with
                | returned v => exact he.2
                | panicked c => exact absurd he.1 (by simp)
                | outgrown => obtain ⟨_, _, h1, _⟩ := he; exact absurd h1 (by simp))
            | exact Rows.mono h (fun _ _ he => he.2)
      | halt x w' =>
        cases x <;> simp only [Oper.upon] at h ⊢ <;> first | exact absurd h.1 (by simp) | exact h
    · cases h
  · rename_i hw
    rw [if_neg hw] at h
    exact h.2
theorem wp_region_inv {id : Nat} {a : Act} {w : World} (hm : P.follows .mixedOrders = true) (I : Array Bool → Act → World → Prop) (h0 : I (Array.replicate ops.size false) a { w with drawn := w.drawn + 1 })
    (hdone : ∀ listed a w, I listed a w → Region.ready .any ops listed = [] → Q .normal a w)
    (hstep : ∀ listed a w i, I listed a w → i ∈ Region.ready .any ops listed → wpOp P ops Q i (I (listed.setIfInBounds i true)) a w) : (Code.region id ops true).wp P Q a w :=
  wp_region_any hm (wpAny_inv I hdone hstep _ _ _ _ (by
    unfold unl
    exact Nat.le_trans List.countP_le_length (by simp)) h0)
end

/-- Every operation waits only for ones ahead of it. -/
def backB (ops : Array Oper) : Bool := (List.range ops.size).all fun i => match ops[i]? with | some o => o.after.all (fun e => !Region.binds .any e || decide (e.on < i)) | none => true
theorem backB_at {ops : Array Oper} (h : backB ops = true) {i : Nat} {o : Oper} (ho : ops[i]? = some o) : ∀ e ∈ o.after, Region.binds .any e = true → e.on < i := by
  have hi : i < ops.size := (Array.getElem?_eq_some_iff.1 ho).1
  have := List.all_eq_true.1 h i (List.mem_range.2 hi)
  simp only [ho] at this
  intro e he hb
  have := Array.all_eq_true_iff_forall_mem.1 this e he
  rw [hb] at this
  simpa using this
theorem all_listed {ops : Array Oper} {listed : Array Bool} (hB : backB ops = true) (hs : listed.size = ops.size) (hr : Region.ready .any ops listed = []) : ∀ i, i < ops.size → listed.getD i false = true := by
  intro i
  induction i using Nat.strongRecOn with
  | ind i ih =>
    intro hi
    cases hl : listed.getD i false with
    | true => rfl
    | false =>
      exfalso
      have ho : ops[i]? = some ops[i] := by simp [hi]
      have hl2 : listed.getD i true = false := by
        have : i < listed.size := by omega
        simpa [Array.getD, this] using hl
      have : i ∈ Region.ready .any ops listed := mem_ready.2 ⟨hl2, ops[i], ho, fun e he hb => ih e.on (backB_at hB ho e he hb) (by have := backB_at hB ho e he hb; omega)⟩
      rw [hr] at this
      cases this
/-- The same by flags: which operations are done. -/
theorem wp_region_flags {P : Program} {ops : Array Oper} {Q : Exit → Act → World → Prop} {id : Nat} {a : Act} {w : World} (hm : P.follows .mixedOrders = true) (hB : backB ops = true) (J : (Nat → Bool) → Act → World → Prop) (h0 : J (fun _ => false) a { w with drawn := w.drawn + 1 })
    (hdone : ∀ l a w, (∀ i, i < ops.size → l i = true) → J l a w → Q .normal a w)
    (hstep : ∀ l a w i o, ops[i]? = some o → l i = false → (∀ e ∈ o.after, Region.binds .any e = true → l e.on = true) → J l a w → wpList P ops (stepQ (J (fun j => decide (j = i) || l j))) [o] a w) : (Code.region id ops true).wp P Q a w := by
  refine wp_region_inv hm (fun listed a w => listed.size = ops.size ∧ J (fun i => listed.getD i false) a w) ⟨by simp, ?_⟩ (fun listed a w h hr => hdone _ a w (all_listed hB h.1 hr) h.2) (fun listed a w i h hi => ?_)
  · have e : (fun i => (Array.replicate ops.size false).getD i false) = fun _ => false := by
      funext i
      by_cases c : i < ops.size <;> simp [Array.getD, c]
    rw [e]; exact h0
  · obtain ⟨h1, o, ho, hd⟩ := mem_ready.1 hi
    have hlt : i < listed.size := by have := (Array.getElem?_eq_some_iff.1 ho).1; omega
    have e : (fun j => (listed.setIfInBounds i true).getD j false) = fun j => decide (j = i) || listed.getD j false := by
      funext j
      by_cases c : j = i
      · subst c; simp [Array.getD_eq_getD_getElem?, Array.getElem?_setIfInBounds_self_of_lt hlt]
      · simp [Array.getD_eq_getD_getElem?, Array.getElem?_setIfInBounds_ne (Ne.symm c), c]
    refine wpOp_mono (fun a' w' h' => ⟨by rw [Array.size_setIfInBounds]; exact h.1, ?_⟩) (wpOp_of_list ho (hstep _ a w i o ho (by simpa [Array.getD, hlt] using h1) hd h.2))
    show J (fun j => (listed.setIfInBounds i true).getD j false) a' w'
    rw [e]; exact h'
/-- The same, with the frame at the region's head handed to the invariant. -/
theorem wp_region_flagsA {P : Program} {ops : Array Oper} {Q : Exit → Act → World → Prop} {id : Nat} {a : Act} {w : World} (hm : P.follows .mixedOrders = true) (hB : backB ops = true) (J : Act → (Nat → Bool) → Act → World → Prop) (h0 : J a (fun _ => false) a { w with drawn := w.drawn + 1 })
    (hdone : ∀ l b v, (∀ i, i < ops.size → l i = true) → J a l b v → Q .normal b v)
    (hstep : ∀ l b v i o, ops[i]? = some o → l i = false → (∀ e ∈ o.after, Region.binds .any e = true → l e.on = true) → J a l b v → wpList P ops (stepQ (J a (fun j => decide (j = i) || l j))) [o] b v) : (Code.region id ops true).wp P Q a w :=
  wp_region_flags hm hB (J a) h0 hdone hstep

end Go.Proofs.Ytfnnfldfnjnlfah

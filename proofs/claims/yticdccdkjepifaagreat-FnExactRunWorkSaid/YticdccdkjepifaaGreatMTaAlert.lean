/-
  Alert of the model and of the program: the plain answer, at every argument; nothing that was there is written.
  Which of a part's bounds is used most, and what is left of it, in plain numbers. No program here.
  What the program's ClockOk and TaskOk answer: plain answers, at every argument; nothing that was there is written.
-/
import Derived.Test.YticdccdkjepifaaGreatMTaPure
import Derived.Test.YticdccdkjepifaaGreatMLowPure
import Derived.Test.YticdccdkjepifaaGreatMStrRow

namespace Go.Proofs.YticdccdkjepifaaGreat
open Go.RowKit

theorem al_no {gs : List Int} {h c m : Int} (hv : alOk gs h c m = false) : alR gs h c m = -1 ∧ alB gs h c m = false := by simp [alR, alB, hv]
theorem al_here {gs : List Int} {h c m : Int} {k : Nat} (hv : alOk gs h c m = true) (hk : k < gs.length) (e : alF gs h c m = k) : alR gs h c m = k ∧ alB gs h c m = true := by
  have : alB gs h c m = true := by simp [alB, hv, e, hk]
  simp [alR, this, e]
theorem al_none {gs : List Int} {h c m : Int} (e : alF gs h c m = gs.length) : alR gs h c m = -1 ∧ alB gs h c m = false := by
  have : alB gs h c m = false := by simp [alB, e]
  simp [alR, this]

theorem allWithin_is {r : Bool} (ad : Option Addr) (len cap : Nat) (zs : List Int) (a b : Int) (w : World) (hr : Row w ad len zs) (hc : allB zs a b = r) :
    Calls Tryz.prog 101 #[.slice ad len cap, .int .i64 a, .int .i64 b] w fun e w' => e = .returned (.bool r) ∧ ∃ n, w' = w.drewN n := by rw [← hc]; exact allWithin_any ad len cap zs a b w hr




end Go.Proofs.YticdccdkjepifaaGreat

namespace Go.Proofs.YticdccdkjepifaaGreat
open Go

/-- The number at place 0, 1 or 2. -/
def of3 (a b c : Int) : Nat → Int
  | 0 => a
  | 1 => b
  | _ => c
/-- Whether the bound at a place comes before the one that was found. -/
def moreB (b0 b1 b2 s0 s1 s2 : Int) (m : Int) (k : Nat) : Bool :=
  decide (of3 b0 b1 b2 k ≠ 0) && (decide (m = -1) || decide (of3 s0 s1 s2 m.toNat * of3 b0 b1 b2 k < of3 s0 s1 s2 k * of3 b0 b1 b2 m.toNat))
/-- The bound that is used most, of the first places; -1 where there is none. -/
def mostTo (b0 b1 b2 s0 s1 s2 : Int) : Nat → Int
  | 0 => -1
  | k + 1 => if moreB b0 b1 b2 s0 s1 s2 (mostTo b0 b1 b2 s0 s1 s2 k) k = true then (k : Int) else mostTo b0 b1 b2 s0 s1 s2 k
theorem mostTo_in (b0 b1 b2 s0 s1 s2 : Int) (k : Nat) : mostTo b0 b1 b2 s0 s1 s2 k = -1 ∨ (0 ≤ mostTo b0 b1 b2 s0 s1 s2 k ∧ mostTo b0 b1 b2 s0 s1 s2 k < k) := by
  induction k with
  | zero => exact .inl rfl
  | succ k ih => simp only [mostTo]; split <;> omega
theorem mostTo_yes {b0 b1 b2 s0 s1 s2 : Int} {k : Nat} (h : moreB b0 b1 b2 s0 s1 s2 (mostTo b0 b1 b2 s0 s1 s2 k) k = true) : mostTo b0 b1 b2 s0 s1 s2 (k + 1) = (k : Int) := by
  simp [mostTo, h]
theorem mostTo_no {b0 b1 b2 s0 s1 s2 : Int} {k : Nat} (h : moreB b0 b1 b2 s0 s1 s2 (mostTo b0 b1 b2 s0 s1 s2 k) k = false) : mostTo b0 b1 b2 s0 s1 s2 (k + 1) = mostTo b0 b1 b2 s0 s1 s2 k := by
  simp [mostTo, h]
/-- Whether three numbers are in 0 .. M. -/
def in3 (a b c M : Int) : Bool := inB a 0 M && inB b 0 M && inB c 0 M
theorem in3_facts {a b c M : Int} (h : in3 a b c M = true) : (0 ≤ a ∧ a ≤ M) ∧ (0 ≤ b ∧ b ≤ M) ∧ (0 ≤ c ∧ c ≤ M) := by
  simp [in3, inB] at h; omega
theorem in3_all (a b c M : Int) : allB [a, b, c] 0 M = in3 a b c M := by
  unfold allB in3
  by_cases h0 : inB a 0 M = true <;> by_cases h1 : inB b 0 M = true <;> by_cases h2 : inB c 0 M = true
  all_goals
    first
    | (have : ∀ i, i < [a, b, c].length → inB (nth [a, b, c] i) 0 M = true := by
         intro i hi
         rcases (show i = 0 ∨ i = 1 ∨ i = 2 from by simp at hi; omega) with rfl | rfl | rfl
         · exact h0
         · exact h1
         · exact h2
       rw [decide_eq_true this, h0, h1, h2]; rfl)
    | (have hn : ¬ ∀ i, i < [a, b, c].length → inB (nth [a, b, c] i) 0 M = true := fun k => by
         have k0 := k 0 (by simp)
         have k1 := k 1 (by simp)
         have k2 := k 2 (by simp)
         simp [nth] at k0 k1 k2
         first | exact h0 k0 | exact h1 k1 | exact h2 k2
       rw [decide_eq_false hn]
       simp [h0, h1, h2])
/-- Whether a life, a stay is so; whether Left6 tells something. -/
def lifeB (n : ByteArray) (a b c : Int) : Bool := nameB n && in3 a b c 1000000
def stayB (n : ByteArray) (a b c : Int) : Bool := nameB n && in3 a b c 10000000
def leftOk (n : ByteArray) (b0 b1 b2 : Int) (m : ByteArray) (s0 s1 s2 : Int) : Bool := nameB n && (m.toList == n.toList) && in3 b0 b1 b2 1000000 && in3 s0 s1 s2 10000000
def leftM (b0 b1 b2 s0 s1 s2 : Int) : Int := mostTo b0 b1 b2 s0 s1 s2 3
/-- What Left6 tells: the bound, what is left, and whether. -/
def leftR (n : ByteArray) (b0 b1 b2 : Int) (m : ByteArray) (s0 s1 s2 : Int) : Int × Int × Bool :=
  if leftOk n b0 b1 b2 m s0 s1 s2 = true ∧ leftM b0 b1 b2 s0 s1 s2 ≠ -1 then (leftM b0 b1 b2 s0 s1 s2, of3 b0 b1 b2 (leftM b0 b1 b2 s0 s1 s2).toNat - of3 s0 s1 s2 (leftM b0 b1 b2 s0 s1 s2).toNat, true) else (-1, 0, false)
theorem leftR_no {n m : ByteArray} {b0 b1 b2 s0 s1 s2 : Int} (h : leftOk n b0 b1 b2 m s0 s1 s2 = false) : leftR n b0 b1 b2 m s0 s1 s2 = (-1, 0, false) := by
  simp [leftR, h]
theorem leftR_none {n m : ByteArray} {b0 b1 b2 s0 s1 s2 : Int} (h : leftM b0 b1 b2 s0 s1 s2 = -1) : leftR n b0 b1 b2 m s0 s1 s2 = (-1, 0, false) := by
  simp [leftR, h]
theorem leftR_yes {n m : ByteArray} {b0 b1 b2 s0 s1 s2 : Int} (h : leftOk n b0 b1 b2 m s0 s1 s2 = true) (h2 : leftM b0 b1 b2 s0 s1 s2 ≠ -1) :
    leftR n b0 b1 b2 m s0 s1 s2 = (leftM b0 b1 b2 s0 s1 s2, of3 b0 b1 b2 (leftM b0 b1 b2 s0 s1 s2).toNat - of3 s0 s1 s2 (leftM b0 b1 b2 s0 s1 s2).toNat, true) := by
  simp [leftR, h, h2]
theorem ret_left {a b a' b' : Int} {c d : Bool} (h : (a, a', c) = (b, b', d)) : Ending.returned (.tuple #[.int .i64 a, .int .i64 a', .bool c]) = .returned (.tuple #[.int .i64 b, .int .i64 b', .bool d]) := by
  cases h; rfl

end Go.Proofs.YticdccdkjepifaaGreat

namespace Go.Proofs.YticdccdkjepifaaGreat
open Go.RowKit

theorem ckB_in3 (h c d : Int) : in3 h c d 1000000 = ckB h c d := rfl
theorem tsB_in3 (t : Ts) : tsB t = (nameB t.nm && in3 t.h t.c t.d 100000 && decide (0 < t.h + t.c + t.d) && ckB t.dh t.dc t.dd) := by
  unfold tsB in3
  cases nameB t.nm <;> cases inB t.h 0 100000 <;> cases inB t.c 0 100000 <;> simp
set_option maxHeartbeats 400000 in
/-- Three numbers in a block of their own, whatever they are. -/
theorem allW3 (g cap : Nat) (x y z a b : Int) (w : World) (hg : Blk w g [.int .i64 x, .int .i64 y, .int .i64 z]) :
    Calls Tryz.prog 101 #[.slice (some ⟨g, 0, none⟩) 3 cap, .int .i64 a, .int .i64 b] w fun e w' => e = .returned (.bool (allB [x, y, z] a b)) ∧ Below w.heap.size w w' := by
  have hc : ∀ i, i < 3 → w.cell? ⟨g, i, none⟩ = some (.int .i64 (nth [x, y, z] i)) := fun i hi => by
    rcases (show i = 0 ∨ i = 1 ∨ i = 2 from by omega) with rfl | rfl | rfl
    · exact hg.c 0 (by simp)
    · exact hg.c 1 (by simp)
    · exact hg.c 2 (by simp)
  obtain ⟨zs, hzs⟩ : ∃ zs, zs = [x, y, z] := ⟨_, rfl⟩
  have HL : Hid (zs.length = 3) := hide (by rw [hzs]; rfl)
  rw [← hzs] at hc ⊢
  clear hzs hg
  go_enter Tryz.func101, Tryz.ntmps101
  go_wp2
  go_loopw [11] (fun i wr => ∃ k n : Nat, k ≤ 3 ∧ i = .int .i64 k ∧ Hid (∀ j, j < k → inB (nth zs j) a b = true) ∧ wr = w.drewN n) (fun i _ => 3 - (intOf i).toNat)
  case atStart => exact ⟨0, 0, Nat.zero_le _, rfl, (fun j hj => by omega), rfl⟩
  case round =>
    obtain ⟨k, n, hk, rfl, hall, rfl⟩ := hrel
    by_cases hlt : k < 3
    · have hcell := hc k hlt
      clear hc
      cases hin : inB (nth zs k) a b
      · have Hin : Hid (inB (nth zs k) a b = false) := hin
        go_wp2_with (go_at_call 60; refine (within_any _ _ _ _).mono ?_; rintro e w' ⟨rfl, rfl⟩)
        go_ret
        exact ⟨ret_bool (allB_false (by rw [unhide HL]; exact hlt) Hin.out).symm, bel0d _⟩
      · have Hin : Hid (inB (nth zs k) a b = true) := hin
        go_wp2_with (go_at_call 60; refine (within_any _ _ _ _).mono ?_; rintro e w' ⟨rfl, rfl⟩)
        go_roundw
        case rel => exact ⟨k + 1, n, by omega, by go_num, (fun j hj => by rcases Nat.lt_succ_iff_lt_or_eq.1 hj with h | h; exact hall.out j h; subst h; exact Hin.out), rfl⟩
        case measure => simp [intOf]; omega
    · go_wp2
      go_ret
      exact ⟨ret_bool (allB_true fun j hj => hall.out j (by have := unhide HL; omega)).symm, bel0d _⟩
set_option maxHeartbeats 1000000 in
theorem asCounts_any (h c d : Int) (w : World) :
    Calls Tryz.prog 100 #[.agg #[.int .i64 h, .int .i64 c, .int .i64 d]] w fun e w' => e = .returned (.agg #[.int .i64 h, .int .i64 c, .int .i64 d]) ∧ Below w.heap.size w w' := by
  go_enter Tryz.func100, Tryz.ntmps100
  go_wp2
  refine bodyPost_ret (v := .agg #[.int .i64 h, .int .i64 c, .int .i64 d]) (by simp [results, Tryz.results100, go_sem]) rfl ⟨rfl, ?_⟩
  repeat (first | exact bel2 _ _ | exact bel3 _ _ _ | refine Below.setCell ?_ (by simp; try omega) _)
set_option maxHeartbeats 1000000 in
theorem tBounds_any (nm : ByteArray) (h c d dh dc dd : Int) (w : World) :
    Calls Tryz.prog 125 #[.agg #[.string nm, .int .i64 h, .int .i64 c, .int .i64 d, .int .i64 dh, .int .i64 dc, .int .i64 dd]] w fun e w' => e = .returned (.agg #[.int .i64 h, .int .i64 c, .int .i64 d]) ∧ Below w.heap.size w w' := by
  go_enter Tryz.func125, Tryz.ntmps125
  go_wp2
  refine bodyPost_ret (v := .agg #[.int .i64 h, .int .i64 c, .int .i64 d]) (by simp [results, Tryz.results125, go_sem]) rfl ⟨rfl, ?_⟩
  repeat (first | exact bel2 _ _ | exact bel3 _ _ _ | refine Below.setCell ?_ (by simp; try omega) _)
set_option maxRecDepth 20000 in
set_option maxHeartbeats 2000000 in
theorem implClockOk_is {b : Bool} (h c d : Int) (w : World) (hc : ckB h c d = b) :
    Calls Tryz.prog 74 #[.agg #[.int .i64 h, .int .i64 c, .int .i64 d]] w fun e w' => e = .returned (.bool b) ∧ Below w.heap.size w w' := by
  have HE : Hid (allB [h, c, d] 0 1000000 = b) := hide (by rw [in3_all, ckB_in3]; exact hc)
  clear hc
  go_enter Tryz.func74, Tryz.ntmps74
  go_wp2_with fail
  refine (asCounts_any h c d _).mono ?_
  rintro x w1 ⟨rfl, b1⟩
  have B1 := hide ((bel1 _).trans (b1.mono (by simp)))
  clear b1
  obtain ⟨W, hW⟩ : ∃ W, W = w1.alloc (Obj.cells #[.int .i64 h, .int .i64 c, .int .i64 d] 142) := ⟨_, rfl⟩
  have R3 : Hid (Blk W w1.heap.size [.int .i64 h, .int .i64 c, .int .i64 d]) := hide (by rw [hW]; exact Blk.new _ _)
  have B3 : Hid (Below w.heap.size w W) := hide (by rw [hW]; exact (unhide B1).alloc (unhide B1).size _)
  have HW := hide hW
  clear hW
  go_wp2_with fail
  rw [← unhide HW]
  refine (allW3 _ _ _ _ _ _ _ W (unhide R3)).mono ?_
  rintro x w4 ⟨rfl, b4⟩
  have B4 := hide ((unhide B3).trans (b4.mono (unhide B3).size))
  clear b4
  rw [unhide HE]
  go_wp2_with fail
  go_ret
  exact ⟨rfl, unhide B4⟩

end Go.Proofs.YticdccdkjepifaaGreat

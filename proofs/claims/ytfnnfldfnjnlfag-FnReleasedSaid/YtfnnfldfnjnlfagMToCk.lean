/-
  The law's copy and comparison of a Clock: of one value it says so. No condition.
  The law's size and copy of a Task. No condition; nothing that was there is written.
  What the model's l1Name and the program's nameOk answer: whether a text is a name. At every text; nothing is written.
  Which of a part's bounds is used most, and what is left of it, in plain numbers. No program here.
  What the program's ClockOk and TaskOk answer: plain answers, at every argument; nothing that was there is written.
-/
import Derived.Test.YtfnnfldfnjnlfagChecked
import Derived.Test.YtfnnfldfnjnlfagMBase
import Derived.Test.YtfnnfldfnjnlfagMLowPure
import Derived.Test.YtfnnfldfnjnlfagMWhole
import Derived.Test.YtfnnfldfnjnlfagMOwnI
import Derived.Test.YtfnnfldfnjnlfagMSmall
import Derived.Test.YtfnnfldfnjnlfagMTaAlert

namespace Go.Proofs.Ytfnnfldfnjnlfag
open Go.RowKit

/-- What a Clock holds. -/
structure Ck where
  a0 : Int
  a1 : Int
  a2 : Int
instance : Inhabited Ck := ⟨⟨0, 0, 0⟩⟩
/-- Its cells. -/
def ckC (m : Ck) : Nat → Value
  | 0 => .int .i64 m.a0
  | 1 => .int .i64 m.a1
  | _ => .int .i64 m.a2
def ckAlike (m n : Ck) : Prop := m.a0 = n.a0 ∧ m.a1 = n.a1 ∧ m.a2 = n.a2
theorem ckAlike_refl (m : Ck) : ckAlike m m := ⟨rfl, rfl, rfl⟩
theorem ckAlike.symm {m n : Ck} (h : ckAlike m n) : ckAlike n m := ⟨h.1.symm, h.2.1.symm, h.2.2.symm⟩
theorem ckAlike.trans {m n l : Ck} (h : ckAlike m n) (g : ckAlike n l) : ckAlike m l := ⟨h.1.trans g.1, h.2.1.trans g.2.1, h.2.2.trans g.2.2⟩



end Go.Proofs.Ytfnnfldfnjnlfag

namespace Go.Proofs.Ytfnnfldfnjnlfag
open Go Go.RowKit


end Go.Proofs.Ytfnnfldfnjnlfag

namespace Go.Proofs.Ytfnnfldfnjnlfag
open Go.RowKit

set_option maxHeartbeats 2000000 in
theorem nameByte_any (c : Int) (w : World) (h : 0 ≤ c ∧ c ≤ 255) :
    Calls Try.prog 92 #[.int .u8 c] w fun e w' => e = .returned (.bool (byteB c)) ∧ w' = w := by
  by_cases a1 : 97 ≤ c <;> by_cases a2 : c ≤ 122 <;> (try (exfalso; omega)) <;> by_cases a3 : 65 ≤ c <;> by_cases a4 : c ≤ 90 <;> (try (exfalso; omega)) <;> by_cases a5 : 48 ≤ c <;> by_cases a6 : c ≤ 57 <;> (try (exfalso; omega)) <;> by_cases a7 : c = 45 <;> (try (exfalso; omega))
  all_goals
    first
    | have HE : Hid (byteB c = true) := hide (by simp [byteB, inB]; omega)
    | have HE : Hid (byteB c = false) := hide (by simp [byteB, inB]; omega)
    go_enter Try.func92, Try.ntmps92
    go_wp2
    try rw [Exit.noGoto_ret]
    go_ret
    first
    | exact ⟨ret_bool (unhide HE).symm, rfl⟩
    | exact ⟨ret_bool (by rw [unhide HE]; simpa using a7), rfl⟩
    | exact ⟨ret_bool (by decide), rfl⟩

set_option maxHeartbeats 1000000 in
theorem nameOk_any (s : ByteArray) (w : World) (hs : s.size ≤ 9223372036854775807) :
    Calls Try.prog 59 #[.string s] w fun e w' => e = .returned (.bool (nameB s)) ∧ w' = w := by
  cases h : inB s.size 1 20 with
  | false =>
    have HE := hide (nameB_size h)
    go_enter Try.func59, Try.ntmps59
    go_wp2_with fail
    refine (within_is _ _ _ _ h).mono ?_
    rintro e w' ⟨rfl, hw⟩
    subst w'
    go_wp2_with fail
    go_ret
    exact ⟨ret_bool (unhide HE).symm, rfl⟩
  | true =>
    have hb := in_facts h
    go_enter Try.func59, Try.ntmps59
    go_wp2_with fail
    refine (within_is _ _ _ _ h).mono ?_
    rintro e w' ⟨rfl, hw⟩
    subst w'
    have HH := hide h
    clear h
    go_wp2_with fail
    go_loopw [10] (fun i wr => ∃ k : Nat, k ≤ s.size ∧ i = .int .i64 k ∧ Hid (∀ j, j < k → byteB (byAt s j) = true) ∧ wr = w) (fun i _ => s.size - (intOf i).toNat)
    case atStart => exact ⟨0, Nat.zero_le _, rfl, hide (fun j hj => by omega), rfl⟩
    case round =>
      obtain ⟨k, hk, rfl, HN, hwr⟩ := hrel
      subst wr
      by_cases hlt : k < s.size
      · have hi1 : (k : Int) < (s.size : Int) := by omega
        have hi0 : (0 : Int) ≤ (k : Int) := by omega
        have hby := byAt_is hlt
        have hbd := byAt_bd s k
        cases hc : byteB (byAt s k) with
        | false =>
          have HE := hide (nameB_at hlt hc)
          have HC := hide hc
          clear hc
          go_wp2_with fail
          refine (nameByte_any _ _ hbd).mono ?_
          rintro e w' ⟨rfl, hw⟩
          subst w'
          have hc := unhide HC
          go_wp2_with fail
          go_ret
          exact ⟨ret_bool (unhide HE).symm, rfl⟩
        | true =>
          have HC := hide hc
          clear hc
          go_wp2_with fail
          refine (nameByte_any _ _ hbd).mono ?_
          rintro e w' ⟨rfl, hw⟩
          subst w'
          have hc := unhide HC
          go_wp2_with fail
          go_roundw
          case rel => exact ⟨k + 1, by omega, by go_num, hide (fun j hj => by rcases Nat.lt_succ_iff_lt_or_eq.1 hj with h | h; exact unhide HN j h; subst h; exact unhide HC), trivial⟩
          case measure => simp [intOf]; omega
      · have HE : Hid (nameB s = true) := hide ((nameB_all (fun j hj => unhide HN j (by omega))).trans (unhide HH))
        go_wp2_with fail
        go_ret
        exact ⟨ret_bool (unhide HE).symm, rfl⟩

set_option maxHeartbeats 2000000 in
theorem l1Name_any (s : ByteArray) (w : World) (hs : s.size ≤ 9223372036854775807) :
    Calls Try.prog 97 #[.string s] w fun e w' => e = .returned (.bool (nameB s)) ∧ w' = w := by
  go_enter Try.func97, Try.ntmps97
  go_wp2_with fail
  go_loopw [3] (fun i wr => ∃ k : Nat, k ≤ s.size ∧ i = .int .i64 k ∧ Hid (∀ j, j < k → byteB (byAt s j) = true) ∧ wr = w) (fun i _ => s.size - (intOf i).toNat)
  case atStart => exact ⟨0, Nat.zero_le _, rfl, hide (fun j hj => by omega), rfl⟩
  case round =>
    obtain ⟨k, hk, rfl, HN, hwr⟩ := hrel
    subst wr
    by_cases hlt : k < s.size
    · have hi1 : (k : Int) < (s.size : Int) := by omega
      have hi0 : (0 : Int) ≤ (k : Int) := by omega
      have hby := byAt_is hlt
      have hbd := byAt_bd s k
      have HW : Hid (byteB (byAt s k) = (inB (byAt s k) 97 122 || inB (byAt s k) 65 90 || inB (byAt s k) 48 57 || decide (byAt s k = 45))) := hide rfl
      cases g1 : inB (byAt s k) 97 122 with
      | true =>
        have HB : Hid (byteB (byAt s k) = true) := hide (by rw [unhide HW, g1]; simp)
        go_wp2_with (go_at_call 98; refine (l1In_any _ _ _ _).mono ?_; rintro e w' ⟨rfl, hw⟩; subst w')
        go_roundw
        case rel => exact ⟨k + 1, by omega, by go_num, hide (fun j hj => by rcases Nat.lt_succ_iff_lt_or_eq.1 hj with h | h; exact unhide HN j h; subst h; exact unhide HB), trivial⟩
        case measure => simp [intOf]; omega
      | false =>
      cases g2 : inB (byAt s k) 65 90 with
      | true =>
        have HB : Hid (byteB (byAt s k) = true) := hide (by rw [unhide HW, g2]; simp)
        go_wp2_with (go_at_call 98; refine (l1In_any _ _ _ _).mono ?_; rintro e w' ⟨rfl, hw⟩; subst w')
        go_roundw
        case rel => exact ⟨k + 1, by omega, by go_num, hide (fun j hj => by rcases Nat.lt_succ_iff_lt_or_eq.1 hj with h | h; exact unhide HN j h; subst h; exact unhide HB), trivial⟩
        case measure => simp [intOf]; omega
      | false =>
      cases g3 : inB (byAt s k) 48 57 with
      | true =>
        have HB : Hid (byteB (byAt s k) = true) := hide (by rw [unhide HW, g3]; simp)
        go_wp2_with (go_at_call 98; refine (l1In_any _ _ _ _).mono ?_; rintro e w' ⟨rfl, hw⟩; subst w')
        go_roundw
        case rel => exact ⟨k + 1, by omega, by go_num, hide (fun j hj => by rcases Nat.lt_succ_iff_lt_or_eq.1 hj with h | h; exact unhide HN j h; subst h; exact unhide HB), trivial⟩
        case measure => simp [intOf]; omega
      | false =>
      by_cases g4 : byAt s k = 45
      · have HB : Hid (byteB (byAt s k) = true) := hide (by rw [unhide HW, g1, g2, g3]; simpa using g4)
        have g5 : (byAt s k != 45) = false := by simpa using g4
        clear g4
        go_wp2_with (go_at_call 98; refine (l1In_any _ _ _ _).mono ?_; rintro e w' ⟨rfl, hw⟩; subst w')
        go_roundw
        case rel => exact ⟨k + 1, by omega, by go_num, hide (fun j hj => by rcases Nat.lt_succ_iff_lt_or_eq.1 hj with h | h; exact unhide HN j h; subst h; exact unhide HB), trivial⟩
        case measure => simp [intOf]; omega
      · have HB : Hid (byteB (byAt s k) = false) := hide (by rw [unhide HW, g1, g2, g3]; simpa using g4)
        have g5 : (byAt s k != 45) = true := by simpa using g4
        clear g4
        have HE := hide (nameB_at hlt (unhide HB))
        go_wp2_with (go_at_call 98; refine (l1In_any _ _ _ _).mono ?_; rintro e w' ⟨rfl, hw⟩; subst w')
        go_ret
        exact ⟨ret_bool (unhide HE).symm, rfl⟩
    · have HE := hide (nameB_all (fun j hj => unhide HN j (by omega)))
      go_wp2_with (go_at_call 98; refine (l1In_any _ _ _ _).mono ?_; rintro e w' ⟨rfl, hw⟩; subst w')
      go_ret
      exact ⟨ret_bool (unhide HE).symm, rfl⟩

end Go.Proofs.Ytfnnfldfnjnlfag

namespace Go.Proofs.Ytfnnfldfnjnlfag
open Go

/-- The number at place 0, 1 or 2. -/
def of3 (a b c : Int) : Nat → Int
  | 0 => a
  | 1 => b
  | _ => c
/-- Whether the bound at a place comes before the one that was found. -/
def moreB (b0 b1 b2 s0 s1 s2 : Int) (m : Int) (k : Nat) : Bool :=
  decide (of3 b0 b1 b2 k ≠ 0) && (decide (m = -1) || decide (of3 s0 s1 s2 m.toNat * of3 b0 b1 b2 k < of3 s0 s1 s2 k * of3 b0 b1 b2 m.toNat))
/-- The bound that is used most, of the first places; -1 where there is none. -/
def mostTo (b0 b1 b2 s0 s1 s2 : Int) : Nat → Int
  | 0 => -1
  | k + 1 => if moreB b0 b1 b2 s0 s1 s2 (mostTo b0 b1 b2 s0 s1 s2 k) k = true then (k : Int) else mostTo b0 b1 b2 s0 s1 s2 k
theorem mostTo_in (b0 b1 b2 s0 s1 s2 : Int) (k : Nat) : mostTo b0 b1 b2 s0 s1 s2 k = -1 ∨ (0 ≤ mostTo b0 b1 b2 s0 s1 s2 k ∧ mostTo b0 b1 b2 s0 s1 s2 k < k) := by
  induction k with
  | zero => exact .inl rfl
  | succ k ih => simp only [mostTo]; split <;> omega
theorem mostTo_yes {b0 b1 b2 s0 s1 s2 : Int} {k : Nat} (h : moreB b0 b1 b2 s0 s1 s2 (mostTo b0 b1 b2 s0 s1 s2 k) k = true) : mostTo b0 b1 b2 s0 s1 s2 (k + 1) = (k : Int) := by
  simp [mostTo, h]
theorem mostTo_no {b0 b1 b2 s0 s1 s2 : Int} {k : Nat} (h : moreB b0 b1 b2 s0 s1 s2 (mostTo b0 b1 b2 s0 s1 s2 k) k = false) : mostTo b0 b1 b2 s0 s1 s2 (k + 1) = mostTo b0 b1 b2 s0 s1 s2 k := by
  simp [mostTo, h]
/-- Whether three numbers are in 0 .. M. -/
def in3 (a b c M : Int) : Bool := inB a 0 M && inB b 0 M && inB c 0 M
theorem in3_facts {a b c M : Int} (h : in3 a b c M = true) : (0 ≤ a ∧ a ≤ M) ∧ (0 ≤ b ∧ b ≤ M) ∧ (0 ≤ c ∧ c ≤ M) := by
  simp [in3, inB] at h; omega
theorem in3_all (a b c M : Int) : allB [a, b, c] 0 M = in3 a b c M := by
  unfold allB in3
  by_cases h0 : inB a 0 M = true <;> by_cases h1 : inB b 0 M = true <;> by_cases h2 : inB c 0 M = true
  all_goals
    first
    | (have : ∀ i, i < [a, b, c].length → inB (nth [a, b, c] i) 0 M = true := by
         intro i hi
         rcases (show i = 0 ∨ i = 1 ∨ i = 2 from by simp at hi; omega) with rfl | rfl | rfl
         · exact h0
         · exact h1
         · exact h2
       rw [decide_eq_true this, h0, h1, h2]; rfl)
    | (have hn : ¬ ∀ i, i < [a, b, c].length → inB (nth [a, b, c] i) 0 M = true := fun k => by
         have k0 := k 0 (by simp)
         have k1 := k 1 (by simp)
         have k2 := k 2 (by simp)
         simp [nth] at k0 k1 k2
         first | exact h0 k0 | exact h1 k1 | exact h2 k2
       rw [decide_eq_false hn]
       simp [h0, h1, h2])
/-- Whether a life, a stay is so; whether Left6 tells something. -/
def lifeB (n : ByteArray) (a b c : Int) : Bool := nameB n && in3 a b c 1000000
def stayB (n : ByteArray) (a b c : Int) : Bool := nameB n && in3 a b c 10000000
def leftOk (n : ByteArray) (b0 b1 b2 : Int) (m : ByteArray) (s0 s1 s2 : Int) : Bool := nameB n && (m.toList == n.toList) && in3 b0 b1 b2 1000000 && in3 s0 s1 s2 10000000
def leftM (b0 b1 b2 s0 s1 s2 : Int) : Int := mostTo b0 b1 b2 s0 s1 s2 3
/-- What Left6 tells: the bound, what is left, and whether. -/
def leftR (n : ByteArray) (b0 b1 b2 : Int) (m : ByteArray) (s0 s1 s2 : Int) : Int × Int × Bool :=
  if leftOk n b0 b1 b2 m s0 s1 s2 = true ∧ leftM b0 b1 b2 s0 s1 s2 ≠ -1 then (leftM b0 b1 b2 s0 s1 s2, of3 b0 b1 b2 (leftM b0 b1 b2 s0 s1 s2).toNat - of3 s0 s1 s2 (leftM b0 b1 b2 s0 s1 s2).toNat, true) else (-1, 0, false)
theorem leftR_no {n m : ByteArray} {b0 b1 b2 s0 s1 s2 : Int} (h : leftOk n b0 b1 b2 m s0 s1 s2 = false) : leftR n b0 b1 b2 m s0 s1 s2 = (-1, 0, false) := by
  simp [leftR, h]
theorem leftR_none {n m : ByteArray} {b0 b1 b2 s0 s1 s2 : Int} (h : leftM b0 b1 b2 s0 s1 s2 = -1) : leftR n b0 b1 b2 m s0 s1 s2 = (-1, 0, false) := by
  simp [leftR, h]
theorem leftR_yes {n m : ByteArray} {b0 b1 b2 s0 s1 s2 : Int} (h : leftOk n b0 b1 b2 m s0 s1 s2 = true) (h2 : leftM b0 b1 b2 s0 s1 s2 ≠ -1) :
    leftR n b0 b1 b2 m s0 s1 s2 = (leftM b0 b1 b2 s0 s1 s2, of3 b0 b1 b2 (leftM b0 b1 b2 s0 s1 s2).toNat - of3 s0 s1 s2 (leftM b0 b1 b2 s0 s1 s2).toNat, true) := by
  simp [leftR, h, h2]
theorem ret_left {a b a' b' : Int} {c d : Bool} (h : (a, a', c) = (b, b', d)) : Ending.returned (.tuple #[.int .i64 a, .int .i64 a', .bool c]) = .returned (.tuple #[.int .i64 b, .int .i64 b', .bool d]) := by
  cases h; rfl

end Go.Proofs.Ytfnnfldfnjnlfag

namespace Go.Proofs.Ytfnnfldfnjnlfag
open Go.RowKit

theorem ckB_in3 (h c d : Int) : in3 h c d 1000000 = ckB h c d := rfl
theorem tsB_in3 (t : Ts) : tsB t = (nameB t.nm && in3 t.h t.c t.d 100000 && decide (0 < t.h + t.c + t.d) && ckB t.dh t.dc t.dd) := by
  unfold tsB in3
  cases nameB t.nm <;> cases inB t.h 0 100000 <;> cases inB t.c 0 100000 <;> simp
set_option maxHeartbeats 400000 in
/-- Three numbers in a block of their own, whatever they are. -/
theorem allW3 (g cap : Nat) (x y z a b : Int) (w : World) (hg : Blk w g [.int .i64 x, .int .i64 y, .int .i64 z]) :
    Calls Try.prog 40 #[.slice (some ⟨g, 0, none⟩) 3 cap, .int .i64 a, .int .i64 b] w fun e w' => e = .returned (.bool (allB [x, y, z] a b)) ∧ Below w.heap.size w w' := by
  have hc : ∀ i, i < 3 → w.cell? ⟨g, i, none⟩ = some (.int .i64 (nth [x, y, z] i)) := fun i hi => by
    rcases (show i = 0 ∨ i = 1 ∨ i = 2 from by omega) with rfl | rfl | rfl
    · exact hg.c 0 (by simp)
    · exact hg.c 1 (by simp)
    · exact hg.c 2 (by simp)
  obtain ⟨zs, hzs⟩ : ∃ zs, zs = [x, y, z] := ⟨_, rfl⟩
  have HL : Hid (zs.length = 3) := hide (by rw [hzs]; rfl)
  rw [← hzs] at hc ⊢
  clear hzs hg
  go_enter Try.func40, Try.ntmps40
  go_wp2
  go_loopw [11] (fun i wr => ∃ k n : Nat, k ≤ 3 ∧ i = .int .i64 k ∧ Hid (∀ j, j < k → inB (nth zs j) a b = true) ∧ wr = w.drewN n) (fun i _ => 3 - (intOf i).toNat)
  case atStart => exact ⟨0, 0, Nat.zero_le _, rfl, (fun j hj => by omega), rfl⟩
  case round =>
    obtain ⟨k, n, hk, rfl, hall, rfl⟩ := hrel
    by_cases hlt : k < 3
    · have hcell := hc k hlt
      clear hc
      cases hin : inB (nth zs k) a b
      · have Hin : Hid (inB (nth zs k) a b = false) := hin
        go_wp2_with (go_at_call 69; refine (within_any _ _ _ _).mono ?_; rintro e w' ⟨rfl, rfl⟩)
        go_ret
        exact ⟨ret_bool (allB_false (by rw [unhide HL]; exact hlt) Hin.out).symm, bel0d _⟩
      · have Hin : Hid (inB (nth zs k) a b = true) := hin
        go_wp2_with (go_at_call 69; refine (within_any _ _ _ _).mono ?_; rintro e w' ⟨rfl, rfl⟩)
        go_roundw
        case rel => exact ⟨k + 1, n, by omega, by go_num, (fun j hj => by rcases Nat.lt_succ_iff_lt_or_eq.1 hj with h | h; exact hall.out j h; subst h; exact Hin.out), rfl⟩
        case measure => simp [intOf]; omega
    · go_wp2
      go_ret
      exact ⟨ret_bool (allB_true fun j hj => hall.out j (by have := unhide HL; omega)).symm, bel0d _⟩
set_option maxHeartbeats 1000000 in
theorem asCounts_any (h c d : Int) (w : World) :
    Calls Try.prog 39 #[.agg #[.int .i64 h, .int .i64 c, .int .i64 d]] w fun e w' => e = .returned (.agg #[.int .i64 h, .int .i64 c, .int .i64 d]) ∧ Below w.heap.size w w' := by
  go_enter Try.func39, Try.ntmps39
  go_wp2
  refine bodyPost_ret (v := .agg #[.int .i64 h, .int .i64 c, .int .i64 d]) (by simp [results, Try.results39, go_sem]) rfl ⟨rfl, ?_⟩
  repeat (first | exact bel2 _ _ | exact bel3 _ _ _ | refine Below.setCell ?_ (by simp; try omega) _)
set_option maxHeartbeats 1000000 in
theorem tBounds_any (nm : ByteArray) (h c d dh dc dd : Int) (w : World) :
    Calls Try.prog 54 #[.agg #[.string nm, .int .i64 h, .int .i64 c, .int .i64 d, .int .i64 dh, .int .i64 dc, .int .i64 dd]] w fun e w' => e = .returned (.agg #[.int .i64 h, .int .i64 c, .int .i64 d]) ∧ Below w.heap.size w w' := by
  go_enter Try.func54, Try.ntmps54
  go_wp2
  refine bodyPost_ret (v := .agg #[.int .i64 h, .int .i64 c, .int .i64 d]) (by simp [results, Try.results54, go_sem]) rfl ⟨rfl, ?_⟩
  repeat (first | exact bel2 _ _ | exact bel3 _ _ _ | refine Below.setCell ?_ (by simp; try omega) _)
set_option maxRecDepth 20000 in
set_option maxHeartbeats 2000000 in
theorem implClockOk_is {b : Bool} (h c d : Int) (w : World) (hc : ckB h c d = b) :
    Calls Try.prog 10 #[.agg #[.int .i64 h, .int .i64 c, .int .i64 d]] w fun e w' => e = .returned (.bool b) ∧ Below w.heap.size w w' := by
  have HE : Hid (allB [h, c, d] 0 1000000 = b) := hide (by rw [in3_all, ckB_in3]; exact hc)
  clear hc
  go_enter Try.func10, Try.ntmps10
  go_wp2_with fail
  refine (asCounts_any h c d _).mono ?_
  rintro x w1 ⟨rfl, b1⟩
  have B1 := hide ((bel1 _).trans (b1.mono (by simp)))
  clear b1
  obtain ⟨W, hW⟩ : ∃ W, W = w1.alloc (Obj.cells #[.int .i64 h, .int .i64 c, .int .i64 d] 86) := ⟨_, rfl⟩
  have R3 : Hid (Blk W w1.heap.size [.int .i64 h, .int .i64 c, .int .i64 d]) := hide (by rw [hW]; exact Blk.new _ _)
  have B3 : Hid (Below w.heap.size w W) := hide (by rw [hW]; exact (unhide B1).alloc (unhide B1).size _)
  have HW := hide hW
  clear hW
  go_wp2_with fail
  rw [← unhide HW]
  refine (allW3 _ _ _ _ _ _ _ W (unhide R3)).mono ?_
  rintro x w4 ⟨rfl, b4⟩
  have B4 := hide ((unhide B3).trans (b4.mono (unhide B3).size))
  clear b4
  rw [unhide HE]
  go_wp2_with fail
  go_ret
  exact ⟨rfl, unhide B4⟩

end Go.Proofs.Ytfnnfldfnjnlfag

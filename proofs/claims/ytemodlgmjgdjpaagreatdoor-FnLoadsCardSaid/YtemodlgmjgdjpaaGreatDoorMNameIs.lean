/-
  What the model's l1Name and the program's nameOk answer: whether a text is a name. At every text; nothing is written.
  Keeping apart in plain numbers: whether aircraft are so, in how many ticks they meet, threats and what is advised. No program here.
  What the fractions of the model and of the program are: lowest terms by the greatest common divisor, the same in both, wherever the numerator is at most 10^15 either way and the denominator in 1 .. 10^15; nothing that was there is written.
-/
import Derived.Test.YtemodlgmjgdjpaaGreatDoorMBase
import Derived.Test.YtemodlgmjgdjpaaGreatDoorMOnly
import Derived.Test.YtemodlgmjgdjpaaGreatDoorMCur

namespace Go.Proofs.YtemodlgmjgdjpaaGreatDoor
open Go.RowKit

set_option maxHeartbeats 2000000 in
theorem nameByte_any (c : Int) (w : World) (h : 0 ≤ c ∧ c ≤ 255) :
    Calls Tryz.prog 81 #[.int .u8 c] w fun e w' => e = .returned (.bool (byteB c)) ∧ w' = w := by
  by_cases a1 : 97 ≤ c <;> by_cases a2 : c ≤ 122 <;> (try (exfalso; omega)) <;> by_cases a3 : 65 ≤ c <;> by_cases a4 : c ≤ 90 <;> (try (exfalso; omega)) <;> by_cases a5 : 48 ≤ c <;> by_cases a6 : c ≤ 57 <;> (try (exfalso; omega)) <;> by_cases a7 : c = 45 <;> (try (exfalso; omega))
  all_goals
    first
    | have HE : Hid (byteB c = true) := hide (by simp [byteB, inB]; omega)
    | have HE : Hid (byteB c = false) := hide (by simp [byteB, inB]; omega)
    go_enter Tryz.func81, Tryz.ntmps81
    go_wp2
    try rw [Exit.noGoto_ret]
    go_ret
    first
    | exact ⟨ret_bool (unhide HE).symm, rfl⟩
    | exact ⟨ret_bool (by rw [unhide HE]; simpa using a7), rfl⟩
    | exact ⟨ret_bool (by decide), rfl⟩

set_option maxHeartbeats 1000000 in
theorem nameOk_any (s : ByteArray) (w : World) (hs : s.size ≤ 9223372036854775807) :
    Calls Tryz.prog 46 #[.string s] w fun e w' => e = .returned (.bool (nameB s)) ∧ w' = w := by
  cases h : inB s.size 1 20 with
  | false =>
    have HE := hide (nameB_size h)
    go_enter Tryz.func46, Tryz.ntmps46
    go_wp2_with fail
    refine (within_is _ _ _ _ h).mono ?_
    rintro e w' ⟨rfl, hw⟩
    subst w'
    go_wp2_with fail
    go_ret
    exact ⟨ret_bool (unhide HE).symm, rfl⟩
  | true =>
    have hb := in_facts h
    go_enter Tryz.func46, Tryz.ntmps46
    go_wp2_with fail
    refine (within_is _ _ _ _ h).mono ?_
    rintro e w' ⟨rfl, hw⟩
    subst w'
    have HH := hide h
    clear h
    go_wp2_with fail
    go_loopw [10] (fun i wr => ∃ k : Nat, k ≤ s.size ∧ i = .int .i64 k ∧ Hid (∀ j, j < k → byteB (byAt s j) = true) ∧ wr = w) (fun i _ => s.size - (intOf i).toNat)
    case atStart => exact ⟨0, Nat.zero_le _, rfl, hide (fun j hj => by omega), rfl⟩
    case round =>
      obtain ⟨k, hk, rfl, HN, hwr⟩ := hrel
      subst wr
      by_cases hlt : k < s.size
      · have hi1 : (k : Int) < (s.size : Int) := by omega
        have hi0 : (0 : Int) ≤ (k : Int) := by omega
        have hby := byAt_is hlt
        have hbd := byAt_bd s k
        cases hc : byteB (byAt s k) with
        | false =>
          have HE := hide (nameB_at hlt hc)
          have HC := hide hc
          clear hc
          go_wp2_with fail
          refine (nameByte_any _ _ hbd).mono ?_
          rintro e w' ⟨rfl, hw⟩
          subst w'
          have hc := unhide HC
          go_wp2_with fail
          go_ret
          exact ⟨ret_bool (unhide HE).symm, rfl⟩
        | true =>
          have HC := hide hc
          clear hc
          go_wp2_with fail
          refine (nameByte_any _ _ hbd).mono ?_
          rintro e w' ⟨rfl, hw⟩
          subst w'
          have hc := unhide HC
          go_wp2_with fail
          go_roundw
          case rel => exact ⟨k + 1, by omega, by go_num, hide (fun j hj => by rcases Nat.lt_succ_iff_lt_or_eq.1 hj with h | h; exact unhide HN j h; subst h; exact unhide HC), trivial⟩
          case measure => simp [intOf]; omega
      · have HE : Hid (nameB s = true) := hide ((nameB_all (fun j hj => unhide HN j (by omega))).trans (unhide HH))
        go_wp2_with fail
        go_ret
        exact ⟨ret_bool (unhide HE).symm, rfl⟩

set_option maxHeartbeats 2000000 in
theorem l1Name_any (s : ByteArray) (w : World) (hs : s.size ≤ 9223372036854775807) :
    Calls Tryz.prog 99 #[.string s] w fun e w' => e = .returned (.bool (nameB s)) ∧ w' = w := by
  go_enter Tryz.func99, Tryz.ntmps99
  go_wp2_with fail
  go_loopw [3] (fun i wr => ∃ k : Nat, k ≤ s.size ∧ i = .int .i64 k ∧ Hid (∀ j, j < k → byteB (byAt s j) = true) ∧ wr = w) (fun i _ => s.size - (intOf i).toNat)
  case atStart => exact ⟨0, Nat.zero_le _, rfl, hide (fun j hj => by omega), rfl⟩
  case round =>
    obtain ⟨k, hk, rfl, HN, hwr⟩ := hrel
    subst wr
    by_cases hlt : k < s.size
    · have hi1 : (k : Int) < (s.size : Int) := by omega
      have hi0 : (0 : Int) ≤ (k : Int) := by omega
      have hby := byAt_is hlt
      have hbd := byAt_bd s k
      have HW : Hid (byteB (byAt s k) = (inB (byAt s k) 97 122 || inB (byAt s k) 65 90 || inB (byAt s k) 48 57 || decide (byAt s k = 45))) := hide rfl
      cases g1 : inB (byAt s k) 97 122 with
      | true =>
        have HB : Hid (byteB (byAt s k) = true) := hide (by rw [unhide HW, g1]; simp)
        go_wp2_with (go_at_call 60; refine (l1In_any _ _ _ _).mono ?_; rintro e w' ⟨rfl, hw⟩; subst w')
        go_roundw
        case rel => exact ⟨k + 1, by omega, by go_num, hide (fun j hj => by rcases Nat.lt_succ_iff_lt_or_eq.1 hj with h | h; exact unhide HN j h; subst h; exact unhide HB), trivial⟩
        case measure => simp [intOf]; omega
      | false =>
      cases g2 : inB (byAt s k) 65 90 with
      | true =>
        have HB : Hid (byteB (byAt s k) = true) := hide (by rw [unhide HW, g2]; simp)
        go_wp2_with (go_at_call 60; refine (l1In_any _ _ _ _).mono ?_; rintro e w' ⟨rfl, hw⟩; subst w')
        go_roundw
        case rel => exact ⟨k + 1, by omega, by go_num, hide (fun j hj => by rcases Nat.lt_succ_iff_lt_or_eq.1 hj with h | h; exact unhide HN j h; subst h; exact unhide HB), trivial⟩
        case measure => simp [intOf]; omega
      | false =>
      cases g3 : inB (byAt s k) 48 57 with
      | true =>
        have HB : Hid (byteB (byAt s k) = true) := hide (by rw [unhide HW, g3]; simp)
        go_wp2_with (go_at_call 60; refine (l1In_any _ _ _ _).mono ?_; rintro e w' ⟨rfl, hw⟩; subst w')
        go_roundw
        case rel => exact ⟨k + 1, by omega, by go_num, hide (fun j hj => by rcases Nat.lt_succ_iff_lt_or_eq.1 hj with h | h; exact unhide HN j h; subst h; exact unhide HB), trivial⟩
        case measure => simp [intOf]; omega
      | false =>
      by_cases g4 : byAt s k = 45
      · have HB : Hid (byteB (byAt s k) = true) := hide (by rw [unhide HW, g1, g2, g3]; simpa using g4)
        have g5 : (byAt s k != 45) = false := by simpa using g4
        clear g4
        go_wp2_with (go_at_call 60; refine (l1In_any _ _ _ _).mono ?_; rintro e w' ⟨rfl, hw⟩; subst w')
        go_roundw
        case rel => exact ⟨k + 1, by omega, by go_num, hide (fun j hj => by rcases Nat.lt_succ_iff_lt_or_eq.1 hj with h | h; exact unhide HN j h; subst h; exact unhide HB), trivial⟩
        case measure => simp [intOf]; omega
      · have HB : Hid (byteB (byAt s k) = false) := hide (by rw [unhide HW, g1, g2, g3]; simpa using g4)
        have g5 : (byAt s k != 45) = true := by simpa using g4
        clear g4
        have HE := hide (nameB_at hlt (unhide HB))
        go_wp2_with (go_at_call 60; refine (l1In_any _ _ _ _).mono ?_; rintro e w' ⟨rfl, hw⟩; subst w')
        go_ret
        exact ⟨ret_bool (unhide HE).symm, rfl⟩
    · have HE := hide (nameB_all (fun j hj => unhide HN j (by omega)))
      go_wp2_with (go_at_call 60; refine (l1In_any _ _ _ _).mono ?_; rintro e w' ⟨rfl, hw⟩; subst w')
      go_ret
      exact ⟨ret_bool (unhide HE).symm, rfl⟩

end Go.Proofs.YtemodlgmjgdjpaaGreatDoor

namespace Go.Proofs.YtemodlgmjgdjpaaGreatDoor
open Go

/-- Whether an aircraft is so. -/
def avB (i h c s : Int) : Bool := inB i 1 1000000 && inB h 0 60000 && inB c (-200) 200 && inB s 0 2
/-- Whether one that is seen is so. -/
def tcB (i h c f k s : Int) : Bool := avB i h c s && inB f 0 1000000 && inB k (-1000) 1000
/-- Whether it comes, and in how many ticks. -/
def tiB (i h c f k s : Int) : Bool := tcB i h c f k s && decide (0 < k)
def tiN (i h c f k s : Int) : Int := if tiB i h c f k s = true then (f + k - 1).tdiv k else 0
/-- How far apart in height, after n ticks. -/
def dfN (oh oc th tc n : Int) : Int := oh + n * oc - th - n * tc
/-- Whether it is a threat. -/
def thB (oi oh oc os ti th tc tf tk ts near wi : Int) : Bool :=
  tiB ti th tc tf tk ts && avB oi oh oc os && !(oi == ti) && inB near 0 10000 && inB wi 1 300 && decide (tiN ti th tc tf tk ts ≤ wi) && decide (((dfN oh oc th tc (tiN ti th tc tf tk ts)).natAbs : Int) < near)
/-- What is advised where neither has told. -/
def frS (oi oh oc ti th tc n : Int) : Int :=
  if (dfN oh oc th tc n - 100 * n).natAbs < (dfN oh oc th tc n + 100 * n).natAbs then 1
  else if (dfN oh oc th tc n + 100 * n).natAbs < (dfN oh oc th tc n - 100 * n).natAbs then 2
  else if th < oh ∨ (oh = th ∧ ti < oi) then 1 else 2
/-- What is advised. -/
def adR (oi oh oc os ti th tc tf tk ts near wi : Int) : Int :=
  if thB oi oh oc os ti th tc tf tk ts near wi = true then
    (if os ≠ 0 then os else if ts ≠ 0 then 3 - ts else frS oi oh oc ti th tc (tiN ti th tc tf tk ts))
  else 0

theorem avB_facts {i h c s : Int} (hv : avB i h c s = true) : (1 ≤ i ∧ i ≤ 1000000) ∧ (0 ≤ h ∧ h ≤ 60000) ∧ (-200 ≤ c ∧ c ≤ 200) ∧ (0 ≤ s ∧ s ≤ 2) := by
  simp only [avB, Bool.and_eq_true] at hv
  exact ⟨in_facts hv.1.1.1, in_facts hv.1.1.2, in_facts hv.1.2, in_facts hv.2⟩
theorem tcB_facts {i h c f k s : Int} (hv : tcB i h c f k s = true) : avB i h c s = true ∧ (0 ≤ f ∧ f ≤ 1000000) ∧ (-1000 ≤ k ∧ k ≤ 1000) := by
  simp only [tcB, Bool.and_eq_true] at hv
  exact ⟨hv.1.1, in_facts hv.1.2, in_facts hv.2⟩
theorem tiB_facts {i h c f k s : Int} (hv : tiB i h c f k s = true) : tcB i h c f k s = true ∧ 0 < k := by
  simpa [tiB] using hv
theorem tiQ {f k : Int} (h0 : 0 ≤ f) (h1 : f ≤ 1000000) (h2 : 0 < k) (h3 : k ≤ 1000) : 0 ≤ (f + k - 1).tdiv k ∧ (f + k - 1).tdiv k ≤ 1001000 := by
  have g : 0 ≤ f + k - 1 := by omega
  rw [Int.tdiv_eq_ediv_of_nonneg g]
  refine ⟨Int.ediv_nonneg g (by omega), ?_⟩
  have := Int.ediv_le_self k g
  omega
theorem tiN_bd (i h c f k s : Int) : 0 ≤ tiN i h c f k s ∧ tiN i h c f k s ≤ 1001000 := by
  unfold tiN
  split
  · next g =>
    have g1 := tiB_facts g
    have g2 := tcB_facts g1.1
    exact tiQ g2.2.1.1 g2.2.1.2 g1.2 g2.2.2.2
  · omega
theorem tiN_yes {i h c f k s : Int} (hv : tiB i h c f k s = true) : tiN i h c f k s = (f + k - 1).tdiv k := by simp [tiN, hv]
theorem tiN_no {i h c f k s : Int} (hv : tiB i h c f k s = false) : tiN i h c f k s = 0 := by simp [tiN, hv]
theorem dfN_bd {oc tc n N : Int} (h2 : -200 ≤ oc ∧ oc ≤ 200) (h4 : -200 ≤ tc ∧ tc ≤ 200) (h5 : 0 ≤ n ∧ n ≤ N) :
    (-(N * 200) ≤ n * oc ∧ n * oc ≤ N * 200) ∧ (-(N * 200) ≤ n * tc ∧ n * tc ≤ N * 200) := by
  exact ⟨mulBd (by omega) (by omega) (by omega) (by omega) (by omega) (by omega), mulBd (by omega) (by omega) (by omega) (by omega) (by omega) (by omega)⟩
theorem thB_facts {oi oh oc os ti th tc tf tk ts near wi : Int} (hv : thB oi oh oc os ti th tc tf tk ts near wi = true) :
    tiB ti th tc tf tk ts = true ∧ avB oi oh oc os = true ∧ ¬ oi = ti ∧ (0 ≤ near ∧ near ≤ 10000) ∧ (1 ≤ wi ∧ wi ≤ 300) ∧ tiN ti th tc tf tk ts ≤ wi := by
  simp only [thB, Bool.and_eq_true, Bool.not_eq_true', beq_eq_false_iff_ne, ne_eq, decide_eq_true_eq] at hv
  exact ⟨hv.1.1.1.1.1.1, hv.1.1.1.1.1.2, hv.1.1.1.1.2, in_facts hv.1.1.1.2, in_facts hv.1.1.2, hv.1.2⟩
theorem frS_in (oi oh oc ti th tc n : Int) : frS oi oh oc ti th tc n = 1 ∨ frS oi oh oc ti th tc n = 2 := by
  unfold frS; split
  · exact .inl rfl
  split
  · exact .inr rfl
  split
  · exact .inl rfl
  · exact .inr rfl
theorem adR_in {oi oh oc os ti th tc tf tk ts near wi : Int} : 0 ≤ adR oi oh oc os ti th tc tf tk ts near wi ∧ adR oi oh oc os ti th tc tf tk ts near wi ≤ 2 := by
  unfold adR
  split
  · next g =>
    have g1 := thB_facts g
    have g2 := avB_facts g1.2.1
    have g3 := avB_facts (tcB_facts (tiB_facts g1.1).1).1
    split
    · omega
    split
    · omega
    rcases frS_in oi oh oc ti th tc (tiN ti th tc tf tk ts) with e | e <;> rw [e] <;> omega
  · omega

/-- Two advised in turn, the first one first. -/
def ps1 (ai ah ac as_ bi bh bc bs far cl near wi : Int) : Int := adR ai ah ac as_ bi bh bc far cl bs near wi
def psS (ai ah ac as_ bi bh bc bs far cl near wi : Int) : Int := if ps1 ai ah ac as_ bi bh bc bs far cl near wi ≠ 0 then ps1 ai ah ac as_ bi bh bc bs far cl near wi else as_
def ps2 (ai ah ac as_ bi bh bc bs far cl near wi : Int) : Int := adR bi bh bc bs ai ah ac far cl (psS ai ah ac as_ bi bh bc bs far cl near wi) near wi
/-- What Pair answers. -/
def prB15 (ai ah ac as_ bi bh bc bs far cl near wi : Int) : Bool := avB ai ah ac as_ && avB bi bh bc bs && !(ai == bi) && inB far 0 1000000 && inB cl (-1000) 1000 && inB near 0 10000 && inB wi 1 300
def pr1 (ai ah ac as_ bi bh bc bs far cl near wi : Int) : Int :=
  if prB15 ai ah ac as_ bi bh bc bs far cl near wi = true then (if bi < ai then ps2 bi bh bc bs ai ah ac as_ far cl near wi else ps1 ai ah ac as_ bi bh bc bs far cl near wi) else 0
def pr2 (ai ah ac as_ bi bh bc bs far cl near wi : Int) : Int :=
  if prB15 ai ah ac as_ bi bh bc bs far cl near wi = true then (if bi < ai then ps1 bi bh bc bs ai ah ac as_ far cl near wi else ps2 ai ah ac as_ bi bh bc bs far cl near wi) else 0

/-- Too low: the first tick. -/
def alOk (gs : List Int) (h c m : Int) : Bool := decide (gs.length ≤ 200) && allB gs (-1000) 60000 && inB h (-1000) 60000 && inB c (-200) 200 && inB m 0 5000
def alF (gs : List Int) (h c m : Int) : Nat := ((List.range gs.length).find? fun k : Nat => decide (h + (k : Int) * c - nth gs k < m)).getD gs.length
def alB (gs : List Int) (h c m : Int) : Bool := alOk gs h c m && decide (alF gs h c m < gs.length)
def alR (gs : List Int) (h c m : Int) : Int := if alB gs h c m = true then (alF gs h c m : Int) else -1
theorem alF_here {gs : List Int} {h c m : Int} {k : Nat} (hk : k < gs.length) (hh : h + (k : Int) * c - nth gs k < m) (hb : ∀ j, j < k → ¬ h + (j : Int) * c - nth gs j < m) : alF gs h c m = k := by
  unfold alF
  have : (List.range gs.length).find? (fun k : Nat => decide (h + (k : Int) * c - nth gs k < m)) = some k := by
    rw [List.find?_range_eq_some]
    refine ⟨by simpa using hh, by simpa using hk, fun j hj => ?_⟩
    have := hb j hj
    simpa using this
  rw [this]; rfl
theorem alF_none {gs : List Int} {h c m : Int} (hb : ∀ j, j < gs.length → ¬ h + (j : Int) * c - nth gs j < m) : alF gs h c m = gs.length := by
  unfold alF
  have : (List.range gs.length).find? (fun k : Nat => decide (h + (k : Int) * c - nth gs k < m)) = none := by
    rw [List.find?_eq_none]
    intro j hj
    have := hb j (by simpa using hj)
    simpa using this
  rw [this]; rfl
theorem alF_facts {gs : List Int} {h c m : Int} (hl : alF gs h c m < gs.length) : h + (alF gs h c m : Int) * c - nth gs (alF gs h c m) < m ∧ ∀ j, j < alF gs h c m → ¬ h + (j : Int) * c - nth gs j < m := by
  unfold alF at hl ⊢
  cases e : (List.range gs.length).find? (fun k : Nat => decide (h + (k : Int) * c - nth gs k < m)) with
  | none => rw [e] at hl; simp at hl
  | some k =>
    rw [List.find?_range_eq_some] at e
    simp only [Option.getD_some]
    refine ⟨by simpa using e.1, fun j hj => ?_⟩
    have := e.2.2 j hj
    simpa using this
theorem alOk_facts {gs : List Int} {h c m : Int} (hv : alOk gs h c m = true) : gs.length ≤ 200 ∧ allB gs (-1000) 60000 = true ∧ (-1000 ≤ h ∧ h ≤ 60000) ∧ (-200 ≤ c ∧ c ≤ 200) ∧ (0 ≤ m ∧ m ≤ 5000) := by
  simp only [alOk, Bool.and_eq_true, decide_eq_true_eq] at hv
  exact ⟨hv.1.1.1.1, hv.1.1.1.2, in_facts hv.1.1.2, in_facts hv.1.2, in_facts hv.2⟩
theorem alAll_at {gs : List Int} {a b : Int} (h : allB gs a b = true) {k : Nat} (hk : k < gs.length) : a ≤ nth gs k ∧ nth gs k ≤ b := by
  simp only [allB, decide_eq_true_eq] at h
  exact in_facts (h k hk)

end Go.Proofs.YtemodlgmjgdjpaaGreatDoor

namespace Go.Proofs.YtemodlgmjgdjpaaGreatDoor
open Go.RowKit

def fracN (n d : Int) : Int := n.tdiv (Int.gcd n d)
def fracD (n d : Int) : Int := d / (Int.gcd n d)

theorem gcd_stepT (a b : Int) : Int.gcd b (a.tmod b) = Int.gcd a b := by
  unfold Int.gcd
  rw [Int.natAbs_tmod, Nat.gcd_comm a.natAbs b.natAbs, Nat.gcd_comm b.natAbs (a.natAbs % b.natAbs), ← Nat.gcd_rec]
theorem gcd_stepE (a b : Int) (ha : 0 ≤ a) : Int.gcd b (a % b) = Int.gcd a b := by
  have e : a.tmod b = a % b := Int.tmod_eq_emod_of_nonneg ha
  rw [← e]; exact gcd_stepT a b
theorem gcd_pos (n d : Int) (h : 1 ≤ d) : (1 : Int) ≤ (Int.gcd n d : Int) := by
  have : 0 < Int.gcd n d := Nat.gcd_pos_of_pos_right _ (by omega)
  omega
theorem gcd_le (n d : Int) (h : 1 ≤ d) : (Int.gcd n d : Int) ≤ d := by
  have : Int.gcd n d ≤ d.natAbs := Nat.gcd_le_right _ (by omega)
  omega

/-- The copying of two numbers by Euclid, both at least 0. -/
theorem emod_lt (a b : Int) (hb : 0 < b) : 0 ≤ a % b ∧ a % b < b := ⟨Int.emod_nonneg _ (by omega), Int.emod_lt_of_pos _ hb⟩

end Go.Proofs.YtemodlgmjgdjpaaGreatDoor

/-
  What the small functions on whole numbers and their lists answer (l1In, l1All, l1Rise of the model; within, allWithin, ascending of the program; szIntS, eqIntS, toIntS of the law): at every argument, with no memory written that was there.
  Carries, defects, deeds and fleets in plain lists: whether they are so, what is due, what may fly, what a deed does. No program here.
-/
import Derived.Test.YtfnnfldfnjnlfahChecked
import Derived.Test.YtfnnfldfnjnlfahMBase
import Derived.Test.YtfnnfldfnjnlfahMCkPure

namespace Go.Proofs.Ytfnnfldfnjnlfah
open Go.RowKit

set_option maxHeartbeats 400000 in
theorem l1In_any (x a b : Int) (w : World) :
    Calls Try.prog 38 #[.int .i64 x, .int .i64 a, .int .i64 b] w fun e w' => e = .returned (.bool (inB x a b)) ∧ w' = w := by
  by_cases h1 : a ≤ x <;> by_cases h2 : x ≤ b
  all_goals
    go_enter Try.func38, Try.ntmps38
    go_wp2
    go_ret
    exact ⟨ret_bool (by simp [inB]; omega), rfl⟩

set_option maxHeartbeats 400000 in
theorem within_any (x a b : Int) (w : World) :
    Calls Try.prog 59 #[.int .i64 x, .int .i64 a, .int .i64 b] w fun e w' => e = .returned (.bool (inB x a b)) ∧ w' = w := by
  by_cases h1 : a ≤ x <;> by_cases h2 : x ≤ b
  all_goals
    go_enter Try.func59, Try.ntmps59
    go_wp2
    go_ret
    exact ⟨ret_bool (by simp [inB]; omega), rfl⟩

theorem l1In_is {c : Bool} (x a b : Int) (w : World) (hc : inB x a b = c) :
    Calls Try.prog 38 #[.int .i64 x, .int .i64 a, .int .i64 b] w fun e w' => e = .returned (.bool c) ∧ w' = w := by
  subst hc; exact l1In_any x a b w
theorem within_is {c : Bool} (x a b : Int) (w : World) (hc : inB x a b = c) :
    Calls Try.prog 59 #[.int .i64 x, .int .i64 a, .int .i64 b] w fun e w' => e = .returned (.bool c) ∧ w' = w := by
  subst hc; exact within_any x a b w

theorem allB_true {zs : List Int} {a b : Int} (h : ∀ j, j < zs.length → inB (nth zs j) a b = true) : allB zs a b = true := by
  simp only [allB, decide_eq_true_eq]; exact h
theorem allB_false {zs : List Int} {a b : Int} {j : Nat} (hj : j < zs.length) (h : inB (nth zs j) a b = false) : allB zs a b = false := by
  simp only [allB, decide_eq_false_iff_not]; intro k; have := k j hj; rw [h] at this; cases this

set_option maxHeartbeats 400000 in
theorem l1All_any (ad : Option Addr) (len cap : Nat) (zs : List Int) (a b : Int) (w : World) (hr : Row w ad len zs) :
    Calls Try.prog 40 #[.slice ad len cap, .int .i64 a, .int .i64 b] w fun e w' => e = .returned (.bool (allB zs a b)) ∧ ∃ n, w' = w.drewN n := by
  have hz := hr.len_eq
  have hs := hr.small
  have hopen := hr.open_
  clear hr
  subst hz
  go_enter Try.func40, Try.ntmps40
  go_wp2
  go_loopw [7] (fun i wr => ∃ k n : Nat, k ≤ zs.length ∧ i = .int .i64 k ∧ Hid (∀ j, j < k → inB (nth zs j) a b = true) ∧ wr = w.drewN n) (fun i _ => zs.length - (intOf i).toNat)
  case atStart => exact ⟨0, 0, Nat.zero_le _, rfl, (fun j hj => by omega), rfl⟩
  case round =>
    obtain ⟨k, n, hk, rfl, hall, rfl⟩ := hrel
    by_cases hlt : k < zs.length
    · rcases hopen with ⟨h0, _⟩ | ⟨bb, off, rfl, _, hc⟩
      · omega
      have hcell := hc k hlt
      clear hc
      cases hin : inB (nth zs k) a b
      · have Hin : Hid (inB (nth zs k) a b = false) := hin
        go_wp2_with (go_at_call 38; refine (l1In_any _ _ _ _).mono ?_; rintro e w' ⟨rfl, rfl⟩)
        go_ret
        exact ⟨ret_bool (allB_false hlt Hin.out).symm, n, rfl⟩
      · have Hin : Hid (inB (nth zs k) a b = true) := hin
        go_wp2_with (go_at_call 38; refine (l1In_any _ _ _ _).mono ?_; rintro e w' ⟨rfl, rfl⟩)
        go_roundw
        case rel => exact ⟨k + 1, n, by omega, by go_num, (fun j hj => by rcases Nat.lt_succ_iff_lt_or_eq.1 hj with h | h; exact hall.out j h; subst h; exact Hin.out), rfl⟩
        case measure => simp [intOf]; omega
    · go_wp2
      go_ret
      exact ⟨ret_bool (allB_true fun j hj => hall.out j (by omega)).symm, n, rfl⟩

set_option maxHeartbeats 400000 in
theorem allWithin_any (ad : Option Addr) (len cap : Nat) (zs : List Int) (a b : Int) (w : World) (hr : Row w ad len zs) :
    Calls Try.prog 43 #[.slice ad len cap, .int .i64 a, .int .i64 b] w fun e w' => e = .returned (.bool (allB zs a b)) ∧ ∃ n, w' = w.drewN n := by
  have hz := hr.len_eq
  have hs := hr.small
  have hopen := hr.open_
  clear hr
  subst hz
  go_enter Try.func43, Try.ntmps43
  go_wp2
  go_loopw [11] (fun i wr => ∃ k n : Nat, k ≤ zs.length ∧ i = .int .i64 k ∧ Hid (∀ j, j < k → inB (nth zs j) a b = true) ∧ wr = w.drewN n) (fun i _ => zs.length - (intOf i).toNat)
  case atStart => exact ⟨0, 0, Nat.zero_le _, rfl, (fun j hj => by omega), rfl⟩
  case round =>
    obtain ⟨k, n, hk, rfl, hall, rfl⟩ := hrel
    by_cases hlt : k < zs.length
    · rcases hopen with ⟨h0, _⟩ | ⟨bb, off, rfl, _, hc⟩
      · omega
      have hcell := hc k hlt
      clear hc
      cases hin : inB (nth zs k) a b
      · have Hin : Hid (inB (nth zs k) a b = false) := hin
        go_wp2_with (go_at_call 59; refine (within_any _ _ _ _).mono ?_; rintro e w' ⟨rfl, rfl⟩)
        go_ret
        exact ⟨ret_bool (allB_false hlt Hin.out).symm, n, rfl⟩
      · have Hin : Hid (inB (nth zs k) a b = true) := hin
        go_wp2_with (go_at_call 59; refine (within_any _ _ _ _).mono ?_; rintro e w' ⟨rfl, rfl⟩)
        go_roundw
        case rel => exact ⟨k + 1, n, by omega, by go_num, (fun j hj => by rcases Nat.lt_succ_iff_lt_or_eq.1 hj with h | h; exact hall.out j h; subst h; exact Hin.out), rfl⟩
        case measure => simp [intOf]; omega
    · go_wp2
      go_ret
      exact ⟨ret_bool (allB_true fun j hj => hall.out j (by omega)).symm, n, rfl⟩

theorem riseB_true {zs : List Int} (h : ∀ j, j + 1 < zs.length → nth zs j < nth zs (j + 1)) : riseB zs = true := by
  simp only [riseB, decide_eq_true_eq]; exact fun i hi => h i (by omega)
theorem riseB_false {zs : List Int} {j : Nat} (hj : j + 1 < zs.length) (h : nth zs (j + 1) ≤ nth zs j) : riseB zs = false := by
  simp only [riseB, decide_eq_false_iff_not]; intro k; have := k j (by omega); omega

set_option maxHeartbeats 400000 in
theorem l1Rise_any (ad : Option Addr) (len cap : Nat) (zs : List Int) (w : World) (hr : Row w ad len zs) :
    Calls Try.prog 39 #[.slice ad len cap] w fun e w' => e = .returned (.bool (riseB zs)) ∧ ∃ n, w' = w.drewN n := by
  have hz := hr.len_eq
  have hs := hr.small
  have hopen := hr.open_
  clear hr
  subst hz
  go_enter Try.func39, Try.ntmps39
  go_wp2
  go_loopw [3] (fun i wr => ∃ k n : Nat, i = .int .i64 ((k : Int) + 1) ∧ k ≤ zs.length ∧ Hid (∀ j, j < k → j + 1 < zs.length → nth zs j < nth zs (j + 1)) ∧ wr = w.drewN n) (fun i _ => zs.length + 1 - (intOf i).toNat)
  case atStart => exact ⟨0, 0, rfl, by omega, (fun j hj => by omega), rfl⟩
  case round =>
    obtain ⟨k, n, rfl, hk, hall, rfl⟩ := hrel
    by_cases hlt : k + 1 < zs.length
    · rcases hopen with ⟨h0, _⟩ | ⟨bb, off, rfl, _, hc⟩
      · simp [h0] at hlt
      have hc1 := hc k (by omega)
      have hc2 := hc (k + 1) hlt
      have hi1 : (0 : Int) ≤ (k : Int) := by omega
      have hi2 : (k : Int) < (zs.length : Int) := by omega
      have hi3 : (k : Int) + 1 < (zs.length : Int) := by omega
      have hi4 : ((k : Int) + 1).toNat = k + 1 := by omega
      clear hc
      by_cases hin : nth zs k < nth zs (k + 1)
      · go_wp2
        go_quiet (fail)
        go_wp2
        go_roundw
        case rel => exact ⟨k + 1, _, by go_num, by omega, (fun j hj h2 => by rcases Nat.lt_succ_iff_lt_or_eq.1 hj with h | h; exact hall.out j h h2; subst h; exact hin), rfl⟩
        case measure => simp [intOf]; omega
      · go_wp2
        go_quiet (fail)
        go_wp2
        go_ret
        exact ⟨ret_bool (riseB_false hlt (by omega)).symm, dn2 _ _ _⟩
    · go_wp2
      go_ret
      exact ⟨ret_bool (riseB_true fun j hj => hall.out j (by omega) hj).symm, n, rfl⟩

set_option maxHeartbeats 400000 in
theorem ascending_any (ad : Option Addr) (len cap : Nat) (zs : List Int) (w : World) (hr : Row w ad len zs) :
    Calls Try.prog 74 #[.slice ad len cap] w fun e w' => e = .returned (.bool (riseB zs)) ∧ ∃ n, w' = w.drewN n := by
  have hz := hr.len_eq
  have hs := hr.small
  have hopen := hr.open_
  clear hr
  subst hz
  go_enter Try.func74, Try.ntmps74
  go_wp2
  go_loopw [3] (fun i wr => ∃ k n : Nat, i = .int .i64 ((k : Int) + 1) ∧ k ≤ zs.length ∧ Hid (∀ j, j < k → j + 1 < zs.length → nth zs j < nth zs (j + 1)) ∧ wr = w.drewN n) (fun i _ => zs.length + 1 - (intOf i).toNat)
  case atStart => exact ⟨0, 0, rfl, by omega, (fun j hj => by omega), rfl⟩
  case round =>
    obtain ⟨k, n, rfl, hk, hall, rfl⟩ := hrel
    by_cases hlt : k + 1 < zs.length
    · rcases hopen with ⟨h0, _⟩ | ⟨bb, off, rfl, _, hc⟩
      · simp [h0] at hlt
      have hc1 := hc k (by omega)
      have hc2 := hc (k + 1) hlt
      have hi1 : (0 : Int) ≤ (k : Int) := by omega
      have hi2 : (k : Int) < (zs.length : Int) := by omega
      have hi3 : (k : Int) + 1 < (zs.length : Int) := by omega
      have hi4 : ((k : Int) + 1).toNat = k + 1 := by omega
      clear hc
      by_cases hin : nth zs k < nth zs (k + 1)
      · go_wp2
        go_quiet (fail)
        go_wp2
        go_roundw
        case rel => exact ⟨k + 1, _, by go_num, by omega, (fun j hj h2 => by rcases Nat.lt_succ_iff_lt_or_eq.1 hj with h | h; exact hall.out j h h2; subst h; exact hin), rfl⟩
        case measure => simp [intOf]; omega
      · go_wp2
        go_quiet (fail)
        go_wp2
        go_ret
        exact ⟨ret_bool (riseB_false hlt (by omega)).symm, dn2 _ _ _⟩
    · go_wp2
      go_ret
      exact ⟨ret_bool (riseB_true fun j hj => hall.out j (by omega) hj).symm, n, rfl⟩

set_option maxHeartbeats 400000 in
theorem szIntS_no (ad : Option Addr) (len cap : Nat) (left : Int) (w : World) (h0 : 0 ≤ left) (h1 : left ≤ 1048576) (hl : len ≤ 9223372036854775807) (h : left < len) :
    Calls Try.prog 37 #[.slice ad len cap, .int .i64 left] w fun e w' => e = .returned (.int .i64 (-1)) ∧ w' = w := by
  go_enter Try.func37, Try.ntmps37
  go_wp2
  go_ret
  exact ⟨rfl, rfl⟩

set_option maxHeartbeats 400000 in
theorem szIntS_yes (ad : Option Addr) (len cap : Nat) (left : Int) (w : World) (h1 : left ≤ 1048576) (h : (len : Int) ≤ left) :
    Calls Try.prog 37 #[.slice ad len cap, .int .i64 left] w fun e w' => e = .returned (.int .i64 (left - len)) ∧ w' = w := by
  go_enter Try.func37, Try.ntmps37
  go_wp2
  go_ret
  exact ⟨rfl, rfl⟩

theorem eqB_true {xs ys : List Int} (hl : xs.length = ys.length) (h : ∀ j, j < xs.length → nth xs j = nth ys j) : eqB xs ys = true := by
  simp only [eqB, decide_eq_true_eq]; exact ⟨hl, h⟩
theorem eqB_false {xs ys : List Int} {j : Nat} (hj : j < xs.length) (h : ¬ nth xs j = nth ys j) : eqB xs ys = false := by
  simp only [eqB, decide_eq_false_iff_not]; intro k; exact h (k.2 j hj)
theorem eqB_len {xs ys : List Int} (h : ¬ xs.length = ys.length) : eqB xs ys = false := by
  simp only [eqB, decide_eq_false_iff_not]; intro k; exact h k.1
theorem eqB_refl (xs : List Int) : eqB xs xs = true := eqB_true rfl fun _ _ => rfl

set_option maxHeartbeats 400000 in
theorem eqIntS_any (ad bd : Option Addr) (len cap len2 cap2 : Nat) (zs ys : List Int) (w : World) (hr : Row w ad len zs) (hr2 : Row w bd len2 ys) :
    Calls Try.prog 44 #[.slice ad len cap, .slice bd len2 cap2] w fun e w' => e = .returned (.bool (eqB zs ys)) ∧ ∃ n, w' = w.drewN n := by
  have hz := hr.len_eq
  have hs := hr.small
  have hopen := hr.open_
  have hz2 := hr2.len_eq
  have hs2 := hr2.small
  have hopen2 := hr2.open_
  clear hr hr2
  subst hz
  subst hz2
  by_cases hne : zs.length = ys.length
  · have hb : ((zs.length : Int) != (ys.length : Int)) = false := by simp; omega
    have Hne := hide hne
    have hle : zs.length ≤ ys.length := by omega
    clear hne
    go_enter Try.func44, Try.ntmps44
    go_wp2
    go_loopw [5] (fun i wr => ∃ k n : Nat, k ≤ zs.length ∧ i = .int .i64 k ∧ Hid (∀ j, j < k → nth zs j = nth ys j) ∧ wr = w.drewN n) (fun i _ => zs.length - (intOf i).toNat)
    case atStart => exact ⟨0, 0, Nat.zero_le _, rfl, (fun j hj => by omega), rfl⟩
    case round =>
      obtain ⟨k, n, hk, rfl, hall, rfl⟩ := hrel
      by_cases hlt : k < zs.length
      · rcases hopen with ⟨h0, _⟩ | ⟨bb, off, rfl, _, hc⟩
        · omega
        rcases hopen2 with ⟨h0, _⟩ | ⟨bb2, off2, rfl, _, hc2⟩
        · omega
        have hcell := hc k hlt
        have hcell2 := hc2 k (by omega)
        have hi1 : (0 : Int) ≤ (k : Int) := by omega
        have hi2 : (k : Int) < (zs.length : Int) := by omega
        have hi3 : (k : Int) < (ys.length : Int) := by omega
        clear hc hc2
        by_cases hin : nth zs k = nth ys k
        · have hbin : (nth zs k != nth ys k) = false := by simp [hin]
          have Hin := hide hin
          clear hin
          go_wp2
          go_quiet (fail)
          go_wp2
          go_roundw
          case rel => exact ⟨k + 1, _, by omega, by go_num, (fun j hj => by rcases Nat.lt_succ_iff_lt_or_eq.1 hj with h | h; exact hall.out j h; subst h; exact unhide Hin), rfl⟩
          case measure => simp [intOf]; omega
        · have hbin : (nth zs k != nth ys k) = true := by simp [hin]
          have Hin := hide hin
          clear hin
          go_wp2
          go_quiet (fail)
          go_wp2
          go_ret
          exact ⟨ret_bool (eqB_false hlt (unhide Hin)).symm, dn2 _ _ _⟩
      · go_wp2
        go_ret
        exact ⟨ret_bool (eqB_true (unhide Hne) fun j hj => hall.out j (by omega)).symm, n, rfl⟩
  · have hb : ((zs.length : Int) != (ys.length : Int)) = true := by simp; omega
    go_enter Try.func44, Try.ntmps44
    go_wp2
    go_ret
    exact ⟨ret_bool (eqB_len hne).symm, 0, rfl⟩

end Go.Proofs.Ytfnnfldfnjnlfah

namespace Go.Proofs.Ytfnnfldfnjnlfah
open Go Go.RowKit

/-- What the list allows of a defect: its name, how many, how many days. -/
structure Cr where
  n : ByteArray
  m : Int
  d : Int
instance : Inhabited Cr := ⟨⟨⟨#[]⟩, 0, 0⟩⟩
/-- A defect: its name, its item, since when. -/
structure Df where
  n : ByteArray
  i : Int
  s : Int
instance : Inhabited Df := ⟨⟨⟨#[]⟩, 0, 0⟩⟩
/-- A deed: its kind, a name, an item, how many. -/
structure De where
  k : Int
  n : ByteArray
  i : Int
  m : Int
instance : Inhabited De := ⟨⟨0, ⟨#[]⟩, 0, 0⟩⟩

section lists
variable {α : Type} [Inhabited α]
/-- Of all of a list. -/
def allE (P : α → Bool) (xs : List α) : Bool := decide (∀ i, i < xs.length → P (elAt xs i) = true)
theorem allE_true {P : α → Bool} {xs : List α} (h : ∀ i, i < xs.length → P (elAt xs i) = true) : allE P xs = true := decide_eq_true h
theorem allE_false {P : α → Bool} {xs : List α} {i : Nat} (hi : i < xs.length) (h : P (elAt xs i) = false) : allE P xs = false := decide_eq_false (fun k => by have := k i hi; rw [h] at this; cases this)
theorem allE_at {P : α → Bool} {xs : List α} (h : allE P xs = true) {i : Nat} (hi : i < xs.length) : P (elAt xs i) = true := of_decide_eq_true h i hi
theorem map_at {β : Type} [Inhabited β] {f : α → β} {xs : List α} {i : Nat} (hi : i < xs.length) : elAt (xs.map f) i = f (elAt xs i) := by
  unfold elAt
  simp [hi]
theorem take_more {xs : List α} {k : Nat} (hk : k < xs.length) : xs.take (k + 1) = xs.take k ++ [elAt xs k] := by
  unfold elAt
  rw [List.take_succ_eq_append_getElem hk]
  simp [hk]
theorem map_take {β : Type} {f : α → β} {xs : List α} {k : Nat} (hk : k < xs.length) : (xs.take (k + 1)).map f = (xs.take k).map f ++ [f (elAt xs k)] := by
  rw [take_more hk]
  simp
/-- A list of at most so many, each so, by names that rise. -/
def listS (most : Nat) (P : α → Bool) (key : α → ByteArray) (xs : List α) : Bool := decide (xs.length ≤ most) && allE P xs && riseS (xs.map key)
def listI (most : Nat) (P : α → Bool) (key : α → Int) (xs : List α) : Bool := decide (xs.length ≤ most) && allE P xs && riseB (xs.map key)
theorem listS_long {most : Nat} {P : α → Bool} {key : α → ByteArray} {xs : List α} (h : ¬ xs.length ≤ most) : listS most P key xs = false := by simp [listS, h]
theorem listI_long {most : Nat} {P : α → Bool} {key : α → Int} {xs : List α} (h : ¬ xs.length ≤ most) : listI most P key xs = false := by simp [listI, h]
theorem listS_el {most : Nat} {P : α → Bool} {key : α → ByteArray} {xs : List α} {i : Nat} (hi : i < xs.length) (h : P (elAt xs i) = false) : listS most P key xs = false := by simp [listS, allE_false hi h]
theorem listI_el {most : Nat} {P : α → Bool} {key : α → Int} {xs : List α} {i : Nat} (hi : i < xs.length) (h : P (elAt xs i) = false) : listI most P key xs = false := by simp [listI, allE_false hi h]
theorem listS_all {most : Nat} {P : α → Bool} {key : α → ByteArray} {xs : List α} (hl : xs.length ≤ most) (h : ∀ i, i < xs.length → P (elAt xs i) = true) : listS most P key xs = riseS (xs.map key) := by simp [listS, hl, allE_true h]
theorem listI_all {most : Nat} {P : α → Bool} {key : α → Int} {xs : List α} (hl : xs.length ≤ most) (h : ∀ i, i < xs.length → P (elAt xs i) = true) : listI most P key xs = riseB (xs.map key) := by simp [listI, hl, allE_true h]
theorem nthI_at {key : α → Int} {xs : List α} {i : Nat} (hi : i < xs.length) : nth (xs.map key) i = key (elAt xs i) := by
  unfold nth elAt
  simp [hi]
theorem listS_fall {most : Nat} {P : α → Bool} {key : α → ByteArray} {xs : List α} {i : Nat} (hi : i + 1 < xs.length) (h : sLt (key (elAt xs i)) (key (elAt xs (i + 1))) = false) : listS most P key xs = false := by
  have : riseS (xs.map key) = false := riseS_false (i := i) (by simpa using hi) (by rw [map_at (by omega), map_at hi]; exact h)
  simp [listS, this]
theorem listI_fall {most : Nat} {P : α → Bool} {key : α → Int} {xs : List α} {i : Nat} (hi : i + 1 < xs.length) (h : key (elAt xs (i + 1)) ≤ key (elAt xs i)) : listI most P key xs = false := by
  have : riseB (xs.map key) = false := riseB_false (j := i) (by simpa using hi) (by rw [nthI_at hi, nthI_at (i := i) (by omega)]; exact h)
  simp [listI, this]
theorem listS_yes {most : Nat} {P : α → Bool} {key : α → ByteArray} {xs : List α} (hl : xs.length ≤ most) (h : ∀ i, i < xs.length → P (elAt xs i) = true) (hr : ∀ i, i + 1 < xs.length → sLt (key (elAt xs i)) (key (elAt xs (i + 1))) = true) : listS most P key xs = true := by
  rw [listS_all hl h]
  refine riseS_true (fun i hi => ?_)
  rw [List.length_map] at hi
  rw [map_at (by omega), map_at hi]
  exact hr i hi
theorem listI_yes {most : Nat} {P : α → Bool} {key : α → Int} {xs : List α} (hl : xs.length ≤ most) (h : ∀ i, i < xs.length → P (elAt xs i) = true) (hr : ∀ i, i + 1 < xs.length → key (elAt xs i) < key (elAt xs (i + 1))) : listI most P key xs = true := by
  rw [listI_all hl h]
  refine riseB_true (fun i hi => ?_)
  rw [List.length_map] at hi
  rw [nthI_at (by omega), nthI_at hi]
  exact hr i hi
theorem listS_facts {most : Nat} {P : α → Bool} {key : α → ByteArray} {xs : List α} (h : listS most P key xs = true) : xs.length ≤ most ∧ (∀ i, i < xs.length → P (elAt xs i) = true) ∧ riseS (xs.map key) = true := by
  simp only [listS, Bool.and_eq_true, decide_eq_true_eq] at h
  exact ⟨h.1.1, fun i hi => allE_at h.1.2 hi, h.2⟩
theorem listI_facts {most : Nat} {P : α → Bool} {key : α → Int} {xs : List α} (h : listI most P key xs = true) : xs.length ≤ most ∧ (∀ i, i < xs.length → P (elAt xs i) = true) ∧ riseB (xs.map key) = true := by
  simp only [listI, Bool.and_eq_true, decide_eq_true_eq] at h
  exact ⟨h.1.1, fun i hi => allE_at h.1.2 hi, h.2⟩
/-- The place of the first of which P is so; -1 if there is none. -/
def ixEr (P : α → Bool) : List α → Nat → Int
  | [], _ => -1
  | x :: r, i => if P x = true then (i : Int) else ixEr P r (i + 1)
def ixE (P : α → Bool) (xs : List α) : Int := ixEr P xs 0
theorem ixEr_none {P : α → Bool} : ∀ {xs : List α} (i : Nat), (∀ j, j < xs.length → P (elAt xs j) = false) → ixEr P xs i = -1
  | [], _, _ => rfl
  | x :: r, i, h => by
    rw [ixEr, if_neg (by have := h 0 (by simp); simp [elAt] at this; simp [this])]
    exact ixEr_none (i + 1) (fun j hj => by simpa [elAt] using h (j + 1) (by simpa using hj))
theorem ixEr_at {P : α → Bool} : ∀ {xs : List α} (i k : Nat), k < xs.length → P (elAt xs k) = true → (∀ j, j < k → P (elAt xs j) = false) → ixEr P xs i = ((i + k : Nat) : Int)
  | [], _, k, hk, _, _ => by simp at hk
  | x :: r, i, 0, _, h, _ => by rw [ixEr, if_pos (by simpa [elAt] using h)]; simp
  | x :: r, i, k + 1, hk, h, hj => by
    rw [ixEr, if_neg (by have := hj 0 (by omega); simp [elAt] at this; simp [this]), ixEr_at (i + 1) k (by simpa using hk) (by simpa [elAt] using h) (fun j h2 => by simpa [elAt] using hj (j + 1) (by omega))]
    congr 1; omega
theorem ixE_none {P : α → Bool} {xs : List α} (h : ∀ j, j < xs.length → P (elAt xs j) = false) : ixE P xs = -1 := ixEr_none 0 h
theorem ixE_at {P : α → Bool} {xs : List α} {k : Nat} (hk : k < xs.length) (h : P (elAt xs k) = true) (hj : ∀ j, j < k → P (elAt xs j) = false) : ixE P xs = (k : Int) := by
  rw [ixE, ixEr_at 0 k hk h hj]; simp
theorem ixE_cases (P : α → Bool) (xs : List α) : (ixE P xs = -1 ∧ ∀ j, j < xs.length → P (elAt xs j) = false) ∨ ∃ k, k < xs.length ∧ ixE P xs = (k : Int) ∧ P (elAt xs k) = true ∧ ∀ j, j < k → P (elAt xs j) = false := by
  have : ∀ m, m ≤ xs.length → (∀ j, j < m → P (elAt xs j) = false) ∨ ∃ k, k < xs.length ∧ P (elAt xs k) = true ∧ ∀ j, j < k → P (elAt xs j) = false := by
    intro m
    induction m with
    | zero => intro _; left; intro j hj; omega
    | succ m ih =>
      intro hm
      rcases ih (by omega) with h | h
      · cases e : P (elAt xs m) with
        | true => exact .inr ⟨m, by omega, e, h⟩
        | false =>
          left; intro j hj
          rcases Nat.lt_or_ge j m with c | c
          · exact h j c
          · obtain rfl : j = m := by omega
            exact e
      · exact .inr h
  rcases this _ (Nat.le_refl _) with h | ⟨k, hk, e, h⟩
  · exact .inl ⟨ixE_none h, h⟩
  · exact .inr ⟨k, hk, ixE_at hk e h, e, h⟩
end lists

/-- Their cells. -/
def crC (p : Cr) : Nat → Value
  | 0 => .string p.n
  | 1 => .int .i64 p.m
  | _ => .int .i64 p.d
def dfC (p : Df) : Nat → Value
  | 0 => .string p.n
  | 1 => .int .i64 p.i
  | _ => .int .i64 p.s
def deC (p : De) : Nat → Value
  | 0 => .int .i64 p.k
  | 1 => .string p.n
  | 2 => .int .i64 p.i
  | _ => .int .i64 p.m
def tsC (p : Ts) : Nat → Value
  | 0 => .string p.nm
  | 1 => .int .i64 p.h
  | 2 => .int .i64 p.c
  | 3 => .int .i64 p.d
  | 4 => .int .i64 p.dh
  | 5 => .int .i64 p.dc
  | _ => .int .i64 p.dd
/-- A text that can be there, numbers of 64 bits. -/
def fitT (s : ByteArray) : Prop := s.size ≤ 9223372036854775807
def fitN (a : Int) : Prop := -9223372036854775808 ≤ a ∧ a ≤ 9223372036854775807

/-- Whether a carry, a list of carries is so. -/
def crB (c : Cr) : Bool := nameB c.n && inB c.m 0 10 && inB c.d 0 120
def caB (cs : List Cr) : Bool := listS 20 crB (·.n) cs
/-- A fleet: tasks, carries, defects, now. -/
structure Fl where
  ts : List Ts
  cs : List Cr
  ds : List Df
  nh : Int
  nc : Int
  nd : Int
/-- Whether a task, a defect, a fleet is so. -/
def tkB (nh nc nd : Int) (t : Ts) : Bool := tsB t && bhB t.dh t.dc t.dd nh nc nd
def dkB (nd : Int) (d : Df) : Bool := nameB d.n && inB d.i 1 1000000 && inB d.s 0 nd
def flB (f : Fl) : Bool := ckB f.nh f.nc f.nd && caB f.cs && listS 40 (tkB f.nh f.nc f.nd) (·.nm) f.ts && listI 20 (dkB f.nd) (·.i) f.ds
theorem flB_facts {f : Fl} (h : flB f = true) : ckB f.nh f.nc f.nd = true ∧ caB f.cs = true ∧ listS 40 (tkB f.nh f.nc f.nd) (·.nm) f.ts = true ∧ listI 20 (dkB f.nd) (·.i) f.ds = true := by
  simp only [flB, Bool.and_eq_true] at h
  exact ⟨h.1.1.1, h.1.1.2, h.1.2, h.2⟩
/-- Whether a task is due now; the place of a carry by its name; how many defects have a name. -/
def duT (f : Fl) (t : Ts) : Bool := d9D t f.nh f.nc f.nd
def qCr (nm : ByteArray) (c : Cr) : Bool := decide (c.n = nm)
def caF (f : Fl) (nm : ByteArray) : Int := ixE (qCr nm) f.cs
def mnK (ds : List Df) (nm : ByteArray) : Nat → Int
  | 0 => 0
  | k + 1 => mnK ds nm k + if (elAt ds k).n = nm then 1 else 0
theorem mnK_bd (ds : List Df) (nm : ByteArray) (k : Nat) : 0 ≤ mnK ds nm k ∧ mnK ds nm k ≤ k := by
  induction k with
  | zero => simp [mnK]
  | succ k ih => rw [mnK]; split <;> omega
def mnF (ds : List Df) (nm : ByteArray) : Int := mnK ds nm ds.length
/-- Why a defect bars: it is not listed, there are too many, it is too old. -/
def unB (f : Fl) (d : Df) : Bool := decide (caF f d.n < 0)
def mnB (f : Fl) (d : Df) : Bool := !decide (caF f d.n < 0) && decide ((elAt f.cs (caF f d.n).toNat).m < mnF f.ds d.n)
def olB (f : Fl) (d : Df) : Bool := !decide (caF f d.n < 0) && decide ((elAt f.cs (caF f d.n).toNat).d < f.nd - d.s)
/-- What Release tells. -/
def rlR (f : Fl) : Int × ByteArray :=
  if flB f = false then (1, ⟨#[]⟩)
  else if 0 ≤ ixE (duT f) f.ts then (2, (elAt f.ts (ixE (duT f) f.ts).toNat).nm)
  else if 0 ≤ ixE (unB f) f.ds then (3, (elAt f.ds (ixE (unB f) f.ds).toNat).n)
  else if 0 ≤ ixE (mnB f) f.ds then (4, (elAt f.ds (ixE (mnB f) f.ds).toNat).n)
  else if 0 ≤ ixE (olB f) f.ds then (5, (elAt f.ds (ixE (olB f) f.ds).toNat).n)
  else (0, ⟨#[]⟩)
/-- What NextDue tells. -/
def nxK (f : Fl) : Nat → ByteArray × Int × Bool
  | 0 => (⟨#[]⟩, 0, false)
  | k + 1 => if d9D (elAt f.ts k) f.nh f.nc f.nd = false ∧ 0 < (elAt f.ts k).c ∧ ((nxK f k).2.2 = false ∨ d9C (elAt f.ts k) f.nh f.nc f.nd < (nxK f k).2.1) then ((elAt f.ts k).nm, d9C (elAt f.ts k) f.nh f.nc f.nd, true) else nxK f k
def nxR (f : Fl) : ByteArray × Int × Bool := if flB f = true then nxK f f.ts.length else (⟨#[]⟩, 0, false)
/-- Where an item stands or would stand; whether it is there. -/
def plR (it : Int) : List Df → Nat
  | [] => 0
  | d :: r => if d.i < it then plR it r + 1 else 0
theorem plR_at (it : Int) : ∀ (ds : List Df) (k : Nat), k ≤ ds.length → (∀ j, j < k → (elAt ds j).i < it) → (k = ds.length ∨ ¬ (elAt ds k).i < it) → plR it ds = k
  | [], k, hk, _, _ => by simp at hk; rw [hk]; rfl
  | d :: r, 0, _, _, h => by
    rcases h with h | h
    · simp at h
    · rw [plR, if_neg (by simpa [elAt] using h)]
  | d :: r, k + 1, hk, hj, h => by
    rw [plR, if_pos (by simpa [elAt] using hj 0 (by omega)), plR_at it r k (by simpa using hk) (fun j h2 => by simpa [elAt] using hj (j + 1) (by omega)) (by
      rcases h with h | h
      · left; simpa using h
      · right; simpa [elAt] using h)]
theorem plR_le (it : Int) : ∀ (ds : List Df), plR it ds ≤ ds.length
  | [] => Nat.le_refl _
  | d :: r => by rw [plR]; split; have := plR_le it r; simpa using this; simp
def atI (ds : List Df) (it : Int) : Bool := decide (plR it ds < ds.length ∧ (elAt ds (plR it ds)).i = it)
def qTs (nm : ByteArray) (t : Ts) : Bool := decide (t.nm = nm)
/-- What a deed does; whether it is done. -/
def flyB (f : Fl) (d : De) : Bool := decide ((rlR f).1 = 0) && inB d.m 1 100 && ckB (f.nh + d.m) (f.nc + 1) f.nd
def dayB (f : Fl) (d : De) : Bool := inB d.m 1 100 && ckB f.nh f.nc (f.nd + d.m)
def tskB (f : Fl) (d : De) : Bool := decide (0 ≤ ixE (qTs d.n) f.ts)
def fndB (f : Fl) (d : De) : Bool := !atI f.ds d.i && dkB f.nd ⟨d.n, d.i, f.nd⟩ && decide (f.ds.length < 20)
def dwB (f : Fl) (d : De) : Bool := flB f && ((decide (d.k = 1) && flyB f d) || (decide (d.k = 2) && tskB f d) || (decide (d.k = 3) && fndB f d) || (decide (d.k = 4) && atI f.ds d.i) || (decide (d.k = 5) && dayB f d))
def dnT (f : Fl) (t : Ts) : Ts := ⟨t.nm, t.h, t.c, t.d, f.nh, f.nc, f.nd⟩
def dwF (f : Fl) (d : De) : Fl :=
  if dwB f d = false then f
  else if d.k = 1 then ⟨f.ts, f.cs, f.ds, f.nh + d.m, f.nc + 1, f.nd⟩
  else if d.k = 2 then ⟨f.ts.set (ixE (qTs d.n) f.ts).toNat (dnT f (elAt f.ts (ixE (qTs d.n) f.ts).toNat)), f.cs, f.ds, f.nh, f.nc, f.nd⟩
  else if d.k = 3 then ⟨f.ts, f.cs, f.ds.take (plR d.i f.ds) ++ ⟨d.n, d.i, f.nd⟩ :: f.ds.drop (plR d.i f.ds), f.nh, f.nc, f.nd⟩
  else if d.k = 4 then ⟨f.ts, f.cs, f.ds.take (plR d.i f.ds) ++ f.ds.drop (plR d.i f.ds + 1), f.nh, f.nc, f.nd⟩
  else ⟨f.ts, f.cs, f.ds, f.nh, f.nc, f.nd + d.m⟩
/-- Deeds one behind the other: the fleet behind k of them, what they told. -/
def rwF (f : Fl) (es : List De) : Nat → Fl
  | 0 => f
  | k + 1 => dwF (rwF f es k) (elAt es k)
def rwT (f : Fl) (es : List De) : Nat → List Bool
  | 0 => []
  | k + 1 => rwT f es k ++ [dwB (rwF f es k) (elAt es k)]
theorem rwT_len (f : Fl) (es : List De) (k : Nat) : (rwT f es k).length = k := by
  induction k with
  | zero => rfl
  | succ k ih => simp [rwT, ih]
def rwN (es : List De) : Nat := if es.length ≤ 100 then es.length else 0

end Go.Proofs.Ytfnnfldfnjnlfah

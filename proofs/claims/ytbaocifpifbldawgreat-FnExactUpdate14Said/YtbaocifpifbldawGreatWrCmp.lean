/-
  Rules in the order in which they are told: the louder first, then by name: what the program's louderFirst answers, and that it is an order. Only new blocks are made.
-/
import Derived.Test.YtbaocifpifbldawGreatWbBook
import Derived.Test.YtbaocifpifbldawGreatBel
import Derived.Deep.RegionHeld3

namespace Go.Proofs.YtbaocifpifbldawGreat
open Go.RowKit

/-- -1, 0 or 1. -/
def cI (a b : Int) : Int := if a < b then -1 else if b < a then 1 else 0
def cS (x y : ByteArray) : Int := if sLt x y = true then -1 else if sLt y x = true then 1 else 0
/-- The louder first, of equal ones by name. -/
def cL (p p' : Wr) : Int := if cI p'.r p.r = 0 then cS p.n p'.n else cI p'.r p.r
set_option maxHeartbeats 1000000 in
theorem nanI_any (x : Int) (w : World) : Calls Tryz.prog 85 #[.int .i64 x] w fun e w' => e = .returned (.bool false) ∧ w' = w := by
  have h : (x != x) = false := by simp
  go_enter Tryz.func85, Tryz.ntmps85
  go_wp2_with fail
  go_ret
  exact ⟨rfl, rfl⟩
set_option maxHeartbeats 1000000 in
theorem nanS_any (x : ByteArray) (w : World) : Calls Tryz.prog 86 #[.string x] w fun e w' => e = .returned (.bool false) ∧ w' = w := by
  have h : (x.toList != x.toList) = false := by simp
  have h2 : (x.toList == x.toList) = true := by simp
  go_enter Tryz.func86, Tryz.ntmps86
  go_wp2_with fail
  go_ret
  exact ⟨rfl, rfl⟩
set_option maxHeartbeats 1000000 in
theorem cmpI_any (a b : Int) (w : World) : Calls Tryz.prog 68 #[.int .i64 a, .int .i64 b] w fun e w' => e = .returned (.int .i64 (cI a b)) ∧ w' = w := by
  by_cases h1 : a < b
  · have HE : Hid (cI a b = -1) := hide (by unfold cI; rw [if_pos h1])
    go_enter Tryz.func68, Tryz.ntmps68
    go_wp2_with (go_at_call 85; refine (nanI_any _ _).mono ?_; rintro e w' ⟨rfl, hw⟩; subst w')
    go_ret
    exact ⟨ret_int (unhide HE).symm, rfl⟩
  · by_cases h2 : b < a
    · have HE : Hid (cI a b = 1) := hide (by unfold cI; rw [if_neg h1, if_pos h2])
      go_enter Tryz.func68, Tryz.ntmps68
      go_wp2_with (go_at_call 85; refine (nanI_any _ _).mono ?_; rintro e w' ⟨rfl, hw⟩; subst w')
      go_ret
      exact ⟨ret_int (unhide HE).symm, rfl⟩
    · have HE : Hid (cI a b = 0) := hide (by unfold cI; rw [if_neg h1, if_neg h2])
      go_enter Tryz.func68, Tryz.ntmps68
      go_wp2_with (go_at_call 85; refine (nanI_any _ _).mono ?_; rintro e w' ⟨rfl, hw⟩; subst w')
      go_ret
      exact ⟨ret_int (unhide HE).symm, rfl⟩
set_option maxHeartbeats 1000000 in
theorem cmpS_any (a b : ByteArray) (w : World) : Calls Tryz.prog 69 #[.string a, .string b] w fun e w' => e = .returned (.int .i64 (cS a b)) ∧ w' = w := by
  have HD : Hid (sLt a b = Op.bytesLess a.toList b.toList) := hide rfl
  have HD2 : Hid (sLt b a = Op.bytesLess b.toList a.toList) := hide rfl
  cases h1 : Op.bytesLess a.toList b.toList with
  | true =>
    have HE : Hid (cS a b = -1) := hide (by unfold cS; rw [unhide HD, h1, if_pos rfl])
    go_enter Tryz.func69, Tryz.ntmps69
    go_wp2_with (go_at_call 86; refine (nanS_any _ _).mono ?_; rintro e w' ⟨rfl, hw⟩; subst w')
    go_ret
    exact ⟨ret_int (unhide HE).symm, rfl⟩
  | false =>
    have HOR : Hid ((Op.bytesLess a.toList b.toList || a.toList == b.toList) = !Op.bytesLess b.toList a.toList) := hide (sLt_or b a)
    rw [h1] at HOR
    cases h2 : Op.bytesLess b.toList a.toList with
    | true =>
      rw [h2] at HOR
      have h3 : (a.toList == b.toList) = false := by have := unhide HOR; simpa using this
      have HE : Hid (cS a b = 1) := hide (by unfold cS; rw [unhide HD, h1, unhide HD2, h2]; rfl)
      go_enter Tryz.func69, Tryz.ntmps69
      go_wp2_with (go_at_call 86; refine (nanS_any _ _).mono ?_; rintro e w' ⟨rfl, hw⟩; subst w')
      go_ret
      exact ⟨ret_int (unhide HE).symm, rfl⟩
    | false =>
      rw [h2] at HOR
      have h3 : (a.toList == b.toList) = true := by have := unhide HOR; simpa using this
      have HE : Hid (cS a b = 0) := hide (by unfold cS; rw [unhide HD, h1, unhide HD2, h2]; rfl)
      go_enter Tryz.func69, Tryz.ntmps69
      go_wp2_with (go_at_call 86; refine (nanS_any _ _).mono ?_; rintro e w' ⟨rfl, hw⟩; subst w')
      go_ret
      exact ⟨ret_int (unhide HE).symm, rfl⟩
set_option maxHeartbeats 1000000 in
theorem or_any (a b : Int) (B : Nat) (w : World) (hb : Blk w B [.int .i64 a, .int .i64 b]) : Calls Tryz.prog 67 #[.slice (some ⟨B, 0, none⟩) 2 2] w fun e w' => e = .returned (.int .i64 (if a = 0 then b else a)) ∧ w' = w := by
  have c0 : w.cell? ⟨B, 0, none⟩ = some (.int .i64 a) := hb.c 0 (by simp)
  have c1 : w.cell? ⟨B, 1, none⟩ = some (.int .i64 b) := hb.c 1 (by simp)
  clear hb
  obtain ⟨R, hR⟩ : ∃ R, (if a = 0 then b else a) = R := ⟨_, rfl⟩
  have HR := hide hR
  rw [hR]
  clear hR
  go_enter Tryz.func67, Tryz.ntmps67
  go_wp2_with fail
  go_loopw [8] (fun s8 wr => ∃ i : Nat, i ≤ 2 ∧ s8 = .int .i64 (i : Int) ∧ Hid ((1 ≤ i → a = 0) ∧ (2 ≤ i → b = 0)) ∧ wr = w) (fun s8 _ => 2 - (intOf s8).toNat)
  case atStart => exact ⟨0, by omega, rfl, hide ⟨fun h => by omega, fun h => by omega⟩, rfl⟩
  case round =>
    obtain ⟨i, hi, rfl, HI, hwr⟩ := hrel
    subst wr
    rcases (show i = 0 ∨ i = 1 ∨ i = 2 from by omega) with rfl | rfl | rfl
    · by_cases h : a = 0
      · have h2 : (a != 0) = false := by simp [h]
        have HA := hide h
        clear h
        go_wp2_with fail
        go_roundw
        case rel => exact ⟨1, by omega, by go_num, hide ⟨fun _ => unhide HA, fun h => by omega⟩, by first | rfl | trivial⟩
        case measure => simp [intOf]
      · have h2 : (a != 0) = true := by simp [h]
        have HE : Hid (R = a) := hide (by rw [← unhide HR, if_neg h])
        clear h
        go_wp2_with fail
        go_ret
        exact ⟨ret_int (unhide HE).symm, rfl⟩
    · have HA := hide ((unhide HI).1 (by omega))
      have HE : Hid (R = b) := hide (by rw [← unhide HR, if_pos (unhide HA)])
      by_cases h : b = 0
      · have h2 : (b != 0) = false := by simp [h]
        have HB := hide h
        clear h
        go_wp2_with fail
        go_roundw
        case rel => exact ⟨2, by omega, by go_num, hide ⟨fun _ => unhide HA, fun _ => unhide HB⟩, by first | rfl | trivial⟩
        case measure => simp [intOf]
      · have h2 : (b != 0) = true := by simp [h]
        clear h
        go_wp2_with fail
        go_ret
        exact ⟨ret_int (unhide HE).symm, rfl⟩
    · have HE : Hid (R = 0) := hide (by rw [← unhide HR, if_pos ((unhide HI).1 (by omega))]; exact (unhide HI).2 (by omega))
      go_wp2_with fail
      go_ret
      exact ⟨ret_int (unhide HE).symm, rfl⟩

end Go.Proofs.YtbaocifpifbldawGreat

/-
  The law FnLives returns true at every list of bytes and writes nothing that was there: the walk. No condition.
-/
import Derived.Test.YtnpohiceefkhdacAtFix
import Derived.Test.YtnpohiceefkhdacLeftIm2
import Derived.Test.YtnpohiceefkhdacDueImpl
import Derived.Test.YtnpohiceefkhdacLiveFacts
namespace Go.Proofs.Ytnpohiceefkhdac
open Go.RowKit Go.Maps

/-- The law's own lists: one life, two stays. -/
theorem one_row (V : World) (T : TypeId) (n : ByteArray) (a b c : Int) : RowE 4 ptC (V.alloc (Obj.cells #[.string n, .int .i64 a, .int .i64 b, .int .i64 c] T)) (some ⟨V.heap.size, 0, none⟩) 1 [⟨n, a, b, c⟩] := by
  refine ⟨rfl, by omega, fun i hi => ⟨_, _, rfl, fun q hq => ?_⟩⟩
  obtain rfl : i = 0 := by omega
  rcases (show q = 0 ∨ q = 1 ∨ q = 2 ∨ q = 3 from by omega) with rfl | rfl | rfl | rfl <;> simp [go_sem, elAt, ptC]
theorem two_row (V : World) (T : TypeId) (n : ByteArray) (a b c : Int) (m : ByteArray) (d e f : Int) : RowE 4 ptC (V.alloc (Obj.cells #[.string n, .int .i64 a, .int .i64 b, .int .i64 c, .string m, .int .i64 d, .int .i64 e, .int .i64 f] T)) (some ⟨V.heap.size, 0, none⟩) 2 [⟨n, a, b, c⟩, ⟨m, d, e, f⟩] := by
  refine ⟨rfl, by omega, fun i hi => ⟨_, _, rfl, fun q hq => ?_⟩⟩
  rcases (show i = 0 ∨ i = 1 from by omega) with rfl | rfl <;> rcases (show q = 0 ∨ q = 1 ∨ q = 2 ∨ q = 3 from by omega) with rfl | rfl | rfl | rfl <;> simp [go_sem, elAt, ptC]
theorem fit_small {ps : List Pt} (h : ∀ p ∈ ps, ptFit p) (i : Nat) : ptFit (elAt ps i) := by
  unfold elAt
  by_cases hi : i < ps.length
  · rw [List.getElem?_eq_getElem hi]; exact h _ (List.getElem_mem hi)
  · rw [List.getElem?_eq_none (by omega)]
    exact ⟨by decide, by decide, by decide, by decide⟩

set_option maxRecDepth 20000 in
set_option maxHeartbeats 8000000 in
theorem lawFnLives (a : Option Addr) (len cap : Nat) (w : World) (hb : Bytes w a len) :
    Calls Try.prog 4 #[.slice a len cap] w fun e w' => e = .returned (.bool true) ∧ Below w.heap.size w w' := by
  by_cases hbig : (1048576 : Int) < len
  · have hbg := big_any a len cap
    go_enter Try.func4, Try.ntmps4
    go_wp2_with fail
    refine (hbg _).mono ?_
    rintro e w' ⟨rfl, hw⟩
    subst w'
    go_wp2_with fail
    go_ret
    exact ⟨rfl, Below.refl _ _⟩
  have hl : len ≤ 1048576 := by omega
  obtain ⟨x0, hx0, at0⟩ := at_fix a len cap 0 w hb hl (by omega)
  obtain ⟨x1, hx1, at1⟩ := at_fix a len cap 1 w hb hl (by omega)
  obtain ⟨x2, hx2, at2⟩ := at_fix a len cap 2 w hb hl (by omega)
  obtain ⟨x3, hx3, at3⟩ := at_fix a len cap 3 w hb hl (by omega)
  have AT0 := hide at0
  have AT1 := hide at1
  have AT2 := hide at2
  have AT3 := hide at3
  obtain ⟨b0, hb0⟩ : ∃ b0, 1 + x0 = b0 := ⟨_, rfl⟩
  obtain ⟨b1, hb1⟩ : ∃ b1, 1 + x1 = b1 := ⟨_, rfl⟩
  have f0 : 1 ≤ b0 ∧ b0 ≤ 256 := by omega
  have f1 : 1 ≤ b1 ∧ b1 ≤ 256 := by omega
  have HLEFT := hide (live_left f0 f1 hx2 hx3)
  have HDUE := hide (live_due f0 f1 hx2 hx3)
  have HOK := hide (live_ok f0 f1 hx2 hx3)
  have HP : Hid ((⟨#[112, 117, 109, 112]⟩ : ByteArray) = pumpS) := hide rfl
  clear hb at0 at1 at2 at3 hbig
  go_enter Try.func4, Try.ntmps4
  go_wp2_with fail
  refine (big_any a len cap _).mono ?_
  rintro e w' ⟨rfl, hw⟩
  subst w'
  go_wp2_with fail
  refine ((unhide AT0) w (Below.refl _ _)).mono ?_
  rintro e w' ⟨rfl, hw⟩
  subst w'
  go_wp2_with fail
  refine ((unhide AT1) w (Below.refl _ _)).mono ?_
  rintro e w' ⟨rfl, hw⟩
  subst w'
  go_wp2_with fail
  obtain ⟨V1, hV1⟩ : ∃ V1, V1 = w.alloc (Obj.cells #[.string ⟨#[112, 117, 109, 112]⟩, .int .i64 b0, .int .i64 b1, .int .i64 0] 31) := ⟨_, rfl⟩
  rw [← hV1]
  have BV1 : Below w.heap.size w V1 := by rw [hV1]; exact bel1 _
  have KL : Blk V1 w.heap.size [.string ⟨#[112, 117, 109, 112]⟩, .int .i64 b0, .int .i64 b1, .int .i64 0] := by rw [hV1]; exact Blk.new _ _
  have zV1 : V1.heap.size = w.heap.size + 1 := by rw [hV1]; simp
  refine ((unhide AT2) V1 BV1).mono ?_
  rintro e w' ⟨rfl, hw⟩
  subst w'
  clear hV1
  go_wp2_with fail
  refine ((unhide AT3) V1 BV1).mono ?_
  rintro e w' ⟨rfl, hw⟩
  subst w'
  obtain ⟨V2, hV2⟩ : ∃ V2, V2 = V1.alloc (Obj.cells #[.string ⟨#[112, 117, 109, 112]⟩, .int .i64 x2, .int .i64 x3, .int .i64 0] 32) := ⟨_, rfl⟩
  have BV2 := hide (show Below w.heap.size w V2 by rw [hV2]; exact BV1.alloc BV1.size _)
  have KL2 := hide (show Blk V2 w.heap.size [.string ⟨#[112, 117, 109, 112]⟩, .int .i64 b0, .int .i64 b1, .int .i64 0] by rw [hV2]; exact KL.alloc _)
  have KS2 := hide (show Blk V2 (w.heap.size + 1) [.string ⟨#[112, 117, 109, 112]⟩, .int .i64 x2, .int .i64 x3, .int .i64 0] by rw [hV2, ← zV1]; exact Blk.new _ _)
  have HV2 := hide hV2
  have k0 : V1.cell? ⟨w.heap.size, 0, none⟩ = some (.string ⟨#[112, 117, 109, 112]⟩) := KL.c 0 (by simp)
  have k1 : V1.cell? ⟨w.heap.size, 1, none⟩ = some (.int .i64 b0) := KL.c 1 (by simp)
  have k2 : V1.cell? ⟨w.heap.size, 2, none⟩ = some (.int .i64 b1) := KL.c 2 (by simp)
  have k3 : V1.cell? ⟨w.heap.size, 3, none⟩ = some (.int .i64 0) := KL.c 3 (by simp)
  clear BV1 KL hV2
  go_wp2_with fail
  rw [← unhide HV2]
  refine (implLeft6_any _ _ b0 b1 0 x2 x3 0 _ (by decide) ⟨by omega, by omega, by omega⟩ ⟨by omega, by omega, by omega⟩).mono ?_
  rintro e w3 ⟨rfl, c3⟩
  rw [unhide HP]
  have B3 := hide ((unhide BV2).trans (c3.mono (unhide BV2).size))
  have KL3 := (unhide KL2).below c3
  have KS3 := (unhide KS2).below c3
  clear c3 k0 k1 k2 k3
  have a0 : w3.cell? ⟨w.heap.size, 0, none⟩ = some (.string ⟨#[112, 117, 109, 112]⟩) := KL3.c 0 (by simp)
  have a1 : w3.cell? ⟨w.heap.size, 1, none⟩ = some (.int .i64 b0) := KL3.c 1 (by simp)
  have a2 : w3.cell? ⟨w.heap.size, 2, none⟩ = some (.int .i64 b1) := KL3.c 2 (by simp)
  have a3 : w3.cell? ⟨w.heap.size, 3, none⟩ = some (.int .i64 0) := KL3.c 3 (by simp)
  have e0 : w3.cell? ⟨w.heap.size + 1, 0, none⟩ = some (.string ⟨#[112, 117, 109, 112]⟩) := KS3.c 0 (by simp)
  have e1 : w3.cell? ⟨w.heap.size + 1, 1, none⟩ = some (.int .i64 x2) := KS3.c 1 (by simp)
  have e2 : w3.cell? ⟨w.heap.size + 1, 2, none⟩ = some (.int .i64 x3) := KS3.c 2 (by simp)
  have e3 : w3.cell? ⟨w.heap.size + 1, 3, none⟩ = some (.int .i64 0) := KS3.c 3 (by simp)
  have z3 : w.heap.size + 1 < w3.heap.size := KS3.lt
  obtain ⟨V4, hV4⟩ : ∃ V4, V4 = (w3.alloc (Obj.cells #[.string ⟨#[112, 117, 109, 112]⟩, .int .i64 b0, .int .i64 b1, .int .i64 0] 31)).alloc (Obj.cells #[.string ⟨#[112, 117, 109, 112]⟩, .int .i64 x2, .int .i64 x3, .int .i64 0, .string ⟨#[102, 97, 110]⟩, .int .i64 0, .int .i64 0, .int .i64 0] 32) := ⟨_, rfl⟩
  have RL4 := hide (show RowE 4 ptC V4 (some ⟨w3.heap.size, 0, none⟩) 1 [⟨pumpS, b0, b1, 0⟩] by rw [hV4]; exact (one_row _ _ _ _ _ _).alloc _)
  have RS4 := hide (show RowE 4 ptC V4 (some ⟨w3.heap.size + 1, 0, none⟩) 2 [⟨pumpS, x2, x3, 0⟩, ⟨fanS, 0, 0, 0⟩] by
    have h := two_row (w3.alloc (Obj.cells #[.string ⟨#[112, 117, 109, 112]⟩, .int .i64 b0, .int .i64 b1, .int .i64 0] 31)) 32 pumpS x2 x3 0 fanS 0 0 0
    have hsz : (w3.alloc (Obj.cells #[.string ⟨#[112, 117, 109, 112]⟩, .int .i64 b0, .int .i64 b1, .int .i64 0] 31)).heap.size = w3.heap.size + 1 := by simp
    rw [hsz] at h
    rw [hV4]; exact h)
  have B4 := hide (show Below w.heap.size w V4 by rw [hV4]; exact ((unhide B3).alloc (unhide B3).size _).alloc (by have := (unhide B3).size; simp; omega) _)
  have KL4 := hide (show Blk V4 w.heap.size [.string ⟨#[112, 117, 109, 112]⟩, .int .i64 b0, .int .i64 b1, .int .i64 0] by rw [hV4]; exact (KL3.alloc _).alloc _)
  have KS4 := hide (show Blk V4 (w.heap.size + 1) [.string ⟨#[112, 117, 109, 112]⟩, .int .i64 x2, .int .i64 x3, .int .i64 0] by rw [hV4]; exact (KS3.alloc _).alloc _)
  have HV4 := hide hV4
  have HFL : Hid (∀ i, ptFit (elAt [(⟨pumpS, b0, b1, 0⟩ : Pt)] i)) := hide (fit_small (fun p hp => by
    simp only [List.mem_singleton] at hp; subst hp
    exact ⟨by show (4 : Nat) ≤ _; decide, by show _ ≤ b0 ∧ b0 ≤ _; omega, by show _ ≤ b1 ∧ b1 ≤ _; omega, by show _ ≤ (0 : Int) ∧ (0 : Int) ≤ _; omega⟩))
  have HFS : Hid (∀ i, ptFit (elAt [(⟨pumpS, x2, x3, 0⟩ : Pt), ⟨fanS, 0, 0, 0⟩] i)) := hide (fit_small (fun p hp => by
    simp only [List.mem_cons, List.not_mem_nil, or_false] at hp
    rcases hp with rfl | rfl
    · exact ⟨by show (4 : Nat) ≤ _; decide, by show _ ≤ x2 ∧ x2 ≤ _; omega, by show _ ≤ x3 ∧ x3 ≤ _; omega, by show _ ≤ (0 : Int) ∧ (0 : Int) ≤ _; omega⟩
    · exact ⟨by show (3 : Nat) ≤ _; decide, by decide, by decide, by decide⟩))
  clear KL3 KS3 hV4
  rcases unhide HLEFT with ⟨hlf, hsg⟩ | ⟨hlf, hsg⟩
  · rw [hlf]
    go_wp2_with fail
    rw [← unhide HV4]
    refine (implDue6_any _ _ _ [⟨pumpS, b0, b1, 0⟩] _ _ _ [⟨pumpS, x2, x3, 0⟩, ⟨fanS, 0, 0, 0⟩] _ (unhide RL4) (unhide RS4) (unhide HFL) (unhide HFS)).mono ?_
    rintro e w5 ⟨g, cap5, rfl, hown, c5⟩
    rw [unhide HDUE] at hown
    rw [unhide HDUE, unhide HOK]
    have B5 := hide ((unhide B4).trans (c5.mono (unhide B4).size))
    have KL5 := (unhide KL4).below c5
    have KS5 := (unhide KS4).below c5
    clear a0 a1 a2 a3 e0 e1 e2 e3 c5 hlf
    have a1 : w5.cell? ⟨w.heap.size, 1, none⟩ = some (.int .i64 b0) := KL5.c 1 (by simp)
    have a2 : w5.cell? ⟨w.heap.size, 2, none⟩ = some (.int .i64 b1) := KL5.c 2 (by simp)
    have e1 : w5.cell? ⟨w.heap.size + 1, 1, none⟩ = some (.int .i64 x2) := KS5.c 1 (by simp)
    have e2 : w5.cell? ⟨w.heap.size + 1, 2, none⟩ = some (.int .i64 x3) := KS5.c 2 (by simp)
    clear KL5 KS5
    by_cases h1 : b0 ≤ x2 <;> by_cases h2 : b1 ≤ x3
    all_goals
      first
      | (exfalso; omega)
      | (have his : b0 ≤ x2 ∨ b1 ≤ x3 := by omega
         rw [if_pos his] at hown ⊢
         have d0 : w5.cell? ⟨g, 0, none⟩ = some (.string ⟨#[102, 97, 110]⟩) := hown.cellAt 0 (by simp)
         have d1 : w5.cell? ⟨g, 1, none⟩ = some (.string ⟨#[112, 117, 109, 112]⟩) := hown.cellAt 1 (by simp)
         clear hown his hsg
         go_wp2_with fail
         go_ret
         exact ⟨rfl, unhide B5⟩)
      | (have his : ¬ (b0 ≤ x2 ∨ b1 ≤ x3) := by omega
         rw [if_neg his] at hown ⊢
         have d0 : w5.cell? ⟨g, 0, none⟩ = some (.string ⟨#[102, 97, 110]⟩) := hown.cellAt 0 (by simp)
         clear hown his hsg
         go_wp2_with fail
         · go_ret
           exact ⟨ret_bool (by simp; omega), unhide B5⟩
         · rename_i hx
           exact absurd (by
             have n1 : ¬ b0 ≤ x2 := by omega
             have n2 : ¬ b1 ≤ x3 := by omega
             simp [n1, n2]; omega) hx)
  · rw [hlf]
    go_wp2_with fail
    rw [← unhide HV4]
    refine (implDue6_any _ _ _ [⟨pumpS, b0, b1, 0⟩] _ _ _ [⟨pumpS, x2, x3, 0⟩, ⟨fanS, 0, 0, 0⟩] _ (unhide RL4) (unhide RS4) (unhide HFL) (unhide HFS)).mono ?_
    rintro e w5 ⟨g, cap5, rfl, hown, c5⟩
    rw [unhide HDUE] at hown
    rw [unhide HDUE, unhide HOK]
    have B5 := hide ((unhide B4).trans (c5.mono (unhide B4).size))
    have KL5 := (unhide KL4).below c5
    have KS5 := (unhide KS4).below c5
    clear a0 a1 a2 a3 e0 e1 e2 e3 c5 hlf
    have a1 : w5.cell? ⟨w.heap.size, 1, none⟩ = some (.int .i64 b0) := KL5.c 1 (by simp)
    have a2 : w5.cell? ⟨w.heap.size, 2, none⟩ = some (.int .i64 b1) := KL5.c 2 (by simp)
    have e1 : w5.cell? ⟨w.heap.size + 1, 1, none⟩ = some (.int .i64 x2) := KS5.c 1 (by simp)
    have e2 : w5.cell? ⟨w.heap.size + 1, 2, none⟩ = some (.int .i64 x3) := KS5.c 2 (by simp)
    clear KL5 KS5
    by_cases h1 : b0 ≤ x2 <;> by_cases h2 : b1 ≤ x3
    all_goals
      first
      | (exfalso; omega)
      | (have his : b0 ≤ x2 ∨ b1 ≤ x3 := by omega
         rw [if_pos his] at hown ⊢
         have d0 : w5.cell? ⟨g, 0, none⟩ = some (.string ⟨#[102, 97, 110]⟩) := hown.cellAt 0 (by simp)
         have d1 : w5.cell? ⟨g, 1, none⟩ = some (.string ⟨#[112, 117, 109, 112]⟩) := hown.cellAt 1 (by simp)
         clear hown his hsg
         go_wp2_with fail
         go_ret
         exact ⟨rfl, unhide B5⟩)
      | (have his : ¬ (b0 ≤ x2 ∨ b1 ≤ x3) := by omega
         rw [if_neg his] at hown ⊢
         have d0 : w5.cell? ⟨g, 0, none⟩ = some (.string ⟨#[102, 97, 110]⟩) := hown.cellAt 0 (by simp)
         clear hown his hsg
         go_wp2_with fail
         · go_ret
           exact ⟨ret_bool (by simp; omega), unhide B5⟩
         · rename_i hx
           exact absurd (by
             have n1 : ¬ b0 ≤ x2 := by omega
             have n2 : ¬ b1 ≤ x3 := by omega
             simp [n1, n2]; omega) hx)

end Go.Proofs.Ytnpohiceefkhdac

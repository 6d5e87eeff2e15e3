/-
  What FlyRoute answers in the model and in the program: one plain answer, at every craft and list of legs. The program's where the table of steps holds what the program's text says; the list owns its memory; nothing that was there is written.
-/
import Derived.Test.YtkpmoolggpojdauDoorRtSpec
import Derived.Test.YtkpmoolggpojdauDoorRtImpl
namespace Go.Proofs.YtkpmoolggpojdauDoor
open Go.RowKit

def rtX (x y d h c : Int) (ls : List Lg) : Int := (rtR ⟨x, y, d, h, c⟩ ls).1.x
def rtY (x y d h c : Int) (ls : List Lg) : Int := (rtR ⟨x, y, d, h, c⟩ ls).1.y
def rtD (x y d h c : Int) (ls : List Lg) : Int := (rtR ⟨x, y, d, h, c⟩ ls).1.d
def rtH (x y d h c : Int) (ls : List Lg) : Int := (rtR ⟨x, y, d, h, c⟩ ls).1.h
def rtC (x y d h c : Int) (ls : List Lg) : Int := (rtR ⟨x, y, d, h, c⟩ ls).1.c
def rtL (x y d h c : Int) (ls : List Lg) : List Int := (rtR ⟨x, y, d, h, c⟩ ls).2.1
def rtO (x y d h c : Int) (ls : List Lg) : Int := (rtR ⟨x, y, d, h, c⟩ ls).2.2
theorem rtN_len : ∀ (ls : List Lg) (q : Kf) (all : Int), (rtN q all ls).2.1.length ≤ ls.length
  | [], q, all => by simp [rtN]
  | l :: ls, q, all => by
    simp only [rtN]
    split
    · split
      · simp
      · have := rtN_len ls (lgR l q).1 (all + (lgR l q).2.1)
        simp only [List.length_cons]
        omega
    · simp
theorem rtL_small (x y d h c : Int) (ls : List Lg) : (rtL x y d h c ls).length ≤ 1048576 := by
  unfold rtL rtR
  split
  · have := rtN_len ls ⟨x, y, d, h, c⟩ 0
    omega
  · simp
theorem rtEmpty {w : World} {o1 o2 : Obj} : OwnI (((w.alloc o1).alloc o2).alloc (Obj.cells #[] 3)) w.heap.size (.slice (some ⟨w.heap.size + 1 + 1, 0, none⟩) 0 0) [] := by
  have hs : ((w.alloc o1).alloc o2).heap.size = w.heap.size + 1 + 1 := by simp
  have k := ownI_none (w := (w.alloc o1).alloc o2) (Nat.le_refl _)
  rw [hs] at k
  exact k.mono (by omega)
theorem rtR_on {q : Kf} {ls : List Lg} (h : ls.length ≤ 30) : rtR q ls = rtN q 0 ls := by simp [rtR, h]
theorem rtR_bad {q : Kf} {ls : List Lg} (h : ¬ ls.length ≤ 30) : rtR q ls = (q, [], 1) := by simp [rtR, h]

set_option maxRecDepth 20000 in
set_option maxHeartbeats 1000000 in
theorem specFlyRoute_bad (x y d h c : Int) (ad : Option Addr) (len cap : Nat) (w : World) (hl : ¬ len ≤ 30) (hs : len ≤ 9223372036854775807) :
    Calls Tryd.prog 12 #[.agg #[.int .i64 x, .int .i64 y, .int .i64 d, .int .i64 h, .int .i64 c], .slice ad len cap] w fun e w' => ∃ a1 c1, e = .returned (.tuple #[.agg #[.int .i64 x, .int .i64 y, .int .i64 d, .int .i64 h, .int .i64 c], .slice a1 ([] : List Int).length c1, .int .i64 1]) ∧ OwnI w' w.heap.size (.slice a1 ([] : List Int).length c1) [] ∧ Below w.heap.size w w' := by
  have hl2 : (30 : Int) < (len : Int) := by omega
  go_enter Tryd.func12, Tryd.ntmps12
  go_wp2_with fail
  refine bodyPost_ret (v := .tuple #[.agg #[.int .i64 x, .int .i64 y, .int .i64 d, .int .i64 h, .int .i64 c], .slice (some ⟨w.heap.size + 1 + 1, 0, none⟩) 0 0, .int .i64 1]) (by simp [results, Tryd.results12, go_sem]) rfl ⟨some ⟨w.heap.size + 1 + 1, 0, none⟩, 0, rfl, ?_, ?_⟩
  · exact rtEmpty
  · exact bel3 _ _ _
theorem specFlyRoute_any (x y d h c : Int) (ad : Option Addr) (len cap : Nat) (ls : List Lg) (w : World) (hr : RowE 4 lgC w ad len ls) :
    Calls Tryd.prog 12 #[.agg #[.int .i64 x, .int .i64 y, .int .i64 d, .int .i64 h, .int .i64 c], .slice ad len cap] w fun e w' => ∃ a1 c1, e = .returned (.tuple #[.agg #[.int .i64 (rtX x y d h c ls), .int .i64 (rtY x y d h c ls), .int .i64 (rtD x y d h c ls), .int .i64 (rtH x y d h c ls), .int .i64 (rtC x y d h c ls)], .slice a1 (rtL x y d h c ls).length c1, .int .i64 (rtO x y d h c ls)]) ∧ OwnI w' w.heap.size (.slice a1 (rtL x y d h c ls).length c1) (rtL x y d h c ls) ∧ Below w.heap.size w w' := by
  have hz := hr.len_eq
  by_cases hl : ls.length ≤ 30
  · exact specFlyRoute_on x y d h c ad len cap ls w hr (by omega) (rtR_on hl).symm
  · have e := rtR_bad (q := ⟨x, y, d, h, c⟩) hl
    simp only [rtX, rtY, rtD, rtH, rtC, rtL, rtO, e]
    exact specFlyRoute_bad x y d h c ad len cap w (by omega) hr.small
set_option maxRecDepth 20000 in
set_option maxHeartbeats 1000000 in
theorem implFlyRoute_bad (x y d h c : Int) (ad : Option Addr) (len cap : Nat) (w : World) (hl : ¬ len ≤ 30) (hs : len ≤ 9223372036854775807) :
    Calls Tryd.prog 14 #[.agg #[.int .i64 x, .int .i64 y, .int .i64 d, .int .i64 h, .int .i64 c], .slice ad len cap] w fun e w' => ∃ a1 c1, e = .returned (.tuple #[.agg #[.int .i64 x, .int .i64 y, .int .i64 d, .int .i64 h, .int .i64 c], .slice a1 ([] : List Int).length c1, .int .i64 1]) ∧ OwnI w' w.heap.size (.slice a1 ([] : List Int).length c1) [] ∧ Below w.heap.size w w' := by
  have hl2 : (30 : Int) < (len : Int) := by omega
  go_enter Tryd.func14, Tryd.ntmps14
  go_wp2_with fail
  refine bodyPost_ret (v := .tuple #[.agg #[.int .i64 x, .int .i64 y, .int .i64 d, .int .i64 h, .int .i64 c], .slice (some ⟨w.heap.size + 1 + 1, 0, none⟩) 0 0, .int .i64 1]) (by simp [results, Tryd.results14, go_sem]) rfl ⟨some ⟨w.heap.size + 1 + 1, 0, none⟩, 0, rfl, ?_, ?_⟩
  · exact rtEmpty
  · exact bel3 _ _ _
theorem implFlyRoute_any (x y d h c : Int) (ad : Option Addr) (len cap : Nat) (ls : List Lg) (w : World) (hr : RowE 4 lgC w ad len ls) (gs : StG w) :
    Calls Tryd.prog 14 #[.agg #[.int .i64 x, .int .i64 y, .int .i64 d, .int .i64 h, .int .i64 c], .slice ad len cap] w fun e w' => ∃ a1 c1, e = .returned (.tuple #[.agg #[.int .i64 (rtX x y d h c ls), .int .i64 (rtY x y d h c ls), .int .i64 (rtD x y d h c ls), .int .i64 (rtH x y d h c ls), .int .i64 (rtC x y d h c ls)], .slice a1 (rtL x y d h c ls).length c1, .int .i64 (rtO x y d h c ls)]) ∧ OwnI w' w.heap.size (.slice a1 (rtL x y d h c ls).length c1) (rtL x y d h c ls) ∧ Below w.heap.size w w' := by
  have hz := hr.len_eq
  by_cases hl : ls.length ≤ 30
  · exact implFlyRoute_on x y d h c ad len cap ls w gs hr (by omega) (rtR_on hl).symm
  · have e := rtR_bad (q := ⟨x, y, d, h, c⟩) hl
    simp only [rtX, rtY, rtD, rtH, rtC, rtL, rtO, e]
    exact implFlyRoute_bad x y d h c ad len cap w (by omega) hr.small

end Go.Proofs.YtkpmoolggpojdauDoor

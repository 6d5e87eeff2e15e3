/-
  A voter's copy in the model and in the program: its lists in new memory. At lists of at most 1048576; nothing that was there is written.
-/
import Derived.Test.YtidgkkldhnckeadVoTo
import Derived.Test.YtidgkkldhnckeadCloneIs
namespace Go.Proofs.Ytidgkkldhnckead
open Go.RowKit

set_option maxRecDepth 20000 in
set_option maxHeartbeats 4000000 in
theorem copied_any (n h : Int) (a1 a2 : Option Addr) (l1 c1 l2 c2 : Nat) (bs : List Bool) (os : List Int) (w : World) (hr : VoIn w a1 a2 l1 l2 bs os) (h1 : l1 ≤ 1048576) (h2 : l2 ≤ 1048576) :
    Calls Try.prog 36 #[.agg #[.int .i64 n, .int .i64 h, .slice a1 l1 c1, .slice a2 l2 c2]] w fun x w' => ∃ g1 d1 g2 d2, x = .returned (.agg #[.int .i64 n, .int .i64 h, .slice g1 l1 d1, .slice g2 l2 d2]) ∧ VoOwn w' w.heap.size g1 g2 l1 d1 l2 d2 bs os ∧ Below w.heap.size w w' := by
  obtain ⟨W, hW⟩ : ∃ W, W = (w.alloc (Obj.cells #[.int .i64 n, .int .i64 h, .slice a1 l1 c1, .slice a2 l2 c2] 28)).alloc (Obj.cells #[.int .i64 0, .int .i64 0, .slice none 0 0, .slice none 0 0] 28) := ⟨_, rfl⟩
  have KP : Hid (Blk W w.heap.size [.int .i64 n, .int .i64 h, .slice a1 l1 c1, .slice a2 l2 c2]) := hide (by rw [hW]; exact (Blk.new (w := w) [.int .i64 n, .int .i64 h, .slice a1 l1 c1, .slice a2 l2 c2] 28).alloc _)
  have KR : Hid (Blk W (w.heap.size + 1) [.int .i64 0, .int .i64 0, .slice none 0 0, .slice none 0 0]) := hide (by
    rw [hW]
    have := Blk.new (w := w.alloc (Obj.cells #[.int .i64 n, .int .i64 h, .slice a1 l1 c1, .slice a2 l2 c2] 28)) [.int .i64 0, .int .i64 0, .slice none 0 0, .slice none 0 0] 28
    simpa using this)
  have HB : Hid (Below w.heap.size w W) := hide (by rw [hW]; exact bel2 _ _)
  have hsz : w.heap.size + 1 + 1 ≤ W.heap.size := by rw [hW]; simp
  have HR0 := hide hr
  have H1 := hide h1
  have H2 := hide h2
  have HW := hide hW
  clear hr hW h1 h2
  go_enter Try.func36, Try.ntmps36
  go_wp2_with fail
  rw [← unhide HW]
  clear HW
  refine (cloneB_any a1 l1 c1 bs W ((unhide HR0).below (unhide HB)).r1 (by have := unhide H1; omega)).mono ?_
  rintro x v1 ⟨g1, d1, rfl, ow, bw⟩
  have sz1 := bw.size
  have LO1 := hide ow.lies
  have HB := hide ((unhide HB).trans (bw.mono (unhide HB).size))
  have KP := hide ((unhide KP).below bw)
  have KR := hide ((unhide KR).below bw)
  have O1 := hide ow
  clear ow bw
  obtain ⟨V1, hV1⟩ : ∃ V, V = v1.setCell ⟨w.heap.size, 2, none⟩ (.slice g1 l1 d1) := ⟨_, rfl⟩
  have y1 : v1.cell? ⟨w.heap.size, 2, none⟩ = some (.slice a1 l1 c1) := (unhide KP).c 2 (by simp)
  have f1 : v1.frozen? ⟨w.heap.size, 2, none⟩ = false := (unhide KP).f 2 (by simp)
  have KP := hide ((unhide KP).set 2 (by simp) (.slice g1 l1 d1))
  have KR := hide ((unhide KR).other (p := ⟨w.heap.size, 2, none⟩) (by simp) (.slice g1 l1 d1))
  have O1 := hide ((unhide O1).set_other (S := w.heap.size) (o := 2) (.slice g1 l1 d1) (fun e => by have := ((unhide LO1) _ e).1; omega))
  have HB := hide ((unhide HB).setCell (p := ⟨w.heap.size, 2, none⟩) (Nat.le_refl _) (.slice g1 l1 d1))
  have szv1 : (v1.setCell ⟨w.heap.size, 2, none⟩ (.slice g1 l1 d1)).heap.size = v1.heap.size := by simp [World.setCell]
  rw [← hV1] at KP KR HB szv1 O1
  have m2 : V1.cell? ⟨w.heap.size, 3, none⟩ = some (.slice a2 l2 c2) := (unhide KP).c 3 (by simp)
  rw [hV1] at m2
  have HV1 := hide hV1
  clear hV1
  go_wp2_with fail
  rw [← unhide HV1]
  clear HV1 m2 y1 f1
  refine (cloneI_any a2 l2 c2 os V1 ((unhide HR0).below (unhide HB)).r2 (by have := unhide H2; omega)).mono ?_
  rintro x v2 ⟨g2, d2, rfl, ow, bw⟩
  have sz2 := bw.size
  have LO2 := hide ow.lies
  have HB := hide ((unhide HB).trans (bw.mono (unhide HB).size))
  have KP := hide ((unhide KP).below bw)
  have KR := hide ((unhide KR).below bw)
  have O1 := hide ((unhide O1).below bw)
  have O2 := hide ow
  clear ow bw
  obtain ⟨V2, hV2⟩ : ∃ V, V = v2.setCell ⟨w.heap.size, 3, none⟩ (.slice g2 l2 d2) := ⟨_, rfl⟩
  have y2 : v2.cell? ⟨w.heap.size, 3, none⟩ = some (.slice a2 l2 c2) := (unhide KP).c 3 (by simp)
  have f2 : v2.frozen? ⟨w.heap.size, 3, none⟩ = false := (unhide KP).f 3 (by simp)
  have KP := hide ((unhide KP).set 3 (by simp) (.slice g2 l2 d2))
  have KR := hide ((unhide KR).other (p := ⟨w.heap.size, 3, none⟩) (by simp) (.slice g2 l2 d2))
  have O1 := hide ((unhide O1).set_other (S := w.heap.size) (o := 3) (.slice g2 l2 d2) (fun e => by have := ((unhide LO1) _ e).1; omega))
  have O2 := hide ((unhide O2).set_other (S := w.heap.size) (o := 3) (.slice g2 l2 d2) (fun e => by have := ((unhide LO2) _ e).1; omega))
  have HB := hide ((unhide HB).setCell (p := ⟨w.heap.size, 3, none⟩) (Nat.le_refl _) (.slice g2 l2 d2))
  have szv2 : (v2.setCell ⟨w.heap.size, 3, none⟩ (.slice g2 l2 d2)).heap.size = v2.heap.size := by simp [World.setCell]
  rw [← hV2] at KP KR HB szv2 O1 O2
  have hP : Hid (Blk V2 w.heap.size [.int .i64 n, .int .i64 h, .slice g1 l1 d1, .slice g2 l2 d2]) := KP
  have u0 : V2.cell? ⟨w.heap.size, 0, none⟩ = some (.int .i64 n) := (unhide hP).c 0 (by simp)
  have r0 : V2.cell? ⟨w.heap.size + 1, 0, none⟩ = some (.int .i64 0) := (unhide KR).c 0 (by simp)
  have t0 : V2.frozen? ⟨w.heap.size + 1, 0, none⟩ = false := (unhide KR).f 0 (by simp)
  have u1 : V2.cell? ⟨w.heap.size, 1, none⟩ = some (.int .i64 h) := (unhide hP).c 1 (by simp)
  have r1 : V2.cell? ⟨w.heap.size + 1, 1, none⟩ = some (.int .i64 0) := (unhide KR).c 1 (by simp)
  have t1 : V2.frozen? ⟨w.heap.size + 1, 1, none⟩ = false := (unhide KR).f 1 (by simp)
  have u2 : V2.cell? ⟨w.heap.size, 2, none⟩ = some (.slice g1 l1 d1) := (unhide hP).c 2 (by simp)
  have r2 : V2.cell? ⟨w.heap.size + 1, 2, none⟩ = some (.slice none 0 0) := (unhide KR).c 2 (by simp)
  have t2 : V2.frozen? ⟨w.heap.size + 1, 2, none⟩ = false := (unhide KR).f 2 (by simp)
  have u3 : V2.cell? ⟨w.heap.size, 3, none⟩ = some (.slice g2 l2 d2) := (unhide hP).c 3 (by simp)
  have r3 : V2.cell? ⟨w.heap.size + 1, 3, none⟩ = some (.slice none 0 0) := (unhide KR).c 3 (by simp)
  have t3 : V2.frozen? ⟨w.heap.size + 1, 3, none⟩ = false := (unhide KR).f 3 (by simp)
  rw [hV2] at u0 u1 u2 u3 r0 r1 r2 r3 t0 t1 t2 t3
  have HB := hide ((unhide HB).setCell (p := ⟨w.heap.size + 1, 0, none⟩) (by simp) (.int .i64 n))
  have O1 := hide ((unhide O1).set_other (S := w.heap.size + 1) (o := 0) (.int .i64 n) (fun e => by have := ((unhide LO1) _ e).1; omega))
  have O2 := hide ((unhide O2).set_other (S := w.heap.size + 1) (o := 0) (.int .i64 n) (fun e => by have := ((unhide LO2) _ e).1; omega))
  have HB := hide ((unhide HB).setCell (p := ⟨w.heap.size + 1, 1, none⟩) (by simp) (.int .i64 h))
  have O1 := hide ((unhide O1).set_other (S := w.heap.size + 1) (o := 1) (.int .i64 h) (fun e => by have := ((unhide LO1) _ e).1; omega))
  have O2 := hide ((unhide O2).set_other (S := w.heap.size + 1) (o := 1) (.int .i64 h) (fun e => by have := ((unhide LO2) _ e).1; omega))
  have HB := hide ((unhide HB).setCell (p := ⟨w.heap.size + 1, 2, none⟩) (by simp) (.slice g1 l1 d1))
  have O1 := hide ((unhide O1).set_other (S := w.heap.size + 1) (o := 2) (.slice g1 l1 d1) (fun e => by have := ((unhide LO1) _ e).1; omega))
  have O2 := hide ((unhide O2).set_other (S := w.heap.size + 1) (o := 2) (.slice g1 l1 d1) (fun e => by have := ((unhide LO2) _ e).1; omega))
  have HB := hide ((unhide HB).setCell (p := ⟨w.heap.size + 1, 3, none⟩) (by simp) (.slice g2 l2 d2))
  have O1 := hide ((unhide O1).set_other (S := w.heap.size + 1) (o := 3) (.slice g2 l2 d2) (fun e => by have := ((unhide LO1) _ e).1; omega))
  have O2 := hide ((unhide O2).set_other (S := w.heap.size + 1) (o := 3) (.slice g2 l2 d2) (fun e => by have := ((unhide LO2) _ e).1; omega))
  rw [hV2] at HB O1 O2
  have HN := hide (VoOwn.mk ((unhide O1).mono (base' := w.heap.size) (by omega)) ((unhide O2).mono (base' := w.heap.size) (by omega)) (fun g e1 e2 => by have h1 := (unhide LO1) g e1; have h2 := (unhide LO2) g e2; omega))
  clear O1 O2 KP KR hP hV2 HR0 LO1 LO2
  go_wp2_with fail
  refine bodyPost_ret (v := .agg #[.int .i64 n, .int .i64 h, .slice g1 l1 d1, .slice g2 l2 d2]) (by simp [results, Try.results36, go_sem, *]) rfl ⟨g1, d1, g2, d2, rfl, unhide HN, unhide HB⟩

end Go.Proofs.Ytidgkkldhnckead

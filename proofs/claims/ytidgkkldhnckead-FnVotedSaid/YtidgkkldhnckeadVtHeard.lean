/-
  What the program's inner voter hears of its five lanes: the numbers of those that are not out, sorted. Where all numbers fit; nothing that was there is written.
-/
import Derived.Test.YtidgkkldhnckeadVtPure
import Derived.Test.YtidgkkldhnckeadAppI
import Derived.Test.YtidgkkldhnckeadBlk
namespace Go.Proofs.Ytidgkkldhnckead
open Go.RowKit
theorem run_lane0 (o0 : Bool) (d0 s0 : Int) (o1 : Bool) (d1 s1 : Int) (o2 : Bool) (d2 s2 : Int) (o3 : Bool) (d3 s3 : Int) (o4 : Bool) (d4 s4 : Int) (w : World) : (Instr.index 79 (.agg #[.bool o0, .int .i64 d0, .int .i64 s0, .bool o1, .int .i64 d1, .int .i64 s1, .bool o2, .int .i64 d2, .int .i64 s2, .bool o3, .int .i64 d3, .int .i64 s3, .bool o4, .int .i64 d4, .int .i64 s4]) (.int .i64 0)).run Try.prog w = .ok (.agg #[.bool o0, .int .i64 d0, .int .i64 s0]) w := by
  simp [Instr.index, asIntOf, go_sem]
theorem run_lane1 (o0 : Bool) (d0 s0 : Int) (o1 : Bool) (d1 s1 : Int) (o2 : Bool) (d2 s2 : Int) (o3 : Bool) (d3 s3 : Int) (o4 : Bool) (d4 s4 : Int) (w : World) : (Instr.index 79 (.agg #[.bool o0, .int .i64 d0, .int .i64 s0, .bool o1, .int .i64 d1, .int .i64 s1, .bool o2, .int .i64 d2, .int .i64 s2, .bool o3, .int .i64 d3, .int .i64 s3, .bool o4, .int .i64 d4, .int .i64 s4]) (.int .i64 1)).run Try.prog w = .ok (.agg #[.bool o1, .int .i64 d1, .int .i64 s1]) w := by
  simp [Instr.index, asIntOf, go_sem]
theorem run_lane2 (o0 : Bool) (d0 s0 : Int) (o1 : Bool) (d1 s1 : Int) (o2 : Bool) (d2 s2 : Int) (o3 : Bool) (d3 s3 : Int) (o4 : Bool) (d4 s4 : Int) (w : World) : (Instr.index 79 (.agg #[.bool o0, .int .i64 d0, .int .i64 s0, .bool o1, .int .i64 d1, .int .i64 s1, .bool o2, .int .i64 d2, .int .i64 s2, .bool o3, .int .i64 d3, .int .i64 s3, .bool o4, .int .i64 d4, .int .i64 s4]) (.int .i64 2)).run Try.prog w = .ok (.agg #[.bool o2, .int .i64 d2, .int .i64 s2]) w := by
  simp [Instr.index, asIntOf, go_sem]
theorem run_lane3 (o0 : Bool) (d0 s0 : Int) (o1 : Bool) (d1 s1 : Int) (o2 : Bool) (d2 s2 : Int) (o3 : Bool) (d3 s3 : Int) (o4 : Bool) (d4 s4 : Int) (w : World) : (Instr.index 79 (.agg #[.bool o0, .int .i64 d0, .int .i64 s0, .bool o1, .int .i64 d1, .int .i64 s1, .bool o2, .int .i64 d2, .int .i64 s2, .bool o3, .int .i64 d3, .int .i64 s3, .bool o4, .int .i64 d4, .int .i64 s4]) (.int .i64 3)).run Try.prog w = .ok (.agg #[.bool o3, .int .i64 d3, .int .i64 s3]) w := by
  simp [Instr.index, asIntOf, go_sem]
theorem run_lane4 (o0 : Bool) (d0 s0 : Int) (o1 : Bool) (d1 s1 : Int) (o2 : Bool) (d2 s2 : Int) (o3 : Bool) (d3 s3 : Int) (o4 : Bool) (d4 s4 : Int) (w : World) : (Instr.index 79 (.agg #[.bool o0, .int .i64 d0, .int .i64 s0, .bool o1, .int .i64 d1, .int .i64 s1, .bool o2, .int .i64 d2, .int .i64 s2, .bool o3, .int .i64 d3, .int .i64 s3, .bool o4, .int .i64 d4, .int .i64 s4]) (.int .i64 4)).run Try.prog w = .ok (.agg #[.bool o4, .int .i64 d4, .int .i64 s4]) w := by
  simp [Instr.index, asIntOf, go_sem]
attribute [local go_sem high] run_lane0 run_lane1 run_lane2 run_lane3 run_lane4

set_option maxRecDepth 20000 in
set_option maxHeartbeats 8000000 in
theorem heard_any (n h : Int) (o0 : Bool) (d0 s0 : Int) (o1 : Bool) (d1 s1 : Int) (o2 : Bool) (d2 s2 : Int) (o3 : Bool) (d3 s3 : Int) (o4 : Bool) (d4 s4 : Int) (w : World) (hf : ∀ i : Nat, -9223372036854775808 ≤ nth [s0, s1, s2, s3, s4] i ∧ nth [s0, s1, s2, s3, s4] i ≤ 9223372036854775807) :
    Calls Try.prog 41 #[.agg #[.int .i64 n, .int .i64 h, .bool o0, .int .i64 d0, .int .i64 s0, .bool o1, .int .i64 d1, .int .i64 s1, .bool o2, .int .i64 d2, .int .i64 s2, .bool o3, .int .i64 d3, .int .i64 s3, .bool o4, .int .i64 d4, .int .i64 s4]] w fun x w' => ∃ g c, x = .returned (.slice (some ⟨g, 0, none⟩) (heardS [o0, o1, o2, o3, o4] [s0, s1, s2, s3, s4]).length c) ∧ OwnI w' w.heap.size (.slice (some ⟨g, 0, none⟩) (heardS [o0, o1, o2, o3, o4] [s0, s1, s2, s3, s4]).length c) (heardS [o0, o1, o2, o3, o4] [s0, s1, s2, s3, s4]) ∧ Below w.heap.size w w' := by
  have HF := hide hf
  clear hf
  obtain ⟨W, hW⟩ : ∃ W, W = (w.alloc (Obj.cells #[.int .i64 n, .int .i64 h, .bool o0, .int .i64 d0, .int .i64 s0, .bool o1, .int .i64 d1, .int .i64 s1, .bool o2, .int .i64 d2, .int .i64 s2, .bool o3, .int .i64 d3, .int .i64 s3, .bool o4, .int .i64 d4, .int .i64 s4] 81)).alloc (Obj.cells #[] 3) := ⟨_, rfl⟩
  have B0 : Hid (Below w.heap.size w W) := hide (by rw [hW]; exact bel2 _ _)
  have O0 : Hid (OwnI W w.heap.size (.slice (some ⟨w.heap.size + 1, 0, none⟩) 0 0) []) := hide (by
    rw [hW]
    have := ownI_none (w := w) (w1 := w.alloc (Obj.cells #[.int .i64 n, .int .i64 h, .bool o0, .int .i64 d0, .int .i64 s0, .bool o1, .int .i64 d1, .int .i64 s1, .bool o2, .int .i64 d2, .int .i64 s2, .bool o3, .int .i64 d3, .int .i64 s3, .bool o4, .int .i64 d4, .int .i64 s4] 81)) (by simp)
    simpa using this)
  have HW := hide hW
  clear hW
  go_enter Try.func41, Try.ntmps41
  go_wp2_with fail
  rw [← unhide HW]
  clear HW
  go_loopw [3, 9] (fun v i wr => ∃ k g c : Nat, v = .slice (some ⟨g, 0, none⟩) (heardTo [o0, o1, o2, o3, o4] [s0, s1, s2, s3, s4] k).length c ∧ i = .int .i64 (k : Int) ∧ k ≤ 5 ∧ OwnI wr w.heap.size (.slice (some ⟨g, 0, none⟩) (heardTo [o0, o1, o2, o3, o4] [s0, s1, s2, s3, s4] k).length c) (heardTo [o0, o1, o2, o3, o4] [s0, s1, s2, s3, s4] k) ∧ Below w.heap.size w wr) (fun _ i _ => 5 - (intOf i).toNat)
  case atStart => exact ⟨0, _, _, rfl, rfl, by omega, unhide O0, unhide B0⟩
  case round =>
    clear B0 O0
    obtain ⟨k, g, c, rfl, rfl, hk, ho, hb⟩ := hrel
    have hm := heardTo_len [o0, o1, o2, o3, o4] [s0, s1, s2, s3, s4] k
    obtain ⟨m, hme⟩ : ∃ m, (heardTo [o0, o1, o2, o3, o4] [s0, s1, s2, s3, s4] k).length = m := ⟨_, rfl⟩
    rw [hme] at ho hm ⊢
    have HM := hide hme
    have OO := hide ho
    have HB := hide hb
    have hsz := hb.size
    clear hme ho hb
    by_cases hk5 : k < 5
    · rcases (show k = 0 ∨ k = 1 ∨ k = 2 ∨ k = 3 ∨ k = 4 by omega) with hj | hj | hj | hj | hj
      · skip
        subst hj
        cases o0 with
        | true =>
          have HE := hide (heardTo_out (bs := [true, o1, o2, o3, o4]) (zs := [s0, s1, s2, s3, s4]) (k := 0) rfl)
          have OV := hide ((unhide OO).below (bel1 (Obj.cells #[.bool true, .int .i64 d0, .int .i64 s0] 78)))
          have BV := hide ((unhide HB).trans ((bel1 (Obj.cells #[.bool true, .int .i64 d0, .int .i64 s0] 78)).mono hsz))
          clear OO HB
          go_wp2_with fail
          go_roundw
          case rel => exact ⟨0 + 1, g, c, by rw [unhide HE, unhide HM], rfl, by omega, by rw [unhide HE, unhide HM]; exact unhide OV, unhide BV⟩
          case measure => simp [intOf]
        | false =>
          have HE := hide (heardTo_in (bs := [false, o1, o2, o3, o4]) (zs := [s0, s1, s2, s3, s4]) (k := 0) rfl)
          obtain ⟨V, hV⟩ : ∃ V, V = wr.alloc (Obj.cells #[.bool false, .int .i64 d0, .int .i64 s0] 78) := ⟨_, rfl⟩
          have bV : Below wr.heap.size wr V := by rw [hV]; exact bel1 _
          have OV := hide ((unhide OO).below bV)
          have BV := hide ((unhide HB).trans (bV.mono hsz))
          have szV : w.heap.size ≤ V.heap.size := Nat.le_trans hsz bV.size
          have hfj : -9223372036854775808 ≤ s0 ∧ s0 ≤ 9223372036854775807 := (unhide HF) 0
          have OV' : Hid (OwnI (wr.alloc (Obj.cells #[.bool false, .int .i64 d0, .int .i64 s0] 78)) w.heap.size (.slice (some ⟨g, 0, none⟩) m c) (heardTo [false, o1, o2, o3, o4] [s0, s1, s2, s3, s4] 0)) := hide (by rw [← hV]; exact unhide OV)
          have hsz2 : w.heap.size ≤ (wr.alloc (Obj.cells #[.bool false, .int .i64 d0, .int .i64 s0] 78)).heap.size := by rw [← hV]; exact szV
          have BV' : Hid (Below w.heap.size w (wr.alloc (Obj.cells #[.bool false, .int .i64 d0, .int .i64 s0] 78))) := hide (by rw [← hV]; exact unhide BV)
          have HSZ := hide hsz2
          have HL1 : Hid ((heardTo [false, o1, o2, o3, o4] [s0, s1, s2, s3, s4] (0 + 1)).length = m + 1) := hide (by rw [unhide HE, List.length_append, unhide HM]; rfl)
          clear OO HB bV hV OV BV szV hsz2
          go_wp2_with (at_builtin; refine wpList_app_int rfl _ _ rfl (n := m) s0 (unhide OV') (unhide HM) rfl (by simp) rfl (unhide HSZ) (by omega) hfj ?_; intro g' c' w9 o9 gr9)
          refine ⟨⟨0 + 1, g', c', by rw [unhide HL1], rfl, by omega, by rw [unhide HL1, unhide HE]; exact o9, (unhide BV').grown gr9 (unhide HSZ) (fun q hq => ((unhide OV').lies q hq).1)⟩, by simp [intOf]⟩
      · skip
        subst hj
        cases o1 with
        | true =>
          have HE := hide (heardTo_out (bs := [o0, true, o2, o3, o4]) (zs := [s0, s1, s2, s3, s4]) (k := 1) rfl)
          have OV := hide ((unhide OO).below (bel1 (Obj.cells #[.bool true, .int .i64 d1, .int .i64 s1] 78)))
          have BV := hide ((unhide HB).trans ((bel1 (Obj.cells #[.bool true, .int .i64 d1, .int .i64 s1] 78)).mono hsz))
          clear OO HB
          go_wp2_with fail
          go_roundw
          case rel => exact ⟨1 + 1, g, c, by rw [unhide HE, unhide HM], rfl, by omega, by rw [unhide HE, unhide HM]; exact unhide OV, unhide BV⟩
          case measure => simp [intOf]
        | false =>
          have HE := hide (heardTo_in (bs := [o0, false, o2, o3, o4]) (zs := [s0, s1, s2, s3, s4]) (k := 1) rfl)
          obtain ⟨V, hV⟩ : ∃ V, V = wr.alloc (Obj.cells #[.bool false, .int .i64 d1, .int .i64 s1] 78) := ⟨_, rfl⟩
          have bV : Below wr.heap.size wr V := by rw [hV]; exact bel1 _
          have OV := hide ((unhide OO).below bV)
          have BV := hide ((unhide HB).trans (bV.mono hsz))
          have szV : w.heap.size ≤ V.heap.size := Nat.le_trans hsz bV.size
          have hfj : -9223372036854775808 ≤ s1 ∧ s1 ≤ 9223372036854775807 := (unhide HF) 1
          have OV' : Hid (OwnI (wr.alloc (Obj.cells #[.bool false, .int .i64 d1, .int .i64 s1] 78)) w.heap.size (.slice (some ⟨g, 0, none⟩) m c) (heardTo [o0, false, o2, o3, o4] [s0, s1, s2, s3, s4] 1)) := hide (by rw [← hV]; exact unhide OV)
          have hsz2 : w.heap.size ≤ (wr.alloc (Obj.cells #[.bool false, .int .i64 d1, .int .i64 s1] 78)).heap.size := by rw [← hV]; exact szV
          have BV' : Hid (Below w.heap.size w (wr.alloc (Obj.cells #[.bool false, .int .i64 d1, .int .i64 s1] 78))) := hide (by rw [← hV]; exact unhide BV)
          have HSZ := hide hsz2
          have HL1 : Hid ((heardTo [o0, false, o2, o3, o4] [s0, s1, s2, s3, s4] (1 + 1)).length = m + 1) := hide (by rw [unhide HE, List.length_append, unhide HM]; rfl)
          clear OO HB bV hV OV BV szV hsz2
          go_wp2_with (at_builtin; refine wpList_app_int rfl _ _ rfl (n := m) s1 (unhide OV') (unhide HM) rfl (by simp) rfl (unhide HSZ) (by omega) hfj ?_; intro g' c' w9 o9 gr9)
          refine ⟨⟨1 + 1, g', c', by rw [unhide HL1], rfl, by omega, by rw [unhide HL1, unhide HE]; exact o9, (unhide BV').grown gr9 (unhide HSZ) (fun q hq => ((unhide OV').lies q hq).1)⟩, by simp [intOf]⟩
      · skip
        subst hj
        cases o2 with
        | true =>
          have HE := hide (heardTo_out (bs := [o0, o1, true, o3, o4]) (zs := [s0, s1, s2, s3, s4]) (k := 2) rfl)
          have OV := hide ((unhide OO).below (bel1 (Obj.cells #[.bool true, .int .i64 d2, .int .i64 s2] 78)))
          have BV := hide ((unhide HB).trans ((bel1 (Obj.cells #[.bool true, .int .i64 d2, .int .i64 s2] 78)).mono hsz))
          clear OO HB
          go_wp2_with fail
          go_roundw
          case rel => exact ⟨2 + 1, g, c, by rw [unhide HE, unhide HM], rfl, by omega, by rw [unhide HE, unhide HM]; exact unhide OV, unhide BV⟩
          case measure => simp [intOf]
        | false =>
          have HE := hide (heardTo_in (bs := [o0, o1, false, o3, o4]) (zs := [s0, s1, s2, s3, s4]) (k := 2) rfl)
          obtain ⟨V, hV⟩ : ∃ V, V = wr.alloc (Obj.cells #[.bool false, .int .i64 d2, .int .i64 s2] 78) := ⟨_, rfl⟩
          have bV : Below wr.heap.size wr V := by rw [hV]; exact bel1 _
          have OV := hide ((unhide OO).below bV)
          have BV := hide ((unhide HB).trans (bV.mono hsz))
          have szV : w.heap.size ≤ V.heap.size := Nat.le_trans hsz bV.size
          have hfj : -9223372036854775808 ≤ s2 ∧ s2 ≤ 9223372036854775807 := (unhide HF) 2
          have OV' : Hid (OwnI (wr.alloc (Obj.cells #[.bool false, .int .i64 d2, .int .i64 s2] 78)) w.heap.size (.slice (some ⟨g, 0, none⟩) m c) (heardTo [o0, o1, false, o3, o4] [s0, s1, s2, s3, s4] 2)) := hide (by rw [← hV]; exact unhide OV)
          have hsz2 : w.heap.size ≤ (wr.alloc (Obj.cells #[.bool false, .int .i64 d2, .int .i64 s2] 78)).heap.size := by rw [← hV]; exact szV
          have BV' : Hid (Below w.heap.size w (wr.alloc (Obj.cells #[.bool false, .int .i64 d2, .int .i64 s2] 78))) := hide (by rw [← hV]; exact unhide BV)
          have HSZ := hide hsz2
          have HL1 : Hid ((heardTo [o0, o1, false, o3, o4] [s0, s1, s2, s3, s4] (2 + 1)).length = m + 1) := hide (by rw [unhide HE, List.length_append, unhide HM]; rfl)
          clear OO HB bV hV OV BV szV hsz2
          go_wp2_with (at_builtin; refine wpList_app_int rfl _ _ rfl (n := m) s2 (unhide OV') (unhide HM) rfl (by simp) rfl (unhide HSZ) (by omega) hfj ?_; intro g' c' w9 o9 gr9)
          refine ⟨⟨2 + 1, g', c', by rw [unhide HL1], rfl, by omega, by rw [unhide HL1, unhide HE]; exact o9, (unhide BV').grown gr9 (unhide HSZ) (fun q hq => ((unhide OV').lies q hq).1)⟩, by simp [intOf]⟩
      · skip
        subst hj
        cases o3 with
        | true =>
          have HE := hide (heardTo_out (bs := [o0, o1, o2, true, o4]) (zs := [s0, s1, s2, s3, s4]) (k := 3) rfl)
          have OV := hide ((unhide OO).below (bel1 (Obj.cells #[.bool true, .int .i64 d3, .int .i64 s3] 78)))
          have BV := hide ((unhide HB).trans ((bel1 (Obj.cells #[.bool true, .int .i64 d3, .int .i64 s3] 78)).mono hsz))
          clear OO HB
          go_wp2_with fail
          go_roundw
          case rel => exact ⟨3 + 1, g, c, by rw [unhide HE, unhide HM], rfl, by omega, by rw [unhide HE, unhide HM]; exact unhide OV, unhide BV⟩
          case measure => simp [intOf]
        | false =>
          have HE := hide (heardTo_in (bs := [o0, o1, o2, false, o4]) (zs := [s0, s1, s2, s3, s4]) (k := 3) rfl)
          obtain ⟨V, hV⟩ : ∃ V, V = wr.alloc (Obj.cells #[.bool false, .int .i64 d3, .int .i64 s3] 78) := ⟨_, rfl⟩
          have bV : Below wr.heap.size wr V := by rw [hV]; exact bel1 _
          have OV := hide ((unhide OO).below bV)
          have BV := hide ((unhide HB).trans (bV.mono hsz))
          have szV : w.heap.size ≤ V.heap.size := Nat.le_trans hsz bV.size
          have hfj : -9223372036854775808 ≤ s3 ∧ s3 ≤ 9223372036854775807 := (unhide HF) 3
          have OV' : Hid (OwnI (wr.alloc (Obj.cells #[.bool false, .int .i64 d3, .int .i64 s3] 78)) w.heap.size (.slice (some ⟨g, 0, none⟩) m c) (heardTo [o0, o1, o2, false, o4] [s0, s1, s2, s3, s4] 3)) := hide (by rw [← hV]; exact unhide OV)
          have hsz2 : w.heap.size ≤ (wr.alloc (Obj.cells #[.bool false, .int .i64 d3, .int .i64 s3] 78)).heap.size := by rw [← hV]; exact szV
          have BV' : Hid (Below w.heap.size w (wr.alloc (Obj.cells #[.bool false, .int .i64 d3, .int .i64 s3] 78))) := hide (by rw [← hV]; exact unhide BV)
          have HSZ := hide hsz2
          have HL1 : Hid ((heardTo [o0, o1, o2, false, o4] [s0, s1, s2, s3, s4] (3 + 1)).length = m + 1) := hide (by rw [unhide HE, List.length_append, unhide HM]; rfl)
          clear OO HB bV hV OV BV szV hsz2
          go_wp2_with (at_builtin; refine wpList_app_int rfl _ _ rfl (n := m) s3 (unhide OV') (unhide HM) rfl (by simp) rfl (unhide HSZ) (by omega) hfj ?_; intro g' c' w9 o9 gr9)
          refine ⟨⟨3 + 1, g', c', by rw [unhide HL1], rfl, by omega, by rw [unhide HL1, unhide HE]; exact o9, (unhide BV').grown gr9 (unhide HSZ) (fun q hq => ((unhide OV').lies q hq).1)⟩, by simp [intOf]⟩
      · skip
        subst hj
        cases o4 with
        | true =>
          have HE := hide (heardTo_out (bs := [o0, o1, o2, o3, true]) (zs := [s0, s1, s2, s3, s4]) (k := 4) rfl)
          have OV := hide ((unhide OO).below (bel1 (Obj.cells #[.bool true, .int .i64 d4, .int .i64 s4] 78)))
          have BV := hide ((unhide HB).trans ((bel1 (Obj.cells #[.bool true, .int .i64 d4, .int .i64 s4] 78)).mono hsz))
          clear OO HB
          go_wp2_with fail
          go_roundw
          case rel => exact ⟨4 + 1, g, c, by rw [unhide HE, unhide HM], rfl, by omega, by rw [unhide HE, unhide HM]; exact unhide OV, unhide BV⟩
          case measure => simp [intOf]
        | false =>
          have HE := hide (heardTo_in (bs := [o0, o1, o2, o3, false]) (zs := [s0, s1, s2, s3, s4]) (k := 4) rfl)
          obtain ⟨V, hV⟩ : ∃ V, V = wr.alloc (Obj.cells #[.bool false, .int .i64 d4, .int .i64 s4] 78) := ⟨_, rfl⟩
          have bV : Below wr.heap.size wr V := by rw [hV]; exact bel1 _
          have OV := hide ((unhide OO).below bV)
          have BV := hide ((unhide HB).trans (bV.mono hsz))
          have szV : w.heap.size ≤ V.heap.size := Nat.le_trans hsz bV.size
          have hfj : -9223372036854775808 ≤ s4 ∧ s4 ≤ 9223372036854775807 := (unhide HF) 4
          have OV' : Hid (OwnI (wr.alloc (Obj.cells #[.bool false, .int .i64 d4, .int .i64 s4] 78)) w.heap.size (.slice (some ⟨g, 0, none⟩) m c) (heardTo [o0, o1, o2, o3, false] [s0, s1, s2, s3, s4] 4)) := hide (by rw [← hV]; exact unhide OV)
          have hsz2 : w.heap.size ≤ (wr.alloc (Obj.cells #[.bool false, .int .i64 d4, .int .i64 s4] 78)).heap.size := by rw [← hV]; exact szV
          have BV' : Hid (Below w.heap.size w (wr.alloc (Obj.cells #[.bool false, .int .i64 d4, .int .i64 s4] 78))) := hide (by rw [← hV]; exact unhide BV)
          have HSZ := hide hsz2
          have HL1 : Hid ((heardTo [o0, o1, o2, o3, false] [s0, s1, s2, s3, s4] (4 + 1)).length = m + 1) := hide (by rw [unhide HE, List.length_append, unhide HM]; rfl)
          clear OO HB bV hV OV BV szV hsz2
          go_wp2_with (at_builtin; refine wpList_app_int rfl _ _ rfl (n := m) s4 (unhide OV') (unhide HM) rfl (by simp) rfl (unhide HSZ) (by omega) hfj ?_; intro g' c' w9 o9 gr9)
          refine ⟨⟨4 + 1, g', c', by rw [unhide HL1], rfl, by omega, by rw [unhide HL1, unhide HE]; exact o9, (unhide BV').grown gr9 (unhide HSZ) (fun q hq => ((unhide OV').lies q hq).1)⟩, by simp [intOf]⟩
    · obtain rfl : k = 5 := by omega
      have hE : srt (heardTo [o0, o1, o2, o3, o4] [s0, s1, s2, s3, s4] 5) = heardS [o0, o1, o2, o3, o4] [s0, s1, s2, s3, s4] := rfl
      have HL : Hid ((heardS [o0, o1, o2, o3, o4] [s0, s1, s2, s3, s4]).length = m) := hide (by rw [← hE, srt_len]; exact unhide HM)
      have HE := hide hE
      clear hE
      go_wp2_with fail
      refine (sortInts_own w.heap.size g c m _ _ (unhide OO) (unhide HM) (by omega)).mono ?_
      rintro x w3 ⟨rfl, o3, g3⟩
      have hg := ((unhide OO).lies g rfl).1
      have B3 := hide ((unhide HB).grown g3 hsz (fun q hq => by cases hq; exact hg))
      have O3 := hide o3
      clear o3 g3 hg
      go_wp2_with fail
      go_ret
      refine ⟨g, c, by rw [unhide HL]; rfl, ?_, unhide B3⟩
      rw [unhide HL, ← unhide HE]
      exact unhide O3

end Go.Proofs.Ytidgkkldhnckead

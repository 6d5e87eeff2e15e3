/-
  What the model's PlanOk and Owner answer: the plain answers, at every plan; nothing that was there is written.
-/
import Derived.Test.YtndhiecakojjgbaPpPure
import Derived.Test.YtndhiecakojjgbaTaAlert
import Derived.Test.YtndhiecakojjgbaRowWn
import Derived.Test.YtndhiecakojjgbaBlk
import Derived.Deep.Cut
namespace Go.Proofs.Ytndhiecakojjgba
open Go.RowKit

theorem RowE.wn3 {w : World} {a : Option Addr} {len : Nat} {ws : List Wn} (h : RowE 3 wnC w a len ws) : (len = 0 ∧ ws = []) ∨ ∃ b off, a = some ⟨b, off, none⟩ ∧ 0 < len ∧ ∀ i, i < len → w.cell? ⟨b, off + i * 3, none⟩ = some (.int .i64 (elAt ws i).a0) ∧ w.cell? ⟨b, off + i * 3 + 1, none⟩ = some (.int .i64 (elAt ws i).a1) ∧ w.cell? ⟨b, off + i * 3 + 2, none⟩ = some (.int .i64 (elAt ws i).a2) := by
  rcases h.open_ with k | ⟨b, off, ha, h0, hc⟩
  · exact .inl k
  · exact .inr ⟨b, off, ha, h0, fun i hi => ⟨hc i hi 0 (by omega), hc i hi 1 (by omega), hc i hi 2 (by omega)⟩⟩

set_option maxRecDepth 20000 in
set_option maxHeartbeats 2000000 in
theorem specPlanOk_is {b : Bool} (fr pa : Int) (da : Option Addr) (dn dc : Nat) (ws : List Wn) (w : World) (hr : RowE 3 wnC w da dn ws) (hc : ppB fr pa ws = b) :
    Calls Try.prog 12 #[.agg #[.int .i64 fr, .int .i64 pa, .slice da dn dc]] w fun e w' => e = .returned (.bool b) ∧ Below w.heap.size w w' := by
  have hz := hr.len_eq
  have hs := hr.small
  have HR := hide hr
  clear hr
  subst hz
  obtain ⟨W, hW⟩ : ∃ W, W = w.alloc (Obj.cells #[.int .i64 fr, .int .i64 pa, .slice da ws.length dc] 28) := ⟨_, rfl⟩
  have K0 : Hid (Blk W w.heap.size [.int .i64 fr, .int .i64 pa, .slice da ws.length dc]) := hide (by rw [hW]; exact Blk.new _ _)
  have B0 : Hid (Below w.heap.size w W) := hide (by rw [hW]; exact bel1 _)
  have HW := hide hW
  clear hW
  rcases three (inB fr 1 100000) (inB pa 1 10) (decide (ws.length ≤ 40)) with ⟨q1, hv⟩ | ⟨q1, q2, hv⟩ | ⟨q1, q2, q3, hv⟩ | ⟨q1, q2, q3, hv⟩
  · have HE := hide (show false = b from by rw [← hc, ppB, hv, Bool.false_and])
    clear hc hv
    go_enter Try.func12, Try.ntmps12
    go_upto_region 1 with fail
    rw [← unhide HW]
    clear HW
    have p0 : W.cell? ⟨w.heap.size, 0, none⟩ = some (.int .i64 fr) := (unhide K0).c 0 (by simp)
    have p1 : W.cell? ⟨w.heap.size, 1, none⟩ = some (.int .i64 pa) := (unhide K0).c 1 (by simp)
    have p2 : W.cell? ⟨w.heap.size, 2, none⟩ = some (.slice da ws.length dc) := (unhide K0).c 2 (by simp)
    go_wp2_with ((go_at_call 13; refine (l1In_is _ _ _ _ (by first | exact q1 | exact q2 | exact q3)).mono ?_; rintro e w' ⟨rfl, hw⟩; subst w'))
    go_ret
    exact ⟨ret_bool (unhide HE), unhide B0⟩
  · have HE := hide (show false = b from by rw [← hc, ppB, hv, Bool.false_and])
    clear hc hv
    go_enter Try.func12, Try.ntmps12
    go_upto_region 1 with fail
    rw [← unhide HW]
    clear HW
    have p0 : W.cell? ⟨w.heap.size, 0, none⟩ = some (.int .i64 fr) := (unhide K0).c 0 (by simp)
    have p1 : W.cell? ⟨w.heap.size, 1, none⟩ = some (.int .i64 pa) := (unhide K0).c 1 (by simp)
    have p2 : W.cell? ⟨w.heap.size, 2, none⟩ = some (.slice da ws.length dc) := (unhide K0).c 2 (by simp)
    go_wp2_with ((go_at_call 13; refine (l1In_is _ _ _ _ (by first | exact q1 | exact q2 | exact q3)).mono ?_; rintro e w' ⟨rfl, hw⟩; subst w'))
    go_ret
    exact ⟨ret_bool (unhide HE), unhide B0⟩
  · have HE := hide (show false = b from by rw [← hc, ppB, hv, Bool.false_and])
    clear hc hv
    have l2 : ¬ ws.length ≤ 40 := by simpa using q3
    have l3 : (40 : Int) < (ws.length : Int) := by omega
    go_enter Try.func12, Try.ntmps12
    go_upto_region 1 with fail
    rw [← unhide HW]
    clear HW
    have p0 : W.cell? ⟨w.heap.size, 0, none⟩ = some (.int .i64 fr) := (unhide K0).c 0 (by simp)
    have p1 : W.cell? ⟨w.heap.size, 1, none⟩ = some (.int .i64 pa) := (unhide K0).c 1 (by simp)
    have p2 : W.cell? ⟨w.heap.size, 2, none⟩ = some (.slice da ws.length dc) := (unhide K0).c 2 (by simp)
    go_wp2_with ((go_at_call 13; refine (l1In_is _ _ _ _ (by first | exact q1 | exact q2 | exact q3)).mono ?_; rintro e w' ⟨rfl, hw⟩; subst w'))
    go_ret
    exact ⟨ret_bool (unhide HE), unhide B0⟩
  · have HE := hide (show pwB fr pa ws = b from by rw [← hc, ppB, hv, Bool.true_and])
    have l1 : ws.length ≤ 40 := by simpa using q3
    have l3 : ¬ (40 : Int) < (ws.length : Int) := by omega
    have f1 := in_facts q1
    have f2 := in_facts q2
    clear hc hv
    go_enter Try.func12, Try.ntmps12
    go_upto_region 1 with fail
    rw [← unhide HW]
    clear HW
    have p0 : W.cell? ⟨w.heap.size, 0, none⟩ = some (.int .i64 fr) := (unhide K0).c 0 (by simp)
    have p1 : W.cell? ⟨w.heap.size, 1, none⟩ = some (.int .i64 pa) := (unhide K0).c 1 (by simp)
    have p2 : W.cell? ⟨w.heap.size, 2, none⟩ = some (.slice da ws.length dc) := (unhide K0).c 2 (by simp)
    go_wp2_with ((go_at_call 13; refine (l1In_is _ _ _ _ (by first | exact q1 | exact q2 | exact q3)).mono ?_; rintro e w' ⟨rfl, hw⟩; subst w'))
    clear p0 p1 p2
    go_loopw [3, 4] (fun s3 s4 wr => ∃ (k : Nat) (E : Int), k ≤ ws.length ∧ s3 = .int .i64 E ∧ s4 = .int .i64 (k : Int) ∧ (0 ≤ E ∧ E ≤ 100000) ∧ Hid (pwE ws k = E) ∧ Hid (∀ j, j < k → wnB fr pa (pwE ws j) (elAt ws j) = true) ∧ Hid (Blk wr w.heap.size [.int .i64 fr, .int .i64 pa, .slice da ws.length dc]) ∧ Hid (Below w.heap.size w wr)) (fun _ s4 _ => ws.length - (intOf s4).toNat)
    case atStart => exact ⟨0, 0, Nat.zero_le _, rfl, rfl, by omega, hide rfl, hide (fun j hj => by omega), K0, B0⟩
    case round =>
      clear K0 B0
      obtain ⟨k, E, hk, rfl, rfl, hE, HPE, HJ, KB, BB⟩ := hrel
      by_cases hlt : k < ws.length
      · rcases ((unhide HR).below (unhide BB)).wn3 with ⟨z0, _⟩ | ⟨bb, off, rfl, _, hcs⟩
        · omega
        have m0 := (hcs k hlt).1
        have m1 := (hcs k hlt).2.1
        have m2 := (hcs k hlt).2.2
        obtain ⟨x0, hx0⟩ : ∃ z, (elAt ws k).a0 = z := ⟨_, rfl⟩
        obtain ⟨x1, hx1⟩ : ∃ z, (elAt ws k).a1 = z := ⟨_, rfl⟩
        obtain ⟨x2, hx2⟩ : ∃ z, (elAt ws k).a2 = z := ⟨_, rfl⟩
        rw [hx0] at m0
        rw [hx1] at m1
        rw [hx2] at m2
        have k0 : (0 : Int) ≤ (k : Int) := by omega
        have k1 : (k : Int) < (ws.length : Int) := by omega
        obtain ⟨V, hV⟩ : ∃ V, V = wr.alloc (Obj.cells #[.int .i64 x0, .int .i64 x1, .int .i64 x2] 39) := ⟨_, rfl⟩
        have bV : Below wr.heap.size wr V := by rw [hV]; exact bel1 _
        have KV := hide ((unhide KB).below bV)
        have BV := hide ((unhide BB).trans (bV.mono (unhide BB).size))
        have KX : Hid (Blk V wr.heap.size [.int .i64 x0, .int .i64 x1, .int .i64 x2]) := hide (by rw [hV]; exact Blk.new _ _)
        obtain ⟨X, hX⟩ : ∃ X, wr.heap.size = X := ⟨_, rfl⟩
        rw [hX] at KX
        have HV := hide hV
        have HX := hide hX
        have WB : Hid (wnB fr pa (pwE ws k) (elAt ws k) = (inB x0 0 (pa - 1) && inB x2 1 10000 && inB x1 E fr && decide (x1 + x2 ≤ fr))) := hide (by rw [wnB, unhide HPE, hx0, hx1, hx2])
        have HX1 := hide hx1
        have HX2 := hide hx2
        have p0 : wr.cell? ⟨w.heap.size, 0, none⟩ = some (.int .i64 fr) := (unhide KB).c 0 (by simp)
        have p1 : wr.cell? ⟨w.heap.size, 1, none⟩ = some (.int .i64 pa) := (unhide KB).c 1 (by simp)
        have p2 : wr.cell? ⟨w.heap.size, 2, none⟩ = some (.slice (some ⟨bb, off, none⟩) ws.length dc) := (unhide KB).c 2 (by simp)
        clear hcs hV hX bV hx0 hx1 hx2
        go_upto_region 8 with fail
        rw [← unhide HV, unhide HX]
        clear HV HX m0 m1 m2 p0 p1 p2
        have p0 : V.cell? ⟨w.heap.size, 0, none⟩ = some (.int .i64 fr) := (unhide KV).c 0 (by simp)
        have p1 : V.cell? ⟨w.heap.size, 1, none⟩ = some (.int .i64 pa) := (unhide KV).c 1 (by simp)
        have p2 : V.cell? ⟨w.heap.size, 2, none⟩ = some (.slice (some ⟨bb, off, none⟩) ws.length dc) := (unhide KV).c 2 (by simp)
        have y0 : V.cell? ⟨X, 0, none⟩ = some (.int .i64 x0) := (unhide KX).c 0 (by simp)
        have y1 : V.cell? ⟨X, 1, none⟩ = some (.int .i64 x1) := (unhide KX).c 1 (by simp)
        have y2 : V.cell? ⟨X, 2, none⟩ = some (.int .i64 x2) := (unhide KX).c 2 (by simp)
        rcases four (inB x0 0 (pa - 1)) (inB x2 1 10000) (inB x1 E fr) (decide (x1 + x2 ≤ fr)) with ⟨q5, hv⟩ | ⟨q5, q6, hv⟩ | ⟨q5, q6, q7, hv⟩ | ⟨q5, q6, q7, q8, hv⟩ | ⟨q5, q6, q7, q8, hv⟩
        · have HN := hide (pwB_no hlt ((unhide WB).trans hv))
          go_wp2_with ((go_at_call 13; refine (l1In_is _ _ _ _ (by first | exact q5)).mono ?_; rintro e w' ⟨rfl, hw⟩; subst w'))
          go_ret
          exact ⟨ret_bool ((unhide HN).symm.trans (unhide HE)), unhide BV⟩
        · have HN := hide (pwB_no hlt ((unhide WB).trans hv))
          go_wp2_with ((go_at_call 13; refine (l1In_is _ _ _ _ (by first | exact q5 | exact q6)).mono ?_; rintro e w' ⟨rfl, hw⟩; subst w'))
          go_ret
          exact ⟨ret_bool ((unhide HN).symm.trans (unhide HE)), unhide BV⟩
        · have HN := hide (pwB_no hlt ((unhide WB).trans hv))
          go_wp2_with ((go_at_call 13; refine (l1In_is _ _ _ _ (by first | exact q5 | exact q6 | exact q7)).mono ?_; rintro e w' ⟨rfl, hw⟩; subst w'))
          go_ret
          exact ⟨ret_bool ((unhide HN).symm.trans (unhide HE)), unhide BV⟩
        · have HN := hide (pwB_no hlt ((unhide WB).trans hv))
          have g1 := in_facts q5
          have g2 := in_facts q6
          have g3 := in_facts q7
          have g4 : ¬ x1 + x2 ≤ fr := by simpa using q8
          have g5 : fr < x1 + x2 := by omega
          go_wp2_with ((go_at_call 13; refine (l1In_is _ _ _ _ (by first | exact q5 | exact q6 | exact q7)).mono ?_; rintro e w' ⟨rfl, hw⟩; subst w'))
          go_ret
          exact ⟨ret_bool ((unhide HN).symm.trans (unhide HE)), unhide BV⟩
        have g1 := in_facts q5
        have g2 := in_facts q6
        have g3 := in_facts q7
        have g4 : x1 + x2 ≤ fr := by simpa using q8
        have g5 : ¬ fr < x1 + x2 := by omega
        go_wp2_with ((go_at_call 13; refine (l1In_is _ _ _ _ (by first | exact q5 | exact q6 | exact q7)).mono ?_; rintro e w' ⟨rfl, hw⟩; subst w'))
        go_roundw
        case rel => exact ⟨k + 1, x1 + x2, by omega, rfl, by go_num, by omega, hide (by show (elAt ws k).a1 + (elAt ws k).a2 = _; rw [unhide HX1, unhide HX2]), hide (fun j hj => by rcases Nat.lt_succ_iff_lt_or_eq.1 hj with h | h; exact unhide HJ j h; subst h; rw [unhide WB, q5, q6, q7, q8]; rfl), KV, BV⟩
        case measure => simp [intOf]; omega
      · have hkl : k = ws.length := by omega
        have HY := hide (pwB_yes (fun j hj => unhide HJ j (by omega)))
        have k1 : ¬ (k : Int) < (ws.length : Int) := by omega
        clear hkl
        have p0 : wr.cell? ⟨w.heap.size, 0, none⟩ = some (.int .i64 fr) := (unhide KB).c 0 (by simp)
        have p1 : wr.cell? ⟨w.heap.size, 1, none⟩ = some (.int .i64 pa) := (unhide KB).c 1 (by simp)
        have p2 : wr.cell? ⟨w.heap.size, 2, none⟩ = some (.slice da ws.length dc) := (unhide KB).c 2 (by simp)
        go_wp2_with fail
        go_ret
        exact ⟨ret_bool ((unhide HY).symm.trans (unhide HE)), unhide BB⟩

end Go.Proofs.Ytndhiecakojjgba

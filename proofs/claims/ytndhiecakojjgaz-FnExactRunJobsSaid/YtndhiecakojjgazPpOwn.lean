/-
  What the model's Owner answers: the plain answer, at every plan and tick; nothing that was there is written.
-/
import Derived.Test.YtndhiecakojjgazPpSpec
namespace Go.Proofs.Ytndhiecakojjgaz
open Go.RowKit

set_option maxRecDepth 20000 in
set_option maxHeartbeats 2000000 in
theorem specOwner_is {n : Int} {b : Bool} (fr pa : Int) (da : Option Addr) (dn dc : Nat) (ws : List Wn) (t : Int) (w : World) (hr : RowE 3 wnC w da dn ws) (hn : owR fr pa ws t = n) (hb : owB fr pa ws t = b) :
    Calls Try.prog 20 #[.agg #[.int .i64 fr, .int .i64 pa, .slice da dn dc], .int .i64 t] w fun e w' => e = .returned (.tuple #[.int .i64 n, .bool b]) ∧ Below w.heap.size w w' := by
  have hz := hr.len_eq
  have hs := hr.small
  have HR := hide hr
  clear hr
  subst hz
  obtain ⟨W, hW⟩ : ∃ W, W = w.alloc (Obj.cells #[.int .i64 fr, .int .i64 pa, .slice da ws.length dc] 35) := ⟨_, rfl⟩
  have K0 : Hid (Blk W w.heap.size [.int .i64 fr, .int .i64 pa, .slice da ws.length dc]) := hide (by rw [hW]; exact Blk.new _ _)
  have B0 : Hid (Below w.heap.size w W) := hide (by rw [hW]; exact bel1 _)
  have HW := hide hW
  clear hW
  rcases two (ppB fr pa ws) (inB t 0 100000000) with ⟨q1, hv⟩ | ⟨q1, q2, hv⟩ | ⟨q1, q2, hv⟩
  · have HE := hide ((show owB fr pa ws t = false from hv).symm.trans hb)
    have HN := hide ((ow_no (show owB fr pa ws t = false from hv)).symm.trans hn)
    clear hb hn hv
    go_enter Try.func20, Try.ntmps20
    go_upto_region 1 with fail
    rw [← unhide HW]
    clear HW
    have p0 : W.cell? ⟨w.heap.size, 0, none⟩ = some (.int .i64 fr) := (unhide K0).c 0 (by simp)
    have p1 : W.cell? ⟨w.heap.size, 1, none⟩ = some (.int .i64 pa) := (unhide K0).c 1 (by simp)
    have p2 : W.cell? ⟨w.heap.size, 2, none⟩ = some (.slice da ws.length dc) := (unhide K0).c 2 (by simp)
    go_wp2_with (first | (go_at_call 16; refine (specPlanOk_is _ _ _ _ _ ws _ ((unhide HR).below (unhide B0)) (by exact q1)).mono ?_; rintro e W1 ⟨rfl, b1⟩; have K1 := hide ((unhide K0).below b1); have B1 := hide ((unhide B0).trans (b1.mono (unhide B0).size)); clear b1) | (go_at_call 34; refine (l1Tick_p _ _ (by exact q2)).mono ?_; rintro e w' ⟨rfl, hw⟩; subst w'))
    go_ret2
    exact ⟨ret_ib (unhide HN) (unhide HE), unhide B1⟩
  · have HE := hide ((show owB fr pa ws t = false from hv).symm.trans hb)
    have HN := hide ((ow_no (show owB fr pa ws t = false from hv)).symm.trans hn)
    clear hb hn hv
    go_enter Try.func20, Try.ntmps20
    go_upto_region 1 with fail
    rw [← unhide HW]
    clear HW
    have p0 : W.cell? ⟨w.heap.size, 0, none⟩ = some (.int .i64 fr) := (unhide K0).c 0 (by simp)
    have p1 : W.cell? ⟨w.heap.size, 1, none⟩ = some (.int .i64 pa) := (unhide K0).c 1 (by simp)
    have p2 : W.cell? ⟨w.heap.size, 2, none⟩ = some (.slice da ws.length dc) := (unhide K0).c 2 (by simp)
    go_wp2_with (first | (go_at_call 16; refine (specPlanOk_is _ _ _ _ _ ws _ ((unhide HR).below (unhide B0)) (by exact q1)).mono ?_; rintro e W1 ⟨rfl, b1⟩; have K1 := hide ((unhide K0).below b1); have B1 := hide ((unhide B0).trans (b1.mono (unhide B0).size)); clear b1) | (go_at_call 34; refine (l1Tick_p _ _ (by exact q2)).mono ?_; rintro e w' ⟨rfl, hw⟩; subst w'))
    go_ret2
    exact ⟨ret_ib (unhide HN) (unhide HE), unhide B1⟩
  · have HOW := hide (show owB fr pa ws t = true from hv)
    have HE := hide ((unhide HOW).symm.trans hb)
    have HNN := hide hn
    have f0 := ppB_facts q1
    have f1 := f0.1
    have f2 := in_facts q2
    have l1 := f0.2.2.1
    have HPP := hide q1
    obtain ⟨A, hA⟩ : ∃ A, t % fr = A := ⟨_, rfl⟩
    have hA0 : 0 ≤ A ∧ A < fr := by rw [← hA]; exact ⟨Int.emod_nonneg _ (by omega), Int.emod_lt_of_pos _ (by omega)⟩
    have hAt : t.tmod fr = A := by rw [Int.tmod_eq_emod_of_nonneg f2.1]; exact hA
    have hf0 : ¬ fr = 0 := by omega
    have HA := hide hA
    clear hb hn hv f0 hA
    go_enter Try.func20, Try.ntmps20
    go_upto_region 1 with fail
    rw [← unhide HW]
    clear HW
    have p0 : W.cell? ⟨w.heap.size, 0, none⟩ = some (.int .i64 fr) := (unhide K0).c 0 (by simp)
    have p1 : W.cell? ⟨w.heap.size, 1, none⟩ = some (.int .i64 pa) := (unhide K0).c 1 (by simp)
    have p2 : W.cell? ⟨w.heap.size, 2, none⟩ = some (.slice da ws.length dc) := (unhide K0).c 2 (by simp)
    go_upto_region 3 with (first | (go_at_call 16; refine (specPlanOk_is _ _ _ _ _ ws _ ((unhide HR).below (unhide B0)) (by exact q1)).mono ?_; rintro e W1 ⟨rfl, b1⟩; have K1 := hide ((unhide K0).below b1); have B1 := hide ((unhide B0).trans (b1.mono (unhide B0).size)); clear b1) | (go_at_call 34; refine (l1Tick_p _ _ (by exact q2)).mono ?_; rintro e w' ⟨rfl, hw⟩; subst w'))
    clear p0 p1 p2
    have p0 : W1.cell? ⟨w.heap.size, 0, none⟩ = some (.int .i64 fr) := (unhide K1).c 0 (by simp)
    have p1 : W1.cell? ⟨w.heap.size, 1, none⟩ = some (.int .i64 pa) := (unhide K1).c 1 (by simp)
    have p2 : W1.cell? ⟨w.heap.size, 2, none⟩ = some (.slice da ws.length dc) := (unhide K1).c 2 (by simp)
    go_wp2_with fail
    clear p0 p1 p2 hAt
    go_loopw [7] (fun s7 wr => ∃ (k : Nat), k ≤ ws.length ∧ s7 = .int .i64 (k : Int) ∧ Hid (∀ j, j < k → inW A (elAt ws j) = false) ∧ Hid (Blk wr w.heap.size [.int .i64 fr, .int .i64 pa, .slice da ws.length dc]) ∧ Hid (Below w.heap.size w wr)) (fun s7 _ => ws.length - (intOf s7).toNat)
    case atStart => exact ⟨0, Nat.zero_le _, rfl, hide (fun j hj => by omega), K1, B1⟩
    case round =>
      clear K1 B1
      obtain ⟨k, hk, rfl, HJ, KB, BB⟩ := hrel
      by_cases hlt : k < ws.length
      · have hall := ppB_all (unhide HPP) hlt
        rcases ((unhide HR).below (unhide BB)).wn3 with ⟨z0, _⟩ | ⟨bb, off, rfl, _, hcs⟩
        · omega
        have m0 := (hcs k hlt).1
        have m1 := (hcs k hlt).2.1
        have m2 := (hcs k hlt).2.2
        obtain ⟨x0, hx0⟩ : ∃ z, (elAt ws k).a0 = z := ⟨_, rfl⟩
        obtain ⟨x1, hx1⟩ : ∃ z, (elAt ws k).a1 = z := ⟨_, rfl⟩
        obtain ⟨x2, hx2⟩ : ∃ z, (elAt ws k).a2 = z := ⟨_, rfl⟩
        rw [hx0, hx1, hx2] at hall
        rw [hx0] at m0
        rw [hx1] at m1
        rw [hx2] at m2
        have k0 : (0 : Int) ≤ (k : Int) := by omega
        have k1 : (k : Int) < (ws.length : Int) := by omega
        obtain ⟨V, hV⟩ : ∃ V, V = wr.alloc (Obj.cells #[.int .i64 x0, .int .i64 x1, .int .i64 x2] 60) := ⟨_, rfl⟩
        have bV : Below wr.heap.size wr V := by rw [hV]; exact bel1 _
        have KV := hide ((unhide KB).below bV)
        have BV := hide ((unhide BB).trans (bV.mono (unhide BB).size))
        have KX : Hid (Blk V wr.heap.size [.int .i64 x0, .int .i64 x1, .int .i64 x2]) := hide (by rw [hV]; exact Blk.new _ _)
        obtain ⟨X, hX⟩ : ∃ X, wr.heap.size = X := ⟨_, rfl⟩
        rw [hX] at KX
        have HV := hide hV
        have HX := hide hX
        have HI : Hid (inW A (elAt ws k) = inB A x1 (x1 + x2 - 1)) := hide (by rw [inW, hx1, hx2])
        have HX0 := hide hx0
        have p0 : wr.cell? ⟨w.heap.size, 0, none⟩ = some (.int .i64 fr) := (unhide KB).c 0 (by simp)
        have p1 : wr.cell? ⟨w.heap.size, 1, none⟩ = some (.int .i64 pa) := (unhide KB).c 1 (by simp)
        have p2 : wr.cell? ⟨w.heap.size, 2, none⟩ = some (.slice (some ⟨bb, off, none⟩) ws.length dc) := (unhide KB).c 2 (by simp)
        clear hcs hV hX bV hx0 hx1 hx2
        go_upto_region 8 with fail
        rw [← unhide HV, unhide HX]
        clear HV HX m0 m1 m2 p0 p1 p2
        have y0 : V.cell? ⟨X, 0, none⟩ = some (.int .i64 x0) := (unhide KX).c 0 (by simp)
        have y1 : V.cell? ⟨X, 1, none⟩ = some (.int .i64 x1) := (unhide KX).c 1 (by simp)
        have y2 : V.cell? ⟨X, 2, none⟩ = some (.int .i64 x2) := (unhide KX).c 2 (by simp)
        cases q5 : inB A x1 (x1 + x2 - 1) with
        | true =>
          have HN := hide ((ow_at (unhide HOW) hlt (by rw [unhide HA]; exact owF_at hlt ((unhide HI).trans q5) (unhide HJ))).symm.trans (unhide HNN))
          rw [unhide HX0] at HN
          go_wp2_with ((go_at_call 40; refine (l1In_is _ _ _ _ (by exact q5)).mono ?_; rintro e w' ⟨rfl, hw⟩; subst w'))
          go_ret2
          exact ⟨ret_ib (unhide HN) (unhide HE), unhide BV⟩
        | false =>
          go_wp2_with ((go_at_call 40; refine (l1In_is _ _ _ _ (by exact q5)).mono ?_; rintro e w' ⟨rfl, hw⟩; subst w'))
          go_roundw
          case rel => exact ⟨k + 1, by omega, by go_num, hide (fun j hj => by rcases Nat.lt_succ_iff_lt_or_eq.1 hj with h | h; exact unhide HJ j h; subst h; exact (unhide HI).trans q5), KV, BV⟩
          case measure => simp [intOf]; omega
      · have hkl : k = ws.length := by omega
        have HN := hide ((ow_none (fr := fr) (pa := pa) (t := t) (by rw [unhide HA]; exact owF_none (fun j hj => unhide HJ j (by omega)))).symm.trans (unhide HNN))
        have k1 : ¬ (k : Int) < (ws.length : Int) := by omega
        clear hkl
        have p0 : wr.cell? ⟨w.heap.size, 0, none⟩ = some (.int .i64 fr) := (unhide KB).c 0 (by simp)
        have p1 : wr.cell? ⟨w.heap.size, 1, none⟩ = some (.int .i64 pa) := (unhide KB).c 1 (by simp)
        have p2 : wr.cell? ⟨w.heap.size, 2, none⟩ = some (.slice da ws.length dc) := (unhide KB).c 2 (by simp)
        go_wp2_with fail
        go_ret2
        exact ⟨ret_ib (unhide HN) (unhide HE), unhide BB⟩

end Go.Proofs.Ytndhiecakojjgaz

/-
  Whose a tick is, in the program: the plain answer, at every plan and tick; nothing that was there is written.
-/
import Derived.Test.YtndhiecakojjgazPqOrd
namespace Go.Proofs.Ytndhiecakojjgaz
open Go.RowKit

set_option maxRecDepth 20000 in
set_option maxHeartbeats 2000000 in
theorem begunBy_is {n : Nat} (fr pa : Int) (da : Option Addr) (dn dc : Nat) (ws : List Wn) (a : Int) (w : World) (hr : RowE 3 wnC w da dn ws) (hn : bgN ws a = n) :
    Calls Try.prog 63 #[.agg #[.int .i64 fr, .int .i64 pa, .slice da dn dc], .int .i64 a] w fun e w' => e = .returned (.int .i64 (n : Int)) ∧ Below w.heap.size w w' := by
  have hz := hr.len_eq
  have hs := hr.small
  have HR := hide hr
  clear hr
  subst hz
  obtain ⟨W, hW⟩ : ∃ W, W = w.alloc (Obj.cells #[.int .i64 fr, .int .i64 pa, .slice da ws.length dc] 35) := ⟨_, rfl⟩
  have K0 : Hid (Blk W w.heap.size [.int .i64 fr, .int .i64 pa, .slice da ws.length dc]) := hide (by rw [hW]; exact Blk.new _ _)
  have B0 : Hid (Below w.heap.size w W) := hide (by rw [hW]; exact bel1 _)
  have HW := hide hW
  clear hW
  have HN := hide hn
  clear hn
  obtain ⟨ι, fW, _, hb, hall⟩ := belClass W
  have HB := hide hb
  have HA := hide hall
  have c0 : ∀ x, (fW x).cell? ⟨w.heap.size, 0, none⟩ = some (.int .i64 fr) := fun x => ((unhide K0).below (hb x)).c 0 (by simp)
  have c1 : ∀ x, (fW x).cell? ⟨w.heap.size, 1, none⟩ = some (.int .i64 pa) := fun x => ((unhide K0).below (hb x)).c 1 (by simp)
  have c2 : ∀ x, (fW x).cell? ⟨w.heap.size, 2, none⟩ = some (.slice da ws.length dc) := fun x => ((unhide K0).below (hb x)).c 2 (by simp)
  clear hb hall
  obtain ⟨y0, h0⟩ := (unhide HA) W (Below.refl _ _)
  go_enter Try.func63, Try.ntmps63
  go_upto_region 1 with fail
  rw [← unhide HW, h0]
  clear HW h0
  go_wp2_with fail
  go_loopw [5] (fun s5 wr => ∃ (k : Nat) (x : ι), k ≤ ws.length ∧ s5 = .int .i64 (k : Int) ∧ Hid (∀ j, j < k → (elAt ws j).a1 ≤ a) ∧ wr = fW x) (fun s5 _ => ws.length - (intOf s5).toNat)
  case atStart => exact ⟨0, _, Nat.zero_le _, rfl, hide (fun j hj => by omega), rfl⟩
  case round =>
    obtain ⟨k, x, hk, rfl, HJ, rfl⟩ := hrel
    by_cases hlt : k < ws.length
    · rcases (((unhide HR).below (unhide B0)).wn3) with ⟨z0, _⟩ | ⟨bb, off, rfl, _, hcs⟩
      · omega
      obtain ⟨x1, hx1⟩ : ∃ z, (elAt ws k).a1 = z := ⟨_, rfl⟩
      have m1 : ∀ x, (fW x).cell? ⟨bb, off + k * 3 + 1, none⟩ = some (.int .i64 x1) := fun x => by rw [← hx1]; exact ((unhide HB x).cell (block_lt_of_cell (hcs k hlt).2.1)).trans (hcs k hlt).2.1
      have k0 : (0 : Int) ≤ (k : Int) := by omega
      have k1 : (k : Int) < (ws.length : Int) := by omega
      have k2 : decide ((k : Int) < (ws.length : Int)) = true := decide_eq_true k1
      have HX1 := hide hx1
      clear hcs hx1
      by_cases q : x1 ≤ a
      · have q2 : decide (x1 ≤ a) = true := decide_eq_true q
        go_wp2_with fail
        go_roundw
        case rel => exact ⟨k + 1, _, by omega, by go_num, hide (fun j hj => by rcases Nat.lt_succ_iff_lt_or_eq.1 hj with h | h; exact unhide HJ j h; subst h; rw [unhide HX1]; exact q), rfl⟩
        case measure => simp [intOf]; omega
      · have q2 : decide (x1 ≤ a) = false := decide_eq_false q
        have HC := hide ((bgN_at hlt (by rw [unhide HX1]; omega) (unhide HJ)).symm.trans (unhide HN))
        go_wp2_with fail
        go_ret
        exact ⟨ret_int (by rw [unhide HC]), (unhide B0).trans ((unhide HB _).mono (unhide B0).size)⟩
    · have hkl : k = ws.length := by omega
      have HC := hide ((bgN_all (fun j hj => unhide HJ j (by omega))).symm.trans (unhide HN))
      have k1 : ¬ (k : Int) < (ws.length : Int) := by omega
      have k2 : decide ((k : Int) < (ws.length : Int)) = false := decide_eq_false k1
      clear hkl
      go_wp2_with fail
      go_ret
      exact ⟨ret_int (by have := unhide HC; omega), (unhide B0).trans ((unhide HB _).mono (unhide B0).size)⟩

set_option maxRecDepth 20000 in
set_option maxHeartbeats 2000000 in
theorem ownerOf_is {r : Int} (fr pa : Int) (da : Option Addr) (dn dc : Nat) (ws : List Wn) (t : Int) (w : World) (hr : RowE 3 wnC w da dn ws) (hp : ppB fr pa ws = true) (ht : 0 ≤ t ∧ t ≤ 100000000) (hc : owR fr pa ws t = r) :
    Calls Try.prog 44 #[.agg #[.int .i64 fr, .int .i64 pa, .slice da dn dc], .int .i64 t] w fun e w' => e = .returned (.int .i64 r) ∧ Below w.heap.size w w' := by
  have hz := hr.len_eq
  have hs := hr.small
  have HR := hide hr
  clear hr
  subst hz
  have f0 := ppB_facts hp
  have f1 := f0.1
  have l1 := f0.2.2.1
  obtain ⟨A, hA⟩ : ∃ A, t % fr = A := ⟨_, rfl⟩
  have hA0 : 0 ≤ A ∧ A < fr := by rw [← hA]; exact ⟨Int.emod_nonneg _ (by omega), Int.emod_lt_of_pos _ (by omega)⟩
  have hAt : t.tmod fr = A := by rw [Int.tmod_eq_emod_of_nonneg ht.1]; exact hA
  have hf0 : ¬ fr = 0 := by omega
  have hob : owB fr pa ws t = true := by simp only [owB, hp, inB, Bool.true_and, decide_eq_true_eq]; omega
  have ob := owF_begun hp (a := A)
  have HA' := hide hA
  have HPP := hide hp
  clear f0 hp
  cases hn : bgN ws A with
  | zero =>
    have HE := hide ((ow_none (fr := fr) (pa := pa) (t := t) (by rw [hA]; exact ob.1 hn)).symm.trans hc)
    have HN := hide hn
    clear hA hc ob hn hob
    go_enter Try.func44, Try.ntmps44
    go_wp2_with fail
    obtain ⟨W, hW⟩ : ∃ W, W = (w.alloc (Obj.cells #[.int .i64 fr, .int .i64 pa, .slice da ws.length dc] 35)) := ⟨_, rfl⟩
    rw [← hW]
    have K0 : Hid (Blk W (w.heap.size) [.int .i64 fr, .int .i64 pa, .slice da ws.length dc]) := hide (by rw [hW]; exact Blk.new _ _)
    have B0 : Hid (Below w.heap.size w W) := hide (by rw [hW]; exact (by repeat (first | exact Below.refl _ _ | refine Below.alloc ?_ (by simp; try omega) _ | refine Below.setCell ?_ (by simp; try omega) _ | refine taDr ?_ _)))
    clear hW
    obtain ⟨ι, fW, _, hb, hall⟩ := belClass W
    have HB := hide hb
    have HA := hide hall
    have c00 : ∀ x, (fW x).cell? ⟨w.heap.size, 0, none⟩ = some (.int .i64 fr) := fun x => ((unhide K0).below (hb x)).c 0 (by simp)
    have c01 : ∀ x, (fW x).cell? ⟨w.heap.size, 1, none⟩ = some (.int .i64 pa) := fun x => ((unhide K0).below (hb x)).c 1 (by simp)
    have c02 : ∀ x, (fW x).cell? ⟨w.heap.size, 2, none⟩ = some (.slice da ws.length dc) := fun x => ((unhide K0).below (hb x)).c 2 (by simp)
    clear hb hall
    obtain ⟨x0, h0⟩ := (unhide HA) W (Below.refl _ _)
    rw [h0]
    clear h0
    go_wp2_with (first | (go_at_call 63; refine (belQ (unhide HB) (unhide HA) (begunBy_is _ _ _ _ _ ws _ _ ((unhide HR).below ((unhide B0).trans ((unhide HB _).mono (unhide B0).size))) (unhide HN))).mono ?_; rintro e _ ⟨rfl, y, rfl⟩))
    repeat (refine wp_region_bel (fun w' h => (unhide HA) w' ((unhide HB _).trans (h.mono (unhide HB _).size))) (by kernel_rfl) (by kernel_rfl) ?_; (repeat (go_big_quiet_step (first | (go_at_call 63; exact belQ (unhide HB) (unhide HA) (begunBy_is _ _ _ _ _ ws _ _ ((unhide HR).below ((unhide B0).trans ((unhide HB _).mono (unhide B0).size))) (unhide HN)))))); refine wpQuiet_nil ?_; rintro _ ⟨y, rfl⟩; (first | go_wp2_with (first | (go_at_call 63; refine (belQ (unhide HB) (unhide HA) (begunBy_is _ _ _ _ _ ws _ _ ((unhide HR).below ((unhide B0).trans ((unhide HB _).mono (unhide B0).size))) (unhide HN))).mono ?_; rintro e _ ⟨rfl, y, rfl⟩)) | go_wp2))
    go_ret
    exact ⟨ret_int (unhide HE), (unhide B0).trans ((unhide HB _).mono (unhide B0).size)⟩
  | succ m =>
    have om := ob.2 m hn
    have hlt := om.1
    have hall := ppB_all (unhide HPP) hlt
    rcases (unhide HR).wn3 with ⟨z0, _⟩ | ⟨bb, off, rfl, _, hcs⟩
    · omega
    have n0 := (hcs m hlt).1
    have n1 := (hcs m hlt).2.1
    have n2 := (hcs m hlt).2.2
    obtain ⟨v0, hv0⟩ : ∃ z, (elAt ws m).a0 = z := ⟨_, rfl⟩
    obtain ⟨v1, hv1⟩ : ∃ z, (elAt ws m).a1 = z := ⟨_, rfl⟩
    obtain ⟨v2, hv2⟩ : ∃ z, (elAt ws m).a2 = z := ⟨_, rfl⟩
    rw [hv0, hv1, hv2] at hall
    rw [hv0] at n0
    rw [hv1] at n1
    rw [hv2] at n2
    rw [hv1, hv2] at om
    have HM := hide n0
    have HM1 := hide n1
    have HM2 := hide n2
    have HN := hide hn
    have k0 : (0 : Int) ≤ (m : Int) := by omega
    have k1 : (m : Int) < (ws.length : Int) := by omega
    have k3 : IntKind.i64.wrap ((m : Int) + 1 - 1) = (m : Int) := by rw [IntKind.wrap_i64]; omega
    by_cases q : v1 + v2 ≤ A
    · have HE := hide ((ow_none (fr := fr) (pa := pa) (t := t) (by rw [hA]; exact om.2.1 q)).symm.trans hc)
      clear hA hc ob om hn hob hcs hv0 hv1 hv2 n0 n1 n2
      go_enter Try.func44, Try.ntmps44
      go_wp2_with fail
      obtain ⟨W, hW⟩ : ∃ W, W = (w.alloc (Obj.cells #[.int .i64 fr, .int .i64 pa, .slice (some ⟨bb, off, none⟩) ws.length dc] 35)) := ⟨_, rfl⟩
      rw [← hW]
      have K0 : Hid (Blk W (w.heap.size) [.int .i64 fr, .int .i64 pa, .slice (some ⟨bb, off, none⟩) ws.length dc]) := hide (by rw [hW]; exact Blk.new _ _)
      have B0 : Hid (Below w.heap.size w W) := hide (by rw [hW]; exact (by repeat (first | exact Below.refl _ _ | refine Below.alloc ?_ (by simp; try omega) _ | refine Below.setCell ?_ (by simp; try omega) _ | refine taDr ?_ _)))
      clear hW
      obtain ⟨ι, fW, _, hb, hall⟩ := belClass W
      have HB := hide hb
      have HA := hide hall
      have c00 : ∀ x, (fW x).cell? ⟨w.heap.size, 0, none⟩ = some (.int .i64 fr) := fun x => ((unhide K0).below (hb x)).c 0 (by simp)
      have c01 : ∀ x, (fW x).cell? ⟨w.heap.size, 1, none⟩ = some (.int .i64 pa) := fun x => ((unhide K0).below (hb x)).c 1 (by simp)
      have c02 : ∀ x, (fW x).cell? ⟨w.heap.size, 2, none⟩ = some (.slice (some ⟨bb, off, none⟩) ws.length dc) := fun x => ((unhide K0).below (hb x)).c 2 (by simp)
      clear hb hall
      obtain ⟨x0, h0⟩ := (unhide HA) W (Below.refl _ _)
      rw [h0]
      clear h0
      have m0 : ∀ x, (fW x).cell? ⟨bb, off + m * 3, none⟩ = some (.int .i64 v0) := fun x => (((unhide B0).trans ((unhide HB x).mono (unhide B0).size)).cell (block_lt_of_cell (unhide HM))).trans (unhide HM)
      have m1 : ∀ x, (fW x).cell? ⟨bb, off + m * 3 + 1, none⟩ = some (.int .i64 v1) := fun x => (((unhide B0).trans ((unhide HB x).mono (unhide B0).size)).cell (block_lt_of_cell (unhide HM1))).trans (unhide HM1)
      have m2 : ∀ x, (fW x).cell? ⟨bb, off + m * 3 + 2, none⟩ = some (.int .i64 v2) := fun x => (((unhide B0).trans ((unhide HB x).mono (unhide B0).size)).cell (block_lt_of_cell (unhide HM2))).trans (unhide HM2)
      go_wp2_with (first | (go_at_call 63; refine (belQ (unhide HB) (unhide HA) (begunBy_is _ _ _ _ _ ws _ _ ((unhide HR).below ((unhide B0).trans ((unhide HB _).mono (unhide B0).size))) (unhide HN))).mono ?_; rintro e _ ⟨rfl, y, rfl⟩) | (go_at_call 47; refine (belQ (unhide HB) (unhide HA) (windowEnd_is _ _ _ _ (by omega) (by omega))).mono ?_; rintro e _ ⟨rfl, y, rfl⟩))
      repeat (refine wp_region_bel (fun w' h => (unhide HA) w' ((unhide HB _).trans (h.mono (unhide HB _).size))) (by kernel_rfl) (by kernel_rfl) ?_; (repeat (go_big_quiet_step (first | (go_at_call 63; exact belQ (unhide HB) (unhide HA) (begunBy_is _ _ _ _ _ ws _ _ ((unhide HR).below ((unhide B0).trans ((unhide HB _).mono (unhide B0).size))) (unhide HN))) | (go_at_call 47; exact belQ (unhide HB) (unhide HA) (windowEnd_is _ _ _ _ (by omega) (by omega)))))); refine wpQuiet_nil ?_; rintro _ ⟨y, rfl⟩; (first | go_wp2_with (first | (go_at_call 63; refine (belQ (unhide HB) (unhide HA) (begunBy_is _ _ _ _ _ ws _ _ ((unhide HR).below ((unhide B0).trans ((unhide HB _).mono (unhide B0).size))) (unhide HN))).mono ?_; rintro e _ ⟨rfl, y, rfl⟩) | (go_at_call 47; refine (belQ (unhide HB) (unhide HA) (windowEnd_is _ _ _ _ (by omega) (by omega))).mono ?_; rintro e _ ⟨rfl, y, rfl⟩)) | go_wp2))
      go_ret
      exact ⟨ret_int (unhide HE), (unhide B0).trans ((unhide HB _).mono (unhide B0).size)⟩
    · have HE := hide ((ow_at hob hlt (by rw [hA]; exact om.2.2 (by omega))).symm.trans hc)
      rw [hv0] at HE
      clear hA hc ob om hn hob hcs hv0 hv1 hv2 n0 n1 n2
      go_enter Try.func44, Try.ntmps44
      go_wp2_with fail
      obtain ⟨W, hW⟩ : ∃ W, W = (w.alloc (Obj.cells #[.int .i64 fr, .int .i64 pa, .slice (some ⟨bb, off, none⟩) ws.length dc] 35)) := ⟨_, rfl⟩
      rw [← hW]
      have K0 : Hid (Blk W (w.heap.size) [.int .i64 fr, .int .i64 pa, .slice (some ⟨bb, off, none⟩) ws.length dc]) := hide (by rw [hW]; exact Blk.new _ _)
      have B0 : Hid (Below w.heap.size w W) := hide (by rw [hW]; exact (by repeat (first | exact Below.refl _ _ | refine Below.alloc ?_ (by simp; try omega) _ | refine Below.setCell ?_ (by simp; try omega) _ | refine taDr ?_ _)))
      clear hW
      obtain ⟨ι, fW, _, hb, hall⟩ := belClass W
      have HB := hide hb
      have HA := hide hall
      have c00 : ∀ x, (fW x).cell? ⟨w.heap.size, 0, none⟩ = some (.int .i64 fr) := fun x => ((unhide K0).below (hb x)).c 0 (by simp)
      have c01 : ∀ x, (fW x).cell? ⟨w.heap.size, 1, none⟩ = some (.int .i64 pa) := fun x => ((unhide K0).below (hb x)).c 1 (by simp)
      have c02 : ∀ x, (fW x).cell? ⟨w.heap.size, 2, none⟩ = some (.slice (some ⟨bb, off, none⟩) ws.length dc) := fun x => ((unhide K0).below (hb x)).c 2 (by simp)
      clear hb hall
      obtain ⟨x0, h0⟩ := (unhide HA) W (Below.refl _ _)
      rw [h0]
      clear h0
      have m0 : ∀ x, (fW x).cell? ⟨bb, off + m * 3, none⟩ = some (.int .i64 v0) := fun x => (((unhide B0).trans ((unhide HB x).mono (unhide B0).size)).cell (block_lt_of_cell (unhide HM))).trans (unhide HM)
      have m1 : ∀ x, (fW x).cell? ⟨bb, off + m * 3 + 1, none⟩ = some (.int .i64 v1) := fun x => (((unhide B0).trans ((unhide HB x).mono (unhide B0).size)).cell (block_lt_of_cell (unhide HM1))).trans (unhide HM1)
      have m2 : ∀ x, (fW x).cell? ⟨bb, off + m * 3 + 2, none⟩ = some (.int .i64 v2) := fun x => (((unhide B0).trans ((unhide HB x).mono (unhide B0).size)).cell (block_lt_of_cell (unhide HM2))).trans (unhide HM2)
      go_wp2_with (first | (go_at_call 63; refine (belQ (unhide HB) (unhide HA) (begunBy_is _ _ _ _ _ ws _ _ ((unhide HR).below ((unhide B0).trans ((unhide HB _).mono (unhide B0).size))) (unhide HN))).mono ?_; rintro e _ ⟨rfl, y, rfl⟩) | (go_at_call 47; refine (belQ (unhide HB) (unhide HA) (windowEnd_is _ _ _ _ (by omega) (by omega))).mono ?_; rintro e _ ⟨rfl, y, rfl⟩))
      repeat (refine wp_region_bel (fun w' h => (unhide HA) w' ((unhide HB _).trans (h.mono (unhide HB _).size))) (by kernel_rfl) (by kernel_rfl) ?_; (repeat (go_big_quiet_step (first | (go_at_call 63; exact belQ (unhide HB) (unhide HA) (begunBy_is _ _ _ _ _ ws _ _ ((unhide HR).below ((unhide B0).trans ((unhide HB _).mono (unhide B0).size))) (unhide HN))) | (go_at_call 47; exact belQ (unhide HB) (unhide HA) (windowEnd_is _ _ _ _ (by omega) (by omega)))))); refine wpQuiet_nil ?_; rintro _ ⟨y, rfl⟩; (first | go_wp2_with (first | (go_at_call 63; refine (belQ (unhide HB) (unhide HA) (begunBy_is _ _ _ _ _ ws _ _ ((unhide HR).below ((unhide B0).trans ((unhide HB _).mono (unhide B0).size))) (unhide HN))).mono ?_; rintro e _ ⟨rfl, y, rfl⟩) | (go_at_call 47; refine (belQ (unhide HB) (unhide HA) (windowEnd_is _ _ _ _ (by omega) (by omega))).mono ?_; rintro e _ ⟨rfl, y, rfl⟩)) | go_wp2))
      go_ret
      exact ⟨ret_int (unhide HE), (unhide B0).trans ((unhide HB _).mono (unhide B0).size)⟩

set_option maxRecDepth 20000 in
set_option maxHeartbeats 2000000 in
theorem implOwner_is {n : Int} {b : Bool} (fr pa : Int) (da : Option Addr) (dn dc : Nat) (ws : List Wn) (t : Int) (w : World) (hr : RowE 3 wnC w da dn ws) (hn : owR fr pa ws t = n) (hb : owB fr pa ws t = b) :
    Calls Try.prog 21 #[.agg #[.int .i64 fr, .int .i64 pa, .slice da dn dc], .int .i64 t] w fun e w' => e = .returned (.tuple #[.int .i64 n, .bool b]) ∧ Below w.heap.size w w' := by
  have hz := hr.len_eq
  have hs := hr.small
  have HR := hide hr
  clear hr
  subst hz
  rcases two (ppB fr pa ws) (inB t 0 100000000) with ⟨q1, hv⟩ | ⟨q1, q2, hv⟩ | ⟨q1, q2, hv⟩
  · have HE := hide ((show owB fr pa ws t = false from hv).symm.trans hb)
    have HN := hide ((ow_no (show owB fr pa ws t = false from hv)).symm.trans hn)
    clear hb hn hv
    go_enter Try.func21, Try.ntmps21
    go_wp2_with fail
    obtain ⟨W, hW⟩ : ∃ W, W = (w.alloc (Obj.cells #[.int .i64 fr, .int .i64 pa, .slice da ws.length dc] 35)) := ⟨_, rfl⟩
    rw [← hW]
    have K0 : Hid (Blk W (w.heap.size) [.int .i64 fr, .int .i64 pa, .slice da ws.length dc]) := hide (by rw [hW]; exact Blk.new _ _)
    have B0 : Hid (Below w.heap.size w W) := hide (by rw [hW]; exact (by repeat (first | exact Below.refl _ _ | refine Below.alloc ?_ (by simp; try omega) _ | refine Below.setCell ?_ (by simp; try omega) _ | refine taDr ?_ _)))
    clear hW
    obtain ⟨ι, fW, _, hb, hall⟩ := belClass W
    have HB := hide hb
    have HA := hide hall
    have c00 : ∀ x, (fW x).cell? ⟨w.heap.size, 0, none⟩ = some (.int .i64 fr) := fun x => ((unhide K0).below (hb x)).c 0 (by simp)
    have c01 : ∀ x, (fW x).cell? ⟨w.heap.size, 1, none⟩ = some (.int .i64 pa) := fun x => ((unhide K0).below (hb x)).c 1 (by simp)
    have c02 : ∀ x, (fW x).cell? ⟨w.heap.size, 2, none⟩ = some (.slice da ws.length dc) := fun x => ((unhide K0).below (hb x)).c 2 (by simp)
    clear hb hall
    obtain ⟨x0, h0⟩ := (unhide HA) W (Below.refl _ _)
    rw [h0]
    clear h0
    go_wp2_with (first | (go_at_call 18; refine (belQ (unhide HB) (unhide HA) (implPlanOk_is _ _ _ _ _ ws _ ((unhide HR).below ((unhide B0).trans ((unhide HB _).mono (unhide B0).size))) (by exact q1))).mono ?_; rintro e _ ⟨rfl, y, rfl⟩))
    repeat (refine wp_region_bel (fun w' h => (unhide HA) w' ((unhide HB _).trans (h.mono (unhide HB _).size))) (by kernel_rfl) (by kernel_rfl) ?_; (repeat (go_big_quiet_step (first | (go_at_call 18; exact belQ (unhide HB) (unhide HA) (implPlanOk_is _ _ _ _ _ ws _ ((unhide HR).below ((unhide B0).trans ((unhide HB _).mono (unhide B0).size))) (by exact q1)))))); refine wpQuiet_nil ?_; rintro _ ⟨y, rfl⟩; (first | go_wp2_with (first | (go_at_call 18; refine (belQ (unhide HB) (unhide HA) (implPlanOk_is _ _ _ _ _ ws _ ((unhide HR).below ((unhide B0).trans ((unhide HB _).mono (unhide B0).size))) (by exact q1))).mono ?_; rintro e _ ⟨rfl, y, rfl⟩)) | go_wp2))
    go_ret2
    exact ⟨ret_ib (unhide HN) (unhide HE), (unhide B0).trans ((unhide HB _).mono (unhide B0).size)⟩
  · have HE := hide ((show owB fr pa ws t = false from hv).symm.trans hb)
    have HN := hide ((ow_no (show owB fr pa ws t = false from hv)).symm.trans hn)
    clear hb hn hv
    go_enter Try.func21, Try.ntmps21
    go_wp2_with fail
    obtain ⟨W, hW⟩ : ∃ W, W = (w.alloc (Obj.cells #[.int .i64 fr, .int .i64 pa, .slice da ws.length dc] 35)) := ⟨_, rfl⟩
    rw [← hW]
    have K0 : Hid (Blk W (w.heap.size) [.int .i64 fr, .int .i64 pa, .slice da ws.length dc]) := hide (by rw [hW]; exact Blk.new _ _)
    have B0 : Hid (Below w.heap.size w W) := hide (by rw [hW]; exact (by repeat (first | exact Below.refl _ _ | refine Below.alloc ?_ (by simp; try omega) _ | refine Below.setCell ?_ (by simp; try omega) _ | refine taDr ?_ _)))
    clear hW
    obtain ⟨ι, fW, _, hb, hall⟩ := belClass W
    have HB := hide hb
    have HA := hide hall
    have c00 : ∀ x, (fW x).cell? ⟨w.heap.size, 0, none⟩ = some (.int .i64 fr) := fun x => ((unhide K0).below (hb x)).c 0 (by simp)
    have c01 : ∀ x, (fW x).cell? ⟨w.heap.size, 1, none⟩ = some (.int .i64 pa) := fun x => ((unhide K0).below (hb x)).c 1 (by simp)
    have c02 : ∀ x, (fW x).cell? ⟨w.heap.size, 2, none⟩ = some (.slice da ws.length dc) := fun x => ((unhide K0).below (hb x)).c 2 (by simp)
    clear hb hall
    obtain ⟨x0, h0⟩ := (unhide HA) W (Below.refl _ _)
    rw [h0]
    clear h0
    go_wp2_with (first | (go_at_call 18; refine (belQ (unhide HB) (unhide HA) (implPlanOk_is _ _ _ _ _ ws _ ((unhide HR).below ((unhide B0).trans ((unhide HB _).mono (unhide B0).size))) (by exact q1))).mono ?_; rintro e _ ⟨rfl, y, rfl⟩) | (go_at_call 36; refine (belS (within_is _ _ _ _ (by exact q2))).mono ?_; rintro e _ ⟨rfl, y, rfl⟩))
    repeat (refine wp_region_bel (fun w' h => (unhide HA) w' ((unhide HB _).trans (h.mono (unhide HB _).size))) (by kernel_rfl) (by kernel_rfl) ?_; (repeat (go_big_quiet_step (first | (go_at_call 18; exact belQ (unhide HB) (unhide HA) (implPlanOk_is _ _ _ _ _ ws _ ((unhide HR).below ((unhide B0).trans ((unhide HB _).mono (unhide B0).size))) (by exact q1))) | (go_at_call 36; exact belS (within_is _ _ _ _ (by exact q2)))))); refine wpQuiet_nil ?_; rintro _ ⟨y, rfl⟩; (first | go_wp2_with (first | (go_at_call 18; refine (belQ (unhide HB) (unhide HA) (implPlanOk_is _ _ _ _ _ ws _ ((unhide HR).below ((unhide B0).trans ((unhide HB _).mono (unhide B0).size))) (by exact q1))).mono ?_; rintro e _ ⟨rfl, y, rfl⟩) | (go_at_call 36; refine (belS (within_is _ _ _ _ (by exact q2))).mono ?_; rintro e _ ⟨rfl, y, rfl⟩)) | go_wp2))
    go_ret2
    exact ⟨ret_ib (unhide HN) (unhide HE), (unhide B0).trans ((unhide HB _).mono (unhide B0).size)⟩
  · have HE := hide ((show owB fr pa ws t = true from hv).symm.trans hb)
    have f2 := in_facts q2
    have HNN := hide hn
    clear hb hn hv
    go_enter Try.func21, Try.ntmps21
    go_wp2_with fail
    obtain ⟨W, hW⟩ : ∃ W, W = (w.alloc (Obj.cells #[.int .i64 fr, .int .i64 pa, .slice da ws.length dc] 35)) := ⟨_, rfl⟩
    rw [← hW]
    have K0 : Hid (Blk W (w.heap.size) [.int .i64 fr, .int .i64 pa, .slice da ws.length dc]) := hide (by rw [hW]; exact Blk.new _ _)
    have B0 : Hid (Below w.heap.size w W) := hide (by rw [hW]; exact (by repeat (first | exact Below.refl _ _ | refine Below.alloc ?_ (by simp; try omega) _ | refine Below.setCell ?_ (by simp; try omega) _ | refine taDr ?_ _)))
    clear hW
    obtain ⟨ι, fW, _, hb, hall⟩ := belClass W
    have HB := hide hb
    have HA := hide hall
    have c00 : ∀ x, (fW x).cell? ⟨w.heap.size, 0, none⟩ = some (.int .i64 fr) := fun x => ((unhide K0).below (hb x)).c 0 (by simp)
    have c01 : ∀ x, (fW x).cell? ⟨w.heap.size, 1, none⟩ = some (.int .i64 pa) := fun x => ((unhide K0).below (hb x)).c 1 (by simp)
    have c02 : ∀ x, (fW x).cell? ⟨w.heap.size, 2, none⟩ = some (.slice da ws.length dc) := fun x => ((unhide K0).below (hb x)).c 2 (by simp)
    clear hb hall
    obtain ⟨x0, h0⟩ := (unhide HA) W (Below.refl _ _)
    rw [h0]
    clear h0
    go_wp2_with (first | (go_at_call 18; refine (belQ (unhide HB) (unhide HA) (implPlanOk_is _ _ _ _ _ ws _ ((unhide HR).below ((unhide B0).trans ((unhide HB _).mono (unhide B0).size))) (by exact q1))).mono ?_; rintro e _ ⟨rfl, y, rfl⟩) | (go_at_call 36; refine (belS (within_is _ _ _ _ (by exact q2))).mono ?_; rintro e _ ⟨rfl, y, rfl⟩) | (go_at_call 44; refine (belQ (unhide HB) (unhide HA) (ownerOf_is _ _ _ _ _ ws _ _ ((unhide HR).below ((unhide B0).trans ((unhide HB _).mono (unhide B0).size))) (by exact q1) f2 (unhide HNN))).mono ?_; rintro e _ ⟨rfl, y, rfl⟩))
    repeat (refine wp_region_bel (fun w' h => (unhide HA) w' ((unhide HB _).trans (h.mono (unhide HB _).size))) (by kernel_rfl) (by kernel_rfl) ?_; (repeat (go_big_quiet_step (first | (go_at_call 18; exact belQ (unhide HB) (unhide HA) (implPlanOk_is _ _ _ _ _ ws _ ((unhide HR).below ((unhide B0).trans ((unhide HB _).mono (unhide B0).size))) (by exact q1))) | (go_at_call 36; exact belS (within_is _ _ _ _ (by exact q2))) | (go_at_call 44; exact belQ (unhide HB) (unhide HA) (ownerOf_is _ _ _ _ _ ws _ _ ((unhide HR).below ((unhide B0).trans ((unhide HB _).mono (unhide B0).size))) (by exact q1) f2 (unhide HNN)))))); refine wpQuiet_nil ?_; rintro _ ⟨y, rfl⟩; (first | go_wp2_with (first | (go_at_call 18; refine (belQ (unhide HB) (unhide HA) (implPlanOk_is _ _ _ _ _ ws _ ((unhide HR).below ((unhide B0).trans ((unhide HB _).mono (unhide B0).size))) (by exact q1))).mono ?_; rintro e _ ⟨rfl, y, rfl⟩) | (go_at_call 36; refine (belS (within_is _ _ _ _ (by exact q2))).mono ?_; rintro e _ ⟨rfl, y, rfl⟩) | (go_at_call 44; refine (belQ (unhide HB) (unhide HA) (ownerOf_is _ _ _ _ _ ws _ _ ((unhide HR).below ((unhide B0).trans ((unhide HB _).mono (unhide B0).size))) (by exact q1) f2 (unhide HNN))).mono ?_; rintro e _ ⟨rfl, y, rfl⟩)) | go_wp2))
    go_ret2
    exact ⟨ret_ib rfl (unhide HE), (unhide B0).trans ((unhide HB _).mono (unhide B0).size)⟩

end Go.Proofs.Ytndhiecakojjgaz

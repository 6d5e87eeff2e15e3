/-
  What the model's l19Carry and l19Many answer: plain answers; nothing that was there is written.
-/
import Derived.Test.YtfnnfldfnjnlfagMRlCar
namespace Go.Proofs.Ytfnnfldfnjnlfag
open Go Go.RowKit

set_option maxRecDepth 20000 in
set_option maxHeartbeats 2000000 in
theorem l19Carry_any (nh nc nd : Int) (a1 a2 a3 : Option Addr) (l1 c1 l2 c2 l3 c3 : Nat) (cs : List Cr) (nm : ByteArray) (w : World) (hr : RowE 3 crC w a2 l2 cs) :
    Calls Try.prog 63 #[.agg #[.slice a1 l1 c1, .slice a2 l2 c2, .slice a3 l3 c3, .int .i64 nh, .int .i64 nc, .int .i64 nd], .string nm] w fun e w' => e = .returned (.int .i64 (ixE (qCr nm) cs)) ∧ Below w.heap.size w w' := by
  have hz := hr.len_eq
  have hsm := hr.small
  have HR := hide hr
  clear hr
  subst hz
  obtain ⟨W, hW⟩ : ∃ W, W = w.alloc (Obj.cells #[.slice a1 l1 c1, .slice a2 cs.length c2, .slice a3 l3 c3, .int .i64 nh, .int .i64 nc, .int .i64 nd] 30) := ⟨_, rfl⟩
  have g0 : W.cell? ⟨w.heap.size, 1, none⟩ = some (.slice a2 cs.length c2) := by rw [hW]; exact (Blk.new (w := w) [.slice a1 l1 c1, .slice a2 cs.length c2, .slice a3 l3 c3, .int .i64 nh, .int .i64 nc, .int .i64 nd] 30).c 1 (by simp)
  have B0 : Hid (Below w.heap.size w W) := hide (by rw [hW]; exact bel1 _)
  have HW := hide hW
  clear hW
  go_enter Try.func63, Try.ntmps63
  go_wp2_with fail
  rw [← unhide HW]
  clear HW
  go_loopw [5] (fun i wr => ∃ k : Nat, i = .int .i64 k ∧ k ≤ cs.length ∧ wr = W ∧ Hid (∀ j, j < k → qCr nm (elAt cs j) = false)) (fun i _ => cs.length - (intOf i).toNat)
  case atStart => exact ⟨0, rfl, Nat.zero_le _, rfl, hide (fun j hj => by omega)⟩
  case round =>
    obtain ⟨k, rfl, hk, hwr, AL⟩ := hrel
    subst hwr
    by_cases hlt : k < cs.length
    · obtain ⟨bb, off, rfl, hc⟩ := (unhide HR).at_ k hlt
      have s0 : w.cell? ⟨bb, off + k * 3, none⟩ = some (.string (elAt cs k).n) := hc 0 (by omega)
      have s0 := ((unhide B0).cell (block_lt_of_cell s0)).trans s0
      have hi1 : (k : Int) < (cs.length : Int) := by omega
      have hi0 : (0 : Int) ≤ (k : Int) := by omega
      obtain ⟨x, hx⟩ : ∃ x, (elAt cs k).n = x := ⟨_, rfl⟩
      rw [hx] at s0
      have HX := hide hx
      clear hc hx
      by_cases e : x = nm
      · have HE : Hid (ixE (qCr nm) cs = (k : Int)) := hide (ixE_at hlt (decide_eq_true (by rw [unhide HX]; exact e)) (unhide AL))
        have d : (x.toList == nm.toList) = true := by rw [e]; simp
        clear e AL
        go_wp2_with fail
        go_ret
        exact ⟨ret_int (unhide HE).symm, unhide B0⟩
      · have d := txl_no e
        have NX : Hid (∀ j, j < k + 1 → qCr nm (elAt cs j) = false) := hide (fun j hj => by
          by_cases e3 : j = k
          · rw [e3]; exact decide_eq_false (by rw [unhide HX]; exact e)
          · exact (unhide AL) j (by omega))
        clear e AL
        go_wp2_with fail
        go_roundw
        case rel => exact ⟨k + 1, by go_num, by omega, by first | rfl | trivial, NX⟩
        case measure => simp [intOf]; omega
    · have hi1 : ¬ (k : Int) < (cs.length : Int) := by omega
      have HE : Hid (ixE (qCr nm) cs = -1) := hide (ixE_none (fun j hj => (unhide AL) j (by omega)))
      go_wp2_with fail
      go_ret
      exact ⟨ret_int (unhide HE).symm, unhide B0⟩
set_option maxRecDepth 20000 in
set_option maxHeartbeats 2000000 in
theorem l19Many_any (nh nc nd : Int) (a1 a2 a3 : Option Addr) (l1 c1 l2 c2 l3 c3 : Nat) (ds : List Df) (nm : ByteArray) (w : World) (hr : RowE 3 dfC w a3 l3 ds) (hl : l3 ≤ 100) :
    Calls Try.prog 64 #[.agg #[.slice a1 l1 c1, .slice a2 l2 c2, .slice a3 l3 c3, .int .i64 nh, .int .i64 nc, .int .i64 nd], .string nm] w fun e w' => e = .returned (.int .i64 (mnF ds nm)) ∧ Below w.heap.size w w' := by
  have hz := hr.len_eq
  have hsm := hr.small
  have HR := hide hr
  clear hr
  subst hz
  obtain ⟨W, hW⟩ : ∃ W, W = w.alloc (Obj.cells #[.slice a1 l1 c1, .slice a2 l2 c2, .slice a3 ds.length c3, .int .i64 nh, .int .i64 nc, .int .i64 nd] 30) := ⟨_, rfl⟩
  have g0 : W.cell? ⟨w.heap.size, 2, none⟩ = some (.slice a3 ds.length c3) := by rw [hW]; exact (Blk.new (w := w) [.slice a1 l1 c1, .slice a2 l2 c2, .slice a3 ds.length c3, .int .i64 nh, .int .i64 nc, .int .i64 nd] 30).c 2 (by simp)
  have B0 : Hid (Below w.heap.size w W) := hide (by rw [hW]; exact bel1 _)
  have HW := hide hW
  clear hW
  go_enter Try.func64, Try.ntmps64
  go_wp2_with fail
  rw [← unhide HW]
  clear HW
  go_loopw [5, 6] (fun m i wr => ∃ k : Nat, m = .int .i64 (mnK ds nm k) ∧ i = .int .i64 k ∧ k ≤ ds.length ∧ wr = W) (fun _ i _ => ds.length - (intOf i).toNat)
  case atStart => exact ⟨0, rfl, rfl, Nat.zero_le _, rfl⟩
  case round =>
    obtain ⟨k, rfl, rfl, hk, hwr⟩ := hrel
    subst hwr
    by_cases hlt : k < ds.length
    · obtain ⟨bb, off, rfl, hc⟩ := (unhide HR).at_ k hlt
      have s0 : w.cell? ⟨bb, off + k * 3, none⟩ = some (.string (elAt ds k).n) := hc 0 (by omega)
      have s0 := ((unhide B0).cell (block_lt_of_cell s0)).trans s0
      have hi1 : (k : Int) < (ds.length : Int) := by omega
      have hi0 : (0 : Int) ≤ (k : Int) := by omega
      have hm := mnK_bd ds nm k
      have HS : Hid (mnK ds nm (k + 1) = mnK ds nm k + if (elAt ds k).n = nm then 1 else 0) := hide rfl
      obtain ⟨M, hM⟩ : ∃ m, mnK ds nm k = m := ⟨_, rfl⟩
      rw [hM] at HS hm ⊢
      obtain ⟨x, hx⟩ : ∃ x, (elAt ds k).n = x := ⟨_, rfl⟩
      rw [hx] at s0 HS
      clear hc hx hM
      by_cases e : x = nm
      · have d : (x.toList == nm.toList) = true := by rw [e]; simp
        have HS2 : Hid (mnK ds nm (k + 1) = M + 1) := hide (by rw [unhide HS, if_pos e])
        clear e HS
        go_wp2_with fail
        go_roundw
        case rel => exact ⟨k + 1, by rw [unhide HS2], by go_num, by omega, by first | rfl | trivial⟩
        case measure => simp [intOf]; omega
      · have d := txl_no e
        have HS2 : Hid (mnK ds nm (k + 1) = M) := hide (by rw [unhide HS, if_neg e]; omega)
        clear e HS
        go_wp2_with fail
        go_roundw
        case rel => exact ⟨k + 1, by rw [unhide HS2], by go_num, by omega, by first | rfl | trivial⟩
        case measure => simp [intOf]; omega
    · have hi1 : ¬ (k : Int) < (ds.length : Int) := by omega
      have HK : Hid (mnK ds nm k = mnF ds nm) := hide (by rw [mnF, show k = ds.length by omega])
      rw [unhide HK]
      go_wp2_with fail
      go_ret
      exact ⟨rfl, unhide B0⟩

end Go.Proofs.Ytfnnfldfnjnlfag

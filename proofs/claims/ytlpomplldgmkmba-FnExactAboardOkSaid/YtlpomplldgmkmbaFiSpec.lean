/-
  What the model's l18Find and l18Needed answer: plain answers, at every argument; nothing that was there is written.
-/
import Derived.Test.YtlpomplldgmkmbaLx1
namespace Go.Proofs.Ytlpomplldgmkmba
open Go Go.RowKit

set_option maxRecDepth 20000 in
set_option maxHeartbeats 2000000 in
theorem l18Find_any (s : Int) (a1 : Option Addr) (l1 c1 : Nat) (zs : List Lc) (n : Int) (w : World) (hr : LsT w a1 l1 zs) :
    Calls Try.prog 55 #[.agg #[.int .i64 s, .slice a1 l1 c1], .int .i64 n] w fun e w' => e = .returned (.int .i64 (fnF zs n)) ∧ Below w.heap.size w w' := by
  have hzl := hr.len_eq
  obtain ⟨ls, e, hl⟩ := hr.ex
  have hz := hl.row.len_eq
  have HO := hide hl.row.six
  have hsm := hl.row.small
  have HE := hide e
  obtain ⟨W, hW⟩ : ∃ W, W = w.alloc (Obj.cells #[.int .i64 s, .slice a1 l1 c1] 57) := ⟨_, rfl⟩
  have KB : Hid (Blk W w.heap.size [.int .i64 s, .slice a1 l1 c1]) := hide (by rw [hW]; exact Blk.new _ _)
  have BW : Hid (Below w.heap.size w W) := hide (by rw [hW]; exact bel1 _)
  have HW := hide hW
  have HZL := hide hzl
  clear hr hl e hW hzl
  subst hz
  go_enter Try.func55, Try.ntmps55
  go_wp2_with fail
  rw [← unhide HW]
  clear HW
  go_loopw [5] (fun i wr => ∃ k : Nat, i = .int .i64 k ∧ k ≤ ls.length ∧ wr = W ∧ Hid (∀ j, j < k → (elAt zs j).nb ≠ n)) (fun i _ => ls.length - (intOf i).toNat)
  case atStart => exact ⟨0, rfl, Nat.zero_le _, rfl, hide (fun j hj => by omega)⟩
  case round =>
    obtain ⟨k, rfl, hk, hwr, AL⟩ := hrel
    subst hwr
    have c1' : wr.cell? ⟨w.heap.size, 1, none⟩ = some (.slice a1 ls.length c1) := (unhide KB).c 1 (by simp)
    by_cases hlt : k < ls.length
    · rcases (unhide HO) with ⟨h0, _⟩ | ⟨bb, off, rfl, _, hc⟩
      · omega
      have q := hc k hlt
      have el := elAt_lx (unhide HE) hlt
      have s1 := ((unhide BW).cell (block_lt_of_cell q.2.1)).trans q.2.1
      have hi1 : (k : Int) < (ls.length : Int) := by omega
      have hi0 : (0 : Int) ≤ (k : Int) := by omega
      have hf : (elAt zs k).nb = (elAt ls k).nb := by rw [el]; rfl
      obtain ⟨X, hX⟩ : ∃ x, (elAt ls k).nb = x := ⟨_, rfl⟩
      rw [hX] at hf s1
      clear hX hc q el
      by_cases e : X = n
      · have HR : Hid (fnF zs n = (k : Int)) := hide (by have := unhide HZL; exact fnF_at (by omega) (hf.trans e) (unhide AL))
        have e1 : (X == n) = true := by simpa using e
        have e2 : decide (X = n) = true := by simpa using e
        clear hf
        go_wp2_with fail
        go_ret
        exact ⟨ret_int (unhide HR).symm, unhide BW⟩
      · have NX : Hid (∀ j, j < k + 1 → (elAt zs j).nb ≠ n) := hide (fun j hj => by
          by_cases e3 : j = k
          · rw [e3, hf]; exact e
          · exact (unhide AL) j (by omega))
        have e1 : (X == n) = false := by simpa using e
        have e2 : decide (X = n) = false := by simpa using e
        clear hf AL
        go_wp2_with fail
        go_roundw
        case rel => exact ⟨k + 1, by go_num, by omega, by first | rfl | trivial, NX⟩
        case measure => simp [intOf]; omega
    · have hi1 : ¬ (k : Int) < (ls.length : Int) := by omega
      have HR : Hid (fnF zs n = -1) := hide (fnF_none (fun j hj => (unhide AL) j (by have := unhide HZL; omega)))
      go_wp2_with fail
      go_ret
      exact ⟨ret_int (unhide HR).symm, unhide BW⟩
set_option maxRecDepth 20000 in
set_option maxHeartbeats 2000000 in
theorem l18Needed_any (s : Int) (a1 : Option Addr) (l1 c1 : Nat) (zs : List Lc) (n : Int) (w : World) (hr : LsT w a1 l1 zs) :
    Calls Try.prog 63 #[.agg #[.int .i64 s, .slice a1 l1 c1], .int .i64 n] w fun e w' => e = .returned (.bool (neB zs n)) ∧ Below w.heap.size w w' := by
  have hzl := hr.len_eq
  obtain ⟨ls, e, hl⟩ := hr.ex
  have hz := hl.row.len_eq
  have HO := hide hl.row.six
  have hsm := hl.row.small
  have HE := hide e
  obtain ⟨W, hW⟩ : ∃ W, W = w.alloc (Obj.cells #[.int .i64 s, .slice a1 l1 c1] 57) := ⟨_, rfl⟩
  have KB : Hid (Blk W w.heap.size [.int .i64 s, .slice a1 l1 c1]) := hide (by rw [hW]; exact Blk.new _ _)
  have BW : Hid (Below w.heap.size w W) := hide (by rw [hW]; exact bel1 _)
  have HW := hide hW
  have HZL := hide hzl
  clear hr hl e hW hzl
  subst hz
  go_enter Try.func63, Try.ntmps63
  go_wp2_with fail
  rw [← unhide HW]
  clear HW
  go_loopw [5] (fun i wr => ∃ k : Nat, i = .int .i64 k ∧ k ≤ ls.length ∧ wr = W ∧ Hid (∀ j, j < k → (elAt zs j).ne ≠ n)) (fun i _ => ls.length - (intOf i).toNat)
  case atStart => exact ⟨0, rfl, Nat.zero_le _, rfl, hide (fun j hj => by omega)⟩
  case round =>
    obtain ⟨k, rfl, hk, hwr, AL⟩ := hrel
    subst hwr
    have c1' : wr.cell? ⟨w.heap.size, 1, none⟩ = some (.slice a1 ls.length c1) := (unhide KB).c 1 (by simp)
    by_cases hlt : k < ls.length
    · rcases (unhide HO) with ⟨h0, _⟩ | ⟨bb, off, rfl, _, hc⟩
      · omega
      have q := hc k hlt
      have el := elAt_lx (unhide HE) hlt
      have s1 := ((unhide BW).cell (block_lt_of_cell q.2.2.2.2.1)).trans q.2.2.2.2.1
      have hi1 : (k : Int) < (ls.length : Int) := by omega
      have hi0 : (0 : Int) ≤ (k : Int) := by omega
      have hf : (elAt zs k).ne = (elAt ls k).ne := by rw [el]; rfl
      obtain ⟨X, hX⟩ : ∃ x, (elAt ls k).ne = x := ⟨_, rfl⟩
      rw [hX] at hf s1
      clear hX hc q el
      by_cases e : X = n
      · have HR : Hid (neB zs n = true) := hide (by have := unhide HZL; exact neB_yes (i := k) (by omega) (hf.trans e))
        have e1 : (X == n) = true := by simpa using e
        have e2 : decide (X = n) = true := by simpa using e
        clear hf
        go_wp2_with fail
        go_ret
        exact ⟨ret_bool (unhide HR).symm, unhide BW⟩
      · have NX : Hid (∀ j, j < k + 1 → (elAt zs j).ne ≠ n) := hide (fun j hj => by
          by_cases e3 : j = k
          · rw [e3, hf]; exact e
          · exact (unhide AL) j (by omega))
        have e1 : (X == n) = false := by simpa using e
        have e2 : decide (X = n) = false := by simpa using e
        clear hf AL
        go_wp2_with fail
        go_roundw
        case rel => exact ⟨k + 1, by go_num, by omega, by first | rfl | trivial, NX⟩
        case measure => simp [intOf]; omega
    · have hi1 : ¬ (k : Int) < (ls.length : Int) := by omega
      have HR : Hid (neB zs n = false) := hide (neB_no (fun j hj => (unhide AL) j (by have := unhide HZL; omega)))
      go_wp2_with fail
      go_ret
      exact ⟨ret_bool (unhide HR).symm, unhide BW⟩

end Go.Proofs.Ytlpomplldgmkmba

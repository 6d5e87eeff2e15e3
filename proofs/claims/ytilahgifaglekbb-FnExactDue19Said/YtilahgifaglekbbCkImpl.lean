/-
  What the program's ClockOk and TaskOk answer: plain answers, at every argument; nothing that was there is written.
-/
import Derived.Test.YtilahgifaglekbbCkPure
import Derived.Test.YtilahgifaglekbbNameIs
import Derived.Test.YtilahgifaglekbbTaAlert
import Derived.Test.YtilahgifaglekbbLeftPure
namespace Go.Proofs.Ytilahgifaglekbb
open Go.RowKit

theorem ckB_in3 (h c d : Int) : in3 h c d 1000000 = ckB h c d := rfl
theorem tsB_in3 (t : Ts) : tsB t = (nameB t.nm && in3 t.h t.c t.d 100000 && decide (0 < t.h + t.c + t.d) && ckB t.dh t.dc t.dd) := by
  unfold tsB in3
  cases nameB t.nm <;> cases inB t.h 0 100000 <;> cases inB t.c 0 100000 <;> simp
set_option maxHeartbeats 400000 in
/-- Three numbers in a block of their own, whatever they are. -/
theorem allW3 (g cap : Nat) (x y z a b : Int) (w : World) (hg : Blk w g [.int .i64 x, .int .i64 y, .int .i64 z]) :
    Calls Try.prog 30 #[.slice (some ⟨g, 0, none⟩) 3 cap, .int .i64 a, .int .i64 b] w fun e w' => e = .returned (.bool (allB [x, y, z] a b)) ∧ Below w.heap.size w w' := by
  have hc : ∀ i, i < 3 → w.cell? ⟨g, i, none⟩ = some (.int .i64 (nth [x, y, z] i)) := fun i hi => by
    rcases (show i = 0 ∨ i = 1 ∨ i = 2 from by omega) with rfl | rfl | rfl
    · exact hg.c 0 (by simp)
    · exact hg.c 1 (by simp)
    · exact hg.c 2 (by simp)
  obtain ⟨zs, hzs⟩ : ∃ zs, zs = [x, y, z] := ⟨_, rfl⟩
  have HL : Hid (zs.length = 3) := hide (by rw [hzs]; rfl)
  rw [← hzs] at hc ⊢
  clear hzs hg
  go_enter Try.func30, Try.ntmps30
  go_wp2
  go_loopw [11] (fun i wr => ∃ k n : Nat, k ≤ 3 ∧ i = .int .i64 k ∧ Hid (∀ j, j < k → inB (nth zs j) a b = true) ∧ wr = w.drewN n) (fun i _ => 3 - (intOf i).toNat)
  case atStart => exact ⟨0, 0, Nat.zero_le _, rfl, (fun j hj => by omega), rfl⟩
  case round =>
    obtain ⟨k, n, hk, rfl, hall, rfl⟩ := hrel
    by_cases hlt : k < 3
    · have hcell := hc k hlt
      clear hc
      cases hin : inB (nth zs k) a b
      · have Hin : Hid (inB (nth zs k) a b = false) := hin
        go_wp2_with (go_at_call 59; refine (within_any _ _ _ _).mono ?_; rintro e w' ⟨rfl, rfl⟩)
        go_ret
        exact ⟨ret_bool (allB_false (by rw [unhide HL]; exact hlt) Hin.out).symm, bel0d _⟩
      · have Hin : Hid (inB (nth zs k) a b = true) := hin
        go_wp2_with (go_at_call 59; refine (within_any _ _ _ _).mono ?_; rintro e w' ⟨rfl, rfl⟩)
        go_roundw
        case rel => exact ⟨k + 1, n, by omega, by go_num, (fun j hj => by rcases Nat.lt_succ_iff_lt_or_eq.1 hj with h | h; exact hall.out j h; subst h; exact Hin.out), rfl⟩
        case measure => simp [intOf]; omega
    · go_wp2
      go_ret
      exact ⟨ret_bool (allB_true fun j hj => hall.out j (by have := unhide HL; omega)).symm, bel0d _⟩
set_option maxHeartbeats 1000000 in
theorem asCounts_any (h c d : Int) (w : World) :
    Calls Try.prog 29 #[.agg #[.int .i64 h, .int .i64 c, .int .i64 d]] w fun e w' => e = .returned (.agg #[.int .i64 h, .int .i64 c, .int .i64 d]) ∧ Below w.heap.size w w' := by
  go_enter Try.func29, Try.ntmps29
  go_wp2
  refine bodyPost_ret (v := .agg #[.int .i64 h, .int .i64 c, .int .i64 d]) (by simp [results, Try.results29, go_sem]) rfl ⟨rfl, ?_⟩
  repeat (first | exact bel2 _ _ | exact bel3 _ _ _ | refine Below.setCell ?_ (by simp; try omega) _)
set_option maxHeartbeats 1000000 in
theorem tBounds_any (nm : ByteArray) (h c d dh dc dd : Int) (w : World) :
    Calls Try.prog 32 #[.agg #[.string nm, .int .i64 h, .int .i64 c, .int .i64 d, .int .i64 dh, .int .i64 dc, .int .i64 dd]] w fun e w' => e = .returned (.agg #[.int .i64 h, .int .i64 c, .int .i64 d]) ∧ Below w.heap.size w w' := by
  go_enter Try.func32, Try.ntmps32
  go_wp2
  refine bodyPost_ret (v := .agg #[.int .i64 h, .int .i64 c, .int .i64 d]) (by simp [results, Try.results32, go_sem]) rfl ⟨rfl, ?_⟩
  repeat (first | exact bel2 _ _ | exact bel3 _ _ _ | refine Below.setCell ?_ (by simp; try omega) _)
set_option maxRecDepth 20000 in
set_option maxHeartbeats 2000000 in
theorem implClockOk_is {b : Bool} (h c d : Int) (w : World) (hc : ckB h c d = b) :
    Calls Try.prog 10 #[.agg #[.int .i64 h, .int .i64 c, .int .i64 d]] w fun e w' => e = .returned (.bool b) ∧ Below w.heap.size w w' := by
  have HE : Hid (allB [h, c, d] 0 1000000 = b) := hide (by rw [in3_all, ckB_in3]; exact hc)
  clear hc
  go_enter Try.func10, Try.ntmps10
  go_wp2_with fail
  refine (asCounts_any h c d _).mono ?_
  rintro x w1 ⟨rfl, b1⟩
  have B1 := hide ((bel1 _).trans (b1.mono (by simp)))
  clear b1
  obtain ⟨W, hW⟩ : ∃ W, W = w1.alloc (Obj.cells #[.int .i64 h, .int .i64 c, .int .i64 d] 62) := ⟨_, rfl⟩
  have R3 : Hid (Blk W w1.heap.size [.int .i64 h, .int .i64 c, .int .i64 d]) := hide (by rw [hW]; exact Blk.new _ _)
  have B3 : Hid (Below w.heap.size w W) := hide (by rw [hW]; exact (unhide B1).alloc (unhide B1).size _)
  have HW := hide hW
  clear hW
  go_wp2_with fail
  rw [← unhide HW]
  refine (allW3 _ _ _ _ _ _ _ W (unhide R3)).mono ?_
  rintro x w4 ⟨rfl, b4⟩
  have B4 := hide ((unhide B3).trans (b4.mono (unhide B3).size))
  clear b4
  rw [unhide HE]
  go_wp2_with fail
  go_ret
  exact ⟨rfl, unhide B4⟩

end Go.Proofs.Ytilahgifaglekbb

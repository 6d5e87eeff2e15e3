/-
  What the program's Vote answers: as the plain functions. At lists of at most 1048576; nothing that was there is written.
-/
import Derived.Test.YtidgkkldhnckeadVtTwo
import Derived.Test.YtidgkkldhnckeadVtWrt
import Derived.Test.YtidgkkldhnckeadVotePure
namespace Go.Proofs.Ytidgkkldhnckead
open Go.RowKit

theorem five_fit {a b c d e : Int} (h : ∀ x ∈ [a, b, c, d, e], 0 ≤ x ∧ x ≤ 20) (i : Nat) : -9223372036854775808 ≤ nth [a, b, c, d, e] i ∧ nth [a, b, c, d, e] i ≤ 9223372036854775807 := by
  by_cases hi : i < [a, b, c, d, e].length
  · have := h _ (nth_in hi); omega
  · rw [nth_out (by omega)]; omega
theorem odd_in {n h : Int} {bs : List Bool} {os : List Int} (vf : VoFit n h bs os) (j : Nat) : 0 ≤ nth os j ∧ nth os j ≤ 20 := by
  by_cases hj : j < os.length
  · have h1 := vf.all j hj; have h2 := vf.h1; omega
  · rw [nth_out (by omega)]; omega
theorem lane_odd {n h : Int} {bs : List Bool} {os : List Int} (vf : VoFit n h bs os) (j : Nat) (e : laneO bs j = false) : 0 ≤ nth os j ∧ nth os j ≤ h := by
  have hj : j < bs.length := by
    by_cases hj : j < bs.length
    · exact hj
    · simp [laneO, hj] at e
  exact vf.all j (by rw [vf.len]; exact hj)

set_option maxRecDepth 20000 in
set_option maxHeartbeats 8000000 in
theorem implVote_any (n h : Int) (a1 a2 a3 : Option Addr) (l1 c1 l2 c2 l3 c3 : Nat) (bs : List Bool) (os zs : List Int) (w : World) (hr : VoIn w a1 a2 l1 l2 bs os) (hz : Row w a3 l3 zs) (h1 : l1 ≤ 1048576) (h2 : l2 ≤ 1048576) :
    Calls Try.prog 13 #[.agg #[.int .i64 n, .int .i64 h, .slice a1 l1 c1, .slice a2 l2 c2], .slice a3 l3 c3] w fun x w' => ∃ g1 d1 g2 d2, x = .returned (.tuple #[.agg #[.int .i64 n, .int .i64 h, .slice g1 (votOut n h bs os zs).length d1, .slice g2 (votOdd n h bs os zs).length d2], .int .i64 (votX n h bs os zs), .int .i64 (votC n h bs os zs)]) ∧ VoOwn w' w.heap.size g1 g2 (votOut n h bs os zs).length d1 (votOdd n h bs os zs).length d2 (votOut n h bs os zs) (votOdd n h bs os zs) ∧ Below w.heap.size w w' := by
  obtain ⟨W, hW⟩ : ∃ W, W = (w.alloc (Obj.cells #[.int .i64 n, .int .i64 h, .slice a1 l1 c1, .slice a2 l2 c2] 28)).alloc (Obj.cells #[.int .i64 0, .int .i64 0, .slice none 0 0, .slice none 0 0] 28) := ⟨_, rfl⟩
  have KP : Hid (Blk W w.heap.size [.int .i64 n, .int .i64 h, .slice a1 l1 c1, .slice a2 l2 c2]) := hide (by rw [hW]; exact (Blk.new (w := w) [.int .i64 n, .int .i64 h, .slice a1 l1 c1, .slice a2 l2 c2] 28).alloc _)
  have KR : Hid (Blk W (w.heap.size + 1) [.int .i64 0, .int .i64 0, .slice none 0 0, .slice none 0 0]) := hide (by
    rw [hW]
    have := Blk.new (w := w.alloc (Obj.cells #[.int .i64 n, .int .i64 h, .slice a1 l1 c1, .slice a2 l2 c2] 28)) [.int .i64 0, .int .i64 0, .slice none 0 0, .slice none 0 0] 28
    simpa using this)
  have HB : Hid (Below w.heap.size w W) := hide (by rw [hW]; exact bel2 _ _)
  have hsz : w.heap.size + 1 + 1 ≤ W.heap.size := by rw [hW]; simp
  have R0 := hide hr
  have R := hide (hr.below (unhide HB))
  have RZ := hide (hz.below (unhide HB))
  have Z1 := hide hr.r1.len_eq
  have Z2 := hide hr.r2.len_eq
  have Z3 := hide hz.len_eq
  have H1 := hide h1
  have H2 := hide h2
  have HW := hide hW
  clear hr hz hW h1 h2
  cases q1 : seenB n h bs os zs with
  | false =>
    have EV := hide (vot_bad q1)
    go_enter Try.func13, Try.ntmps13
    go_wp2_with fail
    rw [← unhide HW]
    clear HW
    refine (canSee_is n h _ _ _ _ _ _ _ _ _ bs os zs _ (unhide R) (unhide RZ) q1).mono ?_
    rintro x w1 ⟨rfl, b⟩
    have HB := hide ((unhide HB).trans (b.mono (unhide HB).size))
    have R := hide ((unhide R).below b)
    have KP := hide ((unhide KP).below b)
    have KR := hide ((unhide KR).below b)
    have sz1 := b.size
    have m0 : w1.cell? ⟨w.heap.size, 0, none⟩ = some (.int .i64 n) := (unhide KP).c 0 (by simp)
    have m1 : w1.cell? ⟨w.heap.size, 1, none⟩ = some (.int .i64 h) := (unhide KP).c 1 (by simp)
    have m2 : w1.cell? ⟨w.heap.size, 2, none⟩ = some (.slice a1 l1 c1) := (unhide KP).c 2 (by simp)
    have m3 : w1.cell? ⟨w.heap.size, 3, none⟩ = some (.slice a2 l2 c2) := (unhide KP).c 3 (by simp)
    clear b
    go_wp2_with fail
    refine (copied_any n h _ _ _ _ _ _ bs os _ (unhide R) (unhide H1) (unhide H2)).mono ?_
    rintro x w2 ⟨g1, d1, g2, d2, rfl, vo, b⟩
    have VL := hide vo.lies
    have VO := hide (vo.mono (base' := w.heap.size) (by omega))
    have HB := hide ((unhide HB).trans (b.mono (unhide HB).size))
    have KR := hide ((unhide KR).below b)
    clear vo b m0 m1 m2 m3
    have r0 : w2.cell? ⟨w.heap.size + 1, 0, none⟩ = some (.int .i64 0) := (unhide KR).c 0 (by simp)
    have t0 : w2.frozen? ⟨w.heap.size + 1, 0, none⟩ = false := (unhide KR).f 0 (by simp)
    have r1 : w2.cell? ⟨w.heap.size + 1, 1, none⟩ = some (.int .i64 0) := (unhide KR).c 1 (by simp)
    have t1 : w2.frozen? ⟨w.heap.size + 1, 1, none⟩ = false := (unhide KR).f 1 (by simp)
    have r2 : w2.cell? ⟨w.heap.size + 1, 2, none⟩ = some (.slice none 0 0) := (unhide KR).c 2 (by simp)
    have t2 : w2.frozen? ⟨w.heap.size + 1, 2, none⟩ = false := (unhide KR).f 2 (by simp)
    have r3 : w2.cell? ⟨w.heap.size + 1, 3, none⟩ = some (.slice none 0 0) := (unhide KR).c 3 (by simp)
    have t3 : w2.frozen? ⟨w.heap.size + 1, 3, none⟩ = false := (unhide KR).f 3 (by simp)
    have VO := hide ((unhide VO).set_other (S := w.heap.size + 1) (o := 0) (.int .i64 n) (fun e => by have := (unhide VL).1 _ e; omega) (fun e => by have := (unhide VL).2 _ e; omega))
    have HB := hide ((unhide HB).setCell (p := ⟨w.heap.size + 1, 0, none⟩) (by simp) (.int .i64 n))
    have VO := hide ((unhide VO).set_other (S := w.heap.size + 1) (o := 1) (.int .i64 h) (fun e => by have := (unhide VL).1 _ e; omega) (fun e => by have := (unhide VL).2 _ e; omega))
    have HB := hide ((unhide HB).setCell (p := ⟨w.heap.size + 1, 1, none⟩) (by simp) (.int .i64 h))
    have VO := hide ((unhide VO).set_other (S := w.heap.size + 1) (o := 2) (.slice g1 l1 d1) (fun e => by have := (unhide VL).1 _ e; omega) (fun e => by have := (unhide VL).2 _ e; omega))
    have HB := hide ((unhide HB).setCell (p := ⟨w.heap.size + 1, 2, none⟩) (by simp) (.slice g1 l1 d1))
    have VO := hide ((unhide VO).set_other (S := w.heap.size + 1) (o := 3) (.slice g2 l2 d2) (fun e => by have := (unhide VL).1 _ e; omega) (fun e => by have := (unhide VL).2 _ e; omega))
    have HB := hide ((unhide HB).setCell (p := ⟨w.heap.size + 1, 3, none⟩) (by simp) (.slice g2 l2 d2))
    go_wp2_with fail
    refine bodyPost_ret (v := .tuple #[.agg #[.int .i64 n, .int .i64 h, .slice g1 l1 d1, .slice g2 l2 d2], .int .i64 0, .int .i64 0]) (by simp [results, Try.results13, go_sem, *]) rfl ?_
    obtain ⟨w1e, w2e, w3e, w4e⟩ := unhide EV
    rw [w1e, w2e, w3e, w4e]
    exact ⟨g1, d1, g2, d2, by rw [unhide Z1, unhide Z2], by rw [unhide Z1, unhide Z2]; exact unhide VO, unhide HB⟩
  | true =>
    obtain ⟨p1, p2, p3⟩ := seen_parts q1
    have vf := voFit p1
    have e2 : l2 = l1 := by rw [← unhide Z1, ← unhide Z2]; exact vf.len
    have e3 : l3 = l1 := by rw [← unhide Z1, ← unhide Z3]; exact p2
    subst e2
    subst e3
    have hL : 1 ≤ l3 ∧ l3 ≤ 5 := by have h1 := vf.b0; have h2 := vf.b1; rw [unhide Z1] at h1 h2; exact ⟨h1, h2⟩
    have HFV := hide (heard_five vf.b1 p2)
    have HSA := hide (fiveI_all p3)
    have HXI := hide (valX_in (heardS_all (bs := bs) p3))
    have HVF := hide vf
    have Q1 := hide q1
    clear vf p1 p2 p3
    go_enter Try.func13, Try.ntmps13
    go_wp2_with fail
    rw [← unhide HW]
    clear HW
    refine (canSee_is n h _ _ _ _ _ _ _ _ _ bs os zs _ (unhide R) (unhide RZ) q1).mono ?_
    rintro x w1 ⟨rfl, b⟩
    have HB := hide ((unhide HB).trans (b.mono (unhide HB).size))
    have R := hide ((unhide R).below b)
    have RZ := hide ((unhide RZ).below b)
    have KP := hide ((unhide KP).below b)
    have KR := hide ((unhide KR).below b)
    have sz1 := b.size
    have m0 : w1.cell? ⟨w.heap.size, 0, none⟩ = some (.int .i64 n) := (unhide KP).c 0 (by simp)
    have m1 : w1.cell? ⟨w.heap.size, 1, none⟩ = some (.int .i64 h) := (unhide KP).c 1 (by simp)
    have m2 : w1.cell? ⟨w.heap.size, 2, none⟩ = some (.slice a1 l3 c1) := (unhide KP).c 2 (by simp)
    have m3 : w1.cell? ⟨w.heap.size, 3, none⟩ = some (.slice a2 l3 c2) := (unhide KP).c 3 (by simp)
    clear b
    go_wp2_with fail
    refine (seeing_any n h _ _ _ l3 _ _ _ bs os zs (laneO bs 0) (nth os 0) (nth zs 0) (laneO bs 1) (nth os 1) (nth zs 1) (laneO bs 2) (nth os 2) (nth zs 2) (laneO bs 3) (nth os 3) (nth zs 3) (laneO bs 4) (nth os 4) (nth zs 4) _ (unhide R) (unhide RZ) hL (lane_is (unhide Z1) (unhide Z2) (unhide Z3) 0) (lane_is (unhide Z1) (unhide Z2) (unhide Z3) 1) (lane_is (unhide Z1) (unhide Z2) (unhide Z3) 2) (lane_is (unhide Z1) (unhide Z2) (unhide Z3) 3) (lane_is (unhide Z1) (unhide Z2) (unhide Z3) 4)).mono ?_
    rintro x w2 ⟨rfl, b⟩
    have HB := hide ((unhide HB).trans (b.mono (unhide HB).size))
    have R := hide ((unhide R).below b)
    have KP := hide ((unhide KP).below b)
    have KR := hide ((unhide KR).below b)
    have sz2 := b.size
    clear b m0 m1 m2 m3 RZ
    have PX : Hid (Blk (w2.alloc (Obj.cells #[.int .i64 n, .int .i64 h, .bool (laneO bs 0), .int .i64 (nth os 0), .int .i64 (nth zs 0), .bool (laneO bs 1), .int .i64 (nth os 1), .int .i64 (nth zs 1), .bool (laneO bs 2), .int .i64 (nth os 2), .int .i64 (nth zs 2), .bool (laneO bs 3), .int .i64 (nth os 3), .int .i64 (nth zs 3), .bool (laneO bs 4), .int .i64 (nth os 4), .int .i64 (nth zs 4)] 81)) w2.heap.size [.int .i64 n, .int .i64 h, .bool (laneO bs 0), .int .i64 (nth os 0), .int .i64 (nth zs 0), .bool (laneO bs 1), .int .i64 (nth os 1), .int .i64 (nth zs 1), .bool (laneO bs 2), .int .i64 (nth os 2), .int .i64 (nth zs 2), .bool (laneO bs 3), .int .i64 (nth os 3), .int .i64 (nth zs 3), .bool (laneO bs 4), .int .i64 (nth os 4), .int .i64 (nth zs 4)]) := hide (Blk.new _ _)
    obtain ⟨V, hV⟩ : ∃ V, V = w2.alloc (Obj.cells #[.int .i64 n, .int .i64 h, .bool (laneO bs 0), .int .i64 (nth os 0), .int .i64 (nth zs 0), .bool (laneO bs 1), .int .i64 (nth os 1), .int .i64 (nth zs 1), .bool (laneO bs 2), .int .i64 (nth os 2), .int .i64 (nth zs 2), .bool (laneO bs 3), .int .i64 (nth os 3), .int .i64 (nth zs 3), .bool (laneO bs 4), .int .i64 (nth os 4), .int .i64 (nth zs 4)] 81) := ⟨_, rfl⟩
    obtain ⟨X, hX⟩ : ∃ X, w2.heap.size = X := ⟨_, rfl⟩
    have bV : Below w2.heap.size w2 V := by rw [hV]; exact bel1 _
    have KX : Hid (Blk V X [.int .i64 n, .int .i64 h, .bool (laneO bs 0), .int .i64 (nth os 0), .int .i64 (nth zs 0), .bool (laneO bs 1), .int .i64 (nth os 1), .int .i64 (nth zs 1), .bool (laneO bs 2), .int .i64 (nth os 2), .int .i64 (nth zs 2), .bool (laneO bs 3), .int .i64 (nth os 3), .int .i64 (nth zs 3), .bool (laneO bs 4), .int .i64 (nth os 4), .int .i64 (nth zs 4)]) := hide (by rw [hV, ← hX]; exact Blk.new _ _)
    have HB := hide ((unhide HB).trans (bV.mono (unhide HB).size))
    have R := hide ((unhide R).below bV)
    have KP := hide ((unhide KP).below bV)
    have KR := hide ((unhide KR).below bV)
    have szX : w.heap.size + 1 + 1 ≤ X := by omega
    have szV := bV.size
    have HV := hide hV
    have HX := hide hX
    clear bV hV
    go_wp2_with ((with_reducible show wpList _ _ _ (⟨_, .load 81 _, _, _, _, none⟩ :: _) _ _); refine at_loadAgg (vs := [.int .i64 n, .int .i64 h, .bool (laneO bs 0), .int .i64 (nth os 0), .int .i64 (nth zs 0), .bool (laneO bs 1), .int .i64 (nth os 1), .int .i64 (nth zs 1), .bool (laneO bs 2), .int .i64 (nth os 2), .int .i64 (nth zs 2), .bool (laneO bs 3), .int .i64 (nth os 3), .int .i64 (nth zs 3), .bool (laneO bs 4), .int .i64 (nth os 4), .int .i64 (nth zs 4)]) Try.isAgg81 Try.sizeOf81 rfl (unhide PX) ?_)
    rw [← unhide HV]
    try rw [hX]
    clear HV HX PX
    refine (value_any n h (laneO bs 0) (nth os 0) (nth zs 0) (laneO bs 1) (nth os 1) (nth zs 1) (laneO bs 2) (nth os 2) (nth zs 2) (laneO bs 3) (nth os 3) (nth zs 3) (laneO bs 4) (nth os 4) (nth zs 4) _ (unhide HSA)).mono ?_
    rintro x w3 ⟨rfl, b⟩
    have hgo : heardS [laneO bs 0, laneO bs 1, laneO bs 2, laneO bs 3, laneO bs 4] [nth zs 0, nth zs 1, nth zs 2, nth zs 3, nth zs 4] = heardS bs zs := unhide HFV
    rw [hgo]
    have HB := hide ((unhide HB).trans (b.mono (unhide HB).size))
    have R := hide ((unhide R).below b)
    have KP := hide ((unhide KP).below b)
    have KR := hide ((unhide KR).below b)
    have KX := hide ((unhide KX).below b)
    have sz3 := b.size
    clear b hgo
    cases q2 : (valC (heardS bs zs) == 3) with
    | false =>
      have EV := hide (vot_few q1 q2)
      obtain ⟨Cc, hC⟩ : ∃ Cc, valC (heardS bs zs) = Cc := ⟨_, rfl⟩
      rw [hC] at q2 ⊢
      have HC := hide hC
      clear hC
      have m0 : w3.cell? ⟨w.heap.size, 0, none⟩ = some (.int .i64 n) := (unhide KP).c 0 (by simp)
      have m1 : w3.cell? ⟨w.heap.size, 1, none⟩ = some (.int .i64 h) := (unhide KP).c 1 (by simp)
      have m2 : w3.cell? ⟨w.heap.size, 2, none⟩ = some (.slice a1 l3 c1) := (unhide KP).c 2 (by simp)
      have m3 : w3.cell? ⟨w.heap.size, 3, none⟩ = some (.slice a2 l3 c2) := (unhide KP).c 3 (by simp)
      go_wp2_with ((with_reducible show wpList _ _ _ (⟨_, .load 81 _, _, _, _, none⟩ :: _) _ _); refine at_loadAgg (vs := [.int .i64 n, .int .i64 h, .bool (laneO bs 0), .int .i64 (nth os 0), .int .i64 (nth zs 0), .bool (laneO bs 1), .int .i64 (nth os 1), .int .i64 (nth zs 1), .bool (laneO bs 2), .int .i64 (nth os 2), .int .i64 (nth zs 2), .bool (laneO bs 3), .int .i64 (nth os 3), .int .i64 (nth zs 3), .bool (laneO bs 4), .int .i64 (nth os 4), .int .i64 (nth zs 4)]) Try.isAgg81 Try.sizeOf81 rfl (unhide KX) ?_)
      refine (writtenTo_any n h n h (laneO bs 0) (nth os 0) (nth zs 0) (laneO bs 1) (nth os 1) (nth zs 1) (laneO bs 2) (nth os 2) (nth zs 2) (laneO bs 3) (nth os 3) (nth zs 3) (laneO bs 4) (nth os 4) (nth zs 4) a1 a2 l3 c1 c2 bs os _ (unhide R) hL (five_fit (by intro x hx; have vf := unhide HVF; simp only [List.mem_cons, List.not_mem_nil, or_false] at hx; rcases hx with rfl | rfl | rfl | rfl | rfl <;> exact odd_in vf _))).mono ?_
      rintro x w4 ⟨g1, d1, g2, d2, rfl, vo, b⟩
      have eO : ([laneO bs 0, laneO bs 1, laneO bs 2, laneO bs 3, laneO bs 4] : List Bool).take l3 = bs := by have := fiveO_take (bs := bs) (by rw [unhide Z1]; exact hL.2); rw [unhide Z1] at this; exact this
      have eD : ([nth os 0, nth os 1, nth os 2, nth os 3, nth os 4] : List Int).take l3 = os := fiveI_take (unhide Z2) hL.2
      rw [eO, eD] at vo
      have VL := hide vo.lies
      have VO := hide (vo.mono (base' := w.heap.size) (by omega))
      have HB := hide ((unhide HB).trans (b.mono (unhide HB).size))
      have KR := hide ((unhide KR).below b)
      clear vo b m0 m1 m2 m3 KX KP R eO eD
      have r0 : w4.cell? ⟨w.heap.size + 1, 0, none⟩ = some (.int .i64 0) := (unhide KR).c 0 (by simp)
      have t0 : w4.frozen? ⟨w.heap.size + 1, 0, none⟩ = false := (unhide KR).f 0 (by simp)
      have r1 : w4.cell? ⟨w.heap.size + 1, 1, none⟩ = some (.int .i64 0) := (unhide KR).c 1 (by simp)
      have t1 : w4.frozen? ⟨w.heap.size + 1, 1, none⟩ = false := (unhide KR).f 1 (by simp)
      have r2 : w4.cell? ⟨w.heap.size + 1, 2, none⟩ = some (.slice none 0 0) := (unhide KR).c 2 (by simp)
      have t2 : w4.frozen? ⟨w.heap.size + 1, 2, none⟩ = false := (unhide KR).f 2 (by simp)
      have r3 : w4.cell? ⟨w.heap.size + 1, 3, none⟩ = some (.slice none 0 0) := (unhide KR).c 3 (by simp)
      have t3 : w4.frozen? ⟨w.heap.size + 1, 3, none⟩ = false := (unhide KR).f 3 (by simp)
      have VO := hide ((unhide VO).set_other (S := w.heap.size + 1) (o := 0) (.int .i64 n) (fun e => by have := (unhide VL).1 _ e; omega) (fun e => by have := (unhide VL).2 _ e; omega))
      have HB := hide ((unhide HB).setCell (p := ⟨w.heap.size + 1, 0, none⟩) (by simp) (.int .i64 n))
      have VO := hide ((unhide VO).set_other (S := w.heap.size + 1) (o := 1) (.int .i64 h) (fun e => by have := (unhide VL).1 _ e; omega) (fun e => by have := (unhide VL).2 _ e; omega))
      have HB := hide ((unhide HB).setCell (p := ⟨w.heap.size + 1, 1, none⟩) (by simp) (.int .i64 h))
      have VO := hide ((unhide VO).set_other (S := w.heap.size + 1) (o := 2) (.slice g1 l3 d1) (fun e => by have := (unhide VL).1 _ e; omega) (fun e => by have := (unhide VL).2 _ e; omega))
      have HB := hide ((unhide HB).setCell (p := ⟨w.heap.size + 1, 2, none⟩) (by simp) (.slice g1 l3 d1))
      have VO := hide ((unhide VO).set_other (S := w.heap.size + 1) (o := 3) (.slice g2 l3 d2) (fun e => by have := (unhide VL).1 _ e; omega) (fun e => by have := (unhide VL).2 _ e; omega))
      have HB := hide ((unhide HB).setCell (p := ⟨w.heap.size + 1, 3, none⟩) (by simp) (.slice g2 l3 d2))
      go_wp2_with fail
      refine bodyPost_ret (v := .tuple #[.agg #[.int .i64 n, .int .i64 h, .slice g1 l3 d1, .slice g2 l3 d2], .int .i64 (valX (heardS bs zs)), .int .i64 Cc]) (by simp [results, Try.results13, go_sem, *]) rfl ?_
      obtain ⟨w1e, w2e, w3e, w4e⟩ := unhide EV
      rw [w1e, w2e, w3e, w4e]
      rw [unhide HC]
      exact ⟨g1, d1, g2, d2, by rw [unhide Z1, unhide Z2], by rw [unhide Z1, unhide Z2]; exact unhide VO, unhide HB⟩
    | true =>
      have EV := hide (vot_mid q1 q2)
      obtain ⟨Cc, hC⟩ : ∃ Cc, valC (heardS bs zs) = Cc := ⟨_, rfl⟩
      rw [hC] at q2 ⊢
      have HC := hide hC
      clear hC
      go_wp2_with ((with_reducible show wpList _ _ _ (⟨_, .load 81 _, _, _, _, none⟩ :: _) _ _); refine at_loadAgg (vs := [.int .i64 n, .int .i64 h, .bool (laneO bs 0), .int .i64 (nth os 0), .int .i64 (nth zs 0), .bool (laneO bs 1), .int .i64 (nth os 1), .int .i64 (nth zs 1), .bool (laneO bs 2), .int .i64 (nth os 2), .int .i64 (nth zs 2), .bool (laneO bs 3), .int .i64 (nth os 3), .int .i64 (nth zs 3), .bool (laneO bs 4), .int .i64 (nth os 4), .int .i64 (nth zs 4)]) Try.isAgg81 Try.sizeOf81 rfl (unhide KX) ?_)
      refine (judged_any n h (laneO bs 0) (nth os 0) (nth zs 0) (laneO bs 1) (nth os 1) (nth zs 1) (laneO bs 2) (nth os 2) (nth zs 2) (laneO bs 3) (nth os 3) (nth zs 3) (laneO bs 4) (nth os 4) (nth zs 4) (valX (heardS bs zs)) _ ⟨(unhide HVF).n0, (unhide HVF).n1⟩ (unhide HXI) (unhide HVF).h1 (lane_odd (unhide HVF) 0) (lane_odd (unhide HVF) 1) (lane_odd (unhide HVF) 2) (lane_odd (unhide HVF) 3) (lane_odd (unhide HVF) 4)).mono ?_
      rintro x w4 ⟨rfl, b⟩
      have HB := hide ((unhide HB).trans (b.mono (unhide HB).size))
      have R := hide ((unhide R).below b)
      have KP := hide ((unhide KP).below b)
      have KR := hide ((unhide KR).below b)
      have KX := hide ((unhide KX).below b)
      have sz4 := b.size
      clear b
      have OO := hide (show Hid (Blk w4 X [.int .i64 n, .int .i64 h, .bool (laneO bs 0), .int .i64 (nth os 0), .int .i64 (nth zs 0), .bool (laneO bs 1), .int .i64 (nth os 1), .int .i64 (nth zs 1), .bool (laneO bs 2), .int .i64 (nth os 2), .int .i64 (nth zs 2), .bool (laneO bs 3), .int .i64 (nth os 3), .int .i64 (nth zs 3), .bool (laneO bs 4), .int .i64 (nth os 4), .int .i64 (nth zs 4)]) from KX)
      go_wp2_with (first
        | ((with_reducible show wpList _ _ _ (⟨none, .store 81 _ _, _, _, _, none⟩ :: _) _ _); refine at_storeAgg (us := [.int .i64 n, .int .i64 h, .bool (laneO bs 0), .int .i64 (nth os 0), .int .i64 (nth zs 0), .bool (laneO bs 1), .int .i64 (nth os 1), .int .i64 (nth zs 1), .bool (laneO bs 2), .int .i64 (nth os 2), .int .i64 (nth zs 2), .bool (laneO bs 3), .int .i64 (nth os 3), .int .i64 (nth zs 3), .bool (laneO bs 4), .int .i64 (nth os 4), .int .i64 (nth zs 4)]) (vs := [.int .i64 n, .int .i64 h, .bool (jdO n h (laneO bs 0) (nth os 0) (nth zs 0) (valX (heardS bs zs))), .int .i64 (jdD n h (laneO bs 0) (nth os 0) (nth zs 0) (valX (heardS bs zs))), .int .i64 (nth zs 0), .bool (jdO n h (laneO bs 1) (nth os 1) (nth zs 1) (valX (heardS bs zs))), .int .i64 (jdD n h (laneO bs 1) (nth os 1) (nth zs 1) (valX (heardS bs zs))), .int .i64 (nth zs 1), .bool (jdO n h (laneO bs 2) (nth os 2) (nth zs 2) (valX (heardS bs zs))), .int .i64 (jdD n h (laneO bs 2) (nth os 2) (nth zs 2) (valX (heardS bs zs))), .int .i64 (nth zs 2), .bool (jdO n h (laneO bs 3) (nth os 3) (nth zs 3) (valX (heardS bs zs))), .int .i64 (jdD n h (laneO bs 3) (nth os 3) (nth zs 3) (valX (heardS bs zs))), .int .i64 (nth zs 3), .bool (jdO n h (laneO bs 4) (nth os 4) (nth zs 4) (valX (heardS bs zs))), .int .i64 (jdD n h (laneO bs 4) (nth os 4) (nth zs 4) (valX (heardS bs zs))), .int .i64 (nth zs 4)]) Try.sizeOf81 rfl rfl (unhide KX) rfl (by simp [Value.oneCell']) ?_; intro w5 k5 g5; have on := Only.of_row (lo := X) (hi := X + 1) g5 (fun q hq => by have e := Option.some.inj (show some X = some q from hq); omega); have HB := hide (below_only (unhide HB) on (by omega) (Nat.le_refl _)); have KP := hide ((unhide KP).only on (by omega)); have KR := hide ((unhide KR).only on (by omega)); have K5 := hide k5; have sz5 := g5.size; have m0 : w5.cell? ⟨w.heap.size, 0, none⟩ = some (.int .i64 n) := (unhide KP).c 0 (by simp); have m1 : w5.cell? ⟨w.heap.size, 1, none⟩ = some (.int .i64 h) := (unhide KP).c 1 (by simp); have m2 : w5.cell? ⟨w.heap.size, 2, none⟩ = some (.slice a1 l3 c1) := (unhide KP).c 2 (by simp); have m3 : w5.cell? ⟨w.heap.size, 3, none⟩ = some (.slice a2 l3 c2) := (unhide KP).c 3 (by simp); clear on k5 g5)
        | ((with_reducible show wpList _ _ _ (⟨_, .load 81 _, _, _, _, none⟩ :: _) _ _); refine at_loadAgg (vs := [.int .i64 n, .int .i64 h, .bool (jdO n h (laneO bs 0) (nth os 0) (nth zs 0) (valX (heardS bs zs))), .int .i64 (jdD n h (laneO bs 0) (nth os 0) (nth zs 0) (valX (heardS bs zs))), .int .i64 (nth zs 0), .bool (jdO n h (laneO bs 1) (nth os 1) (nth zs 1) (valX (heardS bs zs))), .int .i64 (jdD n h (laneO bs 1) (nth os 1) (nth zs 1) (valX (heardS bs zs))), .int .i64 (nth zs 1), .bool (jdO n h (laneO bs 2) (nth os 2) (nth zs 2) (valX (heardS bs zs))), .int .i64 (jdD n h (laneO bs 2) (nth os 2) (nth zs 2) (valX (heardS bs zs))), .int .i64 (nth zs 2), .bool (jdO n h (laneO bs 3) (nth os 3) (nth zs 3) (valX (heardS bs zs))), .int .i64 (jdD n h (laneO bs 3) (nth os 3) (nth zs 3) (valX (heardS bs zs))), .int .i64 (nth zs 3), .bool (jdO n h (laneO bs 4) (nth os 4) (nth zs 4) (valX (heardS bs zs))), .int .i64 (jdD n h (laneO bs 4) (nth os 4) (nth zs 4) (valX (heardS bs zs))), .int .i64 (nth zs 4)]) Try.isAgg81 Try.sizeOf81 rfl (unhide K5) ?_))
      refine (writtenTo_any n h n h (jdO n h (laneO bs 0) (nth os 0) (nth zs 0) (valX (heardS bs zs))) (jdD n h (laneO bs 0) (nth os 0) (nth zs 0) (valX (heardS bs zs))) (nth zs 0) (jdO n h (laneO bs 1) (nth os 1) (nth zs 1) (valX (heardS bs zs))) (jdD n h (laneO bs 1) (nth os 1) (nth zs 1) (valX (heardS bs zs))) (nth zs 1) (jdO n h (laneO bs 2) (nth os 2) (nth zs 2) (valX (heardS bs zs))) (jdD n h (laneO bs 2) (nth os 2) (nth zs 2) (valX (heardS bs zs))) (nth zs 2) (jdO n h (laneO bs 3) (nth os 3) (nth zs 3) (valX (heardS bs zs))) (jdD n h (laneO bs 3) (nth os 3) (nth zs 3) (valX (heardS bs zs))) (nth zs 3) (jdO n h (laneO bs 4) (nth os 4) (nth zs 4) (valX (heardS bs zs))) (jdD n h (laneO bs 4) (nth os 4) (nth zs 4) (valX (heardS bs zs))) (nth zs 4) a1 a2 l3 c1 c2 bs os _ ((unhide R0).below (unhide HB)) hL (five_fit (by intro x hx; have vf := unhide HVF; simp only [List.mem_cons, List.not_mem_nil, or_false] at hx; rcases hx with rfl | rfl | rfl | rfl | rfl <;> exact jdD_in (odd_in vf _) ⟨vf.h0, vf.h1⟩))).mono ?_
      rintro x w6 ⟨g1, d1, g2, d2, rfl, vo, b⟩
      have VL := hide vo.lies
      have VO := hide (vo.mono (base' := w.heap.size) (by omega))
      have HB := hide ((unhide HB).trans (b.mono (unhide HB).size))
      have KR := hide ((unhide KR).below b)
      have LO : Hid (((fiveJO n h bs os zs (valX (heardS bs zs))).take bs.length).length = l3 ∧ ((fiveJD n h bs os zs (valX (heardS bs zs))).take bs.length).length = l3) := hide (by rw [unhide Z1]; have := hL.2; simp [fiveJO, fiveJD]; omega)
      clear vo b m0 m1 m2 m3 KX KP K5 OO
      have r0 : w6.cell? ⟨w.heap.size + 1, 0, none⟩ = some (.int .i64 0) := (unhide KR).c 0 (by simp)
      have t0 : w6.frozen? ⟨w.heap.size + 1, 0, none⟩ = false := (unhide KR).f 0 (by simp)
      have r1 : w6.cell? ⟨w.heap.size + 1, 1, none⟩ = some (.int .i64 0) := (unhide KR).c 1 (by simp)
      have t1 : w6.frozen? ⟨w.heap.size + 1, 1, none⟩ = false := (unhide KR).f 1 (by simp)
      have r2 : w6.cell? ⟨w.heap.size + 1, 2, none⟩ = some (.slice none 0 0) := (unhide KR).c 2 (by simp)
      have t2 : w6.frozen? ⟨w.heap.size + 1, 2, none⟩ = false := (unhide KR).f 2 (by simp)
      have r3 : w6.cell? ⟨w.heap.size + 1, 3, none⟩ = some (.slice none 0 0) := (unhide KR).c 3 (by simp)
      have t3 : w6.frozen? ⟨w.heap.size + 1, 3, none⟩ = false := (unhide KR).f 3 (by simp)
      have VO := hide ((unhide VO).set_other (S := w.heap.size + 1) (o := 0) (.int .i64 n) (fun e => by have := (unhide VL).1 _ e; omega) (fun e => by have := (unhide VL).2 _ e; omega))
      have HB := hide ((unhide HB).setCell (p := ⟨w.heap.size + 1, 0, none⟩) (by simp) (.int .i64 n))
      have VO := hide ((unhide VO).set_other (S := w.heap.size + 1) (o := 1) (.int .i64 h) (fun e => by have := (unhide VL).1 _ e; omega) (fun e => by have := (unhide VL).2 _ e; omega))
      have HB := hide ((unhide HB).setCell (p := ⟨w.heap.size + 1, 1, none⟩) (by simp) (.int .i64 h))
      have VO := hide ((unhide VO).set_other (S := w.heap.size + 1) (o := 2) (.slice g1 l3 d1) (fun e => by have := (unhide VL).1 _ e; omega) (fun e => by have := (unhide VL).2 _ e; omega))
      have HB := hide ((unhide HB).setCell (p := ⟨w.heap.size + 1, 2, none⟩) (by simp) (.slice g1 l3 d1))
      have VO := hide ((unhide VO).set_other (S := w.heap.size + 1) (o := 3) (.slice g2 l3 d2) (fun e => by have := (unhide VL).1 _ e; omega) (fun e => by have := (unhide VL).2 _ e; omega))
      have HB := hide ((unhide HB).setCell (p := ⟨w.heap.size + 1, 3, none⟩) (by simp) (.slice g2 l3 d2))
      go_wp2_with fail
      refine bodyPost_ret (v := .tuple #[.agg #[.int .i64 n, .int .i64 h, .slice g1 l3 d1, .slice g2 l3 d2], .int .i64 (valX (heardS bs zs)), .int .i64 Cc]) (by simp [results, Try.results13, go_sem, *]) rfl ?_
      obtain ⟨w1e, w2e, w3e, w4e⟩ := unhide EV
      rw [w1e, w2e, w3e, w4e]
      rw [unhide HC, (unhide LO).1, (unhide LO).2]
      refine ⟨g1, d1, g2, d2, rfl, ?_, unhide HB⟩
      have v := unhide VO
      rw [← unhide Z1] at v ⊢
      exact v

end Go.Proofs.Ytidgkkldhnckead

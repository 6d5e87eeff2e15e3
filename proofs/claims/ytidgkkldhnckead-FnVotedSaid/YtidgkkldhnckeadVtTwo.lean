/-
  What the program's TwoAlike answers: as the plain function. At every voter and list; nothing that was there is written.
-/
import Derived.Test.YtidgkkldhnckeadVtVal
import Derived.Test.YtidgkkldhnckeadVtFive
namespace Go.Proofs.Ytidgkkldhnckead
open Go.RowKit

theorem lane_is {bs : List Bool} {os zs : List Int} {L : Nat} (h1 : bs.length = L) (h2 : os.length = L) (h3 : zs.length = L) (j : Nat) : laneIs bs os zs L j (laneO bs j) (nth os j) (nth zs j) := by
  refine ⟨fun h => ⟨by simp [laneO, h1, h], rfl, rfl⟩, fun h => ⟨?_, nth_out (by omega), nth_out (by omega)⟩⟩
  have : ¬ j < bs.length := by omega
  simp [laneO, this]

set_option maxRecDepth 20000 in
set_option maxHeartbeats 4000000 in
theorem implTwoAlike_any (n h : Int) (a1 a2 a3 : Option Addr) (l1 c1 l2 c2 l3 c3 : Nat) (bs : List Bool) (os zs : List Int) (w : World) (hr : VoIn w a1 a2 l1 l2 bs os) (hz : Row w a3 l3 zs) :
    Calls Try.prog 15 #[.agg #[.int .i64 n, .int .i64 h, .slice a1 l1 c1, .slice a2 l2 c2], .slice a3 l3 c3] w fun x w' => x = .returned (.bool (twoB n h bs os zs)) ∧ Below w.heap.size w w' := by
  have Z1 := hide hr.r1.len_eq
  have Z2 := hide hr.r2.len_eq
  have Z3 := hide hz.len_eq
  have KP := hide (Blk.new (w := w) [.int .i64 n, .int .i64 h, .slice a1 l1 c1, .slice a2 l2 c2] 28)
  have B0 := hide (bel1 (w := w) (Obj.cells #[.int .i64 n, .int .i64 h, .slice a1 l1 c1, .slice a2 l2 c2] 28))
  have R := hide (hr.below (unhide B0))
  have RZ := hide (hz.below (unhide B0))
  clear hr hz
  cases q1 : seenB n h bs os zs with
  | false =>
    have HE : Hid (twoB n h bs os zs = false) := hide (by unfold twoB; rw [q1]; rfl)
    go_enter Try.func15, Try.ntmps15
    go_wp2_with fail
    refine (canSee_is n h _ _ _ _ _ _ _ _ _ bs os zs _ (unhide R) (unhide RZ) q1).mono ?_
    rintro x w1 ⟨rfl, b⟩
    have B1 := hide ((unhide B0).trans (b.mono (unhide B0).size))
    clear b
    go_wp2_with fail
    go_ret
    exact ⟨ret_bool (unhide HE).symm, unhide B1⟩
  | true =>
    obtain ⟨p1, p2, p3⟩ := seen_parts q1
    have vf := voFit p1
    have e2 : l2 = l1 := by rw [← unhide Z1, ← unhide Z2]; exact vf.len
    have e3 : l3 = l1 := by rw [← unhide Z1, ← unhide Z3]; exact p2
    subst e2
    subst e3
    have hL : 1 ≤ l3 ∧ l3 ≤ 5 := by have h1 := vf.b0; have h2 := vf.b1; rw [unhide Z1] at h1 h2; exact ⟨h1, h2⟩
    have HFV := hide (heard_five vf.b1 p2)
    have HSA := hide (fiveI_all p3)
    have HHA := hide (heardS_all (bs := bs) p3)
    have hn0 := vf.n0
    have hn1 := vf.n1
    have hl5 : (heardS bs zs).length ≤ 5 := by have := heardS_len bs zs; have h3 := vf.b1; omega
    have Q1 := hide q1
    clear vf p1 p2 p3
    go_enter Try.func15, Try.ntmps15
    go_wp2_with fail
    refine (canSee_is n h _ _ _ _ _ _ _ _ _ bs os zs _ (unhide R) (unhide RZ) q1).mono ?_
    rintro x w1 ⟨rfl, b⟩
    have B1 := hide ((unhide B0).trans (b.mono (unhide B0).size))
    have R := hide ((unhide R).below b)
    have RZ := hide ((unhide RZ).below b)
    have KP := hide ((unhide KP).below b)
    have m0 : w1.cell? ⟨w.heap.size, 0, none⟩ = some (.int .i64 n) := (unhide KP).c 0 (by simp)
    have m1 : w1.cell? ⟨w.heap.size, 1, none⟩ = some (.int .i64 h) := (unhide KP).c 1 (by simp)
    have m2 : w1.cell? ⟨w.heap.size, 2, none⟩ = some (.slice a1 l3 c1) := (unhide KP).c 2 (by simp)
    have m3 : w1.cell? ⟨w.heap.size, 3, none⟩ = some (.slice a2 l3 c2) := (unhide KP).c 3 (by simp)
    clear b
    go_wp2_with fail
    refine (seeing_any n h _ _ _ l3 _ _ _ bs os zs (laneO bs 0) (nth os 0) (nth zs 0) (laneO bs 1) (nth os 1) (nth zs 1) (laneO bs 2) (nth os 2) (nth zs 2) (laneO bs 3) (nth os 3) (nth zs 3) (laneO bs 4) (nth os 4) (nth zs 4) _ (unhide R) (unhide RZ) hL (lane_is (unhide Z1) (unhide Z2) (unhide Z3) 0) (lane_is (unhide Z1) (unhide Z2) (unhide Z3) 1) (lane_is (unhide Z1) (unhide Z2) (unhide Z3) 2) (lane_is (unhide Z1) (unhide Z2) (unhide Z3) 3) (lane_is (unhide Z1) (unhide Z2) (unhide Z3) 4)).mono ?_
    rintro x w2 ⟨rfl, b⟩
    have B1 := hide ((unhide B1).trans (b.mono (unhide B1).size))
    have KP := hide ((unhide KP).below b)
    clear b m0 m1 m2 m3
    go_wp2_with fail
    refine (heard_any n h (laneO bs 0) (nth os 0) (nth zs 0) (laneO bs 1) (nth os 1) (nth zs 1) (laneO bs 2) (nth os 2) (nth zs 2) (laneO bs 3) (nth os 3) (nth zs 3) (laneO bs 4) (nth os 4) (nth zs 4) _ (fit_of (unhide HSA))).mono ?_
    rintro x w3 ⟨g, c, rfl, o, b⟩
    have B1 := hide ((unhide B1).trans (b.mono (unhide B1).size))
    have KP := hide ((unhide KP).below b)
    have m0 : w3.cell? ⟨w.heap.size, 0, none⟩ = some (.int .i64 n) := (unhide KP).c 0 (by simp)
    have o : OwnI w3 w2.heap.size (.slice (some ⟨g, 0, none⟩) (heardS (fiveO bs) (fiveI zs)).length c) (heardS (fiveO bs) (fiveI zs)) := o
    have hgo : (heardS [laneO bs 0, laneO bs 1, laneO bs 2, laneO bs 3, laneO bs 4] [nth zs 0, nth zs 1, nth zs 2, nth zs 3, nth zs 4]) = heardS bs zs := unhide HFV
    rw [hgo]
    rw [unhide HFV] at o
    obtain ⟨H, hH⟩ : ∃ H, heardS bs zs = H := ⟨_, rfl⟩
    rw [hH] at o hl5 HHA ⊢
    have HE : Hid (twoB n h bs os zs = (decide (H.length = 2) && decide (n < nth H 1 - nth H 0))) := hide (by unfold twoB; rw [unhide Q1, hH]; rfl)
    have HO := hide o.row.open_
    clear o b hH hgo
    obtain ⟨m, hm⟩ : ∃ m, H.length = m := ⟨_, rfl⟩
    rw [hm] at HO hl5 ⊢
    have HM := hide hm
    clear hm
    by_cases h2 : m = 2
    · subst h2
      rcases (unhide HO) with ⟨h1, _⟩ | ⟨bb, off, e, _, hc⟩
      · omega
      cases e
      have y0 : w3.cell? ⟨g, 0, none⟩ = some (.int .i64 (nth H 0)) := hc 0 (by omega)
      have y1 : w3.cell? ⟨g, 1, none⟩ = some (.int .i64 (nth H 1)) := hc 1 (by omega)
      have v0 := (unhide HHA) 0 (by rw [unhide HM]; omega)
      have v1 := (unhide HHA) 1 (by rw [unhide HM]; omega)
      have HX : Hid (twoB n h bs os zs = decide (n < nth H 1 - nth H 0)) := hide (by rw [unhide HE, unhide HM]; rfl)
      have hwr : IntKind.i64.wrap (nth H 1 - nth H 0) = nth H 1 - nth H 0 := by rw [IntKind.wrap_i64]; omega
      clear hc HO
      go_wp2_with fail
      go_quiet (fail)
      go_wp2_with fail
      go_ret
      exact ⟨ret_bool (unhide HX).symm, (unhide B1).trans (bel0d' _)⟩
    · have hb : ((m : Int) == 2) = false := by simp; omega
      have HX : Hid (twoB n h bs os zs = false) := hide (by rw [unhide HE, unhide HM]; simp [h2])
      clear h2
      go_wp2_with fail
      go_quiet (fail)
      go_wp2_with fail
      go_ret
      exact ⟨ret_bool (unhide HX).symm, (unhide B1).trans (bel0d' _)⟩

end Go.Proofs.Ytidgkkldhnckead

/-
  What the model's Votes answers: as the plain functions. At lists of at most 1048576 that are not nil; nothing that was there is written.
-/
import Derived.Test.YtghgbhoncgnbcaqVsLoop
import Derived.Deep.RegionHeld3
namespace Go.Proofs.Ytghgbhoncgnbcaq
open Go.RowKit

theorem vsMany_of (zss : List (List Int)) : (vsMany zss = zss.length ∧ zss.length ≤ 200) ∨ (vsMany zss = 0 ∧ 200 < zss.length) := by
  unfold vsMany; split <;> omega
set_option maxRecDepth 20000 in
set_option maxHeartbeats 2000000 in
theorem specVotes_any (n h : Int) (p1 p2 : Addr) (a3 : Option Addr) (l1 c1 l2 c2 l3 c3 : Nat) (bs : List Bool) (os : List Int) (zss : List (List Int)) (w : World) (hr : VoIn w (some p1) (some p2) l1 l2 bs os) (hz : RowS w a3 l3 zss) (h1 : l1 ≤ 1048576) (h2 : l2 ≤ 1048576) :
    Calls Try.prog 24 #[.agg #[.int .i64 n, .int .i64 h, .slice (some p1) l1 c1, .slice (some p2) l2 c2], .slice a3 l3 c3] w fun x w' => ∃ q1 e1 q2 e2 g c, x = .returned (.tuple #[.agg #[.int .i64 n, .int .i64 h, .slice q1 (vsAt n h bs os zss (vsMany zss)).1.length e1, .slice q2 (vsAt n h bs os zss (vsMany zss)).2.length e2], .slice (some ⟨g, 0, none⟩) (vsV n h bs os zss (vsMany zss)).length c]) ∧ VoOwn w' w.heap.size q1 q2 (vsAt n h bs os zss (vsMany zss)).1.length e1 (vsAt n h bs os zss (vsMany zss)).2.length e2 (vsAt n h bs os zss (vsMany zss)).1 (vsAt n h bs os zss (vsMany zss)).2 ∧ OwnI w' w.heap.size (.slice (some ⟨g, 0, none⟩) (vsV n h bs os zss (vsMany zss)).length c) (vsV n h bs os zss (vsMany zss)) ∧ VoApart q1 q2 (vsAt n h bs os zss (vsMany zss)).1.length e1 (vsAt n h bs os zss (vsMany zss)).2.length e2 g ∧ Below w.heap.size w w' := by
  obtain ⟨W, hW⟩ : ∃ W, W = (w.alloc (Obj.cells #[.int .i64 n, .int .i64 h, .slice (some p1) l1 c1, .slice (some p2) l2 c2] 28)).alloc (Obj.cells #[.int .i64 0, .int .i64 0, .slice none 0 0, .slice none 0 0] 28) := ⟨_, rfl⟩
  have KR : Hid (Blk W (w.heap.size + 1) [.int .i64 0, .int .i64 0, .slice none 0 0, .slice none 0 0]) := hide (by rw [hW]; exact blkAt2_1)
  have HB : Hid (Below w.heap.size w W) := hide (by rw [hW]; exact bel2 _ _)
  have hsz : W.heap.size = w.heap.size + 1 + 1 := by rw [hW]; simp
  have R := hide (hr.below (unhide HB))
  have HZ0 := hide hz
  have Z1 := hide hr.r1.len_eq
  have Z2 := hide hr.r2.len_eq
  have Z3 := hide hz.len_eq
  have H1 := hide h1
  have H2 := hide h2
  have HW := hide hW
  have HSZ := hide hsz
  clear hr hz hW h1 h2 hsz
  go_enter Try.func24, Try.ntmps24
  go_wp2_with fail
  rw [← unhide HW]
  clear HW
  refine (l8Copy_any n h p1 p2 l1 c1 l2 c2 bs os W (unhide R) (unhide H1) (unhide H2)).mono ?_
  rintro x v1 ⟨g1, d1, g2, d2, rfl, vo, b⟩
  obtain ⟨O, hO⟩ : ∃ O, v1.heap.size = O := ⟨_, rfl⟩
  obtain ⟨g, hg⟩ : ∃ g, O + 1 = g := ⟨_, rfl⟩
  obtain ⟨V0, hV0⟩ : ∃ V0, V0 = (v1.alloc (Obj.cells #[.int .i64 n, .int .i64 h, .slice (some ⟨g1, 0, none⟩) l1 d1, .slice (some ⟨g2, 0, none⟩) l2 d2] 28)).alloc (Obj.cells #[] 3) := ⟨_, rfl⟩
  have S0 : Hid (Vts w V0 O W.heap.size v1.heap.size n h (some ⟨g1, 0, none⟩) (some ⟨g2, 0, none⟩) l1 d1 l2 d2 g 0 0 (vsAt n h bs os zss 0).1 (vsAt n h bs os zss 0).2 (vsV n h bs os zss 0)) := hide (by
    have hs := unhide HSZ
    have hz := b.size
    have hb1 := (unhide HB).trans (b.mono (unhide HB).size)
    rw [hV0]
    refine ⟨(Blk.next _ _ hO).alloc _, (((unhide KR).below b).alloc _).alloc _, (vo.below (bel1 _)).below (bel1 _), vo.lies, ?_, .inr (by omega), .inr (by omega), by omega, by omega, by omega, by omega, by simp; omega, unhide Z1, unhide Z2, rfl, (hb1.alloc hb1.size _).alloc (Nat.le_trans hb1.size (by simp)) _⟩
    have := ownI_none (w := W) (w1 := v1.alloc (Obj.cells #[.int .i64 n, .int .i64 h, .slice (some ⟨g1, 0, none⟩) l1 d1, .slice (some ⟨g2, 0, none⟩) l2 d2] 28)) (Nat.le_trans hz (by simp))
    rw [hs, show (v1.alloc (Obj.cells #[.int .i64 n, .int .i64 h, .slice (some ⟨g1, 0, none⟩) l1 d1, .slice (some ⟨g2, 0, none⟩) l2 d2] 28)).heap.size = g by simp; omega] at this
    exact this)
  have HV0 := hide hV0
  have HO := hide hO
  have HG := hide hg
  clear vo b KR HB R hO hg hV0
  go_wp2_with fail
  rw [← unhide HV0]
  try rw [unhide HO]
  try rw [unhide HG]
  obtain ⟨M, hM⟩ : ∃ M, vsMany zss = M := ⟨_, rfl⟩
  have hcase := vsMany_of zss
  rw [unhide Z3, hM] at hcase
  have HM := hide hM
  clear hM HV0 HO HG
  go_loopw [7, 8] (fun vv iv wr => ∃ (k x1 x2 L1 d1 L2 d2 g c lo hi : Nat), vv = .slice (some ⟨g, 0, none⟩) k c ∧ iv = .int .i64 (k : Int) ∧ k ≤ M ∧ Vts w wr O lo hi n h (some ⟨x1, 0, none⟩) (some ⟨x2, 0, none⟩) L1 d1 L2 d2 g k c (vsAt n h bs os zss k).1 (vsAt n h bs os zss k).2 (vsV n h bs os zss k)) (fun _ iv _ => M - (intOf iv).toNat)
  case atStart => exact ⟨0, _, _, _, _, _, _, _, _, _, _, rfl, rfl, Nat.zero_le _, unhide S0⟩
  case round =>
    clear S0
    obtain ⟨k, x1, x2, L1, d1, L2, d2, g, c, lo, hi, rfl, rfl, hk, hs⟩ := hrel
    have HS := hide hs
    by_cases hlt : k < M
    · have hle : (l3 : Int) ≤ 200 := by omega
      have hlt3 : k < l3 := by omega
      have hlt' : (k : Int) < (l3 : Int) := by omega
      have hk0 : (0 : Int) ≤ (k : Int) := by omega
      rcases ((unhide HZ0).below hs.b).open_ with ⟨h0, _⟩ | ⟨bb, off, rfl, _, hc⟩
      · omega
      obtain ⟨ai, li, ci, hcell, hrow, _⟩ := hc k hlt3
      have vl := vsAt_len n h bs os zss k
      have t1 := hs.b1
      have t2 := hs.b2
      have s1 := unhide H1
      have s2 := unhide H2
      have HL1 : Hid (L1 ≤ 1048576) := hide (by have := unhide Z1; omega)
      have HL2 : Hid (L2 ≤ 1048576) := hide (by have := unhide Z2; omega)
      have HCL : Hid (wr.cell? ⟨bb, off + k, none⟩ = some (.slice ai li ci)) := hide hcell
      have u0 : wr.cell? ⟨O, 0, none⟩ = some (.int .i64 n) := (hs.p).c 0 (by simp)
      have u1 : wr.cell? ⟨O, 1, none⟩ = some (.int .i64 h) := (hs.p).c 1 (by simp)
      have u2 : wr.cell? ⟨O, 2, none⟩ = some (.slice (some ⟨x1, 0, none⟩) L1 d1) := (hs.p).c 2 (by simp)
      have u3 : wr.cell? ⟨O, 3, none⟩ = some (.slice (some ⟨x2, 0, none⟩) L2 d2) := (hs.p).c 3 (by simp)
      have RW := hide hrow
      have VI := hide hs.vo.read
      have hk2 : k ≤ 1000000 := by omega
      have hOl := hs.p.lt
      have hbl : bb < wr.heap.size := block_lt_of_cell hcell
      have nO1 : ¬ wr.heap.size = O := by omega
      have nO2 : ¬ O = wr.heap.size := by omega
      have nb1 : ¬ wr.heap.size = bb := by omega
      have nb2 : ¬ bb = wr.heap.size := by omega
      clear hc hrow hs vl t1 t2 s1 s2
      go_wp2_with fail
      go_region_held3 (fun w' => w'.cell? ⟨O, 0, none⟩ = some (.int .i64 n) ∧ w'.cell? ⟨O, 1, none⟩ = some (.int .i64 h) ∧ w'.cell? ⟨O, 2, none⟩ = some (.slice (some ⟨x1, 0, none⟩) L1 d1) ∧ w'.cell? ⟨O, 3, none⟩ = some (.slice (some ⟨x2, 0, none⟩) L2 d2) ∧ w'.cell? ⟨bb, off + k, none⟩ = some (.slice ai li ci)) (go_keep)
        ((go_at_call 18; refine (specVote_some n h _ _ _ _ _ _ _ _ _ _ _ _ _ (by first | exact unhide VI | exact (unhide VI).below (bel0d 1) | exact ((unhide VI).below (bel0d 1)).below (bel1 _)) (by first | exact unhide RW | exact (unhide RW).below (bel0d 1) | exact ((unhide RW).below (bel0d 1)).below (bel1 _)) (unhide HL1) (unhide HL2)).mono ?_; rintro x w2 ⟨q1, e1, q2, e2, rfl, vo, b⟩; have B2 : Hid (Below wr.heap.size wr w2) := hide (by first | exact b | exact (bel0d' 1).trans b | exact ((bel0d' 1).alloc (Nat.le_refl _) _).trans (b.mono (by simp))); (first | (have KN : Blk w2 wr.heap.size [.int .i64 0, .int .i64 0, .slice none 0 0, .slice none 0 0] := (Blk.new (w := wr.drewN 1) [.int .i64 0, .int .i64 0, .slice none 0 0, .slice none 0 0] 28).below b; have n0 : w2.cell? ⟨wr.heap.size, 0, none⟩ = some (.int .i64 0) := KN.c 0 (by simp); have f0 : w2.frozen? ⟨wr.heap.size, 0, none⟩ = false := KN.f 0 (by simp); have n1 : w2.cell? ⟨wr.heap.size, 1, none⟩ = some (.int .i64 0) := KN.c 1 (by simp); have f1 : w2.frozen? ⟨wr.heap.size, 1, none⟩ = false := KN.f 1 (by simp); have n2 : w2.cell? ⟨wr.heap.size, 2, none⟩ = some (.slice none 0 0) := KN.c 2 (by simp); have f2 : w2.frozen? ⟨wr.heap.size, 2, none⟩ = false := KN.f 2 (by simp); have n3 : w2.cell? ⟨wr.heap.size, 3, none⟩ = some (.slice none 0 0) := KN.c 3 (by simp); have f3 : w2.frozen? ⟨wr.heap.size, 3, none⟩ = false := KN.f 3 (by simp)) | skip); have zB := (unhide B2).size; have mO1 : ¬ w2.heap.size = O := (by omega); have mO2 : ¬ O = w2.heap.size := (by omega); have mb1 : ¬ w2.heap.size = bb := (by omega); have mb2 : ¬ bb = w2.heap.size := (by omega); clear u0 u1 u2 u3 hcell; have u0 : w2.cell? ⟨O, 0, none⟩ = some (.int .i64 n) := ((unhide HS).p.below (unhide B2)).c 0 (by simp); have u1 : w2.cell? ⟨O, 1, none⟩ = some (.int .i64 h) := ((unhide HS).p.below (unhide B2)).c 1 (by simp); have u2 : w2.cell? ⟨O, 2, none⟩ = some (.slice (some ⟨x1, 0, none⟩) L1 d1) := ((unhide HS).p.below (unhide B2)).c 2 (by simp); have u3 : w2.cell? ⟨O, 3, none⟩ = some (.slice (some ⟨x2, 0, none⟩) L2 d2) := ((unhide HS).p.below (unhide B2)).c 3 (by simp); have hcell : w2.cell? ⟨bb, off + k, none⟩ = some (.slice ai li ci) := ((unhide B2).cell (block_lt_of_cell (unhide HCL))).trans (unhide HCL)))
      · skip
        have hx := votX_in n h (vsAt n h bs os zss k).1 (vsAt n h bs os zss k).2 (nthS zss k)
        have HV1 := hide (vsV_succ n h bs os zss k)
        obtain ⟨X, hX⟩ : ∃ X, votX n h (vsAt n h bs os zss k).1 (vsAt n h bs os zss k).2 (nthS zss k) = X := ⟨_, rfl⟩
        have hX' : vsX n h bs os zss k = X := hX
        rw [hX] at hx
        rw [hX'] at HV1
        obtain ⟨B', hB'⟩ : ∃ B', votOut n h (vsAt n h bs os zss k).1 (vsAt n h bs os zss k).2 (nthS zss k) = B' := ⟨_, rfl⟩
        obtain ⟨D', hD'⟩ : ∃ D', votOdd n h (vsAt n h bs os zss k).1 (vsAt n h bs os zss k).2 (nthS zss k) = D' := ⟨_, rfl⟩
        have EA : Hid (vsAt n h bs os zss (k + 1) = (B', D')) := hide (by rw [← hB', ← hD']; rfl)
        rw [hX, hB', hD']
        rw [hB', hD'] at vo
        clear hX hX' hB' hD'
        obtain ⟨M1, hM1⟩ : ∃ M1, B'.length = M1 := ⟨_, rfl⟩
        obtain ⟨M2, hM2⟩ : ∃ M2, D'.length = M2 := ⟨_, rfl⟩
        rw [hM1, hM2] at vo ⊢
        have lgv := (unhide HS).ov.lies g rfl
        have hlw := (unhide HS).lw
        have hhw := (unhide HS).hw
        have l1v := vo.o1.lies
        have l2v := vo.o2.lies
        obtain ⟨Y, hY⟩ : ∃ Y, Y = w2.alloc (Obj.cells #[.int .i64 n, .int .i64 h, .slice (some ⟨q1, 0, none⟩) M1 e1, .slice (some ⟨q2, 0, none⟩) M2 e2] 28) := ⟨_, rfl⟩
        obtain ⟨Q9, hQ9⟩ : ∃ Q9, w2.heap.size = Q9 := ⟨_, rfl⟩
        have KQ : Hid (Blk Y Q9 [.int .i64 n, .int .i64 h, .slice (some ⟨q1, 0, none⟩) M1 e1, .slice (some ⟨q2, 0, none⟩) M2 e2]) := hide (by rw [hY]; exact Blk.next _ _ hQ9)
        have SY := ((unhide HS).below (unhide B2)).below (show Below w2.heap.size w2 Y by rw [hY]; exact bel1 _)
        have VY : VoOwn Y wr.heap.size (some ⟨q1, 0, none⟩) (some ⟨q2, 0, none⟩) M1 e1 M2 e2 B' D' := (show VoOwn w2 wr.heap.size _ _ M1 e1 M2 e2 B' D' from vo).below (show Below w2.heap.size w2 Y by rw [hY]; exact bel1 _)
        have SX := hide (SY.put (lo' := wr.heap.size) (hi' := w2.heap.size) VY ⟨l1v, l2v⟩ hM1 hM2 (by omega) (by omega) (by omega) (by rw [hY]; simp))
        have zY : w2.heap.size ≤ Y.heap.size := by rw [hY]; simp
        rw [← hY]
        rw [hQ9]
        clear hY
        have k0 : Y.cell? ⟨Q9, 0, none⟩ = some (.int .i64 n) := (unhide KQ).c 0 (by simp)
        have v0 : Y.cell? ⟨O, 0, none⟩ = some (.int .i64 n) := SY.p.c 0 (by simp)
        have fy0 : Y.frozen? ⟨O, 0, none⟩ = false := SY.p.f 0 (by simp)
        have k1 : Y.cell? ⟨Q9, 1, none⟩ = some (.int .i64 h) := (unhide KQ).c 1 (by simp)
        have v1 : Y.cell? ⟨O, 1, none⟩ = some (.int .i64 h) := SY.p.c 1 (by simp)
        have fy1 : Y.frozen? ⟨O, 1, none⟩ = false := SY.p.f 1 (by simp)
        have k2 : Y.cell? ⟨Q9, 2, none⟩ = some (.slice (some ⟨q1, 0, none⟩) M1 e1) := (unhide KQ).c 2 (by simp)
        have v2 : Y.cell? ⟨O, 2, none⟩ = some (.slice (some ⟨x1, 0, none⟩) L1 d1) := SY.p.c 2 (by simp)
        have fy2 : Y.frozen? ⟨O, 2, none⟩ = false := SY.p.f 2 (by simp)
        have k3 : Y.cell? ⟨Q9, 3, none⟩ = some (.slice (some ⟨q2, 0, none⟩) M2 e2) := (unhide KQ).c 3 (by simp)
        have v3 : Y.cell? ⟨O, 3, none⟩ = some (.slice (some ⟨x2, 0, none⟩) L2 d2) := SY.p.c 3 (by simp)
        have fy3 : Y.frozen? ⟨O, 3, none⟩ = false := SY.p.f 3 (by simp)
        clear SY VY vo l1v l2v lgv hhw
        have HO := hide (unhide SX).ov
        have HLn := hide (unhide SX).lv
        have HSZ2 : Hid (w.heap.size + 1 + 1 ≤ ((((Y.setCell ⟨O, 0, none⟩ (.int .i64 n)).setCell ⟨O, 1, none⟩ (.int .i64 h)).setCell ⟨O, 2, none⟩ (.slice (some ⟨q1, 0, none⟩) M1 e1)).setCell ⟨O, 3, none⟩ (.slice (some ⟨q2, 0, none⟩) M2 e2)).heap.size) := hide (by have d := (unhide SX).ov.lies g rfl; omega)
        clear HS KQ
        go_wp2_with (at_builtin; refine wpList_app_at rfl _ _ rfl (n := k) X (unhide HO) (unhide HLn) rfl (by first | rfl | simp) rfl (unhide HSZ2) hk2 (by omega) ?_; intro g9 c9 w9 o9 gr9 at9)
        have S9 := (unhide SX).pushed o9 gr9 at9
        refine ⟨⟨k + 1, q1, q2, M1, e1, M2, e2, g9, c9, wr.heap.size, w2.heap.size, rfl, by go_num, by omega, ?_⟩, by simp [intOf]; omega⟩
        rw [unhide EA, unhide HV1]
        exact S9
      · skip
        have hx := votX_in n h (vsAt n h bs os zss k).1 (vsAt n h bs os zss k).2 (nthS zss k)
        have HV1 := hide (vsV_succ n h bs os zss k)
        obtain ⟨X, hX⟩ : ∃ X, votX n h (vsAt n h bs os zss k).1 (vsAt n h bs os zss k).2 (nthS zss k) = X := ⟨_, rfl⟩
        have hX' : vsX n h bs os zss k = X := hX
        rw [hX] at hx
        rw [hX'] at HV1
        obtain ⟨B', hB'⟩ : ∃ B', votOut n h (vsAt n h bs os zss k).1 (vsAt n h bs os zss k).2 (nthS zss k) = B' := ⟨_, rfl⟩
        obtain ⟨D', hD'⟩ : ∃ D', votOdd n h (vsAt n h bs os zss k).1 (vsAt n h bs os zss k).2 (nthS zss k) = D' := ⟨_, rfl⟩
        have EA : Hid (vsAt n h bs os zss (k + 1) = (B', D')) := hide (by rw [← hB', ← hD']; rfl)
        rw [hX, hB', hD']
        rw [hB', hD'] at vo
        clear hX hX' hB' hD'
        obtain ⟨M1, hM1⟩ : ∃ M1, B'.length = M1 := ⟨_, rfl⟩
        obtain ⟨M2, hM2⟩ : ∃ M2, D'.length = M2 := ⟨_, rfl⟩
        rw [hM1, hM2] at vo ⊢
        have lgv := (unhide HS).ov.lies g rfl
        have hlw := (unhide HS).lw
        have hhw := (unhide HS).hw
        have l1v := vo.o1.lies
        have l2v := vo.o2.lies
        obtain ⟨Y, hY⟩ : ∃ Y, Y = ((((w2.setCell ⟨wr.heap.size, 0, none⟩ (.int .i64 n)).setCell ⟨wr.heap.size, 1, none⟩ (.int .i64 h)).setCell ⟨wr.heap.size, 2, none⟩ (.slice (some ⟨q1, 0, none⟩) M1 e1)).setCell ⟨wr.heap.size, 3, none⟩ (.slice (some ⟨q2, 0, none⟩) M2 e2)) := ⟨_, rfl⟩
        obtain ⟨Q9, hQ9⟩ : ∃ Q9, wr.heap.size = Q9 := ⟨_, rfl⟩
        have KQ : Hid (Blk Y Q9 [.int .i64 n, .int .i64 h, .slice (some ⟨q1, 0, none⟩) M1 e1, .slice (some ⟨q2, 0, none⟩) M2 e2]) := hide (by rw [hY, ← hQ9]; exact (((KN.set 0 (by simp) _).set 1 (by simp) _).set 2 (by simp) _).set 3 (by simp) _)
        have SW := (unhide HS).below (unhide B2)
        have SY : Vts w Y O lo hi n h (some ⟨x1, 0, none⟩) (some ⟨x2, 0, none⟩) L1 d1 L2 d2 g k c (vsAt n h bs os zss k).1 (vsAt n h bs os zss k).2 (vsV n h bs os zss k) := by
          rw [hY]
          exact (((SW.other (by omega) nO1 (by omega) (by omega) _).other (by omega) nO1 (by omega) (by omega) _).other (by omega) nO1 (by omega) (by omega) _).other (by omega) nO1 (by omega) (by omega) _
        have hsa : ((wr.drewN 1).alloc (Obj.cells #[.int .i64 0, .int .i64 0, .slice none 0 0, .slice none 0 0] 28)).heap.size = wr.heap.size + 1 := by simp
        have l1w : ∀ q, (Value.slice (some ⟨q1, 0, none⟩) M1 e1).ownBlock = some q → wr.heap.size + 1 ≤ q ∧ q < w2.heap.size := fun q hq => by have := l1v q hq; simp at this; omega
        have l2w : ∀ q, (Value.slice (some ⟨q2, 0, none⟩) M2 e2).ownBlock = some q → wr.heap.size + 1 ≤ q ∧ q < w2.heap.size := fun q hq => by have := l2v q hq; simp at this; omega
        have m1w : (Value.slice (some ⟨q1, 0, none⟩) M1 e1).ownBlock ≠ some wr.heap.size := fun e => by have := l1w _ e; omega
        have m2w : (Value.slice (some ⟨q2, 0, none⟩) M2 e2).ownBlock ≠ some wr.heap.size := fun e => by have := l2w _ e; omega
        have vo' : VoOwn w2 (wr.heap.size + 1) (some ⟨q1, 0, none⟩) (some ⟨q2, 0, none⟩) M1 e1 M2 e2 B' D' := by rw [← hsa]; exact vo
        have VY : VoOwn Y (wr.heap.size + 1) (some ⟨q1, 0, none⟩) (some ⟨q2, 0, none⟩) M1 e1 M2 e2 B' D' := by
          rw [hY]
          exact (((vo'.set_other _ m1w m2w).set_other _ m1w m2w).set_other _ m1w m2w).set_other _ m1w m2w
        have SX := hide (SY.put (lo' := wr.heap.size + 1) (hi' := w2.heap.size) VY ⟨l1w, l2w⟩ hM1 hM2 (by omega) (by omega) (by omega) (by rw [hY]; simp [World.setCell]))
        have zY : w2.heap.size ≤ Y.heap.size := by rw [hY]; simp [World.setCell]
        rw [← hY, hQ9]
        clear hY SW hsa l1w l2w m1w m2w vo'
        have k0 : Y.cell? ⟨Q9, 0, none⟩ = some (.int .i64 n) := (unhide KQ).c 0 (by simp)
        have v0 : Y.cell? ⟨O, 0, none⟩ = some (.int .i64 n) := SY.p.c 0 (by simp)
        have fy0 : Y.frozen? ⟨O, 0, none⟩ = false := SY.p.f 0 (by simp)
        have k1 : Y.cell? ⟨Q9, 1, none⟩ = some (.int .i64 h) := (unhide KQ).c 1 (by simp)
        have v1 : Y.cell? ⟨O, 1, none⟩ = some (.int .i64 h) := SY.p.c 1 (by simp)
        have fy1 : Y.frozen? ⟨O, 1, none⟩ = false := SY.p.f 1 (by simp)
        have k2 : Y.cell? ⟨Q9, 2, none⟩ = some (.slice (some ⟨q1, 0, none⟩) M1 e1) := (unhide KQ).c 2 (by simp)
        have v2 : Y.cell? ⟨O, 2, none⟩ = some (.slice (some ⟨x1, 0, none⟩) L1 d1) := SY.p.c 2 (by simp)
        have fy2 : Y.frozen? ⟨O, 2, none⟩ = false := SY.p.f 2 (by simp)
        have k3 : Y.cell? ⟨Q9, 3, none⟩ = some (.slice (some ⟨q2, 0, none⟩) M2 e2) := (unhide KQ).c 3 (by simp)
        have v3 : Y.cell? ⟨O, 3, none⟩ = some (.slice (some ⟨x2, 0, none⟩) L2 d2) := SY.p.c 3 (by simp)
        have fy3 : Y.frozen? ⟨O, 3, none⟩ = false := SY.p.f 3 (by simp)
        clear SY VY vo l1v l2v lgv hhw
        have HO := hide (unhide SX).ov
        have HLn := hide (unhide SX).lv
        have HSZ2 : Hid (w.heap.size + 1 + 1 ≤ ((((Y.setCell ⟨O, 0, none⟩ (.int .i64 n)).setCell ⟨O, 1, none⟩ (.int .i64 h)).setCell ⟨O, 2, none⟩ (.slice (some ⟨q1, 0, none⟩) M1 e1)).setCell ⟨O, 3, none⟩ (.slice (some ⟨q2, 0, none⟩) M2 e2)).heap.size) := hide (by have d := (unhide SX).ov.lies g rfl; omega)
        clear HS KQ
        go_wp2_with (at_builtin; refine wpList_app_at rfl _ _ rfl (n := k) X (unhide HO) (unhide HLn) rfl (by first | rfl | simp) rfl (unhide HSZ2) hk2 (by omega) ?_; intro g9 c9 w9 o9 gr9 at9)
        have S9 := (unhide SX).pushed o9 gr9 at9
        refine ⟨⟨k + 1, q1, q2, M1, e1, M2, e2, g9, c9, wr.heap.size + 1, w2.heap.size, rfl, by go_num, by omega, ?_⟩, by simp [intOf]; omega⟩
        rw [unhide EA, unhide HV1]
        exact S9
    · have hcc : ¬ (k : Int) < (l3 : Int) ∨ ((k : Int) < (l3 : Int) ∧ ¬ (l3 : Int) ≤ 200) := by omega
      have ek : M = k := by omega
      have EM : Hid (vsMany zss = k) := hide (by rw [unhide HM, ek])
      obtain ⟨A1, hA1⟩ : ∃ A1 : Option Addr, A1 = some ⟨x1, 0, none⟩ := ⟨_, rfl⟩
      obtain ⟨A2, hA2⟩ : ∃ A2 : Option Addr, A2 = some ⟨x2, 0, none⟩ := ⟨_, rfl⟩
      rw [← hA1, ← hA2] at HS
      clear hs ek hcase hA1 hA2
      rcases hcc with hcc | ⟨hcc, hcd⟩
      · skip
        have u0 : wr.cell? ⟨O, 0, none⟩ = some (.int .i64 n) := (unhide HS).p.c 0 (by simp)
        have r0 : wr.cell? ⟨w.heap.size + 1, 0, none⟩ = some (.int .i64 0) := (unhide HS).r.c 0 (by simp)
        have t0 : wr.frozen? ⟨w.heap.size + 1, 0, none⟩ = false := (unhide HS).r.f 0 (by simp)
        have u1 : wr.cell? ⟨O, 1, none⟩ = some (.int .i64 h) := (unhide HS).p.c 1 (by simp)
        have r1 : wr.cell? ⟨w.heap.size + 1, 1, none⟩ = some (.int .i64 0) := (unhide HS).r.c 1 (by simp)
        have t1 : wr.frozen? ⟨w.heap.size + 1, 1, none⟩ = false := (unhide HS).r.f 1 (by simp)
        have u2 : wr.cell? ⟨O, 2, none⟩ = some (.slice A1 L1 d1) := (unhide HS).p.c 2 (by simp)
        have r2 : wr.cell? ⟨w.heap.size + 1, 2, none⟩ = some (.slice none 0 0) := (unhide HS).r.c 2 (by simp)
        have t2 : wr.frozen? ⟨w.heap.size + 1, 2, none⟩ = false := (unhide HS).r.f 2 (by simp)
        have u3 : wr.cell? ⟨O, 3, none⟩ = some (.slice A2 L2 d2) := (unhide HS).p.c 3 (by simp)
        have r3 : wr.cell? ⟨w.heap.size + 1, 3, none⟩ = some (.slice none 0 0) := (unhide HS).r.c 3 (by simp)
        have t3 : wr.frozen? ⟨w.heap.size + 1, 3, none⟩ = false := (unhide HS).r.f 3 (by simp)
        have VL := hide (unhide HS).vl
        have LW := hide (unhide HS).lw
        have OUT := hide (unhide HS).out
        have lgv := (unhide HS).ov.lies g rfl
        have B1 := hide (unhide HS).b1
        have B2 := hide (unhide HS).b2
        have LV := hide (unhide HS).lv
        have VO := hide ((unhide HS).vo.mono (base' := w.heap.size) (by have := unhide LW; omega))
        have OV := hide ((unhide HS).ov.mono (base' := w.heap.size) (by omega))
        have HB := hide (unhide HS).b
        have VO := hide ((unhide VO).set_other (S := w.heap.size + 1) (o := 0) (.int .i64 n) (fun e => by have := (unhide VL).1 _ e; have := unhide LW; omega) (fun e => by have := (unhide VL).2 _ e; have := unhide LW; omega))
        have OV := hide ((unhide OV).set_other (S := w.heap.size + 1) (o := 0) (.int .i64 n) (by simp [Value.ownBlock]; omega))
        have HB := hide ((unhide HB).setCell (p := ⟨w.heap.size + 1, 0, none⟩) (by simp) (.int .i64 n))
        have VO := hide ((unhide VO).set_other (S := w.heap.size + 1) (o := 1) (.int .i64 h) (fun e => by have := (unhide VL).1 _ e; have := unhide LW; omega) (fun e => by have := (unhide VL).2 _ e; have := unhide LW; omega))
        have OV := hide ((unhide OV).set_other (S := w.heap.size + 1) (o := 1) (.int .i64 h) (by simp [Value.ownBlock]; omega))
        have HB := hide ((unhide HB).setCell (p := ⟨w.heap.size + 1, 1, none⟩) (by simp) (.int .i64 h))
        have VO := hide ((unhide VO).set_other (S := w.heap.size + 1) (o := 2) (.slice A1 L1 d1) (fun e => by have := (unhide VL).1 _ e; have := unhide LW; omega) (fun e => by have := (unhide VL).2 _ e; have := unhide LW; omega))
        have OV := hide ((unhide OV).set_other (S := w.heap.size + 1) (o := 2) (.slice A1 L1 d1) (by simp [Value.ownBlock]; omega))
        have HB := hide ((unhide HB).setCell (p := ⟨w.heap.size + 1, 2, none⟩) (by simp) (.slice A1 L1 d1))
        have VO := hide ((unhide VO).set_other (S := w.heap.size + 1) (o := 3) (.slice A2 L2 d2) (fun e => by have := (unhide VL).1 _ e; have := unhide LW; omega) (fun e => by have := (unhide VL).2 _ e; have := unhide LW; omega))
        have OV := hide ((unhide OV).set_other (S := w.heap.size + 1) (o := 3) (.slice A2 L2 d2) (by simp [Value.ownBlock]; omega))
        have HB := hide ((unhide HB).setCell (p := ⟨w.heap.size + 1, 3, none⟩) (by simp) (.slice A2 L2 d2))
        clear HS lgv
        go_wp2_with fail
        refine bodyPost_ret (v := .tuple #[.agg #[.int .i64 n, .int .i64 h, .slice A1 L1 d1, .slice A2 L2 d2], .slice (some ⟨g, 0, none⟩) k c]) (by simp [results, Try.results24, go_sem, *]) rfl ?_
        refine ⟨A1, d1, A2, d2, g, c, ?_, ?_, ?_, ?_, unhide HB⟩
        · rw [unhide EM, unhide B1, unhide B2, unhide LV]
        · rw [unhide EM, unhide B1, unhide B2]; exact unhide VO
        · rw [unhide EM, unhide LV]; exact unhide OV
        · rw [unhide EM, unhide B1, unhide B2]; exact voApart_of (unhide VL) (unhide OUT)
      · skip
        have u0 : wr.cell? ⟨O, 0, none⟩ = some (.int .i64 n) := (unhide HS).p.c 0 (by simp)
        have r0 : wr.cell? ⟨w.heap.size + 1, 0, none⟩ = some (.int .i64 0) := (unhide HS).r.c 0 (by simp)
        have t0 : wr.frozen? ⟨w.heap.size + 1, 0, none⟩ = false := (unhide HS).r.f 0 (by simp)
        have u1 : wr.cell? ⟨O, 1, none⟩ = some (.int .i64 h) := (unhide HS).p.c 1 (by simp)
        have r1 : wr.cell? ⟨w.heap.size + 1, 1, none⟩ = some (.int .i64 0) := (unhide HS).r.c 1 (by simp)
        have t1 : wr.frozen? ⟨w.heap.size + 1, 1, none⟩ = false := (unhide HS).r.f 1 (by simp)
        have u2 : wr.cell? ⟨O, 2, none⟩ = some (.slice A1 L1 d1) := (unhide HS).p.c 2 (by simp)
        have r2 : wr.cell? ⟨w.heap.size + 1, 2, none⟩ = some (.slice none 0 0) := (unhide HS).r.c 2 (by simp)
        have t2 : wr.frozen? ⟨w.heap.size + 1, 2, none⟩ = false := (unhide HS).r.f 2 (by simp)
        have u3 : wr.cell? ⟨O, 3, none⟩ = some (.slice A2 L2 d2) := (unhide HS).p.c 3 (by simp)
        have r3 : wr.cell? ⟨w.heap.size + 1, 3, none⟩ = some (.slice none 0 0) := (unhide HS).r.c 3 (by simp)
        have t3 : wr.frozen? ⟨w.heap.size + 1, 3, none⟩ = false := (unhide HS).r.f 3 (by simp)
        have VL := hide (unhide HS).vl
        have LW := hide (unhide HS).lw
        have OUT := hide (unhide HS).out
        have lgv := (unhide HS).ov.lies g rfl
        have B1 := hide (unhide HS).b1
        have B2 := hide (unhide HS).b2
        have LV := hide (unhide HS).lv
        have VO := hide ((unhide HS).vo.mono (base' := w.heap.size) (by have := unhide LW; omega))
        have OV := hide ((unhide HS).ov.mono (base' := w.heap.size) (by omega))
        have HB := hide (unhide HS).b
        have VO := hide ((unhide VO).set_other (S := w.heap.size + 1) (o := 0) (.int .i64 n) (fun e => by have := (unhide VL).1 _ e; have := unhide LW; omega) (fun e => by have := (unhide VL).2 _ e; have := unhide LW; omega))
        have OV := hide ((unhide OV).set_other (S := w.heap.size + 1) (o := 0) (.int .i64 n) (by simp [Value.ownBlock]; omega))
        have HB := hide ((unhide HB).setCell (p := ⟨w.heap.size + 1, 0, none⟩) (by simp) (.int .i64 n))
        have VO := hide ((unhide VO).set_other (S := w.heap.size + 1) (o := 1) (.int .i64 h) (fun e => by have := (unhide VL).1 _ e; have := unhide LW; omega) (fun e => by have := (unhide VL).2 _ e; have := unhide LW; omega))
        have OV := hide ((unhide OV).set_other (S := w.heap.size + 1) (o := 1) (.int .i64 h) (by simp [Value.ownBlock]; omega))
        have HB := hide ((unhide HB).setCell (p := ⟨w.heap.size + 1, 1, none⟩) (by simp) (.int .i64 h))
        have VO := hide ((unhide VO).set_other (S := w.heap.size + 1) (o := 2) (.slice A1 L1 d1) (fun e => by have := (unhide VL).1 _ e; have := unhide LW; omega) (fun e => by have := (unhide VL).2 _ e; have := unhide LW; omega))
        have OV := hide ((unhide OV).set_other (S := w.heap.size + 1) (o := 2) (.slice A1 L1 d1) (by simp [Value.ownBlock]; omega))
        have HB := hide ((unhide HB).setCell (p := ⟨w.heap.size + 1, 2, none⟩) (by simp) (.slice A1 L1 d1))
        have VO := hide ((unhide VO).set_other (S := w.heap.size + 1) (o := 3) (.slice A2 L2 d2) (fun e => by have := (unhide VL).1 _ e; have := unhide LW; omega) (fun e => by have := (unhide VL).2 _ e; have := unhide LW; omega))
        have OV := hide ((unhide OV).set_other (S := w.heap.size + 1) (o := 3) (.slice A2 L2 d2) (by simp [Value.ownBlock]; omega))
        have HB := hide ((unhide HB).setCell (p := ⟨w.heap.size + 1, 3, none⟩) (by simp) (.slice A2 L2 d2))
        clear HS lgv
        go_wp2_with fail
        refine bodyPost_ret (v := .tuple #[.agg #[.int .i64 n, .int .i64 h, .slice A1 L1 d1, .slice A2 L2 d2], .slice (some ⟨g, 0, none⟩) k c]) (by simp [results, Try.results24, go_sem, *]) rfl ?_
        refine ⟨A1, d1, A2, d2, g, c, ?_, ?_, ?_, ?_, unhide HB⟩
        · rw [unhide EM, unhide B1, unhide B2, unhide LV]
        · rw [unhide EM, unhide B1, unhide B2]; exact unhide VO
        · rw [unhide EM, unhide LV]; exact unhide OV
        · rw [unhide EM, unhide B1, unhide B2]; exact voApart_of (unhide VL) (unhide OUT)

end Go.Proofs.Ytghgbhoncgnbcaq

/-
  What the program's Votes answers: as the plain functions. At lists of at most 1048576; nothing that was there is written.
-/
import Derived.Test.YtidgkkldhnckeadVsLoop
import Derived.Test.YtidgkkldhnckeadVtVote
namespace Go.Proofs.Ytidgkkldhnckead
open Go.RowKit

set_option maxRecDepth 20000 in
set_option maxHeartbeats 3000000 in
theorem implVotes_any (n h : Int) (a1 a2 a3 : Option Addr) (l1 c1 l2 c2 l3 c3 : Nat) (bs : List Bool) (os : List Int) (zss : List (List Int)) (w : World) (hr : VoIn w a1 a2 l1 l2 bs os) (hz : RowS w a3 l3 zss) (h1 : l1 ≤ 1048576) (h2 : l2 ≤ 1048576) :
    Calls Try.prog 14 #[.agg #[.int .i64 n, .int .i64 h, .slice a1 l1 c1, .slice a2 l2 c2], .slice a3 l3 c3] w fun x w' => ∃ q1 e1 q2 e2 g c, x = .returned (.tuple #[.agg #[.int .i64 n, .int .i64 h, .slice q1 (vsAt n h bs os zss (vsMany zss)).1.length e1, .slice q2 (vsAt n h bs os zss (vsMany zss)).2.length e2], .slice (some ⟨g, 0, none⟩) (vsV n h bs os zss (vsMany zss)).length c]) ∧ VoOwn w' w.heap.size q1 q2 (vsAt n h bs os zss (vsMany zss)).1.length e1 (vsAt n h bs os zss (vsMany zss)).2.length e2 (vsAt n h bs os zss (vsMany zss)).1 (vsAt n h bs os zss (vsMany zss)).2 ∧ OwnI w' w.heap.size (.slice (some ⟨g, 0, none⟩) (vsV n h bs os zss (vsMany zss)).length c) (vsV n h bs os zss (vsMany zss)) ∧ VoApart q1 q2 (vsAt n h bs os zss (vsMany zss)).1.length e1 (vsAt n h bs os zss (vsMany zss)).2.length e2 g ∧ Below w.heap.size w w' := by
  obtain ⟨W, hW⟩ : ∃ W, W = (w.alloc (Obj.cells #[.int .i64 n, .int .i64 h, .slice a1 l1 c1, .slice a2 l2 c2] 28)).alloc (Obj.cells #[.int .i64 0, .int .i64 0, .slice none 0 0, .slice none 0 0] 28) := ⟨_, rfl⟩
  have KP : Hid (Blk W w.heap.size [.int .i64 n, .int .i64 h, .slice a1 l1 c1, .slice a2 l2 c2]) := hide (by rw [hW]; exact blkAt2_0)
  have KR : Hid (Blk W (w.heap.size + 1) [.int .i64 0, .int .i64 0, .slice none 0 0, .slice none 0 0]) := hide (by rw [hW]; exact blkAt2_1)
  have HB : Hid (Below w.heap.size w W) := hide (by rw [hW]; exact bel2 _ _)
  have hsz : W.heap.size = w.heap.size + 1 + 1 := by rw [hW]; simp
  have R := hide (hr.below (unhide HB))
  have HZ0 := hide hz
  have Z1 := hide hr.r1.len_eq
  have Z2 := hide hr.r2.len_eq
  have Z3 := hide hz.len_eq
  have H1 := hide h1
  have H2 := hide h2
  have HW := hide hW
  have HSZ := hide hsz
  clear hr hz hW h1 h2 hsz
  go_enter Try.func14, Try.ntmps14
  go_wp2_with fail
  rw [← unhide HW]
  clear HW
  refine (copied_any n h a1 a2 l1 c1 l2 c2 bs os W (unhide R) (unhide H1) (unhide H2)).mono ?_
  rintro x v1 ⟨A1, d1, A2, d2, rfl, vo, b⟩
  obtain ⟨L1, rfl⟩ : ∃ L1, L1 = l1 := ⟨_, rfl⟩
  obtain ⟨L2, rfl⟩ : ∃ L2, L2 = l2 := ⟨_, rfl⟩
  have kp := (unhide KP).below b
  have y0 : v1.cell? ⟨w.heap.size, 0, none⟩ = some (.int .i64 n) := kp.c 0 (by simp)
  have z0 : v1.frozen? ⟨w.heap.size, 0, none⟩ = false := kp.f 0 (by simp)
  have y1 : v1.cell? ⟨w.heap.size, 1, none⟩ = some (.int .i64 h) := kp.c 1 (by simp)
  have z1 : v1.frozen? ⟨w.heap.size, 1, none⟩ = false := kp.f 1 (by simp)
  have y2 : v1.cell? ⟨w.heap.size, 2, none⟩ = some (.slice a1 L1 c1) := kp.c 2 (by simp)
  have z2 : v1.frozen? ⟨w.heap.size, 2, none⟩ = false := kp.f 2 (by simp)
  have y3 : v1.cell? ⟨w.heap.size, 3, none⟩ = some (.slice a2 L2 c2) := kp.c 3 (by simp)
  have z3 : v1.frozen? ⟨w.heap.size, 3, none⟩ = false := kp.f 3 (by simp)
  obtain ⟨g, hG⟩ : ∃ g, v1.heap.size = g := ⟨_, rfl⟩
  have S0 : Hid (Vts w (((((v1.setCell ⟨w.heap.size, 0, none⟩ (.int .i64 n)).setCell ⟨w.heap.size, 1, none⟩ (.int .i64 h)).setCell ⟨w.heap.size, 2, none⟩ (.slice A1 L1 d1)).setCell ⟨w.heap.size, 3, none⟩ (.slice A2 L2 d2)).alloc (Obj.cells #[] 3)) w.heap.size W.heap.size v1.heap.size n h A1 A2 L1 d1 L2 d2 g 0 0 (vsAt n h bs os zss 0).1 (vsAt n h bs os zss 0).2 (vsV n h bs os zss 0)) := hide (by
    have hs := unhide HSZ
    have x1 := vo.o1.lies
    have x2 := vo.o2.lies
    have hz := b.size
    have n1 : (Value.slice A1 L1 d1).ownBlock ≠ some w.heap.size := fun e => by have := x1 _ e; omega
    have n2 : (Value.slice A2 L2 d2).ownBlock ≠ some w.heap.size := fun e => by have := x2 _ e; omega
    have hb4 := ((((((unhide HB).trans (b.mono (unhide HB).size)).setCell (p := ⟨w.heap.size, 0, none⟩) (by simp) (.int .i64 n)).setCell (p := ⟨w.heap.size, 1, none⟩) (by simp) (.int .i64 h)).setCell (p := ⟨w.heap.size, 2, none⟩) (by simp) (.slice A1 L1 d1)).setCell (p := ⟨w.heap.size, 3, none⟩) (by simp) (.slice A2 L2 d2))
    refine ⟨((((kp.set 0 (by simp) _).set 1 (by simp) _).set 2 (by simp) _).set 3 (by simp) _).alloc _, ?_, ?_, vo.lies, ?_, .inr (by omega), .inl (by omega), by omega, Nat.le_refl _, by omega, by omega, ?_, unhide Z1, unhide Z2, rfl, hb4.alloc hb4.size _⟩
    · exact (((((((unhide KR).below b).other (by simp) _).other (by simp) _).other (by simp) _).other (by simp) _)).alloc _
    · exact ((((vo.set_other _ n1 n2).set_other _ n1 n2).set_other _ n1 n2).set_other _ n1 n2).below (bel1 _)
    · subst hG
      have := ownI_none (w := W) (w1 := ((((v1.setCell ⟨w.heap.size, 0, none⟩ (.int .i64 n)).setCell ⟨w.heap.size, 1, none⟩ (.int .i64 h)).setCell ⟨w.heap.size, 2, none⟩ (.slice A1 L1 d1)).setCell ⟨w.heap.size, 3, none⟩ (.slice A2 L2 d2))) (by simpa [World.setCell] using hz)
      rw [hs, show ((((v1.setCell ⟨w.heap.size, 0, none⟩ (.int .i64 n)).setCell ⟨w.heap.size, 1, none⟩ (.int .i64 h)).setCell ⟨w.heap.size, 2, none⟩ (.slice A1 L1 d1)).setCell ⟨w.heap.size, 3, none⟩ (.slice A2 L2 d2)).heap.size = v1.heap.size by simp [World.setCell]] at this
      exact this
    · simp [World.setCell])
  have HG := hide hG
  clear vo b kp KP KR HB R hG
  by_cases hbig : (200 : Int) < l3
  · have EM : Hid (vsMany zss = 0) := hide (by unfold vsMany; rw [if_neg (by rw [unhide Z3]; omega)])
    have HS := S0
    clear S0
    have u0 : (((((v1.setCell ⟨w.heap.size, 0, none⟩ (.int .i64 n)).setCell ⟨w.heap.size, 1, none⟩ (.int .i64 h)).setCell ⟨w.heap.size, 2, none⟩ (.slice A1 L1 d1)).setCell ⟨w.heap.size, 3, none⟩ (.slice A2 L2 d2)).alloc (Obj.cells #[] 3)).cell? ⟨w.heap.size, 0, none⟩ = some (.int .i64 n) := (unhide HS).p.c 0 (by simp)
    have r0 : (((((v1.setCell ⟨w.heap.size, 0, none⟩ (.int .i64 n)).setCell ⟨w.heap.size, 1, none⟩ (.int .i64 h)).setCell ⟨w.heap.size, 2, none⟩ (.slice A1 L1 d1)).setCell ⟨w.heap.size, 3, none⟩ (.slice A2 L2 d2)).alloc (Obj.cells #[] 3)).cell? ⟨w.heap.size + 1, 0, none⟩ = some (.int .i64 0) := (unhide HS).r.c 0 (by simp)
    have t0 : (((((v1.setCell ⟨w.heap.size, 0, none⟩ (.int .i64 n)).setCell ⟨w.heap.size, 1, none⟩ (.int .i64 h)).setCell ⟨w.heap.size, 2, none⟩ (.slice A1 L1 d1)).setCell ⟨w.heap.size, 3, none⟩ (.slice A2 L2 d2)).alloc (Obj.cells #[] 3)).frozen? ⟨w.heap.size + 1, 0, none⟩ = false := (unhide HS).r.f 0 (by simp)
    have u1 : (((((v1.setCell ⟨w.heap.size, 0, none⟩ (.int .i64 n)).setCell ⟨w.heap.size, 1, none⟩ (.int .i64 h)).setCell ⟨w.heap.size, 2, none⟩ (.slice A1 L1 d1)).setCell ⟨w.heap.size, 3, none⟩ (.slice A2 L2 d2)).alloc (Obj.cells #[] 3)).cell? ⟨w.heap.size, 1, none⟩ = some (.int .i64 h) := (unhide HS).p.c 1 (by simp)
    have r1 : (((((v1.setCell ⟨w.heap.size, 0, none⟩ (.int .i64 n)).setCell ⟨w.heap.size, 1, none⟩ (.int .i64 h)).setCell ⟨w.heap.size, 2, none⟩ (.slice A1 L1 d1)).setCell ⟨w.heap.size, 3, none⟩ (.slice A2 L2 d2)).alloc (Obj.cells #[] 3)).cell? ⟨w.heap.size + 1, 1, none⟩ = some (.int .i64 0) := (unhide HS).r.c 1 (by simp)
    have t1 : (((((v1.setCell ⟨w.heap.size, 0, none⟩ (.int .i64 n)).setCell ⟨w.heap.size, 1, none⟩ (.int .i64 h)).setCell ⟨w.heap.size, 2, none⟩ (.slice A1 L1 d1)).setCell ⟨w.heap.size, 3, none⟩ (.slice A2 L2 d2)).alloc (Obj.cells #[] 3)).frozen? ⟨w.heap.size + 1, 1, none⟩ = false := (unhide HS).r.f 1 (by simp)
    have u2 : (((((v1.setCell ⟨w.heap.size, 0, none⟩ (.int .i64 n)).setCell ⟨w.heap.size, 1, none⟩ (.int .i64 h)).setCell ⟨w.heap.size, 2, none⟩ (.slice A1 L1 d1)).setCell ⟨w.heap.size, 3, none⟩ (.slice A2 L2 d2)).alloc (Obj.cells #[] 3)).cell? ⟨w.heap.size, 2, none⟩ = some (.slice A1 L1 d1) := (unhide HS).p.c 2 (by simp)
    have r2 : (((((v1.setCell ⟨w.heap.size, 0, none⟩ (.int .i64 n)).setCell ⟨w.heap.size, 1, none⟩ (.int .i64 h)).setCell ⟨w.heap.size, 2, none⟩ (.slice A1 L1 d1)).setCell ⟨w.heap.size, 3, none⟩ (.slice A2 L2 d2)).alloc (Obj.cells #[] 3)).cell? ⟨w.heap.size + 1, 2, none⟩ = some (.slice none 0 0) := (unhide HS).r.c 2 (by simp)
    have t2 : (((((v1.setCell ⟨w.heap.size, 0, none⟩ (.int .i64 n)).setCell ⟨w.heap.size, 1, none⟩ (.int .i64 h)).setCell ⟨w.heap.size, 2, none⟩ (.slice A1 L1 d1)).setCell ⟨w.heap.size, 3, none⟩ (.slice A2 L2 d2)).alloc (Obj.cells #[] 3)).frozen? ⟨w.heap.size + 1, 2, none⟩ = false := (unhide HS).r.f 2 (by simp)
    have u3 : (((((v1.setCell ⟨w.heap.size, 0, none⟩ (.int .i64 n)).setCell ⟨w.heap.size, 1, none⟩ (.int .i64 h)).setCell ⟨w.heap.size, 2, none⟩ (.slice A1 L1 d1)).setCell ⟨w.heap.size, 3, none⟩ (.slice A2 L2 d2)).alloc (Obj.cells #[] 3)).cell? ⟨w.heap.size, 3, none⟩ = some (.slice A2 L2 d2) := (unhide HS).p.c 3 (by simp)
    have r3 : (((((v1.setCell ⟨w.heap.size, 0, none⟩ (.int .i64 n)).setCell ⟨w.heap.size, 1, none⟩ (.int .i64 h)).setCell ⟨w.heap.size, 2, none⟩ (.slice A1 L1 d1)).setCell ⟨w.heap.size, 3, none⟩ (.slice A2 L2 d2)).alloc (Obj.cells #[] 3)).cell? ⟨w.heap.size + 1, 3, none⟩ = some (.slice none 0 0) := (unhide HS).r.c 3 (by simp)
    have t3 : (((((v1.setCell ⟨w.heap.size, 0, none⟩ (.int .i64 n)).setCell ⟨w.heap.size, 1, none⟩ (.int .i64 h)).setCell ⟨w.heap.size, 2, none⟩ (.slice A1 L1 d1)).setCell ⟨w.heap.size, 3, none⟩ (.slice A2 L2 d2)).alloc (Obj.cells #[] 3)).frozen? ⟨w.heap.size + 1, 3, none⟩ = false := (unhide HS).r.f 3 (by simp)
    have VL := hide (unhide HS).vl
    have LW := hide (unhide HS).lw
    have OUT := hide (unhide HS).out
    have lgv := (unhide HS).ov.lies g rfl
    have B1 := hide (unhide HS).b1
    have B2 := hide (unhide HS).b2
    have LV := hide (unhide HS).lv
    have VO := hide ((unhide HS).vo.mono (base' := w.heap.size) (by have := unhide LW; omega))
    have OV := hide ((unhide HS).ov.mono (base' := w.heap.size) (by omega))
    have HB := hide (unhide HS).b
    have VO := hide ((unhide VO).set_other (S := w.heap.size + 1) (o := 0) (.int .i64 n) (fun e => by have := (unhide VL).1 _ e; have := unhide LW; omega) (fun e => by have := (unhide VL).2 _ e; have := unhide LW; omega))
    have OV := hide ((unhide OV).set_other (S := w.heap.size + 1) (o := 0) (.int .i64 n) (by simp [Value.ownBlock]; omega))
    have HB := hide ((unhide HB).setCell (p := ⟨w.heap.size + 1, 0, none⟩) (by simp) (.int .i64 n))
    have VO := hide ((unhide VO).set_other (S := w.heap.size + 1) (o := 1) (.int .i64 h) (fun e => by have := (unhide VL).1 _ e; have := unhide LW; omega) (fun e => by have := (unhide VL).2 _ e; have := unhide LW; omega))
    have OV := hide ((unhide OV).set_other (S := w.heap.size + 1) (o := 1) (.int .i64 h) (by simp [Value.ownBlock]; omega))
    have HB := hide ((unhide HB).setCell (p := ⟨w.heap.size + 1, 1, none⟩) (by simp) (.int .i64 h))
    have VO := hide ((unhide VO).set_other (S := w.heap.size + 1) (o := 2) (.slice A1 L1 d1) (fun e => by have := (unhide VL).1 _ e; have := unhide LW; omega) (fun e => by have := (unhide VL).2 _ e; have := unhide LW; omega))
    have OV := hide ((unhide OV).set_other (S := w.heap.size + 1) (o := 2) (.slice A1 L1 d1) (by simp [Value.ownBlock]; omega))
    have HB := hide ((unhide HB).setCell (p := ⟨w.heap.size + 1, 2, none⟩) (by simp) (.slice A1 L1 d1))
    have VO := hide ((unhide VO).set_other (S := w.heap.size + 1) (o := 3) (.slice A2 L2 d2) (fun e => by have := (unhide VL).1 _ e; have := unhide LW; omega) (fun e => by have := (unhide VL).2 _ e; have := unhide LW; omega))
    have OV := hide ((unhide OV).set_other (S := w.heap.size + 1) (o := 3) (.slice A2 L2 d2) (by simp [Value.ownBlock]; omega))
    have HB := hide ((unhide HB).setCell (p := ⟨w.heap.size + 1, 3, none⟩) (by simp) (.slice A2 L2 d2))
    clear HS lgv
    go_wp2_with fail
    rw [unhide HG]
    refine bodyPost_ret (v := .tuple #[.agg #[.int .i64 n, .int .i64 h, .slice A1 L1 d1, .slice A2 L2 d2], .slice (some ⟨g, 0, none⟩) 0 0]) (by simp [results, Try.results14, go_sem, *]) rfl ?_
    refine ⟨A1, d1, A2, d2, g, 0, ?_, ?_, ?_, ?_, unhide HB⟩
    · rw [unhide EM, unhide B1, unhide B2, unhide LV]
    · rw [unhide EM, unhide B1, unhide B2]; exact unhide VO
    · rw [unhide EM, unhide LV]; exact unhide OV
    · rw [unhide EM, unhide B1, unhide B2]; exact voApart_of (unhide VL) (unhide OUT)
  have hbig' : ¬ (200 : Int) < l3 := hbig
  have EMany : Hid (vsMany zss = l3) := hide (by unfold vsMany; rw [if_pos (by rw [unhide Z3]; omega), unhide Z3])
  go_wp2_with fail
  rw [unhide HG]
  obtain ⟨V0, hV0⟩ : ∃ V0, V0 = (((((v1.setCell ⟨w.heap.size, 0, none⟩ (.int .i64 n)).setCell ⟨w.heap.size, 1, none⟩ (.int .i64 h)).setCell ⟨w.heap.size, 2, none⟩ (.slice A1 L1 d1)).setCell ⟨w.heap.size, 3, none⟩ (.slice A2 L2 d2)).alloc (Obj.cells #[] 3)) := ⟨_, rfl⟩
  rw [← hV0] at S0 ⊢
  clear hV0 y0 y1 y2 y3 z0 z1 z2 z3
  go_loopw [6, 22] (fun vv iv wr => ∃ (k : Nat) (A1 A2 : Option Addr) (L1 d1 L2 d2 g c lo hi : Nat), vv = .slice (some ⟨g, 0, none⟩) k c ∧ iv = .int .i64 (k : Int) ∧ k ≤ l3 ∧ Vts w wr w.heap.size lo hi n h A1 A2 L1 d1 L2 d2 g k c (vsAt n h bs os zss k).1 (vsAt n h bs os zss k).2 (vsV n h bs os zss k)) (fun _ iv _ => l3 - (intOf iv).toNat)
  case atStart => exact ⟨0, _, _, _, _, _, _, _, _, _, _, rfl, rfl, Nat.zero_le _, unhide S0⟩
  case round =>
    clear S0 HG
    obtain ⟨k, A1, A2, L1, d1, L2, d2, g, c, lo, hi, rfl, rfl, hk, hs⟩ := hrel
    have HS := hide hs
    by_cases hlt : k < l3
    · have hlt' : (k : Int) < (l3 : Int) := by omega
      have hk0 : (0 : Int) ≤ (k : Int) := by omega
      rcases ((unhide HZ0).below hs.b).open_ with ⟨h0, _⟩ | ⟨bb, off, rfl, _, hc⟩
      · omega
      obtain ⟨ai, li, ci, hcell, hrow, _⟩ := hc k hlt
      have vl := vsAt_len n h bs os zss k
      have t1 := hs.b1
      have t2 := hs.b2
      have s1 := unhide H1
      have s2 := unhide H2
      have HL1 : Hid (L1 ≤ 1048576) := hide (by have := unhide Z1; omega)
      have HL2 : Hid (L2 ≤ 1048576) := hide (by have := unhide Z2; omega)
      have p0 : wr.cell? ⟨w.heap.size, 0, none⟩ = some (.int .i64 n) := hs.p.c 0 (by simp)
      have p1 : wr.cell? ⟨w.heap.size, 1, none⟩ = some (.int .i64 h) := hs.p.c 1 (by simp)
      have p2 : wr.cell? ⟨w.heap.size, 2, none⟩ = some (.slice A1 L1 d1) := hs.p.c 2 (by simp)
      have p3 : wr.cell? ⟨w.heap.size, 3, none⟩ = some (.slice A2 L2 d2) := hs.p.c 3 (by simp)
      have RW := hide hrow
      have VI := hide hs.vo.read
      have hk2 : k ≤ 1000000 := by have := hbig'; omega
      clear hc hrow hs vl t1 t2 s1 s2
      go_wp2_with fail
      refine (implVote_any n h _ _ _ _ _ _ _ _ _ _ _ _ _ (unhide VI) (unhide RW) (unhide HL1) (unhide HL2)).mono ?_
      rintro x w2 ⟨q1, e1, q2, e2, rfl, vo, b⟩
      clear p0 p1 p2 p3 hcell
      have hx := votX_in n h (vsAt n h bs os zss k).1 (vsAt n h bs os zss k).2 (nthS zss k)
      have HV1 := hide (vsV_succ n h bs os zss k)
      obtain ⟨X, hX⟩ : ∃ X, votX n h (vsAt n h bs os zss k).1 (vsAt n h bs os zss k).2 (nthS zss k) = X := ⟨_, rfl⟩
      have hX' : vsX n h bs os zss k = X := hX
      rw [hX] at hx
      rw [hX'] at HV1
      obtain ⟨B', hB'⟩ : ∃ B', votOut n h (vsAt n h bs os zss k).1 (vsAt n h bs os zss k).2 (nthS zss k) = B' := ⟨_, rfl⟩
      obtain ⟨D', hD'⟩ : ∃ D', votOdd n h (vsAt n h bs os zss k).1 (vsAt n h bs os zss k).2 (nthS zss k) = D' := ⟨_, rfl⟩
      have EA : Hid (vsAt n h bs os zss (k + 1) = (B', D')) := hide (by rw [← hB', ← hD']; rfl)
      rw [hX, hB', hD']
      rw [hB', hD'] at vo
      clear hX hX' hB' hD'
      obtain ⟨M1, hM1⟩ : ∃ M1, B'.length = M1 := ⟨_, rfl⟩
      obtain ⟨M2, hM2⟩ : ∃ M2, D'.length = M2 := ⟨_, rfl⟩
      rw [hM1, hM2] at vo ⊢
      have SX := hide ((unhide HS).stored b vo hM1 hM2 (Obj.cells #[.int .i64 n, .int .i64 h, .slice q1 M1 e1, .slice q2 M2 e2] 28))
      have kp := ((unhide HS).p.below b).alloc (Obj.cells #[.int .i64 n, .int .i64 h, .slice q1 M1 e1, .slice q2 M2 e2] 28)
      have y0 : (w2.alloc (Obj.cells #[.int .i64 n, .int .i64 h, .slice q1 M1 e1, .slice q2 M2 e2] 28)).cell? ⟨w.heap.size, 0, none⟩ = some (.int .i64 n) := kp.c 0 (by simp)
      have z0 : (w2.alloc (Obj.cells #[.int .i64 n, .int .i64 h, .slice q1 M1 e1, .slice q2 M2 e2] 28)).frozen? ⟨w.heap.size, 0, none⟩ = false := kp.f 0 (by simp)
      have y1 : (w2.alloc (Obj.cells #[.int .i64 n, .int .i64 h, .slice q1 M1 e1, .slice q2 M2 e2] 28)).cell? ⟨w.heap.size, 1, none⟩ = some (.int .i64 h) := kp.c 1 (by simp)
      have z1 : (w2.alloc (Obj.cells #[.int .i64 n, .int .i64 h, .slice q1 M1 e1, .slice q2 M2 e2] 28)).frozen? ⟨w.heap.size, 1, none⟩ = false := kp.f 1 (by simp)
      have y2 : (w2.alloc (Obj.cells #[.int .i64 n, .int .i64 h, .slice q1 M1 e1, .slice q2 M2 e2] 28)).cell? ⟨w.heap.size, 2, none⟩ = some (.slice A1 L1 d1) := kp.c 2 (by simp)
      have z2 : (w2.alloc (Obj.cells #[.int .i64 n, .int .i64 h, .slice q1 M1 e1, .slice q2 M2 e2] 28)).frozen? ⟨w.heap.size, 2, none⟩ = false := kp.f 2 (by simp)
      have y3 : (w2.alloc (Obj.cells #[.int .i64 n, .int .i64 h, .slice q1 M1 e1, .slice q2 M2 e2] 28)).cell? ⟨w.heap.size, 3, none⟩ = some (.slice A2 L2 d2) := kp.c 3 (by simp)
      have z3 : (w2.alloc (Obj.cells #[.int .i64 n, .int .i64 h, .slice q1 M1 e1, .slice q2 M2 e2] 28)).frozen? ⟨w.heap.size, 3, none⟩ = false := kp.f 3 (by simp)
      clear kp HS vo b VI RW HL1 HL2 hM1 hM2
      have HO := hide (unhide SX).ov
      have HLn := hide (unhide SX).lv
      have HSZ2 : Hid (w.heap.size + 1 + 1 ≤ (((((w2.alloc (Obj.cells #[.int .i64 n, .int .i64 h, .slice q1 M1 e1, .slice q2 M2 e2] 28)).setCell ⟨w.heap.size, 0, none⟩ (.int .i64 n)).setCell ⟨w.heap.size, 1, none⟩ (.int .i64 h)).setCell ⟨w.heap.size, 2, none⟩ (.slice q1 M1 e1)).setCell ⟨w.heap.size, 3, none⟩ (.slice q2 M2 e2)).heap.size) := hide (by have a := (unhide SX).lw; have c := (unhide SX).hw; have d := (unhide SX).ov.lies g rfl; omega)
      go_wp2_with (at_builtin; refine wpList_app_at rfl _ _ rfl (n := k) X (unhide HO) (unhide HLn) rfl (by first | rfl | simp) rfl (unhide HSZ2) hk2 (by omega) ?_; intro g9 c9 w9 o9 gr9 at9)
      have S9 := (unhide SX).pushed o9 gr9 at9
      refine ⟨⟨k + 1, q1, q2, M1, e1, M2, e2, g9, c9, wr.heap.size, w2.heap.size, rfl, by go_num, by omega, ?_⟩, by simp [intOf]; omega⟩
      rw [unhide EA, unhide HV1]
      exact S9
    · have hlt' : ¬ (k : Int) < (l3 : Int) := by omega
      have ek : k = l3 := by omega
      have EM : Hid (vsMany zss = k) := hide (by rw [unhide EMany, ek])
      clear hs ek EMany
      have u0 : wr.cell? ⟨w.heap.size, 0, none⟩ = some (.int .i64 n) := (unhide HS).p.c 0 (by simp)
      have r0 : wr.cell? ⟨w.heap.size + 1, 0, none⟩ = some (.int .i64 0) := (unhide HS).r.c 0 (by simp)
      have t0 : wr.frozen? ⟨w.heap.size + 1, 0, none⟩ = false := (unhide HS).r.f 0 (by simp)
      have u1 : wr.cell? ⟨w.heap.size, 1, none⟩ = some (.int .i64 h) := (unhide HS).p.c 1 (by simp)
      have r1 : wr.cell? ⟨w.heap.size + 1, 1, none⟩ = some (.int .i64 0) := (unhide HS).r.c 1 (by simp)
      have t1 : wr.frozen? ⟨w.heap.size + 1, 1, none⟩ = false := (unhide HS).r.f 1 (by simp)
      have u2 : wr.cell? ⟨w.heap.size, 2, none⟩ = some (.slice A1 L1 d1) := (unhide HS).p.c 2 (by simp)
      have r2 : wr.cell? ⟨w.heap.size + 1, 2, none⟩ = some (.slice none 0 0) := (unhide HS).r.c 2 (by simp)
      have t2 : wr.frozen? ⟨w.heap.size + 1, 2, none⟩ = false := (unhide HS).r.f 2 (by simp)
      have u3 : wr.cell? ⟨w.heap.size, 3, none⟩ = some (.slice A2 L2 d2) := (unhide HS).p.c 3 (by simp)
      have r3 : wr.cell? ⟨w.heap.size + 1, 3, none⟩ = some (.slice none 0 0) := (unhide HS).r.c 3 (by simp)
      have t3 : wr.frozen? ⟨w.heap.size + 1, 3, none⟩ = false := (unhide HS).r.f 3 (by simp)
      have VL := hide (unhide HS).vl
      have LW := hide (unhide HS).lw
      have OUT := hide (unhide HS).out
      have lgv := (unhide HS).ov.lies g rfl
      have B1 := hide (unhide HS).b1
      have B2 := hide (unhide HS).b2
      have LV := hide (unhide HS).lv
      have VO := hide ((unhide HS).vo.mono (base' := w.heap.size) (by have := unhide LW; omega))
      have OV := hide ((unhide HS).ov.mono (base' := w.heap.size) (by omega))
      have HB := hide (unhide HS).b
      have VO := hide ((unhide VO).set_other (S := w.heap.size + 1) (o := 0) (.int .i64 n) (fun e => by have := (unhide VL).1 _ e; have := unhide LW; omega) (fun e => by have := (unhide VL).2 _ e; have := unhide LW; omega))
      have OV := hide ((unhide OV).set_other (S := w.heap.size + 1) (o := 0) (.int .i64 n) (by simp [Value.ownBlock]; omega))
      have HB := hide ((unhide HB).setCell (p := ⟨w.heap.size + 1, 0, none⟩) (by simp) (.int .i64 n))
      have VO := hide ((unhide VO).set_other (S := w.heap.size + 1) (o := 1) (.int .i64 h) (fun e => by have := (unhide VL).1 _ e; have := unhide LW; omega) (fun e => by have := (unhide VL).2 _ e; have := unhide LW; omega))
      have OV := hide ((unhide OV).set_other (S := w.heap.size + 1) (o := 1) (.int .i64 h) (by simp [Value.ownBlock]; omega))
      have HB := hide ((unhide HB).setCell (p := ⟨w.heap.size + 1, 1, none⟩) (by simp) (.int .i64 h))
      have VO := hide ((unhide VO).set_other (S := w.heap.size + 1) (o := 2) (.slice A1 L1 d1) (fun e => by have := (unhide VL).1 _ e; have := unhide LW; omega) (fun e => by have := (unhide VL).2 _ e; have := unhide LW; omega))
      have OV := hide ((unhide OV).set_other (S := w.heap.size + 1) (o := 2) (.slice A1 L1 d1) (by simp [Value.ownBlock]; omega))
      have HB := hide ((unhide HB).setCell (p := ⟨w.heap.size + 1, 2, none⟩) (by simp) (.slice A1 L1 d1))
      have VO := hide ((unhide VO).set_other (S := w.heap.size + 1) (o := 3) (.slice A2 L2 d2) (fun e => by have := (unhide VL).1 _ e; have := unhide LW; omega) (fun e => by have := (unhide VL).2 _ e; have := unhide LW; omega))
      have OV := hide ((unhide OV).set_other (S := w.heap.size + 1) (o := 3) (.slice A2 L2 d2) (by simp [Value.ownBlock]; omega))
      have HB := hide ((unhide HB).setCell (p := ⟨w.heap.size + 1, 3, none⟩) (by simp) (.slice A2 L2 d2))
      clear HS lgv
      go_wp2_with fail
      refine bodyPost_ret (v := .tuple #[.agg #[.int .i64 n, .int .i64 h, .slice A1 L1 d1, .slice A2 L2 d2], .slice (some ⟨g, 0, none⟩) k c]) (by simp [results, Try.results14, go_sem, *]) rfl ?_
      refine ⟨A1, d1, A2, d2, g, c, ?_, ?_, ?_, ?_, unhide HB⟩
      · rw [unhide EM, unhide B1, unhide B2, unhide LV]
      · rw [unhide EM, unhide B1, unhide B2]; exact unhide VO
      · rw [unhide EM, unhide LV]; exact unhide OV
      · rw [unhide EM, unhide B1, unhide B2]; exact voApart_of (unhide VL) (unhide OUT)

end Go.Proofs.Ytidgkkldhnckead

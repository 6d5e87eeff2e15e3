/-
  What the model's Vote answers: as the plain functions. At lists of at most 1048576 that are not nil; nothing that was there is written.
-/
import Derived.Test.YtghgbhoncgnbcaqVsPure
import Derived.Test.YtghgbhoncgnbcaqBel
import Derived.Test.YtghgbhoncgnbcaqThen
namespace Go.Proofs.Ytghgbhoncgnbcaq
open Go.RowKit

set_option maxRecDepth 20000 in
set_option maxHeartbeats 3000000 in
theorem specVote_few (n h : Int) (p1 p2 : Addr) (a3 : Option Addr) (l1 c1 l2 c2 l3 c3 : Nat) (bs : List Bool) (os zs : List Int) (w : World) (hr : VoIn w (some p1) (some p2) l1 l2 bs os) (hz : Row w a3 l3 zs) (h1 : l1 ≤ 1048576) (h2 : l2 ≤ 1048576) (hfew : seenB n h bs os zs = true → (heardS bs zs).length ≤ 2) :
    Calls Try.prog 18 #[.agg #[.int .i64 n, .int .i64 h, .slice (some p1) l1 c1, .slice (some p2) l2 c2], .slice a3 l3 c3] w fun x w' => ∃ g1 d1 g2 d2 : Nat, x = .returned (.tuple #[.agg #[.int .i64 n, .int .i64 h, .slice (some ⟨g1, 0, none⟩) (votOut n h bs os zs).length d1, .slice (some ⟨g2, 0, none⟩) (votOdd n h bs os zs).length d2], .int .i64 (votX n h bs os zs), .int .i64 (votC n h bs os zs)]) ∧ VoOwn w' w.heap.size (some ⟨g1, 0, none⟩) (some ⟨g2, 0, none⟩) (votOut n h bs os zs).length d1 (votOdd n h bs os zs).length d2 (votOut n h bs os zs) (votOdd n h bs os zs) ∧ Below w.heap.size w w' := by
  obtain ⟨W, hW⟩ : ∃ W, W = (w.alloc (Obj.cells #[.int .i64 n, .int .i64 h, .slice (some p1) l1 c1, .slice (some p2) l2 c2] 28)).alloc (Obj.cells #[.int .i64 0, .int .i64 0, .slice none 0 0, .slice none 0 0] 28) := ⟨_, rfl⟩
  have KP : Hid (Blk W w.heap.size [.int .i64 n, .int .i64 h, .slice (some p1) l1 c1, .slice (some p2) l2 c2]) := hide (by rw [hW]; exact (Blk.new (w := w) [.int .i64 n, .int .i64 h, .slice (some p1) l1 c1, .slice (some p2) l2 c2] 28).alloc _)
  have KR : Hid (Blk W (w.heap.size + 1) [.int .i64 0, .int .i64 0, .slice none 0 0, .slice none 0 0]) := hide (by
    rw [hW]
    have := Blk.new (w := w.alloc (Obj.cells #[.int .i64 n, .int .i64 h, .slice (some p1) l1 c1, .slice (some p2) l2 c2] 28)) [.int .i64 0, .int .i64 0, .slice none 0 0, .slice none 0 0] 28
    simpa using this)
  have HB : Hid (Below w.heap.size w W) := hide (by rw [hW]; exact bel2 _ _)
  have hsz : w.heap.size + 1 + 1 ≤ W.heap.size := by rw [hW]; simp
  have R := hide (hr.below (unhide HB))
  have RZ := hide (hz.below (unhide HB))
  have Z1 := hide hr.r1.len_eq
  have Z2 := hide hr.r2.len_eq
  have Z3 := hide hz.len_eq
  have HFEW := hide hfew
  clear hfew
  have H1 := hide h1
  have H2 := hide h2
  have HW := hide hW
  clear hr hz hW h1 h2
  go_enter Try.func18, Try.ntmps18
  go_wp2_with fail
  rw [← unhide HW]
  clear HW
  refine (l8Copy_any n h p1 p2 l1 c1 l2 c2 bs os W (unhide R) (unhide H1) (unhide H2)).mono ?_
  rintro x v1 ⟨g1, d1, g2, d2, rfl, vo, b⟩
  have VL := hide vo.lies
  have VO := hide (vo.mono (base' := w.heap.size) (by omega))
  have HB := hide ((unhide HB).trans (b.mono (unhide HB).size))
  have R := hide ((unhide R).below b)
  have RZ := hide ((unhide RZ).below b)
  have KP := hide ((unhide KP).below b)
  have KR := hide ((unhide KR).below b)
  have sz1 := b.size
  clear vo b
  obtain ⟨V, hV⟩ : ∃ V, V = v1.alloc (Obj.cells #[.int .i64 n, .int .i64 h, .slice (some ⟨g1, 0, none⟩) l1 d1, .slice (some ⟨g2, 0, none⟩) l2 d2] 28) := ⟨_, rfl⟩
  obtain ⟨O, hO⟩ : ∃ O, v1.heap.size = O := ⟨_, rfl⟩
  have b : Below v1.heap.size v1 V := by rw [hV]; exact bel1 _
  have KO : Hid (Blk V O [.int .i64 n, .int .i64 h, .slice (some ⟨g1, 0, none⟩) l1 d1, .slice (some ⟨g2, 0, none⟩) l2 d2]) := hide (by rw [hV, ← hO]; exact Blk.new _ _)
  have HB := hide ((unhide HB).trans (b.mono (unhide HB).size))
  have R := hide ((unhide R).below b)
  have RZ := hide ((unhide RZ).below b)
  have KP := hide ((unhide KP).below b)
  have KR := hide ((unhide KR).below b)
  have VO := hide ((unhide VO).below b)
  have szV := b.size
  have m0 : V.cell? ⟨w.heap.size, 0, none⟩ = some (.int .i64 n) := (unhide KP).c 0 (by simp)
  have m1 : V.cell? ⟨w.heap.size, 1, none⟩ = some (.int .i64 h) := (unhide KP).c 1 (by simp)
  have m2 : V.cell? ⟨w.heap.size, 2, none⟩ = some (.slice (some p1) l1 c1) := (unhide KP).c 2 (by simp)
  have m3 : V.cell? ⟨w.heap.size, 3, none⟩ = some (.slice (some p2) l2 c2) := (unhide KP).c 3 (by simp)
  rw [hV] at m0 m1 m2 m3
  have HV := hide hV
  clear b hV
  go_wp2_with fail
  rw [← unhide HV]
  try rw [hO]
  have HO := hide hO
  have szO : W.heap.size ≤ O := by omega
  clear HV hO m0 m1 m2 m3
  cases q1 : seenB n h bs os zs with
  | false =>
    have EV := hide (vot_bad q1)
    refine (l8Seen_is n h _ _ _ _ _ _ _ _ _ bs os zs _ (unhide R) (unhide RZ) q1).mono ?_
    rintro x w2 ⟨rfl, b⟩
    have HB := hide ((unhide HB).trans (b.mono (unhide HB).size))
    have R := hide ((unhide R).below b)
    have RZ := hide ((unhide RZ).below b)
    have KP := hide ((unhide KP).below b)
    have KR := hide ((unhide KR).below b)
    have KO := hide ((unhide KO).below b)
    have VO := hide ((unhide VO).below b)
    clear b
    have u0 : w2.cell? ⟨O, 0, none⟩ = some (.int .i64 n) := (unhide KO).c 0 (by simp)
    have r0 : w2.cell? ⟨w.heap.size + 1, 0, none⟩ = some (.int .i64 0) := (unhide KR).c 0 (by simp)
    have t0 : w2.frozen? ⟨w.heap.size + 1, 0, none⟩ = false := (unhide KR).f 0 (by simp)
    have u1 : w2.cell? ⟨O, 1, none⟩ = some (.int .i64 h) := (unhide KO).c 1 (by simp)
    have r1 : w2.cell? ⟨w.heap.size + 1, 1, none⟩ = some (.int .i64 0) := (unhide KR).c 1 (by simp)
    have t1 : w2.frozen? ⟨w.heap.size + 1, 1, none⟩ = false := (unhide KR).f 1 (by simp)
    have u2 : w2.cell? ⟨O, 2, none⟩ = some (.slice (some ⟨g1, 0, none⟩) l1 d1) := (unhide KO).c 2 (by simp)
    have r2 : w2.cell? ⟨w.heap.size + 1, 2, none⟩ = some (.slice none 0 0) := (unhide KR).c 2 (by simp)
    have t2 : w2.frozen? ⟨w.heap.size + 1, 2, none⟩ = false := (unhide KR).f 2 (by simp)
    have u3 : w2.cell? ⟨O, 3, none⟩ = some (.slice (some ⟨g2, 0, none⟩) l2 d2) := (unhide KO).c 3 (by simp)
    have r3 : w2.cell? ⟨w.heap.size + 1, 3, none⟩ = some (.slice none 0 0) := (unhide KR).c 3 (by simp)
    have t3 : w2.frozen? ⟨w.heap.size + 1, 3, none⟩ = false := (unhide KR).f 3 (by simp)
    have VO := hide ((unhide VO).set_other (S := w.heap.size + 1) (o := 0) (.int .i64 n) (fun e => by have := (unhide VL).1 _ e; omega) (fun e => by have := (unhide VL).2 _ e; omega))
    have HB := hide ((unhide HB).setCell (p := ⟨w.heap.size + 1, 0, none⟩) (by simp) (.int .i64 n))
    have VO := hide ((unhide VO).set_other (S := w.heap.size + 1) (o := 1) (.int .i64 h) (fun e => by have := (unhide VL).1 _ e; omega) (fun e => by have := (unhide VL).2 _ e; omega))
    have HB := hide ((unhide HB).setCell (p := ⟨w.heap.size + 1, 1, none⟩) (by simp) (.int .i64 h))
    have VO := hide ((unhide VO).set_other (S := w.heap.size + 1) (o := 2) (.slice (some ⟨g1, 0, none⟩) l1 d1) (fun e => by have := (unhide VL).1 _ e; omega) (fun e => by have := (unhide VL).2 _ e; omega))
    have HB := hide ((unhide HB).setCell (p := ⟨w.heap.size + 1, 2, none⟩) (by simp) (.slice (some ⟨g1, 0, none⟩) l1 d1))
    have VO := hide ((unhide VO).set_other (S := w.heap.size + 1) (o := 3) (.slice (some ⟨g2, 0, none⟩) l2 d2) (fun e => by have := (unhide VL).1 _ e; omega) (fun e => by have := (unhide VL).2 _ e; omega))
    have HB := hide ((unhide HB).setCell (p := ⟨w.heap.size + 1, 3, none⟩) (by simp) (.slice (some ⟨g2, 0, none⟩) l2 d2))
    go_wp2_with fail
    refine bodyPost_ret (v := .tuple #[.agg #[.int .i64 n, .int .i64 h, .slice (some ⟨g1, 0, none⟩) l1 d1, .slice (some ⟨g2, 0, none⟩) l2 d2], .int .i64 0, .int .i64 0]) (by simp [results, Try.results18, go_sem, *]) rfl ?_
    obtain ⟨w1e, w2e, w3e, w4e⟩ := unhide EV
    rw [w1e, w2e, w3e, w4e]
    exact ⟨g1, d1, g2, d2, by rw [unhide Z1, unhide Z2], by rw [unhide Z1, unhide Z2]; exact unhide VO, unhide HB⟩
  | true =>
    obtain ⟨p1', p2', p3⟩ := seen_parts q1
    have vf := voFit p1'
    have e2 : l2 = l1 := by rw [← unhide Z1, ← unhide Z2]; exact vf.len
    have e3 : l3 = l1 := by rw [← unhide Z1, ← unhide Z3]; exact p2'
    subst e2
    subst e3
    have hL : 1 ≤ l3 ∧ l3 ≤ 5 := by have h1 := vf.b0; have h2 := vf.b1; rw [unhide Z1] at h1 h2; exact ⟨h1, h2⟩
    have HHA := hide (heardS_all (bs := bs) p3)
    have HP3 := hide p3
    have HVF := hide vf
    clear vf p1' p2' p3
    refine (l8Seen_is n h _ _ _ _ _ _ _ _ _ bs os zs _ (unhide R) (unhide RZ) q1).mono ?_
    rintro x w2 ⟨rfl, b⟩
    have HB := hide ((unhide HB).trans (b.mono (unhide HB).size))
    have R := hide ((unhide R).below b)
    have RZ := hide ((unhide RZ).below b)
    have KP := hide ((unhide KP).below b)
    have KR := hide ((unhide KR).below b)
    have KO := hide ((unhide KO).below b)
    have VO := hide ((unhide VO).below b)
    have sz2 := b.size
    clear b
    have m0 : w2.cell? ⟨w.heap.size, 0, none⟩ = some (.int .i64 n) := (unhide KP).c 0 (by simp)
    have m1 : w2.cell? ⟨w.heap.size, 1, none⟩ = some (.int .i64 h) := (unhide KP).c 1 (by simp)
    have m2 : w2.cell? ⟨w.heap.size, 2, none⟩ = some (.slice (some p1) l3 c1) := (unhide KP).c 2 (by simp)
    have m3 : w2.cell? ⟨w.heap.size, 3, none⟩ = some (.slice (some p2) l3 c2) := (unhide KP).c 3 (by simp)
    go_wp2_with fail
    clear m0 m1 m2 m3
    have hOlt := (unhide KO).lt
    refine (l8Heard_any n h _ _ _ l3 _ _ _ _ bs os zs _ (unhide R) (unhide RZ) hL.2).mono ?_
    rintro x w3 ⟨g, c, rfl, oh, b⟩
    have HB := hide ((unhide HB).trans (b.mono (unhide HB).size))
    have R := hide ((unhide R).below b)
    have RZ := hide ((unhide RZ).below b)
    have KP := hide ((unhide KP).below b)
    have KR := hide ((unhide KR).below b)
    have KO := hide ((unhide KO).below b)
    have VO := hide ((unhide VO).below b)
    have sz3 := b.size
    obtain ⟨H, hH⟩ : ∃ H, heardS bs zs = H := ⟨_, rfl⟩
    rw [hH] at oh HHA ⊢
    have HO1 := hide oh.row.open_
    have hgl := oh.lies g rfl
    have hl5 : H.length ≤ 5 := by rw [← hH]; have := heardS_len bs zs; have := unhide Z3; omega
    have HHH := hide hH
    clear oh b hH
    obtain ⟨m, hm⟩ : ∃ m, H.length = m := ⟨_, rfl⟩
    rw [hm] at HO1 hl5 ⊢
    have HM := hide hm
    clear hm
    rcases (show m = 0 ∨ m = 1 ∨ m = 2 ∨ 3 ≤ m by omega) with hj | hj | hj | hj
    · subst hj
      have EV : Hid (votOut n h bs os zs = bs ∧ votOdd n h bs os zs = os ∧ votX n h bs os zs = 0 ∧ votC n h bs os zs = 0) := hide (by
        have eC : valC H = 0 := by unfold valC; rw [unhide HM]; rfl
        have eX : valX H = 0 := by unfold valX; rw [unhide HM]; rfl
        have v := vot_few q1 (by rw [unhide HHH, eC]; rfl)
        rw [unhide HHH, eC, eX] at v
        exact v)
      have u0 : w3.cell? ⟨O, 0, none⟩ = some (.int .i64 n) := (unhide KO).c 0 (by simp)
      have r0 : w3.cell? ⟨w.heap.size + 1, 0, none⟩ = some (.int .i64 0) := (unhide KR).c 0 (by simp)
      have t0 : w3.frozen? ⟨w.heap.size + 1, 0, none⟩ = false := (unhide KR).f 0 (by simp)
      have u1 : w3.cell? ⟨O, 1, none⟩ = some (.int .i64 h) := (unhide KO).c 1 (by simp)
      have r1 : w3.cell? ⟨w.heap.size + 1, 1, none⟩ = some (.int .i64 0) := (unhide KR).c 1 (by simp)
      have t1 : w3.frozen? ⟨w.heap.size + 1, 1, none⟩ = false := (unhide KR).f 1 (by simp)
      have u2 : w3.cell? ⟨O, 2, none⟩ = some (.slice (some ⟨g1, 0, none⟩) l3 d1) := (unhide KO).c 2 (by simp)
      have r2 : w3.cell? ⟨w.heap.size + 1, 2, none⟩ = some (.slice none 0 0) := (unhide KR).c 2 (by simp)
      have t2 : w3.frozen? ⟨w.heap.size + 1, 2, none⟩ = false := (unhide KR).f 2 (by simp)
      have u3 : w3.cell? ⟨O, 3, none⟩ = some (.slice (some ⟨g2, 0, none⟩) l3 d2) := (unhide KO).c 3 (by simp)
      have r3 : w3.cell? ⟨w.heap.size + 1, 3, none⟩ = some (.slice none 0 0) := (unhide KR).c 3 (by simp)
      have t3 : w3.frozen? ⟨w.heap.size + 1, 3, none⟩ = false := (unhide KR).f 3 (by simp)
      have VO := hide ((unhide VO).set_other (S := w.heap.size + 1) (o := 0) (.int .i64 n) (fun e => by have := (unhide VL).1 _ e; omega) (fun e => by have := (unhide VL).2 _ e; omega))
      have HB := hide ((unhide HB).setCell (p := ⟨w.heap.size + 1, 0, none⟩) (by simp) (.int .i64 n))
      have VO := hide ((unhide VO).set_other (S := w.heap.size + 1) (o := 1) (.int .i64 h) (fun e => by have := (unhide VL).1 _ e; omega) (fun e => by have := (unhide VL).2 _ e; omega))
      have HB := hide ((unhide HB).setCell (p := ⟨w.heap.size + 1, 1, none⟩) (by simp) (.int .i64 h))
      have VO := hide ((unhide VO).set_other (S := w.heap.size + 1) (o := 2) (.slice (some ⟨g1, 0, none⟩) l3 d1) (fun e => by have := (unhide VL).1 _ e; omega) (fun e => by have := (unhide VL).2 _ e; omega))
      have HB := hide ((unhide HB).setCell (p := ⟨w.heap.size + 1, 2, none⟩) (by simp) (.slice (some ⟨g1, 0, none⟩) l3 d1))
      have VO := hide ((unhide VO).set_other (S := w.heap.size + 1) (o := 3) (.slice (some ⟨g2, 0, none⟩) l3 d2) (fun e => by have := (unhide VL).1 _ e; omega) (fun e => by have := (unhide VL).2 _ e; omega))
      have HB := hide ((unhide HB).setCell (p := ⟨w.heap.size + 1, 3, none⟩) (by simp) (.slice (some ⟨g2, 0, none⟩) l3 d2))
      go_wp2_with fail
      refine bodyPost_ret (v := .tuple #[.agg #[.int .i64 n, .int .i64 h, .slice (some ⟨g1, 0, none⟩) l3 d1, .slice (some ⟨g2, 0, none⟩) l3 d2], .int .i64 0, .int .i64 0]) (by simp [results, Try.results18, go_sem, *]) rfl ?_
      obtain ⟨w1e, w2e, w3e, w4e⟩ := unhide EV
      rw [w1e, w2e, w3e, w4e]
      exact ⟨g1, d1, g2, d2, by rw [unhide Z1, unhide Z2], by rw [unhide Z1, unhide Z2]; exact unhide VO, unhide HB⟩
    · subst hj
      rcases (unhide HO1) with ⟨h1, _⟩ | ⟨bb, off, e, _, hc⟩
      · omega
      cases e
      have y0 : w3.cell? ⟨g, 0, none⟩ = some (.int .i64 (nth H 0)) := hc 0 (by omega)
      have EV : Hid (votOut n h bs os zs = bs ∧ votOdd n h bs os zs = os ∧ votX n h bs os zs = nth H 0 ∧ votC n h bs os zs = 1) := hide (by
        have eC : valC H = 1 := by unfold valC; rw [unhide HM]; rfl
        have eX : valX H = nth H 0 := by unfold valX; rw [unhide HM]; simp; omega
        have v := vot_few q1 (by rw [unhide HHH, eC]; rfl)
        rw [unhide HHH, eC, eX] at v
        exact v)
      clear hc HO1
      have VO := hide ((unhide VO).below (bel0d 1))
      have HB := hide ((unhide HB).trans (bel0d' 1))
      have gO : g ≠ O := by omega
      have gR : g ≠ w.heap.size + 1 := by omega
      have gO2 : ¬ O = g := by omega
      have gR2 : ¬ w.heap.size + 1 = g := by omega
      have u0 : w3.cell? ⟨O, 0, none⟩ = some (.int .i64 n) := (unhide KO).c 0 (by simp)
      have r0 : w3.cell? ⟨w.heap.size + 1, 0, none⟩ = some (.int .i64 0) := (unhide KR).c 0 (by simp)
      have t0 : w3.frozen? ⟨w.heap.size + 1, 0, none⟩ = false := (unhide KR).f 0 (by simp)
      have u1 : w3.cell? ⟨O, 1, none⟩ = some (.int .i64 h) := (unhide KO).c 1 (by simp)
      have r1 : w3.cell? ⟨w.heap.size + 1, 1, none⟩ = some (.int .i64 0) := (unhide KR).c 1 (by simp)
      have t1 : w3.frozen? ⟨w.heap.size + 1, 1, none⟩ = false := (unhide KR).f 1 (by simp)
      have u2 : w3.cell? ⟨O, 2, none⟩ = some (.slice (some ⟨g1, 0, none⟩) l3 d1) := (unhide KO).c 2 (by simp)
      have r2 : w3.cell? ⟨w.heap.size + 1, 2, none⟩ = some (.slice none 0 0) := (unhide KR).c 2 (by simp)
      have t2 : w3.frozen? ⟨w.heap.size + 1, 2, none⟩ = false := (unhide KR).f 2 (by simp)
      have u3 : w3.cell? ⟨O, 3, none⟩ = some (.slice (some ⟨g2, 0, none⟩) l3 d2) := (unhide KO).c 3 (by simp)
      have r3 : w3.cell? ⟨w.heap.size + 1, 3, none⟩ = some (.slice none 0 0) := (unhide KR).c 3 (by simp)
      have t3 : w3.frozen? ⟨w.heap.size + 1, 3, none⟩ = false := (unhide KR).f 3 (by simp)
      have VO := hide ((unhide VO).set_other (S := w.heap.size + 1) (o := 0) (.int .i64 n) (fun e => by have := (unhide VL).1 _ e; omega) (fun e => by have := (unhide VL).2 _ e; omega))
      have HB := hide ((unhide HB).setCell (p := ⟨w.heap.size + 1, 0, none⟩) (by simp) (.int .i64 n))
      have VO := hide ((unhide VO).set_other (S := w.heap.size + 1) (o := 1) (.int .i64 h) (fun e => by have := (unhide VL).1 _ e; omega) (fun e => by have := (unhide VL).2 _ e; omega))
      have HB := hide ((unhide HB).setCell (p := ⟨w.heap.size + 1, 1, none⟩) (by simp) (.int .i64 h))
      have VO := hide ((unhide VO).set_other (S := w.heap.size + 1) (o := 2) (.slice (some ⟨g1, 0, none⟩) l3 d1) (fun e => by have := (unhide VL).1 _ e; omega) (fun e => by have := (unhide VL).2 _ e; omega))
      have HB := hide ((unhide HB).setCell (p := ⟨w.heap.size + 1, 2, none⟩) (by simp) (.slice (some ⟨g1, 0, none⟩) l3 d1))
      have VO := hide ((unhide VO).set_other (S := w.heap.size + 1) (o := 3) (.slice (some ⟨g2, 0, none⟩) l3 d2) (fun e => by have := (unhide VL).1 _ e; omega) (fun e => by have := (unhide VL).2 _ e; omega))
      have HB := hide ((unhide HB).setCell (p := ⟨w.heap.size + 1, 3, none⟩) (by simp) (.slice (some ⟨g2, 0, none⟩) l3 d2))
      go_wp2_with fail
      go_region
      all_goals
        go_wp2_with fail
        refine bodyPost_ret (v := .tuple #[.agg #[.int .i64 n, .int .i64 h, .slice (some ⟨g1, 0, none⟩) l3 d1, .slice (some ⟨g2, 0, none⟩) l3 d2], .int .i64 (nth H 0), .int .i64 1]) (by simp [results, Try.results18, go_sem, *]) rfl ?_
        obtain ⟨w1e, w2e, w3e, w4e⟩ := unhide EV
        rw [w1e, w2e, w3e, w4e]
        exact ⟨g1, d1, g2, d2, by rw [unhide Z1, unhide Z2], by rw [unhide Z1, unhide Z2]; exact unhide VO, unhide HB⟩
    · subst hj
      rcases (unhide HO1) with ⟨h1, _⟩ | ⟨bb, off, e, _, hc⟩
      · omega
      cases e
      have y0 : w3.cell? ⟨g, 0, none⟩ = some (.int .i64 (nth H 0)) := hc 0 (by omega)
      have y1 : w3.cell? ⟨g, 1, none⟩ = some (.int .i64 (nth H 1)) := hc 1 (by omega)
      have b0 := (unhide HHA) 0 (by rw [unhide HM]; omega)
      have b1 := (unhide HHA) 1 (by rw [unhide HM]; omega)
      have EV : Hid (votOut n h bs os zs = bs ∧ votOdd n h bs os zs = os ∧ votX n h bs os zs = (nth H 0 + nth H 1) / 2 ∧ votC n h bs os zs = 2) := hide (by
        have eC : valC H = 2 := by unfold valC; rw [unhide HM]; rfl
        have eX : valX H = (nth H 0 + nth H 1) / 2 := by unfold valX; rw [unhide HM]; rfl
        have v := vot_few q1 (by rw [unhide HHH, eC]; rfl)
        rw [unhide HHH, eC, eX] at v
        exact v)
      have hwd : IntKind.i64.wrap (nth H 0 + nth H 1) = nth H 0 + nth H 1 := by rw [IntKind.wrap_i64]; omega
      clear hc HO1
      have VO := hide ((unhide VO).below (bel0d 1))
      have HB := hide ((unhide HB).trans (bel0d' 1))
      have gO : g ≠ O := by omega
      have gR : g ≠ w.heap.size + 1 := by omega
      have gO2 : ¬ O = g := by omega
      have gR2 : ¬ w.heap.size + 1 = g := by omega
      have u0 : w3.cell? ⟨O, 0, none⟩ = some (.int .i64 n) := (unhide KO).c 0 (by simp)
      have r0 : w3.cell? ⟨w.heap.size + 1, 0, none⟩ = some (.int .i64 0) := (unhide KR).c 0 (by simp)
      have t0 : w3.frozen? ⟨w.heap.size + 1, 0, none⟩ = false := (unhide KR).f 0 (by simp)
      have u1 : w3.cell? ⟨O, 1, none⟩ = some (.int .i64 h) := (unhide KO).c 1 (by simp)
      have r1 : w3.cell? ⟨w.heap.size + 1, 1, none⟩ = some (.int .i64 0) := (unhide KR).c 1 (by simp)
      have t1 : w3.frozen? ⟨w.heap.size + 1, 1, none⟩ = false := (unhide KR).f 1 (by simp)
      have u2 : w3.cell? ⟨O, 2, none⟩ = some (.slice (some ⟨g1, 0, none⟩) l3 d1) := (unhide KO).c 2 (by simp)
      have r2 : w3.cell? ⟨w.heap.size + 1, 2, none⟩ = some (.slice none 0 0) := (unhide KR).c 2 (by simp)
      have t2 : w3.frozen? ⟨w.heap.size + 1, 2, none⟩ = false := (unhide KR).f 2 (by simp)
      have u3 : w3.cell? ⟨O, 3, none⟩ = some (.slice (some ⟨g2, 0, none⟩) l3 d2) := (unhide KO).c 3 (by simp)
      have r3 : w3.cell? ⟨w.heap.size + 1, 3, none⟩ = some (.slice none 0 0) := (unhide KR).c 3 (by simp)
      have t3 : w3.frozen? ⟨w.heap.size + 1, 3, none⟩ = false := (unhide KR).f 3 (by simp)
      have VO := hide ((unhide VO).set_other (S := w.heap.size + 1) (o := 0) (.int .i64 n) (fun e => by have := (unhide VL).1 _ e; omega) (fun e => by have := (unhide VL).2 _ e; omega))
      have HB := hide ((unhide HB).setCell (p := ⟨w.heap.size + 1, 0, none⟩) (by simp) (.int .i64 n))
      have VO := hide ((unhide VO).set_other (S := w.heap.size + 1) (o := 1) (.int .i64 h) (fun e => by have := (unhide VL).1 _ e; omega) (fun e => by have := (unhide VL).2 _ e; omega))
      have HB := hide ((unhide HB).setCell (p := ⟨w.heap.size + 1, 1, none⟩) (by simp) (.int .i64 h))
      have VO := hide ((unhide VO).set_other (S := w.heap.size + 1) (o := 2) (.slice (some ⟨g1, 0, none⟩) l3 d1) (fun e => by have := (unhide VL).1 _ e; omega) (fun e => by have := (unhide VL).2 _ e; omega))
      have HB := hide ((unhide HB).setCell (p := ⟨w.heap.size + 1, 2, none⟩) (by simp) (.slice (some ⟨g1, 0, none⟩) l3 d1))
      have VO := hide ((unhide VO).set_other (S := w.heap.size + 1) (o := 3) (.slice (some ⟨g2, 0, none⟩) l3 d2) (fun e => by have := (unhide VL).1 _ e; omega) (fun e => by have := (unhide VL).2 _ e; omega))
      have HB := hide ((unhide HB).setCell (p := ⟨w.heap.size + 1, 3, none⟩) (by simp) (.slice (some ⟨g2, 0, none⟩) l3 d2))
      go_wp2_with fail
      go_region_with (go_at_call 47; refine (down2_any _ _ (by omega)).mono ?_; rintro e w' ⟨rfl, hw⟩; subst w')
      all_goals
        go_wp2_with fail
        refine bodyPost_ret (v := .tuple #[.agg #[.int .i64 n, .int .i64 h, .slice (some ⟨g1, 0, none⟩) l3 d1, .slice (some ⟨g2, 0, none⟩) l3 d2], .int .i64 ((nth H 0 + nth H 1) / 2), .int .i64 2]) (by simp [results, Try.results18, go_sem, *]) rfl ?_
        obtain ⟨w1e, w2e, w3e, w4e⟩ := unhide EV
        rw [w1e, w2e, w3e, w4e]
        exact ⟨g1, d1, g2, d2, by rw [unhide Z1, unhide Z2], by rw [unhide Z1, unhide Z2]; exact unhide VO, unhide HB⟩
    · have e := unhide HM
      rw [← unhide HHH] at e
      have hf := (unhide HFEW) q1
      omega

end Go.Proofs.Ytghgbhoncgnbcaq

/-
  What the program's Take14 answers: the plain panel, each list in memory of its own. Nothing that was there is written.
-/
import Derived.Test.YtfehfocfoegbdaaBrdPan
import Derived.Test.YtfehfocfoegbdaaPnCopy
import Derived.Test.YtfehfocfoegbdaaMBrdRen
namespace Go.Proofs.Ytfehfocfoegbdaa
open Go.RowKit Go.Maps Go.WideMaps

set_option maxRecDepth 20000 in
set_option maxHeartbeats 4000000 in
theorem implTake14_any (ad : Option Addr) (len cap : Nat) (rs : List Wr) (a1 a2 a3 : Option Addr) (l1 c1 l2 c2 l3 c3 : Nat) (z1 z2 z3 : List ByteArray) (nm : ByteArray) (w : World) (hr : RowW w ad len rs) (hp : PnIn w a1 a2 a3 l1 l2 l3 z1 z2 z3) (h1 : l1 ≤ 1048576) (h2 : l2 ≤ 1048576) (h3 : l3 ≤ 1048576)
    (hf1 : ∀ i, i < l1 → (elAt z1 i).size ≤ 9223372036854775807) (hf2 : ∀ i, i < l2 → (elAt z2 i).size ≤ 9223372036854775807) (hf3 : ∀ i, i < l3 → (elAt z3 i).size ≤ 9223372036854775807) (hfn : nm.size ≤ 9223372036854775807) :
    Calls Try.prog 11 #[.slice ad len cap, .agg #[.slice a1 l1 c1, .slice a2 l2 c2, .slice a3 l3 c3], .string nm] w fun e w' => ∃ p1 q1 p2 q2 p3 q3, e = .returned (.tuple #[.agg #[.slice p1 z1.length q1, .slice p2 (tk2 rs z1 z2 z3 nm).length q2, .slice p3 (tk3 rs z1 z2 z3 nm).length q3], .bool (tkB rs z1 z2 z3 nm)]) ∧ PnOwn w' w.heap.size p1 p2 p3 z1.length q1 (tk2 rs z1 z2 z3 nm).length q2 (tk3 rs z1 z2 z3 nm).length q3 z1 (tk2 rs z1 z2 z3 nm) (tk3 rs z1 z2 z3 nm) ∧ Below w.heap.size w w' := by
  obtain ⟨qs, hv⟩ := hr.v
  have HV := hide hv
  have HP := hide hp
  have HF1 := hide hf1
  have HF2 := hide hf2
  have HF3 := hide hf3
  have HFN := hide hfn
  have HZ1 := hide hp.r1.len_eq
  have HZ2 := hide hp.r2.len_eq
  have HZ3 := hide hp.r3.len_eq
  clear hr hv hp hf1 hf2 hf3 hfn
  go_enter Try.func11, Try.ntmps11
  go_wp2_with fail
  obtain ⟨W0, hW0⟩ : ∃ W, W = w.alloc (Obj.cells #[.slice a1 l1 c1, .slice a2 l2 c2, .slice a3 l3 c3] 31) := ⟨_, rfl⟩
  obtain ⟨W1, hW1⟩ : ∃ W, W = W0.alloc (Obj.cells #[.slice none 0 0, .slice none 0 0, .slice none 0 0] 31) := ⟨_, rfl⟩
  have y0 : W0.heap.size = w.heap.size + 1 := by rw [hW0]; simp
  have PK : Hid (Blk W1 w.heap.size [.slice a1 l1 c1, .slice a2 l2 c2, .slice a3 l3 c3]) := hide (by rw [hW1, hW0]; exact (Blk.new _ _).alloc _)
  have RK : Hid (Blk W1 (w.heap.size + 1) [.slice none 0 0, .slice none 0 0, .slice none 0 0]) := hide (by rw [hW1, ← y0]; exact Blk.new _ _)
  have HB : Hid (Below w.heap.size w W1) := hide (by rw [hW1, hW0]; exact bel2 _ _)
  rw [← hW0, ← hW1]
  clear hW0 hW1 y0
  refine (bookOf_any _ _ _ rs qs _ ((unhide HV).below (unhide HB))).mono ?_
  rintro e w1 ⟨n, F, rfl, hm, hn30, hF, hrl, b1⟩
  have HM := hide hm
  have HRL := hide hrl
  have HFF := hide hF
  have PK := hide ((unhide PK).below b1)
  have RK := hide ((unhide RK).below b1)
  have HB := hide ((unhide HB).trans (b1.mono (unhide HB).size))
  have y0 : w1.cell? ⟨w.heap.size, 0, none⟩ = some (.slice a1 l1 c1) := (unhide PK).c 0 (by simp)
  have y1 : w1.cell? ⟨w.heap.size, 1, none⟩ = some (.slice a2 l2 c2) := (unhide PK).c 1 (by simp)
  have y2 : w1.cell? ⟨w.heap.size, 2, none⟩ = some (.slice a3 l3 c3) := (unhide PK).c 2 (by simp)
  clear hm hn30 hF hrl b1
  obtain ⟨BB, hBB⟩ : ∃ B, B = W1.heap.size := ⟨_, rfl⟩
  rw [← hBB] at HM ⊢
  clear hBB
  obtain ⟨cw, hcw⟩ : ∃ c, wrB rs = c := ⟨_, rfl⟩
  have HCW := hide hcw
  rw [hcw] at ⊢
  clear hcw
  go_wp2_with fail
  refine (boardOf_any _ _ F _ _ _ _ _ _ _ _ _ z1 z2 z3 _ (unhide HM) (unhide HRL) ((unhide HP).below (unhide HB)) (unhide HF1) (unhide HF2) (unhide HF3)).mono ?_
  rintro e w2 ⟨b1, b2, b3, n1, n2, n3, S1, S2, S3, rfl, hbd, hlo, hn1, hn2, hn3, he1, he2, he3, bw2⟩
  obtain ⟨V, hV⟩ : ∃ V, V = w2.alloc (Obj.cells #[.map (some b1), .map (some b2), .map (some b3)] 56) := ⟨_, rfl⟩
  have HBD : Hid (Brd V b1 b2 b3 n1 n2 n3 S1 S2 S3) := hide (by rw [hV]; exact hbd.below (bel1 _))
  have DK : Hid (Blk V w2.heap.size [.map (some b1), .map (some b2), .map (some b3)]) := hide (by rw [hV]; exact Blk.new _ _)
  have hlow := (unhide RK).lt
  have PK : Hid (Blk V w.heap.size [.slice a1 l1 c1, .slice a2 l2 c2, .slice a3 l3 c3]) := hide (by rw [hV]; exact ((unhide PK).below bw2).alloc _)
  have RK : Hid (Blk V (w.heap.size + 1) [.slice none 0 0, .slice none 0 0, .slice none 0 0]) := hide (by rw [hV]; exact ((unhide RK).below bw2).alloc _)
  have hsz := (unhide HB).size
  have HB : Hid (Below w.heap.size w V) := hide (by rw [hV]; exact ((unhide HB).trans (bw2.mono (unhide HB).size)).trans ((bel1 _).mono (Nat.le_trans (unhide HB).size bw2.size)))
  have HLO : Hid (w.heap.size + 1 < b1) := hide (by omega)
  have HHI : Hid (b3 < w2.heap.size) := hide (MapIs.lt hbd.s3)
  have HN := hide (And.intro hn1 (And.intro hn2 hn3))
  have HES := hide (And.intro he1 (And.intro he2 he3))
  have HV2 := hide hV
  obtain ⟨cp, hcp⟩ : ∃ c, (ntB F z1 && ntB F z2 && ntB F z3) = c := ⟨_, rfl⟩
  have HCP := hide hcp
  rw [hcp]
  clear hbd hlo hn1 hn2 hn3 he1 he2 he3 bw2 hV hcp y0 y1 y2 hsz hlow
  go_upto_region 3 with fail
  rw [← unhide HV2]
  have m0 : V.cell? ⟨w.heap.size, 0, none⟩ = some (.slice a1 l1 c1) := (unhide PK).c 0 (by simp)
  have m1 : V.cell? ⟨w.heap.size, 1, none⟩ = some (.slice a2 l2 c2) := (unhide PK).c 1 (by simp)
  have m2 : V.cell? ⟨w.heap.size, 2, none⟩ = some (.slice a3 l3 c3) := (unhide PK).c 2 (by simp)
  cases cw with
  | false =>
    have HE : Hid (tkB rs z1 z2 z3 nm = false) := hide (by unfold tkB; rw [unhide HCW]; rfl)
    have HT := hide (tk_no (unhide HE))
    go_wp2_with (fail)
    refine (copied_any _ _ _ _ _ _ _ _ _ z1 z2 z3 _ ((unhide HP).below (unhide HB)) h1 h2 h3).mono ?_
    rintro e w8 ⟨g1, q1, g2, q2, g3, q3, rfl, o8, b8⟩
    have RK8 := (unhide RK).below b8
    have x0 : w8.cell? ⟨w.heap.size + 1, 0, none⟩ = some (.slice none 0 0) := RK8.c 0 (by simp)
    have x1 : w8.cell? ⟨w.heap.size + 1, 1, none⟩ = some (.slice none 0 0) := RK8.c 1 (by simp)
    have x2 : w8.cell? ⟨w.heap.size + 1, 2, none⟩ = some (.slice none 0 0) := RK8.c 2 (by simp)
    have f0 := RK8.f 0 (by simp)
    have f1 := RK8.f 1 (by simp)
    have f2 := RK8.f 2 (by simp)
    have RKS := hide (((RK8.set 0 (by simp) (.slice (some ⟨g1, 0, none⟩) l1 q1)).set 1 (by simp) (.slice (some ⟨g2, 0, none⟩) l2 q2)).set 2 (by simp) (.slice (some ⟨g3, 0, none⟩) l3 q3))
    have ne : ∀ {v : Value} {L : List ByteArray}, OwnE 1 stC w8 V.heap.size 9 v L → v.ownBlock ≠ some (w.heap.size + 1) := fun {v L} h e => by
      have := (h.lies _ e).1
      have := (unhide RK).lt
      omega
    have HPO := hide (((((o8.set_other (S := w.heap.size + 1) (o := 0) (.slice (some ⟨g1, 0, none⟩) l1 q1) (ne o8.o1) (ne o8.o2) (ne o8.o3)).set_other (S := w.heap.size + 1) (o := 1) (.slice (some ⟨g2, 0, none⟩) l2 q2) (ne o8.o1) (ne o8.o2) (ne o8.o3)).set_other (S := w.heap.size + 1) (o := 2) (.slice (some ⟨g3, 0, none⟩) l3 q3) (ne o8.o1) (ne o8.o2) (ne o8.o3))).mono (unhide HB).size)
    have HBF := hide (((((unhide HB).trans (b8.mono (unhide HB).size)).setCell (p := ⟨w.heap.size + 1, 0, none⟩) (by simp) (.slice (some ⟨g1, 0, none⟩) l1 q1)).setCell (p := ⟨w.heap.size + 1, 1, none⟩) (by simp) (.slice (some ⟨g2, 0, none⟩) l2 q2)).setCell (p := ⟨w.heap.size + 1, 2, none⟩) (by simp) (.slice (some ⟨g3, 0, none⟩) l3 q3))
    clear o8 b8 RK8 ne
    go_wp2_with fail
    rw [(unhide HT).1, (unhide HT).2, unhide HE, unhide HZ1, unhide HZ2, unhide HZ3]
    exact bodyPost_ret (results_cellB (vs := [.slice (some ⟨g1, 0, none⟩) l1 q1, .slice (some ⟨g2, 0, none⟩) l2 q2, .slice (some ⟨g3, 0, none⟩) l3 q3]) rfl Try.isAgg31 Try.sizeOf31 rfl (unhide RKS) rfl) rfl ⟨_, _, _, _, _, _, rfl, unhide HPO, unhide HBF⟩
  | true =>
  cases cp with
  | false =>
    have HPN : Hid (pnlB rs z1 z2 z3 = false) := hide (by
      have h := unhide HCP
      rw [unhide HFF (unhide HCW), ntB_nm, ntB_nm, ntB_nm] at h
      exact h)
    have HE : Hid (tkB rs z1 z2 z3 nm = false) := hide (by unfold tkB; rw [unhide HPN, Bool.and_false]; rfl)
    have HT := hide (tk_no (unhide HE))
    go_wp2_with (fail)
    refine (copied_any _ _ _ _ _ _ _ _ _ z1 z2 z3 _ ((unhide HP).below (unhide HB)) h1 h2 h3).mono ?_
    rintro e w8 ⟨g1, q1, g2, q2, g3, q3, rfl, o8, b8⟩
    have RK8 := (unhide RK).below b8
    have x0 : w8.cell? ⟨w.heap.size + 1, 0, none⟩ = some (.slice none 0 0) := RK8.c 0 (by simp)
    have x1 : w8.cell? ⟨w.heap.size + 1, 1, none⟩ = some (.slice none 0 0) := RK8.c 1 (by simp)
    have x2 : w8.cell? ⟨w.heap.size + 1, 2, none⟩ = some (.slice none 0 0) := RK8.c 2 (by simp)
    have f0 := RK8.f 0 (by simp)
    have f1 := RK8.f 1 (by simp)
    have f2 := RK8.f 2 (by simp)
    have RKS := hide (((RK8.set 0 (by simp) (.slice (some ⟨g1, 0, none⟩) l1 q1)).set 1 (by simp) (.slice (some ⟨g2, 0, none⟩) l2 q2)).set 2 (by simp) (.slice (some ⟨g3, 0, none⟩) l3 q3))
    have ne : ∀ {v : Value} {L : List ByteArray}, OwnE 1 stC w8 V.heap.size 9 v L → v.ownBlock ≠ some (w.heap.size + 1) := fun {v L} h e => by
      have := (h.lies _ e).1
      have := (unhide RK).lt
      omega
    have HPO := hide (((((o8.set_other (S := w.heap.size + 1) (o := 0) (.slice (some ⟨g1, 0, none⟩) l1 q1) (ne o8.o1) (ne o8.o2) (ne o8.o3)).set_other (S := w.heap.size + 1) (o := 1) (.slice (some ⟨g2, 0, none⟩) l2 q2) (ne o8.o1) (ne o8.o2) (ne o8.o3)).set_other (S := w.heap.size + 1) (o := 2) (.slice (some ⟨g3, 0, none⟩) l3 q3) (ne o8.o1) (ne o8.o2) (ne o8.o3))).mono (unhide HB).size)
    have HBF := hide (((((unhide HB).trans (b8.mono (unhide HB).size)).setCell (p := ⟨w.heap.size + 1, 0, none⟩) (by simp) (.slice (some ⟨g1, 0, none⟩) l1 q1)).setCell (p := ⟨w.heap.size + 1, 1, none⟩) (by simp) (.slice (some ⟨g2, 0, none⟩) l2 q2)).setCell (p := ⟨w.heap.size + 1, 2, none⟩) (by simp) (.slice (some ⟨g3, 0, none⟩) l3 q3))
    clear o8 b8 RK8 ne
    go_wp2_with fail
    rw [(unhide HT).1, (unhide HT).2, unhide HE, unhide HZ1, unhide HZ2, unhide HZ3]
    exact bodyPost_ret (results_cellB (vs := [.slice (some ⟨g1, 0, none⟩) l1 q1, .slice (some ⟨g2, 0, none⟩) l2 q2, .slice (some ⟨g3, 0, none⟩) l3 q3]) rfl Try.isAgg31 Try.sizeOf31 rfl (unhide RKS) rfl) rfl ⟨_, _, _, _, _, _, rfl, unhide HPO, unhide HBF⟩
  | true =>
  have hFe := unhide HFF (unhide HCW)
  have HNM : Hid (nmB rs z1 = true ∧ nmB rs z2 = true ∧ nmB rs z3 = true) := hide (by
    have h := unhide HCP
    rw [hFe, ntB_nm, ntB_nm, ntB_nm] at h
    simp only [Bool.and_eq_true] at h
    exact ⟨h.1.1, h.1.2, h.2⟩)
  have hS1 : S1 = hasB z1 := (unhide HES).1 (by rw [hFe, ntB_nm]; exact (unhide HNM).1)
  have hS2 : S2 = hasB z2 := (unhide HES).2.1 (by rw [hFe, ntB_nm]; exact (unhide HNM).2.1)
  have hS3 : S3 = hasB z3 := (unhide HES).2.2 (by rw [hFe, ntB_nm]; exact (unhide HNM).2.2)
  subst hS1
  subst hS2
  subst hS3
  have HN30 : Hid (n1 ≤ 30 ∧ n2 ≤ 30 ∧ n3 ≤ 30) := hide (by
    have h30 := (wrB_facts (unhide HCW)).2
    have q1 := nm_len (unhide HCW) (unhide HNM).1
    have q2 := nm_len (unhide HCW) (unhide HNM).2.1
    have q3 := nm_len (unhide HCW) (unhide HNM).2.2
    have e1 := unhide HZ1
    have e2 := unhide HZ2
    have e3 := unhide HZ3
    have hn := unhide HN
    exact ⟨by omega, by omega, by omega⟩)
  clear hFe
  have k0 : V.cell? ⟨w2.heap.size, 0, none⟩ = some (.map (some b1)) := (unhide DK).c 0 (by simp)
  have k1 : V.cell? ⟨w2.heap.size, 1, none⟩ = some (.map (some b2)) := (unhide DK).c 1 (by simp)
  have k2 : V.cell? ⟨w2.heap.size, 2, none⟩ = some (.map (some b3)) := (unhide DK).c 2 (by simp)
  have HTK := hide (take_any b1 b2 b3 n1 n2 n3 (hasB z1) (hasB z2) (hasB z3) nm V (unhide HBD) (unhide HFN) (by have := (unhide HN30).2.2; omega))
  obtain ⟨ct, hct⟩ : ∃ c, (hasB z2 nm || hasB z1 nm) = c := ⟨_, rfl⟩
  have HCT := hide hct
  rw [hct] at HTK
  clear hct
  cases ct with
  | false =>
    have HE : Hid (tkB rs z1 z2 z3 nm = false) := hide (by unfold tkB; rw [unhide HCT, Bool.and_false])
    have HT := hide (tk_no (unhide HE))
    go_wp2_with (go_at_call 27; refine (unhide HTK).mono ?_; rintro e w5 ⟨rfl, _, on5⟩; have ON5 := hide on5; have PK5 := (unhide PK).only on5 (.inl (by have := unhide HLO; omega)); have m0 : w5.cell? ⟨w.heap.size, 0, none⟩ = some (.slice a1 l1 c1) := PK5.c 0 (by simp); have m1 : w5.cell? ⟨w.heap.size, 1, none⟩ = some (.slice a2 l2 c2) := PK5.c 1 (by simp); have m2 : w5.cell? ⟨w.heap.size, 2, none⟩ = some (.slice a3 l3 c3) := PK5.c 2 (by simp); clear on5 PK5)
    have RK5 := hide ((unhide RK).only (unhide ON5) (.inl (unhide HLO)))
    have HB5 := hide (below_only (unhide HB) (unhide ON5) (by have := unhide HLO; omega) (Nat.le_refl _))
    refine (copied_any _ _ _ _ _ _ _ _ _ z1 z2 z3 _ ((unhide HP).below (unhide HB5)) h1 h2 h3).mono ?_
    rintro e w8 ⟨g1, q1, g2, q2, g3, q3, rfl, o8, b8⟩
    have RK8 := (unhide RK5).below b8
    have x0 : w8.cell? ⟨w.heap.size + 1, 0, none⟩ = some (.slice none 0 0) := RK8.c 0 (by simp)
    have x1 : w8.cell? ⟨w.heap.size + 1, 1, none⟩ = some (.slice none 0 0) := RK8.c 1 (by simp)
    have x2 : w8.cell? ⟨w.heap.size + 1, 2, none⟩ = some (.slice none 0 0) := RK8.c 2 (by simp)
    have f0 := RK8.f 0 (by simp)
    have f1 := RK8.f 1 (by simp)
    have f2 := RK8.f 2 (by simp)
    have RKS := hide (((RK8.set 0 (by simp) (.slice (some ⟨g1, 0, none⟩) l1 q1)).set 1 (by simp) (.slice (some ⟨g2, 0, none⟩) l2 q2)).set 2 (by simp) (.slice (some ⟨g3, 0, none⟩) l3 q3))
    have ne : ∀ {v : Value} {L : List ByteArray}, OwnE 1 stC w8 w5.heap.size 9 v L → v.ownBlock ≠ some (w.heap.size + 1) := fun {v L} h e => by
      have := (h.lies _ e).1
      have := (unhide RK5).lt
      omega
    have HPO := hide (((((o8.set_other (S := w.heap.size + 1) (o := 0) (.slice (some ⟨g1, 0, none⟩) l1 q1) (ne o8.o1) (ne o8.o2) (ne o8.o3)).set_other (S := w.heap.size + 1) (o := 1) (.slice (some ⟨g2, 0, none⟩) l2 q2) (ne o8.o1) (ne o8.o2) (ne o8.o3)).set_other (S := w.heap.size + 1) (o := 2) (.slice (some ⟨g3, 0, none⟩) l3 q3) (ne o8.o1) (ne o8.o2) (ne o8.o3))).mono (unhide HB5).size)
    have HBF := hide (((((unhide HB5).trans (b8.mono (unhide HB5).size)).setCell (p := ⟨w.heap.size + 1, 0, none⟩) (by simp) (.slice (some ⟨g1, 0, none⟩) l1 q1)).setCell (p := ⟨w.heap.size + 1, 1, none⟩) (by simp) (.slice (some ⟨g2, 0, none⟩) l2 q2)).setCell (p := ⟨w.heap.size + 1, 2, none⟩) (by simp) (.slice (some ⟨g3, 0, none⟩) l3 q3))
    clear o8 b8 RK8 ne
    go_wp2_with fail
    rw [(unhide HT).1, (unhide HT).2, unhide HE, unhide HZ1, unhide HZ2, unhide HZ3]
    exact bodyPost_ret (results_cellB (vs := [.slice (some ⟨g1, 0, none⟩) l1 q1, .slice (some ⟨g2, 0, none⟩) l2 q2, .slice (some ⟨g3, 0, none⟩) l3 q3]) rfl Try.isAgg31 Try.sizeOf31 rfl (unhide RKS) rfl) rfl ⟨_, _, _, _, _, _, rfl, unhide HPO, unhide HBF⟩
  | true =>
    have HE : Hid (tkB rs z1 z2 z3 nm = true) := hide (by
      unfold tkB pnlB
      rw [unhide HCW, (unhide HNM).1, (unhide HNM).2.1, (unhide HNM).2.2, unhide HCT]; rfl)
    have HT := hide (tk_yes (unhide HE))
    go_wp2_with (go_at_call 27; refine (unhide HTK).mono ?_; rintro e w5 ⟨rfl, bd5, on5⟩; have BD5 := hide bd5; have ON5 := hide on5; have DK5 := (unhide DK).only on5 (.inr (unhide HHI)); have k0 : w5.cell? ⟨w2.heap.size, 0, none⟩ = some (.map (some b1)) := DK5.c 0 (by simp); have k1 : w5.cell? ⟨w2.heap.size, 1, none⟩ = some (.map (some b2)) := DK5.c 1 (by simp); have k2 : w5.cell? ⟨w2.heap.size, 2, none⟩ = some (.map (some b3)) := DK5.c 2 (by simp); clear bd5 on5 DK5)
    have RK5 := (unhide RK).only (unhide ON5) (.inl (unhide HLO))
    have HB5 := hide (below_only (unhide HB) (unhide ON5) (by have := unhide HLO; omega) (Nat.le_refl _))
    have nn := unhide HN30
    refine (panel_any b1 b2 b3 n1 n2 (n3 + 1) _ _ _ z1 (outS z2 nm) (tkN z1 z3 nm) _ (unhide BD5) (by omega) (by omega) (by omega) (nm_rise (unhide HNM).1) (outS_rise nm (nm_rise (unhide HNM).2.1)) (tkN_rise (nm_rise (unhide HNM).2.2)) (fun s => hasB_mem.symm) (fun s => outS_mem) (fun s => tkN_mem)).mono ?_
    rintro e w8 ⟨p1, q1, p2, q2, p3, q3, rfl, o8, b8⟩
    have RK8 := RK5.below b8
    have x0 : w8.cell? ⟨w.heap.size + 1, 0, none⟩ = some (.slice none 0 0) := RK8.c 0 (by simp)
    have x1 : w8.cell? ⟨w.heap.size + 1, 1, none⟩ = some (.slice none 0 0) := RK8.c 1 (by simp)
    have x2 : w8.cell? ⟨w.heap.size + 1, 2, none⟩ = some (.slice none 0 0) := RK8.c 2 (by simp)
    have f0 := RK8.f 0 (by simp)
    have f1 := RK8.f 1 (by simp)
    have f2 := RK8.f 2 (by simp)
    have RKS := hide (((RK8.set 0 (by simp) (.slice p1 z1.length q1)).set 1 (by simp) (.slice p2 (outS z2 nm).length q2)).set 2 (by simp) (.slice p3 (tkN z1 z3 nm).length q3))
    have ne : ∀ {v : Value} {L : List ByteArray}, OwnE 1 stC w8 w5.heap.size 9 v L → v.ownBlock ≠ some (w.heap.size + 1) := fun {v L} h e => by
      have := (h.lies _ e).1
      have := RK5.lt
      omega
    have HPO := hide (((((o8.set_other (S := w.heap.size + 1) (o := 0) (.slice p1 z1.length q1) (ne o8.o1) (ne o8.o2) (ne o8.o3)).set_other (S := w.heap.size + 1) (o := 1) (.slice p2 (outS z2 nm).length q2) (ne o8.o1) (ne o8.o2) (ne o8.o3)).set_other (S := w.heap.size + 1) (o := 2) (.slice p3 (tkN z1 z3 nm).length q3) (ne o8.o1) (ne o8.o2) (ne o8.o3))).mono (unhide HB5).size)
    have HBF := hide (((((unhide HB5).trans (b8.mono (unhide HB5).size)).setCell (p := ⟨w.heap.size + 1, 0, none⟩) (by simp) (.slice p1 z1.length q1)).setCell (p := ⟨w.heap.size + 1, 1, none⟩) (by simp) (.slice p2 (outS z2 nm).length q2)).setCell (p := ⟨w.heap.size + 1, 2, none⟩) (by simp) (.slice p3 (tkN z1 z3 nm).length q3))
    clear o8 b8 RK8 RK5 ne
    go_wp2_with fail
    rw [(unhide HT).1, (unhide HT).2, unhide HE]
    exact bodyPost_ret (results_cellB (vs := [.slice p1 z1.length q1, .slice p2 (outS z2 nm).length q2, .slice p3 (tkN z1 z3 nm).length q3]) rfl Try.isAgg31 Try.sizeOf31 rfl (unhide RKS) rfl) rfl ⟨_, _, _, _, _, _, rfl, unhide HPO, unhide HBF⟩

end Go.Proofs.Ytfehfocfoegbdaa

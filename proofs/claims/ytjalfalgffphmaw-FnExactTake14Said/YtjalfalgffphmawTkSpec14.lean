/-
  What Take14 of the model answers: the plain panel, each list in memory of its own. Nothing that was there is written.
-/
import Derived.Test.YtjalfalgffphmawTkPure14
import Derived.Test.YtjalfalgffphmawPnCopy
import Derived.Test.YtjalfalgffphmawKpMore
import Derived.Deep.RegionLaw
namespace Go.Proofs.Ytjalfalgffphmaw
open Go.RowKit

theorem l14Has_is {c : Bool} (ad : Option Addr) (len cap : Nat) (ts : List ByteArray) (s : ByteArray) (w : World) (hr : RowE 1 stC w ad len ts) (hl : len ≤ 1048576) (hc : hasB ts s = c) :
    Calls Try.prog 30 #[.slice ad len cap, .string s] w fun e w' => e = .returned (.bool c) ∧ w' = w := by subst hc; exact l14Has_any ad len cap ts s w hr hl
theorem l14Panel_is {c : Bool} (ad : Option Addr) (len cap : Nat) (rs : List Wr) (a1 a2 a3 : Option Addr) (l1 c1 l2 c2 l3 c3 : Nat) (z1 z2 z3 : List ByteArray) (w : World) (hr : RowW w ad len rs) (hl : len ≤ 1048576) (hp : PnIn w a1 a2 a3 l1 l2 l3 z1 z2 z3) (h1 : l1 ≤ 1048576) (h2 : l2 ≤ 1048576) (h3 : l3 ≤ 1048576) (hc : pnlB rs z1 z2 z3 = c) :
    Calls Try.prog 29 #[.slice ad len cap, .agg #[.slice a1 l1 c1, .slice a2 l2 c2, .slice a3 l3 c3]] w fun e w' => e = .returned (.bool c) ∧ Below w.heap.size w w' := by subst hc; exact l14Panel_any ad len cap rs a1 a2 a3 l1 c1 l2 c2 l3 c3 z1 z2 z3 w hr hl hp h1 h2 h3
set_option maxRecDepth 20000 in
set_option maxHeartbeats 8000000 in
theorem specTake14_any (ad : Option Addr) (len cap : Nat) (rs : List Wr) (a1 a2 a3 : Option Addr) (l1 c1 l2 c2 l3 c3 : Nat) (z1 z2 z3 : List ByteArray) (nm : ByteArray) (w : World) (hr : RowW w ad len rs) (hl : len ≤ 1048576) (hp : PnIn w a1 a2 a3 l1 l2 l3 z1 z2 z3) (h1 : l1 ≤ 1048576) (h2 : l2 ≤ 1048576) (h3 : l3 ≤ 1048576) :
    Calls Try.prog 8 #[.slice ad len cap, .agg #[.slice a1 l1 c1, .slice a2 l2 c2, .slice a3 l3 c3], .string nm] w fun e w' => ∃ p1 q1 p2 q2 p3 q3, e = .returned (.tuple #[.agg #[.slice p1 z1.length q1, .slice p2 (tk2 rs z1 z2 z3 nm).length q2, .slice p3 (tk3 rs z1 z2 z3 nm).length q3], .bool (tkB rs z1 z2 z3 nm)]) ∧ PnOwn w' w.heap.size p1 p2 p3 z1.length q1 (tk2 rs z1 z2 z3 nm).length q2 (tk3 rs z1 z2 z3 nm).length q3 z1 (tk2 rs z1 z2 z3 nm) (tk3 rs z1 z2 z3 nm) ∧ Below w.heap.size w w' := by
  have HR := hide hr
  have HP := hide hp
  have HZ1 := hide hp.r1.len_eq
  have HZ2 := hide hp.r2.len_eq
  have HZ3 := hide hp.r3.len_eq
  have HO2 := hide hp.r2.open1
  clear hr hp
  go_enter Try.func8, Try.ntmps8
  go_upto_region 1 with fail
  obtain ⟨W0, hW0⟩ : ∃ W, W = w.alloc (Obj.cells #[.slice a1 l1 c1, .slice a2 l2 c2, .slice a3 l3 c3] 28) := ⟨_, rfl⟩
  obtain ⟨W1, hW1⟩ : ∃ W, W = W0.alloc (Obj.cells #[.slice none 0 0, .slice none 0 0, .slice none 0 0] 28) := ⟨_, rfl⟩
  have y0 : W0.heap.size = w.heap.size + 1 := by rw [hW0]; simp
  have PK : Hid (Blk W1 w.heap.size [.slice a1 l1 c1, .slice a2 l2 c2, .slice a3 l3 c3]) := hide (by rw [hW1, hW0]; exact (Blk.new _ _).alloc _)
  have RK : Hid (Blk W1 (w.heap.size + 1) [.slice none 0 0, .slice none 0 0, .slice none 0 0]) := hide (by rw [hW1, ← y0]; exact Blk.new _ _)
  have HB : Hid (Below w.heap.size w W1) := hide (by rw [hW1, hW0]; exact bel2 _ _)
  rw [← hW0, ← hW1]
  clear hW0 hW1 y0
  have y0 : W1.cell? ⟨w.heap.size, 0, none⟩ = some (.slice a1 l1 c1) := (unhide PK).c 0 (by simp)
  have y1 : W1.cell? ⟨w.heap.size, 1, none⟩ = some (.slice a2 l2 c2) := (unhide PK).c 1 (by simp)
  have y2 : W1.cell? ⟨w.heap.size, 2, none⟩ = some (.slice a3 l3 c3) := (unhide PK).c 2 (by simp)
  go_wp2_with fail
  refine (l14Copy_any _ _ _ _ _ _ _ _ _ z1 z2 z3 _ ((unhide HP).below (unhide HB)) h1 h2 h3).mono ?_
  rintro e w1 ⟨g1, q1, g2, q2, g3, q3, rfl, o1, b1⟩
  have HK := hide (kp_panel (T := 28) o1 b1)
  clear y0 y1 y2 o1 b1
  go_wp2_with fail
  obtain ⟨W2, hW2⟩ : ∃ W, W = w1.alloc (Obj.cells #[.slice (some ⟨g1, 0, none⟩) l1 q1, .slice (some ⟨g2, 0, none⟩) l2 q2, .slice (some ⟨g3, 0, none⟩) l3 q3] 28) := ⟨_, rfl⟩
  obtain ⟨O, hO⟩ : ∃ O, w1.heap.size = O := ⟨_, rfl⟩
  rw [← hW2] at HK ⊢
  rw [hO] at HK ⊢
  clear hW2 hO
  have HBW := hide ((unhide HB).trans ((unhide HK).bel.mono (unhide HB).size))
  cases cw : wrB rs with
  | false =>
    have HE : Hid (tkB rs z1 z2 z3 nm = false) := hide (by unfold tkB; rw [cw]; rfl)
    have HTN := hide (tk_no (unhide HE))
    refine (specRulesOk_is _ _ _ rs _ ((unhide HR).below (unhide HBW)) hl cw).mono ?_
    rintro e w3 ⟨rfl, b⟩
    have HK := hide ((unhide HK).below b)
    have HBW := hide ((unhide HBW).trans (b.mono (unhide HBW).size))
    have m0 : w3.cell? ⟨w.heap.size, 0, none⟩ = some (.slice a1 l1 c1) := ((unhide PK).below (unhide HK).bel).c 0 (by simp)
    have m1 : w3.cell? ⟨w.heap.size, 1, none⟩ = some (.slice a2 l2 c2) := ((unhide PK).below (unhide HK).bel).c 1 (by simp)
    have m2 : w3.cell? ⟨w.heap.size, 2, none⟩ = some (.slice a3 l3 c3) := ((unhide PK).below (unhide HK).bel).c 2 (by simp)
    clear b
    clear m0 m1 m2
    have RK8 := (unhide RK).below (unhide HK).bel
    have c0 : w3.cell? ⟨O, 0, none⟩ = some (.slice (some ⟨g1, 0, none⟩) l1 q1) := (unhide HK).blk.c 0 (by simp)
    have c1 : w3.cell? ⟨O, 1, none⟩ = some (.slice (some ⟨g2, 0, none⟩) l2 q2) := (unhide HK).blk.c 1 (by simp)
    have c2 : w3.cell? ⟨O, 2, none⟩ = some (.slice (some ⟨g3, 0, none⟩) l3 q3) := (unhide HK).blk.c 2 (by simp)
    have x0 : w3.cell? ⟨w.heap.size + 1, 0, none⟩ = some (.slice none 0 0) := RK8.c 0 (by simp)
    have x1 : w3.cell? ⟨w.heap.size + 1, 1, none⟩ = some (.slice none 0 0) := RK8.c 1 (by simp)
    have x2 : w3.cell? ⟨w.heap.size + 1, 2, none⟩ = some (.slice none 0 0) := RK8.c 2 (by simp)
    have f0 := RK8.f 0 (by simp)
    have f1 := RK8.f 1 (by simp)
    have f2 := RK8.f 2 (by simp)
    have RKS := hide (((RK8.set 0 (by simp) (.slice (some ⟨g1, 0, none⟩) l1 q1)).set 1 (by simp) (.slice (some ⟨g2, 0, none⟩) l2 q2)).set 2 (by simp) (.slice (some ⟨g3, 0, none⟩) l3 q3))
    have o8 := (unhide HK).three
    have ne : ∀ {v : Value} {L : List ByteArray}, OwnE 1 stC w3 W1.heap.size 9 v L → v.ownBlock ≠ some (w.heap.size + 1) := fun {v L} h e => by
      have := (h.lies _ e).1
      have := (unhide RK).lt
      omega
    have HPO := hide (((((o8.set_other (S := w.heap.size + 1) (o := 0) (.slice (some ⟨g1, 0, none⟩) l1 q1) (ne o8.o1) (ne o8.o2) (ne o8.o3)).set_other (S := w.heap.size + 1) (o := 1) (.slice (some ⟨g2, 0, none⟩) l2 q2) (ne o8.o1) (ne o8.o2) (ne o8.o3)).set_other (S := w.heap.size + 1) (o := 2) (.slice (some ⟨g3, 0, none⟩) l3 q3) (ne o8.o1) (ne o8.o2) (ne o8.o3))).mono (unhide HB).size)
    have HBF := hide (((((unhide HB).trans ((unhide HK).bel.mono (unhide HB).size)).setCell (p := ⟨w.heap.size + 1, 0, none⟩) (by simp) (.slice (some ⟨g1, 0, none⟩) l1 q1)).setCell (p := ⟨w.heap.size + 1, 1, none⟩) (by simp) (.slice (some ⟨g2, 0, none⟩) l2 q2)).setCell (p := ⟨w.heap.size + 1, 2, none⟩) (by simp) (.slice (some ⟨g3, 0, none⟩) l3 q3))
    clear o8 RK8 ne
    go_wp2_with fail
    rw [(unhide HTN).1, (unhide HTN).2, unhide HE, unhide HZ1, unhide HZ2, unhide HZ3]
    exact bodyPost_ret (results_cellB (vs := [.slice (some ⟨g1, 0, none⟩) l1 q1, .slice (some ⟨g2, 0, none⟩) l2 q2, .slice (some ⟨g3, 0, none⟩) l3 q3]) rfl Try.isAgg28 Try.sizeOf28 rfl (unhide RKS) rfl) rfl ⟨_, _, _, _, _, _, rfl, unhide HPO, unhide HBF⟩
  | true =>
  refine (specRulesOk_is _ _ _ rs _ ((unhide HR).below (unhide HBW)) hl cw).mono ?_
  rintro e w3 ⟨rfl, b⟩
  have HK := hide ((unhide HK).below b)
  have HBW := hide ((unhide HBW).trans (b.mono (unhide HBW).size))
  have m0 : w3.cell? ⟨w.heap.size, 0, none⟩ = some (.slice a1 l1 c1) := ((unhide PK).below (unhide HK).bel).c 0 (by simp)
  have m1 : w3.cell? ⟨w.heap.size, 1, none⟩ = some (.slice a2 l2 c2) := ((unhide PK).below (unhide HK).bel).c 1 (by simp)
  have m2 : w3.cell? ⟨w.heap.size, 2, none⟩ = some (.slice a3 l3 c3) := ((unhide PK).below (unhide HK).bel).c 2 (by simp)
  clear b
  go_wp2_with fail
  cases cp : pnlB rs z1 z2 z3 with
  | false =>
    have HE : Hid (tkB rs z1 z2 z3 nm = false) := hide (by unfold tkB; rw [cp, Bool.and_false]; rfl)
    have HTN := hide (tk_no (unhide HE))
    refine (l14Panel_is _ _ _ rs _ _ _ _ _ _ _ _ _ z1 z2 z3 _ ((unhide HR).below (unhide HBW)) hl ((unhide HP).below (unhide HBW)) h1 h2 h3 cp).mono ?_
    rintro e w4 ⟨rfl, b⟩
    have HK := hide ((unhide HK).below b)
    clear b m0 m1 m2
    have RK8 := (unhide RK).below (unhide HK).bel
    have c0 : w4.cell? ⟨O, 0, none⟩ = some (.slice (some ⟨g1, 0, none⟩) l1 q1) := (unhide HK).blk.c 0 (by simp)
    have c1 : w4.cell? ⟨O, 1, none⟩ = some (.slice (some ⟨g2, 0, none⟩) l2 q2) := (unhide HK).blk.c 1 (by simp)
    have c2 : w4.cell? ⟨O, 2, none⟩ = some (.slice (some ⟨g3, 0, none⟩) l3 q3) := (unhide HK).blk.c 2 (by simp)
    have x0 : w4.cell? ⟨w.heap.size + 1, 0, none⟩ = some (.slice none 0 0) := RK8.c 0 (by simp)
    have x1 : w4.cell? ⟨w.heap.size + 1, 1, none⟩ = some (.slice none 0 0) := RK8.c 1 (by simp)
    have x2 : w4.cell? ⟨w.heap.size + 1, 2, none⟩ = some (.slice none 0 0) := RK8.c 2 (by simp)
    have f0 := RK8.f 0 (by simp)
    have f1 := RK8.f 1 (by simp)
    have f2 := RK8.f 2 (by simp)
    have RKS := hide (((RK8.set 0 (by simp) (.slice (some ⟨g1, 0, none⟩) l1 q1)).set 1 (by simp) (.slice (some ⟨g2, 0, none⟩) l2 q2)).set 2 (by simp) (.slice (some ⟨g3, 0, none⟩) l3 q3))
    have o8 := (unhide HK).three
    have ne : ∀ {v : Value} {L : List ByteArray}, OwnE 1 stC w4 W1.heap.size 9 v L → v.ownBlock ≠ some (w.heap.size + 1) := fun {v L} h e => by
      have := (h.lies _ e).1
      have := (unhide RK).lt
      omega
    have HPO := hide (((((o8.set_other (S := w.heap.size + 1) (o := 0) (.slice (some ⟨g1, 0, none⟩) l1 q1) (ne o8.o1) (ne o8.o2) (ne o8.o3)).set_other (S := w.heap.size + 1) (o := 1) (.slice (some ⟨g2, 0, none⟩) l2 q2) (ne o8.o1) (ne o8.o2) (ne o8.o3)).set_other (S := w.heap.size + 1) (o := 2) (.slice (some ⟨g3, 0, none⟩) l3 q3) (ne o8.o1) (ne o8.o2) (ne o8.o3))).mono (unhide HB).size)
    have HBF := hide (((((unhide HB).trans ((unhide HK).bel.mono (unhide HB).size)).setCell (p := ⟨w.heap.size + 1, 0, none⟩) (by simp) (.slice (some ⟨g1, 0, none⟩) l1 q1)).setCell (p := ⟨w.heap.size + 1, 1, none⟩) (by simp) (.slice (some ⟨g2, 0, none⟩) l2 q2)).setCell (p := ⟨w.heap.size + 1, 2, none⟩) (by simp) (.slice (some ⟨g3, 0, none⟩) l3 q3))
    clear o8 RK8 ne
    go_wp2_with fail
    rw [(unhide HTN).1, (unhide HTN).2, unhide HE, unhide HZ1, unhide HZ2, unhide HZ3]
    exact bodyPost_ret (results_cellB (vs := [.slice (some ⟨g1, 0, none⟩) l1 q1, .slice (some ⟨g2, 0, none⟩) l2 q2, .slice (some ⟨g3, 0, none⟩) l3 q3]) rfl Try.isAgg28 Try.sizeOf28 rfl (unhide RKS) rfl) rfl ⟨_, _, _, _, _, _, rfl, unhide HPO, unhide HBF⟩
  | true =>
  refine (l14Panel_is _ _ _ rs _ _ _ _ _ _ _ _ _ z1 z2 z3 _ ((unhide HR).below (unhide HBW)) hl ((unhide HP).below (unhide HBW)) h1 h2 h3 cp).mono ?_
  rintro e w4 ⟨rfl, b⟩
  have HK := hide ((unhide HK).below b)
  have HBW := hide ((unhide HBW).trans (b.mono (unhide HBW).size))
  clear b m0 m1 m2
  have HNM : Hid (nmB rs z1 = true ∧ nmB rs z2 = true ∧ nmB rs z3 = true) := hide (by
    have h := cp
    unfold pnlB at h
    simp only [Bool.and_eq_true] at h
    exact ⟨h.1.1, h.1.2, h.2⟩)
  have HCW := hide cw
  have HL30 : Hid (l2 ≤ 30 ∧ l3 ≤ 30) := hide (by
    have h30 := (wrB_facts (unhide HCW)).2
    have e2 := nm_len (unhide HCW) (unhide HNM).2.1
    have e3 := nm_len (unhide HCW) (unhide HNM).2.2
    have e4 := unhide HZ2
    have e5 := unhide HZ3
    exact ⟨by omega, by omega⟩)
  have m0 : w4.cell? ⟨w.heap.size, 0, none⟩ = some (.slice a1 l1 c1) := ((unhide PK).below (unhide HK).bel).c 0 (by simp)
  have m1 : w4.cell? ⟨w.heap.size, 1, none⟩ = some (.slice a2 l2 c2) := ((unhide PK).below (unhide HK).bel).c 1 (by simp)
  have R1 := hide ((unhide HP).r1.below (unhide HBW))
  have R2 := hide ((unhide HP).r2.below (unhide HBW))
  have HCP := hide cp
  clear cw cp
  cases g1n : hasB z1 nm with
  | false =>
    have HCA := hide (l14Has_is a1 l1 c1 z1 nm w4 (unhide R1) h1 g1n)
    cases g2n : hasB z2 nm with
    | false =>
      have HE : Hid (tkB rs z1 z2 z3 nm = false) := hide (by unfold tkB; rw [g1n, g2n]; simp)
      have HTN := hide (tk_no (unhide HE))
      have HCB := hide (l14Has_is a2 l2 c2 z2 nm w4 (unhide R2) h2 g2n)
      clear g1n g2n
      go_wp2_with fail
      refine (unhide HCA).mono ?_
      rintro e w' ⟨rfl, hw⟩
      subst w'
      go_wp2_with fail
      refine (unhide HCB).mono ?_
      rintro e w' ⟨rfl, hw⟩
      subst w'
      have RK8 := (unhide RK).below (unhide HK).bel
      have c0 : w4.cell? ⟨O, 0, none⟩ = some (.slice (some ⟨g1, 0, none⟩) l1 q1) := (unhide HK).blk.c 0 (by simp)
      have c1 : w4.cell? ⟨O, 1, none⟩ = some (.slice (some ⟨g2, 0, none⟩) l2 q2) := (unhide HK).blk.c 1 (by simp)
      have c2 : w4.cell? ⟨O, 2, none⟩ = some (.slice (some ⟨g3, 0, none⟩) l3 q3) := (unhide HK).blk.c 2 (by simp)
      have x0 : w4.cell? ⟨w.heap.size + 1, 0, none⟩ = some (.slice none 0 0) := RK8.c 0 (by simp)
      have x1 : w4.cell? ⟨w.heap.size + 1, 1, none⟩ = some (.slice none 0 0) := RK8.c 1 (by simp)
      have x2 : w4.cell? ⟨w.heap.size + 1, 2, none⟩ = some (.slice none 0 0) := RK8.c 2 (by simp)
      have f0 := RK8.f 0 (by simp)
      have f1 := RK8.f 1 (by simp)
      have f2 := RK8.f 2 (by simp)
      have RKS := hide (((RK8.set 0 (by simp) (.slice (some ⟨g1, 0, none⟩) l1 q1)).set 1 (by simp) (.slice (some ⟨g2, 0, none⟩) l2 q2)).set 2 (by simp) (.slice (some ⟨g3, 0, none⟩) l3 q3))
      have o8 := (unhide HK).three
      have ne : ∀ {v : Value} {L : List ByteArray}, OwnE 1 stC w4 W1.heap.size 9 v L → v.ownBlock ≠ some (w.heap.size + 1) := fun {v L} h e => by
        have := (h.lies _ e).1
        have := (unhide RK).lt
        omega
      have HPO := hide (((((o8.set_other (S := w.heap.size + 1) (o := 0) (.slice (some ⟨g1, 0, none⟩) l1 q1) (ne o8.o1) (ne o8.o2) (ne o8.o3)).set_other (S := w.heap.size + 1) (o := 1) (.slice (some ⟨g2, 0, none⟩) l2 q2) (ne o8.o1) (ne o8.o2) (ne o8.o3)).set_other (S := w.heap.size + 1) (o := 2) (.slice (some ⟨g3, 0, none⟩) l3 q3) (ne o8.o1) (ne o8.o2) (ne o8.o3))).mono (unhide HB).size)
      have HBF := hide (((((unhide HB).trans ((unhide HK).bel.mono (unhide HB).size)).setCell (p := ⟨w.heap.size + 1, 0, none⟩) (by simp) (.slice (some ⟨g1, 0, none⟩) l1 q1)).setCell (p := ⟨w.heap.size + 1, 1, none⟩) (by simp) (.slice (some ⟨g2, 0, none⟩) l2 q2)).setCell (p := ⟨w.heap.size + 1, 2, none⟩) (by simp) (.slice (some ⟨g3, 0, none⟩) l3 q3))
      clear o8 RK8 ne
      go_wp2_with fail
      rw [(unhide HTN).1, (unhide HTN).2, unhide HE, unhide HZ1, unhide HZ2, unhide HZ3]
      exact bodyPost_ret (results_cellB (vs := [.slice (some ⟨g1, 0, none⟩) l1 q1, .slice (some ⟨g2, 0, none⟩) l2 q2, .slice (some ⟨g3, 0, none⟩) l3 q3]) rfl Try.isAgg28 Try.sizeOf28 rfl (unhide RKS) rfl) rfl ⟨_, _, _, _, _, _, rfl, unhide HPO, unhide HBF⟩
    | true =>
      have HE : Hid (tkB rs z1 z2 z3 nm = true) := hide (by unfold tkB; rw [unhide HCW, unhide HCP, g2n]; rfl)
      have HTY := hide (tk_yes (unhide HE))
      have H3N : Hid (tkN z1 z3 nm = z3) := hide (by unfold tkN; rw [g1n]; rfl)
      have HCB := hide (l14Has_is a2 l2 c2 z2 nm w4 (unhide R2) h2 g2n)
      have HG1 := hide g1n
      have fO := (unhide HK).blk.f 1 (by simp)
      have cO : w4.cell? ⟨O, 1, none⟩ = some (.slice (some ⟨g2, 0, none⟩) l2 q2) := (unhide HK).blk.c 1 (by simp)
      clear g1n g2n
      go_upto_region 4 with (first | (go_at_call_of 30 (Value.slice a1 l1 c1); refine (unhide HCA).mono ?_; rintro e w' ⟨rfl, hw⟩; subst w') | (go_at_call_of 30 (Value.slice a2 l2 c2); refine (unhide HCB).mono ?_; rintro e w' ⟨rfl, hw⟩; subst w'))
      have KJ : Hid (Kp W1 (w4.setCell ⟨O, 1, none⟩ (.slice none 0 0)) O [.slice (some ⟨g1, 0, none⟩) l1 q1, .slice none 0 0, .slice (some ⟨g3, 0, none⟩) l3 q3] [(.slice none 0 0, []), (.slice (some ⟨g1, 0, none⟩) l1 q1, z1), (.slice (some ⟨g3, 0, none⟩) l3 q3, z3)]) := hide ((((unhide HK).put 1 (by simp) (.slice none 0 0)).sub (.cons_cons _ (.cons _ (.cons_cons _ .slnil)))).new (ownE_nil _ _ _) (by simp [Value.ownBlock]) (fun p hp g hg => by simp [Value.ownBlock] at hg))
      clear HK m0 m1 HCA R1 R2 HCB
      have HLL : Hid (∀ wr, Below W1.heap.size W1 wr → Below w.heap.size w wr) := hide (fun wr b => (unhide HB).trans (b.mono (unhide HB).size))
      go_wp2_with fail
      go_loopw [9] (fun s9 wr => ∃ (i n2 : Nat) (a2' : Option Addr) (cp2 : Nat), i ≤ l2 ∧ n2 ≤ i ∧ s9 = .int .i64 (i : Int) ∧ Hid (Kp W1 wr O [.slice (some ⟨g1, 0, none⟩) l1 q1, .slice a2' n2 cp2, .slice (some ⟨g3, 0, none⟩) l3 q3] [(.slice a2' n2 cp2, outS (z2.take i) nm), (.slice (some ⟨g1, 0, none⟩) l1 q1, z1), (.slice (some ⟨g3, 0, none⟩) l3 q3, z3)])) (fun s9 _ => l2 - (intOf s9).toNat)
      case atStart => exact ⟨0, 0, none, 0, Nat.zero_le _, Nat.le_refl _, rfl, KJ⟩
      case round =>
        clear KJ
        obtain ⟨i, n2, a2', cp2, hi, hn2, rfl, HK⟩ := hrel
        have u1 : wr.cell? ⟨w.heap.size, 1, none⟩ = some (.slice a2 l2 c2) := ((unhide PK).below (unhide HK).bel).c 1 (by simp)
        have hl30 := (unhide HL30).1
        by_cases hlt : i < l2
        · rcases (unhide HO2) with ⟨h0, _⟩ | ⟨b3, off3, rfl, _, hc3⟩
          · omega
          have HBW := hide ((unhide HLL) _ (unhide HK).bel)
          have m0 : wr.cell? ⟨b3, off3 + i, none⟩ = some (.string (elAt z2 i)) := ((unhide HBW).cell (block_lt_of_cell (hc3 i hlt))).trans (hc3 i hlt)
          have k0 : (0 : Int) ≤ (i : Int) := by omega
          have k1 : (i : Int) < (l2 : Int) := by omega
          have HS : Hid (outS (z2.take (i + 1)) nm = if sEq (elAt z2 i) nm = true then outS (z2.take i) nm else outS (z2.take i) nm ++ [elAt z2 i]) := hide (outS_take (by rw [unhide HZ2]; exact hlt))
          obtain ⟨d, hd⟩ : ∃ d, elAt z2 i = d := ⟨_, rfl⟩
          rw [hd] at m0 HS
          clear hd hc3
          cases g : (d.toList == nm.toList) with
          | true =>
            rw [if_pos (show sEq d nm = true from g)] at HS
            go_wp2_with fail
            go_roundw
            case rel => exact ⟨i + 1, n2, a2', cp2, by omega, by omega, by go_num, by rw [unhide HS]; exact HK⟩
            case measure => simp [intOf]; omega
          | false =>
            rw [if_neg (show ¬ sEq d nm = true by unfold sEq; rw [g]; simp)] at HS
            go_wp2_with fail
            have HN2 : Hid ((outS (z2.take i) nm).length = n2) := hide (by obtain ⟨_, _, e, _⟩ := ((unhide HK).own _ (List.mem_cons_self ..)).1.slice; simp only [Value.slice.injEq] at e; omega)
            have o2 : wr.cell? ⟨O, 1, none⟩ = some (.slice a2' n2 cp2) := (unhide HK).blk.c 1 (by simp)
            have o2a : (wr.alloc (Obj.cells #[.string d] 9)).cell? ⟨O, 1, none⟩ = some (.slice a2' n2 cp2) := ((unhide HK).below (bel1 (Obj.cells #[.string d] 9))).blk.c 1 (by simp)
            have u2a : (wr.alloc (Obj.cells #[.string d] 9)).cell? ⟨w.heap.size, 1, none⟩ = some (.slice (some ⟨b3, off3, none⟩) l2 c2) := ((unhide PK).below ((unhide HK).below (bel1 (Obj.cells #[.string d] 9))).bel).c 1 (by simp)
            go_region_law (first
              | (refine step_app_elG (K := 1) (cells := stC) rfl (.tmp 54) (.tmp 60) 23 9 rfl Try.underlying23 info_txt rfl (by decide) (by decide) d [.string d] rfl (fun q hq => by match q, hq with | 0, _ => rfl) (fun u hu => by simp at hu; rcases hu with rfl; rfl) ((unhide HK).own _ (List.mem_cons_self ..)).1 (unhide HN2) (by simp [Act.eval]) rfl (by simp [Act.eval]) (unhide HK).bel.size (by omega) ?_; intro g9 c9 w9 o9 gr9 ha9; have K9 := hide ((unhide HK).app o9 gr9 ha9); have d2 := (unhide K9).blk.c 1 (by simp); have y2 := (unhide K9).blk.f 1 (by simp); simp only [List.getElem_cons_zero, List.getElem_cons_succ] at d2)
              | (refine step_app_elD (K := 1) (cells := stC) rfl (.tmp 54) (.tmp 60) 23 9 rfl Try.underlying23 info_txt rfl (by decide) (by decide) d [.string d] rfl (fun q hq => by match q, hq with | 0, _ => rfl) (fun u hu => by simp at hu; rcases hu with rfl; rfl) ((unhide HK).own _ (List.mem_cons_self ..)).1 (unhide HN2) (by simp [Act.eval]) rfl (by simp [Act.eval]) (unhide HK).bel.size (by omega) ?_; intro g9 c9 w9 o9 gr9 ha9; have K9 := hide ((unhide HK).app o9 gr9 ha9); have d2 := (unhide K9).blk.c 1 (by simp); have y2 := (unhide K9).blk.f 1 (by simp); simp only [List.getElem_cons_zero, List.getElem_cons_succ] at d2))
            all_goals
              go_wp2_with fail
              go_roundw
              case rel =>
                first
                  | exact ⟨i + 1, n2 + 1, some ⟨g9, 0, none⟩, c9, by omega, by omega, by go_num, by rw [unhide HS]; exact hide ((unhide K9).put 1 (by simp) _)⟩
                  | exact ⟨i + 1, n2 + 1, some ⟨g9, 0, none⟩, c9, by omega, by omega, by go_num, by rw [unhide HS]; exact hide (((unhide K9).put 1 (by simp) _).below (bel0d 1))⟩
                  | exact ⟨i + 1, n2 + 1, some ⟨g9, 0, none⟩, c9, by omega, by omega, by go_num, by rw [unhide HS]; exact hide (((unhide K9).below (bel0d 1)).put 1 (by simp) _)⟩
              case measure => simp [intOf]; omega
        · have k1 : ¬ (i : Int) < (l2 : Int) := by omega
          have hie : i = l2 := by omega
          have HTK : Hid (outS (z2.take i) nm = outS z2 nm) := hide (by rw [hie, ← unhide HZ2, List.take_length])
          have HK := hide (by have := unhide HK; rw [unhide HTK] at this; exact this : Kp W1 wr O [.slice (some ⟨g1, 0, none⟩) l1 q1, .slice a2' n2 cp2, .slice (some ⟨g3, 0, none⟩) l3 q3] [(.slice a2' n2 cp2, outS z2 nm), (.slice (some ⟨g1, 0, none⟩) l1 q1, z1), (.slice (some ⟨g3, 0, none⟩) l3 q3, z3)])
          have HN2 : Hid ((outS z2 nm).length = n2) := hide (by obtain ⟨_, _, e, _⟩ := ((unhide HK).own _ (List.mem_cons_self ..)).1.slice; simp only [Value.slice.injEq] at e; omega)
          have HI := hide hie
          have HBW := hide ((unhide HLL) _ (unhide HK).bel)
          have R1 := hide ((unhide HP).r1.below (unhide HBW))
          have R3 := hide ((unhide HP).r3.below (unhide HBW))
          have u0 : wr.cell? ⟨w.heap.size, 0, none⟩ = some (.slice a1 l1 c1) := ((unhide PK).below (unhide HK).bel).c 0 (by simp)
          have u2 : wr.cell? ⟨w.heap.size, 2, none⟩ = some (.slice a3 l3 c3) := ((unhide PK).below (unhide HK).bel).c 2 (by simp)
          clear hie hlt hi hn2
          go_upto_region 16 with (go_at_call 30; refine (l14Has_is _ _ _ z1 nm _ (unhide R1) h1 (unhide HG1)).mono ?_; rintro e w' ⟨rfl, hw⟩; subst w')
          have HK := hide ((unhide HK).perm (.swap _ _ _))
          have RK8 := (unhide RK).below (unhide HK).bel
          have c0 : wr.cell? ⟨O, 0, none⟩ = some (.slice (some ⟨g1, 0, none⟩) l1 q1) := (unhide HK).blk.c 0 (by simp)
          have c1 : wr.cell? ⟨O, 1, none⟩ = some (.slice a2' n2 cp2) := (unhide HK).blk.c 1 (by simp)
          have c2 : wr.cell? ⟨O, 2, none⟩ = some (.slice (some ⟨g3, 0, none⟩) l3 q3) := (unhide HK).blk.c 2 (by simp)
          have x0 : wr.cell? ⟨w.heap.size + 1, 0, none⟩ = some (.slice none 0 0) := RK8.c 0 (by simp)
          have x1 : wr.cell? ⟨w.heap.size + 1, 1, none⟩ = some (.slice none 0 0) := RK8.c 1 (by simp)
          have x2 : wr.cell? ⟨w.heap.size + 1, 2, none⟩ = some (.slice none 0 0) := RK8.c 2 (by simp)
          have f0 := RK8.f 0 (by simp)
          have f1 := RK8.f 1 (by simp)
          have f2 := RK8.f 2 (by simp)
          have RKS := hide (((RK8.set 0 (by simp) (.slice (some ⟨g1, 0, none⟩) l1 q1)).set 1 (by simp) (.slice a2' n2 cp2)).set 2 (by simp) (.slice (some ⟨g3, 0, none⟩) l3 q3))
          have o8 := (unhide HK).three
          have ne : ∀ {v : Value} {L : List ByteArray}, OwnE 1 stC wr W1.heap.size 9 v L → v.ownBlock ≠ some (w.heap.size + 1) := fun {v L} h e => by
            have := (h.lies _ e).1
            have := (unhide RK).lt
            omega
          have HPO := hide (((((o8.set_other (S := w.heap.size + 1) (o := 0) (.slice (some ⟨g1, 0, none⟩) l1 q1) (ne o8.o1) (ne o8.o2) (ne o8.o3)).set_other (S := w.heap.size + 1) (o := 1) (.slice a2' n2 cp2) (ne o8.o1) (ne o8.o2) (ne o8.o3)).set_other (S := w.heap.size + 1) (o := 2) (.slice (some ⟨g3, 0, none⟩) l3 q3) (ne o8.o1) (ne o8.o2) (ne o8.o3))).mono (unhide HB).size)
          have HBF := hide (((((unhide HB).trans ((unhide HK).bel.mono (unhide HB).size)).setCell (p := ⟨w.heap.size + 1, 0, none⟩) (by simp) (.slice (some ⟨g1, 0, none⟩) l1 q1)).setCell (p := ⟨w.heap.size + 1, 1, none⟩) (by simp) (.slice a2' n2 cp2)).setCell (p := ⟨w.heap.size + 1, 2, none⟩) (by simp) (.slice (some ⟨g3, 0, none⟩) l3 q3))
          clear o8 RK8 ne
          go_wp2_with fail
          rw [(unhide HTY).1, (unhide HTY).2, unhide H3N, unhide HE, unhide HZ1, unhide HZ3, unhide HN2]
          exact bodyPost_ret (results_cellB (vs := [.slice (some ⟨g1, 0, none⟩) l1 q1, .slice a2' n2 cp2, .slice (some ⟨g3, 0, none⟩) l3 q3]) rfl Try.isAgg28 Try.sizeOf28 rfl (unhide RKS) rfl) rfl ⟨_, _, _, _, _, _, rfl, unhide HPO, unhide HBF⟩
  | true =>
    have HE : Hid (tkB rs z1 z2 z3 nm = true) := hide (by unfold tkB; rw [unhide HCW, unhide HCP, g1n]; simp)
    have HTY := hide (tk_yes (unhide HE))
    have HCA := hide (l14Has_is a1 l1 c1 z1 nm w4 (unhide R1) h1 g1n)
    have HG1 := hide g1n
    have fO := (unhide HK).blk.f 1 (by simp)
    have cO : w4.cell? ⟨O, 1, none⟩ = some (.slice (some ⟨g2, 0, none⟩) l2 q2) := (unhide HK).blk.c 1 (by simp)
    clear g1n
    go_upto_region 4 with (go_at_call 30; refine (unhide HCA).mono ?_; rintro e w' ⟨rfl, hw⟩; subst w')
    have KJ : Hid (Kp W1 (w4.setCell ⟨O, 1, none⟩ (.slice none 0 0)) O [.slice (some ⟨g1, 0, none⟩) l1 q1, .slice none 0 0, .slice (some ⟨g3, 0, none⟩) l3 q3] [(.slice none 0 0, []), (.slice (some ⟨g1, 0, none⟩) l1 q1, z1), (.slice (some ⟨g3, 0, none⟩) l3 q3, z3)]) := hide ((((unhide HK).put 1 (by simp) (.slice none 0 0)).sub (.cons_cons _ (.cons _ (.cons_cons _ .slnil)))).new (ownE_nil _ _ _) (by simp [Value.ownBlock]) (fun p hp g hg => by simp [Value.ownBlock] at hg))
    clear HK m0 m1 HCA R1 R2
    have HLL : Hid (∀ wr, Below W1.heap.size W1 wr → Below w.heap.size w wr) := hide (fun wr b => (unhide HB).trans (b.mono (unhide HB).size))
    go_wp2_with fail
    go_loopw [9] (fun s9 wr => ∃ (i n2 : Nat) (a2' : Option Addr) (cp2 : Nat), i ≤ l2 ∧ n2 ≤ i ∧ s9 = .int .i64 (i : Int) ∧ Hid (Kp W1 wr O [.slice (some ⟨g1, 0, none⟩) l1 q1, .slice a2' n2 cp2, .slice (some ⟨g3, 0, none⟩) l3 q3] [(.slice a2' n2 cp2, outS (z2.take i) nm), (.slice (some ⟨g1, 0, none⟩) l1 q1, z1), (.slice (some ⟨g3, 0, none⟩) l3 q3, z3)])) (fun s9 _ => l2 - (intOf s9).toNat)
    case atStart => exact ⟨0, 0, none, 0, Nat.zero_le _, Nat.le_refl _, rfl, KJ⟩
    case round =>
      clear KJ
      obtain ⟨i, n2, a2', cp2, hi, hn2, rfl, HK⟩ := hrel
      have u1 : wr.cell? ⟨w.heap.size, 1, none⟩ = some (.slice a2 l2 c2) := ((unhide PK).below (unhide HK).bel).c 1 (by simp)
      have hl30 := (unhide HL30).1
      by_cases hlt : i < l2
      · rcases (unhide HO2) with ⟨h0, _⟩ | ⟨b3, off3, rfl, _, hc3⟩
        · omega
        have HBW := hide ((unhide HLL) _ (unhide HK).bel)
        have m0 : wr.cell? ⟨b3, off3 + i, none⟩ = some (.string (elAt z2 i)) := ((unhide HBW).cell (block_lt_of_cell (hc3 i hlt))).trans (hc3 i hlt)
        have k0 : (0 : Int) ≤ (i : Int) := by omega
        have k1 : (i : Int) < (l2 : Int) := by omega
        have HS : Hid (outS (z2.take (i + 1)) nm = if sEq (elAt z2 i) nm = true then outS (z2.take i) nm else outS (z2.take i) nm ++ [elAt z2 i]) := hide (outS_take (by rw [unhide HZ2]; exact hlt))
        obtain ⟨d, hd⟩ : ∃ d, elAt z2 i = d := ⟨_, rfl⟩
        rw [hd] at m0 HS
        clear hd hc3
        cases g : (d.toList == nm.toList) with
        | true =>
          rw [if_pos (show sEq d nm = true from g)] at HS
          go_wp2_with fail
          go_roundw
          case rel => exact ⟨i + 1, n2, a2', cp2, by omega, by omega, by go_num, by rw [unhide HS]; exact HK⟩
          case measure => simp [intOf]; omega
        | false =>
          rw [if_neg (show ¬ sEq d nm = true by unfold sEq; rw [g]; simp)] at HS
          go_wp2_with fail
          have HN2 : Hid ((outS (z2.take i) nm).length = n2) := hide (by obtain ⟨_, _, e, _⟩ := ((unhide HK).own _ (List.mem_cons_self ..)).1.slice; simp only [Value.slice.injEq] at e; omega)
          have o2 : wr.cell? ⟨O, 1, none⟩ = some (.slice a2' n2 cp2) := (unhide HK).blk.c 1 (by simp)
          have o2a : (wr.alloc (Obj.cells #[.string d] 9)).cell? ⟨O, 1, none⟩ = some (.slice a2' n2 cp2) := ((unhide HK).below (bel1 (Obj.cells #[.string d] 9))).blk.c 1 (by simp)
          have u2a : (wr.alloc (Obj.cells #[.string d] 9)).cell? ⟨w.heap.size, 1, none⟩ = some (.slice (some ⟨b3, off3, none⟩) l2 c2) := ((unhide PK).below ((unhide HK).below (bel1 (Obj.cells #[.string d] 9))).bel).c 1 (by simp)
          go_region_law (first
            | (refine step_app_elG (K := 1) (cells := stC) rfl (.tmp 54) (.tmp 60) 23 9 rfl Try.underlying23 info_txt rfl (by decide) (by decide) d [.string d] rfl (fun q hq => by match q, hq with | 0, _ => rfl) (fun u hu => by simp at hu; rcases hu with rfl; rfl) ((unhide HK).own _ (List.mem_cons_self ..)).1 (unhide HN2) (by simp [Act.eval]) rfl (by simp [Act.eval]) (unhide HK).bel.size (by omega) ?_; intro g9 c9 w9 o9 gr9 ha9; have K9 := hide ((unhide HK).app o9 gr9 ha9); have d2 := (unhide K9).blk.c 1 (by simp); have y2 := (unhide K9).blk.f 1 (by simp); simp only [List.getElem_cons_zero, List.getElem_cons_succ] at d2)
            | (refine step_app_elD (K := 1) (cells := stC) rfl (.tmp 54) (.tmp 60) 23 9 rfl Try.underlying23 info_txt rfl (by decide) (by decide) d [.string d] rfl (fun q hq => by match q, hq with | 0, _ => rfl) (fun u hu => by simp at hu; rcases hu with rfl; rfl) ((unhide HK).own _ (List.mem_cons_self ..)).1 (unhide HN2) (by simp [Act.eval]) rfl (by simp [Act.eval]) (unhide HK).bel.size (by omega) ?_; intro g9 c9 w9 o9 gr9 ha9; have K9 := hide ((unhide HK).app o9 gr9 ha9); have d2 := (unhide K9).blk.c 1 (by simp); have y2 := (unhide K9).blk.f 1 (by simp); simp only [List.getElem_cons_zero, List.getElem_cons_succ] at d2))
          all_goals
            go_wp2_with fail
            go_roundw
            case rel =>
              first
                | exact ⟨i + 1, n2 + 1, some ⟨g9, 0, none⟩, c9, by omega, by omega, by go_num, by rw [unhide HS]; exact hide ((unhide K9).put 1 (by simp) _)⟩
                | exact ⟨i + 1, n2 + 1, some ⟨g9, 0, none⟩, c9, by omega, by omega, by go_num, by rw [unhide HS]; exact hide (((unhide K9).put 1 (by simp) _).below (bel0d 1))⟩
                | exact ⟨i + 1, n2 + 1, some ⟨g9, 0, none⟩, c9, by omega, by omega, by go_num, by rw [unhide HS]; exact hide (((unhide K9).below (bel0d 1)).put 1 (by simp) _)⟩
            case measure => simp [intOf]; omega
      · have k1 : ¬ (i : Int) < (l2 : Int) := by omega
        have hie : i = l2 := by omega
        have HTK : Hid (outS (z2.take i) nm = outS z2 nm) := hide (by rw [hie, ← unhide HZ2, List.take_length])
        have HK := hide (by have := unhide HK; rw [unhide HTK] at this; exact this : Kp W1 wr O [.slice (some ⟨g1, 0, none⟩) l1 q1, .slice a2' n2 cp2, .slice (some ⟨g3, 0, none⟩) l3 q3] [(.slice a2' n2 cp2, outS z2 nm), (.slice (some ⟨g1, 0, none⟩) l1 q1, z1), (.slice (some ⟨g3, 0, none⟩) l3 q3, z3)])
        have HN2 : Hid ((outS z2 nm).length = n2) := hide (by obtain ⟨_, _, e, _⟩ := ((unhide HK).own _ (List.mem_cons_self ..)).1.slice; simp only [Value.slice.injEq] at e; omega)
        have HI := hide hie
        have HBW := hide ((unhide HLL) _ (unhide HK).bel)
        have R1 := hide ((unhide HP).r1.below (unhide HBW))
        have R3 := hide ((unhide HP).r3.below (unhide HBW))
        have u0 : wr.cell? ⟨w.heap.size, 0, none⟩ = some (.slice a1 l1 c1) := ((unhide PK).below (unhide HK).bel).c 0 (by simp)
        have u2 : wr.cell? ⟨w.heap.size, 2, none⟩ = some (.slice a3 l3 c3) := ((unhide PK).below (unhide HK).bel).c 2 (by simp)
        clear hie hlt hi hn2
        cases g3n : hasB z3 nm with
        | true =>
          have H3N : Hid (tkN z1 z3 nm = z3) := hide (by unfold tkN; rw [unhide HG1, g3n]; rfl)
          have HC1 := hide (l14Has_is a1 l1 c1 z1 nm wr (unhide R1) h1 (unhide HG1))
          have HC3 := hide (l14Has_is a3 l3 c3 z3 nm wr (unhide R3) h3 g3n)
          clear g3n
          go_wp2_with fail
          refine (unhide HC1).mono ?_
          rintro e w' ⟨rfl, hw⟩
          subst w'
          go_wp2_with fail
          refine (unhide HC3).mono ?_
          rintro e w' ⟨rfl, hw⟩
          subst w'
          go_upto_region 16 with fail
          have HK := hide ((unhide HK).perm (.swap _ _ _))
          have RK8 := (unhide RK).below (unhide HK).bel
          have c0 : wr.cell? ⟨O, 0, none⟩ = some (.slice (some ⟨g1, 0, none⟩) l1 q1) := (unhide HK).blk.c 0 (by simp)
          have c1 : wr.cell? ⟨O, 1, none⟩ = some (.slice a2' n2 cp2) := (unhide HK).blk.c 1 (by simp)
          have c2 : wr.cell? ⟨O, 2, none⟩ = some (.slice (some ⟨g3, 0, none⟩) l3 q3) := (unhide HK).blk.c 2 (by simp)
          have x0 : wr.cell? ⟨w.heap.size + 1, 0, none⟩ = some (.slice none 0 0) := RK8.c 0 (by simp)
          have x1 : wr.cell? ⟨w.heap.size + 1, 1, none⟩ = some (.slice none 0 0) := RK8.c 1 (by simp)
          have x2 : wr.cell? ⟨w.heap.size + 1, 2, none⟩ = some (.slice none 0 0) := RK8.c 2 (by simp)
          have f0 := RK8.f 0 (by simp)
          have f1 := RK8.f 1 (by simp)
          have f2 := RK8.f 2 (by simp)
          have RKS := hide (((RK8.set 0 (by simp) (.slice (some ⟨g1, 0, none⟩) l1 q1)).set 1 (by simp) (.slice a2' n2 cp2)).set 2 (by simp) (.slice (some ⟨g3, 0, none⟩) l3 q3))
          have o8 := (unhide HK).three
          have ne : ∀ {v : Value} {L : List ByteArray}, OwnE 1 stC wr W1.heap.size 9 v L → v.ownBlock ≠ some (w.heap.size + 1) := fun {v L} h e => by
            have := (h.lies _ e).1
            have := (unhide RK).lt
            omega
          have HPO := hide (((((o8.set_other (S := w.heap.size + 1) (o := 0) (.slice (some ⟨g1, 0, none⟩) l1 q1) (ne o8.o1) (ne o8.o2) (ne o8.o3)).set_other (S := w.heap.size + 1) (o := 1) (.slice a2' n2 cp2) (ne o8.o1) (ne o8.o2) (ne o8.o3)).set_other (S := w.heap.size + 1) (o := 2) (.slice (some ⟨g3, 0, none⟩) l3 q3) (ne o8.o1) (ne o8.o2) (ne o8.o3))).mono (unhide HB).size)
          have HBF := hide (((((unhide HB).trans ((unhide HK).bel.mono (unhide HB).size)).setCell (p := ⟨w.heap.size + 1, 0, none⟩) (by simp) (.slice (some ⟨g1, 0, none⟩) l1 q1)).setCell (p := ⟨w.heap.size + 1, 1, none⟩) (by simp) (.slice a2' n2 cp2)).setCell (p := ⟨w.heap.size + 1, 2, none⟩) (by simp) (.slice (some ⟨g3, 0, none⟩) l3 q3))
          clear o8 RK8 ne
          go_wp2_with fail
          rw [(unhide HTY).1, (unhide HTY).2, unhide H3N, unhide HE, unhide HZ1, unhide HZ3, unhide HN2]
          exact bodyPost_ret (results_cellB (vs := [.slice (some ⟨g1, 0, none⟩) l1 q1, .slice a2' n2 cp2, .slice (some ⟨g3, 0, none⟩) l3 q3]) rfl Try.isAgg28 Try.sizeOf28 rfl (unhide RKS) rfl) rfl ⟨_, _, _, _, _, _, rfl, unhide HPO, unhide HBF⟩
        | false =>
          have H3N : Hid (tkN z1 z3 nm = insS z3 nm) := hide (by unfold tkN; rw [unhide HG1, g3n]; rfl)
          have HC1 := hide (l14Has_is a1 l1 c1 z1 nm wr (unhide R1) h1 (unhide HG1))
          have HC3 := hide (l14Has_is a3 l3 c3 z3 nm wr (unhide R3) h3 g3n)
          clear g3n
          go_wp2_with fail
          refine (unhide HC1).mono ?_
          rintro e w' ⟨rfl, hw⟩
          subst w'
          go_wp2_with fail
          refine (unhide HC3).mono ?_
          rintro e w' ⟨rfl, hw⟩
          subst w'
          go_wp2_with fail
          obtain ⟨U, hU⟩ : ∃ U, U = wr := ⟨_, rfl⟩
          rw [← hU] at HK HBW ⊢
          clear hU u0 u2 u1 R1 R3 HC1 HC3
          have H3O : Hid (OwnE 1 stC U W1.heap.size 9 (.slice (some ⟨g3, 0, none⟩) l3 q3) z3) := hide ((unhide HK).own (.slice (some ⟨g3, 0, none⟩) l3 q3, z3) (by simp)).1
          have o2 : U.cell? ⟨O, 2, none⟩ = some (.slice (some ⟨g3, 0, none⟩) l3 q3) := (unhide HK).blk.c 2 (by simp)
          go_loopw [10] (fun s10 W => ∃ k : Nat, k ≤ l3 ∧ s10 = .int .i64 (k : Int) ∧ Hid (∀ j, j < k → sLt (elAt z3 j) nm = true) ∧ W = U) (fun s10 _ => l3 - (intOf s10).toNat)
          case atStart => exact ⟨0, Nat.zero_le _, rfl, hide (fun j hj => by omega), rfl⟩
          case round =>
            obtain ⟨k, hk, rfl, HJ, hwr⟩ := hrel
            subst wr
            have k0 : (0 : Int) ≤ (k : Int) := by omega
            by_cases hlt : k < l3
            · have c3 : U.cell? ⟨g3, k, none⟩ = some (.string (elAt z3 k)) := ((unhide H3O).here1 (unhide HZ3) k hlt).1
              have k1 : (k : Int) < (l3 : Int) := by omega
              have HD : Hid (sLt (elAt z3 k) nm = Op.bytesLess (elAt z3 k).toList nm.toList) := hide rfl
              obtain ⟨d, hd⟩ : ∃ d, elAt z3 k = d := ⟨_, rfl⟩
              have HDD := hide hd
              rw [hd] at c3 HD
              clear hd
              cases g : Op.bytesLess d.toList nm.toList with
              | true =>
                rw [g] at HD
                go_wp2_with fail
                go_roundw
                case rel => exact ⟨k + 1, by omega, by go_num, hide (fun j hj => by rcases Nat.lt_succ_iff_lt_or_eq.1 hj with h | h; exact unhide HJ j h; subst h; rw [unhide HDD]; exact unhide HD), by first | rfl | trivial⟩
                case measure => simp [intOf]; omega
              | false =>
                rw [g] at HD
                have HINS : Hid (insS z3 nm = z3.take k ++ nm :: z3.drop k) := hide (insS_at (by rw [unhide HZ3]; exact hk) (unhide HJ) (.inr (by rw [unhide HDD]; exact unhide HD)))
                go_upto_region 14 with fail
                clear c3 g k1 HDD HD
                have hq3 : l3 ≤ q3 := by
                  obtain ⟨_, _, e, hle, _⟩ := (unhide H3O).slice
                  simp only [Value.slice.injEq] at e
                  have := unhide HZ3
                  omega
                have kk1 : (k : Int) ≤ (l3 : Int) := by omega
                have kk2 : (l3 : Int) ≤ (q3 : Int) := by omega
                have kk3 : (k : Int) ≤ (q3 : Int) := by omega
                have hl3 := (unhide HL30).2
                have K7 : Hid (Kp W1 (U.alloc (Obj.cells #[.string nm] 9)) O [.slice (some ⟨g1, 0, none⟩) l1 q1, .slice a2' n2 cp2, .slice (some ⟨g3, 0, none⟩) l3 q3] [(.slice (some ⟨U.heap.size, 0, none⟩) 1 1, [nm]), (.slice a2' n2 cp2, outS z2 nm), (.slice (some ⟨g1, 0, none⟩) l1 q1, z1), (.slice (some ⟨g3, 0, none⟩) l3 q3, z3)]) := hide ((unhide HK).lit _ (ownE_one [.string nm] rfl (fun q hq => by match q, hq with | 0, _ => rfl) (unhide HK).bel.size) (fun g hg => by have : U.heap.size = g := Option.some.inj hg; omega))
                have d2 : (U.alloc (Obj.cells #[.string nm] 9)).cell? ⟨O, 2, none⟩ = some (.slice (some ⟨g3, 0, none⟩) l3 q3) := (unhide K7).blk.c 2 (by simp)
                have R7 : Hid (RowE 1 stC (U.alloc (Obj.cells #[.string nm] 9)) (some ⟨g3, 0, none⟩) l3 z3) := hide ((unhide K7).own (.slice (some ⟨g3, 0, none⟩) l3 q3, z3) (by simp)).1.row
                go_upto_region 15 with (at_builtin; refine wpList_app_st rfl _ _ rfl ((unhide K7).own _ (List.mem_cons_self ..)).1 rfl rfl _ _ _ (z3.drop k) rfl (rowDrop (unhide R7) hk) (by omega) (unhide K7).bel.size ?_; intro g8 c8 w8 o8 gr8 hg8; have K8 := hide ((unhide K7).turn o8 gr8 (by rcases hg8 with h | h; exact .inl (by rw [h]; rfl); exact .inr (by rw [h]; exact Nat.le_refl _))); clear o8 gr8 hg8)
                have e2 : w8.cell? ⟨O, 2, none⟩ = some (.slice (some ⟨g3, 0, none⟩) l3 q3) := (unhide K8).blk.c 2 (by simp)
                have K9 : Hid (Kp W1 (w8.alloc (Obj.cells #[] 9)) O [.slice (some ⟨g1, 0, none⟩) l1 q1, .slice a2' n2 cp2, .slice (some ⟨g3, 0, none⟩) l3 q3] [(.slice (some ⟨w8.heap.size, 0, none⟩) 0 0, []), (.slice (some ⟨g8, 0, none⟩) (1 + (l3 - k)) c8, [nm] ++ (z3.drop k)), (.slice a2' n2 cp2, outS z2 nm), (.slice (some ⟨g1, 0, none⟩) l1 q1, z1), (.slice (some ⟨g3, 0, none⟩) l3 q3, z3)]) := hide ((unhide K8).lit _ (stE_none (unhide K8).bel.size) (fun g hg => by have : w8.heap.size = g := Option.some.inj hg; omega))
                have e3 : (w8.alloc (Obj.cells #[] 9)).cell? ⟨O, 2, none⟩ = some (.slice (some ⟨g3, 0, none⟩) l3 q3) := (unhide K9).blk.c 2 (by simp)
                have R9 : Hid (RowE 1 stC (w8.alloc (Obj.cells #[] 9)) (some ⟨g3, 0, none⟩) k (z3.take k)) := hide (rowTake ((unhide K9).own (.slice (some ⟨g3, 0, none⟩) l3 q3, z3) (by simp)).1.row (by omega))
                clear d2 o2 R7 K7
                go_upto_region 16 with (first
                  | ((fail_if_success have := M2); at_builtin; refine wpList_app_st rfl _ _ rfl ((unhide K9).own _ (List.mem_cons_self ..)).1 rfl rfl _ _ _ (z3.take k) rfl (unhide R9) (by omega) (unhide K9).bel.size ?_; intro g10 c10 w10 o10 gr10 hg10; rw [Nat.zero_add] at o10; rw [Nat.zero_add]; have K10 := hide ((unhide K9).turn o10 gr10 (by rcases hg10 with h | h; exact .inl (by rw [h]; rfl); exact .inr (by rw [h]; exact Nat.le_refl _))); have M2 := trivial; clear o10 gr10 hg10)
                  | (have := M2; at_builtin; refine wpList_app_st rfl _ _ rfl ((unhide K10).own _ (List.mem_cons_self ..)).1 (by simp; have := unhide HZ3; omega) rfl _ _ _ ([nm] ++ (z3.drop k)) rfl ((unhide K10).own (.slice (some ⟨g8, 0, none⟩) (1 + (l3 - k)) c8, [nm] ++ (z3.drop k)) (by simp)).1.row (by omega) (unhide K10).bel.size ?_; intro g11 c11 w11 o11 gr11 hg11; have K11 := hide ((unhide K10).turn o11 gr11 (by rcases hg11 with h | h; exact .inl (by rw [h]; rfl); exact .inr (by rw [h]; exact Nat.le_refl _))); have c22 := (unhide K11).blk.c 2 (by simp); have f22 := (unhide K11).blk.f 2 (by simp); simp only [List.getElem_cons_zero, List.getElem_cons_succ] at c22; clear o11 gr11 hg11))
                have hLs : ([] ++ z3.take k) ++ ([nm] ++ (z3.drop k)) = insS z3 nm := by rw [unhide HINS]; simp
                have KF := ((unhide K11).put 2 (by simp) (.slice (some ⟨g11, 0, none⟩) (k + (1 + (l3 - k))) c11))
                rw [hLs] at KF
                obtain ⟨W9, hW9⟩ : ∃ W, W = w11.setCell ⟨O, 2, none⟩ (.slice (some ⟨g11, 0, none⟩) (k + (1 + (l3 - k))) c11) := ⟨_, rfl⟩
                rw [← hW9] at KF ⊢
                have HK : Hid (Kp W1 W9 O [.slice (some ⟨g1, 0, none⟩) l1 q1, .slice a2' n2 cp2, .slice (some ⟨g11, 0, none⟩) (k + (1 + (l3 - k))) c11] [(.slice (some ⟨g1, 0, none⟩) l1 q1, z1), (.slice a2' n2 cp2, outS z2 nm), (.slice (some ⟨g11, 0, none⟩) (k + (1 + (l3 - k))) c11, insS z3 nm)]) := hide ((KF.sub (.cons_cons _ (.cons _ (.cons_cons _ (.cons_cons _ (.cons _ .slnil)))))).perm (List.reverse_perm _).symm)
                have HN3 : Hid ((insS z3 nm).length = (k + (1 + (l3 - k)))) := hide (by obtain ⟨_, _, e, _⟩ := ((unhide HK).own (.slice (some ⟨g11, 0, none⟩) (k + (1 + (l3 - k))) c11, insS z3 nm) (by simp)).1.slice; simp only [Value.slice.injEq] at e; exact e.2.1.symm)
                clear KF hW9 hLs K11 K10 K9 K8 R9 c22 f22 e2 e3
                have RK8 := (unhide RK).below (unhide HK).bel
                have c0 : W9.cell? ⟨O, 0, none⟩ = some (.slice (some ⟨g1, 0, none⟩) l1 q1) := (unhide HK).blk.c 0 (by simp)
                have c1 : W9.cell? ⟨O, 1, none⟩ = some (.slice a2' n2 cp2) := (unhide HK).blk.c 1 (by simp)
                have c2 : W9.cell? ⟨O, 2, none⟩ = some (.slice (some ⟨g11, 0, none⟩) (k + (1 + (l3 - k))) c11) := (unhide HK).blk.c 2 (by simp)
                have x0 : W9.cell? ⟨w.heap.size + 1, 0, none⟩ = some (.slice none 0 0) := RK8.c 0 (by simp)
                have x1 : W9.cell? ⟨w.heap.size + 1, 1, none⟩ = some (.slice none 0 0) := RK8.c 1 (by simp)
                have x2 : W9.cell? ⟨w.heap.size + 1, 2, none⟩ = some (.slice none 0 0) := RK8.c 2 (by simp)
                have f0 := RK8.f 0 (by simp)
                have f1 := RK8.f 1 (by simp)
                have f2 := RK8.f 2 (by simp)
                have RKS := hide (((RK8.set 0 (by simp) (.slice (some ⟨g1, 0, none⟩) l1 q1)).set 1 (by simp) (.slice a2' n2 cp2)).set 2 (by simp) (.slice (some ⟨g11, 0, none⟩) (k + (1 + (l3 - k))) c11))
                have o8 := (unhide HK).three
                have ne : ∀ {v : Value} {L : List ByteArray}, OwnE 1 stC W9 W1.heap.size 9 v L → v.ownBlock ≠ some (w.heap.size + 1) := fun {v L} h e => by
                  have := (h.lies _ e).1
                  have := (unhide RK).lt
                  omega
                have HPO := hide (((((o8.set_other (S := w.heap.size + 1) (o := 0) (.slice (some ⟨g1, 0, none⟩) l1 q1) (ne o8.o1) (ne o8.o2) (ne o8.o3)).set_other (S := w.heap.size + 1) (o := 1) (.slice a2' n2 cp2) (ne o8.o1) (ne o8.o2) (ne o8.o3)).set_other (S := w.heap.size + 1) (o := 2) (.slice (some ⟨g11, 0, none⟩) (k + (1 + (l3 - k))) c11) (ne o8.o1) (ne o8.o2) (ne o8.o3))).mono (unhide HB).size)
                have HBF := hide (((((unhide HB).trans ((unhide HK).bel.mono (unhide HB).size)).setCell (p := ⟨w.heap.size + 1, 0, none⟩) (by simp) (.slice (some ⟨g1, 0, none⟩) l1 q1)).setCell (p := ⟨w.heap.size + 1, 1, none⟩) (by simp) (.slice a2' n2 cp2)).setCell (p := ⟨w.heap.size + 1, 2, none⟩) (by simp) (.slice (some ⟨g11, 0, none⟩) (k + (1 + (l3 - k))) c11))
                clear o8 RK8 ne
                go_wp2_with fail
                rw [(unhide HTY).1, (unhide HTY).2, unhide H3N, unhide HE, unhide HZ1, unhide HN3, unhide HN2]
                exact bodyPost_ret (results_cellB (vs := [.slice (some ⟨g1, 0, none⟩) l1 q1, .slice a2' n2 cp2, .slice (some ⟨g11, 0, none⟩) (k + (1 + (l3 - k))) c11]) rfl Try.isAgg28 Try.sizeOf28 rfl (unhide RKS) rfl) rfl ⟨_, _, _, _, _, _, rfl, unhide HPO, unhide HBF⟩
            · have k1 : ¬ (k : Int) < (l3 : Int) := by omega
              have HINS : Hid (insS z3 nm = z3.take k ++ nm :: z3.drop k) := hide (insS_at (by rw [unhide HZ3]; exact hk) (unhide HJ) (.inl (by rw [unhide HZ3]; omega)))
              go_upto_region 14 with fail
              clear k1
              obtain rfl : k = l3 := by omega
              have HDR : Hid (z3.drop k = []) := hide (List.drop_of_length_le (by rw [unhide HZ3]; exact Nat.le_refl _))
              rw [unhide HDR] at HINS
              by_cases hqk : q3 = k
              · subst hqk
                have hq3 : q3 ≤ q3 := by
                  obtain ⟨_, _, e, hle, _⟩ := (unhide H3O).slice
                  simp only [Value.slice.injEq] at e
                  have := unhide HZ3
                  omega
                have kk1 : (q3 : Int) ≤ (q3 : Int) := by omega
                have kk2 : (q3 : Int) ≤ (q3 : Int) := by omega
                have kk3 : (q3 : Int) ≤ (q3 : Int) := by omega
                have hq3 := (unhide HL30).2
                have K7 : Hid (Kp W1 (U.alloc (Obj.cells #[.string nm] 9)) O [.slice (some ⟨g1, 0, none⟩) l1 q1, .slice a2' n2 cp2, .slice (some ⟨g3, 0, none⟩) q3 q3] [(.slice (some ⟨U.heap.size, 0, none⟩) 1 1, [nm]), (.slice a2' n2 cp2, outS z2 nm), (.slice (some ⟨g1, 0, none⟩) l1 q1, z1), (.slice (some ⟨g3, 0, none⟩) q3 q3, z3)]) := hide ((unhide HK).lit _ (ownE_one [.string nm] rfl (fun q hq => by match q, hq with | 0, _ => rfl) (unhide HK).bel.size) (fun g hg => by have : U.heap.size = g := Option.some.inj hg; omega))
                have d2 : (U.alloc (Obj.cells #[.string nm] 9)).cell? ⟨O, 2, none⟩ = some (.slice (some ⟨g3, 0, none⟩) q3 q3) := (unhide K7).blk.c 2 (by simp)
                have R7 : Hid (RowE 1 stC (U.alloc (Obj.cells #[.string nm] 9)) (some ⟨g3, 0, none⟩) q3 z3) := hide ((unhide K7).own (.slice (some ⟨g3, 0, none⟩) q3 q3, z3) (by simp)).1.row
                go_upto_region 15 with (at_builtin; refine wpList_app_st rfl _ _ rfl ((unhide K7).own _ (List.mem_cons_self ..)).1 rfl rfl _ _ _ [] rfl (rowNone _ _) (by omega) (unhide K7).bel.size ?_; intro g8 c8 w8 o8 gr8 hg8; have K8 := hide ((unhide K7).turn o8 gr8 (by rcases hg8 with h | h; exact .inl (by rw [h]; rfl); exact .inr (by rw [h]; exact Nat.le_refl _))); clear o8 gr8 hg8)
                have e2 : w8.cell? ⟨O, 2, none⟩ = some (.slice (some ⟨g3, 0, none⟩) q3 q3) := (unhide K8).blk.c 2 (by simp)
                have K9 : Hid (Kp W1 (w8.alloc (Obj.cells #[] 9)) O [.slice (some ⟨g1, 0, none⟩) l1 q1, .slice a2' n2 cp2, .slice (some ⟨g3, 0, none⟩) q3 q3] [(.slice (some ⟨w8.heap.size, 0, none⟩) 0 0, []), (.slice (some ⟨g8, 0, none⟩) 1 c8, [nm] ++ []), (.slice a2' n2 cp2, outS z2 nm), (.slice (some ⟨g1, 0, none⟩) l1 q1, z1), (.slice (some ⟨g3, 0, none⟩) q3 q3, z3)]) := hide ((unhide K8).lit _ (stE_none (unhide K8).bel.size) (fun g hg => by have : w8.heap.size = g := Option.some.inj hg; omega))
                have e3 : (w8.alloc (Obj.cells #[] 9)).cell? ⟨O, 2, none⟩ = some (.slice (some ⟨g3, 0, none⟩) q3 q3) := (unhide K9).blk.c 2 (by simp)
                have R9 : Hid (RowE 1 stC (w8.alloc (Obj.cells #[] 9)) (some ⟨g3, 0, none⟩) q3 (z3.take q3)) := hide (rowTake ((unhide K9).own (.slice (some ⟨g3, 0, none⟩) q3 q3, z3) (by simp)).1.row (by omega))
                clear d2 o2 R7 K7
                go_upto_region 16 with (first
                  | ((fail_if_success have := M2); at_builtin; refine wpList_app_st rfl _ _ rfl ((unhide K9).own _ (List.mem_cons_self ..)).1 rfl rfl _ _ _ (z3.take q3) rfl (unhide R9) (by omega) (unhide K9).bel.size ?_; intro g10 c10 w10 o10 gr10 hg10; rw [Nat.zero_add] at o10; rw [Nat.zero_add]; have K10 := hide ((unhide K9).turn o10 gr10 (by rcases hg10 with h | h; exact .inl (by rw [h]; rfl); exact .inr (by rw [h]; exact Nat.le_refl _))); have M2 := trivial; clear o10 gr10 hg10)
                  | (have := M2; at_builtin; refine wpList_app_st rfl _ _ rfl ((unhide K10).own _ (List.mem_cons_self ..)).1 (by simp; have := unhide HZ3; omega) rfl _ _ _ ([nm] ++ []) rfl ((unhide K10).own (.slice (some ⟨g8, 0, none⟩) 1 c8, [nm] ++ []) (by simp)).1.row (by omega) (unhide K10).bel.size ?_; intro g11 c11 w11 o11 gr11 hg11; have K11 := hide ((unhide K10).turn o11 gr11 (by rcases hg11 with h | h; exact .inl (by rw [h]; rfl); exact .inr (by rw [h]; exact Nat.le_refl _))); have c22 := (unhide K11).blk.c 2 (by simp); have f22 := (unhide K11).blk.f 2 (by simp); simp only [List.getElem_cons_zero, List.getElem_cons_succ] at c22; clear o11 gr11 hg11))
                have hLs : ([] ++ z3.take q3) ++ ([nm] ++ []) = insS z3 nm := by rw [unhide HINS]; simp
                have KF := ((unhide K11).put 2 (by simp) (.slice (some ⟨g11, 0, none⟩) (q3 + 1) c11))
                rw [hLs] at KF
                obtain ⟨W9, hW9⟩ : ∃ W, W = w11.setCell ⟨O, 2, none⟩ (.slice (some ⟨g11, 0, none⟩) (q3 + 1) c11) := ⟨_, rfl⟩
                rw [← hW9] at KF ⊢
                have HK : Hid (Kp W1 W9 O [.slice (some ⟨g1, 0, none⟩) l1 q1, .slice a2' n2 cp2, .slice (some ⟨g11, 0, none⟩) (q3 + 1) c11] [(.slice (some ⟨g1, 0, none⟩) l1 q1, z1), (.slice a2' n2 cp2, outS z2 nm), (.slice (some ⟨g11, 0, none⟩) (q3 + 1) c11, insS z3 nm)]) := hide ((KF.sub (.cons_cons _ (.cons _ (.cons_cons _ (.cons_cons _ (.cons _ .slnil)))))).perm (List.reverse_perm _).symm)
                have HN3 : Hid ((insS z3 nm).length = (q3 + 1)) := hide (by obtain ⟨_, _, e, _⟩ := ((unhide HK).own (.slice (some ⟨g11, 0, none⟩) (q3 + 1) c11, insS z3 nm) (by simp)).1.slice; simp only [Value.slice.injEq] at e; exact e.2.1.symm)
                clear KF hW9 hLs K11 K10 K9 K8 R9 c22 f22 e2 e3
                have RK8 := (unhide RK).below (unhide HK).bel
                have c0 : W9.cell? ⟨O, 0, none⟩ = some (.slice (some ⟨g1, 0, none⟩) l1 q1) := (unhide HK).blk.c 0 (by simp)
                have c1 : W9.cell? ⟨O, 1, none⟩ = some (.slice a2' n2 cp2) := (unhide HK).blk.c 1 (by simp)
                have c2 : W9.cell? ⟨O, 2, none⟩ = some (.slice (some ⟨g11, 0, none⟩) (q3 + 1) c11) := (unhide HK).blk.c 2 (by simp)
                have x0 : W9.cell? ⟨w.heap.size + 1, 0, none⟩ = some (.slice none 0 0) := RK8.c 0 (by simp)
                have x1 : W9.cell? ⟨w.heap.size + 1, 1, none⟩ = some (.slice none 0 0) := RK8.c 1 (by simp)
                have x2 : W9.cell? ⟨w.heap.size + 1, 2, none⟩ = some (.slice none 0 0) := RK8.c 2 (by simp)
                have f0 := RK8.f 0 (by simp)
                have f1 := RK8.f 1 (by simp)
                have f2 := RK8.f 2 (by simp)
                have RKS := hide (((RK8.set 0 (by simp) (.slice (some ⟨g1, 0, none⟩) l1 q1)).set 1 (by simp) (.slice a2' n2 cp2)).set 2 (by simp) (.slice (some ⟨g11, 0, none⟩) (q3 + 1) c11))
                have o8 := (unhide HK).three
                have ne : ∀ {v : Value} {L : List ByteArray}, OwnE 1 stC W9 W1.heap.size 9 v L → v.ownBlock ≠ some (w.heap.size + 1) := fun {v L} h e => by
                  have := (h.lies _ e).1
                  have := (unhide RK).lt
                  omega
                have HPO := hide (((((o8.set_other (S := w.heap.size + 1) (o := 0) (.slice (some ⟨g1, 0, none⟩) l1 q1) (ne o8.o1) (ne o8.o2) (ne o8.o3)).set_other (S := w.heap.size + 1) (o := 1) (.slice a2' n2 cp2) (ne o8.o1) (ne o8.o2) (ne o8.o3)).set_other (S := w.heap.size + 1) (o := 2) (.slice (some ⟨g11, 0, none⟩) (q3 + 1) c11) (ne o8.o1) (ne o8.o2) (ne o8.o3))).mono (unhide HB).size)
                have HBF := hide (((((unhide HB).trans ((unhide HK).bel.mono (unhide HB).size)).setCell (p := ⟨w.heap.size + 1, 0, none⟩) (by simp) (.slice (some ⟨g1, 0, none⟩) l1 q1)).setCell (p := ⟨w.heap.size + 1, 1, none⟩) (by simp) (.slice a2' n2 cp2)).setCell (p := ⟨w.heap.size + 1, 2, none⟩) (by simp) (.slice (some ⟨g11, 0, none⟩) (q3 + 1) c11))
                clear o8 RK8 ne
                go_wp2_with fail
                rw [(unhide HTY).1, (unhide HTY).2, unhide H3N, unhide HE, unhide HZ1, unhide HN3, unhide HN2]
                exact bodyPost_ret (results_cellB (vs := [.slice (some ⟨g1, 0, none⟩) l1 q1, .slice a2' n2 cp2, .slice (some ⟨g11, 0, none⟩) (q3 + 1) c11]) rfl Try.isAgg28 Try.sizeOf28 rfl (unhide RKS) rfl) rfl ⟨_, _, _, _, _, _, rfl, unhide HPO, unhide HBF⟩
              · have hq3 : k ≤ q3 := by
                  obtain ⟨_, _, e, hle, _⟩ := (unhide H3O).slice
                  simp only [Value.slice.injEq] at e
                  have := unhide HZ3
                  omega
                have kk1 : (k : Int) ≤ (k : Int) := by omega
                have kk2 : (k : Int) ≤ (q3 : Int) := by omega
                have kk3 : (k : Int) ≤ (q3 : Int) := by omega
                have hk := (unhide HL30).2
                have K7 : Hid (Kp W1 (U.alloc (Obj.cells #[.string nm] 9)) O [.slice (some ⟨g1, 0, none⟩) l1 q1, .slice a2' n2 cp2, .slice (some ⟨g3, 0, none⟩) k q3] [(.slice (some ⟨U.heap.size, 0, none⟩) 1 1, [nm]), (.slice a2' n2 cp2, outS z2 nm), (.slice (some ⟨g1, 0, none⟩) l1 q1, z1), (.slice (some ⟨g3, 0, none⟩) k q3, z3)]) := hide ((unhide HK).lit _ (ownE_one [.string nm] rfl (fun q hq => by match q, hq with | 0, _ => rfl) (unhide HK).bel.size) (fun g hg => by have : U.heap.size = g := Option.some.inj hg; omega))
                have d2 : (U.alloc (Obj.cells #[.string nm] 9)).cell? ⟨O, 2, none⟩ = some (.slice (some ⟨g3, 0, none⟩) k q3) := (unhide K7).blk.c 2 (by simp)
                have R7 : Hid (RowE 1 stC (U.alloc (Obj.cells #[.string nm] 9)) (some ⟨g3, 0, none⟩) k z3) := hide ((unhide K7).own (.slice (some ⟨g3, 0, none⟩) k q3, z3) (by simp)).1.row
                go_upto_region 15 with (at_builtin; refine wpList_app_st rfl _ _ rfl ((unhide K7).own _ (List.mem_cons_self ..)).1 rfl rfl _ _ _ [] rfl (rowNone _ _) (by omega) (unhide K7).bel.size ?_; intro g8 c8 w8 o8 gr8 hg8; have K8 := hide ((unhide K7).turn o8 gr8 (by rcases hg8 with h | h; exact .inl (by rw [h]; rfl); exact .inr (by rw [h]; exact Nat.le_refl _))); clear o8 gr8 hg8)
                have e2 : w8.cell? ⟨O, 2, none⟩ = some (.slice (some ⟨g3, 0, none⟩) k q3) := (unhide K8).blk.c 2 (by simp)
                have K9 : Hid (Kp W1 (w8.alloc (Obj.cells #[] 9)) O [.slice (some ⟨g1, 0, none⟩) l1 q1, .slice a2' n2 cp2, .slice (some ⟨g3, 0, none⟩) k q3] [(.slice (some ⟨w8.heap.size, 0, none⟩) 0 0, []), (.slice (some ⟨g8, 0, none⟩) 1 c8, [nm] ++ []), (.slice a2' n2 cp2, outS z2 nm), (.slice (some ⟨g1, 0, none⟩) l1 q1, z1), (.slice (some ⟨g3, 0, none⟩) k q3, z3)]) := hide ((unhide K8).lit _ (stE_none (unhide K8).bel.size) (fun g hg => by have : w8.heap.size = g := Option.some.inj hg; omega))
                have e3 : (w8.alloc (Obj.cells #[] 9)).cell? ⟨O, 2, none⟩ = some (.slice (some ⟨g3, 0, none⟩) k q3) := (unhide K9).blk.c 2 (by simp)
                have R9 : Hid (RowE 1 stC (w8.alloc (Obj.cells #[] 9)) (some ⟨g3, 0, none⟩) k (z3.take k)) := hide (rowTake ((unhide K9).own (.slice (some ⟨g3, 0, none⟩) k q3, z3) (by simp)).1.row (by omega))
                clear d2 o2 R7 K7
                go_upto_region 16 with (first
                  | ((fail_if_success have := M2); at_builtin; refine wpList_app_st rfl _ _ rfl ((unhide K9).own _ (List.mem_cons_self ..)).1 rfl rfl _ _ _ (z3.take k) rfl (unhide R9) (by omega) (unhide K9).bel.size ?_; intro g10 c10 w10 o10 gr10 hg10; rw [Nat.zero_add] at o10; rw [Nat.zero_add]; have K10 := hide ((unhide K9).turn o10 gr10 (by rcases hg10 with h | h; exact .inl (by rw [h]; rfl); exact .inr (by rw [h]; exact Nat.le_refl _))); have M2 := trivial; clear o10 gr10 hg10)
                  | (have := M2; at_builtin; refine wpList_app_st rfl _ _ rfl ((unhide K10).own _ (List.mem_cons_self ..)).1 (by simp; have := unhide HZ3; omega) rfl _ _ _ ([nm] ++ []) rfl ((unhide K10).own (.slice (some ⟨g8, 0, none⟩) 1 c8, [nm] ++ []) (by simp)).1.row (by omega) (unhide K10).bel.size ?_; intro g11 c11 w11 o11 gr11 hg11; have K11 := hide ((unhide K10).turn o11 gr11 (by rcases hg11 with h | h; exact .inl (by rw [h]; rfl); exact .inr (by rw [h]; exact Nat.le_refl _))); have c22 := (unhide K11).blk.c 2 (by simp); have f22 := (unhide K11).blk.f 2 (by simp); simp only [List.getElem_cons_zero, List.getElem_cons_succ] at c22; clear o11 gr11 hg11))
                have hLs : ([] ++ z3.take k) ++ ([nm] ++ []) = insS z3 nm := by rw [unhide HINS]; simp
                have KF := ((unhide K11).put 2 (by simp) (.slice (some ⟨g11, 0, none⟩) (k + 1) c11))
                rw [hLs] at KF
                obtain ⟨W9, hW9⟩ : ∃ W, W = w11.setCell ⟨O, 2, none⟩ (.slice (some ⟨g11, 0, none⟩) (k + 1) c11) := ⟨_, rfl⟩
                rw [← hW9] at KF ⊢
                have HK : Hid (Kp W1 W9 O [.slice (some ⟨g1, 0, none⟩) l1 q1, .slice a2' n2 cp2, .slice (some ⟨g11, 0, none⟩) (k + 1) c11] [(.slice (some ⟨g1, 0, none⟩) l1 q1, z1), (.slice a2' n2 cp2, outS z2 nm), (.slice (some ⟨g11, 0, none⟩) (k + 1) c11, insS z3 nm)]) := hide ((KF.sub (.cons_cons _ (.cons _ (.cons_cons _ (.cons_cons _ (.cons _ .slnil)))))).perm (List.reverse_perm _).symm)
                have HN3 : Hid ((insS z3 nm).length = (k + 1)) := hide (by obtain ⟨_, _, e, _⟩ := ((unhide HK).own (.slice (some ⟨g11, 0, none⟩) (k + 1) c11, insS z3 nm) (by simp)).1.slice; simp only [Value.slice.injEq] at e; exact e.2.1.symm)
                clear KF hW9 hLs K11 K10 K9 K8 R9 c22 f22 e2 e3
                have RK8 := (unhide RK).below (unhide HK).bel
                have c0 : W9.cell? ⟨O, 0, none⟩ = some (.slice (some ⟨g1, 0, none⟩) l1 q1) := (unhide HK).blk.c 0 (by simp)
                have c1 : W9.cell? ⟨O, 1, none⟩ = some (.slice a2' n2 cp2) := (unhide HK).blk.c 1 (by simp)
                have c2 : W9.cell? ⟨O, 2, none⟩ = some (.slice (some ⟨g11, 0, none⟩) (k + 1) c11) := (unhide HK).blk.c 2 (by simp)
                have x0 : W9.cell? ⟨w.heap.size + 1, 0, none⟩ = some (.slice none 0 0) := RK8.c 0 (by simp)
                have x1 : W9.cell? ⟨w.heap.size + 1, 1, none⟩ = some (.slice none 0 0) := RK8.c 1 (by simp)
                have x2 : W9.cell? ⟨w.heap.size + 1, 2, none⟩ = some (.slice none 0 0) := RK8.c 2 (by simp)
                have f0 := RK8.f 0 (by simp)
                have f1 := RK8.f 1 (by simp)
                have f2 := RK8.f 2 (by simp)
                have RKS := hide (((RK8.set 0 (by simp) (.slice (some ⟨g1, 0, none⟩) l1 q1)).set 1 (by simp) (.slice a2' n2 cp2)).set 2 (by simp) (.slice (some ⟨g11, 0, none⟩) (k + 1) c11))
                have o8 := (unhide HK).three
                have ne : ∀ {v : Value} {L : List ByteArray}, OwnE 1 stC W9 W1.heap.size 9 v L → v.ownBlock ≠ some (w.heap.size + 1) := fun {v L} h e => by
                  have := (h.lies _ e).1
                  have := (unhide RK).lt
                  omega
                have HPO := hide (((((o8.set_other (S := w.heap.size + 1) (o := 0) (.slice (some ⟨g1, 0, none⟩) l1 q1) (ne o8.o1) (ne o8.o2) (ne o8.o3)).set_other (S := w.heap.size + 1) (o := 1) (.slice a2' n2 cp2) (ne o8.o1) (ne o8.o2) (ne o8.o3)).set_other (S := w.heap.size + 1) (o := 2) (.slice (some ⟨g11, 0, none⟩) (k + 1) c11) (ne o8.o1) (ne o8.o2) (ne o8.o3))).mono (unhide HB).size)
                have HBF := hide (((((unhide HB).trans ((unhide HK).bel.mono (unhide HB).size)).setCell (p := ⟨w.heap.size + 1, 0, none⟩) (by simp) (.slice (some ⟨g1, 0, none⟩) l1 q1)).setCell (p := ⟨w.heap.size + 1, 1, none⟩) (by simp) (.slice a2' n2 cp2)).setCell (p := ⟨w.heap.size + 1, 2, none⟩) (by simp) (.slice (some ⟨g11, 0, none⟩) (k + 1) c11))
                clear o8 RK8 ne
                go_wp2_with fail
                rw [(unhide HTY).1, (unhide HTY).2, unhide H3N, unhide HE, unhide HZ1, unhide HN3, unhide HN2]
                exact bodyPost_ret (results_cellB (vs := [.slice (some ⟨g1, 0, none⟩) l1 q1, .slice a2' n2 cp2, .slice (some ⟨g11, 0, none⟩) (k + 1) c11]) rfl Try.isAgg28 Try.sizeOf28 rfl (unhide RKS) rfl) rfl ⟨_, _, _, _, _, _, rfl, unhide HPO, unhide HBF⟩

end Go.Proofs.Ytjalfalgffphmaw

/-
  The law FnExactCloseFor returns true at every net and writes nothing that was there: the walk. No condition.
-/
import Derived.Test.YtfahhjgpgccdhapClSp3
import Derived.Test.YtfahhjgpgccdhapClIm2
import Derived.Test.YtfahhjgpgccdhapNetMark
import Derived.Deep.RegionHeld3
namespace Go.Proofs.Ytfahhjgpgccdhap
open Go.RowKit

set_option maxRecDepth 20000 in
set_option maxHeartbeats 4000000 in
theorem lawCloseFor (n : Int) (a1 a2 a3 : Option Addr) (l1 c1 l2 c2 l3 c3 : Nat) (ss : List Sr) (ts : List Ti) (us : List Us) (most : Int) (w : World) (hr : NetIn w a1 a2 a3 l1 l2 l3 ss ts us) :
    Calls Try.prog 5 #[.agg #[.int .i64 n, .slice a1 l1 c1, .slice a2 l2 c2, .slice a3 l3 c3], .int .i64 most] w fun x w' => x = .returned (.bool true) ∧ Below w.heap.size w w' := by
  have R := hide hr
  have s1 := hr.r1.small
  have s2 := hr.r2.small
  have s3 := hr.r3.small
  have Z1 := hide hr.r1.len_eq
  have Z2 := hide hr.r2.len_eq
  have Z3 := hide hr.r3.len_eq
  clear hr
  have KP := hide (Blk.new (w := w) [.int .i64 n, .slice a1 l1 c1, .slice a2 l2 c2, .slice a3 l3 c3] 26)
  have HB := hide (bel1 (w := w) (Obj.cells #[.int .i64 n, .slice a1 l1 c1, .slice a2 l2 c2, .slice a3 l3 c3] 26))
  have hq : (clB n ss ts us most != clB n ss ts us most) = false := by simp
  have hqe := eqB_refl (clL n ss ts us most)
  go_enter Try.func5, Try.ntmps5
  go_wp2_with fail
  refine (szNet7_any n a1 a2 a3 l1 c1 l2 c2 l3 c3 _ s1 s2 s3).mono ?_
  rintro x w1 ⟨⟨r, rfl, hl⟩, b⟩
  have HB := hide ((unhide HB).trans (b.mono (unhide HB).size))
  have KP := hide ((unhide KP).below b)
  have m0 : w1.cell? ⟨w.heap.size, 0, none⟩ = some (.int .i64 n) := (unhide KP).c 0 (by simp)
  have m1 : w1.cell? ⟨w.heap.size, 1, none⟩ = some (.slice a1 l1 c1) := (unhide KP).c 1 (by simp)
  have m2 : w1.cell? ⟨w.heap.size, 2, none⟩ = some (.slice a2 l2 c2) := (unhide KP).c 2 (by simp)
  have m3 : w1.cell? ⟨w.heap.size, 3, none⟩ = some (.slice a3 l3 c3) := (unhide KP).c 3 (by simp)
  clear b
  rcases hl with hl | ⟨hl, h1, h2, h3⟩
  · go_wp2_with fail
    go_ret
    exact ⟨rfl, unhide HB⟩
  have hl' : ¬ r < 0 := by omega
  go_wp2_with fail
  refine (toNet7_own n a1 a2 a3 l1 c1 l2 c2 l3 c3 ss ts us _ ((unhide R).below (unhide HB)) h1 h2 h3).mono ?_
  rintro x w2 ⟨⟨g1, g2, g3, rfl, o2⟩, b⟩
  have HB := hide ((unhide HB).trans (b.mono (unhide HB).size))
  have KP := hide ((unhide KP).below b)
  have I2 := hide o2.read
  clear b o2 m0 m1 m2 m3
  go_wp2_with fail
  refine (specCloseFor_any n _ _ _ _ _ _ _ _ _ ss ts us most _ (unhide I2)).mono ?_
  rintro x w3 ⟨av, cv, rfl, ov, ex, b⟩
  have hL8 := hide (show (clL n ss ts us most).length ≤ 1048576 from clL_small ex)
  have OW := hide (ov.mono (unhide HB).size)
  have LW := hide ov.lies
  have HB := hide ((unhide HB).trans (b.mono (unhide HB).size))
  have KP := hide ((unhide KP).below b)
  have m0 : w3.cell? ⟨w.heap.size, 0, none⟩ = some (.int .i64 n) := (unhide KP).c 0 (by simp)
  have m1 : w3.cell? ⟨w.heap.size, 1, none⟩ = some (.slice a1 l1 c1) := (unhide KP).c 1 (by simp)
  have m2 : w3.cell? ⟨w.heap.size, 2, none⟩ = some (.slice a2 l2 c2) := (unhide KP).c 2 (by simp)
  have m3 : w3.cell? ⟨w.heap.size, 3, none⟩ = some (.slice a3 l3 c3) := (unhide KP).c 3 (by simp)
  clear b I2 ov ex
  go_wp2_with fail
  refine (toNet7_own n a1 a2 a3 l1 c1 l2 c2 l3 c3 ss ts us _ ((unhide R).below (unhide HB)) h1 h2 h3).mono ?_
  rintro x w4 ⟨⟨k1, k2, k3, rfl, o4⟩, b⟩
  have LX : Hid (w3.heap.size ≤ k1 ∧ k1 < k2 ∧ k2 < k3 ∧ k3 < w4.heap.size) := hide ⟨(o4.o1.lies k1 rfl).1, o4.n12, o4.n23, (o4.o3.lies k3 rfl).2⟩
  have P3 : Hid (w.heap.size < w3.heap.size) := hide (unhide KP).lt
  have HB := hide ((unhide HB).trans (b.mono (unhide HB).size))
  have KP := hide ((unhide KP).below b)
  have OW := hide ((unhide OW).below b)
  clear b m0 m1 m2 m3
  obtain ⟨V, hV⟩ : ∃ V, V = w4.alloc (Obj.cells #[.int .i64 n, .slice (some ⟨k1, 0, none⟩) l1 l1, .slice (some ⟨k2, 0, none⟩) l2 l2, .slice (some ⟨k3, 0, none⟩) l3 l3] 33) := ⟨_, rfl⟩
  have bV : Below w4.heap.size w4 V := by rw [hV]; exact bel1 _
  have KX : Hid (Blk V w4.heap.size [.int .i64 n, .slice (some ⟨k1, 0, none⟩) l1 l1, .slice (some ⟨k2, 0, none⟩) l2 l2, .slice (some ⟨k3, 0, none⟩) l3 l3]) := hide (by rw [hV]; exact Blk.new _ _)
  have NX := hide (o4.below bV)
  have HB := hide ((unhide HB).trans (bV.mono (unhide HB).size))
  have KP := hide ((unhide KP).below bV)
  have OW := hide ((unhide OW).below bV)
  have HV := hide hV
  have sV : w4.heap.size ≤ V.heap.size := bV.size
  obtain ⟨X, hX⟩ : ∃ X, w4.heap.size = X := ⟨_, rfl⟩
  rw [hX] at KX LX sV
  have HX := hide hX
  clear hV bV o4 hX
  go_wp2_with fail
  rw [← unhide HV, unhide HX]
  clear HV HX
  refine (implCloseFor_any n _ _ _ _ _ _ _ _ _ ss ts us most _ (unhide NX).read).mono ?_
  rintro x w5 ⟨ag, cg, rfl, og, ex, b⟩
  have OG := hide og
  have LG := hide og.lies
  have HB := hide ((unhide HB).trans (b.mono (unhide HB).size))
  have KP := hide ((unhide KP).below b)
  have OW := hide ((unhide OW).below b)
  have KX := hide ((unhide KX).below b)
  have NX := hide ((unhide NX).below b)
  clear b og ex
  go_wp2_with fail
  refine (eqIntS_any _ _ _ _ _ _ (clL n ss ts us most) (clL n ss ts us most) _ (unhide OG).row (unhide OW).row).mono ?_
  rintro x w6 ⟨rfl, n6, hw6⟩
  rw [hqe]
  have b : Below w5.heap.size w5 w6 := by rw [hw6]; exact bel0d n6
  have HB := hide ((unhide HB).trans (b.mono (unhide HB).size))
  have KP := hide ((unhide KP).below b)
  have OW := hide ((unhide OW).below b)
  have KX := hide ((unhide KX).below b)
  have NX := hide ((unhide NX).below b)
  have OG := hide ((unhide OG).below b)
  clear b hw6
  have m0 : w6.cell? ⟨w.heap.size, 0, none⟩ = some (.int .i64 n) := (unhide KP).c 0 (by simp)
  have m1 : w6.cell? ⟨w.heap.size, 1, none⟩ = some (.slice a1 l1 c1) := (unhide KP).c 1 (by simp)
  have m2 : w6.cell? ⟨w.heap.size, 2, none⟩ = some (.slice a2 l2 c2) := (unhide KP).c 2 (by simp)
  have m3 : w6.cell? ⟨w.heap.size, 3, none⟩ = some (.slice a3 l3 c3) := (unhide KP).c 3 (by simp)
  have n0 : w6.cell? ⟨X, 0, none⟩ = some (.int .i64 n) := (unhide KX).c 0 (by simp)
  have n1 : w6.cell? ⟨X, 1, none⟩ = some (.slice (some ⟨k1, 0, none⟩) l1 l1) := (unhide KX).c 1 (by simp)
  have n2 : w6.cell? ⟨X, 2, none⟩ = some (.slice (some ⟨k2, 0, none⟩) l2 l2) := (unhide KX).c 2 (by simp)
  have n3 : w6.cell? ⟨X, 3, none⟩ = some (.slice (some ⟨k3, 0, none⟩) l3 l3) := (unhide KX).c 3 (by simp)
  have K : Hid (Below w6.heap.size w6 w6) := hide (Below.refl _ _)
  go_wp2_with fail
  go_region_held3 (fun w' => w'.cell? ⟨w.heap.size, 0, none⟩ = some (.int .i64 n) ∧ w'.cell? ⟨w.heap.size, 1, none⟩ = some (.slice a1 l1 c1) ∧ w'.cell? ⟨w.heap.size, 2, none⟩ = some (.slice a2 l2 c2) ∧ w'.cell? ⟨w.heap.size, 3, none⟩ = some (.slice a3 l3 c3) ∧ w'.cell? ⟨X, 0, none⟩ = some (.int .i64 n) ∧ w'.cell? ⟨X, 1, none⟩ = some (.slice (some ⟨k1, 0, none⟩) l1 l1) ∧ w'.cell? ⟨X, 2, none⟩ = some (.slice (some ⟨k2, 0, none⟩) l2 l2) ∧ w'.cell? ⟨X, 3, none⟩ = some (.slice (some ⟨k3, 0, none⟩) l3 l3)) (go_keep)
    ((first
      | (go_at_call 10; refine (toNet7_own n a1 a2 a3 l1 c1 l2 c2 l3 c3 ss ts us _ ((unhide R).below (show Below w.heap.size w _ from by first | exact (unhide HB).trans ((unhide K).mono (unhide HB).size) | exact ((unhide HB).trans ((unhide K).mono (unhide HB).size)).trans (bel0d' 1))) h1 h2 h3).mono ?_; rintro x w7 ⟨⟨e1, e2, e3, rfl, o6⟩, b⟩; have I6 := hide o6.read; clear o6; have K := hide (show Below w6.heap.size w6 w7 from by first | exact (unhide K).trans (b.mono (unhide K).size) | exact ((unhide K).trans (bel0d' 1)).trans (b.mono (unhide K).size)); have Y := (unhide KP).below (unhide K); have Z := (unhide KX).below (unhide K); clear m0 m1 m2 m3 n0 n1 n2 n3; have m0 := Y.c 0 (by simp); have m1 := Y.c 1 (by simp); have m2 := Y.c 2 (by simp); have m3 := Y.c 3 (by simp); have n0 := Z.c 0 (by simp); have n1 := Z.c 1 (by simp); have n2 := Z.c 2 (by simp); have n3 := Z.c 3 (by simp); clear Y Z b)
      | (go_at_call 12; refine (eqNet7_any n _ _ _ _ _ _ _ _ _ _ _ _ _ _ _ ss ts us _ (by first | exact (unhide NX).read.below (unhide K) | exact ((unhide NX).read.below (unhide K)).below (bel0d 1)) (by first | exact unhide I6 | exact (unhide I6).below (bel0d 1))).mono ?_; rintro x w8 ⟨rfl, b⟩; have K := hide (show Below w6.heap.size w6 w8 from by first | exact (unhide K).trans (b.mono (unhide K).size) | exact ((unhide K).trans (bel0d' 1)).trans (b.mono (unhide K).size)); have Y := (unhide KP).below (unhide K); have Z := (unhide KX).below (unhide K); clear m0 m1 m2 m3 n0 n1 n2 n3; have m0 := Y.c 0 (by simp); have m1 := Y.c 1 (by simp); have m2 := Y.c 2 (by simp); have m3 := Y.c 3 (by simp); have n0 := Z.c 0 (by simp); have n1 := Z.c 1 (by simp); have n2 := Z.c 2 (by simp); have n3 := Z.c 3 (by simp); clear Y Z b)))
  have b := unhide K
  have HB := hide ((unhide HB).trans (b.mono (unhide HB).size))
  have KP := hide ((unhide KP).below b)
  have OW := hide ((unhide OW).below b)
  have KX := hide ((unhide KX).below b)
  have NX := hide ((unhide NX).below b)
  have OG := hide ((unhide OG).below b)
  clear b K m0 m1 m2 m3 n0 n1 n2 n3
  have n0 : w8.cell? ⟨X, 0, none⟩ = some (.int .i64 n) := (unhide KX).c 0 (by simp)
  have n1 : w8.cell? ⟨X, 1, none⟩ = some (.slice (some ⟨k1, 0, none⟩) l1 l1) := (unhide KX).c 1 (by simp)
  have n2 : w8.cell? ⟨X, 2, none⟩ = some (.slice (some ⟨k2, 0, none⟩) l2 l2) := (unhide KX).c 2 (by simp)
  have n3 : w8.cell? ⟨X, 3, none⟩ = some (.slice (some ⟨k3, 0, none⟩) l3 l3) := (unhide KX).c 3 (by simp)
  go_wp2_with fail
  refine (markNet7_any n _ k1 k2 k3 l1 l2 l3 ss ts us _ (unhide NX) (unhide Z1) (unhide Z2) (unhide Z3) h1 h2 h3).mono ?_
  rintro x w9 ⟨⟨mk, rfl, hmk⟩, wa, wb, wc, ba, ra, rb, rc⟩
  have hmk' : ¬ mk < 0 := by omega
  obtain ⟨x1, x2, x3, x4⟩ := unhide LX
  have p3 := unhide P3
  have fw : ∀ g, (Value.slice av (clL n ss ts us most).length cv).ownBlock = some g → g < k1 := fun g hg => by have := (unhide LW g hg).2; omega
  have fg : ∀ g, (Value.slice ag (clL n ss ts us most).length cg).ownBlock = some g → k3 < g := fun g hg => by have := (unhide LG g hg).1; omega
  have HB := hide ((unhide HB).trans (ba.mono (unhide HB).size))
  have KP := hide ((unhide KP).below ba)
  have OW := hide ((unhide OW).below ba)
  have OG := hide ((unhide OG).below ba)
  have HB := hide ((unhide HB).grown ra (unhide HB).size (fun i hi => by have := Option.some.inj (show some k1 = some i from hi); omega))
  have KP := hide ((unhide KP).far ra (fun e => by have := Option.some.inj (show some w.heap.size = some k1 from e); omega))
  have OW := hide ((unhide OW).far ra (fun g hg e => by have h1 := fw g hg; have h2 := Option.some.inj (show some g = some k1 from e); omega))
  have OG := hide ((unhide OG).far ra (fun g hg e => by have h1 := fg g hg; have h2 := Option.some.inj (show some g = some k1 from e); omega))
  have HB := hide ((unhide HB).grown rb (unhide HB).size (fun i hi => by have := Option.some.inj (show some k2 = some i from hi); omega))
  have KP := hide ((unhide KP).far rb (fun e => by have := Option.some.inj (show some w.heap.size = some k2 from e); omega))
  have OW := hide ((unhide OW).far rb (fun g hg e => by have h1 := fw g hg; have h2 := Option.some.inj (show some g = some k2 from e); omega))
  have OG := hide ((unhide OG).far rb (fun g hg e => by have h1 := fg g hg; have h2 := Option.some.inj (show some g = some k2 from e); omega))
  have HB := hide ((unhide HB).grown rc (unhide HB).size (fun i hi => by have := Option.some.inj (show some k3 = some i from hi); omega))
  have KP := hide ((unhide KP).far rc (fun e => by have := Option.some.inj (show some w.heap.size = some k3 from e); omega))
  have OW := hide ((unhide OW).far rc (fun g hg e => by have h1 := fw g hg; have h2 := Option.some.inj (show some g = some k3 from e); omega))
  have OG := hide ((unhide OG).far rc (fun g hg e => by have h1 := fg g hg; have h2 := Option.some.inj (show some g = some k3 from e); omega))
  have HFW := hide fw
  have HFG := hide fg
  clear ba ra rb rc fw fg n0 n1 n2 n3 KX NX
  go_wp2_with fail
  refine (eqIntS_any _ _ _ _ _ _ (clL n ss ts us most) (clL n ss ts us most) _ (unhide OG).row (unhide OW).row).mono ?_
  rintro x w10 ⟨rfl, n10, hw10⟩
  rw [hqe]
  have b : Below w9.heap.size w9 w10 := by rw [hw10]; exact bel0d n10
  have HB := hide ((unhide HB).trans (b.mono (unhide HB).size))
  have KP := hide ((unhide KP).below b)
  have OW := hide ((unhide OW).below b)
  have OG := hide ((unhide OG).below b)
  clear b hw10
  go_wp2_with fail
  refine (markIntS_own _ ag _ cg (clL n ss ts us most) 1 _ (unhide OG) rfl (by have := unhide hL8; omega) (by omega) (by omega)).mono ?_
  rintro x w11 ⟨rfl, om, rm⟩
  have HB := hide ((unhide HB).grown rm (unhide HB).size (fun i hi => by have := (unhide HFG) i hi; omega))
  have KP := hide ((unhide KP).far rm (fun e => by have := (unhide HFG) _ e.symm; omega))
  have OW := hide ((unhide OW).far rm (fun g hg e => by have h1 := (unhide HFW) g hg; have h2 := (unhide HFG) g e.symm; omega))
  have OM := hide om
  clear om rm OG
  go_wp2_with fail
  refine (heldIntS_any _ ag _ cg (clL n ss ts us most) 1 _ (unhide OM) rfl (by have := unhide hL8; omega) (by omega) (by omega)).mono ?_
  rintro x w' ⟨rfl, hw⟩
  subst w'
  have hk2 : ((1 : Int) + ((clL n ss ts us most).length : Int) != (1 : Int) + ((clL n ss ts us most).length : Int)) = false := by simp
  have hk3 : ¬ ((1 : Int) + ((clL n ss ts us most).length : Int) < 0) := by omega
  have m0 : w11.cell? ⟨w.heap.size, 0, none⟩ = some (.int .i64 n) := (unhide KP).c 0 (by simp)
  have m1 : w11.cell? ⟨w.heap.size, 1, none⟩ = some (.slice a1 l1 c1) := (unhide KP).c 1 (by simp)
  have m2 : w11.cell? ⟨w.heap.size, 2, none⟩ = some (.slice a2 l2 c2) := (unhide KP).c 2 (by simp)
  have m3 : w11.cell? ⟨w.heap.size, 3, none⟩ = some (.slice a3 l3 c3) := (unhide KP).c 3 (by simp)
  go_wp2_with fail
  refine (toNet7_own n a1 a2 a3 l1 c1 l2 c2 l3 c3 ss ts us _ ((unhide R).below (unhide HB)) h1 h2 h3).mono ?_
  rintro x w12 ⟨⟨e1, e2, e3, rfl, o12⟩, b⟩
  have I12 := hide o12.read
  have HB := hide ((unhide HB).trans (b.mono (unhide HB).size))
  have KP := hide ((unhide KP).below b)
  have OW := hide ((unhide OW).below b)
  have OM := hide ((unhide OM).below b)
  clear b o12 m0 m1 m2 m3
  go_wp2_with fail
  refine (implCloseFor_any n _ _ _ _ _ _ _ _ _ ss ts us most _ (unhide I12)).mono ?_
  rintro x w13 ⟨ah, ch, rfl, oh, _, b⟩
  have OH := hide oh
  have HB := hide ((unhide HB).trans (b.mono (unhide HB).size))
  have KP := hide ((unhide KP).below b)
  have OW := hide ((unhide OW).below b)
  have OM := hide ((unhide OM).below b)
  clear b oh I12
  go_wp2_with fail
  refine (eqIntS_any _ _ _ _ _ _ (clL n ss ts us most) (clL n ss ts us most) _ (unhide OH).row (unhide OW).row).mono ?_
  rintro x w14 ⟨rfl, n14, hw14⟩
  rw [hqe]
  have b : Below w13.heap.size w13 w14 := by rw [hw14]; exact bel0d n14
  have HB := hide ((unhide HB).trans (b.mono (unhide HB).size))
  have KP := hide ((unhide KP).below b)
  have OW := hide ((unhide OW).below b)
  have OM := hide ((unhide OM).below b)
  clear b hw14
  go_wp2_with fail
  refine (heldIntS_any _ ag _ cg (clL n ss ts us most) 1 _ (unhide OM) rfl (by have := unhide hL8; omega) (by omega) (by omega)).mono ?_
  rintro x w' ⟨rfl, hw⟩
  subst w'
  go_wp2_with fail
  go_ret
  exact ⟨rfl, unhide HB⟩

end Go.Proofs.Ytfahhjgpgccdhap

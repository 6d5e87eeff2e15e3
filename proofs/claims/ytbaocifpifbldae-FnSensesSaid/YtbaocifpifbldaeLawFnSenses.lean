/-
  The law FnSenses returns true at every list of bytes and writes nothing that was there: the walk. No condition.
-/
import Derived.Test.YtbaocifpifbldaeTaMeet
import Derived.Test.YtbaocifpifbldaeTaPim
import Derived.Test.YtbaocifpifbldaeTaNear
import Derived.Test.YtbaocifpifbldaeTaSens
namespace Go.Proofs.Ytbaocifpifbldae
open Go.RowKit

theorem rowTc_one (w : World) (x0 x1 x2 x3 x4 x5 : Int) (T : TypeId) : RowE 6 tcC (w.alloc (Obj.cells #[.int .i64 x0, .int .i64 x1, .int .i64 x2, .int .i64 x3, .int .i64 x4, .int .i64 x5] T)) (some ⟨w.heap.size, 0, none⟩) 1 [⟨x0, x1, x2, x3, x4, x5⟩] := by
  refine ⟨rfl, by omega, fun i hi => ⟨_, _, rfl, fun q hq => ?_⟩⟩
  have e : i = 0 := by omega
  subst e
  rcases (show q = 0 ∨ q = 1 ∨ q = 2 ∨ q = 3 ∨ q = 4 ∨ q = 5 by omega) with rfl | rfl | rfl | rfl | rfl | rfl <;> simp [go_sem, tcC, elAt]

set_option maxRecDepth 20000 in
set_option maxHeartbeats 1000000 in
theorem lawFnSenses_big (a : Option Addr) (len cap : Nat) (w : World) (h : (1048576 : Int) < len) :
    Calls Try.prog 7 #[.slice a len cap] w fun e w' => e = .returned (.bool true) ∧ Below w.heap.size w w' := by
  have hd : decide ((1048576 : Int) < len) = true := by simpa using h
  go_enter Try.func7, Try.ntmps7
  go_wp2_with fail
  refine (big_any a len cap _).mono ?_
  rintro e w' ⟨rfl, hw⟩
  subst w'
  rw [hd]
  go_wp2
  go_ret
  exact ⟨rfl, Below.refl _ _⟩

set_option maxRecDepth 20000 in
set_option maxHeartbeats 2000000 in
theorem lawFnSenses_small (a : Option Addr) (len cap : Nat) (w : World) (h : ¬ (1048576 : Int) < len) (hb : Bytes w a len) (hin : ∀ b off, a = some ⟨b, off, none⟩ → b < w.heap.size) :
    Calls Try.prog 7 #[.slice a len cap] w fun e w' => e = .returned (.bool true) ∧ Below w.heap.size w w' := by
  have hd0 : decide ((1048576 : Int) < len) = false := by simpa using h
  have HY := hide hb
  have HIN := hide hin
  clear hb h hin
  go_enter Try.func7, Try.ntmps7
  go_wp2_with fail
  refine (big_any a len cap _).mono ?_
  rintro e w' ⟨rfl, hw⟩
  subst w'
  rw [hd0]
  clear hd0
  go_wp2_with fail
  refine (drawMeet_any a len cap _ (unhide HY) (unhide HIN)).mono ?_
  rintro x W ⟨ai, ah, ac, bi, bh, bc, far, cl, rfl, h1, h2, hne, h3, h4, h5, h6, hf, hc, b⟩
  have HWW : Hid (w.heap.size ≤ W.heap.size) := hide b.size
  have B0 := hide b
  clear b HY HIN
  have HAV := hide (avB_yes (s := 0) (by omega : 1 ≤ ai ∧ ai ≤ 1000000) (by omega : 0 ≤ ah ∧ ah ≤ 60000) (by omega : -200 ≤ ac ∧ ac ≤ 200) (by omega))
  have HBV := hide (avB_yes (s := 0) (by omega : 1 ≤ bi ∧ bi ≤ 1000000) (by omega : 0 ≤ bh ∧ bh ≤ 60000) (by omega : -200 ≤ bc ∧ bc ≤ 200) (by omega))
  have pm := pr_meet (near := 600) (wi := 100) (unhide HAV) (unhide HBV) hne (by omega : 0 ≤ far ∧ far ≤ 1000000) (by omega : 1 ≤ cl ∧ cl ≤ 1000) (by decide) (by decide)
  have HP1 : Hid (prB15 ai ah ac 0 bi bh bc 0 far cl 600 100 = true) := hide (prB_meet (unhide HAV) (unhide HBV) hne (by omega) (by omega) (by decide) (by decide))
  have HP2 : Hid (prB15 bi bh bc 0 ai ah ac 0 far cl 600 100 = true) := hide (prB_meet (unhide HBV) (unhide HAV) (fun e => hne e.symm) (by omega) (by omega) (by decide) (by decide))
  obtain ⟨X, hX⟩ : ∃ z, pr1 ai ah ac 0 bi bh bc 0 far cl 600 100 = z := ⟨_, rfl⟩
  obtain ⟨Y, hY⟩ : ∃ z, pr2 ai ah ac 0 bi bh bc 0 far cl 600 100 = z := ⟨_, rfl⟩
  rw [hX, hY] at pm
  have HX := hide hX
  have HYY := hide hY
  have HX2 := hide pm.1.2
  have HY2 := hide pm.1.1
  have HN0 := hide pm.2.1
  have HS0 := hide pm.2.2
  clear pm hX hY
  have HTB := hide (tiB_yes (tcB_yes (unhide HBV) (by omega : 0 ≤ far ∧ far ≤ 1000000) (by omega : -1000 ≤ cl ∧ cl ≤ 1000)) (by omega : 0 < cl))
  have HTC := hide (tiB_facts (unhide HTB)).1
  obtain ⟨tb, htb⟩ : ∃ z, thB ai ah ac 0 bi bh bc far cl 0 600 100 = z := ⟨_, rfl⟩
  have HT := hide htb
  clear htb
  have HNV := hide (tiN_yes (unhide HTB))
  have tr := ticks_reach (far := far) (cl := cl) (by omega) (by omega)
  have tq := tiQ (f := far) (k := cl) (by omega) (by omega) (by omega) (by omega)
  obtain ⟨n, hn⟩ : ∃ z, (far + cl - 1).tdiv cl = z := ⟨_, rfl⟩
  rw [hn] at tr tq
  have HNV : Hid (tiN bi bh bc far cl 0 = n) := hide ((unhide HNV).trans hn)
  clear hn
  have m1 := mulBd (s := n) (d := cl) (A := 1001000) (B := 1000) (by omega) (by omega) (by omega) (by omega) (by omega) (by omega)
  have m2 : (n - 1) * cl = n * cl - cl := by rw [Int.sub_mul, Int.one_mul]
  go_wp2_with fail
  obtain ⟨V, hV⟩ : ∃ V, V = (W.alloc (Obj.cells #[.int .i64 ai, .int .i64 ah, .int .i64 ac, .int .i64 0] 76)).alloc (Obj.cells #[.int .i64 bi, .int .i64 bh, .int .i64 bc, .int .i64 0] 76) := ⟨_, rfl⟩
  rw [← hV]
  have K0 : Hid (Blk V W.heap.size [.int .i64 ai, .int .i64 ah, .int .i64 ac, .int .i64 0]) := hide (by rw [hV]; exact blkAt2_0)
  have K1 : Hid (Blk V (W.heap.size + 1) [.int .i64 bi, .int .i64 bh, .int .i64 bc, .int .i64 0]) := hide (by rw [hV]; exact blkAt2_1)
  have B0 := hide ((unhide B0).trans ((by rw [hV]; exact bel2 _ _ : Below W.heap.size W V).mono (unhide B0).size))
  have HVL : Hid (W.heap.size + 1 < V.heap.size) := hide (unhide K1).lt
  clear hV
  obtain ⟨ι, fW, _, hb, hall⟩ := belClass V
  have HB := hide hb
  have HA := hide hall
  have c00 : ∀ x, (fW x).cell? ⟨W.heap.size, 0, none⟩ = some (.int .i64 ai) := fun x => ((unhide K0).below (hb x)).c 0 (by simp)
  have c01 : ∀ x, (fW x).cell? ⟨W.heap.size, 1, none⟩ = some (.int .i64 ah) := fun x => ((unhide K0).below (hb x)).c 1 (by simp)
  have c02 : ∀ x, (fW x).cell? ⟨W.heap.size, 2, none⟩ = some (.int .i64 ac) := fun x => ((unhide K0).below (hb x)).c 2 (by simp)
  have c03 : ∀ x, (fW x).cell? ⟨W.heap.size, 3, none⟩ = some (.int .i64 0) := fun x => ((unhide K0).below (hb x)).c 3 (by simp)
  have c10 : ∀ x, (fW x).cell? ⟨W.heap.size + 1, 0, none⟩ = some (.int .i64 bi) := fun x => ((unhide K1).below (hb x)).c 0 (by simp)
  have c11 : ∀ x, (fW x).cell? ⟨W.heap.size + 1, 1, none⟩ = some (.int .i64 bh) := fun x => ((unhide K1).below (hb x)).c 1 (by simp)
  have c12 : ∀ x, (fW x).cell? ⟨W.heap.size + 1, 2, none⟩ = some (.int .i64 bc) := fun x => ((unhide K1).below (hb x)).c 2 (by simp)
  have c13 : ∀ x, (fW x).cell? ⟨W.heap.size + 1, 3, none⟩ = some (.int .i64 0) := fun x => ((unhide K1).below (hb x)).c 3 (by simp)
  clear hb hall
  obtain ⟨x0, h0⟩ := (unhide HA) V (Below.refl _ _)
  rw [h0]
  clear h0
  have qx : (X != X) = false := by simp
  have qy : (Y != Y) = false := by simp
  refine (belQ (unhide HB) (unhide HA) (implPair_is ai ah ac 0 bi bh bc 0 far cl 600 100 _ (unhide HX) (unhide HYY) (unhide HP1))).mono ?_
  rintro e _ ⟨rfl, y1, rfl⟩
  go_wp2_with fail
  refine (belQ (unhide HB) (unhide HA) (implPair_is bi bh bc 0 ai ah ac 0 far cl 600 100 _ (unhide HY2) (unhide HX2) (unhide HP2))).mono ?_
  rintro e _ ⟨rfl, y2, rfl⟩
  go_wp2_with fail
  refine (belQ (unhide HB) (unhide HA) (implOwnOk_is ai ah ac 0 _ (unhide HAV))).mono ?_
  rintro e _ ⟨rfl, y3, rfl⟩
  have d0 : ((fW y3).alloc (Obj.cells #[.int .i64 bi, .int .i64 bh, .int .i64 bc, .int .i64 far, .int .i64 cl, .int .i64 0] 83)).cell? ⟨W.heap.size, 0, none⟩ = some (.int .i64 ai) := (((unhide K0).below (unhide HB y3)).alloc _).c 0 (by simp)
  have d1 : ((fW y3).alloc (Obj.cells #[.int .i64 bi, .int .i64 bh, .int .i64 bc, .int .i64 far, .int .i64 cl, .int .i64 0] 83)).cell? ⟨W.heap.size, 1, none⟩ = some (.int .i64 ah) := (((unhide K0).below (unhide HB y3)).alloc _).c 1 (by simp)
  have d2 : ((fW y3).alloc (Obj.cells #[.int .i64 bi, .int .i64 bh, .int .i64 bc, .int .i64 far, .int .i64 cl, .int .i64 0] 83)).cell? ⟨W.heap.size, 2, none⟩ = some (.int .i64 ac) := (((unhide K0).below (unhide HB y3)).alloc _).c 2 (by simp)
  have d3 : ((fW y3).alloc (Obj.cells #[.int .i64 bi, .int .i64 bh, .int .i64 bc, .int .i64 far, .int .i64 cl, .int .i64 0] 83)).cell? ⟨W.heap.size, 3, none⟩ = some (.int .i64 0) := (((unhide K0).below (unhide HB y3)).alloc _).c 3 (by simp)
  go_wp2_with fail
  clear d0 d1 d2 d3
  obtain ⟨V2, hV2⟩ : ∃ V, V = (fW y3).alloc (Obj.cells #[.int .i64 bi, .int .i64 bh, .int .i64 bc, .int .i64 far, .int .i64 cl, .int .i64 0] 83) := ⟨_, rfl⟩
  rw [← hV2]
  have K2 : Hid (Blk V2 (fW y3).heap.size [.int .i64 bi, .int .i64 bh, .int .i64 bc, .int .i64 far, .int .i64 cl, .int .i64 0]) := hide (by rw [hV2]; exact Blk.new _ _)
  have K0 : Hid (Blk V2 W.heap.size [.int .i64 ai, .int .i64 ah, .int .i64 ac, .int .i64 0]) := hide (by rw [hV2]; exact ((unhide K0).below (unhide HB y3)).alloc _)
  have K1 : Hid (Blk V2 (W.heap.size + 1) [.int .i64 bi, .int .i64 bh, .int .i64 bc, .int .i64 0]) := hide (by rw [hV2]; exact ((unhide K1).below (unhide HB y3)).alloc _)
  have B0 : Hid (Below w.heap.size w V2) := hide (by rw [hV2]; exact (unhide B0).trans ((belAl (unhide HB y3) _).mono (unhide B0).size))
  obtain ⟨P, hP⟩ : ∃ P, P = (fW y3).heap.size := ⟨_, rfl⟩
  have hPW : Hid (W.heap.size + 1 < P) := hide (by rw [hP]; have q1 := (unhide HB y3).size; have q2 := unhide HVL; omega)
  rw [← hP] at K2 ⊢
  clear hP hV2 HA HB qx qy HVL c00 c01 c02 c03 c10 c11 c12 c13
  obtain ⟨ι, fW, _, hb, hall⟩ := belClass V2
  have HB := hide hb
  have HA := hide hall
  have c00 : ∀ x, (fW x).cell? ⟨W.heap.size, 0, none⟩ = some (.int .i64 ai) := fun x => ((unhide K0).below (hb x)).c 0 (by simp)
  have c01 : ∀ x, (fW x).cell? ⟨W.heap.size, 1, none⟩ = some (.int .i64 ah) := fun x => ((unhide K0).below (hb x)).c 1 (by simp)
  have c02 : ∀ x, (fW x).cell? ⟨W.heap.size, 2, none⟩ = some (.int .i64 ac) := fun x => ((unhide K0).below (hb x)).c 2 (by simp)
  have c03 : ∀ x, (fW x).cell? ⟨W.heap.size, 3, none⟩ = some (.int .i64 0) := fun x => ((unhide K0).below (hb x)).c 3 (by simp)
  have c10 : ∀ x, (fW x).cell? ⟨W.heap.size + 1, 0, none⟩ = some (.int .i64 bi) := fun x => ((unhide K1).below (hb x)).c 0 (by simp)
  have c11 : ∀ x, (fW x).cell? ⟨W.heap.size + 1, 1, none⟩ = some (.int .i64 bh) := fun x => ((unhide K1).below (hb x)).c 1 (by simp)
  have c12 : ∀ x, (fW x).cell? ⟨W.heap.size + 1, 2, none⟩ = some (.int .i64 bc) := fun x => ((unhide K1).below (hb x)).c 2 (by simp)
  have c13 : ∀ x, (fW x).cell? ⟨W.heap.size + 1, 3, none⟩ = some (.int .i64 0) := fun x => ((unhide K1).below (hb x)).c 3 (by simp)
  have c20 : ∀ x, (fW x).cell? ⟨P, 0, none⟩ = some (.int .i64 bi) := fun x => ((unhide K2).below (hb x)).c 0 (by simp)
  have c21 : ∀ x, (fW x).cell? ⟨P, 1, none⟩ = some (.int .i64 bh) := fun x => ((unhide K2).below (hb x)).c 1 (by simp)
  have c22 : ∀ x, (fW x).cell? ⟨P, 2, none⟩ = some (.int .i64 bc) := fun x => ((unhide K2).below (hb x)).c 2 (by simp)
  have c23 : ∀ x, (fW x).cell? ⟨P, 3, none⟩ = some (.int .i64 far) := fun x => ((unhide K2).below (hb x)).c 3 (by simp)
  have c24 : ∀ x, (fW x).cell? ⟨P, 4, none⟩ = some (.int .i64 cl) := fun x => ((unhide K2).below (hb x)).c 4 (by simp)
  have c25 : ∀ x, (fW x).cell? ⟨P, 5, none⟩ = some (.int .i64 0) := fun x => ((unhide K2).below (hb x)).c 5 (by simp)
  clear hb hall
  obtain ⟨x1, h0⟩ := (unhide HA) V2 (Below.refl _ _)
  rw [h0]
  clear h0
  refine (belQ (unhide HB) (unhide HA) (implThreat_is ai ah ac 0 bi bh bc far cl 0 600 100 _ (unhide HT))).mono ?_
  rintro e _ ⟨rfl, y4, rfl⟩
  go_wp2_with fail
  refine (belQ (unhide HB) (unhide HA) (implTicksTo_is bi bh bc far cl 0 _ (unhide HNV) (unhide HTB))).mono ?_
  rintro e _ ⟨rfl, y5, rfl⟩
  go_wp2_with fail
  refine (belQ (unhide HB) (unhide HA) (implTrackOk_is bi bh bc far cl 0 _ (unhide HTC))).mono ?_
  rintro e _ ⟨rfl, y6, rfl⟩
  have r1 : ¬ n * cl < far := by omega
  have r2 : decide (n * cl < far) = false := decide_eq_false r1
  have r3 : ¬ far ≤ (n - 1) * cl := by
    by_cases g : 0 < n
    · have := tr.2 g; omega
    · have g0 : n = 0 := by omega
      subst g0; omega
  have r4 : decide (far ≤ (n - 1) * cl) = false := decide_eq_false r3
  have m3 : -(1001000 * 1000) ≤ (n - 1) * cl ∧ (n - 1) * cl ≤ 1001000 * 1000 := mulBd (by omega) (by omega) (by omega) (by omega) (by omega) (by omega)
  clear m2 tr
  cases tb with
  | false =>
    have hxy := unhide HN0 (unhide HT)
    obtain ⟨hx0, hy0⟩ := hxy
    have HQ1 : Hid (nrI ai ah ac 0 600 100 [⟨bi, bh, bc, far, cl, 0⟩] = -1) := hide (by rw [(nr_one _).1]; simp [unhide HT])
    have HQ2 : Hid (nrB ai ah ac 0 600 100 [⟨bi, bh, bc, far, cl, 0⟩] = false) := hide (by rw [(nr_one _).2]; exact unhide HT)
    subst hx0
    subst hy0
    go_wp2_with fail
    refine (belG (unhide HA) (belAl (unhide HB _) _) (implNearest_is ai ah ac 0 600 100 _ 1 1 [⟨bi, bh, bc, far, cl, 0⟩] _ (rowTc_one _ _ _ _ _ _ _ _) (unhide HQ1) (unhide HQ2))).mono ?_
    rintro e _ ⟨rfl, y7, rfl⟩
    go_wp2_with fail
    go_ret
    exact ⟨rfl, (unhide B0).trans ((unhide HB _).mono (unhide B0).size)⟩
  | true =>
    obtain ⟨h12, h30⟩ := unhide HS0 (unhide HT)
    rcases h12 with hx | hx
    · have hy : Y = 2 := by omega
      subst hx
      subst hy
      clear h30
      have z0 : ∀ x, (fW x).frozen? ⟨W.heap.size, 3, none⟩ = false := fun x => ((unhide K0).below (unhide HB x)).f 3 (by simp)
      have d0 : ((fW y6).setCell ⟨W.heap.size, 3, none⟩ (.int .i64 1)).cell? ⟨W.heap.size, 0, none⟩ = some (.int .i64 ai) := (((unhide K0).below (unhide HB y6)).set 3 (by simp) (.int .i64 1)).c 0 (by simp)
      have d1 : ((fW y6).setCell ⟨W.heap.size, 3, none⟩ (.int .i64 1)).cell? ⟨W.heap.size, 1, none⟩ = some (.int .i64 ah) := (((unhide K0).below (unhide HB y6)).set 3 (by simp) (.int .i64 1)).c 1 (by simp)
      have d2 : ((fW y6).setCell ⟨W.heap.size, 3, none⟩ (.int .i64 1)).cell? ⟨W.heap.size, 2, none⟩ = some (.int .i64 ac) := (((unhide K0).below (unhide HB y6)).set 3 (by simp) (.int .i64 1)).c 2 (by simp)
      have d3 : ((fW y6).setCell ⟨W.heap.size, 3, none⟩ (.int .i64 1)).cell? ⟨W.heap.size, 3, none⟩ = some (.int .i64 1) := (((unhide K0).below (unhide HB y6)).set 3 (by simp) (.int .i64 1)).c 3 (by simp)
      have e0 : ((fW y6).setCell ⟨W.heap.size, 3, none⟩ (.int .i64 1)).cell? ⟨P, 0, none⟩ = some (.int .i64 bi) := (((unhide K2).below (unhide HB y6)).other (p := ⟨W.heap.size, 3, none⟩) (by show W.heap.size ≠ P; have := unhide hPW; omega) (.int .i64 1)).c 0 (by simp)
      have e1 : ((fW y6).setCell ⟨W.heap.size, 3, none⟩ (.int .i64 1)).cell? ⟨P, 1, none⟩ = some (.int .i64 bh) := (((unhide K2).below (unhide HB y6)).other (p := ⟨W.heap.size, 3, none⟩) (by show W.heap.size ≠ P; have := unhide hPW; omega) (.int .i64 1)).c 1 (by simp)
      have e2 : ((fW y6).setCell ⟨W.heap.size, 3, none⟩ (.int .i64 1)).cell? ⟨P, 2, none⟩ = some (.int .i64 bc) := (((unhide K2).below (unhide HB y6)).other (p := ⟨W.heap.size, 3, none⟩) (by show W.heap.size ≠ P; have := unhide hPW; omega) (.int .i64 1)).c 2 (by simp)
      have e3 : ((fW y6).setCell ⟨W.heap.size, 3, none⟩ (.int .i64 1)).cell? ⟨P, 3, none⟩ = some (.int .i64 far) := (((unhide K2).below (unhide HB y6)).other (p := ⟨W.heap.size, 3, none⟩) (by show W.heap.size ≠ P; have := unhide hPW; omega) (.int .i64 1)).c 3 (by simp)
      have e4 : ((fW y6).setCell ⟨W.heap.size, 3, none⟩ (.int .i64 1)).cell? ⟨P, 4, none⟩ = some (.int .i64 cl) := (((unhide K2).below (unhide HB y6)).other (p := ⟨W.heap.size, 3, none⟩) (by show W.heap.size ≠ P; have := unhide hPW; omega) (.int .i64 1)).c 4 (by simp)
      have e5 : ((fW y6).setCell ⟨W.heap.size, 3, none⟩ (.int .i64 1)).cell? ⟨P, 5, none⟩ = some (.int .i64 0) := (((unhide K2).below (unhide HB y6)).other (p := ⟨W.heap.size, 3, none⟩) (by show W.heap.size ≠ P; have := unhide hPW; omega) (.int .i64 1)).c 5 (by simp)
      have HAX := hide (avB_yes (s := 1) (by omega : 1 ≤ ai ∧ ai ≤ 1000000) (by omega : 0 ≤ ah ∧ ah ≤ 60000) (by omega : -200 ≤ ac ∧ ac ≤ 200) (by omega))
      have HTX : Hid (thB ai ah ac 1 bi bh bc far cl 0 600 100 = true) := hide ((thB_meet (unhide HAX) (unhide HTB) hne (by decide) (by decide)).trans ((thB_meet (unhide HAV) (unhide HTB) hne (by decide) (by decide)).symm.trans (unhide HT)))
      have HQ1 : Hid (nrI ai ah ac 1 600 100 [⟨bi, bh, bc, far, cl, 0⟩] = 0) := hide (by rw [(nr_one _).1]; simp [unhide HTX])
      have HQ2 : Hid (nrB ai ah ac 1 600 100 [⟨bi, bh, bc, far, cl, 0⟩] = true) := hide (by rw [(nr_one _).2]; exact unhide HTX)
      have HAD : Hid (adR ai ah ac 1 bi bh bc far cl 0 600 100 = 1) := hide (by rw [adR, unhide HTX, if_pos rfl, if_pos (by decide)])
      go_wp2_with fail
      have hrow := rowTc_one ((fW y6).setCell ⟨W.heap.size, 3, none⟩ (.int .i64 1)) bi bh bc far cl 0 83
      have hsz : ((fW y6).setCell ⟨W.heap.size, 3, none⟩ (.int .i64 1)).heap.size = (fW y6).heap.size := by simp [World.setCell]
      rw [hsz] at hrow
      have HRO := hide hrow
      obtain ⟨G, hG⟩ : ∃ G, G = (fW y6).heap.size := ⟨_, rfl⟩
      rw [← hG] at HRO ⊢
      clear hG
      obtain ⟨V3, hV3⟩ : ∃ V, V = ((fW y6).setCell ⟨W.heap.size, 3, none⟩ (.int .i64 1)).alloc (Obj.cells #[.int .i64 bi, .int .i64 bh, .int .i64 bc, .int .i64 far, .int .i64 cl, .int .i64 0] 83) := ⟨_, rfl⟩
      rw [← hV3] at HRO ⊢
      have K0 : Hid (Blk V3 W.heap.size [.int .i64 ai, .int .i64 ah, .int .i64 ac, .int .i64 1]) := hide (by rw [hV3]; exact (((unhide K0).below (unhide HB y6)).set 3 (by simp) (.int .i64 1)).alloc _)
      have K2 : Hid (Blk V3 P [.int .i64 bi, .int .i64 bh, .int .i64 bc, .int .i64 far, .int .i64 cl, .int .i64 0]) := hide (by rw [hV3]; exact (((unhide K2).below (unhide HB y6)).other (p := ⟨W.heap.size, 3, none⟩) (by show W.heap.size ≠ P; have := unhide hPW; omega) (.int .i64 1)).alloc _)
      have B0 : Hid (Below w.heap.size w V3) := hide (by
        rw [hV3]
        have q := ((unhide B0).trans ((unhide HB y6).mono (unhide B0).size)).setCell (p := ⟨W.heap.size, 3, none⟩) (by show w.heap.size ≤ W.heap.size; exact unhide HWW) (.int .i64 1)
        exact q.alloc q.size _)
      clear hV3 hrow hsz K1 HA HB z0 d0 d1 d2 d3 e0 e1 e2 e3 e4 e5 c00 c01 c02 c03 c10 c11 c12 c13 c20 c21 c22 c23 c24 c25
      obtain ⟨ι, fW, _, hb, hall⟩ := belClass V3
      have HB := hide hb
      have HA := hide hall
      have c00 : ∀ x, (fW x).cell? ⟨W.heap.size, 0, none⟩ = some (.int .i64 ai) := fun x => ((unhide K0).below (hb x)).c 0 (by simp)
      have c01 : ∀ x, (fW x).cell? ⟨W.heap.size, 1, none⟩ = some (.int .i64 ah) := fun x => ((unhide K0).below (hb x)).c 1 (by simp)
      have c02 : ∀ x, (fW x).cell? ⟨W.heap.size, 2, none⟩ = some (.int .i64 ac) := fun x => ((unhide K0).below (hb x)).c 2 (by simp)
      have c03 : ∀ x, (fW x).cell? ⟨W.heap.size, 3, none⟩ = some (.int .i64 1) := fun x => ((unhide K0).below (hb x)).c 3 (by simp)
      have c10 : ∀ x, (fW x).cell? ⟨P, 0, none⟩ = some (.int .i64 bi) := fun x => ((unhide K2).below (hb x)).c 0 (by simp)
      have c11 : ∀ x, (fW x).cell? ⟨P, 1, none⟩ = some (.int .i64 bh) := fun x => ((unhide K2).below (hb x)).c 1 (by simp)
      have c12 : ∀ x, (fW x).cell? ⟨P, 2, none⟩ = some (.int .i64 bc) := fun x => ((unhide K2).below (hb x)).c 2 (by simp)
      have c13 : ∀ x, (fW x).cell? ⟨P, 3, none⟩ = some (.int .i64 far) := fun x => ((unhide K2).below (hb x)).c 3 (by simp)
      have c14 : ∀ x, (fW x).cell? ⟨P, 4, none⟩ = some (.int .i64 cl) := fun x => ((unhide K2).below (hb x)).c 4 (by simp)
      have c15 : ∀ x, (fW x).cell? ⟨P, 5, none⟩ = some (.int .i64 0) := fun x => ((unhide K2).below (hb x)).c 5 (by simp)
      clear hb hall
      obtain ⟨x2, h0⟩ := (unhide HA) V3 (Below.refl _ _)
      have HRO : Hid (∀ x, RowE 6 tcC (fW x) (some ⟨G, 0, none⟩) 1 [⟨bi, bh, bc, far, cl, 0⟩]) := hide (fun x => (unhide HRO).below (unhide HB x))
      rw [h0]
      clear h0
      refine (belQ (unhide HB) (unhide HA) (implNearest_is ai ah ac 1 600 100 _ 1 1 [⟨bi, bh, bc, far, cl, 0⟩] _ (unhide HRO _) (unhide HQ1) (unhide HQ2))).mono ?_
      rintro e _ ⟨rfl, y7, rfl⟩
      go_wp2_with fail
      refine (belQ (unhide HB) (unhide HA) (implAdvise_is ai ah ac 1 bi bh bc far cl 0 600 100 _ (unhide HAD))).mono ?_
      rintro e _ ⟨rfl, y8, rfl⟩
      go_wp2_with fail
      go_ret
      exact ⟨rfl, (unhide B0).trans ((unhide HB _).mono (unhide B0).size)⟩
    · have hy : Y = 1 := by omega
      subst hx
      subst hy
      clear h30
      have z0 : ∀ x, (fW x).frozen? ⟨W.heap.size, 3, none⟩ = false := fun x => ((unhide K0).below (unhide HB x)).f 3 (by simp)
      have d0 : ((fW y6).setCell ⟨W.heap.size, 3, none⟩ (.int .i64 2)).cell? ⟨W.heap.size, 0, none⟩ = some (.int .i64 ai) := (((unhide K0).below (unhide HB y6)).set 3 (by simp) (.int .i64 2)).c 0 (by simp)
      have d1 : ((fW y6).setCell ⟨W.heap.size, 3, none⟩ (.int .i64 2)).cell? ⟨W.heap.size, 1, none⟩ = some (.int .i64 ah) := (((unhide K0).below (unhide HB y6)).set 3 (by simp) (.int .i64 2)).c 1 (by simp)
      have d2 : ((fW y6).setCell ⟨W.heap.size, 3, none⟩ (.int .i64 2)).cell? ⟨W.heap.size, 2, none⟩ = some (.int .i64 ac) := (((unhide K0).below (unhide HB y6)).set 3 (by simp) (.int .i64 2)).c 2 (by simp)
      have d3 : ((fW y6).setCell ⟨W.heap.size, 3, none⟩ (.int .i64 2)).cell? ⟨W.heap.size, 3, none⟩ = some (.int .i64 2) := (((unhide K0).below (unhide HB y6)).set 3 (by simp) (.int .i64 2)).c 3 (by simp)
      have e0 : ((fW y6).setCell ⟨W.heap.size, 3, none⟩ (.int .i64 2)).cell? ⟨P, 0, none⟩ = some (.int .i64 bi) := (((unhide K2).below (unhide HB y6)).other (p := ⟨W.heap.size, 3, none⟩) (by show W.heap.size ≠ P; have := unhide hPW; omega) (.int .i64 2)).c 0 (by simp)
      have e1 : ((fW y6).setCell ⟨W.heap.size, 3, none⟩ (.int .i64 2)).cell? ⟨P, 1, none⟩ = some (.int .i64 bh) := (((unhide K2).below (unhide HB y6)).other (p := ⟨W.heap.size, 3, none⟩) (by show W.heap.size ≠ P; have := unhide hPW; omega) (.int .i64 2)).c 1 (by simp)
      have e2 : ((fW y6).setCell ⟨W.heap.size, 3, none⟩ (.int .i64 2)).cell? ⟨P, 2, none⟩ = some (.int .i64 bc) := (((unhide K2).below (unhide HB y6)).other (p := ⟨W.heap.size, 3, none⟩) (by show W.heap.size ≠ P; have := unhide hPW; omega) (.int .i64 2)).c 2 (by simp)
      have e3 : ((fW y6).setCell ⟨W.heap.size, 3, none⟩ (.int .i64 2)).cell? ⟨P, 3, none⟩ = some (.int .i64 far) := (((unhide K2).below (unhide HB y6)).other (p := ⟨W.heap.size, 3, none⟩) (by show W.heap.size ≠ P; have := unhide hPW; omega) (.int .i64 2)).c 3 (by simp)
      have e4 : ((fW y6).setCell ⟨W.heap.size, 3, none⟩ (.int .i64 2)).cell? ⟨P, 4, none⟩ = some (.int .i64 cl) := (((unhide K2).below (unhide HB y6)).other (p := ⟨W.heap.size, 3, none⟩) (by show W.heap.size ≠ P; have := unhide hPW; omega) (.int .i64 2)).c 4 (by simp)
      have e5 : ((fW y6).setCell ⟨W.heap.size, 3, none⟩ (.int .i64 2)).cell? ⟨P, 5, none⟩ = some (.int .i64 0) := (((unhide K2).below (unhide HB y6)).other (p := ⟨W.heap.size, 3, none⟩) (by show W.heap.size ≠ P; have := unhide hPW; omega) (.int .i64 2)).c 5 (by simp)
      have HAX := hide (avB_yes (s := 2) (by omega : 1 ≤ ai ∧ ai ≤ 1000000) (by omega : 0 ≤ ah ∧ ah ≤ 60000) (by omega : -200 ≤ ac ∧ ac ≤ 200) (by omega))
      have HTX : Hid (thB ai ah ac 2 bi bh bc far cl 0 600 100 = true) := hide ((thB_meet (unhide HAX) (unhide HTB) hne (by decide) (by decide)).trans ((thB_meet (unhide HAV) (unhide HTB) hne (by decide) (by decide)).symm.trans (unhide HT)))
      have HQ1 : Hid (nrI ai ah ac 2 600 100 [⟨bi, bh, bc, far, cl, 0⟩] = 0) := hide (by rw [(nr_one _).1]; simp [unhide HTX])
      have HQ2 : Hid (nrB ai ah ac 2 600 100 [⟨bi, bh, bc, far, cl, 0⟩] = true) := hide (by rw [(nr_one _).2]; exact unhide HTX)
      have HAD : Hid (adR ai ah ac 2 bi bh bc far cl 0 600 100 = 2) := hide (by rw [adR, unhide HTX, if_pos rfl, if_pos (by decide)])
      go_wp2_with fail
      have hrow := rowTc_one ((fW y6).setCell ⟨W.heap.size, 3, none⟩ (.int .i64 2)) bi bh bc far cl 0 83
      have hsz : ((fW y6).setCell ⟨W.heap.size, 3, none⟩ (.int .i64 2)).heap.size = (fW y6).heap.size := by simp [World.setCell]
      rw [hsz] at hrow
      have HRO := hide hrow
      obtain ⟨G, hG⟩ : ∃ G, G = (fW y6).heap.size := ⟨_, rfl⟩
      rw [← hG] at HRO ⊢
      clear hG
      obtain ⟨V3, hV3⟩ : ∃ V, V = ((fW y6).setCell ⟨W.heap.size, 3, none⟩ (.int .i64 2)).alloc (Obj.cells #[.int .i64 bi, .int .i64 bh, .int .i64 bc, .int .i64 far, .int .i64 cl, .int .i64 0] 83) := ⟨_, rfl⟩
      rw [← hV3] at HRO ⊢
      have K0 : Hid (Blk V3 W.heap.size [.int .i64 ai, .int .i64 ah, .int .i64 ac, .int .i64 2]) := hide (by rw [hV3]; exact (((unhide K0).below (unhide HB y6)).set 3 (by simp) (.int .i64 2)).alloc _)
      have K2 : Hid (Blk V3 P [.int .i64 bi, .int .i64 bh, .int .i64 bc, .int .i64 far, .int .i64 cl, .int .i64 0]) := hide (by rw [hV3]; exact (((unhide K2).below (unhide HB y6)).other (p := ⟨W.heap.size, 3, none⟩) (by show W.heap.size ≠ P; have := unhide hPW; omega) (.int .i64 2)).alloc _)
      have B0 : Hid (Below w.heap.size w V3) := hide (by
        rw [hV3]
        have q := ((unhide B0).trans ((unhide HB y6).mono (unhide B0).size)).setCell (p := ⟨W.heap.size, 3, none⟩) (by show w.heap.size ≤ W.heap.size; exact unhide HWW) (.int .i64 2)
        exact q.alloc q.size _)
      clear hV3 hrow hsz K1 HA HB z0 d0 d1 d2 d3 e0 e1 e2 e3 e4 e5 c00 c01 c02 c03 c10 c11 c12 c13 c20 c21 c22 c23 c24 c25
      obtain ⟨ι, fW, _, hb, hall⟩ := belClass V3
      have HB := hide hb
      have HA := hide hall
      have c00 : ∀ x, (fW x).cell? ⟨W.heap.size, 0, none⟩ = some (.int .i64 ai) := fun x => ((unhide K0).below (hb x)).c 0 (by simp)
      have c01 : ∀ x, (fW x).cell? ⟨W.heap.size, 1, none⟩ = some (.int .i64 ah) := fun x => ((unhide K0).below (hb x)).c 1 (by simp)
      have c02 : ∀ x, (fW x).cell? ⟨W.heap.size, 2, none⟩ = some (.int .i64 ac) := fun x => ((unhide K0).below (hb x)).c 2 (by simp)
      have c03 : ∀ x, (fW x).cell? ⟨W.heap.size, 3, none⟩ = some (.int .i64 2) := fun x => ((unhide K0).below (hb x)).c 3 (by simp)
      have c10 : ∀ x, (fW x).cell? ⟨P, 0, none⟩ = some (.int .i64 bi) := fun x => ((unhide K2).below (hb x)).c 0 (by simp)
      have c11 : ∀ x, (fW x).cell? ⟨P, 1, none⟩ = some (.int .i64 bh) := fun x => ((unhide K2).below (hb x)).c 1 (by simp)
      have c12 : ∀ x, (fW x).cell? ⟨P, 2, none⟩ = some (.int .i64 bc) := fun x => ((unhide K2).below (hb x)).c 2 (by simp)
      have c13 : ∀ x, (fW x).cell? ⟨P, 3, none⟩ = some (.int .i64 far) := fun x => ((unhide K2).below (hb x)).c 3 (by simp)
      have c14 : ∀ x, (fW x).cell? ⟨P, 4, none⟩ = some (.int .i64 cl) := fun x => ((unhide K2).below (hb x)).c 4 (by simp)
      have c15 : ∀ x, (fW x).cell? ⟨P, 5, none⟩ = some (.int .i64 0) := fun x => ((unhide K2).below (hb x)).c 5 (by simp)
      clear hb hall
      obtain ⟨x2, h0⟩ := (unhide HA) V3 (Below.refl _ _)
      have HRO : Hid (∀ x, RowE 6 tcC (fW x) (some ⟨G, 0, none⟩) 1 [⟨bi, bh, bc, far, cl, 0⟩]) := hide (fun x => (unhide HRO).below (unhide HB x))
      rw [h0]
      clear h0
      refine (belQ (unhide HB) (unhide HA) (implNearest_is ai ah ac 2 600 100 _ 1 1 [⟨bi, bh, bc, far, cl, 0⟩] _ (unhide HRO _) (unhide HQ1) (unhide HQ2))).mono ?_
      rintro e _ ⟨rfl, y7, rfl⟩
      go_wp2_with fail
      refine (belQ (unhide HB) (unhide HA) (implAdvise_is ai ah ac 2 bi bh bc far cl 0 600 100 _ (unhide HAD))).mono ?_
      rintro e _ ⟨rfl, y8, rfl⟩
      go_wp2_with fail
      go_ret
      exact ⟨rfl, (unhide B0).trans ((unhide HB _).mono (unhide B0).size)⟩

theorem lawFnSenses (a : Option Addr) (len cap : Nat) (w : World) (hb : Bytes w a len) (hin : ∀ b off, a = some ⟨b, off, none⟩ → b < w.heap.size) :
    Calls Try.prog 7 #[.slice a len cap] w fun e w' => e = .returned (.bool true) ∧ Below w.heap.size w w' := by
  by_cases h : (1048576 : Int) < len
  · exact lawFnSenses_big a len cap w h
  · exact lawFnSenses_small a len cap w h hb hin

end Go.Proofs.Ytbaocifpifbldae

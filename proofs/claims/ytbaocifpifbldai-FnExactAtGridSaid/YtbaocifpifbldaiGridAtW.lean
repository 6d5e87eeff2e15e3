/-
  What AtGrid answers in the model where the place is right: the plain fraction and true; nothing that was there is written.
-/
import Derived.Test.YtbaocifpifbldaiGridAtX
import Derived.Test.YtbaocifpifbldaiGridAtY
import Derived.Deep.DrawnRows
namespace Go.Proofs.Ytbaocifpifbldai
open Go.RowKit
attribute [local go_sem ↓] Go.wp_at_zero Go.wp_at_succ

set_option maxRecDepth 100000 in
set_option maxHeartbeats 8000000 in
theorem specAtGrid_yes (a1 a2 a3 : Option Addr) (l1 c1 l2 c2 l3 c3 : Nat) (xs ys : List Int) (zss : List (List Int)) (x y : Int) (w : World) (h1 : Row w a1 l1 xs) (h2 : Row w a2 l2 ys) (h3 : RowS w a3 l3 zss) (hc : gridB xs ys zss = true) (hin : inB x (nth xs 0) (nth xs (xs.length - 1)) = true) (hiny : inB y (nth ys 0) (nth ys (ys.length - 1)) = true) :
    Calls Try.prog 14 #[.agg #[.slice a1 l1 c1, .slice a2 l2 c2, .slice a3 l3 c3], .int .i64 x, .int .i64 y] w fun e w' => e = .returned (.tuple #[.agg #[.int .i64 (fracN (agNum xs ys zss x y) (agDen xs ys x y)), .int .i64 (fracD (agNum xs ys zss x y) (agDen xs ys x y))], .bool true]) ∧ Below w.heap.size w w' := by
  have F := gridB_facts hc
  have hnx := F.nx
  have hny := F.ny
  have hnz := F.nz
  have HF := hide F
  have B0 := hide (bel2 (w := w) (.cells #[.slice a1 l1 c1, .slice a2 l2 c2, .slice a3 l3 c3] 28) (.cells #[.int .i64 0, .int .i64 0] 33))
  have H1 := hide (h1.below (unhide B0))
  have H2 := hide (h2.below (unhide B0))
  have H3 := hide (h3.below (unhide B0))
  have hl1 := h1.len_eq
  have hl2 := h2.len_eq
  have hl3 := h3.len_eq
  subst hl1
  subst hl2
  subst hl3
  have hz1 : zss.length ≤ ys.length := by omega
  have hz2 : ys.length ≤ zss.length := by omega
  rcases h1.open_ with ⟨h0, _⟩ | ⟨bb1, off1, rfl, _, hcxw⟩
  · omega
  rcases h2.open_ with ⟨h0, _⟩ | ⟨bb2, off2, rfl, _, hcyw⟩
  · omega
  rcases h3.open_ with ⟨h0, _⟩ | ⟨bb3, off3, rfl, _, hczw⟩
  · omega
  have hcx := fun i hi => ((unhide B0).cell (block_lt_of_cell (hcxw i hi))).trans (hcxw i hi)
  have hcy := fun i hi => ((unhide B0).cell (block_lt_of_cell (hcyw i hi))).trans (hcyw i hi)
  have hbx : bb1 < w.heap.size := block_lt_of_cell (hcxw 0 (by omega))
  have hby : bb2 < w.heap.size := block_lt_of_cell (hcyw 0 (by omega))
  have hnx1 : ¬ (w.heap.size + 1 = bb1) := by omega
  have hny1 : ¬ (w.heap.size + 1 = bb2) := by omega
  have hnx2 : ¬ (bb1 = w.heap.size + 1) := by omega
  have hny2 : ¬ (bb2 = w.heap.size + 1) := by omega
  have g0 := hcx 0 (by omega)
  have g1 := hcx (xs.length - 1) (by omega)
  have g2 := hcy 0 (by omega)
  have g3 := hcy (ys.length - 1) (by omega)
  simp only [Nat.add_zero] at g0 g2
  have lt0 := block_lt_of_cell g0
  have lt2 := block_lt_of_cell g2
  have HCX := hide hcxw
  have HCY := hide hcyw
  have HCZ := hide hczw
  have hi0 : (0 : Int) < (xs.length : Int) := by omega
  have hwr : IntKind.i64.wrap ((xs.length : Int) - 1) = (xs.length : Int) - 1 := by rw [IntKind.wrap_i64]; omega
  have hj0 : (0 : Int) ≤ (xs.length : Int) - 1 := by omega
  have hj1 : (xs.length : Int) - 1 < (xs.length : Int) := by omega
  have hjt : ((xs.length : Int) - 1).toNat = xs.length - 1 := by omega
  have ha1 : (1 : Int) ≤ (xs.length : Int) := by omega
  have ha2 : 1 ≤ xs.length := by omega
  have ha3 : 0 < xs.length := by omega
  have ii0 : (0 : Int) < (ys.length : Int) := by omega
  have iwr : IntKind.i64.wrap ((ys.length : Int) - 1) = (ys.length : Int) - 1 := by rw [IntKind.wrap_i64]; omega
  have ij0 : (0 : Int) ≤ (ys.length : Int) - 1 := by omega
  have ij1 : (ys.length : Int) - 1 < (ys.length : Int) := by omega
  have ijt : ((ys.length : Int) - 1).toNat = ys.length - 1 := by omega
  have ia1 : (1 : Int) ≤ (ys.length : Int) := by omega
  have ia2 : 1 ≤ ys.length := by omega
  have ia3 : 0 < ys.length := by omega
  clear F h1 h2 h3 hcxw hcyw hczw hcx hcy hnz
  have x0 : ((w.alloc (.cells #[.slice (some ⟨bb1, off1, none⟩) xs.length c1, .slice (some ⟨bb2, off2, none⟩) ys.length c2, .slice (some ⟨bb3, off3, none⟩) zss.length c3] 28)).alloc (.cells #[.int .i64 0, .int .i64 0] 33)).cell? ⟨w.heap.size, 0, none⟩ = some (.slice (some ⟨bb1, off1, none⟩) xs.length c1) := by simp [go_sem]
  have x1 : ((w.alloc (.cells #[.slice (some ⟨bb1, off1, none⟩) xs.length c1, .slice (some ⟨bb2, off2, none⟩) ys.length c2, .slice (some ⟨bb3, off3, none⟩) zss.length c3] 28)).alloc (.cells #[.int .i64 0, .int .i64 0] 33)).cell? ⟨w.heap.size, 1, none⟩ = some (.slice (some ⟨bb2, off2, none⟩) ys.length c2) := by simp [go_sem]
  have x2 : ((w.alloc (.cells #[.slice (some ⟨bb1, off1, none⟩) xs.length c1, .slice (some ⟨bb2, off2, none⟩) ys.length c2, .slice (some ⟨bb3, off3, none⟩) zss.length c3] 28)).alloc (.cells #[.int .i64 0, .int .i64 0] 33)).cell? ⟨w.heap.size, 2, none⟩ = some (.slice (some ⟨bb3, off3, none⟩) zss.length c3) := by simp [go_sem]
  go_enter Try.func14, Try.ntmps14
  go_wp2_with fail
  go_region_held3 (fun w' => w'.cell? ⟨w.heap.size, 0, none⟩ = some (.slice (some ⟨bb1, off1, none⟩) xs.length c1) ∧ w'.cell? ⟨w.heap.size, 1, none⟩ = some (.slice (some ⟨bb2, off2, none⟩) ys.length c2) ∧ w'.cell? ⟨w.heap.size, 2, none⟩ = some (.slice (some ⟨bb3, off3, none⟩) zss.length c3) ∧ w'.cell? ⟨bb1, off1, none⟩ = some (.int .i64 (nth xs 0)) ∧ w'.cell? ⟨bb1, off1 + (xs.length - 1), none⟩ = some (.int .i64 (nth xs (xs.length - 1))) ∧ w'.cell? ⟨bb2, off2, none⟩ = some (.int .i64 (nth ys 0)) ∧ w'.cell? ⟨bb2, off2 + (ys.length - 1), none⟩ = some (.int .i64 (nth ys (ys.length - 1)))) (go_keep)
    (first
      | (go_at_call 10; refine (specGridOk_is _ _ _ _ _ _ _ _ _ xs ys zss _ hc ((unhide H1).drewN 1) ((unhide H2).drewN 1) ((unhide H3).drewN 1)).mono ?_; rintro e w1 ⟨rfl, b1⟩; have x0 := (b1.cell (p := ⟨w.heap.size, 0, none⟩) (by simp; omega)).trans x0; have x1 := (b1.cell (p := ⟨w.heap.size, 1, none⟩) (by simp; omega)).trans x1; have x2 := (b1.cell (p := ⟨w.heap.size, 2, none⟩) (by simp; omega)).trans x2; have g0 := (b1.cell (p := ⟨bb1, off1, none⟩) lt0).trans g0; have g1 := (b1.cell (p := ⟨bb1, off1 + (xs.length - 1), none⟩) lt0).trans g1; have g2 := (b1.cell (p := ⟨bb2, off2, none⟩) lt2).trans g2; have g3 := (b1.cell (p := ⟨bb2, off2 + (ys.length - 1), none⟩) lt2).trans g3)
      | (go_at_call_of 34 (Value.int IntKind.i64 (nth xs 0)); refine (l1In_is _ _ _ _ hin).mono ?_; rintro e w' ⟨rfl, hw⟩; subst w')
      | (go_at_call_of 34 (Value.int IntKind.i64 (nth ys 0)); refine (l1In_is _ _ _ _ hiny).mono ?_; rintro e w' ⟨rfl, hw⟩; subst w'))
  have e0 : w1.cell? ⟨w.heap.size + 1, 0, none⟩ = some (.int .i64 0) := (b1.cell (p := ⟨w.heap.size + 1, 0, none⟩) (by simp)).trans (by simp [go_sem])
  have e1 : w1.cell? ⟨w.heap.size + 1, 1, none⟩ = some (.int .i64 0) := (b1.cell (p := ⟨w.heap.size + 1, 1, none⟩) (by simp)).trans (by simp [go_sem])
  have f0 : w1.frozen? ⟨w.heap.size + 1, 0, none⟩ = false := (b1.frozen (p := ⟨w.heap.size + 1, 0, none⟩) (by simp)).trans (by simp [go_sem])
  have f1 : w1.frozen? ⟨w.heap.size + 1, 1, none⟩ = false := (b1.frozen (p := ⟨w.heap.size + 1, 1, none⟩) (by simp)).trans (by simp [go_sem])
  have B1 := hide (((unhide B0).trans (bel0d' 1)).trans (b1.mono (by simp; omega)))
  have hs1 : w.heap.size + 1 < w1.heap.size := by have := b1.size; simp at this; omega
  have BW := hide (((unhide B0).trans (bel0d' 1)).trans (b1.mono (by simp; omega)))
  have hcx1 : ∀ j, j < xs.length → w1.cell? ⟨bb1, off1 + j, none⟩ = some (.int .i64 (nth xs j)) := fun j hj => ((unhide BW).cell (block_lt_of_cell ((unhide HCX) j hj))).trans ((unhide HCX) j hj)
  have hcy1 : ∀ j, j < ys.length → w1.cell? ⟨bb2, off2 + j, none⟩ = some (.int .i64 (nth ys j)) := fun j hj => ((unhide BW).cell (block_lt_of_cell ((unhide HCY) j hj))).trans ((unhide HCY) j hj)
  have hxi := in_facts hin
  have hyi := in_facts hiny
  have hx0 := (unhide HF).xb 0 (by omega)
  have hx1 := (unhide HF).xb (xs.length - 1) (by omega)
  have hy0 := (unhide HF).yb 0 (by omega)
  have hy1 := (unhide HF).yb (ys.length - 1) (by omega)
  have hxx : -1000 ≤ x ∧ x ≤ 1000 := by omega
  have hyy : -1000 ≤ y ∧ y ≤ 1000 := by omega
  have hki := lowAt_lt (zs := xs) (x := x) (by omega)
  have hkk := lowAt_lt (zs := ys) (x := y) (by omega)
  have HX := hide hcx1
  have HY := hide hcy1
  clear b1 hcx1 hcy1 hin hiny hxi hyi hx0 hx1 hy0 hy1 hwr hj0 hj1 hjt iwr ij0 ij1 ijt g0 g1 g2 g3 H1 H2 H3 hc
  go_wp2_with fail
  go_quiet (first
    | (go_at_call_of 43 (Value.slice (some (⟨bb1, off1, none⟩ : Addr)) xs.length c1); exact Calls.quiet_of_same (l1Low_any _ _ _ xs _ _ (by omega) (by omega) (unhide HX)))
    | (go_at_call_of 43 (Value.slice (some (⟨bb2, off2, none⟩ : Addr)) ys.length c2); exact Calls.quiet_of_same (l1Low_any _ _ _ ys _ _ (by omega) (by omega) (unhide HY))))
  have HN : Hid (agNum xs ys zss x y = alongX xs (nthS zss (lowAt ys y)) x (lowAt xs x) * (nth ys (lowAt ys y + 1) - nth ys (lowAt ys y)) + (alongX xs (nthS zss (lowAt ys y + 1)) x (lowAt xs x) - alongX xs (nthS zss (lowAt ys y)) x (lowAt xs x)) * (y - nth ys (lowAt ys y))) := by exact hide rfl
  have HD : Hid (agDen xs ys x y = (nth xs (lowAt xs x + 1) - nth xs (lowAt xs x)) * (nth ys (lowAt ys y + 1) - nth ys (lowAt ys y))) := by exact hide rfl
  generalize lowAt xs x = i at *
  generalize lowAt ys y = k at *
  have cx0 := (unhide HX) i (by omega)
  have cx1 := (unhide HX) (i + 1) (by omega)
  have cy0 := (unhide HY) k (by omega)
  have cy1 := (unhide HY) (k + 1) (by omega)
  have bx0 := (unhide HF).xb i (by omega)
  have bx1 := (unhide HF).xb (i + 1) (by omega)
  have by0 := (unhide HF).yb k (by omega)
  have by1 := (unhide HF).yb (k + 1) (by omega)
  have rx := (unhide HF).risex i (by omega)
  have ry := (unhide HF).risey k (by omega)
  have zl0 := (unhide HF).zl k (by omega)
  have zl1 := (unhide HF).zl (k + 1) (by omega)
  have zb00 := (unhide HF).zb k (by omega) i (by omega)
  have zb01 := (unhide HF).zb k (by omega) (i + 1) (by omega)
  have zb10 := (unhide HF).zb (k + 1) (by omega) i (by omega)
  have zb11 := (unhide HF).zb (k + 1) (by omega) (i + 1) (by omega)
  obtain ⟨ak, lk, ck, dz0, rz0, _⟩ := (unhide HCZ) k (by omega)
  obtain ⟨am, lm, cm, dz1, rz1, _⟩ := (unhide HCZ) (k + 1) (by omega)
  have dz0 := ((unhide BW).cell (block_lt_of_cell dz0)).trans dz0
  have dz1 := ((unhide BW).cell (block_lt_of_cell dz1)).trans dz1
  have lz0 := rz0.len_eq
  have lz1 := rz1.len_eq
  generalize nthS zss k = z0 at *
  generalize nthS zss (k + 1) = z1 at *
  have lk0 : lk = xs.length := by omega
  have lm0 : lm = xs.length := by omega
  subst lk0
  subst lm0
  rcases (rz0.below (unhide BW)).open_ with ⟨h0, _⟩ | ⟨bk, ok, rfl, _, hrk⟩
  · omega
  rcases (rz1.below (unhide BW)).open_ with ⟨h0, _⟩ | ⟨bm, om, rfl, _, hrm⟩
  · omega
  have ez00 := hrk i (by omega)
  have ez01 := hrk (i + 1) (by omega)
  have ez10 := hrm i (by omega)
  have ez11 := hrm (i + 1) (by omega)
  have pa := along_bd bx0 bx1 zb00 zb01 hxx
  have pb := along_bd bx0 bx1 zb10 zb11 hxx
  have t0 : (0 : Int) ≤ (i : Int) := by omega
  have t1 : (i : Int) < (xs.length : Int) := by omega
  have t2 : (i : Int) + 1 < (xs.length : Int) := by omega
  have t3 : (0 : Int) ≤ (k : Int) := by omega
  have t4 : (k : Int) < (ys.length : Int) := by omega
  have t5 : (k : Int) + 1 < (ys.length : Int) := by omega
  have t6 : (k : Int) < (zss.length : Int) := by omega
  have t7 : (k : Int) + 1 < (zss.length : Int) := by omega
  have pc := across_bd (a := nth z0 i * (nth xs (i + 1) - nth xs i) + (nth z0 (i + 1) - nth z0 i) * (x - nth xs i)) (b := nth z1 i * (nth xs (i + 1) - nth xs i) + (nth z1 (i + 1) - nth z1 i) * (x - nth xs i)) by0 by1 (by omega) (by omega) hyy
  have pd := area_bd (a := nth xs (i + 1) - nth xs i) (b := nth ys (k + 1) - nth ys k) (by omega) (by omega)
  clear hrk hrm rz0 rz1 zl0 zl1 HX HY HCX HCY HCZ lz0 lz1 HF
  go_wp2_with fail
  go_quiet (fail)
  go_wp2_with fail
  go_quiet (fail)
  go_wp2_with fail
  go_quiet (fail)
  go_wp2_with fail
  refine (l1Frac_any _ _ _ (by omega) (by omega) (by omega) (by omega)).mono ?_
  rintro e w2 ⟨rfl, b2⟩
  have e0 := (b2.cell (p := ⟨w.heap.size + 1, 0, none⟩) hs1).trans e0
  have e1 := (b2.cell (p := ⟨w.heap.size + 1, 1, none⟩) hs1).trans e1
  have f0 := (b2.frozen (p := ⟨w.heap.size + 1, 0, none⟩) hs1).trans f0
  have f1 := (b2.frozen (p := ⟨w.heap.size + 1, 1, none⟩) hs1).trans f1
  have B2 := hide ((unhide B1).trans (((bel0d' _).trans (b2.mono (Nat.le_refl _))).mono (by simp; omega)))
  clear b2
  go_wp2
  refine bodyPost_ret (v := .tuple #[.agg #[.int .i64 (fracN ((nth z0 i * (nth xs (i + 1) - nth xs i) + (nth z0 (i + 1) - nth z0 i) * (x - nth xs i)) * (nth ys (k + 1) - nth ys k) + (nth z1 i * (nth xs (i + 1) - nth xs i) + (nth z1 (i + 1) - nth z1 i) * (x - nth xs i) - (nth z0 i * (nth xs (i + 1) - nth xs i) + (nth z0 (i + 1) - nth z0 i) * (x - nth xs i))) * (y - nth ys k)) ((nth xs (i + 1) - nth xs i) * (nth ys (k + 1) - nth ys k))), .int .i64 (fracD ((nth z0 i * (nth xs (i + 1) - nth xs i) + (nth z0 (i + 1) - nth z0 i) * (x - nth xs i)) * (nth ys (k + 1) - nth ys k) + (nth z1 i * (nth xs (i + 1) - nth xs i) + (nth z1 (i + 1) - nth z1 i) * (x - nth xs i) - (nth z0 i * (nth xs (i + 1) - nth xs i) + (nth z0 (i + 1) - nth z0 i) * (x - nth xs i))) * (y - nth ys k)) ((nth xs (i + 1) - nth xs i) * (nth ys (k + 1) - nth ys k)))], .bool true]) (by simp [results, Try.results14, go_sem, *]) rfl ⟨?_, ?_⟩
  · rw [unhide HN, unhide HD]; rfl
  · repeat (first | exact unhide B2 | refine Below.setCell ?_ (by simp; try omega) _)

theorem specAtGrid_any (a1 a2 a3 : Option Addr) (l1 c1 l2 c2 l3 c3 : Nat) (xs ys : List Int) (zss : List (List Int)) (x y : Int) (w : World) (h1 : Row w a1 l1 xs) (h2 : Row w a2 l2 ys) (h3 : RowS w a3 l3 zss) :
    Calls Try.prog 14 #[.agg #[.slice a1 l1 c1, .slice a2 l2 c2, .slice a3 l3 c3], .int .i64 x, .int .i64 y] w fun e w' => e = .returned (.tuple #[.agg #[.int .i64 (agN xs ys zss x y), .int .i64 (agD xs ys zss x y)], .bool (agFlag xs ys zss x y)]) ∧ Below w.heap.size w w' := by
  cases hc : gridB xs ys zss
  · have e3 : agFlag xs ys zss x y = false := by simp [agFlag, hc]
    have e1 : agN xs ys zss x y = 0 := by simp [agN, e3]
    have e2 : agD xs ys zss x y = 0 := by simp [agD, e3]
    rw [e1, e2, e3]
    exact specAtGrid_no a1 a2 a3 l1 c1 l2 c2 l3 c3 xs ys zss x y w h1 h2 h3 hc
  · cases hi : inB x (nth xs 0) (nth xs (xs.length - 1))
    · have e3 : agFlag xs ys zss x y = false := by simp [agFlag, hi]
      have e1 : agN xs ys zss x y = 0 := by simp [agN, e3]
      have e2 : agD xs ys zss x y = 0 := by simp [agD, e3]
      rw [e1, e2, e3]
      exact specAtGrid_outX a1 a2 a3 l1 c1 l2 c2 l3 c3 xs ys zss x y w h1 h2 h3 hc hi
    · cases hj : inB y (nth ys 0) (nth ys (ys.length - 1))
      · have e3 : agFlag xs ys zss x y = false := by simp [agFlag, hj]
        have e1 : agN xs ys zss x y = 0 := by simp [agN, e3]
        have e2 : agD xs ys zss x y = 0 := by simp [agD, e3]
        rw [e1, e2, e3]
        exact specAtGrid_outY a1 a2 a3 l1 c1 l2 c2 l3 c3 xs ys zss x y w h1 h2 h3 hc hi hj
      · have e3 : agFlag xs ys zss x y = true := by simp [agFlag, hc, hi, hj]
        have e1 : agN xs ys zss x y = fracN (agNum xs ys zss x y) (agDen xs ys x y) := by simp [agN, e3]
        have e2 : agD xs ys zss x y = fracD (agNum xs ys zss x y) (agDen xs ys x y) := by simp [agD, e3]
        rw [e1, e2, e3]
        exact specAtGrid_yes a1 a2 a3 l1 c1 l2 c2 l3 c3 xs ys zss x y w h1 h2 h3 hc hi hj

end Go.Proofs.Ytbaocifpifbldai

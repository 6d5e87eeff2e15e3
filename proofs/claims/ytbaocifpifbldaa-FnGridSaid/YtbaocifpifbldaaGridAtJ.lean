/-
  What AtGrid answers in the program: the model's fraction and flag at every grid whose lists have no less room than length; nothing that was there is written.
-/
import Derived.Test.YtbaocifpifbldaaGridAtI
import Derived.Deep.DrawnRows
namespace Go.Proofs.Ytbaocifpifbldaa
open Go.RowKit
attribute [local go_sem ↓] Go.wp_at_zero Go.wp_at_succ

set_option maxHeartbeats 400000 in
theorem neighboursS_any (bb off len cap k : Nat) (w : World) (hk : k + 2 ≤ len) (hc : len ≤ cap) (hl : len ≤ 9223372036854775000) :
    Calls Try.prog 47 #[.slice (some ⟨bb, off, none⟩) len cap, .int .i64 k] w fun e w' => e = .returned (.slice (some ⟨bb, off + k, none⟩) 2 2) ∧ w' = w := by
  have hk1 : (0 : Int) ≤ (k : Int) := by omega
  have hk2 : (k : Int) + 2 ≤ (len : Int) := by omega
  have hk3 : (k : Int) + 2 ≤ (cap : Int) := by omega
  go_enter Try.func47, Try.ntmps47
  go_wp2
  go_ret
  refine ⟨?_, rfl⟩
  show Ending.returned (.slice (some ⟨bb, off + k, none⟩) (k + 2 - k) (k + 2 - k)) = _
  rw [show k + 2 - k = 2 from by omega]

set_option maxRecDepth 100000 in
set_option maxHeartbeats 2000000 in
theorem implAtGrid_yes (a1 a2 a3 : Option Addr) (l1 c1 l2 c2 l3 c3 : Nat) (xs ys : List Int) (zss : List (List Int)) (x y : Int) (w : World) (h1 : Row w a1 l1 xs) (h2 : Row w a2 l2 ys) (h3 : RowS w a3 l3 zss) (hcap1 : l1 ≤ c1) (hcap2 : l2 ≤ c2) (hcap3 : l3 ≤ c3) (hc : gridB xs ys zss = true) (hin : inB x (nth xs 0) (nth xs (xs.length - 1)) = true) (hiny : inB y (nth ys 0) (nth ys (ys.length - 1)) = true) :
    Calls Try.prog 16 #[.agg #[.slice a1 l1 c1, .slice a2 l2 c2, .slice a3 l3 c3], .int .i64 x, .int .i64 y] w fun e w' => e = .returned (.tuple #[.agg #[.int .i64 (fracN (agNum xs ys zss x y) (agDen xs ys x y)), .int .i64 (fracD (agNum xs ys zss x y) (agDen xs ys x y))], .bool true]) ∧ Below w.heap.size w w' := by
  have F := gridB_facts hc
  have hnx := F.nx
  have hny := F.ny
  have hnz := F.nz
  have HF := hide F
  have B0 := hide (bel2 (w := w) (.cells #[.slice a1 l1 c1, .slice a2 l2 c2, .slice a3 l3 c3] 39) (.cells #[.int .i64 0, .int .i64 0] 30))
  have H1 := hide (h1.below (unhide B0))
  have H2 := hide (h2.below (unhide B0))
  have H3 := hide (h3.below (unhide B0))
  have hl1 := h1.len_eq
  have hl2 := h2.len_eq
  have hl3 := h3.len_eq
  subst hl1
  subst hl2
  subst hl3
  have hz1 : zss.length ≤ ys.length := by omega
  have hz2 : ys.length ≤ zss.length := by omega
  rcases h1.open_ with ⟨h0, _⟩ | ⟨bb1, off1, rfl, _, hcxw⟩
  · omega
  rcases h2.open_ with ⟨h0, _⟩ | ⟨bb2, off2, rfl, _, hcyw⟩
  · omega
  rcases h3.open_ with ⟨h0, _⟩ | ⟨bb3, off3, rfl, _, hczw⟩
  · omega
  have hcx := fun i hi => ((unhide B0).cell (block_lt_of_cell (hcxw i hi))).trans (hcxw i hi)
  have hcy := fun i hi => ((unhide B0).cell (block_lt_of_cell (hcyw i hi))).trans (hcyw i hi)
  have hbx : bb1 < w.heap.size := block_lt_of_cell (hcxw 0 (by omega))
  have hby : bb2 < w.heap.size := block_lt_of_cell (hcyw 0 (by omega))
  have hnx1 : ¬ (w.heap.size + 1 = bb1) := by omega
  have hny1 : ¬ (w.heap.size + 1 = bb2) := by omega
  have hnx2 : ¬ (bb1 = w.heap.size + 1) := by omega
  have hny2 : ¬ (bb2 = w.heap.size + 1) := by omega
  have g0 := hcx 0 (by omega)
  have g1 := hcx (xs.length - 1) (by omega)
  have g2 := hcy 0 (by omega)
  have g3 := hcy (ys.length - 1) (by omega)
  simp only [Nat.add_zero] at g0 g2
  have lt0 := block_lt_of_cell g0
  have lt2 := block_lt_of_cell g2
  have HCX := hide hcxw
  have HCY := hide hcyw
  have HCZ := hide hczw
  have hi0 : (0 : Int) < (xs.length : Int) := by omega
  have hwr : IntKind.i64.wrap ((xs.length : Int) - 1) = (xs.length : Int) - 1 := by rw [IntKind.wrap_i64]; omega
  have hj0 : (0 : Int) ≤ (xs.length : Int) - 1 := by omega
  have hj1 : (xs.length : Int) - 1 < (xs.length : Int) := by omega
  have hjt : ((xs.length : Int) - 1).toNat = xs.length - 1 := by omega
  have ha1 : (1 : Int) ≤ (xs.length : Int) := by omega
  have ha2 : 1 ≤ xs.length := by omega
  have ha3 : 0 < xs.length := by omega
  have ii0 : (0 : Int) < (ys.length : Int) := by omega
  have iwr : IntKind.i64.wrap ((ys.length : Int) - 1) = (ys.length : Int) - 1 := by rw [IntKind.wrap_i64]; omega
  have ij0 : (0 : Int) ≤ (ys.length : Int) - 1 := by omega
  have ij1 : (ys.length : Int) - 1 < (ys.length : Int) := by omega
  have ijt : ((ys.length : Int) - 1).toNat = ys.length - 1 := by omega
  have ia1 : (1 : Int) ≤ (ys.length : Int) := by omega
  have ia2 : 1 ≤ ys.length := by omega
  have ia3 : 0 < ys.length := by omega
  clear F h1 h2 h3 hcxw hcyw hczw hcx hcy hnz
  go_enter Try.func16, Try.ntmps16
  go_wp2_with fail
  refine (implGridOk_is _ _ _ _ _ _ _ _ _ xs ys zss _ hc (unhide H1) (unhide H2) (unhide H3)).mono ?_
  rintro e w1 ⟨rfl, b1⟩
  have e0 : w1.cell? ⟨w.heap.size + 1, 0, none⟩ = some (.int .i64 0) := (b1.cell (p := ⟨w.heap.size + 1, 0, none⟩) (by simp)).trans (by simp [go_sem])
  have e1 : w1.cell? ⟨w.heap.size + 1, 1, none⟩ = some (.int .i64 0) := (b1.cell (p := ⟨w.heap.size + 1, 1, none⟩) (by simp)).trans (by simp [go_sem])
  have f0 : w1.frozen? ⟨w.heap.size + 1, 0, none⟩ = false := (b1.frozen (p := ⟨w.heap.size + 1, 0, none⟩) (by simp)).trans (by simp [go_sem])
  have f1 : w1.frozen? ⟨w.heap.size + 1, 1, none⟩ = false := (b1.frozen (p := ⟨w.heap.size + 1, 1, none⟩) (by simp)).trans (by simp [go_sem])
  have x0 : w1.cell? ⟨w.heap.size, 0, none⟩ = some (.slice (some ⟨bb1, off1, none⟩) xs.length c1) := (b1.cell (p := ⟨w.heap.size, 0, none⟩) (by simp; omega)).trans (by simp [go_sem])
  have x1 : w1.cell? ⟨w.heap.size, 1, none⟩ = some (.slice (some ⟨bb2, off2, none⟩) ys.length c2) := (b1.cell (p := ⟨w.heap.size, 1, none⟩) (by simp; omega)).trans (by simp [go_sem])
  have x2 : w1.cell? ⟨w.heap.size, 2, none⟩ = some (.slice (some ⟨bb3, off3, none⟩) zss.length c3) := (b1.cell (p := ⟨w.heap.size, 2, none⟩) (by simp; omega)).trans (by simp [go_sem])
  have hs1 : w.heap.size + 1 < w1.heap.size := by have := b1.size; simp at this; omega
  have hs0 : w.heap.size < w1.heap.size := by omega
  have B1 := hide ((unhide B0).trans (b1.mono (by simp; omega)))
  have hcx1 : ∀ j, j < xs.length → w1.cell? ⟨bb1, off1 + j, none⟩ = some (.int .i64 (nth xs j)) := fun j hj => ((unhide B1).cell (block_lt_of_cell ((unhide HCX) j hj))).trans ((unhide HCX) j hj)
  have hcy1 : ∀ j, j < ys.length → w1.cell? ⟨bb2, off2 + j, none⟩ = some (.int .i64 (nth ys j)) := fun j hj => ((unhide B1).cell (block_lt_of_cell ((unhide HCY) j hj))).trans ((unhide HCY) j hj)
  have HX := hide hcx1
  have HY := hide hcy1
  clear b1 hcx1 hcy1 hwr hj0 hj1 hjt iwr ij0 ij1 ijt g0 g1 g2 g3 H1 H2 H3 hc
  go_wp2_with fail
  refine (lowerPlace_yes _ _ _ xs _ _ (by omega) (by omega) (unhide HX) hin).mono ?_
  rintro e w2 ⟨rfl, n, hw⟩
  have b2 : Below w1.heap.size w1 w2 := by rw [hw]; exact bel0d' n
  clear hw
  have x0 := (b2.cell (p := ⟨w.heap.size, 0, none⟩) hs0).trans x0
  have x1 := (b2.cell (p := ⟨w.heap.size, 1, none⟩) hs0).trans x1
  have x2 := (b2.cell (p := ⟨w.heap.size, 2, none⟩) hs0).trans x2
  have e0 := (b2.cell (p := ⟨w.heap.size + 1, 0, none⟩) hs1).trans e0
  have f0 := (b2.frozen (p := ⟨w.heap.size + 1, 0, none⟩) hs1).trans f0
  have e1 := (b2.cell (p := ⟨w.heap.size + 1, 1, none⟩) hs1).trans e1
  have f1 := (b2.frozen (p := ⟨w.heap.size + 1, 1, none⟩) hs1).trans f1
  have hs0 : w.heap.size < w2.heap.size := by have := b2.size; omega
  have hs1 : w.heap.size + 1 < w2.heap.size := by have := b2.size; omega
  have B2 := hide ((unhide B1).trans (b2.mono (by omega)))
  have HX := hide (fun j hj => (b2.cell (block_lt_of_cell ((unhide HX) j hj))).trans ((unhide HX) j hj))
  have HY := hide (fun j hj => (b2.cell (block_lt_of_cell ((unhide HY) j hj))).trans ((unhide HY) j hj))
  clear b2
  go_wp2_with fail
  refine (lowerPlace_yes _ _ _ ys _ _ (by omega) (by omega) (unhide HY) hiny).mono ?_
  rintro e w3 ⟨rfl, m, hw⟩
  have b3 : Below w2.heap.size w2 w3 := by rw [hw]; exact bel0d' m
  clear hw
  have x0 := (b3.cell (p := ⟨w.heap.size, 0, none⟩) hs0).trans x0
  have x1 := (b3.cell (p := ⟨w.heap.size, 1, none⟩) hs0).trans x1
  have x2 := (b3.cell (p := ⟨w.heap.size, 2, none⟩) hs0).trans x2
  have e0 := (b3.cell (p := ⟨w.heap.size + 1, 0, none⟩) hs1).trans e0
  have f0 := (b3.frozen (p := ⟨w.heap.size + 1, 0, none⟩) hs1).trans f0
  have e1 := (b3.cell (p := ⟨w.heap.size + 1, 1, none⟩) hs1).trans e1
  have f1 := (b3.frozen (p := ⟨w.heap.size + 1, 1, none⟩) hs1).trans f1
  have hs0 : w.heap.size < w3.heap.size := by have := b3.size; omega
  have hs1 : w.heap.size + 1 < w3.heap.size := by have := b3.size; omega
  have B3 := hide ((unhide B2).trans (b3.mono (by omega)))
  have HX := hide (fun j hj => (b3.cell (block_lt_of_cell ((unhide HX) j hj))).trans ((unhide HX) j hj))
  have HY := hide (fun j hj => (b3.cell (block_lt_of_cell ((unhide HY) j hj))).trans ((unhide HY) j hj))
  clear b3
  have hxi := in_facts hin
  have hyi := in_facts hiny
  have hx0 := (unhide HF).xb 0 (by omega)
  have hx1 := (unhide HF).xb (xs.length - 1) (by omega)
  have hy0 := (unhide HF).yb 0 (by omega)
  have hy1 := (unhide HF).yb (ys.length - 1) (by omega)
  have hxx : -1000 ≤ x ∧ x ≤ 1000 := by omega
  have hyy : -1000 ≤ y ∧ y ≤ 1000 := by omega
  have hki := lowAt_lt (zs := xs) (x := x) (by omega)
  have hkk := lowAt_lt (zs := ys) (x := y) (by omega)
  clear hin hiny hxi hyi hx0 hx1 hy0 hy1
  have HN : Hid (agNum xs ys zss x y = alongX xs (nthS zss (lowAt ys y)) x (lowAt xs x) * (nth ys (lowAt ys y + 1) - nth ys (lowAt ys y)) + (alongX xs (nthS zss (lowAt ys y + 1)) x (lowAt xs x) - alongX xs (nthS zss (lowAt ys y)) x (lowAt xs x)) * (y - nth ys (lowAt ys y))) := by exact hide rfl
  have HD : Hid (agDen xs ys x y = (nth xs (lowAt xs x + 1) - nth xs (lowAt xs x)) * (nth ys (lowAt ys y + 1) - nth ys (lowAt ys y))) := by exact hide rfl
  generalize lowAt xs x = i at *
  generalize lowAt ys y = k at *
  have cx0 := (unhide HX) i (by omega)
  have cx1 := (unhide HX) (i + 1) (by omega)
  have cy0 := (unhide HY) k (by omega)
  have cy1 := (unhide HY) (k + 1) (by omega)
  rw [← Nat.add_assoc] at cx1 cy1
  have bx0 := (unhide HF).xb i (by omega)
  have bx1 := (unhide HF).xb (i + 1) (by omega)
  have by0 := (unhide HF).yb k (by omega)
  have by1 := (unhide HF).yb (k + 1) (by omega)
  have rx := (unhide HF).risex i (by omega)
  have ry := (unhide HF).risey k (by omega)
  have zl0 := (unhide HF).zl k (by omega)
  have zl1 := (unhide HF).zl (k + 1) (by omega)
  have zb00 := (unhide HF).zb k (by omega) i (by omega)
  have zb01 := (unhide HF).zb k (by omega) (i + 1) (by omega)
  have zb10 := (unhide HF).zb (k + 1) (by omega) i (by omega)
  have zb11 := (unhide HF).zb (k + 1) (by omega) (i + 1) (by omega)
  obtain ⟨ak, lk, ck, dz0, rz0, capk⟩ := (unhide HCZ) k (by omega)
  obtain ⟨am, lm, cm, dz1, rz1, capm⟩ := (unhide HCZ) (k + 1) (by omega)
  have dz0 := ((unhide B3).cell (block_lt_of_cell dz0)).trans dz0
  have dz1 := ((unhide B3).cell (block_lt_of_cell dz1)).trans dz1
  rw [← Nat.add_assoc] at dz1
  have lz0 := rz0.len_eq
  have lz1 := rz1.len_eq
  generalize nthS zss k = z0 at *
  generalize nthS zss (k + 1) = z1 at *
  have lk0 : lk = xs.length := by omega
  have lm0 : lm = xs.length := by omega
  subst lk0
  subst lm0
  rcases (rz0.below (unhide B3)).open_ with ⟨h0, _⟩ | ⟨bk, ok, rfl, _, hrk⟩
  · omega
  rcases (rz1.below (unhide B3)).open_ with ⟨h0, _⟩ | ⟨bm, om, rfl, _, hrm⟩
  · omega
  have ez00 := hrk i (by omega)
  have ez01 := hrk (i + 1) (by omega)
  have ez10 := hrm i (by omega)
  have ez11 := hrm (i + 1) (by omega)
  rw [← Nat.add_assoc] at ez01 ez11
  have pa := along_bd bx0 bx1 zb00 zb01 hxx
  have pb := along_bd bx0 bx1 zb10 zb11 hxx
  have pc := across_bd (a := nth z0 i * (nth xs (i + 1) - nth xs i) + (nth z0 (i + 1) - nth z0 i) * (x - nth xs i)) (b := nth z1 i * (nth xs (i + 1) - nth xs i) + (nth z1 (i + 1) - nth z1 i) * (x - nth xs i)) by0 by1 (by omega) (by omega) hyy
  have pd := area_bd (a := nth xs (i + 1) - nth xs i) (b := nth ys (k + 1) - nth ys k) (by omega) (by omega)
  clear hrk hrm rz0 rz1 zl0 zl1 HX HY HCX HCY HCZ lz0 lz1 HF
  go_wp2_with fail
  refine (neighbours_any _ _ _ _ _ _ (by omega) (by omega) (by omega)).mono ?_
  rintro e w' ⟨rfl, hw⟩
  subst w'
  go_wp2_with fail
  refine (neighbours_any _ _ _ _ _ _ (by omega) (by omega) (by omega)).mono ?_
  rintro e w' ⟨rfl, hw⟩
  subst w'
  go_wp2_with fail
  refine (neighboursS_any _ _ _ _ _ _ (by omega) (by omega) (by omega)).mono ?_
  rintro e w' ⟨rfl, hw⟩
  subst w'
  go_wp2_with fail
  go_region_held3 (fun w' => w'.cell? ⟨bb3, off3 + k, none⟩ = some (.slice (some ⟨bk, ok, none⟩) xs.length ck) ∧ w'.cell? ⟨bb3, off3 + k + 1, none⟩ = some (.slice (some ⟨bm, om, none⟩) xs.length cm)) (go_keep)
    (first
      | (go_at_call_of 41 (Value.slice (some (⟨bk, ok, none⟩ : Addr)) xs.length ck); refine (neighbours_any _ _ _ _ _ _ (by omega) (by omega) (by omega)).mono ?_; rintro e w' ⟨rfl, hw⟩; subst w')
      | (go_at_call_of 41 (Value.slice (some (⟨bm, om, none⟩ : Addr)) xs.length cm); refine (neighbours_any _ _ _ _ _ _ (by omega) (by omega) (by omega)).mono ?_; rintro e w' ⟨rfl, hw⟩; subst w')
      | (go_at_call_of 43 (Value.slice (some (⟨bk, ok + i, none⟩ : Addr)) 2 2); refine (scaled_any _ _ _ _ (nth xs i) (nth xs (i + 1)) (nth z0 i) (nth z0 (i + 1)) x 1000 1000 _ bx0 bx1 zb00 zb01 hxx (by omega) (by omega) (by omega) (by omega) (by omega) (by omega) (by simpa using cx0) (by simpa using cx1) (by simpa using ez00) (by simpa using ez01)).mono ?_; rintro e w' ⟨rfl, n4, hw⟩; subst w')
      | (go_at_call_of 43 (Value.slice (some (⟨bm, om + i, none⟩ : Addr)) 2 2); refine (scaled_any _ _ _ _ (nth xs i) (nth xs (i + 1)) (nth z1 i) (nth z1 (i + 1)) x 1000 1000 _ bx0 bx1 zb10 zb11 hxx (by omega) (by omega) (by omega) (by omega) (by omega) (by omega) (by simpa using cx0) (by simpa using cx1) (by simpa using ez10) (by simpa using ez11)).mono ?_; rintro e w' ⟨rfl, n5, hw⟩; subst w'))
  go_wp2_with fail
  have hA0 : -6000000 ≤ nth z0 i * (nth xs (i + 1) - nth xs i) + (nth z0 (i + 1) - nth z0 i) * (x - nth xs i) ∧ nth z0 i * (nth xs (i + 1) - nth xs i) + (nth z0 (i + 1) - nth z0 i) * (x - nth xs i) ≤ 6000000 := by omega
  have hB0 : -6000000 ≤ nth z1 i * (nth xs (i + 1) - nth xs i) + (nth z1 (i + 1) - nth z1 i) * (x - nth xs i) ∧ nth z1 i * (nth xs (i + 1) - nth xs i) + (nth z1 (i + 1) - nth z1 i) * (x - nth xs i) ≤ 6000000 := by omega
  have HA : Hid (alongX xs z0 x i = nth z0 i * (nth xs (i + 1) - nth xs i) + (nth z0 (i + 1) - nth z0 i) * (x - nth xs i)) := by exact hide rfl
  have HBB : Hid (alongX xs z1 x i = nth z1 i * (nth xs (i + 1) - nth xs i) + (nth z1 (i + 1) - nth z1 i) * (x - nth xs i)) := by exact hide rfl
  generalize nth z0 i * (nth xs (i + 1) - nth xs i) + (nth z0 (i + 1) - nth z0 i) * (x - nth xs i) = A at *
  generalize nth z1 i * (nth xs (i + 1) - nth xs i) + (nth z1 (i + 1) - nth z1 i) * (x - nth xs i) = B at *
  generalize hW : (w3.drewN (1 + n4 + n5)).alloc (Obj.cells #[Value.int IntKind.i64 A, Value.int IntKind.i64 B] 3) = W4
  have bW : Below w3.heap.size w3 W4 := by rw [← hW]; exact (bel0d' _).alloc (by simp) _
  have en0 : W4.cell? ⟨w3.heap.size, 0, none⟩ = some (.int .i64 A) := by rw [← hW]; exact (World.cell?_alloc_at _ _ _ _ rfl).trans rfl
  have en1 : W4.cell? ⟨w3.heap.size, 1, none⟩ = some (.int .i64 B) := by rw [← hW]; exact (World.cell?_alloc_at _ _ _ _ rfl).trans rfl
  clear hW
  have ltx := block_lt_of_cell cx0
  have lty := block_lt_of_cell cy0
  have cx0 := (bW.cell (p := ⟨bb1, off1 + i, none⟩) ltx).trans cx0
  have cx1 := (bW.cell (p := ⟨bb1, off1 + i + 1, none⟩) ltx).trans cx1
  have cy0 := (bW.cell (p := ⟨bb2, off2 + k, none⟩) lty).trans cy0
  have cy1 := (bW.cell (p := ⟨bb2, off2 + k + 1, none⟩) lty).trans cy1
  have e0 := (bW.cell (p := ⟨w.heap.size + 1, 0, none⟩) hs1).trans e0
  have e1 := (bW.cell (p := ⟨w.heap.size + 1, 1, none⟩) hs1).trans e1
  have f0 := (bW.frozen (p := ⟨w.heap.size + 1, 0, none⟩) hs1).trans f0
  have f1 := (bW.frozen (p := ⟨w.heap.size + 1, 1, none⟩) hs1).trans f1
  have ltx := block_lt_of_cell cx0
  have lty := block_lt_of_cell cy0
  have hs4 : w.heap.size + 1 < W4.heap.size := by have := bW.size; omega
  have B4 := hide ((unhide B3).trans (bW.mono (by omega)))
  have hnx3 : ¬ (w.heap.size + 1 = bb1) := by omega
  have hny3 : ¬ (w.heap.size + 1 = bb2) := by omega
  clear bW dz0 dz1 ez00 ez01 ez10 ez11 pa pb zb00 zb01 zb10 zb11
  have q3 : IntKind.i64.wrap (nth xs (i + 1) - nth xs i) = nth xs (i + 1) - nth xs i := by rw [IntKind.wrap_i64]; omega
  have q4 : IntKind.i64.wrap (nth ys (k + 1) - nth ys k) = nth ys (k + 1) - nth ys k := by rw [IntKind.wrap_i64]; omega
  have q5 : IntKind.i64.wrap ((nth xs (i + 1) - nth xs i) * (nth ys (k + 1) - nth ys k)) = (nth xs (i + 1) - nth xs i) * (nth ys (k + 1) - nth ys k) := by rw [IntKind.wrap_i64]; omega
  go_region_held3 (fun w' => w'.cell? ⟨bb1, off1 + i, none⟩ = some (.int .i64 (nth xs i)) ∧ w'.cell? ⟨bb1, off1 + i + 1, none⟩ = some (.int .i64 (nth xs (i + 1))) ∧ w'.cell? ⟨bb2, off2 + k, none⟩ = some (.int .i64 (nth ys k)) ∧ w'.cell? ⟨bb2, off2 + k + 1, none⟩ = some (.int .i64 (nth ys (k + 1)))) (go_keep)
    (first
      | (go_at_call 43; refine (scaled_any _ _ _ _ (nth ys k) (nth ys (k + 1)) A B y 1000 6000000 _ by0 by1 hA0 hB0 hyy (by omega) (by omega) (by omega) (by omega) (by omega) (by omega) (by simpa using cy0) (by simpa using cy1) (by simpa using en0) (by simpa using en1)).mono ?_; rintro e w' ⟨rfl, n6, hw⟩; subst w')
      | (go_at_call 42; refine (fracOf_any _ _ _ (by omega) (by omega) (by omega) (by omega)).mono ?_; rintro e w5 ⟨rfl, b5⟩; have cx0 := (b5.cell (p := ⟨bb1, off1 + i, none⟩) ltx).trans cx0; have cx1 := (b5.cell (p := ⟨bb1, off1 + i + 1, none⟩) ltx).trans cx1; have cy0 := (b5.cell (p := ⟨bb2, off2 + k, none⟩) lty).trans cy0; have cy1 := (b5.cell (p := ⟨bb2, off2 + k + 1, none⟩) lty).trans cy1; have e0 := (b5.cell (p := ⟨w.heap.size + 1, 0, none⟩) hs4).trans e0; have e1 := (b5.cell (p := ⟨w.heap.size + 1, 1, none⟩) hs4).trans e1; have f0 := (b5.frozen (p := ⟨w.heap.size + 1, 0, none⟩) hs4).trans f0; have f1 := (b5.frozen (p := ⟨w.heap.size + 1, 1, none⟩) hs4).trans f1; have B5 := hide ((unhide B4).trans (((bel0d' _).trans (b5.mono (Nat.le_refl _))).mono (by simp; omega)))))
  go_wp2
  refine bodyPost_ret (v := .tuple #[.agg #[.int .i64 (fracN (A * (nth ys (k + 1) - nth ys k) + (B - A) * (y - nth ys k)) ((nth xs (i + 1) - nth xs i) * (nth ys (k + 1) - nth ys k))), .int .i64 (fracD (A * (nth ys (k + 1) - nth ys k) + (B - A) * (y - nth ys k)) ((nth xs (i + 1) - nth xs i) * (nth ys (k + 1) - nth ys k)))], .bool true]) (by simp [results, Try.results16, go_sem, *]) rfl ⟨?_, ?_⟩
  · rw [unhide HN, unhide HD, unhide HA, unhide HBB]
  · repeat (first | exact unhide B5 | refine Below.setCell ?_ (by simp; try omega) _)

theorem implAtGrid_any (a1 a2 a3 : Option Addr) (l1 c1 l2 c2 l3 c3 : Nat) (xs ys : List Int) (zss : List (List Int)) (x y : Int) (w : World) (h1 : Row w a1 l1 xs) (h2 : Row w a2 l2 ys) (h3 : RowS w a3 l3 zss) (hcap1 : l1 ≤ c1) (hcap2 : l2 ≤ c2) (hcap3 : l3 ≤ c3) :
    Calls Try.prog 16 #[.agg #[.slice a1 l1 c1, .slice a2 l2 c2, .slice a3 l3 c3], .int .i64 x, .int .i64 y] w fun e w' => e = .returned (.tuple #[.agg #[.int .i64 (agN xs ys zss x y), .int .i64 (agD xs ys zss x y)], .bool (agFlag xs ys zss x y)]) ∧ Below w.heap.size w w' := by
  cases hc : gridB xs ys zss
  · have e3 : agFlag xs ys zss x y = false := by simp [agFlag, hc]
    have e1 : agN xs ys zss x y = 0 := by simp [agN, e3]
    have e2 : agD xs ys zss x y = 0 := by simp [agD, e3]
    rw [e1, e2, e3]
    exact implAtGrid_no a1 a2 a3 l1 c1 l2 c2 l3 c3 xs ys zss x y w h1 h2 h3 hc
  · cases hi : inB x (nth xs 0) (nth xs (xs.length - 1))
    · have e3 : agFlag xs ys zss x y = false := by simp [agFlag, hi]
      have e1 : agN xs ys zss x y = 0 := by simp [agN, e3]
      have e2 : agD xs ys zss x y = 0 := by simp [agD, e3]
      rw [e1, e2, e3]
      cases hj : inB y (nth ys 0) (nth ys (ys.length - 1))
      · exact implAtGrid_outA a1 a2 a3 l1 c1 l2 c2 l3 c3 xs ys zss x y w h1 h2 h3 hc hi hj
      · exact implAtGrid_outB a1 a2 a3 l1 c1 l2 c2 l3 c3 xs ys zss x y w h1 h2 h3 hc hi hj
    · cases hj : inB y (nth ys 0) (nth ys (ys.length - 1))
      · have e3 : agFlag xs ys zss x y = false := by simp [agFlag, hj]
        have e1 : agN xs ys zss x y = 0 := by simp [agN, e3]
        have e2 : agD xs ys zss x y = 0 := by simp [agD, e3]
        rw [e1, e2, e3]
        exact implAtGrid_outC a1 a2 a3 l1 c1 l2 c2 l3 c3 xs ys zss x y w h1 h2 h3 hc hi hj
      · have e3 : agFlag xs ys zss x y = true := by simp [agFlag, hc, hi, hj]
        have e1 : agN xs ys zss x y = fracN (agNum xs ys zss x y) (agDen xs ys x y) := by simp [agN, e3]
        have e2 : agD xs ys zss x y = fracD (agNum xs ys zss x y) (agDen xs ys x y) := by simp [agD, e3]
        rw [e1, e2, e3]
        exact implAtGrid_yes a1 a2 a3 l1 c1 l2 c2 l3 c3 xs ys zss x y w h1 h2 h3 hcap1 hcap2 hcap3 hc hi hj

end Go.Proofs.Ytbaocifpifbldaa

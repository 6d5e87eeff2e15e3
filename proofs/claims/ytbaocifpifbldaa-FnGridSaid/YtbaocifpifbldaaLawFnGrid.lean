/-
  The law FnGrid returns true at every list of bytes and writes nothing that was there: the walk. No condition.
-/
import Derived.Test.YtbaocifpifbldaaAtFun
import Derived.Test.YtbaocifpifbldaaGrK
import Derived.Deep.Cut
import Derived.Deep.CutRange
import Derived.Deep.RegionLaw
namespace Go.Proofs.Ytbaocifpifbldaa
open Go.RowKit

theorem belEq {w w' : World} (h : w' = w) : Below w.heap.size w w' := by rw [h]; exact Below.refl _ _
theorem navD1 {B : Nat} {w w' : World} (h : Below B w w') : Below B w (w'.drew) := h.trans (bel0d' 1)

set_option maxRecDepth 20000 in
set_option maxHeartbeats 1000000 in
theorem lawFnGrid_big (a : Option Addr) (len cap : Nat) (w : World) (h : (1048576 : Int) < len) :
    Calls Try.prog 4 #[.slice a len cap] w fun e w' => e = .returned (.bool true) ∧ Below w.heap.size w w' := by
  have hd : decide ((1048576 : Int) < len) = true := by simpa using h
  go_enter Try.func4, Try.ntmps4
  go_wp2_with fail
  refine (big_any a len cap _).mono ?_
  rintro e w' ⟨rfl, hw⟩
  subst w'
  rw [hd]
  go_wp2
  go_ret
  exact ⟨rfl, Below.refl _ _⟩

set_option maxRecDepth 20000 in
set_option maxHeartbeats 8000000 in
theorem lawFnGrid_small (a : Option Addr) (len cap : Nat) (w : World) (h : ¬ (1048576 : Int) < len) (hb : Bytes w a len) (_hin : ∀ b off, a = some ⟨b, off, none⟩ → b < w.heap.size) :
    Calls Try.prog 4 #[.slice a len cap] w fun e w' => e = .returned (.bool true) ∧ Below w.heap.size w w' := by
  have hd0 : decide ((1048576 : Int) < len) = false := by simpa using h
  obtain ⟨f, hf, hat⟩ := at_fun a len cap w hb (by omega)
  have HAT := hide hat
  have HF := hide hf
  have g0 := hf 0
  obtain ⟨t, ht⟩ : ∃ t, 3 + (f 0).tmod 5 = t := ⟨_, rfl⟩
  have hte : 3 + f 0 % 5 = t := by rw [← ht, Int.tmod_eq_emod_of_nonneg (by omega)]
  have bt : 3 ≤ t ∧ t ≤ 7 := by omega
  have HFit : Hid (GrFit t (zf f)) := hide ⟨bt, fun i => by have h1 := hf (2 * i + 1); have h2 := hf (2 * i + 2); simp only [zf]; omega⟩
  clear hat hf hb h
  go_enter Try.func4, Try.ntmps4
  go_wp2_with fail
  refine (big_any a len cap _).mono ?_
  rintro e w' ⟨rfl, hw⟩
  subst w'
  rw [hd0]
  go_wp2_with fail
  refine ((unhide HAT) 0 _ rfl (by omega) _ (Below.refl _ _)).mono ?_
  rintro e w' ⟨rfl, hw⟩
  subst w'
  go_wp2_with fail
  go_loopw [5] (fun i wr => ∃ (k : Nat) (vg vf : Value) (rg rf : List Gw), k ≤ 3 ∧ i = .int .i64 k ∧ Hid (GrR f rg rf k) ∧ Hid (GrS w wr t vg vf rg rf)) (fun i _ => 3 - (intOf i).toNat)
  case atStart => exact ⟨0, _, _, [], [], by omega, rfl, hide ⟨rfl, rfl, fun i hi => by omega, fun i hi => by omega⟩, hide (gr_new _ _ _ _ _ _)⟩
  case round =>
    obtain ⟨k, vg, vf, rg, rf, hk, rfl, HR, GS⟩ := hrel
    by_cases hlt : k < 3
    · have hk3 : (k : Int) < 3 := by omega
      have b1 := (unhide HF) (2 * k + 1)
      have b2 := (unhide HF) (2 * k + 2)
      have wr0 : IntKind.i64.wrap (2 * (k : Int)) = 2 * (k : Int) := by rw [IntKind.wrap_i64]; omega
      have wr1 : IntKind.i64.wrap (2 * (k : Int) + 1) = 2 * (k : Int) + 1 := by rw [IntKind.wrap_i64]; omega
      have wr2 : IntKind.i64.wrap (2 * (k : Int) + 2) = 2 * (k : Int) + 2 := by rw [IntKind.wrap_i64]; omega
      have QB : Below wr.heap.size wr wr := Below.refl _ _
      have hsz := (unhide GS).sz
      have HL : Hid ((rg.map gwV).length = k) := hide (by rw [List.length_map]; exact (unhide HR).lg)
      have p0 : wr.cell? ⟨w.heap.size + 1 + 1, 2, none⟩ = some vg := (unhide GS).bg.c 2 (by simp)
      go_wp2_with fail
      go_cut [] from 32 to 49 (fun wc => ∃ (v9 : Value) (rg9 : List Gw) (B : Nat) (p q : Int), GrS w wc t v9 vf rg9 rf ∧ Hid (rg9 = rg ++ [⟨B, p, q⟩]) ∧ Hid (p = (zf f k).1) ∧ Hid (q = (zf f k).2))
      case first =>
        go_region_law (first
          | ((fail_if_success have := B1); go_simp; go_wp2_with (go_at_call 15; refine ((unhide HAT) (2 * k + 1) _ (by omega) (by omega) _ (by first | exact (unhide GS).bel | exact navD1 ((unhide GS).bel))).mono ?_; rintro e u1 ⟨rfl, hw1⟩; have B1 : Hid (Below wr.heap.size wr u1) := hide (by rw [hw1]; first | exact QB | exact navD1 (QB)); clear hw1; have GS1 := hide ((unhide GS).below (unhide B1)); have p0 : u1.cell? ⟨w.heap.size + 1 + 1, 2, none⟩ = some vg := (unhide GS1).bg.c 2 (by simp)))
          | ((have := B1); (fail_if_success have := B2); go_simp; go_wp2_with (go_at_call 15; refine ((unhide HAT) (2 * k + 2) _ (by omega) (by omega) _ (by first | exact (unhide GS1).bel | exact navD1 ((unhide GS1).bel))).mono ?_; rintro e u2 ⟨rfl, hw1⟩; have B2 : Hid (Below wr.heap.size wr u2) := hide (by rw [hw1]; first | exact unhide B1 | exact navD1 (unhide B1)); clear hw1; have GS2 := hide ((unhide GS).below (unhide B2)); have p0 : u2.cell? ⟨w.heap.size + 1 + 1, 2, none⟩ = some vg := (unhide GS2).bg.c 2 (by simp); have p0a : ∀ o, (u2.alloc o).cell? ⟨w.heap.size + 1 + 1, 2, none⟩ = some vg := fun o => ((unhide GS2).bg.alloc o).c 2 (by simp); have p0b : ∀ o o', ((u2.alloc o).alloc o').cell? ⟨w.heap.size + 1 + 1, 2, none⟩ = some vg := fun o o' => (((unhide GS2).bg.alloc o).alloc o').c 2 (by simp)))
          | (refine step_app_elG rfl (.tmp 33) (.tmp 47) 37 24 rfl Try.underlying37 infoIS rfl (by decide) (by decide) (gwV ⟨u2.heap.size, IntKind.i64.wrap (f (2 * k + 1) - 128), IntKind.i64.wrap (f (2 * k + 2) - 128)⟩) [gwV ⟨u2.heap.size, IntKind.i64.wrap (f (2 * k + 1) - 128), IntKind.i64.wrap (f (2 * k + 2) - 128)⟩] rfl (one_cell _) (by simp [gwV, Value.oneCell']) ((unhide GS2).og.below (bel1 _)) (unhide HL) (by simp [Act.eval]) rfl (by simp [Act.eval]) (by have := (unhide GS2).sz; simp; omega) (by omega) ?_; intro g9 c9 w9 o9 gr9 ha9; have p9 : Blk w9 (w.heap.size + 1 + 1) [.slice (some ⟨w.heap.size, 0, none⟩) 2 2, .slice (some ⟨w.heap.size + 1, 0, none⟩) 3 3, vg] := (((unhide GS2).bg).alloc _).apart gr9 (fun e => by have := (unhide GS).og.lies _ e.symm; omega); have p0 : w9.cell? ⟨w.heap.size + 1 + 1, 2, none⟩ = some vg := p9.c 2 (by simp); have f0 : w9.frozen? ⟨w.heap.size + 1 + 1, 2, none⟩ = false := p9.f 2 (by simp)))
        all_goals (
          go_wp2
          go_meet
          case rel => exact ⟨_, _, _, _, _, (unhide GS).pushG (unhide B2) (by rw [List.map_append]; exact o9) gr9 ha9, hide rfl, hide (by rw [IntKind.wrap_i64]; simp only [zf]; omega), hide (by rw [IntKind.wrap_i64]; simp only [zf]; omega)⟩)
      case rest =>
        obtain ⟨v9, rg9, B, p, q, gs, HRG, HP, HQ⟩ := hcut
        obtain ⟨V, rfl⟩ : ∃ V, V = wc := ⟨_, rfl⟩
        have GV := hide gs
        have HL2 : Hid ((rf.map gwV).length = k) := hide (by rw [List.length_map]; exact (unhide HR).lf)
        have r0 : V.cell? ⟨w.heap.size + 1 + 1 + 1, 2, none⟩ = some vf := gs.bf.c 2 (by simp)
        have hsz2 := gs.sz
        clear gs GS p0 QB HL
        go_wp2_with (at_builtin; (refine wpList_app_elG rfl (.tmp 51) (.tmp 53) 37 24 rfl Try.underlying37 infoIS rfl (by decide) (by decide) (gwV ⟨V.heap.size, 7, 7⟩) [gwV ⟨V.heap.size, 7, 7⟩] rfl (one_cell _) (by simp [gwV, Value.oneCell']) ((unhide GV).of.below (bel1 (w := V) (Obj.cells #[.int .i64 7, .int .i64 7] 3))) (unhide HL2) rfl (H := V.heap.size + 1) (by simp) rfl (by simp; omega) (by omega) ?_; intro g9 c9 w9 o9 gr9 ha9; have p9 : Blk w9 (w.heap.size + 1 + 1 + 1) [.slice (some ⟨w.heap.size, 0, none⟩) 2 2, .slice (some ⟨w.heap.size + 1, 0, none⟩) 3 3, vf] := (((unhide GV).bf).alloc _).apart gr9 (fun e => by have := (unhide GV).of.lies _ e.symm; omega); have p0 : w9.cell? ⟨w.heap.size + 1 + 1 + 1, 2, none⟩ = some vf := p9.c 2 (by simp); have f0 : w9.frozen? ⟨w.heap.size + 1 + 1 + 1, 2, none⟩ = false := p9.f 2 (by simp); have GN := hide ((unhide GV).pushF (Below.refl _ _) (by rw [List.map_append]; exact o9) gr9 ha9); clear o9 gr9 ha9 p9))
        go_roundw
        case rel => exact ⟨k + 1, _, _, _, _, by omega, by go_num, hide (by rw [unhide HRG]; exact (unhide HR).push (unhide HP) (unhide HQ)), GN⟩
        case measure => simp [intOf]; omega
    · have hnl : ¬ (k : Int) < 3 := by omega
      have hr3 : GrR f rg rf 3 := by
        have e : k = 3 := by omega
        rw [← e]; exact unhide HR
      obtain ⟨g, c, g2, c2, gk⟩ := (unhide GS).whole hr3 (unhide HFit)
      clear hr3
      have GK := hide gk
      clear gk GS HR hlt hk
      go_wp2_with fail
      clear hnl
      obtain ⟨U, rfl⟩ : ∃ U, U = wr := ⟨_, rfl⟩
      go_loopw [6] (fun i wr => ∃ n : Nat, n ≤ 3 ∧ i = .int .i64 n ∧ Hid (GrK w wr t f g c g2 c2)) (fun i _ => 3 - (intOf i).toNat)
      case atStart => exact ⟨0, by omega, rfl, GK⟩
      case round =>
        clear GK
        obtain ⟨n, hn, rfl, GK⟩ := hrel
        by_cases hlt : n < 3
        · have hn3 : (n : Int) < 3 := by omega
          go_wp2_with fail
          obtain ⟨U2, rfl⟩ : ∃ U, U = wr := ⟨_, rfl⟩
          go_loopw [7] (fun i wr => ∃ k : Nat, k ≤ 2 ∧ i = .int .i64 k ∧ Hid (GrK w wr t f g c g2 c2)) (fun i _ => 2 - (intOf i).toNat)
          case atStart => exact ⟨0, by omega, rfl, GK⟩
          case round =>
            clear GK
            obtain ⟨k, hk, rfl, GK⟩ := hrel
            obtain ⟨V, rfl⟩ : ∃ V, V = wr := ⟨_, rfl⟩
            by_cases hlt2 : k < 2
            · have hk2 : (k : Int) < 2 := by omega
              have hn0 : (0 : Int) ≤ (n : Int) := by omega
              have hk0 : (0 : Int) ≤ (k : Int) := by omega
              obtain ⟨X, hX⟩ : ∃ X, grXk t k = X := ⟨_, rfl⟩
              obtain ⟨Y, hY⟩ : ∃ Y, grYi n = Y := ⟨_, rfl⟩
              obtain ⟨C, hC⟩ : ∃ C, grC (zf f) n k = C := ⟨_, rfl⟩
              have HC : Hid (agFlag (grX t) grY (grZ (zf f)) X Y = true ∧ agN (grX t) grY (grZ (zf f)) X Y = C ∧ agD (grX t) grY (grZ (zf f)) X Y = 1) := hide (by have h := gr_corner (unhide HFit) (i := n) (k := k) hlt; rw [hX, hY, hC] at h; exact h)
              have hCC : (C != C) = false := by simp
              have c0 : V.cell? ⟨w.heap.size + 1 + 1, 0, none⟩ = some (.slice (some ⟨w.heap.size, 0, none⟩) 2 2) := (unhide GK).bg.c 0 (by simp)
              have c1 : V.cell? ⟨w.heap.size + 1 + 1, 1, none⟩ = some (.slice (some ⟨w.heap.size + 1, 0, none⟩) 3 3) := (unhide GK).bg.c 1 (by simp)
              have c2_ : V.cell? ⟨w.heap.size + 1 + 1, 2, none⟩ = some (.slice (some ⟨g, 0, none⟩) 3 c) := (unhide GK).bg.c 2 (by simp)
              have c3 : V.cell? ⟨w.heap.size, k, none⟩ = some (.int .i64 X) := by rw [← hX]; exact (unhide GK).cx hlt2
              have c4 : V.cell? ⟨w.heap.size + 1, n, none⟩ = some (.int .i64 Y) := by rw [← hY]; exact (unhide GK).cy hlt
              have HZ : Hid (∃ b, V.cell? ⟨g, n, none⟩ = some (.slice (some ⟨b, 0, none⟩) 2 2) ∧ V.cell? ⟨b, k, none⟩ = some (.int .i64 C)) := hide (by have h := (unhide GK).cz hlt hlt2; rw [hC] at h; exact h)
              have hA := grh_al V
              have hD := grh_dr V
              have hS := grh_st1 V
              have hS4 := grh_st V
              have bb : Below V.heap.size V V := Below.refl _ _
              have z3 := bb.size
              have n0 := World.new_ne V _ c0
              have n3 := World.new_ne V _ c3
              have n4 := World.new_ne V _ c4
              clear hX hY hC
              go_wp2_with fail
              go_cut [8, 9] from 64 to 78 (fun p q wc => ∃ S, p = .pointer (some ⟨S, 0, none⟩) ∧ q = .bool true ∧ wc.cell? ⟨S, 0, none⟩ = some (.int .i64 C) ∧ wc.cell? ⟨S, 1, none⟩ = some (.int .i64 1) ∧ wc.cell? ⟨w.heap.size + 1 + 1, 0, none⟩ = some (.slice (some ⟨w.heap.size, 0, none⟩) 2 2) ∧ wc.cell? ⟨w.heap.size + 1 + 1, 1, none⟩ = some (.slice (some ⟨w.heap.size + 1, 0, none⟩) 3 3) ∧ wc.cell? ⟨w.heap.size + 1 + 1, 2, none⟩ = some (.slice (some ⟨g, 0, none⟩) 3 c) ∧ wc.cell? ⟨w.heap.size, k, none⟩ = some (.int .i64 X) ∧ wc.cell? ⟨w.heap.size + 1, n, none⟩ = some (.int .i64 Y) ∧ Below V.heap.size V wc)
              case first =>
                go_region_held3 (fun w' => w'.cell? ⟨w.heap.size + 1 + 1, 0, none⟩ = some (.slice (some ⟨w.heap.size, 0, none⟩) 2 2) ∧ w'.cell? ⟨w.heap.size + 1 + 1, 1, none⟩ = some (.slice (some ⟨w.heap.size + 1, 0, none⟩) 3 3) ∧ w'.cell? ⟨w.heap.size + 1 + 1, 2, none⟩ = some (.slice (some ⟨g, 0, none⟩) 3 c) ∧ w'.cell? ⟨w.heap.size, k, none⟩ = some (.int .i64 X) ∧ w'.cell? ⟨w.heap.size + 1, n, none⟩ = some (.int .i64 Y) ∧ Below V.heap.size V w') (go_keep)
                  ((go_at_call 16; refine (implAtGrid_any _ _ _ _ _ _ _ _ _ (grX t) grY (grZ (zf f)) X Y _ ((unhide GK).rx.below (by first | exact Below.refl _ _ | exact bel0d 1 | exact bel1 _ | exact bel1d _ 1)) ((unhide GK).ry.below (by first | exact Below.refl _ _ | exact bel0d 1 | exact bel1 _ | exact bel1d _ 1)) ((unhide GK).rg.below (by first | exact Below.refl _ _ | exact bel0d 1 | exact bel1 _ | exact bel1d _ 1)) (Nat.le_refl _) (Nat.le_refl _) (unhide GK).hc).mono ?_; rintro e w3 ⟨rfl, b3⟩; rw [(unhide HC).1, (unhide HC).2.1, (unhide HC).2.2]; have H3 := grhK5 (by assumption) b3; (first | (have hs := grhNew b3; obtain ⟨s0, s1, f0, f1, ls⟩ := hs) | (have hs := grhNewD b3; obtain ⟨s0, s1, f0, f1, ls⟩ := hs) | skip); obtain ⟨c0, c1, c2_, c3, c4, bb⟩ := H3; have z3 := bb.size; have n0 := World.new_ne w3 _ c0; have n3 := World.new_ne w3 _ c3; have n4 := World.new_ne w3 _ c4; clear b3))
                all_goals (
                  go_wp2
                  go_meet
                  case rel => exact ⟨_, rfl, rfl, by simp [go_sem, *], by simp [go_sem, *], by assumption⟩)
              case rest =>
                obtain ⟨S, rfl, rfl, s0, s1, k0, k1, k2, _, _, bb⟩ := hcut
                have GN := hide ((unhide GK).below bb)
                obtain ⟨b, hz1, hz2⟩ := unhide HZ
                have y1 : wc.cell? ⟨g, n, none⟩ = some (.slice (some ⟨b, 0, none⟩) 2 2) := (bb.cell (block_lt_of_cell hz1)).trans hz1
                have y2 : wc.cell? ⟨b, k, none⟩ = some (.int .i64 C) := (bb.cell (block_lt_of_cell hz2)).trans hz2
                clear hz1 hz2 HZ bb GK hA hD hS hS4 z3 n0 n3 n4 c0 c1 c2_ c3 c4 HC
                have hone : ((1 : Int) != 1) = false := by simp
                go_wp2_with fail
                go_quiet (fail)
                go_wp2_with fail
                go_roundw
                case rel => exact ⟨k + 1, by omega, by go_num, hide ((unhide GN).below (bel0d _))⟩
                case measure => simp [intOf]; omega
            · have hk2 : ¬ (k : Int) < 2 := by omega
              clear hlt2 hk
              go_wp2_with fail
              go_roundw
              case rel => exact ⟨n + 1, by omega, by go_num, GK⟩
              case measure => simp [intOf]; omega
        · have hn3 : ¬ (n : Int) < 3 := by omega
          obtain ⟨V, rfl⟩ : ∃ V, V = wr := ⟨_, rfl⟩
          have b9 := (unhide HF) 9
          have b10 := (unhide HF) 10
          have c0 : V.cell? ⟨w.heap.size + 1 + 1 + 1, 0, none⟩ = some (.slice (some ⟨w.heap.size, 0, none⟩) 2 2) := (unhide GK).bf.c 0 (by simp)
          have c1 : V.cell? ⟨w.heap.size + 1 + 1 + 1, 1, none⟩ = some (.slice (some ⟨w.heap.size + 1, 0, none⟩) 3 3) := (unhide GK).bf.c 1 (by simp)
          have c2_ : V.cell? ⟨w.heap.size + 1 + 1 + 1, 2, none⟩ = some (.slice (some ⟨g2, 0, none⟩) 3 c2) := (unhide GK).bf.c 2 (by simp)
          have hA := grh_al V
          have hD := grh_dr V
          have hS := grh_st1 V
          have hS4 := grh_st V
          have bb : Below V.heap.size V V := Below.refl _ _
          have z3 := bb.size
          have n0 := World.new_ne V _ c0
          have HFL : Hid (∀ x y, (0 ≤ x ∧ x ≤ 3) → (-2 ≤ y ∧ y ≤ 9) → agFlag (grX t) grY (grZ flatZ) x y = true ∧ agN (grX t) grY (grZ flatZ) x y = 7 ∧ agD (grX t) grY (grZ flatZ) x y = 1) := hide (fun x y h1 h2 => gr_flat bt h1 h2)
          clear hlt hn
          go_wp2_with fail
          clear hn3
          go_cut [10, 11] from 14 (fun p q wc => ∃ S, p = .pointer (some ⟨S, 0, none⟩) ∧ q = .bool true ∧ wc.cell? ⟨S, 0, none⟩ = some (.int .i64 7) ∧ wc.cell? ⟨S, 1, none⟩ = some (.int .i64 1) ∧ wc.cell? ⟨w.heap.size + 1 + 1 + 1, 0, none⟩ = some (.slice (some ⟨w.heap.size, 0, none⟩) 2 2) ∧ wc.cell? ⟨w.heap.size + 1 + 1 + 1, 1, none⟩ = some (.slice (some ⟨w.heap.size + 1, 0, none⟩) 3 3) ∧ wc.cell? ⟨w.heap.size + 1 + 1 + 1, 2, none⟩ = some (.slice (some ⟨g2, 0, none⟩) 3 c2) ∧ Below V.heap.size V wc)
          case first =>
            go_region_held3 (fun w' => w'.cell? ⟨w.heap.size + 1 + 1 + 1, 0, none⟩ = some (.slice (some ⟨w.heap.size, 0, none⟩) 2 2) ∧ w'.cell? ⟨w.heap.size + 1 + 1 + 1, 1, none⟩ = some (.slice (some ⟨w.heap.size + 1, 0, none⟩) 3 3) ∧ w'.cell? ⟨w.heap.size + 1 + 1 + 1, 2, none⟩ = some (.slice (some ⟨g2, 0, none⟩) 3 c2) ∧ Below V.heap.size V w') (go_keep)
              ((first
              | ((fail_if_success have := M1); go_at_call 15; refine ((unhide HAT) 9 _ rfl (by omega) _ ((unhide GK).bel.trans ((grh3B (by assumption)).mono (unhide GK).bel.size))).mono ?_; rintro e w3 ⟨rfl, hw3⟩; have b3 : Below _ _ w3 := belEq hw3; have M1 := trivial; have H3 := grhK3 (by assumption) b3; (first | (have hs := grhStill ⟨s0, s1, f0, f1, ls⟩ b3; obtain ⟨s0, s1, f0, f1, ls⟩ := hs) | (have hs := grhNew b3; obtain ⟨s0, s1, f0, f1, ls⟩ := hs) | (have hs := grhNewD b3; obtain ⟨s0, s1, f0, f1, ls⟩ := hs) | skip); obtain ⟨c0, c1, c2_, bb⟩ := H3; have z3 := bb.size; have n0 := World.new_ne w3 _ c0; clear b3 hw3)
              | ((have := M1); (fail_if_success have := M2); go_at_call 15; refine ((unhide HAT) 10 _ rfl (by omega) _ ((unhide GK).bel.trans ((grh3B (by assumption)).mono (unhide GK).bel.size))).mono ?_; rintro e w3 ⟨rfl, hw3⟩; have b3 : Below _ _ w3 := belEq hw3; have M2 := trivial; have H3 := grhK3 (by assumption) b3; (first | (have hs := grhStill ⟨s0, s1, f0, f1, ls⟩ b3; obtain ⟨s0, s1, f0, f1, ls⟩ := hs) | (have hs := grhNew b3; obtain ⟨s0, s1, f0, f1, ls⟩ := hs) | (have hs := grhNewD b3; obtain ⟨s0, s1, f0, f1, ls⟩ := hs) | skip); obtain ⟨c0, c1, c2_, bb⟩ := H3; have z3 := bb.size; have n0 := World.new_ne w3 _ c0; clear b3 hw3)
              | (go_at_call 16; refine (implAtGrid_any _ _ _ _ _ _ _ _ _ (grX t) grY (grZ flatZ) _ _ _ ((unhide GK).rx.below (grh3B (by assumption))) ((unhide GK).ry.below (grh3B (by assumption))) ((unhide GK).rf.below (grh3B (by assumption))) (Nat.le_refl _) (Nat.le_refl _) (unhide GK).hc2).mono ?_; rintro e w3 ⟨rfl, b3⟩; rw [((unhide HFL) _ _ (by rw [Int.tmod_eq_emod_of_nonneg b9.1]; omega) (by rw [Int.tmod_eq_emod_of_nonneg b10.1, IntKind.wrap_i64]; omega)).1, ((unhide HFL) _ _ (by rw [Int.tmod_eq_emod_of_nonneg b9.1]; omega) (by rw [Int.tmod_eq_emod_of_nonneg b10.1, IntKind.wrap_i64]; omega)).2.1, ((unhide HFL) _ _ (by rw [Int.tmod_eq_emod_of_nonneg b9.1]; omega) (by rw [Int.tmod_eq_emod_of_nonneg b10.1, IntKind.wrap_i64]; omega)).2.2]; have H3 := grhK3 (by assumption) b3; (first | (have hs := grhStill ⟨s0, s1, f0, f1, ls⟩ b3; obtain ⟨s0, s1, f0, f1, ls⟩ := hs) | (have hs := grhNew b3; obtain ⟨s0, s1, f0, f1, ls⟩ := hs) | (have hs := grhNewD b3; obtain ⟨s0, s1, f0, f1, ls⟩ := hs) | skip); obtain ⟨c0, c1, c2_, bb⟩ := H3; have z3 := bb.size; have n0 := World.new_ne w3 _ c0; clear b3)))
            all_goals (
              go_wp2
              go_meet
              case rel => exact ⟨_, rfl, rfl, by simp [go_sem, *], by simp [go_sem, *], by assumption⟩)
          case rest =>
            obtain ⟨S, rfl, rfl, s0, s1, _, _, _, bb⟩ := hcut
            have GN := hide ((unhide GK).below bb)
            clear bb GK hA hD hS hS4 z3 n0 c0 c1 c2_ HFL
            obtain ⟨Z, rfl⟩ : ∃ Z, Z = wc := ⟨_, rfl⟩
            have d0 : Z.cell? ⟨w.heap.size + 1 + 1, 0, none⟩ = some (.slice (some ⟨w.heap.size, 0, none⟩) 2 2) := (unhide GN).bg.c 0 (by simp)
            have d1 : Z.cell? ⟨w.heap.size + 1 + 1, 1, none⟩ = some (.slice (some ⟨w.heap.size + 1, 0, none⟩) 3 3) := (unhide GN).bg.c 1 (by simp)
            have d2 : Z.cell? ⟨w.heap.size + 1 + 1, 2, none⟩ = some (.slice (some ⟨g, 0, none⟩) 3 c) := (unhide GN).bg.c 2 (by simp)
            go_wp2_with fail
            refine (implAtGrid_any _ _ _ _ _ _ _ _ _ (grX t) grY (grZ (zf f)) (-1) 0 _ (unhide GN).rx (unhide GN).ry (unhide GN).rg (Nat.le_refl _) (Nat.le_refl _) (unhide GN).hc).mono ?_
            rintro e w5 ⟨rfl, b5⟩
            rw [gr_out]
            have s0 : w5.cell? ⟨S, 0, none⟩ = some (.int .i64 7) := (b5.cell (block_lt_of_cell s0)).trans s0
            have s1 : w5.cell? ⟨S, 1, none⟩ = some (.int .i64 1) := (b5.cell (block_lt_of_cell s1)).trans s1
            have G5 := hide ((unhide GN).below b5)
            obtain ⟨A0, hA0⟩ : ∃ A0, agN (grX t) grY (grZ (zf f)) (-1) 0 = A0 := ⟨_, rfl⟩
            obtain ⟨A1, hA1⟩ : ∃ A1, agD (grX t) grY (grZ (zf f)) (-1) 0 = A1 := ⟨_, rfl⟩
            rw [hA0, hA1]
            clear hA0 hA1 b5 GN d0 d1 d2
            obtain ⟨Y, hY⟩ : ∃ Y, Y = w5.alloc (Obj.cells #[.int .i64 A0, .int .i64 A1] 30) := ⟨_, rfl⟩
            have bY : Below w5.heap.size w5 Y := by rw [hY]; exact bel1 _
            have G6 := hide ((unhide G5).below bY)
            have s0 : Y.cell? ⟨S, 0, none⟩ = some (.int .i64 7) := (bY.cell (block_lt_of_cell s0)).trans s0
            have s1 : Y.cell? ⟨S, 1, none⟩ = some (.int .i64 1) := (bY.cell (block_lt_of_cell s1)).trans s1
            have d0 : Y.cell? ⟨w.heap.size + 1 + 1, 0, none⟩ = some (.slice (some ⟨w.heap.size, 0, none⟩) 2 2) := (unhide G6).bg.c 0 (by simp)
            have d1 : Y.cell? ⟨w.heap.size + 1 + 1, 1, none⟩ = some (.slice (some ⟨w.heap.size + 1, 0, none⟩) 3 3) := (unhide G6).bg.c 1 (by simp)
            have d2 : Y.cell? ⟨w.heap.size + 1 + 1, 2, none⟩ = some (.slice (some ⟨g, 0, none⟩) 3 c) := (unhide G6).bg.c 2 (by simp)
            rw [hY] at s0 s1 d0 d1 d2
            have HY := hide hY
            clear bY G5 hY
            go_wp2_with (go_at_call 17; rw [← unhide HY]; refine (implGridOk_is _ _ _ _ _ _ _ _ _ (grX t) grY (grZ (zf f)) _ (gr_ok (unhide HFit)) (unhide G6).rx (unhide G6).ry (unhide G6).rg).mono ?_; rintro e w7 ⟨rfl, b7⟩)
            go_ret
            exact ⟨rfl, (unhide G6).bel.trans (b7.mono (unhide G6).bel.size)⟩

theorem lawFnGrid (a : Option Addr) (len cap : Nat) (w : World) (hb : Bytes w a len) (hin : ∀ b off, a = some ⟨b, off, none⟩ → b < w.heap.size) :
    Calls Try.prog 4 #[.slice a len cap] w fun e w' => e = .returned (.bool true) ∧ Below w.heap.size w w' := by
  by_cases h : (1048576 : Int) < len
  · exact lawFnGrid_big a len cap w h
  · exact lawFnGrid_small a len cap w h hb hin

end Go.Proofs.Ytbaocifpifbldaa

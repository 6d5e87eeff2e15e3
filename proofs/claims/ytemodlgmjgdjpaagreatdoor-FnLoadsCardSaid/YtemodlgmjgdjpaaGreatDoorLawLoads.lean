/-
  The law FnLoads returns true at every list of bytes and writes nothing that was there: the walk. The package's errorType holds its handle.
-/
import Derived.Test.YtemodlgmjgdjpaaGreatDoorMDrAo
import Derived.Test.YtemodlgmjgdjpaaGreatDoorMToWn
import Derived.Test.YtemodlgmjgdjpaaGreatDoorMBase
import Derived.Deep.RegionHeld3
namespace Go.Proofs.YtemodlgmjgdjpaaGreatDoor
open Go Go.RowKit

set_option maxRecDepth 20000 in
set_option maxHeartbeats 1000000 in
theorem lawLoads_big (a : Option Addr) (len cap : Nat) (w : World) (h : (1048576 : Int) < len) :
    Calls Tryz.prog 3 #[.slice a len cap] w fun e w' => e = .returned (.bool true) ∧ Below w.heap.size w w' := by
  have hd : decide ((1048576 : Int) < len) = true := by simpa using h
  go_enter Tryz.func3, Tryz.ntmps3
  go_wp2_with fail
  refine (big_any a len cap _).mono ?_
  rintro e w' ⟨rfl, hw⟩
  subst w'
  rw [hd]
  go_wp2
  go_ret
  exact ⟨rfl, Below.refl _ _⟩

set_option maxRecDepth 20000 in
set_option maxHeartbeats 16000000 in
theorem lawLoads_small (a : Option Addr) (len cap : Nat) (w : World) (h : ¬ (1048576 : Int) < len) (hb : Bytes w a len) (hin : ∀ b off, a = some ⟨b, off, none⟩ → b < w.heap.size) (hg : ErG w) :
    Calls Tryz.prog 3 #[.slice a len cap] w fun e w' => e = .returned (.bool true) ∧ Below w.heap.size w w' := by
  have hd0 : decide ((1048576 : Int) < len) = false := by simpa using h
  have DRA := hide (drawAboard_any a len cap w hb hin)
  have HBY := hide hb
  have HG := hide hg
  have hlen : len ≤ 1048576 := by omega
  clear hb h hin hg
  go_enter Tryz.func3, Tryz.ntmps3
  go_wp2_with fail
  refine (big_any a len cap _).mono ?_
  rintro e w' ⟨rfl, hw⟩
  subst w'
  rw [hd0]
  go_wp2_with fail
  refine (unhide DRA).mono ?_
  rintro e V0 ⟨s, a1, l1, c1, zs, bb, n1, d1, ls, rfl, hab, hlz, ⟨lo, hi, his, hhi⟩, hrow, hn8, hld, b0⟩
  have HROW := hide hrow
  have HLD := hide hld
  have HG0 := hide ((unhide HG).below b0)
  have BW := hide b0
  obtain ⟨f, hf, hat⟩ := at_fun a len cap V0 ((unhide HBY).below b0) hlen
  have HF := hide hf
  have HAT := hide hat
  obtain ⟨V1, hV1⟩ : ∃ V, V = V0.alloc (Obj.cells #[.int .i64 s, .slice a1 l1 c1] 26) := ⟨_, rfl⟩
  have bV : Below V0.heap.size V0 V1 := by rw [hV1]; exact bel1 _
  have HLO : Hid (Lo V0 V1 V0.heap.size s a1 l1 c1 zs) := hide ⟨bV, by rw [hV1]; exact Blk.new _ _, ⟨lo, hi, his.below bV, .inl hhi⟩, hab, hlz⟩
  obtain ⟨A, hA⟩ : ∃ A, V0.heap.size = A := ⟨_, rfl⟩
  rw [hA] at HLO
  have HA := hide hA
  have HV1 := hide hV1
  clear hrow hld b0 hf hat hV1 bV hab hlz his hhi hA DRA HBY HG hlen hd0
  go_wp2_with fail
  rw [← unhide HV1, unhide HA]
  clear HV1
  go_loopw [5] (fun s5 wr => ∃ (i : Nat) (a1 : Option Addr) (l1 c1 : Nat) (zs : List Lc), s5 = .int .i64 (i : Int) ∧ i ≤ n1 ∧ Hid (Lo V0 wr A s a1 l1 c1 zs)) (fun s5 _ => n1 - (intOf s5).toNat)
  case atStart => exact ⟨0, a1, l1, c1, zs, rfl, by omega, HLO⟩
  case round =>
    clear HLO
    obtain ⟨i, a1, l1, c1, zs, rfl, hin, HLO⟩ := hrel
    by_cases hp : i < n1
    · have j1 : (i : Int) < (n1 : Int) := by omega
      have j0 : (0 : Int) ≤ (i : Int) := by omega
      obtain ⟨x, hx⟩ : ∃ x, elAt ls i = x := ⟨_, rfl⟩
      have hXX := (unhide HLD) i hp
      rw [hx] at hXX
      have HLS := hide hXX.1
      have HXI := hide hXX.2
      have R1 := (unhide HROW).below (unhide HLO).bel
      obtain ⟨gb, ob, eb, hc6⟩ : ∃ gb ob, bb = some ⟨gb, ob, none⟩ ∧ ∀ q, q < 6 → wr.cell? ⟨gb, ob + i * 6 + q, none⟩ = some (lxC x q) := by
        obtain ⟨b, off, ha, hc⟩ := R1.at_ i hp
        rw [hx] at hc
        exact ⟨b, off, ha, hc⟩
      have ye0 : wr.cell? ⟨gb, ob + i * 6, none⟩ = some (.string x.p) := hc6 0 (by omega)
      have ye1 : wr.cell? ⟨gb, ob + i * 6 + 1, none⟩ = some (.int .i64 x.nb) := hc6 1 (by omega)
      have ye2 : wr.cell? ⟨gb, ob + i * 6 + 2, none⟩ = some (.int .i64 x.le) := hc6 2 (by omega)
      have ye3 : wr.cell? ⟨gb, ob + i * 6 + 3, none⟩ = some (.int .i64 x.mo) := hc6 3 (by omega)
      have ye4 : wr.cell? ⟨gb, ob + i * 6 + 4, none⟩ = some (.int .i64 x.ne) := hc6 4 (by omega)
      have ye5 : wr.cell? ⟨gb, ob + i * 6 + 5, none⟩ = some (.slice x.d.a x.d.n x.d.c) := hc6 5 (by omega)
      have HEB := hide eb
      rw [eb]
      clear hXX R1 hc6 hx eb
      go_upto_region 8 with fail
      clear ye0 ye1 ye2 ye3 ye4 ye5
      obtain ⟨V2, hV2⟩ : ∃ V, V = wr.alloc (Obj.cells #[.string x.p, .int .i64 x.nb, .int .i64 x.le, .int .i64 x.mo, .int .i64 x.ne, .slice x.d.a x.d.n x.d.c] 32) := ⟨_, rfl⟩
      have b2 : Below wr.heap.size wr V2 := by rw [hV2]; exact bel1 _
      have HO2 := hide ((unhide HLO).below b2)
      have KL2 : Hid (Blk V2 wr.heap.size [.string x.p, .int .i64 x.nb, .int .i64 x.le, .int .i64 x.mo, .int .i64 x.ne, .slice x.d.a x.d.n x.d.c]) := hide (by rw [hV2]; exact Blk.new _ _)
      have HAL : Hid (A < wr.heap.size) := hide (unhide HLO).box.lt
      obtain ⟨L, hL⟩ : ∃ L, wr.heap.size = L := ⟨_, rfl⟩
      rw [hL] at KL2 HAL
      rw [← hV2, hL]
      clear hV2 hL b2 HLO
      have hldb : ldB ⟨x.p, x.nb, x.le, x.mo, x.ne, x.d.zs⟩ = true := (unhide HLS).1.1
      obtain ⟨sl, hsl⟩ : ∃ z, seR ⟨x.p, x.nb, x.le, x.mo, x.ne, x.d.zs⟩ = z := ⟨_, rfl⟩
      have HSL : Hid (sl = seO (lxW x)) := hide (by rw [← hsl]; exact seR_ok (l := lxW x) hldb)
      have HSB : Hid (0 ≤ sl ∧ sl < 1000003) := hide (by rw [unhide HSL]; exact seO_bd _)
      have HSR := hide hsl
      have HDB := hide hldb
      have HZ5 : Hid (x.d.zs.length = x.d.n ∧ x.d.n ≤ 5) := hide (by have h1 := (unhide HXI).sl.row.len_eq; have h2 := (unhide HLS).1.2; omega)
      clear hldb hsl
      have yl0 : V2.cell? ⟨L, 0, none⟩ = some (.string x.p) := (unhide KL2).c 0 (by simp)
      have yl1 : V2.cell? ⟨L, 1, none⟩ = some (.int .i64 x.nb) := (unhide KL2).c 1 (by simp)
      have yl2 : V2.cell? ⟨L, 2, none⟩ = some (.int .i64 x.le) := (unhide KL2).c 2 (by simp)
      have yl3 : V2.cell? ⟨L, 3, none⟩ = some (.int .i64 x.mo) := (unhide KL2).c 3 (by simp)
      have yl4 : V2.cell? ⟨L, 4, none⟩ = some (.int .i64 x.ne) := (unhide KL2).c 4 (by simp)
      have yl5 : V2.cell? ⟨L, 5, none⟩ = some (.slice x.d.a x.d.n x.d.c) := (unhide KL2).c 5 (by simp)
      go_wp2_with fail
      refine (implSeal_any x.p x.nb x.le x.mo x.ne x.d.a x.d.n x.d.c x.d.zs V2 ⟨(unhide HXI).sl.row.below (unhide HO2).bel⟩ (unhide HXI).sl.byt (unhide HXI).sz).mono ?_
      rintro e V3 ⟨rfl, b3⟩
      rw [unhide HSR, unhide HDB]
      have HO3 := hide ((unhide HO2).below b3)
      have KL3 := hide ((unhide KL2).below b3)
      clear b3 HO2 KL2
      clear yl0 yl1 yl2 yl3 yl4 yl5
      have ya0 : V3.cell? ⟨A, 0, none⟩ = some (.int .i64 s) := (unhide HO3).box.c 0 (by simp)
      have ya1 : V3.cell? ⟨A, 1, none⟩ = some (.slice a1 l1 c1) := (unhide HO3).box.c 1 (by simp)
      have yl0 : V3.cell? ⟨L, 0, none⟩ = some (.string x.p) := (unhide KL3).c 0 (by simp)
      have yl1 : V3.cell? ⟨L, 1, none⟩ = some (.int .i64 x.nb) := (unhide KL3).c 1 (by simp)
      have yl2 : V3.cell? ⟨L, 2, none⟩ = some (.int .i64 x.le) := (unhide KL3).c 2 (by simp)
      have yl3 : V3.cell? ⟨L, 3, none⟩ = some (.int .i64 x.mo) := (unhide KL3).c 3 (by simp)
      have yl4 : V3.cell? ⟨L, 4, none⟩ = some (.int .i64 x.ne) := (unhide KL3).c 4 (by simp)
      have yl5 : V3.cell? ⟨L, 5, none⟩ = some (.slice x.d.a x.d.n x.d.c) := (unhide KL3).c 5 (by simp)
      go_wp2_with fail
      refine (implTake18_any s a1 l1 c1 zs x sl V3 (unhide HO3).read (unhide HO3).lz ⟨(unhide HXI).sl.below (unhide HO3).bel, (unhide HXI).sz⟩ (by have := unhide HZ5; omega) ((unhide HG0).below (unhide HO3).bel)).mono ?_
      rintro e V4 ⟨a9, c9, rfl, oa, b4⟩
      have HAB2 := hide (ab_take (l := lxW x) (sl := sl) (unhide HO3).ab)
      have HLZ2 := hide (tkL_lz (s := s) (l := lxW x) (sl := sl) (unhide HO3).lz (by have := unhide HZ5; show x.d.zs.length ≤ 1048576; omega))
      obtain ⟨zs2, hz2⟩ : ∃ z, tkL s zs (lxW x) sl = z := ⟨_, rfl⟩
      obtain ⟨tc, htc⟩ : ∃ z, tkC s zs (lxW x) sl = z := ⟨_, rfl⟩
      obtain ⟨l9, hl9⟩ : ∃ z, zs2.length = z := ⟨_, rfl⟩
      rw [hz2] at oa HAB2 HLZ2 ⊢
      rw [htc]
      rw [hl9] at oa ⊢
      have HZ2 := hide hz2
      have HTC := hide htc
      have HO4 := hide ((unhide HO3).below b4)
      have KL4 := hide ((unhide KL3).below b4)
      have OA := hide oa.is
      have HA4 : Hid (A < V3.heap.size) := hide (unhide HO3).box.lt
      clear hz2 htc hl9 oa b4 HO3 KL3
      clear ya0 ya1 yl0 yl1 yl2 yl3 yl4 yl5
      obtain ⟨V5, hV5⟩ : ∃ V, V = V4.alloc (Obj.cells #[.int .i64 s, .slice a9 l9 c9] 26) := ⟨_, rfl⟩
      have b5 : Below V4.heap.size V4 V5 := by rw [hV5]; exact bel1 _
      have HN5 : Hid (Ln V0 V5 A L V4.heap.size s a1 l1 c1 zs x a9 l9 c9 zs2) := hide ⟨(unhide HO4).below b5, (unhide KL4).below b5, by rw [hV5]; exact Blk.new _ _, ⟨_, _, (unhide OA).below b5, unhide HA4⟩, unhide HAB2, unhide HLZ2⟩
      obtain ⟨N, hN⟩ : ∃ N, V4.heap.size = N := ⟨_, rfl⟩
      have HV5 := hide hV5
      have HNN := hide hN
      have yl0 : V5.cell? ⟨L, 0, none⟩ = some (.string x.p) := (unhide HN5).lb.c 0 (by simp)
      have yl1 : V5.cell? ⟨L, 1, none⟩ = some (.int .i64 x.nb) := (unhide HN5).lb.c 1 (by simp)
      have yl2 : V5.cell? ⟨L, 2, none⟩ = some (.int .i64 x.le) := (unhide HN5).lb.c 2 (by simp)
      have yl3 : V5.cell? ⟨L, 3, none⟩ = some (.int .i64 x.mo) := (unhide HN5).lb.c 3 (by simp)
      have yl4 : V5.cell? ⟨L, 4, none⟩ = some (.int .i64 x.ne) := (unhide HN5).lb.c 4 (by simp)
      have yl5 : V5.cell? ⟨L, 5, none⟩ = some (.slice x.d.a x.d.n x.d.c) := (unhide HN5).lb.c 5 (by simp)
      have hN2 := hN
      rw [hV5] at yl0 yl1 yl2 yl3 yl4 yl5
      rw [hN] at HN5
      clear hV5 hN hN2 b5 HO4 KL4 OA HAB2 HLZ2
      go_wp2_with fail
      rw [← unhide HV5, unhide HNN]
      clear yl0 yl1 yl2 yl3 yl4 yl5
      refine (implLoadOk_any x.p x.nb x.le x.mo x.ne x.d.a x.d.n x.d.c x.d.zs V5 ⟨(unhide HXI).sl.row.below (unhide HN5).o.bel⟩ (unhide HXI).sz).mono ?_
      rintro e V6 ⟨rfl, b6⟩
      rw [unhide HDB]
      have HN6 := hide ((unhide HN5).below b6)
      clear b6 HN5 HV5 HNN
      have yn0 : V6.cell? ⟨N, 0, none⟩ = some (.int .i64 s) := (unhide HN6).nb.c 0 (by simp)
      have yn1 : V6.cell? ⟨N, 1, none⟩ = some (.slice a9 l9 c9) := (unhide HN6).nb.c 1 (by simp)
      go_wp2_with fail
      refine (implAboardOk_any s a9 l9 c9 zs2 V6 (unhide HN6).read).mono ?_
      rintro e V7 ⟨rfl, b7⟩
      rw [(unhide HN6).ab2]
      have HN7 := hide ((unhide HN6).below b7)
      clear b7 HN6
      clear yn0 yn1
      go_wp2_with fail
      go_loopw [11, 12] (fun t11 t12 wr => ∃ (k : Nat) (tb : Bool), t11 = .bool tb ∧ t12 = .int .i64 (k : Int) ∧ k ≤ l9 ∧ Hid ((∃ j, j < k ∧ elAt zs2 j = lxW x) → tb = true) ∧ Hid (Ln V0 wr A L N s a1 l1 c1 zs x a9 l9 c9 zs2)) (fun _ t12 _ => l9 - (intOf t12).toNat)
      case atStart => exact ⟨0, false, rfl, rfl, by omega, hide (fun ⟨j, hj, _⟩ => by omega), HN7⟩
      case round =>
        clear HN7
        obtain ⟨k, tb, rfl, rfl, hk, HTB, HN⟩ := hrel
        have yn0 : wr.cell? ⟨N, 0, none⟩ = some (.int .i64 s) := (unhide HN).nb.c 0 (by simp)
        have yn1 : wr.cell? ⟨N, 1, none⟩ = some (.slice a9 l9 c9) := (unhide HN).nb.c 1 (by simp)
        have hl30 : l9 ≤ 30 := by have := (abB_facts (unhide HN).ab2).2.2; have := (unhide HN).len; omega
        by_cases hp2 : k < l9
        · as_aux_lemma =>
            have k1 : (k : Int) < (l9 : Int) := by omega
            have k0 : (0 : Int) ≤ (k : Int) := by omega
            obtain ⟨ys, hys, hall⟩ := (unhide HN).read.r1.ex
            have hyl : ys.length = l9 := hall.row.len_eq
            obtain ⟨y, hy⟩ : ∃ y, elAt ys k = y := ⟨_, rfl⟩
            have HYZ : Hid (elAt zs2 k = lxW y) := hide (by rw [elAt_lx hys (by omega), hy])
            have HYI : Hid (LxIn wr y) := hide (by rw [← hy]; exact hall.el k hp2)
            obtain ⟨gy, oy, ey, hc6⟩ : ∃ gy oy, a9 = some ⟨gy, oy, none⟩ ∧ ∀ q, q < 6 → wr.cell? ⟨gy, oy + k * 6 + q, none⟩ = some (lxC y q) := by
              obtain ⟨b, off, ha, hc⟩ := hall.row.at_ k hp2
              rw [hy] at hc
              exact ⟨b, off, ha, hc⟩
            have ye0 : wr.cell? ⟨gy, oy + k * 6, none⟩ = some (.string y.p) := hc6 0 (by omega)
            have ye1 : wr.cell? ⟨gy, oy + k * 6 + 1, none⟩ = some (.int .i64 y.nb) := hc6 1 (by omega)
            have ye2 : wr.cell? ⟨gy, oy + k * 6 + 2, none⟩ = some (.int .i64 y.le) := hc6 2 (by omega)
            have ye3 : wr.cell? ⟨gy, oy + k * 6 + 3, none⟩ = some (.int .i64 y.mo) := hc6 3 (by omega)
            have ye4 : wr.cell? ⟨gy, oy + k * 6 + 4, none⟩ = some (.int .i64 y.ne) := hc6 4 (by omega)
            have ye5 : wr.cell? ⟨gy, oy + k * 6 + 5, none⟩ = some (.slice y.d.a y.d.n y.d.c) := hc6 5 (by omega)
            rw [ey] at yn1
            clear hys hall hyl hy hc6 ey
            go_upto_region 17 with fail
            clear ye0 ye1 ye2 ye3 ye4 ye5 yn0 yn1
            obtain ⟨V8, hV8⟩ : ∃ V, V = wr.alloc (Obj.cells #[.string y.p, .int .i64 y.nb, .int .i64 y.le, .int .i64 y.mo, .int .i64 y.ne, .slice y.d.a y.d.n y.d.c] 32) := ⟨_, rfl⟩
            have b8 : Below wr.heap.size wr V8 := by rw [hV8]; exact bel1 _
            have HN8 := hide ((unhide HN).below b8)
            have KY : Hid (Blk V8 wr.heap.size [.string y.p, .int .i64 y.nb, .int .i64 y.le, .int .i64 y.mo, .int .i64 y.ne, .slice y.d.a y.d.n y.d.c]) := hide (by rw [hV8]; exact Blk.new _ _)
            have cs1 := conv_str ((unhide HYI).sl.row.below b8) y.d.c
            have cs2 := conv_str ((unhide HXI).sl.row.below (unhide HN8).o.bel) x.d.c
            obtain ⟨Y, hY⟩ : ∃ Y, wr.heap.size = Y := ⟨_, rfl⟩
            rw [hY] at KY
            rw [← hV8, hY]
            clear hV8 b8 hY
            have yy0 : V8.cell? ⟨Y, 0, none⟩ = some (.string y.p) := (unhide KY).c 0 (by simp)
            have yy1 : V8.cell? ⟨Y, 1, none⟩ = some (.int .i64 y.nb) := (unhide KY).c 1 (by simp)
            have yy2 : V8.cell? ⟨Y, 2, none⟩ = some (.int .i64 y.le) := (unhide KY).c 2 (by simp)
            have yy3 : V8.cell? ⟨Y, 3, none⟩ = some (.int .i64 y.mo) := (unhide KY).c 3 (by simp)
            have yy4 : V8.cell? ⟨Y, 4, none⟩ = some (.int .i64 y.ne) := (unhide KY).c 4 (by simp)
            have yy5 : V8.cell? ⟨Y, 5, none⟩ = some (.slice y.d.a y.d.n y.d.c) := (unhide KY).c 5 (by simp)
            have yl0 : V8.cell? ⟨L, 0, none⟩ = some (.string x.p) := (unhide HN8).lb.c 0 (by simp)
            have yl1 : V8.cell? ⟨L, 1, none⟩ = some (.int .i64 x.nb) := (unhide HN8).lb.c 1 (by simp)
            have yl2 : V8.cell? ⟨L, 2, none⟩ = some (.int .i64 x.le) := (unhide HN8).lb.c 2 (by simp)
            have yl3 : V8.cell? ⟨L, 3, none⟩ = some (.int .i64 x.mo) := (unhide HN8).lb.c 3 (by simp)
            have yl4 : V8.cell? ⟨L, 4, none⟩ = some (.int .i64 x.ne) := (unhide HN8).lb.c 4 (by simp)
            have yl5 : V8.cell? ⟨L, 5, none⟩ = some (.slice x.d.a x.d.n x.d.c) := (unhide HN8).lb.c 5 (by simp)
            cases tb with
            | true =>
              go_wp2_with fail
              refine ⟨⟨k + 1, true, rfl, ?_, by omega, hide (fun _ => rfl), HN8⟩, ?_⟩
              · rw [show ((k + 1 : Nat) : Int) = (k : Int) + 1 by omega]
              · simp [intOf]; omega
            | false =>
              obtain ⟨e1, he1⟩ : ∃ b, (y.nb == x.nb) = b := ⟨_, rfl⟩
              obtain ⟨e2, he2⟩ : ∃ b, (y.p.toList == x.p.toList) = b := ⟨_, rfl⟩
              obtain ⟨e3, he3⟩ : ∃ b, (y.ne == x.ne) = b := ⟨_, rfl⟩
              obtain ⟨e4, he4⟩ : ∃ b, ((byStr y.d.zs).toList == (byStr x.d.zs).toList) = b := ⟨_, rfl⟩
              cases e1 with
              | false =>
                go_wp2_with fail
                refine ⟨⟨k + 1, false, rfl, ?_, by omega, hide (fun ⟨j, hj, hje⟩ => ?_), HN8⟩, ?_⟩
                · rw [show ((k + 1 : Nat) : Int) = (k : Int) + 1 by omega]
                · rcases Nat.lt_or_ge j k with c | c
                  · exact (unhide HTB) ⟨j, c, hje⟩
                  · obtain rfl : j = k := by omega
                    have hq := lxW_eq ((unhide HYZ).symm.trans hje)
                    exfalso
                    simp [hq.2.1] at he1
                · simp [intOf]; omega
              | true =>
                cases e2 with
                | false =>
                  go_wp2_with fail
                  refine ⟨⟨k + 1, false, rfl, ?_, by omega, hide (fun ⟨j, hj, hje⟩ => ?_), HN8⟩, ?_⟩
                  · rw [show ((k + 1 : Nat) : Int) = (k : Int) + 1 by omega]
                  · rcases Nat.lt_or_ge j k with c | c
                    · exact (unhide HTB) ⟨j, c, hje⟩
                    · obtain rfl : j = k := by omega
                      have hq := lxW_eq ((unhide HYZ).symm.trans hje)
                      exfalso
                      simp [hq.1] at he2
                  · simp [intOf]; omega
                | true =>
                  cases e3 with
                  | false =>
                    go_wp2_with fail
                    refine ⟨⟨k + 1, false, rfl, ?_, by omega, hide (fun ⟨j, hj, hje⟩ => ?_), HN8⟩, ?_⟩
                    · rw [show ((k + 1 : Nat) : Int) = (k : Int) + 1 by omega]
                    · rcases Nat.lt_or_ge j k with c | c
                      · exact (unhide HTB) ⟨j, c, hje⟩
                      · obtain rfl : j = k := by omega
                        have hq := lxW_eq ((unhide HYZ).symm.trans hje)
                        exfalso
                        simp [hq.2.2.1] at he3
                    · simp [intOf]; omega
                  | true =>
                    cases e4 with
                    | false =>
                      go_wp2_with fail
                      refine ⟨⟨k + 1, false, rfl, ?_, by omega, hide (fun ⟨j, hj, hje⟩ => ?_), HN8⟩, ?_⟩
                      · rw [show ((k + 1 : Nat) : Int) = (k : Int) + 1 by omega]
                      · rcases Nat.lt_or_ge j k with c | c
                        · exact (unhide HTB) ⟨j, c, hje⟩
                        · obtain rfl : j = k := by omega
                          have hq := lxW_eq ((unhide HYZ).symm.trans hje)
                          exfalso
                          simp [hq.2.2.2] at he4
                      · simp [intOf]; omega
                    | true =>
                      go_wp2_with fail
                      refine ⟨⟨k + 1, true, rfl, ?_, by omega, hide (fun _ => rfl), HN8⟩, ?_⟩
                      · rw [show ((k + 1 : Nat) : Int) = (k : Int) + 1 by omega]
                      · simp [intOf]; omega
        · have k1 : ¬ (k : Int) < (l9 : Int) := by omega
          have HTH : Hid (tc = 0 → tb = true) := hide (fun h => by
            have h1 := unhide HTC
            rw [h] at h1
            obtain ⟨j, hj, hje⟩ := tk_there h1
            rw [unhide HZ2] at hj hje
            exact (unhide HTB) ⟨j, by have := (unhide HN).len; omega, hje⟩)
          clear hk hp2 HTB
          obtain ⟨VE, hVE⟩ : ∃ V, V = wr.alloc (Obj.cells #[.string x.p, .int .i64 x.nb, .int .i64 x.le, .int .i64 x.mo, .int .i64 x.ne, .slice x.d.a x.d.n x.d.c] 32) := ⟨_, rfl⟩
          have bE : Below wr.heap.size wr VE := by rw [hVE]; exact bel1 _
          have HNE := hide ((unhide HN).below bE)
          have HLT := hide (lx_row x hVE ⟨(unhide HXI).sl.below (unhide HNE).o.bel, (unhide HXI).sz⟩)
          obtain ⟨GE, hGE⟩ : ∃ Y, wr.heap.size = Y := ⟨_, rfl⟩
          rw [hGE] at HLT
          have HVE := hide hVE
          have HGE := hide hGE
          clear hVE bE hGE
          have ya0 : wr.cell? ⟨A, 0, none⟩ = some (.int .i64 s) := (unhide HN).o.box.c 0 (by simp)
          have ya1 : wr.cell? ⟨A, 1, none⟩ = some (.slice a1 l1 c1) := (unhide HN).o.box.c 1 (by simp)
          have yl0 : wr.cell? ⟨L, 0, none⟩ = some (.string x.p) := (unhide HN).lb.c 0 (by simp)
          have yl1 : wr.cell? ⟨L, 1, none⟩ = some (.int .i64 x.nb) := (unhide HN).lb.c 1 (by simp)
          have yl2 : wr.cell? ⟨L, 2, none⟩ = some (.int .i64 x.le) := (unhide HN).lb.c 2 (by simp)
          have yl3 : wr.cell? ⟨L, 3, none⟩ = some (.int .i64 x.mo) := (unhide HN).lb.c 3 (by simp)
          have yl4 : wr.cell? ⟨L, 4, none⟩ = some (.int .i64 x.ne) := (unhide HN).lb.c 4 (by simp)
          have yl5 : wr.cell? ⟨L, 5, none⟩ = some (.slice x.d.a x.d.n x.d.c) := (unhide HN).lb.c 5 (by simp)
          go_wp2_with fail
          rw [← unhide HVE, unhide HGE]
          clear HVE HGE HN yn0 yn1
          clear ya0 ya1 yl0 yl1 yl2 yl3 yl4 yl5
          refine (implEffL_any s a1 l1 c1 zs (some ⟨GE, 0, none⟩) 1 1 [lxW x] VE (unhide HNE).o.read (unhide HLT) ((unhide HG0).below (unhide HNE).o.bel)).mono ?_
          rintro e V9 ⟨a8, c8, rfl, oI, b9⟩
          have hef := ef_one (s := s) (zs := zs) (l := lxW x) (unhide HNE).o.ab (unhide HDB)
          rw [hef.1]
          obtain ⟨m8, hm8⟩ : ∃ m, (efL s zs [lxW x]).length = m := ⟨_, rfl⟩
          have HM8 : Hid (m8 = if tc = 0 then 1 else 0) := hide (by rw [← hm8, hef.2, ← unhide HSL, unhide HTC])
          rw [hm8]
          have HN9 := hide ((unhide HNE).below b9)
          clear hef hm8 oI b9 HNE HLT
          by_cases h0 : tc = 0
          · as_aux_lemma =>
              have hm : m8 = 1 := by have := unhide HM8; rw [if_pos h0] at this; exact this
              have ht : tb = true := (unhide HTH) h0
              subst hm
              subst ht
              subst h0
              clear HM8 HTH
              have hsb := unhide HSB
              have ya0 : V9.cell? ⟨A, 0, none⟩ = some (.int .i64 s) := (unhide HN9).o.box.c 0 (by simp)
              have ya1 : V9.cell? ⟨A, 1, none⟩ = some (.slice a1 l1 c1) := (unhide HN9).o.box.c 1 (by simp)
              have yl0 : V9.cell? ⟨L, 0, none⟩ = some (.string x.p) := (unhide HN9).lb.c 0 (by simp)
              have yl1 : V9.cell? ⟨L, 1, none⟩ = some (.int .i64 x.nb) := (unhide HN9).lb.c 1 (by simp)
              have yl2 : V9.cell? ⟨L, 2, none⟩ = some (.int .i64 x.le) := (unhide HN9).lb.c 2 (by simp)
              have yl3 : V9.cell? ⟨L, 3, none⟩ = some (.int .i64 x.mo) := (unhide HN9).lb.c 3 (by simp)
              have yl4 : V9.cell? ⟨L, 4, none⟩ = some (.int .i64 x.ne) := (unhide HN9).lb.c 4 (by simp)
              have yl5 : V9.cell? ⟨L, 5, none⟩ = some (.slice x.d.a x.d.n x.d.c) := (unhide HN9).lb.c 5 (by simp)
              go_wp2_with fail
              refine (implTake18_any s a1 l1 c1 zs x (sl + 1) V9 (unhide HN9).o.read (unhide HN9).o.lz ⟨(unhide HXI).sl.below (unhide HN9).o.bel, (unhide HXI).sz⟩ (by have := unhide HZ5; omega) ((unhide HG0).below (unhide HN9).o.bel)).mono ?_
              rintro e VA ⟨a6, c6, rfl, ob, bA⟩
              have hw2 : tkC s zs (lxW x) (sl + 1) = 2 := by rw [unhide HSL]; exact tk_wrong (unhide HN9).o.ab (unhide HDB)
              rw [hw2]
              obtain ⟨l6, hl6⟩ : ∃ z, (tkL s zs (lxW x) (sl + 1)).length = z := ⟨_, rfl⟩
              rw [hl6]
              have HNA := hide ((unhide HN9).below bA)
              clear hw2 hl6 ob bA HN9 hsb
              clear ya0 ya1 yl0 yl1 yl2 yl3 yl4 yl5
              obtain ⟨VB, hVB⟩ : ∃ V, V = VA.alloc (Obj.cells #[.int .i64 s, .slice a6 l6 c6] 26) := ⟨_, rfl⟩
              have HNB := hide ((unhide HNA).below (show Below VA.heap.size VA VB by rw [hVB]; exact bel1 _))
              have yl0 : VB.cell? ⟨L, 0, none⟩ = some (.string x.p) := (unhide HNB).lb.c 0 (by simp)
              have yl1 : VB.cell? ⟨L, 1, none⟩ = some (.int .i64 x.nb) := (unhide HNB).lb.c 1 (by simp)
              have yl2 : VB.cell? ⟨L, 2, none⟩ = some (.int .i64 x.le) := (unhide HNB).lb.c 2 (by simp)
              have yl3 : VB.cell? ⟨L, 3, none⟩ = some (.int .i64 x.mo) := (unhide HNB).lb.c 3 (by simp)
              have yl4 : VB.cell? ⟨L, 4, none⟩ = some (.int .i64 x.ne) := (unhide HNB).lb.c 4 (by simp)
              have yl5 : VB.cell? ⟨L, 5, none⟩ = some (.slice x.d.a x.d.n x.d.c) := (unhide HNB).lb.c 5 (by simp)
              rw [hVB] at yl0 yl1 yl2 yl3 yl4 yl5
              have HVB := hide hVB
              clear hVB HNA
              by_cases hd : 0 < x.d.n
              · as_aux_lemma =>
                  have d1 : (0 : Int) < (x.d.n : Int) := by omega
                  go_upto_region 25 with fail
                  rw [← unhide HVB]
                  rw [← unhide HVB] at yl0 yl1 yl2 yl3 yl4 yl5
                  clear HVB
                  obtain ⟨VC, hVC⟩ : ∃ V, V = VB.alloc (Obj.cells #[.string x.p, .int .i64 x.nb, .int .i64 x.le, .int .i64 x.mo, .int .i64 x.ne, .slice x.d.a x.d.n x.d.c] 32) := ⟨_, rfl⟩
                  have bC : Below VB.heap.size VB VC := by rw [hVC]; exact bel1 _
                  have KH : Hid (Blk VC VB.heap.size [.string x.p, .int .i64 x.nb, .int .i64 x.le, .int .i64 x.mo, .int .i64 x.ne, .slice x.d.a x.d.n x.d.c]) := hide (by rw [hVC]; exact Blk.new _ _)
                  have HHC : Hid (VB.heap.size < VC.heap.size) := hide (unhide KH).lt
                  obtain ⟨H, hH⟩ : ∃ H, VB.heap.size = H := ⟨_, rfl⟩
                  rw [hH] at KH HHC bC
                  have BC := hide bC
                  have HVC := hide hVC
                  have HHH := hide hH
                  clear hVC bC hH
                  go_upto_region 26 with fail
                  rw [← unhide HVC, unhide HHH]
                  clear HVC yl0 yl1 yl2 yl3 yl4 yl5
                  have BX : Hid (Below H VB (VC.alloc (Obj.cells #[] 5))) := hide ((unhide BC).alloc (by have := (unhide BC).size; have := unhide HHC; omega) _)
                  have HOX : Hid (OwnE 1 byC (VC.alloc (Obj.cells #[] 5)) VC.heap.size 5 (.slice (some ⟨VC.heap.size, 0, none⟩) 0 0) []) := hide (ownE_empty VC _)
                  have HNX := hide ((unhide HNB).below (by rw [unhide HHH]; exact unhide BX))
                  have KHX := hide ((unhide KH).below (bel1 (w := VC) (Obj.cells #[] 5)))
                  have yl0 : (VC.alloc (Obj.cells #[] 5)).cell? ⟨L, 0, none⟩ = some (.string x.p) := (unhide HNX).lb.c 0 (by simp)
                  have yl1 : (VC.alloc (Obj.cells #[] 5)).cell? ⟨L, 1, none⟩ = some (.int .i64 x.nb) := (unhide HNX).lb.c 1 (by simp)
                  have yl2 : (VC.alloc (Obj.cells #[] 5)).cell? ⟨L, 2, none⟩ = some (.int .i64 x.le) := (unhide HNX).lb.c 2 (by simp)
                  have yl3 : (VC.alloc (Obj.cells #[] 5)).cell? ⟨L, 3, none⟩ = some (.int .i64 x.mo) := (unhide HNX).lb.c 3 (by simp)
                  have yl4 : (VC.alloc (Obj.cells #[] 5)).cell? ⟨L, 4, none⟩ = some (.int .i64 x.ne) := (unhide HNX).lb.c 4 (by simp)
                  have yl5 : (VC.alloc (Obj.cells #[] 5)).cell? ⟨L, 5, none⟩ = some (.slice x.d.a x.d.n x.d.c) := (unhide HNX).lb.c 5 (by simp)
                  have yx0 : (VC.alloc (Obj.cells #[] 5)).cell? ⟨H, 0, none⟩ = some (.string x.p) := (unhide KHX).c 0 (by simp)
                  have yx1 : (VC.alloc (Obj.cells #[] 5)).cell? ⟨H, 1, none⟩ = some (.int .i64 x.nb) := (unhide KHX).c 1 (by simp)
                  have yx2 : (VC.alloc (Obj.cells #[] 5)).cell? ⟨H, 2, none⟩ = some (.int .i64 x.le) := (unhide KHX).c 2 (by simp)
                  have yx3 : (VC.alloc (Obj.cells #[] 5)).cell? ⟨H, 3, none⟩ = some (.int .i64 x.mo) := (unhide KHX).c 3 (by simp)
                  have yx4 : (VC.alloc (Obj.cells #[] 5)).cell? ⟨H, 4, none⟩ = some (.int .i64 x.ne) := (unhide KHX).c 4 (by simp)
                  have yx5 : (VC.alloc (Obj.cells #[] 5)).cell? ⟨H, 5, none⟩ = some (.slice x.d.a x.d.n x.d.c) := (unhide KHX).c 5 (by simp)
                  have hz5 := unhide HZ5
                  go_upto_region 27 with (at_builtin; refine wpList_app_by rfl _ _ rfl (unhide HOX) rfl rfl x.d.a x.d.n x.d.c x.d.zs rfl ((unhide HXI).sl.row.below (unhide HNX).o.bel) (by omega) (by simp) ?_; intro g9 cq w9 o9 gr9 hg9; have KH9 := hide ((unhide KHX).apart gr9 (fun e => by have := Option.some.inj e; have := unhide HHC; omega)); have yh : w9.cell? ⟨H, 5, none⟩ = some (.slice x.d.a x.d.n x.d.c) := (unhide KH9).c 5 (by simp); have fh : w9.frozen? ⟨H, 5, none⟩ = false := (unhide KH9).f 5 (by simp))
                  have O9 : Hid (OwnE 1 byC w9 VC.heap.size 5 (.slice (some ⟨g9, 0, none⟩) x.d.n cq) x.d.zs) := hide (by rw [Nat.zero_add, List.nil_append] at o9; exact o9)
                  have BB9 : Hid (Below H VB w9) := hide ((unhide BX).grown gr9 (by have := (unhide BX).size; have := unhide HHH; omega) (fun q hq => by have := Option.some.inj hq; have := unhide HHC; omega))
                  clear o9 gr9 hg9 BX HOX HNX KHX yl0 yl1 yl2 yl3 yl4 yl5 yx0 yx1 yx2 yx3 yx4 yx5
                  try simp only [Nat.zero_add]
                  obtain ⟨WD, hWD⟩ : ∃ V, V = w9.setCell ⟨H, 5, none⟩ (.slice (some ⟨g9, 0, none⟩) x.d.n cq) := ⟨_, rfl⟩
                  have KHD : Hid (Blk WD H [.string x.p, .int .i64 x.nb, .int .i64 x.le, .int .i64 x.mo, .int .i64 x.ne, .slice (some ⟨g9, 0, none⟩) x.d.n cq]) := hide (by rw [hWD]; exact (unhide KH9).set 5 (by simp) _)
                  have OD : Hid (OwnE 1 byC WD VC.heap.size 5 (.slice (some ⟨g9, 0, none⟩) x.d.n cq) x.d.zs) := hide (by rw [hWD]; exact (unhide O9).set_other _ (fun e => by have := ((unhide O9).lies H e).1; have := unhide HHC; omega))
                  have BBD : Hid (Below H VB WD) := hide (by rw [hWD]; exact (unhide BB9).setCell (p := ⟨H, 5, none⟩) (Nat.le_refl _) _)
                  rw [← hWD]
                  clear hWD KH9 O9 BB9 yh fh
                  have HND := hide ((unhide HNB).below (by rw [unhide HHH]; exact unhide BBD))
                  have hfi := (unhide HF) i
                  have hm0 : 0 ≤ f i % (x.d.n : Int) := Int.emod_nonneg _ (by omega)
                  have hm1 : f i % (x.d.n : Int) < (x.d.n : Int) := Int.emod_lt_of_pos _ (by omega)
                  obtain ⟨k, hk⟩ : ∃ k : Nat, f i % (x.d.n : Int) = (k : Int) := ⟨(f i % (x.d.n : Int)).toNat, by omega⟩
                  rw [hk] at hm0 hm1
                  have hkt : (f i).tmod (x.d.n : Int) = (k : Int) := by rw [Int.tmod_eq_emod_of_nonneg hfi.1]; exact hk
                  have hkl : k < x.d.n := by omega
                  have hz0 : ¬ (x.d.n : Int) = 0 := by omega
                  clear hk hfi
                  have hc1 := (unhide OD).here1 hz5.1 k hkl
                  obtain ⟨vb, hvb⟩ : ∃ z, elAt x.d.zs k = z := ⟨_, rfl⟩
                  rw [hvb] at hc1
                  have hvb2 : 0 ≤ vb ∧ vb ≤ 255 := by rw [← hvb]; exact (unhide HLS).2 k (by omega)
                  have hf9 := (unhide HF) (i + 9)
                  obtain ⟨f9, hf9e⟩ : ∃ z, f (i + 9) = z := ⟨_, rfl⟩
                  rw [hf9e] at hf9
                  have HF9 := hide hf9e
                  obtain ⟨nb, hnb⟩ : ∃ z, (vb + (1 + f9 % 255)) % 256 = z := ⟨_, rfl⟩
                  have hnb2 : (0 ≤ nb ∧ nb ≤ 255) ∧ nb ≠ vb := by omega
                  obtain ⟨ι, fW, _, hcb, hall⟩ := belClass WD
                  have m0 : ∀ x, (fW x).cell? ⟨g9, k, none⟩ = some (.int .u8 vb) := fun x => ((hcb x).cell (block_lt_of_cell hc1.1)).trans hc1.1
                  have m1 : ∀ x, (fW x).frozen? ⟨g9, k, none⟩ = false := fun x => ((hcb x).frozen (p := ⟨g9, k, none⟩) (block_lt_of_cell hc1.1)).trans hc1.2
                  have yl5 : ∀ y, (fW y).cell? ⟨L, 5, none⟩ = some (.slice x.d.a x.d.n x.d.c) := fun y => ((unhide HND).lb.below (hcb y)).c 5 (by simp)
                  have yh5 : ∀ y, (fW y).cell? ⟨H, 5, none⟩ = some (.slice (some ⟨g9, 0, none⟩) x.d.n cq) := fun y => ((unhide KHD).below (hcb y)).c 5 (by simp)
                  have HCB := hide hcb
                  have HALL := hide hall
                  have HIB : Hid (i ≤ 8) := hide (by omega)
                  have HX0 : Hid (∃ y0, WD = fW y0) := hide (hall WD (Below.refl _ _))
                  have HVB := hide hvb
                  clear hcb hall hc1 hvb hf9e
                  obtain ⟨y0, hy0⟩ := unhide HX0
                  rw [hy0]
                  clear hy0 HX0
                  refine wp_region_bel (fun w' h => (unhide HALL) w' ((unhide HCB _).trans (h.mono (unhide HCB _).size))) (by kernel_rfl) (by kernel_rfl) ?_
                  repeat (go_big_quiet_step ((go_at_call 13; exact belS ((unhide HAT) i _ rfl (by have := unhide HIB; omega) _ ((unhide HND).o.bel.trans ((unhide HCB _).mono (unhide HND).o.bel.size))))))
                  refine wpQuiet_nil ?_
                  rintro _ ⟨y, rfl⟩
                  go_simp
                  have HAT9 : Hid (∀ W : World, Below V0.heap.size V0 W → Calls Tryz.prog 13 #[.slice a len cap, .int .i64 ((i : Int) + 9)] W fun e w' => e = .returned (.int .i64 f9) ∧ w' = W) := hide (fun W b => by
                    have h := (unhide HAT) (i + 9) ((i : Int) + 9) (by omega) (by have := unhide HIB; omega) W b
                    rw [unhide HF9] at h
                    exact h)
                  have ht255 : f9.tmod 255 = f9 % 255 := Int.tmod_eq_emod_of_nonneg hf9.1
                  have ht0 : 0 ≤ f9 % 255 ∧ f9 % 255 ≤ 254 := by omega
                  have ht1 : (1 + f9 % 255) % 256 = 1 + f9 % 255 := by omega
                  have hib := unhide HIB
                  have HZ5b := hide hz5
                  clear hz5 hkt hz0
                  go_upto_region 28 with fail
                  refine wp_region_then (fun w' h => (unhide HALL) w' ((unhide HCB _).trans (h.mono (unhide HCB _).size))) (by kernel_rfl) (by kernel_rfl) (by kernel_rfl) ?_
                  dsimp only [swapLast, lastOf]
                  repeat (go_big_quiet_step ((go_at_call 13; exact belS ((unhide HAT9) _ ((unhide HND).o.bel.trans ((unhide HCB _).mono (unhide HND).o.bel.size))))))
                  refine wpQuiet_nil ?_
                  rintro _ ⟨y2, rfl⟩
                  go_simp
                  obtain ⟨U, hU⟩ : ∃ U, U = (fW y2).setCell ⟨g9, k, none⟩ (.int .u8 nb) := ⟨_, rfl⟩
                  have hgH : VC.heap.size ≤ g9 := ((unhide OD).lies g9 rfl).1
                  have OU : Hid (OwnE 1 byC U VC.heap.size 5 (.slice (some ⟨g9, 0, none⟩) x.d.n cq) (x.d.zs.set k nb)) := hide (by rw [hU]; exact ((unhide OD).below (unhide HCB y2)).set1 (unhide HZ5).1 k hkl _ _ rfl)
                  have KHU : Hid (Blk U H [.string x.p, .int .i64 x.nb, .int .i64 x.le, .int .i64 x.mo, .int .i64 x.ne, .slice (some ⟨g9, 0, none⟩) x.d.n cq]) := hide (by rw [hU]; exact ((unhide KHD).below (unhide HCB y2)).other (p := ⟨g9, k, none⟩) (by have := unhide HHC; show g9 ≠ H; omega) _)
                  have BBU : Hid (Below H VB U) := hide (by rw [hU]; exact ((unhide BBD).trans ((unhide HCB y2).mono (by have := (unhide KHD).lt; omega))).setCell (p := ⟨g9, k, none⟩) (by have := unhide HHC; show H ≤ g9; omega) _)
                  have HNU := hide ((unhide HNB).below (by rw [unhide HHH]; exact unhide BBU))
                  have hby : ∀ i, i < x.d.n → 0 ≤ elAt (x.d.zs.set k nb) i ∧ elAt (x.d.zs.set k nb) i ≤ 255 := fun i2 hi2 => by
                    have hz := unhide HZ5
                    rw [elAt_set _ _ _ _ (by omega)]
                    split
                    · exact hnb2.1
                    · exact (unhide HLS).2 i2 (by omega)
                  have HBY2 := hide hby
                  have hsd : seR ⟨x.p, x.nb, x.le, x.mo, x.ne, x.d.zs.set k nb⟩ ≠ sl := by
                    have hz := unhide HZ5
                    have hl : ldB ⟨x.p, x.nb, x.le, x.mo, x.ne, x.d.zs.set k nb⟩ = true := by
                      have e : ldB ⟨x.p, x.nb, x.le, x.mo, x.ne, x.d.zs.set k nb⟩ = ldB ⟨x.p, x.nb, x.le, x.mo, x.ne, x.d.zs⟩ := by simp [ldB]
                      rw [e]; exact unhide HDB
                    rw [seR_ok hl, unhide HSL]
                    exact seal_turn (by omega) (by rw [unhide HVB]; exact hvb2) hnb2.1 (by rw [unhide HVB]; exact hnb2.2)
                  obtain ⟨s2, hs2⟩ : ∃ z, seR ⟨x.p, x.nb, x.le, x.mo, x.ne, x.d.zs.set k nb⟩ = z := ⟨_, rfl⟩
                  obtain ⟨b2, hb2⟩ : ∃ z, ldB ⟨x.p, x.nb, x.le, x.mo, x.ne, x.d.zs.set k nb⟩ = z := ⟨_, rfl⟩
                  rw [hs2] at hsd
                  have hne : (s2 == sl) = false := by simpa using hsd
                  have HS2 := hide hs2
                  have HB2 := hide hb2
                  rw [← hU]
                  clear hU hgH hby hsd hs2 hb2 m0 m1 yl5 yh5 hnb2 hvb2 hnb ht255 ht0 ht1 hf9 hm0 hm1 hkl hib OD KHD BBD HND HNB
                  have yu0 : U.cell? ⟨H, 0, none⟩ = some (.string x.p) := (unhide KHU).c 0 (by simp)
                  have yu1 : U.cell? ⟨H, 1, none⟩ = some (.int .i64 x.nb) := (unhide KHU).c 1 (by simp)
                  have yu2 : U.cell? ⟨H, 2, none⟩ = some (.int .i64 x.le) := (unhide KHU).c 2 (by simp)
                  have yu3 : U.cell? ⟨H, 3, none⟩ = some (.int .i64 x.mo) := (unhide KHU).c 3 (by simp)
                  have yu4 : U.cell? ⟨H, 4, none⟩ = some (.int .i64 x.ne) := (unhide KHU).c 4 (by simp)
                  have yu5 : U.cell? ⟨H, 5, none⟩ = some (.slice (some ⟨g9, 0, none⟩) x.d.n cq) := (unhide KHU).c 5 (by simp)
                  go_wp2_with fail
                  refine (implSeal_any x.p x.nb x.le x.mo x.ne (some ⟨g9, 0, none⟩) x.d.n cq (x.d.zs.set k nb) U ⟨OwnE.row (unhide OU)⟩ (unhide HBY2) (unhide HXI).sz).mono ?_
                  rintro e VF ⟨rfl, bF⟩
                  rw [unhide HS2, unhide HB2]
                  have HNF := hide ((unhide HNU).below bF)
                  clear bF HNU OU KHU BBU yu0 yu1 yu2 yu3 yu4 yu5
                  go_upto_region 32 with fail
                  have yn0 : VF.cell? ⟨N, 0, none⟩ = some (.int .i64 s) := (unhide HNF).nb.c 0 (by simp)
                  have yn1 : VF.cell? ⟨N, 1, none⟩ = some (.slice a9 l9 c9) := (unhide HNF).nb.c 1 (by simp)
                  go_upto_region 33 with ((with_reducible show wpList _ _ _ (⟨none, .store 26 _ _, _, _, _, none⟩ :: _) _ _); refine at_storeAgg (us := [.int .i64 s, .slice a1 l1 c1]) (vs := [.int .i64 s, .slice a9 l9 c9]) Tryz.sizeOf26 rfl rfl (unhide HNF).o.box rfl (by intro v hv; simp at hv; rcases hv with rfl | rfl <;> rfl) ?_; intro w6 kk gg)
                  have HO6 := hide ((unhide HNF).next (by have := unhide HA; omega) kk gg)
                  have KL6 := hide ((unhide HNF).lb.apart gg (fun e => by have := Option.some.inj e; have := unhide HAL; omega))
                  clear kk gg HNF yn0 yn1
                  have ya0 : w6.cell? ⟨A, 0, none⟩ = some (.int .i64 s) := (unhide HO6).box.c 0 (by simp)
                  have ya1 : w6.cell? ⟨A, 1, none⟩ = some (.slice a9 l9 c9) := (unhide HO6).box.c 1 (by simp)
                  have yl0 : w6.cell? ⟨L, 0, none⟩ = some (.string x.p) := (unhide KL6).c 0 (by simp)
                  have yl1 : w6.cell? ⟨L, 1, none⟩ = some (.int .i64 x.nb) := (unhide KL6).c 1 (by simp)
                  have yl2 : w6.cell? ⟨L, 2, none⟩ = some (.int .i64 x.le) := (unhide KL6).c 2 (by simp)
                  have yl3 : w6.cell? ⟨L, 3, none⟩ = some (.int .i64 x.mo) := (unhide KL6).c 3 (by simp)
                  have yl4 : w6.cell? ⟨L, 4, none⟩ = some (.int .i64 x.ne) := (unhide KL6).c 4 (by simp)
                  have yl5 : w6.cell? ⟨L, 5, none⟩ = some (.slice x.d.a x.d.n x.d.c) := (unhide KL6).c 5 (by simp)
                  go_wp2_with fail
                  refine (implDrop18_any s a9 l9 c9 zs2 x.nb w6 (unhide HO6).read (unhide HO6).lz).mono ?_
                  rintro e VG ⟨a7, c7, rfl, od, bG⟩
                  obtain ⟨gb2, hgb⟩ : ∃ z, drB s zs2 x.nb = z := ⟨_, rfl⟩
                  obtain ⟨zs7, hz7⟩ : ∃ z, drL s zs2 x.nb = z := ⟨_, rfl⟩
                  obtain ⟨l7, hl7⟩ : ∃ z, zs7.length = z := ⟨_, rfl⟩
                  rw [hz7] at od ⊢
                  rw [hl7] at od ⊢
                  rw [hgb]
                  have HGB := hide hgb
                  have HZ7 := hide hz7
                  have HL7 := hide hl7
                  obtain ⟨VH, hVH⟩ : ∃ V, V = VG.alloc (Obj.cells #[.int .i64 s, .slice a7 l7 c7] 26) := ⟨_, rfl⟩
                  have bH : Below VG.heap.size VG VH := by rw [hVH]; exact bel1 _
                  have HO7 := hide (((unhide HO6).below bG).below bH)
                  have KD : Hid (Blk VH VG.heap.size [.int .i64 s, .slice a7 l7 c7]) := hide (by rw [hVH]; exact Blk.new _ _)
                  have HR7 := hide (od.read.below bH)
                  obtain ⟨D, hD⟩ : ∃ D, VG.heap.size = D := ⟨_, rfl⟩
                  have hD2 := hD
                  rw [hD] at KD
                  have yd0 : VH.cell? ⟨D, 0, none⟩ = some (.int .i64 s) := (unhide KD).c 0 (by simp)
                  have yd1 : VH.cell? ⟨D, 1, none⟩ = some (.slice a7 l7 c7) := (unhide KD).c 1 (by simp)
                  have yz0 : VH.cell? ⟨A, 0, none⟩ = some (.int .i64 s) := (unhide HO7).box.c 0 (by simp)
                  have yz1 : VH.cell? ⟨A, 1, none⟩ = some (.slice a9 l9 c9) := (unhide HO7).box.c 1 (by simp)
                  rw [← hD2] at yd0 yd1
                  rw [hVH] at yd0 yd1 yz0 yz1
                  have HVH := hide hVH
                  have HD := hide hD
                  clear hgb hz7 hl7 hVH hD hD2 bH bG od HO6 KL6 ya0 ya1 yl0 yl1 yl2 yl3 yl4 yl5
                  cases gb2 with
                  | false =>
                    go_wp2_with fail
                    rw [← unhide HVH]
                    refine ⟨⟨i + 1, a9, l9, c9, zs2, ?_, by omega, HO7⟩, ?_⟩
                    · rw [show ((i + 1 : Nat) : Int) = (i : Int) + 1 by omega]
                    · simp [intOf]; omega
                  | true =>
                    have hdr := ab_drop (unhide HGB)
                    rw [unhide HZ7] at hdr
                    have e5 : ((l7 : Int) != (l9 : Int) - 1) = false := by
                      have h1 := hdr.2
                      have h2 := (unhide HO7).len
                      have h3 := unhide HL7
                      simp only [bne_eq_false_iff_eq]
                      omega
                    have HAB7 := hide hdr.1
                    clear hdr
                    go_wp2_with fail
                    rw [← unhide HVH]
                    clear yd0 yd1 yz0 yz1
                    refine (implAboardOk_any s a7 l7 c7 zs7 VH (unhide HR7)).mono ?_
                    rintro e VI ⟨rfl, bI⟩
                    rw [unhide HAB7]
                    have HO8 := hide ((unhide HO7).below bI)
                    clear bI HO7
                    go_wp2_with fail
                    refine ⟨⟨i + 1, a9, l9, c9, zs2, ?_, by omega, HO8⟩, ?_⟩
                    · rw [show ((i + 1 : Nat) : Int) = (i : Int) + 1 by omega]
                    · simp [intOf]; omega
              · as_aux_lemma =>
                  have d1 : ¬ (0 : Int) < (x.d.n : Int) := by omega
                  go_upto_region 32 with fail
                  rw [← unhide HVB]
                  clear yl0 yl1 yl2 yl3 yl4 yl5 HVB
                  have yn0 : VB.cell? ⟨N, 0, none⟩ = some (.int .i64 s) := (unhide HNB).nb.c 0 (by simp)
                  have yn1 : VB.cell? ⟨N, 1, none⟩ = some (.slice a9 l9 c9) := (unhide HNB).nb.c 1 (by simp)
                  go_upto_region 33 with ((with_reducible show wpList _ _ _ (⟨none, .store 26 _ _, _, _, _, none⟩ :: _) _ _); refine at_storeAgg (us := [.int .i64 s, .slice a1 l1 c1]) (vs := [.int .i64 s, .slice a9 l9 c9]) Tryz.sizeOf26 rfl rfl (unhide HNB).o.box rfl (by intro v hv; simp at hv; rcases hv with rfl | rfl <;> rfl) ?_; intro w6 kk gg)
                  have HO6 := hide ((unhide HNB).next (by have := unhide HA; omega) kk gg)
                  have KL6 := hide ((unhide HNB).lb.apart gg (fun e => by have := Option.some.inj e; have := unhide HAL; omega))
                  clear kk gg HNB yn0 yn1
                  have ya0 : w6.cell? ⟨A, 0, none⟩ = some (.int .i64 s) := (unhide HO6).box.c 0 (by simp)
                  have ya1 : w6.cell? ⟨A, 1, none⟩ = some (.slice a9 l9 c9) := (unhide HO6).box.c 1 (by simp)
                  have yl0 : w6.cell? ⟨L, 0, none⟩ = some (.string x.p) := (unhide KL6).c 0 (by simp)
                  have yl1 : w6.cell? ⟨L, 1, none⟩ = some (.int .i64 x.nb) := (unhide KL6).c 1 (by simp)
                  have yl2 : w6.cell? ⟨L, 2, none⟩ = some (.int .i64 x.le) := (unhide KL6).c 2 (by simp)
                  have yl3 : w6.cell? ⟨L, 3, none⟩ = some (.int .i64 x.mo) := (unhide KL6).c 3 (by simp)
                  have yl4 : w6.cell? ⟨L, 4, none⟩ = some (.int .i64 x.ne) := (unhide KL6).c 4 (by simp)
                  have yl5 : w6.cell? ⟨L, 5, none⟩ = some (.slice x.d.a x.d.n x.d.c) := (unhide KL6).c 5 (by simp)
                  go_wp2_with fail
                  refine (implDrop18_any s a9 l9 c9 zs2 x.nb w6 (unhide HO6).read (unhide HO6).lz).mono ?_
                  rintro e VG ⟨a7, c7, rfl, od, bG⟩
                  obtain ⟨gb2, hgb⟩ : ∃ z, drB s zs2 x.nb = z := ⟨_, rfl⟩
                  obtain ⟨zs7, hz7⟩ : ∃ z, drL s zs2 x.nb = z := ⟨_, rfl⟩
                  obtain ⟨l7, hl7⟩ : ∃ z, zs7.length = z := ⟨_, rfl⟩
                  rw [hz7] at od ⊢
                  rw [hl7] at od ⊢
                  rw [hgb]
                  have HGB := hide hgb
                  have HZ7 := hide hz7
                  have HL7 := hide hl7
                  obtain ⟨VH, hVH⟩ : ∃ V, V = VG.alloc (Obj.cells #[.int .i64 s, .slice a7 l7 c7] 26) := ⟨_, rfl⟩
                  have bH : Below VG.heap.size VG VH := by rw [hVH]; exact bel1 _
                  have HO7 := hide (((unhide HO6).below bG).below bH)
                  have KD : Hid (Blk VH VG.heap.size [.int .i64 s, .slice a7 l7 c7]) := hide (by rw [hVH]; exact Blk.new _ _)
                  have HR7 := hide (od.read.below bH)
                  obtain ⟨D, hD⟩ : ∃ D, VG.heap.size = D := ⟨_, rfl⟩
                  have hD2 := hD
                  rw [hD] at KD
                  have yd0 : VH.cell? ⟨D, 0, none⟩ = some (.int .i64 s) := (unhide KD).c 0 (by simp)
                  have yd1 : VH.cell? ⟨D, 1, none⟩ = some (.slice a7 l7 c7) := (unhide KD).c 1 (by simp)
                  have yz0 : VH.cell? ⟨A, 0, none⟩ = some (.int .i64 s) := (unhide HO7).box.c 0 (by simp)
                  have yz1 : VH.cell? ⟨A, 1, none⟩ = some (.slice a9 l9 c9) := (unhide HO7).box.c 1 (by simp)
                  rw [← hD2] at yd0 yd1
                  rw [hVH] at yd0 yd1 yz0 yz1
                  have HVH := hide hVH
                  have HD := hide hD
                  clear hgb hz7 hl7 hVH hD hD2 bH bG od HO6 KL6 ya0 ya1 yl0 yl1 yl2 yl3 yl4 yl5
                  cases gb2 with
                  | false =>
                    go_wp2_with fail
                    rw [← unhide HVH]
                    refine ⟨⟨i + 1, a9, l9, c9, zs2, ?_, by omega, HO7⟩, ?_⟩
                    · rw [show ((i + 1 : Nat) : Int) = (i : Int) + 1 by omega]
                    · simp [intOf]; omega
                  | true =>
                    have hdr := ab_drop (unhide HGB)
                    rw [unhide HZ7] at hdr
                    have e5 : ((l7 : Int) != (l9 : Int) - 1) = false := by
                      have h1 := hdr.2
                      have h2 := (unhide HO7).len
                      have h3 := unhide HL7
                      simp only [bne_eq_false_iff_eq]
                      omega
                    have HAB7 := hide hdr.1
                    clear hdr
                    go_wp2_with fail
                    rw [← unhide HVH]
                    clear yd0 yd1 yz0 yz1
                    refine (implAboardOk_any s a7 l7 c7 zs7 VH (unhide HR7)).mono ?_
                    rintro e VI ⟨rfl, bI⟩
                    rw [unhide HAB7]
                    have HO8 := hide ((unhide HO7).below bI)
                    clear bI HO7
                    go_wp2_with fail
                    refine ⟨⟨i + 1, a9, l9, c9, zs2, ?_, by omega, HO8⟩, ?_⟩
                    · rw [show ((i + 1 : Nat) : Int) = (i : Int) + 1 by omega]
                    · simp [intOf]; omega
          · as_aux_lemma =>
              have hm : m8 = 0 := by have := unhide HM8; rw [if_neg h0] at this; exact this
              have e1 : (tc == 0) = false := by simpa using h0
              have e2 : (tc != 0) = true := by simpa using h0
              have hzz : zs2 = zs := by have h1 := unhide HTC; rw [← unhide HZ2]; exact tk_not (by rw [h1]; exact h0)
              have e3 : ((l9 : Int) != (l1 : Int)) = false := by
                have h1 := (unhide HN9).len
                have h2 := (unhide HN9).o.len
                rw [hzz] at h1
                simp only [bne_eq_false_iff_eq]
                omega
              subst hm
              clear HM8 HTH hzz h0
              have hsb := unhide HSB
              have ya0 : V9.cell? ⟨A, 0, none⟩ = some (.int .i64 s) := (unhide HN9).o.box.c 0 (by simp)
              have ya1 : V9.cell? ⟨A, 1, none⟩ = some (.slice a1 l1 c1) := (unhide HN9).o.box.c 1 (by simp)
              have yl0 : V9.cell? ⟨L, 0, none⟩ = some (.string x.p) := (unhide HN9).lb.c 0 (by simp)
              have yl1 : V9.cell? ⟨L, 1, none⟩ = some (.int .i64 x.nb) := (unhide HN9).lb.c 1 (by simp)
              have yl2 : V9.cell? ⟨L, 2, none⟩ = some (.int .i64 x.le) := (unhide HN9).lb.c 2 (by simp)
              have yl3 : V9.cell? ⟨L, 3, none⟩ = some (.int .i64 x.mo) := (unhide HN9).lb.c 3 (by simp)
              have yl4 : V9.cell? ⟨L, 4, none⟩ = some (.int .i64 x.ne) := (unhide HN9).lb.c 4 (by simp)
              have yl5 : V9.cell? ⟨L, 5, none⟩ = some (.slice x.d.a x.d.n x.d.c) := (unhide HN9).lb.c 5 (by simp)
              have yn0 : V9.cell? ⟨N, 0, none⟩ = some (.int .i64 s) := (unhide HN9).nb.c 0 (by simp)
              have yn1 : V9.cell? ⟨N, 1, none⟩ = some (.slice a9 l9 c9) := (unhide HN9).nb.c 1 (by simp)
              go_wp2_with fail
              refine (implTake18_any s a1 l1 c1 zs x (sl + 1) V9 (unhide HN9).o.read (unhide HN9).o.lz ⟨(unhide HXI).sl.below (unhide HN9).o.bel, (unhide HXI).sz⟩ (by have := unhide HZ5; omega) ((unhide HG0).below (unhide HN9).o.bel)).mono ?_
              rintro e VA ⟨a6, c6, rfl, ob, bA⟩
              have hw2 : tkC s zs (lxW x) (sl + 1) = 2 := by rw [unhide HSL]; exact tk_wrong (unhide HN9).o.ab (unhide HDB)
              rw [hw2]
              obtain ⟨l6, hl6⟩ : ∃ z, (tkL s zs (lxW x) (sl + 1)).length = z := ⟨_, rfl⟩
              rw [hl6]
              have HNA := hide ((unhide HN9).below bA)
              clear hw2 hl6 ob bA HN9 hsb
              clear ya0 ya1 yl0 yl1 yl2 yl3 yl4 yl5 yn0 yn1
              obtain ⟨VB, hVB⟩ : ∃ V, V = VA.alloc (Obj.cells #[.int .i64 s, .slice a6 l6 c6] 26) := ⟨_, rfl⟩
              have HNB := hide ((unhide HNA).below (show Below VA.heap.size VA VB by rw [hVB]; exact bel1 _))
              have yl0 : VB.cell? ⟨L, 0, none⟩ = some (.string x.p) := (unhide HNB).lb.c 0 (by simp)
              have yl1 : VB.cell? ⟨L, 1, none⟩ = some (.int .i64 x.nb) := (unhide HNB).lb.c 1 (by simp)
              have yl2 : VB.cell? ⟨L, 2, none⟩ = some (.int .i64 x.le) := (unhide HNB).lb.c 2 (by simp)
              have yl3 : VB.cell? ⟨L, 3, none⟩ = some (.int .i64 x.mo) := (unhide HNB).lb.c 3 (by simp)
              have yl4 : VB.cell? ⟨L, 4, none⟩ = some (.int .i64 x.ne) := (unhide HNB).lb.c 4 (by simp)
              have yl5 : VB.cell? ⟨L, 5, none⟩ = some (.slice x.d.a x.d.n x.d.c) := (unhide HNB).lb.c 5 (by simp)
              rw [hVB] at yl0 yl1 yl2 yl3 yl4 yl5
              have HVB := hide hVB
              clear hVB HNA
              by_cases hd : 0 < x.d.n
              · as_aux_lemma =>
                  have d1 : (0 : Int) < (x.d.n : Int) := by omega
                  go_upto_region 25 with fail
                  rw [← unhide HVB]
                  rw [← unhide HVB] at yl0 yl1 yl2 yl3 yl4 yl5
                  clear HVB
                  obtain ⟨VC, hVC⟩ : ∃ V, V = VB.alloc (Obj.cells #[.string x.p, .int .i64 x.nb, .int .i64 x.le, .int .i64 x.mo, .int .i64 x.ne, .slice x.d.a x.d.n x.d.c] 32) := ⟨_, rfl⟩
                  have bC : Below VB.heap.size VB VC := by rw [hVC]; exact bel1 _
                  have KH : Hid (Blk VC VB.heap.size [.string x.p, .int .i64 x.nb, .int .i64 x.le, .int .i64 x.mo, .int .i64 x.ne, .slice x.d.a x.d.n x.d.c]) := hide (by rw [hVC]; exact Blk.new _ _)
                  have HHC : Hid (VB.heap.size < VC.heap.size) := hide (unhide KH).lt
                  obtain ⟨H, hH⟩ : ∃ H, VB.heap.size = H := ⟨_, rfl⟩
                  rw [hH] at KH HHC bC
                  have BC := hide bC
                  have HVC := hide hVC
                  have HHH := hide hH
                  clear hVC bC hH
                  go_upto_region 26 with fail
                  rw [← unhide HVC, unhide HHH]
                  clear HVC yl0 yl1 yl2 yl3 yl4 yl5
                  have BX : Hid (Below H VB (VC.alloc (Obj.cells #[] 5))) := hide ((unhide BC).alloc (by have := (unhide BC).size; have := unhide HHC; omega) _)
                  have HOX : Hid (OwnE 1 byC (VC.alloc (Obj.cells #[] 5)) VC.heap.size 5 (.slice (some ⟨VC.heap.size, 0, none⟩) 0 0) []) := hide (ownE_empty VC _)
                  have HNX := hide ((unhide HNB).below (by rw [unhide HHH]; exact unhide BX))
                  have KHX := hide ((unhide KH).below (bel1 (w := VC) (Obj.cells #[] 5)))
                  have yl0 : (VC.alloc (Obj.cells #[] 5)).cell? ⟨L, 0, none⟩ = some (.string x.p) := (unhide HNX).lb.c 0 (by simp)
                  have yl1 : (VC.alloc (Obj.cells #[] 5)).cell? ⟨L, 1, none⟩ = some (.int .i64 x.nb) := (unhide HNX).lb.c 1 (by simp)
                  have yl2 : (VC.alloc (Obj.cells #[] 5)).cell? ⟨L, 2, none⟩ = some (.int .i64 x.le) := (unhide HNX).lb.c 2 (by simp)
                  have yl3 : (VC.alloc (Obj.cells #[] 5)).cell? ⟨L, 3, none⟩ = some (.int .i64 x.mo) := (unhide HNX).lb.c 3 (by simp)
                  have yl4 : (VC.alloc (Obj.cells #[] 5)).cell? ⟨L, 4, none⟩ = some (.int .i64 x.ne) := (unhide HNX).lb.c 4 (by simp)
                  have yl5 : (VC.alloc (Obj.cells #[] 5)).cell? ⟨L, 5, none⟩ = some (.slice x.d.a x.d.n x.d.c) := (unhide HNX).lb.c 5 (by simp)
                  have yx0 : (VC.alloc (Obj.cells #[] 5)).cell? ⟨H, 0, none⟩ = some (.string x.p) := (unhide KHX).c 0 (by simp)
                  have yx1 : (VC.alloc (Obj.cells #[] 5)).cell? ⟨H, 1, none⟩ = some (.int .i64 x.nb) := (unhide KHX).c 1 (by simp)
                  have yx2 : (VC.alloc (Obj.cells #[] 5)).cell? ⟨H, 2, none⟩ = some (.int .i64 x.le) := (unhide KHX).c 2 (by simp)
                  have yx3 : (VC.alloc (Obj.cells #[] 5)).cell? ⟨H, 3, none⟩ = some (.int .i64 x.mo) := (unhide KHX).c 3 (by simp)
                  have yx4 : (VC.alloc (Obj.cells #[] 5)).cell? ⟨H, 4, none⟩ = some (.int .i64 x.ne) := (unhide KHX).c 4 (by simp)
                  have yx5 : (VC.alloc (Obj.cells #[] 5)).cell? ⟨H, 5, none⟩ = some (.slice x.d.a x.d.n x.d.c) := (unhide KHX).c 5 (by simp)
                  have hz5 := unhide HZ5
                  go_upto_region 27 with (at_builtin; refine wpList_app_by rfl _ _ rfl (unhide HOX) rfl rfl x.d.a x.d.n x.d.c x.d.zs rfl ((unhide HXI).sl.row.below (unhide HNX).o.bel) (by omega) (by simp) ?_; intro g9 cq w9 o9 gr9 hg9; have KH9 := hide ((unhide KHX).apart gr9 (fun e => by have := Option.some.inj e; have := unhide HHC; omega)); have yh : w9.cell? ⟨H, 5, none⟩ = some (.slice x.d.a x.d.n x.d.c) := (unhide KH9).c 5 (by simp); have fh : w9.frozen? ⟨H, 5, none⟩ = false := (unhide KH9).f 5 (by simp))
                  have O9 : Hid (OwnE 1 byC w9 VC.heap.size 5 (.slice (some ⟨g9, 0, none⟩) x.d.n cq) x.d.zs) := hide (by rw [Nat.zero_add, List.nil_append] at o9; exact o9)
                  have BB9 : Hid (Below H VB w9) := hide ((unhide BX).grown gr9 (by have := (unhide BX).size; have := unhide HHH; omega) (fun q hq => by have := Option.some.inj hq; have := unhide HHC; omega))
                  clear o9 gr9 hg9 BX HOX HNX KHX yl0 yl1 yl2 yl3 yl4 yl5 yx0 yx1 yx2 yx3 yx4 yx5
                  try simp only [Nat.zero_add]
                  obtain ⟨WD, hWD⟩ : ∃ V, V = w9.setCell ⟨H, 5, none⟩ (.slice (some ⟨g9, 0, none⟩) x.d.n cq) := ⟨_, rfl⟩
                  have KHD : Hid (Blk WD H [.string x.p, .int .i64 x.nb, .int .i64 x.le, .int .i64 x.mo, .int .i64 x.ne, .slice (some ⟨g9, 0, none⟩) x.d.n cq]) := hide (by rw [hWD]; exact (unhide KH9).set 5 (by simp) _)
                  have OD : Hid (OwnE 1 byC WD VC.heap.size 5 (.slice (some ⟨g9, 0, none⟩) x.d.n cq) x.d.zs) := hide (by rw [hWD]; exact (unhide O9).set_other _ (fun e => by have := ((unhide O9).lies H e).1; have := unhide HHC; omega))
                  have BBD : Hid (Below H VB WD) := hide (by rw [hWD]; exact (unhide BB9).setCell (p := ⟨H, 5, none⟩) (Nat.le_refl _) _)
                  rw [← hWD]
                  clear hWD KH9 O9 BB9 yh fh
                  have HND := hide ((unhide HNB).below (by rw [unhide HHH]; exact unhide BBD))
                  have hfi := (unhide HF) i
                  have hm0 : 0 ≤ f i % (x.d.n : Int) := Int.emod_nonneg _ (by omega)
                  have hm1 : f i % (x.d.n : Int) < (x.d.n : Int) := Int.emod_lt_of_pos _ (by omega)
                  obtain ⟨k, hk⟩ : ∃ k : Nat, f i % (x.d.n : Int) = (k : Int) := ⟨(f i % (x.d.n : Int)).toNat, by omega⟩
                  rw [hk] at hm0 hm1
                  have hkt : (f i).tmod (x.d.n : Int) = (k : Int) := by rw [Int.tmod_eq_emod_of_nonneg hfi.1]; exact hk
                  have hkl : k < x.d.n := by omega
                  have hz0 : ¬ (x.d.n : Int) = 0 := by omega
                  clear hk hfi
                  have hc1 := (unhide OD).here1 hz5.1 k hkl
                  obtain ⟨vb, hvb⟩ : ∃ z, elAt x.d.zs k = z := ⟨_, rfl⟩
                  rw [hvb] at hc1
                  have hvb2 : 0 ≤ vb ∧ vb ≤ 255 := by rw [← hvb]; exact (unhide HLS).2 k (by omega)
                  have hf9 := (unhide HF) (i + 9)
                  obtain ⟨f9, hf9e⟩ : ∃ z, f (i + 9) = z := ⟨_, rfl⟩
                  rw [hf9e] at hf9
                  have HF9 := hide hf9e
                  obtain ⟨nb, hnb⟩ : ∃ z, (vb + (1 + f9 % 255)) % 256 = z := ⟨_, rfl⟩
                  have hnb2 : (0 ≤ nb ∧ nb ≤ 255) ∧ nb ≠ vb := by omega
                  obtain ⟨ι, fW, _, hcb, hall⟩ := belClass WD
                  have m0 : ∀ x, (fW x).cell? ⟨g9, k, none⟩ = some (.int .u8 vb) := fun x => ((hcb x).cell (block_lt_of_cell hc1.1)).trans hc1.1
                  have m1 : ∀ x, (fW x).frozen? ⟨g9, k, none⟩ = false := fun x => ((hcb x).frozen (p := ⟨g9, k, none⟩) (block_lt_of_cell hc1.1)).trans hc1.2
                  have yl5 : ∀ y, (fW y).cell? ⟨L, 5, none⟩ = some (.slice x.d.a x.d.n x.d.c) := fun y => ((unhide HND).lb.below (hcb y)).c 5 (by simp)
                  have yh5 : ∀ y, (fW y).cell? ⟨H, 5, none⟩ = some (.slice (some ⟨g9, 0, none⟩) x.d.n cq) := fun y => ((unhide KHD).below (hcb y)).c 5 (by simp)
                  have HCB := hide hcb
                  have HALL := hide hall
                  have HIB : Hid (i ≤ 8) := hide (by omega)
                  have HX0 : Hid (∃ y0, WD = fW y0) := hide (hall WD (Below.refl _ _))
                  have HVB := hide hvb
                  clear hcb hall hc1 hvb hf9e
                  obtain ⟨y0, hy0⟩ := unhide HX0
                  rw [hy0]
                  clear hy0 HX0
                  refine wp_region_bel (fun w' h => (unhide HALL) w' ((unhide HCB _).trans (h.mono (unhide HCB _).size))) (by kernel_rfl) (by kernel_rfl) ?_
                  repeat (go_big_quiet_step ((go_at_call 13; exact belS ((unhide HAT) i _ rfl (by have := unhide HIB; omega) _ ((unhide HND).o.bel.trans ((unhide HCB _).mono (unhide HND).o.bel.size))))))
                  refine wpQuiet_nil ?_
                  rintro _ ⟨y, rfl⟩
                  go_simp
                  have HAT9 : Hid (∀ W : World, Below V0.heap.size V0 W → Calls Tryz.prog 13 #[.slice a len cap, .int .i64 ((i : Int) + 9)] W fun e w' => e = .returned (.int .i64 f9) ∧ w' = W) := hide (fun W b => by
                    have h := (unhide HAT) (i + 9) ((i : Int) + 9) (by omega) (by have := unhide HIB; omega) W b
                    rw [unhide HF9] at h
                    exact h)
                  have ht255 : f9.tmod 255 = f9 % 255 := Int.tmod_eq_emod_of_nonneg hf9.1
                  have ht0 : 0 ≤ f9 % 255 ∧ f9 % 255 ≤ 254 := by omega
                  have ht1 : (1 + f9 % 255) % 256 = 1 + f9 % 255 := by omega
                  have hib := unhide HIB
                  have HZ5b := hide hz5
                  clear hz5 hkt hz0
                  go_upto_region 28 with fail
                  refine wp_region_then (fun w' h => (unhide HALL) w' ((unhide HCB _).trans (h.mono (unhide HCB _).size))) (by kernel_rfl) (by kernel_rfl) (by kernel_rfl) ?_
                  dsimp only [swapLast, lastOf]
                  repeat (go_big_quiet_step ((go_at_call 13; exact belS ((unhide HAT9) _ ((unhide HND).o.bel.trans ((unhide HCB _).mono (unhide HND).o.bel.size))))))
                  refine wpQuiet_nil ?_
                  rintro _ ⟨y2, rfl⟩
                  go_simp
                  obtain ⟨U, hU⟩ : ∃ U, U = (fW y2).setCell ⟨g9, k, none⟩ (.int .u8 nb) := ⟨_, rfl⟩
                  have hgH : VC.heap.size ≤ g9 := ((unhide OD).lies g9 rfl).1
                  have OU : Hid (OwnE 1 byC U VC.heap.size 5 (.slice (some ⟨g9, 0, none⟩) x.d.n cq) (x.d.zs.set k nb)) := hide (by rw [hU]; exact ((unhide OD).below (unhide HCB y2)).set1 (unhide HZ5).1 k hkl _ _ rfl)
                  have KHU : Hid (Blk U H [.string x.p, .int .i64 x.nb, .int .i64 x.le, .int .i64 x.mo, .int .i64 x.ne, .slice (some ⟨g9, 0, none⟩) x.d.n cq]) := hide (by rw [hU]; exact ((unhide KHD).below (unhide HCB y2)).other (p := ⟨g9, k, none⟩) (by have := unhide HHC; show g9 ≠ H; omega) _)
                  have BBU : Hid (Below H VB U) := hide (by rw [hU]; exact ((unhide BBD).trans ((unhide HCB y2).mono (by have := (unhide KHD).lt; omega))).setCell (p := ⟨g9, k, none⟩) (by have := unhide HHC; show H ≤ g9; omega) _)
                  have HNU := hide ((unhide HNB).below (by rw [unhide HHH]; exact unhide BBU))
                  have hby : ∀ i, i < x.d.n → 0 ≤ elAt (x.d.zs.set k nb) i ∧ elAt (x.d.zs.set k nb) i ≤ 255 := fun i2 hi2 => by
                    have hz := unhide HZ5
                    rw [elAt_set _ _ _ _ (by omega)]
                    split
                    · exact hnb2.1
                    · exact (unhide HLS).2 i2 (by omega)
                  have HBY2 := hide hby
                  have hsd : seR ⟨x.p, x.nb, x.le, x.mo, x.ne, x.d.zs.set k nb⟩ ≠ sl := by
                    have hz := unhide HZ5
                    have hl : ldB ⟨x.p, x.nb, x.le, x.mo, x.ne, x.d.zs.set k nb⟩ = true := by
                      have e : ldB ⟨x.p, x.nb, x.le, x.mo, x.ne, x.d.zs.set k nb⟩ = ldB ⟨x.p, x.nb, x.le, x.mo, x.ne, x.d.zs⟩ := by simp [ldB]
                      rw [e]; exact unhide HDB
                    rw [seR_ok hl, unhide HSL]
                    exact seal_turn (by omega) (by rw [unhide HVB]; exact hvb2) hnb2.1 (by rw [unhide HVB]; exact hnb2.2)
                  obtain ⟨s2, hs2⟩ : ∃ z, seR ⟨x.p, x.nb, x.le, x.mo, x.ne, x.d.zs.set k nb⟩ = z := ⟨_, rfl⟩
                  obtain ⟨b2, hb2⟩ : ∃ z, ldB ⟨x.p, x.nb, x.le, x.mo, x.ne, x.d.zs.set k nb⟩ = z := ⟨_, rfl⟩
                  rw [hs2] at hsd
                  have hne : (s2 == sl) = false := by simpa using hsd
                  have HS2 := hide hs2
                  have HB2 := hide hb2
                  rw [← hU]
                  clear hU hgH hby hsd hs2 hb2 m0 m1 yl5 yh5 hnb2 hvb2 hnb ht255 ht0 ht1 hf9 hm0 hm1 hkl hib OD KHD BBD HND HNB
                  have yu0 : U.cell? ⟨H, 0, none⟩ = some (.string x.p) := (unhide KHU).c 0 (by simp)
                  have yu1 : U.cell? ⟨H, 1, none⟩ = some (.int .i64 x.nb) := (unhide KHU).c 1 (by simp)
                  have yu2 : U.cell? ⟨H, 2, none⟩ = some (.int .i64 x.le) := (unhide KHU).c 2 (by simp)
                  have yu3 : U.cell? ⟨H, 3, none⟩ = some (.int .i64 x.mo) := (unhide KHU).c 3 (by simp)
                  have yu4 : U.cell? ⟨H, 4, none⟩ = some (.int .i64 x.ne) := (unhide KHU).c 4 (by simp)
                  have yu5 : U.cell? ⟨H, 5, none⟩ = some (.slice (some ⟨g9, 0, none⟩) x.d.n cq) := (unhide KHU).c 5 (by simp)
                  go_wp2_with fail
                  refine (implSeal_any x.p x.nb x.le x.mo x.ne (some ⟨g9, 0, none⟩) x.d.n cq (x.d.zs.set k nb) U ⟨OwnE.row (unhide OU)⟩ (unhide HBY2) (unhide HXI).sz).mono ?_
                  rintro e VF ⟨rfl, bF⟩
                  rw [unhide HS2, unhide HB2]
                  have HNF := hide ((unhide HNU).below bF)
                  clear bF HNU OU KHU BBU yu0 yu1 yu2 yu3 yu4 yu5
                  go_upto_region 32 with fail
                  have yn0 : VF.cell? ⟨N, 0, none⟩ = some (.int .i64 s) := (unhide HNF).nb.c 0 (by simp)
                  have yn1 : VF.cell? ⟨N, 1, none⟩ = some (.slice a9 l9 c9) := (unhide HNF).nb.c 1 (by simp)
                  go_upto_region 33 with ((with_reducible show wpList _ _ _ (⟨none, .store 26 _ _, _, _, _, none⟩ :: _) _ _); refine at_storeAgg (us := [.int .i64 s, .slice a1 l1 c1]) (vs := [.int .i64 s, .slice a9 l9 c9]) Tryz.sizeOf26 rfl rfl (unhide HNF).o.box rfl (by intro v hv; simp at hv; rcases hv with rfl | rfl <;> rfl) ?_; intro w6 kk gg)
                  have HO6 := hide ((unhide HNF).next (by have := unhide HA; omega) kk gg)
                  have KL6 := hide ((unhide HNF).lb.apart gg (fun e => by have := Option.some.inj e; have := unhide HAL; omega))
                  clear kk gg HNF yn0 yn1
                  have ya0 : w6.cell? ⟨A, 0, none⟩ = some (.int .i64 s) := (unhide HO6).box.c 0 (by simp)
                  have ya1 : w6.cell? ⟨A, 1, none⟩ = some (.slice a9 l9 c9) := (unhide HO6).box.c 1 (by simp)
                  have yl0 : w6.cell? ⟨L, 0, none⟩ = some (.string x.p) := (unhide KL6).c 0 (by simp)
                  have yl1 : w6.cell? ⟨L, 1, none⟩ = some (.int .i64 x.nb) := (unhide KL6).c 1 (by simp)
                  have yl2 : w6.cell? ⟨L, 2, none⟩ = some (.int .i64 x.le) := (unhide KL6).c 2 (by simp)
                  have yl3 : w6.cell? ⟨L, 3, none⟩ = some (.int .i64 x.mo) := (unhide KL6).c 3 (by simp)
                  have yl4 : w6.cell? ⟨L, 4, none⟩ = some (.int .i64 x.ne) := (unhide KL6).c 4 (by simp)
                  have yl5 : w6.cell? ⟨L, 5, none⟩ = some (.slice x.d.a x.d.n x.d.c) := (unhide KL6).c 5 (by simp)
                  go_wp2_with fail
                  refine (implDrop18_any s a9 l9 c9 zs2 x.nb w6 (unhide HO6).read (unhide HO6).lz).mono ?_
                  rintro e VG ⟨a7, c7, rfl, od, bG⟩
                  obtain ⟨gb2, hgb⟩ : ∃ z, drB s zs2 x.nb = z := ⟨_, rfl⟩
                  obtain ⟨zs7, hz7⟩ : ∃ z, drL s zs2 x.nb = z := ⟨_, rfl⟩
                  obtain ⟨l7, hl7⟩ : ∃ z, zs7.length = z := ⟨_, rfl⟩
                  rw [hz7] at od ⊢
                  rw [hl7] at od ⊢
                  rw [hgb]
                  have HGB := hide hgb
                  have HZ7 := hide hz7
                  have HL7 := hide hl7
                  obtain ⟨VH, hVH⟩ : ∃ V, V = VG.alloc (Obj.cells #[.int .i64 s, .slice a7 l7 c7] 26) := ⟨_, rfl⟩
                  have bH : Below VG.heap.size VG VH := by rw [hVH]; exact bel1 _
                  have HO7 := hide (((unhide HO6).below bG).below bH)
                  have KD : Hid (Blk VH VG.heap.size [.int .i64 s, .slice a7 l7 c7]) := hide (by rw [hVH]; exact Blk.new _ _)
                  have HR7 := hide (od.read.below bH)
                  obtain ⟨D, hD⟩ : ∃ D, VG.heap.size = D := ⟨_, rfl⟩
                  have hD2 := hD
                  rw [hD] at KD
                  have yd0 : VH.cell? ⟨D, 0, none⟩ = some (.int .i64 s) := (unhide KD).c 0 (by simp)
                  have yd1 : VH.cell? ⟨D, 1, none⟩ = some (.slice a7 l7 c7) := (unhide KD).c 1 (by simp)
                  have yz0 : VH.cell? ⟨A, 0, none⟩ = some (.int .i64 s) := (unhide HO7).box.c 0 (by simp)
                  have yz1 : VH.cell? ⟨A, 1, none⟩ = some (.slice a9 l9 c9) := (unhide HO7).box.c 1 (by simp)
                  rw [← hD2] at yd0 yd1
                  rw [hVH] at yd0 yd1 yz0 yz1
                  have HVH := hide hVH
                  have HD := hide hD
                  clear hgb hz7 hl7 hVH hD hD2 bH bG od HO6 KL6 ya0 ya1 yl0 yl1 yl2 yl3 yl4 yl5
                  cases gb2 with
                  | false =>
                    go_wp2_with fail
                    rw [← unhide HVH]
                    refine ⟨⟨i + 1, a9, l9, c9, zs2, ?_, by omega, HO7⟩, ?_⟩
                    · rw [show ((i + 1 : Nat) : Int) = (i : Int) + 1 by omega]
                    · simp [intOf]; omega
                  | true =>
                    have hdr := ab_drop (unhide HGB)
                    rw [unhide HZ7] at hdr
                    have e5 : ((l7 : Int) != (l9 : Int) - 1) = false := by
                      have h1 := hdr.2
                      have h2 := (unhide HO7).len
                      have h3 := unhide HL7
                      simp only [bne_eq_false_iff_eq]
                      omega
                    have HAB7 := hide hdr.1
                    clear hdr
                    go_wp2_with fail
                    rw [← unhide HVH]
                    clear yd0 yd1 yz0 yz1
                    refine (implAboardOk_any s a7 l7 c7 zs7 VH (unhide HR7)).mono ?_
                    rintro e VI ⟨rfl, bI⟩
                    rw [unhide HAB7]
                    have HO8 := hide ((unhide HO7).below bI)
                    clear bI HO7
                    go_wp2_with fail
                    refine ⟨⟨i + 1, a9, l9, c9, zs2, ?_, by omega, HO8⟩, ?_⟩
                    · rw [show ((i + 1 : Nat) : Int) = (i : Int) + 1 by omega]
                    · simp [intOf]; omega
              · as_aux_lemma =>
                  have d1 : ¬ (0 : Int) < (x.d.n : Int) := by omega
                  go_upto_region 32 with fail
                  rw [← unhide HVB]
                  clear yl0 yl1 yl2 yl3 yl4 yl5 HVB
                  have yn0 : VB.cell? ⟨N, 0, none⟩ = some (.int .i64 s) := (unhide HNB).nb.c 0 (by simp)
                  have yn1 : VB.cell? ⟨N, 1, none⟩ = some (.slice a9 l9 c9) := (unhide HNB).nb.c 1 (by simp)
                  go_upto_region 33 with ((with_reducible show wpList _ _ _ (⟨none, .store 26 _ _, _, _, _, none⟩ :: _) _ _); refine at_storeAgg (us := [.int .i64 s, .slice a1 l1 c1]) (vs := [.int .i64 s, .slice a9 l9 c9]) Tryz.sizeOf26 rfl rfl (unhide HNB).o.box rfl (by intro v hv; simp at hv; rcases hv with rfl | rfl <;> rfl) ?_; intro w6 kk gg)
                  have HO6 := hide ((unhide HNB).next (by have := unhide HA; omega) kk gg)
                  have KL6 := hide ((unhide HNB).lb.apart gg (fun e => by have := Option.some.inj e; have := unhide HAL; omega))
                  clear kk gg HNB yn0 yn1
                  have ya0 : w6.cell? ⟨A, 0, none⟩ = some (.int .i64 s) := (unhide HO6).box.c 0 (by simp)
                  have ya1 : w6.cell? ⟨A, 1, none⟩ = some (.slice a9 l9 c9) := (unhide HO6).box.c 1 (by simp)
                  have yl0 : w6.cell? ⟨L, 0, none⟩ = some (.string x.p) := (unhide KL6).c 0 (by simp)
                  have yl1 : w6.cell? ⟨L, 1, none⟩ = some (.int .i64 x.nb) := (unhide KL6).c 1 (by simp)
                  have yl2 : w6.cell? ⟨L, 2, none⟩ = some (.int .i64 x.le) := (unhide KL6).c 2 (by simp)
                  have yl3 : w6.cell? ⟨L, 3, none⟩ = some (.int .i64 x.mo) := (unhide KL6).c 3 (by simp)
                  have yl4 : w6.cell? ⟨L, 4, none⟩ = some (.int .i64 x.ne) := (unhide KL6).c 4 (by simp)
                  have yl5 : w6.cell? ⟨L, 5, none⟩ = some (.slice x.d.a x.d.n x.d.c) := (unhide KL6).c 5 (by simp)
                  go_wp2_with fail
                  refine (implDrop18_any s a9 l9 c9 zs2 x.nb w6 (unhide HO6).read (unhide HO6).lz).mono ?_
                  rintro e VG ⟨a7, c7, rfl, od, bG⟩
                  obtain ⟨gb2, hgb⟩ : ∃ z, drB s zs2 x.nb = z := ⟨_, rfl⟩
                  obtain ⟨zs7, hz7⟩ : ∃ z, drL s zs2 x.nb = z := ⟨_, rfl⟩
                  obtain ⟨l7, hl7⟩ : ∃ z, zs7.length = z := ⟨_, rfl⟩
                  rw [hz7] at od ⊢
                  rw [hl7] at od ⊢
                  rw [hgb]
                  have HGB := hide hgb
                  have HZ7 := hide hz7
                  have HL7 := hide hl7
                  obtain ⟨VH, hVH⟩ : ∃ V, V = VG.alloc (Obj.cells #[.int .i64 s, .slice a7 l7 c7] 26) := ⟨_, rfl⟩
                  have bH : Below VG.heap.size VG VH := by rw [hVH]; exact bel1 _
                  have HO7 := hide (((unhide HO6).below bG).below bH)
                  have KD : Hid (Blk VH VG.heap.size [.int .i64 s, .slice a7 l7 c7]) := hide (by rw [hVH]; exact Blk.new _ _)
                  have HR7 := hide (od.read.below bH)
                  obtain ⟨D, hD⟩ : ∃ D, VG.heap.size = D := ⟨_, rfl⟩
                  have hD2 := hD
                  rw [hD] at KD
                  have yd0 : VH.cell? ⟨D, 0, none⟩ = some (.int .i64 s) := (unhide KD).c 0 (by simp)
                  have yd1 : VH.cell? ⟨D, 1, none⟩ = some (.slice a7 l7 c7) := (unhide KD).c 1 (by simp)
                  have yz0 : VH.cell? ⟨A, 0, none⟩ = some (.int .i64 s) := (unhide HO7).box.c 0 (by simp)
                  have yz1 : VH.cell? ⟨A, 1, none⟩ = some (.slice a9 l9 c9) := (unhide HO7).box.c 1 (by simp)
                  rw [← hD2] at yd0 yd1
                  rw [hVH] at yd0 yd1 yz0 yz1
                  have HVH := hide hVH
                  have HD := hide hD
                  clear hgb hz7 hl7 hVH hD hD2 bH bG od HO6 KL6 ya0 ya1 yl0 yl1 yl2 yl3 yl4 yl5
                  cases gb2 with
                  | false =>
                    go_wp2_with fail
                    rw [← unhide HVH]
                    refine ⟨⟨i + 1, a9, l9, c9, zs2, ?_, by omega, HO7⟩, ?_⟩
                    · rw [show ((i + 1 : Nat) : Int) = (i : Int) + 1 by omega]
                    · simp [intOf]; omega
                  | true =>
                    have hdr := ab_drop (unhide HGB)
                    rw [unhide HZ7] at hdr
                    have e5 : ((l7 : Int) != (l9 : Int) - 1) = false := by
                      have h1 := hdr.2
                      have h2 := (unhide HO7).len
                      have h3 := unhide HL7
                      simp only [bne_eq_false_iff_eq]
                      omega
                    have HAB7 := hide hdr.1
                    clear hdr
                    go_wp2_with fail
                    rw [← unhide HVH]
                    clear yd0 yd1 yz0 yz1
                    refine (implAboardOk_any s a7 l7 c7 zs7 VH (unhide HR7)).mono ?_
                    rintro e VI ⟨rfl, bI⟩
                    rw [unhide HAB7]
                    have HO8 := hide ((unhide HO7).below bI)
                    clear bI HO7
                    go_wp2_with fail
                    refine ⟨⟨i + 1, a9, l9, c9, zs2, ?_, by omega, HO8⟩, ?_⟩
                    · rw [show ((i + 1 : Nat) : Int) = (i : Int) + 1 by omega]
                    · simp [intOf]; omega
    · have j1 : ¬ (i : Int) < (n1 : Int) := by omega
      have ya0 : wr.cell? ⟨A, 0, none⟩ = some (.int .i64 s) := (unhide HLO).box.c 0 (by simp)
      have ya1 : wr.cell? ⟨A, 1, none⟩ = some (.slice a1 l1 c1) := (unhide HLO).box.c 1 (by simp)
      go_wp2_with fail
      refine (implAboardOk_any s a1 l1 c1 zs wr (unhide HLO).read).mono ?_
      rintro e V9 ⟨rfl, b9⟩
      rw [(unhide HLO).ab]
      have HLO9 := hide ((unhide HLO).below b9)
      clear b9
      go_wp2_with fail
      go_ret
      exact ⟨rfl, (unhide BW).trans ((unhide HLO9).bel.mono (unhide BW).size)⟩

theorem lawLoads (a : Option Addr) (len cap : Nat) (w : World) (hb : Bytes w a len) (hin : ∀ b off, a = some ⟨b, off, none⟩ → b < w.heap.size) (hg : ErG w) :
    Calls Tryz.prog 3 #[.slice a len cap] w fun e w' => e = .returned (.bool true) ∧ Below w.heap.size w w' := by
  by_cases h : (1048576 : Int) < len
  · exact lawLoads_big a len cap w h
  · exact lawLoads_small a len cap w h hb hin hg

end Go.Proofs.YtemodlgmjgdjpaaGreatDoor

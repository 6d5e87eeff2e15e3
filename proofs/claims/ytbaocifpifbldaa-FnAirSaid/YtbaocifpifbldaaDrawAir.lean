/-
  What the model's drawing of an air tells: some air, whose lists can be read. At every list of bytes; nothing that was there is written.
-/
import Derived.Test.YtbaocifpifbldaaAirIn
import Derived.Deep.Cut
import Derived.Deep.CutRange
import Derived.Deep.RegionLaw
namespace Go.Proofs.Ytbaocifpifbldaa
open Go.RowKit

theorem pick_bd {i : Nat} {x : Int} (hi : i < 4) (hx : nth [-21, -20, 20, 21] i = x) : -2000 ≤ x ∧ x ≤ 2000 := by
  subst hx
  rcases (by omega : i = 0 ∨ i = 1 ∨ i = 2 ∨ i = 3) with rfl | rfl | rfl | rfl <;> simp [nth]
theorem own_first {w : World} {base g n c : Nat} {zs : List Int} (h : OwnI w base (.slice (some ⟨g, 0, none⟩) n c) zs) (hn : zs.length = n) (h0 : 0 < n) : w.cell? ⟨g, 0, none⟩ = some (.int .i64 (nth zs 0)) ∧ w.frozen? ⟨g, 0, none⟩ = false := by
  subst hn; exact h.here 0 h0

set_option maxRecDepth 20000 in
set_option maxHeartbeats 4000000 in
theorem l1DrawAir_any {w : World} {C : Nat} {a : Option Addr} {len cap : Nat} (W : World) (hd : Dr w C a len cap W) (hin : ∀ b off, a = some ⟨b, off, none⟩ → b < w.heap.size) :
    Calls Try.prog 48 #[.pointer (some ⟨C, 0, none⟩)] W fun e w' => AirDrawn w e w' := by
  obtain ⟨W0, hW0⟩ : ∃ W0, W0 = W.alloc (Obj.cells #[.int .i64 0, .slice none 0 0, .slice none 0 0] 43) := ⟨_, rfl⟩
  obtain ⟨R, hR⟩ : ∃ R, W.heap.size = R := ⟨_, rfl⟩
  have bW : Below W.heap.size W W0 := by rw [hW0]; exact bel1 _
  have D0 := hide (hd.below bW)
  have Z0 : Hid (Blk W0 R [.int .i64 0, .slice none 0 0, .slice none 0 0]) := hide (by rw [hW0, ← hR]; exact Blk.new [.int .i64 0, .slice none 0 0, .slice none 0 0] 43)
  have HCR : Hid (C < R) := hide (by rw [← hR]; exact hd.lt)
  have HIN := hide hin
  have HW0 := hide hW0
  have HR := hide hR
  clear hd bW hW0 hR hin
  go_enter Try.func48, Try.ntmps48
  go_wp2_with fail
  rw [← unhide HW0, unhide HR]
  clear HW0 HR
  refine (drBelow 41 _ (unhide D0) (by omega)).mono ?_
  rintro x w1 ⟨x0, rfl, hx0, d, gr⟩
  have D1 := hide d
  have Z1 := hide ((unhide Z0).apart gr (fun e => by have := Option.some.inj e; have := unhide HCR; omega))
  obtain ⟨bs, hbs⟩ : ∃ bs, x0 - 20 = bs := ⟨_, rfl⟩
  have bbs : -20 ≤ bs ∧ bs ≤ 20 := by omega
  clear d gr D0 Z0
  go_wp2_with fail
  refine (drBelow 4 _ (unhide D1) (by omega)).mono ?_
  rintro x w2 ⟨x1, rfl, hx1, d, gr⟩
  have D2 := hide d
  have Z2 := hide ((unhide Z1).apart gr (fun e => by have := Option.some.inj e; have := unhide HCR; omega))
  obtain ⟨n, hn⟩ : ∃ n : Nat, 1 + x1 = (n : Int) := ⟨(1 + x1).toNat, by omega⟩
  have hnb : 1 ≤ n ∧ n ≤ 4 := by omega
  clear d gr D1 Z1
  go_wp2_with fail
  refine (drBelow 20 _ (unhide D2) (by omega)).mono ?_
  rintro x w3 ⟨x2, rfl, hx2, d, gr⟩
  have D3 := hide d
  have Z3 := hide ((unhide Z2).apart gr (fun e => by have := Option.some.inj e; have := unhide HCR; omega))
  obtain ⟨lw, hlw⟩ : ∃ lw, 1 + x2 = lw := ⟨_, rfl⟩
  have blw : 1 ≤ lw ∧ lw ≤ 20 := by omega
  clear d gr D2 Z2
  go_wp2_with fail
  refine (drRise n lw 20 _ (unhide D3) (unhide HIN) (by omega) (by omega) (by omega)).mono ?_
  rintro x w4 ⟨g1, c1, ts, X, rfl, o1, rs, d4, kp⟩
  obtain ⟨G, hG⟩ : ∃ G, w4.heap.size = G := ⟨_, rfl⟩
  obtain ⟨V, hV⟩ : ∃ V, V = w4.alloc (Obj.cells #[.int .i64 bs, .slice none 0 0, .slice (some ⟨g1, 0, none⟩) n c1] 43) := ⟨_, rfl⟩
  have A0 : Hid (Ad w C R G a len cap V bs (.slice none 0 0) (.slice (some ⟨g1, 0, none⟩) n c1) [] ts) := hide (by
    have bV : Below w4.heap.size w4 V := by rw [hV]; exact bel1 _
    have hcr := unhide HCR
    have hr3 := (unhide Z3).lt
    have hsz := kp.size
    have r4 : Blk w4 R [.int .i64 0, .slice none 0 0, .slice none 0 0] := by
      have hb := kp.block R hr3 (by omega)
      have z := unhide Z3
      refine ⟨fun i hi => ?_, fun i hi => ?_, by omega⟩
      · have h := z.c i hi
        simp only [World.cell?, hb] at h ⊢
        exact h
      · have h := z.f i hi
        simp only [World.frozen?, hb] at h ⊢
        exact h
    have lg := (o1.lies g1 rfl).2
    refine ⟨d4.below bV, unhide HIN, hcr, by omega, r4.below bV, ?_, ?_, (o1.below bV).mono (by omega), by simp [Value.ownBlock], fun e => ?_, fun g hg => by simp [Value.ownBlock]⟩
    · rw [hV, ← hG]; exact Blk.new [.int .i64 bs, .slice none 0 0, .slice (some ⟨g1, 0, none⟩) n c1] 43
    · exact ⟨⟨[], by simpa using World.ownsRow_nil V (R + 1) 3 1, fun j hj => by simp at hj⟩, fun i => by simp [nth]⟩
    · have := Option.some.inj (show some g1 = some G from e); omega)
  have HTL : Hid (ts.length = n) := hide rs.len
  have HV := hide hV
  have HG := hide hG
  clear o1 rs d4 kp hV hG D3 Z3 HIN
  go_wp2_with fail
  rw [← unhide HV, unhide HG]
  clear HV HG
  go_loopw [4] (fun i wr => ∃ (k : Nat) (vS : Value) (ss : List Int), i = .int .i64 (k : Int) ∧ k ≤ n ∧ Hid (ss.length = k) ∧ Hid (Ad w C R G a len cap wr bs vS (.slice (some ⟨g1, 0, none⟩) n c1) ss ts)) (fun i _ => n - (intOf i).toNat)
  case atStart => exact ⟨0, _, [], rfl, Nat.zero_le _, hide rfl, A0⟩
  case round =>
    clear A0
    obtain ⟨k, vS, ss, rfl, hk, HL, HS⟩ := hrel
    have p1 : wr.cell? ⟨G, 1, none⟩ = some vS := (unhide HS).p.c 1 (by simp)
    have p2 : wr.cell? ⟨G, 2, none⟩ = some (.slice (some ⟨g1, 0, none⟩) n c1) := (unhide HS).p.c 2 (by simp)
    by_cases hlt : k < n
    · have hlt2 : (k : Int) < (n : Int) := by omega
      go_wp2_with fail
      go_region_law (first
        | ((fail_if_success have := D1); go_simp; go_wp2_with (go_at_call 38; refine (drBelow (w := w) (a := a) (len := len) (cap := cap) _ _ (by first | exact (unhide HS).d | exact ((unhide HS).below (bel0d 1)).d) (by omega)).mono ?_; rintro e u1 ⟨y, rfl, hy, d, gr⟩; have D1 : Hid (Ad w C R G a len cap u1 bs vS (.slice (some ⟨g1, 0, none⟩) n c1) ss ts) := hide (Ad.call (by first | exact unhide HS | exact (unhide HS).below (bel0d 1)) gr d); have p1a : u1.cell? ⟨G, 1, none⟩ = some vS := (unhide D1).p.c 1 (by simp); have p1b : ∀ o, (u1.alloc o).cell? ⟨G, 1, none⟩ = some vS := (fun o => ((unhide D1).p.alloc o).c 1 (by simp)); clear d gr))
        | (refine step_app_int rfl (.tmp 25) (.tmp 29) rfl (n := k) (IntKind.i64.wrap (y - 9)) (unhide D1).oS (unhide HL) (by simp [Act.eval]) rfl (by simp [Act.eval]) (by have := (unhide D1).r.lt; omega) (by omega) (by rw [IntKind.wrap_i64]; omega) ?_; intro g9 c9 w9 o9 gr9 at9; have p9 := (unhide D1).p.apart gr9 (fun e => (unhide D1).nS e.symm); have q9 : w9.cell? ⟨G, 1, none⟩ = some vS := p9.c 1 (by simp); have f9 : w9.frozen? ⟨G, 1, none⟩ = false := p9.f 1 (by simp)))
      all_goals
        go_wp2_with fail
        go_roundw
        case rel => exact ⟨k + 1, _, _, by go_num, by omega, hide (by have := unhide HL; simp [this]), hide ((unhide D1).pushS o9 gr9 at9)⟩
        case measure => simp [intOf]; omega
    · obtain rfl : k = n := by omega
      have hlt2 : ¬ (k : Int) < (k : Int) := by omega
      clear hlt hk
      go_wp2_with fail
      clear hlt2
      refine (drBelow 30 _ (unhide HS).d (by omega)).mono ?_
      rintro x w5 ⟨s, rfl, hs, d, gr⟩
      have H5 := hide ((unhide HS).call gr d)
      clear d gr HS p1 p2
      obtain ⟨g2, c2, hvS⟩ : ∃ g2 c2, vS = .slice (some ⟨g2, 0, none⟩) k c2 := by
        rcases (unhide H5).oS.form with ⟨_, e⟩ | ⟨g', c', e, _⟩
        · have := unhide HL; rw [e] at this; simp at this; omega
        · rw [unhide HL] at e; exact ⟨g', c', e⟩
      subst hvS
      have HRG := hide (unhide H5).rg
      have nrg : ¬ G = R := by have := unhide HRG; omega
      have nrg2 : ¬ R = G := by have := unhide HRG; omega
      have hk0 : 0 < k := by omega
      have lS := (unhide H5).oS.lies g2 rfl
      have lT := (unhide H5).oT.lies g1 rfl
      have n1 : ¬ g1 = G := fun e => (unhide H5).nT (by rw [e]; rfl)
      have n2 : ¬ G = g1 := fun e => n1 e.symm
      have n3 : ¬ g1 = R := by omega
      have n4 : ¬ R = g1 := by omega
      have n5 : ¬ g2 = G := fun e => (unhide H5).nS (by rw [e]; rfl)
      have n6 : ¬ G = g2 := fun e => n5 e.symm
      have n7 : ¬ g2 = R := by omega
      have n8 : ¬ R = g2 := by omega
      rcases (show s = 0 ∨ s = 1 ∨ s = 2 ∨ s = 3 ∨ s = 4 ∨ 5 ≤ s by omega) with rfl | rfl | rfl | rfl | rfl | h5
      · have RL : Hid (Row (w5.alloc (Obj.cells #[.int .i64 (-101), .int .i64 (-100), .int .i64 100, .int .i64 101] 3)) (some ⟨w5.heap.size, 0, none⟩) 4 [-101, -100, 100, 101]) := hide (row_lit w5 [-101, -100, 100, 101] 3 (by simp) (by decide))
        have DD : Hid (Dr w C a len cap (w5.alloc (Obj.cells #[.int .i64 (-101), .int .i64 (-100), .int .i64 100, .int .i64 101] 3))) := hide ((unhide H5).d.below (bel1 _))
        have gne : Hid (w5.heap.size ≠ C) := hide (by have := (unhide H5).d.lt; omega)
        go_wp2_with fail
        refine (drPickInt _ 4 4 [-101, -100, 100, 101] _ (unhide DD) (unhide RL) (unhide gne) (by omega)).mono ?_
        rintro x w6 ⟨i, hi, rfl, d, gr⟩
        have H6 := hide (((unhide H5).below (bel1 _)).call gr d)
        obtain ⟨x, hx⟩ : ∃ x, nth [-101, -100, 100, 101] i = x := ⟨_, rfl⟩
        rw [hx]
        clear hx d gr RL DD gne H5
        have pe0 : w6.cell? ⟨G, 0, none⟩ = some (.int .i64 bs) := (unhide H6).p.c 0 (by simp)
        have pf0 : w6.frozen? ⟨G, 0, none⟩ = false := (unhide H6).p.f 0 (by simp)
        have pe1 : w6.cell? ⟨G, 1, none⟩ = some (.slice (some ⟨g2, 0, none⟩) k c2) := (unhide H6).p.c 1 (by simp)
        have pf1 : w6.frozen? ⟨G, 1, none⟩ = false := (unhide H6).p.f 1 (by simp)
        have pe2 : w6.cell? ⟨G, 2, none⟩ = some (.slice (some ⟨g1, 0, none⟩) k c1) := (unhide H6).p.c 2 (by simp)
        have pf2 : w6.frozen? ⟨G, 2, none⟩ = false := (unhide H6).p.f 2 (by simp)
        have re0 : w6.cell? ⟨R, 0, none⟩ = some (.int .i64 0) := (unhide H6).r.c 0 (by simp)
        have rf0 : w6.frozen? ⟨R, 0, none⟩ = false := (unhide H6).r.f 0 (by simp)
        have re1 : w6.cell? ⟨R, 1, none⟩ = some (.slice none 0 0) := (unhide H6).r.c 1 (by simp)
        have rf1 : w6.frozen? ⟨R, 1, none⟩ = false := (unhide H6).r.f 1 (by simp)
        have re2 : w6.cell? ⟨R, 2, none⟩ = some (.slice none 0 0) := (unhide H6).r.c 2 (by simp)
        have rf2 : w6.frozen? ⟨R, 2, none⟩ = false := (unhide H6).r.f 2 (by simp)
        have H7 := hide ((unhide H6).base x)
        go_wp2_with fail
        exact bodyPost_ret (results_cell (vs := [.int .i64 x, .slice (some ⟨g2, 0, none⟩) k c2, .slice (some ⟨g1, 0, none⟩) k c1]) rfl Try.isAgg43 Try.sizeOf43 rfl (unhide H7).told.1) rfl (unhide H7).told.2
      · have hS0 : w5.cell? ⟨g2, 0, none⟩ = some (.int .i64 (nth ss 0)) := by have h := (unhide H5).oS; rw [← unhide HL] at h hk0; exact (h.here 0 hk0).1
        have RL : Hid (Row (w5.alloc (Obj.cells #[.int .i64 (-21), .int .i64 (-20), .int .i64 20, .int .i64 21] 3)) (some ⟨w5.heap.size, 0, none⟩) 4 [-21, -20, 20, 21]) := hide (row_lit w5 [-21, -20, 20, 21] 3 (by simp) (by decide))
        have DD : Hid (Ad w C R G a len cap (w5.alloc (Obj.cells #[.int .i64 (-21), .int .i64 (-20), .int .i64 20, .int .i64 21] 3)) bs (.slice (some ⟨g2, 0, none⟩) k c2) (.slice (some ⟨g1, 0, none⟩) k c1) ss ts) := hide ((unhide H5).below (bel1 _))
        have gne : Hid (w5.heap.size ≠ C) := hide (by have := (unhide H5).d.lt; omega)
        have v1 : w5.cell? ⟨G, 1, none⟩ = some (.slice (some ⟨g2, 0, none⟩) k c2) := (unhide H5).p.c 1 (by simp)
        have v2 : ∀ o, (w5.alloc o).cell? ⟨G, 1, none⟩ = some (.slice (some ⟨g2, 0, none⟩) k c2) := fun o => ((unhide H5).p.alloc o).c 1 (by simp)
        go_wp2_with fail
        go_region_law ((fail_if_success have := D1); go_simp; go_wp2_with (go_at_call 66; refine (drPickInt (w := w) (a := a) (len := len) (cap := cap) _ 4 4 [-21, -20, 20, 21] _ (by first | exact (unhide DD).d | exact ((unhide DD).below (bel0d 1)).d) (by first | exact unhide RL | exact (unhide RL).below (bel0d 1)) (unhide gne) (by omega)).mono ?_; rintro e u1 ⟨i, hi, rfl, d, gr⟩; have D1 : Hid (Ad w C R G a len cap u1 bs (.slice (some ⟨g2, 0, none⟩) k c2) (.slice (some ⟨g1, 0, none⟩) k c1) ss ts) := hide (Ad.call (by first | exact unhide DD | exact (unhide DD).below (bel0d 1)) gr d); obtain ⟨x, hx⟩ : ∃ x, nth [-21, -20, 20, 21] i = x := ⟨_, rfl⟩; have bx : -2000 ≤ x ∧ x ≤ 2000 := pick_bd hi hx; rw [hx]; have v3 : u1.cell? ⟨G, 1, none⟩ = some (.slice (some ⟨g2, 0, none⟩) k c2) := (unhide D1).p.c 1 (by simp); have hS1 := own_first (unhide D1).oS (unhide HL) hk0; have y0 := hS1.1; have y1 := hS1.2; clear d gr hx hS1))
        all_goals
          have pe0 : u1.cell? ⟨G, 0, none⟩ = some (.int .i64 bs) := (unhide D1).p.c 0 (by simp)
          have pf0 : u1.frozen? ⟨G, 0, none⟩ = false := (unhide D1).p.f 0 (by simp)
          have pe1 : u1.cell? ⟨G, 1, none⟩ = some (.slice (some ⟨g2, 0, none⟩) k c2) := (unhide D1).p.c 1 (by simp)
          have pf1 : u1.frozen? ⟨G, 1, none⟩ = false := (unhide D1).p.f 1 (by simp)
          have pe2 : u1.cell? ⟨G, 2, none⟩ = some (.slice (some ⟨g1, 0, none⟩) k c1) := (unhide D1).p.c 2 (by simp)
          have pf2 : u1.frozen? ⟨G, 2, none⟩ = false := (unhide D1).p.f 2 (by simp)
          have re0 : u1.cell? ⟨R, 0, none⟩ = some (.int .i64 0) := (unhide D1).r.c 0 (by simp)
          have rf0 : u1.frozen? ⟨R, 0, none⟩ = false := (unhide D1).r.f 0 (by simp)
          have re1 : u1.cell? ⟨R, 1, none⟩ = some (.slice none 0 0) := (unhide D1).r.c 1 (by simp)
          have rf1 : u1.frozen? ⟨R, 1, none⟩ = false := (unhide D1).r.f 1 (by simp)
          have re2 : u1.cell? ⟨R, 2, none⟩ = some (.slice none 0 0) := (unhide D1).r.c 2 (by simp)
          have rf2 : u1.frozen? ⟨R, 2, none⟩ = false := (unhide D1).r.f 2 (by simp)
          have H7 := hide ((unhide D1).setS (unhide HL) hk0 x bx)
          go_wp2_with fail
          exact bodyPost_ret (results_cell (vs := [.int .i64 bs, .slice (some ⟨g2, 0, none⟩) k c2, .slice (some ⟨g1, 0, none⟩) k c1]) rfl Try.isAgg43 Try.sizeOf43 rfl (unhide H7).told.1) rfl (unhide H7).told.2
      · have v2 : w5.cell? ⟨G, 2, none⟩ = some (.slice (some ⟨g1, 0, none⟩) k c1) := (unhide H5).p.c 2 (by simp)
        go_wp2_with fail
        go_cut [] from 50 to 57 (fun wc => ∃ (g9 c9 : Nat) (zs : List Int), Ad w C R G a len cap wc bs (.slice (some ⟨g2, 0, none⟩) k c2) (.slice (some ⟨g9, 0, none⟩) (k + 1) c9) ss zs)
        case first =>
          go_region_law (first
            | ((fail_if_success have := D1); go_simp; go_wp2_with (go_at_call 38; refine (drBelow (w := w) (a := a) (len := len) (cap := cap) _ _ (by first | exact (unhide H5).d | exact ((unhide H5).below (bel0d 1)).d) (by omega)).mono ?_; rintro e u1 ⟨y, rfl, hy, d, gr⟩; have D1 : Hid (Ad w C R G a len cap u1 bs (.slice (some ⟨g2, 0, none⟩) k c2) (.slice (some ⟨g1, 0, none⟩) k c1) ss ts) := hide (Ad.call (by first | exact unhide H5 | exact (unhide H5).below (bel0d 1)) gr d); have p1a : u1.cell? ⟨G, 2, none⟩ = some (.slice (some ⟨g1, 0, none⟩) k c1) := (unhide D1).p.c 2 (by simp); have p1b : ∀ o, (u1.alloc o).cell? ⟨G, 2, none⟩ = some (.slice (some ⟨g1, 0, none⟩) k c1) := (fun o => ((unhide D1).p.alloc o).c 2 (by simp)); clear d gr))
            | (refine step_app_int rfl (.tmp 51) (.tmp 55) rfl (n := k) (IntKind.i64.wrap (1000 + y)) (unhide D1).oT (unhide HTL) (by simp [Act.eval]) rfl (by simp [Act.eval]) (by have := (unhide D1).r.lt; omega) (by omega) (by rw [IntKind.wrap_i64]; omega) ?_; intro g9 c9 w9 o9 gr9 at9; have p9 := (unhide D1).p.apart gr9 (fun e => (unhide D1).nT e.symm); have q9 : w9.cell? ⟨G, 2, none⟩ = some (.slice (some ⟨g1, 0, none⟩) k c1) := p9.c 2 (by simp); have f9 : w9.frozen? ⟨G, 2, none⟩ = false := p9.f 2 (by simp)))
          all_goals (
            go_wp2
            go_meet
            case rel => exact ⟨_, _, _, (unhide D1).pushT o9 gr9 at9⟩)
        case rest =>
          obtain ⟨g9, c9, zs, hA⟩ := hcut
          have H6 := hide hA
          obtain ⟨Q, rfl⟩ : ∃ Q, Q = wc := ⟨_, rfl⟩
          have v4 : Q.cell? ⟨G, 1, none⟩ = some (.slice (some ⟨g2, 0, none⟩) k c2) := hA.p.c 1 (by simp)
          clear hA H5 v2
          go_wp2_with (at_builtin; refine wpList_app_intA rfl (.tmp 59) (.tmp 60) rfl 0 (unhide H6).oS (unhide HL) rfl rfl rfl (by have := (unhide H6).r.lt; omega) (by omega) (by omega) ?_; intro g8 c8 w8 o8 gr8 at8; have p9 := (unhide H6).p.apart gr8 (fun e => (unhide H6).nS e.symm); have r9 := (unhide H6).r.apart gr8 (fun e => by have := (unhide H6).oS.lies _ e.symm; omega); have H7 := hide ((unhide H6).pushS o8 gr8 at8); have z0 : w8.cell? ⟨G, 0, none⟩ = some (.int .i64 bs) := p9.c 0 (by simp); have z1 : w8.cell? ⟨G, 1, none⟩ = some (.slice (some ⟨g2, 0, none⟩) k c2) := p9.c 1 (by simp); have z2 : w8.cell? ⟨G, 2, none⟩ = some (.slice (some ⟨g9, 0, none⟩) (k + 1) c9) := p9.c 2 (by simp); have z3 : w8.frozen? ⟨G, 1, none⟩ = false := p9.f 1 (by simp); have y0 : w8.cell? ⟨R, 0, none⟩ = some (.int .i64 0) := r9.c 0 (by simp); have y1 : w8.cell? ⟨R, 1, none⟩ = some (.slice none 0 0) := r9.c 1 (by simp); have y2 : w8.cell? ⟨R, 2, none⟩ = some (.slice none 0 0) := r9.c 2 (by simp); have f0 : w8.frozen? ⟨R, 0, none⟩ = false := r9.f 0 (by simp); have f1 : w8.frozen? ⟨R, 1, none⟩ = false := r9.f 1 (by simp); have f2 : w8.frozen? ⟨R, 2, none⟩ = false := r9.f 2 (by simp))
          exact bodyPost_ret (results_cell (vs := [.int .i64 bs, .slice (some ⟨g8, 0, none⟩) (k + 1) c8, .slice (some ⟨g9, 0, none⟩) (k + 1) c9]) rfl Try.isAgg43 Try.sizeOf43 rfl (unhide H7).told.1) rfl (unhide H7).told.2
      · have hT0 : w5.cell? ⟨g1, 0, none⟩ = some (.int .i64 (nth ts 0)) := by have h := (unhide H5).oT; rw [← unhide HTL] at h hk0; exact (h.here 0 hk0).1
        have fT0 : w5.frozen? ⟨g1, 0, none⟩ = false := by have h := (unhide H5).oT; rw [← unhide HTL] at h hk0; exact (h.here 0 hk0).2
        have pe0 : w5.cell? ⟨G, 0, none⟩ = some (.int .i64 bs) := (unhide H5).p.c 0 (by simp)
        have pf0 : w5.frozen? ⟨G, 0, none⟩ = false := (unhide H5).p.f 0 (by simp)
        have pe1 : w5.cell? ⟨G, 1, none⟩ = some (.slice (some ⟨g2, 0, none⟩) k c2) := (unhide H5).p.c 1 (by simp)
        have pf1 : w5.frozen? ⟨G, 1, none⟩ = false := (unhide H5).p.f 1 (by simp)
        have pe2 : w5.cell? ⟨G, 2, none⟩ = some (.slice (some ⟨g1, 0, none⟩) k c1) := (unhide H5).p.c 2 (by simp)
        have pf2 : w5.frozen? ⟨G, 2, none⟩ = false := (unhide H5).p.f 2 (by simp)
        have re0 : w5.cell? ⟨R, 0, none⟩ = some (.int .i64 0) := (unhide H5).r.c 0 (by simp)
        have rf0 : w5.frozen? ⟨R, 0, none⟩ = false := (unhide H5).r.f 0 (by simp)
        have re1 : w5.cell? ⟨R, 1, none⟩ = some (.slice none 0 0) := (unhide H5).r.c 1 (by simp)
        have rf1 : w5.frozen? ⟨R, 1, none⟩ = false := (unhide H5).r.f 1 (by simp)
        have re2 : w5.cell? ⟨R, 2, none⟩ = some (.slice none 0 0) := (unhide H5).r.c 2 (by simp)
        have rf2 : w5.frozen? ⟨R, 2, none⟩ = false := (unhide H5).r.f 2 (by simp)
        have H7 := hide ((unhide H5).setT (unhide HTL) hk0 0 (by omega))
        go_wp2_with fail
        exact bodyPost_ret (results_cell (vs := [.int .i64 bs, .slice (some ⟨g2, 0, none⟩) k c2, .slice (some ⟨g1, 0, none⟩) k c1]) rfl Try.isAgg43 Try.sizeOf43 rfl (unhide H7).told.1) rfl (unhide H7).told.2
      · have hh := 0
        have pe0 : w5.cell? ⟨G, 0, none⟩ = some (.int .i64 bs) := (unhide H5).p.c 0 (by simp)
        have pf0 : w5.frozen? ⟨G, 0, none⟩ = false := (unhide H5).p.f 0 (by simp)
        have pe1 : w5.cell? ⟨G, 1, none⟩ = some (.slice (some ⟨g2, 0, none⟩) k c2) := (unhide H5).p.c 1 (by simp)
        have pf1 : w5.frozen? ⟨G, 1, none⟩ = false := (unhide H5).p.f 1 (by simp)
        have pe2 : w5.cell? ⟨G, 2, none⟩ = some (.slice (some ⟨g1, 0, none⟩) k c1) := (unhide H5).p.c 2 (by simp)
        have pf2 : w5.frozen? ⟨G, 2, none⟩ = false := (unhide H5).p.f 2 (by simp)
        have re0 : w5.cell? ⟨R, 0, none⟩ = some (.int .i64 0) := (unhide H5).r.c 0 (by simp)
        have rf0 : w5.frozen? ⟨R, 0, none⟩ = false := (unhide H5).r.f 0 (by simp)
        have re1 : w5.cell? ⟨R, 1, none⟩ = some (.slice none 0 0) := (unhide H5).r.c 1 (by simp)
        have rf1 : w5.frozen? ⟨R, 1, none⟩ = false := (unhide H5).r.f 1 (by simp)
        have re2 : w5.cell? ⟨R, 2, none⟩ = some (.slice none 0 0) := (unhide H5).r.c 2 (by simp)
        have rf2 : w5.frozen? ⟨R, 2, none⟩ = false := (unhide H5).r.f 2 (by simp)
        have H7 := hide (unhide H5).clear
        go_wp2_with fail
        exact bodyPost_ret (results_cell (vs := [.int .i64 0, .slice none 0 0, .slice none 0 0]) rfl Try.isAgg43 Try.sizeOf43 rfl (unhide H7).told.1) rfl (unhide H7).told.2
      · have hh := 0
        have t0 : (s == 0) = false := by simp; omega
        have t1 : (s == 1) = false := by simp; omega
        have t2 : (s == 2) = false := by simp; omega
        have t3 : (s == 3) = false := by simp; omega
        have t4 : (s == 4) = false := by simp; omega
        have pe0 : w5.cell? ⟨G, 0, none⟩ = some (.int .i64 bs) := (unhide H5).p.c 0 (by simp)
        have pf0 : w5.frozen? ⟨G, 0, none⟩ = false := (unhide H5).p.f 0 (by simp)
        have pe1 : w5.cell? ⟨G, 1, none⟩ = some (.slice (some ⟨g2, 0, none⟩) k c2) := (unhide H5).p.c 1 (by simp)
        have pf1 : w5.frozen? ⟨G, 1, none⟩ = false := (unhide H5).p.f 1 (by simp)
        have pe2 : w5.cell? ⟨G, 2, none⟩ = some (.slice (some ⟨g1, 0, none⟩) k c1) := (unhide H5).p.c 2 (by simp)
        have pf2 : w5.frozen? ⟨G, 2, none⟩ = false := (unhide H5).p.f 2 (by simp)
        have re0 : w5.cell? ⟨R, 0, none⟩ = some (.int .i64 0) := (unhide H5).r.c 0 (by simp)
        have rf0 : w5.frozen? ⟨R, 0, none⟩ = false := (unhide H5).r.f 0 (by simp)
        have re1 : w5.cell? ⟨R, 1, none⟩ = some (.slice none 0 0) := (unhide H5).r.c 1 (by simp)
        have rf1 : w5.frozen? ⟨R, 1, none⟩ = false := (unhide H5).r.f 1 (by simp)
        have re2 : w5.cell? ⟨R, 2, none⟩ = some (.slice none 0 0) := (unhide H5).r.c 2 (by simp)
        have rf2 : w5.frozen? ⟨R, 2, none⟩ = false := (unhide H5).r.f 2 (by simp)
        go_wp2_with fail
        exact bodyPost_ret (results_cell (vs := [.int .i64 bs, .slice (some ⟨g2, 0, none⟩) k c2, .slice (some ⟨g1, 0, none⟩) k c1]) rfl Try.isAgg43 Try.sizeOf43 rfl (unhide H5).told.1) rfl (unhide H5).told.2

theorem Row.set_far {w : World} {a : Option Addr} {len : Nat} {zs : List Int} (h : Row w a len zs) {p : Addr} (v : Value) (hp : ∀ g off, a = some ⟨g, off, none⟩ → p.block ≠ g) : Row (w.setCell p v) a len zs := by
  refine ⟨h.len_eq, h.small, fun i hi => ?_, h.fit⟩
  obtain ⟨b, off, e, hc⟩ := h.cells i hi
  exact ⟨b, off, e, (World.cell?_setCell_other w _ _ _ (by intro e2; have := hp b off e; rw [e2] at this; exact this rfl)).trans hc⟩
set_option maxHeartbeats 1000000 in
theorem drawAirOk_any (a : Option Addr) (len cap : Nat) (w : World) (hb : Bytes w a len) (hin : ∀ b off, a = some ⟨b, off, none⟩ → b < w.heap.size) :
    Calls Try.prog 18 #[.slice a len cap] w fun e w' => AirDrawn w e w' := by
  obtain ⟨w0, hw0⟩ : ∃ w0, w0 = w.alloc (Obj.cells #[.int .i64 0, .slice none 0 0, .slice none 0 0] 43) := ⟨_, rfl⟩
  have bw0 : Below w.heap.size w w0 := by rw [hw0]; exact bel1 _
  have Z2 : Hid (Blk w0 w.heap.size [.int .i64 0, .slice none 0 0, .slice none 0 0]) := hide (by rw [hw0]; exact Blk.new _ _)
  have sw0 : Hid (w0.heap.size = w.heap.size + 1) := hide (by rw [hw0]; simp)
  have HY := hide (hb.below bw0)
  have HIN : Hid (∀ b off, a = some ⟨b, off, none⟩ → b < w0.heap.size) := hide (fun b off e => Nat.lt_of_lt_of_le (hin b off e) bw0.size)
  have BW0 := hide bw0
  have HW0 := hide hw0
  clear hb hin hw0 bw0
  go_enter Try.func18, Try.ntmps18
  go_wp2_with fail
  rw [← unhide HW0]
  clear HW0
  refine (drNew a len cap w0 (unhide HY) (unhide HIN)).mono ?_
  rintro x w1 ⟨rfl, d, _⟩
  go_wp2_with fail
  refine (l1DrawAir_any _ d (unhide HIN)).mono ?_
  rintro x w2 ⟨b, a1, a2, l1, c1, l2, c2, ss, ts, rfl, r1, r2, ⟨q1, q2⟩, b2⟩
  have Z := (unhide Z2).below b2
  have z0 : w2.cell? ⟨w.heap.size, 0, none⟩ = some (.int .i64 0) := Z.c 0 (by simp)
  have z1 : w2.cell? ⟨w.heap.size, 1, none⟩ = some (.slice none 0 0) := Z.c 1 (by simp)
  have z2 : w2.cell? ⟨w.heap.size, 2, none⟩ = some (.slice none 0 0) := Z.c 2 (by simp)
  have f0 : w2.frozen? ⟨w.heap.size, 0, none⟩ = false := Z.f 0 (by simp)
  have f1 : w2.frozen? ⟨w.heap.size, 1, none⟩ = false := Z.f 1 (by simp)
  have f2 : w2.frozen? ⟨w.heap.size, 2, none⟩ = false := Z.f 2 (by simp)
  have KR := hide (((Z.set 0 (by simp) (.int .i64 b)).set 1 (by simp) (.slice a1 l1 c1)).set 2 (by simp) (.slice a2 l2 c2))
  have R1 := hide r1
  have R2 := hide r2
  have Q1 := hide q1
  have Q2 := hide q2
  have B2 := hide b2
  clear r1 r2 q1 q2 b2 Z d HY HIN
  go_wp2_with fail
  have e0 := unhide sw0
  have far : ∀ o g, w0.heap.size ≤ g → (⟨w.heap.size, o, none⟩ : Addr).block ≠ g := fun o g h e => by simp at e; omega
  refine bodyPost_ret (results_cell (vs := [.int .i64 b, .slice a1 l1 c1, .slice a2 l2 c2]) rfl Try.isAgg43 Try.sizeOf43 rfl (by simpa using unhide KR)) rfl ⟨b, a1, a2, l1, c1, l2, c2, ss, ts, rfl, ?_, ?_, ⟨fun g off e => by have := (unhide Q1) g off e; omega, fun g off e => by have := (unhide Q2) g off e; omega⟩, ?_⟩
  · exact (((unhide R1).set_far _ (fun g off e => far _ g ((unhide Q1) g off e))).set_far _ (fun g off e => far _ g ((unhide Q1) g off e))).set_far _ (fun g off e => far _ g ((unhide Q1) g off e))
  · exact (((unhide R2).set_far _ (fun g off e => far _ g ((unhide Q2) g off e))).set_far _ (fun g off e => far _ g ((unhide Q2) g off e))).set_far _ (fun g off e => far _ g ((unhide Q2) g off e))
  · exact ((((unhide BW0).trans ((unhide B2).mono (unhide BW0).size)).setCell (Nat.le_refl _) _).setCell (Nat.le_refl _) _).setCell (Nat.le_refl _) _

end Go.Proofs.Ytbaocifpifbldaa

/-
  The law FnTables returns true at every list of bytes and writes nothing that was there: the walk. No condition.
-/
import Derived.Test.YtikhfacgoglcfaaTbCu
import Derived.Test.YtikhfacgoglcfaaTbFact
import Derived.Test.YtikhfacgoglcfaaFindImpl
import Derived.Deep.CutRange
import Derived.Deep.RegionLaw
namespace Go.Proofs.Ytikhfacgoglcfaa
open Go Go.RowKit

/-- What the law's walk knows of a world: the curve's box, its lists, and that nothing that was there has turned. -/
structure Tq (w : World) (G gx gy n c1 c2 : Nat) (xs ys : List Int) (W : World) : Prop where
  z : Blk W G [.slice (some ⟨gx, 0, none⟩) n c1, .slice (some ⟨gy, 0, none⟩) n c2]
  rx : Row W (some ⟨gx, 0, none⟩) n xs
  ry : Row W (some ⟨gy, 0, none⟩) n ys
  bel : Below w.heap.size w W
theorem Tq.below {w : World} {G gx gy n c1 c2 : Nat} {xs ys : List Int} {W W' : World} (h : Tq w G gx gy n c1 c2 xs ys W) (k : Below W.heap.size W W') : Tq w G gx gy n c1 c2 xs ys W' :=
  ⟨h.z.below k, h.rx.below k, h.ry.below k, h.bel.trans (k.mono h.bel.size)⟩
theorem row_at {W : World} {g n k : Nat} {xs : List Int} {x : Int} (h : Row W (some ⟨g, 0, none⟩) n xs) (e : nth xs k = x) (hk : k < n) : W.cell? ⟨g, k, none⟩ = some (.int .i64 x) := by
  obtain ⟨b, o, ea, hc⟩ := h.cells k hk
  simp only [Option.some.injEq, Addr.mk.injEq, and_true] at ea
  obtain ⟨rfl, rfl⟩ := ea
  rw [← e]
  simpa using hc
theorem Tq.atX {w : World} {G gx gy n c1 c2 : Nat} {xs ys : List Int} {W : World} {k : Nat} {x : Int} (h : Tq w G gx gy n c1 c2 xs ys W) (e : nth xs k = x) (hk : k < n) : W.cell? ⟨gx, k, none⟩ = some (.int .i64 x) := row_at h.rx e hk
theorem Tq.atY {w : World} {G gx gy n c1 c2 : Nat} {xs ys : List Int} {W : World} {k : Nat} {x : Int} (h : Tq w G gx gy n c1 c2 xs ys W) (e : nth ys k = x) (hk : k < n) : W.cell? ⟨gy, k, none⟩ = some (.int .i64 x) := row_at h.ry e hk
theorem tbNew {V w3 : World} {u0 u1 : Value} {T : TypeId} (b3 : Below (V.alloc (Obj.cells #[u0, u1] T)).heap.size (V.alloc (Obj.cells #[u0, u1] T)) w3) : w3.cell? ⟨V.heap.size, 0, none⟩ = some u0 ∧ w3.cell? ⟨V.heap.size, 1, none⟩ = some u1 ∧ w3.frozen? ⟨V.heap.size, 0, none⟩ = false ∧ w3.frozen? ⟨V.heap.size, 1, none⟩ = false ∧ V.heap.size < w3.heap.size := by
  have hl : V.heap.size < (V.alloc (Obj.cells #[u0, u1] T)).heap.size := by simp
  exact ⟨(b3.cell (p := ⟨V.heap.size, 0, none⟩) hl).trans (by simp [go_sem]), (b3.cell (p := ⟨V.heap.size, 1, none⟩) hl).trans (by simp [go_sem]), (b3.frozen (p := ⟨V.heap.size, 0, none⟩) hl).trans (by simp [go_sem]), (b3.frozen (p := ⟨V.heap.size, 1, none⟩) hl).trans (by simp [go_sem]), Nat.lt_of_lt_of_le hl b3.size⟩
theorem tbNewD {V w3 : World} {u0 u1 : Value} {T : TypeId} (b3 : Below (V.alloc (Obj.cells #[u0, u1] T)).drew.heap.size (V.alloc (Obj.cells #[u0, u1] T)).drew w3) : w3.cell? ⟨V.heap.size, 0, none⟩ = some u0 ∧ w3.cell? ⟨V.heap.size, 1, none⟩ = some u1 ∧ w3.frozen? ⟨V.heap.size, 0, none⟩ = false ∧ w3.frozen? ⟨V.heap.size, 1, none⟩ = false ∧ V.heap.size < w3.heap.size :=
  tbNew (T := T) ((bel0d' 1).trans b3)
theorem row_some {W : World} {a : Option Addr} {n : Nat} {xs : List Int} (h : Row W a n xs) (hn : 0 < n) : ∃ g o, a = some ⟨g, o, none⟩ := by
  obtain ⟨b, o, ea, _⟩ := h.cells 0 hn
  exact ⟨b, o, ea⟩

set_option maxRecDepth 20000 in
set_option maxHeartbeats 1000000 in
theorem lawFnTables_big (a : Option Addr) (len cap : Nat) (w : World) (h : (1048576 : Int) < len) :
    Calls Try.prog 3 #[.slice a len cap] w fun e w' => e = .returned (.bool true) ∧ Below w.heap.size w w' := by
  have hd : decide ((1048576 : Int) < len) = true := by simpa using h
  clear h
  go_enter Try.func3, Try.ntmps3
  go_wp2_with fail
  refine (big_any a len cap _).mono ?_
  rintro e w' ⟨rfl, hw⟩
  subst w'
  rw [hd]
  go_wp2
  go_ret
  exact ⟨rfl, Below.refl _ _⟩

set_option maxRecDepth 20000 in
set_option maxHeartbeats 16000000 in
theorem lawFnTables_small (a : Option Addr) (len cap : Nat) (w : World) (h : ¬ (1048576 : Int) < len) (hb : Bytes w a len) (hin : ∀ b off, a = some ⟨b, off, none⟩ → b < w.heap.size) :
    Calls Try.prog 3 #[.slice a len cap] w fun e w' => e = .returned (.bool true) ∧ Below w.heap.size w w' := by
  have hd0 : decide ((1048576 : Int) < len) = false := by simpa using h
  have DRA := hide (drawCurve_any a len cap w hb hin)
  clear hb h hin
  go_enter Try.func3, Try.ntmps3
  go_wp2_with fail
  refine (big_any a len cap _).mono ?_
  rintro e w' ⟨rfl, hw⟩
  subst w'
  rw [hd0]
  go_wp2_with fail
  refine (unhide DRA).mono ?_
  rintro e B ⟨gx, gy, n, c1, c2, xs, ys, x, rfl, rx, ry, hc1, hc2, hc, hx, b1⟩
  have F := curveB_facts hc
  have hxl := rx.len_eq
  have hyl := ry.len_eq
  have hm := F.many
  obtain ⟨G, hG⟩ : ∃ G, B.heap.size = G := ⟨_, rfl⟩
  obtain ⟨V, hV⟩ : ∃ V, V = B.alloc (Obj.cells #[.slice (some ⟨gx, 0, none⟩) n c1, .slice (some ⟨gy, 0, none⟩) n c2] 26) := ⟨_, rfl⟩
  have bv : Below B.heap.size B V := by rw [hV]; exact bel1 _
  have KV : Hid (Tq w G gx gy n c1 c2 xs ys V) := hide ⟨by rw [hV, ← hG]; exact Blk.new _ _, rx.below bv, ry.below bv, b1.trans (bv.mono b1.size)⟩
  obtain ⟨hfl, hd1, hd2⟩ := tb_den F hc hx.1 (by rw [hxl]; exact hx.2)
  obtain ⟨N, hN⟩ : ∃ N, atN xs ys x = N := ⟨_, rfl⟩
  obtain ⟨D, hD⟩ : ∃ D, atD xs ys x = D := ⟨_, rfl⟩
  rw [hD] at hd1 hd2
  have HXL := hide hxl
  have HYL := hide hyl
  have HND : Hid (atN xs ys x = N ∧ atD xs ys x = D) := hide ⟨hN, hD⟩
  have HFL := hide hfl
  have HF := hide F
  have HC := hide hc
  have HV := hide hV
  have HG := hide hG
  have hnb : 2 ≤ n ∧ n ≤ 20 := by omega
  have hn0 : (0 : Int) < (n : Int) := by omega
  have hn20 : (n : Int) ≤ 20 := by omega
  have hDI : ¬ D < 1 := by omega
  clear DRA rx ry b1 bv hV hG hN hD hxl hyl hm hx hfl F hc
  go_wp2_with fail
  rw [← unhide HV, unhide HG]
  clear HV HG
  refine (implAt_any _ _ n c1 n c2 xs ys x V (unhide KV).rx (unhide KV).ry hc1 hc2).mono ?_
  rintro e w3 ⟨rfl, b3⟩
  rw [unhide HFL, (unhide HND).1, (unhide HND).2]
  obtain ⟨S, hS⟩ : ∃ S, w3.heap.size = S := ⟨_, rfl⟩
  obtain ⟨V3, hV3⟩ : ∃ V, V = w3.alloc (Obj.cells #[.int .i64 N, .int .i64 D] 30) := ⟨_, rfl⟩
  have b4 : Below w3.heap.size w3 V3 := by rw [hV3]; exact bel1 _
  have K3 := hide (((unhide KV).below b3).below b4)
  have N3 : Hid (Blk V3 S [.int .i64 N, .int .i64 D]) := hide (by rw [hV3, ← hS]; exact Blk.new _ _)
  have HV3 := hide hV3
  have HS := hide hS
  clear b3 b4 hV3 hS KV
  go_upto_region 5 with fail
  rw [← unhide HV3, unhide HS]
  clear HV3 HS
  have z0 : V3.cell? ⟨G, 0, none⟩ = some (.slice (some ⟨gx, 0, none⟩) n c1) := ((unhide K3).z).c 0 (by simp)
  have z1 : V3.cell? ⟨G, 1, none⟩ = some (.slice (some ⟨gy, 0, none⟩) n c2) := ((unhide K3).z).c 1 (by simp)
  have v0 : V3.cell? ⟨S, 0, none⟩ = some (.int .i64 N) := (unhide N3).c 0 (by simp)
  have v1 : V3.cell? ⟨S, 1, none⟩ = some (.int .i64 D) := (unhide N3).c 1 (by simp)
  go_wp2_with fail
  refine (implCurveOk_is _ _ n c1 n c2 xs ys V3 (unhide HC) (unhide K3).rx (unhide K3).ry).mono ?_
  rintro e w4 ⟨rfl, b4⟩
  have K4 := hide ((unhide K3).below b4)
  have N4 := hide ((unhide N3).below b4)
  clear b4 z0 z1 v0 v1 K3 N3
  have v0 : w4.cell? ⟨S, 0, none⟩ = some (.int .i64 N) := (unhide N4).c 0 (by simp)
  have v1 : w4.cell? ⟨S, 1, none⟩ = some (.int .i64 D) := (unhide N4).c 1 (by simp)
  go_wp2_with fail
  clear v0 v1
  go_loopw [7] (fun i wr => ∃ k : Nat, i = .int .i64 (k : Int) ∧ k ≤ n ∧ Hid (Tq w G gx gy n c1 c2 xs ys wr) ∧ Hid (Blk wr S [.int .i64 N, .int .i64 D])) (fun i _ => n - (intOf i).toNat)
  case atStart => exact ⟨0, rfl, Nat.zero_le _, K4, N4⟩
  case round =>
    clear K4 N4
    obtain ⟨k, rfl, hk, KW, VW⟩ := hrel
    have z0 : wr.cell? ⟨G, 0, none⟩ = some (.slice (some ⟨gx, 0, none⟩) n c1) := ((unhide KW).z).c 0 (by simp)
    have z1 : wr.cell? ⟨G, 1, none⟩ = some (.slice (some ⟨gy, 0, none⟩) n c2) := ((unhide KW).z).c 1 (by simp)
    by_cases hlt : k < n
    · have hlt2 : (k : Int) < (n : Int) := by omega
      have hkI : (0 : Int) ≤ (k : Int) := by omega
      have hkn : k < n := hlt
      obtain ⟨xi, hxi⟩ : ∃ x, nth xs k = x := ⟨_, rfl⟩
      obtain ⟨yi, hyi⟩ : ∃ x, nth ys k = x := ⟨_, rfl⟩
      have xk : wr.cell? ⟨gx, k, none⟩ = some (.int .i64 xi) := (unhide KW).atX hxi hkn
      have AT : Hid (∀ W, Below wr.heap.size wr W → Calls Try.prog 6 #[.agg #[.slice (some ⟨gx, 0, none⟩) n c1, .slice (some ⟨gy, 0, none⟩) n c2], .int .i64 xi] W fun e w' => e = .returned (.tuple #[.agg #[.int .i64 yi, .int .i64 1], .bool true]) ∧ Below W.heap.size W w' ∧ Below wr.heap.size wr w') := hide (fun W bW => by
        have h := implAt_any (some ⟨gx, 0, none⟩) (some ⟨gy, 0, none⟩) n c1 n c2 xs ys xi W ((unhide KW).rx.below bW) ((unhide KW).ry.below bW) hc1 hc2
        obtain ⟨f1, f2, f3⟩ := tb_node (unhide HF) (unhide HC) (i := k) (by rw [unhide HXL]; exact hkn)
        rw [hxi] at f1 f2 f3
        rw [f1, f2, f3, hyi] at h
        exact h.mono fun e w' ⟨he, b⟩ => ⟨he, b, bW.trans (b.mono bW.size)⟩)
      have HXI := hide hxi
      have HYI := hide hyi
      clear hxi hyi
      have z0a : ∀ o, (wr.alloc o).cell? ⟨G, 0, none⟩ = some (.slice (some ⟨gx, 0, none⟩) n c1) := fun o => (World.cell?_alloc_past _ _ _ (block_lt_of_cell z0)).trans z0
      have z1a : ∀ o, (wr.alloc o).cell? ⟨G, 1, none⟩ = some (.slice (some ⟨gy, 0, none⟩) n c2) := fun o => (World.cell?_alloc_past _ _ _ (block_lt_of_cell z1)).trans z1
      have xka : ∀ o, (wr.alloc o).cell? ⟨gx, k, none⟩ = some (.int .i64 xi) := fun o => (World.cell?_alloc_past _ _ _ (block_lt_of_cell xk)).trans xk
      go_upto_region 10 with fail
      go_cut [8, 9] from 52 to 61 (fun p f wc => ∃ Q, p = .pointer (some ⟨Q, 0, none⟩) ∧ f = .bool true ∧ wc.cell? ⟨Q, 0, none⟩ = some (.int .i64 yi) ∧ wc.cell? ⟨Q, 1, none⟩ = some (.int .i64 1) ∧ Below wr.heap.size wr wc)
      case first =>
        go_region_law ((go_simp; go_wp2_with (go_at_call 6; refine (unhide AT _ (by repeat (first | exact Below.refl _ _ | refine Below.alloc ?_ (by simp) _ | refine Below.trans ?_ (bel0d' _) | refine Below.drew ?_))).mono ?_; rintro e w5 ⟨rfl, b5, bb5⟩; have z5 := bb5.size; (first | (have hs := tbNew b5; obtain ⟨s0, s1, g0, g1, ls⟩ := hs) | (have hs := tbNewD b5; obtain ⟨s0, s1, g0, g1, ls⟩ := hs) | skip))))
        all_goals
          go_wp2_with fail
          go_meet
          case rel => exact ⟨_, rfl, rfl, by simp [go_sem, *], by simp [go_sem, *], by repeat (first | exact bb5 | refine Below.setCell ?_ (by first | omega | (simp; omega) | (simp; done)) _ | refine Below.alloc ?_ (by first | omega | (simp; omega) | (simp; done)) _ | refine Below.trans ?_ (bel0d' _))⟩
      case rest =>
        obtain ⟨Q, rfl, rfl, d0, d1, hbc⟩ := hcut
        have KC := hide ((unhide KW).below hbc)
        have VC := hide ((unhide VW).below hbc)
        clear hbc z0 z1 xk z0a z1a xka KW VW AT
        have z0 : wc.cell? ⟨G, 0, none⟩ = some (.slice (some ⟨gx, 0, none⟩) n c1) := ((unhide KC).z).c 0 (by simp)
        have z1 : wc.cell? ⟨G, 1, none⟩ = some (.slice (some ⟨gy, 0, none⟩) n c2) := ((unhide KC).z).c 1 (by simp)
        have yk : wc.cell? ⟨gy, k, none⟩ = some (.int .i64 yi) := (unhide KC).atY (unhide HYI) hkn
        have hyy : (yi != yi) = false := by simp
        have h11 : ((1 : Int) != 1) = false := by simp
        have xk : wc.cell? ⟨gx, k, none⟩ = some (.int .i64 xi) := (unhide KC).atX (unhide HXI) hkn
        have HFF := HF
        have HCC := HC
        go_upto_region 11 with fail
        go_quiet (fail)
        obtain ⟨U, hU⟩ : ∃ U, U = wc.drewN nq := ⟨_, rfl⟩
        have bU : Below wc.heap.size wc U := by rw [hU]; exact bel0d nq
        have KU := hide ((unhide KC).below bU)
        have VU := hide ((unhide VC).below bU)
        rw [← hU]
        clear hU bU d0 d1 z0 z1 yk xk
        have z0 : U.cell? ⟨G, 0, none⟩ = some (.slice (some ⟨gx, 0, none⟩) n c1) := ((unhide KU).z).c 0 (by simp)
        have z1 : U.cell? ⟨G, 1, none⟩ = some (.slice (some ⟨gy, 0, none⟩) n c2) := ((unhide KU).z).c 1 (by simp)
        have xk : U.cell? ⟨gx, k, none⟩ = some (.int .i64 xi) := (unhide KU).atX (unhide HXI) hkn
        have yk : U.cell? ⟨gy, k, none⟩ = some (.int .i64 yi) := (unhide KU).atY (unhide HYI) hkn
        have v0 : U.cell? ⟨S, 0, none⟩ = some (.int .i64 N) := (unhide VU).c 0 (by simp)
        have v1 : U.cell? ⟨S, 1, none⟩ = some (.int .i64 D) := (unhide VU).c 1 (by simp)
        by_cases hk0 : k = 0
        · subst hk0
          go_wp2_with fail
          go_roundw
          case rel => exact ⟨0 + 1, by go_num, by omega, KU, VU⟩
          case measure => simp [intOf]; omega
        · obtain ⟨p, hp⟩ : ∃ p, k = p + 1 := ⟨k - 1, by omega⟩
          have hkp : (0 : Int) < (k : Int) := by omega
          have hsub : (k : Int) - 1 = (p : Int) := by omega
          have hwp : IntKind.i64.wrap (p : Int) = (p : Int) := by rw [IntKind.wrap_i64]; omega
          have hp0 : (0 : Int) ≤ (p : Int) := by omega
          have hpn : (p : Int) < (n : Int) := by omega
          obtain ⟨xp, hxp⟩ : ∃ x, nth xs p = x := ⟨_, rfl⟩
          obtain ⟨yp, hyp⟩ : ∃ x, nth ys p = x := ⟨_, rfl⟩
          have xpc : U.cell? ⟨gx, p, none⟩ = some (.int .i64 xp) := (unhide KU).atX hxp (by omega)
          have ypc : U.cell? ⟨gy, p, none⟩ = some (.int .i64 yp) := (unhide KU).atY hyp (by omega)
          have HXP := hide hxp
          have HYP := hide hyp
          have HKP := hide hp
          clear hxp hyp hp
          by_cases q1 : xp ≤ x
          · by_cases q2 : x ≤ xi
            · have hbt := tb_between (unhide HFF) (unhide HCC) (x := x) (i := p) (by have := unhide HKP; have := unhide HXL; omega) (by rw [unhide HXP]; exact q1) (by rw [← unhide HKP, unhide HXI]; exact q2)
              rw [(unhide HND).1, (unhide HND).2, unhide HYP, ← unhide HKP, unhide HYI] at hbt
              have byp := (unhide HFF).yb p (by have := unhide HYL; omega)
              have byi := (unhide HFF).yb k (by have := unhide HYL; omega)
              rw [unhide HYP] at byp
              rw [unhide HYI] at byi
              have m1 := mulBd (s := yp) (d := D) (A := 100000) (B := 200000) (by omega) (by omega) (by omega) (by omega) (by omega) (by omega)
              have m2 := mulBd (s := yi) (d := D) (A := 100000) (B := 200000) (by omega) (by omega) (by omega) (by omega) (by omega) (by omega)
              have e1 : IntKind.i64.wrap (yp * D) = yp * D := by rw [IntKind.wrap_i64]; omega
              have e2 : IntKind.i64.wrap (yi * D) = yi * D := by rw [IntKind.wrap_i64]; omega
              clear m1 m2 byp byi
              by_cases q3 : yi < yp
              · have hb1 : yi * D ≤ N := by have := hbt.1; rw [Int.min_eq_right (by omega)] at this; exact this
                have hb2 : N ≤ yp * D := by have := hbt.2; rw [Int.max_eq_left (by omega)] at this; exact this
                have t1 : ¬ N < yi * D := by omega
                have t2 : ¬ yp * D < N := by omega
                clear hbt hb1 hb2
                go_upto_region 14 with fail
                go_quiet (fail)
                go_wp2_with fail
                go_roundw
                case rel => exact ⟨k + 1, by go_num, by omega, hide ((unhide KU).below (bel0d _)), hide ((unhide VU).below (bel0d _))⟩
                case measure => simp [intOf]; omega
              · have hb1 : yp * D ≤ N := by have := hbt.1; rw [Int.min_eq_left (by omega)] at this; exact this
                have hb2 : N ≤ yi * D := by have := hbt.2; rw [Int.max_eq_right (by omega)] at this; exact this
                have t1 : ¬ N < yp * D := by omega
                have t2 : ¬ yi * D < N := by omega
                clear hbt hb1 hb2
                go_upto_region 14 with fail
                go_quiet (fail)
                go_wp2_with fail
                go_roundw
                case rel => exact ⟨k + 1, by go_num, by omega, hide ((unhide KU).below (bel0d _)), hide ((unhide VU).below (bel0d _))⟩
                case measure => simp [intOf]; omega
            · go_wp2_with fail
              go_roundw
              case rel => exact ⟨k + 1, by go_num, by omega, KU, VU⟩
              case measure => simp [intOf]; omega
          · go_wp2_with fail
            go_roundw
            case rel => exact ⟨k + 1, by go_num, by omega, KU, VU⟩
            case measure => simp [intOf]; omega
    · obtain rfl : n = k := by omega
      have hlt2 : ¬ (n : Int) < (n : Int) := by omega
      clear hlt hk
      obtain ⟨W8, hW8⟩ : ∃ W, W = wr := ⟨_, rfl⟩
      have K8 := KW
      have N8 := VW
      obtain ⟨A, hA⟩ : ∃ A, nth xs 0 = A := ⟨_, rfl⟩
      obtain ⟨Y0, hY0⟩ : ∃ A, nth ys 0 = A := ⟨_, rfl⟩
      have hAb := (unhide HF).xb 0 (by rw [unhide HXL]; omega)
      rw [hA] at hAb
      have xk : wr.cell? ⟨gx, 0, none⟩ = some (.int .i64 A) := (unhide KW).atX hA (by omega)
      have AT : Hid (∀ W, Below wr.heap.size wr W → Calls Try.prog 8 #[.agg #[.slice (some ⟨gx, 0, none⟩) n c1, .slice (some ⟨gy, 0, none⟩) n c2], .int .i64 (A - 5)] W fun e w' => e = .returned (.tuple #[.agg #[.int .i64 Y0, .int .i64 1], .bool true]) ∧ Below W.heap.size W w' ∧ Below wr.heap.size wr w') := hide (fun W bW => by
        have h := implHeld_any (some ⟨gx, 0, none⟩) (some ⟨gy, 0, none⟩) n c1 n c2 xs ys (A - 5) W ((unhide KW).rx.below bW) ((unhide KW).ry.below bW) hc1 hc2
        obtain ⟨f1, f2, f3⟩ := tb_node (unhide HF) (unhide HC) (i := 0) (by rw [unhide HXL]; omega)
        have hh : heldX xs (A - 5) = nth xs 0 := by
          have := tb_up (unhide HF) (a := 0) (b := xs.length - 1) (by omega) (by have := unhide HXL; omega)
          unfold heldX; rw [hA] at this ⊢; omega
        rw [hh, f1, f2, f3, hY0] at h
        exact h.mono fun e w' ⟨he, b⟩ => ⟨he, b, bW.trans (b.mono bW.size)⟩)
      have HA := hide hA
      have HY0 := hide hY0
      have wA : IntKind.i64.wrap (A - 5) = A - 5 := by rw [IntKind.wrap_i64]; omega
      have hn0n : 0 < n := by omega
      clear hA hY0 hW8
      have z0a : ∀ o, (wr.alloc o).cell? ⟨G, 0, none⟩ = some (.slice (some ⟨gx, 0, none⟩) n c1) := fun o => (World.cell?_alloc_past _ _ _ (block_lt_of_cell z0)).trans z0
      have z1a : ∀ o, (wr.alloc o).cell? ⟨G, 1, none⟩ = some (.slice (some ⟨gy, 0, none⟩) n c2) := fun o => (World.cell?_alloc_past _ _ _ (block_lt_of_cell z1)).trans z1
      have xka : ∀ o, (wr.alloc o).cell? ⟨gx, 0, none⟩ = some (.int .i64 A) := fun o => (World.cell?_alloc_past _ _ _ (block_lt_of_cell xk)).trans xk
      go_upto_region 19 with fail
      go_cut [12, 13] from 20 to 141 (fun p f wc => ∃ Q, p = .pointer (some ⟨Q, 0, none⟩) ∧ f = .bool true ∧ wc.cell? ⟨Q, 0, none⟩ = some (.int .i64 Y0) ∧ wc.cell? ⟨Q, 1, none⟩ = some (.int .i64 1) ∧ Below wr.heap.size wr wc)
      case first =>
        go_region_law ((go_simp; go_wp2_with (go_at_call 8; refine (unhide AT _ (by repeat (first | exact Below.refl _ _ | refine Below.alloc ?_ (by simp) _ | refine Below.trans ?_ (bel0d' _) | refine Below.drew ?_))).mono ?_; rintro e w5 ⟨rfl, b5, bb5⟩; have z5 := bb5.size; (first | (have hs := tbNew b5; obtain ⟨s0, s1, g0, g1, ls⟩ := hs) | (have hs := tbNewD b5; obtain ⟨s0, s1, g0, g1, ls⟩ := hs) | skip))))
        all_goals
          go_wp2_with fail
          go_meet
          case rel => exact ⟨_, rfl, rfl, by simp [go_sem, *], by simp [go_sem, *], by repeat (first | exact bb5 | refine Below.setCell ?_ (by first | omega | (simp; omega) | (simp; done)) _ | refine Below.alloc ?_ (by first | omega | (simp; omega) | (simp; done)) _ | refine Below.trans ?_ (bel0d' _))⟩
      case rest =>
        obtain ⟨Q, rfl, rfl, d0, d1, hbc⟩ := hcut
        have KC := hide ((unhide K8).below hbc)
        clear hbc z0 z1 xk z0a z1a xka KW VW AT K8 N8
        have z0 : wc.cell? ⟨G, 0, none⟩ = some (.slice (some ⟨gx, 0, none⟩) n c1) := ((unhide KC).z).c 0 (by simp)
        have z1 : wc.cell? ⟨G, 1, none⟩ = some (.slice (some ⟨gy, 0, none⟩) n c2) := ((unhide KC).z).c 1 (by simp)
        have yk : wc.cell? ⟨gy, 0, none⟩ = some (.int .i64 Y0) := (unhide KC).atY (unhide HY0) hn0n
        have hyy : (Y0 != Y0) = false := by simp
        have h11 : ((1 : Int) != 1) = false := by simp
        go_upto_region 20 with fail
        go_quiet (fail)
        obtain ⟨U, hU⟩ : ∃ U, U = wc.drewN nq := ⟨_, rfl⟩
        have bU : Below wc.heap.size wc U := by rw [hU]; exact bel0d nq
        have KU := hide ((unhide KC).below bU)
        rw [← hU]
        clear hU bU d0 d1 z0 z1 yk KC
        obtain ⟨h, hh⟩ : ∃ h : Nat, n / 2 = h := ⟨_, rfl⟩
        have hhI : (n : Int) / 2 = (h : Int) := by omega
        have hh0 : (0 : Int) ≤ (h : Int) := by omega
        have hhn : (h : Int) < (n : Int) := by omega
        have hhN : h < n := by omega
        have hhw : IntKind.i64.wrap (h : Int) = (h : Int) := by rw [IntKind.wrap_i64]; omega
        obtain ⟨Y, hY⟩ : ∃ A, nth ys h = A := ⟨_, rfl⟩
        obtain ⟨f1, ⟨f2, f3⟩, f4, f5⟩ := tb_find (unhide HF) (unhide HC) (m := h) (by rw [unhide HXL]; exact hhN)
        rw [hY] at f1 f2 f3 f4 f5
        obtain ⟨K, hK⟩ : ∃ K, findA xs ys Y = K := ⟨_, rfl⟩
        rw [hK] at f2 f3 f4 f5
        obtain ⟨g1, g2, g3⟩ := tb_den (unhide HF) (unhide HC) f2 f3
        obtain ⟨N2, hN2⟩ : ∃ N, atN xs ys K = N := ⟨_, rfl⟩
        obtain ⟨D2, hD2⟩ : ∃ N, atD xs ys K = N := ⟨_, rfl⟩
        obtain ⟨N3, hN3⟩ : ∃ N, atN xs ys (K - 1) = N := ⟨_, rfl⟩
        obtain ⟨D3, hD3⟩ : ∃ N, atD xs ys (K - 1) = N := ⟨_, rfl⟩
        have hYb := (unhide HF).yb h (by rw [unhide HYL]; exact hhN)
        rw [hY] at hYb
        have kb0 := (unhide HF).xb 0 (by rw [unhide HXL]; omega)
        have kb1 := (unhide HF).xb (xs.length - 1) (by rw [unhide HXL]; omega)
        have hKb : -100000 ≤ K ∧ K ≤ 100000 := by omega
        rw [hN2, hD2] at f4
        rw [hD2] at g2 g3
        have m1 := mulBd (s := Y) (d := D2) (A := 100000) (B := 200000) (by omega) (by omega) (by omega) (by omega) (by omega) (by omega)
        have e1 : IntKind.i64.wrap (Y * D2) = Y * D2 := by rw [IntKind.wrap_i64]; omega
        have e3 : IntKind.i64.wrap (K - 1) = K - 1 := by rw [IntKind.wrap_i64]; omega
        have HFK : Hid (findB xs ys Y = true ∧ findA xs ys Y = K) := hide ⟨f1, hK⟩
        have H2 : Hid (atN xs ys K = N2 ∧ atD xs ys K = D2 ∧ atFlag xs ys K = true) := hide ⟨hN2, hD2, g1⟩
        have H3 : Hid (atN xs ys (K - 1) = N3 ∧ atD xs ys (K - 1) = D3) := hide ⟨hN3, hD3⟩
        have HIN : Hid (atFlag xs ys (K - 1) = false ∨ (atFlag xs ys (K - 1) = true ∧ N3 < Y * D3 ∧ IntKind.i64.wrap (Y * D3) = Y * D3)) := hide (by
          rcases f5 with f5 | ⟨⟨f6, f7⟩, f8⟩
          · exact .inl f5
          · obtain ⟨q1, q2, q3⟩ := tb_den (unhide HF) (unhide HC) f6 f7
            rw [hD3] at q2 q3 f8
            rw [hN3] at f8
            have m2 := mulBd (s := Y) (d := D3) (A := 100000) (B := 200000) (by omega) (by omega) (by omega) (by omega) (by omega) (by omega)
            exact .inr ⟨q1, f8, by rw [IntKind.wrap_i64]; omega⟩)
        have HYh := hide hY
        clear f1 f2 f3 f5 hK g1 hN2 hD2 hN3 hD3 m1 kb0 kb1 hh hY
        have FI : Hid (∀ W, Below U.heap.size U W → Calls Try.prog 9 #[.agg #[.slice (some ⟨gx, 0, none⟩) n c1, .slice (some ⟨gy, 0, none⟩) n c2], .int .i64 Y] W fun e w' => e = .returned (.tuple #[.int .i64 K, .bool true]) ∧ Below W.heap.size W w' ∧ Below U.heap.size U w') := hide (fun W bW => by
          have h := implFind_any (some ⟨gx, 0, none⟩) (some ⟨gy, 0, none⟩) n c1 n c2 xs ys Y W ((unhide KU).rx.below bW) ((unhide KU).ry.below bW) hc1 hc2
          rw [(unhide HFK).1, (unhide HFK).2] at h
          exact h.mono fun e w' ⟨he, b⟩ => ⟨he, b, bW.trans (b.mono bW.size)⟩)
        have z0 : U.cell? ⟨G, 0, none⟩ = some (.slice (some ⟨gx, 0, none⟩) n c1) := ((unhide KU).z).c 0 (by simp)
        have z1 : U.cell? ⟨G, 1, none⟩ = some (.slice (some ⟨gy, 0, none⟩) n c2) := ((unhide KU).z).c 1 (by simp)
        have yk : U.cell? ⟨gy, h, none⟩ = some (.int .i64 Y) := (unhide KU).atY (unhide HYh) hhN
        go_upto_region 22 with fail
        go_cut [14, 15] from 20 to 166 (fun p f wd => p = .int .i64 K ∧ f = .bool true ∧ Below U.heap.size U wd)
        case first =>
          go_region_law ((go_simp; go_wp2_with (go_at_call 9; refine (unhide FI _ (by repeat (first | exact Below.refl _ _ | refine Below.alloc ?_ (by simp) _ | refine Below.trans ?_ (bel0d' _) | refine Below.drew ?_))).mono ?_; rintro e w5 ⟨rfl, b5, bb5⟩; have z5 := bb5.size)))
          all_goals
            go_wp2_with fail
            go_meet
            case rel => exact ⟨rfl, rfl, by repeat (first | exact bb5 | refine Below.setCell ?_ (by first | omega | (simp; omega) | (simp; done)) _ | refine Below.alloc ?_ (by first | omega | (simp; omega) | (simp; done)) _ | refine Below.trans ?_ (bel0d' _))⟩
        case rest =>
          obtain ⟨rfl, rfl, hbd⟩ := hcut
          have KD := hide ((unhide KU).below hbd)
          clear hbd z0 z1 yk KU FI
          have z0 : wc.cell? ⟨G, 0, none⟩ = some (.slice (some ⟨gx, 0, none⟩) n c1) := ((unhide KD).z).c 0 (by simp)
          have z1 : wc.cell? ⟨G, 1, none⟩ = some (.slice (some ⟨gy, 0, none⟩) n c2) := ((unhide KD).z).c 1 (by simp)
          go_wp2_with fail
          refine (implAt_any _ _ n c1 n c2 xs ys K wc (unhide KD).rx (unhide KD).ry hc1 hc2).mono ?_
          rintro e w6 ⟨rfl, b6⟩
          rw [(unhide H2).1, (unhide H2).2.1, (unhide H2).2.2]
          obtain ⟨S2, hS2⟩ : ∃ S, w6.heap.size = S := ⟨_, rfl⟩
          obtain ⟨V6, hV6⟩ : ∃ V, V = w6.alloc (Obj.cells #[.int .i64 N2, .int .i64 D2] 30) := ⟨_, rfl⟩
          have b7 : Below w6.heap.size w6 V6 := by rw [hV6]; exact bel1 _
          have K6 := hide (((unhide KD).below b6).below b7)
          have B6 : Hid (Blk V6 S2 [.int .i64 N2, .int .i64 D2]) := hide (by rw [hV6, ← hS2]; exact Blk.new _ _)
          have HV6 := hide hV6
          have HS2 := hide hS2
          clear b6 b7 hV6 hS2 KD z0 z1
          go_upto_region 26 with fail
          rw [← unhide HV6, unhide HS2]
          clear HV6 HS2
          have z0 : V6.cell? ⟨G, 0, none⟩ = some (.slice (some ⟨gx, 0, none⟩) n c1) := ((unhide K6).z).c 0 (by simp)
          have z1 : V6.cell? ⟨G, 1, none⟩ = some (.slice (some ⟨gy, 0, none⟩) n c2) := ((unhide K6).z).c 1 (by simp)
          go_wp2_with fail
          refine (implAt_any _ _ n c1 n c2 xs ys (K - 1) V6 (unhide K6).rx (unhide K6).ry hc1 hc2).mono ?_
          rintro e w7 ⟨rfl, b7⟩
          rw [(unhide H3).1, (unhide H3).2]
          obtain ⟨S3, hS3⟩ : ∃ S, w7.heap.size = S := ⟨_, rfl⟩
          obtain ⟨V7, hV7⟩ : ∃ V, V = w7.alloc (Obj.cells #[.int .i64 N3, .int .i64 D3] 30) := ⟨_, rfl⟩
          have b8 : Below w7.heap.size w7 V7 := by rw [hV7]; exact bel1 _
          have K7 := hide (((unhide K6).below b7).below b8)
          have B7 : Hid (Blk V7 S3 [.int .i64 N3, .int .i64 D3]) := hide (by rw [hV7, ← hS3]; exact Blk.new _ _)
          have B6 := hide (((unhide B6).below b7).below b8)
          have HV7 := hide hV7
          have HS3 := hide hS3
          clear b7 b8 hV7 hS3 K6 z0 z1
          go_upto_region 27 with fail
          rw [← unhide HV7, unhide HS3]
          clear HV7 HS3
          have z0 : V7.cell? ⟨G, 0, none⟩ = some (.slice (some ⟨gx, 0, none⟩) n c1) := ((unhide K7).z).c 0 (by simp)
          have z1 : V7.cell? ⟨G, 1, none⟩ = some (.slice (some ⟨gy, 0, none⟩) n c2) := ((unhide K7).z).c 1 (by simp)
          have v0 : V7.cell? ⟨S2, 0, none⟩ = some (.int .i64 N2) := (unhide B6).c 0 (by simp)
          have v1 : V7.cell? ⟨S2, 1, none⟩ = some (.int .i64 D2) := (unhide B6).c 1 (by simp)
          have u0 : V7.cell? ⟨S3, 0, none⟩ = some (.int .i64 N3) := (unhide B7).c 0 (by simp)
          have u1 : V7.cell? ⟨S3, 1, none⟩ = some (.int .i64 D3) := (unhide B7).c 1 (by simp)
          have yk : V7.cell? ⟨gy, h, none⟩ = some (.int .i64 Y) := (unhide K7).atY (unhide HYh) hhN
          have t0 : ¬ N2 < Y * D2 := by omega
          rcases unhide HIN with q | ⟨q1, q2, q3⟩
          · rw [q]
            go_quiet (fail)
            go_wp2_with fail
            go_ret
            exact ⟨rfl, ((unhide K7).below (bel0d _)).bel⟩
          · rw [q1]
            go_quiet (fail)
            go_wp2_with fail
            go_ret
            exact ⟨rfl, ((unhide K7).below (bel0d _)).bel⟩

theorem lawFnTables (a : Option Addr) (len cap : Nat) (w : World) (hb : Bytes w a len) (hin : ∀ b off, a = some ⟨b, off, none⟩ → b < w.heap.size) :
    Calls Try.prog 3 #[.slice a len cap] w fun e w' => e = .returned (.bool true) ∧ Below w.heap.size w w' := by
  by_cases h : (1048576 : Int) < len
  · exact lawFnTables_big a len cap w h
  · exact lawFnTables_small a len cap w h hb hin

end Go.Proofs.Ytikhfacgoglcfaa

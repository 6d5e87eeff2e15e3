/-
  The law FnSizes returns true at every list of bytes and writes nothing that was there: the walk. No condition.
-/
import Derived.Test.YtomcbbpaajpeiaaSzRg
import Derived.Test.YtomcbbpaajpeiaaMSbIs
import Derived.Test.YtomcbbpaajpeiaaFromImpl
import Derived.Test.YtomcbbpaajpeiaaPolyImpl
import Derived.Test.YtomcbbpaajpeiaaDamped
import Derived.Test.YtomcbbpaajpeiaaMApFar
import Derived.Deep.CutRange
import Derived.Deep.RegionLaw
namespace Go.Proofs.Ytomcbbpaajpeiaa
open Go Go.RowKit
attribute [local go_sem] run_store_float

/-- What the walk knows of a world: the two numbers' boxes, and that nothing that was there has turned. -/
structure Sk (w : World) (P R A B c d : Nat) (W : World) : Prop where
  a : Blk W P [(.float .f64 A), (.float .f64 B)]
  b : Blk W R [(.float .f64 c), (.float .f64 d)]
  bel : Below w.heap.size w W
theorem Sk.below {w : World} {P R A B c d : Nat} {W W' : World} (h : Sk w P R A B c d W) (k : Below W.heap.size W W') : Sk w P R A B c d W' := ⟨h.a.below k, h.b.below k, h.bel.trans (k.mono h.bel.size)⟩
theorem szStill {V w3 : World} {S : Nat} {u0 u1 : Value} (h : V.cell? ⟨S, 0, none⟩ = some u0 ∧ V.cell? ⟨S, 1, none⟩ = some u1 ∧ V.frozen? ⟨S, 0, none⟩ = false ∧ V.frozen? ⟨S, 1, none⟩ = false ∧ S < V.heap.size) (b3 : Below V.heap.size V w3) : w3.cell? ⟨S, 0, none⟩ = some u0 ∧ w3.cell? ⟨S, 1, none⟩ = some u1 ∧ w3.frozen? ⟨S, 0, none⟩ = false ∧ w3.frozen? ⟨S, 1, none⟩ = false ∧ S < w3.heap.size := by
  obtain ⟨h0, h1, f0, f1, hl⟩ := h
  exact ⟨(b3.cell (p := ⟨S, 0, none⟩) hl).trans h0, (b3.cell (p := ⟨S, 1, none⟩) hl).trans h1, (b3.frozen (p := ⟨S, 0, none⟩) hl).trans f0, (b3.frozen (p := ⟨S, 1, none⟩) hl).trans f1, Nat.lt_of_lt_of_le hl b3.size⟩

set_option maxRecDepth 20000 in
set_option maxHeartbeats 1000000 in
theorem lawFnSizes_big (a : Option Addr) (len cap : Nat) (w : World) (h : (1048576 : Int) < len) :
    Calls Try.prog 3 #[.slice a len cap] w fun e w' => e = .returned (.bool true) ∧ Below w.heap.size w w' := by
  have hd : decide ((1048576 : Int) < len) = true := by simpa using h
  clear h
  go_enter Try.func3, Try.ntmps3
  go_wp2_with fail
  refine (big_any a len cap _).mono ?_
  rintro e w' ⟨rfl, hw⟩
  subst w'
  rw [hd]
  go_wp2
  go_ret
  exact ⟨rfl, Below.refl _ _⟩

set_option maxRecDepth 20000 in
set_option maxHeartbeats 32000000 in
theorem lawFnSizes_small (a : Option Addr) (len cap : Nat) (w : World) (h : ¬ (1048576 : Int) < len) (hb : Bytes w a len) (hin : ∀ b off, a = some ⟨b, off, none⟩ → b < w.heap.size) :
    Calls Try.prog 3 #[.slice a len cap] w fun e w' => e = .returned (.bool true) ∧ Below w.heap.size w w' := by
  have hd0 : decide ((1048576 : Int) < len) = false := by simpa using h
  have DW := hide (drawWider_any a len cap w hb hin)
  have DC : Hid (∀ W, Below w.heap.size w W → Calls Try.prog 8 #[.slice a len cap] W fun e w' => ∃ x y z u, e = .returned (.tuple #[.agg #[.float .f64 x, .float .f64 y], .agg #[.float .f64 z, .float .f64 u]]) ∧ Below W.heap.size W w') := hide (fun W bW => drawCxTimes_any a len cap W (hb.below bW) (fun b off e => Nat.lt_of_lt_of_le (hin b off e) bW.size))
  have DR : Hid (∀ W, Below w.heap.size w W → Calls Try.prog 12 #[.slice a len cap] W fun e w' => RsP W e w') := hide (fun W bW => drawSmallRoots_any a len cap W (hb.below bW) (fun b off e => Nat.lt_of_lt_of_le (hin b off e) bW.size))
  clear hb h hin
  go_enter Try.func3, Try.ntmps3
  go_wp2_with fail
  refine (big_any a len cap _).mono ?_
  rintro e w' ⟨rfl, hw⟩
  subst w'
  rw [hd0]
  go_wp2_with fail
  refine (unhide DW).mono ?_
  rintro e w1 ⟨s0, s1, rfl, b1⟩
  obtain ⟨S, hS⟩ : ∃ S, w1.heap.size = S := ⟨_, rfl⟩
  obtain ⟨V1, hV1⟩ : ∃ V, V = w1.alloc (Obj.cells #[.float .f32 s0, .float .f32 s1] 26) := ⟨_, rfl⟩
  have bV : Below w1.heap.size w1 V1 := by rw [hV1]; exact bel1 _
  have KS : Hid (Blk V1 S [.float .f32 s0, .float .f32 s1]) := hide (by rw [hV1, ← hS]; exact Blk.new _ _)
  have BV := hide (b1.trans (bV.mono b1.size))
  have HV1 := hide hV1
  have HS := hide hS
  clear b1 bV hV1 hS DW
  go_upto_region 4 with fail
  rw [← unhide HV1, unhide HS]
  clear HV1 HS
  have sv0 : V1.cell? ⟨S, 0, none⟩ = some (.float .f32 s0) := (unhide KS).c 0 (by simp)
  have sv1 : V1.cell? ⟨S, 1, none⟩ = some (.float .f32 s1) := (unhide KS).c 1 (by simp)
  go_wp2_with fail
  refine (implWider_any s0 s1 V1).mono ?_
  rintro e w2 ⟨x, y, rfl, hx, hy, b2⟩
  have HX := hide hx
  have HY := hide hy
  have B2 := hide b2
  clear hx hy b2
  go_wp2_with fail
  refine (implSharper_wide x y s0 s1 w2 (unhide HX) (unhide HY)).mono ?_
  rintro e w3 ⟨z0, z1, rfl, hz, b3⟩
  obtain ⟨T, hT⟩ : ∃ S, w3.heap.size = S := ⟨_, rfl⟩
  obtain ⟨V3, hV3⟩ : ∃ V, V = w3.alloc (Obj.cells #[.float .f32 z0, .float .f32 z1] 26) := ⟨_, rfl⟩
  have b4 : Below w3.heap.size w3 V3 := by rw [hV3]; exact bel1 _
  have b24 : Below V1.heap.size V1 V3 := (unhide B2).trans ((b3.trans (b4.mono b3.size)).mono (unhide B2).size)
  have KS3 := hide ((unhide KS).below b24)
  have KT3 : Hid (Blk V3 T [.float .f32 z0, .float .f32 z1]) := hide (by rw [hV3, ← hT]; exact Blk.new _ _)
  have BV3 := hide ((unhide BV).trans (b24.mono (unhide BV).size))
  have HZ := hide hz
  have HV3 := hide hV3
  have HT := hide hT
  clear b3 b4 b24 hz hV3 hT KS BV B2 HX HY sv0 sv1
  go_upto_region 5 with fail
  rw [← unhide HV3, unhide HT]
  clear HV3 HT
  have sv0 : V3.cell? ⟨S, 0, none⟩ = some (.float .f32 s0) := (unhide KS3).c 0 (by simp)
  have sv1 : V3.cell? ⟨S, 1, none⟩ = some (.float .f32 s1) := (unhide KS3).c 1 (by simp)
  have tv0 : V3.cell? ⟨T, 0, none⟩ = some (.float .f32 z0) := (unhide KT3).c 0 (by simp)
  have tv1 : V3.cell? ⟨T, 1, none⟩ = some (.float .f32 z1) := (unhide KT3).c 1 (by simp)
  have HV := BV3
  go_cut [53] from 20 to 52 (fun r wc => r = .bool false ∧ wc = V3)
  case first =>
    cases hn0 : nanB .f32 s0 with
    | false =>
      have e0 : (FloatKind.f32.format.order z0 s0 != some .eq) = false := by have := (unhide HZ).1 hn0; rw [bne, this]; rfl
      cases hn1 : nanB .f32 s1 with
      | false =>
        have e1 : (FloatKind.f32.format.order z1 s1 != some .eq) = false := by have := (unhide HZ).2 hn1; rw [bne, this]; rfl
        go_wp2_with fail
        go_meet
        case rel => exact ⟨rfl, rfl⟩
      | true =>
        have e1 : (FloatKind.f32.format.order z1 s1 != some .eq) = true := by rw [order_nan (.inr hn1)]; rfl
        have e2 : (FloatKind.f32.format.order s1 s1 == some .eq) = false := by rw [order_self_eq, hn1]; rfl
        go_wp2_with fail
        go_meet
        case rel => exact ⟨rfl, rfl⟩
    | true =>
      have e0 : (FloatKind.f32.format.order z0 s0 != some .eq) = true := by rw [order_nan (.inr hn0)]; rfl
      have e3 : (FloatKind.f32.format.order s0 s0 == some .eq) = false := by rw [order_self_eq, hn0]; rfl
      cases hn1 : nanB .f32 s1 with
      | false =>
        have e1 : (FloatKind.f32.format.order z1 s1 != some .eq) = false := by have := (unhide HZ).2 hn1; rw [bne, this]; rfl
        go_wp2_with fail
        go_meet
        case rel => exact ⟨rfl, rfl⟩
      | true =>
        have e1 : (FloatKind.f32.format.order z1 s1 != some .eq) = true := by rw [order_nan (.inr hn1)]; rfl
        have e2 : (FloatKind.f32.format.order s1 s1 == some .eq) = false := by rw [order_self_eq, hn1]; rfl
        go_wp2_with fail
        go_meet
        case rel => exact ⟨rfl, rfl⟩
  case rest =>
    obtain ⟨rfl, rfl⟩ := hcut
    clear KS3 KT3 HZ sv0 sv1 tv0 tv1
    go_wp2_with fail
    refine ((unhide DC) _ (unhide HV)).mono ?_
    rintro e w5 ⟨A, B, c, d, rfl, b5⟩
    obtain ⟨P, hP⟩ : ∃ P, w5.heap.size = P := ⟨_, rfl⟩
    obtain ⟨V6, hV6⟩ : ∃ V, V = (w5.alloc (Obj.cells #[(.float .f64 A), (.float .f64 B)] 31)).alloc (Obj.cells #[(.float .f64 c), (.float .f64 d)] 31) := ⟨_, rfl⟩
    have b6 : Below w5.heap.size w5 V6 := by rw [hV6]; exact bel2 _ _
    have K6 : Hid (Sk w P (P + 1) A B c d V6) := hide ⟨by rw [hV6, ← hP]; exact (Blk.new (w := w5) [(.float .f64 A), (.float .f64 B)] 31).alloc _, by rw [hV6, ← hP]; have k := Blk.new (w := w5.alloc (Obj.cells #[(.float .f64 A), (.float .f64 B)] 31)) [(.float .f64 c), (.float .f64 d)] 31; simpa using k, (unhide HV).trans ((b5.trans (b6.mono b5.size)).mono (unhide HV).size)⟩
    obtain ⟨R, hR⟩ : ∃ R, P + 1 = R := ⟨_, rfl⟩
    rw [hR] at K6
    have HV6 := hide hV6
    have HPR := hide (show w5.heap.size = P ∧ P + 1 = R from ⟨hP, hR⟩)
    clear b5 b6 hV6 hP hR HV BV3
    go_upto_region 8 with fail
    rw [← unhide HV6, (unhide HPR).1, (unhide HPR).2]
    clear HV6 HPR
    have CT1 : Hid (∀ W, Below V6.heap.size V6 W → Calls Try.prog 9 #[.agg #[(.float .f64 A), (.float .f64 B)], .agg #[(.float .f64 c), (.float .f64 d)]] W fun e w' => ∃ x y, e = .returned (.agg #[.float .f64 x, .float .f64 y]) ∧ (Alike .f64 x (tRe A B c d) ∧ Alike .f64 y (tIm A B c d)) ∧ Below W.heap.size W w' ∧ Below V6.heap.size V6 w') := hide (fun W bW => (implCxTimes_any A B c d W).mono (fun e w' ⟨x, y, he, h1, h2, b⟩ => ⟨x, y, he, ⟨h1, h2⟩, b, bW.trans (b.mono bW.size)⟩))
    have CT2 : Hid (∀ W, Below V6.heap.size V6 W → Calls Try.prog 9 #[.agg #[(.float .f64 c), (.float .f64 d)], .agg #[(.float .f64 A), (.float .f64 B)]] W fun e w' => ∃ x y, e = .returned (.agg #[.float .f64 x, .float .f64 y]) ∧ (Alike .f64 x (tRe c d A B) ∧ Alike .f64 y (tIm c d A B)) ∧ Below W.heap.size W w' ∧ Below V6.heap.size V6 w') := hide (fun W bW => (implCxTimes_any c d A B W).mono (fun e w' ⟨x, y, he, h1, h2, b⟩ => ⟨x, y, he, ⟨h1, h2⟩, b, bW.trans (b.mono bW.size)⟩))
    have a0 : V6.cell? ⟨P, 0, none⟩ = some (.float .f64 A) := ((unhide K6).a).c 0 (by simp)
    have a0a : ∀ o, (V6.alloc o).cell? ⟨P, 0, none⟩ = some (.float .f64 A) := fun o => (((unhide K6).a).alloc o).c 0 (by simp)
    have a0b : ∀ o o', ((V6.alloc o).alloc o').cell? ⟨P, 0, none⟩ = some (.float .f64 A) := fun o o' => ((((unhide K6).a).alloc o).alloc o').c 0 (by simp)
    have a1 : V6.cell? ⟨P, 1, none⟩ = some (.float .f64 B) := ((unhide K6).a).c 1 (by simp)
    have a1a : ∀ o, (V6.alloc o).cell? ⟨P, 1, none⟩ = some (.float .f64 B) := fun o => (((unhide K6).a).alloc o).c 1 (by simp)
    have a1b : ∀ o o', ((V6.alloc o).alloc o').cell? ⟨P, 1, none⟩ = some (.float .f64 B) := fun o o' => ((((unhide K6).a).alloc o).alloc o').c 1 (by simp)
    have b0 : V6.cell? ⟨R, 0, none⟩ = some (.float .f64 c) := ((unhide K6).b).c 0 (by simp)
    have b0a : ∀ o, (V6.alloc o).cell? ⟨R, 0, none⟩ = some (.float .f64 c) := fun o => (((unhide K6).b).alloc o).c 0 (by simp)
    have b0b : ∀ o o', ((V6.alloc o).alloc o').cell? ⟨R, 0, none⟩ = some (.float .f64 c) := fun o o' => ((((unhide K6).b).alloc o).alloc o').c 0 (by simp)
    have b1 : V6.cell? ⟨R, 1, none⟩ = some (.float .f64 d) := ((unhide K6).b).c 1 (by simp)
    have b1a : ∀ o, (V6.alloc o).cell? ⟨R, 1, none⟩ = some (.float .f64 d) := fun o => (((unhide K6).b).alloc o).c 1 (by simp)
    have b1b : ∀ o o', ((V6.alloc o).alloc o').cell? ⟨R, 1, none⟩ = some (.float .f64 d) := fun o o' => ((((unhide K6).b).alloc o).alloc o').c 1 (by simp)
    go_upto_region 8 with fail
    go_cut [7, 8] from 20 to 64 (fun s t wd => ∃ S T x y z u, s = .pointer (some ⟨S, 0, none⟩) ∧ t = .pointer (some ⟨T, 0, none⟩) ∧ wd.cell? ⟨S, 0, none⟩ = some (.float .f64 x) ∧ wd.cell? ⟨S, 1, none⟩ = some (.float .f64 y) ∧ wd.cell? ⟨T, 0, none⟩ = some (.float .f64 z) ∧ wd.cell? ⟨T, 1, none⟩ = some (.float .f64 u) ∧ (Alike .f64 x z ∧ Alike .f64 y u) ∧ Below V6.heap.size V6 wd)
    case first =>
      clear a0 a0a a0b a1 a1a a1b b0 b0a b0b b1 b1a b1b
      have HST : Hid (SzR V6 P R A B c d (fun x y => Alike .f64 x (tRe A B c d) ∧ Alike .f64 y (tIm A B c d)) (fun x y => Alike .f64 x (tRe c d A B) ∧ Alike .f64 y (tIm c d A B)) false false false false false false false false false false undef undef undef undef undef undef undef undef (V6.drewN 1)) := hide ⟨(unhide K6).a.below (bel0d' 1), (unhide K6).b.below (bel0d' 1), bel0d' 1, (unhide K6).a.lt, (unhide K6).b.lt, (fun h => by cases h), (fun h => by cases h), (fun h => by cases h), (fun h => by cases h), (fun h => by cases h), (fun h => by cases h), (fun h => by cases h), (fun h => by cases h), (fun h => by cases h), (fun h => by cases h), (fun h => by cases h), (fun h => by cases h), (fun h => by cases h)⟩
      refine wp_region_flagsA (by kernel_rfl) (by kernel_rfl) (SzRJ V6 P R A B c d (fun x y => Alike .f64 x (tRe A B c d) ∧ Alike .f64 y (tIm A B c d)) (fun x y => Alike .f64 x (tRe c d A B) ∧ Alike .f64 y (tIm c d A B)) 59 7 8) ?_ ?_ ?_
      · exact SzRJ.mk (v0 := undef) (v1 := undef) (v2 := undef) (v3 := undef) (v4 := undef) (v5 := undef) (v6 := undef) (v7 := undef) (unhide HST) (by kernel_rfl)
      rotate_left 1
      · rintro l a W i o ho hl hd ⟨v0, v1, v2, v3, v4, v5, v6, v7, rfl, K⟩
        have hi : i < 10 := (Array.getElem?_eq_some_iff.1 ho).1
        rcases (show i = 0 ∨ i = 1 ∨ i = 2 ∨ i = 3 ∨ i = 4 ∨ i = 5 ∨ i = 6 ∨ i = 7 ∨ i = 8 ∨ i = 9 from by omega) with rfl | rfl | rfl | rfl | rfl | rfl | rfl | rfl | rfl | rfl
        · simp at ho
          subst ho
          have m0 := K.a.c 0 (by simp)
          have m1 := K.a.c 1 (by simp)
          simp only [List.getElem_cons_zero, List.getElem_cons_succ] at m0 m1
          have HK : Hid (SzR V6 P R A B c d (fun x y => Alike .f64 x (tRe A B c d) ∧ Alike .f64 y (tIm A B c d)) (fun x y => Alike .f64 x (tRe c d A B) ∧ Alike .f64 y (tIm c d A B)) true (l 1) (l 2) (l 3) (l 4) (l 5) (l 6) (l 7) (l 8) (l 9) (.agg #[.float .f64 A, .float .f64 B]) v1 v2 v3 v4 v5 v6 v7 W) := hide ⟨(K.a), (K.b), (K.bel), (K.pl), (K.rl), (fun _ => rfl), (K.e1), (K.e2), (K.e3), (K.e4), (K.e5), (K.e6), (K.f6), (K.e7), (K.f7), (K.ne), (K.n8), (K.n9)⟩
          clear K hd hl
          go_wp2_with fail
          exact ⟨rfl, SzRJ.mk (unhide HK) (by kernel_rfl)⟩
        · simp at ho
          subst ho
          have m0 := K.b.c 0 (by simp)
          have m1 := K.b.c 1 (by simp)
          simp only [List.getElem_cons_zero, List.getElem_cons_succ] at m0 m1
          have HK : Hid (SzR V6 P R A B c d (fun x y => Alike .f64 x (tRe A B c d) ∧ Alike .f64 y (tIm A B c d)) (fun x y => Alike .f64 x (tRe c d A B) ∧ Alike .f64 y (tIm c d A B)) (l 0) true (l 2) (l 3) (l 4) (l 5) (l 6) (l 7) (l 8) (l 9) v0 (.agg #[.float .f64 c, .float .f64 d]) v2 v3 v4 v5 v6 v7 W) := hide ⟨(K.a), (K.b), (K.bel), (K.pl), (K.rl), (K.e0), (fun _ => rfl), (K.e2), (K.e3), (K.e4), (K.e5), (K.e6), (K.f6), (K.e7), (K.f7), (K.ne), (K.n8), (K.n9)⟩
          clear K hd hl
          go_wp2_with fail
          exact ⟨rfl, SzRJ.mk (unhide HK) (by kernel_rfl)⟩
        · simp at ho
          subst ho
          have d0 : l 0 = true := hd ⟨0, .data⟩ (by simp) rfl
          have d1 : l 1 = true := hd ⟨1, .data⟩ (by simp) rfl
          have x0 := K.e0 d0
          subst x0
          have x1 := K.e1 d1
          subst x1
          have HK0 := hide K
          have HB := hide K.bel
          clear K hd hl d0 d1
          go_wp2_with (go_at_call 9; refine ((unhide CT1) _ (unhide HB)).mono ?_; rintro e u1 ⟨x, y, rfl, hxy, b5, _⟩)
          have K := (unhide HK0).below b5
          have HK : Hid (SzR V6 P R A B c d (fun x y => Alike .f64 x (tRe A B c d) ∧ Alike .f64 y (tIm A B c d)) (fun x y => Alike .f64 x (tRe c d A B) ∧ Alike .f64 y (tIm c d A B)) (l 0) (l 1) true (l 3) (l 4) (l 5) (l 6) (l 7) (l 8) (l 9) (.agg #[.float .f64 A, .float .f64 B]) (.agg #[.float .f64 c, .float .f64 d]) (.agg #[.float .f64 x, .float .f64 y]) v3 v4 v5 v6 v7 u1) := hide ⟨(K.a), (K.b), (K.bel), (K.pl), (K.rl), (K.e0), (K.e1), (fun _ => ⟨x, y, rfl, hxy⟩), (K.e3), (K.e4), (K.e5), (K.e6), (K.f6), (K.e7), (K.f7), (K.ne), (K.n8), (K.n9)⟩
          clear K
          exact ⟨rfl, SzRJ.mk (unhide HK) (by kernel_rfl)⟩
        · simp at ho
          subst ho
          have m0 := K.b.c 0 (by simp)
          have m1 := K.b.c 1 (by simp)
          simp only [List.getElem_cons_zero, List.getElem_cons_succ] at m0 m1
          have HK : Hid (SzR V6 P R A B c d (fun x y => Alike .f64 x (tRe A B c d) ∧ Alike .f64 y (tIm A B c d)) (fun x y => Alike .f64 x (tRe c d A B) ∧ Alike .f64 y (tIm c d A B)) (l 0) (l 1) (l 2) true (l 4) (l 5) (l 6) (l 7) (l 8) (l 9) v0 v1 v2 (.agg #[.float .f64 c, .float .f64 d]) v4 v5 v6 v7 W) := hide ⟨(K.a), (K.b), (K.bel), (K.pl), (K.rl), (K.e0), (K.e1), (K.e2), (fun _ => rfl), (K.e4), (K.e5), (K.e6), (K.f6), (K.e7), (K.f7), (K.ne), (K.n8), (K.n9)⟩
          clear K hd hl
          go_wp2_with fail
          exact ⟨rfl, SzRJ.mk (unhide HK) (by kernel_rfl)⟩
        · simp at ho
          subst ho
          have m0 := K.a.c 0 (by simp)
          have m1 := K.a.c 1 (by simp)
          simp only [List.getElem_cons_zero, List.getElem_cons_succ] at m0 m1
          have HK : Hid (SzR V6 P R A B c d (fun x y => Alike .f64 x (tRe A B c d) ∧ Alike .f64 y (tIm A B c d)) (fun x y => Alike .f64 x (tRe c d A B) ∧ Alike .f64 y (tIm c d A B)) (l 0) (l 1) (l 2) (l 3) true (l 5) (l 6) (l 7) (l 8) (l 9) v0 v1 v2 v3 (.agg #[.float .f64 A, .float .f64 B]) v5 v6 v7 W) := hide ⟨(K.a), (K.b), (K.bel), (K.pl), (K.rl), (K.e0), (K.e1), (K.e2), (K.e3), (fun _ => rfl), (K.e5), (K.e6), (K.f6), (K.e7), (K.f7), (K.ne), (K.n8), (K.n9)⟩
          clear K hd hl
          go_wp2_with fail
          exact ⟨rfl, SzRJ.mk (unhide HK) (by kernel_rfl)⟩
        · simp at ho
          subst ho
          have d3 : l 3 = true := hd ⟨3, .data⟩ (by simp) rfl
          have d4 : l 4 = true := hd ⟨4, .data⟩ (by simp) rfl
          have x3 := K.e3 d3
          subst x3
          have x4 := K.e4 d4
          subst x4
          have HK0 := hide K
          have HB := hide K.bel
          clear K hd hl d3 d4
          go_wp2_with (go_at_call 9; refine ((unhide CT2) _ (unhide HB)).mono ?_; rintro e u1 ⟨x, y, rfl, hxy, b5, _⟩)
          have K := (unhide HK0).below b5
          have HK : Hid (SzR V6 P R A B c d (fun x y => Alike .f64 x (tRe A B c d) ∧ Alike .f64 y (tIm A B c d)) (fun x y => Alike .f64 x (tRe c d A B) ∧ Alike .f64 y (tIm c d A B)) (l 0) (l 1) (l 2) (l 3) (l 4) true (l 6) (l 7) (l 8) (l 9) v0 v1 v2 (.agg #[.float .f64 c, .float .f64 d]) (.agg #[.float .f64 A, .float .f64 B]) (.agg #[.float .f64 x, .float .f64 y]) v6 v7 u1) := hide ⟨(K.a), (K.b), (K.bel), (K.pl), (K.rl), (K.e0), (K.e1), (K.e2), (K.e3), (K.e4), (fun _ => ⟨x, y, rfl, hxy⟩), (K.e6), (K.f6), (K.e7), (K.f7), (K.ne), (K.n8), (K.n9)⟩
          clear K
          exact ⟨rfl, SzRJ.mk (unhide HK) (by kernel_rfl)⟩
        · simp at ho
          subst ho
          have z : l 8 = false := by cases e : l 8; rfl; have := K.n8 e; rw [hl] at this; cases this
          have K2 := K.below (bel1 (Obj.cells #[.float .f64 0, .float .f64 0] 31))
          have HK : Hid (SzR V6 P R A B c d (fun x y => Alike .f64 x (tRe A B c d) ∧ Alike .f64 y (tIm A B c d)) (fun x y => Alike .f64 x (tRe c d A B) ∧ Alike .f64 y (tIm c d A B)) (l 0) (l 1) (l 2) (l 3) (l 4) (l 5) true (l 7) (l 8) (l 9) v0 v1 v2 v3 v4 v5 (.pointer (some ⟨W.heap.size, 0, none⟩)) v7 (W.alloc (Obj.cells #[.float .f64 0, .float .f64 0] 31))) := hide ⟨(K2.a), (K2.b), (K2.bel), (K2.pl), (K2.rl), (K2.e0), (K2.e1), (K2.e2), (K2.e3), (K2.e4), (K2.e5), (fun _ _ => ⟨_, rfl, K.bel.size, Blk.new _ _⟩), (fun h => by rw [z] at h; cases h), (K2.e7), (K2.f7), (fun _ h2 S' T' hu hv => by simp only [Value.pointer.injEq, Option.some.injEq, Addr.mk.injEq, and_true] at hu; exact (by cases c : l 9 with | false => (obtain ⟨T, y1, _, y3⟩ := K.e7 h2 c; have hy := y1.symm.trans hv; simp only [Value.pointer.injEq, Option.some.injEq, Addr.mk.injEq, and_true] at hy; have := y3.lt; omega) | true => (obtain ⟨T, x, y, y1, _, y3, _⟩ := K.f7 c; have hy := y1.symm.trans hv; simp only [Value.pointer.injEq, Option.some.injEq, Addr.mk.injEq, and_true] at hy; have := y3.lt; omega))), (fun _ => rfl), (K2.n9)⟩
          clear K K2 hd hl z
          go_wp2_with fail
          exact ⟨rfl, SzRJ.mk (unhide HK) (by kernel_rfl)⟩
        · simp at ho
          subst ho
          have z : l 9 = false := by cases e : l 9; rfl; have := K.n9 e; rw [hl] at this; cases this
          have K2 := K.below (bel1 (Obj.cells #[.float .f64 0, .float .f64 0] 31))
          have HK : Hid (SzR V6 P R A B c d (fun x y => Alike .f64 x (tRe A B c d) ∧ Alike .f64 y (tIm A B c d)) (fun x y => Alike .f64 x (tRe c d A B) ∧ Alike .f64 y (tIm c d A B)) (l 0) (l 1) (l 2) (l 3) (l 4) (l 5) (l 6) true (l 8) (l 9) v0 v1 v2 v3 v4 v5 v6 (.pointer (some ⟨W.heap.size, 0, none⟩)) (W.alloc (Obj.cells #[.float .f64 0, .float .f64 0] 31))) := hide ⟨(K2.a), (K2.b), (K2.bel), (K2.pl), (K2.rl), (K2.e0), (K2.e1), (K2.e2), (K2.e3), (K2.e4), (K2.e5), (K2.e6), (K2.f6), (fun _ _ => ⟨_, rfl, K.bel.size, Blk.new _ _⟩), (fun h => by rw [z] at h; cases h), (fun h2 _ S' T' hv hu => by simp only [Value.pointer.injEq, Option.some.injEq, Addr.mk.injEq, and_true] at hu; exact (by cases c : l 8 with | false => (obtain ⟨T, y1, _, y3⟩ := K.e6 h2 c; have hy := y1.symm.trans hv; simp only [Value.pointer.injEq, Option.some.injEq, Addr.mk.injEq, and_true] at hy; have := y3.lt; omega) | true => (obtain ⟨T, x, y, y1, _, y3, _⟩ := K.f6 c; have hy := y1.symm.trans hv; simp only [Value.pointer.injEq, Option.some.injEq, Addr.mk.injEq, and_true] at hy; have := y3.lt; omega))), (K2.n8), (fun _ => rfl)⟩
          clear K K2 hd hl z
          go_wp2_with fail
          exact ⟨rfl, SzRJ.mk (unhide HK) (by kernel_rfl)⟩
        · simp at ho
          subst ho
          have d6 : l 6 = true := hd ⟨6, .data⟩ (by simp) rfl
          have d2 : l 2 = true := hd ⟨2, .data⟩ (by simp) rfl
          obtain ⟨x, y, xv, hxy⟩ := K.e2 d2
          obtain ⟨S, xs, hS, hB⟩ := K.e6 d6 hl
          subst xv
          subst xs
          have m0 := hB.c 0 (by simp)
          have g0 := hB.f 0 (by simp)
          have m1 := hB.c 1 (by simp)
          have g1 := hB.f 1 (by simp)
          simp only [List.getElem_cons_zero, List.getElem_cons_succ] at m0 m1
          have HK : Hid (SzR V6 P R A B c d (fun x y => Alike .f64 x (tRe A B c d) ∧ Alike .f64 y (tIm A B c d)) (fun x y => Alike .f64 x (tRe c d A B) ∧ Alike .f64 y (tIm c d A B)) (l 0) (l 1) (l 2) (l 3) (l 4) (l 5) (l 6) (l 7) true (l 9) v0 v1 (.agg #[.float .f64 x, .float .f64 y]) v3 v4 v5 (.pointer (some ⟨S, 0, none⟩)) v7 ((W.setCell ⟨S, 0, none⟩ (.float .f64 x)).setCell ⟨S, 1, none⟩ (.float .f64 y))) := hide ⟨((K.a.other (by have := K.pl; simp; omega) _).other (by have := K.pl; simp; omega) _), ((K.b.other (by have := K.rl; simp; omega) _).other (by have := K.rl; simp; omega) _), ((K.bel.setCell (by simpa using hS) _).setCell (by simpa using hS) _), (K.pl), (K.rl), (K.e0), (K.e1), (K.e2), (K.e3), (K.e4), (K.e5), (fun _ h => by cases h), (fun _ => ⟨S, x, y, rfl, hS, (hB.set 0 (by simp) _).set 1 (by simp) _, hxy⟩), (fun h1 h2 => by obtain ⟨T, y1, y2, y3⟩ := K.e7 h1 h2; have hne : S ≠ T := (fun e => K.ne d6 h1 S T rfl y1 e); exact ⟨T, y1, y2, (y3.other (by simpa using hne) _).other (by simpa using hne) _⟩), (fun h => by have h1 := K.n9 h; obtain ⟨T, x', y', y1, y2, y3, y4⟩ := K.f7 h; have hne : S ≠ T := (fun e => K.ne d6 h1 S T rfl y1 e); exact ⟨T, x', y', y1, y2, (y3.other (by simpa using hne) _).other (by simpa using hne) _, y4⟩), (K.ne), (fun _ => d6), (K.n9)⟩
          clear K hd hl hB
          go_wp2_with fail
          exact ⟨rfl, SzRJ.mk (unhide HK) (by kernel_rfl)⟩
        · simp at ho
          subst ho
          have d7 : l 7 = true := hd ⟨7, .data⟩ (by simp) rfl
          have d5 : l 5 = true := hd ⟨5, .data⟩ (by simp) rfl
          obtain ⟨x, y, xv, hxy⟩ := K.e5 d5
          obtain ⟨S, xs, hS, hB⟩ := K.e7 d7 hl
          subst xv
          subst xs
          have m0 := hB.c 0 (by simp)
          have g0 := hB.f 0 (by simp)
          have m1 := hB.c 1 (by simp)
          have g1 := hB.f 1 (by simp)
          simp only [List.getElem_cons_zero, List.getElem_cons_succ] at m0 m1
          have HK : Hid (SzR V6 P R A B c d (fun x y => Alike .f64 x (tRe A B c d) ∧ Alike .f64 y (tIm A B c d)) (fun x y => Alike .f64 x (tRe c d A B) ∧ Alike .f64 y (tIm c d A B)) (l 0) (l 1) (l 2) (l 3) (l 4) (l 5) (l 6) (l 7) (l 8) true v0 v1 v2 v3 v4 (.agg #[.float .f64 x, .float .f64 y]) v6 (.pointer (some ⟨S, 0, none⟩)) ((W.setCell ⟨S, 0, none⟩ (.float .f64 x)).setCell ⟨S, 1, none⟩ (.float .f64 y))) := hide ⟨((K.a.other (by have := K.pl; simp; omega) _).other (by have := K.pl; simp; omega) _), ((K.b.other (by have := K.rl; simp; omega) _).other (by have := K.rl; simp; omega) _), ((K.bel.setCell (by simpa using hS) _).setCell (by simpa using hS) _), (K.pl), (K.rl), (K.e0), (K.e1), (K.e2), (K.e3), (K.e4), (K.e5), (fun h1 h2 => by obtain ⟨T, y1, y2, y3⟩ := K.e6 h1 h2; have hne : S ≠ T := (fun e => K.ne h1 d7 T S y1 rfl e.symm); exact ⟨T, y1, y2, (y3.other (by simpa using hne) _).other (by simpa using hne) _⟩), (fun h => by have h1 := K.n8 h; obtain ⟨T, x', y', y1, y2, y3, y4⟩ := K.f6 h; have hne : S ≠ T := (fun e => K.ne h1 d7 T S y1 rfl e.symm); exact ⟨T, x', y', y1, y2, (y3.other (by simpa using hne) _).other (by simpa using hne) _, y4⟩), (fun _ h => by cases h), (fun _ => ⟨S, x, y, rfl, hS, (hB.set 0 (by simp) _).set 1 (by simp) _, hxy⟩), (K.ne), (K.n8), (fun _ => d7)⟩
          clear K hd hl hB
          go_wp2_with fail
          exact ⟨rfl, SzRJ.mk (unhide HK) (by kernel_rfl)⟩
      rintro l a W hall ⟨v0, v1, v2, v3, v4, v5, v6, v7, rfl, K⟩
      obtain ⟨S1, x1, y1, z1, _, B1, D1⟩ := K.f6 (hall 8 (by simp))
      obtain ⟨T1, x2, y2, z2, _, B2, D2⟩ := K.f7 (hall 9 (by simp))
      subst z1 z2
      have KB := hide K.bel
      have H1 := hide B1
      have H2 := hide B2
      clear K hall B1 B2
      go_wp2_with fail
      go_meet
      case rel => exact ⟨S1, T1, x1, y1, x2, y2, rfl, rfl, (unhide H1).c 0 (by simp), (unhide H1).c 1 (by simp), (unhide H2).c 0 (by simp), (unhide H2).c 1 (by simp), ⟨D1.1.trans (by rw [tRe_comm A B c d]; exact D2.1.symm), D1.2.trans (by rw [tIm_comm A B c d]; exact D2.2.symm)⟩, unhide KB⟩
    case rest =>
      obtain ⟨S1, T1, x, y, z, u, rfl, rfl, r0, r1, r2, r3, hal, hbd⟩ := hcut
      have AL1 := hide hal
      have K7 := hide ((unhide K6).below hbd)
      have RR1 : Hid (∀ W, Below wc.heap.size wc W → (W.cell? ⟨S1, 0, none⟩ = some (.float .f64 x) ∧ W.cell? ⟨S1, 1, none⟩ = some (.float .f64 y)) ∧ W.cell? ⟨T1, 0, none⟩ = some (.float .f64 z) ∧ W.cell? ⟨T1, 1, none⟩ = some (.float .f64 u)) := hide (fun W b => ⟨⟨(b.cell (p := ⟨S1, 0, none⟩) (block_lt_of_cell r0)).trans r0, (b.cell (p := ⟨S1, 1, none⟩) (block_lt_of_cell r1)).trans r1⟩, (b.cell (p := ⟨T1, 0, none⟩) (block_lt_of_cell r2)).trans r2, (b.cell (p := ⟨T1, 1, none⟩) (block_lt_of_cell r3)).trans r3⟩)
      clear r0 r1 r2 r3 hal hbd CT1 CT2 K6 a0 a0a a0b a1 a1a a1b b0 b0a b0b b1 b1a b1b
      obtain ⟨V7, hV7⟩ : ∃ V, wc = V := ⟨_, rfl⟩
      subst hV7
      have CA1 : Hid (∀ W, Below wc.heap.size wc W → Calls Try.prog 10 #[.agg #[(.float .f64 A), (.float .f64 B)], .agg #[(.float .f64 c), (.float .f64 d)]] W fun e w' => ∃ x y, e = .returned (.agg #[.float .f64 x, .float .f64 y]) ∧ (Alike .f64 x (fl .add .f64 A c) ∧ Alike .f64 y (fl .add .f64 B d)) ∧ Below W.heap.size W w' ∧ Below wc.heap.size wc w') := hide (fun W bW => (implCxAdd_any A B c d W).mono (fun e w' ⟨x, y, he, h1, h2, b⟩ => ⟨x, y, he, ⟨h1, h2⟩, b, bW.trans (b.mono bW.size)⟩))
      have CA2 : Hid (∀ W, Below wc.heap.size wc W → Calls Try.prog 10 #[.agg #[(.float .f64 c), (.float .f64 d)], .agg #[(.float .f64 A), (.float .f64 B)]] W fun e w' => ∃ x y, e = .returned (.agg #[.float .f64 x, .float .f64 y]) ∧ (Alike .f64 x (fl .add .f64 c A) ∧ Alike .f64 y (fl .add .f64 d B)) ∧ Below W.heap.size W w' ∧ Below wc.heap.size wc w') := hide (fun W bW => (implCxAdd_any c d A B W).mono (fun e w' ⟨x, y, he, h1, h2, b⟩ => ⟨x, y, he, ⟨h1, h2⟩, b, bW.trans (b.mono bW.size)⟩))
      have a0 : wc.cell? ⟨P, 0, none⟩ = some (.float .f64 A) := ((unhide K7).a).c 0 (by simp)
      have a0a : ∀ o, (wc.alloc o).cell? ⟨P, 0, none⟩ = some (.float .f64 A) := fun o => (((unhide K7).a).alloc o).c 0 (by simp)
      have a0b : ∀ o o', ((wc.alloc o).alloc o').cell? ⟨P, 0, none⟩ = some (.float .f64 A) := fun o o' => ((((unhide K7).a).alloc o).alloc o').c 0 (by simp)
      have a1 : wc.cell? ⟨P, 1, none⟩ = some (.float .f64 B) := ((unhide K7).a).c 1 (by simp)
      have a1a : ∀ o, (wc.alloc o).cell? ⟨P, 1, none⟩ = some (.float .f64 B) := fun o => (((unhide K7).a).alloc o).c 1 (by simp)
      have a1b : ∀ o o', ((wc.alloc o).alloc o').cell? ⟨P, 1, none⟩ = some (.float .f64 B) := fun o o' => ((((unhide K7).a).alloc o).alloc o').c 1 (by simp)
      have b0 : wc.cell? ⟨R, 0, none⟩ = some (.float .f64 c) := ((unhide K7).b).c 0 (by simp)
      have b0a : ∀ o, (wc.alloc o).cell? ⟨R, 0, none⟩ = some (.float .f64 c) := fun o => (((unhide K7).b).alloc o).c 0 (by simp)
      have b0b : ∀ o o', ((wc.alloc o).alloc o').cell? ⟨R, 0, none⟩ = some (.float .f64 c) := fun o o' => ((((unhide K7).b).alloc o).alloc o').c 0 (by simp)
      have b1 : wc.cell? ⟨R, 1, none⟩ = some (.float .f64 d) := ((unhide K7).b).c 1 (by simp)
      have b1a : ∀ o, (wc.alloc o).cell? ⟨R, 1, none⟩ = some (.float .f64 d) := fun o => (((unhide K7).b).alloc o).c 1 (by simp)
      have b1b : ∀ o o', ((wc.alloc o).alloc o').cell? ⟨R, 1, none⟩ = some (.float .f64 d) := fun o o' => ((((unhide K7).b).alloc o).alloc o').c 1 (by simp)
      go_upto_region 9 with fail
      go_cut [9, 10] from 20 to 70 (fun s t wd => ∃ S T x y z u, s = .pointer (some ⟨S, 0, none⟩) ∧ t = .pointer (some ⟨T, 0, none⟩) ∧ wd.cell? ⟨S, 0, none⟩ = some (.float .f64 x) ∧ wd.cell? ⟨S, 1, none⟩ = some (.float .f64 y) ∧ wd.cell? ⟨T, 0, none⟩ = some (.float .f64 z) ∧ wd.cell? ⟨T, 1, none⟩ = some (.float .f64 u) ∧ (Alike .f64 x z ∧ Alike .f64 y u) ∧ Below wc.heap.size wc wd)
      case first =>
        clear a0 a0a a0b a1 a1a a1b b0 b0a b0b b1 b1a b1b
        have HST : Hid (SzR wc P R A B c d (fun x y => Alike .f64 x (fl .add .f64 A c) ∧ Alike .f64 y (fl .add .f64 B d)) (fun x y => Alike .f64 x (fl .add .f64 c A) ∧ Alike .f64 y (fl .add .f64 d B)) false false false false false false false false false false undef undef undef undef undef undef undef undef (wc.drewN 1)) := hide ⟨(unhide K7).a.below (bel0d' 1), (unhide K7).b.below (bel0d' 1), bel0d' 1, (unhide K7).a.lt, (unhide K7).b.lt, (fun h => by cases h), (fun h => by cases h), (fun h => by cases h), (fun h => by cases h), (fun h => by cases h), (fun h => by cases h), (fun h => by cases h), (fun h => by cases h), (fun h => by cases h), (fun h => by cases h), (fun h => by cases h), (fun h => by cases h), (fun h => by cases h)⟩
        refine wp_region_flagsA (by kernel_rfl) (by kernel_rfl) (SzRJ wc P R A B c d (fun x y => Alike .f64 x (fl .add .f64 A c) ∧ Alike .f64 y (fl .add .f64 B d)) (fun x y => Alike .f64 x (fl .add .f64 c A) ∧ Alike .f64 y (fl .add .f64 d B)) 65 9 10) ?_ ?_ ?_
        · exact SzRJ.mk (v0 := undef) (v1 := undef) (v2 := undef) (v3 := undef) (v4 := undef) (v5 := undef) (v6 := undef) (v7 := undef) (unhide HST) (by kernel_rfl)
        rotate_left 1
        · rintro l a W i o ho hl hd ⟨v0, v1, v2, v3, v4, v5, v6, v7, rfl, K⟩
          have hi : i < 10 := (Array.getElem?_eq_some_iff.1 ho).1
          rcases (show i = 0 ∨ i = 1 ∨ i = 2 ∨ i = 3 ∨ i = 4 ∨ i = 5 ∨ i = 6 ∨ i = 7 ∨ i = 8 ∨ i = 9 from by omega) with rfl | rfl | rfl | rfl | rfl | rfl | rfl | rfl | rfl | rfl
          · simp at ho
            subst ho
            have m0 := K.a.c 0 (by simp)
            have m1 := K.a.c 1 (by simp)
            simp only [List.getElem_cons_zero, List.getElem_cons_succ] at m0 m1
            have HK : Hid (SzR wc P R A B c d (fun x y => Alike .f64 x (fl .add .f64 A c) ∧ Alike .f64 y (fl .add .f64 B d)) (fun x y => Alike .f64 x (fl .add .f64 c A) ∧ Alike .f64 y (fl .add .f64 d B)) true (l 1) (l 2) (l 3) (l 4) (l 5) (l 6) (l 7) (l 8) (l 9) (.agg #[.float .f64 A, .float .f64 B]) v1 v2 v3 v4 v5 v6 v7 W) := hide ⟨(K.a), (K.b), (K.bel), (K.pl), (K.rl), (fun _ => rfl), (K.e1), (K.e2), (K.e3), (K.e4), (K.e5), (K.e6), (K.f6), (K.e7), (K.f7), (K.ne), (K.n8), (K.n9)⟩
            clear K hd hl
            go_wp2_with fail
            exact ⟨rfl, SzRJ.mk (unhide HK) (by kernel_rfl)⟩
          · simp at ho
            subst ho
            have m0 := K.b.c 0 (by simp)
            have m1 := K.b.c 1 (by simp)
            simp only [List.getElem_cons_zero, List.getElem_cons_succ] at m0 m1
            have HK : Hid (SzR wc P R A B c d (fun x y => Alike .f64 x (fl .add .f64 A c) ∧ Alike .f64 y (fl .add .f64 B d)) (fun x y => Alike .f64 x (fl .add .f64 c A) ∧ Alike .f64 y (fl .add .f64 d B)) (l 0) true (l 2) (l 3) (l 4) (l 5) (l 6) (l 7) (l 8) (l 9) v0 (.agg #[.float .f64 c, .float .f64 d]) v2 v3 v4 v5 v6 v7 W) := hide ⟨(K.a), (K.b), (K.bel), (K.pl), (K.rl), (K.e0), (fun _ => rfl), (K.e2), (K.e3), (K.e4), (K.e5), (K.e6), (K.f6), (K.e7), (K.f7), (K.ne), (K.n8), (K.n9)⟩
            clear K hd hl
            go_wp2_with fail
            exact ⟨rfl, SzRJ.mk (unhide HK) (by kernel_rfl)⟩
          · simp at ho
            subst ho
            have d0 : l 0 = true := hd ⟨0, .data⟩ (by simp) rfl
            have d1 : l 1 = true := hd ⟨1, .data⟩ (by simp) rfl
            have x0 := K.e0 d0
            subst x0
            have x1 := K.e1 d1
            subst x1
            have HK0 := hide K
            have HB := hide K.bel
            clear K hd hl d0 d1
            go_wp2_with (go_at_call 10; refine ((unhide CA1) _ (unhide HB)).mono ?_; rintro e u1 ⟨x, y, rfl, hxy, b5, _⟩)
            have K := (unhide HK0).below b5
            have HK : Hid (SzR wc P R A B c d (fun x y => Alike .f64 x (fl .add .f64 A c) ∧ Alike .f64 y (fl .add .f64 B d)) (fun x y => Alike .f64 x (fl .add .f64 c A) ∧ Alike .f64 y (fl .add .f64 d B)) (l 0) (l 1) true (l 3) (l 4) (l 5) (l 6) (l 7) (l 8) (l 9) (.agg #[.float .f64 A, .float .f64 B]) (.agg #[.float .f64 c, .float .f64 d]) (.agg #[.float .f64 x, .float .f64 y]) v3 v4 v5 v6 v7 u1) := hide ⟨(K.a), (K.b), (K.bel), (K.pl), (K.rl), (K.e0), (K.e1), (fun _ => ⟨x, y, rfl, hxy⟩), (K.e3), (K.e4), (K.e5), (K.e6), (K.f6), (K.e7), (K.f7), (K.ne), (K.n8), (K.n9)⟩
            clear K
            exact ⟨rfl, SzRJ.mk (unhide HK) (by kernel_rfl)⟩
          · simp at ho
            subst ho
            have m0 := K.b.c 0 (by simp)
            have m1 := K.b.c 1 (by simp)
            simp only [List.getElem_cons_zero, List.getElem_cons_succ] at m0 m1
            have HK : Hid (SzR wc P R A B c d (fun x y => Alike .f64 x (fl .add .f64 A c) ∧ Alike .f64 y (fl .add .f64 B d)) (fun x y => Alike .f64 x (fl .add .f64 c A) ∧ Alike .f64 y (fl .add .f64 d B)) (l 0) (l 1) (l 2) true (l 4) (l 5) (l 6) (l 7) (l 8) (l 9) v0 v1 v2 (.agg #[.float .f64 c, .float .f64 d]) v4 v5 v6 v7 W) := hide ⟨(K.a), (K.b), (K.bel), (K.pl), (K.rl), (K.e0), (K.e1), (K.e2), (fun _ => rfl), (K.e4), (K.e5), (K.e6), (K.f6), (K.e7), (K.f7), (K.ne), (K.n8), (K.n9)⟩
            clear K hd hl
            go_wp2_with fail
            exact ⟨rfl, SzRJ.mk (unhide HK) (by kernel_rfl)⟩
          · simp at ho
            subst ho
            have m0 := K.a.c 0 (by simp)
            have m1 := K.a.c 1 (by simp)
            simp only [List.getElem_cons_zero, List.getElem_cons_succ] at m0 m1
            have HK : Hid (SzR wc P R A B c d (fun x y => Alike .f64 x (fl .add .f64 A c) ∧ Alike .f64 y (fl .add .f64 B d)) (fun x y => Alike .f64 x (fl .add .f64 c A) ∧ Alike .f64 y (fl .add .f64 d B)) (l 0) (l 1) (l 2) (l 3) true (l 5) (l 6) (l 7) (l 8) (l 9) v0 v1 v2 v3 (.agg #[.float .f64 A, .float .f64 B]) v5 v6 v7 W) := hide ⟨(K.a), (K.b), (K.bel), (K.pl), (K.rl), (K.e0), (K.e1), (K.e2), (K.e3), (fun _ => rfl), (K.e5), (K.e6), (K.f6), (K.e7), (K.f7), (K.ne), (K.n8), (K.n9)⟩
            clear K hd hl
            go_wp2_with fail
            exact ⟨rfl, SzRJ.mk (unhide HK) (by kernel_rfl)⟩
          · simp at ho
            subst ho
            have d3 : l 3 = true := hd ⟨3, .data⟩ (by simp) rfl
            have d4 : l 4 = true := hd ⟨4, .data⟩ (by simp) rfl
            have x3 := K.e3 d3
            subst x3
            have x4 := K.e4 d4
            subst x4
            have HK0 := hide K
            have HB := hide K.bel
            clear K hd hl d3 d4
            go_wp2_with (go_at_call 10; refine ((unhide CA2) _ (unhide HB)).mono ?_; rintro e u1 ⟨x, y, rfl, hxy, b5, _⟩)
            have K := (unhide HK0).below b5
            have HK : Hid (SzR wc P R A B c d (fun x y => Alike .f64 x (fl .add .f64 A c) ∧ Alike .f64 y (fl .add .f64 B d)) (fun x y => Alike .f64 x (fl .add .f64 c A) ∧ Alike .f64 y (fl .add .f64 d B)) (l 0) (l 1) (l 2) (l 3) (l 4) true (l 6) (l 7) (l 8) (l 9) v0 v1 v2 (.agg #[.float .f64 c, .float .f64 d]) (.agg #[.float .f64 A, .float .f64 B]) (.agg #[.float .f64 x, .float .f64 y]) v6 v7 u1) := hide ⟨(K.a), (K.b), (K.bel), (K.pl), (K.rl), (K.e0), (K.e1), (K.e2), (K.e3), (K.e4), (fun _ => ⟨x, y, rfl, hxy⟩), (K.e6), (K.f6), (K.e7), (K.f7), (K.ne), (K.n8), (K.n9)⟩
            clear K
            exact ⟨rfl, SzRJ.mk (unhide HK) (by kernel_rfl)⟩
          · simp at ho
            subst ho
            have z : l 8 = false := by cases e : l 8; rfl; have := K.n8 e; rw [hl] at this; cases this
            have K2 := K.below (bel1 (Obj.cells #[.float .f64 0, .float .f64 0] 31))
            have HK : Hid (SzR wc P R A B c d (fun x y => Alike .f64 x (fl .add .f64 A c) ∧ Alike .f64 y (fl .add .f64 B d)) (fun x y => Alike .f64 x (fl .add .f64 c A) ∧ Alike .f64 y (fl .add .f64 d B)) (l 0) (l 1) (l 2) (l 3) (l 4) (l 5) true (l 7) (l 8) (l 9) v0 v1 v2 v3 v4 v5 (.pointer (some ⟨W.heap.size, 0, none⟩)) v7 (W.alloc (Obj.cells #[.float .f64 0, .float .f64 0] 31))) := hide ⟨(K2.a), (K2.b), (K2.bel), (K2.pl), (K2.rl), (K2.e0), (K2.e1), (K2.e2), (K2.e3), (K2.e4), (K2.e5), (fun _ _ => ⟨_, rfl, K.bel.size, Blk.new _ _⟩), (fun h => by rw [z] at h; cases h), (K2.e7), (K2.f7), (fun _ h2 S' T' hu hv => by simp only [Value.pointer.injEq, Option.some.injEq, Addr.mk.injEq, and_true] at hu; exact (by cases c : l 9 with | false => (obtain ⟨T, y1, _, y3⟩ := K.e7 h2 c; have hy := y1.symm.trans hv; simp only [Value.pointer.injEq, Option.some.injEq, Addr.mk.injEq, and_true] at hy; have := y3.lt; omega) | true => (obtain ⟨T, x, y, y1, _, y3, _⟩ := K.f7 c; have hy := y1.symm.trans hv; simp only [Value.pointer.injEq, Option.some.injEq, Addr.mk.injEq, and_true] at hy; have := y3.lt; omega))), (fun _ => rfl), (K2.n9)⟩
            clear K K2 hd hl z
            go_wp2_with fail
            exact ⟨rfl, SzRJ.mk (unhide HK) (by kernel_rfl)⟩
          · simp at ho
            subst ho
            have z : l 9 = false := by cases e : l 9; rfl; have := K.n9 e; rw [hl] at this; cases this
            have K2 := K.below (bel1 (Obj.cells #[.float .f64 0, .float .f64 0] 31))
            have HK : Hid (SzR wc P R A B c d (fun x y => Alike .f64 x (fl .add .f64 A c) ∧ Alike .f64 y (fl .add .f64 B d)) (fun x y => Alike .f64 x (fl .add .f64 c A) ∧ Alike .f64 y (fl .add .f64 d B)) (l 0) (l 1) (l 2) (l 3) (l 4) (l 5) (l 6) true (l 8) (l 9) v0 v1 v2 v3 v4 v5 v6 (.pointer (some ⟨W.heap.size, 0, none⟩)) (W.alloc (Obj.cells #[.float .f64 0, .float .f64 0] 31))) := hide ⟨(K2.a), (K2.b), (K2.bel), (K2.pl), (K2.rl), (K2.e0), (K2.e1), (K2.e2), (K2.e3), (K2.e4), (K2.e5), (K2.e6), (K2.f6), (fun _ _ => ⟨_, rfl, K.bel.size, Blk.new _ _⟩), (fun h => by rw [z] at h; cases h), (fun h2 _ S' T' hv hu => by simp only [Value.pointer.injEq, Option.some.injEq, Addr.mk.injEq, and_true] at hu; exact (by cases c : l 8 with | false => (obtain ⟨T, y1, _, y3⟩ := K.e6 h2 c; have hy := y1.symm.trans hv; simp only [Value.pointer.injEq, Option.some.injEq, Addr.mk.injEq, and_true] at hy; have := y3.lt; omega) | true => (obtain ⟨T, x, y, y1, _, y3, _⟩ := K.f6 c; have hy := y1.symm.trans hv; simp only [Value.pointer.injEq, Option.some.injEq, Addr.mk.injEq, and_true] at hy; have := y3.lt; omega))), (K2.n8), (fun _ => rfl)⟩
            clear K K2 hd hl z
            go_wp2_with fail
            exact ⟨rfl, SzRJ.mk (unhide HK) (by kernel_rfl)⟩
          · simp at ho
            subst ho
            have d6 : l 6 = true := hd ⟨6, .data⟩ (by simp) rfl
            have d2 : l 2 = true := hd ⟨2, .data⟩ (by simp) rfl
            obtain ⟨x, y, xv, hxy⟩ := K.e2 d2
            obtain ⟨S, xs, hS, hB⟩ := K.e6 d6 hl
            subst xv
            subst xs
            have m0 := hB.c 0 (by simp)
            have g0 := hB.f 0 (by simp)
            have m1 := hB.c 1 (by simp)
            have g1 := hB.f 1 (by simp)
            simp only [List.getElem_cons_zero, List.getElem_cons_succ] at m0 m1
            have HK : Hid (SzR wc P R A B c d (fun x y => Alike .f64 x (fl .add .f64 A c) ∧ Alike .f64 y (fl .add .f64 B d)) (fun x y => Alike .f64 x (fl .add .f64 c A) ∧ Alike .f64 y (fl .add .f64 d B)) (l 0) (l 1) (l 2) (l 3) (l 4) (l 5) (l 6) (l 7) true (l 9) v0 v1 (.agg #[.float .f64 x, .float .f64 y]) v3 v4 v5 (.pointer (some ⟨S, 0, none⟩)) v7 ((W.setCell ⟨S, 0, none⟩ (.float .f64 x)).setCell ⟨S, 1, none⟩ (.float .f64 y))) := hide ⟨((K.a.other (by have := K.pl; simp; omega) _).other (by have := K.pl; simp; omega) _), ((K.b.other (by have := K.rl; simp; omega) _).other (by have := K.rl; simp; omega) _), ((K.bel.setCell (by simpa using hS) _).setCell (by simpa using hS) _), (K.pl), (K.rl), (K.e0), (K.e1), (K.e2), (K.e3), (K.e4), (K.e5), (fun _ h => by cases h), (fun _ => ⟨S, x, y, rfl, hS, (hB.set 0 (by simp) _).set 1 (by simp) _, hxy⟩), (fun h1 h2 => by obtain ⟨T, y1, y2, y3⟩ := K.e7 h1 h2; have hne : S ≠ T := (fun e => K.ne d6 h1 S T rfl y1 e); exact ⟨T, y1, y2, (y3.other (by simpa using hne) _).other (by simpa using hne) _⟩), (fun h => by have h1 := K.n9 h; obtain ⟨T, x', y', y1, y2, y3, y4⟩ := K.f7 h; have hne : S ≠ T := (fun e => K.ne d6 h1 S T rfl y1 e); exact ⟨T, x', y', y1, y2, (y3.other (by simpa using hne) _).other (by simpa using hne) _, y4⟩), (K.ne), (fun _ => d6), (K.n9)⟩
            clear K hd hl hB
            go_wp2_with fail
            exact ⟨rfl, SzRJ.mk (unhide HK) (by kernel_rfl)⟩
          · simp at ho
            subst ho
            have d7 : l 7 = true := hd ⟨7, .data⟩ (by simp) rfl
            have d5 : l 5 = true := hd ⟨5, .data⟩ (by simp) rfl
            obtain ⟨x, y, xv, hxy⟩ := K.e5 d5
            obtain ⟨S, xs, hS, hB⟩ := K.e7 d7 hl
            subst xv
            subst xs
            have m0 := hB.c 0 (by simp)
            have g0 := hB.f 0 (by simp)
            have m1 := hB.c 1 (by simp)
            have g1 := hB.f 1 (by simp)
            simp only [List.getElem_cons_zero, List.getElem_cons_succ] at m0 m1
            have HK : Hid (SzR wc P R A B c d (fun x y => Alike .f64 x (fl .add .f64 A c) ∧ Alike .f64 y (fl .add .f64 B d)) (fun x y => Alike .f64 x (fl .add .f64 c A) ∧ Alike .f64 y (fl .add .f64 d B)) (l 0) (l 1) (l 2) (l 3) (l 4) (l 5) (l 6) (l 7) (l 8) true v0 v1 v2 v3 v4 (.agg #[.float .f64 x, .float .f64 y]) v6 (.pointer (some ⟨S, 0, none⟩)) ((W.setCell ⟨S, 0, none⟩ (.float .f64 x)).setCell ⟨S, 1, none⟩ (.float .f64 y))) := hide ⟨((K.a.other (by have := K.pl; simp; omega) _).other (by have := K.pl; simp; omega) _), ((K.b.other (by have := K.rl; simp; omega) _).other (by have := K.rl; simp; omega) _), ((K.bel.setCell (by simpa using hS) _).setCell (by simpa using hS) _), (K.pl), (K.rl), (K.e0), (K.e1), (K.e2), (K.e3), (K.e4), (K.e5), (fun h1 h2 => by obtain ⟨T, y1, y2, y3⟩ := K.e6 h1 h2; have hne : S ≠ T := (fun e => K.ne h1 d7 T S y1 rfl e.symm); exact ⟨T, y1, y2, (y3.other (by simpa using hne) _).other (by simpa using hne) _⟩), (fun h => by have h1 := K.n8 h; obtain ⟨T, x', y', y1, y2, y3, y4⟩ := K.f6 h; have hne : S ≠ T := (fun e => K.ne h1 d7 T S y1 rfl e.symm); exact ⟨T, x', y', y1, y2, (y3.other (by simpa using hne) _).other (by simpa using hne) _, y4⟩), (fun _ h => by cases h), (fun _ => ⟨S, x, y, rfl, hS, (hB.set 0 (by simp) _).set 1 (by simp) _, hxy⟩), (K.ne), (K.n8), (fun _ => d7)⟩
            clear K hd hl hB
            go_wp2_with fail
            exact ⟨rfl, SzRJ.mk (unhide HK) (by kernel_rfl)⟩
        rintro l a W hall ⟨v0, v1, v2, v3, v4, v5, v6, v7, rfl, K⟩
        obtain ⟨S1, x1, y1, z1, _, B1, D1⟩ := K.f6 (hall 8 (by simp))
        obtain ⟨T1, x2, y2, z2, _, B2, D2⟩ := K.f7 (hall 9 (by simp))
        subst z1 z2
        have KB := hide K.bel
        have H1 := hide B1
        have H2 := hide B2
        clear K hall B1 B2
        go_wp2_with fail
        go_meet
        case rel => exact ⟨S1, T1, x1, y1, x2, y2, rfl, rfl, (unhide H1).c 0 (by simp), (unhide H1).c 1 (by simp), (unhide H2).c 0 (by simp), (unhide H2).c 1 (by simp), ⟨D1.1.trans (by rw [fl_add_comm A c]; exact D2.1.symm), D1.2.trans (by rw [fl_add_comm B d]; exact D2.2.symm)⟩, unhide KB⟩
      case rest =>
        obtain ⟨S2, T2, x', y', z', u', rfl, rfl, r0, r1, r2, r3, hal, hbd⟩ := hcut
        have AL2 := hide hal
        have HW := hide ((unhide K7).below hbd).bel
        have rr := (unhide RR1) _ hbd
        have q0 := rr.1.1
        have q1 := rr.1.2
        have q2 := rr.2.1
        have q3 := rr.2.2
        clear hal hbd CA1 CA2 K7 RR1 rr a0 a0a a0b a1 a1a a1b b0 b0a b0b b1 b1a b1b
        go_wp2_with fail
        refine (sameBits_any _ _ _ (unhide AL1).1).mono ?_
        rintro e w' ⟨rfl, hw⟩
        subst w'
        go_wp2_with fail
        refine (sameBits_any _ _ _ (unhide AL1).2).mono ?_
        rintro e w' ⟨rfl, hw⟩
        subst w'
        go_wp2_with fail
        refine (sameBits_any _ _ _ (unhide AL2).1).mono ?_
        rintro e w' ⟨rfl, hw⟩
        subst w'
        go_wp2_with fail
        refine (sameBits_any _ _ _ (unhide AL2).2).mono ?_
        rintro e w' ⟨rfl, hw⟩
        subst w'
        clear r0 r1 r2 r3 q0 q1 q2 q3 AL1 AL2
        go_wp2_with fail
        refine ((unhide DR) _ (unhide HW)).mono ?_
        rintro e w10 ⟨b, n, cp, ps, rs, rfl, rr, hn5, rk, b10⟩
        have hl := rr.len_eq
        have hfB : fromB ps = true := decide_eq_true (by omega)
        have RR := hide rr
        have RK := hide rk
        have HW10 := hide ((unhide HW).trans (b10.mono (unhide HW).size))
        have HL := hide hl
        clear rr rk b10 HW DR hl
        go_wp2_with fail
        refine (implFromRoots_any b n cp ps w10 (unhide RR)).mono ?_
        rintro e w11 ⟨v, q, rfl, ov, haq, b11⟩
        rw [hfB]
        have PZ := poly_zero (r := fun k => elAt rs k) hn5 (unhide HL) (fun k hk => ((unhide RK).ok k (by rw [unhide HL]; exact hk)).1) (fun k hk => ((unhide RK).ok k (by rw [unhide HL]; exact hk)).2) haq
        obtain ⟨g, cg, hv⟩ : ∃ g cg, v = .slice (some ⟨g, 0, none⟩) (n + 1) cg := by
          rcases ov.form with ⟨_, e⟩ | ⟨g', c', e, _⟩
          · have := PZ.1; rw [e] at this; simp at this
          · rw [PZ.1] at e; exact ⟨g', c', e⟩
        subst hv
        have RQ := hide ov.row
        have HPZ := hide PZ
        have RR := hide ((unhide RR).below b11)
        have HW11 := hide ((unhide HW10).trans (b11.mono (unhide HW10).size))
        have hnI : (n : Int) ≤ 5 := by omega
        clear ov haq b11 PZ HW10 hfB
        go_wp2_with fail
        go_loopw [14] (fun i wr => ∃ k : Nat, i = .int .i64 (k : Int) ∧ k ≤ n ∧ Hid (Below w11.heap.size w11 wr)) (fun i _ => n - (intOf i).toNat)
        case atStart => exact ⟨0, rfl, Nat.zero_le _, hide (Below.refl _ _)⟩
        case round =>
          obtain ⟨k, rfl, hk, BR⟩ := hrel
          by_cases hlt : k < n
          · have hlt2 : (k : Int) < (n : Int) := by omega
            have hk0 : (0 : Int) ≤ (k : Int) := by omega
            obtain ⟨bb, off, eb, m0, m1⟩ := ((unhide RR).below (unhide BR)).cells k hlt
            subst eb
            obtain ⟨pz1, pz2, pz3⟩ := (unhide HPZ).2.2 k hlt
            have P2 := hide pz2
            have P3 := hide pz3
            have RQr := hide ((unhide RQ).below (unhide BR))
            obtain ⟨re, hre⟩ : ∃ x, reAt ps k = x := ⟨_, rfl⟩
            obtain ⟨im, him⟩ : ∃ x, imAt ps k = x := ⟨_, rfl⟩
            rw [hre, him] at P2 P3
            rw [hre] at m0
            rw [him] at m1
            clear pz2 pz3 hre him
            go_wp2_with fail
            refine (implPoly_any _ _ cg q re im wr (unhide RQr)).mono ?_
            rintro e w12 ⟨px, py, rfl, hx, hy, b12⟩
            rw [pz1]
            have I1 := hide (iv_alike (unhide P2) hx)
            have I2 := hide (iv_alike (unhide P3) hy)
            obtain ⟨X, hX⟩ : ∃ S, w12.heap.size = S := ⟨_, rfl⟩
            obtain ⟨V13, hV13⟩ : ∃ V, V = w12.alloc (Obj.cells #[.float .f64 px, .float .f64 py] 31) := ⟨_, rfl⟩
            have b13 : Below w12.heap.size w12 V13 := by rw [hV13]; exact bel1 _
            have KX : Hid (Blk V13 X [.float .f64 px, .float .f64 py]) := hide (by rw [hV13, ← hX]; exact Blk.new _ _)
            have B13 := hide ((unhide BR).trans ((b12.trans (b13.mono b12.size)).mono (unhide BR).size))
            have HV13 := hide hV13
            have HX := hide hX
            clear b12 b13 hV13 hX hx hy m0 m1 pz1 RQr P2 P3
            go_upto_region 20 with fail
            rw [← unhide HV13, unhide HX]
            clear HV13 HX
            have e0 : V13.cell? ⟨X, 0, none⟩ = some (.float .f64 px) := (unhide KX).c 0 (by simp)
            have e1 : V13.cell? ⟨X, 1, none⟩ = some (.float .f64 py) := (unhide KX).c 1 (by simp)
            have c0 : (FloatKind.f64.format.order px 0 != some .eq) = false := by rw [bne, iv_eq (unhide I1) iv_zero]; rfl
            have c1 : (FloatKind.f64.format.order py 0 != some .eq) = false := by rw [bne, iv_eq (unhide I2) iv_zero]; rfl
            go_wp2_with fail
            go_roundw
            case rel => exact ⟨k + 1, by go_num, by omega, B13⟩
            case measure => simp [intOf]; omega
          · obtain rfl : k = n := by omega
            have hlt2 : ¬ (k : Int) < (k : Int) := by omega
            have RR := hide ((unhide RR).below (unhide BR))
            have RQ := hide ((unhide RQ).below (unhide BR))
            have HWr := hide ((unhide HW11).trans ((unhide BR).mono (unhide HW11).size))
            have hsee : ∀ m, m ≤ ps.length → seenTo ps m = true := fun m hm => by
              induction m with
              | zero => rfl
              | succ m ih =>
                rw [seenTo_succ, ih (by omega)]
                have g := ((unhide RK).ok m (by omega)).2
                unfold nanAt
                rw [(iv_fin g.1).1, (iv_fin g.2).1]
                rfl
            have hdB : dampB ps = true := by
              unfold dampB
              rw [hsee _ (Nat.le_refl _), Bool.and_true]
              exact decide_eq_true (by have := unhide HL; omega)
            have hdN : dampN ps = (dampTo ps k : Int) := by unfold dampN; rw [hdB, unhide HL]; rfl
            have HDN := hide hdN
            clear hsee hdN BR HW11 hk hlt
            go_wp2_with fail
            refine (implDamped_any b k cp ps wr (unhide RR)).mono ?_
            rintro e w14 ⟨rfl, b14⟩
            rw [hdB, unhide HDN]
            have RR := hide ((unhide RR).below b14)
            have RQ := hide ((unhide RQ).below b14)
            have HW14 := hide ((unhide HWr).trans (b14.mono (unhide HWr).size))
            obtain ⟨DN, hDN⟩ : ∃ x, (dampTo ps k : Int) = x := ⟨_, rfl⟩
            rw [hDN]
            have HDN2 := hide hDN
            clear b14 HWr hDN HDN hdB hlt2
            go_wp2_with fail
            go_loopw [19, 20] (fun m i wr => ∃ t : Nat, m = .int .i64 (dampTo ps t : Int) ∧ i = .int .i64 (t : Int) ∧ t ≤ k ∧ wr = w14) (fun _ i _ => k - (intOf i).toNat)
            case atStart => exact ⟨0, rfl, rfl, Nat.zero_le _, rfl⟩
            case round =>
              obtain ⟨t, rfl, rfl, ht, hwr⟩ := hrel
              subst hwr
              have hdt := dampTo_le ps t
              by_cases hlt : t < k
              · have hlt2 : (t : Int) < (k : Int) := by omega
                have ht0 : (0 : Int) ≤ (t : Int) := by omega
                obtain ⟨bb, off, eb, m0, _⟩ := (unhide RR).cells t hlt
                subst eb
                have hds := dampTo_succ ps t
                obtain ⟨re, hre⟩ : ∃ x, reAt ps t = x := ⟨_, rfl⟩
                obtain ⟨M, hM⟩ : ∃ x : Nat, dampTo ps t = x := ⟨_, rfl⟩
                rw [hM] at hds hdt ⊢
                rw [hre] at m0
                cases hlo : lowAt ps t with
                | false =>
                  have lo : (FloatKind.f64.format.order re 0 == some .lt) = false := by unfold lowAt at hlo; rw [hre] at hlo; exact hlo
                  rw [hlo] at hds
                  have HDS := hide hds
                  clear hds hre hM
                  go_wp2_with fail
                  go_roundw
                  case rel => exact ⟨t + 1, by rw [unhide HDS]; rfl, by go_num, by omega, by first | rfl | trivial⟩
                  case measure => simp [intOf]; omega
                | true =>
                  have lo : (FloatKind.f64.format.order re 0 == some .lt) = true := by unfold lowAt at hlo; rw [hre] at hlo; exact hlo
                  rw [hlo] at hds
                  have HDS := hide hds
                  have hM5 : (M : Int) ≤ 5 := by omega
                  clear hds hre hM
                  go_wp2_with fail
                  go_roundw
                  case rel => exact ⟨t + 1, by rw [unhide HDS]; simp, by go_num, by omega, by first | rfl | trivial⟩
                  case measure => simp [intOf]; omega
              · obtain rfl : t = k := by omega
                have hlt2 : ¬ (t : Int) < (t : Int) := by omega
                rw [unhide HDN2]
                obtain ⟨bb, off, eb, m0, m1⟩ := (unhide RQ).cells 0 (by omega)
                simp only [Option.some.injEq, Addr.mk.injEq, and_true] at eb
                obtain ⟨rfl, rfl⟩ := eb
                have pz := (unhide HPZ).2.1
                obtain ⟨re, hre⟩ : ∃ x, reAt q 0 = x := ⟨_, rfl⟩
                obtain ⟨im, him⟩ : ∃ x, imAt q 0 = x := ⟨_, rfl⟩
                rw [hre, him] at pz
                rw [hre] at m0
                rw [him] at m1
                have n0 : wr.cell? ⟨g, 0, none⟩ = some (.float .f64 re) := by simpa using m0
                have n1 : wr.cell? ⟨g, 1, none⟩ = some (.float .f64 im) := by simpa using m1
                have c0 := iv_eq pz.1 iv_one
                have c1 := iv_eq pz.2 iv_zero
                have hz1 : (0 : Int) < (t : Int) + 1 := by omega
                clear hre him pz m0 m1
                go_wp2_with fail
                go_ret
                exact ⟨rfl, unhide HW14⟩

theorem lawFnSizes (a : Option Addr) (len cap : Nat) (w : World) (hb : Bytes w a len) (hin : ∀ b off, a = some ⟨b, off, none⟩ → b < w.heap.size) :
    Calls Try.prog 3 #[.slice a len cap] w fun e w' => e = .returned (.bool true) ∧ Below w.heap.size w w' := by
  by_cases h : (1048576 : Int) < len
  · exact lawFnSizes_big a len cap w h
  · exact lawFnSizes_small a len cap w h hb hin

end Go.Proofs.Ytomcbbpaajpeiaa

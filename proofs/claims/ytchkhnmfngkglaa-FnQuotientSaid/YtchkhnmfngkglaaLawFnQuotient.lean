/-
  The law FnQuotient returns true at every list of bytes and writes nothing that was there: the walk. No condition.
-/
import Derived.Test.YtchkhnmfngkglaaQuoFact
import Derived.Test.YtchkhnmfngkglaaOverImpl
import Derived.Test.YtchkhnmfngkglaaLawCxSame
import Derived.Test.YtchkhnmfngkglaaFlut
import Derived.Test.YtchkhnmfngkglaaSt8
import Derived.Test.YtchkhnmfngkglaaAtFix
import Derived.Deep.CutRange
import Derived.Deep.RegionLaw
namespace Go.Proofs.Ytchkhnmfngkglaa
open Go Go.RowKit
attribute [local go_sem] run_store_float

theorem run_add_all {P : Program} (t : TypeId) : ∃ (F N : Nat → Nat → World → Nat), (∀ x y w, (binOp .add t (.float .f64 x) (.float .f64 y)).run P w = .ok (.float .f64 (F x y w)) (w.drewN (N x y w))) ∧ ∀ x y w, Alike .f64 (F x y w) (fl .add .f64 x y) := by
  have h := fun (x y : Nat) (w : World) => run_arith (P := P) w (op := .add) (by decide) .f64 x y
  exact ⟨fun x y w => (h x y w).choose, fun x y w => (h x y w).choose_spec.choose, fun x y w => by simpa [binOp] using (h x y w).choose_spec.choose_spec.1, fun x y w => (h x y w).choose_spec.choose_spec.2⟩
/-- What the walk knows of a world: the two numbers' boxes, and that nothing that was there has turned. -/
structure Qk (w : World) (G S A B c d : Nat) (W : World) : Prop where
  a : Blk W G [(.float .f64 A), (.float .f64 B)]
  b : Blk W S [(.float .f64 c), (.float .f64 d)]
  bel : Below w.heap.size w W
theorem Qk.below {w : World} {G S A B c d : Nat} {W W' : World} (h : Qk w G S A B c d W) (k : Below W.heap.size W W') : Qk w G S A B c d W' := ⟨h.a.below k, h.b.below k, h.bel.trans (k.mono h.bel.size)⟩
theorem qkNew {V w3 : World} {u0 u1 : Value} {T : TypeId} (b3 : Below (V.alloc (Obj.cells #[u0, u1] T)).heap.size (V.alloc (Obj.cells #[u0, u1] T)) w3) : w3.cell? ⟨V.heap.size, 0, none⟩ = some u0 ∧ w3.cell? ⟨V.heap.size, 1, none⟩ = some u1 ∧ w3.frozen? ⟨V.heap.size, 0, none⟩ = false ∧ w3.frozen? ⟨V.heap.size, 1, none⟩ = false ∧ V.heap.size < w3.heap.size := by
  have hl : V.heap.size < (V.alloc (Obj.cells #[u0, u1] T)).heap.size := by simp
  exact ⟨(b3.cell (p := ⟨V.heap.size, 0, none⟩) hl).trans (by simp [go_sem]), (b3.cell (p := ⟨V.heap.size, 1, none⟩) hl).trans (by simp [go_sem]), (b3.frozen (p := ⟨V.heap.size, 0, none⟩) hl).trans (by simp [go_sem]), (b3.frozen (p := ⟨V.heap.size, 1, none⟩) hl).trans (by simp [go_sem]), Nat.lt_of_lt_of_le hl b3.size⟩
theorem qkNewD {V w3 : World} {u0 u1 : Value} {T : TypeId} (b3 : Below (V.alloc (Obj.cells #[u0, u1] T)).drew.heap.size (V.alloc (Obj.cells #[u0, u1] T)).drew w3) : w3.cell? ⟨V.heap.size, 0, none⟩ = some u0 ∧ w3.cell? ⟨V.heap.size, 1, none⟩ = some u1 ∧ w3.frozen? ⟨V.heap.size, 0, none⟩ = false ∧ w3.frozen? ⟨V.heap.size, 1, none⟩ = false ∧ V.heap.size < w3.heap.size :=
  qkNew (T := T) ((bel0d' 1).trans b3)
theorem qkStill {V w3 : World} {S : Nat} {u0 u1 : Value} (h : V.cell? ⟨S, 0, none⟩ = some u0 ∧ V.cell? ⟨S, 1, none⟩ = some u1 ∧ V.frozen? ⟨S, 0, none⟩ = false ∧ V.frozen? ⟨S, 1, none⟩ = false ∧ S < V.heap.size) (b3 : Below V.heap.size V w3) : w3.cell? ⟨S, 0, none⟩ = some u0 ∧ w3.cell? ⟨S, 1, none⟩ = some u1 ∧ w3.frozen? ⟨S, 0, none⟩ = false ∧ w3.frozen? ⟨S, 1, none⟩ = false ∧ S < w3.heap.size := by
  obtain ⟨h0, h1, f0, f1, hl⟩ := h
  exact ⟨(b3.cell (p := ⟨S, 0, none⟩) hl).trans h0, (b3.cell (p := ⟨S, 1, none⟩) hl).trans h1, (b3.frozen (p := ⟨S, 0, none⟩) hl).trans f0, (b3.frozen (p := ⟨S, 1, none⟩) hl).trans f1, Nat.lt_of_lt_of_le hl b3.size⟩

set_option maxRecDepth 20000 in
set_option maxHeartbeats 1000000 in
theorem lawFnQuotient_big (a : Option Addr) (len cap : Nat) (w : World) (h : (1048576 : Int) < len) :
    Calls Try.prog 4 #[.slice a len cap] w fun e w' => e = .returned (.bool true) ∧ Below w.heap.size w w' := by
  have hd : decide ((1048576 : Int) < len) = true := by simpa using h
  clear h
  go_enter Try.func4, Try.ntmps4
  go_wp2_with fail
  refine (big_any a len cap _).mono ?_
  rintro e w' ⟨rfl, hw⟩
  subst w'
  rw [hd]
  go_wp2
  go_ret
  exact ⟨rfl, Below.refl _ _⟩

set_option maxRecDepth 20000 in
set_option maxHeartbeats 16000000 in
theorem lawFnQuotient_small (a : Option Addr) (len cap : Nat) (w : World) (h : ¬ (1048576 : Int) < len) (hb : Bytes w a len) (_hin : ∀ b off, a = some ⟨b, off, none⟩ → b < w.heap.size) :
    Calls Try.prog 4 #[.slice a len cap] w fun e w' => e = .returned (.bool true) ∧ Below w.heap.size w w' := by
  have hd0 : decide ((1048576 : Int) < len) = false := by simpa using h
  obtain ⟨y0, hy0, at0⟩ := at_fix a len cap 0 w hb (by omega) (by omega)
  obtain ⟨y1, hy1, at1⟩ := at_fix a len cap 1 w hb (by omega) (by omega)
  obtain ⟨y2, hy2, at2⟩ := at_fix a len cap 2 w hb (by omega) (by omega)
  have AT0 := hide at0
  have AT1 := hide at1
  have AT2 := hide at2
  have hfi : ∀ n : Int, floatOfInt .f64 n = fint n := fun _ => rfl
  clear hb h at0 at1 at2
  go_enter Try.func4, Try.ntmps4
  go_wp2_with fail
  refine (big_any a len cap _).mono ?_
  rintro e w' ⟨rfl, hw⟩
  subst w'
  rw [hd0]
  go_wp2_with fail
  refine ((unhide AT0) w (Below.refl _ _)).mono ?_
  rintro e w' ⟨rfl, hw⟩
  subst w'
  go_wp2_with fail
  refine ((unhide AT1) w (Below.refl _ _)).mono ?_
  rintro e w' ⟨rfl, hw⟩
  subst w'
  clear AT0 AT1
  go_upto_region 4 with fail
  obtain ⟨p, hp⟩ : ∃ p, y0 - 128 = p := ⟨_, rfl⟩
  obtain ⟨q, hq⟩ : ∃ p, y1 - 128 = p := ⟨_, rfl⟩
  rw [hp, hq]
  have hpb : -128 ≤ p ∧ p ≤ 128 := by omega
  have hqb : -128 ≤ q ∧ q ≤ 128 := by omega
  obtain ⟨A, hA⟩ : ∃ p', fint p = p' := ⟨_, rfl⟩
  obtain ⟨B, hB⟩ : ∃ p', fint q = p' := ⟨_, rfl⟩
  have IA : Hid (Iv A p) := hide (by rw [← hA]; exact iv_fint (small_fit (by omega)))
  have IB : Hid (Iv B q) := hide (by rw [← hB]; exact iv_fint (small_fit (by omega)))
  rw [hA, hB]
  have HPQ := hide (show (-128 ≤ p ∧ p ≤ 128) ∧ -128 ≤ q ∧ q ≤ 128 from ⟨hpb, hqb⟩)
  clear hA hB hp hq hfi hy0 hy1 hpb hqb
  obtain ⟨G, hG⟩ : ∃ G, w.heap.size = G := ⟨_, rfl⟩
  obtain ⟨V, hV⟩ : ∃ V, V = w.alloc (Obj.cells #[(.float .f64 A), (.float .f64 B)] 31) := ⟨_, rfl⟩
  have bV : Below w.heap.size w V := by rw [hV]; exact bel1 _
  have KA : Hid (Blk V G [(.float .f64 A), (.float .f64 B)]) := hide (by rw [hV, ← hG]; exact Blk.new _ _)
  have BV := hide bV
  rw [hG, ← hV]
  clear bV hV hG
  go_upto_region 5 with fail
  obtain ⟨m, hm, hmb⟩ : ∃ m : Nat, y2 % 6 = (m : Int) ∧ m < 6 := ⟨(y2 % 6).toNat, by omega, by omega⟩
  go_cut [5] from 16 to 41 (fun s wc => ∃ S c d ci di, s = .pointer (some ⟨S, 0, none⟩) ∧ Blk wc S [(.float .f64 c), (.float .f64 d)] ∧ Un c d ci di ∧ Below V.heap.size V wc)
  case first =>
    go_wp2_with fail
    refine ((unhide AT2) _ (((unhide BV)).alloc (unhide BV).size _)).mono ?_
    rintro e w' ⟨rfl, hw⟩
    subst w'
    rcases (show m = 0 ∨ m = 1 ∨ m = 2 ∨ m = 3 ∨ m = 4 ∨ m = 5 by omega) with rfl | rfl | rfl | rfl | rfl | rfl
    · go_wp2_with fail
      go_meet
      case rel =>
        refine ⟨V.heap.size + 1, 4607182418800017408, 0, 1, 0, ?_, ?_, un0, bel2 _ _⟩
        · first | rfl | simp
        · have k := Blk.new (w := V.alloc (Obj.cells #[.float .f64 4607182418800017408, .float .f64 0, .float .f64 4611686018427387904, .float .f64 0, .float .f64 0, .float .f64 4607182418800017408, .float .f64 13839561654909534208, .float .f64 0, .float .f64 0, .float .f64 13835058055282163712, .float .f64 4607182418800017408, .float .f64 4607182418800017408] 31)) [.float .f64 4607182418800017408, .float .f64 0] 31; simpa using k
    · go_wp2_with fail
      go_meet
      case rel =>
        refine ⟨V.heap.size + 1, 4611686018427387904, 0, 2, 0, ?_, ?_, un1, bel2 _ _⟩
        · first | rfl | simp
        · have k := Blk.new (w := V.alloc (Obj.cells #[.float .f64 4607182418800017408, .float .f64 0, .float .f64 4611686018427387904, .float .f64 0, .float .f64 0, .float .f64 4607182418800017408, .float .f64 13839561654909534208, .float .f64 0, .float .f64 0, .float .f64 13835058055282163712, .float .f64 4607182418800017408, .float .f64 4607182418800017408] 31)) [.float .f64 4611686018427387904, .float .f64 0] 31; simpa using k
    · go_wp2_with fail
      go_meet
      case rel =>
        refine ⟨V.heap.size + 1, 0, 4607182418800017408, 0, 1, ?_, ?_, un2, bel2 _ _⟩
        · first | rfl | simp
        · have k := Blk.new (w := V.alloc (Obj.cells #[.float .f64 4607182418800017408, .float .f64 0, .float .f64 4611686018427387904, .float .f64 0, .float .f64 0, .float .f64 4607182418800017408, .float .f64 13839561654909534208, .float .f64 0, .float .f64 0, .float .f64 13835058055282163712, .float .f64 4607182418800017408, .float .f64 4607182418800017408] 31)) [.float .f64 0, .float .f64 4607182418800017408] 31; simpa using k
    · go_wp2_with fail
      go_meet
      case rel =>
        refine ⟨V.heap.size + 1, 13839561654909534208, 0, (-4), 0, ?_, ?_, un3, bel2 _ _⟩
        · first | rfl | simp
        · have k := Blk.new (w := V.alloc (Obj.cells #[.float .f64 4607182418800017408, .float .f64 0, .float .f64 4611686018427387904, .float .f64 0, .float .f64 0, .float .f64 4607182418800017408, .float .f64 13839561654909534208, .float .f64 0, .float .f64 0, .float .f64 13835058055282163712, .float .f64 4607182418800017408, .float .f64 4607182418800017408] 31)) [.float .f64 13839561654909534208, .float .f64 0] 31; simpa using k
    · go_wp2_with fail
      go_meet
      case rel =>
        refine ⟨V.heap.size + 1, 0, 13835058055282163712, 0, (-2), ?_, ?_, un4, bel2 _ _⟩
        · first | rfl | simp
        · have k := Blk.new (w := V.alloc (Obj.cells #[.float .f64 4607182418800017408, .float .f64 0, .float .f64 4611686018427387904, .float .f64 0, .float .f64 0, .float .f64 4607182418800017408, .float .f64 13839561654909534208, .float .f64 0, .float .f64 0, .float .f64 13835058055282163712, .float .f64 4607182418800017408, .float .f64 4607182418800017408] 31)) [.float .f64 0, .float .f64 13835058055282163712] 31; simpa using k
    · go_wp2_with fail
      go_meet
      case rel =>
        refine ⟨V.heap.size + 1, 4607182418800017408, 4607182418800017408, 1, 1, ?_, ?_, un5, bel2 _ _⟩
        · first | rfl | simp
        · have k := Blk.new (w := V.alloc (Obj.cells #[.float .f64 4607182418800017408, .float .f64 0, .float .f64 4611686018427387904, .float .f64 0, .float .f64 0, .float .f64 4607182418800017408, .float .f64 13839561654909534208, .float .f64 0, .float .f64 0, .float .f64 13835058055282163712, .float .f64 4607182418800017408, .float .f64 4607182418800017408] 31)) [.float .f64 4607182418800017408, .float .f64 4607182418800017408] 31; simpa using k
  case rest =>
    obtain ⟨S, c, d, ci, di, rfl, hS, hun, hbc⟩ := hcut
    have UN := hide hun
    have KU : Hid (Qk w G S A B c d wc) := hide ⟨(unhide KA).below hbc, hS, (unhide BV).trans (hbc.mono (unhide BV).size)⟩
    clear hS hun hbc KA BV hm hmb AT2
    have CT : Hid (∀ W, Below wc.heap.size wc W → Calls Try.prog 10 #[.agg #[(.float .f64 A), (.float .f64 B)], .agg #[(.float .f64 c), (.float .f64 d)]] W fun e w' => ∃ x y, e = .returned (.agg #[.float .f64 x, .float .f64 y]) ∧ (Iv x (p * ci - q * di) ∧ Iv y (p * di + q * ci)) ∧ Below W.heap.size W w' ∧ Below wc.heap.size wc w') := hide (fun W bW => by
      refine (implCxTimes_any A B c d W).mono ?_
      rintro e w' ⟨x, y, rfl, hx, hy, b⟩
      have u := unhide UN
      exact ⟨x, y, rfl, ⟨iv_alike (iv_tRe (A := 128) (B := 4) (unhide IA) (unhide IB) u.c u.d (unhide HPQ).1 (unhide HPQ).2 u.b.1 u.b.2 (by omega) (by omega)) hx, iv_alike (iv_tIm (A := 128) (B := 4) (unhide IA) (unhide IB) u.c u.d (unhide HPQ).1 (unhide HPQ).2 u.b.1 u.b.2 (by omega) (by omega)) hy⟩, b, bW.trans (b.mono bW.size)⟩)
    have CO : Hid (∀ x y, (Iv x (p * ci - q * di) ∧ Iv y (p * di + q * ci)) → ∀ W, Below wc.heap.size wc W → Calls Try.prog 18 #[.agg #[.float .f64 x, .float .f64 y], .agg #[(.float .f64 c), (.float .f64 d)]] W fun e w' => ∃ x' y', e = .returned (.tuple #[.agg #[.float .f64 x', .float .f64 y'], .bool true]) ∧ (Iv x' p ∧ Iv y' q) ∧ Below W.heap.size W w' ∧ Below wc.heap.size wc w') := hide (fun x y hxy W bW => by
      refine (implCxOver_any x y c d W).mono ?_
      rintro e w' ⟨x', y', rfl, hx, hy, b⟩
      obtain ⟨o1, o2, o3⟩ := quo_back (unhide UN) (unhide HPQ).1 (unhide HPQ).2 hxy.1 hxy.2
      exact ⟨x', y', by rw [o1], ⟨iv_alike o2 hx, iv_alike o3 hy⟩, b, bW.trans (b.mono bW.size)⟩)
    have a0 : wc.cell? ⟨G, 0, none⟩ = some (.float .f64 A) := ((unhide KU).a).c 0 (by simp)
    have a0a : ∀ o, (wc.alloc o).cell? ⟨G, 0, none⟩ = some (.float .f64 A) := fun o => (((unhide KU).a).alloc o).c 0 (by simp)
    have a1 : wc.cell? ⟨G, 1, none⟩ = some (.float .f64 B) := ((unhide KU).a).c 1 (by simp)
    have a1a : ∀ o, (wc.alloc o).cell? ⟨G, 1, none⟩ = some (.float .f64 B) := fun o => (((unhide KU).a).alloc o).c 1 (by simp)
    have b0 : wc.cell? ⟨S, 0, none⟩ = some (.float .f64 c) := ((unhide KU).b).c 0 (by simp)
    have b0a : ∀ o, (wc.alloc o).cell? ⟨S, 0, none⟩ = some (.float .f64 c) := fun o => (((unhide KU).b).alloc o).c 0 (by simp)
    have b1 : wc.cell? ⟨S, 1, none⟩ = some (.float .f64 d) := ((unhide KU).b).c 1 (by simp)
    have b1a : ∀ o, (wc.alloc o).cell? ⟨S, 1, none⟩ = some (.float .f64 d) := fun o => (((unhide KU).b).alloc o).c 1 (by simp)
    go_upto_region 6 with fail
    go_cut [6, 7] from 42 to 49 (fun s f wd => ∃ R x y, s = .pointer (some ⟨R, 0, none⟩) ∧ f = .bool true ∧ wd.cell? ⟨R, 0, none⟩ = some (.float .f64 x) ∧ wd.cell? ⟨R, 1, none⟩ = some (.float .f64 y) ∧ Iv x p ∧ Iv y q ∧ Below wc.heap.size wc wd)
    case first =>
      go_region_law (first
        | ((fail_if_success have := D1); go_simp; go_wp2_with (go_at_call 10; refine (unhide CT _ (by repeat (first | exact Below.refl _ _ | refine Below.alloc ?_ (by first | omega | (simp; omega) | (simp; done)) _ | refine Below.trans ?_ (bel0d' _) | refine Below.drew ?_))).mono ?_; rintro e u1 ⟨x1, y1, rfl, hxy, b5, bb5⟩; have D1 := hide hxy; have z5 := bb5.size; have KU1 := hide ((unhide KU).below bb5); (first | (have hs := qkNew b5) | (have hs := qkNewD b5) | skip); have c0 : u1.cell? ⟨G, 0, none⟩ = some (.float .f64 A) := ((unhide KU1).a).c 0 (by simp); have c0a : ∀ o, (u1.alloc o).cell? ⟨G, 0, none⟩ = some (.float .f64 A) := fun o => (((unhide KU1).a).alloc o).c 0 (by simp); have c1 : u1.cell? ⟨G, 1, none⟩ = some (.float .f64 B) := ((unhide KU1).a).c 1 (by simp); have c1a : ∀ o, (u1.alloc o).cell? ⟨G, 1, none⟩ = some (.float .f64 B) := fun o => (((unhide KU1).a).alloc o).c 1 (by simp); have d0 : u1.cell? ⟨S, 0, none⟩ = some (.float .f64 c) := ((unhide KU1).b).c 0 (by simp); have d0a : ∀ o, (u1.alloc o).cell? ⟨S, 0, none⟩ = some (.float .f64 c) := fun o => (((unhide KU1).b).alloc o).c 0 (by simp); have d1 : u1.cell? ⟨S, 1, none⟩ = some (.float .f64 d) := ((unhide KU1).b).c 1 (by simp); have d1a : ∀ o, (u1.alloc o).cell? ⟨S, 1, none⟩ = some (.float .f64 d) := fun o => (((unhide KU1).b).alloc o).c 1 (by simp); clear hxy b5))
        | ((fail_if_success (fail_if_success have := D1)); go_simp; go_wp2_with (go_at_call 18; refine (unhide CO _ _ (unhide D1) _ (by repeat (first | exact Below.refl _ _ | exact bb5 | refine Below.alloc ?_ (by first | omega | (simp; omega) | (simp; done)) _ | refine Below.trans ?_ (bel0d' _) | refine Below.drew ?_))).mono ?_; rintro e u2 ⟨x2, y2, rfl, hxy, b6, bb6⟩; have D2 := hide hxy; have z6 := bb6.size; (first | (have hs := qkNew b6; obtain ⟨s0, s1, g0, g1, ls⟩ := hs) | (have hs := qkNewD b6; obtain ⟨s0, s1, g0, g1, ls⟩ := hs) | (have hs := qkStill hs b6; obtain ⟨s0, s1, g0, g1, ls⟩ := hs) | (have hs := qkStill hs ((bel0d' 1).trans b6); obtain ⟨s0, s1, g0, g1, ls⟩ := hs) | skip); clear hxy b6)))
      all_goals
        go_wp2_with fail
        go_meet
        case rel => exact ⟨_, x2, y2, rfl, rfl, by simp [go_sem, *], by simp [go_sem, *], (unhide D2).1, (unhide D2).2, by repeat (first | exact bb6 | refine Below.setCell ?_ (by first | omega | (simp; omega) | (simp; done)) _ | refine Below.alloc ?_ (by first | omega | (simp; omega) | (simp; done)) _ | refine Below.trans ?_ (bel0d' _))⟩
    case rest =>
      obtain ⟨R, x, y, rfl, rfl, r0, r1, hx, hy, hbd⟩ := hcut
      have IX := hide hx
      have IY := hide hy
      have KD := hide ((unhide KU).below hbd)
      have RR : Hid (∀ W, Below wc.heap.size wc W → W.cell? ⟨R, 0, none⟩ = some (.float .f64 x) ∧ W.cell? ⟨R, 1, none⟩ = some (.float .f64 y)) := hide (fun W b => ⟨(b.cell (p := ⟨R, 0, none⟩) (block_lt_of_cell r0)).trans r0, (b.cell (p := ⟨R, 1, none⟩) (block_lt_of_cell r1)).trans r1⟩)
      clear r0 r1 hx hy hbd KU CT CO a0 a1 b0 b1 a0a a1a b0a b1a
      have a0 : wc.cell? ⟨G, 0, none⟩ = some (.float .f64 A) := ((unhide KD).a).c 0 (by simp)
      have a1 : wc.cell? ⟨G, 1, none⟩ = some (.float .f64 B) := ((unhide KD).a).c 1 (by simp)
      go_wp2_with fail
      refine (implCxOver_any A B 0 0 _).mono ?_
      rintro e w7 ⟨x7, y7, rfl, _, _, b7⟩
      rw [quo_none]
      obtain ⟨V8, hV8⟩ : ∃ V, V = w7.alloc (Obj.cells #[.float .f64 x7, .float .f64 y7] 31) := ⟨_, rfl⟩
      have b8 : Below w7.heap.size w7 V8 := by rw [hV8]; exact bel1 _
      have BB8 := hide (b7.trans (b8.mono b7.size))
      have K8 := hide ((unhide KD).below (unhide BB8))
      have HV8 := hide hV8
      clear b7 b8 hV8 KD a0 a1
      go_upto_region 8 with fail
      rw [← unhide HV8]
      clear HV8
      go_wp2_with fail
      refine (implSteps4_turn V8).mono ?_
      rintro e w9 ⟨aS, cS, rfl, oS, b9⟩
      obtain ⟨g, eS⟩ : ∃ g, aS = some ⟨g, 0, none⟩ := by
        rcases oS.form with ⟨e, _⟩ | ⟨g', c', e, _⟩
        · simp only [Value.slice.injEq] at e; omega
        · simp only [Value.slice.injEq] at e; exact ⟨g', e.1⟩
      subst eS
      have OS := hide oS
      have BB9 := hide ((unhide BB8).trans (b9.mono (unhide BB8).size))
      have K9 := hide ((unhide K8).below b9)
      clear oS b9 K8 BB8
      have a0 : w9.cell? ⟨G, 0, none⟩ = some (.float .f64 A) := ((unhide K9).a).c 0 (by simp)
      have a1 : w9.cell? ⟨G, 1, none⟩ = some (.float .f64 B) := ((unhide K9).a).c 1 (by simp)
      have r0 := ((unhide RR) _ (unhide BB9)).1
      have r1 := ((unhide RR) _ (unhide BB9)).2
      go_wp2_with fail
      refine (implCxSame_any x y A B _).mono ?_
      rintro e w10 ⟨rfl, b10⟩
      have hsame : sameB x y A B = true := by unfold sameB; rw [iv_eq (unhide IX) (unhide IA), iv_eq (unhide IY) (unhide IB)]; rfl
      rw [hsame]
      have OS := hide ((unhide OS).below b10)
      have K10 := hide ((unhide K9).below b10)
      clear b10 hsame K9 BB9 RR a0 a1 r0 r1 IX IY
      go_wp2_with fail
      go_loopw [12] (fun i wr => ∃ t : Nat, i = .int .i64 (t : Int) ∧ t ≤ 9 ∧ Hid (Below w10.heap.size w10 wr)) (fun i _ => 9 - (intOf i).toNat)
      case atStart => exact ⟨0, rfl, by omega, hide (Below.refl _ _)⟩
      case round =>
        obtain ⟨t, rfl, ht, BR⟩ := hrel
        by_cases hlt : t < 9
        · have hlt2 : (t : Int) < 9 := by omega
          have ht0 : (0 : Int) ≤ (t : Int) := by omega
          obtain ⟨m, hm⟩ : ∃ m : Nat, t % 4 = m := ⟨_, rfl⟩
          have hmI : (t : Int) % 4 = (m : Int) := by omega
          have hm0 : (0 : Int) ≤ (m : Int) := by omega
          have hm9 : (m : Int) < 9 := by omega
          have hmN : m < 9 := by omega
          have OR := (unhide OS).below (unhide BR)
          have f1 := fun q (hq : q < 2) => (OR.here (shL_len 9) t hlt q hq).1
          have f2 := fun q (hq : q < 2) => (OR.here (shL_len 9) m hmN q hq).1
          rw [shL_at hlt] at f1
          rw [shL_at hmN] at f2
          have ss := sh_same ⟨t, hlt⟩
          simp only at ss
          rw [hm] at ss
          obtain ⟨ra, hra⟩ : ∃ x, shR t = x := ⟨_, rfl⟩
          obtain ⟨ia, hia⟩ : ∃ x, shI t = x := ⟨_, rfl⟩
          obtain ⟨rb, hrb⟩ : ∃ x, shR m = x := ⟨_, rfl⟩
          obtain ⟨ib, hib⟩ : ∃ x, shI m = x := ⟨_, rfl⟩
          rw [hra, hia] at f1
          rw [hrb, hib] at f2
          rw [hra, hia, hrb, hib] at ss
          have u0 : wr.cell? ⟨g, t * 2, none⟩ = some (.float .f32 ra) := f1 0 (by omega)
          have u1 : wr.cell? ⟨g, t * 2 + 1, none⟩ = some (.float .f32 ia) := f1 1 (by omega)
          have v0 : wr.cell? ⟨g, m * 2, none⟩ = some (.float .f32 rb) := f2 0 (by omega)
          have v1 : wr.cell? ⟨g, m * 2 + 1, none⟩ = some (.float .f32 ib) := f2 1 (by omega)
          have s1 := ss.1
          have s2 := ss.2
          clear OR f1 f2 ss hra hia hrb hib hm hlt
          go_upto_region 14 with fail
          go_quiet (fail)
          go_wp2_with fail
          go_roundw
          case rel => exact ⟨t + 1, by go_num, by omega, hide ((unhide BR).trans (bel0d' _))⟩
          case measure => simp [intOf]; omega
        · obtain rfl : t = 9 := by omega
          have hlt2 : ¬ (9 : Int) < 9 := by omega
          have KR := hide ((unhide K10).below (unhide BR))
          have OR := hide ((unhide OS).below (unhide BR))
          clear K10 OS BR ht hlt
          have a0 : wr.cell? ⟨G, 0, none⟩ = some (.float .f64 A) := ((unhide KR).a).c 0 (by simp)
          have a1 : wr.cell? ⟨G, 1, none⟩ = some (.float .f64 B) := ((unhide KR).a).c 1 (by simp)
          have b0 : wr.cell? ⟨S, 0, none⟩ = some (.float .f64 c) := ((unhide KR).b).c 0 (by simp)
          have b1 : wr.cell? ⟨S, 1, none⟩ = some (.float .f64 d) := ((unhide KR).b).c 1 (by simp)
          go_wp2_with fail
          refine (implFlutter_any A B c d A B c d _).mono ?_
          rintro e w11 ⟨fx, fy, gx, gy, rfl, h1, h2, h3, _, b11⟩
          have dn := det_none (unhide UN) (unhide HPQ).1 (unhide HPQ).2 (unhide IA) (unhide IB)
          have ub := (unhide UN).b
          have hpq := unhide HPQ
          have J1 := hide (iv_alike dn.1 h1)
          have J2 := hide (iv_alike dn.2 h2)
          have JA : Hid (Iv (fl .add .f64 A c) (p + ci)) := hide (iv_add (unhide IA) (unhide UN).c (small_fit (by omega)))
          have J3 := hide (iv_alike (unhide JA) h3)
          obtain ⟨P1, hP1⟩ : ∃ P, w11.heap.size = P := ⟨_, rfl⟩
          obtain ⟨V12, hV12⟩ : ∃ V, V = (w11.alloc (Obj.cells #[.float .f64 fx, .float .f64 fy] 31)).alloc (Obj.cells #[.float .f64 gx, .float .f64 gy] 31) := ⟨_, rfl⟩
          have b12 : Below w11.heap.size w11 V12 := by rw [hV12]; exact bel2 _ _
          have M1 : Hid (Blk V12 P1 [.float .f64 fx, .float .f64 fy]) := hide (by rw [hV12, ← hP1]; exact (Blk.new (w := w11) [.float .f64 fx, .float .f64 fy] 31).alloc _)
          have M2 : Hid (Blk V12 (P1 + 1) [.float .f64 gx, .float .f64 gy]) := hide (by rw [hV12, ← hP1]; have k := Blk.new (w := w11.alloc (Obj.cells #[.float .f64 fx, .float .f64 fy] 31)) [.float .f64 gx, .float .f64 gy] 31; simpa using k)
          have K12 := hide (((unhide KR).below b11).below b12)
          have O12 := hide (((unhide OR).below b11).below b12)
          have HV12 := hide hV12
          have HP1 := hide hP1
          clear b11 b12 hV12 hP1 h1 h2 h3 dn ub hpq KR OR a0 a1 b0 b1
          go_upto_region 17 with fail
          rw [← unhide HV12, unhide HP1]
          clear HV12 HP1
          have a0 : V12.cell? ⟨G, 0, none⟩ = some (.float .f64 A) := ((unhide K12).a).c 0 (by simp)
          have a1 : V12.cell? ⟨G, 1, none⟩ = some (.float .f64 B) := ((unhide K12).a).c 1 (by simp)
          go_wp2_with fail
          refine (implCxLess_any A B A B _).mono ?_
          rintro e w13 ⟨lx, ly, rfl, h1, h2, b13⟩
          have J4 : Hid (Iv lx 0) := hide (by have k := iv_sub (unhide IA) (unhide IA) (by rw [Int.sub_self]; decide); rw [Int.sub_self] at k; exact iv_alike k h1)
          have J5 : Hid (Iv ly 0) := hide (by have k := iv_sub (unhide IB) (unhide IB) (by rw [Int.sub_self]; decide); rw [Int.sub_self] at k; exact iv_alike k h2)
          obtain ⟨P3, hP3⟩ : ∃ P, w13.heap.size = P := ⟨_, rfl⟩
          obtain ⟨V14, hV14⟩ : ∃ V, V = w13.alloc (Obj.cells #[.float .f64 lx, .float .f64 ly] 31) := ⟨_, rfl⟩
          have b14 : Below w13.heap.size w13 V14 := by rw [hV14]; exact bel1 _
          have M3 : Hid (Blk V14 P3 [.float .f64 lx, .float .f64 ly]) := hide (by rw [hV14, ← hP3]; exact Blk.new _ _)
          have M1 := hide (((unhide M1).below b13).below b14)
          have M2 := hide (((unhide M2).below b13).below b14)
          have K14 := hide (((unhide K12).below b13).below b14)
          have O14 := hide (((unhide O12).below b13).below b14)
          have HV14 := hide hV14
          have HP3 := hide hP3
          clear b13 b14 hV14 hP3 h1 h2 K12 O12 a0 a1
          go_upto_region 18 with fail
          rw [← unhide HV14, unhide HP3]
          clear HV14 HP3
          have a0 : V14.cell? ⟨G, 0, none⟩ = some (.float .f64 A) := ((unhide K14).a).c 0 (by simp)
          have a1 : V14.cell? ⟨G, 1, none⟩ = some (.float .f64 B) := ((unhide K14).a).c 1 (by simp)
          have b0 : V14.cell? ⟨S, 0, none⟩ = some (.float .f64 c) := ((unhide K14).b).c 0 (by simp)
          have b1 : V14.cell? ⟨S, 1, none⟩ = some (.float .f64 d) := ((unhide K14).b).c 1 (by simp)
          have m0 : V14.cell? ⟨P1, 0, none⟩ = some (.float .f64 fx) := (unhide M1).c 0 (by simp)
          have m1 : V14.cell? ⟨P1, 1, none⟩ = some (.float .f64 fy) := (unhide M1).c 1 (by simp)
          have n0 : V14.cell? ⟨P1 + 1, 0, none⟩ = some (.float .f64 gx) := (unhide M2).c 0 (by simp)
          have n1 : V14.cell? ⟨P1 + 1, 1, none⟩ = some (.float .f64 gy) := (unhide M2).c 1 (by simp)
          have l0 : V14.cell? ⟨P3, 0, none⟩ = some (.float .f64 lx) := (unhide M3).c 0 (by simp)
          have l1 : V14.cell? ⟨P3, 1, none⟩ = some (.float .f64 ly) := (unhide M3).c 1 (by simp)
          have st0 : V14.cell? ⟨g, 0, none⟩ = some (.float .f32 1065353216) := by
            have f := ((unhide O14).here (shL_len 9) 0 (by omega) 0 (by omega)).1
            rw [shL_at (by omega : 0 < 9)] at f
            exact f
          obtain ⟨FA, NA, hadd, hal⟩ := run_add_all (P := Try.prog) 29
          have q1 := iv_eq (unhide J1) iv_zero
          have q2 := iv_eq (unhide J2) iv_zero
          have q3 : ∀ u, (FloatKind.f64.format.order gx (FA A c u) == some .eq) = true := fun u => iv_eq (unhide J3) (iv_alike (unhide JA) (hal A c u))
          have q4 := iv_eq (unhide J4) iv_zero
          have q5 := iv_eq (unhide J5) iv_zero
          have q6 : (FloatKind.f32.format.order 1065353216 1065353216 == some .eq) = true := by decide
          clear hal
          go_wp2_with fail
          go_ret
          have bz := (unhide K14).bel
          exact ⟨rfl, by first | exact bz | exact bz.trans (bel0d _) | exact bz.trans (bel0d' _)⟩

theorem lawFnQuotient (a : Option Addr) (len cap : Nat) (w : World) (hb : Bytes w a len) (hin : ∀ b off, a = some ⟨b, off, none⟩ → b < w.heap.size) :
    Calls Try.prog 4 #[.slice a len cap] w fun e w' => e = .returned (.bool true) ∧ Below w.heap.size w w' := by
  by_cases h : (1048576 : Int) < len
  · exact lawFnQuotient_big a len cap w h
  · exact lawFnQuotient_small a len cap w h hb hin

end Go.Proofs.Ytchkhnmfngkglaa

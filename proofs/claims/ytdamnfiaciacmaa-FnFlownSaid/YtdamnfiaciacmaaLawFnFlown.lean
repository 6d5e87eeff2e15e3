/-
  The law FnFlown returns true at every list of bytes and writes nothing that was there: the walk. No condition.
-/
import Derived.Test.YtdamnfiaciacmaaFdDr
import Derived.Test.YtdamnfiaciacmaaFlownF
import Derived.Test.YtdamnfiaciacmaaSbIs
import Derived.Test.YtdamnfiaciacmaaFlyIs
import Derived.Test.YtdamnfiaciacmaaAtFix
import Derived.Test.YtdamnfiaciacmaaStep
import Derived.Test.YtdamnfiaciacmaaBel
import Derived.Deep.CutRange
import Derived.Deep.RegionLaw
namespace Go.Proofs.Ytdamnfiaciacmaa
open Go Go.RowKit
attribute [local go_sem] run_store_float

theorem run_equalIn_float {P : Program} (w : World) (d : Nat) (t : TypeId) (k k' : FloatKind) (a b : Nat) (h : P.underlying t = some (.float k')) : (Op.equalIn (d + 1) t (.float k a) (.float k b)).run P w = .ok (k.format.order a b == some .eq) w := by
  simp [Op.equalIn, run_underlying h, Op.floatEq]
attribute [local go_sem] run_equalIn_float
theorem alike_num {x y : Nat} (h : Alike .f64 x y) (hn : nanB .f64 y = false) : x = y := by
  rcases h with h | ⟨_, b⟩
  · exact h
  · rw [b] at hn; cases hn
theorem nan_zero : nanB .f64 0 = false := by decide +kernel
theorem run_mul_all {P : Program} (t : TypeId) : ∃ (F N : Nat → Nat → World → Nat), (∀ x y w, (binOp .mul t (.float .f64 x) (.float .f64 y)).run P w = .ok (.float .f64 (F x y w)) (w.drewN (N x y w))) ∧ ∀ x y w, Alike .f64 (F x y w) (fl .mul .f64 x y) := by
  have h := fun (x y : Nat) (w : World) => run_arith (P := P) w (op := .mul) (by decide) .f64 x y
  exact ⟨fun x y w => (h x y w).choose, fun x y w => (h x y w).choose_spec.choose, fun x y w => by simpa [binOp] using (h x y w).choose_spec.choose_spec.1, fun x y w => (h x y w).choose_spec.choose_spec.2⟩

theorem RowE.dropF {α : Type} [Inhabited α] {K : Nat} {cells : α → Nat → Value} {w : World} {g len k : Nat} {ps : List α} (h : RowE K cells w (some ⟨g, 0, none⟩) len ps) (hk : k ≤ len) : RowE K cells w (some ⟨g, k * K, none⟩) (len - k) (ps.drop k) := by
  have hl := h.len_eq
  have hs := h.small
  refine ⟨by simp; omega, by omega, fun i hi => ?_⟩
  obtain ⟨b, off, e, hc⟩ := h.at_ (k + i) (by omega)
  simp only [Option.some.injEq, Addr.mk.injEq, and_true] at e
  obtain ⟨rfl, rfl⟩ := e
  refine ⟨_, _, rfl, fun q hq => ?_⟩
  rw [show k * K + i * K + q = 0 + (k + i) * K + q by rw [Nat.add_mul]; omega, hc q hq]
  simp [elAt, List.getElem?_drop]

set_option maxRecDepth 20000 in
set_option maxHeartbeats 16000000 in
theorem lawFnFlown_small (a : Option Addr) (len cap : Nat) (w : World) (h : ¬ (1048576 : Int) < len) (hb : Bytes w a len) (hin : ∀ b off, a = some ⟨b, off, none⟩ → b < w.heap.size) :
    Calls Try.prog 3 #[.slice a len cap] w fun e w' => e = .returned (.bool true) ∧ Below w.heap.size w w' := by
  have hd0 : decide ((1048576 : Int) < len) = false := by simpa using h
  have DRA := hide (drawFly_any a len cap w hb hin)
  obtain ⟨y1, hy1, at1⟩ := at_fix a len cap 1 w hb (by omega) (by omega)
  obtain ⟨y2, hy2, at2⟩ := at_fix a len cap 2 w hb (by omega) (by omega)
  have AT1 := hide at1
  have AT2 := hide at2
  have HY : Hid ((0 ≤ y1 ∧ y1 ≤ 255) ∧ 0 ≤ y2 ∧ y2 ≤ 255) := hide ⟨hy1, hy2⟩
  clear hb h hin at1 at2 hy1 hy2
  go_enter Try.func3, Try.ntmps3
  go_wp2_with fail
  refine (big_any a len cap _).mono ?_
  rintro e w' ⟨rfl, hw⟩
  subst w'
  rw [hd0]
  go_wp2_with fail
  refine (unhide DRA).mono ?_
  rintro e B ⟨x0, x1, x2, x3, f0, f1, f2, f3, f4, b, n, c, es, dt, rfl, ho, hn, b1⟩
  have hr := ho.row
  obtain ⟨V, hV⟩ : ∃ V, V = (B.alloc (Obj.cells #[.float .f64 x0, .float .f64 x1, .float .f64 x2, .float .f64 x3] 26)).alloc (Obj.cells #[.float .f64 f0, .float .f64 f1, .float .f64 f2, .float .f64 f3, .float .f64 f4] 28) := ⟨_, rfl⟩
  obtain ⟨P, hP⟩ : ∃ P, B.heap.size = P := ⟨_, rfl⟩
  have bv : Below B.heap.size B V := by rw [hV]; exact bel2 _ _
  have BM : Hid (Blk V P [.float .f64 x0, .float .f64 x1, .float .f64 x2, .float .f64 x3]) := hide (by rw [hV, ← hP]; exact (Blk.new (w := B) [.float .f64 x0, .float .f64 x1, .float .f64 x2, .float .f64 x3] 26).alloc _)
  have BF : Hid (Blk V (P + 1) [.float .f64 f0, .float .f64 f1, .float .f64 f2, .float .f64 f3, .float .f64 f4]) := hide (by rw [hV, ← hP]; have k := Blk.new (w := B.alloc (Obj.cells #[.float .f64 x0, .float .f64 x1, .float .f64 x2, .float .f64 x3] 26)) [.float .f64 f0, .float .f64 f1, .float .f64 f2, .float .f64 f3, .float .f64 f4] 28; simpa using k)
  have HR := hide (hr.below bv)
  have OB := hide (ho.below bv)
  have BV := hide (b1.trans (bv.mono b1.size))
  have HL := hide hr.len_eq
  have HN := hide hn
  have HV := hide hV
  clear DRA ho hr hn b1 bv hV
  go_upto_region 4 with fail
  rw [← unhide HV]
  clear hP HV
  have m0 : V.cell? ⟨P, 0, none⟩ = some (.float .f64 x0) := (unhide BM).c 0 (by simp)
  have m1 : V.cell? ⟨P, 1, none⟩ = some (.float .f64 x1) := (unhide BM).c 1 (by simp)
  have m2 : V.cell? ⟨P, 2, none⟩ = some (.float .f64 x2) := (unhide BM).c 2 (by simp)
  have m3 : V.cell? ⟨P, 3, none⟩ = some (.float .f64 x3) := (unhide BM).c 3 (by simp)
  have g0 : V.cell? ⟨P + 1, 0, none⟩ = some (.float .f64 f0) := (unhide BF).c 0 (by simp)
  have g1 : V.cell? ⟨P + 1, 1, none⟩ = some (.float .f64 f1) := (unhide BF).c 1 (by simp)
  have g2 : V.cell? ⟨P + 1, 2, none⟩ = some (.float .f64 f2) := (unhide BF).c 2 (by simp)
  have g3 : V.cell? ⟨P + 1, 3, none⟩ = some (.float .f64 f3) := (unhide BF).c 3 (by simp)
  have g4 : V.cell? ⟨P + 1, 4, none⟩ = some (.float .f64 f4) := (unhide BF).c 4 (by simp)
  go_wp2_with fail
  refine (implFly_any _ _ _ _ _ _ _ _ _ b n c es dt V (unhide HR)).mono ?_
  rintro e w1 ⟨v, qs, rfl, ov, hal, b2⟩
  obtain ⟨qa, qc, hv, hqc, _⟩ := ov.slice
  subst hv
  have OV := hide ov
  have HAL := hide hal
  have BM1 := hide ((unhide BM).below b2)
  have BF1 := hide ((unhide BF).below b2)
  have BW1 := hide ((unhide BV).trans (b2.mono (unhide BV).size))
  have HR1 := hide ((unhide HR).below b2)
  have HS1 : Hid (V.heap.size ≤ w1.heap.size) := hide b2.size
  clear m0 m1 m2 m3 g0 g1 g2 g3 g4
  clear ov hal b2 hqc
  have m0 : w1.cell? ⟨P, 0, none⟩ = some (.float .f64 x0) := (unhide BM1).c 0 (by simp)
  have m1 : w1.cell? ⟨P, 1, none⟩ = some (.float .f64 x1) := (unhide BM1).c 1 (by simp)
  have m2 : w1.cell? ⟨P, 2, none⟩ = some (.float .f64 x2) := (unhide BM1).c 2 (by simp)
  have m3 : w1.cell? ⟨P, 3, none⟩ = some (.float .f64 x3) := (unhide BM1).c 3 (by simp)
  have g0 : w1.cell? ⟨P + 1, 0, none⟩ = some (.float .f64 f0) := (unhide BF1).c 0 (by simp)
  have g1 : w1.cell? ⟨P + 1, 1, none⟩ = some (.float .f64 f1) := (unhide BF1).c 1 (by simp)
  have g2 : w1.cell? ⟨P + 1, 2, none⟩ = some (.float .f64 f2) := (unhide BF1).c 2 (by simp)
  have g3 : w1.cell? ⟨P + 1, 3, none⟩ = some (.float .f64 f3) := (unhide BF1).c 3 (by simp)
  have g4 : w1.cell? ⟨P + 1, 4, none⟩ = some (.float .f64 f4) := (unhide BF1).c 4 (by simp)
  go_wp2_with fail
  refine (specFly_any _ _ _ _ _ _ _ _ _ b n c es dt w1 (unhide HR1)).mono ?_
  rintro e w2 ⟨v2, qs2, rfl, ov2, _, b2⟩
  have OV2 := hide ((unhide OV).below b2)
  have BM2 := hide ((unhide BM1).below b2)
  have BF2 := hide ((unhide BF1).below b2)
  have BW2 := hide ((unhide BW1).trans (b2.mono (unhide BW1).size))
  have HR2 := hide ((unhide HR1).below b2)
  clear m0 m1 m2 m3 g0 g1 g2 g3 g4
  clear ov2 b2
  cases hB : flyB es dt
  · have hq0 : qs.length = 0 := by have := (unhide HAL).len; rw [this, flyR, if_neg (by rw [hB]; simp)]; rfl
    rw [hq0]
    go_wp2_with fail
    have AT1 := unhide AT1
    have AT2 := unhide AT2
    have bw := unhide BW2
    go_wp2_with fail
    refine (AT1 w2 bw).mono ?_
    rintro e w' ⟨rfl, hw⟩
    subst w'
    go_wp2_with fail
    refine (AT2 w2 bw).mono ?_
    rintro e w' ⟨rfl, hw⟩
    subst w'
    clear AT1 AT2
    have hfi : ∀ n : Int, floatOfInt .f64 n = fint n := fun _ => rfl
    go_upto_region 20 with fail
    obtain ⟨p, hp⟩ : ∃ p, fint y1 = p := ⟨_, rfl⟩
    obtain ⟨q, hq⟩ : ∃ q, fint y2 = q := ⟨_, rfl⟩
    rw [hp, hq]
    have HPQ : Hid (fint y1 = p ∧ fint y2 = q) := hide ⟨hp, hq⟩
    clear hp hq hfi
    go_wp2_with fail
    refine (implStepOnce_any _ _ _ _ _ _ _ _ _ _ _ _).mono ?_
    rintro e w5 ⟨s0, s1, s2, s3, rfl, hst, b5⟩
    have hst := (show moAlike ⟨s0, s1, s2, s3⟩ ⟨p, q, 0, 0⟩ from by
      have k := rest_still (unhide HY).1 (unhide HY).2
      rw [(unhide HPQ).1, (unhide HPQ).2] at k
      rw [← k]
      exact hst)
    have np : nanB .f64 p = false := by rw [← (unhide HPQ).1]; exact fint_nan _
    have nq : nanB .f64 q = false := by rw [← (unhide HPQ).2]; exact fint_nan _
    have e0 : s0 = p := alike_num hst.1 np
    have e1 : s1 = q := alike_num hst.2.1 nq
    have e2 : s2 = 0 := alike_num hst.2.2.1 nan_zero
    have e3 : s3 = 0 := alike_num hst.2.2.2 nan_zero
    rw [e0, e1, e2, e3]
    have K17 := hide ((Blk.new (w := w2) [.float .f64 p, .float .f64 q, .float .f64 0, .float .f64 0] 26).below b5)
    have BW5 := hide ((unhide BW2).trans (((bel1 (w := w2) (Obj.cells #[.float .f64 p, .float .f64 q, .float .f64 0, .float .f64 0] 26)).trans (b5.mono (by simp))).mono (unhide BW2).size))
    clear e0 e1 e2 e3 hst b5 bw
    have c0 : w5.cell? ⟨w2.heap.size, 0, none⟩ = some (.float .f64 p) := (unhide K17).c 0 (by simp)
    have c1 : w5.cell? ⟨w2.heap.size, 1, none⟩ = some (.float .f64 q) := (unhide K17).c 1 (by simp)
    have c2 : w5.cell? ⟨w2.heap.size, 2, none⟩ = some (.float .f64 0) := (unhide K17).c 2 (by simp)
    have c3 : w5.cell? ⟨w2.heap.size, 3, none⟩ = some (.float .f64 0) := (unhide K17).c 3 (by simp)
    have ca0 : ∀ o, (w5.alloc o).cell? ⟨w2.heap.size, 0, none⟩ = some (.float .f64 p) := fun o => ((unhide K17).alloc o).c 0 (by simp)
    have ca1 : ∀ o, (w5.alloc o).cell? ⟨w2.heap.size, 1, none⟩ = some (.float .f64 q) := fun o => ((unhide K17).alloc o).c 1 (by simp)
    have ca2 : ∀ o, (w5.alloc o).cell? ⟨w2.heap.size, 2, none⟩ = some (.float .f64 0) := fun o => ((unhide K17).alloc o).c 2 (by simp)
    have ca3 : ∀ o, (w5.alloc o).cell? ⟨w2.heap.size, 3, none⟩ = some (.float .f64 0) := fun o => ((unhide K17).alloc o).c 3 (by simp)
    go_wp2_with fail
    refine (implLoad5_any _ _ _ _ _ _ _ _ _ _).mono ?_
    rintro e w6 ⟨rfl, b6⟩
    have HLD := rest_load y2 (unhide HY).1
    rw [(unhide HPQ).1, (unhide HPQ).2] at HLD
    rw [HLD.1, HLD.2.1]
    obtain ⟨F, N, hmul, hal⟩ := run_mul_all (P := Try.prog) 24
    have hm : ∀ u, (FloatKind.f64.format.order (fl .mul .f64 p p) (F p p u) == some .eq) = true := fun u => by
      rw [(Alike.refl .f64 (fl .mul .f64 p p)).order (hal p p u), order_self_eq, HLD.2.2]
      rfl
    obtain ⟨m, hmm⟩ : ∃ m, fl .mul .f64 p p = m := ⟨_, rfl⟩
    rw [hmm] at hm ⊢
    have K18 := hide ((Blk.new (w := w5) [.float .f64 p, .float .f64 q, .float .f64 0, .float .f64 0] 26).below b6)
    have K17 := hide (((unhide K17).alloc (Obj.cells #[.float .f64 p, .float .f64 q, .float .f64 0, .float .f64 0] 26)).below b6)
    have BW6 := hide ((unhide BW5).trans (((bel1 (w := w5) (Obj.cells #[.float .f64 p, .float .f64 q, .float .f64 0, .float .f64 0] 26)).trans (b6.mono (by simp))).mono (unhide BW5).size))
    have op : (FloatKind.f64.format.order p p == some .eq) = true := by rw [order_self_eq, np]; rfl
    have oq : (FloatKind.f64.format.order q q == some .eq) = true := by rw [order_self_eq, nq]; rfl
    have oz : (FloatKind.f64.format.order 0 0 == some .eq) = true := by rw [order_self_eq, nan_zero]; rfl
    have HNR := hide (rest_near (unhide HY).1 (unhide HY).2)
    clear HLD hmm hal b6 np nq c0 c1 c2 c3 ca0 ca1 ca2 ca3
    have c0 : w6.cell? ⟨w2.heap.size, 0, none⟩ = some (.float .f64 p) := (unhide K17).c 0 (by simp)
    have c1 : w6.cell? ⟨w2.heap.size, 1, none⟩ = some (.float .f64 q) := (unhide K17).c 1 (by simp)
    have c2 : w6.cell? ⟨w2.heap.size, 2, none⟩ = some (.float .f64 0) := (unhide K17).c 2 (by simp)
    have c3 : w6.cell? ⟨w2.heap.size, 3, none⟩ = some (.float .f64 0) := (unhide K17).c 3 (by simp)
    have d0 : w6.cell? ⟨w5.heap.size, 0, none⟩ = some (.float .f64 p) := (unhide K18).c 0 (by simp)
    have d1 : w6.cell? ⟨w5.heap.size, 1, none⟩ = some (.float .f64 q) := (unhide K18).c 1 (by simp)
    have d2 : w6.cell? ⟨w5.heap.size, 2, none⟩ = some (.float .f64 0) := (unhide K18).c 2 (by simp)
    have d3 : w6.cell? ⟨w5.heap.size, 3, none⟩ = some (.float .f64 0) := (unhide K18).c 3 (by simp)
    go_wp2_with fail
    refine (implNear5_any _ _ _ _ _ _ _ _ _ _).mono ?_
    rintro e w7 ⟨rfl, b7⟩
    have hnr := unhide HNR
    rw [(unhide HPQ).1, (unhide HPQ).2] at hnr
    rw [hnr]
    have K17 := hide ((unhide K17).below b7)
    have BW7 := hide ((unhide BW6).trans (b7.mono (unhide BW6).size))
    clear hnr b7 c0 c1 c2 c3 d0 d1 d2 d3
    have c0 : w7.cell? ⟨w2.heap.size, 0, none⟩ = some (.float .f64 p) := (unhide K17).c 0 (by simp)
    have c1 : w7.cell? ⟨w2.heap.size, 1, none⟩ = some (.float .f64 q) := (unhide K17).c 1 (by simp)
    have c2 : w7.cell? ⟨w2.heap.size, 2, none⟩ = some (.float .f64 0) := (unhide K17).c 2 (by simp)
    have c3 : w7.cell? ⟨w2.heap.size, 3, none⟩ = some (.float .f64 0) := (unhide K17).c 3 (by simp)
    go_wp2_with fail

    go_ret
    exact ⟨rfl, by first | exact unhide BW7 | exact (unhide BW7).trans (bel0d _) | exact (unhide BW7).trans (bel0d' _)⟩

  · have hqn : qs.length = n := by rw [(unhide HAL).len, flyR_length hB]; exact unhide HL
    rw [hqn]
    have hn5 : (n : Int) ≤ 500 := by have := unhide HN; omega
    have hn0 : (0 : Int) ≤ (n : Int) := by omega
    go_upto_region 9 with fail
    obtain ⟨K, hK⟩ : ∃ K : Nat, n / 2 = K := ⟨_, rfl⟩
    by_cases h0 : K = 0
    · rw [show (n : Int) / 2 = 0 by omega]
      clear hK h0
      go_wp2_with fail
      have AT1 := unhide AT1
      have AT2 := unhide AT2
      have bw := unhide BW2
      go_wp2_with fail
      refine (AT1 w2 bw).mono ?_
      rintro e w' ⟨rfl, hw⟩
      subst w'
      go_wp2_with fail
      refine (AT2 w2 bw).mono ?_
      rintro e w' ⟨rfl, hw⟩
      subst w'
      clear AT1 AT2
      have hfi : ∀ n : Int, floatOfInt .f64 n = fint n := fun _ => rfl
      go_upto_region 20 with fail
      obtain ⟨p, hp⟩ : ∃ p, fint y1 = p := ⟨_, rfl⟩
      obtain ⟨q, hq⟩ : ∃ q, fint y2 = q := ⟨_, rfl⟩
      rw [hp, hq]
      have HPQ : Hid (fint y1 = p ∧ fint y2 = q) := hide ⟨hp, hq⟩
      clear hp hq hfi
      go_wp2_with fail
      refine (implStepOnce_any _ _ _ _ _ _ _ _ _ _ _ _).mono ?_
      rintro e w5 ⟨s0, s1, s2, s3, rfl, hst, b5⟩
      have hst := (show moAlike ⟨s0, s1, s2, s3⟩ ⟨p, q, 0, 0⟩ from by
        have k := rest_still (unhide HY).1 (unhide HY).2
        rw [(unhide HPQ).1, (unhide HPQ).2] at k
        rw [← k]
        exact hst)
      have np : nanB .f64 p = false := by rw [← (unhide HPQ).1]; exact fint_nan _
      have nq : nanB .f64 q = false := by rw [← (unhide HPQ).2]; exact fint_nan _
      have e0 : s0 = p := alike_num hst.1 np
      have e1 : s1 = q := alike_num hst.2.1 nq
      have e2 : s2 = 0 := alike_num hst.2.2.1 nan_zero
      have e3 : s3 = 0 := alike_num hst.2.2.2 nan_zero
      rw [e0, e1, e2, e3]
      have K17 := hide ((Blk.new (w := w2) [.float .f64 p, .float .f64 q, .float .f64 0, .float .f64 0] 26).below b5)
      have BW5 := hide ((unhide BW2).trans (((bel1 (w := w2) (Obj.cells #[.float .f64 p, .float .f64 q, .float .f64 0, .float .f64 0] 26)).trans (b5.mono (by simp))).mono (unhide BW2).size))
      clear e0 e1 e2 e3 hst b5 bw
      have c0 : w5.cell? ⟨w2.heap.size, 0, none⟩ = some (.float .f64 p) := (unhide K17).c 0 (by simp)
      have c1 : w5.cell? ⟨w2.heap.size, 1, none⟩ = some (.float .f64 q) := (unhide K17).c 1 (by simp)
      have c2 : w5.cell? ⟨w2.heap.size, 2, none⟩ = some (.float .f64 0) := (unhide K17).c 2 (by simp)
      have c3 : w5.cell? ⟨w2.heap.size, 3, none⟩ = some (.float .f64 0) := (unhide K17).c 3 (by simp)
      have ca0 : ∀ o, (w5.alloc o).cell? ⟨w2.heap.size, 0, none⟩ = some (.float .f64 p) := fun o => ((unhide K17).alloc o).c 0 (by simp)
      have ca1 : ∀ o, (w5.alloc o).cell? ⟨w2.heap.size, 1, none⟩ = some (.float .f64 q) := fun o => ((unhide K17).alloc o).c 1 (by simp)
      have ca2 : ∀ o, (w5.alloc o).cell? ⟨w2.heap.size, 2, none⟩ = some (.float .f64 0) := fun o => ((unhide K17).alloc o).c 2 (by simp)
      have ca3 : ∀ o, (w5.alloc o).cell? ⟨w2.heap.size, 3, none⟩ = some (.float .f64 0) := fun o => ((unhide K17).alloc o).c 3 (by simp)
      go_wp2_with fail
      refine (implLoad5_any _ _ _ _ _ _ _ _ _ _).mono ?_
      rintro e w6 ⟨rfl, b6⟩
      have HLD := rest_load y2 (unhide HY).1
      rw [(unhide HPQ).1, (unhide HPQ).2] at HLD
      rw [HLD.1, HLD.2.1]
      obtain ⟨F, N, hmul, hal⟩ := run_mul_all (P := Try.prog) 24
      have hm : ∀ u, (FloatKind.f64.format.order (fl .mul .f64 p p) (F p p u) == some .eq) = true := fun u => by
        rw [(Alike.refl .f64 (fl .mul .f64 p p)).order (hal p p u), order_self_eq, HLD.2.2]
        rfl
      obtain ⟨m, hmm⟩ : ∃ m, fl .mul .f64 p p = m := ⟨_, rfl⟩
      rw [hmm] at hm ⊢
      have K18 := hide ((Blk.new (w := w5) [.float .f64 p, .float .f64 q, .float .f64 0, .float .f64 0] 26).below b6)
      have K17 := hide (((unhide K17).alloc (Obj.cells #[.float .f64 p, .float .f64 q, .float .f64 0, .float .f64 0] 26)).below b6)
      have BW6 := hide ((unhide BW5).trans (((bel1 (w := w5) (Obj.cells #[.float .f64 p, .float .f64 q, .float .f64 0, .float .f64 0] 26)).trans (b6.mono (by simp))).mono (unhide BW5).size))
      have op : (FloatKind.f64.format.order p p == some .eq) = true := by rw [order_self_eq, np]; rfl
      have oq : (FloatKind.f64.format.order q q == some .eq) = true := by rw [order_self_eq, nq]; rfl
      have oz : (FloatKind.f64.format.order 0 0 == some .eq) = true := by rw [order_self_eq, nan_zero]; rfl
      have HNR := hide (rest_near (unhide HY).1 (unhide HY).2)
      clear HLD hmm hal b6 np nq c0 c1 c2 c3 ca0 ca1 ca2 ca3
      have c0 : w6.cell? ⟨w2.heap.size, 0, none⟩ = some (.float .f64 p) := (unhide K17).c 0 (by simp)
      have c1 : w6.cell? ⟨w2.heap.size, 1, none⟩ = some (.float .f64 q) := (unhide K17).c 1 (by simp)
      have c2 : w6.cell? ⟨w2.heap.size, 2, none⟩ = some (.float .f64 0) := (unhide K17).c 2 (by simp)
      have c3 : w6.cell? ⟨w2.heap.size, 3, none⟩ = some (.float .f64 0) := (unhide K17).c 3 (by simp)
      have d0 : w6.cell? ⟨w5.heap.size, 0, none⟩ = some (.float .f64 p) := (unhide K18).c 0 (by simp)
      have d1 : w6.cell? ⟨w5.heap.size, 1, none⟩ = some (.float .f64 q) := (unhide K18).c 1 (by simp)
      have d2 : w6.cell? ⟨w5.heap.size, 2, none⟩ = some (.float .f64 0) := (unhide K18).c 2 (by simp)
      have d3 : w6.cell? ⟨w5.heap.size, 3, none⟩ = some (.float .f64 0) := (unhide K18).c 3 (by simp)
      go_wp2_with fail
      refine (implNear5_any _ _ _ _ _ _ _ _ _ _).mono ?_
      rintro e w7 ⟨rfl, b7⟩
      have hnr := unhide HNR
      rw [(unhide HPQ).1, (unhide HPQ).2] at hnr
      rw [hnr]
      have K17 := hide ((unhide K17).below b7)
      have BW7 := hide ((unhide BW6).trans (b7.mono (unhide BW6).size))
      clear hnr b7 c0 c1 c2 c3 d0 d1 d2 d3
      have c0 : w7.cell? ⟨w2.heap.size, 0, none⟩ = some (.float .f64 p) := (unhide K17).c 0 (by simp)
      have c1 : w7.cell? ⟨w2.heap.size, 1, none⟩ = some (.float .f64 q) := (unhide K17).c 1 (by simp)
      have c2 : w7.cell? ⟨w2.heap.size, 2, none⟩ = some (.float .f64 0) := (unhide K17).c 2 (by simp)
      have c3 : w7.cell? ⟨w2.heap.size, 3, none⟩ = some (.float .f64 0) := (unhide K17).c 3 (by simp)
      go_wp2_with fail

      go_ret
      exact ⟨rfl, by first | exact unhide BW7 | exact (unhide BW7).trans (bel0d _) | exact (unhide BW7).trans (bel0d' _)⟩
    · rw [show (n : Int) / 2 = (K : Int) by omega]
      obtain ⟨j, hj⟩ : ∃ j : Nat, K = j + 1 := ⟨K - 1, by omega⟩
      have hsub : (K : Int) - 1 = (j : Int) := by omega
      have hwr : IntKind.i64.wrap (j : Int) = (j : Int) := by rw [IntKind.wrap_i64]; omega
      have hj0 : (0 : Int) ≤ (j : Int) := by omega
      have hjn : (j : Int) < (n : Int) := by omega
      have hk0 : (0 : Int) < (K : Int) := by omega
      have hk1 : (0 : Int) ≤ (K : Int) := by omega
      have hkn : (K : Int) ≤ (n : Int) := by omega
      rcases (unhide OV2).form with ⟨_, e2⟩ | ⟨G, cq, e, hG0, hG, hcq, _⟩
      · exfalso; rw [e2] at hqn; simp at hqn; omega
      rcases (unhide OB).form with ⟨e1, e2⟩ | ⟨L, cl, e1, hL0, hL, hcl, hcm⟩
      · exfalso; have := unhide HL; rw [e2] at this; simp at this; omega
      simp only [Value.slice.injEq] at e e1
      obtain ⟨ea, eb, ec⟩ := e
      obtain ⟨fa, fb, fc⟩ := e1
      subst ea; subst ec; subst fa; subst fc
      clear eb fb
      have hnc : n ≤ c := by have := unhide HL; omega
      have hkc : (K : Int) < (c : Int) := by omega
      have hkc1 : (K : Int) ≤ (c : Int) := by omega
      have hkc2 : K < c := by omega
      have HD : Hid (RowE 1 flC w2 (some ⟨L, K, none⟩) (n - K) (es.drop K)) := hide (by have k := (unhide HR2).dropF (k := K) (by omega); simpa using k)
      obtain ⟨⟨y0, y1', y2', y3⟩, hy⟩ : ∃ y : Mo, elAt qs j = y := ⟨_, rfl⟩
      have hce := fun q (hq : q < 4) => ((unhide OV2).here rfl j (by omega) q hq).1
      rw [hy] at hce
      have ce0 : w2.cell? ⟨G, j * 4, none⟩ = some (.float .f64 y0) := hce 0 (by omega)
      have ce1 : w2.cell? ⟨G, j * 4 + 1, none⟩ = some (.float .f64 y1') := hce 1 (by omega)
      have ce2 : w2.cell? ⟨G, j * 4 + 2, none⟩ = some (.float .f64 y2') := hce 2 (by omega)
      have ce3 : w2.cell? ⟨G, j * 4 + 3, none⟩ = some (.float .f64 y3) := hce 3 (by omega)
      have HY2 := hide hy
      have HJ := hide hj
      have HKn := hide hK
      have hjt : (j : Int).toNat = j := by omega
      have hqN : qs.length = n := hqn
      have HQ := hide hqn
      clear hy hj hK hce h0 hqn hqN
      have m0 : w2.cell? ⟨P, 0, none⟩ = some (.float .f64 x0) := (unhide BM2).c 0 (by simp)
      have m1 : w2.cell? ⟨P, 1, none⟩ = some (.float .f64 x1) := (unhide BM2).c 1 (by simp)
      have m2 : w2.cell? ⟨P, 2, none⟩ = some (.float .f64 x2) := (unhide BM2).c 2 (by simp)
      have m3 : w2.cell? ⟨P, 3, none⟩ = some (.float .f64 x3) := (unhide BM2).c 3 (by simp)
      have g0 : w2.cell? ⟨P + 1, 0, none⟩ = some (.float .f64 f0) := (unhide BF2).c 0 (by simp)
      have g1 : w2.cell? ⟨P + 1, 1, none⟩ = some (.float .f64 f1) := (unhide BF2).c 1 (by simp)
      have g2 : w2.cell? ⟨P + 1, 2, none⟩ = some (.float .f64 f2) := (unhide BF2).c 2 (by simp)
      have g3 : w2.cell? ⟨P + 1, 3, none⟩ = some (.float .f64 f3) := (unhide BF2).c 3 (by simp)
      have g4 : w2.cell? ⟨P + 1, 4, none⟩ = some (.float .f64 f4) := (unhide BF2).c 4 (by simp)
      go_upto_region 10 with fail
      go_cut [12, 13] from 21 to 91 (fun v b wc => ∃ (ra : Option Addr) (rc : Nat) (rs : List Mo), v = .slice ra rs.length rc ∧ b = .bool true ∧ RowE 4 moC wc ra rs.length rs ∧ AlikeM rs (flyR ⟨y0, y1', y2', y3⟩ ⟨f0, f1, f2, f3, f4⟩ (es.drop K) dt) ∧ Below w2.heap.size w2 wc)
      case first =>
        go_region_law ((go_simp; go_wp2_with (go_at_call 6; refine (implFly_any _ _ _ _ _ _ _ _ _ _ _ _ (es.drop K) dt _ (by rw [if_neg (show ¬ c = K by omega)]; exact (unhide HD).drewN 1)).mono ?_; rintro e w3 ⟨v3, rs, rfl, ov3, hal3, b3⟩; rw [flyB_drop hB K]; obtain ⟨ra, rc, hv3, _, rr3⟩ := ov3.slice; subst hv3; have HR3 := hide rr3; have HAL3 := hide hal3; have B3 : Hid (Below w2.heap.size w2 w3) := hide ((bel0d' 1).trans b3); clear ov3 hal3 b3 rr3)))
        all_goals
          go_wp2_with fail
          go_meet
          case rel => exact ⟨ra, rc, rs, rfl, rfl, unhide HR3, unhide HAL3, unhide B3⟩
      case rest =>
        obtain ⟨ra, rc, rs, rfl, rfl, rr3, hal3, b3⟩ := hcut
        have HR3 := hide rr3
        have HAL3 := hide hal3
        have B3 := hide b3
        clear rr3 hal3 b3
        have hrest := fly_rest hB (unhide HAL) (by have := unhide HJ; omega : 0 < K) (by have := unhide HL; have := unhide HKn; omega) (by rw [show K - 1 = j by have := unhide HJ; omega, unhide HY2]; exact unhide HAL3)
        obtain ⟨M, hM⟩ : ∃ M, n - K = M := ⟨_, rfl⟩
        have hl3 : rs.length = M := by rw [hrest.1, unhide HL, hM]
        have HREST := hide hrest.2
        have hsM : (n : Int) - (K : Int) = (M : Int) := by omega
        have hwM : IntKind.i64.wrap (M : Int) = (M : Int) := by rw [IntKind.wrap_i64]; omega
        have hM5 : (M : Int) ≤ 500 := by omega
        have HM : Hid (K + M = n ∧ (n : Int) ≤ 500) := hide (by omega)
        have BW3 := hide ((unhide BW2).trans ((unhide B3).mono (unhide BW2).size))
        rw [hl3] at HR3 ⊢
        have HL3 := hide hl3
        clear m0 m1 m2 m3 g0 g1 g2 g3 g4
        clear hrest hM hl3 ce0 ce1 ce2 ce3 hsub hwr hj0 hjn hjt HY2
        go_wp2_with fail
        go_loopw [14] (fun i wr => ∃ t : Nat, i = .int .i64 (t : Int) ∧ t ≤ M ∧ Hid (Below wc.heap.size wc wr)) (fun i _ => M - (intOf i).toNat)
        case atStart => exact ⟨0, rfl, Nat.zero_le _, hide (Below.refl _ _)⟩
        case round =>
          obtain ⟨t, rfl, ht, BR⟩ := hrel
          by_cases hlt : t < M
          · have hlt2 : (t : Int) < (M : Int) := by omega
            rcases (show ∃ (b1 o1 : Nat), ra = some ⟨b1, o1, none⟩ ∧ ∀ q, q < 4 → wr.cell? ⟨b1, o1 + t * 4 + q, none⟩ = some (moC (elAt rs t) q) from ((unhide HR3).below (unhide BR)).at_ t hlt) with ⟨b1, o1, ea, hc1⟩
            subst ea
            obtain ⟨s, hs⟩ : ∃ s : Nat, K + t = s := ⟨_, rfl⟩
            have hss : (K : Int) + (t : Int) = (s : Int) := by omega
            have hsn : s < n := by have := unhide HM; omega
            have hsn2 : (s : Int) < (n : Int) := by omega
            have hs0 : (0 : Int) ≤ (s : Int) := by omega
            have ht0 : (0 : Int) ≤ (t : Int) := by omega
            have hsw : IntKind.i64.wrap (s : Int) = (s : Int) := by rw [IntKind.wrap_i64]; omega
            have hal := (unhide HREST) t (by have := unhide HM; have := unhide HL; omega)
            rw [hs] at hal
            have hc2 := fun q (hq : q < 4) => (((unhide OV2).below ((unhide B3).trans ((unhide BR).mono (unhide B3).size))).here rfl s (by rw [unhide HQ]; exact hsn) q hq).1
            obtain ⟨⟨ya0, ya1, ya2, ya3⟩, ha⟩ : ∃ y : Mo, elAt rs t = y := ⟨_, rfl⟩
            obtain ⟨⟨yb0, yb1, yb2, yb3⟩, hb⟩ : ∃ y : Mo, elAt qs s = y := ⟨_, rfl⟩
            rw [ha] at hc1 hal
            rw [hb] at hc2 hal
            have HAB := hide hal
            have u0 : wr.cell? ⟨b1, o1 + t * 4, none⟩ = some (.float .f64 ya0) := hc1 0 (by omega)
            have u1 : wr.cell? ⟨b1, o1 + t * 4 + 1, none⟩ = some (.float .f64 ya1) := hc1 1 (by omega)
            have u2 : wr.cell? ⟨b1, o1 + t * 4 + 2, none⟩ = some (.float .f64 ya2) := hc1 2 (by omega)
            have u3 : wr.cell? ⟨b1, o1 + t * 4 + 3, none⟩ = some (.float .f64 ya3) := hc1 3 (by omega)
            have v0 : wr.cell? ⟨G, s * 4, none⟩ = some (.float .f64 yb0) := hc2 0 (by omega)
            have v1 : wr.cell? ⟨G, s * 4 + 1, none⟩ = some (.float .f64 yb1) := hc2 1 (by omega)
            have v2' : wr.cell? ⟨G, s * 4 + 2, none⟩ = some (.float .f64 yb2) := hc2 2 (by omega)
            have v3' : wr.cell? ⟨G, s * 4 + 3, none⟩ = some (.float .f64 yb3) := hc2 3 (by omega)
            have lb1 := block_lt_of_cell u0
            have lb2 := block_lt_of_cell v0
            clear hs hal hc1 hc2 ha hb hsn
            go_upto_region 16 with fail
            go_cut [15, 16] from 98 to 107 (fun p q W => ∃ g1 g2, p = .pointer (some ⟨g1, 0, none⟩) ∧ q = .pointer (some ⟨g2, 0, none⟩) ∧ Blk W g1 [.float .f64 ya0, .float .f64 ya1, .float .f64 ya2, .float .f64 ya3] ∧ Blk W g2 [.float .f64 yb0, .float .f64 yb1, .float .f64 yb2, .float .f64 yb3] ∧ Below wr.heap.size wr W)
            case first =>
              go_region
              all_goals
                go_wp2_with fail
                go_meet
                case rel =>
                  refine ⟨_, _, rfl, rfl, ⟨fun q hq => ?_, fun q hq => ?_, ?_⟩, ⟨fun q hq => ?_, fun q hq => ?_, ?_⟩, ?_⟩
                  · rcases (show q = 0 ∨ q = 1 ∨ q = 2 ∨ q = 3 from by simp at hq; omega) with rfl | rfl | rfl | rfl <;> simp [go_sem]
                  · rcases (show q = 0 ∨ q = 1 ∨ q = 2 ∨ q = 3 from by simp at hq; omega) with rfl | rfl | rfl | rfl <;> simp [go_sem]
                  · first | (simp; done) | (simp; omega)
                  · rcases (show q = 0 ∨ q = 1 ∨ q = 2 ∨ q = 3 from by simp at hq; omega) with rfl | rfl | rfl | rfl <;> simp [go_sem]
                  · rcases (show q = 0 ∨ q = 1 ∨ q = 2 ∨ q = 3 from by simp at hq; omega) with rfl | rfl | rfl | rfl <;> simp [go_sem]
                  · first | (simp; done) | (simp; omega)
                  · repeat (first | exact Below.refl _ _ | refine Below.trans ?_ (bel0d' _) | refine Below.setCell ?_ (by simp; try omega) _ | refine Below.alloc ?_ (by simp; try omega) _)
            case rest =>
              obtain ⟨g1, g2, rfl, rfl, hK1, hK2, hbc⟩ := hcut
              have KA := hide hK1
              have KB := hide hK2
              have BC := hide ((unhide BR).trans (hbc.mono (unhide BR).size))
              have hab := unhide HAB
              clear hK1 hK2 hbc u0 u1 u2 u3 v0 v1 v2' v3'
              have m0 : wc.cell? ⟨g1, 0, none⟩ = some (.float .f64 ya0) := (unhide KA).c 0 (by simp)
              have m1 : wc.cell? ⟨g1, 1, none⟩ = some (.float .f64 ya1) := (unhide KA).c 1 (by simp)
              have m2 : wc.cell? ⟨g1, 2, none⟩ = some (.float .f64 ya2) := (unhide KA).c 2 (by simp)
              have m3 : wc.cell? ⟨g1, 3, none⟩ = some (.float .f64 ya3) := (unhide KA).c 3 (by simp)
              have q0 : wc.cell? ⟨g2, 0, none⟩ = some (.float .f64 yb0) := (unhide KB).c 0 (by simp)
              have q1 : wc.cell? ⟨g2, 1, none⟩ = some (.float .f64 yb1) := (unhide KB).c 1 (by simp)
              have q2 : wc.cell? ⟨g2, 2, none⟩ = some (.float .f64 yb2) := (unhide KB).c 2 (by simp)
              have q3 : wc.cell? ⟨g2, 3, none⟩ = some (.float .f64 yb3) := (unhide KB).c 3 (by simp)
              go_wp2_with fail
              refine (sameBits_any _ _ _ hab.1).mono ?_
              rintro e w' ⟨rfl, hw⟩
              subst w'
              go_wp2_with fail
              refine (sameBits_any _ _ _ hab.2.1).mono ?_
              rintro e w' ⟨rfl, hw⟩
              subst w'
              go_wp2_with fail
              refine (sameBits_any _ _ _ hab.2.2.1).mono ?_
              rintro e w' ⟨rfl, hw⟩
              subst w'
              go_wp2_with fail
              refine (sameBits_any _ _ _ hab.2.2.2).mono ?_
              rintro e w' ⟨rfl, hw⟩
              subst w'
              have ht1 : (t : Int) ≤ 500 := by have := unhide HM; omega
              go_wp2_with fail
              go_roundw
              case rel => exact ⟨t + 1, by go_num, by omega, BC⟩
              case measure => simp [intOf]; omega
          · obtain rfl : t = M := by omega
            have hlt2 : ¬ (t : Int) < (t : Int) := by omega
            have BWr := hide ((unhide BW3).trans ((unhide BR).mono (unhide BW3).size))
            go_wp2_with fail
            have AT1 := unhide AT1
            have AT2 := unhide AT2
            have bw := unhide BWr
            go_wp2_with fail
            refine (AT1 wr bw).mono ?_
            rintro e w' ⟨rfl, hw⟩
            subst w'
            go_wp2_with fail
            refine (AT2 wr bw).mono ?_
            rintro e w' ⟨rfl, hw⟩
            subst w'
            clear AT1 AT2
            have hfi : ∀ n : Int, floatOfInt .f64 n = fint n := fun _ => rfl
            go_upto_region 20 with fail
            obtain ⟨p, hp⟩ : ∃ p, fint y1 = p := ⟨_, rfl⟩
            obtain ⟨q, hq⟩ : ∃ q, fint y2 = q := ⟨_, rfl⟩
            rw [hp, hq]
            have HPQ : Hid (fint y1 = p ∧ fint y2 = q) := hide ⟨hp, hq⟩
            clear hp hq hfi
            go_wp2_with fail
            refine (implStepOnce_any _ _ _ _ _ _ _ _ _ _ _ _).mono ?_
            rintro e w5 ⟨s0, s1, s2, s3, rfl, hst, b5⟩
            have hst := (show moAlike ⟨s0, s1, s2, s3⟩ ⟨p, q, 0, 0⟩ from by
              have k := rest_still (unhide HY).1 (unhide HY).2
              rw [(unhide HPQ).1, (unhide HPQ).2] at k
              rw [← k]
              exact hst)
            have np : nanB .f64 p = false := by rw [← (unhide HPQ).1]; exact fint_nan _
            have nq : nanB .f64 q = false := by rw [← (unhide HPQ).2]; exact fint_nan _
            have e0 : s0 = p := alike_num hst.1 np
            have e1 : s1 = q := alike_num hst.2.1 nq
            have e2 : s2 = 0 := alike_num hst.2.2.1 nan_zero
            have e3 : s3 = 0 := alike_num hst.2.2.2 nan_zero
            rw [e0, e1, e2, e3]
            have K17 := hide ((Blk.new (w := wr) [.float .f64 p, .float .f64 q, .float .f64 0, .float .f64 0] 26).below b5)
            have BW5 := hide ((unhide BWr).trans (((bel1 (w := wr) (Obj.cells #[.float .f64 p, .float .f64 q, .float .f64 0, .float .f64 0] 26)).trans (b5.mono (by simp))).mono (unhide BWr).size))
            clear e0 e1 e2 e3 hst b5 bw
            have c0 : w5.cell? ⟨wr.heap.size, 0, none⟩ = some (.float .f64 p) := (unhide K17).c 0 (by simp)
            have c1 : w5.cell? ⟨wr.heap.size, 1, none⟩ = some (.float .f64 q) := (unhide K17).c 1 (by simp)
            have c2 : w5.cell? ⟨wr.heap.size, 2, none⟩ = some (.float .f64 0) := (unhide K17).c 2 (by simp)
            have c3 : w5.cell? ⟨wr.heap.size, 3, none⟩ = some (.float .f64 0) := (unhide K17).c 3 (by simp)
            have ca0 : ∀ o, (w5.alloc o).cell? ⟨wr.heap.size, 0, none⟩ = some (.float .f64 p) := fun o => ((unhide K17).alloc o).c 0 (by simp)
            have ca1 : ∀ o, (w5.alloc o).cell? ⟨wr.heap.size, 1, none⟩ = some (.float .f64 q) := fun o => ((unhide K17).alloc o).c 1 (by simp)
            have ca2 : ∀ o, (w5.alloc o).cell? ⟨wr.heap.size, 2, none⟩ = some (.float .f64 0) := fun o => ((unhide K17).alloc o).c 2 (by simp)
            have ca3 : ∀ o, (w5.alloc o).cell? ⟨wr.heap.size, 3, none⟩ = some (.float .f64 0) := fun o => ((unhide K17).alloc o).c 3 (by simp)
            go_wp2_with fail
            refine (implLoad5_any _ _ _ _ _ _ _ _ _ _).mono ?_
            rintro e w6 ⟨rfl, b6⟩
            have HLD := rest_load y2 (unhide HY).1
            rw [(unhide HPQ).1, (unhide HPQ).2] at HLD
            rw [HLD.1, HLD.2.1]
            obtain ⟨F, N, hmul, hal⟩ := run_mul_all (P := Try.prog) 24
            have hm : ∀ u, (FloatKind.f64.format.order (fl .mul .f64 p p) (F p p u) == some .eq) = true := fun u => by
              rw [(Alike.refl .f64 (fl .mul .f64 p p)).order (hal p p u), order_self_eq, HLD.2.2]
              rfl
            obtain ⟨m, hmm⟩ : ∃ m, fl .mul .f64 p p = m := ⟨_, rfl⟩
            rw [hmm] at hm ⊢
            have K18 := hide ((Blk.new (w := w5) [.float .f64 p, .float .f64 q, .float .f64 0, .float .f64 0] 26).below b6)
            have K17 := hide (((unhide K17).alloc (Obj.cells #[.float .f64 p, .float .f64 q, .float .f64 0, .float .f64 0] 26)).below b6)
            have BW6 := hide ((unhide BW5).trans (((bel1 (w := w5) (Obj.cells #[.float .f64 p, .float .f64 q, .float .f64 0, .float .f64 0] 26)).trans (b6.mono (by simp))).mono (unhide BW5).size))
            have op : (FloatKind.f64.format.order p p == some .eq) = true := by rw [order_self_eq, np]; rfl
            have oq : (FloatKind.f64.format.order q q == some .eq) = true := by rw [order_self_eq, nq]; rfl
            have oz : (FloatKind.f64.format.order 0 0 == some .eq) = true := by rw [order_self_eq, nan_zero]; rfl
            have HNR := hide (rest_near (unhide HY).1 (unhide HY).2)
            clear HLD hmm hal b6 np nq c0 c1 c2 c3 ca0 ca1 ca2 ca3
            have c0 : w6.cell? ⟨wr.heap.size, 0, none⟩ = some (.float .f64 p) := (unhide K17).c 0 (by simp)
            have c1 : w6.cell? ⟨wr.heap.size, 1, none⟩ = some (.float .f64 q) := (unhide K17).c 1 (by simp)
            have c2 : w6.cell? ⟨wr.heap.size, 2, none⟩ = some (.float .f64 0) := (unhide K17).c 2 (by simp)
            have c3 : w6.cell? ⟨wr.heap.size, 3, none⟩ = some (.float .f64 0) := (unhide K17).c 3 (by simp)
            have d0 : w6.cell? ⟨w5.heap.size, 0, none⟩ = some (.float .f64 p) := (unhide K18).c 0 (by simp)
            have d1 : w6.cell? ⟨w5.heap.size, 1, none⟩ = some (.float .f64 q) := (unhide K18).c 1 (by simp)
            have d2 : w6.cell? ⟨w5.heap.size, 2, none⟩ = some (.float .f64 0) := (unhide K18).c 2 (by simp)
            have d3 : w6.cell? ⟨w5.heap.size, 3, none⟩ = some (.float .f64 0) := (unhide K18).c 3 (by simp)
            go_wp2_with fail
            refine (implNear5_any _ _ _ _ _ _ _ _ _ _).mono ?_
            rintro e w7 ⟨rfl, b7⟩
            have hnr := unhide HNR
            rw [(unhide HPQ).1, (unhide HPQ).2] at hnr
            rw [hnr]
            have K17 := hide ((unhide K17).below b7)
            have BW7 := hide ((unhide BW6).trans (b7.mono (unhide BW6).size))
            clear hnr b7 c0 c1 c2 c3 d0 d1 d2 d3
            have c0 : w7.cell? ⟨wr.heap.size, 0, none⟩ = some (.float .f64 p) := (unhide K17).c 0 (by simp)
            have c1 : w7.cell? ⟨wr.heap.size, 1, none⟩ = some (.float .f64 q) := (unhide K17).c 1 (by simp)
            have c2 : w7.cell? ⟨wr.heap.size, 2, none⟩ = some (.float .f64 0) := (unhide K17).c 2 (by simp)
            have c3 : w7.cell? ⟨wr.heap.size, 3, none⟩ = some (.float .f64 0) := (unhide K17).c 3 (by simp)
            go_wp2_with fail

            go_ret
            exact ⟨rfl, by first | exact unhide BW7 | exact (unhide BW7).trans (bel0d _) | exact (unhide BW7).trans (bel0d' _)⟩

set_option maxRecDepth 20000 in
set_option maxHeartbeats 1000000 in
theorem lawFnFlown_big (a : Option Addr) (len cap : Nat) (w : World) (h : (1048576 : Int) < len) :
    Calls Try.prog 3 #[.slice a len cap] w fun e w' => e = .returned (.bool true) ∧ Below w.heap.size w w' := by
  have hd : decide ((1048576 : Int) < len) = true := by simpa using h
  clear h
  go_enter Try.func3, Try.ntmps3
  go_wp2_with fail
  refine (big_any a len cap _).mono ?_
  rintro e w' ⟨rfl, hw⟩
  subst w'
  rw [hd]
  go_wp2
  go_ret
  exact ⟨rfl, Below.refl _ _⟩
theorem lawFnFlown (a : Option Addr) (len cap : Nat) (w : World) (hb : Bytes w a len) (hin : ∀ b off, a = some ⟨b, off, none⟩ → b < w.heap.size) :
    Calls Try.prog 3 #[.slice a len cap] w fun e w' => e = .returned (.bool true) ∧ Below w.heap.size w w' := by
  by_cases h : (1048576 : Int) < len
  · exact lawFnFlown_big a len cap w h
  · exact lawFnFlown_small a len cap w h hb hin

end Go.Proofs.Ytdamnfiaciacmaa

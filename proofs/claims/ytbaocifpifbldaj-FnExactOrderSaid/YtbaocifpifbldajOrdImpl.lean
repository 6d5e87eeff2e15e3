/-
  What Order answers in the program: the plain plan and flag, at every envelope, dry sum, tanks and step; the plan owns its memory; nothing that was there is written.
-/
import Derived.Test.YtbaocifpifbldajOrdNext
import Derived.Deep.AppendLies
namespace Go.Proofs.Ytbaocifpifbldaj
open Go.RowKit

theorem Pc.far {w w' : World} {V : Nat} {a b : Int} {row : Option Nat} (h : Pc w V a b) (k : w.grownBy w' row) (hne : some V ≠ row) : Pc w' V a b := by
  have hb := k.block V h.lt hne
  exact ⟨(World.cell?_of_block (a := ⟨V, 0, none⟩) hb).trans h.c0, (World.cell?_of_block (a := ⟨V, 1, none⟩) hb).trans h.c1, (World.frozen?_of_block (a := ⟨V, 0, none⟩) hb).trans h.f0, (World.frozen?_of_block (a := ⟨V, 1, none⟩) hb).trans h.f1, Nat.lt_of_lt_of_le h.lt k.size⟩
theorem Own2.lies2 {w : World} {base : Nat} {T : TypeId} {v : Value} {ps : List (Int × Int)} (h : Own2 w base T v ps) : ∀ g, v.ownBlock = some g → base ≤ g ∧ g < w.heap.size := by
  intro g hg
  rcases h.form with ⟨rfl, _⟩ | ⟨g', cap, rfl, h1, h2, _⟩
  · simp [Value.ownBlock] at hg
  · simp only [Value.ownBlock, Option.some.injEq] at hg
    omega
theorem many_le {step : Int} {T : List (Int × Int)} {k : Nat} (hs : 1 ≤ step ∧ step ≤ 10000) : manyAt step T k ≤ 10000 := by unfold manyAt; omega
theorem infoBurnT : (Try.prog.info? 76).map (fun i => (i.zero, i.size, i.bytes)) = some (some (.agg #[.int .i64 0, .int .i64 0]), 2, 16) := by kernel_rfl
def sliceLen : Value → Nat | .slice _ n _ => n | _ => 0
theorem own2_app {w : World} {base : Nat} {T : TypeId} {v : Value} {P : List (Int × Int)} {vs : List Value} {k N : Int} (h : w.ownsRow base T 2 v (P.length + 1) (vs ++ [.int .i64 k, .int .i64 N])) (hl : vs.length = P.length * 2)
    (hx : ∀ j, j < P.length → vs[j * 2]? = some (.int .i64 (fstAt P j)) ∧ vs[j * 2 + 1]? = some (.int .i64 (sndAt P j))) (hf : Fit2 P) (hk : -9223372036854775808 ≤ k ∧ k ≤ 9223372036854775807) (hN : -9223372036854775808 ≤ N ∧ N ≤ 9223372036854775807) : Own2 w base T v (P ++ [(k, N)]) := by
  refine ⟨⟨vs ++ [.int .i64 k, .int .i64 N], by simpa using h, fun j hj => ?_⟩, fits_app hf hk hN⟩
  obtain ⟨h1, h2, h3⟩ := app_at (P := P) (a := k) (b := N)
  simp only [List.length_append, List.length_cons, List.length_nil] at hj
  by_cases e : j < P.length
  · rw [(h1 j e).1, (h1 j e).2, List.getElem?_append_left (by omega), List.getElem?_append_left (by omega)]
    exact hx j e
  · obtain rfl : j = P.length := by omega
    rw [h2, h3, List.getElem?_append_right (by omega), List.getElem?_append_right (by omega), hl]
    simp
theorem Own2.set_other {w : World} {base : Nat} {T : TypeId} {v : Value} {ps : List (Int × Int)} (h : Own2 w base T v ps) {S o : Nat} (u : Value) (hne : v.ownBlock ≠ some S) : Own2 (w.setCell ⟨S, o, none⟩ u) base T v ps :=
  h.far (grown_set (grown_refl w (some S)) o u) (fun _ hg e => hne (hg.trans e))

set_option maxHeartbeats 2000000 in
theorem implOrder_env (a1 a2 a3 : Option Addr) (l1 c1 l2 c2 l3 c3 : Nat) (ms fs gs : List Int) (dm dq step : Int) (tb toff tl tc : Nat) (ts : List (Int × Int)) (w : World) (h1 : Row w a1 l1 ms) (h2 : Row w a2 l2 fs) (h3 : Row w a3 l3 gs) (_hcap1 : l1 ≤ c1) (_hcap2 : l2 ≤ c2) (_hcap3 : l3 ≤ c3) (hr : Row2 w (some ⟨tb, toff, none⟩) tl ts) (he : envB ms fs gs = false) :
    Calls Try.prog 31 #[.agg #[.slice a1 l1 c1, .slice a2 l2 c2, .slice a3 l3 c3], .agg #[.int .i64 dm, .int .i64 dq], .slice (some ⟨tb, toff, none⟩) tl tc, .int .i64 step] w fun e w' => ∃ a c, e = .returned (.tuple #[.slice a ([] : List (Int × Int)).length c, .bool (false)]) ∧ Own2 w' w.heap.size 76 (.slice a ([] : List (Int × Int)).length c) ([] : List (Int × Int)) ∧ Below w.heap.size w w' := by
  have B0 := hide (bel2 (w := w) (.cells #[.slice a1 l1 c1, .slice a2 l2 c2, .slice a3 l3 c3] 27) (.cells #[.int .i64 dm, .int .i64 dq] 34))
  obtain ⟨W, hW⟩ : ∃ W, W = (w.alloc (.cells #[.slice a1 l1 c1, .slice a2 l2 c2, .slice a3 l3 c3] 27)).alloc (.cells #[.int .i64 dm, .int .i64 dq] 34) := ⟨_, rfl⟩
  have x0 : W.cell? ⟨w.heap.size, 0, none⟩ = some (.slice a1 l1 c1) := by rw [hW]; simp [go_sem]
  have x1 : W.cell? ⟨w.heap.size, 1, none⟩ = some (.slice a2 l2 c2) := by rw [hW]; simp [go_sem]
  have x2 : W.cell? ⟨w.heap.size, 2, none⟩ = some (.slice a3 l3 c3) := by rw [hW]; simp [go_sem]
  have y0 : W.cell? ⟨w.heap.size + 1, 0, none⟩ = some (.int .i64 dm) := by rw [hW]; simp [go_sem]
  have y1 : W.cell? ⟨w.heap.size + 1, 1, none⟩ = some (.int .i64 dq) := by rw [hW]; simp [go_sem]
  have sW : W.heap.size = w.heap.size + 1 + 1 := by rw [hW]; simp
  rw [← hW] at B0
  have O0 : Own2 (W.alloc (Obj.cells #[] 76)) (w.heap.size + 1 + 1) 76 (.slice (some ⟨w.heap.size + 1 + 1, 0, none⟩) 0 0) [] := by rw [← sW]; exact own2_none (w := W) (w1 := W) 76 (Nat.le_refl _)
  obtain ⟨ι, f, hne, hbel, hall⟩ := belClass W
  obtain ⟨xw, hxw⟩ := hall _ (bel1 (w := W) (Obj.cells #[] 76))
  rw [hxw] at O0
  have x0 : ∀ x, (f x).cell? ⟨w.heap.size, 0, none⟩ = some (.slice a1 l1 c1) := fun x => ((hbel x).cell (p := ⟨w.heap.size, 0, none⟩) (by simp; omega)).trans x0
  have x1 : ∀ x, (f x).cell? ⟨w.heap.size, 1, none⟩ = some (.slice a2 l2 c2) := fun x => ((hbel x).cell (p := ⟨w.heap.size, 1, none⟩) (by simp; omega)).trans x1
  have x2 : ∀ x, (f x).cell? ⟨w.heap.size, 2, none⟩ = some (.slice a3 l3 c3) := fun x => ((hbel x).cell (p := ⟨w.heap.size, 2, none⟩) (by simp; omega)).trans x2
  have y0 : ∀ x, (f x).cell? ⟨w.heap.size + 1, 0, none⟩ = some (.int .i64 dm) := fun x => ((hbel x).cell (p := ⟨w.heap.size + 1, 0, none⟩) (by simp; omega)).trans y0
  have y1 : ∀ x, (f x).cell? ⟨w.heap.size + 1, 1, none⟩ = some (.int .i64 dq) := fun x => ((hbel x).cell (p := ⟨w.heap.size + 1, 1, none⟩) (by simp; omega)).trans y1
  have HB := hide fun x => (unhide B0).trans ((hbel x).mono (by omega))
  have H1 := hide fun x => h1.below (unhide HB x)
  have H2 := hide fun x => h2.below (unhide HB x)
  have H3 := hide fun x => h3.below (unhide HB x)
  have HR := hide fun x => hr.below (unhide HB x)
  have HL := hide hbel
  have HX := hide hall
  have HZ : Hid (∀ x, w.heap.size + 1 + 1 ≤ (f x).heap.size) := hide fun x => by have := (hbel x).size; omega
  have SW := hide sW
  have OP := hide O0
  clear hbel hall B0 sW h1 h2 h3 hr O0
  go_enter Try.func31, Try.ntmps31
  go_wp2_with fail
  rw [← hW, hxw]
  clear hW hxw
  refine (implEnvelopeOk_is _ _ _ _ _ _ _ _ _ ms fs gs _ he (unhide H1 xw) (unhide H2 xw) (unhide H3 xw)).mono ?_
  rintro e w1 ⟨rfl, b1⟩
  obtain ⟨xv, rfl⟩ := unhide HX _ ((unhide HL xw).trans (b1.mono (unhide HL xw).size))
  have OP := hide ((unhide OP).below b1)
  clear b1
  go_wp2_with fail
  go_ret2
  exact ⟨_, _, rfl, (unhide OP).mono (by omega), unhide HB xv⟩

set_option maxHeartbeats 2000000 in
theorem implOrder_dry (a1 a2 a3 : Option Addr) (l1 c1 l2 c2 l3 c3 : Nat) (ms fs gs : List Int) (dm dq step : Int) (tb toff tl tc : Nat) (ts : List (Int × Int)) (w : World) (h1 : Row w a1 l1 ms) (h2 : Row w a2 l2 fs) (h3 : Row w a3 l3 gs) (_hcap1 : l1 ≤ c1) (_hcap2 : l2 ≤ c2) (_hcap3 : l3 ≤ c3) (hr : Row2 w (some ⟨tb, toff, none⟩) tl ts) (he : envB ms fs gs = true) (hd : dryB dm dq = false) :
    Calls Try.prog 31 #[.agg #[.slice a1 l1 c1, .slice a2 l2 c2, .slice a3 l3 c3], .agg #[.int .i64 dm, .int .i64 dq], .slice (some ⟨tb, toff, none⟩) tl tc, .int .i64 step] w fun e w' => ∃ a c, e = .returned (.tuple #[.slice a ([] : List (Int × Int)).length c, .bool (false)]) ∧ Own2 w' w.heap.size 76 (.slice a ([] : List (Int × Int)).length c) ([] : List (Int × Int)) ∧ Below w.heap.size w w' := by
  have B0 := hide (bel2 (w := w) (.cells #[.slice a1 l1 c1, .slice a2 l2 c2, .slice a3 l3 c3] 27) (.cells #[.int .i64 dm, .int .i64 dq] 34))
  obtain ⟨W, hW⟩ : ∃ W, W = (w.alloc (.cells #[.slice a1 l1 c1, .slice a2 l2 c2, .slice a3 l3 c3] 27)).alloc (.cells #[.int .i64 dm, .int .i64 dq] 34) := ⟨_, rfl⟩
  have x0 : W.cell? ⟨w.heap.size, 0, none⟩ = some (.slice a1 l1 c1) := by rw [hW]; simp [go_sem]
  have x1 : W.cell? ⟨w.heap.size, 1, none⟩ = some (.slice a2 l2 c2) := by rw [hW]; simp [go_sem]
  have x2 : W.cell? ⟨w.heap.size, 2, none⟩ = some (.slice a3 l3 c3) := by rw [hW]; simp [go_sem]
  have y0 : W.cell? ⟨w.heap.size + 1, 0, none⟩ = some (.int .i64 dm) := by rw [hW]; simp [go_sem]
  have y1 : W.cell? ⟨w.heap.size + 1, 1, none⟩ = some (.int .i64 dq) := by rw [hW]; simp [go_sem]
  have sW : W.heap.size = w.heap.size + 1 + 1 := by rw [hW]; simp
  rw [← hW] at B0
  have O0 : Own2 (W.alloc (Obj.cells #[] 76)) (w.heap.size + 1 + 1) 76 (.slice (some ⟨w.heap.size + 1 + 1, 0, none⟩) 0 0) [] := by rw [← sW]; exact own2_none (w := W) (w1 := W) 76 (Nat.le_refl _)
  obtain ⟨ι, f, hne, hbel, hall⟩ := belClass W
  obtain ⟨xw, hxw⟩ := hall _ (bel1 (w := W) (Obj.cells #[] 76))
  rw [hxw] at O0
  have x0 : ∀ x, (f x).cell? ⟨w.heap.size, 0, none⟩ = some (.slice a1 l1 c1) := fun x => ((hbel x).cell (p := ⟨w.heap.size, 0, none⟩) (by simp; omega)).trans x0
  have x1 : ∀ x, (f x).cell? ⟨w.heap.size, 1, none⟩ = some (.slice a2 l2 c2) := fun x => ((hbel x).cell (p := ⟨w.heap.size, 1, none⟩) (by simp; omega)).trans x1
  have x2 : ∀ x, (f x).cell? ⟨w.heap.size, 2, none⟩ = some (.slice a3 l3 c3) := fun x => ((hbel x).cell (p := ⟨w.heap.size, 2, none⟩) (by simp; omega)).trans x2
  have y0 : ∀ x, (f x).cell? ⟨w.heap.size + 1, 0, none⟩ = some (.int .i64 dm) := fun x => ((hbel x).cell (p := ⟨w.heap.size + 1, 0, none⟩) (by simp; omega)).trans y0
  have y1 : ∀ x, (f x).cell? ⟨w.heap.size + 1, 1, none⟩ = some (.int .i64 dq) := fun x => ((hbel x).cell (p := ⟨w.heap.size + 1, 1, none⟩) (by simp; omega)).trans y1
  have HB := hide fun x => (unhide B0).trans ((hbel x).mono (by omega))
  have H1 := hide fun x => h1.below (unhide HB x)
  have H2 := hide fun x => h2.below (unhide HB x)
  have H3 := hide fun x => h3.below (unhide HB x)
  have HR := hide fun x => hr.below (unhide HB x)
  have HL := hide hbel
  have HX := hide hall
  have HZ : Hid (∀ x, w.heap.size + 1 + 1 ≤ (f x).heap.size) := hide fun x => by have := (hbel x).size; omega
  have SW := hide sW
  have OP := hide O0
  clear hbel hall B0 sW h1 h2 h3 hr O0
  go_enter Try.func31, Try.ntmps31
  go_wp2_with fail
  rw [← hW, hxw]
  clear hW hxw
  refine (implEnvelopeOk_is _ _ _ _ _ _ _ _ _ ms fs gs _ he (unhide H1 xw) (unhide H2 xw) (unhide H3 xw)).mono ?_
  rintro e w1 ⟨rfl, b1⟩
  obtain ⟨xv, rfl⟩ := unhide HX _ ((unhide HL xw).trans (b1.mono (unhide HL xw).size))
  have OP := hide ((unhide OP).below b1)
  clear b1
  go_wp2_with fail
  refine (dryOk_is dm dq _ hd).mono ?_
  rintro e w2 ⟨rfl, b2⟩
  obtain ⟨xu, rfl⟩ := unhide HX _ ((unhide HL xv).trans (b2.mono (unhide HL xv).size))
  have OP := hide ((unhide OP).below b2)
  clear b2
  go_wp2_with fail
  go_ret2
  exact ⟨_, _, rfl, (unhide OP).mono (by omega), unhide HB xu⟩

set_option maxHeartbeats 2000000 in
theorem implOrder_tan (a1 a2 a3 : Option Addr) (l1 c1 l2 c2 l3 c3 : Nat) (ms fs gs : List Int) (dm dq step : Int) (tb toff tl tc : Nat) (ts : List (Int × Int)) (w : World) (h1 : Row w a1 l1 ms) (h2 : Row w a2 l2 fs) (h3 : Row w a3 l3 gs) (_hcap1 : l1 ≤ c1) (_hcap2 : l2 ≤ c2) (_hcap3 : l3 ≤ c3) (hr : Row2 w (some ⟨tb, toff, none⟩) tl ts) (he : envB ms fs gs = true) (hd : dryB dm dq = true) (ht : tanksB ts = false) :
    Calls Try.prog 31 #[.agg #[.slice a1 l1 c1, .slice a2 l2 c2, .slice a3 l3 c3], .agg #[.int .i64 dm, .int .i64 dq], .slice (some ⟨tb, toff, none⟩) tl tc, .int .i64 step] w fun e w' => ∃ a c, e = .returned (.tuple #[.slice a ([] : List (Int × Int)).length c, .bool (false)]) ∧ Own2 w' w.heap.size 76 (.slice a ([] : List (Int × Int)).length c) ([] : List (Int × Int)) ∧ Below w.heap.size w w' := by
  have B0 := hide (bel2 (w := w) (.cells #[.slice a1 l1 c1, .slice a2 l2 c2, .slice a3 l3 c3] 27) (.cells #[.int .i64 dm, .int .i64 dq] 34))
  obtain ⟨W, hW⟩ : ∃ W, W = (w.alloc (.cells #[.slice a1 l1 c1, .slice a2 l2 c2, .slice a3 l3 c3] 27)).alloc (.cells #[.int .i64 dm, .int .i64 dq] 34) := ⟨_, rfl⟩
  have x0 : W.cell? ⟨w.heap.size, 0, none⟩ = some (.slice a1 l1 c1) := by rw [hW]; simp [go_sem]
  have x1 : W.cell? ⟨w.heap.size, 1, none⟩ = some (.slice a2 l2 c2) := by rw [hW]; simp [go_sem]
  have x2 : W.cell? ⟨w.heap.size, 2, none⟩ = some (.slice a3 l3 c3) := by rw [hW]; simp [go_sem]
  have y0 : W.cell? ⟨w.heap.size + 1, 0, none⟩ = some (.int .i64 dm) := by rw [hW]; simp [go_sem]
  have y1 : W.cell? ⟨w.heap.size + 1, 1, none⟩ = some (.int .i64 dq) := by rw [hW]; simp [go_sem]
  have sW : W.heap.size = w.heap.size + 1 + 1 := by rw [hW]; simp
  rw [← hW] at B0
  have O0 : Own2 (W.alloc (Obj.cells #[] 76)) (w.heap.size + 1 + 1) 76 (.slice (some ⟨w.heap.size + 1 + 1, 0, none⟩) 0 0) [] := by rw [← sW]; exact own2_none (w := W) (w1 := W) 76 (Nat.le_refl _)
  obtain ⟨ι, f, hne, hbel, hall⟩ := belClass W
  obtain ⟨xw, hxw⟩ := hall _ (bel1 (w := W) (Obj.cells #[] 76))
  rw [hxw] at O0
  have x0 : ∀ x, (f x).cell? ⟨w.heap.size, 0, none⟩ = some (.slice a1 l1 c1) := fun x => ((hbel x).cell (p := ⟨w.heap.size, 0, none⟩) (by simp; omega)).trans x0
  have x1 : ∀ x, (f x).cell? ⟨w.heap.size, 1, none⟩ = some (.slice a2 l2 c2) := fun x => ((hbel x).cell (p := ⟨w.heap.size, 1, none⟩) (by simp; omega)).trans x1
  have x2 : ∀ x, (f x).cell? ⟨w.heap.size, 2, none⟩ = some (.slice a3 l3 c3) := fun x => ((hbel x).cell (p := ⟨w.heap.size, 2, none⟩) (by simp; omega)).trans x2
  have y0 : ∀ x, (f x).cell? ⟨w.heap.size + 1, 0, none⟩ = some (.int .i64 dm) := fun x => ((hbel x).cell (p := ⟨w.heap.size + 1, 0, none⟩) (by simp; omega)).trans y0
  have y1 : ∀ x, (f x).cell? ⟨w.heap.size + 1, 1, none⟩ = some (.int .i64 dq) := fun x => ((hbel x).cell (p := ⟨w.heap.size + 1, 1, none⟩) (by simp; omega)).trans y1
  have HB := hide fun x => (unhide B0).trans ((hbel x).mono (by omega))
  have H1 := hide fun x => h1.below (unhide HB x)
  have H2 := hide fun x => h2.below (unhide HB x)
  have H3 := hide fun x => h3.below (unhide HB x)
  have HR := hide fun x => hr.below (unhide HB x)
  have HL := hide hbel
  have HX := hide hall
  have HZ : Hid (∀ x, w.heap.size + 1 + 1 ≤ (f x).heap.size) := hide fun x => by have := (hbel x).size; omega
  have SW := hide sW
  have OP := hide O0
  clear hbel hall B0 sW h1 h2 h3 hr O0
  go_enter Try.func31, Try.ntmps31
  go_wp2_with fail
  rw [← hW, hxw]
  clear hW hxw
  refine (implEnvelopeOk_is _ _ _ _ _ _ _ _ _ ms fs gs _ he (unhide H1 xw) (unhide H2 xw) (unhide H3 xw)).mono ?_
  rintro e w1 ⟨rfl, b1⟩
  obtain ⟨xv, rfl⟩ := unhide HX _ ((unhide HL xw).trans (b1.mono (unhide HL xw).size))
  have OP := hide ((unhide OP).below b1)
  clear b1
  go_wp2_with fail
  refine (dryOk_is dm dq _ hd).mono ?_
  rintro e w2 ⟨rfl, b2⟩
  obtain ⟨xu, rfl⟩ := unhide HX _ ((unhide HL xv).trans (b2.mono (unhide HL xv).size))
  have OP := hide ((unhide OP).below b2)
  clear b2
  go_wp2_with fail
  refine (tanksOk_is _ _ _ ts _ ht (unhide HR xu)).mono ?_
  rintro e w3 ⟨rfl, b3⟩
  obtain ⟨xt, rfl⟩ := unhide HX _ ((unhide HL xu).trans (b3.mono (unhide HL xu).size))
  have OP := hide ((unhide OP).below b3)
  clear b3
  go_wp2_with fail
  go_ret2
  exact ⟨_, _, rfl, (unhide OP).mono (by omega), unhide HB xt⟩

set_option maxHeartbeats 2000000 in
theorem implOrder_stp (a1 a2 a3 : Option Addr) (l1 c1 l2 c2 l3 c3 : Nat) (ms fs gs : List Int) (dm dq step : Int) (tb toff tl tc : Nat) (ts : List (Int × Int)) (w : World) (h1 : Row w a1 l1 ms) (h2 : Row w a2 l2 fs) (h3 : Row w a3 l3 gs) (_hcap1 : l1 ≤ c1) (_hcap2 : l2 ≤ c2) (_hcap3 : l3 ≤ c3) (hr : Row2 w (some ⟨tb, toff, none⟩) tl ts) (he : envB ms fs gs = true) (hd : dryB dm dq = true) (ht : tanksB ts = true) (hs : inB step 1 10000 = false) :
    Calls Try.prog 31 #[.agg #[.slice a1 l1 c1, .slice a2 l2 c2, .slice a3 l3 c3], .agg #[.int .i64 dm, .int .i64 dq], .slice (some ⟨tb, toff, none⟩) tl tc, .int .i64 step] w fun e w' => ∃ a c, e = .returned (.tuple #[.slice a ([] : List (Int × Int)).length c, .bool (false)]) ∧ Own2 w' w.heap.size 76 (.slice a ([] : List (Int × Int)).length c) ([] : List (Int × Int)) ∧ Below w.heap.size w w' := by
  have B0 := hide (bel2 (w := w) (.cells #[.slice a1 l1 c1, .slice a2 l2 c2, .slice a3 l3 c3] 27) (.cells #[.int .i64 dm, .int .i64 dq] 34))
  obtain ⟨W, hW⟩ : ∃ W, W = (w.alloc (.cells #[.slice a1 l1 c1, .slice a2 l2 c2, .slice a3 l3 c3] 27)).alloc (.cells #[.int .i64 dm, .int .i64 dq] 34) := ⟨_, rfl⟩
  have x0 : W.cell? ⟨w.heap.size, 0, none⟩ = some (.slice a1 l1 c1) := by rw [hW]; simp [go_sem]
  have x1 : W.cell? ⟨w.heap.size, 1, none⟩ = some (.slice a2 l2 c2) := by rw [hW]; simp [go_sem]
  have x2 : W.cell? ⟨w.heap.size, 2, none⟩ = some (.slice a3 l3 c3) := by rw [hW]; simp [go_sem]
  have y0 : W.cell? ⟨w.heap.size + 1, 0, none⟩ = some (.int .i64 dm) := by rw [hW]; simp [go_sem]
  have y1 : W.cell? ⟨w.heap.size + 1, 1, none⟩ = some (.int .i64 dq) := by rw [hW]; simp [go_sem]
  have sW : W.heap.size = w.heap.size + 1 + 1 := by rw [hW]; simp
  rw [← hW] at B0
  have O0 : Own2 (W.alloc (Obj.cells #[] 76)) (w.heap.size + 1 + 1) 76 (.slice (some ⟨w.heap.size + 1 + 1, 0, none⟩) 0 0) [] := by rw [← sW]; exact own2_none (w := W) (w1 := W) 76 (Nat.le_refl _)
  obtain ⟨ι, f, hne, hbel, hall⟩ := belClass W
  obtain ⟨xw, hxw⟩ := hall _ (bel1 (w := W) (Obj.cells #[] 76))
  rw [hxw] at O0
  have x0 : ∀ x, (f x).cell? ⟨w.heap.size, 0, none⟩ = some (.slice a1 l1 c1) := fun x => ((hbel x).cell (p := ⟨w.heap.size, 0, none⟩) (by simp; omega)).trans x0
  have x1 : ∀ x, (f x).cell? ⟨w.heap.size, 1, none⟩ = some (.slice a2 l2 c2) := fun x => ((hbel x).cell (p := ⟨w.heap.size, 1, none⟩) (by simp; omega)).trans x1
  have x2 : ∀ x, (f x).cell? ⟨w.heap.size, 2, none⟩ = some (.slice a3 l3 c3) := fun x => ((hbel x).cell (p := ⟨w.heap.size, 2, none⟩) (by simp; omega)).trans x2
  have y0 : ∀ x, (f x).cell? ⟨w.heap.size + 1, 0, none⟩ = some (.int .i64 dm) := fun x => ((hbel x).cell (p := ⟨w.heap.size + 1, 0, none⟩) (by simp; omega)).trans y0
  have y1 : ∀ x, (f x).cell? ⟨w.heap.size + 1, 1, none⟩ = some (.int .i64 dq) := fun x => ((hbel x).cell (p := ⟨w.heap.size + 1, 1, none⟩) (by simp; omega)).trans y1
  have HB := hide fun x => (unhide B0).trans ((hbel x).mono (by omega))
  have H1 := hide fun x => h1.below (unhide HB x)
  have H2 := hide fun x => h2.below (unhide HB x)
  have H3 := hide fun x => h3.below (unhide HB x)
  have HR := hide fun x => hr.below (unhide HB x)
  have HL := hide hbel
  have HX := hide hall
  have HZ : Hid (∀ x, w.heap.size + 1 + 1 ≤ (f x).heap.size) := hide fun x => by have := (hbel x).size; omega
  have SW := hide sW
  have OP := hide O0
  clear hbel hall B0 sW h1 h2 h3 hr O0
  go_enter Try.func31, Try.ntmps31
  go_wp2_with fail
  rw [← hW, hxw]
  clear hW hxw
  refine (implEnvelopeOk_is _ _ _ _ _ _ _ _ _ ms fs gs _ he (unhide H1 xw) (unhide H2 xw) (unhide H3 xw)).mono ?_
  rintro e w1 ⟨rfl, b1⟩
  obtain ⟨xv, rfl⟩ := unhide HX _ ((unhide HL xw).trans (b1.mono (unhide HL xw).size))
  have OP := hide ((unhide OP).below b1)
  clear b1
  go_wp2_with fail
  refine (dryOk_is dm dq _ hd).mono ?_
  rintro e w2 ⟨rfl, b2⟩
  obtain ⟨xu, rfl⟩ := unhide HX _ ((unhide HL xv).trans (b2.mono (unhide HL xv).size))
  have OP := hide ((unhide OP).below b2)
  clear b2
  go_wp2_with fail
  refine (tanksOk_is _ _ _ ts _ ht (unhide HR xu)).mono ?_
  rintro e w3 ⟨rfl, b3⟩
  obtain ⟨xt, rfl⟩ := unhide HX _ ((unhide HL xu).trans (b3.mono (unhide HL xu).size))
  have OP := hide ((unhide OP).below b3)
  clear b3
  go_wp2_with fail
  refine (within_is _ _ _ _ hs).mono ?_
  rintro e w' ⟨rfl, hw⟩
  subst w'
  go_wp2_with fail
  go_ret2
  exact ⟨_, _, rfl, (unhide OP).mono (by omega), unhide HB xt⟩

set_option maxHeartbeats 4000000 in
theorem implOrder_out (a1 a2 a3 : Option Addr) (l1 c1 l2 c2 l3 c3 : Nat) (ms fs gs : List Int) (dm dq step : Int) (tb toff tl tc : Nat) (ts : List (Int × Int)) (w : World) (h1 : Row w a1 l1 ms) (h2 : Row w a2 l2 fs) (h3 : Row w a3 l3 gs) (hcap1 : l1 ≤ c1) (hcap2 : l2 ≤ c2) (hcap3 : l3 ≤ c3) (hr : Row2 w (some ⟨tb, toff, none⟩) tl ts) (he : envB ms fs gs = true) (hd : dryB dm dq = true) (ht : tanksB ts = true) (hs : inB step 1 10000 = true) (hi : insB ms fs gs (dm + sumM ts ts.length) (dq + sumQ ts ts.length) = false) :
    Calls Try.prog 31 #[.agg #[.slice a1 l1 c1, .slice a2 l2 c2, .slice a3 l3 c3], .agg #[.int .i64 dm, .int .i64 dq], .slice (some ⟨tb, toff, none⟩) tl tc, .int .i64 step] w fun e w' => ∃ a c, e = .returned (.tuple #[.slice a ([] : List (Int × Int)).length c, .bool (false)]) ∧ Own2 w' w.heap.size 76 (.slice a ([] : List (Int × Int)).length c) ([] : List (Int × Int)) ∧ Below w.heap.size w w' := by
  have hlen := hr.len_eq
  subst hlen
  have h8 := (tanks_facts ht).1
  have HIT := hide (tanks_facts ht).2
  have HD := hide hd
  have hst := in_facts hs
  have B0 := hide (bel2 (w := w) (.cells #[.slice a1 l1 c1, .slice a2 l2 c2, .slice a3 l3 c3] 27) (.cells #[.int .i64 dm, .int .i64 dq] 34))
  obtain ⟨W, hW⟩ : ∃ W, W = (w.alloc (.cells #[.slice a1 l1 c1, .slice a2 l2 c2, .slice a3 l3 c3] 27)).alloc (.cells #[.int .i64 dm, .int .i64 dq] 34) := ⟨_, rfl⟩
  have x0 : W.cell? ⟨w.heap.size, 0, none⟩ = some (.slice a1 l1 c1) := by rw [hW]; simp [go_sem]
  have x1 : W.cell? ⟨w.heap.size, 1, none⟩ = some (.slice a2 l2 c2) := by rw [hW]; simp [go_sem]
  have x2 : W.cell? ⟨w.heap.size, 2, none⟩ = some (.slice a3 l3 c3) := by rw [hW]; simp [go_sem]
  have y0 : W.cell? ⟨w.heap.size + 1, 0, none⟩ = some (.int .i64 dm) := by rw [hW]; simp [go_sem]
  have y1 : W.cell? ⟨w.heap.size + 1, 1, none⟩ = some (.int .i64 dq) := by rw [hW]; simp [go_sem]
  have sW : W.heap.size = w.heap.size + 1 + 1 := by rw [hW]; simp
  rw [← hW] at B0
  have O0 : Own2 (W.alloc (Obj.cells #[] 76)) (w.heap.size + 1 + 1) 76 (.slice (some ⟨w.heap.size + 1 + 1, 0, none⟩) 0 0) [] := by rw [← sW]; exact own2_none (w := W) (w1 := W) 76 (Nat.le_refl _)
  obtain ⟨ι, f, hne, hbel, hall⟩ := belClass W
  obtain ⟨xw, hxw⟩ := hall _ (bel1 (w := W) (Obj.cells #[] 76))
  rw [hxw] at O0
  have x0 : ∀ x, (f x).cell? ⟨w.heap.size, 0, none⟩ = some (.slice a1 l1 c1) := fun x => ((hbel x).cell (p := ⟨w.heap.size, 0, none⟩) (by simp; omega)).trans x0
  have x1 : ∀ x, (f x).cell? ⟨w.heap.size, 1, none⟩ = some (.slice a2 l2 c2) := fun x => ((hbel x).cell (p := ⟨w.heap.size, 1, none⟩) (by simp; omega)).trans x1
  have x2 : ∀ x, (f x).cell? ⟨w.heap.size, 2, none⟩ = some (.slice a3 l3 c3) := fun x => ((hbel x).cell (p := ⟨w.heap.size, 2, none⟩) (by simp; omega)).trans x2
  have y0 : ∀ x, (f x).cell? ⟨w.heap.size + 1, 0, none⟩ = some (.int .i64 dm) := fun x => ((hbel x).cell (p := ⟨w.heap.size + 1, 0, none⟩) (by simp; omega)).trans y0
  have y1 : ∀ x, (f x).cell? ⟨w.heap.size + 1, 1, none⟩ = some (.int .i64 dq) := fun x => ((hbel x).cell (p := ⟨w.heap.size + 1, 1, none⟩) (by simp; omega)).trans y1
  have HB := hide fun x => (unhide B0).trans ((hbel x).mono (by omega))
  have H1 := hide fun x => h1.below (unhide HB x)
  have H2 := hide fun x => h2.below (unhide HB x)
  have H3 := hide fun x => h3.below (unhide HB x)
  have HR := hide fun x => hr.below (unhide HB x)
  have HL := hide hbel
  have HX := hide hall
  have HZ : Hid (∀ x, w.heap.size + 1 + 1 ≤ (f x).heap.size) := hide fun x => by have := (hbel x).size; omega
  have SW := hide sW
  have OP := hide O0
  clear hbel hall B0 sW h1 h2 h3 hr O0
  go_enter Try.func31, Try.ntmps31
  go_wp2_with fail
  rw [← hW, hxw]
  clear hW hxw
  refine (implEnvelopeOk_is _ _ _ _ _ _ _ _ _ ms fs gs _ he (unhide H1 xw) (unhide H2 xw) (unhide H3 xw)).mono ?_
  rintro e w1 ⟨rfl, b1⟩
  obtain ⟨xv, rfl⟩ := unhide HX _ ((unhide HL xw).trans (b1.mono (unhide HL xw).size))
  have OP := hide ((unhide OP).below b1)
  clear b1
  go_wp2_with fail
  refine (dryOk_is dm dq _ hd).mono ?_
  rintro e w2 ⟨rfl, b2⟩
  obtain ⟨xu, rfl⟩ := unhide HX _ ((unhide HL xv).trans (b2.mono (unhide HL xv).size))
  have OP := hide ((unhide OP).below b2)
  clear b2
  go_wp2_with fail
  refine (tanksOk_is _ _ _ ts _ ht (unhide HR xu)).mono ?_
  rintro e w3 ⟨rfl, b3⟩
  obtain ⟨xt, rfl⟩ := unhide HX _ ((unhide HL xu).trans (b3.mono (unhide HL xu).size))
  have OP := hide ((unhide OP).below b3)
  clear b3
  go_wp2_with fail
  refine (within_is _ _ _ _ hs).mono ?_
  rintro e w' ⟨rfl, hw⟩
  subst w'
  go_wp2_with fail
  refine (copyTanks_any _ _ _ _ ts _ (unhide HR xt) (by omega)).mono ?_
  rintro e w4 ⟨la, lc, rfl, oL, b4⟩
  have hzt := unhide HZ xt
  have OL := hide (oL.mono (base' := w.heap.size + 1 + 1) hzt)
  have LL := hide oL.lies2
  have LQ : Hid (w.heap.size + 1 + 1 < (f xt).heap.size) := hide ((unhide OP).lies2 _ rfl).2
  obtain ⟨xs, rfl⟩ := unhide HX _ ((unhide HL xt).trans (b4.mono (unhide HL xt).size))
  have OP := hide ((unhide OP).below b4)
  clear b4
  have LP := hide (unhide OP).lies2
  clear oL
  go_wp2_with fail
  have fd := dry_facts (unhide HD)
  refine (sumWithFuel_any dm dq _ _ _ ts _ (unhide OL).row h8 (unhide HIT) fd.1 fd.2).mono ?_
  rintro e w5 ⟨rfl, b5⟩
  have hzs := b5.size
  obtain ⟨xr, rfl⟩ := unhide HX _ ((unhide HL xs).trans (b5.mono (unhide HL xs).size))
  have OP := hide ((unhide OP).below b5)
  have OL := hide ((unhide OL).below b5)
  clear b5
  clear fd
  have hlt1 : w.heap.size < (f xr).heap.size := by have := unhide HZ xr; omega
  have xr0 := x0 xr
  have xr1 := x1 xr
  have xr2 := x2 xr
  go_wp2_with fail
  have hP0 : Pc ((f xr).alloc (Obj.cells #[.int .i64 (dm + sumM ts ts.length), .int .i64 (dq + sumQ ts ts.length)] 34)) (f xr).heap.size (dm + sumM ts ts.length) (dq + sumQ ts ts.length) := Pc.new _ _ _
  have hB0 := bel1 (w := f xr) (Obj.cells #[.int .i64 (dm + sumM ts ts.length), .int .i64 (dq + sumQ ts ts.length)] 34)
  obtain ⟨S, hS⟩ : ∃ S, (f xr).heap.size = S := ⟨_, rfl⟩
  have hzr := unhide HZ xr
  -- where the three lie
  have DL : Hid (∀ g, (Value.slice la ts.length lc).ownBlock = some g → w.heap.size + 1 + 1 ≤ g ∧ g < S) := hide fun g hg => by have := unhide LL g hg; omega
  have DP : Hid (∀ g, (Value.slice (some ⟨w.heap.size + 1 + 1, 0, none⟩) 0 0).ownBlock = some g → g ≠ S ∧ (Value.slice la ts.length lc).ownBlock ≠ some g) := hide fun g hg => by
    simp only [Value.ownBlock, Option.some.injEq] at hg
    subst hg
    have h1 := (unhide LP (w.heap.size + 1 + 1) rfl).2
    refine ⟨by omega, fun e => ?_⟩
    have h2 := unhide LL _ e
    have h3 := unhide LQ
    omega
  have OL := hide ((unhide OL).below hB0)
  have OP := hide ((unhide OP).below hB0)
  obtain ⟨xq, hxq⟩ := unhide HX _ ((unhide HL xr).trans (hB0.mono (unhide HL xr).size))
  rw [hxq] at OL OP hP0 ⊢
  rw [hS] at hP0 ⊢
  have PS := hide hP0
  have hsS : w.heap.size + 1 + 1 ≤ S := by omega
  have hn1 : ¬ S = w.heap.size := by omega
  have hn2 : ¬ w.heap.size = S := by omega
  have hn3 : ¬ S = w.heap.size + 1 := by omega
  have hn4 : ¬ w.heap.size + 1 = S := by omega
  clear hB0 hP0 hS hxq xr0 xr1 xr2 hlt1 hzs hzr hzt LL LP
  refine (implInside_is _ _ _ _ _ _ _ _ _ ms fs gs _ _ _ hi (unhide H1 xq) (unhide H2 xq) (unhide H3 xq) hcap1 hcap2 hcap3).mono ?_
  rintro e w6 ⟨rfl, b6⟩
  obtain ⟨xp, rfl⟩ := unhide HX _ ((unhide HL xq).trans (b6.mono (unhide HL xq).size))
  have OP := hide ((unhide OP).below b6)
  clear b6
  go_wp2_with fail
  go_ret2
  exact ⟨_, _, rfl, (unhide OP).mono (by omega), unhide HB xp⟩

set_option maxRecDepth 20000 in
set_option maxHeartbeats 8000000 in
theorem implOrder_run (a1 a2 a3 : Option Addr) (l1 c1 l2 c2 l3 c3 : Nat) (ms fs gs : List Int) (dm dq step : Int) (tb toff tl tc : Nat) (ts : List (Int × Int)) (w : World) (h1 : Row w a1 l1 ms) (h2 : Row w a2 l2 fs) (h3 : Row w a3 l3 gs) (hcap1 : l1 ≤ c1) (hcap2 : l2 ≤ c2) (hcap3 : l3 ≤ c3) (hr : Row2 w (some ⟨tb, toff, none⟩) tl ts) (he : envB ms fs gs = true) (hd : dryB dm dq = true) (ht : tanksB ts = true) (hs : inB step 1 10000 = true) (hi : insB ms fs gs (dm + sumM ts ts.length) (dq + sumQ ts ts.length) = true) :
    Calls Try.prog 31 #[.agg #[.slice a1 l1 c1, .slice a2 l2 c2, .slice a3 l3 c3], .agg #[.int .i64 dm, .int .i64 dq], .slice (some ⟨tb, toff, none⟩) tl tc, .int .i64 step] w fun e w' => ∃ a c, e = .returned (.tuple #[.slice a ((orderRes ms fs gs dm dq step ts).1).length c, .bool ((orderRes ms fs gs dm dq step ts).2)]) ∧ Own2 w' w.heap.size 76 (.slice a ((orderRes ms fs gs dm dq step ts).1).length c) ((orderRes ms fs gs dm dq step ts).1) ∧ Below w.heap.size w w' := by
  have hlen := hr.len_eq
  subst hlen
  have h8 := (tanks_facts ht).1
  have HIT := hide (tanks_facts ht).2
  have HD := hide hd
  have hst := in_facts hs
  have B0 := hide (bel2 (w := w) (.cells #[.slice a1 l1 c1, .slice a2 l2 c2, .slice a3 l3 c3] 27) (.cells #[.int .i64 dm, .int .i64 dq] 34))
  obtain ⟨W, hW⟩ : ∃ W, W = (w.alloc (.cells #[.slice a1 l1 c1, .slice a2 l2 c2, .slice a3 l3 c3] 27)).alloc (.cells #[.int .i64 dm, .int .i64 dq] 34) := ⟨_, rfl⟩
  have x0 : W.cell? ⟨w.heap.size, 0, none⟩ = some (.slice a1 l1 c1) := by rw [hW]; simp [go_sem]
  have x1 : W.cell? ⟨w.heap.size, 1, none⟩ = some (.slice a2 l2 c2) := by rw [hW]; simp [go_sem]
  have x2 : W.cell? ⟨w.heap.size, 2, none⟩ = some (.slice a3 l3 c3) := by rw [hW]; simp [go_sem]
  have y0 : W.cell? ⟨w.heap.size + 1, 0, none⟩ = some (.int .i64 dm) := by rw [hW]; simp [go_sem]
  have y1 : W.cell? ⟨w.heap.size + 1, 1, none⟩ = some (.int .i64 dq) := by rw [hW]; simp [go_sem]
  have sW : W.heap.size = w.heap.size + 1 + 1 := by rw [hW]; simp
  rw [← hW] at B0
  have O0 : Own2 (W.alloc (Obj.cells #[] 76)) (w.heap.size + 1 + 1) 76 (.slice (some ⟨w.heap.size + 1 + 1, 0, none⟩) 0 0) [] := by rw [← sW]; exact own2_none (w := W) (w1 := W) 76 (Nat.le_refl _)
  obtain ⟨ι, f, hne, hbel, hall⟩ := belClass W
  obtain ⟨xw, hxw⟩ := hall _ (bel1 (w := W) (Obj.cells #[] 76))
  rw [hxw] at O0
  have x0 : ∀ x, (f x).cell? ⟨w.heap.size, 0, none⟩ = some (.slice a1 l1 c1) := fun x => ((hbel x).cell (p := ⟨w.heap.size, 0, none⟩) (by simp; omega)).trans x0
  have x1 : ∀ x, (f x).cell? ⟨w.heap.size, 1, none⟩ = some (.slice a2 l2 c2) := fun x => ((hbel x).cell (p := ⟨w.heap.size, 1, none⟩) (by simp; omega)).trans x1
  have x2 : ∀ x, (f x).cell? ⟨w.heap.size, 2, none⟩ = some (.slice a3 l3 c3) := fun x => ((hbel x).cell (p := ⟨w.heap.size, 2, none⟩) (by simp; omega)).trans x2
  have y0 : ∀ x, (f x).cell? ⟨w.heap.size + 1, 0, none⟩ = some (.int .i64 dm) := fun x => ((hbel x).cell (p := ⟨w.heap.size + 1, 0, none⟩) (by simp; omega)).trans y0
  have y1 : ∀ x, (f x).cell? ⟨w.heap.size + 1, 1, none⟩ = some (.int .i64 dq) := fun x => ((hbel x).cell (p := ⟨w.heap.size + 1, 1, none⟩) (by simp; omega)).trans y1
  have HB := hide fun x => (unhide B0).trans ((hbel x).mono (by omega))
  have H1 := hide fun x => h1.below (unhide HB x)
  have H2 := hide fun x => h2.below (unhide HB x)
  have H3 := hide fun x => h3.below (unhide HB x)
  have HR := hide fun x => hr.below (unhide HB x)
  have HL := hide hbel
  have HX := hide hall
  have HZ : Hid (∀ x, w.heap.size + 1 + 1 ≤ (f x).heap.size) := hide fun x => by have := (hbel x).size; omega
  have SW := hide sW
  have OP := hide O0
  clear hbel hall B0 sW h1 h2 h3 hr O0
  go_enter Try.func31, Try.ntmps31
  go_wp2_with fail
  rw [← hW, hxw]
  clear hW hxw
  refine (implEnvelopeOk_is _ _ _ _ _ _ _ _ _ ms fs gs _ he (unhide H1 xw) (unhide H2 xw) (unhide H3 xw)).mono ?_
  rintro e w1 ⟨rfl, b1⟩
  obtain ⟨xv, rfl⟩ := unhide HX _ ((unhide HL xw).trans (b1.mono (unhide HL xw).size))
  have OP := hide ((unhide OP).below b1)
  clear b1
  go_wp2_with fail
  refine (dryOk_is dm dq _ hd).mono ?_
  rintro e w2 ⟨rfl, b2⟩
  obtain ⟨xu, rfl⟩ := unhide HX _ ((unhide HL xv).trans (b2.mono (unhide HL xv).size))
  have OP := hide ((unhide OP).below b2)
  clear b2
  go_wp2_with fail
  refine (tanksOk_is _ _ _ ts _ ht (unhide HR xu)).mono ?_
  rintro e w3 ⟨rfl, b3⟩
  obtain ⟨xt, rfl⟩ := unhide HX _ ((unhide HL xu).trans (b3.mono (unhide HL xu).size))
  have OP := hide ((unhide OP).below b3)
  clear b3
  go_wp2_with fail
  refine (within_is _ _ _ _ hs).mono ?_
  rintro e w' ⟨rfl, hw⟩
  subst w'
  go_wp2_with fail
  refine (copyTanks_any _ _ _ _ ts _ (unhide HR xt) (by omega)).mono ?_
  rintro e w4 ⟨la, lc, rfl, oL, b4⟩
  have hzt := unhide HZ xt
  have OL := hide (oL.mono (base' := w.heap.size + 1 + 1) hzt)
  have LL := hide oL.lies2
  have LQ : Hid (w.heap.size + 1 + 1 < (f xt).heap.size) := hide ((unhide OP).lies2 _ rfl).2
  obtain ⟨xs, rfl⟩ := unhide HX _ ((unhide HL xt).trans (b4.mono (unhide HL xt).size))
  have OP := hide ((unhide OP).below b4)
  clear b4
  have LP := hide (unhide OP).lies2
  clear oL
  go_wp2_with fail
  have fd := dry_facts (unhide HD)
  refine (sumWithFuel_any dm dq _ _ _ ts _ (unhide OL).row h8 (unhide HIT) fd.1 fd.2).mono ?_
  rintro e w5 ⟨rfl, b5⟩
  have hzs := b5.size
  obtain ⟨xr, rfl⟩ := unhide HX _ ((unhide HL xs).trans (b5.mono (unhide HL xs).size))
  have OP := hide ((unhide OP).below b5)
  have OL := hide ((unhide OL).below b5)
  clear b5
  clear fd
  have hlt1 : w.heap.size < (f xr).heap.size := by have := unhide HZ xr; omega
  have xr0 := x0 xr
  have xr1 := x1 xr
  have xr2 := x2 xr
  go_wp2_with fail
  have hP0 : Pc ((f xr).alloc (Obj.cells #[.int .i64 (dm + sumM ts ts.length), .int .i64 (dq + sumQ ts ts.length)] 34)) (f xr).heap.size (dm + sumM ts ts.length) (dq + sumQ ts ts.length) := Pc.new _ _ _
  have hB0 := bel1 (w := f xr) (Obj.cells #[.int .i64 (dm + sumM ts ts.length), .int .i64 (dq + sumQ ts ts.length)] 34)
  obtain ⟨S, hS⟩ : ∃ S, (f xr).heap.size = S := ⟨_, rfl⟩
  have hzr := unhide HZ xr
  -- where the three lie
  have DL : Hid (∀ g, (Value.slice la ts.length lc).ownBlock = some g → w.heap.size + 1 + 1 ≤ g ∧ g < S) := hide fun g hg => by have := unhide LL g hg; omega
  have DP : Hid (∀ g, (Value.slice (some ⟨w.heap.size + 1 + 1, 0, none⟩) 0 0).ownBlock = some g → g ≠ S ∧ (Value.slice la ts.length lc).ownBlock ≠ some g) := hide fun g hg => by
    simp only [Value.ownBlock, Option.some.injEq] at hg
    subst hg
    have h1 := (unhide LP (w.heap.size + 1 + 1) rfl).2
    refine ⟨by omega, fun e => ?_⟩
    have h2 := unhide LL _ e
    have h3 := unhide LQ
    omega
  have OL := hide ((unhide OL).below hB0)
  have OP := hide ((unhide OP).below hB0)
  obtain ⟨xq, hxq⟩ := unhide HX _ ((unhide HL xr).trans (hB0.mono (unhide HL xr).size))
  rw [hxq] at OL OP hP0 ⊢
  rw [hS] at hP0 ⊢
  have PS := hide hP0
  have hsS : w.heap.size + 1 + 1 ≤ S := by omega
  have hn1 : ¬ S = w.heap.size := by omega
  have hn2 : ¬ w.heap.size = S := by omega
  have hn3 : ¬ S = w.heap.size + 1 := by omega
  have hn4 : ¬ w.heap.size + 1 = S := by omega
  clear hB0 hP0 hS hxq xr0 xr1 xr2 hlt1 hzs hzr hzt LL LP
  refine (implInside_is _ _ _ _ _ _ _ _ _ ms fs gs _ _ _ hi (unhide H1 xq) (unhide H2 xq) (unhide H3 xq) hcap1 hcap2 hcap3).mono ?_
  rintro e w6 ⟨rfl, b6⟩
  obtain ⟨xp, rfl⟩ := unhide HX _ ((unhide HL xq).trans (b6.mono (unhide HL xq).size))
  have OP := hide ((unhide OP).below b6)
  have OL := hide ((unhide OL).below b6)
  have PS := hide ((unhide PS).below b6)
  clear b6
  have HRR := hide (order_run (step := step) (show orderOk ms fs gs dm dq step ts = true from by simp [orderOk, he, hd, ht, hs]) hi)
  clear hi he hd hs
  go_wp2_with fail
  go_loopw [10] (fun p wr => ∃ (T P : List (Int × Int)) (a : Option Addr) (c n : Nat) (x : ι), p = .slice a P.length c ∧ wr = f x ∧ Own2 wr (w.heap.size + 1 + 1) 76 (.slice a P.length c) P ∧ Own2 wr (w.heap.size + 1 + 1) 78 (.slice la ts.length lc) T ∧ Pc wr S (dm + sumM T T.length) (dq + sumQ T T.length) ∧ Hid (∀ g, (Value.slice a P.length c).ownBlock = some g → g ≠ S ∧ (Value.slice la ts.length lc).ownBlock ≠ some g) ∧ n + P.length = 60 ∧ Hid (T.length = ts.length) ∧ Hid (∀ j, j < T.length → itemB (fstAt T j) (sndAt T j) = true) ∧ Hid (orderRes ms fs gs dm dq step ts = orderR ms fs gs dm dq step n T P)) (fun p _ => 60 - sliceLen p)
  case atStart => exact ⟨ts, [], _, _, 60, xp, rfl, rfl, unhide OP, unhide OL, unhide PS, unhide DP, rfl, rfl, unhide HIT, unhide HRR⟩
  case round =>
    clear OP OL PS DP HRR
    obtain ⟨T, P, a, c, n, x, rfl, hwr, hP, hL, hS, hD, hn, hT, hit, hR⟩ := hrel
    subst wr
    have hT8 : T.length ≤ 8 := by have := unhide hT; omega
    have BD := hide (fuel_bd hT8 (unhide HD) (unhide hit))
    have m0 := hS.c0
    have m1 := hS.c1
    have OP := hide hP
    have OL := hide hL
    have PS := hide hS
    clear hP hL hS
    by_cases hz : sumM T T.length = 0
    · have hzq := sum_zero (unhide hit) T.length (Nat.le_refl _) hz
      have HE := hide ((unhide hR).trans (orderR_empty hz))
      rw [hz, Int.add_zero] at m0
      rw [hzq, Int.add_zero] at m1
      clear hz hzq hn
      go_wp2_with fail
      go_quiet (fail)
      go_wp2
      go_ret2
      refine ⟨a, c, ?_, ?_, (unhide HB x).trans (bel0d' _)⟩
      · exact (show Ending.returned (.tuple #[.slice a P.length c, .bool true]) = _ from by rw [unhide HE])
      · rw [unhide HE]; exact ((unhide OP).drewN _).mono (by omega)
    · have HZ0 := hide hz
      have hs2 := unhide BD
      by_cases hfull : n = 0
      · subst hfull
        have HE := hide ((unhide hR).trans (orderR_full hz))
        have hlp : ¬ (P.length : Int) < 60 := by omega
        go_wp2_with fail
        go_quiet (fail)
        go_wp2
        go_ret2
        refine ⟨a, c, ?_, ?_, (unhide HB x).trans (bel0d' _)⟩
        · exact (show Ending.returned (.tuple #[.slice a P.length c, .bool false]) = _ from by rw [unhide HE])
        · rw [unhide HE]; exact ((unhide OP).drewN _).mono (by omega)
      · obtain ⟨n', rfl⟩ : ∃ n', n = n' + 1 := ⟨n - 1, by omega⟩
        have hlp : (P.length : Int) < 60 := by omega
        have hlp2 : P.length ≤ 59 := by omega
        have hlp3 : n' + 1 + P.length = 60 := hn
        have hLT : ts.length = T.length := (unhide hT).symm
        have HLT := hide hLT
        clear hLT hn
        go_wp2_with fail
        refine (nextBurn_any _ _ _ _ _ _ _ _ _ ms fs gs dm dq step _ _ _ T _ (unhide H1 x) (unhide H2 x) (unhide H3 x) hcap1 hcap2 hcap3 (unhide OL).row h8 (unhide HD) (unhide hit) hst).mono ?_
        rintro e w6 ⟨hres, b6⟩
        have OP := hide ((unhide OP).below b6)
        have OL := hide ((unhide OL).below b6)
        have PS := hide ((unhide PS).below b6)
        obtain ⟨xo, rfl⟩ := unhide HX _ ((unhide HL x).trans (b6.mono (unhide HL x).size))
        have m0 := (unhide PS).c0
        have m1 := (unhide PS).c1
        have hSlt := (unhide PS).lt
        clear b6
        rcases hres with ⟨k, hnk, hkT, hpos, rfl⟩ | ⟨hnone, rfl⟩
        · have hcan := many_can hkT hst hpos
          have hst' := many_le (T := T) (k := k) hst
          have HNK := hide hnk
          have HCAN := hide hcan
          have hksz : k < ts.length := by have := unhide HLT; omega
          have hsnd := item_facts (unhide hit k hkT)
          have HTS := hide (take1_sum (n := manyAt step T k) hkT)
          have HTI := hide (take1_items (unhide HCAN) (unhide hit))
          have BDN := hide (fuel_bd (T := take1 T k (manyAt step T k)) (by rw [take1_len]; exact hT8) (unhide HD) (unhide HTI))
          have HOR := hide ((unhide hR).trans (orderR_some (unhide HZ0) hnk))
          have HT1 : Hid (take1 T k (manyAt step T k) = T.set k (fstAt T k - manyAt step T k, sndAt T k)) := hide (by unfold take1; rw [Int.toNat_natCast])
          have HFF := hide ((unhide OL).fit k)
          have bdn := unhide BDN
          rw [take1_len, (unhide HTS).1, (unhide HTS).2] at bdn
          have hmN := (can_facts hcan).2
          rw [Int.toNat_natCast] at hmN
          have hpr := mulBd (A := 10000) (B := 1000) (s := -manyAt step T k) (d := sndAt T k) (by omega) (by omega) (by omega) (by omega) (by omega) (by omega)
          clear hnk hcan
          generalize manyAt step T k = N at *
          go_wp2_with fail
          have bA := bel1 (w := f xo) (Obj.cells #[Value.int IntKind.i64 k, Value.int IntKind.i64 N] 76)
          have PB := (Pc.new (w := f xo) k N 76)
          refine (sumBehind_any _ _ _ _ _ T k N _ ((unhide OL).below bA).row hksz h8 (by omega) (by omega) (by omega) (by omega)).mono ?_
          rintro e w7 ⟨rfl, b7⟩
          have OP := (((unhide OP).below bA).below b7)
          have OL := (((unhide OL).below bA).below b7)
          have PS := (((unhide PS).below bA).below b7)
          have PB := PB.below b7
          have hxo := unhide HZ xo
          have hBne : (f xo).heap.size ≠ S := by omega
          have n0 := PS.c0
          have n1 := PS.c1
          have z0 := PS.f0
          have z1 := PS.f1
          have OP := hide ((OP.set_other (S := S) (o := 0) (.int .i64 (dm + sumM T T.length + -N)) (fun e => (unhide hD S e).1 rfl)).set_other (S := S) (o := 1) (.int .i64 (dq + sumQ T T.length + -N * sndAt T k)) (fun e => (unhide hD S e).1 rfl))
          have hDL : (Value.slice la ts.length lc).ownBlock ≠ some S := fun e => by have := unhide DL S e; omega
          have OL := hide ((OL.set_other (S := S) (o := 0) (.int .i64 (dm + sumM T T.length + -N)) hDL).set_other (S := S) (o := 1) (.int .i64 (dq + sumQ T T.length + -N * sndAt T k)) hDL)
          have PS := hide (PS.set (dm + sumM T T.length + -N) (dq + sumQ T T.length + -N * sndAt T k))
          have PB := hide ((PB.other (p := ⟨S, 0, none⟩) (by simp; omega) (.int .i64 (dm + sumM T T.length + -N))).other (p := ⟨S, 1, none⟩) (by simp; omega) (.int .i64 (dq + sumQ T T.length + -N * sndAt T k)))
          have bW : Below W.heap.size W w7 := ((unhide HL xo).trans (bA.mono (unhide HL xo).size)).trans (b7.mono (by have := (unhide HL xo).size; simp; omega))
          obtain ⟨xn, hxn⟩ := unhide HX _ ((bW.setCell (p := ⟨S, 0, none⟩) (by have := unhide SW; simp; omega) (.int .i64 (dm + sumM T T.length + -N))).setCell (p := ⟨S, 1, none⟩) (by have := unhide SW; simp; omega) (.int .i64 (dq + sumQ T T.length + -N * sndAt T k)))
          have hB7 : (f xo).heap.size < w7.heap.size := by have := b7.size; simp at this; omega
          obtain ⟨B, hB⟩ : ∃ B, (f xo).heap.size = B := ⟨_, rfl⟩
          have hDB : Hid (∀ g, (Value.slice la ts.length lc).ownBlock = some g → g ≠ B) := hide fun g hg => by have := unhide DL g hg; omega
          clear bA b7 bW hpr bdn
          go_wp2_with fail
          rw [hxn] at OP OL PS PB
          rw [hB] at PB
          have hB8 : B < (f xn).heap.size := (unhide PB).lt
          clear hxn hB7 n0 n1 z0 z1 hB hxo hBne
          rcases (unhide OL).form with ⟨_, h0⟩ | ⟨gl, c', hv, hg1, hg2, hc1, _⟩
          · rw [h0] at hkT; simp at hkT
          simp only [Value.slice.injEq] at hv
          obtain ⟨rfl, hx, rfl⟩ := hv
          clear hx hc1
          have hglB : gl ≠ B := unhide hDB gl rfl
          have hglS : gl < S := (unhide DL gl rfl).2
          have o1 := unhide OL
          rw [unhide HLT] at o1
          -- all that the statement's region reads, in every world of the class
          obtain ⟨κ, g, hne2, hb2, hall2⟩ := belClass (f xn)
          have t0 : ∀ y, (g y).cell? ⟨gl, k * 2, none⟩ = some (.int .i64 (fstAt T k)) := fun y => ((o1.below (hb2 y)).here k hkT).1.1
          have tf : ∀ y, (g y).frozen? ⟨gl, k * 2, none⟩ = false := fun y => ((o1.below (hb2 y)).here k hkT).2.1
          have b0 : ∀ y, (g y).cell? ⟨B, 0, none⟩ = some (.int .i64 k) := fun y => ((unhide PB).below (hb2 y)).c0
          have b1 : ∀ y, (g y).cell? ⟨B, 1, none⟩ = some (.int .i64 N) := fun y => ((unhide PB).below (hb2 y)).c1
          have KL : Hid (∀ y, Own2 ((g y).setCell ⟨gl, k * 2, none⟩ (.int .i64 (fstAt T k - N))) (w.heap.size + 1 + 1) 78 (.slice (some ⟨gl, 0, none⟩) ts.length lc) (take1 T k N)) := hide fun y => by
            have h := (o1.below (hb2 y)).setFst k hkT (fstAt T k - N) (by have := (unhide HFF).1; omega)
            rw [← unhide HT1, ← unhide HLT] at h
            exact h
          have KP := hide fun y => ((unhide OP).below (hb2 y)).set_other (S := gl) (o := k * 2) (.int .i64 (fstAt T k - N)) (fun e => (unhide hD gl e).2 rfl)
          have KS := hide fun y => ((unhide PS).below (hb2 y)).other (p := ⟨gl, k * 2, none⟩) (by simp; omega) (.int .i64 (fstAt T k - N))
          have KB := hide fun y => ((unhide PB).below (hb2 y)).other (p := ⟨gl, k * 2, none⟩) (by simp; omega) (.int .i64 (fstAt T k - N))
          have KX : Hid (∀ y, ∃ z, (g y).setCell ⟨gl, k * 2, none⟩ (.int .i64 (fstAt T k - N)) = f z) := hide fun y => unhide HX _ (((unhide HL xn).trans ((hb2 y).mono (unhide HL xn).size)).setCell (p := ⟨gl, k * 2, none⟩) (by have := unhide SW; simp; omega) _)
          have hwr : IntKind.i64.wrap (fstAt T k - N) = fstAt T k - N := by rw [IntKind.wrap_i64]; omega
          have hi0 : (0 : Int) ≤ (k : Int) := by omega
          have hi1 : (k : Int) < (ts.length : Int) := by omega
          have GX := hide hall2
          clear hb2 hall2 o1 OL OP PS PB
          refine wp_region_then (unhide GX) (by kernel_rfl) (by kernel_rfl) (by kernel_rfl) ?_
          dsimp only [swapLast, lastOf]
          repeat (go_big_quiet_step (fail))
          refine wpQuiet_nil ?_
          rintro _ ⟨y, rfl⟩
          go_simp
          obtain ⟨xm, hxm⟩ := unhide KX y
          have OL := hide (unhide KL y)
          have OP := hide (unhide KP y)
          have PS := hide (unhide KS y)
          have PB := hide (unhide KB y)
          rw [hxm] at OL OP PS PB ⊢
          clear hxm t0 tf b0 b1 KL KP KS KB KX GX hwr hi0 hi1 hne2
          have b0 := (unhide PB).c0
          have b1 := (unhide PB).c1
          have lB := (unhide PB).lt
          obtain ⟨vs, hown, hvx⟩ := (unhide OP).own
          have hbA := bel1 (w := f xm) (Obj.cells #[Value.int IntKind.i64 k, Value.int IntKind.i64 N] 76)
          have hownA := ownsRow_below hown hbA
          have hnews := World.news_of_block (heap_alloc_new (f xm) (Obj.cells #[Value.int IntKind.i64 k, Value.int IntKind.i64 N] 76))
          have HVX := hide hvx
          have hvl := hown.1
          have HVL := hide hvl
          obtain ⟨i0, hi, hz0, hz1, hz2⟩ := info_parts infoBurnT
          clear hown hvx hvl
          go_wp2_with (at_builtin; refine wpList_append_lies _ rfl _ _ 45 rfl (w.heap.size + 1 + 1) 76 i0 (.agg #[.int .i64 0, .int .i64 0]) 2 16 Try.underlying45 hi hz0 hz1 hz2 rfl (by decide) (.slice a P.length c) P.length vs rfl hownA ⟨(f xm).heap.size, 0, none⟩ 1 1 [.int .i64 k, .int .i64 N] rfl rfl hnews (by simp [Value.oneCell']) (by decide) (by unfold maxLen; omega) (by omega) (by have := unhide HZ xm; simp; omega) _ rfl ?_; intro g' cap' w9 hown9 hgrow hat hlt9)
          have hrow : ∀ j, (Value.slice a P.length c).ownBlock = some j → w.heap.size + 1 + 1 ≤ j := fun j hj => ((unhide OP).lies2 j hj).1
          have hb9 : Below W.heap.size W w9 := ((unhide HL xm).trans (hbA.mono (unhide HL xm).size)).grown hgrow (by have := (unhide HL xm).size; simp; omega) (fun j hj => by have := hrow j hj; have := unhide SW; omega)
          obtain ⟨xl, hxl⟩ := unhide HX _ hb9
          have hPS := (unhide PS).lt
          have e1 : dm + sumM (take1 T k N) (take1 T k N).length = dm + sumM T T.length + -N := by rw [take1_len, (unhide HTS).1, Int.add_assoc]
          have e2 : dq + sumQ (take1 T k N) (take1 T k N).length = dq + sumQ T T.length + -N * sndAt T k := by rw [take1_len, (unhide HTS).2, Int.add_assoc]
          have hlenP : (P ++ [((k : Int), N)]).length = P.length + 1 := by simp
          refine ⟨⟨take1 T k N, P ++ [((k : Int), N)], some ⟨g', 0, none⟩, cap', n', xl, by rw [hlenP], hxl, ?_, ?_, ?_, ?_, by rw [hlenP]; omega, ?_, unhide HTI, unhide HOR⟩, ?_⟩
          · rw [hlenP]
            exact own2_app hown9 (unhide HVL) (unhide HVX) (unhide OP).fit (by omega) (by omega)
          · exact ((unhide OL).below hbA).far hgrow (fun j hj e => by
              simp only [Value.ownBlock, Option.some.injEq] at hj
              subst hj
              exact (unhide hD _ e.symm).2 rfl)
          · rw [e1, e2]
            exact ((unhide PS).below hbA).far hgrow (fun e => (unhide hD S e.symm).1 rfl)
          · refine hide fun j hj => ?_
            simp only [Value.ownBlock, Option.some.injEq] at hj
            subst hj
            rcases hat with e | e
            · exact unhide hD _ e
            · have hsz9 : ((f xm).alloc (Obj.cells #[Value.int IntKind.i64 k, Value.int IntKind.i64 N] 76)).heap.size = (f xm).heap.size + 1 := by simp
              rw [hsz9] at e
              refine ⟨by omega, ?_⟩
              simp only [Value.ownBlock, ne_eq, Option.some.injEq]
              omega
          · exact hide (by rw [take1_len]; exact unhide hT)
          · simp [sliceLen]; omega
        · have HE := hide ((unhide hR).trans (orderR_none (unhide HZ0) hnone))
          clear hnone
          have hlt5 : w.heap.size + 1 < (f xo).heap.size := by have := unhide HZ xo; omega
          have OP := hide ((unhide OP).below (bel1 (Obj.cells #[.int .i64 0, .int .i64 0] 76)))
          have HBA := hide ((unhide HB xo).alloc (unhide HB xo).size (Obj.cells #[.int .i64 0, .int .i64 0] 76))
          go_wp2_with fail
          go_quiet (fail)
          go_wp2
          go_ret2
          refine ⟨a, c, ?_, ?_, (unhide HBA).trans (bel0d' _)⟩
          · exact (show Ending.returned (.tuple #[.slice a P.length c, .bool false]) = _ from by rw [unhide HE])
          · rw [unhide HE]; exact ((unhide OP).drewN _).mono (by omega)
theorem implOrder_any (a1 a2 a3 : Option Addr) (l1 c1 l2 c2 l3 c3 : Nat) (ms fs gs : List Int) (dm dq step : Int) (tb toff tl tc : Nat) (ts : List (Int × Int)) (w : World) (h1 : Row w a1 l1 ms) (h2 : Row w a2 l2 fs) (h3 : Row w a3 l3 gs) (hcap1 : l1 ≤ c1) (hcap2 : l2 ≤ c2) (hcap3 : l3 ≤ c3) (hr : Row2 w (some ⟨tb, toff, none⟩) tl ts) :
    Calls Try.prog 31 #[.agg #[.slice a1 l1 c1, .slice a2 l2 c2, .slice a3 l3 c3], .agg #[.int .i64 dm, .int .i64 dq], .slice (some ⟨tb, toff, none⟩) tl tc, .int .i64 step] w fun e w' => ∃ a c, e = .returned (.tuple #[.slice a ((orderRes ms fs gs dm dq step ts).1).length c, .bool ((orderRes ms fs gs dm dq step ts).2)]) ∧ Own2 w' w.heap.size 76 (.slice a ((orderRes ms fs gs dm dq step ts).1).length c) ((orderRes ms fs gs dm dq step ts).1) ∧ Below w.heap.size w w' := by
  cases he : envB ms fs gs
  · rw [order_bad (by simp [orderOk, he])]; exact implOrder_env a1 a2 a3 l1 c1 l2 c2 l3 c3 ms fs gs dm dq step tb toff tl tc ts w h1 h2 h3 hcap1 hcap2 hcap3 hr he
  cases hd : dryB dm dq
  · rw [order_bad (by simp [orderOk, hd])]; exact implOrder_dry a1 a2 a3 l1 c1 l2 c2 l3 c3 ms fs gs dm dq step tb toff tl tc ts w h1 h2 h3 hcap1 hcap2 hcap3 hr he hd
  cases ht : tanksB ts
  · rw [order_bad (by simp [orderOk, ht])]; exact implOrder_tan a1 a2 a3 l1 c1 l2 c2 l3 c3 ms fs gs dm dq step tb toff tl tc ts w h1 h2 h3 hcap1 hcap2 hcap3 hr he hd ht
  cases hs : inB step 1 10000
  · rw [order_bad (by simp [orderOk, hs])]; exact implOrder_stp a1 a2 a3 l1 c1 l2 c2 l3 c3 ms fs gs dm dq step tb toff tl tc ts w h1 h2 h3 hcap1 hcap2 hcap3 hr he hd ht hs
  cases hi : insB ms fs gs (dm + sumM ts ts.length) (dq + sumQ ts ts.length)
  · rw [order_out hi]; exact implOrder_out a1 a2 a3 l1 c1 l2 c2 l3 c3 ms fs gs dm dq step tb toff tl tc ts w h1 h2 h3 hcap1 hcap2 hcap3 hr he hd ht hs hi
  · exact implOrder_run a1 a2 a3 l1 c1 l2 c2 l3 c3 ms fs gs dm dq step tb toff tl tc ts w h1 h2 h3 hcap1 hcap2 hcap3 hr he hd ht hs hi

end Go.Proofs.Ytbaocifpifbldaj

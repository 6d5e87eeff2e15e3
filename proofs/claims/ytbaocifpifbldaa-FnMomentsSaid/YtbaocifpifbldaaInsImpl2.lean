/-
  What Inside answers in the program, continued: the plain test at every envelope whose lists have no less room than length, and every sum; nothing that was there is written.
-/
import Derived.Test.YtbaocifpifbldaaInsImpl
namespace Go.Proofs.Ytbaocifpifbldaa
open Go.RowKit

set_option maxHeartbeats 2000000 in
theorem implInside_no (a1 a2 a3 : Option Addr) (l1 c1 l2 c2 l3 c3 : Nat) (ms fs gs : List Int) (m q : Int) (w : World) (h1 : Row w a1 l1 ms) (h2 : Row w a2 l2 fs) (h3 : Row w a3 l3 gs) (hc : envB ms fs gs = false) :
    Calls Try.prog 25 #[.agg #[.slice a1 l1 c1, .slice a2 l2 c2, .slice a3 l3 c3], .agg #[.int .i64 m, .int .i64 q]] w fun e w' => e = .returned (.bool false) ∧ Below w.heap.size w w' := by
  have B0 := hide (bel2 (w := w) (.cells #[.slice a1 l1 c1, .slice a2 l2 c2, .slice a3 l3 c3] 58) (.cells #[.int .i64 m, .int .i64 q] 54))
  have H1 := hide (h1.below (unhide B0))
  have H2 := hide (h2.below (unhide B0))
  have H3 := hide (h3.below (unhide B0))
  clear h1 h2 h3
  go_enter Try.func25, Try.ntmps25
  go_wp2_with fail
  refine (implEnvelopeOk_is _ _ _ _ _ _ _ _ _ ms fs gs _ hc (unhide H1) (unhide H2) (unhide H3)).mono ?_
  rintro e w1 ⟨rfl, b1⟩
  have hs1 : w.heap.size + 1 < w1.heap.size := by have := b1.size; simp at this; omega
  have y0 : w1.cell? ⟨w.heap.size + 1, 0, none⟩ = some (.int .i64 m) := (b1.cell (p := ⟨w.heap.size + 1, 0, none⟩) (by simp)).trans (by simp [go_sem])
  have y1 : w1.cell? ⟨w.heap.size + 1, 1, none⟩ = some (.int .i64 q) := (b1.cell (p := ⟨w.heap.size + 1, 1, none⟩) (by simp)).trans (by simp [go_sem])
  have B1 := hide ((unhide B0).trans (b1.mono (by simp; omega)))
  clear b1
  go_wp2_with fail
  go_ret
  exact ⟨rfl, unhide B1⟩

set_option maxHeartbeats 2000000 in
theorem implInside_low (a1 a2 a3 : Option Addr) (l1 c1 l2 c2 l3 c3 : Nat) (ms fs gs : List Int) (m q : Int) (w : World) (h1 : Row w a1 l1 ms) (h2 : Row w a2 l2 fs) (h3 : Row w a3 l3 gs) (hc : envB ms fs gs = true) (hm : ¬ 1 ≤ m) :
    Calls Try.prog 25 #[.agg #[.slice a1 l1 c1, .slice a2 l2 c2, .slice a3 l3 c3], .agg #[.int .i64 m, .int .i64 q]] w fun e w' => e = .returned (.bool false) ∧ Below w.heap.size w w' := by
  have B0 := hide (bel2 (w := w) (.cells #[.slice a1 l1 c1, .slice a2 l2 c2, .slice a3 l3 c3] 58) (.cells #[.int .i64 m, .int .i64 q] 54))
  have H1 := hide (h1.below (unhide B0))
  have H2 := hide (h2.below (unhide B0))
  have H3 := hide (h3.below (unhide B0))
  clear h1 h2 h3
  go_enter Try.func25, Try.ntmps25
  go_wp2_with fail
  refine (implEnvelopeOk_is _ _ _ _ _ _ _ _ _ ms fs gs _ hc (unhide H1) (unhide H2) (unhide H3)).mono ?_
  rintro e w1 ⟨rfl, b1⟩
  have hs1 : w.heap.size + 1 < w1.heap.size := by have := b1.size; simp at this; omega
  have y0 : w1.cell? ⟨w.heap.size + 1, 0, none⟩ = some (.int .i64 m) := (b1.cell (p := ⟨w.heap.size + 1, 0, none⟩) (by simp)).trans (by simp [go_sem])
  have y1 : w1.cell? ⟨w.heap.size + 1, 1, none⟩ = some (.int .i64 q) := (b1.cell (p := ⟨w.heap.size + 1, 1, none⟩) (by simp)).trans (by simp [go_sem])
  have B1 := hide ((unhide B0).trans (b1.mono (by simp; omega)))
  clear b1
  have hmm : m ≤ 0 := by omega
  go_wp2_with fail
  go_ret
  exact ⟨rfl, unhide B1⟩

set_option maxHeartbeats 2000000 in
theorem implInside_mom (a1 a2 a3 : Option Addr) (l1 c1 l2 c2 l3 c3 : Nat) (ms fs gs : List Int) (m q : Int) (w : World) (h1 : Row w a1 l1 ms) (h2 : Row w a2 l2 fs) (h3 : Row w a3 l3 gs) (hc : envB ms fs gs = true) (hm : 1 ≤ m) (hq : inB q (-1000000000) 1000000000 = false) :
    Calls Try.prog 25 #[.agg #[.slice a1 l1 c1, .slice a2 l2 c2, .slice a3 l3 c3], .agg #[.int .i64 m, .int .i64 q]] w fun e w' => e = .returned (.bool false) ∧ Below w.heap.size w w' := by
  have B0 := hide (bel2 (w := w) (.cells #[.slice a1 l1 c1, .slice a2 l2 c2, .slice a3 l3 c3] 58) (.cells #[.int .i64 m, .int .i64 q] 54))
  have H1 := hide (h1.below (unhide B0))
  have H2 := hide (h2.below (unhide B0))
  have H3 := hide (h3.below (unhide B0))
  clear h1 h2 h3
  go_enter Try.func25, Try.ntmps25
  go_wp2_with fail
  refine (implEnvelopeOk_is _ _ _ _ _ _ _ _ _ ms fs gs _ hc (unhide H1) (unhide H2) (unhide H3)).mono ?_
  rintro e w1 ⟨rfl, b1⟩
  have hs1 : w.heap.size + 1 < w1.heap.size := by have := b1.size; simp at this; omega
  have y0 : w1.cell? ⟨w.heap.size + 1, 0, none⟩ = some (.int .i64 m) := (b1.cell (p := ⟨w.heap.size + 1, 0, none⟩) (by simp)).trans (by simp [go_sem])
  have y1 : w1.cell? ⟨w.heap.size + 1, 1, none⟩ = some (.int .i64 q) := (b1.cell (p := ⟨w.heap.size + 1, 1, none⟩) (by simp)).trans (by simp [go_sem])
  have B1 := hide ((unhide B0).trans (b1.mono (by simp; omega)))
  clear b1
  have hmm : ¬ m ≤ 0 := by omega
  go_wp2_with (go_at_call 52; refine (within_is _ _ _ _ hq).mono ?_; rintro e w' ⟨rfl, hw⟩; subst w')
  go_ret
  exact ⟨rfl, unhide B1⟩

set_option maxHeartbeats 2000000 in
theorem implInside_out (a1 a2 a3 : Option Addr) (l1 c1 l2 c2 l3 c3 : Nat) (ms fs gs : List Int) (m q : Int) (w : World) (h1 : Row w a1 l1 ms) (h2 : Row w a2 l2 fs) (h3 : Row w a3 l3 gs) (hc : envB ms fs gs = true) (hm : 1 ≤ m) (hq : inB q (-1000000000) 1000000000 = true) (hin : inB m (nth ms 0) (nth ms (ms.length - 1)) = false) :
    Calls Try.prog 25 #[.agg #[.slice a1 l1 c1, .slice a2 l2 c2, .slice a3 l3 c3], .agg #[.int .i64 m, .int .i64 q]] w fun e w' => e = .returned (.bool false) ∧ Below w.heap.size w w' := by
  have F := envB_facts hc
  have hn := F.many
  have HF := hide F
  have hf1 : fs.length ≤ ms.length := by have := F.lf; omega
  have hf2 : ms.length ≤ fs.length := by have := F.lf; omega
  have ha1 : gs.length ≤ ms.length := by have := F.la; omega
  have ha2 : ms.length ≤ gs.length := by have := F.la; omega
  clear F
  have hl1 := h1.len_eq
  have hl2 := h2.len_eq
  have hl3 := h3.len_eq
  subst hl1
  subst hl2
  subst hl3
  rcases h1.open_ with ⟨h0, _⟩ | ⟨bb1, off1, rfl, _, hcm⟩
  · omega
  rcases h2.open_ with ⟨h0, _⟩ | ⟨bb2, off2, rfl, _, hcf⟩
  · omega
  rcases h3.open_ with ⟨h0, _⟩ | ⟨bb3, off3, rfl, _, hcg⟩
  · omega
  have B0 := hide (bel2 (w := w) (.cells #[.slice (some ⟨bb1, off1, none⟩) ms.length c1, .slice (some ⟨bb2, off2, none⟩) fs.length c2, .slice (some ⟨bb3, off3, none⟩) gs.length c3] 58) (.cells #[.int .i64 m, .int .i64 q] 54))
  have H1 := hide (h1.below (unhide B0))
  have H2 := hide (h2.below (unhide B0))
  have H3 := hide (h3.below (unhide B0))
  clear h1 h2 h3
  have HX := hide hcm
  have HY := hide hcf
  have HZ := hide hcg
  clear hcm hcf hcg
  go_enter Try.func25, Try.ntmps25
  go_wp2_with fail
  refine (implEnvelopeOk_is _ _ _ _ _ _ _ _ _ ms fs gs _ hc (unhide H1) (unhide H2) (unhide H3)).mono ?_
  rintro e w1 ⟨rfl, b1⟩
  have hs1 : w.heap.size + 1 < w1.heap.size := by have := b1.size; simp at this; omega
  have x0 : w1.cell? ⟨w.heap.size, 0, none⟩ = some (.slice (some ⟨bb1, off1, none⟩) ms.length c1) := (b1.cell (p := ⟨w.heap.size, 0, none⟩) (by simp; omega)).trans (by simp [go_sem])
  have x1 : w1.cell? ⟨w.heap.size, 1, none⟩ = some (.slice (some ⟨bb2, off2, none⟩) fs.length c2) := (b1.cell (p := ⟨w.heap.size, 1, none⟩) (by simp; omega)).trans (by simp [go_sem])
  have x2 : w1.cell? ⟨w.heap.size, 2, none⟩ = some (.slice (some ⟨bb3, off3, none⟩) gs.length c3) := (b1.cell (p := ⟨w.heap.size, 2, none⟩) (by simp; omega)).trans (by simp [go_sem])
  have y0 : w1.cell? ⟨w.heap.size + 1, 0, none⟩ = some (.int .i64 m) := (b1.cell (p := ⟨w.heap.size + 1, 0, none⟩) (by simp)).trans (by simp [go_sem])
  have y1 : w1.cell? ⟨w.heap.size + 1, 1, none⟩ = some (.int .i64 q) := (b1.cell (p := ⟨w.heap.size + 1, 1, none⟩) (by simp)).trans (by simp [go_sem])
  have B1 := hide ((unhide B0).trans (b1.mono (by simp; omega)))
  have HX := hide fun i hi => ((unhide B1).cell (block_lt_of_cell (unhide HX i hi))).trans (unhide HX i hi)
  have HY := hide fun i hi => ((unhide B1).cell (block_lt_of_cell (unhide HY i hi))).trans (unhide HY i hi)
  have HZ := hide fun i hi => ((unhide B1).cell (block_lt_of_cell (unhide HZ i hi))).trans (unhide HZ i hi)
  clear b1 H1 H2 H3
  have hmm : ¬ m ≤ 0 := by omega
  go_wp2_with (go_at_call 52; refine (within_is _ _ _ _ hq).mono ?_; rintro e w' ⟨rfl, hw⟩; subst w')
  refine (lowerPlace_no _ _ _ ms _ _ (by omega) (by omega) (unhide HX) hin).mono ?_
  rintro e w2 ⟨rfl, n, hw⟩
  have B2 := hide ((unhide B1).trans (show Below w.heap.size w1 w2 by rw [hw]; exact bel0d' n))
  clear hw
  go_wp2_with fail
  go_ret
  exact ⟨rfl, unhide B2⟩

set_option maxHeartbeats 2000000 in
theorem implInside_yes (a1 a2 a3 : Option Addr) (l1 c1 l2 c2 l3 c3 : Nat) (ms fs gs : List Int) (m q : Int) (w : World) (h1 : Row w a1 l1 ms) (h2 : Row w a2 l2 fs) (h3 : Row w a3 l3 gs) (hcap1 : l1 ≤ c1) (hcap2 : l2 ≤ c2) (hcap3 : l3 ≤ c3) (hc : envB ms fs gs = true) (hm : 1 ≤ m) (hq : inB q (-1000000000) 1000000000 = true) (hin : inB m (nth ms 0) (nth ms (ms.length - 1)) = true) :
    Calls Try.prog 25 #[.agg #[.slice a1 l1 c1, .slice a2 l2 c2, .slice a3 l3 c3], .agg #[.int .i64 m, .int .i64 q]] w fun e w' => e = .returned (.bool (foreB ms fs m q && aftB ms gs m q)) ∧ Below w.heap.size w w' := by
  have F := envB_facts hc
  have hn := F.many
  have HF := hide F
  have hf1 : fs.length ≤ ms.length := by have := F.lf; omega
  have hf2 : ms.length ≤ fs.length := by have := F.lf; omega
  have ha1 : gs.length ≤ ms.length := by have := F.la; omega
  have ha2 : ms.length ≤ gs.length := by have := F.la; omega
  clear F
  have hl1 := h1.len_eq
  have hl2 := h2.len_eq
  have hl3 := h3.len_eq
  subst hl1
  subst hl2
  subst hl3
  rcases h1.open_ with ⟨h0, _⟩ | ⟨bb1, off1, rfl, _, hcm⟩
  · omega
  rcases h2.open_ with ⟨h0, _⟩ | ⟨bb2, off2, rfl, _, hcf⟩
  · omega
  rcases h3.open_ with ⟨h0, _⟩ | ⟨bb3, off3, rfl, _, hcg⟩
  · omega
  have B0 := hide (bel2 (w := w) (.cells #[.slice (some ⟨bb1, off1, none⟩) ms.length c1, .slice (some ⟨bb2, off2, none⟩) fs.length c2, .slice (some ⟨bb3, off3, none⟩) gs.length c3] 58) (.cells #[.int .i64 m, .int .i64 q] 54))
  have H1 := hide (h1.below (unhide B0))
  have H2 := hide (h2.below (unhide B0))
  have H3 := hide (h3.below (unhide B0))
  clear h1 h2 h3
  have HX := hide hcm
  have HY := hide hcf
  have HZ := hide hcg
  clear hcm hcf hcg
  go_enter Try.func25, Try.ntmps25
  go_wp2_with fail
  refine (implEnvelopeOk_is _ _ _ _ _ _ _ _ _ ms fs gs _ hc (unhide H1) (unhide H2) (unhide H3)).mono ?_
  rintro e w1 ⟨rfl, b1⟩
  have hs1 : w.heap.size + 1 < w1.heap.size := by have := b1.size; simp at this; omega
  have x0 : w1.cell? ⟨w.heap.size, 0, none⟩ = some (.slice (some ⟨bb1, off1, none⟩) ms.length c1) := (b1.cell (p := ⟨w.heap.size, 0, none⟩) (by simp; omega)).trans (by simp [go_sem])
  have x1 : w1.cell? ⟨w.heap.size, 1, none⟩ = some (.slice (some ⟨bb2, off2, none⟩) fs.length c2) := (b1.cell (p := ⟨w.heap.size, 1, none⟩) (by simp; omega)).trans (by simp [go_sem])
  have x2 : w1.cell? ⟨w.heap.size, 2, none⟩ = some (.slice (some ⟨bb3, off3, none⟩) gs.length c3) := (b1.cell (p := ⟨w.heap.size, 2, none⟩) (by simp; omega)).trans (by simp [go_sem])
  have y0 : w1.cell? ⟨w.heap.size + 1, 0, none⟩ = some (.int .i64 m) := (b1.cell (p := ⟨w.heap.size + 1, 0, none⟩) (by simp)).trans (by simp [go_sem])
  have y1 : w1.cell? ⟨w.heap.size + 1, 1, none⟩ = some (.int .i64 q) := (b1.cell (p := ⟨w.heap.size + 1, 1, none⟩) (by simp)).trans (by simp [go_sem])
  have B1 := hide ((unhide B0).trans (b1.mono (by simp; omega)))
  have HX := hide fun i hi => ((unhide B1).cell (block_lt_of_cell (unhide HX i hi))).trans (unhide HX i hi)
  have HY := hide fun i hi => ((unhide B1).cell (block_lt_of_cell (unhide HY i hi))).trans (unhide HY i hi)
  have HZ := hide fun i hi => ((unhide B1).cell (block_lt_of_cell (unhide HZ i hi))).trans (unhide HZ i hi)
  clear b1 H1 H2 H3
  have hmm : ¬ m ≤ 0 := by omega
  go_wp2_with (go_at_call 52; refine (within_is _ _ _ _ hq).mono ?_; rintro e w' ⟨rfl, hw⟩; subst w')
  refine (lowerPlace_yes _ _ _ ms _ _ (by omega) (by omega) (unhide HX) hin).mono ?_
  rintro e w2 ⟨rfl, n, hw⟩
  have b2 : Below w1.heap.size w1 w2 := by rw [hw]; exact bel0d' n
  clear hw
  have hs2 : w.heap.size + 1 < w2.heap.size := by have := b2.size; omega
  have hs0 : w.heap.size < w1.heap.size := by omega
  have x0 := (b2.cell (p := ⟨w.heap.size, 0, none⟩) hs0).trans x0
  have x1 := (b2.cell (p := ⟨w.heap.size, 1, none⟩) hs0).trans x1
  have x2 := (b2.cell (p := ⟨w.heap.size, 2, none⟩) hs0).trans x2
  have y0 := (b2.cell (p := ⟨w.heap.size + 1, 0, none⟩) hs1).trans y0
  have y1 := (b2.cell (p := ⟨w.heap.size + 1, 1, none⟩) hs1).trans y1
  have B2 := hide ((unhide B1).trans (b2.mono (by omega)))
  have hk2 := lowAt_lt (zs := ms) (x := m) (by omega)
  have hxi := in_facts hin
  have hx0 := (unhide HF).mb 0 (by omega)
  have hx1 := (unhide HF).mb (ms.length - 1) (by omega)
  have hxx : 0 ≤ m ∧ m ≤ 400000 := by omega
  have hqq := in_facts hq
  clear hxi hx0 hx1 hin hq
  have HN : Hid (foreB ms fs m q = decide (bndAt ms fs m (lowAt ms m) * m ≤ q * widAt ms (lowAt ms m))) := hide rfl
  have HD : Hid (aftB ms gs m q = decide (q * widAt ms (lowAt ms m) ≤ bndAt ms gs m (lowAt ms m) * m)) := hide rfl
  unfold bndAt widAt at HN HD
  generalize lowAt ms m = k at *
  have cx0 := (b2.cell (block_lt_of_cell ((unhide HX) k (by omega)))).trans ((unhide HX) k (by omega))
  have cx1 := (b2.cell (block_lt_of_cell ((unhide HX) (k + 1) (by omega)))).trans ((unhide HX) (k + 1) (by omega))
  have cy0 := (b2.cell (block_lt_of_cell ((unhide HY) k (by omega)))).trans ((unhide HY) k (by omega))
  have cy1 := (b2.cell (block_lt_of_cell ((unhide HY) (k + 1) (by omega)))).trans ((unhide HY) (k + 1) (by omega))
  have cz0 := (b2.cell (block_lt_of_cell ((unhide HZ) k (by omega)))).trans ((unhide HZ) k (by omega))
  have cz1 := (b2.cell (block_lt_of_cell ((unhide HZ) (k + 1) (by omega)))).trans ((unhide HZ) (k + 1) (by omega))
  rw [← Nat.add_assoc] at cx1 cy1 cz1
  have bx0 := (unhide HF).mb k (by omega)
  have bx1 := (unhide HF).mb (k + 1) (by omega)
  have by0 := (unhide HF).fb k (by omega)
  have by1 := (unhide HF).fb (k + 1) (by omega)
  have bz0 := (unhide HF).ab k (by omega)
  have bz1 := (unhide HF).ab (k + 1) (by omega)
  clear HX HY HZ b2
  go_wp2_with fail
  refine (neighbours_any _ _ _ _ _ _ (by omega) (by omega) (by omega)).mono ?_
  rintro e w' ⟨rfl, hw⟩
  subst w'
  go_wp2_with fail
  obtain ⟨ι, f, hne, hb, hall⟩ := belClass w2
  have x1 : ∀ x, (f x).cell? ⟨w.heap.size, 1, none⟩ = some (.slice (some ⟨bb2, off2, none⟩) fs.length c2) := fun x => ((hb x).cell (p := ⟨w.heap.size, 1, none⟩) (by simp; omega)).trans x1
  have x2 : ∀ x, (f x).cell? ⟨w.heap.size, 2, none⟩ = some (.slice (some ⟨bb3, off3, none⟩) gs.length c3) := fun x => ((hb x).cell (p := ⟨w.heap.size, 2, none⟩) (by simp; omega)).trans x2
  have y0 : ∀ x, (f x).cell? ⟨w.heap.size + 1, 0, none⟩ = some (.int .i64 m) := fun x => ((hb x).cell (p := ⟨w.heap.size + 1, 0, none⟩) (by simp; omega)).trans y0
  have y1 : ∀ x, (f x).cell? ⟨w.heap.size + 1, 1, none⟩ = some (.int .i64 q) := fun x => ((hb x).cell (p := ⟨w.heap.size + 1, 1, none⟩) (by simp; omega)).trans y1
  have CX0 := hide fun x => ((hb x).cell (block_lt_of_cell cx0)).trans cx0
  have CX1 := hide fun x => ((hb x).cell (block_lt_of_cell cx1)).trans cx1
  have CY0 := hide fun x => ((hb x).cell (block_lt_of_cell cy0)).trans cy0
  have CY1 := hide fun x => ((hb x).cell (block_lt_of_cell cy1)).trans cy1
  have CZ0 := hide fun x => ((hb x).cell (block_lt_of_cell cz0)).trans cz0
  have CZ1 := hide fun x => ((hb x).cell (block_lt_of_cell cz1)).trans cz1
  have HB := hide hb
  have HA := hide hall
  clear hb hall cx0 cx1 cy0 cy1 cz0 cz1
  have ZF : Hid (∃ c, decide (q * (nth ms (k + 1) - nth ms k) < (nth fs k * (nth ms (k + 1) - nth ms k) + (nth fs (k + 1) - nth fs k) * (m - nth ms k)) * m) = c) := hide ⟨_, rfl⟩
  have ZG : Hid (∃ c, decide ((nth gs k * (nth ms (k + 1) - nth ms k) + (nth gs (k + 1) - nth gs k) * (m - nth ms k)) * m < q * (nth ms (k + 1) - nth ms k)) = c) := hide ⟨_, rfl⟩
  obtain ⟨cf, hcf⟩ := unhide ZF
  obtain ⟨cg, hcg⟩ := unhide ZG
  have HCF := hide hcf
  have HCG := hide hcg
  clear hcf hcg ZF ZG
  cases cf <;> cases cg
  all_goals
    refine wp_region_bel (unhide HA) (by kernel_rfl) (by kernel_rfl) ?_
    repeat (go_big_quiet_step (first
      | (go_at_call 41; exact belS (neighbours_any _ _ _ _ _ _ (by omega) (by omega) (by omega)))
      | (go_at_call_of 56 (Value.slice (some ⟨bb2, off2 + k, none⟩) 2 2); exact belQ (unhide HB) (unhide HA) (passes_fore _ _ _ _ (nth ms k) (nth ms (k + 1)) (nth fs k) (nth fs (k + 1)) m q _ bx0 bx1 by0 by1 hxx hqq (unhide CX0 _) (unhide CX1 _) (unhide CY0 _) (unhide CY1 _) (unhide HCF)))
      | (go_at_call_of 56 (Value.slice (some ⟨bb3, off3 + k, none⟩) 2 2); exact belQ (unhide HB) (unhide HA) (passes_aft _ _ _ _ (nth ms k) (nth ms (k + 1)) (nth gs k) (nth gs (k + 1)) m q _ bx0 bx1 bz0 bz1 hxx hqq (unhide CX0 _) (unhide CX1 _) (unhide CZ0 _) (unhide CZ1 _) (unhide HCG)))))
    refine wpQuiet_nil ?_
    rintro _ ⟨x, rfl⟩
    go_wp2
    go_ret
    refine ⟨ret_bool ?_, (unhide B2).trans ((unhide HB x).mono (by omega))⟩
    have z1 := unhide HCF
    have z2 := unhide HCG
    rw [unhide HN, unhide HD]
    simp at z1 z2
    simp [z1, z2]

theorem implInside_any (a1 a2 a3 : Option Addr) (l1 c1 l2 c2 l3 c3 : Nat) (ms fs gs : List Int) (m q : Int) (w : World) (h1 : Row w a1 l1 ms) (h2 : Row w a2 l2 fs) (h3 : Row w a3 l3 gs) (hcap1 : l1 ≤ c1) (hcap2 : l2 ≤ c2) (hcap3 : l3 ≤ c3) :
    Calls Try.prog 25 #[.agg #[.slice a1 l1 c1, .slice a2 l2 c2, .slice a3 l3 c3], .agg #[.int .i64 m, .int .i64 q]] w fun e w' => e = .returned (.bool (insB ms fs gs m q)) ∧ Below w.heap.size w w' := by
  cases hc : envB ms fs gs
  · rw [ins_env hc]; exact implInside_no a1 a2 a3 l1 c1 l2 c2 l3 c3 ms fs gs m q w h1 h2 h3 hc
  · by_cases hm : 1 ≤ m
    · cases hq : inB q (-1000000000) 1000000000
      · rw [ins_mom hq]; exact implInside_mom a1 a2 a3 l1 c1 l2 c2 l3 c3 ms fs gs m q w h1 h2 h3 hc hm hq
      · cases hin : inB m (nth ms 0) (nth ms (ms.length - 1))
        · rw [ins_out hin]; exact implInside_out a1 a2 a3 l1 c1 l2 c2 l3 c3 ms fs gs m q w h1 h2 h3 hc hm hq hin
        · rw [ins_yes hc hm hin hq]; exact implInside_yes a1 a2 a3 l1 c1 l2 c2 l3 c3 ms fs gs m q w h1 h2 h3 hcap1 hcap2 hcap3 hc hm hq hin
    · rw [ins_low hm]; exact implInside_low a1 a2 a3 l1 c1 l2 c2 l3 c3 ms fs gs m q w h1 h2 h3 hc hm

end Go.Proofs.Ytbaocifpifbldaa

/-
  What the model's DrawRunner answers: a right runner and a speed to lift at, each number within its bounds. At every list of bytes; nothing that was there is written.
-/
import Derived.Test.YtkebjipmbgjilaaCurNew
import Derived.Test.YtkebjipmbgjilaaRunCell
import Derived.Deep.DrawnRows
namespace Go.Proofs.Ytkebjipmbgjilaa
open Go.RowKit
attribute [local go_sem ↓] Go.wp_at_zero Go.wp_at_succ

set_option maxRecDepth 20000 in
set_option maxHeartbeats 8000000 in
theorem drawRunner_any (a : Option Addr) (len cap : Nat) (w : World) (hb : Bytes w a len) (hin : ∀ b off, a = some ⟨b, off, none⟩ → b < w.heap.size) :
    Calls Try.prog 31 #[.slice a len cap] w fun x w' => ∃ (p d s e lift : Int),
      x = .returned (.tuple #[.agg #[.int .i64 p, .int .i64 d, .int .i64 s, .int .i64 e], .int .i64 lift]) ∧
      (2 ≤ p ∧ p ≤ 9) ∧ (0 ≤ d ∧ d ≤ 1) ∧ (1 ≤ s ∧ s ≤ 12) ∧ (2 ≤ e ∧ e ≤ 4) ∧ (1 ≤ lift ∧ lift ≤ 120) ∧ Below w.heap.size w w' := by
  have B0 := hide (bel1 (w := w) (Obj.cells #[.int .i64 0, .int .i64 0, .int .i64 0, .int .i64 0] 75))
  have HY := hide (hb.below (unhide B0))
  have HIN := hide hin
  clear hb hin
  go_enter Try.func31, Try.ntmps31
  go_wp2_with fail
  obtain ⟨W, hW⟩ : ∃ W, W = w.alloc (Obj.cells #[.int .i64 0, .int .i64 0, .int .i64 0, .int .i64 0] 75) := ⟨_, rfl⟩
  have R0 : Rn W w.heap.size 0 0 0 0 := by rw [hW]; exact Rn.new _ _ _ _ _
  have rf0 : W.frozen? ⟨w.heap.size, 0, none⟩ = false := by rw [hW]; simp [go_sem]
  have rf1 : W.frozen? ⟨w.heap.size, 1, none⟩ = false := by rw [hW]; simp [go_sem]
  have rf2 : W.frozen? ⟨w.heap.size, 2, none⟩ = false := by rw [hW]; simp [go_sem]
  have rf3 : W.frozen? ⟨w.heap.size, 3, none⟩ = false := by rw [hW]; simp [go_sem]
  have RF := hide (show W.frozen? ⟨w.heap.size, 0, none⟩ = false ∧ W.frozen? ⟨w.heap.size, 1, none⟩ = false ∧ W.frozen? ⟨w.heap.size, 2, none⟩ = false ∧ W.frozen? ⟨w.heap.size, 3, none⟩ = false from ⟨rf0, rf1, rf2, rf3⟩)
  have sW : W.heap.size = w.heap.size + 1 := by rw [hW]; simp
  rw [← hW] at B0 HY ⊢
  have HR0 := hide R0
  clear hW rf0 rf1 rf2 rf3 R0
  obtain ⟨C, hC⟩ : ∃ C, W.heap.size = C := ⟨_, rfl⟩
  have hneC : Hid (∀ b off, a = some ⟨b, off, none⟩ → b ≠ C) := hide fun b off e => by have := unhide HIN b off e; omega
  have hneC' : Hid (∀ b off, a = some ⟨b, off, none⟩ → some b ≠ some C) := hide fun b off e => by have := unhide hneC b off e; simp [this]
  refine (l1New_any a len cap W (unhide HY)).mono ?_
  rintro x w1 ⟨rfl, hc1, b1⟩
  rw [hC] at hc1 ⊢
  have hCw : C = w.heap.size + 1 := by omega
  have HCW := hide hCw
  have HSW : Hid (W.heap.size = C) := hide hC
  have HG1 : Hid (W.grownBy w1 (some C)) := hide ⟨b1.os, b1.tape, b1.output, b1.size, fun k hk _ => b1.block k hk⟩
  have HC1 := hide hc1
  have HY1 := hide ((unhide HY).below b1)
  clear hc1 b1 hC sW hCw
  go_wp2_with fail
  refine (l1Below_any C a len cap 8 _ (unhide HC1) (unhide HY1) (unhide hneC) (by omega)).mono ?_
  rintro x w2 ⟨p, rfl, hp, hc, gr⟩
  have HG2 := hide (grown_trans (unhide HG1) gr)
  have HC2 := hide hc
  have HY2 := hide ((unhide HY1).far gr (unhide hneC'))
  clear hc gr
  go_wp2_with fail
  refine (l1Below_any C a len cap 2 _ (unhide HC2) (unhide HY2) (unhide hneC) (by omega)).mono ?_
  rintro x w3 ⟨d, rfl, hd, hc, gr⟩
  have HG3 := hide (grown_trans (unhide HG2) gr)
  have HC3 := hide hc
  have HY3 := hide ((unhide HY2).far gr (unhide hneC'))
  clear hc gr
  go_wp2_with fail
  refine (l1Below_any C a len cap 12 _ (unhide HC3) (unhide HY3) (unhide hneC) (by omega)).mono ?_
  rintro x w4 ⟨s, rfl, hs, hc, gr⟩
  have HG4 := hide (grown_trans (unhide HG3) gr)
  have HC4 := hide hc
  have HY4 := hide ((unhide HY3).far gr (unhide hneC'))
  clear hc gr
  go_wp2_with fail
  refine (l1Below_any C a len cap 3 _ (unhide HC4) (unhide HY4) (unhide hneC) (by omega)).mono ?_
  rintro x w5 ⟨e, rfl, he, hc, gr⟩
  have HG5 := hide (grown_trans (unhide HG4) gr)
  have HC5 := hide hc
  have HY5 := hide ((unhide HY4).far gr (unhide hneC'))
  clear hc gr
  obtain ⟨G, hG⟩ : ∃ n, w5.heap.size = n := ⟨_, rfl⟩
  have hCG : Hid (C + 1 ≤ G) := hide (by have := (unhide HC5).lt; omega)
  obtain ⟨V, hV⟩ : ∃ V, V = w5.alloc (Obj.cells #[.int .i64 (2 + p), .int .i64 d, .int .i64 (1 + s), .int .i64 (2 + e)] 75) := ⟨_, rfl⟩
  have bV : Below w5.heap.size w5 V := by rw [hV]; exact bel1 _
  have gV : w5.grownBy V (some C) := ⟨bV.os, bV.tape, bV.output, bV.size, fun k hk _ => bV.block k hk⟩
  have RV : Rn V G (2 + p) d (1 + s) (2 + e) := by rw [hV, ← hG]; exact Rn.new _ _ _ _ _
  have sV : Hid (V.heap.size = G + 1) := hide (by rw [hV, ← hG]; simp)
  have HC6 := hide ((unhide HC5).below bV)
  have HY6 := hide ((unhide HY5).below bV)
  have HGV := hide (grown_trans (unhide HG5) gV)
  have hblk : ∀ k, k < C → V.heap[k]? = W.heap[k]? := fun k hk => (unhide HGV).block k (by have := unhide HSW; omega) (by simp; omega)
  have HBK := hide hblk
  have hRR : Rn V w.heap.size 0 0 0 0 := by
    have hh := hblk w.heap.size (by have := unhide HCW; omega)
    have q := unhide HR0
    exact ⟨(World.cell?_of_block (a := ⟨w.heap.size, 0, none⟩) hh).trans q.c0, (World.cell?_of_block (a := ⟨w.heap.size, 1, none⟩) hh).trans q.c1, (World.cell?_of_block (a := ⟨w.heap.size, 2, none⟩) hh).trans q.c2, (World.cell?_of_block (a := ⟨w.heap.size, 3, none⟩) hh).trans q.c3, by have := unhide sV; have := unhide HCW; have := unhide hCG; omega⟩
  have e0 := RV.c0
  have e1 := RV.c1
  have e2 := RV.c2
  have e3 := RV.c3
  have r0 := hRR.c0
  have r1 := hRR.c1
  have r2 := hRR.c2
  have r3 := hRR.c3
  have hh := hblk w.heap.size (by have := unhide HCW; omega)
  have rf0 : V.frozen? ⟨w.heap.size, 0, none⟩ = false := (World.frozen?_of_block (a := ⟨w.heap.size, 0, none⟩) hh).trans (unhide RF).1
  have rf1 : V.frozen? ⟨w.heap.size, 1, none⟩ = false := (World.frozen?_of_block (a := ⟨w.heap.size, 1, none⟩) hh).trans (unhide RF).2.1
  have rf2 : V.frozen? ⟨w.heap.size, 2, none⟩ = false := (World.frozen?_of_block (a := ⟨w.heap.size, 2, none⟩) hh).trans (unhide RF).2.2.1
  have rf3 : V.frozen? ⟨w.heap.size, 3, none⟩ = false := (World.frozen?_of_block (a := ⟨w.heap.size, 3, none⟩) hh).trans (unhide RF).2.2.2
  have POST : Hid (∀ w7, (V.drewN 1).grownBy w7 (some C) → Rn w7 G (2 + p) d (1 + s) (2 + e) ∧ Rn w7 w.heap.size 0 0 0 0 ∧ w7.frozen? ⟨w.heap.size, 0, none⟩ = false ∧ w7.frozen? ⟨w.heap.size, 1, none⟩ = false ∧ w7.frozen? ⟨w.heap.size, 2, none⟩ = false ∧ w7.frozen? ⟨w.heap.size, 3, none⟩ = false) := hide fun w7 gr7 => by
    have hb7 : ∀ k, k < V.heap.size → k ≠ C → w7.heap[k]? = V.heap[k]? := fun k hk hn => gr7.block k hk (by simp [hn])
    have h1 := hb7 G (by have := unhide sV; omega) (by have := unhide hCG; omega)
    have h2 := hb7 w.heap.size (by have := unhide sV; have := unhide HCW; have := unhide hCG; omega) (by have := unhide HCW; omega)
    have hs := gr7.size
    exact ⟨⟨(World.cell?_of_block (a := ⟨G, 0, none⟩) h1).trans e0, (World.cell?_of_block (a := ⟨G, 1, none⟩) h1).trans e1, (World.cell?_of_block (a := ⟨G, 2, none⟩) h1).trans e2, (World.cell?_of_block (a := ⟨G, 3, none⟩) h1).trans e3, Nat.lt_of_lt_of_le RV.lt hs⟩,
      ⟨(World.cell?_of_block (a := ⟨w.heap.size, 0, none⟩) h2).trans r0, (World.cell?_of_block (a := ⟨w.heap.size, 1, none⟩) h2).trans r1, (World.cell?_of_block (a := ⟨w.heap.size, 2, none⟩) h2).trans r2, (World.cell?_of_block (a := ⟨w.heap.size, 3, none⟩) h2).trans r3, Nat.lt_of_lt_of_le hRR.lt hs⟩,
      (World.frozen?_of_block (a := ⟨w.heap.size, 0, none⟩) h2).trans rf0, (World.frozen?_of_block (a := ⟨w.heap.size, 1, none⟩) h2).trans rf1, (World.frozen?_of_block (a := ⟨w.heap.size, 2, none⟩) h2).trans rf2, (World.frozen?_of_block (a := ⟨w.heap.size, 3, none⟩) h2).trans rf3⟩
  have HV := hide hV
  have C7 := hide ((unhide HC6).below (bel0d 1))
  have Y7 := hide ((unhide HY6).below (bel0d 1))
  have hp' : (0 ≤ p ∧ p < 8) ∧ (0 ≤ d ∧ d < 2) ∧ (0 ≤ s ∧ s < 12) ∧ (0 ≤ e ∧ e < 3) := ⟨hp, hd, hs, he⟩
  clear gV bV hblk hV RV hRR hh
  go_wp2_with fail
  rw [← unhide HV]
  clear HV
  have n1 : ¬ w.heap.size = G := by have := unhide HCW; have := unhide hCG; omega
  have n2 : ¬ G = w.heap.size := by have := unhide HCW; have := unhide hCG; omega
  go_region_held3 (fun w' => w'.cell? ⟨G, 0, none⟩ = some (.int .i64 (2 + p)) ∧ w'.cell? ⟨G, 1, none⟩ = some (.int .i64 d) ∧ w'.cell? ⟨G, 2, none⟩ = some (.int .i64 (1 + s)) ∧ w'.cell? ⟨G, 3, none⟩ = some (.int .i64 (2 + e))) (go_keep)
    ((go_at_call 38; refine (l1Below_any C a len cap 120 _ (unhide C7) (unhide Y7) (unhide hneC) ⟨by decide, by decide⟩).mono ?_; rintro x w7 ⟨l, rfl, hl, hc7, gr7⟩; obtain ⟨q, q', rf0, rf1, rf2, rf3⟩ := unhide POST w7 gr7; have e0 := q.c0; have e1 := q.c1; have e2 := q.c2; have e3 := q.c3; have r0 := q'.c0; have r1 := q'.c1; have r2 := q'.c2; have r3 := q'.c3; have hw1 : IntKind.i64.wrap (1 + l) = 1 + l := (by rw [IntKind.wrap_i64]; omega); have GR7 := hide gr7; clear gr7 hc7 q q'))
  go_wp2_with fail
  have hs7 : w.heap.size ≤ w7.heap.size := by have := (unhide GR7).size; have := unhide sV; have := unhide HCW; have := unhide hCG; simp at *; omega
  have b7 : ∀ k, k < w.heap.size → w7.heap[k]? = w.heap[k]? := fun k hk => (((unhide GR7).block k (by have := unhide sV; have := unhide HCW; have := unhide hCG; simp; omega) (by have := unhide HCW; simp; omega)).trans (unhide HBK k (by have := unhide HCW; omega))).trans ((unhide B0).block k hk)
  refine bodyPost_ret (v := .tuple #[.agg #[.int .i64 (2 + p), .int .i64 d, .int .i64 (1 + s), .int .i64 (2 + e)], .int .i64 (1 + l)]) (by simp [results, Try.results31, go_sem, *]) rfl ⟨2 + p, d, 1 + s, 2 + e, 1 + l, rfl, by omega, by omega, by omega, by omega, by omega, ?_⟩
  refine ⟨((unhide GR7).os.trans (unhide HGV).os).trans (unhide B0).os, ((unhide GR7).tape.trans (unhide HGV).tape).trans (unhide B0).tape, ((unhide GR7).output.trans (unhide HGV).output).trans (unhide B0).output, ?_, fun k hk => ?_⟩
  · simp only [World.size_setCell]; exact hs7
  · rw [Below.heap_setCell _ _ _ _ (by simp; omega), Below.heap_setCell _ _ _ _ (by simp; omega), Below.heap_setCell _ _ _ _ (by simp; omega), Below.heap_setCell _ _ _ _ (by simp; omega)]
    exact b7 k hk

end Go.Proofs.Ytkebjipmbgjilaa

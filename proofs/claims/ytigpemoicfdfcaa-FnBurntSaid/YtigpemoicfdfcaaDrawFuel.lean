/-
  What the model's DrawFuel answers: an envelope of three corners, a dry sum and one to four tanks, each number within its bounds. At every list of bytes; nothing that was there is written.
-/
import Derived.Test.YtigpemoicfdfcaaCurNew
import Derived.Test.YtigpemoicfdfcaaOrdImpl
import Derived.Deep.DrawnRows
namespace Go.Proofs.Ytigpemoicfdfcaa
open Go.RowKit
attribute [local go_sem ↓] Go.wp_at_zero Go.wp_at_succ

theorem Row.far {w w' : World} {g off len : Nat} {zs : List Int} {row : Option Nat} (h : Row w (some ⟨g, off, none⟩) len zs) (k : w.grownBy w' row) (hne : some g ≠ row) : Row w' (some ⟨g, off, none⟩) len zs := by
  refine ⟨h.len_eq, h.small, fun i hi => ?_, h.fit⟩
  obtain ⟨b, off', ha, hc⟩ := h.cells i hi
  simp only [Option.some.injEq, Addr.mk.injEq, and_true] at ha
  obtain ⟨rfl, rfl⟩ := ha
  exact ⟨_, _, rfl, (World.cell?_of_block (a := ⟨g, off + i, none⟩) (k.block g (block_lt_of_cell hc) hne)).trans hc⟩
theorem row3 (w : World) (x y z : Int) (T : TypeId) (hx : -9223372036854775808 ≤ x ∧ x ≤ 9223372036854775807) (hy : -9223372036854775808 ≤ y ∧ y ≤ 9223372036854775807) (hz : -9223372036854775808 ≤ z ∧ z ≤ 9223372036854775807) : Row (w.alloc (Obj.cells #[.int .i64 x, .int .i64 y, .int .i64 z] T)) (some ⟨w.heap.size, 0, none⟩) 3 [x, y, z] := by
  refine ⟨rfl, by omega, fun i hi => ⟨_, _, rfl, ?_⟩, fun i => ?_⟩
  · rcases i with _ | _ | _ | i
    · simp [nth, go_sem]
    · simp [nth, go_sem]
    · simp [nth, go_sem]
    · omega
  · rcases i with _ | _ | _ | i
    · exact hx
    · exact hy
    · exact hz
    · simp [nth]
theorem alloc_grown (w : World) (o : Obj) (row : Option Nat) : w.grownBy (w.alloc o) row := ⟨rfl, rfl, rfl, by simp, fun k hk _ => Below.heap_alloc _ _ _ hk⟩

/-- Below lim all blocks but C are as they were. -/
structure Keeps (C lim : Nat) (w w' : World) : Prop where
  os : w'.os = w.os
  tape : w'.tape = w.tape
  output : w'.output = w.output
  size : w.heap.size ≤ w'.heap.size
  block : ∀ k, k < lim → k ≠ C → w'.heap[k]? = w.heap[k]?
theorem Keeps.trans {C lim : Nat} {a b c : World} (h : Keeps C lim a b) (k : Keeps C lim b c) : Keeps C lim a c :=
  ⟨k.os.trans h.os, k.tape.trans h.tape, k.output.trans h.output, Nat.le_trans h.size k.size, fun i hi hne => (k.block i hi hne).trans (h.block i hi hne)⟩
theorem Keeps.of_row {C lim : Nat} {w w' : World} (h : w.grownBy w' (some C)) (hl : lim ≤ w.heap.size) : Keeps C lim w w' :=
  ⟨h.os, h.tape, h.output, h.size, fun k hk hne => h.block k (by omega) (by simp [hne])⟩
theorem Keeps.of_below {C lim : Nat} {w w' : World} (h : Below w.heap.size w w') (hl : lim ≤ w.heap.size) : Keeps C lim w w' :=
  ⟨h.os, h.tape, h.output, h.size, fun k hk _ => h.block k (by omega)⟩
theorem Keeps.of_own {C lim : Nat} {w w' : World} {row : Option Nat} (h : w.grownBy w' row) (hl : lim ≤ w.heap.size) (hr : ∀ i, row = some i → lim ≤ i) : Keeps C lim w w' :=
  ⟨h.os, h.tape, h.output, h.size, fun k hk _ => h.block k (by omega) (fun e => by have := hr k e.symm; omega)⟩
theorem Keeps.row {C lim : Nat} {w w' : World} (h : Keeps C lim w w') {g off len : Nat} {zs : List Int} (hr : Row w (some ⟨g, off, none⟩) len zs) (hg : g < lim) (hne : g ≠ C) : Row w' (some ⟨g, off, none⟩) len zs := by
  refine ⟨hr.len_eq, hr.small, fun i hi => ?_, hr.fit⟩
  obtain ⟨b, off', ha, hc⟩ := hr.cells i hi
  simp only [Option.some.injEq, Addr.mk.injEq, and_true] at ha
  obtain ⟨rfl, rfl⟩ := ha
  exact ⟨_, _, rfl, (World.cell?_of_block (a := ⟨g, off + i, none⟩) (h.block g hg hne)).trans hc⟩
theorem Keeps.cell {C lim : Nat} {w w' : World} (h : Keeps C lim w w') {p : Addr} (hp : p.block < lim) (hne : p.block ≠ C) : w'.cell? p = w.cell? p := World.cell?_of_block (h.block p.block hp hne)
theorem Keeps.frozen {C lim : Nat} {w w' : World} (h : Keeps C lim w w') {p : Addr} (hp : p.block < lim) (hne : p.block ≠ C) : w'.frozen? p = w.frozen? p := World.frozen?_of_block (h.block p.block hp hne)

theorem mul_fit (x y : Int) (hx : 0 ≤ x ∧ x < 200) (hy : 0 ≤ y ∧ y < 11) : -1250 ≤ (50 + x) * (y - 5) ∧ (50 + x) * (y - 5) ≤ 1250 := by
  have h : y = 0 ∨ y = 1 ∨ y = 2 ∨ y = 3 ∨ y = 4 ∨ y = 5 ∨ y = 6 ∨ y = 7 ∨ y = 8 ∨ y = 9 ∨ y = 10 := by omega
  rcases h with h | h | h | h | h | h | h | h | h | h | h <;> subst h <;> omega

set_option maxRecDepth 20000 in
set_option maxHeartbeats 8000000 in
theorem drawFuel_any (a : Option Addr) (len cap : Nat) (w : World) (hb : Bytes w a len) (hin : ∀ b off, a = some ⟨b, off, none⟩ → b < w.heap.size) :
    Calls Try.prog 26 #[.slice a len cap] w fun e w' => ∃ (g1 g2 g3 tb tc : Nat) (p q r m d : Int) (ts : List (Int × Int)),
      e = .returned (.tuple #[.agg #[.slice (some ⟨g1, 0, none⟩) 3 3, .slice (some ⟨g2, 0, none⟩) 3 3, .slice (some ⟨g3, 0, none⟩) 3 3], .agg #[.int .i64 m, .int .i64 (m * d)], .slice (some ⟨tb, 0, none⟩) ts.length tc]) ∧
      Row w' (some ⟨g1, 0, none⟩) 3 [1, 400 + p, 2000] ∧ Row w' (some ⟨g2, 0, none⟩) 3 [-20, -10 - q, -15] ∧ Row w' (some ⟨g3, 0, none⟩) 3 [20, 5 + r, 18] ∧ Row2 w' (some ⟨tb, 0, none⟩) ts.length ts ∧
      (0 ≤ p ∧ p < 300) ∧ (0 ≤ q ∧ q < 20) ∧ (0 ≤ r ∧ r < 20) ∧ (50 ≤ m ∧ m < 250) ∧ (-5 ≤ d ∧ d ≤ 5) ∧ (1 ≤ ts.length ∧ ts.length ≤ 4) ∧ (∀ j, j < ts.length → itemB (fstAt ts j) (sndAt ts j) = true) ∧ Below w.heap.size w w' := by
  have B0 := hide (bel2 (w := w) (Obj.cells #[.slice none 0 0, .slice none 0 0, .slice none 0 0] 58) (Obj.cells #[.int .i64 0, .int .i64 0] 54))
  have HY := hide (hb.below (unhide B0))
  have HIN := hide hin
  clear hb hin
  go_enter Try.func26, Try.ntmps26
  go_wp2_with fail
  obtain ⟨W, hW⟩ : ∃ W, W = (w.alloc (Obj.cells #[.slice none 0 0, .slice none 0 0, .slice none 0 0] 58)).alloc (Obj.cells #[.int .i64 0, .int .i64 0] 54) := ⟨_, rfl⟩
  have r0 : W.cell? ⟨w.heap.size, 0, none⟩ = some (.slice none 0 0) := by rw [hW]; simp [go_sem]
  have r1 : W.cell? ⟨w.heap.size, 1, none⟩ = some (.slice none 0 0) := by rw [hW]; simp [go_sem]
  have r2 : W.cell? ⟨w.heap.size, 2, none⟩ = some (.slice none 0 0) := by rw [hW]; simp [go_sem]
  have rf0 : W.frozen? ⟨w.heap.size, 0, none⟩ = false := by rw [hW]; simp [go_sem]
  have rf1 : W.frozen? ⟨w.heap.size, 1, none⟩ = false := by rw [hW]; simp [go_sem]
  have rf2 : W.frozen? ⟨w.heap.size, 2, none⟩ = false := by rw [hW]; simp [go_sem]
  have ps : Pc W (w.heap.size + 1) 0 0 := by rw [hW]; exact ⟨by simp [go_sem], by simp [go_sem], by simp [go_sem], by simp [go_sem], by simp⟩
  have sW : W.heap.size = w.heap.size + 2 := by rw [hW]; simp
  rw [← hW] at B0 HY ⊢
  clear hW
  obtain ⟨C, hC⟩ : ∃ C, W.heap.size = C := ⟨_, rfl⟩
  have hneC : Hid (∀ b off, a = some ⟨b, off, none⟩ → b ≠ C) := hide fun b off e => by have := unhide HIN b off e; omega
  have hneC' : Hid (∀ b off, a = some ⟨b, off, none⟩ → some b ≠ some C) := hide fun b off e => by have := unhide hneC b off e; simp [this]
  refine (l1New_any a len cap W (unhide HY)).mono ?_
  rintro e w1 ⟨rfl, hc1, b1⟩
  rw [hC] at hc1 ⊢
  have hCw : C = w.heap.size + 2 := by omega
  have HCW := hide hCw
  have HSW : Hid (W.heap.size = C) := hide hC
  -- from here on only the cursor's block turns, and blocks are made
  have HG1 : Hid (W.grownBy w1 (some C)) := hide ⟨b1.os, b1.tape, b1.output, b1.size, fun k hk _ => b1.block k hk⟩
  have HC1 := hide hc1
  have HY1 := hide ((unhide HY).below b1)
  have sz1 : C + 1 ≤ w1.heap.size := hc1.lt
  clear hc1 b1 hC sW hCw
  go_wp2_with fail
  refine (l1Below_any C a len cap 300 _ (unhide HC1) (unhide HY1) (unhide hneC) (by omega)).mono ?_
  rintro e w2 ⟨p, rfl, hp, hc2, gr2⟩
  have g2' := alloc_grown w2 (Obj.cells #[.int .i64 1, .int .i64 (400 + p), .int .i64 2000] 3) (some C)
  have HG2 := hide (grown_trans (grown_trans (unhide HG1) gr2) g2')
  have HC2 := hide (hc2.below (bel1 (Obj.cells #[.int .i64 1, .int .i64 (400 + p), .int .i64 2000] 3)))
  have HY2 := hide (((unhide HY1).far gr2 (unhide hneC')).below (bel1 (Obj.cells #[.int .i64 1, .int .i64 (400 + p), .int .i64 2000] 3)))
  have Q1 := row3 w2 1 (400 + p) 2000 3 (by omega) (by omega) (by omega)
  have sz2 : C + 1 ≤ w2.heap.size := by have := gr2.size; omega
  obtain ⟨G1, hG1⟩ : ∃ n, w2.heap.size = n := ⟨_, rfl⟩
  rw [hG1] at Q1
  have Q1 := hide Q1
  have hCG1 : C + 1 ≤ G1 := by omega
  clear hc2 gr2 g2'
  go_wp2_with fail
  refine (l1Below_any C a len cap 20 _ (unhide HC2) (unhide HY2) (unhide hneC) (by omega)).mono ?_
  rintro e w3 ⟨q, rfl, hq, hc3, gr3⟩
  have g3' := alloc_grown w3 (Obj.cells #[.int .i64 (-20), .int .i64 (-10 - q), .int .i64 (-15)] 3) (some C)
  have hG1C : G1 ≠ C := by omega
  have Q1 := hide (((unhide Q1).far gr3 (by simp [hG1C])).far g3' (by simp [hG1C]))
  have HG3 := hide (grown_trans (grown_trans (unhide HG2) gr3) g3')
  have HC3 := hide (hc3.below (bel1 (Obj.cells #[.int .i64 (-20), .int .i64 (-10 - q), .int .i64 (-15)] 3)))
  have HY3 := hide (((unhide HY2).far gr3 (unhide hneC')).below (bel1 (Obj.cells #[.int .i64 (-20), .int .i64 (-10 - q), .int .i64 (-15)] 3)))
  have Q2 := row3 w3 (-20) (-10 - q) (-15) 3 (by omega) (by omega) (by omega)
  have sz3 : G1 + 1 ≤ w3.heap.size := by have := gr3.size; simp at this; omega
  obtain ⟨G2, hG2⟩ : ∃ n, w3.heap.size = n := ⟨_, rfl⟩
  rw [hG2] at Q2
  have Q2 := hide Q2
  have hGG2 : G1 + 1 ≤ G2 := by omega
  clear hc3 gr3 g3' hG1
  go_wp2_with fail
  refine (l1Below_any C a len cap 20 _ (unhide HC3) (unhide HY3) (unhide hneC) (by omega)).mono ?_
  rintro e w4 ⟨r, rfl, hr, hc4, gr4⟩
  have hG2C : G2 ≠ C := by omega
  obtain ⟨G3, hG3⟩ : ∃ n, w4.heap.size = n := ⟨_, rfl⟩
  have sz4 : G2 + 1 ≤ G3 := by have := gr4.size; simp at this; omega
  obtain ⟨V, hV⟩ : ∃ V, V = ((w4.alloc (Obj.cells #[.int .i64 20, .int .i64 (5 + r), .int .i64 18] 3)).alloc (Obj.cells #[.slice (some ⟨G1, 0, none⟩) 3 3, .slice (some ⟨G2, 0, none⟩) 3 3, .slice (some ⟨G3, 0, none⟩) 3 3] 58)).alloc (Obj.cells #[] 70) := ⟨_, rfl⟩
  have bV : Below w4.heap.size w4 V := by rw [hV]; exact bel3 _ _ _
  have gV : w4.grownBy V (some C) := ⟨bV.os, bV.tape, bV.output, bV.size, fun k hk _ => bV.block k hk⟩
  have Q1 := hide (((unhide Q1).far gr4 (by simp [hG1C])).far gV (by simp [hG1C]))
  have Q2 := hide (((unhide Q2).far gr4 (by simp [hG2C])).far gV (by simp [hG2C]))
  have Q3 : Row V (some ⟨G3, 0, none⟩) 3 [20, 5 + r, 18] := by
    rw [hV, ← hG3]
    exact ((row3 w4 20 (5 + r) 18 3 (by omega) (by omega) (by omega)).alloc _).alloc _
  have Q3 := hide Q3
  have e0 : V.cell? ⟨G3 + 1, 0, none⟩ = some (.slice (some ⟨G1, 0, none⟩) 3 3) := by rw [hV, ← hG3]; simp [go_sem]
  have e1 : V.cell? ⟨G3 + 1, 1, none⟩ = some (.slice (some ⟨G2, 0, none⟩) 3 3) := by rw [hV, ← hG3]; simp [go_sem]
  have e2 : V.cell? ⟨G3 + 1, 2, none⟩ = some (.slice (some ⟨G3, 0, none⟩) 3 3) := by rw [hV, ← hG3]; simp [go_sem]
  have sV : V.heap.size = G3 + 3 := by rw [hV, ← hG3]; simp
  have OT : Own2 V (G3 + 2) 70 (.slice (some ⟨G3 + 1 + 1, 0, none⟩) 0 0) [] := by
    rw [hV]
    have h := own2_none (w := (w4.alloc (Obj.cells #[.int .i64 20, .int .i64 (5 + r), .int .i64 18] 3)).alloc (Obj.cells #[.slice (some ⟨G1, 0, none⟩) 3 3, .slice (some ⟨G2, 0, none⟩) 3 3, .slice (some ⟨G3, 0, none⟩) 3 3] 58)) 70 (Nat.le_refl _)
    have hs : ((w4.alloc (Obj.cells #[.int .i64 20, .int .i64 (5 + r), .int .i64 18] 3)).alloc (Obj.cells #[.slice (some ⟨G1, 0, none⟩) 3 3, .slice (some ⟨G2, 0, none⟩) 3 3, .slice (some ⟨G3, 0, none⟩) 3 3] 58)).heap.size = G3 + 1 + 1 := by rw [← hG3]; simp
    rw [hs] at h
    exact h
  have HG4 := hide (grown_trans (grown_trans (unhide HG3) gr4) gV)
  have HC4 := hide (hc4.below bV)
  have HY4 := hide (((unhide HY3).far gr4 (unhide hneC')).below bV)
  have HV := hide hV
  have HOT := hide OT
  clear hc4 gr4 gV bV hG2 OT hV
  go_wp2_with fail
  rw [← unhide HV]
  clear HV
  refine (l1Below_any C a len cap 4 _ (unhide HC4) (unhide HY4) (unhide hneC) (by omega)).mono ?_
  rintro e w5 ⟨x4, rfl, hx4, hc5, gr5⟩
  obtain ⟨n4, hn4⟩ : ∃ n4 : Nat, x4 = n4 := ⟨x4.toNat, by omega⟩
  subst hn4
  have K5 := hide (Keeps.of_row (lim := G3 + 2) gr5 (by omega))
  have HC5 := hide hc5
  have HY5 := hide ((unhide HY4).far gr5 (unhide hneC'))
  have OT5 := hide ((unhide HOT).far gr5 (fun g hg => by simp [Value.ownBlock] at hg ⊢; omega))
  have hCG3 : C + 1 ≤ G3 := by omega
  clear hc5 gr5
  go_wp2_with fail
  go_loopw [7, 8] (fun tk i wr => ∃ (T : List (Int × Int)) (aa : Option Addr) (cc j : Nat), tk = .slice aa T.length cc ∧ i = .int .i64 j ∧ T.length + j = n4 + 1 ∧ Keeps C (G3 + 2) V wr ∧ Own2 wr (G3 + 2) 70 (.slice aa T.length cc) T ∧ Hid (∀ k, k < T.length → itemB (fstAt T k) (sndAt T k) = true) ∧ Cur wr C a len cap ∧ Bytes wr a len) (fun _ i _ => (intOf i).toNat)
  case atStart => exact ⟨[], _, _, n4 + 1, rfl, by go_num, by simp, unhide K5, unhide OT5, (fun k hk => by simp at hk), unhide HC5, unhide HY5⟩
  case round =>
    clear K5 OT5 HC5 HY5
    obtain ⟨T, aa, cc, j, rfl, rfl, htot, hK, hO, hit, hcu, hby⟩ := hrel
    have KK := hide hK
    have OO := hide hO
    have CC := hide hcu
    have YY := hide hby
    have LT := hide hO.lies2
    clear hK hO hcu hby
    have hw0 : V.heap.size ≤ wr.heap.size := (unhide KK).size
    by_cases hj : 0 < j
    · have hj1 : (0 : Int) < (j : Int) := by omega
      go_wp2_with fail
      refine (l1Below_any C a len cap 60 _ (unhide CC) (unhide YY) (unhide hneC) (by omega)).mono ?_
      rintro e wA ⟨xa, rfl, hxa, hcA, grA⟩
      have CC := hide hcA
      have YY := hide ((unhide YY).far grA (unhide hneC'))
      have OO := hide ((unhide OO).far grA (fun g hg => by have := unhide LT g hg; simp; omega))
      have KK := hide ((unhide KK).trans (Keeps.of_row grA (by omega)))
      have szA := grA.size
      clear hcA grA
      go_wp2_with fail
      refine (l1Below_any C a len cap 61 _ (unhide CC) (unhide YY) (unhide hneC) (by omega)).mono ?_
      rintro e wB ⟨xb, rfl, hxb, hcB, grB⟩
      have CC := hide hcB
      have YY := hide ((unhide YY).far grB (unhide hneC'))
      have OO := hide ((unhide OO).far grB (fun g hg => by have := unhide LT g hg; simp; omega))
      have KK := hide ((unhide KK).trans (Keeps.of_row grB (by omega)))
      have szB := grB.size
      clear hcB grB
      obtain ⟨vs, hown, hvx⟩ := (unhide OO).own
      have hbA := bel1 (w := wB) (Obj.cells #[Value.int IntKind.i64 xa, Value.int IntKind.i64 (xb - 30)] 70)
      have hownA := ownsRow_below hown hbA
      have hnews := World.news_of_block (heap_alloc_new wB (Obj.cells #[Value.int IntKind.i64 xa, Value.int IntKind.i64 (xb - 30)] 70))
      have HVX := hide hvx
      have HVL := hide hown.1
      obtain ⟨i0, hii, hz0, hz1, hz2⟩ := info_parts infoTank
      clear hown hvx
      go_wp2_with (at_builtin; refine wpList_append_lies _ rfl _ _ 61 rfl (G3 + 2) 70 i0 (.agg #[.int .i64 0, .int .i64 0]) 2 16 Try.underlying61 hii hz0 hz1 hz2 rfl (by decide) (.slice aa T.length cc) T.length vs rfl hownA ⟨wB.heap.size, 0, none⟩ 1 1 [.int .i64 xa, .int .i64 (xb - 30)] rfl rfl hnews (by simp [Value.oneCell']) (by decide) (by unfold maxLen; omega) (by omega) (by simp; omega) _ rfl ?_; intro g' cap' w9 hown9 hgrow hat hlt9)
      have hrow : ∀ i, (Value.slice aa T.length cc).ownBlock = some i → G3 + 2 ≤ i := fun i hi => ((unhide OO).lies2 i hi).1
      have hCrow : some C ≠ (Value.slice aa T.length cc).ownBlock := fun e => by have := hrow C e.symm; omega
      have hYrow : ∀ b off, a = some ⟨b, off, none⟩ → some b ≠ (Value.slice aa T.length cc).ownBlock := fun b off e h => by have := hrow b h.symm; have := unhide HIN b off e; have := unhide HCW; omega
      have hlenT : (T ++ [(xa, xb - 30)]).length = T.length + 1 := by simp
      refine ⟨⟨T ++ [(xa, xb - 30)], some ⟨g', 0, none⟩, cap', j - 1, by rw [hlenT], by go_num, by rw [hlenT]; omega, ?_, ?_, ?_, ?_, ?_⟩, by simp [intOf]; omega⟩
      · exact ((unhide KK).trans (Keeps.of_below hbA (by omega))).trans (Keeps.of_own hgrow (by simp; omega) hrow)
      · rw [hlenT]; exact own2_app hown9 (unhide HVL) (unhide HVX) (unhide OO).fit (by omega) (by omega)
      · refine hide fun k hk => ?_
        obtain ⟨h1, h2, h3⟩ := app_at (P := T) (a := xa) (b := xb - 30)
        rw [hlenT] at hk
        by_cases e : k < T.length
        · rw [(h1 k e).1, (h1 k e).2]; exact hit.out k e
        · obtain rfl : k = T.length := by omega
          rw [h2, h3]
          simp only [itemB, inB, Bool.and_eq_true, decide_eq_true_eq]
          omega
      · exact ((unhide CC).below hbA).far hgrow hCrow
      · exact ((unhide YY).below hbA).far hgrow hYrow
    · have hj1 : ¬ (0 : Int) < (j : Int) := by omega
      have hTl : T.length = n4 + 1 := by omega
      have HTL := hide hTl
      have hTl1 : 1 ≤ T.length := by omega
      have hTl4 : T.length ≤ 4 := by omega
      clear hTl htot
      go_wp2_with fail
      refine (l1Below_any C a len cap 200 _ (unhide CC) (unhide YY) (unhide hneC) (by omega)).mono ?_
      rintro e w6 ⟨x6, rfl, hx6, hc6, gr6⟩
      have CC := hide hc6
      have YY := hide ((unhide YY).far gr6 (unhide hneC'))
      have OO := hide ((unhide OO).far gr6 (fun g hg => by have := unhide LT g hg; simp; omega))
      have KK := hide ((unhide KK).trans (Keeps.of_row gr6 (by omega)))
      have sz6 := gr6.size
      have hcw := unhide HCW
      clear hc6 gr6
      have e0 := ((unhide KK).cell (p := ⟨G3 + 1, 0, none⟩) (by simp) (by simp; omega)).trans e0
      have e1 := ((unhide KK).cell (p := ⟨G3 + 1, 1, none⟩) (by simp) (by simp; omega)).trans e1
      have e2 := ((unhide KK).cell (p := ⟨G3 + 1, 2, none⟩) (by simp) (by simp; omega)).trans e2
      have hblk : ∀ k, k < C → w6.heap[k]? = W.heap[k]? := fun k hk => ((unhide KK).block k (by omega) (by omega)).trans ((unhide HG4).block k (by have := ps.lt; have := unhide HSW; omega) (by simp; omega))
      have HBK := hide hblk
      have r0 : w6.cell? ⟨w.heap.size, 0, none⟩ = some (.slice none 0 0) := (World.cell?_of_block (a := ⟨w.heap.size, 0, none⟩) (hblk w.heap.size (by omega))).trans r0
      have r1 : w6.cell? ⟨w.heap.size, 1, none⟩ = some (.slice none 0 0) := (World.cell?_of_block (a := ⟨w.heap.size, 1, none⟩) (hblk w.heap.size (by omega))).trans r1
      have r2 : w6.cell? ⟨w.heap.size, 2, none⟩ = some (.slice none 0 0) := (World.cell?_of_block (a := ⟨w.heap.size, 2, none⟩) (hblk w.heap.size (by omega))).trans r2
      have rf0 : w6.frozen? ⟨w.heap.size, 0, none⟩ = false := (World.frozen?_of_block (a := ⟨w.heap.size, 0, none⟩) (hblk w.heap.size (by omega))).trans rf0
      have rf1 : w6.frozen? ⟨w.heap.size, 1, none⟩ = false := (World.frozen?_of_block (a := ⟨w.heap.size, 1, none⟩) (hblk w.heap.size (by omega))).trans rf1
      have rf2 : w6.frozen? ⟨w.heap.size, 2, none⟩ = false := (World.frozen?_of_block (a := ⟨w.heap.size, 2, none⟩) (hblk w.heap.size (by omega))).trans rf2
      have s0 : w6.cell? ⟨w.heap.size + 1, 0, none⟩ = some (.int .i64 0) := (World.cell?_of_block (a := ⟨w.heap.size + 1, 0, none⟩) (hblk (w.heap.size + 1) (by omega))).trans ps.c0
      have s1 : w6.cell? ⟨w.heap.size + 1, 1, none⟩ = some (.int .i64 0) := (World.cell?_of_block (a := ⟨w.heap.size + 1, 1, none⟩) (hblk (w.heap.size + 1) (by omega))).trans ps.c1
      have sf0 : w6.frozen? ⟨w.heap.size + 1, 0, none⟩ = false := (World.frozen?_of_block (a := ⟨w.heap.size + 1, 0, none⟩) (hblk (w.heap.size + 1) (by omega))).trans ps.f0
      have sf1 : w6.frozen? ⟨w.heap.size + 1, 1, none⟩ = false := (World.frozen?_of_block (a := ⟨w.heap.size + 1, 1, none⟩) (hblk (w.heap.size + 1) (by omega))).trans ps.f1
      have hC6 : C < w6.heap.size := (unhide CC).lt
      have hG6 : G3 + 1 < w6.heap.size := by omega
      have n1 : ¬ w.heap.size = G3 + 1 := by omega
      have n2 : ¬ w.heap.size + 1 = G3 + 1 := by omega
      have n3 : ¬ G3 + 1 = w.heap.size := by omega
      have n4' : ¬ G3 + 1 = w.heap.size + 1 := by omega
      have n5 : ¬ w.heap.size = w.heap.size + 1 := by omega
      clear hblk
      have POST : Hid (∀ w7, (w6.drewN 1).grownBy w7 (some C) → w7.cell? ⟨G3 + 1, 0, none⟩ = some (.slice (some ⟨G1, 0, none⟩) 3 3) ∧ w7.cell? ⟨G3 + 1, 1, none⟩ = some (.slice (some ⟨G2, 0, none⟩) 3 3) ∧ w7.cell? ⟨G3 + 1, 2, none⟩ = some (.slice (some ⟨G3, 0, none⟩) 3 3) ∧ w7.cell? ⟨w.heap.size, 0, none⟩ = some (.slice none 0 0) ∧ w7.cell? ⟨w.heap.size, 1, none⟩ = some (.slice none 0 0) ∧ w7.cell? ⟨w.heap.size, 2, none⟩ = some (.slice none 0 0) ∧ w7.frozen? ⟨w.heap.size, 0, none⟩ = false ∧ w7.frozen? ⟨w.heap.size, 1, none⟩ = false ∧ w7.frozen? ⟨w.heap.size, 2, none⟩ = false ∧ w7.cell? ⟨w.heap.size + 1, 0, none⟩ = some (.int .i64 0) ∧ w7.cell? ⟨w.heap.size + 1, 1, none⟩ = some (.int .i64 0) ∧ w7.frozen? ⟨w.heap.size + 1, 0, none⟩ = false ∧ w7.frozen? ⟨w.heap.size + 1, 1, none⟩ = false) := hide fun w7 gr7 => by
        have hb7 : ∀ k, k < w6.heap.size → k ≠ C → w7.heap[k]? = w6.heap[k]? := fun k hk hn => gr7.block k hk (by simp [hn])
        exact ⟨(World.cell?_of_block (a := ⟨G3 + 1, 0, none⟩) (hb7 (G3 + 1) (by omega) (by omega))).trans e0, (World.cell?_of_block (a := ⟨G3 + 1, 1, none⟩) (hb7 (G3 + 1) (by omega) (by omega))).trans e1, (World.cell?_of_block (a := ⟨G3 + 1, 2, none⟩) (hb7 (G3 + 1) (by omega) (by omega))).trans e2, (World.cell?_of_block (a := ⟨w.heap.size, 0, none⟩) (hb7 (w.heap.size) (by omega) (by omega))).trans r0, (World.cell?_of_block (a := ⟨w.heap.size, 1, none⟩) (hb7 (w.heap.size) (by omega) (by omega))).trans r1, (World.cell?_of_block (a := ⟨w.heap.size, 2, none⟩) (hb7 (w.heap.size) (by omega) (by omega))).trans r2, (World.frozen?_of_block (a := ⟨w.heap.size, 0, none⟩) (hb7 (w.heap.size) (by omega) (by omega))).trans rf0, (World.frozen?_of_block (a := ⟨w.heap.size, 1, none⟩) (hb7 (w.heap.size) (by omega) (by omega))).trans rf1, (World.frozen?_of_block (a := ⟨w.heap.size, 2, none⟩) (hb7 (w.heap.size) (by omega) (by omega))).trans rf2, (World.cell?_of_block (a := ⟨w.heap.size + 1, 0, none⟩) (hb7 (w.heap.size + 1) (by omega) (by omega))).trans s0, (World.cell?_of_block (a := ⟨w.heap.size + 1, 1, none⟩) (hb7 (w.heap.size + 1) (by omega) (by omega))).trans s1, (World.frozen?_of_block (a := ⟨w.heap.size + 1, 0, none⟩) (hb7 (w.heap.size + 1) (by omega) (by omega))).trans sf0, (World.frozen?_of_block (a := ⟨w.heap.size + 1, 1, none⟩) (hb7 (w.heap.size + 1) (by omega) (by omega))).trans sf1⟩
      have C6 := hide ((unhide CC).below (bel0d 1))
      have Y6 := hide ((unhide YY).below (bel0d 1))
      clear n1 n2 n3 n4' n5 hC6 hcw
      go_wp2_with fail
      have n1 : ¬ w.heap.size = G3 + 1 := by have := unhide HCW; omega
      have n2 : ¬ w.heap.size + 1 = G3 + 1 := by have := unhide HCW; omega
      have n3 : ¬ G3 + 1 = w.heap.size := by have := unhide HCW; omega
      have n4' : ¬ G3 + 1 = w.heap.size + 1 := by have := unhide HCW; omega
      have n6 : ¬ w.heap.size = G3 := by have := unhide HCW; omega
      go_region_held3 (fun w' => w'.cell? ⟨G3 + 1, 0, none⟩ = some (.slice (some ⟨G1, 0, none⟩) 3 3) ∧ w'.cell? ⟨G3 + 1, 1, none⟩ = some (.slice (some ⟨G2, 0, none⟩) 3 3) ∧ w'.cell? ⟨G3 + 1, 2, none⟩ = some (.slice (some ⟨G3, 0, none⟩) 3 3)) (go_keep)
        ((go_at_call 33; refine (l1Below_any C a len cap 11 _ (unhide C6) (unhide Y6) (unhide hneC) ⟨by decide, by decide⟩).mono ?_; rintro e w7 ⟨x7, rfl, hx7, hc7, gr7⟩; obtain ⟨e0, e1, e2, r0, r1, r2, rf0, rf1, rf2, s0, s1, sf0, sf1⟩ := unhide POST w7 gr7; have hmf := mul_fit x6 x7 hx6 hx7; have hw1 : IntKind.i64.wrap (x7 - 5) = x7 - 5 := (by rw [IntKind.wrap_i64]; omega); have hw2 : IntKind.i64.wrap ((50 + x6) * (x7 - 5)) = (50 + x6) * (x7 - 5) := (by rw [IntKind.wrap_i64]; omega); have GR7 := hide gr7; clear gr7 hc7))
      go_wp2_with fail
      have g7 : w6.grownBy w7 (some C) := ⟨(unhide GR7).os, (unhide GR7).tape, (unhide GR7).output, (unhide GR7).size, (unhide GR7).block⟩
      have hcw := unhide HCW
      have K7 := (unhide KK).trans (Keeps.of_row (lim := G3 + 2) g7 (by omega))
      have O7 := (unhide OO).far g7 (fun g hg => by have := unhide LT g hg; simp; omega)
      have b7 : ∀ k, k < w.heap.size → w7.heap[k]? = w.heap[k]? := fun k hk => ((g7.block k (by omega) (by simp; omega)).trans (unhide HBK k (by omega))).trans ((unhide B0).block k hk)
      rcases O7.form with ⟨hv, h0⟩ | ⟨g, cap', hv, hg0, hg1, _, _⟩
      · rw [h0] at hTl1; simp at hTl1
      · simp only [Value.slice.injEq, true_and] at hv
        obtain ⟨rfl, rfl⟩ := hv
        refine bodyPost_ret (v := .tuple #[.agg #[.slice (some ⟨G1, 0, none⟩) 3 3, .slice (some ⟨G2, 0, none⟩) 3 3, .slice (some ⟨G3, 0, none⟩) 3 3], .agg #[.int .i64 (50 + x6), .int .i64 ((50 + x6) * (x7 - 5))], .slice (some ⟨g, 0, none⟩) T.length cc]) (by clear hcw; simp [results, Try.results26, go_sem, *]) rfl ⟨G1, G2, G3, g, cc, p, q, r, 50 + x6, x7 - 5, T, rfl, ?_, ?_, ?_, ?_, hp, hq, hr, by omega, by omega, by omega, hit.out, ?_⟩
        · exact (((((K7.row (unhide Q1) (by omega) (by omega)).setCell (by simp; omega) _).setCell (by simp; omega) _).setCell (by simp; omega) _).setCell (by simp; omega) _).setCell (by simp; omega) _
        · exact (((((K7.row (unhide Q2) (by omega) (by omega)).setCell (by simp; omega) _).setCell (by simp; omega) _).setCell (by simp; omega) _).setCell (by simp; omega) _).setCell (by simp; omega) _
        · exact (((((K7.row (unhide Q3) (by omega) (by omega)).setCell (by simp; omega) _).setCell (by simp; omega) _).setCell (by simp; omega) _).setCell (by simp; omega) _).setCell (by simp; omega) _
        · exact (((((O7.row).setCell (by simp; omega) _).setCell (by simp; omega) _).setCell (by simp; omega) _).setCell (by simp; omega) _).setCell (by simp; omega) _
        · refine ⟨(K7.os.trans (unhide HG4).os).trans (unhide B0).os, (K7.tape.trans (unhide HG4).tape).trans (unhide B0).tape, (K7.output.trans (unhide HG4).output).trans (unhide B0).output, ?_, fun k hk => ?_⟩
          · simp only [World.size_setCell]; have := K7.size; omega
          · rw [Below.heap_setCell _ _ _ _ (by simp; omega), Below.heap_setCell _ _ _ _ (by simp; omega), Below.heap_setCell _ _ _ _ (by simp; omega), Below.heap_setCell _ _ _ _ (by simp; omega), Below.heap_setCell _ _ _ _ (by simp; omega)]
            exact b7 k hk

end Go.Proofs.Ytigpemoicfdfcaa

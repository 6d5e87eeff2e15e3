/-
  What the model's DrawClears answers: a start, phases, peaks and a margin; the margin within its bounds. At every list of bytes; nothing that was there is written.
-/
import Derived.Test.YtkebjipmbgjilabDrawPhases
import Derived.Test.YtkebjipmbgjilabRunSpec
namespace Go.Proofs.Ytkebjipmbgjilab
open Go.RowKit

theorem infoPk : (Try.prog.info? 53).map (fun i => (i.zero, i.size, i.bytes)) = some (some (.agg #[.int .i64 0, .int .i64 0]), 2, 16) := by kernel_rfl
theorem made2 (n i : Nat) (hi : i < n * 2) : (madeCells (Value.agg #[.int .i64 0, .int .i64 0]).cells (n * 2)).toList[i]? = some (.int .i64 0) := by
  have e : (Value.agg #[.int .i64 0, .int .i64 0]).cells = #[.int .i64 0, .int .i64 0] := rfl
  rw [e, Array.getElem?_toList]
  rcases Nat.mod_two_eq_zero_or_one i with h | h <;> simp [madeCells, hi, h]
theorem own2_made {w : World} {base : Nat} {T : TypeId} {v : Value} {n : Nat} (h : w.ownsRow base T 2 v n (madeCells (Value.agg #[.int .i64 0, .int .i64 0]).cells (n * 2)).toList) : Own2 w base T v (List.replicate n (0, 0)) := by
  have hf : ∀ j, fstAt (List.replicate n ((0 : Int), (0 : Int))) j = 0 ∧ sndAt (List.replicate n ((0 : Int), (0 : Int))) j = 0 := by
    intro j
    unfold fstAt sndAt
    by_cases hj : j < n <;> simp [hj]
  refine ⟨⟨_, by simpa using h, fun j hj => ?_⟩, fun j => by rw [(hf j).1, (hf j).2]; omega⟩
  simp only [List.length_replicate] at hj
  rw [(hf j).1, (hf j).2]
  exact ⟨made2 n _ (by omega), made2 n _ (by omega)⟩
theorem l1Max_any (x y : Int) (w : World) : Calls Try.prog 29 #[.int .i64 x, .int .i64 y] w fun e w' => ∃ v, e = .returned (.int .i64 v) ∧ (v = x ∨ v = y) ∧ w' = w := by
  by_cases h : y < x
  · exact (l1Max_yes x y w h).mono fun _ _ ⟨he, hw⟩ => ⟨x, he, .inl rfl, hw⟩
  · exact (l1Max_no x y w h).mono fun _ _ ⟨he, hw⟩ => ⟨y, he, .inr rfl, hw⟩

set_option maxRecDepth 20000 in
set_option maxHeartbeats 8000000 in
theorem drawClears_any (a : Option Addr) (len cap : Nat) (w : World) (hb : Bytes w a len) (hin : ∀ b off, a = some ⟨b, off, none⟩ → b < w.heap.size) :
    Calls Try.prog 12 #[.slice a len cap] w fun e w' => ∃ (start m : Int) (pa : Option Addr) (pc : Nat) (P : List (Int × Int)) (qa : Option Addr) (qc : Nat) (Q : List (Int × Int)),
      e = .returned (.tuple #[.int .i64 start, .slice pa P.length pc, .slice qa Q.length qc, .int .i64 m]) ∧ (-1 ≤ start ∧ start ≤ 100001) ∧ Row2 w' pa P.length P ∧ LooseP P ∧ Row2 w' qa Q.length Q ∧ Q.length ≤ qc ∧ (-1 ≤ m ∧ m ≤ 1001) ∧ Below w.heap.size w w' := by
  have HY := hide hb
  have HIN := hide hin
  clear hb hin
  go_enter Try.func12, Try.ntmps12
  go_wp2_with fail
  obtain ⟨C, hC⟩ : ∃ C, w.heap.size = C := ⟨_, rfl⟩
  have HNE : Hid (∀ b off, a = some ⟨b, off, none⟩ → b ≠ C) := hide fun b off e => by have := unhide HIN b off e; omega
  have HNE' : Hid (∀ b off, a = some ⟨b, off, none⟩ → some b ≠ some C) := hide fun b off e => by have := unhide HNE b off e; simp [this]
  refine (l1New_any a len cap w (unhide HY)).mono ?_
  rintro e w1 ⟨rfl, hc1, b1⟩
  rw [hC] at hc1 ⊢
  have HCW := hide hC
  have B1 := hide b1
  have CC := hide hc1
  have YY := hide ((unhide HY).below b1)
  have HIN1 : Hid (∀ b off, a = some ⟨b, off, none⟩ → b < w1.heap.size) := hide fun b off e => by have := unhide HIN b off e; have := b1.size; omega
  have hC1 : C < w1.heap.size := hc1.lt
  clear hc1 b1 hC
  go_wp2_with fail
  refine (l3DrawPhases_any C a len cap w1 (unhide CC) (unhide YY) (unhide HNE) (unhide HIN1)).mono ?_
  rintro e w2 ⟨start, pa, pc, P, rfl, hst, hlp, oP, hc2, hy2, k2⟩
  have RPH0 := hide oP.row
  have BPH : Hid (∀ b off, pa = some ⟨b, off, none⟩ → b < w2.heap.size ∧ b ≠ C) := hide fun b off e => by
    have := oP.liesIn b (by rw [e]; rcases oP.form with ⟨hv, _⟩ | ⟨g', c', hv, _⟩ <;> simp [e] at hv <;> simp [Value.ownBlock, hv])
    omega
  have hst' : -200000 ≤ start ∧ start ≤ 200000 := by omega
  have HST := hide hst
  have LP := hide hlp
  have h20 := hlp.1
  have hs12 : w1.heap.size ≤ w2.heap.size := k2.size
  have hCL : C < w2.heap.size := by omega
  have HIN2 : Hid (∀ b off, a = some ⟨b, off, none⟩ → b < w2.heap.size) := hide fun b off e => by have := unhide HIN1 b off e; omega
  have FIN : Hid (∀ w', Kp C w2.heap.size w2 w' → Below w.heap.size w w') := hide fun w' kk => by
    have b1 := unhide B1
    have hcw := unhide HCW
    refine ⟨kk.os.trans (k2.os.trans b1.os), kk.tape.trans (k2.tape.trans b1.tape), kk.output.trans (k2.output.trans b1.output), ?_, fun k hk => ?_⟩
    · have := b1.size; have := kk.size; omega
    · have := b1.size
      exact ((kk.block k (by omega) (by omega)).trans (k2.block k (by omega) (by omega))).trans (b1.block k hk)
  have bV := bel1 (w := w2) (Obj.cells #[] 53)
  have RPH := RPH0
  have CC := hide (hc2.below bV)
  have YY := hide (hy2.below bV)
  have OO := hide (own2_empty w2 53 (Nat.le_refl _))
  have KK := hide (Kp.of_below (C := C) (lim := w2.heap.size) bV (Nat.le_refl _))
  obtain ⟨V, hV⟩ : ∃ V, V = w2.alloc (Obj.cells #[] 53) := ⟨_, rfl⟩
  rw [← hV] at CC YY OO KK
  have HV := hide hV
  clear oP hc2 hy2 k2 hst hlp bV hV RPH0
  go_wp2_with fail
  rw [← unhide HV]
  clear HV
  refine (l1Below_any C a len cap 5 _ (unhide CC) (unhide YY) (unhide HNE) (by omega)).mono ?_
  rintro e w3 ⟨x, rfl, hx, hcN, gr⟩
  have CC := hide hcN
  have YY := hide ((unhide YY).far gr (unhide HNE'))
  have OO := hide ((unhide OO).far gr (fun g hg => by have := (unhide OO).liesIn g hg; simp; omega))
  have KK := hide ((unhide KK).trans (Kp.of_row gr (unhide KK).size))
  clear hcN gr
  obtain ⟨n5, hn5⟩ : ∃ n5 : Nat, x = n5 := ⟨x.toNat, by omega⟩
  subst hn5
  go_wp2_with fail
  go_loopw [9, 10] (fun tk i wr => ∃ (T : List (Int × Int)) (aa : Option Addr) (cc j : Nat), tk = .slice aa T.length cc ∧ i = .int .i64 j ∧ T.length + j = n5 ∧ Kp C w2.heap.size w2 wr ∧ Own2 wr w2.heap.size 53 (.slice aa T.length cc) T ∧ Cur wr C a len cap ∧ Bytes wr a len) (fun _ i _ => (intOf i).toNat)
  case atStart => exact ⟨[], _, _, n5, rfl, rfl, by simp, unhide KK, unhide OO, unhide CC, unhide YY⟩
  case round =>
    clear KK OO CC YY
    obtain ⟨T, aa, cc, j, rfl, rfl, htot, hK, hO, hcu, hby⟩ := hrel
    have KK := hide hK
    have OO := hide hO
    have CC := hide hcu
    have YY := hide hby
    clear hK hO hcu hby
    by_cases hj : 0 < j
    · have hj1 : (0 : Int) < (j : Int) := by omega
      go_wp2_with fail
      refine (l1Below_any C a len cap 120 _ (unhide CC) (unhide YY) (unhide HNE) (by omega)).mono ?_
      rintro e wA ⟨t, rfl, ht, hcN, gr⟩
      have CC := hide hcN
      have YY := hide ((unhide YY).far gr (unhide HNE'))
      have OO := hide ((unhide OO).far gr (fun g hg => by have := (unhide OO).liesIn g hg; simp; omega))
      have KK := hide ((unhide KK).trans (Kp.of_row gr (unhide KK).size))
      clear hcN gr
      have RW := hide ((unhide KK).row2 (unhide RPH) (unhide BPH))
      have hh := highT_bd (start := start) (tick := t) hst' (by omega) (unhide LP) P.length (Nat.le_refl _)
      go_wp2_with fail
      refine (l3High_any start t pa P.length pc P wA (unhide RW) hst' (by omega) (unhide LP)).mono ?_
      rintro e w' ⟨rfl, hw⟩
      subst w'
      clear RW
      generalize highT start P t P.length = H at *
      go_wp2_with fail
      refine (l1Below_any C a len cap 40 _ (unhide CC) (unhide YY) (unhide HNE) (by omega)).mono ?_
      rintro e wB ⟨u, rfl, hu, hcN, gr⟩
      have CC := hide hcN
      have YY := hide ((unhide YY).far gr (unhide HNE'))
      have OO := hide ((unhide OO).far gr (fun g hg => by have := (unhide OO).liesIn g hg; simp; omega))
      have KK := hide ((unhide KK).trans (Kp.of_row gr (unhide KK).size))
      clear hcN gr
      go_wp2_with fail
      refine (l1Max_any _ _ _).mono ?_
      rintro e w' ⟨v, rfl, hv, hw⟩
      subst w'
      have hv' : -10000000 ≤ v ∧ v ≤ 10000000 := by omega
      clear hv hh
      obtain ⟨vs, hown, hvx⟩ := (unhide OO).own
      have hbA := bel1 (w := wB) (Obj.cells #[Value.int IntKind.i64 t, Value.int IntKind.i64 v] 53)
      have hownA := ownsRow_below hown hbA
      have hnews := World.news_of_block (heap_alloc_new wB (Obj.cells #[Value.int IntKind.i64 t, Value.int IntKind.i64 v] 53))
      have HVX := hide hvx
      have HVL := hide hown.1
      have hsA := (unhide KK).size
      obtain ⟨i0, hii, hz0, hz1, hz2⟩ := info_parts infoPk
      clear hown hvx
      go_wp2_with (at_builtin; refine wpList_append_lies _ rfl _ _ 34 rfl w2.heap.size 53 i0 (.agg #[.int .i64 0, .int .i64 0]) 2 16 Try.underlying34 hii hz0 hz1 hz2 rfl (by decide) (.slice aa T.length cc) T.length vs rfl hownA ⟨wB.heap.size, 0, none⟩ 1 1 [.int .i64 t, .int .i64 v] rfl rfl hnews (by simp [Value.oneCell']) (by decide) (by unfold maxLen; omega) (by omega) (by simp; omega) _ rfl ?_; intro g' cap' w9 hown9 hgrow hat hlt9)
      have hrow : ∀ i, (Value.slice aa T.length cc).ownBlock = some i → w2.heap.size ≤ i := fun i hi => ((unhide OO).liesIn i hi).1
      have hCrow : some C ≠ (Value.slice aa T.length cc).ownBlock := fun e => by have := hrow C e.symm; omega
      have hYrow : ∀ b off, a = some ⟨b, off, none⟩ → some b ≠ (Value.slice aa T.length cc).ownBlock := fun b off e h => by have := hrow b h.symm; have := unhide HIN2 b off e; omega
      have hlenT : (T ++ [(t, v)]).length = T.length + 1 := by simp
      refine ⟨⟨T ++ [(t, v)], some ⟨g', 0, none⟩, cap', j - 1, by rw [hlenT], by go_num, by rw [hlenT]; omega, ((unhide KK).trans (Kp.of_below hbA hsA)).trans (Kp.of_own hgrow (by simp; omega) hrow), ?_, ((unhide CC).below hbA).far hgrow hCrow, ((unhide YY).below hbA).far hgrow hYrow⟩, by simp [intOf]; omega⟩
      rw [hlenT]; exact own2_push hown9 (unhide HVL) (unhide HVX) (unhide OO).fit (by omega) (by omega)
    · have hj1 : ¬ (0 : Int) < (j : Int) := by omega
      have hT5 : T.length ≤ 5 := by omega
      clear htot
      go_wp2_with fail
      refine (l1Below_any C a len cap 30 _ (unhide CC) (unhide YY) (unhide HNE) (by omega)).mono ?_
      rintro e wC ⟨y, rfl, hy, hcN, gr⟩
      have CC := hide hcN
      have YY := hide ((unhide YY).far gr (unhide HNE'))
      have OO := hide ((unhide OO).far gr (fun g hg => by have := (unhide OO).liesIn g hg; simp; omega))
      have KK := hide ((unhide KK).trans (Kp.of_row gr (unhide KK).size))
      clear hcN gr
      by_cases hy0 : y = 0
      · subst hy0
        have bP := bel1 (w := wC) (Obj.cells #[.int .i64 (-1), .int .i64 12000, .int .i64 12001] 3)
        have RP := hide (row_lit wC [-1, 12000, 12001] 3 (by simp) (by simp))
        have CP := hide ((unhide CC).below bP)
        have YP := hide ((unhide YY).below bP)
        have OP := hide ((unhide OO).below bP)
        have KP := hide ((unhide KK).trans (Kp.of_below bP (unhide KK).size))
        have hsP := (unhide KK).size
        clear bP
        go_wp2_with fail
        refine (l1PickInt_any C a len cap wC.heap.size 3 3 [-1, 12000, 12001] _ (unhide CP) (unhide YP) (unhide HNE) (unhide RP) (by omega) (by omega)).mono ?_
        rintro e wD ⟨ixa, hixa, rfl, hcN, gr⟩
        have hxa : -1 ≤ nth [-1, 12000, 12001] ixa ∧ nth [-1, 12000, 12001] ixa ≤ 12001 := by
          have hh : ixa = 0 ∨ ixa = 1 ∨ ixa = 2 := by omega
          rcases hh with h | h | h <;> subst h <;> simp [nth]
        generalize nth [-1, 12000, 12001] ixa = xa at *
        have CC := hide hcN
        have YY := hide ((unhide YP).far gr (unhide HNE'))
        have OO := hide ((unhide OP).far gr (fun g hg => by have := (unhide OP).liesIn g hg; simp; omega))
        have KK := hide ((unhide KP).trans (Kp.of_row gr (unhide KP).size))
        clear hcN gr CP YP OP KP RP hixa
        have bP := bel1 (w := wD) (Obj.cells #[.int .i64 0, .int .i64 (-1), .int .i64 1000000, .int .i64 1000001] 3)
        have RP := hide (row_lit wD [0, -1, 1000000, 1000001] 3 (by simp) (by simp))
        have CP := hide ((unhide CC).below bP)
        have YP := hide ((unhide YY).below bP)
        have OP := hide ((unhide OO).below bP)
        have KP := hide ((unhide KK).trans (Kp.of_below bP (unhide KK).size))
        have hsP := (unhide KK).size
        clear bP
        go_wp2_with fail
        refine (l1PickInt_any C a len cap wD.heap.size 4 4 [0, -1, 1000000, 1000001] _ (unhide CP) (unhide YP) (unhide HNE) (unhide RP) (by omega) (by omega)).mono ?_
        rintro e wE ⟨ixb, hixb, rfl, hcN, gr⟩
        have hxb : -1 ≤ nth [0, -1, 1000000, 1000001] ixb ∧ nth [0, -1, 1000000, 1000001] ixb ≤ 1000001 := by
          have hh : ixb = 0 ∨ ixb = 1 ∨ ixb = 2 ∨ ixb = 3 := by omega
          rcases hh with h | h | h | h <;> subst h <;> simp [nth]
        generalize nth [0, -1, 1000000, 1000001] ixb = xb at *
        have CC := hide hcN
        have YY := hide ((unhide YP).far gr (unhide HNE'))
        have OO := hide ((unhide OP).far gr (fun g hg => by have := (unhide OP).liesIn g hg; simp; omega))
        have KK := hide ((unhide KP).trans (Kp.of_row gr (unhide KP).size))
        clear hcN gr CP YP OP KP RP hixb
        obtain ⟨vs, hown, hvx⟩ := (unhide OO).own
        have hbA := bel1 (w := wE) (Obj.cells #[Value.int IntKind.i64 xa, Value.int IntKind.i64 xb] 53)
        have hownA := ownsRow_below hown hbA
        have hnews := World.news_of_block (heap_alloc_new wE (Obj.cells #[Value.int IntKind.i64 xa, Value.int IntKind.i64 xb] 53))
        have HVX := hide hvx
        have HVL := hide hown.1
        have hsA := (unhide KK).size
        obtain ⟨i0, hii, hz0, hz1, hz2⟩ := info_parts infoPk
        clear hown hvx
        go_wp2_with (at_builtin; refine wpList_append_lies _ rfl _ _ 34 rfl w2.heap.size 53 i0 (.agg #[.int .i64 0, .int .i64 0]) 2 16 Try.underlying34 hii hz0 hz1 hz2 rfl (by decide) (.slice aa T.length cc) T.length vs rfl hownA ⟨wE.heap.size, 0, none⟩ 1 1 [.int .i64 xa, .int .i64 xb] rfl rfl hnews (by simp [Value.oneCell']) (by decide) (by unfold maxLen; omega) (by omega) (by simp; omega) _ rfl ?_; intro g' cap' w9 hown9 hgrow hat hlt9)
        have hrow : ∀ i, (Value.slice aa T.length cc).ownBlock = some i → w2.heap.size ≤ i := fun i hi => ((unhide OO).liesIn i hi).1
        have hCrow : some C ≠ (Value.slice aa T.length cc).ownBlock := fun e => by have := hrow C e.symm; omega
        have hYrow : ∀ b off, a = some ⟨b, off, none⟩ → some b ≠ (Value.slice aa T.length cc).ownBlock := fun b off e h => by have := hrow b h.symm; have := unhide HIN2 b off e; omega
        have hlenT : (T ++ [(xa, xb)]).length = T.length + 1 := by simp
        have KN := hide (((unhide KK).trans (Kp.of_below hbA hsA)).trans (Kp.of_own hgrow (by simp; omega) hrow))
        have CN := hide (((unhide CC).below hbA).far hgrow hCrow)
        have YN := hide (((unhide YY).below hbA).far hgrow hYrow)
        have ON := hide (own2_push hown9 (unhide HVL) (unhide HVX) (unhide OO).fit (by omega) (by omega))
        clear KK CC YY OO hbA hownA hnews HVX HVL hown9 hgrow hat hrow hCrow hYrow
        rw [← hlenT] at ON
        have KK := KN
        have CC := CN
        have YY := YN
        have OO := ON
        clear KN CN YN ON
        have bP := bel1 (w := w9) (Obj.cells #[.int .i64 0, .int .i64 5, .int .i64 10, .int .i64 1000, .int .i64 1001, .int .i64 (-1), .int .i64 20] 3)
        have RP := hide (row_lit w9 [0, 5, 10, 1000, 1001, -1, 20] 3 (by simp) (by simp))
        have CP := hide ((unhide CC).below bP)
        have YP := hide ((unhide YY).below bP)
        have OP := hide ((unhide OO).below bP)
        have KP := hide ((unhide KK).trans (Kp.of_below bP (unhide KK).size))
        have hsP := (unhide KK).size
        clear bP
        go_wp2_with fail
        refine (l1PickInt_any C a len cap w9.heap.size 7 7 [0, 5, 10, 1000, 1001, -1, 20] _ (unhide CP) (unhide YP) (unhide HNE) (unhide RP) (by omega) (by omega)).mono ?_
        rintro e wQ ⟨im, him, rfl, hcN, gr⟩
        have hm : -1 ≤ nth [0, 5, 10, 1000, 1001, -1, 20] im ∧ nth [0, 5, 10, 1000, 1001, -1, 20] im ≤ 1001 := by
          have hh : im = 0 ∨ im = 1 ∨ im = 2 ∨ im = 3 ∨ im = 4 ∨ im = 5 ∨ im = 6 := by omega
          rcases hh with h | h | h | h | h | h | h <;> subst h <;> simp [nth]
        generalize nth [0, 5, 10, 1000, 1001, -1, 20] im = m at *
        have CC := hide hcN
        have YY := hide ((unhide YP).far gr (unhide HNE'))
        have OO := hide ((unhide OP).far gr (fun g hg => by have := (unhide OP).liesIn g hg; simp; omega))
        have KK := hide ((unhide KP).trans (Kp.of_row gr (unhide KP).size))
        clear hcN gr CP YP OP KP RP him
        go_wp2_with fail
        have hcp : (T ++ [(xa, xb)]).length ≤ cap' := by
          rcases (unhide OO).form with ⟨hv, h0⟩ | ⟨gg, c', hv, _, _, hcc, _⟩
          · rw [h0]; simp
          · simp only [Value.slice.injEq] at hv
            obtain ⟨_, _, rfl⟩ := hv
            exact hcc
        have RP := (unhide KK).row2 (unhide RPH) (unhide BPH)
        have RQ := (unhide OO).row
        refine bodyPost_ret (v := .tuple #[.int .i64 start, .slice pa P.length pc, .slice (some ⟨g', 0, none⟩) (T ++ [(xa, xb)]).length cap', .int .i64 m]) (by simp [results, Try.results12, go_sem]) rfl ⟨start, m, pa, pc, P, (some ⟨g', 0, none⟩), cap', (T ++ [(xa, xb)]), rfl, unhide HST, RP, unhide LP, RQ, hcp, hm, ?_⟩
        exact unhide FIN _ (unhide KK)
      · by_cases hy1 : y = 1
        · subst hy1
          clear hT5
          go_wp2_with fail
          refine (l1Below_any C a len cap 2 _ (unhide CC) (unhide YY) (unhide HNE) (by omega)).mono ?_
          rintro e wD ⟨z, rfl, hz, hcN, gr⟩
          have CC := hide hcN
          have YY := hide ((unhide YY).far gr (unhide HNE'))
          have OO := hide ((unhide OO).far gr (fun g hg => by have := (unhide OO).liesIn g hg; simp; omega))
          have KK := hide ((unhide KK).trans (Kp.of_row gr (unhide KK).size))
          clear hcN gr
          have hz01 : z = 0 ∨ z = 1 := by omega
          obtain ⟨i0, hii, hz0, hz1, hz2⟩ := info_parts infoPk
          rcases hz01 with rfl | rfl
          · have hsA := (unhide KK).size
            go_wp2_with (at_make; refine wpList_make_full _ rfl (.tmp 62) (.tmp 62) 34 rfl w2.heap.size 53 i0 (.agg #[.int .i64 0, .int .i64 0]) 2 Try.underlying34 hii hz0 hz1 .i64 .i64 _ _ 20 rfl rfl rfl rfl (by rw [hz2]; omega) (by unfold maxLen; omega) (by omega) ?_; intro w9 hown hgrow)
            have CC := hide ((unhide CC).far hgrow (by simp))
            have YY := hide ((unhide YY).far hgrow (fun b off e => by simp))
            have KK := hide ((unhide KK).trans (Kp.of_own hgrow hsA (fun i hi => by cases hi)))
            have OO := hide (own2_made hown)
            rw [show (Value.slice (some ⟨wD.heap.size, 0, none⟩) 20 20) = Value.slice (some ⟨wD.heap.size, 0, none⟩) (List.replicate 20 ((0 : Int), (0 : Int))).length 20 from by simp] at OO
            clear hown hgrow
            have bP := bel1 (w := w9) (Obj.cells #[.int .i64 0, .int .i64 5, .int .i64 10, .int .i64 1000, .int .i64 1001, .int .i64 (-1), .int .i64 20] 3)
            have RP := hide (row_lit w9 [0, 5, 10, 1000, 1001, -1, 20] 3 (by simp) (by simp))
            have CP := hide ((unhide CC).below bP)
            have YP := hide ((unhide YY).below bP)
            have OP := hide ((unhide OO).below bP)
            have KP := hide ((unhide KK).trans (Kp.of_below bP (unhide KK).size))
            have hsP := (unhide KK).size
            clear bP
            go_wp2_with fail
            refine (l1PickInt_any C a len cap w9.heap.size 7 7 [0, 5, 10, 1000, 1001, -1, 20] _ (unhide CP) (unhide YP) (unhide HNE) (unhide RP) (by omega) (by omega)).mono ?_
            rintro e wQ ⟨im, him, rfl, hcN, gr⟩
            have hm : -1 ≤ nth [0, 5, 10, 1000, 1001, -1, 20] im ∧ nth [0, 5, 10, 1000, 1001, -1, 20] im ≤ 1001 := by
              have hh : im = 0 ∨ im = 1 ∨ im = 2 ∨ im = 3 ∨ im = 4 ∨ im = 5 ∨ im = 6 := by omega
              rcases hh with h | h | h | h | h | h | h <;> subst h <;> simp [nth]
            generalize nth [0, 5, 10, 1000, 1001, -1, 20] im = m at *
            have CC := hide hcN
            have YY := hide ((unhide YP).far gr (unhide HNE'))
            have OO := hide ((unhide OP).far gr (fun g hg => by have := (unhide OP).liesIn g hg; simp; omega))
            have KK := hide ((unhide KP).trans (Kp.of_row gr (unhide KP).size))
            clear hcN gr CP YP OP KP RP him
            go_wp2_with fail
            have hcp : (List.replicate 20 ((0 : Int), (0 : Int))).length ≤ 20 := by
              rcases (unhide OO).form with ⟨hv, h0⟩ | ⟨gg, c', hv, _, _, hcc, _⟩
              · rw [h0]; simp
              · simp only [Value.slice.injEq] at hv
                obtain ⟨_, _, rfl⟩ := hv
                exact hcc
            have RP := (unhide KK).row2 (unhide RPH) (unhide BPH)
            have RQ := (unhide OO).row
            refine bodyPost_ret (v := .tuple #[.int .i64 start, .slice pa P.length pc, .slice (some ⟨wD.heap.size, 0, none⟩) (List.replicate 20 ((0 : Int), (0 : Int))).length 20, .int .i64 m]) (by simp [results, Try.results12, go_sem]) rfl ⟨start, m, pa, pc, P, (some ⟨wD.heap.size, 0, none⟩), 20, (List.replicate 20 ((0 : Int), (0 : Int))), rfl, unhide HST, RP, unhide LP, RQ, hcp, hm, ?_⟩
            exact unhide FIN _ (unhide KK)
          · have hsA := (unhide KK).size
            go_wp2_with (at_make; refine wpList_make_full _ rfl (.tmp 62) (.tmp 62) 34 rfl w2.heap.size 53 i0 (.agg #[.int .i64 0, .int .i64 0]) 2 Try.underlying34 hii hz0 hz1 .i64 .i64 _ _ 21 rfl rfl rfl rfl (by rw [hz2]; omega) (by unfold maxLen; omega) (by omega) ?_; intro w9 hown hgrow)
            have CC := hide ((unhide CC).far hgrow (by simp))
            have YY := hide ((unhide YY).far hgrow (fun b off e => by simp))
            have KK := hide ((unhide KK).trans (Kp.of_own hgrow hsA (fun i hi => by cases hi)))
            have OO := hide (own2_made hown)
            rw [show (Value.slice (some ⟨wD.heap.size, 0, none⟩) 21 21) = Value.slice (some ⟨wD.heap.size, 0, none⟩) (List.replicate 21 ((0 : Int), (0 : Int))).length 21 from by simp] at OO
            clear hown hgrow
            have bP := bel1 (w := w9) (Obj.cells #[.int .i64 0, .int .i64 5, .int .i64 10, .int .i64 1000, .int .i64 1001, .int .i64 (-1), .int .i64 20] 3)
            have RP := hide (row_lit w9 [0, 5, 10, 1000, 1001, -1, 20] 3 (by simp) (by simp))
            have CP := hide ((unhide CC).below bP)
            have YP := hide ((unhide YY).below bP)
            have OP := hide ((unhide OO).below bP)
            have KP := hide ((unhide KK).trans (Kp.of_below bP (unhide KK).size))
            have hsP := (unhide KK).size
            clear bP
            go_wp2_with fail
            refine (l1PickInt_any C a len cap w9.heap.size 7 7 [0, 5, 10, 1000, 1001, -1, 20] _ (unhide CP) (unhide YP) (unhide HNE) (unhide RP) (by omega) (by omega)).mono ?_
            rintro e wQ ⟨im, him, rfl, hcN, gr⟩
            have hm : -1 ≤ nth [0, 5, 10, 1000, 1001, -1, 20] im ∧ nth [0, 5, 10, 1000, 1001, -1, 20] im ≤ 1001 := by
              have hh : im = 0 ∨ im = 1 ∨ im = 2 ∨ im = 3 ∨ im = 4 ∨ im = 5 ∨ im = 6 := by omega
              rcases hh with h | h | h | h | h | h | h <;> subst h <;> simp [nth]
            generalize nth [0, 5, 10, 1000, 1001, -1, 20] im = m at *
            have CC := hide hcN
            have YY := hide ((unhide YP).far gr (unhide HNE'))
            have OO := hide ((unhide OP).far gr (fun g hg => by have := (unhide OP).liesIn g hg; simp; omega))
            have KK := hide ((unhide KP).trans (Kp.of_row gr (unhide KP).size))
            clear hcN gr CP YP OP KP RP him
            go_wp2_with fail
            have hcp : (List.replicate 21 ((0 : Int), (0 : Int))).length ≤ 21 := by
              rcases (unhide OO).form with ⟨hv, h0⟩ | ⟨gg, c', hv, _, _, hcc, _⟩
              · rw [h0]; simp
              · simp only [Value.slice.injEq] at hv
                obtain ⟨_, _, rfl⟩ := hv
                exact hcc
            have RP := (unhide KK).row2 (unhide RPH) (unhide BPH)
            have RQ := (unhide OO).row
            refine bodyPost_ret (v := .tuple #[.int .i64 start, .slice pa P.length pc, .slice (some ⟨wD.heap.size, 0, none⟩) (List.replicate 21 ((0 : Int), (0 : Int))).length 21, .int .i64 m]) (by simp [results, Try.results12, go_sem]) rfl ⟨start, m, pa, pc, P, (some ⟨wD.heap.size, 0, none⟩), 21, (List.replicate 21 ((0 : Int), (0 : Int))), rfl, unhide HST, RP, unhide LP, RQ, hcp, hm, ?_⟩
            exact unhide FIN _ (unhide KK)
        · have bP := bel1 (w := wC) (Obj.cells #[.int .i64 0, .int .i64 5, .int .i64 10, .int .i64 1000, .int .i64 1001, .int .i64 (-1), .int .i64 20] 3)
          have RP := hide (row_lit wC [0, 5, 10, 1000, 1001, -1, 20] 3 (by simp) (by simp))
          have CP := hide ((unhide CC).below bP)
          have YP := hide ((unhide YY).below bP)
          have OP := hide ((unhide OO).below bP)
          have KP := hide ((unhide KK).trans (Kp.of_below bP (unhide KK).size))
          have hsP := (unhide KK).size
          clear bP
          go_wp2_with fail
          refine (l1PickInt_any C a len cap wC.heap.size 7 7 [0, 5, 10, 1000, 1001, -1, 20] _ (unhide CP) (unhide YP) (unhide HNE) (unhide RP) (by omega) (by omega)).mono ?_
          rintro e wQ ⟨im, him, rfl, hcN, gr⟩
          have hm : -1 ≤ nth [0, 5, 10, 1000, 1001, -1, 20] im ∧ nth [0, 5, 10, 1000, 1001, -1, 20] im ≤ 1001 := by
            have hh : im = 0 ∨ im = 1 ∨ im = 2 ∨ im = 3 ∨ im = 4 ∨ im = 5 ∨ im = 6 := by omega
            rcases hh with h | h | h | h | h | h | h <;> subst h <;> simp [nth]
          generalize nth [0, 5, 10, 1000, 1001, -1, 20] im = m at *
          have CC := hide hcN
          have YY := hide ((unhide YP).far gr (unhide HNE'))
          have OO := hide ((unhide OP).far gr (fun g hg => by have := (unhide OP).liesIn g hg; simp; omega))
          have KK := hide ((unhide KP).trans (Kp.of_row gr (unhide KP).size))
          clear hcN gr CP YP OP KP RP him
          go_wp2_with fail
          have hcp : T.length ≤ cc := by
            rcases (unhide OO).form with ⟨hv, h0⟩ | ⟨gg, c', hv, _, _, hcc, _⟩
            · rw [h0]; simp
            · simp only [Value.slice.injEq] at hv
              obtain ⟨_, _, rfl⟩ := hv
              exact hcc
          have RP := (unhide KK).row2 (unhide RPH) (unhide BPH)
          have RQ := (unhide OO).row
          refine bodyPost_ret (v := .tuple #[.int .i64 start, .slice pa P.length pc, .slice aa T.length cc, .int .i64 m]) (by simp [results, Try.results12, go_sem]) rfl ⟨start, m, pa, pc, P, aa, cc, T, rfl, unhide HST, RP, unhide LP, RQ, hcp, hm, ?_⟩
          exact unhide FIN _ (unhide KK)

end Go.Proofs.Ytkebjipmbgjilab

/-
  What the model's l3DrawPhases answers: a start and phases within loose bounds, in memory of its own; only the cursor's block is turned. At every list of bytes.
-/
import Derived.Test.YtkebjipmbgjilabKeeps
import Derived.Test.YtkebjipmbgjilabPhaseOk
namespace Go.Proofs.Ytkebjipmbgjilab
open Go.RowKit

theorem infoPh : (Try.prog.info? 58).map (fun i => (i.zero, i.size, i.bytes)) = some (some (.agg #[.int .i64 0, .int .i64 0]), 2, 16) := by kernel_rfl
def LooseE (T : List (Int × Int)) : Prop := ∀ i, i < T.length → (-200 ≤ fstAt T i ∧ fstAt T i ≤ 200) ∧ (0 ≤ sndAt T i ∧ sndAt T i ≤ 2000)
theorem LooseE.push {T : List (Int × Int)} {x y : Int} (h : LooseE T) (hx : -200 ≤ x ∧ x ≤ 200) (hy : 0 ≤ y ∧ y ≤ 2000) : LooseE (T ++ [(x, y)]) := by
  obtain ⟨h1, h2, h3⟩ := push_at (P := T) (a := x) (b := y)
  intro k hk
  have hl : (T ++ [(x, y)]).length = T.length + 1 := by simp
  by_cases e : k < T.length
  · rw [(h1 k e).1, (h1 k e).2]; exact h k e
  · obtain rfl : k = T.length := by omega
    rw [h2, h3]; exact ⟨hx, hy⟩

set_option maxRecDepth 20000 in
set_option maxHeartbeats 8000000 in
theorem l3DrawPhases_any (C : Nat) (a : Option Addr) (len cap : Nat) (w : World) (hc : Cur w C a len cap) (hb : Bytes w a len) (hne : ∀ b off, a = some ⟨b, off, none⟩ → b ≠ C) (hin : ∀ b off, a = some ⟨b, off, none⟩ → b < w.heap.size) :
    Calls Try.prog 27 #[.pointer (some ⟨C, 0, none⟩)] w fun e w' => ∃ (start : Int) (aa : Option Addr) (cc : Nat) (T : List (Int × Int)), e = .returned (.tuple #[.int .i64 start, .slice aa T.length cc]) ∧ (-1 ≤ start ∧ start ≤ 100001) ∧ LooseP T ∧ Own2 w' w.heap.size 58 (.slice aa T.length cc) T ∧ Cur w' C a len cap ∧ Bytes w' a len ∧ Kp C w.heap.size w w' := by
  have hCL := hc.lt
  have HNE := hide hne
  have HNE' : Hid (∀ b off, a = some ⟨b, off, none⟩ → some b ≠ some C) := hide fun b off e => by have := hne b off e; simp [this]
  have HIN := hide hin
  have bV := bel1 (w := w) (Obj.cells #[] 58)
  have CC := hide (hc.below bV)
  have YY := hide (hb.below bV)
  have OO := hide (own2_empty w 58 (Nat.le_refl _))
  have KK := hide (Kp.of_below (C := C) (lim := w.heap.size) bV (Nat.le_refl _))
  obtain ⟨V, hV⟩ : ∃ V, V = w.alloc (Obj.cells #[] 58) := ⟨_, rfl⟩
  rw [← hV] at CC YY OO KK
  have HV := hide hV
  clear hc hb hne hin bV hV
  go_enter Try.func27, Try.ntmps27
  go_wp2_with fail
  rw [← unhide HV]
  clear HV
  refine (l1Below_any C a len cap 6 _ (unhide CC) (unhide YY) (unhide HNE) (by omega)).mono ?_
  rintro e w1 ⟨x, rfl, hx, hcN, gr⟩
  have CC := hide hcN
  have YY := hide ((unhide YY).far gr (unhide HNE'))
  have OO := hide ((unhide OO).far gr (fun g hg => by have := (unhide OO).liesIn g hg; simp; omega))
  have KK := hide ((unhide KK).trans (Kp.of_row gr (unhide KK).size))
  clear hcN gr
  obtain ⟨n6, hn6⟩ : ∃ n6 : Nat, x = n6 := ⟨x.toNat, by omega⟩
  subst hn6
  go_wp2_with fail
  go_loopw [4, 5] (fun tk i wr => ∃ (T : List (Int × Int)) (aa : Option Addr) (cc j : Nat), tk = .slice aa T.length cc ∧ i = .int .i64 j ∧ T.length + j = n6 ∧ Kp C w.heap.size w wr ∧ Own2 wr w.heap.size 58 (.slice aa T.length cc) T ∧ Hid (LooseE T) ∧ Cur wr C a len cap ∧ Bytes wr a len) (fun _ i _ => (intOf i).toNat)
  case atStart => exact ⟨[], _, _, n6, rfl, rfl, by simp, unhide KK, unhide OO, hide (fun k hk => by simp at hk), unhide CC, unhide YY⟩
  case round =>
    clear KK OO CC YY
    obtain ⟨T, aa, cc, j, rfl, rfl, htot, hK, hO, hlo, hcu, hby⟩ := hrel
    have KK := hide hK
    have OO := hide hO
    have CC := hide hcu
    have YY := hide hby
    clear hK hO hcu hby
    by_cases hj : 0 < j
    · have hj1 : (0 : Int) < (j : Int) := by omega
      go_wp2_with fail
      refine (l1Below_any C a len cap 41 _ (unhide CC) (unhide YY) (unhide HNE) (by omega)).mono ?_
      rintro e wA ⟨xa, rfl, hxa, hcN, gr⟩
      have CC := hide hcN
      have YY := hide ((unhide YY).far gr (unhide HNE'))
      have OO := hide ((unhide OO).far gr (fun g hg => by have := (unhide OO).liesIn g hg; simp; omega))
      have KK := hide ((unhide KK).trans (Kp.of_row gr (unhide KK).size))
      clear hcN gr
      go_wp2_with fail
      refine (l1Below_any C a len cap 30 _ (unhide CC) (unhide YY) (unhide HNE) (by omega)).mono ?_
      rintro e wB ⟨xb, rfl, hxb, hcN, gr⟩
      have CC := hide hcN
      have YY := hide ((unhide YY).far gr (unhide HNE'))
      have OO := hide ((unhide OO).far gr (fun g hg => by have := (unhide OO).liesIn g hg; simp; omega))
      have KK := hide ((unhide KK).trans (Kp.of_row gr (unhide KK).size))
      clear hcN gr
      obtain ⟨vs, hown, hvx⟩ := (unhide OO).own
      have hbA := bel1 (w := wB) (Obj.cells #[Value.int IntKind.i64 (xa - 15), Value.int IntKind.i64 (1 + xb)] 58)
      have hownA := ownsRow_below hown hbA
      have hnews := World.news_of_block (heap_alloc_new wB (Obj.cells #[Value.int IntKind.i64 (xa - 15), Value.int IntKind.i64 (1 + xb)] 58))
      have HVX := hide hvx
      have HVL := hide hown.1
      have hsA := (unhide KK).size
      obtain ⟨i0, hii, hz0, hz1, hz2⟩ := info_parts infoPh
      clear hown hvx
      go_wp2_with (at_builtin; refine wpList_append_lies _ rfl _ _ 33 rfl w.heap.size 58 i0 (.agg #[.int .i64 0, .int .i64 0]) 2 16 Try.underlying33 hii hz0 hz1 hz2 rfl (by decide) (.slice aa T.length cc) T.length vs rfl hownA ⟨wB.heap.size, 0, none⟩ 1 1 [.int .i64 (xa - 15), .int .i64 (1 + xb)] rfl rfl hnews (by simp [Value.oneCell']) (by decide) (by unfold maxLen; omega) (by omega) (by simp; omega) _ rfl ?_; intro g' cap' w9 hown9 hgrow hat hlt9)
      have hrow : ∀ i, (Value.slice aa T.length cc).ownBlock = some i → w.heap.size ≤ i := fun i hi => ((unhide OO).liesIn i hi).1
      have hCrow : some C ≠ (Value.slice aa T.length cc).ownBlock := fun e => by have := hrow C e.symm; omega
      have hYrow : ∀ b off, a = some ⟨b, off, none⟩ → some b ≠ (Value.slice aa T.length cc).ownBlock := fun b off e h => by have := hrow b h.symm; have := unhide HIN b off e; omega
      have hlenT : (T ++ [((xa - 15), (1 + xb))]).length = T.length + 1 := by simp
      refine ⟨⟨T ++ [(xa - 15, 1 + xb)], some ⟨g', 0, none⟩, cap', j - 1, by rw [hlenT], by go_num, by rw [hlenT]; omega, ((unhide KK).trans (Kp.of_below hbA hsA)).trans (Kp.of_own hgrow (by simp; omega) hrow), ?_, hide ((unhide hlo).push (by omega) (by omega)), ((unhide CC).below hbA).far hgrow hCrow, ((unhide YY).below hbA).far hgrow hYrow⟩, by simp [intOf]; omega⟩
      rw [hlenT]; exact own2_push hown9 (unhide HVL) (unhide HVX) (unhide OO).fit (by omega) (by omega)
    · have hj1 : ¬ (0 : Int) < (j : Int) := by omega
      have hT5 : T.length ≤ 5 := by omega
      clear htot
      go_wp2_with fail
      refine (l1Below_any C a len cap 30 _ (unhide CC) (unhide YY) (unhide HNE) (by omega)).mono ?_
      rintro e wC ⟨y, rfl, hy, hcN, gr⟩
      have CC := hide hcN
      have YY := hide ((unhide YY).far gr (unhide HNE'))
      have OO := hide ((unhide OO).far gr (fun g hg => by have := (unhide OO).liesIn g hg; simp; omega))
      have KK := hide ((unhide KK).trans (Kp.of_row gr (unhide KK).size))
      clear hcN gr
      by_cases hy0 : y = 0
      · subst hy0
        have bP := bel1 (w := wC) (Obj.cells #[.int .i64 (-101), .int .i64 (-100), .int .i64 100, .int .i64 101] 3)
        have RP := hide (row_lit wC [-101, -100, 100, 101] 3 (by simp) (by simp))
        have CP := hide ((unhide CC).below bP)
        have YP := hide ((unhide YY).below bP)
        have OP := hide ((unhide OO).below bP)
        have KP := hide ((unhide KK).trans (Kp.of_below bP (unhide KK).size))
        have hsP := (unhide KK).size
        clear bP
        go_wp2_with fail
        refine (l1PickInt_any C a len cap wC.heap.size 4 4 [-101, -100, 100, 101] _ (unhide CP) (unhide YP) (unhide HNE) (unhide RP) (by omega) (by omega)).mono ?_
        rintro e wD ⟨ipa, hipa, rfl, hcN, gr⟩
        have hpa : -101 ≤ nth [-101, -100, 100, 101] ipa ∧ nth [-101, -100, 100, 101] ipa ≤ 101 := by
          have hh : ipa = 0 ∨ ipa = 1 ∨ ipa = 2 ∨ ipa = 3 := by omega
          rcases hh with h | h | h | h <;> subst h <;> simp [nth]
        generalize nth [-101, -100, 100, 101] ipa = pa at *
        have CC := hide hcN
        have YY := hide ((unhide YP).far gr (unhide HNE'))
        have OO := hide ((unhide OP).far gr (fun g hg => by have := (unhide OP).liesIn g hg; simp; omega))
        have KK := hide ((unhide KP).trans (Kp.of_row gr (unhide KP).size))
        clear hcN gr CP YP OP KP RP hipa
        have bP := bel1 (w := wD) (Obj.cells #[.int .i64 0, .int .i64 1, .int .i64 1000, .int .i64 1001] 3)
        have RP := hide (row_lit wD [0, 1, 1000, 1001] 3 (by simp) (by simp))
        have CP := hide ((unhide CC).below bP)
        have YP := hide ((unhide YY).below bP)
        have OP := hide ((unhide OO).below bP)
        have KP := hide ((unhide KK).trans (Kp.of_below bP (unhide KK).size))
        have hsP := (unhide KK).size
        clear bP
        go_wp2_with fail
        refine (l1PickInt_any C a len cap wD.heap.size 4 4 [0, 1, 1000, 1001] _ (unhide CP) (unhide YP) (unhide HNE) (unhide RP) (by omega) (by omega)).mono ?_
        rintro e wE ⟨ipb, hipb, rfl, hcN, gr⟩
        have hpb : 0 ≤ nth [0, 1, 1000, 1001] ipb ∧ nth [0, 1, 1000, 1001] ipb ≤ 1001 := by
          have hh : ipb = 0 ∨ ipb = 1 ∨ ipb = 2 ∨ ipb = 3 := by omega
          rcases hh with h | h | h | h <;> subst h <;> simp [nth]
        generalize nth [0, 1, 1000, 1001] ipb = pb at *
        have CC := hide hcN
        have YY := hide ((unhide YP).far gr (unhide HNE'))
        have OO := hide ((unhide OP).far gr (fun g hg => by have := (unhide OP).liesIn g hg; simp; omega))
        have KK := hide ((unhide KP).trans (Kp.of_row gr (unhide KP).size))
        clear hcN gr CP YP OP KP RP hipb
        obtain ⟨vs, hown, hvx⟩ := (unhide OO).own
        have hbA := bel1 (w := wE) (Obj.cells #[Value.int IntKind.i64 pa, Value.int IntKind.i64 pb] 58)
        have hownA := ownsRow_below hown hbA
        have hnews := World.news_of_block (heap_alloc_new wE (Obj.cells #[Value.int IntKind.i64 pa, Value.int IntKind.i64 pb] 58))
        have HVX := hide hvx
        have HVL := hide hown.1
        have hsA := (unhide KK).size
        obtain ⟨i0, hii, hz0, hz1, hz2⟩ := info_parts infoPh
        clear hown hvx
        go_wp2_with (at_builtin; refine wpList_append_lies _ rfl _ _ 33 rfl w.heap.size 58 i0 (.agg #[.int .i64 0, .int .i64 0]) 2 16 Try.underlying33 hii hz0 hz1 hz2 rfl (by decide) (.slice aa T.length cc) T.length vs rfl hownA ⟨wE.heap.size, 0, none⟩ 1 1 [.int .i64 pa, .int .i64 pb] rfl rfl hnews (by simp [Value.oneCell']) (by decide) (by unfold maxLen; omega) (by omega) (by simp; omega) _ rfl ?_; intro g' cap' w9 hown9 hgrow hat hlt9)
        have hrow : ∀ i, (Value.slice aa T.length cc).ownBlock = some i → w.heap.size ≤ i := fun i hi => ((unhide OO).liesIn i hi).1
        have hCrow : some C ≠ (Value.slice aa T.length cc).ownBlock := fun e => by have := hrow C e.symm; omega
        have hYrow : ∀ b off, a = some ⟨b, off, none⟩ → some b ≠ (Value.slice aa T.length cc).ownBlock := fun b off e h => by have := hrow b h.symm; have := unhide HIN b off e; omega
        have hlenT : (T ++ [(pa, pb)]).length = T.length + 1 := by simp
        have KN := hide (((unhide KK).trans (Kp.of_below hbA hsA)).trans (Kp.of_own hgrow (by simp; omega) hrow))
        have CN := hide (((unhide CC).below hbA).far hgrow hCrow)
        have YN := hide (((unhide YY).below hbA).far hgrow hYrow)
        have ON := hide (own2_push hown9 (unhide HVL) (unhide HVX) (unhide OO).fit (by omega) (by omega))
        have HLO : Hid (LooseP (T ++ [(pa, pb)])) := hide ⟨by rw [hlenT]; omega, (unhide hlo).push (by omega) (by omega)⟩
        clear KK CC YY OO hbA hownA hnews HVX HVL hown9 hgrow hat hrow hCrow hYrow
        rw [← hlenT] at ON ⊢
        have KK := KN
        have CC := CN
        have YY := YN
        have OO := ON
        clear KN CN YN ON
        refine (l1Below_any C a len cap 200 _ (unhide CC) (unhide YY) (unhide HNE) (by omega)).mono ?_
        rintro e wS ⟨s0, rfl, hs0, hcN, gr⟩
        have CC := hide hcN
        have YY := hide ((unhide YY).far gr (unhide HNE'))
        have OO := hide ((unhide OO).far gr (fun g hg => by have := (unhide OO).liesIn g hg; simp; omega))
        have KK := hide ((unhide KK).trans (Kp.of_row gr (unhide KK).size))
        clear hcN gr
        go_wp2_with fail
        refine (l1Once_any C a len cap 30 _ (unhide CC) (unhide YY) (unhide HNE) (by omega)).mono ?_
        rintro e wO ⟨b, rfl, hcN, gr⟩
        have CC := hide hcN
        have YY := hide ((unhide YY).far gr (unhide HNE'))
        have OO := hide ((unhide OO).far gr (fun g hg => by have := (unhide OO).liesIn g hg; simp; omega))
        have KK := hide ((unhide KK).trans (Kp.of_row gr (unhide KK).size))
        clear hcN gr
        cases b
        · go_wp2
          go_ret2
          exact ⟨s0, _, _, _, by first | rfl | (rw [hlenT]; rfl), by omega, unhide HLO, unhide OO, unhide CC, unhide YY, unhide KK⟩
        · have bP := bel1 (w := wO) (Obj.cells #[.int .i64 (-1), .int .i64 100000, .int .i64 100001] 3)
          have RP := hide (row_lit wO [-1, 100000, 100001] 3 (by simp) (by simp))
          have CP := hide ((unhide CC).below bP)
          have YP := hide ((unhide YY).below bP)
          have OP := hide ((unhide OO).below bP)
          have KP := hide ((unhide KK).trans (Kp.of_below bP (unhide KK).size))
          have hsP := (unhide KK).size
          clear bP
          go_wp2_with fail
          refine (l1PickInt_any C a len cap wO.heap.size 3 3 [-1, 100000, 100001] _ (unhide CP) (unhide YP) (unhide HNE) (unhide RP) (by omega) (by omega)).mono ?_
          rintro e wQ ⟨iv, hiv, rfl, hcN, gr⟩
          have hv : -1 ≤ nth [-1, 100000, 100001] iv ∧ nth [-1, 100000, 100001] iv ≤ 100001 := by
            have hh : iv = 0 ∨ iv = 1 ∨ iv = 2 := by omega
            rcases hh with h | h | h <;> subst h <;> simp [nth]
          generalize nth [-1, 100000, 100001] iv = v at *
          have CC := hide hcN
          have YY := hide ((unhide YP).far gr (unhide HNE'))
          have OO := hide ((unhide OP).far gr (fun g hg => by have := (unhide OP).liesIn g hg; simp; omega))
          have KK := hide ((unhide KP).trans (Kp.of_row gr (unhide KP).size))
          clear hcN gr CP YP OP KP RP hiv
          go_wp2
          go_ret2
          exact ⟨v, _, _, _, by first | rfl | (rw [hlenT]; rfl), by omega, unhide HLO, unhide OO, unhide CC, unhide YY, unhide KK⟩
      · by_cases hy1 : y = 1
        · subst hy1
          have OO : Hid (Own2 wC w.heap.size 58 (.slice none ([] : List (Int × Int)).length 0) []) := hide (own2_nil _ _ _)
          clear hlo hT5
          go_wp2_with fail
          refine (l1Below_any C a len cap 2 _ (unhide CC) (unhide YY) (unhide HNE) (by omega)).mono ?_
          rintro e wD ⟨z, rfl, hz, hcN, gr⟩
          have CC := hide hcN
          have YY := hide ((unhide YY).far gr (unhide HNE'))
          have OO := hide ((unhide OO).far gr (fun g hg => by have := (unhide OO).liesIn g hg; simp; omega))
          have KK := hide ((unhide KK).trans (Kp.of_row gr (unhide KK).size))
          clear hcN gr
          obtain ⟨n2, hn2⟩ : ∃ n2 : Nat, z = n2 := ⟨z.toNat, by omega⟩
          subst hn2
          go_wp2_with fail
          go_loopw [4, 6] (fun tk i wr => ∃ (T : List (Int × Int)) (aa : Option Addr) (cc j : Nat), tk = .slice aa T.length cc ∧ i = .int .i64 j ∧ T.length + j = 12 + n2 ∧ Kp C w.heap.size w wr ∧ Own2 wr w.heap.size 58 (.slice aa T.length cc) T ∧ Hid (LooseE T) ∧ Cur wr C a len cap ∧ Bytes wr a len) (fun _ i _ => (intOf i).toNat)
          case atStart => exact ⟨[], _, _, 12 + n2, rfl, by go_num, by simp, unhide KK, unhide OO, hide (fun k hk => by simp at hk), unhide CC, unhide YY⟩
          case round =>
            clear KK OO CC YY
            obtain ⟨T, aa, cc, j, rfl, rfl, htot, hK, hO, hlo, hcu, hby⟩ := hrel
            have KK := hide hK
            have OO := hide hO
            have CC := hide hcu
            have YY := hide hby
            clear hK hO hcu hby
            by_cases hj : 0 < j
            · have hj1 : (0 : Int) < (j : Int) := by omega
              obtain ⟨vs, hown, hvx⟩ := (unhide OO).own
              have hbA := bel1 (w := wr) (Obj.cells #[Value.int IntKind.i64 0, Value.int IntKind.i64 (j : Int)] 58)
              have hownA := ownsRow_below hown hbA
              have hnews := World.news_of_block (heap_alloc_new wr (Obj.cells #[Value.int IntKind.i64 0, Value.int IntKind.i64 (j : Int)] 58))
              have HVX := hide hvx
              have HVL := hide hown.1
              have hsA := (unhide KK).size
              obtain ⟨i0, hii, hz0, hz1, hz2⟩ := info_parts infoPh
              clear hown hvx
              go_wp2_with (at_builtin; refine wpList_append_lies _ rfl _ _ 33 rfl w.heap.size 58 i0 (.agg #[.int .i64 0, .int .i64 0]) 2 16 Try.underlying33 hii hz0 hz1 hz2 rfl (by decide) (.slice aa T.length cc) T.length vs rfl hownA ⟨wr.heap.size, 0, none⟩ 1 1 [.int .i64 0, .int .i64 (j : Int)] rfl rfl hnews (by simp [Value.oneCell']) (by decide) (by unfold maxLen; omega) (by omega) (by simp; omega) _ rfl ?_; intro g' cap' w9 hown9 hgrow hat hlt9)
              have hrow : ∀ i, (Value.slice aa T.length cc).ownBlock = some i → w.heap.size ≤ i := fun i hi => ((unhide OO).liesIn i hi).1
              have hCrow : some C ≠ (Value.slice aa T.length cc).ownBlock := fun e => by have := hrow C e.symm; omega
              have hYrow : ∀ b off, a = some ⟨b, off, none⟩ → some b ≠ (Value.slice aa T.length cc).ownBlock := fun b off e h => by have := hrow b h.symm; have := unhide HIN b off e; omega
              have hlenT : (T ++ [(0, (j : Int))]).length = T.length + 1 := by simp
              refine ⟨⟨T ++ [(0, (j : Int))], some ⟨g', 0, none⟩, cap', j - 1, by rw [hlenT], by go_num, by rw [hlenT]; omega, ((unhide KK).trans (Kp.of_below hbA hsA)).trans (Kp.of_own hgrow (by simp; omega) hrow), ?_, hide ((unhide hlo).push (by omega) (by omega)), ((unhide CC).below hbA).far hgrow hCrow, ((unhide YY).below hbA).far hgrow hYrow⟩, by simp [intOf]; omega⟩
              rw [hlenT]; exact own2_push hown9 (unhide HVL) (unhide HVX) (unhide OO).fit (by omega) (by omega)
            · have hj1 : ¬ (0 : Int) < (j : Int) := by omega
              have HLO : Hid (LooseP T) := hide ⟨by omega, unhide hlo⟩
              clear htot hlo
              go_wp2_with fail
              refine (l1Below_any C a len cap 200 _ (unhide CC) (unhide YY) (unhide HNE) (by omega)).mono ?_
              rintro e wS ⟨s0, rfl, hs0, hcN, gr⟩
              have CC := hide hcN
              have YY := hide ((unhide YY).far gr (unhide HNE'))
              have OO := hide ((unhide OO).far gr (fun g hg => by have := (unhide OO).liesIn g hg; simp; omega))
              have KK := hide ((unhide KK).trans (Kp.of_row gr (unhide KK).size))
              clear hcN gr
              go_wp2_with fail
              refine (l1Once_any C a len cap 30 _ (unhide CC) (unhide YY) (unhide HNE) (by omega)).mono ?_
              rintro e wO ⟨b, rfl, hcN, gr⟩
              have CC := hide hcN
              have YY := hide ((unhide YY).far gr (unhide HNE'))
              have OO := hide ((unhide OO).far gr (fun g hg => by have := (unhide OO).liesIn g hg; simp; omega))
              have KK := hide ((unhide KK).trans (Kp.of_row gr (unhide KK).size))
              clear hcN gr
              cases b
              · go_wp2
                go_ret2
                exact ⟨s0, _, _, _, by first | rfl | (rw [hlenT]; rfl), by omega, unhide HLO, unhide OO, unhide CC, unhide YY, unhide KK⟩
              · have bP := bel1 (w := wO) (Obj.cells #[.int .i64 (-1), .int .i64 100000, .int .i64 100001] 3)
                have RP := hide (row_lit wO [-1, 100000, 100001] 3 (by simp) (by simp))
                have CP := hide ((unhide CC).below bP)
                have YP := hide ((unhide YY).below bP)
                have OP := hide ((unhide OO).below bP)
                have KP := hide ((unhide KK).trans (Kp.of_below bP (unhide KK).size))
                have hsP := (unhide KK).size
                clear bP
                go_wp2_with fail
                refine (l1PickInt_any C a len cap wO.heap.size 3 3 [-1, 100000, 100001] _ (unhide CP) (unhide YP) (unhide HNE) (unhide RP) (by omega) (by omega)).mono ?_
                rintro e wQ ⟨iv, hiv, rfl, hcN, gr⟩
                have hv : -1 ≤ nth [-1, 100000, 100001] iv ∧ nth [-1, 100000, 100001] iv ≤ 100001 := by
                  have hh : iv = 0 ∨ iv = 1 ∨ iv = 2 := by omega
                  rcases hh with h | h | h <;> subst h <;> simp [nth]
                generalize nth [-1, 100000, 100001] iv = v at *
                have CC := hide hcN
                have YY := hide ((unhide YP).far gr (unhide HNE'))
                have OO := hide ((unhide OP).far gr (fun g hg => by have := (unhide OP).liesIn g hg; simp; omega))
                have KK := hide ((unhide KP).trans (Kp.of_row gr (unhide KP).size))
                clear hcN gr CP YP OP KP RP hiv
                go_wp2
                go_ret2
                exact ⟨v, _, _, _, by first | rfl | (rw [hlenT]; rfl), by omega, unhide HLO, unhide OO, unhide CC, unhide YY, unhide KK⟩
        · have HLO : Hid (LooseP T) := hide ⟨by omega, unhide hlo⟩
          clear hlo
          go_wp2_with fail
          refine (l1Below_any C a len cap 200 _ (unhide CC) (unhide YY) (unhide HNE) (by omega)).mono ?_
          rintro e wS ⟨s0, rfl, hs0, hcN, gr⟩
          have CC := hide hcN
          have YY := hide ((unhide YY).far gr (unhide HNE'))
          have OO := hide ((unhide OO).far gr (fun g hg => by have := (unhide OO).liesIn g hg; simp; omega))
          have KK := hide ((unhide KK).trans (Kp.of_row gr (unhide KK).size))
          clear hcN gr
          go_wp2_with fail
          refine (l1Once_any C a len cap 30 _ (unhide CC) (unhide YY) (unhide HNE) (by omega)).mono ?_
          rintro e wO ⟨b, rfl, hcN, gr⟩
          have CC := hide hcN
          have YY := hide ((unhide YY).far gr (unhide HNE'))
          have OO := hide ((unhide OO).far gr (fun g hg => by have := (unhide OO).liesIn g hg; simp; omega))
          have KK := hide ((unhide KK).trans (Kp.of_row gr (unhide KK).size))
          clear hcN gr
          cases b
          · go_wp2
            go_ret2
            exact ⟨s0, _, _, _, by first | rfl | (rw [hlenT]; rfl), by omega, unhide HLO, unhide OO, unhide CC, unhide YY, unhide KK⟩
          · have bP := bel1 (w := wO) (Obj.cells #[.int .i64 (-1), .int .i64 100000, .int .i64 100001] 3)
            have RP := hide (row_lit wO [-1, 100000, 100001] 3 (by simp) (by simp))
            have CP := hide ((unhide CC).below bP)
            have YP := hide ((unhide YY).below bP)
            have OP := hide ((unhide OO).below bP)
            have KP := hide ((unhide KK).trans (Kp.of_below bP (unhide KK).size))
            have hsP := (unhide KK).size
            clear bP
            go_wp2_with fail
            refine (l1PickInt_any C a len cap wO.heap.size 3 3 [-1, 100000, 100001] _ (unhide CP) (unhide YP) (unhide HNE) (unhide RP) (by omega) (by omega)).mono ?_
            rintro e wQ ⟨iv, hiv, rfl, hcN, gr⟩
            have hv : -1 ≤ nth [-1, 100000, 100001] iv ∧ nth [-1, 100000, 100001] iv ≤ 100001 := by
              have hh : iv = 0 ∨ iv = 1 ∨ iv = 2 := by omega
              rcases hh with h | h | h <;> subst h <;> simp [nth]
            generalize nth [-1, 100000, 100001] iv = v at *
            have CC := hide hcN
            have YY := hide ((unhide YP).far gr (unhide HNE'))
            have OO := hide ((unhide OP).far gr (fun g hg => by have := (unhide OP).liesIn g hg; simp; omega))
            have KK := hide ((unhide KP).trans (Kp.of_row gr (unhide KP).size))
            clear hcN gr CP YP OP KP RP hiv
            go_wp2
            go_ret2
            exact ⟨v, _, _, _, by first | rfl | (rw [hlenT]; rfl), by omega, unhide HLO, unhide OO, unhide CC, unhide YY, unhide KK⟩

end Go.Proofs.Ytkebjipmbgjilab

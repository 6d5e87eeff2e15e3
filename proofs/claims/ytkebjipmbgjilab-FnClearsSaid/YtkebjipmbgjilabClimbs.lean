/-
  What Climbs answers in the program and in the model: the heights at the phases' ends in memory of its own. At every argument; nothing that was there is written.
-/
import Derived.Test.YtkebjipmbgjilabPhaseOk
import Derived.Test.YtkebjipmbgjilabMarkI
import Derived.Deep.DrawnRows
namespace Go.Proofs.Ytkebjipmbgjilab
open Go.RowKit

set_option maxHeartbeats 2000000 in
theorem implClimbs_any (start : Int) (ad : Option Addr) (len cap : Nat) (ps : List (Int × Int)) (w : World) (hr : Row2 w ad len ps) :
    Calls Try.prog 15 #[.int .i64 start, .slice ad len cap] w fun e w' => ∃ a c, e = .returned (.tuple #[.slice a (climbL start ps).length c, .bool (phaseB start ps)]) ∧ OwnI w' w.heap.size (.slice a (climbL start ps).length c) (climbL start ps) ∧ Below w.heap.size w w' := by
  have hz := hr.len_eq
  have hs := hr.small
  have HO := hide hr.open_
  have B0 := hide (bel1 (w := w) (Obj.cells #[] 3))
  have O0 := hide (ownI_none (w := w) (w1 := w) (Nat.le_refl _))
  have HR := hide (hr.below (unhide B0))
  clear hr
  subst hz
  cases hok : phaseB start ps
  · have HE := hide (climbL_no hok)
    go_enter Try.func15, Try.ntmps15
    go_wp2_with fail
    refine (phasesOk_any start ad ps.length cap ps _ (unhide HR)).mono ?_
    rintro e w' ⟨rfl, hw⟩
    subst w'
    rw [hok]
    go_wp2
    go_ret2
    refine ⟨some ⟨w.heap.size, 0, none⟩, 0, ?_, ?_, unhide B0⟩
    · rw [unhide HE]; rfl
    · rw [unhide HE]; exact unhide O0
  · have HE := hide (climbL_yes hok)
    have LO := hide (phase_loose hok)
    have hf := phase_facts hok
    have h12 := hf.2.1
    have hst := hf.1
    have HF := hide hf.2.2
    clear hf
    go_enter Try.func15, Try.ntmps15
    go_wp2_with fail
    refine (phasesOk_any start ad ps.length cap ps _ (unhide HR)).mono ?_
    rintro e w' ⟨rfl, hw⟩
    subst w'
    rw [hok]
    clear hok
    go_wp2_with fail
    go_loopw [6, 7, 18] (fun en he i wr => ∃ (k : Nat) (a : Option Addr) (c : Nat), k ≤ ps.length ∧ en = .slice a k c ∧ he = .int .i64 (endAt start ps k) ∧ i = .int .i64 k ∧ OwnI wr w.heap.size (.slice a k c) (endsL start ps k) ∧ Below w.heap.size w wr) (fun _ _ i _ => ps.length - (intOf i).toNat)
    case atStart => exact ⟨0, _, _, Nat.zero_le _, rfl, rfl, rfl, unhide O0, unhide B0⟩
    case round =>
      clear O0 B0 HR
      obtain ⟨k, a, c, hk, rfl, rfl, rfl, hO, hbel⟩ := hrel
      have OO := hide hO
      have HB := hide hbel
      by_cases hlt : k < ps.length
      · rcases (unhide HO) with ⟨h0, _⟩ | ⟨bb, off, rfl, _, hc⟩
        · omega
        obtain ⟨ca, cb⟩ := hc k hlt
        have ca := (hbel.cell (block_lt_of_cell ca)).trans ca
        have cb := (hbel.cell (block_lt_of_cell cb)).trans cb
        have lb := block_lt_of_cell ca
        have hi1 : (k : Int) < (ps.length : Int) := by omega
        have hi0 : (0 : Int) ≤ (k : Int) := by omega
        have b5 := (unhide LO).2 k hlt
        have b6 := prod_bd b5.1 b5.2
        have b7 := endAt_bd (start := start) (by omega) (unhide LO) k hk
        have E1 := hide (endAt_succ start ps k)
        generalize endAt start ps k = H at *
        clear hc hO hbel
        go_wp2_with fail
        go_quiet (fail)
        have KW := hide (show Below w.heap.size w (wr.drewN nq) from (unhide HB).trans (bel0d' _))
        have OW := hide ((unhide OO).below (bel0d nq))
        obtain ⟨V, hV⟩ : ∃ V, wr.drewN nq = V := ⟨_, rfl⟩
        rw [hV] at KW OW ⊢
        clear hV OO HB ca cb lb
        have hsz := (unhide KW).size
        obtain ⟨vs, hown, hvx⟩ := (unhide OW).own
        rw [endsL_len] at hown hvx
        have hbA := bel1 (w := V) (Obj.cells #[Value.int IntKind.i64 (H + fstAt ps k * sndAt ps k)] 3)
        have hownA := ownsRow_below hown hbA
        have hnews := World.news_of_block (heap_alloc_new V (Obj.cells #[Value.int IntKind.i64 (H + fstAt ps k * sndAt ps k)] 3))
        have HVX := hide hvx
        have HVL := hide hown.1
        obtain ⟨i0, hii, hz0, hz1, hz2⟩ := info_parts info_int1
        clear hown hvx
        go_wp2_with (at_builtin; refine wpList_append_lies _ rfl _ _ 38 rfl w.heap.size 3 i0 (.int .i64 0) 1 8 Try.underlying38 hii hz0 hz1 hz2 rfl (by decide) (.slice a k c) k vs rfl hownA ⟨V.heap.size, 0, none⟩ 1 1 [.int .i64 (H + fstAt ps k * sndAt ps k)] rfl rfl hnews (by simp [Value.oneCell']) (by decide) (by unfold maxLen; omega) (by omega) (by simp; omega) _ rfl ?_; intro g' cap' w9 hown9 hgrow hat hlt9)
        have hrow : ∀ j, (Value.slice a k c).ownBlock = some j → w.heap.size ≤ j := fun j hj => ((unhide OW).lies j hj).1
        have hb9 : Below w.heap.size w w9 := ((unhide KW).trans (hbA.mono hsz)).grown hgrow (by simp; omega) hrow
        have hL : endsL start ps (k + 1) = endsL start ps k ++ [H + fstAt ps k * sndAt ps k] := by rw [← unhide E1]; rfl
        have hl1 : (endsL start ps k).length = k := endsL_len _ _ _
        refine ⟨⟨k + 1, some ⟨g', 0, none⟩, cap', by omega, rfl, by rw [unhide E1], by go_num, ?_, hb9⟩, by simp [intOf]; omega⟩
        rw [hL]
        exact ownI_app (by rw [hl1]; exact hown9) (by rw [hl1]; exact unhide HVL) (by rw [hl1]; exact unhide HVX) (unhide OW).fit (by omega)
      · have hkk : k = ps.length := by omega
        subst hkk
        clear hO hbel
        go_wp2
        go_ret2
        refine ⟨a, c, ?_, ?_, unhide HB⟩
        · rw [unhide HE, endsL_len]; try rfl
        · rw [unhide HE, endsL_len]; exact unhide OO

set_option maxHeartbeats 2000000 in
theorem specClimbs_any (start : Int) (ad : Option Addr) (len cap : Nat) (ps : List (Int × Int)) (w : World) (hr : Row2 w ad len ps) :
    Calls Try.prog 16 #[.int .i64 start, .slice ad len cap] w fun e w' => ∃ a c, e = .returned (.tuple #[.slice a (climbL start ps).length c, .bool (phaseB start ps)]) ∧ OwnI w' w.heap.size (.slice a (climbL start ps).length c) (climbL start ps) ∧ Below w.heap.size w w' := by
  have hz := hr.len_eq
  have hs := hr.small
  have HO := hide hr.open_
  have B0 := hide (bel1 (w := w) (Obj.cells #[] 3))
  have O0 := hide (ownI_none (w := w) (w1 := w) (Nat.le_refl _))
  have HR := hide (hr.below (unhide B0))
  clear hr
  subst hz
  cases hok : phaseB start ps
  · have HE := hide (climbL_no hok)
    go_enter Try.func16, Try.ntmps16
    go_wp2_with fail
    refine (l3Phases_any start ad ps.length cap ps _ (unhide HR)).mono ?_
    rintro e w' ⟨rfl, hw⟩
    subst w'
    rw [hok]
    go_wp2
    go_ret2
    refine ⟨some ⟨w.heap.size, 0, none⟩, 0, ?_, ?_, unhide B0⟩
    · rw [unhide HE]; rfl
    · rw [unhide HE]; exact unhide O0
  · have HE := hide (climbL_yes hok)
    have LO := hide (phase_loose hok)
    have hf := phase_facts hok
    have h12 := hf.2.1
    have hst := hf.1
    have HF := hide hf.2.2
    clear hf
    go_enter Try.func16, Try.ntmps16
    go_wp2_with fail
    refine (l3Phases_any start ad ps.length cap ps _ (unhide HR)).mono ?_
    rintro e w' ⟨rfl, hw⟩
    subst w'
    rw [hok]
    clear hok
    go_wp2_with fail
    go_loopw [0, 6, 7] (fun he en i wr => ∃ (k : Nat) (a : Option Addr) (c : Nat), k ≤ ps.length ∧ en = .slice a k c ∧ he = .int .i64 (endAt start ps k) ∧ i = .int .i64 k ∧ OwnI wr w.heap.size (.slice a k c) (endsL start ps k) ∧ Below w.heap.size w wr) (fun _ _ i _ => ps.length - (intOf i).toNat)
    case atStart => exact ⟨0, _, _, Nat.zero_le _, rfl, rfl, rfl, unhide O0, unhide B0⟩
    case round =>
      clear O0 B0 HR
      obtain ⟨k, a, c, hk, rfl, rfl, rfl, hO, hbel⟩ := hrel
      have OO := hide hO
      have HB := hide hbel
      by_cases hlt : k < ps.length
      · rcases (unhide HO) with ⟨h0, _⟩ | ⟨bb, off, rfl, _, hc⟩
        · omega
        obtain ⟨ca, cb⟩ := hc k hlt
        have ca := (hbel.cell (block_lt_of_cell ca)).trans ca
        have cb := (hbel.cell (block_lt_of_cell cb)).trans cb
        have lb := block_lt_of_cell ca
        have hi1 : (k : Int) < (ps.length : Int) := by omega
        have hi0 : (0 : Int) ≤ (k : Int) := by omega
        have b5 := (unhide LO).2 k hlt
        have b6 := prod_bd b5.1 b5.2
        have b7 := endAt_bd (start := start) (by omega) (unhide LO) k hk
        have E1 := hide (endAt_succ start ps k)
        generalize endAt start ps k = H at *
        clear hc hO hbel
        go_wp2_with fail
        go_quiet (fail)
        have KW := hide (show Below w.heap.size w (wr.drewN nq) from (unhide HB).trans (bel0d' _))
        have OW := hide ((unhide OO).below (bel0d nq))
        obtain ⟨V, hV⟩ : ∃ V, wr.drewN nq = V := ⟨_, rfl⟩
        rw [hV] at KW OW ⊢
        clear hV OO HB ca cb lb
        have hsz := (unhide KW).size
        obtain ⟨vs, hown, hvx⟩ := (unhide OW).own
        rw [endsL_len] at hown hvx
        have hbA := bel1 (w := V) (Obj.cells #[Value.int IntKind.i64 (H + fstAt ps k * sndAt ps k)] 3)
        have hownA := ownsRow_below hown hbA
        have hnews := World.news_of_block (heap_alloc_new V (Obj.cells #[Value.int IntKind.i64 (H + fstAt ps k * sndAt ps k)] 3))
        have HVX := hide hvx
        have HVL := hide hown.1
        obtain ⟨i0, hii, hz0, hz1, hz2⟩ := info_parts info_int1
        clear hown hvx
        go_wp2_with (at_builtin; refine wpList_append_lies _ rfl _ _ 38 rfl w.heap.size 3 i0 (.int .i64 0) 1 8 Try.underlying38 hii hz0 hz1 hz2 rfl (by decide) (.slice a k c) k vs rfl hownA ⟨V.heap.size, 0, none⟩ 1 1 [.int .i64 (H + fstAt ps k * sndAt ps k)] rfl rfl hnews (by simp [Value.oneCell']) (by decide) (by unfold maxLen; omega) (by omega) (by simp; omega) _ rfl ?_; intro g' cap' w9 hown9 hgrow hat hlt9)
        have hrow : ∀ j, (Value.slice a k c).ownBlock = some j → w.heap.size ≤ j := fun j hj => ((unhide OW).lies j hj).1
        have hb9 : Below w.heap.size w w9 := ((unhide KW).trans (hbA.mono hsz)).grown hgrow (by simp; omega) hrow
        have hL : endsL start ps (k + 1) = endsL start ps k ++ [H + fstAt ps k * sndAt ps k] := by rw [← unhide E1]; rfl
        have hl1 : (endsL start ps k).length = k := endsL_len _ _ _
        refine ⟨⟨k + 1, some ⟨g', 0, none⟩, cap', by omega, rfl, by rw [unhide E1], by go_num, ?_, hb9⟩, by simp [intOf]; omega⟩
        rw [hL]
        exact ownI_app (by rw [hl1]; exact hown9) (by rw [hl1]; exact unhide HVL) (by rw [hl1]; exact unhide HVX) (unhide OW).fit (by omega)
      · have hkk : k = ps.length := by omega
        subst hkk
        clear hO hbel
        go_wp2
        go_ret2
        refine ⟨a, c, ?_, ?_, unhide HB⟩
        · rw [unhide HE, endsL_len]; try rfl
        · rw [unhide HE, endsL_len]; exact unhide OO

end Go.Proofs.Ytkebjipmbgjilab

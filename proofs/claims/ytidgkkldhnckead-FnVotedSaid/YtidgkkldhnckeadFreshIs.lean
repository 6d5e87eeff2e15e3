/-
  What Fresh answers in the model and in the program: as the plain function. At all numbers; nothing that was there is written.
-/
import Derived.Test.YtidgkkldhnckeadVoOk
import Derived.Test.YtidgkkldhnckeadFreshPure
import Derived.Laws.MakeOwn
import Derived.Laws.OwnMore
import Derived.Test.YtidgkkldhnckeadMarkI
import Derived.Deep.Cut
import Derived.Deep.CutRange
namespace Go.Proofs.Ytidgkkldhnckead
open Go.RowKit

theorem ownE_drew {α : Type} [Inhabited α] {K : Nat} {cells : α → Nat → Value} {w : World} {base : Nat} {T : TypeId} {v : Value} {ps : List α} (h : OwnE K cells w base T v ps) : OwnE K cells w.drew base T v ps := h.below ((Below.refl _ _).drew)
theorem ownI_drew {w : World} {base : Nat} {v : Value} {zs : List Int} (h : OwnI w base v zs) : OwnI w.drew base v zs := h.below ((Below.refl _ _).drew)
theorem blk_of4 {w : World} {B : Nat} {v0 v1 v2 v3 : Value} (c0 : w.cell? ⟨B, 0, none⟩ = some v0) (c1 : w.cell? ⟨B, 1, none⟩ = some v1) (c2 : w.cell? ⟨B, 2, none⟩ = some v2) (c3 : w.cell? ⟨B, 3, none⟩ = some v3)
    (f0 : w.frozen? ⟨B, 0, none⟩ = false) (f1 : w.frozen? ⟨B, 1, none⟩ = false) (f2 : w.frozen? ⟨B, 2, none⟩ = false) (f3 : w.frozen? ⟨B, 3, none⟩ = false) (lt : B < w.heap.size) : Blk w B [v0, v1, v2, v3] := by
  refine ⟨fun q hq => ?_, fun q hq => ?_, lt⟩
  all_goals
    rcases (show q = 0 ∨ q = 1 ∨ q = 2 ∨ q = 3 from by simp at hq; omega) with rfl | rfl | rfl | rfl <;> assumption
theorem voOwn_nil (w : World) (base : Nat) : VoOwn w base none none 0 0 0 0 [] [] := ⟨ownE_nil _ _ _, ownI_nil _ _, fun g hg => by simp [Value.ownBlock] at hg⟩
abbrev madeBo (L : Nat) : Obj := .cells (madeCells #[.bool false] L) 4
abbrev madeIn (L : Nat) : Obj := .cells (madeCells #[.int .i64 0] L) 3
theorem made_at (v : Value) (L i : Nat) (h : i < L) : (madeCells #[v] L).toList[i]? = some v := by
  rw [toList_madeCells_one]; simp [h]
theorem ownBo_made {W : World} {base L g : Nat} (h : base ≤ W.heap.size) (hL : L ≤ maxLen) (hg : W.heap.size = g) : OwnE 1 boC (W.alloc (madeBo L)) base 4 (.slice (some ⟨g, 0, none⟩) L L) (List.replicate L false) := by
  subst hg
  refine ⟨⟨(madeCells #[.bool false] L).toList, ?_, fun j hj q hq => ?_⟩⟩
  · rw [List.length_replicate]; exact World.ownsRow_lit W _ L h hL (by rw [size_madeCells]; omega)
  · obtain rfl : q = 0 := by omega
    have hj' : j < L := by simpa using hj
    simp only [Nat.mul_one, Nat.add_zero]
    have := made_at (.bool false) L j hj'
    simpa [elAt, hj', boC] using this
theorem ownIn_made {W : World} {base L g : Nat} (h : base ≤ W.heap.size) (hL : L ≤ maxLen) (hg : W.heap.size = g) : OwnI (W.alloc (madeIn L)) base (.slice (some ⟨g, 0, none⟩) L L) (List.replicate L 0) := by
  subst hg
  refine ⟨⟨(madeCells #[.int .i64 0] L).toList, ?_, fun j hj => ?_⟩, fun i => ?_⟩
  · rw [List.length_replicate]; exact World.ownsRow_lit W _ L h hL (by rw [size_madeCells]; omega)
  · have hj' : j < L := by simpa using hj
    have := made_at (.int .i64 0) L j hj'
    simpa [nth, hj'] using this
  · by_cases hi : i < L
    · simp [nth, hi]
    · have : (List.replicate L (0 : Int))[i]? = none := by simp; omega
      simp [nth, this]
theorem made_run {P : Program} {t e : TypeId} {v : Value} {b : Nat} {L : Nat} (ht : P.underlying t = some (.slice e)) (hi : (P.info? e).map (fun i => (i.zero, i.size, i.bytes)) = some (some v, 1, b)) (hv : v.cells = #[v]) (hb : b ≤ 8) (hL : L ≤ 1048576) (W : World) :
    (Instr.makeSlice t (.int .i64 (L : Int)) (.int .i64 (L : Int))).run P W = .ok (.slice (some ⟨W.heap.size, 0, none⟩) L L) (W.alloc (.cells (madeCells #[v] L) e)) := by
  obtain ⟨i0, h0, h1, h2, h3⟩ := info_parts hi
  have hbytes : (i0.bytes : Int) * (L : Int) ≤ 281474976710656 := by
    have hm : i0.bytes * L ≤ 8 * 1048576 := Nat.mul_le_mul (by omega) hL
    have : ((i0.bytes * L : Nat) : Int) ≤ 281474976710656 := by omega
    rwa [Int.natCast_mul] at this
  have hr := run_make (P := P) W t e i0 v ht h0 h1 .i64 .i64 (L : Int) (L : Int) (by omega) (Int.le_refl _) hbytes (by omega)
  rw [hv, h2] at hr
  simpa using hr

set_option maxRecDepth 20000 in
set_option maxHeartbeats 4000000 in
theorem implFresh_any (lanes near hold : Int) (w : World) :
    Calls Try.prog 11 #[.int .i64 lanes, .int .i64 near, .int .i64 hold] w fun x w' => ∃ a1 c1 a2 c2, x = .returned (.tuple #[.agg #[.int .i64 (freN lanes near hold), .int .i64 (freH lanes near hold), .slice a1 (freB lanes near hold).length c1, .slice a2 (freO lanes near hold).length c2], .bool (freOk lanes near hold)]) ∧ VoOwn w' w.heap.size a1 a2 (freB lanes near hold).length c1 (freO lanes near hold).length c2 (freB lanes near hold) (freO lanes near hold) ∧ Below w.heap.size w w' := by
  cases q1 : inB lanes 1 5 with
  | false =>
    have e0 : freOk lanes near hold = false := by simp [freOk, q1]
    obtain ⟨e1, e2, e3, e4⟩ := fre_no e0
    rw [e0, e1, e2, e3, e4]
    go_enter Try.func11, Try.ntmps11
    go_wp2_with (go_at_call 33; refine (within_is _ _ _ _ q1).mono ?_; rintro e w' ⟨rfl, hw⟩; subst w')
    refine bodyPost_ret (v := .tuple #[.agg #[.int .i64 0, .int .i64 0, .slice none 0 0, .slice none 0 0], .bool false]) (by simp [results, Try.results11, go_sem, *]) rfl ⟨none, 0, none, 0, rfl, voOwn_nil _ _, ?_⟩
    exact bel1 _
  | true =>
  have hb := inB_in q1
  obtain ⟨L, hL⟩ : ∃ L : Nat, lanes = (L : Int) := ⟨lanes.toNat, by omega⟩
  subst hL
  have hL5 : L ≤ 5 := by omega
  have HQ := hide q1
  have mB := fun W => made_run (P := Try.prog) (L := L) Try.underlying25 infoBo rfl (by omega) (by omega) W
  have mI := fun W => made_run (P := Try.prog) (L := L) Try.underlying26 info_int1 rfl (by omega) (by omega) W
  go_enter Try.func11, Try.ntmps11
  go_wp2_with (go_at_call 33; refine (within_is _ _ _ _ q1).mono ?_; rintro e w' ⟨rfl, hw⟩; subst w')
  go_cut [8, 16, 18] from 13 to 19 (fun s v1 v2 W => ∃ S g1 g2, s = .pointer (some ⟨S, 0, none⟩) ∧ v1 = .slice (some ⟨g1, 0, none⟩) L L ∧ v2 = .slice (some ⟨g2, 0, none⟩) L L ∧ Blk W S [.int .i64 near, .int .i64 hold, .slice (some ⟨g1, 0, none⟩) L L, .slice (some ⟨g2, 0, none⟩) L L] ∧ Blk W w.heap.size [.int .i64 0, .int .i64 0, .slice none 0 0, .slice none 0 0] ∧ (OwnE 1 boC W w.heap.size 4 (.slice (some ⟨g1, 0, none⟩) L L) (List.replicate L false) ∧ OwnI W w.heap.size (.slice (some ⟨g2, 0, none⟩) L L) (List.replicate L 0) ∧ g1 ≠ g2 ∧ w.heap.size < g1 ∧ w.heap.size < g2) ∧ Below w.heap.size w W)
  case first =>
    go_region_with fail
    all_goals
      go_wp2_with fail
      go_meet
      case rel =>
        refine ⟨_, _, _, rfl, rfl, rfl, blk_of4 ?_ ?_ ?_ ?_ ?_ ?_ ?_ ?_ ?_, blk_of4 ?_ ?_ ?_ ?_ ?_ ?_ ?_ ?_ ?_, ⟨?_, ?_, ?_, ?_, ?_⟩, ?_⟩
        case refine_19 => repeat (first | exact ownBo_made (by simp; try omega) (by unfold maxLen; omega) (by simp) | refine ownE_drew ?_ | refine OwnE.below ?_ (bel1 _) | refine OwnE.set_other ?_ _ (by simp [Value.ownBlock]; try omega))
        case refine_20 => repeat (first | exact ownIn_made (by simp; try omega) (by unfold maxLen; omega) (by simp) | refine ownI_drew ?_ | refine OwnI.below ?_ (bel1 _) | refine OwnI.set_other ?_ _ (by simp [Value.ownBlock]; try omega))
        case refine_24 => repeat (first | exact Below.refl _ _ | refine Below.drew ?_ | refine Below.trans ?_ (bel0d' _) | refine Below.setCell ?_ (by simp; try omega) _ | refine Below.alloc ?_ (by simp; try omega) _)
        all_goals first | (simp [go_sem]; done) | omega | (simp; omega)
  case rest =>
    obtain ⟨S, g1, g2, rfl, rfl, rfl, kS, kR, ⟨oB, oI, hne, hg1, hg2⟩, hbc⟩ := hcut
    have KR := hide kR
    have HG : Hid (g1 ≠ g2 ∧ w.heap.size < g1 ∧ w.heap.size < g2) := hide ⟨hne, hg1, hg2⟩
    have VO : Hid (VoOwn wc w.heap.size (some ⟨g1, 0, none⟩) (some ⟨g2, 0, none⟩) L L L L (List.replicate L false) (List.replicate L 0)) := hide ⟨oB, oI, fun g h1 h2 => hne ((fresh_own h1).symm.trans (fresh_own h2))⟩
    have HB := hide hbc
    have KS := hide kS
    have m0 : wc.cell? ⟨S, 0, none⟩ = some (.int .i64 near) := kS.c 0 (by simp)
    have m1 : wc.cell? ⟨S, 1, none⟩ = some (.int .i64 hold) := kS.c 1 (by simp)
    have m2 : wc.cell? ⟨S, 2, none⟩ = some (.slice (some ⟨g1, 0, none⟩) L L) := kS.c 2 (by simp)
    have m3 : wc.cell? ⟨S, 3, none⟩ = some (.slice (some ⟨g2, 0, none⟩) L L) := kS.c 3 (by simp)
    clear kS kR oB oI hne hg1 hg2 hbc mB mI
    cases hf : freOk (L : Int) near hold with
    | false =>
      have EE := hide (fre_no hf)
      go_wp2_with fail
      refine (implVoterOk_is near hold _ _ _ _ _ _ (List.replicate L false) (List.replicate L 0) _ (unhide VO).read ((fre_vo (unhide HQ)).trans hf)).mono ?_
      rintro x w2 ⟨rfl, b⟩
      have KR := hide ((unhide KR).below b)
      have KS := hide ((unhide KS).below b)
      have HB := hide ((unhide HB).trans (b.mono (unhide HB).size))
      have VO := hide ((unhide VO).below b)
      clear b m0 m1 m2 m3
      have r0 : w2.cell? ⟨w.heap.size, 0, none⟩ = some (.int .i64 0) := (unhide KR).c 0 (by simp)
      have t0 : w2.frozen? ⟨w.heap.size, 0, none⟩ = false := (unhide KR).f 0 (by simp)
      have r1 : w2.cell? ⟨w.heap.size, 1, none⟩ = some (.int .i64 0) := (unhide KR).c 1 (by simp)
      have t1 : w2.frozen? ⟨w.heap.size, 1, none⟩ = false := (unhide KR).f 1 (by simp)
      have r2 : w2.cell? ⟨w.heap.size, 2, none⟩ = some (.slice none 0 0) := (unhide KR).c 2 (by simp)
      have t2 : w2.frozen? ⟨w.heap.size, 2, none⟩ = false := (unhide KR).f 2 (by simp)
      have r3 : w2.cell? ⟨w.heap.size, 3, none⟩ = some (.slice none 0 0) := (unhide KR).c 3 (by simp)
      have t3 : w2.frozen? ⟨w.heap.size, 3, none⟩ = false := (unhide KR).f 3 (by simp)
      have HB := hide ((unhide HB).setCell (p := ⟨w.heap.size, 0, none⟩) (Nat.le_refl _) (.int .i64 0))
      have HB := hide ((unhide HB).setCell (p := ⟨w.heap.size, 1, none⟩) (Nat.le_refl _) (.int .i64 0))
      have HB := hide ((unhide HB).setCell (p := ⟨w.heap.size, 2, none⟩) (Nat.le_refl _) (.slice none 0 0))
      have HB := hide ((unhide HB).setCell (p := ⟨w.heap.size, 3, none⟩) (Nat.le_refl _) (.slice none 0 0))
      clear KR KS
      go_wp2_with fail
      refine bodyPost_ret (v := .tuple #[.agg #[.int .i64 0, .int .i64 0, .slice none 0 0, .slice none 0 0], .bool false]) (by simp [results, Try.results11, go_sem, *]) rfl ?_
      obtain ⟨e1, e2, e3, e4⟩ := unhide EE
      rw [e1, e2, e3, e4, hf]
      exact ⟨none, 0, none, 0, rfl, voOwn_nil _ _, unhide HB⟩
    | true =>
      have EE := hide (fre_yes hf)
      go_wp2_with fail
      refine (implVoterOk_is near hold _ _ _ _ _ _ (List.replicate L false) (List.replicate L 0) _ (unhide VO).read ((fre_vo (unhide HQ)).trans hf)).mono ?_
      rintro x w2 ⟨rfl, b⟩
      have KR := hide ((unhide KR).below b)
      have KS := hide ((unhide KS).below b)
      have HB := hide ((unhide HB).trans (b.mono (unhide HB).size))
      have VO := hide ((unhide VO).below b)
      clear b m0 m1 m2 m3
      have r0 : w2.cell? ⟨w.heap.size, 0, none⟩ = some (.int .i64 0) := (unhide KR).c 0 (by simp)
      have t0 : w2.frozen? ⟨w.heap.size, 0, none⟩ = false := (unhide KR).f 0 (by simp)
      have m0 : w2.cell? ⟨S, 0, none⟩ = some (.int .i64 near) := (unhide KS).c 0 (by simp)
      have r1 : w2.cell? ⟨w.heap.size, 1, none⟩ = some (.int .i64 0) := (unhide KR).c 1 (by simp)
      have t1 : w2.frozen? ⟨w.heap.size, 1, none⟩ = false := (unhide KR).f 1 (by simp)
      have m1 : w2.cell? ⟨S, 1, none⟩ = some (.int .i64 hold) := (unhide KS).c 1 (by simp)
      have r2 : w2.cell? ⟨w.heap.size, 2, none⟩ = some (.slice none 0 0) := (unhide KR).c 2 (by simp)
      have t2 : w2.frozen? ⟨w.heap.size, 2, none⟩ = false := (unhide KR).f 2 (by simp)
      have m2 : w2.cell? ⟨S, 2, none⟩ = some (.slice (some ⟨g1, 0, none⟩) L L) := (unhide KS).c 2 (by simp)
      have r3 : w2.cell? ⟨w.heap.size, 3, none⟩ = some (.slice none 0 0) := (unhide KR).c 3 (by simp)
      have t3 : w2.frozen? ⟨w.heap.size, 3, none⟩ = false := (unhide KR).f 3 (by simp)
      have m3 : w2.cell? ⟨S, 3, none⟩ = some (.slice (some ⟨g2, 0, none⟩) L L) := (unhide KS).c 3 (by simp)
      have VO := hide ((unhide VO).set_other (S := w.heap.size) (o := 0) (.int .i64 near) (by have e := unhide HG; simp [Value.ownBlock]; omega) (by have e := unhide HG; simp [Value.ownBlock]; omega))
      have VO := hide ((unhide VO).set_other (S := w.heap.size) (o := 1) (.int .i64 hold) (by have e := unhide HG; simp [Value.ownBlock]; omega) (by have e := unhide HG; simp [Value.ownBlock]; omega))
      have VO := hide ((unhide VO).set_other (S := w.heap.size) (o := 2) (.slice (some ⟨g1, 0, none⟩) L L) (by have e := unhide HG; simp [Value.ownBlock]; omega) (by have e := unhide HG; simp [Value.ownBlock]; omega))
      have VO := hide ((unhide VO).set_other (S := w.heap.size) (o := 3) (.slice (some ⟨g2, 0, none⟩) L L) (by have e := unhide HG; simp [Value.ownBlock]; omega) (by have e := unhide HG; simp [Value.ownBlock]; omega))
      have HB := hide ((unhide HB).setCell (p := ⟨w.heap.size, 0, none⟩) (Nat.le_refl _) (.int .i64 near))
      have HB := hide ((unhide HB).setCell (p := ⟨w.heap.size, 1, none⟩) (Nat.le_refl _) (.int .i64 hold))
      have HB := hide ((unhide HB).setCell (p := ⟨w.heap.size, 2, none⟩) (Nat.le_refl _) (.slice (some ⟨g1, 0, none⟩) L L))
      have HB := hide ((unhide HB).setCell (p := ⟨w.heap.size, 3, none⟩) (Nat.le_refl _) (.slice (some ⟨g2, 0, none⟩) L L))
      clear KR KS
      go_wp2_with fail
      refine bodyPost_ret (v := .tuple #[.agg #[.int .i64 near, .int .i64 hold, .slice (some ⟨g1, 0, none⟩) L L, .slice (some ⟨g2, 0, none⟩) L L], .bool true]) (by simp [results, Try.results11, go_sem, *]) rfl ?_
      obtain ⟨e1, e2, e3, e4⟩ := unhide EE
      rw [e1, e2, e3, e4, hf]
      refine ⟨some ⟨g1, 0, none⟩, L, some ⟨g2, 0, none⟩, L, by simp, ?_, unhide HB⟩
      simpa using unhide VO

end Go.Proofs.Ytidgkkldhnckead

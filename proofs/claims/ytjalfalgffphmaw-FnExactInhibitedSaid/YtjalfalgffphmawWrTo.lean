/-
  The law's copy of rules: new memory for the list and for each list of phases. At lengths of at most 1048576.
-/
import Derived.Test.YtjalfalgffphmawWrRow
import Derived.Test.YtjalfalgffphmawOwnI
import Derived.Test.YtjalfalgffphmawMarkI
import Derived.Test.YtjalfalgffphmawOnly
import Derived.Test.YtjalfalgffphmawBlks
import Derived.Test.YtjalfalgffphmawWhole
namespace Go.Proofs.Ytjalfalgffphmaw
open Go.RowKit

set_option maxRecDepth 20000 in
set_option maxHeartbeats 1000000 in
theorem toWarnRule_any (qa : Option Addr) (ql qc : Nat) (p : Wr) (w : World) (hr : Row w qa ql p.q) (hl : ql ≤ 1048576) :
    Calls Try.prog 31 #[.agg #[.string p.n, .int .i64 p.r, .slice qa ql qc, .bool p.l, .string p.d]] w fun e w' => ∃ g, e = .returned (.agg #[.string p.n, .int .i64 p.r, .slice (some ⟨g, 0, none⟩) ql ql, .bool p.l, .string p.d]) ∧ OwnI w' w.heap.size (.slice (some ⟨g, 0, none⟩) ql ql) p.q ∧ Below w.heap.size w w' := by
  go_enter Try.func31, Try.ntmps31
  go_wp2_with fail
  obtain ⟨W0, hW0⟩ : ∃ W, W = ((w.alloc (Obj.cells #[.string p.n, .int .i64 p.r, .slice qa ql qc, .bool p.l, .string p.d] 51)).alloc (Obj.cells #[.string ⟨#[]⟩, .int .i64 0, .slice none 0 0, .bool false, .string ⟨#[]⟩] 56)).alloc (Obj.cells #[.string p.n, .int .i64 p.r, .slice none 0 0, .bool false, .string ⟨#[]⟩] 56) := ⟨_, rfl⟩
  have b0 : Below w.heap.size w W0 := by rw [hW0]; exact ((bel1 _).alloc (by simp) _).alloc (by simp; omega) _
  have KA : Blk W0 w.heap.size [.string p.n, .int .i64 p.r, .slice qa ql qc, .bool p.l, .string p.d] := by rw [hW0]; exact blkAt3_0
  have KR : Blk W0 (w.heap.size + 1) [.string ⟨#[]⟩, .int .i64 0, .slice none 0 0, .bool false, .string ⟨#[]⟩] := by rw [hW0]; exact blkAt3_1
  have KS : Blk W0 (w.heap.size + 1 + 1) [.string p.n, .int .i64 p.r, .slice none 0 0, .bool false, .string ⟨#[]⟩] := by rw [hW0]; exact blkAt3_2
  rw [← hW0]
  clear hW0
  refine (toIntS_own _ _ _ p.q _ (hr.below b0) hl).mono ?_
  rintro e w1 ⟨rfl, o1, b1⟩
  have O1 := hide (o1.mono b0.size)
  have HB := hide (b0.trans (b1.mono b0.size))
  have K1A := hide (KA.below b1)
  have K1R := hide (KR.below b1)
  have K1S := hide (KS.below b1)
  have gw := KS.lt
  have a3 := (unhide K1A).c 3 (by simp)
  have a4 := (unhide K1A).c 4 (by simp)
  have s2 := (unhide K1S).c 2 (by simp)
  have s3 := (unhide K1S).c 3 (by simp)
  have s4 := (unhide K1S).c 4 (by simp)
  have t2 := (unhide K1S).f 2 (by simp)
  have t3 := (unhide K1S).f 3 (by simp)
  have t4 := (unhide K1S).f 4 (by simp)
  simp only [List.getElem_cons_zero, List.getElem_cons_succ] at a3 a4 s2 s3 s4
  clear b0 KA KR KS o1 b1 hr
  go_wp2_with (first
    | ((with_reducible show wpList _ _ _ (⟨_, .load 56 _, _, _, _, none⟩ :: _) _ _); refine at_loadAgg (vs := [.string p.n, .int .i64 p.r, .slice (some ⟨W0.heap.size, 0, none⟩) ql ql, .bool p.l, .string p.d]) Try.isAgg56 Try.sizeOf56 rfl (by simpa using (((unhide K1S).set 2 (by simp) (.slice (some ⟨W0.heap.size, 0, none⟩) ql ql)).set 3 (by simp) (.bool p.l)).set 4 (by simp) (.string p.d)) ?_)
    | ((with_reducible show wpList _ _ _ (⟨none, .store 56 _ _, _, _, _, none⟩ :: _) _ _); refine at_storeAgg (us := [.string ⟨#[]⟩, .int .i64 0, .slice none 0 0, .bool false, .string ⟨#[]⟩]) (vs := [.string p.n, .int .i64 p.r, .slice (some ⟨W0.heap.size, 0, none⟩) ql ql, .bool p.l, .string p.d]) Try.sizeOf56 rfl rfl ((((unhide K1R).other (p := ⟨w.heap.size + 1 + 1, 2, none⟩) (by simp) _).other (p := ⟨w.heap.size + 1 + 1, 3, none⟩) (by simp) _).other (p := ⟨w.heap.size + 1 + 1, 4, none⟩) (by simp) _) rfl (by simp [Value.oneCell']) ?_; intro w9 kk9 gg9))
  have B2 : Below w.heap.size w (((w1.setCell ⟨w.heap.size + 1 + 1, 2, none⟩ (.slice (some ⟨W0.heap.size, 0, none⟩) ql ql)).setCell ⟨w.heap.size + 1 + 1, 3, none⟩ (.bool p.l)).setCell ⟨w.heap.size + 1 + 1, 4, none⟩ (.string p.d)) := (((unhide HB).setCell (by simp; omega) _).setCell (by simp; omega) _).setCell (by simp; omega) _
  refine bodyPost_ret (results_cell (vs := [.string p.n, .int .i64 p.r, .slice (some ⟨W0.heap.size, 0, none⟩) ql ql, .bool p.l, .string p.d]) rfl Try.isAgg56 Try.sizeOf56 rfl kk9) rfl ⟨_, rfl, ?_, ?_⟩
  · have l1 := gw
    exact (((((unhide O1).set_other _ (by simp [Value.ownBlock]; omega)).set_other _ (by simp [Value.ownBlock]; omega)).set_other _ (by simp [Value.ownBlock]; omega))).far gg9 (fun g hg e => by simp [Value.ownBlock] at hg; cases e; omega)
  · exact B2.grown gg9 B2.size (fun q hq => by cases hq; omega)

end Go.Proofs.Ytjalfalgffphmaw

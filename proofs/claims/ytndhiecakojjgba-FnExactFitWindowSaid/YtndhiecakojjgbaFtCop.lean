/-
  A plan's copy in the program: its windows in memory of their own. At lists of at most 1048576; nothing that was there is written.
-/
import Derived.Test.YtndhiecakojjgbaInsW
import Derived.Test.YtndhiecakojjgbaAppM
import Derived.Test.YtndhiecakojjgbaSqImpl
import Derived.Test.YtndhiecakojjgbaFtPure
namespace Go.Proofs.Ytndhiecakojjgba
open Go.RowKit

theorem own_shape {w : World} {base : Nat} {T : TypeId} {v v0 : Value} {ps : List Wn} (h : OwnE 3 wnC w base T v ps) (hn : v = .slice none 0 0 → v0 = .slice none 0 0) (h0 : v0 ≠ .slice none 0 0) : ∃ g cp, v = .slice (some ⟨g, 0, none⟩) ps.length cp ∧ base ≤ g := by
  rcases h.form with ⟨e, _⟩ | ⟨g, cp, e, hb, _⟩
  · exact absurd (hn e) h0
  · exact ⟨g, cp, e, hb⟩

set_option maxRecDepth 20000 in
set_option maxHeartbeats 2000000 in
theorem copied17_is (fr pa : Int) (da : Option Addr) (dn dc : Nat) (ws : List Wn) (w : World) (hl : dn ≤ 1048576) (hr : RowE 3 wnC w da dn ws) :
    Calls Try.prog 15 #[.agg #[.int .i64 fr, .int .i64 pa, .slice da dn dc]] w fun e w' => ∃ g cp : Nat, e = .returned (.agg #[.int .i64 fr, .int .i64 pa, .slice (some ⟨g, 0, none⟩) ws.length cp]) ∧ OwnE 3 wnC w' w.heap.size 39 (.slice (some ⟨g, 0, none⟩) ws.length cp) ws ∧ Below w.heap.size w w' := by
  have hz := hr.len_eq
  subst hz
  obtain ⟨W, hW⟩ : ∃ W, W = (w.alloc (Obj.cells #[.int .i64 fr, .int .i64 pa, .slice da ws.length dc] 28)).alloc (Obj.cells #[.int .i64 0, .int .i64 0, .slice none 0 0] 28) := ⟨_, rfl⟩
  have hWs : W.heap.size = w.heap.size + 2 := by rw [hW]; simp
  have KP : Hid (Blk W w.heap.size [.int .i64 fr, .int .i64 pa, .slice da ws.length dc]) := hide (by rw [hW]; exact blkAt2_0)
  have KR : Hid (Blk W (w.heap.size + 1) [.int .i64 0, .int .i64 0, .slice none 0 0]) := hide (by rw [hW]; exact blkAt2_1)
  have B0 : Hid (Below w.heap.size w W) := hide (by rw [hW]; exact bel2 _ _)
  obtain ⟨V, hV⟩ : ∃ V, V = W.alloc (Obj.cells #[] 39) := ⟨_, rfl⟩
  have bV : Below W.heap.size W V := by rw [hV]; exact bel1 _
  have OV : Hid (OwnE 3 wnC V W.heap.size 39 (.slice (some ⟨W.heap.size, 0, none⟩) 0 0) []) := hide (by rw [hV]; exact ownE_none (Nat.le_refl _))
  have RV : Hid (RowE 3 wnC V da ws.length ws) := hide ((hr.below (unhide B0)).below bV)
  have SV : Hid (W.heap.size ≤ V.heap.size) := hide bV.size
  have KP := hide ((unhide KP).below bV)
  have KR := hide ((unhide KR).below bV)
  have B0 := hide ((unhide B0).trans (bV.mono (unhide B0).size))
  have n1 : W.cell? ⟨w.heap.size, 2, none⟩ = some (.slice da ws.length dc) := by rw [hW]; exact (blkAt2_0 (v1 := [.int .i64 fr, .int .i64 pa, .slice da ws.length dc])).c 2 (by simp)
  have n2 : V.cell? ⟨w.heap.size, 2, none⟩ = some (.slice da ws.length dc) := (unhide KP).c 2 (by simp)
  have HW := hide hW
  have HV := hide hV
  have HWS := hide hWs
  have HH : Hid (w.heap.size + 1 + 1 = W.heap.size) := hide (by omega)
  clear hW hV bV hr hWs
  rw [unhide HV] at n2 OV RV SV KP KR B0
  go_enter Try.func15, Try.ntmps15
  go_upto_region 1 with fail
  rw [← unhide HW]
  clear HW
  go_upto_region 2 with (at_builtin; (refine wpList_app_elsM (K := 3) (cells := wnC) (by kernel_rfl) _ _ 26 39 rfl Try.underlying26 infoWn rfl (by decide) (by decide) wnCell1 (unhide OV) rfl da ws.length dc ws rfl (unhide RV) (by simp; omega) (unhide SV) ?_; intro v9 w9 o9 gr9 nn9; obtain ⟨g, cp, rfl, hbg⟩ := own_shape o9 nn9 (by simp); rw [List.nil_append] at o9; have hnp : some w.heap.size ≠ (Value.slice (some ⟨W.heap.size, 0, none⟩) 0 0).ownBlock := (by simp [Value.ownBlock, unhide HWS]); have hnr : some (w.heap.size + 1) ≠ (Value.slice (some ⟨W.heap.size, 0, none⟩) 0 0).ownBlock := (by simp [Value.ownBlock, unhide HWS]); have KP9 := hide ((unhide KP).apart gr9 hnp); have KR9 := hide ((unhide KR).apart gr9 hnr); have B9 := hide ((unhide B0).grown gr9 (unhide B0).size (fun q hq => by simp [Value.ownBlock] at hq; have := unhide HWS; omega)); have O9 := hide o9; have HBG : Hid (w.heap.size + 2 ≤ g) := hide (by have := unhide HWS; omega); have y1 : w9.cell? ⟨w.heap.size, 2, none⟩ = some (.slice da ws.length dc) := (unhide KP9).c 2 (by simp); have y2 : w9.frozen? ⟨w.heap.size, 2, none⟩ = false := (unhide KP9).f 2 (by simp); clear o9 gr9 nn9 hnp hnr hbg))
  obtain ⟨U, hU⟩ : ∃ U, U = w9.setCell ⟨w.heap.size, 2, none⟩ (.slice (some ⟨g, 0, none⟩) ws.length cp) := ⟨_, rfl⟩
  have KPU : Hid (Blk U w.heap.size [.int .i64 fr, .int .i64 pa, .slice (some ⟨g, 0, none⟩) ws.length cp]) := hide (by rw [hU]; exact (unhide KP9).set 2 (by simp) _)
  have KRU : Hid (Blk U (w.heap.size + 1) [.int .i64 0, .int .i64 0, .slice none 0 0]) := hide (by rw [hU]; exact (unhide KR9).other (p := ⟨w.heap.size, 2, none⟩) (by show w.heap.size ≠ w.heap.size + 1; omega) _)
  have OU : Hid (OwnE 3 wnC U W.heap.size 39 (.slice (some ⟨g, 0, none⟩) ws.length cp) ws) := hide (by rw [hU]; exact (unhide O9).set_other _ (by intro e; simp [Value.ownBlock] at e; have := unhide HBG; omega))
  have BU : Hid (Below w.heap.size w U) := hide (by rw [hU]; exact (unhide B9).setCell (p := ⟨w.heap.size, 2, none⟩) (by simp) _)
  rw [← hU]
  clear hU y1 y2 KP9 KR9 O9 B9 n1 n2
  have p0 : U.cell? ⟨w.heap.size, 0, none⟩ = some (.int .i64 fr) := (unhide KPU).c 0 (by simp)
  have p1 : U.cell? ⟨w.heap.size, 1, none⟩ = some (.int .i64 pa) := (unhide KPU).c 1 (by simp)
  have p2 : U.cell? ⟨w.heap.size, 2, none⟩ = some (.slice (some ⟨g, 0, none⟩) ws.length cp) := (unhide KPU).c 2 (by simp)
  go_wp2_with (((with_reducible show wpList _ _ _ (⟨none, .store 28 _ _, _, _, _, none⟩ :: _) _ _); refine at_storeAgg (us := [.int .i64 0, .int .i64 0, .slice none 0 0]) (vs := [.int .i64 fr, .int .i64 pa, .slice (some ⟨g, 0, none⟩) ws.length cp]) Try.sizeOf28 rfl rfl (unhide KRU) rfl (fun v hv => by simp at hv; rcases hv with rfl | rfl | rfl <;> rfl) ?_; intro w2 k2 g2; have K2 := hide k2; have G2 := hide g2; clear k2 g2))
  refine bodyPost_ret (results_cell (vs := [.int .i64 fr, .int .i64 pa, .slice (some ⟨g, 0, none⟩) ws.length cp]) rfl Try.isAgg28 Try.sizeOf28 rfl (unhide K2)) rfl ⟨g, cp, rfl, ?_, ?_⟩
  · exact ((unhide OU).far (unhide G2) (fun q hq => by simp [Value.ownBlock] at hq; have := unhide HBG; simp; omega)).mono (by have := unhide HWS; omega)
  · exact (unhide BU).grown (unhide G2) (unhide BU).size (fun q hq => by simp at hq; omega)

end Go.Proofs.Ytndhiecakojjgba

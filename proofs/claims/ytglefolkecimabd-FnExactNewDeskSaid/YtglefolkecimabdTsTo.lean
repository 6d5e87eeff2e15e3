/-
  The law's size and copy of a Task. No condition; nothing that was there is written.
-/
import Derived.Test.YtglefolkecimabdToCk
import Derived.Test.YtglefolkecimabdWhole
import Derived.Test.YtglefolkecimabdOnly
namespace Go.Proofs.Ytglefolkecimabd
open Go Go.RowKit

set_option maxHeartbeats 1000000 in
theorem szTask_any (nm : ByteArray) (h c d dh dc dd : Int) (left : Int) (w : World) (hp : nm.size ≤ 9223372036854775807) (hl0 : 0 ≤ left) (hl1 : left ≤ 1048576) :
    Calls Try.prog 110 #[.agg #[.string nm, .int .i64 h, .int .i64 c, .int .i64 d, .int .i64 dh, .int .i64 dc, .int .i64 dd], .int .i64 left] w fun x w' => (∃ r : Int, x = .returned (.int .i64 r) ∧ (r < 0 ∨ (0 ≤ r ∧ r ≤ left ∧ nm.size ≤ 1048576))) ∧ Below w.heap.size w w' := by
  by_cases q0 : (nm.size : Int) ≤ left
  · have n0 : ¬ left - (nm.size : Int) < 0 := by omega
    go_enter Try.func110, Try.ntmps110
    go_wp2_with fail
    go_ret
    exact ⟨⟨_, rfl, .inr ⟨by omega, by omega, by omega⟩⟩, bel1 _⟩
  · have n0 : left - (nm.size : Int) < 0 := by omega
    go_enter Try.func110, Try.ntmps110
    go_wp2_with fail
    go_ret
    exact ⟨⟨-1, rfl, .inl (by omega)⟩, bel1 _⟩
set_option maxRecDepth 20000 in
set_option maxHeartbeats 2000000 in
theorem toTask_any (nm : ByteArray) (h c d dh dc dd : Int) (w : World) :
    Calls Try.prog 113 #[.agg #[.string nm, .int .i64 h, .int .i64 c, .int .i64 d, .int .i64 dh, .int .i64 dc, .int .i64 dd]] w fun x w' => x = .returned (.agg #[.string nm, .int .i64 h, .int .i64 c, .int .i64 d, .int .i64 dh, .int .i64 dc, .int .i64 dd]) ∧ Below w.heap.size w w' := by
  obtain ⟨W, hW⟩ : ∃ W, W = ((w.alloc (Obj.cells #[.string nm, .int .i64 h, .int .i64 c, .int .i64 d, .int .i64 dh, .int .i64 dc, .int .i64 dd] 151)).alloc (Obj.cells #[.string ⟨#[]⟩, .int .i64 0, .int .i64 0, .int .i64 0, .int .i64 0, .int .i64 0, .int .i64 0] 105)).alloc (Obj.cells #[.string nm, .int .i64 h, .int .i64 c, .int .i64 d, .int .i64 0, .int .i64 0, .int .i64 0] 105) := ⟨_, rfl⟩
  have KR : Hid (Blk W (w.heap.size + 1) [.string ⟨#[]⟩, .int .i64 0, .int .i64 0, .int .i64 0, .int .i64 0, .int .i64 0, .int .i64 0]) := hide (by
    rw [hW]
    have := (Blk.new (w := (w.alloc (Obj.cells #[.string nm, .int .i64 h, .int .i64 c, .int .i64 d, .int .i64 dh, .int .i64 dc, .int .i64 dd] 151))) [.string ⟨#[]⟩, .int .i64 0, .int .i64 0, .int .i64 0, .int .i64 0, .int .i64 0, .int .i64 0] 105).alloc (Obj.cells #[.string nm, .int .i64 h, .int .i64 c, .int .i64 d, .int .i64 0, .int .i64 0, .int .i64 0] 105)
    simpa using this)
  have KO : Hid (Blk W (w.heap.size + 1 + 1) [.string nm, .int .i64 h, .int .i64 c, .int .i64 d, .int .i64 0, .int .i64 0, .int .i64 0]) := hide (by
    rw [hW]
    have := Blk.new (w := ((w.alloc (Obj.cells #[.string nm, .int .i64 h, .int .i64 c, .int .i64 d, .int .i64 dh, .int .i64 dc, .int .i64 dd] 151)).alloc (Obj.cells #[.string ⟨#[]⟩, .int .i64 0, .int .i64 0, .int .i64 0, .int .i64 0, .int .i64 0, .int .i64 0] 105))) [.string nm, .int .i64 h, .int .i64 c, .int .i64 d, .int .i64 0, .int .i64 0, .int .i64 0] 105
    simpa using this)
  have HB : Hid (Below w.heap.size w W) := hide (by rw [hW]; exact bel3 _ _ _)
  have HW := hide hW
  clear hW
  go_enter Try.func113, Try.ntmps113
  go_wp2_with fail
  rw [← unhide HW]
  clear HW
  refine (toClock_any dh dc dd W).mono ?_
  rintro x v0 ⟨rfl, bw⟩
  have HB := hide ((unhide HB).trans (bw.mono (unhide HB).size))
  have KR := hide ((unhide KR).below bw)
  have KO := hide ((unhide KO).below bw)
  clear bw
  obtain ⟨U, hU⟩ : ∃ U, U = ((v0.setCell ⟨w.heap.size + 1 + 1, 4, none⟩ (.int .i64 dh)).setCell ⟨w.heap.size + 1 + 1, 5, none⟩ (.int .i64 dc)).setCell ⟨w.heap.size + 1 + 1, 6, none⟩ (.int .i64 dd) := ⟨_, rfl⟩
  have y4 : v0.cell? ⟨w.heap.size + 1 + 1, 4, none⟩ = some (.int .i64 0) := (unhide KO).c 4 (by simp)
  have y5 : v0.cell? ⟨w.heap.size + 1 + 1, 5, none⟩ = some (.int .i64 0) := (unhide KO).c 5 (by simp)
  have y6 : v0.cell? ⟨w.heap.size + 1 + 1, 6, none⟩ = some (.int .i64 0) := (unhide KO).c 6 (by simp)
  have f4 : v0.frozen? ⟨w.heap.size + 1 + 1, 4, none⟩ = false := (unhide KO).f 4 (by simp)
  have f5 : v0.frozen? ⟨w.heap.size + 1 + 1, 5, none⟩ = false := (unhide KO).f 5 (by simp)
  have f6 : v0.frozen? ⟨w.heap.size + 1 + 1, 6, none⟩ = false := (unhide KO).f 6 (by simp)
  have KU : Blk U (w.heap.size + 1 + 1) [.string nm, .int .i64 h, .int .i64 c, .int .i64 d, .int .i64 dh, .int .i64 dc, .int .i64 dd] := by
    rw [hU]
    exact (((unhide KO).set 4 (by simp) (.int .i64 dh)).set 5 (by simp) (.int .i64 dc)).set 6 (by simp) (.int .i64 dd)
  have KRU : Hid (Blk U (w.heap.size + 1) [.string ⟨#[]⟩, .int .i64 0, .int .i64 0, .int .i64 0, .int .i64 0, .int .i64 0, .int .i64 0]) := hide (by
    rw [hU]
    exact (((unhide KR).other (by simp) _).other (by simp) _).other (by simp) _)
  have HBU : Hid (Below w.heap.size w U) := hide (by
    rw [hU]
    exact (((unhide HB).setCell (by simp; omega) _).setCell (by simp; omega) _).setCell (by simp; omega) _)
  have u0 : U.cell? ⟨w.heap.size + 1 + 1, 0, none⟩ = some (.string nm) := KU.c 0 (by simp)
  have u1 : U.cell? ⟨w.heap.size + 1 + 1, 1, none⟩ = some (.int .i64 h) := KU.c 1 (by simp)
  have u2 : U.cell? ⟨w.heap.size + 1 + 1, 2, none⟩ = some (.int .i64 c) := KU.c 2 (by simp)
  have u3 : U.cell? ⟨w.heap.size + 1 + 1, 3, none⟩ = some (.int .i64 d) := KU.c 3 (by simp)
  have u4 : U.cell? ⟨w.heap.size + 1 + 1, 4, none⟩ = some (.int .i64 dh) := KU.c 4 (by simp)
  have u5 : U.cell? ⟨w.heap.size + 1 + 1, 5, none⟩ = some (.int .i64 dc) := KU.c 5 (by simp)
  have u6 : U.cell? ⟨w.heap.size + 1 + 1, 6, none⟩ = some (.int .i64 dd) := KU.c 6 (by simp)
  rw [hU] at u0 u1 u2 u3 u4 u5 u6 KRU HBU
  clear KU hU KO KR HB U
  go_wp2_with ((with_reducible show wpList _ _ _ (⟨none, .store 105 _ _, _, _, _, none⟩ :: _) _ _); refine at_storeAgg (us := [.string ⟨#[]⟩, .int .i64 0, .int .i64 0, .int .i64 0, .int .i64 0, .int .i64 0, .int .i64 0]) (vs := [.string nm, .int .i64 h, .int .i64 c, .int .i64 d, .int .i64 dh, .int .i64 dc, .int .i64 dd]) Try.sizeOf105 rfl rfl (unhide KRU) rfl (by intro v hv; simp at hv; rcases hv with rfl | rfl | rfl | rfl | rfl | rfl | rfl <;> rfl) ?_; intro w5 kk gg)
  have BE : Below w.heap.size w w5 := (unhide HBU).grown gg (unhide HBU).size (fun q hq => by cases hq; omega)
  exact bodyPost_ret (results_cell (vs := [.string nm, .int .i64 h, .int .i64 c, .int .i64 d, .int .i64 dh, .int .i64 dc, .int .i64 dd]) rfl Try.isAgg105 Try.sizeOf105 rfl kk) rfl ⟨rfl, BE⟩

end Go.Proofs.Ytglefolkecimabd

/-
  The law's size, copy and comparison of a Desk. The copy at lists of at most 1048576; nothing that was there is written.
-/
import Derived.Test.YtglefolkecimabdDkIn
import Derived.Test.YtglefolkecimabdFlTo
import Derived.Test.YtglefolkecimabdRowLg
import Derived.Test.YtglefolkecimabdSub
import Derived.Test.YtglefolkecimabdApFar
namespace Go.Proofs.Ytglefolkecimabd
open Go.RowKit

set_option maxRecDepth 20000 in
set_option maxHeartbeats 2000000 in
theorem szDesk_any (C : Cf) (P : Pl) (g : Option Addr) (n c0 : Nat) (nh nc nd : Int) (a1 a2 a3 : Option Addr) (l1 c1 l2 c2 l3 c3 : Nat) (ls : List Lg) (z1 : List Ts) (z2 : List Cr) (z3 : List Df) (left : Int) (w : World) (hr : DkIn w g a1 a2 a3 n l1 l2 l3 ls z1 z2 z3) (f1 : ∀ i, fitT (elAt z1 i).nm) (f2 : ∀ i, fitT (elAt z2 i).n) (f3 : ∀ i, fitT (elAt z3 i).n) (hl0 : 0 ≤ left) (hl1 : left ≤ 1048576) :
    Calls Try.prog 28 #[.agg #[.int .i64 C.a0, .int .i64 C.a1, .int .i64 C.a2, .int .i64 C.a3, .int .i64 C.a4, .slice g n c0, .int .i64 P.a0, .int .i64 P.a1, .int .i64 P.a2, .int .i64 P.a3, .int .i64 P.a4, .int .i64 P.a5, .int .i64 P.a6, .int .i64 P.a7, .bool P.a8, .slice a1 l1 c1, .slice a2 l2 c2, .slice a3 l3 c3, .int .i64 nh, .int .i64 nc, .int .i64 nd], .int .i64 left] w fun x w' => (∃ r : Int, x = .returned (.int .i64 r) ∧ (r < 0 ∨ (0 ≤ r ∧ r ≤ left ∧ n ≤ 1048576 ∧ l1 ≤ 1048576 ∧ l2 ≤ 1048576 ∧ l3 ≤ 1048576))) ∧ Below w.heap.size w w' := by
  obtain ⟨W, hW⟩ : ∃ W, W = w.alloc (Obj.cells #[.int .i64 C.a0, .int .i64 C.a1, .int .i64 C.a2, .int .i64 C.a3, .int .i64 C.a4, .slice g n c0, .int .i64 P.a0, .int .i64 P.a1, .int .i64 P.a2, .int .i64 P.a3, .int .i64 P.a4, .int .i64 P.a5, .int .i64 P.a6, .int .i64 P.a7, .bool P.a8, .slice a1 l1 c1, .slice a2 l2 c2, .slice a3 l3 c3, .int .i64 nh, .int .i64 nc, .int .i64 nd] 56) := ⟨_, rfl⟩
  have KP : Hid (Blk W w.heap.size [.int .i64 C.a0, .int .i64 C.a1, .int .i64 C.a2, .int .i64 C.a3, .int .i64 C.a4, .slice g n c0, .int .i64 P.a0, .int .i64 P.a1, .int .i64 P.a2, .int .i64 P.a3, .int .i64 P.a4, .int .i64 P.a5, .int .i64 P.a6, .int .i64 P.a7, .bool P.a8, .slice a1 l1 c1, .slice a2 l2 c2, .slice a3 l3 c3, .int .i64 nh, .int .i64 nc, .int .i64 nd]) := hide (by rw [hW]; exact Blk.new _ _)
  have HB : Hid (Below w.heap.size w W) := hide (by rw [hW]; exact bel1 _)
  have hsn := hr.lg.small
  have HR := hide hr
  have HW := hide hW
  have F1 := hide f1
  have F2 := hide f2
  have F3 := hide f3
  clear hr hW f1 f2 f3
  go_enter Try.func28, Try.ntmps28
  go_wp2_with fail
  rw [← unhide HW]
  clear HW
  by_cases hn : left < n
  · refine (szLegS_no _ _ _ left _ (by omega) (by omega) (by omega) hn).mono ?_
    rintro x x1 ⟨rfl, rfl⟩
    go_wp2_with fail
    go_ret
    exact ⟨⟨-1, rfl, .inl (by omega)⟩, unhide HB⟩
  refine (szLegS_yes _ _ _ left _ (by omega) (by omega)).mono ?_
  rintro x x1 ⟨rfl, rfl⟩
  obtain ⟨r1, hr1⟩ : ∃ r1, left - (n : Int) = r1 := ⟨_, rfl⟩
  have hr1a : 0 ≤ r1 ∧ r1 ≤ left := by omega
  have HN := hide hn
  rw [hr1]
  have HR1 := hide hr1
  clear hr1 hn
  have nr1 : ¬ r1 < 0 := by omega
  go_wp2_with ((with_reducible show wpList _ _ _ (⟨_, .load 54 _, _, _, _, none⟩ :: _) _ _); refine at_loadPart (us := [.int .i64 C.a0, .int .i64 C.a1, .int .i64 C.a2, .int .i64 C.a3, .int .i64 C.a4, .slice g n c0, .int .i64 P.a0, .int .i64 P.a1, .int .i64 P.a2, .int .i64 P.a3, .int .i64 P.a4, .int .i64 P.a5, .int .i64 P.a6, .int .i64 P.a7, .bool P.a8, .slice a1 l1 c1, .slice a2 l2 c2, .slice a3 l3 c3, .int .i64 nh, .int .i64 nc, .int .i64 nd]) (vs := [.slice a1 l1 c1, .slice a2 l2 c2, .slice a3 l3 c3, .int .i64 nh, .int .i64 nc, .int .i64 nd]) Try.isAgg54 Try.sizeOf54 rfl (unhide KP) rfl ?_)
  refine (szFleet_any _ _ _ _ _ _ _ _ _ _ _ _ z1 z2 z3 r1 _ ((unhide HR).fl.below (unhide HB)) (unhide F1) (unhide F2) (unhide F3) (by omega) (by omega)).mono ?_
  rintro x x2 ⟨⟨r2, rfl, hl⟩, b⟩
  have HB := hide ((unhide HB).trans (b.mono (unhide HB).size))
  clear b
  rcases hl with hl | ⟨hl, hle, h1, h2, h3⟩
  · go_wp2_with fail
    go_ret
    exact ⟨⟨-1, rfl, .inl (by omega)⟩, unhide HB⟩
  have nr2 : ¬ r2 < 0 := by omega
  go_wp2_with fail
  go_ret
  have hn := unhide HN
  exact ⟨⟨_, rfl, .inr ⟨by omega, by omega, by omega, by omega, by omega, by omega⟩⟩, unhide HB⟩
set_option maxRecDepth 20000 in
set_option maxHeartbeats 4000000 in
theorem toDesk_own (C : Cf) (P : Pl) (g : Option Addr) (n c0 : Nat) (nh nc nd : Int) (a1 a2 a3 : Option Addr) (l1 c1 l2 c2 l3 c3 : Nat) (ls : List Lg) (z1 : List Ts) (z2 : List Cr) (z3 : List Df) (w : World) (hr : DkIn w g a1 a2 a3 n l1 l2 l3 ls z1 z2 z3) (h0 : n ≤ 1048576) (h1 : l1 ≤ 1048576) (h2 : l2 ≤ 1048576) (h3 : l3 ≤ 1048576) :
    Calls Try.prog 30 #[.agg #[.int .i64 C.a0, .int .i64 C.a1, .int .i64 C.a2, .int .i64 C.a3, .int .i64 C.a4, .slice g n c0, .int .i64 P.a0, .int .i64 P.a1, .int .i64 P.a2, .int .i64 P.a3, .int .i64 P.a4, .int .i64 P.a5, .int .i64 P.a6, .int .i64 P.a7, .bool P.a8, .slice a1 l1 c1, .slice a2 l2 c2, .slice a3 l3 c3, .int .i64 nh, .int .i64 nc, .int .i64 nd]] w fun x w' => (∃ g0 g1 g2 g3, x = .returned (.agg #[.int .i64 C.a0, .int .i64 C.a1, .int .i64 C.a2, .int .i64 C.a3, .int .i64 C.a4, .slice (some ⟨g0, 0, none⟩) n n, .int .i64 P.a0, .int .i64 P.a1, .int .i64 P.a2, .int .i64 P.a3, .int .i64 P.a4, .int .i64 P.a5, .int .i64 P.a6, .int .i64 P.a7, .bool P.a8, .slice (some ⟨g1, 0, none⟩) l1 l1, .slice (some ⟨g2, 0, none⟩) l2 l2, .slice (some ⟨g3, 0, none⟩) l3 l3, .int .i64 nh, .int .i64 nc, .int .i64 nd]) ∧ DkOwn w' w.heap.size (some ⟨g0, 0, none⟩) (some ⟨g1, 0, none⟩) (some ⟨g2, 0, none⟩) (some ⟨g3, 0, none⟩) n n l1 l1 l2 l2 l3 l3 ls z1 z2 z3 ∧ g0 < g1 ∧ g0 < g2 ∧ g0 < g3) ∧ Below w.heap.size w w' := by
  obtain ⟨W, hW⟩ : ∃ W, W = ((w.alloc (Obj.cells #[.int .i64 C.a0, .int .i64 C.a1, .int .i64 C.a2, .int .i64 C.a3, .int .i64 C.a4, .slice g n c0, .int .i64 P.a0, .int .i64 P.a1, .int .i64 P.a2, .int .i64 P.a3, .int .i64 P.a4, .int .i64 P.a5, .int .i64 P.a6, .int .i64 P.a7, .bool P.a8, .slice a1 l1 c1, .slice a2 l2 c2, .slice a3 l3 c3, .int .i64 nh, .int .i64 nc, .int .i64 nd] 56)).alloc (Obj.cells #[.int .i64 0, .int .i64 0, .int .i64 0, .int .i64 0, .int .i64 0, .slice none 0 0, .int .i64 0, .int .i64 0, .int .i64 0, .int .i64 0, .int .i64 0, .int .i64 0, .int .i64 0, .int .i64 0, .bool false, .slice none 0 0, .slice none 0 0, .slice none 0 0, .int .i64 0, .int .i64 0, .int .i64 0] 69)).alloc (Obj.cells #[.int .i64 0, .int .i64 0, .int .i64 0, .int .i64 0, .int .i64 0, .slice none 0 0, .int .i64 0, .int .i64 0, .int .i64 0, .int .i64 0, .int .i64 0, .int .i64 0, .int .i64 0, .int .i64 0, .bool false, .slice none 0 0, .slice none 0 0, .slice none 0 0, .int .i64 0, .int .i64 0, .int .i64 0] 69) := ⟨_, rfl⟩
  have KP : Hid (Blk W w.heap.size [.int .i64 C.a0, .int .i64 C.a1, .int .i64 C.a2, .int .i64 C.a3, .int .i64 C.a4, .slice g n c0, .int .i64 P.a0, .int .i64 P.a1, .int .i64 P.a2, .int .i64 P.a3, .int .i64 P.a4, .int .i64 P.a5, .int .i64 P.a6, .int .i64 P.a7, .bool P.a8, .slice a1 l1 c1, .slice a2 l2 c2, .slice a3 l3 c3, .int .i64 nh, .int .i64 nc, .int .i64 nd]) := hide (by
    rw [hW]; exact ((Blk.new (w := w) [.int .i64 C.a0, .int .i64 C.a1, .int .i64 C.a2, .int .i64 C.a3, .int .i64 C.a4, .slice g n c0, .int .i64 P.a0, .int .i64 P.a1, .int .i64 P.a2, .int .i64 P.a3, .int .i64 P.a4, .int .i64 P.a5, .int .i64 P.a6, .int .i64 P.a7, .bool P.a8, .slice a1 l1 c1, .slice a2 l2 c2, .slice a3 l3 c3, .int .i64 nh, .int .i64 nc, .int .i64 nd] 56).alloc _).alloc _)
  have KR : Hid (Blk W (w.heap.size + 1) [.int .i64 0, .int .i64 0, .int .i64 0, .int .i64 0, .int .i64 0, .slice none 0 0, .int .i64 0, .int .i64 0, .int .i64 0, .int .i64 0, .int .i64 0, .int .i64 0, .int .i64 0, .int .i64 0, .bool false, .slice none 0 0, .slice none 0 0, .slice none 0 0, .int .i64 0, .int .i64 0, .int .i64 0]) := hide (by
    rw [hW]
    have := (Blk.new (w := w.alloc (Obj.cells #[.int .i64 C.a0, .int .i64 C.a1, .int .i64 C.a2, .int .i64 C.a3, .int .i64 C.a4, .slice g n c0, .int .i64 P.a0, .int .i64 P.a1, .int .i64 P.a2, .int .i64 P.a3, .int .i64 P.a4, .int .i64 P.a5, .int .i64 P.a6, .int .i64 P.a7, .bool P.a8, .slice a1 l1 c1, .slice a2 l2 c2, .slice a3 l3 c3, .int .i64 nh, .int .i64 nc, .int .i64 nd] 56)) [.int .i64 0, .int .i64 0, .int .i64 0, .int .i64 0, .int .i64 0, .slice none 0 0, .int .i64 0, .int .i64 0, .int .i64 0, .int .i64 0, .int .i64 0, .int .i64 0, .int .i64 0, .int .i64 0, .bool false, .slice none 0 0, .slice none 0 0, .slice none 0 0, .int .i64 0, .int .i64 0, .int .i64 0] 69).alloc (Obj.cells #[.int .i64 0, .int .i64 0, .int .i64 0, .int .i64 0, .int .i64 0, .slice none 0 0, .int .i64 0, .int .i64 0, .int .i64 0, .int .i64 0, .int .i64 0, .int .i64 0, .int .i64 0, .int .i64 0, .bool false, .slice none 0 0, .slice none 0 0, .slice none 0 0, .int .i64 0, .int .i64 0, .int .i64 0] 69)
    simpa using this)
  have KO : Hid (Blk W (w.heap.size + 1 + 1) [.int .i64 0, .int .i64 0, .int .i64 0, .int .i64 0, .int .i64 0, .slice none 0 0, .int .i64 0, .int .i64 0, .int .i64 0, .int .i64 0, .int .i64 0, .int .i64 0, .int .i64 0, .int .i64 0, .bool false, .slice none 0 0, .slice none 0 0, .slice none 0 0, .int .i64 0, .int .i64 0, .int .i64 0]) := hide (by
    rw [hW]
    have := Blk.new (w := (w.alloc (Obj.cells #[.int .i64 C.a0, .int .i64 C.a1, .int .i64 C.a2, .int .i64 C.a3, .int .i64 C.a4, .slice g n c0, .int .i64 P.a0, .int .i64 P.a1, .int .i64 P.a2, .int .i64 P.a3, .int .i64 P.a4, .int .i64 P.a5, .int .i64 P.a6, .int .i64 P.a7, .bool P.a8, .slice a1 l1 c1, .slice a2 l2 c2, .slice a3 l3 c3, .int .i64 nh, .int .i64 nc, .int .i64 nd] 56)).alloc (Obj.cells #[.int .i64 0, .int .i64 0, .int .i64 0, .int .i64 0, .int .i64 0, .slice none 0 0, .int .i64 0, .int .i64 0, .int .i64 0, .int .i64 0, .int .i64 0, .int .i64 0, .int .i64 0, .int .i64 0, .bool false, .slice none 0 0, .slice none 0 0, .slice none 0 0, .int .i64 0, .int .i64 0, .int .i64 0] 69)) [.int .i64 0, .int .i64 0, .int .i64 0, .int .i64 0, .int .i64 0, .slice none 0 0, .int .i64 0, .int .i64 0, .int .i64 0, .int .i64 0, .int .i64 0, .int .i64 0, .int .i64 0, .int .i64 0, .bool false, .slice none 0 0, .slice none 0 0, .slice none 0 0, .int .i64 0, .int .i64 0, .int .i64 0] 69
    simpa using this)
  have HB : Hid (Below w.heap.size w W) := hide (by rw [hW]; exact bel3 _ _ _)
  have hsz : w.heap.size + 1 + 1 + 1 ≤ W.heap.size := by rw [hW]; simp
  have HR0 := hide hr
  have HW := hide hW
  clear hr hW
  go_enter Try.func30, Try.ntmps30
  go_wp2_with ((with_reducible show wpList _ _ _ (⟨_, .load 44 _, _, _, _, none⟩ :: _) _ _); rw [← unhide HW]; refine at_loadPart (us := [.int .i64 C.a0, .int .i64 C.a1, .int .i64 C.a2, .int .i64 C.a3, .int .i64 C.a4, .slice g n c0, .int .i64 P.a0, .int .i64 P.a1, .int .i64 P.a2, .int .i64 P.a3, .int .i64 P.a4, .int .i64 P.a5, .int .i64 P.a6, .int .i64 P.a7, .bool P.a8, .slice a1 l1 c1, .slice a2 l2 c2, .slice a3 l3 c3, .int .i64 nh, .int .i64 nc, .int .i64 nd]) (vs := [.int .i64 C.a0, .int .i64 C.a1, .int .i64 C.a2, .int .i64 C.a3, .int .i64 C.a4]) Try.isAgg44 Try.sizeOf44 rfl (unhide KP) rfl ?_)
  clear HW
  refine (toCraft_any _ _ _ _ _ _).mono ?_
  rintro x v0 ⟨rfl, bw⟩
  have hsz := Nat.le_trans hsz bw.size
  have HB := hide ((unhide HB).trans (bw.mono (unhide HB).size))
  have KP := hide ((unhide KP).below bw)
  have KR := hide ((unhide KR).below bw)
  have KO := hide ((unhide KO).below bw)
  clear bw
  go_wp2_with ((with_reducible show wpList _ _ _ (⟨none, .store 59 _ _, _, _, _, none⟩ :: _) _ _); refine at_storeMid [] [.int .i64 0, .int .i64 0, .int .i64 0, .int .i64 0, .int .i64 0] [.slice none 0 0, .int .i64 0, .int .i64 0, .int .i64 0, .int .i64 0, .int .i64 0, .int .i64 0, .int .i64 0, .int .i64 0, .bool false, .slice none 0 0, .slice none 0 0, .slice none 0 0, .int .i64 0, .int .i64 0, .int .i64 0] [.int .i64 C.a0, .int .i64 C.a1, .int .i64 C.a2, .int .i64 C.a3, .int .i64 C.a4] Try.sizeOf59 rfl rfl (unhide KO) rfl (by intro v hv; simp only [List.mem_cons, List.not_mem_nil, or_false] at hv; rcases hv with rfl | rfl | rfl | rfl | rfl <;> rfl) ?_; intro w10 kb gr; have kb : Blk w10 (w.heap.size + 1 + 1) [.int .i64 C.a0, .int .i64 C.a1, .int .i64 C.a2, .int .i64 C.a3, .int .i64 C.a4, .slice none 0 0, .int .i64 0, .int .i64 0, .int .i64 0, .int .i64 0, .int .i64 0, .int .i64 0, .int .i64 0, .int .i64 0, .bool false, .slice none 0 0, .slice none 0 0, .slice none 0 0, .int .i64 0, .int .i64 0, .int .i64 0] := kb; have hsz := Nat.le_trans hsz gr.size; have HB := hide ((unhide HB).grown gr (unhide HB).size (fun k hk => by cases hk; omega)); have KP := hide ((unhide KP).apart gr (by intro e; simp only [Option.some.injEq] at e; omega)); have KR := hide ((unhide KR).apart gr (by intro e; simp only [Option.some.injEq] at e; omega)); have KO := hide kb; have m5 : w10.cell? ⟨w.heap.size, 5, none⟩ = some (.slice g n c0) := (unhide KP).c 5 (by simp); clear kb gr)
  clear m5
  obtain ⟨g0, hg0⟩ : ∃ G, w10.heap.size = G := ⟨_, rfl⟩
  refine (toLegS_own g n c0 ls w10 ((unhide HR0).lg.below (unhide HB)) h0).mono ?_
  rintro x v1 ⟨rfl, ow, bw⟩
  rw [hg0] at ow ⊢
  have hg0' : w.heap.size + 1 + 1 + 1 ≤ g0 := by omega
  have HG0 := hide hg0
  clear hg0
  have hsz := Nat.le_trans hsz bw.size
  have HB := hide ((unhide HB).trans (bw.mono (unhide HB).size))
  have KP := hide ((unhide KP).below bw)
  have KR := hide ((unhide KR).below bw)
  have KO := hide ((unhide KO).below bw)
  have lg0 : g0 < v1.heap.size := (ow.lies g0 rfl).2
  have O0 := hide ow
  clear ow bw
  have y1 : v1.cell? ⟨w.heap.size + 1 + 1, 5, none⟩ = some (.slice none 0 0) := (unhide KO).c 5 (by simp)
  have f1 : v1.frozen? ⟨w.heap.size + 1 + 1, 5, none⟩ = false := (unhide KO).f 5 (by simp)
  obtain ⟨w11, hw11⟩ : ∃ V, V = v1.setCell ⟨w.heap.size + 1 + 1, 5, none⟩ (.slice (some ⟨g0, 0, none⟩) n n) := ⟨_, rfl⟩
  have KO : Hid (Blk w11 (w.heap.size + 1 + 1) [.int .i64 C.a0, .int .i64 C.a1, .int .i64 C.a2, .int .i64 C.a3, .int .i64 C.a4, .slice (some ⟨g0, 0, none⟩) n n, .int .i64 0, .int .i64 0, .int .i64 0, .int .i64 0, .int .i64 0, .int .i64 0, .int .i64 0, .int .i64 0, .bool false, .slice none 0 0, .slice none 0 0, .slice none 0 0, .int .i64 0, .int .i64 0, .int .i64 0]) := hide (by rw [hw11]; exact (unhide KO).set 5 (by simp) (.slice (some ⟨g0, 0, none⟩) n n))
  have KP := hide ((unhide KP).other (p := ⟨w.heap.size + 1 + 1, 5, none⟩) (by simp; omega) (.slice (some ⟨g0, 0, none⟩) n n))
  have KR := hide ((unhide KR).other (p := ⟨w.heap.size + 1 + 1, 5, none⟩) (by simp) (.slice (some ⟨g0, 0, none⟩) n n))
  have O0 := hide ((unhide O0).set_other (S := w.heap.size + 1 + 1) (o := 5) (.slice (some ⟨g0, 0, none⟩) n n) (by simp only [Value.ownBlock, ne_eq, Option.some.injEq]; omega))
  have HB := hide ((unhide HB).setCell (p := ⟨w.heap.size + 1 + 1, 5, none⟩) (by simp; omega) (.slice (some ⟨g0, 0, none⟩) n n))
  have lg0 : g0 < w11.heap.size := by rw [hw11]; simpa [World.setCell] using lg0
  have hsz : w.heap.size + 1 + 1 + 1 ≤ w11.heap.size := by rw [hw11]; simpa [World.setCell] using hsz
  rw [← hw11] at KP KR HB O0
  have HW := hide hw11
  clear hw11
  go_wp2_with ((with_reducible show wpList _ _ _ (⟨_, .load 47 _, _, _, _, none⟩ :: _) _ _); rw [← unhide HW]; refine at_loadPart (us := [.int .i64 C.a0, .int .i64 C.a1, .int .i64 C.a2, .int .i64 C.a3, .int .i64 C.a4, .slice g n c0, .int .i64 P.a0, .int .i64 P.a1, .int .i64 P.a2, .int .i64 P.a3, .int .i64 P.a4, .int .i64 P.a5, .int .i64 P.a6, .int .i64 P.a7, .bool P.a8, .slice a1 l1 c1, .slice a2 l2 c2, .slice a3 l3 c3, .int .i64 nh, .int .i64 nc, .int .i64 nd]) (vs := [.int .i64 P.a0, .int .i64 P.a1, .int .i64 P.a2, .int .i64 P.a3, .int .i64 P.a4, .int .i64 P.a5, .int .i64 P.a6, .int .i64 P.a7, .bool P.a8]) Try.isAgg47 Try.sizeOf47 rfl (unhide KP) rfl ?_)
  clear HW y1 f1
  refine (toPilot_any _ _ _ _ _ _ _ _ _ _).mono ?_
  rintro x v2 ⟨rfl, bw⟩
  have lg0 := Nat.lt_of_lt_of_le lg0 bw.size
  have hsz := Nat.le_trans hsz bw.size
  have HB := hide ((unhide HB).trans (bw.mono (unhide HB).size))
  have KP := hide ((unhide KP).below bw)
  have KR := hide ((unhide KR).below bw)
  have KO := hide ((unhide KO).below bw)
  have O0 := hide ((unhide O0).below bw)
  clear bw
  go_wp2_with (first
    | ((with_reducible show wpList _ _ _ (⟨none, .store 61 _ _, _, _, _, none⟩ :: _) _ _); refine at_storeMid [.int .i64 C.a0, .int .i64 C.a1, .int .i64 C.a2, .int .i64 C.a3, .int .i64 C.a4, .slice (some ⟨g0, 0, none⟩) n n] [.int .i64 0, .int .i64 0, .int .i64 0, .int .i64 0, .int .i64 0, .int .i64 0, .int .i64 0, .int .i64 0, .bool false] [.slice none 0 0, .slice none 0 0, .slice none 0 0, .int .i64 0, .int .i64 0, .int .i64 0] [.int .i64 P.a0, .int .i64 P.a1, .int .i64 P.a2, .int .i64 P.a3, .int .i64 P.a4, .int .i64 P.a5, .int .i64 P.a6, .int .i64 P.a7, .bool P.a8] Try.sizeOf61 rfl rfl (unhide KO) rfl (by intro v hv; simp only [List.mem_cons, List.not_mem_nil, or_false] at hv; rcases hv with rfl | rfl | rfl | rfl | rfl | rfl | rfl | rfl | rfl <;> rfl) ?_; intro w12 kb gr; have kb : Blk w12 (w.heap.size + 1 + 1) [.int .i64 C.a0, .int .i64 C.a1, .int .i64 C.a2, .int .i64 C.a3, .int .i64 C.a4, .slice (some ⟨g0, 0, none⟩) n n, .int .i64 P.a0, .int .i64 P.a1, .int .i64 P.a2, .int .i64 P.a3, .int .i64 P.a4, .int .i64 P.a5, .int .i64 P.a6, .int .i64 P.a7, .bool P.a8, .slice none 0 0, .slice none 0 0, .slice none 0 0, .int .i64 0, .int .i64 0, .int .i64 0] := kb; have hsz := Nat.le_trans hsz gr.size; have HB := hide ((unhide HB).grown gr (unhide HB).size (fun k hk => by cases hk; omega)); have KP := hide ((unhide KP).apart gr (by intro e; simp only [Option.some.injEq] at e; omega)); have KR := hide ((unhide KR).apart gr (by intro e; simp only [Option.some.injEq] at e; omega)); have KO := hide kb; have O0 := hide ((unhide O0).far gr (fun i hi e => by have e1 := fresh_own hi; simp only [Option.some.injEq] at e; omega)); have lg0 := Nat.lt_of_lt_of_le lg0 gr.size; clear kb gr)
    | ((with_reducible show wpList _ _ _ (⟨_, .load 54 _, _, _, _, none⟩ :: _) _ _); refine at_loadPart (us := [.int .i64 C.a0, .int .i64 C.a1, .int .i64 C.a2, .int .i64 C.a3, .int .i64 C.a4, .slice g n c0, .int .i64 P.a0, .int .i64 P.a1, .int .i64 P.a2, .int .i64 P.a3, .int .i64 P.a4, .int .i64 P.a5, .int .i64 P.a6, .int .i64 P.a7, .bool P.a8, .slice a1 l1 c1, .slice a2 l2 c2, .slice a3 l3 c3, .int .i64 nh, .int .i64 nc, .int .i64 nd]) (vs := [.slice a1 l1 c1, .slice a2 l2 c2, .slice a3 l3 c3, .int .i64 nh, .int .i64 nc, .int .i64 nd]) Try.isAgg54 Try.sizeOf54 rfl (unhide KP) rfl ?_))
  refine (toFleet_own _ _ _ _ _ _ _ _ _ _ _ _ z1 z2 z3 w12 ((unhide HR0).fl.below (unhide HB)) h1 h2 h3).mono ?_
  rintro x v3 ⟨⟨g1, g2, g3, rfl, ow⟩, bw⟩
  have i1 := (ow.o1.lies g1 rfl).1
  have i2 := (ow.o2.lies g2 rfl).1
  have i3 := (ow.o3.lies g3 rfl).1
  have OF := hide (ow.mono (base' := w.heap.size + 1 + 1 + 1) (by omega))
  have hsz := Nat.le_trans hsz bw.size
  have HB := hide ((unhide HB).trans (bw.mono (unhide HB).size))
  have KP := hide ((unhide KP).below bw)
  have KR := hide ((unhide KR).below bw)
  have KO := hide ((unhide KO).below bw)
  have O0 := hide ((unhide O0).below bw)
  clear ow bw
  go_wp2_with (first
    | ((with_reducible show wpList _ _ _ (⟨none, .store 67 _ _, _, _, _, none⟩ :: _) _ _); refine at_storeMid [.int .i64 C.a0, .int .i64 C.a1, .int .i64 C.a2, .int .i64 C.a3, .int .i64 C.a4, .slice (some ⟨g0, 0, none⟩) n n, .int .i64 P.a0, .int .i64 P.a1, .int .i64 P.a2, .int .i64 P.a3, .int .i64 P.a4, .int .i64 P.a5, .int .i64 P.a6, .int .i64 P.a7, .bool P.a8] [.slice none 0 0, .slice none 0 0, .slice none 0 0, .int .i64 0, .int .i64 0, .int .i64 0] [] [.slice (some ⟨g1, 0, none⟩) l1 l1, .slice (some ⟨g2, 0, none⟩) l2 l2, .slice (some ⟨g3, 0, none⟩) l3 l3, .int .i64 nh, .int .i64 nc, .int .i64 nd] Try.sizeOf67 rfl rfl (unhide KO) rfl (by intro v hv; simp only [List.mem_cons, List.not_mem_nil, or_false] at hv; rcases hv with rfl | rfl | rfl | rfl | rfl | rfl <;> rfl) ?_; intro w13 kb gr; have kb : Blk w13 (w.heap.size + 1 + 1) [.int .i64 C.a0, .int .i64 C.a1, .int .i64 C.a2, .int .i64 C.a3, .int .i64 C.a4, .slice (some ⟨g0, 0, none⟩) n n, .int .i64 P.a0, .int .i64 P.a1, .int .i64 P.a2, .int .i64 P.a3, .int .i64 P.a4, .int .i64 P.a5, .int .i64 P.a6, .int .i64 P.a7, .bool P.a8, .slice (some ⟨g1, 0, none⟩) l1 l1, .slice (some ⟨g2, 0, none⟩) l2 l2, .slice (some ⟨g3, 0, none⟩) l3 l3, .int .i64 nh, .int .i64 nc, .int .i64 nd] := kb; have hsz := Nat.le_trans hsz gr.size; have HB := hide ((unhide HB).grown gr (unhide HB).size (fun k hk => by cases hk; omega)); have KP := hide ((unhide KP).apart gr (by intro e; simp only [Option.some.injEq] at e; omega)); have KR := hide ((unhide KR).apart gr (by intro e; simp only [Option.some.injEq] at e; omega)); have KO := hide kb; have O0 := hide ((unhide O0).far gr (fun i hi e => by have e1 := fresh_own hi; simp only [Option.some.injEq] at e; omega)); have OF := hide ((unhide OF).far gr (fun i hi e => by simp only [Option.some.injEq] at e; omega)); clear kb gr)
    | ((with_reducible show wpList _ _ _ (⟨_, .load 69 _, _, _, _, none⟩ :: _) _ _); refine at_loadAgg (vs := [.int .i64 C.a0, .int .i64 C.a1, .int .i64 C.a2, .int .i64 C.a3, .int .i64 C.a4, .slice (some ⟨g0, 0, none⟩) n n, .int .i64 P.a0, .int .i64 P.a1, .int .i64 P.a2, .int .i64 P.a3, .int .i64 P.a4, .int .i64 P.a5, .int .i64 P.a6, .int .i64 P.a7, .bool P.a8, .slice (some ⟨g1, 0, none⟩) l1 l1, .slice (some ⟨g2, 0, none⟩) l2 l2, .slice (some ⟨g3, 0, none⟩) l3 l3, .int .i64 nh, .int .i64 nc, .int .i64 nd]) Try.isAgg69 Try.sizeOf69 rfl (unhide KO) ?_)
    | ((with_reducible show wpList _ _ _ (⟨none, .store 69 _ _, _, _, _, none⟩ :: _) _ _); refine at_storeAgg (us := [.int .i64 0, .int .i64 0, .int .i64 0, .int .i64 0, .int .i64 0, .slice none 0 0, .int .i64 0, .int .i64 0, .int .i64 0, .int .i64 0, .int .i64 0, .int .i64 0, .int .i64 0, .int .i64 0, .bool false, .slice none 0 0, .slice none 0 0, .slice none 0 0, .int .i64 0, .int .i64 0, .int .i64 0]) (vs := [.int .i64 C.a0, .int .i64 C.a1, .int .i64 C.a2, .int .i64 C.a3, .int .i64 C.a4, .slice (some ⟨g0, 0, none⟩) n n, .int .i64 P.a0, .int .i64 P.a1, .int .i64 P.a2, .int .i64 P.a3, .int .i64 P.a4, .int .i64 P.a5, .int .i64 P.a6, .int .i64 P.a7, .bool P.a8, .slice (some ⟨g1, 0, none⟩) l1 l1, .slice (some ⟨g2, 0, none⟩) l2 l2, .slice (some ⟨g3, 0, none⟩) l3 l3, .int .i64 nh, .int .i64 nc, .int .i64 nd]) Try.sizeOf69 rfl rfl (unhide KR) rfl (by intro v hv; simp only [List.mem_cons, List.not_mem_nil, or_false] at hv; rcases hv with rfl | rfl | rfl | rfl | rfl | rfl | rfl | rfl | rfl | rfl | rfl | rfl | rfl | rfl | rfl | rfl | rfl | rfl | rfl | rfl | rfl <;> rfl) ?_; intro w20 kb gr))
  have HB := hide ((unhide HB).grown gr (unhide HB).size (fun k hk => by cases hk; omega))
  have O0 := hide ((unhide O0).far gr (fun i hi e => by have e1 := fresh_own hi; simp only [Option.some.injEq] at e; omega))
  have OF := hide ((unhide OF).far gr (fun i hi e => by simp only [Option.some.injEq] at e; omega))
  have HN := hide (DkOwn.mk ((unhide O0).mono (base' := w.heap.size) (by omega)) ((unhide OF).mono (base' := w.heap.size) (by omega)) (fun g h1 h2 => by have e1 := fresh_own h1; have e2 := fresh_own h2; omega) (fun g h1 h2 => by have e1 := fresh_own h1; have e2 := fresh_own h2; omega) (fun g h1 h2 => by have e1 := fresh_own h1; have e2 := fresh_own h2; omega))
  exact bodyPost_ret (results_cell (vs := [.int .i64 C.a0, .int .i64 C.a1, .int .i64 C.a2, .int .i64 C.a3, .int .i64 C.a4, .slice (some ⟨g0, 0, none⟩) n n, .int .i64 P.a0, .int .i64 P.a1, .int .i64 P.a2, .int .i64 P.a3, .int .i64 P.a4, .int .i64 P.a5, .int .i64 P.a6, .int .i64 P.a7, .bool P.a8, .slice (some ⟨g1, 0, none⟩) l1 l1, .slice (some ⟨g2, 0, none⟩) l2 l2, .slice (some ⟨g3, 0, none⟩) l3 l3, .int .i64 nh, .int .i64 nc, .int .i64 nd]) rfl Try.isAgg69 Try.sizeOf69 rfl kb) rfl ⟨⟨g0, g1, g2, g3, rfl, unhide HN, by omega, by omega, by omega⟩, unhide HB⟩
set_option maxRecDepth 20000 in
set_option maxHeartbeats 2000000 in
theorem eqDesk_same (C : Cf) (P : Pl) (g : Option Addr) (n c0 : Nat) (nh nc nd : Int) (a1 a2 a3 : Option Addr) (l1 c1 l2 c2 l3 c3 : Nat) (h b1 b2 b3 : Option Addr) (d0 d1 d2 d3 : Nat) (ls : List Lg) (z1 : List Ts) (z2 : List Cr) (z3 : List Df) (w : World) (hr : DkIn w g a1 a2 a3 n l1 l2 l3 ls z1 z2 z3) (hq : DkIn w h b1 b2 b3 n l1 l2 l3 ls z1 z2 z3) :
    Calls Try.prog 32 #[.agg #[.int .i64 C.a0, .int .i64 C.a1, .int .i64 C.a2, .int .i64 C.a3, .int .i64 C.a4, .slice g n c0, .int .i64 P.a0, .int .i64 P.a1, .int .i64 P.a2, .int .i64 P.a3, .int .i64 P.a4, .int .i64 P.a5, .int .i64 P.a6, .int .i64 P.a7, .bool P.a8, .slice a1 l1 c1, .slice a2 l2 c2, .slice a3 l3 c3, .int .i64 nh, .int .i64 nc, .int .i64 nd], .agg #[.int .i64 C.a0, .int .i64 C.a1, .int .i64 C.a2, .int .i64 C.a3, .int .i64 C.a4, .slice h n d0, .int .i64 P.a0, .int .i64 P.a1, .int .i64 P.a2, .int .i64 P.a3, .int .i64 P.a4, .int .i64 P.a5, .int .i64 P.a6, .int .i64 P.a7, .bool P.a8, .slice b1 l1 d1, .slice b2 l2 d2, .slice b3 l3 d3, .int .i64 nh, .int .i64 nc, .int .i64 nd]] w fun x w' => x = .returned (.bool true) ∧ Below w.heap.size w w' := by
  obtain ⟨W, hW⟩ : ∃ W, W = (w.alloc (Obj.cells #[.int .i64 C.a0, .int .i64 C.a1, .int .i64 C.a2, .int .i64 C.a3, .int .i64 C.a4, .slice g n c0, .int .i64 P.a0, .int .i64 P.a1, .int .i64 P.a2, .int .i64 P.a3, .int .i64 P.a4, .int .i64 P.a5, .int .i64 P.a6, .int .i64 P.a7, .bool P.a8, .slice a1 l1 c1, .slice a2 l2 c2, .slice a3 l3 c3, .int .i64 nh, .int .i64 nc, .int .i64 nd] 69)).alloc (Obj.cells #[.int .i64 C.a0, .int .i64 C.a1, .int .i64 C.a2, .int .i64 C.a3, .int .i64 C.a4, .slice h n d0, .int .i64 P.a0, .int .i64 P.a1, .int .i64 P.a2, .int .i64 P.a3, .int .i64 P.a4, .int .i64 P.a5, .int .i64 P.a6, .int .i64 P.a7, .bool P.a8, .slice b1 l1 d1, .slice b2 l2 d2, .slice b3 l3 d3, .int .i64 nh, .int .i64 nc, .int .i64 nd] 69) := ⟨_, rfl⟩
  have KA : Hid (Blk W w.heap.size [.int .i64 C.a0, .int .i64 C.a1, .int .i64 C.a2, .int .i64 C.a3, .int .i64 C.a4, .slice g n c0, .int .i64 P.a0, .int .i64 P.a1, .int .i64 P.a2, .int .i64 P.a3, .int .i64 P.a4, .int .i64 P.a5, .int .i64 P.a6, .int .i64 P.a7, .bool P.a8, .slice a1 l1 c1, .slice a2 l2 c2, .slice a3 l3 c3, .int .i64 nh, .int .i64 nc, .int .i64 nd]) := hide (by rw [hW]; exact (Blk.new (w := w) [.int .i64 C.a0, .int .i64 C.a1, .int .i64 C.a2, .int .i64 C.a3, .int .i64 C.a4, .slice g n c0, .int .i64 P.a0, .int .i64 P.a1, .int .i64 P.a2, .int .i64 P.a3, .int .i64 P.a4, .int .i64 P.a5, .int .i64 P.a6, .int .i64 P.a7, .bool P.a8, .slice a1 l1 c1, .slice a2 l2 c2, .slice a3 l3 c3, .int .i64 nh, .int .i64 nc, .int .i64 nd] 69).alloc _)
  have KB : Hid (Blk W (w.heap.size + 1) [.int .i64 C.a0, .int .i64 C.a1, .int .i64 C.a2, .int .i64 C.a3, .int .i64 C.a4, .slice h n d0, .int .i64 P.a0, .int .i64 P.a1, .int .i64 P.a2, .int .i64 P.a3, .int .i64 P.a4, .int .i64 P.a5, .int .i64 P.a6, .int .i64 P.a7, .bool P.a8, .slice b1 l1 d1, .slice b2 l2 d2, .slice b3 l3 d3, .int .i64 nh, .int .i64 nc, .int .i64 nd]) := hide (by
    rw [hW]
    have := Blk.new (w := w.alloc (Obj.cells #[.int .i64 C.a0, .int .i64 C.a1, .int .i64 C.a2, .int .i64 C.a3, .int .i64 C.a4, .slice g n c0, .int .i64 P.a0, .int .i64 P.a1, .int .i64 P.a2, .int .i64 P.a3, .int .i64 P.a4, .int .i64 P.a5, .int .i64 P.a6, .int .i64 P.a7, .bool P.a8, .slice a1 l1 c1, .slice a2 l2 c2, .slice a3 l3 c3, .int .i64 nh, .int .i64 nc, .int .i64 nd] 69)) [.int .i64 C.a0, .int .i64 C.a1, .int .i64 C.a2, .int .i64 C.a3, .int .i64 C.a4, .slice h n d0, .int .i64 P.a0, .int .i64 P.a1, .int .i64 P.a2, .int .i64 P.a3, .int .i64 P.a4, .int .i64 P.a5, .int .i64 P.a6, .int .i64 P.a7, .bool P.a8, .slice b1 l1 d1, .slice b2 l2 d2, .slice b3 l3 d3, .int .i64 nh, .int .i64 nc, .int .i64 nd] 69
    simpa using this)
  have HB : Hid (Below w.heap.size w W) := hide (by rw [hW]; exact bel2 _ _)
  have HA := hide (hr.below (unhide HB))
  have HQ := hide (hq.below (unhide HB))
  have HW := hide hW
  clear hr hq hW
  go_enter Try.func32, Try.ntmps32
  go_wp2_with (first
    | ((with_reducible show wpList _ _ _ (⟨_, .load 59 (.tmp 5), _, _, _, none⟩ :: _) _ _); rw [← unhide HW]; refine at_loadPart (us := [.int .i64 C.a0, .int .i64 C.a1, .int .i64 C.a2, .int .i64 C.a3, .int .i64 C.a4, .slice g n c0, .int .i64 P.a0, .int .i64 P.a1, .int .i64 P.a2, .int .i64 P.a3, .int .i64 P.a4, .int .i64 P.a5, .int .i64 P.a6, .int .i64 P.a7, .bool P.a8, .slice a1 l1 c1, .slice a2 l2 c2, .slice a3 l3 c3, .int .i64 nh, .int .i64 nc, .int .i64 nd]) (vs := [.int .i64 C.a0, .int .i64 C.a1, .int .i64 C.a2, .int .i64 C.a3, .int .i64 C.a4]) Try.isAgg59 Try.sizeOf59 rfl (unhide KA) rfl ?_)
    | ((with_reducible show wpList _ _ _ (⟨_, .load 59 (.tmp 7), _, _, _, none⟩ :: _) _ _); refine at_loadPart (us := [.int .i64 C.a0, .int .i64 C.a1, .int .i64 C.a2, .int .i64 C.a3, .int .i64 C.a4, .slice h n d0, .int .i64 P.a0, .int .i64 P.a1, .int .i64 P.a2, .int .i64 P.a3, .int .i64 P.a4, .int .i64 P.a5, .int .i64 P.a6, .int .i64 P.a7, .bool P.a8, .slice b1 l1 d1, .slice b2 l2 d2, .slice b3 l3 d3, .int .i64 nh, .int .i64 nc, .int .i64 nd]) (vs := [.int .i64 C.a0, .int .i64 C.a1, .int .i64 C.a2, .int .i64 C.a3, .int .i64 C.a4]) Try.isAgg59 Try.sizeOf59 rfl (unhide KB) rfl ?_))
  clear HW
  refine (eqCraft_alike _ _ _ _ _ _ _ _ _ _ _ (cfAlike_refl _)).mono ?_
  rintro x W ⟨rfl, bw⟩
  have HB := hide ((unhide HB).trans (bw.mono (unhide HB).size))
  have HA := hide ((unhide HA).below bw)
  have HQ := hide ((unhide HQ).below bw)
  have KA := hide ((unhide KA).below bw)
  have KB := hide ((unhide KB).below bw)
  clear bw
  have m2 : W.cell? ⟨w.heap.size, 5, none⟩ = some (.slice g n c0) := (unhide KA).c 5 (by simp)
  have k2 : W.cell? ⟨w.heap.size + 1, 5, none⟩ = some (.slice h n d0) := (unhide KB).c 5 (by simp)
  go_wp2_with fail
  clear m2 k2
  refine (eqLegS_same _ _ _ _ _ _ ls _ (unhide HA).lg (unhide HQ).lg).mono ?_
  rintro x W ⟨rfl, bw⟩
  have HB := hide ((unhide HB).trans (bw.mono (unhide HB).size))
  have HA := hide ((unhide HA).below bw)
  have HQ := hide ((unhide HQ).below bw)
  have KA := hide ((unhide KA).below bw)
  have KB := hide ((unhide KB).below bw)
  clear bw
  go_wp2_with (first
    | ((with_reducible show wpList _ _ _ (⟨_, .load 61 (.tmp 17), _, _, _, none⟩ :: _) _ _); refine at_loadPart (us := [.int .i64 C.a0, .int .i64 C.a1, .int .i64 C.a2, .int .i64 C.a3, .int .i64 C.a4, .slice g n c0, .int .i64 P.a0, .int .i64 P.a1, .int .i64 P.a2, .int .i64 P.a3, .int .i64 P.a4, .int .i64 P.a5, .int .i64 P.a6, .int .i64 P.a7, .bool P.a8, .slice a1 l1 c1, .slice a2 l2 c2, .slice a3 l3 c3, .int .i64 nh, .int .i64 nc, .int .i64 nd]) (vs := [.int .i64 P.a0, .int .i64 P.a1, .int .i64 P.a2, .int .i64 P.a3, .int .i64 P.a4, .int .i64 P.a5, .int .i64 P.a6, .int .i64 P.a7, .bool P.a8]) Try.isAgg61 Try.sizeOf61 rfl (unhide KA) rfl ?_)
    | ((with_reducible show wpList _ _ _ (⟨_, .load 61 (.tmp 19), _, _, _, none⟩ :: _) _ _); refine at_loadPart (us := [.int .i64 C.a0, .int .i64 C.a1, .int .i64 C.a2, .int .i64 C.a3, .int .i64 C.a4, .slice h n d0, .int .i64 P.a0, .int .i64 P.a1, .int .i64 P.a2, .int .i64 P.a3, .int .i64 P.a4, .int .i64 P.a5, .int .i64 P.a6, .int .i64 P.a7, .bool P.a8, .slice b1 l1 d1, .slice b2 l2 d2, .slice b3 l3 d3, .int .i64 nh, .int .i64 nc, .int .i64 nd]) (vs := [.int .i64 P.a0, .int .i64 P.a1, .int .i64 P.a2, .int .i64 P.a3, .int .i64 P.a4, .int .i64 P.a5, .int .i64 P.a6, .int .i64 P.a7, .bool P.a8]) Try.isAgg61 Try.sizeOf61 rfl (unhide KB) rfl ?_))
  refine (eqPilot_alike _ _ _ _ _ _ _ _ _ _ _ _ _ _ _ _ _ _ _ (plAlike_refl _)).mono ?_
  rintro x W ⟨rfl, bw⟩
  have HB := hide ((unhide HB).trans (bw.mono (unhide HB).size))
  have HA := hide ((unhide HA).below bw)
  have HQ := hide ((unhide HQ).below bw)
  have KA := hide ((unhide KA).below bw)
  have KB := hide ((unhide KB).below bw)
  clear bw
  go_wp2_with (first
    | ((with_reducible show wpList _ _ _ (⟨_, .load 67 (.tmp 23), _, _, _, none⟩ :: _) _ _); refine at_loadPart (us := [.int .i64 C.a0, .int .i64 C.a1, .int .i64 C.a2, .int .i64 C.a3, .int .i64 C.a4, .slice g n c0, .int .i64 P.a0, .int .i64 P.a1, .int .i64 P.a2, .int .i64 P.a3, .int .i64 P.a4, .int .i64 P.a5, .int .i64 P.a6, .int .i64 P.a7, .bool P.a8, .slice a1 l1 c1, .slice a2 l2 c2, .slice a3 l3 c3, .int .i64 nh, .int .i64 nc, .int .i64 nd]) (vs := [.slice a1 l1 c1, .slice a2 l2 c2, .slice a3 l3 c3, .int .i64 nh, .int .i64 nc, .int .i64 nd]) Try.isAgg67 Try.sizeOf67 rfl (unhide KA) rfl ?_)
    | ((with_reducible show wpList _ _ _ (⟨_, .load 67 (.tmp 25), _, _, _, none⟩ :: _) _ _); refine at_loadPart (us := [.int .i64 C.a0, .int .i64 C.a1, .int .i64 C.a2, .int .i64 C.a3, .int .i64 C.a4, .slice h n d0, .int .i64 P.a0, .int .i64 P.a1, .int .i64 P.a2, .int .i64 P.a3, .int .i64 P.a4, .int .i64 P.a5, .int .i64 P.a6, .int .i64 P.a7, .bool P.a8, .slice b1 l1 d1, .slice b2 l2 d2, .slice b3 l3 d3, .int .i64 nh, .int .i64 nc, .int .i64 nd]) (vs := [.slice b1 l1 d1, .slice b2 l2 d2, .slice b3 l3 d3, .int .i64 nh, .int .i64 nc, .int .i64 nd]) Try.isAgg67 Try.sizeOf67 rfl (unhide KB) rfl ?_))
  refine (eqFleet_same _ _ _ _ _ _ _ _ _ _ _ _ _ _ _ _ _ _ z1 z2 z3 _ (unhide HA).fl (unhide HQ).fl).mono ?_
  rintro x W ⟨rfl, bw⟩
  have HB := hide ((unhide HB).trans (bw.mono (unhide HB).size))
  have HA := hide ((unhide HA).below bw)
  have HQ := hide ((unhide HQ).below bw)
  have KA := hide ((unhide KA).below bw)
  have KB := hide ((unhide KB).below bw)
  clear bw
  go_wp2_with fail
  go_ret
  exact ⟨rfl, unhide HB⟩

end Go.Proofs.Ytglefolkecimabd

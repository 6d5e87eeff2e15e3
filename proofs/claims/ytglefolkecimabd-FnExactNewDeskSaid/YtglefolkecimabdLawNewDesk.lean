/-
  The law FnExactNewDesk returns true and writes nothing that was there: the walk. No condition.
-/
import Derived.Test.YtglefolkecimabdNdIs
namespace Go.Proofs.Ytglefolkecimabd
open Go.RowKit

set_option maxRecDepth 20000 in
set_option maxHeartbeats 8000000 in
theorem lawNewDesk (w : World) :
    Calls Try.prog 8 #[] w fun x w' => x = .returned (.bool true) ∧ Below w.heap.size w w' := by
  have HB : Hid (Below w.heap.size w w) := hide (Below.refl _ _)
  go_enter Try.func8, Try.ntmps8
  go_wp2_with fail
  refine (specNewDesk_any w).mono ?_
  rintro x w1 ⟨⟨g0, b0, p0, q0, rfl, ow⟩, bw⟩
  obtain ⟨A0, hA0⟩ : ∃ A : Value, A = .agg #[.int .i64 0, .int .i64 0, .int .i64 0, .int .i64 100, .int .i64 5, .slice g0 0 0, .int .i64 1, .int .i64 1, .int .i64 1000, .int .i64 1000, .int .i64 0, .int .i64 0, .int .i64 0, .int .i64 0, .bool false, .slice (some ⟨p0, 0, none⟩) 2 2, .slice (some ⟨q0, 0, none⟩) 2 2, .slice b0 0 0, .int .i64 0, .int .i64 0, .int .i64 0] := ⟨_, rfl⟩
  rw [← hA0]
  have HA0 := hide hA0
  clear hA0
  have HB := hide ((unhide HB).trans (bw.mono (unhide HB).size))
  obtain ⟨X0, hX0⟩ : ∃ X, w1.heap.size = X := ⟨_, rfl⟩
  have le0 : w.heap.size ≤ X0 := by rw [← hX0]; exact bw.size
  have L0 : Hid (∀ k, dkS g0 (some ⟨p0, 0, none⟩) (some ⟨q0, 0, none⟩) b0 0 0 2 2 2 2 0 0 k → w.heap.size ≤ k ∧ k < X0) := hide (fun k hk => by rw [← hX0]; exact ow.in_ hk)
  have O0 := hide ow
  clear ow bw
  obtain ⟨z0, hz0⟩ : ∃ V, V = w1.alloc (Obj.cells #[.int .i64 0, .int .i64 0, .int .i64 0, .int .i64 0, .int .i64 0, .slice none 0 0, .int .i64 0, .int .i64 0, .int .i64 0, .int .i64 0, .int .i64 0, .int .i64 0, .int .i64 0, .int .i64 0, .bool false, .slice none 0 0, .slice none 0 0, .slice none 0 0, .int .i64 0, .int .i64 0, .int .i64 0] 69) := ⟨_, rfl⟩
  have bw : Below w1.heap.size w1 z0 := by rw [hz0]; exact bel1 _
  have O0 := hide ((unhide O0).below bw)
  have HB := hide ((unhide HB).trans (bw.mono (unhide HB).size))
  have KX0 : Hid (Blk z0 X0 [.int .i64 0, .int .i64 0, .int .i64 0, .int .i64 0, .int .i64 0, .slice none 0 0, .int .i64 0, .int .i64 0, .int .i64 0, .int .i64 0, .int .i64 0, .int .i64 0, .int .i64 0, .int .i64 0, .bool false, .slice none 0 0, .slice none 0 0, .slice none 0 0, .int .i64 0, .int .i64 0, .int .i64 0]) := hide (by rw [hz0, ← hX0]; exact Blk.new _ _)
  have HZ := hide hz0
  have HX := hide hX0
  clear hz0 hX0 bw
  go_wp2_with ((with_reducible show wpList _ _ _ (⟨none, .store 69 (.tmp 1) _, _, _, _, none⟩ :: _) _ _); rw [← unhide HZ, unhide HX]; refine at_storeAgg (us := [.int .i64 0, .int .i64 0, .int .i64 0, .int .i64 0, .int .i64 0, .slice none 0 0, .int .i64 0, .int .i64 0, .int .i64 0, .int .i64 0, .int .i64 0, .int .i64 0, .int .i64 0, .int .i64 0, .bool false, .slice none 0 0, .slice none 0 0, .slice none 0 0, .int .i64 0, .int .i64 0, .int .i64 0]) (vs := [.int .i64 0, .int .i64 0, .int .i64 0, .int .i64 100, .int .i64 5, .slice g0 0 0, .int .i64 1, .int .i64 1, .int .i64 1000, .int .i64 1000, .int .i64 0, .int .i64 0, .int .i64 0, .int .i64 0, .bool false, .slice (some ⟨p0, 0, none⟩) 2 2, .slice (some ⟨q0, 0, none⟩) 2 2, .slice b0 0 0, .int .i64 0, .int .i64 0, .int .i64 0]) Try.sizeOf69 rfl (unhide HA0) (unhide KX0) rfl (by intro v hv; simp only [List.mem_cons, List.not_mem_nil, or_false] at hv; rcases hv with rfl | rfl | rfl | rfl | rfl | rfl | rfl | rfl | rfl | rfl | rfl | rfl | rfl | rfl | rfl | rfl | rfl | rfl | rfl | rfl | rfl <;> rfl) ?_; intro w2 kb gr; have LX : Hid True := hide trivial; have HB := hide ((unhide HB).grown gr (unhide HB).size (fun k hk => by cases hk; omega)); have O0 := hide ((unhide O0).aps (Aps.of_row (S := fun k => k = X0) gr (fun k hk => (Option.some.inj hk).symm)) (fun i hi e => by have l := (unhide L0) i hi; have := (unhide LX); omega)); have KX0 := hide kb; have lt0 : X0 < w2.heap.size := kb.lt; clear kb gr LX)
  clear HZ HX
  refine (implNewDesk_any w2).mono ?_
  rintro x w3 ⟨⟨g1, b1, p1, q1, rfl, ow⟩, bw⟩
  obtain ⟨A1, hA1⟩ : ∃ A : Value, A = .agg #[.int .i64 0, .int .i64 0, .int .i64 0, .int .i64 100, .int .i64 5, .slice g1 0 0, .int .i64 1, .int .i64 1, .int .i64 1000, .int .i64 1000, .int .i64 0, .int .i64 0, .int .i64 0, .int .i64 0, .bool false, .slice (some ⟨p1, 0, none⟩) 2 2, .slice (some ⟨q1, 0, none⟩) 2 2, .slice b1 0 0, .int .i64 0, .int .i64 0, .int .i64 0] := ⟨_, rfl⟩
  rw [← hA1]
  have HA1 := hide hA1
  clear hA1
  have HB := hide ((unhide HB).trans (bw.mono (unhide HB).size))
  have O0 := hide ((unhide O0).below bw)
  have KX0 := hide ((unhide KX0).below bw)
  obtain ⟨X1, hX1⟩ : ∃ X, w3.heap.size = X := ⟨_, rfl⟩
  have le1 : w2.heap.size ≤ X1 := by rw [← hX1]; exact bw.size
  have L1 : Hid (∀ k, dkS g1 (some ⟨p1, 0, none⟩) (some ⟨q1, 0, none⟩) b1 0 0 2 2 2 2 0 0 k → w2.heap.size ≤ k ∧ k < X1) := hide (fun k hk => by rw [← hX1]; exact ow.in_ hk)
  have O1 := hide ow
  clear ow bw
  obtain ⟨z1, hz1⟩ : ∃ V, V = w3.alloc (Obj.cells #[.int .i64 0, .int .i64 0, .int .i64 0, .int .i64 0, .int .i64 0, .slice none 0 0, .int .i64 0, .int .i64 0, .int .i64 0, .int .i64 0, .int .i64 0, .int .i64 0, .int .i64 0, .int .i64 0, .bool false, .slice none 0 0, .slice none 0 0, .slice none 0 0, .int .i64 0, .int .i64 0, .int .i64 0] 69) := ⟨_, rfl⟩
  have bw : Below w3.heap.size w3 z1 := by rw [hz1]; exact bel1 _
  have O0 := hide ((unhide O0).below bw)
  have KX0 := hide ((unhide KX0).below bw)
  have O1 := hide ((unhide O1).below bw)
  have HB := hide ((unhide HB).trans (bw.mono (unhide HB).size))
  have KX1 : Hid (Blk z1 X1 [.int .i64 0, .int .i64 0, .int .i64 0, .int .i64 0, .int .i64 0, .slice none 0 0, .int .i64 0, .int .i64 0, .int .i64 0, .int .i64 0, .int .i64 0, .int .i64 0, .int .i64 0, .int .i64 0, .bool false, .slice none 0 0, .slice none 0 0, .slice none 0 0, .int .i64 0, .int .i64 0, .int .i64 0]) := hide (by rw [hz1, ← hX1]; exact Blk.new _ _)
  have HZ := hide hz1
  have HX := hide hX1
  clear hz1 hX1 bw
  go_wp2_with (first
    | ((with_reducible show wpList _ _ _ (⟨none, .store 69 (.tmp 2) _, _, _, _, none⟩ :: _) _ _); rw [← unhide HZ, unhide HX]; refine at_storeAgg (us := [.int .i64 0, .int .i64 0, .int .i64 0, .int .i64 0, .int .i64 0, .slice none 0 0, .int .i64 0, .int .i64 0, .int .i64 0, .int .i64 0, .int .i64 0, .int .i64 0, .int .i64 0, .int .i64 0, .bool false, .slice none 0 0, .slice none 0 0, .slice none 0 0, .int .i64 0, .int .i64 0, .int .i64 0]) (vs := [.int .i64 0, .int .i64 0, .int .i64 0, .int .i64 100, .int .i64 5, .slice g1 0 0, .int .i64 1, .int .i64 1, .int .i64 1000, .int .i64 1000, .int .i64 0, .int .i64 0, .int .i64 0, .int .i64 0, .bool false, .slice (some ⟨p1, 0, none⟩) 2 2, .slice (some ⟨q1, 0, none⟩) 2 2, .slice b1 0 0, .int .i64 0, .int .i64 0, .int .i64 0]) Try.sizeOf69 rfl (unhide HA1) (unhide KX1) rfl (by intro v hv; simp only [List.mem_cons, List.not_mem_nil, or_false] at hv; rcases hv with rfl | rfl | rfl | rfl | rfl | rfl | rfl | rfl | rfl | rfl | rfl | rfl | rfl | rfl | rfl | rfl | rfl | rfl | rfl | rfl | rfl <;> rfl) ?_; intro w4 kb gr; have LX : Hid True := hide trivial; have HB := hide ((unhide HB).grown gr (unhide HB).size (fun k hk => by cases hk; omega)); have O0 := hide ((unhide O0).aps (Aps.of_row (S := fun k => k = X1) gr (fun k hk => (Option.some.inj hk).symm)) (fun i hi e => by have l := (unhide L0) i hi; have := (unhide LX); omega)); have KX0 := hide ((unhide KX0).apart gr (by intro e; simp only [Option.some.injEq] at e; omega)); have O1 := hide ((unhide O1).aps (Aps.of_row (S := fun k => k = X1) gr (fun k hk => (Option.some.inj hk).symm)) (fun i hi e => by have l := (unhide L1) i hi; have := (unhide LX); omega)); have KX1 := hide kb; have lt1 : X1 < w4.heap.size := kb.lt; clear kb gr LX)
    | ((with_reducible show wpList _ _ _ (⟨_, .load 69 (.tmp 2), _, _, _, none⟩ :: _) _ _); refine at_loadV (vs := [.int .i64 0, .int .i64 0, .int .i64 0, .int .i64 100, .int .i64 5, .slice g1 0 0, .int .i64 1, .int .i64 1, .int .i64 1000, .int .i64 1000, .int .i64 0, .int .i64 0, .int .i64 0, .int .i64 0, .bool false, .slice (some ⟨p1, 0, none⟩) 2 2, .slice (some ⟨q1, 0, none⟩) 2 2, .slice b1 0 0, .int .i64 0, .int .i64 0, .int .i64 0]) (V := A1) (unhide HA1) Try.isAgg69 Try.sizeOf69 rfl (unhide KX1) ?_)
    | ((with_reducible show wpList _ _ _ (⟨_, .load 69 (.tmp 1), _, _, _, none⟩ :: _) _ _); refine at_loadV (vs := [.int .i64 0, .int .i64 0, .int .i64 0, .int .i64 100, .int .i64 5, .slice g0 0 0, .int .i64 1, .int .i64 1, .int .i64 1000, .int .i64 1000, .int .i64 0, .int .i64 0, .int .i64 0, .int .i64 0, .bool false, .slice (some ⟨p0, 0, none⟩) 2 2, .slice (some ⟨q0, 0, none⟩) 2 2, .slice b0 0 0, .int .i64 0, .int .i64 0, .int .i64 0]) (V := A0) (unhide HA0) Try.isAgg69 Try.sizeOf69 rfl (unhide KX0) ?_))
  clear HZ HX
  rw [unhide HA1, unhide HA0]
  refine (eqDesk_same ⟨0, 0, 0, 100, 5⟩ ⟨1, 1, 1000, 1000, 0, 0, 0, 0, false⟩ g1 0 0 0 0 0 _ _ _ 2 2 2 2 0 0 g0 _ _ _ 0 2 2 0 [] ndT ndC [] _ (unhide O1).read (unhide O0).read).mono ?_
  rw [← unhide HA1, ← unhide HA0]
  rintro x w5 ⟨rfl, bw⟩
  have sw5 := bw.size
  have HB := hide ((unhide HB).trans (bw.mono (unhide HB).size))
  have O0 := hide ((unhide O0).below bw)
  have KX0 := hide ((unhide KX0).below bw)
  have O1 := hide ((unhide O1).below bw)
  have KX1 := hide ((unhide KX1).below bw)
  clear bw
  go_wp2_with ((with_reducible show wpList _ _ _ (⟨_, .load 69 (.tmp 2), _, _, _, none⟩ :: _) _ _); refine at_loadV (vs := [.int .i64 0, .int .i64 0, .int .i64 0, .int .i64 100, .int .i64 5, .slice g1 0 0, .int .i64 1, .int .i64 1, .int .i64 1000, .int .i64 1000, .int .i64 0, .int .i64 0, .int .i64 0, .int .i64 0, .bool false, .slice (some ⟨p1, 0, none⟩) 2 2, .slice (some ⟨q1, 0, none⟩) 2 2, .slice b1 0 0, .int .i64 0, .int .i64 0, .int .i64 0]) (V := A1) (unhide HA1) Try.isAgg69 Try.sizeOf69 rfl (unhide KX1) ?_)
  rw [unhide HA1]
  refine (markDesk_own ⟨0, 0, 0, 100, 5⟩ ⟨1, 1, 1000, 1000, 0, 0, 0, 0, false⟩ g1 0 0 0 0 0 _ _ _ 2 2 2 2 0 0 [] ndT ndC [] _ 1 _ (unhide O1) rfl (by omega) rfl (by omega) rfl (by omega) rfl (by omega) (by omega) (by omega)).mono ?_
  rw [← unhide HA1]
  rintro x w6 ⟨rfl, om, on⟩
  have sw6 := on.size
  have hS : (1 + 4 * ((0 : Nat) : Int) + 7 * ((2 : Nat) : Int) + 3 * ((2 : Nat) : Int) + 3 * ((0 : Nat) : Int)) = 21 := by omega
  rw [hS]
  have HB := hide (below_aps (unhide HB) on (fun k hk => by have := (unhide L1) k hk; omega) (Nat.le_refl _))
  have O0 := hide ((unhide O0).aps on (fun i hi e => by have h1 := (unhide L1) i e; have h0 := (unhide L0) i hi; omega))
  have KX0 := hide ((unhide KX0).aps on (fun e => by have h1 := (unhide L1) _ e; omega))
  have KX1 := hide ((unhide KX1).aps on (fun e => by have h1 := (unhide L1) _ e; omega))
  have O1 := hide om
  clear om on hS
  go_wp2_with ((with_reducible show wpList _ _ _ (⟨_, .load 69 (.tmp 2), _, _, _, none⟩ :: _) _ _); refine at_loadV (vs := [.int .i64 0, .int .i64 0, .int .i64 0, .int .i64 100, .int .i64 5, .slice g1 0 0, .int .i64 1, .int .i64 1, .int .i64 1000, .int .i64 1000, .int .i64 0, .int .i64 0, .int .i64 0, .int .i64 0, .bool false, .slice (some ⟨p1, 0, none⟩) 2 2, .slice (some ⟨q1, 0, none⟩) 2 2, .slice b1 0 0, .int .i64 0, .int .i64 0, .int .i64 0]) (V := A1) (unhide HA1) Try.isAgg69 Try.sizeOf69 rfl (unhide KX1) ?_)
  rw [unhide HA1]
  refine (heldDesk_any ⟨0, 0, 0, 100, 5⟩ ⟨1, 1, 1000, 1000, 0, 0, 0, 0, false⟩ g1 0 0 0 0 0 _ _ _ 2 2 2 2 0 0 [] ndT ndC [] _ 1 _ (unhide O1) rfl (by omega) rfl (by omega) rfl (by omega) rfl (by omega) (by omega) (by omega)).mono ?_
  rw [← unhide HA1]
  rintro x w7 ⟨rfl, bw⟩
  have sw7 := bw.size
  have hS : (1 + 4 * ((0 : Nat) : Int) + 7 * ((2 : Nat) : Int) + 3 * ((2 : Nat) : Int) + 3 * ((0 : Nat) : Int)) = 21 := by omega
  rw [hS]
  have HB := hide ((unhide HB).trans (bw.mono (unhide HB).size))
  have O0 := hide ((unhide O0).below bw)
  have KX0 := hide ((unhide KX0).below bw)
  have O1 := hide ((unhide O1).below bw)
  have KX1 := hide ((unhide KX1).below bw)
  clear bw hS
  go_wp2_with fail
  refine (implNewDesk_any w7).mono ?_
  rintro x w8 ⟨⟨g2, b2, p2, q2, rfl, ow⟩, bw⟩
  obtain ⟨A2, hA2⟩ : ∃ A : Value, A = .agg #[.int .i64 0, .int .i64 0, .int .i64 0, .int .i64 100, .int .i64 5, .slice g2 0 0, .int .i64 1, .int .i64 1, .int .i64 1000, .int .i64 1000, .int .i64 0, .int .i64 0, .int .i64 0, .int .i64 0, .bool false, .slice (some ⟨p2, 0, none⟩) 2 2, .slice (some ⟨q2, 0, none⟩) 2 2, .slice b2 0 0, .int .i64 0, .int .i64 0, .int .i64 0] := ⟨_, rfl⟩
  rw [← hA2]
  have HA2 := hide hA2
  clear hA2
  have HB := hide ((unhide HB).trans (bw.mono (unhide HB).size))
  have O0 := hide ((unhide O0).below bw)
  have KX0 := hide ((unhide KX0).below bw)
  have O1 := hide ((unhide O1).below bw)
  have KX1 := hide ((unhide KX1).below bw)
  obtain ⟨X2, hX2⟩ : ∃ X, w8.heap.size = X := ⟨_, rfl⟩
  have le2 : w7.heap.size ≤ X2 := by rw [← hX2]; exact bw.size
  have L2 : Hid (∀ k, dkS g2 (some ⟨p2, 0, none⟩) (some ⟨q2, 0, none⟩) b2 0 0 2 2 2 2 0 0 k → w7.heap.size ≤ k ∧ k < X2) := hide (fun k hk => by rw [← hX2]; exact ow.in_ hk)
  have O2 := hide ow
  clear ow bw
  obtain ⟨z2, hz2⟩ : ∃ V, V = w8.alloc (Obj.cells #[.int .i64 0, .int .i64 0, .int .i64 0, .int .i64 0, .int .i64 0, .slice none 0 0, .int .i64 0, .int .i64 0, .int .i64 0, .int .i64 0, .int .i64 0, .int .i64 0, .int .i64 0, .int .i64 0, .bool false, .slice none 0 0, .slice none 0 0, .slice none 0 0, .int .i64 0, .int .i64 0, .int .i64 0] 69) := ⟨_, rfl⟩
  have bw : Below w8.heap.size w8 z2 := by rw [hz2]; exact bel1 _
  have O0 := hide ((unhide O0).below bw)
  have KX0 := hide ((unhide KX0).below bw)
  have O1 := hide ((unhide O1).below bw)
  have KX1 := hide ((unhide KX1).below bw)
  have O2 := hide ((unhide O2).below bw)
  have HB := hide ((unhide HB).trans (bw.mono (unhide HB).size))
  have KX2 : Hid (Blk z2 X2 [.int .i64 0, .int .i64 0, .int .i64 0, .int .i64 0, .int .i64 0, .slice none 0 0, .int .i64 0, .int .i64 0, .int .i64 0, .int .i64 0, .int .i64 0, .int .i64 0, .int .i64 0, .int .i64 0, .bool false, .slice none 0 0, .slice none 0 0, .slice none 0 0, .int .i64 0, .int .i64 0, .int .i64 0]) := hide (by rw [hz2, ← hX2]; exact Blk.new _ _)
  have HZ := hide hz2
  have HX := hide hX2
  clear hz2 hX2 bw
  go_wp2_with (first
    | ((with_reducible show wpList _ _ _ (⟨none, .store 69 (.tmp 5) _, _, _, _, none⟩ :: _) _ _); rw [← unhide HZ, unhide HX]; refine at_storeAgg (us := [.int .i64 0, .int .i64 0, .int .i64 0, .int .i64 0, .int .i64 0, .slice none 0 0, .int .i64 0, .int .i64 0, .int .i64 0, .int .i64 0, .int .i64 0, .int .i64 0, .int .i64 0, .int .i64 0, .bool false, .slice none 0 0, .slice none 0 0, .slice none 0 0, .int .i64 0, .int .i64 0, .int .i64 0]) (vs := [.int .i64 0, .int .i64 0, .int .i64 0, .int .i64 100, .int .i64 5, .slice g2 0 0, .int .i64 1, .int .i64 1, .int .i64 1000, .int .i64 1000, .int .i64 0, .int .i64 0, .int .i64 0, .int .i64 0, .bool false, .slice (some ⟨p2, 0, none⟩) 2 2, .slice (some ⟨q2, 0, none⟩) 2 2, .slice b2 0 0, .int .i64 0, .int .i64 0, .int .i64 0]) Try.sizeOf69 rfl (unhide HA2) (unhide KX2) rfl (by intro v hv; simp only [List.mem_cons, List.not_mem_nil, or_false] at hv; rcases hv with rfl | rfl | rfl | rfl | rfl | rfl | rfl | rfl | rfl | rfl | rfl | rfl | rfl | rfl | rfl | rfl | rfl | rfl | rfl | rfl | rfl <;> rfl) ?_; intro w9 kb gr; have LX : Hid True := hide trivial; have HB := hide ((unhide HB).grown gr (unhide HB).size (fun k hk => by cases hk; omega)); have O0 := hide ((unhide O0).aps (Aps.of_row (S := fun k => k = X2) gr (fun k hk => (Option.some.inj hk).symm)) (fun i hi e => by have l := (unhide L0) i hi; have := (unhide LX); omega)); have KX0 := hide ((unhide KX0).apart gr (by intro e; simp only [Option.some.injEq] at e; omega)); have O1 := hide ((unhide O1).aps (Aps.of_row (S := fun k => k = X2) gr (fun k hk => (Option.some.inj hk).symm)) (fun i hi e => by have l := (unhide L1) i hi; have := (unhide LX); omega)); have KX1 := hide ((unhide KX1).apart gr (by intro e; simp only [Option.some.injEq] at e; omega)); have O2 := hide ((unhide O2).aps (Aps.of_row (S := fun k => k = X2) gr (fun k hk => (Option.some.inj hk).symm)) (fun i hi e => by have l := (unhide L2) i hi; have := (unhide LX); omega)); have KX2 := hide kb; have lt2 : X2 < w9.heap.size := kb.lt; clear kb gr LX)
    | ((with_reducible show wpList _ _ _ (⟨_, .load 69 (.tmp 5), _, _, _, none⟩ :: _) _ _); refine at_loadV (vs := [.int .i64 0, .int .i64 0, .int .i64 0, .int .i64 100, .int .i64 5, .slice g2 0 0, .int .i64 1, .int .i64 1, .int .i64 1000, .int .i64 1000, .int .i64 0, .int .i64 0, .int .i64 0, .int .i64 0, .bool false, .slice (some ⟨p2, 0, none⟩) 2 2, .slice (some ⟨q2, 0, none⟩) 2 2, .slice b2 0 0, .int .i64 0, .int .i64 0, .int .i64 0]) (V := A2) (unhide HA2) Try.isAgg69 Try.sizeOf69 rfl (unhide KX2) ?_)
    | ((with_reducible show wpList _ _ _ (⟨_, .load 69 (.tmp 1), _, _, _, none⟩ :: _) _ _); refine at_loadV (vs := [.int .i64 0, .int .i64 0, .int .i64 0, .int .i64 100, .int .i64 5, .slice g0 0 0, .int .i64 1, .int .i64 1, .int .i64 1000, .int .i64 1000, .int .i64 0, .int .i64 0, .int .i64 0, .int .i64 0, .bool false, .slice (some ⟨p0, 0, none⟩) 2 2, .slice (some ⟨q0, 0, none⟩) 2 2, .slice b0 0 0, .int .i64 0, .int .i64 0, .int .i64 0]) (V := A0) (unhide HA0) Try.isAgg69 Try.sizeOf69 rfl (unhide KX0) ?_))
  clear HZ HX
  rw [unhide HA2, unhide HA0]
  refine (eqDesk_same ⟨0, 0, 0, 100, 5⟩ ⟨1, 1, 1000, 1000, 0, 0, 0, 0, false⟩ g2 0 0 0 0 0 _ _ _ 2 2 2 2 0 0 g0 _ _ _ 0 2 2 0 [] ndT ndC [] _ (unhide O2).read (unhide O0).read).mono ?_
  rw [← unhide HA2, ← unhide HA0]
  rintro x w10 ⟨rfl, bw⟩
  have sw10 := bw.size
  have HB := hide ((unhide HB).trans (bw.mono (unhide HB).size))
  have O0 := hide ((unhide O0).below bw)
  have KX0 := hide ((unhide KX0).below bw)
  have O1 := hide ((unhide O1).below bw)
  have KX1 := hide ((unhide KX1).below bw)
  have O2 := hide ((unhide O2).below bw)
  have KX2 := hide ((unhide KX2).below bw)
  clear bw
  go_wp2_with ((with_reducible show wpList _ _ _ (⟨_, .load 69 (.tmp 2), _, _, _, none⟩ :: _) _ _); refine at_loadV (vs := [.int .i64 0, .int .i64 0, .int .i64 0, .int .i64 100, .int .i64 5, .slice g1 0 0, .int .i64 1, .int .i64 1, .int .i64 1000, .int .i64 1000, .int .i64 0, .int .i64 0, .int .i64 0, .int .i64 0, .bool false, .slice (some ⟨p1, 0, none⟩) 2 2, .slice (some ⟨q1, 0, none⟩) 2 2, .slice b1 0 0, .int .i64 0, .int .i64 0, .int .i64 0]) (V := A1) (unhide HA1) Try.isAgg69 Try.sizeOf69 rfl (unhide KX1) ?_)
  rw [unhide HA1]
  refine (heldDesk_any ⟨0, 0, 0, 100, 5⟩ ⟨1, 1, 1000, 1000, 0, 0, 0, 0, false⟩ g1 0 0 0 0 0 _ _ _ 2 2 2 2 0 0 [] ndT ndC [] _ 1 _ (unhide O1) rfl (by omega) rfl (by omega) rfl (by omega) rfl (by omega) (by omega) (by omega)).mono ?_
  rw [← unhide HA1]
  rintro x w11 ⟨rfl, bw⟩
  have sw11 := bw.size
  have hS : (1 + 4 * ((0 : Nat) : Int) + 7 * ((2 : Nat) : Int) + 3 * ((2 : Nat) : Int) + 3 * ((0 : Nat) : Int)) = 21 := by omega
  rw [hS]
  have HB := hide ((unhide HB).trans (bw.mono (unhide HB).size))
  have O0 := hide ((unhide O0).below bw)
  have KX0 := hide ((unhide KX0).below bw)
  have O1 := hide ((unhide O1).below bw)
  have KX1 := hide ((unhide KX1).below bw)
  have O2 := hide ((unhide O2).below bw)
  have KX2 := hide ((unhide KX2).below bw)
  clear bw hS
  go_wp2_with fail
  go_ret
  exact ⟨rfl, unhide HB⟩

end Go.Proofs.Ytglefolkecimabd

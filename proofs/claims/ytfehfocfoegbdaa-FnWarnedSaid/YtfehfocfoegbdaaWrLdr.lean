/-
  What the program's louderFirst answers: the order of two rules; three new blocks are made, and nothing else.
-/
import Derived.Test.YtfehfocfoegbdaaMWrCmp
import Derived.Deep.Cut
namespace Go.Proofs.Ytfehfocfoegbdaa
open Go.RowKit

theorem or_is {R : Int} (a b : Int) (B : Nat) (w : World) (hb : Blk w B [.int .i64 a, .int .i64 b]) (h : (if a = 0 then b else a) = R) : Calls Try.prog 50 #[.slice (some ⟨B, 0, none⟩) 2 2] w fun e w' => e = .returned (.int .i64 R) ∧ w' = w := by subst h; exact or_any a b B w hb
set_option maxRecDepth 20000 in
set_option maxHeartbeats 2000000 in
theorem louder_any (x : ByteArray) (r : Int) (qa : Option Addr) (ql qc : Nat) (l : Bool) (d : ByteArray) (x' : ByteArray) (r' : Int) (qa' : Option Addr) (ql' qc' : Nat) (l' : Bool) (d' : ByteArray) (w : World) :
    Calls Try.prog 41 #[.agg #[.string x, .int .i64 r, .slice qa ql qc, .bool l, .string d], .agg #[.string x', .int .i64 r', .slice qa' ql' qc', .bool l', .string d']] w fun e w' => e = .returned (.int .i64 (if cI r' r = 0 then cS x x' else cI r' r)) ∧ ∃ q o1 o2 o3, w' = ((((w.alloc o1).alloc o2).drewN q).alloc o3) := by
  obtain ⟨W0, hW0⟩ : ∃ W, W = w.alloc (Obj.cells #[.string x, .int .i64 r, .slice qa ql qc, .bool l, .string d] 48) := ⟨_, rfl⟩
  obtain ⟨W1, hW1⟩ : ∃ W, W = W0.alloc (Obj.cells #[.string x', .int .i64 r', .slice qa' ql' qc', .bool l', .string d'] 48) := ⟨_, rfl⟩
  have y0 : W0.heap.size = w.heap.size + 1 := by rw [hW0]; simp
  have KA : Blk W1 w.heap.size [.string x, .int .i64 r, .slice qa ql qc, .bool l, .string d] := by rw [hW1, hW0]; exact (Blk.new _ _).alloc _
  have KB : Blk W1 (w.heap.size + 1) [.string x', .int .i64 r', .slice qa' ql' qc', .bool l', .string d'] := by rw [hW1, ← y0]; exact Blk.new _ _
  have HW : Hid (∃ o1 o2, W1 = (w.alloc o1).alloc o2) := hide ⟨_, _, by rw [hW1, hW0]⟩
  obtain ⟨R, hR⟩ : ∃ R, (if cI r' r = 0 then cS x x' else cI r' r) = R := ⟨_, rfl⟩
  have HR := hide hR
  rw [hR]
  go_enter Try.func41, Try.ntmps41
  go_upto_region 1 with fail
  rw [← hW0, ← hW1]
  have a0 : W1.cell? ⟨w.heap.size, 0, none⟩ = some (.string x) := KA.c 0 (by simp)
  have a1 : W1.cell? ⟨w.heap.size, 1, none⟩ = some (.int .i64 r) := KA.c 1 (by simp)
  have b0 : W1.cell? ⟨w.heap.size + 1, 0, none⟩ = some (.string x') := KB.c 0 (by simp)
  have b1 : W1.cell? ⟨w.heap.size + 1, 1, none⟩ = some (.int .i64 r') := KB.c 1 (by simp)
  clear hW0 hW1 y0 KA KB hR
  go_region_held3 (fun w' => w'.cell? ⟨w.heap.size, 0, none⟩ = some (.string x) ∧ w'.cell? ⟨w.heap.size, 1, none⟩ = some (.int .i64 r) ∧ w'.cell? ⟨w.heap.size + 1, 0, none⟩ = some (.string x') ∧ w'.cell? ⟨w.heap.size + 1, 1, none⟩ = some (.int .i64 r')) (go_keep)
    ((first
      | (go_at_call 51; refine (cmpI_any _ _ _).mono ?_; rintro e w' ⟨rfl, hw⟩; subst w')
      | (go_at_call 52; refine (cmpS_any _ _ _).mono ?_; rintro e w' ⟨rfl, hw⟩; subst w')
      | (go_at_call 50; refine (or_is (cI r' r) (cS x x') _ _ (by first | exact Blk.new [.int .i64 (cI r' r), .int .i64 (cS x x')] _ | exact (Blk.new [.int .i64 (cI r' r), .int .i64 (cS x x')] _).drewN 1 | (have := Blk.new (w := W1.drew) [.int .i64 (cI r' r), .int .i64 (cS x x')] 3; exact this)) (unhide HR)).mono ?_; rintro e w' ⟨rfl, hw⟩; subst w')))
  go_wp2_with fail
  go_ret
  obtain ⟨o1, o2, hW⟩ := unhide HW
  refine ⟨rfl, 1, o1, o2, Obj.cells #[.int .i64 (cI r' r), .int .i64 (cS x x')] 3, ?_⟩
  rw [← hW]
  rfl

end Go.Proofs.Ytfehfocfoegbdaa

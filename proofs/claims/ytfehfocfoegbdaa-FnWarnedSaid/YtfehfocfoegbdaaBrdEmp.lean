/-
  A board emptied: what the program's empty does. Nothing but the board's own sets is written.
-/
import Derived.Test.YtfehfocfoegbdaaBrdOps
namespace Go.Proofs.Ytfehfocfoegbdaa
open Go.RowKit Go.Maps Go.WideMaps

set_option maxRecDepth 20000 in
set_option maxHeartbeats 1000000 in
theorem empty_any (b1 b2 b3 n1 n2 n3 : Nat) (S1 S2 S3 : ByteArray → Bool) (w : World) (hb : Brd w b1 b2 b3 n1 n2 n3 S1 S2 S3) :
    Calls Try.prog 20 #[.agg #[.map (some b1), .map (some b2), .map (some b3)]] w fun e w' => e = .returned (.tuple #[]) ∧ Brd w' b1 b2 b3 0 0 0 (fun _ => false) (fun _ => false) (fun _ => false) ∧ Only b1 (b3 + 1) w w' := by
  obtain ⟨V, hV⟩ : ∃ V, V = w.alloc (Obj.cells #[.map (some b1), .map (some b2), .map (some b3)] 56) := ⟨_, rfl⟩
  have KV : Blk V w.heap.size [.map (some b1), .map (some b2), .map (some b3)] := by rw [hV]; exact Blk.new _ _
  have q1 := MapIs.lt hb.s1
  have q2 := MapIs.lt hb.s2
  have q3 := MapIs.lt hb.s3
  have l1 := hb.l1
  have l2 := hb.l2
  have bV : Brd V b1 b2 b3 n1 n2 n3 S1 S2 S3 := by rw [hV]; exact hb.below (bel1 _)
  have oV : Only b1 (b3 + 1) w V := by rw [hV]; exact Only.of_below (bel1 _)
  obtain ⟨U1, r1, s1, t1⟩ := bV.s1.clear
  have c1 := KV.turned t1 (by omega)
  have x2 := bV.s2.turned t1 (by omega)
  have x3 := bV.s3.turned t1 (by omega)
  obtain ⟨U2, r2, s2, t2⟩ := x2.clear
  have c2 := c1.turned t2 (by omega)
  have y1 := s1.turned t2 (by omega)
  have y3 := x3.turned t2 (by omega)
  obtain ⟨U3, r3, s3, t3⟩ := y3.clear
  have z1 := y1.turned t3 (by omega)
  have z2 := s2.turned t3 (by omega)
  have HB : Hid (Brd U3 b1 b2 b3 0 0 0 (fun _ => false) (fun _ => false) (fun _ => false)) := hide ⟨z1, z2, s3, l1, l2⟩
  have HO : Hid (Only b1 (b3 + 1) w U3) := hide (((oV.trans (Only.turned t1 (Nat.le_refl _) (by omega))).trans (Only.turned t2 (by omega) (by omega))).trans (Only.turned t3 (by omega) (by omega)))
  have e1 : U1.cell? ⟨w.heap.size, 1, none⟩ = some (.map (some b2)) := c1.c 1 (by simp)
  have e2 : U2.cell? ⟨w.heap.size, 2, none⟩ = some (.map (some b3)) := c2.c 2 (by simp)
  rw [hV] at r1
  clear hb hV KV q1 q2 q3 l1 l2 bV oV s1 t1 c1 x2 x3 s2 t2 c2 y1 y3 s3 t3 z1 z2
  go_enter Try.func20, Try.ntmps20
  go_wp2_with fail
  go_end0
  exact ⟨rfl, unhide HB, unhide HO⟩

end Go.Proofs.Ytfehfocfoegbdaa

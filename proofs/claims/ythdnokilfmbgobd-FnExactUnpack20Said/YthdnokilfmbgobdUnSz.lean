/-
  The program's reader of bytes, as it lies; a size read from it. Nothing is written but the reader's own memory.
-/
import Derived.Test.YthdnokilfmbgobdUnPure
import Derived.Test.YthdnokilfmbgobdRcOk
import Derived.Test.YthdnokilfmbgobdRowBy
import Derived.Test.YthdnokilfmbgobdLoopAt
namespace Go.Proofs.Ythdnokilfmbgobd
open Go Go.RowKit

/-- The reader at block U: its bytes, and where it stands. -/
structure Un (w : World) (U bb bo n bc t : Nat) (bs : List Int) : Prop where
  k : Blk w U [.slice (some ⟨bb, bo, none⟩) n bc, .int .i64 (t : Int)]
  r : RowE 1 byC w (some ⟨bb, bo, none⟩) n bs
  ne : bb ≠ U
  cap : n ≤ bc
  le : t ≤ n
  byt : ∀ i, i < n → 0 ≤ elAt bs i ∧ elAt bs i ≤ 255
  sm : n ≤ 1048576
theorem Un.below {w w' : World} {U bb bo n bc t : Nat} {bs : List Int} (h : Un w U bb bo n bc t bs) (b : Below w.heap.size w w') : Un w' U bb bo n bc t bs := ⟨h.k.below b, h.r.below b, h.ne, h.cap, h.le, h.byt, h.sm⟩
theorem rowE_far {w w' : World} {a : Option Addr} {len : Nat} {bs : List Int} {row : Option Nat} (h : RowE 1 byC w a len bs) (k : w.grownBy w' row) (hne : ∀ b o, a = some ⟨b, o, none⟩ → some b ≠ row) : RowE 1 byC w' a len bs := by
  refine ⟨h.len_eq, h.small, fun i hi => ?_⟩
  obtain ⟨b, off, ha, hc⟩ := h.at_ i hi
  refine ⟨b, off, ha, fun q hq => ?_⟩
  rw [World.cell?_of_block (a := ⟨b, off + i * 1 + q, none⟩) (k.block b (block_lt_of_cell (hc q hq)) (hne b off ha))]
  exact hc q hq
theorem Un.far {w w' : World} {U bb bo n bc t : Nat} {bs : List Int} {row : Option Nat} (h : Un w U bb bo n bc t bs) (k : w.grownBy w' row) (h1 : some U ≠ row) (h2 : some bb ≠ row) : Un w' U bb bo n bc t bs :=
  ⟨h.k.apart k h1, rowE_far h.r k (fun b o e => by cases e; exact h2), h.ne, h.cap, h.le, h.byt, h.sm⟩
theorem Un.at_ {w : World} {U bb bo n bc t s : Nat} {bs : List Int} (h : Un w U bb bo n bc t bs) (hs : s ≤ n) : Un (w.setCell ⟨U, 1, none⟩ (.int .i64 (s : Int))) U bb bo n bc s bs := by
  refine ⟨h.k.set 1 (by simp) _, ?_, h.ne, h.cap, hs, h.byt, h.sm⟩
  refine rowE_far h.r (grown_set (grown_refl w (some U)) 1 (.int .i64 (s : Int))) (fun b o e e2 => ?_)
  cases e
  exact h.ne (Option.some.inj e2)
theorem bel_grown {w w' : World} (h : Below w.heap.size w w') (row : Option Nat) : w.grownBy w' row := ⟨h.os, h.tape, h.output, h.size, fun k hk _ => h.block k hk⟩
theorem grown_on {w w1 w2 : World} {row : Option Nat} (h : w.grownBy w1 row) (k : w1.grownBy w2 row) : w.grownBy w2 row := ⟨k.os.trans h.os, k.tape.trans h.tape, k.output.trans h.output, Nat.le_trans h.size k.size, fun i hi hne => (k.block i (Nat.lt_of_lt_of_le hi h.size) hne).trans (h.block i hi hne)⟩
theorem Un.cell {w : World} {U bb bo n bc t : Nat} {bs : List Int} (h : Un w U bb bo n bc t bs) {i : Nat} (hi : i < n) : w.cell? ⟨bb, bo + i, none⟩ = some (.int .u8 (elAt bs i)) := by
  obtain ⟨b, off, ha, hc⟩ := h.r.at_ i hi
  simp only [Option.some.injEq, Addr.mk.injEq, and_true] at ha
  obtain ⟨rfl, rfl⟩ := ha
  have := hc 0 (by omega)
  rw [Nat.mul_one, Nat.add_zero] at this
  exact this

set_option maxRecDepth 20000 in
set_option maxHeartbeats 2000000 in
theorem readSize_short (U bb bo n bc t : Nat) (bs : List Int) (lo hi : Int) (w : World) (h : Un w U bb bo n bc t bs) (ht : t = n) :
    Calls Try.prog 40 #[.pointer (some ⟨U, 0, none⟩), .int .i64 lo, .int .i64 hi] w fun e w' => e = .returned (.tuple #[.int .i64 0, .int .i64 1]) ∧ Below w.heap.size w w' := by
  obtain ⟨ι, fW, _, hcb, hcl⟩ := belClass w
  have HB := hide hcb
  have HA := hide hcl
  have c0 : ∀ x, (fW x).cell? ⟨U, 0, none⟩ = some (.slice (some ⟨bb, bo, none⟩) n bc) := fun x => (h.k.below (hcb x)).c 0 (by simp)
  have c1 : ∀ x, (fW x).cell? ⟨U, 1, none⟩ = some (.int .i64 (t : Int)) := fun x => (h.k.below (hcb x)).c 1 (by simp)
  have f1 : ∀ x, (fW x).frozen? ⟨U, 1, none⟩ = false := fun x => (h.k.below (hcb x)).f 1 (by simp)
  have HUN : Hid (∀ x, Un (fW x) U bb bo n bc t bs) := hide (fun x => h.below (hcb x))
  have hsm := h.sm
  have hcap := h.cap
  have hle := h.le
  have HH := hide h
  obtain ⟨y0, hy0⟩ := hcl w (Below.refl _ _)
  have HY0 := hide hy0
  have e1 : ((t : Int) == (n : Int)) = true := by rw [ht]; simp
  clear ht
  clear h hcb hcl hy0
  go_enter Try.func40, Try.ntmps40
  go_wp2_with fail
  rw [unhide HY0]
  repeat (refine wp_region_bel (fun w' h => (unhide HA) w' ((unhide HB _).trans (h.mono (unhide HB _).size))) (by kernel_rfl) (by kernel_rfl) ?_; (repeat (go_big_quiet_step (fail))); refine wpQuiet_nil ?_; rintro _ ⟨y, rfl⟩; (first | go_wp2_with fail | go_wp2))
  refine bodyPost_ret (v := .tuple #[.int .i64 0, .int .i64 1]) (by simp [results, Try.results40, go_sem]) rfl ⟨rfl, unhide HB _⟩
set_option maxRecDepth 20000 in
set_option maxHeartbeats 2000000 in
theorem readSize_bad (U bb bo n bc t : Nat) (bs : List Int) (lo hi : Int) (w : World) (h : Un w U bb bo n bc t bs) (ht : t < n) (hq : inB (elAt bs t) lo hi = false) :
    Calls Try.prog 40 #[.pointer (some ⟨U, 0, none⟩), .int .i64 lo, .int .i64 hi] w fun e w' => e = .returned (.tuple #[.int .i64 0, .int .i64 2]) ∧ Below w.heap.size w w' := by
  obtain ⟨ι, fW, _, hcb, hcl⟩ := belClass w
  have HB := hide hcb
  have HA := hide hcl
  have c0 : ∀ x, (fW x).cell? ⟨U, 0, none⟩ = some (.slice (some ⟨bb, bo, none⟩) n bc) := fun x => (h.k.below (hcb x)).c 0 (by simp)
  have c1 : ∀ x, (fW x).cell? ⟨U, 1, none⟩ = some (.int .i64 (t : Int)) := fun x => (h.k.below (hcb x)).c 1 (by simp)
  have f1 : ∀ x, (fW x).frozen? ⟨U, 1, none⟩ = false := fun x => (h.k.below (hcb x)).f 1 (by simp)
  have HUN : Hid (∀ x, Un (fW x) U bb bo n bc t bs) := hide (fun x => h.below (hcb x))
  have hsm := h.sm
  have hcap := h.cap
  have hle := h.le
  have HH := hide h
  obtain ⟨y0, hy0⟩ := hcl w (Below.refl _ _)
  have HY0 := hide hy0
  have e1 : ((t : Int) == (n : Int)) = false := by rw [beq_eq_false_iff_ne]; omega
  have hb : ∀ x, (fW x).cell? ⟨bb, bo + t, none⟩ = some (.int .u8 (elAt bs t)) := fun x => ((unhide HUN) x).cell ht
  have hby := h.byt t ht
  obtain ⟨v, hv⟩ : ∃ v, v = elAt bs t := ⟨_, rfl⟩
  rw [← hv] at hb hby hq
  have i0 : (0 : Int) ≤ (t : Int) := by omega
  have i1 : (t : Int) < (n : Int) := by omega
  clear hv
  clear h hcb hcl hy0
  go_enter Try.func40, Try.ntmps40
  go_wp2_with fail
  rw [unhide HY0]
  repeat (refine wp_region_bel (fun w' h => (unhide HA) w' ((unhide HB _).trans (h.mono (unhide HB _).size))) (by kernel_rfl) (by kernel_rfl) ?_; (repeat (go_big_quiet_step (fail))); refine wpQuiet_nil ?_; rintro _ ⟨y, rfl⟩; (first | go_wp2_with fail | go_wp2))
  refine (within_is _ _ _ _ hq).mono ?_
  rintro e w9 ⟨rfl, hw9⟩
  subst w9
  go_wp2_with fail
  refine bodyPost_ret (v := .tuple #[.int .i64 0, .int .i64 2]) (by simp [results, Try.results40, go_sem]) rfl ⟨rfl, unhide HB _⟩
set_option maxRecDepth 20000 in
set_option maxHeartbeats 2000000 in
theorem readSize_ok (U bb bo n bc t : Nat) (bs : List Int) (lo hi : Int) (w : World) (h : Un w U bb bo n bc t bs) (ht : t < n) (hq : inB (elAt bs t) lo hi = true) :
    Calls Try.prog 40 #[.pointer (some ⟨U, 0, none⟩), .int .i64 lo, .int .i64 hi] w fun e w' => e = .returned (.tuple #[.int .i64 (elAt bs t), .int .i64 0]) ∧ Un w' U bb bo n bc (t + 1) bs ∧ w.grownBy w' (some U) := by
  obtain ⟨ι, fW, _, hcb, hcl⟩ := belClass w
  have HB := hide hcb
  have HA := hide hcl
  have c0 : ∀ x, (fW x).cell? ⟨U, 0, none⟩ = some (.slice (some ⟨bb, bo, none⟩) n bc) := fun x => (h.k.below (hcb x)).c 0 (by simp)
  have c1 : ∀ x, (fW x).cell? ⟨U, 1, none⟩ = some (.int .i64 (t : Int)) := fun x => (h.k.below (hcb x)).c 1 (by simp)
  have f1 : ∀ x, (fW x).frozen? ⟨U, 1, none⟩ = false := fun x => (h.k.below (hcb x)).f 1 (by simp)
  have HUN : Hid (∀ x, Un (fW x) U bb bo n bc t bs) := hide (fun x => h.below (hcb x))
  have hsm := h.sm
  have hcap := h.cap
  have hle := h.le
  have HH := hide h
  obtain ⟨y0, hy0⟩ := hcl w (Below.refl _ _)
  have HY0 := hide hy0
  have e1 : ((t : Int) == (n : Int)) = false := by rw [beq_eq_false_iff_ne]; omega
  have hb : ∀ x, (fW x).cell? ⟨bb, bo + t, none⟩ = some (.int .u8 (elAt bs t)) := fun x => ((unhide HUN) x).cell ht
  have hby := h.byt t ht
  obtain ⟨v, hv⟩ : ∃ v, v = elAt bs t := ⟨_, rfl⟩
  rw [← hv] at hb hby hq
  have HV := hide hv
  have i0 : (0 : Int) ≤ (t : Int) := by omega
  have i1 : (t : Int) < (n : Int) := by omega
  clear hv
  clear h hcb hcl hy0
  go_enter Try.func40, Try.ntmps40
  go_wp2_with fail
  rw [unhide HY0]
  repeat (refine wp_region_bel (fun w' h => (unhide HA) w' ((unhide HB _).trans (h.mono (unhide HB _).size))) (by kernel_rfl) (by kernel_rfl) ?_; (repeat (go_big_quiet_step (fail))); refine wpQuiet_nil ?_; rintro _ ⟨y, rfl⟩; (first | go_wp2_with fail | go_wp2))
  refine (within_is _ _ _ _ hq).mono ?_
  rintro e w9 ⟨rfl, hw9⟩
  subst w9
  go_wp2_with fail
  refine bodyPost_ret (v := .tuple #[.int .i64 v, .int .i64 0]) (by simp [results, Try.results40, go_sem]) rfl ⟨by rw [← unhide HV], ?_, ?_⟩
  · have := ((unhide HUN) y).at_ (s := t + 1) (by omega); rw [show ((t + 1 : Nat) : Int) = (t : Int) + 1 by omega] at this; exact this
  · exact grown_on (bel_grown (unhide HB y) _) (grown_set (grown_refl _ (some U)) 1 _)

end Go.Proofs.Ythdnokilfmbgobd

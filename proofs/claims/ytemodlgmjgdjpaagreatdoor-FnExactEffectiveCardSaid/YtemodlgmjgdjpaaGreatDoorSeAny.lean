/-
  What the program's Seal answers: a plain answer, at every argument; nothing that was there is written.
-/
import Derived.Test.YtemodlgmjgdjpaaGreatDoorSeSpec
import Derived.Test.YtemodlgmjgdjpaaGreatDoorMLdSpec
import Derived.LoopN
namespace Go.Proofs.YtemodlgmjgdjpaaGreatDoor
open Go Go.RowKit

set_option maxHeartbeats 2000000 in
theorem sealedWith_is (x n : Int) (w : World) (hx : 0 ≤ x ∧ x < 1000003) (hn : 0 ≤ n ∧ n ≤ 1000000) :
    Calls Tryz.prog 73 #[.int .i64 x, .int .i64 n] w fun e w' => e = .returned (.int .i64 (seS x n)) ∧ w' = w := by
  have HE := hide (seS_tmod hx.1 hn.1)
  have h1 : 0 ≤ x * 31 + n := by omega
  have HS := hide (seS.eq_1 x n)
  go_enter Tryz.func73, Tryz.ntmps73
  go_wp2
  go_ret
  exact ⟨ret_int (unhide HS).symm, rfl⟩
theorem ix5_0 (a b c d e : Int) (w : World) : (Instr.index 101 (.agg #[.int .i64 a, .int .i64 b, .int .i64 c, .int .i64 d, .int .i64 e]) (.int .i64 0)).run Tryz.prog w = .ok (.int .i64 a) w := by kernel_rfl
theorem ix5_1 (a b c d e : Int) (w : World) : (Instr.index 101 (.agg #[.int .i64 a, .int .i64 b, .int .i64 c, .int .i64 d, .int .i64 e]) (.int .i64 1)).run Tryz.prog w = .ok (.int .i64 b) w := by kernel_rfl
theorem ix5_2 (a b c d e : Int) (w : World) : (Instr.index 101 (.agg #[.int .i64 a, .int .i64 b, .int .i64 c, .int .i64 d, .int .i64 e]) (.int .i64 2)).run Tryz.prog w = .ok (.int .i64 c) w := by kernel_rfl
theorem ix5_3 (a b c d e : Int) (w : World) : (Instr.index 101 (.agg #[.int .i64 a, .int .i64 b, .int .i64 c, .int .i64 d, .int .i64 e]) (.int .i64 3)).run Tryz.prog w = .ok (.int .i64 d) w := by kernel_rfl
theorem ix5_4 (a b c d e : Int) (w : World) : (Instr.index 101 (.agg #[.int .i64 a, .int .i64 b, .int .i64 c, .int .i64 d, .int .i64 e]) (.int .i64 4)).run Tryz.prog w = .ok (.int .i64 e) w := by kernel_rfl
set_option maxRecDepth 20000 in
set_option maxHeartbeats 4000000 in
theorem seal_is (p : ByteArray) (nb le mo ne : Int) (a1 : Option Addr) (l1 c1 : Nat) (zs : List Int) (w : World) (hr : LdIn w a1 l1 zs) (hby : ∀ i, i < l1 → 0 ≤ elAt zs i ∧ elAt zs i ≤ 255) (hq : ldB ⟨p, nb, le, mo, ne, zs⟩ = true) :
    Calls Tryz.prog 37 #[.agg #[.string p, .int .i64 nb, .int .i64 le, .int .i64 mo, .int .i64 ne, .slice a1 l1 c1]] w fun e w' => e = .returned (.int .i64 (seO ⟨p, nb, le, mo, ne, zs⟩)) ∧ Below w.heap.size w w' := by
  have hz := hr.r1.len_eq
  have hsm := hr.r1.small
  have HR := hide hr
  have HBY := hide hby
  have HZ := hide hz
  obtain ⟨_, f1, f2, f3, f4, f5⟩ := ldB_facts hq
  have f1 : p.size ≤ 20 := f1.2
  have f5 : zs.length ≤ 400 := f5
  have f2 : 1 ≤ nb ∧ nb ≤ 1000000 := f2
  have f3 : 1 ≤ le ∧ le ≤ mo ∧ mo ≤ 1000000 := f3
  have f4 : 0 ≤ ne ∧ ne ≤ 1000000 := f4
  have hl400 : l1 ≤ 400 := by omega
  have hl0 : (0 : Int) ≤ (l1 : Int) := by omega
  have hl4 : (l1 : Int) ≤ 400 := by omega
  have HO : Hid (seO ⟨p, nb, le, mo, ne, zs⟩ = seF (seS (seS (seS (seS (seS (seF 7 (txL p p.size)) nb) le) mo) ne) (l1 : Int)) zs) := hide (by rw [seO_parts, ldN, ← hz]; rfl)
  obtain ⟨W, hW⟩ : ∃ W, W = (w.alloc (Obj.cells #[.string p, .int .i64 nb, .int .i64 le, .int .i64 mo, .int .i64 ne, .slice a1 l1 c1] 32)) := ⟨_, rfl⟩
  have K0 : Hid (Blk W w.heap.size [.string p, .int .i64 nb, .int .i64 le, .int .i64 mo, .int .i64 ne, .slice a1 l1 c1]) := hide (by rw [hW]; exact Blk.new _ _)
  have B0 : Hid (Below w.heap.size w W) := hide (by rw [hW]; exact bel1 _)
  have HW := hide hW
  clear hr hby hW hz f5 hq
  have c0 : W.cell? ⟨w.heap.size, 0, none⟩ = some (.string p) := (unhide K0).c 0 (by simp)
  have c1' : W.cell? ⟨w.heap.size, 1, none⟩ = some (.int .i64 nb) := (unhide K0).c 1 (by simp)
  have c2' : W.cell? ⟨w.heap.size, 2, none⟩ = some (.int .i64 le) := (unhide K0).c 2 (by simp)
  have c3' : W.cell? ⟨w.heap.size, 3, none⟩ = some (.int .i64 mo) := (unhide K0).c 3 (by simp)
  have c4' : W.cell? ⟨w.heap.size, 4, none⟩ = some (.int .i64 ne) := (unhide K0).c 4 (by simp)
  have c5' : W.cell? ⟨w.heap.size, 5, none⟩ = some (.slice a1 l1 c1) := (unhide K0).c 5 (by simp)
  go_enter Tryz.func37, Tryz.ntmps37
  go_wp2_with fail
  rw [← unhide HW]
  clear HW
  go_wp2_with fail
  go_loopw [3, 12] (fun x i wr => ∃ k : Nat, x = .int .i64 (seF 7 (txL p k)) ∧ i = .int .i64 k ∧ k ≤ p.size ∧ wr = W) (fun _ i _ => p.size - (intOf i).toNat)
  case atStart => exact ⟨0, rfl, rfl, Nat.zero_le _, rfl⟩
  case round =>
    obtain ⟨k, rfl, rfl, hk, hwr⟩ := hrel
    subst hwr
    have hxb := seF_bd (x := 7) (by omega) (txL p k)
    by_cases hlt : k < p.size
    · have hi1 : (k : Int) < (p.size : Int) := by omega
      have hi0 : (0 : Int) ≤ (k : Int) := by omega
      have hby := byAt_is hlt
      have hbd := byAt_bd p k
      have HST : Hid (seF 7 (txL p (k + 1)) = seS (seF 7 (txL p k)) (byAt p k)) := hide (by rw [txL_succ, seF_one])
      go_wp2_with (go_at_call 73; refine (sealedWith_is _ _ _ (by exact hxb) (by omega)).mono ?_; rintro e w' ⟨rfl, hw⟩; subst w')
      go_roundw
      case rel => exact ⟨k + 1, by rw [unhide HST], by go_num, by omega, by first | rfl | trivial⟩
      case measure => simp [intOf]; omega
    · have hi1 : ¬ (k : Int) < (p.size : Int) := by omega
      obtain rfl : k = p.size := by omega
      obtain ⟨X0, hX0⟩ : ∃ x, seF 7 (txL p p.size) = x := ⟨_, rfl⟩
      have b0 : 0 ≤ X0 ∧ X0 < 1000003 := by rw [← hX0]; exact hxb
      have b1 := seS_bd X0 nb
      have b2 := seS_bd (seS X0 nb) le
      have b3 := seS_bd (seS (seS X0 nb) le) mo
      have b4 := seS_bd (seS (seS (seS X0 nb) le) mo) ne
      have b5 := seS_bd (seS (seS (seS (seS X0 nb) le) mo) ne) (l1 : Int)
      rw [hX0] at HO ⊢
      clear hX0 hxb hi1 hk
      have i0 := ix5_0 nb le mo ne (l1 : Int)
      have i1 := ix5_1 nb le mo ne (l1 : Int)
      have i2 := ix5_2 nb le mo ne (l1 : Int)
      have i3 := ix5_3 nb le mo ne (l1 : Int)
      have i4 := ix5_4 nb le mo ne (l1 : Int)
      go_wp2_with fail
      refine wp_loop_rounds 6 ?_
      rw [rounds_succ]
      go_wp2_with (go_at_call 73; refine (sealedWith_is _ _ _ (by exact b0) (by omega)).mono ?_; rintro e w' ⟨rfl, hw⟩; subst w')
      rw [rounds_succ]
      go_wp2_with (go_at_call 73; refine (sealedWith_is _ _ _ (by exact b1) (by omega)).mono ?_; rintro e w' ⟨rfl, hw⟩; subst w')
      rw [rounds_succ]
      go_wp2_with (go_at_call 73; refine (sealedWith_is _ _ _ (by exact b2) (by omega)).mono ?_; rintro e w' ⟨rfl, hw⟩; subst w')
      rw [rounds_succ]
      go_wp2_with (go_at_call 73; refine (sealedWith_is _ _ _ (by exact b3) (by omega)).mono ?_; rintro e w' ⟨rfl, hw⟩; subst w')
      rw [rounds_succ]
      go_wp2_with (go_at_call 73; refine (sealedWith_is _ _ _ (by exact b4) (by omega)).mono ?_; rintro e w' ⟨rfl, hw⟩; subst w')
      obtain ⟨X, hX⟩ : ∃ x, seS (seS (seS (seS (seS X0 nb) le) mo) ne) (l1 : Int) = x := ⟨_, rfl⟩
      rw [hX] at HO b5 ⊢
      clear hX b0 b1 b2 b3 b4 i0 i1 i2 i3 i4
      rw [rounds_succ]
      go_wp2_with fail
      go_loopw [3, 47] (fun x i wq => ∃ k : Nat, x = .int .i64 (seF X (zs.take k)) ∧ i = .int .i64 k ∧ k ≤ l1 ∧ wq = wr) (fun _ i _ => l1 - (intOf i).toNat)
      case atStart => exact ⟨0, rfl, rfl, Nat.zero_le _, rfl⟩
      case round =>
        obtain ⟨k, rfl, rfl, hk, hwq⟩ := hrel
        subst hwq
        have hxb := seF_bd b5 (zs.take k)
        by_cases hlt : k < l1
        · have hi1 : (k : Int) < (l1 : Int) := by omega
          have hi0 : (0 : Int) ≤ (k : Int) := by omega
          have hbb := (unhide HBY) k hlt
          rcases (unhide HR).r1.open1 with ⟨h0, _⟩ | ⟨bb, off, rfl, _, hc⟩
          · omega
          have hcw : w.cell? ⟨bb, off + k, none⟩ = some (.int .u8 (elAt zs k)) := hc k hlt
          have hcell := ((unhide B0).cell (p := ⟨bb, off + k, none⟩) (block_lt_of_cell hcw)).trans hcw
          have hzk : k < zs.length := by have := unhide HZ; omega
          have HST := hide (seF_take (x := X) hzk)
          clear hc hcw
          obtain ⟨Y, hY⟩ : ∃ y, elAt zs k = y := ⟨_, rfl⟩
          rw [hY] at hbb hcell HST
          clear hY hzk
          go_wp2_with (go_at_call 73; refine (sealedWith_is _ _ _ (by exact hxb) (by omega)).mono ?_; rintro e w' ⟨rfl, hw⟩; subst w')
          go_roundw
          case rel => exact ⟨k + 1, by rw [unhide HST], by go_num, by omega, by first | rfl | trivial⟩
          case measure => simp [intOf]; omega
        · have hi1 : ¬ (k : Int) < (l1 : Int) := by omega
          have hkz : k = zs.length := by have := unhide HZ; omega
          have HS : Hid (seF X (zs.take k) = seO ⟨p, nb, le, mo, ne, zs⟩) := hide (by rw [unhide HO, hkz, List.take_length])
          clear hkz
          go_wp2_with fail
          go_ret
          exact ⟨ret_int (unhide HS), unhide B0⟩
set_option maxRecDepth 20000 in
set_option maxHeartbeats 4000000 in
theorem implSeal_any (p : ByteArray) (nb le mo ne : Int) (a1 : Option Addr) (l1 c1 : Nat) (zs : List Int) (w : World) (hr : LdIn w a1 l1 zs) (hby : ∀ i, i < l1 → 0 ≤ elAt zs i ∧ elAt zs i ≤ 255) (hs : p.size ≤ 9223372036854775807) :
    Calls Tryz.prog 8 #[.agg #[.string p, .int .i64 nb, .int .i64 le, .int .i64 mo, .int .i64 ne, .slice a1 l1 c1]] w fun e w' => e = .returned (.tuple #[.int .i64 (seR ⟨p, nb, le, mo, ne, zs⟩), .bool (ldB ⟨p, nb, le, mo, ne, zs⟩)]) ∧ Below w.heap.size w w' := by
  have hz := hr.r1.len_eq
  have hsm := hr.r1.small
  have HR := hide hr
  have HBY := hide hby
  clear hr hby
  obtain ⟨W, hW⟩ : ∃ W, W = (w.alloc (Obj.cells #[.string p, .int .i64 nb, .int .i64 le, .int .i64 mo, .int .i64 ne, .slice a1 l1 c1] 32)) := ⟨_, rfl⟩
  have K0 : Hid (Blk W w.heap.size [.string p, .int .i64 nb, .int .i64 le, .int .i64 mo, .int .i64 ne, .slice a1 l1 c1]) := hide (by rw [hW]; exact Blk.new _ _)
  have B0 : Hid (Below w.heap.size w W) := hide (by rw [hW]; exact bel1 _)
  have HW := hide hW
  clear hW
  cases q : ldB ⟨p, nb, le, mo, ne, zs⟩ with
  | false =>
    have HE : Hid (seR ⟨p, nb, le, mo, ne, zs⟩ = 0) := hide (by rw [seR, q]; rfl)
    go_enter Tryz.func8, Tryz.ntmps8
    go_wp2_with fail
    rw [← unhide HW]
    clear HW
    refine (implLoadOk_is p nb le mo ne a1 l1 c1 zs W hs hsm hz q).mono ?_
    rintro e w1 ⟨rfl, b1⟩
    have B1 := hide ((unhide B0).trans (b1.mono (unhide B0).size))
    clear b1 K0 B0
    go_wp2_with fail
    rw [unhide HE]
    refine bodyPost_ret (v := .tuple #[.int .i64 0, .bool false]) (by simp [results, Tryz.results8, go_sem]) rfl ⟨rfl, unhide B1⟩
  | true =>
    have HE : Hid (seR ⟨p, nb, le, mo, ne, zs⟩ = seO ⟨p, nb, le, mo, ne, zs⟩) := hide (by rw [seR, q]; rfl)
    have HQ := hide q
    go_enter Tryz.func8, Tryz.ntmps8
    go_wp2_with fail
    rw [← unhide HW]
    clear HW
    refine (implLoadOk_is p nb le mo ne a1 l1 c1 zs W hs hsm hz q).mono ?_
    rintro e w1 ⟨rfl, b1⟩
    have B1 := hide ((unhide B0).trans (b1.mono (unhide B0).size))
    have K1 := hide ((unhide K0).below b1)
    have d0 : w1.cell? ⟨w.heap.size, 0, none⟩ = some (.string p) := (unhide K1).c 0 (by simp)
    have d1 : w1.cell? ⟨w.heap.size, 1, none⟩ = some (.int .i64 nb) := (unhide K1).c 1 (by simp)
    have d2 : w1.cell? ⟨w.heap.size, 2, none⟩ = some (.int .i64 le) := (unhide K1).c 2 (by simp)
    have d3 : w1.cell? ⟨w.heap.size, 3, none⟩ = some (.int .i64 mo) := (unhide K1).c 3 (by simp)
    have d4 : w1.cell? ⟨w.heap.size, 4, none⟩ = some (.int .i64 ne) := (unhide K1).c 4 (by simp)
    have d5 : w1.cell? ⟨w.heap.size, 5, none⟩ = some (.slice a1 l1 c1) := (unhide K1).c 5 (by simp)
    clear b1 K0 B0
    go_wp2_with (go_at_call 37; refine (seal_is p nb le mo ne a1 l1 c1 zs w1 ((unhide HR).below (unhide B1)) (unhide HBY) (unhide HQ)).mono ?_; rintro e w2 ⟨rfl, b2⟩; have B2 := hide ((unhide B1).trans (b2.mono (unhide B1).size)))
    rw [unhide HE]
    refine bodyPost_ret (v := .tuple #[.int .i64 _, .bool true]) (by simp [results, Tryz.results8, go_sem]) rfl ⟨rfl, unhide B2⟩

end Go.Proofs.YtemodlgmjgdjpaaGreatDoor

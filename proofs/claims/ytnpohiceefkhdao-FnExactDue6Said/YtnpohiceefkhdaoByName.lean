/-
  What the program's byName answers: whether the list is so, and the map by name. Nothing that was there is written.
-/
import Derived.Test.YtnpohiceefkhdaoLeftIm2
import Derived.Test.YtnpohiceefkhdaoPtPure
namespace Go.Proofs.Ytnpohiceefkhdao
open Go.RowKit Go.Maps Go.WideMaps

set_option maxRecDepth 20000 in
set_option maxHeartbeats 4000000 in
theorem byNameLife_any (ad : Option Addr) (len cap : Nat) (ps : List Pt) (M : Int) (w : World) (hr : RowE 4 ptC w ad len ps) (hfit : ∀ i, ptFit (elAt ps i)) :
    Calls Try.prog 49 #[.slice ad len cap, .int .i64 M] w fun e w' => e = .returned (.tuple #[.map (some w.heap.size), .bool (okB ps M)]) ∧ (okB ps M = true → w'.ownsMap Try.prog 9 cntR w.heap.size len (mapTo ps len)) ∧ w.heap.size < w'.heap.size ∧ Below w.heap.size w w' := by
  have hmm := @run_makeMap Try.prog
  have R := hide hr
  have hs := hr.small
  have hz := hr.len_eq
  have HFIT := hide hfit
  have M0 := hide (World.ownsMap_made w Try.prog 9 cntR)
  have B0 := hide (bel1 (w := w) (Obj.map #[] 0))
  clear hr hfit
  by_cases hl : 30 < len
  · have HE := hide (okB_long (ps := ps) (M := M) (by omega))
    have hl' : (30 : Int) < (len : Int) := by omega
    clear hz
    go_enter Try.func49, Try.ntmps49
    go_wp2_with fail
    go_ret2
    exact ⟨by rw [unhide HE]; rfl, fun h => (by rw [unhide HE] at h; cases h), by simp, unhide B0⟩
  · have hl' : (len : Int) ≤ 30 := by omega
    have HZ := hide hz
    have HL30 := hide hl
    clear hz hl
    go_enter Try.func49, Try.ntmps49
    go_wp2_with fail
    clear hmm
    go_loopw [20] (fun iv wr => ∃ (k : Nat), k ≤ len ∧ iv = .int .i64 k ∧ Hid (∀ j, j < k → okAt ps M j = true) ∧ wr.ownsMap Try.prog 9 cntR w.heap.size k (mapTo ps k) ∧ w.heap.size < wr.heap.size ∧ Below w.heap.size w wr) (fun i _ => len - (intOf i).toNat)
    case atStart => exact ⟨0, Nat.zero_le _, rfl, hide (fun j hj => by omega), unhide M0, by simp, unhide B0⟩
    case round =>
      clear M0 B0
      obtain ⟨k, hk, rfl, HN, hown, hlt0, hbel⟩ := hrel
      by_cases hlt : k < len
      · obtain ⟨bb, off, rfl, hc⟩ := (unhide R).at_ k hlt
        obtain ⟨p, hp⟩ : ∃ p, elAt ps k = p := ⟨_, rfl⟩
        have c0 : w.cell? ⟨bb, off + k * 4, none⟩ = some (.string p.n) := by rw [← hp]; exact hc 0 (by omega)
        have c1 : w.cell? ⟨bb, off + k * 4 + 1, none⟩ = some (.int .i64 p.a) := by rw [← hp]; exact hc 1 (by omega)
        have c2 : w.cell? ⟨bb, off + k * 4 + 2, none⟩ = some (.int .i64 p.b) := by rw [← hp]; exact hc 2 (by omega)
        have c3 : w.cell? ⟨bb, off + k * 4 + 3, none⟩ = some (.int .i64 p.c) := by rw [← hp]; exact hc 3 (by omega)
        have c0 := (hbel.cell (block_lt_of_cell c0)).trans c0
        have c1 := (hbel.cell (block_lt_of_cell c1)).trans c1
        have c2 := (hbel.cell (block_lt_of_cell c2)).trans c2
        have c3 := (hbel.cell (block_lt_of_cell c3)).trans c3
        have hf : ptFit p := by rw [← hp]; exact unhide HFIT k
        have hsz : p.n.size ≤ maxLen := by unfold maxLen; exact hf.1
        have hsz' : p.n.size ≤ 9223372036854775807 := hf.1
        have hlt' : k < ps.length := by rw [unhide HZ]; exact hlt
        have HLT := hide hlt'
        have HF3 : Hid (fit3 p.a p.b p.c) := hide hf.2
        have hi1 : (k : Int) < (len : Int) := by omega
        have HOK : Hid (okAt ps M k = (!hasN ps k p.n && nameB p.n && in3 p.a p.b p.c M)) := hide (by unfold okAt; rw [hp])
        have HP := hide hp
        have HO := hide hown
        have HB := hide hbel
        have hkL : k < maxLen := by unfold maxLen; omega
        have HKL := hide hkL
        clear hc hown hbel hp hf hlt' hkL
        have hm : ∀ W : World, (method 230 43 (.agg #[.string p.n, .int .i64 p.a, .int .i64 p.b, .int .i64 p.c]) "loop.example/g00063/impl.nameAndCounts").run Try.prog W = .ok (45, .agg #[.string p.n, .int .i64 p.a, .int .i64 p.b, .int .i64 p.c]) W := fun _ => by kernel_rfl
        go_wp2_with fail
        refine (lifeCounts_any _ _ _ _ _).mono ?_
        rintro x w1 ⟨rfl, b1⟩
        have HO1 := ownsMap_below ((unhide HO).alloc (Obj.cells #[.string p.n, .int .i64 p.a, .int .i64 p.b, .int .i64 p.c] 43)) b1
        have z1 : wr.heap.size < w1.heap.size := by have := b1.size; simp at this; omega
        have HB1 := ((unhide HB).alloc (unhide HB).size (Obj.cells #[.string p.n, .int .i64 p.a, .int .i64 p.b, .int .i64 p.c] 43)).trans (b1.mono (by have := (unhide HB).size; simp; omega))
        have z1' := HB1.size
        obtain ⟨W1, hW1⟩ : ∃ W1, W1 = w1.alloc (Obj.cells #[.int .i64 p.a, .int .i64 p.b, .int .i64 p.c] 73) := ⟨_, rfl⟩
        have zW1 : W1.heap.size = w1.heap.size + 1 := by rw [hW1]; simp
        have HO2 : W1.ownsMap Try.prog 9 cntR w.heap.size k (mapTo ps k) := by rw [hW1]; exact HO1.alloc _
        have HK2 : Blk W1 w1.heap.size [.int .i64 p.a, .int .i64 p.b, .int .i64 p.c] := by rw [hW1]; exact Blk.new _ _
        have HB2 : Below w.heap.size w W1 := by rw [hW1]; exact HB1.alloc HB1.size _
        obtain ⟨v, pl, hrun, hv⟩ := HO2.look_ok (string_keyed Try.underlying9) Try.underlying78 (Try.zeroValue73 W1) (cntR_mk 0 0 0) (keyOf_string_mk Try.underlying9 (s := p.n) hsz)
        obtain ⟨q, rfl, _⟩ := cntR_inv hv
        have hhas : Maps.has (mapTo ps k) (Lit.string p.n.data.toList) = hasN ps k p.n := has_mapTo ps k p.n
        rw [hhas, hW1] at hrun
        obtain ⟨W2, hW2⟩ : ∃ W2, W2 = W1.alloc (Obj.cells #[.int .i64 q.1, .int .i64 q.2.1, .int .i64 q.2.2] 73) := ⟨_, rfl⟩
        have HO3 := hide (show W2.ownsMap Try.prog 9 cntR w.heap.size k (mapTo ps k) by rw [hW2]; exact HO2.alloc _)
        have HK3 := hide (show Blk W2 w1.heap.size [.int .i64 p.a, .int .i64 p.b, .int .i64 p.c] by rw [hW2]; exact HK2.alloc _)
        have HB3 := hide (show Below w.heap.size w W2 by rw [hW2]; exact HB2.alloc HB2.size _)
        have zW2 : w.heap.size < W2.heap.size := by rw [hW2]; simp; omega
        have zW2' : W2.heap.size = w1.heap.size + 2 := by rw [hW2]; simp; omega
        have HW2 := hide hW2
        have HW1 := hide hW1
        have HV := hide hv
        clear b1 c0 c1 c2 c3 HO1 HB1 HO2 HK2 HB2 hv hhas hW1 hW2 HO HB zW1 hm
        cases g1 : hasN ps k p.n with
        | true =>
          have HE := hide (okB_at (unhide HLT) (by rw [unhide HOK, g1]; rfl))
          rw [g1] at hrun
          clear g1
          go_wp2_with fail
          rw [← unhide HW1, ← unhide HW2]
          go_ret2
          exact ⟨by rw [unhide HE]; rfl, fun h => (by rw [unhide HE] at h; cases h), zW2, unhide HB3⟩
        | false =>
        rw [g1] at hrun
        have G1 := hide g1
        clear g1
        cases g2 : nameB p.n with
        | false =>
          have HE := hide (okB_at (unhide HLT) (by rw [unhide HOK, g2]; simp))
          have G2 := hide g2
          clear g2
          go_wp2_with fail
          rw [← unhide HW1, ← unhide HW2]
          refine (nameOk_any _ _ hsz').mono ?_
          rintro x w' ⟨rfl, hw⟩
          subst w'
          have g2 := unhide G2
          go_wp2_with fail
          go_ret2
          exact ⟨by rw [unhide HE]; rfl, fun h => (by rw [unhide HE] at h; cases h), zW2, unhide HB3⟩
        | true =>
        have G2 := hide g2
        clear g2
        cases g3 : in3 p.a p.b p.c M with
        | false =>
          have HE := hide (okB_at (unhide HLT) (by rw [unhide HOK, g3]; simp))
          have G3 := hide g3
          clear g3
          go_wp2_with fail
          rw [← unhide HW1, ← unhide HW2]
          refine (nameOk_any _ _ hsz').mono ?_
          rintro x w' ⟨rfl, hw⟩
          subst w'
          have g2 := unhide G2
          go_wp2_with fail
          refine (allWithin3 _ _ _ _ _ _ _ (unhide HK3) (unhide HF3)).mono ?_
          rintro x w4 ⟨rfl, n4, rfl⟩
          have g3 := unhide G3
          go_wp2_with fail
          go_ret2
          exact ⟨by rw [unhide HE]; rfl, fun h => (by rw [unhide HE] at h; cases h), zW2, (unhide HB3).trans (bel0d' _)⟩
        | true =>
        have HY : Hid (okAt ps M k = true) := hide (by rw [unhide HOK, unhide G1, unhide G2, g3]; rfl)
        have G3 := hide g3
        clear g3
        go_wp2_with fail
        rw [← unhide HW1, ← unhide HW2]
        refine (nameOk_any _ _ hsz').mono ?_
        rintro x w' ⟨rfl, hw⟩
        subst w'
        have g2 := unhide G2
        go_wp2_with fail
        refine (allWithin3 _ _ _ _ _ _ _ (unhide HK3) (unhide HF3)).mono ?_
        rintro x w4 ⟨rfl, n4, rfl⟩
        have g3 := unhide G3
        have HO4 : (W2.drewN n4).ownsMap Try.prog 9 cntR w.heap.size k (mapTo ps k) := ownsMap_below (unhide HO3) (bel0d n4)
        obtain ⟨w5, hup, hown5, hg5⟩ := HO4.update (string_keyed Try.underlying9) Try.underlying78 (unhide HKL) (keyOf_string_mk Try.underlying9 (s := p.n) hsz) (cntR_mk p.a p.b p.c)
        have HM1 : Hid (w5.ownsMap Try.prog 9 cntR w.heap.size (k + 1) (mapTo ps (k + 1))) := hide (by
          have e : mapTo ps (k + 1) = (mapTo ps k).put (keyL p.n) (cntD p.a p.b p.c) := by simp only [mapTo, unhide HP]
          rw [e]; exact hown5)
        have HB5 := hide (((unhide HB3).trans (bel0d' n4)).grown hg5 ((unhide HB3).trans (bel0d' n4)).size (fun j hj => by cases hj; exact Nat.le_refl _))
        have z5 : w.heap.size < w5.heap.size := Nat.lt_of_lt_of_le zW2 hg5.size
        have e0 : W2.cell? ⟨w1.heap.size, 0, none⟩ = some (.int .i64 p.a) := (unhide HK3).c 0 (by simp)
        have e1 : W2.cell? ⟨w1.heap.size, 1, none⟩ = some (.int .i64 p.b) := (unhide HK3).c 1 (by simp)
        have e2 : W2.cell? ⟨w1.heap.size, 2, none⟩ = some (.int .i64 p.c) := (unhide HK3).c 2 (by simp)
        clear hown5 hg5 HO4
        go_wp2_with fail
        go_roundw
        case rel => exact ⟨k + 1, by omega, by go_num, hide (fun j hj => by rcases Nat.lt_succ_iff_lt_or_eq.1 hj with h | h; exact unhide HN j h; subst h; exact unhide HY), unhide HM1, z5, unhide HB5⟩
        case measure => simp [intOf]; omega
      · have hkl : k = len := by omega
        have HE : Hid (okB ps M = true) := hide (okB_all (by have := unhide HL30; have := unhide HZ; omega) (fun j hj => unhide HN j (by have := unhide HZ; omega)))
        have HO : Hid (wr.ownsMap Try.prog 9 cntR w.heap.size len (mapTo ps len)) := hide (by rw [← hkl]; exact hown)
        have HB := hide hbel
        have hi1 : ¬ (k : Int) < (len : Int) := by omega
        clear hown hbel hkl
        go_wp2_with fail
        go_ret2
        exact ⟨by rw [unhide HE]; rfl, fun _ => unhide HO, hlt0, unhide HB⟩

set_option maxRecDepth 20000 in
set_option maxHeartbeats 4000000 in
theorem byNameStay_any (ad : Option Addr) (len cap : Nat) (ps : List Pt) (M : Int) (w : World) (hr : RowE 4 ptC w ad len ps) (hfit : ∀ i, ptFit (elAt ps i)) :
    Calls Try.prog 50 #[.slice ad len cap, .int .i64 M] w fun e w' => e = .returned (.tuple #[.map (some w.heap.size), .bool (okB ps M)]) ∧ (okB ps M = true → w'.ownsMap Try.prog 9 cntR w.heap.size len (mapTo ps len)) ∧ w.heap.size < w'.heap.size ∧ Below w.heap.size w w' := by
  have hmm := @run_makeMap Try.prog
  have R := hide hr
  have hs := hr.small
  have hz := hr.len_eq
  have HFIT := hide hfit
  have M0 := hide (World.ownsMap_made w Try.prog 9 cntR)
  have B0 := hide (bel1 (w := w) (Obj.map #[] 0))
  clear hr hfit
  by_cases hl : 30 < len
  · have HE := hide (okB_long (ps := ps) (M := M) (by omega))
    have hl' : (30 : Int) < (len : Int) := by omega
    clear hz
    go_enter Try.func50, Try.ntmps50
    go_wp2_with fail
    go_ret2
    exact ⟨by rw [unhide HE]; rfl, fun h => (by rw [unhide HE] at h; cases h), by simp, unhide B0⟩
  · have hl' : (len : Int) ≤ 30 := by omega
    have HZ := hide hz
    have HL30 := hide hl
    clear hz hl
    go_enter Try.func50, Try.ntmps50
    go_wp2_with fail
    clear hmm
    go_loopw [20] (fun iv wr => ∃ (k : Nat), k ≤ len ∧ iv = .int .i64 k ∧ Hid (∀ j, j < k → okAt ps M j = true) ∧ wr.ownsMap Try.prog 9 cntR w.heap.size k (mapTo ps k) ∧ w.heap.size < wr.heap.size ∧ Below w.heap.size w wr) (fun i _ => len - (intOf i).toNat)
    case atStart => exact ⟨0, Nat.zero_le _, rfl, hide (fun j hj => by omega), unhide M0, by simp, unhide B0⟩
    case round =>
      clear M0 B0
      obtain ⟨k, hk, rfl, HN, hown, hlt0, hbel⟩ := hrel
      by_cases hlt : k < len
      · obtain ⟨bb, off, rfl, hc⟩ := (unhide R).at_ k hlt
        obtain ⟨p, hp⟩ : ∃ p, elAt ps k = p := ⟨_, rfl⟩
        have c0 : w.cell? ⟨bb, off + k * 4, none⟩ = some (.string p.n) := by rw [← hp]; exact hc 0 (by omega)
        have c1 : w.cell? ⟨bb, off + k * 4 + 1, none⟩ = some (.int .i64 p.a) := by rw [← hp]; exact hc 1 (by omega)
        have c2 : w.cell? ⟨bb, off + k * 4 + 2, none⟩ = some (.int .i64 p.b) := by rw [← hp]; exact hc 2 (by omega)
        have c3 : w.cell? ⟨bb, off + k * 4 + 3, none⟩ = some (.int .i64 p.c) := by rw [← hp]; exact hc 3 (by omega)
        have c0 := (hbel.cell (block_lt_of_cell c0)).trans c0
        have c1 := (hbel.cell (block_lt_of_cell c1)).trans c1
        have c2 := (hbel.cell (block_lt_of_cell c2)).trans c2
        have c3 := (hbel.cell (block_lt_of_cell c3)).trans c3
        have hf : ptFit p := by rw [← hp]; exact unhide HFIT k
        have hsz : p.n.size ≤ maxLen := by unfold maxLen; exact hf.1
        have hsz' : p.n.size ≤ 9223372036854775807 := hf.1
        have hlt' : k < ps.length := by rw [unhide HZ]; exact hlt
        have HLT := hide hlt'
        have HF3 : Hid (fit3 p.a p.b p.c) := hide hf.2
        have hi1 : (k : Int) < (len : Int) := by omega
        have HOK : Hid (okAt ps M k = (!hasN ps k p.n && nameB p.n && in3 p.a p.b p.c M)) := hide (by unfold okAt; rw [hp])
        have HP := hide hp
        have HO := hide hown
        have HB := hide hbel
        have hkL : k < maxLen := by unfold maxLen; omega
        have HKL := hide hkL
        clear hc hown hbel hp hf hlt' hkL
        have hm : ∀ W : World, (method 230 45 (.agg #[.string p.n, .int .i64 p.a, .int .i64 p.b, .int .i64 p.c]) "loop.example/g00063/impl.nameAndCounts").run Try.prog W = .ok (46, .agg #[.string p.n, .int .i64 p.a, .int .i64 p.b, .int .i64 p.c]) W := fun _ => by kernel_rfl
        go_wp2_with fail
        refine (stayCounts_any _ _ _ _ _).mono ?_
        rintro x w1 ⟨rfl, b1⟩
        have HO1 := ownsMap_below ((unhide HO).alloc (Obj.cells #[.string p.n, .int .i64 p.a, .int .i64 p.b, .int .i64 p.c] 45)) b1
        have z1 : wr.heap.size < w1.heap.size := by have := b1.size; simp at this; omega
        have HB1 := ((unhide HB).alloc (unhide HB).size (Obj.cells #[.string p.n, .int .i64 p.a, .int .i64 p.b, .int .i64 p.c] 45)).trans (b1.mono (by have := (unhide HB).size; simp; omega))
        have z1' := HB1.size
        obtain ⟨W1, hW1⟩ : ∃ W1, W1 = w1.alloc (Obj.cells #[.int .i64 p.a, .int .i64 p.b, .int .i64 p.c] 73) := ⟨_, rfl⟩
        have zW1 : W1.heap.size = w1.heap.size + 1 := by rw [hW1]; simp
        have HO2 : W1.ownsMap Try.prog 9 cntR w.heap.size k (mapTo ps k) := by rw [hW1]; exact HO1.alloc _
        have HK2 : Blk W1 w1.heap.size [.int .i64 p.a, .int .i64 p.b, .int .i64 p.c] := by rw [hW1]; exact Blk.new _ _
        have HB2 : Below w.heap.size w W1 := by rw [hW1]; exact HB1.alloc HB1.size _
        obtain ⟨v, pl, hrun, hv⟩ := HO2.look_ok (string_keyed Try.underlying9) Try.underlying78 (Try.zeroValue73 W1) (cntR_mk 0 0 0) (keyOf_string_mk Try.underlying9 (s := p.n) hsz)
        obtain ⟨q, rfl, _⟩ := cntR_inv hv
        have hhas : Maps.has (mapTo ps k) (Lit.string p.n.data.toList) = hasN ps k p.n := has_mapTo ps k p.n
        rw [hhas, hW1] at hrun
        obtain ⟨W2, hW2⟩ : ∃ W2, W2 = W1.alloc (Obj.cells #[.int .i64 q.1, .int .i64 q.2.1, .int .i64 q.2.2] 73) := ⟨_, rfl⟩
        have HO3 := hide (show W2.ownsMap Try.prog 9 cntR w.heap.size k (mapTo ps k) by rw [hW2]; exact HO2.alloc _)
        have HK3 := hide (show Blk W2 w1.heap.size [.int .i64 p.a, .int .i64 p.b, .int .i64 p.c] by rw [hW2]; exact HK2.alloc _)
        have HB3 := hide (show Below w.heap.size w W2 by rw [hW2]; exact HB2.alloc HB2.size _)
        have zW2 : w.heap.size < W2.heap.size := by rw [hW2]; simp; omega
        have zW2' : W2.heap.size = w1.heap.size + 2 := by rw [hW2]; simp; omega
        have HW2 := hide hW2
        have HW1 := hide hW1
        have HV := hide hv
        clear b1 c0 c1 c2 c3 HO1 HB1 HO2 HK2 HB2 hv hhas hW1 hW2 HO HB zW1 hm
        cases g1 : hasN ps k p.n with
        | true =>
          have HE := hide (okB_at (unhide HLT) (by rw [unhide HOK, g1]; rfl))
          rw [g1] at hrun
          clear g1
          go_wp2_with fail
          rw [← unhide HW1, ← unhide HW2]
          go_ret2
          exact ⟨by rw [unhide HE]; rfl, fun h => (by rw [unhide HE] at h; cases h), zW2, unhide HB3⟩
        | false =>
        rw [g1] at hrun
        have G1 := hide g1
        clear g1
        cases g2 : nameB p.n with
        | false =>
          have HE := hide (okB_at (unhide HLT) (by rw [unhide HOK, g2]; simp))
          have G2 := hide g2
          clear g2
          go_wp2_with fail
          rw [← unhide HW1, ← unhide HW2]
          refine (nameOk_any _ _ hsz').mono ?_
          rintro x w' ⟨rfl, hw⟩
          subst w'
          have g2 := unhide G2
          go_wp2_with fail
          go_ret2
          exact ⟨by rw [unhide HE]; rfl, fun h => (by rw [unhide HE] at h; cases h), zW2, unhide HB3⟩
        | true =>
        have G2 := hide g2
        clear g2
        cases g3 : in3 p.a p.b p.c M with
        | false =>
          have HE := hide (okB_at (unhide HLT) (by rw [unhide HOK, g3]; simp))
          have G3 := hide g3
          clear g3
          go_wp2_with fail
          rw [← unhide HW1, ← unhide HW2]
          refine (nameOk_any _ _ hsz').mono ?_
          rintro x w' ⟨rfl, hw⟩
          subst w'
          have g2 := unhide G2
          go_wp2_with fail
          refine (allWithin3 _ _ _ _ _ _ _ (unhide HK3) (unhide HF3)).mono ?_
          rintro x w4 ⟨rfl, n4, rfl⟩
          have g3 := unhide G3
          go_wp2_with fail
          go_ret2
          exact ⟨by rw [unhide HE]; rfl, fun h => (by rw [unhide HE] at h; cases h), zW2, (unhide HB3).trans (bel0d' _)⟩
        | true =>
        have HY : Hid (okAt ps M k = true) := hide (by rw [unhide HOK, unhide G1, unhide G2, g3]; rfl)
        have G3 := hide g3
        clear g3
        go_wp2_with fail
        rw [← unhide HW1, ← unhide HW2]
        refine (nameOk_any _ _ hsz').mono ?_
        rintro x w' ⟨rfl, hw⟩
        subst w'
        have g2 := unhide G2
        go_wp2_with fail
        refine (allWithin3 _ _ _ _ _ _ _ (unhide HK3) (unhide HF3)).mono ?_
        rintro x w4 ⟨rfl, n4, rfl⟩
        have g3 := unhide G3
        have HO4 : (W2.drewN n4).ownsMap Try.prog 9 cntR w.heap.size k (mapTo ps k) := ownsMap_below (unhide HO3) (bel0d n4)
        obtain ⟨w5, hup, hown5, hg5⟩ := HO4.update (string_keyed Try.underlying9) Try.underlying78 (unhide HKL) (keyOf_string_mk Try.underlying9 (s := p.n) hsz) (cntR_mk p.a p.b p.c)
        have HM1 : Hid (w5.ownsMap Try.prog 9 cntR w.heap.size (k + 1) (mapTo ps (k + 1))) := hide (by
          have e : mapTo ps (k + 1) = (mapTo ps k).put (keyL p.n) (cntD p.a p.b p.c) := by simp only [mapTo, unhide HP]
          rw [e]; exact hown5)
        have HB5 := hide (((unhide HB3).trans (bel0d' n4)).grown hg5 ((unhide HB3).trans (bel0d' n4)).size (fun j hj => by cases hj; exact Nat.le_refl _))
        have z5 : w.heap.size < w5.heap.size := Nat.lt_of_lt_of_le zW2 hg5.size
        have e0 : W2.cell? ⟨w1.heap.size, 0, none⟩ = some (.int .i64 p.a) := (unhide HK3).c 0 (by simp)
        have e1 : W2.cell? ⟨w1.heap.size, 1, none⟩ = some (.int .i64 p.b) := (unhide HK3).c 1 (by simp)
        have e2 : W2.cell? ⟨w1.heap.size, 2, none⟩ = some (.int .i64 p.c) := (unhide HK3).c 2 (by simp)
        clear hown5 hg5 HO4
        go_wp2_with fail
        go_roundw
        case rel => exact ⟨k + 1, by omega, by go_num, hide (fun j hj => by rcases Nat.lt_succ_iff_lt_or_eq.1 hj with h | h; exact unhide HN j h; subst h; exact unhide HY), unhide HM1, z5, unhide HB5⟩
        case measure => simp [intOf]; omega
      · have hkl : k = len := by omega
        have HE : Hid (okB ps M = true) := hide (okB_all (by have := unhide HL30; have := unhide HZ; omega) (fun j hj => unhide HN j (by have := unhide HZ; omega)))
        have HO : Hid (wr.ownsMap Try.prog 9 cntR w.heap.size len (mapTo ps len)) := hide (by rw [← hkl]; exact hown)
        have HB := hide hbel
        have hi1 : ¬ (k : Int) < (len : Int) := by omega
        clear hown hbel hkl
        go_wp2_with fail
        go_ret2
        exact ⟨by rw [unhide HE]; rfl, fun _ => unhide HO, hlt0, unhide HB⟩

end Go.Proofs.Ytnpohiceefkhdao

/-
  What SumOf answers in the model: the plain sums and flag, at every list of items; nothing that was there is written.
-/
import Derived.Test.YtigpemoicfdfcaiSumPure
import Derived.Test.YtigpemoicfdfcaiSmall
namespace Go.Proofs.Ytigpemoicfdfcai
open Go.RowKit

/-- After k rounds: the variable in block V, the result in block R. -/
structure SumSt (w wr : World) (R V : Nat) (ps : List (Int × Int)) (k : Nat) : Prop where
  m : wr.cell? ⟨V, 0, none⟩ = some (.int .i64 (sumM ps k))
  q : wr.cell? ⟨V, 1, none⟩ = some (.int .i64 (sumQ ps k))
  fm : wr.frozen? ⟨V, 0, none⟩ = false
  fq : wr.frozen? ⟨V, 1, none⟩ = false
  r0 : wr.cell? ⟨R, 0, none⟩ = some (.int .i64 0)
  r1 : wr.cell? ⟨R, 1, none⟩ = some (.int .i64 0)
  f0 : wr.frozen? ⟨R, 0, none⟩ = false
  f1 : wr.frozen? ⟨R, 1, none⟩ = false
  bel : Below w.heap.size w wr
  lt : V < wr.heap.size
  ok : ∀ j, j < k → itemB (fstAt ps j) (sndAt ps j) = true

theorem SumSt.alloc {w wr : World} {R V : Nat} {ps : List (Int × Int)} {k : Nat} (h : SumSt w wr R V ps k) (hR : R < V) (o : Obj) : SumSt w (wr.alloc o) R V ps k := by
  have hlt := h.lt
  have hltR : R < wr.heap.size := by omega
  exact ⟨((bel1 o).cell (p := ⟨V, 0, none⟩) hlt).trans h.m, ((bel1 o).cell (p := ⟨V, 1, none⟩) hlt).trans h.q, ((bel1 o).frozen (p := ⟨V, 0, none⟩) hlt).trans h.fm, ((bel1 o).frozen (p := ⟨V, 1, none⟩) hlt).trans h.fq,
    ((bel1 o).cell (p := ⟨R, 0, none⟩) hltR).trans h.r0, ((bel1 o).cell (p := ⟨R, 1, none⟩) hltR).trans h.r1, ((bel1 o).frozen (p := ⟨R, 0, none⟩) hltR).trans h.f0, ((bel1 o).frozen (p := ⟨R, 1, none⟩) hltR).trans h.f1,
    h.bel.alloc h.bel.size o, by simp; omega, h.ok⟩

theorem SumSt.step {w wr : World} {R V : Nat} {ps : List (Int × Int)} {k : Nat} (h : SumSt w wr R V ps k) (hw : w.heap.size ≤ V) (hR : R < V) (hok : itemB (fstAt ps k) (sndAt ps k) = true) (o : Obj) :
    SumSt w (((wr.setCell ⟨V, 0, none⟩ (.int .i64 (sumM ps k + fstAt ps k))).setCell ⟨V, 1, none⟩ (.int .i64 (sumQ ps k + fstAt ps k * sndAt ps k))).alloc o) R V ps (k + 1) := by
  have hlt := h.lt
  refine SumSt.alloc ⟨?_, ?_, ?_, ?_, ?_, ?_, ?_, ?_, ?_, ?_, ?_⟩ hR o
  · rw [World.cell?_setCell_other _ _ _ _ (by simp)]
    exact World.cell?_setCell_same _ _ _ h.m
  · refine World.cell?_setCell_same (u := .int .i64 (sumQ ps k)) _ _ _ ?_
    rw [World.cell?_setCell_other _ _ _ _ (by simp)]
    exact h.q
  · simp [h.fm]
  · simp [h.fq]
  · rw [World.cell?_setCell_other _ _ _ _ (by simp), World.cell?_setCell_other _ _ _ _ (by simp)]; exact h.r0
  · rw [World.cell?_setCell_other _ _ _ _ (by simp), World.cell?_setCell_other _ _ _ _ (by simp)]; exact h.r1
  · simp [h.f0]
  · simp [h.f1]
  · exact (h.bel.setCell hw _).setCell hw _
  · simp [World.setCell]; omega
  · intro j hj
    rcases Nat.lt_succ_iff_lt_or_eq.1 hj with e | e
    · exact h.ok j e
    · subst e; exact hok

theorem SumSt.below {w wr w' : World} {R V : Nat} {ps : List (Int × Int)} {k : Nat} (h : SumSt w wr R V ps k) (hR : R < V) (b : Below wr.heap.size wr w') : SumSt w w' R V ps k := by
  have hlt := h.lt
  have hltR : R < wr.heap.size := by omega
  exact ⟨(b.cell (p := ⟨V, 0, none⟩) hlt).trans h.m, (b.cell (p := ⟨V, 1, none⟩) hlt).trans h.q, (b.frozen (p := ⟨V, 0, none⟩) hlt).trans h.fm, (b.frozen (p := ⟨V, 1, none⟩) hlt).trans h.fq,
    (b.cell (p := ⟨R, 0, none⟩) hltR).trans h.r0, (b.cell (p := ⟨R, 1, none⟩) hltR).trans h.r1, (b.frozen (p := ⟨R, 0, none⟩) hltR).trans h.f0, (b.frozen (p := ⟨R, 1, none⟩) hltR).trans h.f1,
    h.bel.trans (b.mono h.bel.size), by have := b.size; omega, h.ok⟩

theorem SumSt.set {w wr : World} {R V : Nat} {ps : List (Int × Int)} {k : Nat} (h : SumSt w wr R V ps k) (hw : w.heap.size ≤ V) (hR : R < V) (hok : itemB (fstAt ps k) (sndAt ps k) = true) :
    SumSt w ((wr.setCell ⟨V, 0, none⟩ (.int .i64 (sumM ps k + fstAt ps k))).setCell ⟨V, 1, none⟩ (.int .i64 (sumQ ps k + fstAt ps k * sndAt ps k))) R V ps (k + 1) := by
  have hlt := h.lt
  refine ⟨?_, ?_, ?_, ?_, ?_, ?_, ?_, ?_, ?_, ?_, ?_⟩
  · rw [World.cell?_setCell_other _ _ _ _ (by simp)]
    exact World.cell?_setCell_same _ _ _ h.m
  · refine World.cell?_setCell_same (u := .int .i64 (sumQ ps k)) _ _ _ ?_
    rw [World.cell?_setCell_other _ _ _ _ (by simp)]
    exact h.q
  · simp [h.fm]
  · simp [h.fq]
  · rw [World.cell?_setCell_other _ _ _ _ (by simp), World.cell?_setCell_other _ _ _ _ (by simp)]; exact h.r0
  · rw [World.cell?_setCell_other _ _ _ _ (by simp), World.cell?_setCell_other _ _ _ _ (by simp)]; exact h.r1
  · simp [h.f0]
  · simp [h.f1]
  · exact (h.bel.setCell hw _).setCell hw _
  · simp [World.setCell]; omega
  · intro j hj
    rcases Nat.lt_succ_iff_lt_or_eq.1 hj with e | e
    · exact h.ok j e
    · subst e; exact hok

set_option maxHeartbeats 2000000 in
theorem specSumOf_any (ad : Option Addr) (len cap : Nat) (ps : List (Int × Int)) (w : World) (hr : Row2 w ad len ps) :
    Calls Try.prog 27 #[.slice ad len cap] w fun e w' => e = .returned (.tuple #[.agg #[.int .i64 (sumA ps), .int .i64 (sumB ps)], .bool (sumFlag ps)]) ∧ Below w.heap.size w w' := by
  have hz := hr.len_eq
  have hs := hr.small
  have HO := hide hr.open_
  clear hr
  subst hz
  go_enter Try.func27, Try.ntmps27
  go_wp2
  have h00 : SumSt w ((w.alloc (Obj.cells #[Value.int IntKind.i64 0, Value.int IntKind.i64 0] 54)).alloc (Obj.cells #[Value.int IntKind.i64 0, Value.int IntKind.i64 0] 54)) w.heap.size (w.heap.size + 1) ps 0 :=
    ⟨by simp [go_sem, sumM], by simp [go_sem, sumQ], by simp [go_sem], by simp [go_sem], by simp [go_sem], by simp [go_sem], by simp [go_sem], by simp [go_sem], bel2 _ _, by simp, fun j hj => by omega⟩
  go_loopw [5] (fun i wr => ∃ k : Nat, k ≤ ps.length ∧ i = .int .i64 k ∧ SumSt w wr w.heap.size (w.heap.size + 1) ps k ∧ (0 < k → ps.length ≤ 40)) (fun i _ => ps.length - (intOf i).toNat)
  case atStart => exact ⟨0, Nat.zero_le _, rfl, h00, fun h => absurd h (Nat.lt_irrefl _)⟩
  case round =>
    clear h00
    obtain ⟨k, hk, rfl, hst, hmany⟩ := hrel
    by_cases hlt : k < ps.length
    · rcases (unhide HO) with ⟨h0, _⟩ | ⟨bb, off, rfl, _, hc⟩
      · simp [h0] at hlt
      obtain ⟨ca, cb⟩ := hc k hlt
      have ca := (hst.bel.cell (block_lt_of_cell ca)).trans ca
      have cb := (hst.bel.cell (block_lt_of_cell cb)).trans cb
      have lca := block_lt_of_cell ca
      have m0 := hst.m
      have m1 := hst.q
      have z0 := hst.r0
      have z1 := hst.r1
      have fz0 := hst.f0
      have fz1 := hst.f1
      have fm0 := hst.fm
      have fm1 := hst.fq
      have hV := hst.lt
      have hR : w.heap.size < wr.heap.size := by omega
      have HS := hide hst
      have hi1 : (k : Int) < (ps.length : Int) := by omega
      clear hc hst
      by_cases hbig : ps.length ≤ 40
      · have hgt : ¬ (40 : Int) < (ps.length : Int) := by omega
        cases hm : inB (fstAt ps k) 0 10000
        · have HE := hide (sum_bad hlt (show itemB (fstAt ps k) (sndAt ps k) = false from by simp [itemB, hm]))
          go_wp2_with (go_at_call 34; refine (l1In_any _ _ _ _).mono ?_; rintro e w' ⟨rfl, hw⟩; subst w')
          refine bodyPost_ret (v := .tuple #[.agg #[.int .i64 0, .int .i64 0], .bool false]) (by simp [results, Try.results27, go_sem, *]) rfl ⟨by rw [(unhide HE).1, (unhide HE).2.1, (unhide HE).2.2], ?_⟩
          repeat (first | exact (unhide HS).bel | refine Below.setCell ?_ (by simp; try omega) _ | refine Below.alloc ?_ (by simp; try omega) _)
        · cases ha : inB (sndAt ps k) (-1000) 1000
          · have HE := hide (sum_bad hlt (show itemB (fstAt ps k) (sndAt ps k) = false from by simp [itemB, ha]))
            go_wp2_with (go_at_call 34; refine (l1In_any _ _ _ _).mono ?_; rintro e w' ⟨rfl, hw⟩; subst w')
            refine bodyPost_ret (v := .tuple #[.agg #[.int .i64 0, .int .i64 0], .bool false]) (by simp [results, Try.results27, go_sem, *]) rfl ⟨by rw [(unhide HE).1, (unhide HE).2.1, (unhide HE).2.2], ?_⟩
            repeat (first | exact (unhide HS).bel | refine Below.setCell ?_ (by simp; try omega) _ | refine Below.alloc ?_ (by simp; try omega) _)
          · have hok : itemB (fstAt ps k) (sndAt ps k) = true := by simp [itemB, hm, ha]
            have fct := item_facts hok
            have bd := sum_bd k (unhide HS).ok
            have HT := hide ((unhide HS).step (by omega) (by omega) hok (Obj.cells #[Value.int IntKind.i64 (fstAt ps k), Value.int IntKind.i64 (sndAt ps k)] 79))
            clear hok
            go_wp2_with (go_at_call 34; refine (l1In_any _ _ _ _).mono ?_; rintro e w' ⟨rfl, hw⟩; subst w')
            go_roundw
            case rel => exact ⟨k + 1, by omega, by go_num, unhide HT, fun _ => hbig⟩
            case measure => simp [intOf]; omega
      · have HE := hide (sum_many hbig)
        have hgt : (40 : Int) < (ps.length : Int) := by omega
        go_wp2
        refine bodyPost_ret (v := .tuple #[.agg #[.int .i64 0, .int .i64 0], .bool false]) (by simp [results, Try.results27, go_sem, *]) rfl ⟨by rw [(unhide HE).1, (unhide HE).2.1, (unhide HE).2.2], ?_⟩
        repeat (first | exact (unhide HS).bel | refine Below.setCell ?_ (by simp; try omega) _ | refine Below.alloc ?_ (by simp; try omega) _)
    · have hkk : k = ps.length := by omega
      subst hkk
      have hbig : ps.length ≤ 40 := by
        rcases Nat.eq_zero_or_pos ps.length with h | h
        · omega
        · exact hmany h
      have HE := hide (sum_good hbig hst.ok)
      have m0 := hst.m
      have m1 := hst.q
      have z0 := hst.r0
      have z1 := hst.r1
      have fz0 := hst.f0
      have fz1 := hst.f1
      have HS := hide hst
      clear hst hmany
      go_wp2
      refine bodyPost_ret (v := .tuple #[.agg #[.int .i64 (sumM ps ps.length), .int .i64 (sumQ ps ps.length)], .bool true]) (by simp [results, Try.results27, go_sem, *]) rfl ⟨by rw [(unhide HE).1, (unhide HE).2.1, (unhide HE).2.2], ?_⟩
      repeat (first | exact (unhide HS).bel | refine Below.setCell ?_ (by simp; try omega) _ | refine Below.alloc ?_ (by simp; try omega) _)

end Go.Proofs.Ytigpemoicfdfcai

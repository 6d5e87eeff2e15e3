/-
  What SumOf answers in the program: the plain sums and flag, at every list of items; nothing that was there is written.
-/
import Derived.Test.YtbaocifpifbldaaSumSpec
import Derived.Test.YtbaocifpifbldaaLoad
namespace Go.Proofs.Ytbaocifpifbldaa
open Go.RowKit

set_option maxHeartbeats 2000000 in
theorem implSumOf_any (ad : Option Addr) (len cap : Nat) (ps : List (Int × Int)) (w : World) (hr : Row2 w ad len ps) :
    Calls Try.prog 24 #[.slice ad len cap] w fun e w' => e = .returned (.tuple #[.agg #[.int .i64 (sumA ps), .int .i64 (sumB ps)], .bool (sumFlag ps)]) ∧ Below w.heap.size w w' := by
  have hz := hr.len_eq
  have hs := hr.small
  have HO := hide hr.open_
  clear hr
  subst hz
  by_cases hbig : ps.length ≤ 40
  · have hgt : ¬ (40 : Int) < (ps.length : Int) := by omega
    go_enter Try.func24, Try.ntmps24
    go_wp2
    have h00 : SumSt w ((w.alloc (Obj.cells #[Value.int IntKind.i64 0, Value.int IntKind.i64 0] 54)).alloc (Obj.cells #[Value.int IntKind.i64 0, Value.int IntKind.i64 0] 54)) w.heap.size (w.heap.size + 1) ps 0 :=
      ⟨by simp [go_sem, sumM], by simp [go_sem, sumQ], by simp [go_sem], by simp [go_sem], by simp [go_sem], by simp [go_sem], by simp [go_sem], by simp [go_sem], bel2 _ _, by simp, fun j hj => by omega⟩
    go_loopw [14] (fun i wr => ∃ k : Nat, k ≤ ps.length ∧ i = .int .i64 k ∧ SumSt w wr w.heap.size (w.heap.size + 1) ps k) (fun i _ => ps.length - (intOf i).toNat)
    case atStart => exact ⟨0, Nat.zero_le _, rfl, h00⟩
    case round =>
      clear h00
      obtain ⟨k, hk, rfl, hst⟩ := hrel
      by_cases hlt : k < ps.length
      · rcases (unhide HO) with ⟨h0, _⟩ | ⟨bb, off, rfl, _, hc⟩
        · simp [h0] at hlt
        obtain ⟨ca, cb⟩ := hc k hlt
        have ca := (hst.bel.cell (block_lt_of_cell ca)).trans ca
        have cb := (hst.bel.cell (block_lt_of_cell cb)).trans cb
        have lca := block_lt_of_cell ca
        have z0 := hst.r0
        have z1 := hst.r1
        have fz0 := hst.f0
        have fz1 := hst.f1
        have m0 := hst.m
        have m1 := hst.q
        have hV := hst.lt
        have hR : w.heap.size < wr.heap.size := by omega
        have hi1 : (k : Int) < (ps.length : Int) := by omega
        cases hm : itemB (fstAt ps k) (sndAt ps k)
        · have HS := hide hst
          clear hc hst
          have HE := hide (sum_bad hlt hm)
          go_wp2_with (go_at_call 54; refine (loadOk_is _ _ _ hm).mono ?_; rintro e w' ⟨rfl, hw⟩; subst w')
          refine bodyPost_ret (v := .tuple #[.agg #[.int .i64 0, .int .i64 0], .bool false]) (by simp [results, Try.results24, go_sem, *]) rfl ⟨by rw [(unhide HE).1, (unhide HE).2.1, (unhide HE).2.2], ?_⟩
          repeat (first | exact (unhide HS).bel | refine Below.setCell ?_ (by simp; try omega) _ | refine Below.alloc ?_ (by simp; try omega) _)
        · have fct := item_facts hm
          have bd := sum_bd k hst.ok
          have HS := hide (hst.alloc (by omega) (Obj.cells #[Value.int IntKind.i64 (fstAt ps k), Value.int IntKind.i64 (sndAt ps k)] 52))
          have HM := hide hm
          clear hc hst
          go_wp2_with (go_at_call 54; refine (loadOk_is _ _ _ hm).mono ?_; rintro e w' ⟨rfl, hw⟩; subst w')
          refine (added_any _ _ _ _ _ (by omega) (by omega) (by omega)).mono ?_
          rintro e w2 ⟨rfl, b2⟩
          have h2 := (unhide HS).below (by omega) b2
          have n0 := h2.m
          have n1 := h2.q
          have fn0 := h2.fm
          have fn1 := h2.fq
          have HT := hide (h2.set (by omega) (by omega) (unhide HM))
          clear h2 b2
          go_wp2
          go_roundw
          case rel => exact ⟨k + 1, by omega, by go_num, unhide HT⟩
          case measure => simp [intOf]; omega
      · have hkk : k = ps.length := by omega
        subst hkk
        have HE := hide (sum_good hbig hst.ok)
        have m0 := hst.m
        have m1 := hst.q
        have z0 := hst.r0
        have z1 := hst.r1
        have fz0 := hst.f0
        have fz1 := hst.f1
        have HS := hide hst
        clear hst
        go_wp2
        refine bodyPost_ret (v := .tuple #[.agg #[.int .i64 (sumM ps ps.length), .int .i64 (sumQ ps ps.length)], .bool true]) (by simp [results, Try.results24, go_sem, *]) rfl ⟨by rw [(unhide HE).1, (unhide HE).2.1, (unhide HE).2.2], ?_⟩
        repeat (first | exact (unhide HS).bel | refine Below.setCell ?_ (by simp; try omega) _ | refine Below.alloc ?_ (by simp; try omega) _)
  · have HE := hide (sum_many hbig)
    have hgt : (40 : Int) < (ps.length : Int) := by omega
    go_enter Try.func24, Try.ntmps24
    go_wp2
    refine bodyPost_ret (v := .tuple #[.agg #[.int .i64 0, .int .i64 0], .bool false]) (by simp [results, Try.results24, go_sem, *]) rfl ⟨by rw [(unhide HE).1, (unhide HE).2.1, (unhide HE).2.2], ?_⟩
    repeat (first | exact bel1 _ | refine Below.setCell ?_ (by simp; try omega) _ | refine Below.alloc ?_ (by simp; try omega) _)

end Go.Proofs.Ytbaocifpifbldaa

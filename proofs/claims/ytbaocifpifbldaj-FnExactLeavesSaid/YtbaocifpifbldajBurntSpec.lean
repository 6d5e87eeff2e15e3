/-
  What Burnt answers in the model: the plain tanks and place, at every list of tanks and of burns; the tanks that are told own their memory; nothing that was there is written.
-/
import Derived.Test.YtbaocifpifbldajTankSpec
import Derived.Test.YtbaocifpifbldajBurntImpl
namespace Go.Proofs.Ytbaocifpifbldaj
open Go.RowKit
attribute [local go_sem ↓] Go.wp_at_zero Go.wp_at_succ

set_option maxHeartbeats 1000000 in
theorem specBurnt_bad (tb toff tl tc : Nat) (ba : Option Addr) (bl bc : Nat) (ts bs : List (Int × Int)) (w : World) (hr : Row2 w (some ⟨tb, toff, none⟩) tl ts) (hb : Row2 w ba bl bs) (hok : burntOk ts bs = false) :
    Calls Try.prog 19 #[.slice (some ⟨tb, toff, none⟩) tl tc, .slice ba bl bc] w fun e w' => ∃ a c, e = .returned (.tuple #[.slice a (burntT ts bs).length c, .int .i64 (burntC ts bs)]) ∧ Own2 w' w.heap.size 78 (.slice a (burntT ts bs).length c) (burntT ts bs) ∧ Below w.heap.size w w' := by
  obtain ⟨e1, e2⟩ := burnt_bad hok
  rw [e1, e2]
  clear e1 e2
  have hlb := hb.len_eq
  have hsb := hb.small
  have HR := hide hr
  subst hlb
  clear hr hb
  cases ht : tanksB ts
  · clear hok
    go_enter Try.func19, Try.ntmps19
    go_wp2_with fail
    refine (l2Tanks_is _ _ _ ts _ ht (unhide HR)).mono ?_
    rintro e w1 ⟨rfl, hw⟩
    subst w1
    have O := hide (own2_none (w := w) (w1 := w) 78 (Nat.le_refl _))
    have B := hide (bel1 (w := w) (Obj.cells #[] 78))
    go_wp2
    go_ret2
    exact ⟨_, _, rfl, unhide O, unhide B⟩
  · have h60 : (60 : Int) < (bs.length : Int) := by simp [burntOk, ht] at hok; omega
    clear hok
    go_enter Try.func19, Try.ntmps19
    go_wp2_with fail
    refine (l2Tanks_is _ _ _ ts _ ht (unhide HR)).mono ?_
    rintro e w1 ⟨rfl, hw⟩
    subst w1
    have O := hide (own2_none (w := w) (w1 := w) 78 (Nat.le_refl _))
    have B := hide (bel1 (w := w) (Obj.cells #[] 78))
    go_wp2
    go_ret2
    exact ⟨_, _, rfl, unhide O, unhide B⟩

set_option maxHeartbeats 2000000 in
theorem specBurnt_good (tb toff tl tc : Nat) (ba : Option Addr) (bl bc : Nat) (ts bs : List (Int × Int)) (w : World) (hr : Row2 w (some ⟨tb, toff, none⟩) tl ts) (hb : Row2 w ba bl bs) (hok : burntOk ts bs = true) :
    Calls Try.prog 19 #[.slice (some ⟨tb, toff, none⟩) tl tc, .slice ba bl bc] w fun e w' => ∃ a c, e = .returned (.tuple #[.slice a (burntT ts bs).length c, .int .i64 (burntC ts bs)]) ∧ Own2 w' w.heap.size 78 (.slice a (burntT ts bs).length c) (burntT ts bs) ∧ Below w.heap.size w w' := by
  have hlb := hb.len_eq
  have hlt := hr.len_eq
  have HR := hide hr
  have HO := hide hb.open_
  subst hlb
  subst hlt
  clear hr hb
  have HK := hide hok
  have ht : tanksB ts = true := by simp [burntOk] at hok; exact hok.1
  have h60 : ¬ (60 : Int) < (bs.length : Int) := by simp [burntOk] at hok; omega
  have h60' : bs.length ≤ 60 := by omega
  have h8 : ts.length ≤ 8 := (tanks_facts ht).1
  clear hok
  go_enter Try.func19, Try.ntmps19
  go_wp2_with fail
  refine (l2Tanks_is _ _ _ ts _ ht (unhide HR)).mono ?_
  rintro e w1 ⟨rfl, hw⟩
  subst w1
  have HF := hide (unhide HR).fit
  have HCC := hide (flat_cells ((unhide HR).alloc (Obj.cells #[] 78)))
  obtain ⟨i0, hi, hz0, hz1, hz2⟩ := info_parts infoTank
  go_wp2_with (at_builtin; refine wpList_append_own _ rfl _ _ 41 rfl w.heap.size 78 i0 (.agg #[.int .i64 0, .int .i64 0]) 2 16 Try.underlying41 hi hz0 hz1 hz2 rfl (by decide) (.slice (some ⟨w.heap.size, 0, none⟩) 0 0) 0 [] rfl (owns_none w _) ⟨tb, toff, none⟩ ts.length tc (flat ts) rfl (flat_len ts) (unhide HCC) (flat_one ts) (by unfold maxLen; omega) (by omega) (by simp) ?_; intro v1 w2 hown hgrow hnil; rw [Nat.zero_add, List.nil_append] at hown; obtain ⟨a, c, hv, _, _⟩ := (own2_flat hown (unhide HF)).slice; subst hv; have O2 := hide (own2_flat hown (unhide HF)); have B2 := hide ((bel1 (w := w) (Obj.cells #[] 78)).grown hgrow (by simp) (fun k hk => by simp [Value.ownBlock] at hk; omega)); clear hown hgrow hnil)
  clear hi hz0 hz1 hz2
  go_loopw [7] (fun i wr => ∃ k : Nat, k ≤ bs.length ∧ i = .int .i64 k ∧ Hid (∀ j, j < k → canAt ts bs j = true) ∧ Own2 wr w.heap.size 78 (.slice a ts.length c) (afterB ts bs k) ∧ Below w.heap.size w wr) (fun i _ => bs.length - (intOf i).toNat)
  case atStart => exact ⟨0, Nat.zero_le _, rfl, (fun j hj => by omega), unhide O2, unhide B2⟩
  case round =>
    obtain ⟨k, hk, rfl, hall, how, hbel⟩ := hrel
    have hal := afterB_len ts bs k
    by_cases hlt : k < bs.length
    · rcases (unhide HO) with ⟨h0, _⟩ | ⟨bb, off, rfl, _, hc⟩
      · omega
      obtain ⟨ca, cb⟩ := hc k hlt
      have ca := (hbel.cell (block_lt_of_cell ca)).trans ca
      have cb := (hbel.cell (block_lt_of_cell cb)).trans cb
      have lca := block_lt_of_cell ca
      have hi1 : (k : Int) < (bs.length : Int) := by omega
      have OA := hide (how.below (bel1 (Obj.cells #[Value.int IntKind.i64 (fstAt bs k), Value.int IntKind.i64 (sndAt bs k)] 76)))
      have BA := hide (hbel.alloc hbel.size (Obj.cells #[Value.int IntKind.i64 (fstAt bs k), Value.int IntKind.i64 (sndAt bs k)] 76))
      have HAL := hide hal
      have HW := hide how
      clear hc how hbel hal
      have hwl : IntKind.i64.wrap ((ts.length : Int) - 1) = (ts.length : Int) - 1 := by rw [IntKind.wrap_i64]; omega
      have d0 : (wr.alloc (Obj.cells #[Value.int IntKind.i64 (fstAt bs k), Value.int IntKind.i64 (sndAt bs k)] 76)).cell? ⟨wr.heap.size, 0, none⟩ = some (.int .i64 (fstAt bs k)) := by simp [go_sem]
      have d1 : (wr.alloc (Obj.cells #[Value.int IntKind.i64 (fstAt bs k), Value.int IntKind.i64 (sndAt bs k)] 76)).cell? ⟨wr.heap.size, 1, none⟩ = some (.int .i64 (sndAt bs k)) := by simp [go_sem]
      rcases two (inB (fstAt bs k) 0 ((ts.length : Int) - 1)) (inB (sndAt bs k) 1 10000) with ⟨h, hv⟩ | ⟨h, h', hv⟩ | ⟨h, h', hv⟩
      · have hcan : canAt ts bs k = false := by simp [canAt, canB, unhide HAL, h]
        have HE := hide (burnt_stop (unhide HK) hlt hcan hall.out)
        clear hv hcan
        go_wp2_with fail
        go_quiet ((go_at_call 38; exact Calls.quiet_of_same (l1In_is _ _ _ _ h)))
        go_wp2
        go_ret2
        refine ⟨a, c, ?_, ?_, (unhide BA).trans (bel0d' _)⟩
        · exact (show Ending.returned (.tuple #[.slice a ts.length c, .int .i64 k]) = _ from by rw [(unhide HE).1, (unhide HE).2, unhide HAL])
        · rw [(unhide HE).1, unhide HAL]; exact (unhide OA).drewN _
      · have hcan : canAt ts bs k = false := by simp [canAt, canB, h']
        have HE := hide (burnt_stop (unhide HK) hlt hcan hall.out)
        clear hv hcan
        go_wp2_with fail
        go_quiet ((go_at_call 38; exact Calls.quiet_of_same (l1In_is _ _ _ _ (by first | exact h | exact h'))))
        go_wp2
        go_ret2
        refine ⟨a, c, ?_, ?_, (unhide BA).trans (bel0d' _)⟩
        · exact (show Ending.returned (.tuple #[.slice a ts.length c, .int .i64 k]) = _ from by rw [(unhide HE).1, (unhide HE).2, unhide HAL])
        · rw [(unhide HE).1, unhide HAL]; exact (unhide OA).drewN _
      · clear hv
        have f1 := in_facts h
        have f3 := in_facts h'
        rcases (unhide HW).form with ⟨_, h0⟩ | ⟨g, c', hv, hg1, hg2, hc1, _⟩
        · have := unhide HAL; rw [h0] at this; simp at this; omega
        simp only [Value.slice.injEq] at hv
        obtain ⟨rfl, hx, rfl⟩ := hv
        clear hx hc1
        have hne : wr.heap.size ≠ g := by omega
        have HE0 : Hid (canAt ts bs k = decide (sndAt bs k ≤ fstAt (afterB ts bs k) (fstAt bs k).toNat)) := hide (by simp [canAt, canB, unhide HAL, h, h'])
        have O3 := unhide OA
        have hfit := O3.fit (fstAt bs k).toNat
        rw [← unhide HAL] at O3
        obtain ⟨⟨n0, _⟩, z0, _⟩ := O3.here (fstAt bs k).toNat (by rw [unhide HAL]; omega)
        have S0 : Hid (sndAt bs k ≤ fstAt (afterB ts bs k) (fstAt bs k).toNat → ∀ n, Own2 (((wr.alloc (Obj.cells #[Value.int IntKind.i64 (fstAt bs k), Value.int IntKind.i64 (sndAt bs k)] 76)).drewN n).setCell ⟨g, (fstAt bs k).toNat * 2, none⟩ (.int .i64 (fstAt (afterB ts bs k) (fstAt bs k).toNat - sndAt bs k))) w.heap.size 78 (.slice (some ⟨g, 0, none⟩) ts.length c) (afterB ts bs (k + 1))) := by
          refine hide fun hle n => ?_
          have s0 := (O3.drewN n).setFst (fstAt bs k).toNat (by rw [unhide HAL]; omega) (fstAt (afterB ts bs k) (fstAt bs k).toNat - sndAt bs k) (by omega)
          rw [unhide HAL] at s0
          exact s0
        have B3 : Hid (∀ n, Below w.heap.size w (((wr.alloc (Obj.cells #[Value.int IntKind.i64 (fstAt bs k), Value.int IntKind.i64 (sndAt bs k)] 76)).drewN n).setCell ⟨g, (fstAt bs k).toNat * 2, none⟩ (.int .i64 (fstAt (afterB ts bs k) (fstAt bs k).toNat - sndAt bs k)))) := hide fun n => ((unhide BA).trans (bel0d' n)).setCell (p := ⟨g, (fstAt bs k).toNat * 2, none⟩) hg1 _
        have hq1 : fstAt bs k < (ts.length : Int) := by omega
        have hq0 : 0 ≤ fstAt bs k := by omega
        have OA := hide (unhide OA)
        have HE1 : Hid (¬ sndAt bs k ≤ fstAt (afterB ts bs k) (fstAt bs k).toNat → burntT ts bs = afterB ts bs k ∧ burntC ts bs = k) := hide fun hn => burnt_stop (unhide HK) hlt (by rw [unhide HE0]; simp; omega) hall.out
        have HE2 : Hid (sndAt bs k ≤ fstAt (afterB ts bs k) (fstAt bs k).toNat → canAt ts bs k = true) := hide fun hn => by rw [unhide HE0]; simp; omega
        clear O3 HE0 HW
        generalize fstAt (afterB ts bs k) (fstAt bs k).toNat = H at *
        generalize fstAt bs k = T at *
        generalize sndAt bs k = M at *
        obtain ⟨t, rfl⟩ : ∃ t : Nat, T = (t : Int) := ⟨T.toNat, by omega⟩
        simp only [Int.toNat_natCast] at n0 z0 S0 B3
        by_cases hle : M ≤ H
        · have hlt2 : ¬ H < M := by omega
          have S1 := hide (unhide S0 hle)
          have HC := hide (unhide HE2 hle)
          have hwr : IntKind.i64.wrap (H - M) = H - M := by rw [IntKind.wrap_i64]; omega
          clear hle
          go_wp2_with fail
          have hlt2 : ¬ H < M := by omega
          go_quiet ((go_at_call 38; exact Calls.quiet_of_same (l1In_is _ _ _ _ (by first | exact h | exact h'))))
          go_wp2_with fail
          go_region
          all_goals
            go_wp2
            go_roundw
            case rel => exact ⟨k + 1, by omega, by go_num, (fun j hj => by rcases Nat.lt_succ_iff_lt_or_eq.1 hj with h | h; exact hall.out j h; subst h; exact unhide HC), unhide S1 _, unhide B3 _⟩
            case measure => simp [intOf]; omega
        · have HE := hide (unhide HE1 hle)
          have hlt2 : H < M := by omega
          clear hle
          go_wp2_with fail
          go_quiet ((go_at_call 38; exact Calls.quiet_of_same (l1In_is _ _ _ _ (by first | exact h | exact h'))))
          go_wp2
          go_ret2
          refine ⟨some ⟨g, 0, none⟩, c, ?_, ?_, (unhide BA).trans (bel0d' _)⟩
          · exact (show Ending.returned (.tuple #[.slice (some ⟨g, 0, none⟩) ts.length c, .int .i64 k]) = _ from by rw [(unhide HE).1, (unhide HE).2, unhide HAL])
          · rw [(unhide HE).1, unhide HAL]; exact (unhide OA).drewN _
    · have hkk : k = bs.length := by omega
      subst hkk
      have HE := hide (burnt_all (unhide HK) hall.out)
      have OA := hide how
      have BA := hide hbel
      have HAL := hide hal
      clear how hbel hal
      go_wp2
      go_ret2
      refine ⟨a, c, ?_, ?_, unhide BA⟩
      · exact (show Ending.returned (.tuple #[.slice a ts.length c, .int .i64 (-1)]) = _ from by rw [(unhide HE).1, (unhide HE).2, unhide HAL])
      · rw [(unhide HE).1, unhide HAL]; exact unhide OA

theorem specBurnt_any (tb toff tl tc : Nat) (ba : Option Addr) (bl bc : Nat) (ts bs : List (Int × Int)) (w : World) (hr : Row2 w (some ⟨tb, toff, none⟩) tl ts) (hb : Row2 w ba bl bs) :
    Calls Try.prog 19 #[.slice (some ⟨tb, toff, none⟩) tl tc, .slice ba bl bc] w fun e w' => ∃ a c, e = .returned (.tuple #[.slice a (burntT ts bs).length c, .int .i64 (burntC ts bs)]) ∧ Own2 w' w.heap.size 78 (.slice a (burntT ts bs).length c) (burntT ts bs) ∧ Below w.heap.size w w' := by
  cases h : burntOk ts bs
  · exact specBurnt_bad tb toff tl tc ba bl bc ts bs w hr hb h
  · exact specBurnt_good tb toff tl tc ba bl bc ts bs w hr hb h

end Go.Proofs.Ytbaocifpifbldaj

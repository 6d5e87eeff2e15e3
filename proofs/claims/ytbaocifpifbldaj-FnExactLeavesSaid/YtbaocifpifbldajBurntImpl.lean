/-
  What Burnt answers in the program: the plain tanks and place, at every list of tanks and of burns; the tanks that are told own their memory; nothing that was there is written.
-/
import Derived.Test.YtbaocifpifbldajTankImpl
import Derived.Deep.DrawnRows
namespace Go.Proofs.Ytbaocifpifbldaj
open Go.RowKit
attribute [local go_sem ↓] Go.wp_at_zero Go.wp_at_succ

theorem own2_none {w w1 : World} (T : TypeId) (h : w.heap.size ≤ w1.heap.size) : Own2 (w1.alloc (Obj.cells #[] T)) w.heap.size T (.slice (some ⟨w1.heap.size, 0, none⟩) 0 0) [] :=
  Own2.mono ⟨⟨[], owns_none w1 T, fun j hj => by simp at hj⟩, fun i => by simp [fstAt, sndAt]⟩ h

set_option maxHeartbeats 1000000 in
theorem implBurnt_bad (tb toff tl tc : Nat) (ba : Option Addr) (bl bc : Nat) (ts bs : List (Int × Int)) (w : World) (hr : Row2 w (some ⟨tb, toff, none⟩) tl ts) (hb : Row2 w ba bl bs) (hok : burntOk ts bs = false) :
    Calls Try.prog 22 #[.slice (some ⟨tb, toff, none⟩) tl tc, .slice ba bl bc] w fun e w' => ∃ a c, e = .returned (.tuple #[.slice a (burntT ts bs).length c, .int .i64 (burntC ts bs)]) ∧ Own2 w' w.heap.size 78 (.slice a (burntT ts bs).length c) (burntT ts bs) ∧ Below w.heap.size w w' := by
  obtain ⟨e1, e2⟩ := burnt_bad hok
  rw [e1, e2]
  clear e1 e2
  have hlb := hb.len_eq
  have hsb := hb.small
  have HR := hide hr
  subst hlb
  clear hr hb
  cases ht : tanksB ts
  · clear hok
    go_enter Try.func22, Try.ntmps22
    go_wp2_with fail
    refine (tanksOk_is _ _ _ ts _ ht (unhide HR)).mono ?_
    rintro e w1 ⟨rfl, b1⟩
    have O := hide (own2_none 78 b1.size)
    have B := hide (b1.alloc b1.size (Obj.cells #[] 78))
    clear b1
    go_wp2
    go_ret2
    exact ⟨_, _, rfl, unhide O, unhide B⟩
  · have h60 : (60 : Int) < (bs.length : Int) := by simp [burntOk, ht] at hok; omega
    clear hok
    go_enter Try.func22, Try.ntmps22
    go_wp2_with fail
    refine (tanksOk_is _ _ _ ts _ ht (unhide HR)).mono ?_
    rintro e w1 ⟨rfl, b1⟩
    have O := hide (own2_none 78 b1.size)
    have B := hide (b1.alloc b1.size (Obj.cells #[] 78))
    clear b1
    go_wp2
    go_ret2
    exact ⟨_, _, rfl, unhide O, unhide B⟩

set_option maxHeartbeats 2000000 in
theorem implBurnt_good (tb toff tl tc : Nat) (ba : Option Addr) (bl bc : Nat) (ts bs : List (Int × Int)) (w : World) (hr : Row2 w (some ⟨tb, toff, none⟩) tl ts) (hb : Row2 w ba bl bs) (hok : burntOk ts bs = true) :
    Calls Try.prog 22 #[.slice (some ⟨tb, toff, none⟩) tl tc, .slice ba bl bc] w fun e w' => ∃ a c, e = .returned (.tuple #[.slice a (burntT ts bs).length c, .int .i64 (burntC ts bs)]) ∧ Own2 w' w.heap.size 78 (.slice a (burntT ts bs).length c) (burntT ts bs) ∧ Below w.heap.size w w' := by
  have hlb := hb.len_eq
  have hlt := hr.len_eq
  have HR := hide hr
  have HO := hide hb.open_
  subst hlb
  subst hlt
  clear hr hb
  have HK := hide hok
  have ht : tanksB ts = true := by simp [burntOk] at hok; exact hok.1
  have h60 : ¬ (60 : Int) < (bs.length : Int) := by simp [burntOk] at hok; omega
  have h60' : bs.length ≤ 60 := by omega
  have h8 : ts.length ≤ 8 := (tanks_facts ht).1
  clear hok
  go_enter Try.func22, Try.ntmps22
  go_wp2_with fail
  refine (tanksOk_is _ _ _ ts _ ht (unhide HR)).mono ?_
  rintro e w1 ⟨rfl, b1⟩
  have R1 := hide ((unhide HR).below b1)
  have B1 := hide b1
  clear b1
  go_wp2_with fail
  refine (copyTanks_any _ _ _ _ ts _ (unhide R1) (by omega)).mono ?_
  rintro e w2 ⟨a, c, rfl, o2, b2⟩
  have O2 := hide (o2.mono (unhide B1).size)
  have B2 := hide ((unhide B1).trans (b2.mono (unhide B1).size))
  clear b2 o2
  go_wp2
  go_loopw [22] (fun i wr => ∃ k : Nat, k ≤ bs.length ∧ i = .int .i64 k ∧ Hid (∀ j, j < k → canAt ts bs j = true) ∧ Own2 wr w.heap.size 78 (.slice a ts.length c) (afterB ts bs k) ∧ Below w.heap.size w wr) (fun i _ => bs.length - (intOf i).toNat)
  case atStart => exact ⟨0, Nat.zero_le _, rfl, (fun j hj => by omega), unhide O2, unhide B2⟩
  case round =>
    obtain ⟨k, hk, rfl, hall, how, hbel⟩ := hrel
    have hal := afterB_len ts bs k
    by_cases hlt : k < bs.length
    · rcases (unhide HO) with ⟨h0, _⟩ | ⟨bb, off, rfl, _, hc⟩
      · omega
      obtain ⟨ca, cb⟩ := hc k hlt
      have ca := (hbel.cell (block_lt_of_cell ca)).trans ca
      have cb := (hbel.cell (block_lt_of_cell cb)).trans cb
      have lca := block_lt_of_cell ca
      have hi1 : (k : Int) < (bs.length : Int) := by omega
      have OA := hide (how.below (bel1 (Obj.cells #[Value.int IntKind.i64 (fstAt bs k), Value.int IntKind.i64 (sndAt bs k)] 76)))
      have BA := hide (hbel.alloc hbel.size (Obj.cells #[Value.int IntKind.i64 (fstAt bs k), Value.int IntKind.i64 (sndAt bs k)] 76))
      have HAL := hide hal
      have HW := hide how
      clear hc how hbel hal
      cases hcan : canB (afterB ts bs k) (fstAt bs k) (sndAt bs k)
      · have HE := hide (burnt_stop (unhide HK) hlt hcan hall.out)
        go_wp2_with (go_at_call 55; refine (canBurn_is _ _ _ (afterB ts bs k) _ _ _ (Own2.row (unhide OA)) (by omega) hcan).mono ?_; rintro e w3 ⟨rfl, b3⟩)
        go_ret2
        refine ⟨a, c, ?_, ?_, (unhide BA).trans (b3.mono (unhide BA).size)⟩
        · exact (show Ending.returned (.tuple #[.slice a ts.length c, .int .i64 k]) = _ from by rw [(unhide HE).1, (unhide HE).2, unhide HAL])
        · rw [(unhide HE).1, unhide HAL]; exact (unhide OA).below b3
      · obtain ⟨⟨f1, f2⟩, f3, f4⟩ := can_facts hcan
        rw [unhide HAL] at f2
        rcases (unhide HW).form with ⟨_, h0⟩ | ⟨g, c', hv, hg1, hg2, hc1, _⟩
        · have := unhide HAL; rw [h0] at this; simp at this; omega
        simp only [Value.slice.injEq] at hv
        obtain ⟨rfl, hx, rfl⟩ := hv
        clear hx hc1
        have hne : wr.heap.size ≠ g := by omega
        go_wp2_with (go_at_call 55; refine (canBurn_is _ _ _ (afterB ts bs k) _ _ _ (Own2.row (unhide OA)) (by omega) hcan).mono ?_; rintro e w3 ⟨rfl, b3⟩)
        have O3 := (unhide OA).below b3
        have hfit := O3.fit (fstAt bs k).toNat
        rw [← unhide HAL] at O3
        obtain ⟨⟨n0, _⟩, z0, _⟩ := O3.here (fstAt bs k).toNat (by rw [unhide HAL]; omega)
        have s0 := O3.setFst (fstAt bs k).toNat (by rw [unhide HAL]; omega) (fstAt (afterB ts bs k) (fstAt bs k).toNat - sndAt bs k) (by omega)
        rw [unhide HAL] at s0
        have S0 : Hid (Own2 (w3.setCell ⟨g, (fstAt bs k).toNat * 2, none⟩ (.int .i64 (fstAt (afterB ts bs k) (fstAt bs k).toNat - sndAt bs k))) w.heap.size 78 (.slice (some ⟨g, 0, none⟩) ts.length c) (afterB ts bs (k + 1))) := hide s0
        have HC : Hid (canAt ts bs k = true) := hide hcan
        have d0 : w3.cell? ⟨wr.heap.size, 0, none⟩ = some (.int .i64 (fstAt bs k)) := (b3.cell (p := ⟨wr.heap.size, 0, none⟩) (by simp)).trans (by simp [go_sem])
        have d1 : w3.cell? ⟨wr.heap.size, 1, none⟩ = some (.int .i64 (sndAt bs k)) := (b3.cell (p := ⟨wr.heap.size, 1, none⟩) (by simp)).trans (by simp [go_sem])
        have B3 := hide (((unhide BA).trans (b3.mono (unhide BA).size)).setCell (p := ⟨g, (fstAt bs k).toNat * 2, none⟩) hg1 (.int .i64 (fstAt (afterB ts bs k) (fstAt bs k).toNat - sndAt bs k)))
        have hq1 : fstAt bs k < (ts.length : Int) := by omega
        have hsz : g < w3.heap.size := by have := b3.size; simp at this; omega
        clear s0 O3 b3 OA BA ca cb hcan HW
        generalize fstAt (afterB ts bs k) (fstAt bs k).toNat = h at *
        generalize fstAt bs k = T at *
        generalize sndAt bs k = M at *
        obtain ⟨t, rfl⟩ : ∃ t : Nat, T = (t : Int) := ⟨T.toNat, by omega⟩
        simp only [Int.toNat_natCast] at n0 z0 S0 B3
        have hwr : IntKind.i64.wrap (h - M) = h - M := by rw [IntKind.wrap_i64]; omega
        go_region
        all_goals
          go_wp2
          go_roundw
          case rel => exact ⟨k + 1, by omega, by go_num, (fun j hj => by rcases Nat.lt_succ_iff_lt_or_eq.1 hj with h | h; exact hall.out j h; subst h; exact unhide HC), (unhide S0).drewN 1, (unhide B3).trans (bel0d' 1)⟩
          case measure => simp [intOf]; omega
    · have hkk : k = bs.length := by omega
      subst hkk
      have HE := hide (burnt_all (unhide HK) hall.out)
      have OA := hide how
      have BA := hide hbel
      have HAL := hide hal
      clear how hbel hal
      go_wp2
      go_ret2
      refine ⟨a, c, ?_, ?_, unhide BA⟩
      · exact (show Ending.returned (.tuple #[.slice a ts.length c, .int .i64 (-1)]) = _ from by rw [(unhide HE).1, (unhide HE).2, unhide HAL])
      · rw [(unhide HE).1, unhide HAL]; exact unhide OA

theorem implBurnt_any (tb toff tl tc : Nat) (ba : Option Addr) (bl bc : Nat) (ts bs : List (Int × Int)) (w : World) (hr : Row2 w (some ⟨tb, toff, none⟩) tl ts) (hb : Row2 w ba bl bs) :
    Calls Try.prog 22 #[.slice (some ⟨tb, toff, none⟩) tl tc, .slice ba bl bc] w fun e w' => ∃ a c, e = .returned (.tuple #[.slice a (burntT ts bs).length c, .int .i64 (burntC ts bs)]) ∧ Own2 w' w.heap.size 78 (.slice a (burntT ts bs).length c) (burntT ts bs) ∧ Below w.heap.size w w' := by
  cases h : burntOk ts bs
  · exact implBurnt_bad tb toff tl tc ba bl bc ts bs w hr hb h
  · exact implBurnt_good tb toff tl tc ba bl bc ts bs w hr hb h

end Go.Proofs.Ytbaocifpifbldaj

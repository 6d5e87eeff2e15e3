/-
  What the program answers that seeks ties to be closed: whether the first rank is fed, a net with a tie closed, the first list that suffices. At a net that is so; nothing that was there is written.
-/
import Derived.Test.YtfahhjgpgccdhacClPure
import Derived.Test.YtfahhjgpgccdhacClTie
import Derived.Test.YtfahhjgpgccdhacShImpl
import Derived.Test.YtfahhjgpgccdhacLists
import Derived.Test.YtfahhjgpgccdhacAppL
namespace Go.Proofs.Ytfahhjgpgccdhac
open Go.RowKit

set_option maxRecDepth 20000 in
set_option maxHeartbeats 3000000 in
theorem feeds_any (N : Nat) (a1 a2 a3 : Option Addr) (l1 c1 l2 c2 l3 c3 : Nat) (ss : List Sr) (ts : List Ti) (us : List Us) (w : World) (hr : NetIn w a1 a2 a3 l1 l2 l3 ss ts us) (hok : netB (N : Int) ss ts us = true) :
    Calls Try.prog 51 #[.agg #[.int .i64 (N : Int), .slice a1 l1 c1, .slice a2 l2 c2, .slice a3 l3 c3]] w fun e w' => e = .returned (.bool (wellB N ss us ts)) ∧ Below w.heap.size w w' := by
  obtain ⟨B, hB⟩ : ∃ B, wellB N ss us ts = B := ⟨_, rfl⟩
  rw [hB]
  have WB0 := hide hB
  have R := hide hr
  have HOK := hide hok
  have KP : Hid (Blk (w.alloc (Obj.cells #[.int .i64 (N : Int), .slice a1 l1 c1, .slice a2 l2 c2, .slice a3 l3 c3] 44)) w.heap.size [.int .i64 (N : Int), .slice a1 l1 c1, .slice a2 l2 c2, .slice a3 l3 c3]) := hide (Blk.new (w := w) [.int .i64 (N : Int), .slice a1 l1 c1, .slice a2 l2 c2, .slice a3 l3 c3] 44)
  have HB := hide (bel1 (w := w) (Obj.cells #[.int .i64 (N : Int), .slice a1 l1 c1, .slice a2 l2 c2, .slice a3 l3 c3] 44))
  have Z3 := hide hr.r3.len_eq
  have hu40 := (net_facts hok).2.1.2.2
  have q3 : l3 ≤ 40 := by have := hr.r3.len_eq; omega
  clear hr hok hu40 hB
  go_enter Try.func51, Try.ntmps51
  go_wp2_with fail
  refine (shed_any N a1 a2 a3 l1 c1 l2 c2 l3 c3 ss ts us _ ((unhide R).below (unhide HB)) (unhide HOK)).mono ?_
  rintro e w1 ⟨g, c, rfl, o1, b1⟩

  obtain ⟨zs, hzs⟩ : ∃ zs, shR N ss ts us = zs := ⟨_, rfl⟩
  have hlt : ∀ i, i < zs.length → 0 ≤ nth zs i ∧ nth zs i < us.length := fun i hi => by rw [← hzs] at hi ⊢; exact shR_lt hi
  have WB : Hid (rankB us zs = B) := hide (by rw [← unhide WB0, wellB, hzs])
  have hl1 : zs.length ≤ 40 := by
    rw [← hzs]
    have := unK_len (outr (isleR N ts) us (shS N ss ts us) 10).F us.length
    have := unhide Z3
    unfold shR; omega
  rw [hzs] at o1 ⊢
  clear hzs WB0
  have HC : Hid (∀ i, i < zs.length → w1.cell? ⟨g, i, none⟩ = some (.int .i64 (nth zs i))) := hide (fun i hi => (o1.here i hi).1)
  have HLT := hide hlt
  obtain ⟨M, hM⟩ : ∃ M, zs.length = M := ⟨_, rfl⟩
  rw [hM] at hl1 ⊢
  have HM := hide hM
  have HB1 := hide ((unhide HB).trans (b1.mono (unhide HB).size))
  have hc3 : w1.cell? ⟨w.heap.size, 3, none⟩ = some (.slice a3 l3 c3) := ((unhide KP).below b1).c 3 (by simp)
  have R1 := hide ((unhide R).r3.below (unhide HB1))
  clear o1 b1 hlt hM R KP HB
  go_wp2_with fail
  go_loopw [8] (fun p wr => ∃ k nq : Nat, p = .int .i64 (k : Int) ∧ k ≤ M ∧ wr = w1.drewN nq ∧ Hid (∀ j, j < k → (elAt us (nth zs j).toNat).a2 ≠ 0)) (fun p _ => M - (intOf p).toNat)
  case atStart => exact ⟨0, 0, rfl, Nat.zero_le _, rfl, hide (fun j hj => by omega)⟩
  case round =>
    obtain ⟨k, nr, rfl, hk, hwr, HJ⟩ := hrel
    subst wr
    by_cases hkm : k < M
    · have hkm2 : (k : Int) < (M : Int) := by omega
      have hk0 : (0 : Int) ≤ (k : Int) := by omega
      have zk := (unhide HC) k (by rw [unhide HM]; exact hkm)
      obtain ⟨x0, x1⟩ := (unhide HLT) k (by rw [unhide HM]; exact hkm)
      obtain ⟨J, hJ⟩ : ∃ J : Nat, nth zs k = (J : Int) := ⟨(nth zs k).toNat, by omega⟩
      have HJJ := hide hJ
      rw [hJ] at zk x0 x1
      rw [unhide Z3] at x1
      rcases (unhide R1).open_ with ⟨h0, _⟩ | ⟨bb, off, hbb, _, hc⟩
      · omega
      subst hbb
      have ej : w1.cell? ⟨bb, off + J * 3 + 2, none⟩ = some (.int .i64 (elAt us J).a2) := hc J (by omega) 2 (by omega)
      obtain ⟨rk, hrk⟩ : ∃ rk, (elAt us J).a2 = rk := ⟨_, rfl⟩
      rw [hrk] at ej
      clear hc hJ
      by_cases h0 : rk = 0
      · subst h0
        have HR : Hid (rankB us zs = false) := hide (rankB_no (i := k) (by rw [unhide HM]; exact hkm) (by rw [unhide HJJ]; simpa using hrk))
        clear hrk
        go_wp2_with fail

        go_ret
        exact ⟨by rw [← unhide WB, unhide HR]; rfl, (unhide HB1).trans ((bel0d' nr).mono (unhide HB1).size)⟩
      · have HJ1 : Hid (∀ j, j < k + 1 → (elAt us (nth zs j).toNat).a2 ≠ 0) := hide (fun j hj => by
          rcases Nat.lt_succ_iff_lt_or_eq.1 hj with h | h
          · exact unhide HJ j h
          · subst h; rw [unhide HJJ]; simpa [hrk] using h0)
        clear hrk HJ
        go_wp2_with fail

        go_roundw
        case rel => exact ⟨k + 1, _, by go_num, by omega, rfl, HJ1⟩
        case measure => simp [intOf]; omega
    · obtain rfl : M = k := by omega
      have hkm2 : ¬ (M : Int) < (M : Int) := by omega
      have HR : Hid (rankB us zs = true) := hide (rankB_yes (fun i hi => (unhide HJ) i (by rw [unhide HM] at hi; exact hi)))
      go_wp2_with fail
      go_ret
      exact ⟨by rw [← unhide WB, unhide HR]; rfl, (unhide HB1).trans (Below.mono (bel0d' nr) (unhide HB1).size)⟩
set_option maxRecDepth 20000 in
set_option maxHeartbeats 3000000 in
theorem withClosed_is (N : Nat) (a1 a2 a3 : Option Addr) (l1 c1 l2 c2 l3 c3 : Nat) (ss : List Sr) (ts : List Ti) (us : List Us) (w : World) (hr : NetIn w a1 a2 a3 l1 l2 l3 ss ts us) (i : Nat) (I : Int) (hI : I = (i : Int)) (hi : i < l2) (hl2 : l2 ≤ 16) :
    Calls Try.prog 52 #[.agg #[.int .i64 (N : Int), .slice a1 l1 c1, .slice a2 l2 c2, .slice a3 l3 c3], .int .i64 I] w fun e w' => ∃ g c, e = .returned (.agg #[.int .i64 (N : Int), .slice a1 l1 c1, .slice (some ⟨g, 0, none⟩) l2 c, .slice a3 l3 c3]) ∧ OwnE 3 tiC w' w.heap.size 51 (.slice (some ⟨g, 0, none⟩) l2 c) (shutT ts i) ∧ Below w.heap.size w w' := by
  subst hI
  have Z2 := hr.r2.len_eq
  rcases hr.r2.open_ with ⟨h0, _⟩ | ⟨bb, off, hbb, _, _⟩
  · omega
  subst hbb
  have R := hide hr.r2
  have HB := hide (bel2 (w := w) (Obj.cells #[.int .i64 (N : Int), .slice a1 l1 c1, .slice (some ⟨bb, off, none⟩) l2 c2, .slice a3 l3 c3] 44) (Obj.cells #[.int .i64 0, .slice none 0 0, .slice none 0 0, .slice none 0 0] 44))
  have B0 : Hid (Blk _ w.heap.size [.int .i64 (N : Int), .slice a1 l1 c1, .slice (some ⟨bb, off, none⟩) l2 c2, .slice a3 l3 c3]) := hide (blkAt2_0 (w := w) (v1 := [.int .i64 (N : Int), .slice a1 l1 c1, .slice (some ⟨bb, off, none⟩) l2 c2, .slice a3 l3 c3]) (v2 := [.int .i64 0, .slice none 0 0, .slice none 0 0, .slice none 0 0]) (T1 := 44) (T2 := 44))
  have B1 : Hid (Blk _ (w.heap.size + 1) [.int .i64 0, .slice none 0 0, .slice none 0 0, .slice none 0 0]) := hide (blkAt2_1 (w := w) (v1 := [.int .i64 (N : Int), .slice a1 l1 c1, .slice (some ⟨bb, off, none⟩) l2 c2, .slice a3 l3 c3]) (v2 := [.int .i64 0, .slice none 0 0, .slice none 0 0, .slice none 0 0]) (T1 := 44) (T2 := 44))
  clear hr
  go_enter Try.func52, Try.ntmps52
  go_wp2_with fail
  refine (cloneT_any bb off l2 c2 ts _ ((unhide R).below (unhide HB)) (by omega)).mono ?_
  rintro e w3 ⟨g, c, rfl, o3, b3⟩
  have B0 := hide ((unhide B0).below b3)
  have B1 := hide ((unhide B1).below b3)
  have HB := hide ((unhide HB).trans (b3.mono (unhide HB).size))
  have lg : w.heap.size + 2 ≤ g := by have := o3.lies g rfl; simp at this; omega
  have O3 := hide o3
  have x2 : w3.cell? ⟨w.heap.size, 2, none⟩ = some (.slice (some ⟨bb, off, none⟩) l2 c2) := (unhide B0).c 2 (by simp)
  have x3 : w3.frozen? ⟨w.heap.size, 2, none⟩ = false := (unhide B0).f 2 (by simp)
  have hi0 : (0 : Int) ≤ (i : Int) := by omega
  have hi1 : (i : Int) < (l2 : Int) := by omega
  have hgne : ¬ g = w.heap.size := by omega
  have oA : OwnE 3 tiC (w3.setCell ⟨w.heap.size, 2, none⟩ (.slice (some ⟨g, 0, none⟩) l2 c)) w.heap.size 51 (.slice (some ⟨g, 0, none⟩) l2 c) ts := (o3.mono (by simp; omega)).set_other _ (by simp [Value.ownBlock]; omega)
  have y2 := (oA.here Z2 i hi 2 (by omega)).1
  have y3 := (oA.here Z2 i hi 2 (by omega)).2
  have oB := hide (shut_own oA Z2 hi)
  have D0 : Hid (Blk ((w3.setCell ⟨w.heap.size, 2, none⟩ (.slice (some ⟨g, 0, none⟩) l2 c)).setCell ⟨g, i * 3 + 2, none⟩ (.bool true)) w.heap.size [.int .i64 (N : Int), .slice a1 l1 c1, .slice (some ⟨g, 0, none⟩) l2 c, .slice a3 l3 c3]) := hide (by simpa using ((unhide B0).set 2 (by simp) (.slice (some ⟨g, 0, none⟩) l2 c)).other (p := ⟨g, i * 3 + 2, none⟩) (by simp; omega) (.bool true))
  have D1 : Hid (Blk ((w3.setCell ⟨w.heap.size, 2, none⟩ (.slice (some ⟨g, 0, none⟩) l2 c)).setCell ⟨g, i * 3 + 2, none⟩ (.bool true)) (w.heap.size + 1) [.int .i64 0, .slice none 0 0, .slice none 0 0, .slice none 0 0]) := hide (((unhide B1).other (by simp) _).other (by simp; omega) _)
  have HS := hide (((unhide HB).setCell (p := ⟨w.heap.size, 2, none⟩) (by simp) (.slice (some ⟨g, 0, none⟩) l2 c)).setCell (p := ⟨g, i * 3 + 2, none⟩) (by simp; omega) (.bool true))
  have LG := hide lg
  clear o3 b3 oA R HB B0 B1 lg Z2
  go_wp2_with (first
    | ((with_reducible show wpList _ _ _ (⟨_, .load 44 _, _, _, _, none⟩ :: _) _ _); refine at_loadAgg (vs := [.int .i64 (N : Int), .slice a1 l1 c1, .slice (some ⟨g, 0, none⟩) l2 c, .slice a3 l3 c3]) Try.isAgg44 Try.sizeOf44 rfl (unhide D0) ?_)
    | ((with_reducible show wpList _ _ _ (⟨none, .store 44 _ _, _, _, _, none⟩ :: _) _ _); refine at_storeAgg (us := [.int .i64 0, .slice none 0 0, .slice none 0 0, .slice none 0 0]) (vs := [.int .i64 (N : Int), .slice a1 l1 c1, .slice (some ⟨g, 0, none⟩) l2 c, .slice a3 l3 c3]) Try.sizeOf44 rfl rfl (unhide D1) rfl (by simp [Value.oneCell']) ?_; intro w4 kk gg))
  have OE := hide ((unhide oB).far gg (fun q hq e => by have := unhide LG; have e1 := Option.some.inj (show some g = some q from hq); have e2 := Option.some.inj (show some q = some (w.heap.size + 1) from e); omega))
  have BE := hide ((unhide HS).grown gg (unhide HS).size (fun q hq => by cases hq; simp))
  exact bodyPost_ret (results_cell (vs := [.int .i64 (N : Int), .slice a1 l1 c1, .slice (some ⟨g, 0, none⟩) l2 c, .slice a3 l3 c3]) rfl Try.isAgg44 Try.sizeOf44 rfl kk) rfl ⟨g, c, rfl, unhide OE, unhide BE⟩

end Go.Proofs.Ytfahhjgpgccdhac

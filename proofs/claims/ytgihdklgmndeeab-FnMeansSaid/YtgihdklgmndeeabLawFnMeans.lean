/-
  The law FnMeans returns true at every list of bytes and writes nothing that was there: the walk. No condition.
-/
import Derived.Test.YtgihdklgmndeeabAtFix
import Derived.Test.YtgihdklgmndeeabCurNew
import Derived.Test.YtgihdklgmndeeabMeanIs
import Derived.Test.YtgihdklgmndeeabSmoothIs
import Derived.Test.YtgihdklgmndeeabFirstIs
import Derived.Test.YtgihdklgmndeeabMeansFacts
import Derived.Deep.AppendLies
namespace Go.Proofs.Ytgihdklgmndeeab
open Go.RowKit
attribute [local go_sem] run_store_float

/-- The law's own list of two motions. -/
theorem two_rows (V : World) (T : TypeId) : RowE 4 moC (V.alloc (Obj.cells #[.float .f64 4607182418800017408, .float .f64 0, .float .f64 0, .float .f64 0, .float .f64 4617315517961601024, .float .f64 0, .float .f64 0, .float .f64 0] T)) (some ⟨V.heap.size, 0, none⟩) 2 [⟨4607182418800017408, 0, 0, 0⟩, ⟨4617315517961601024, 0, 0, 0⟩] := by
  refine ⟨rfl, by omega, fun i hi => ⟨_, _, rfl, fun q hq => ?_⟩⟩
  rcases (show i = 0 ∨ i = 1 from by omega) with rfl | rfl <;> rcases (show q = 0 ∨ q = 1 ∨ q = 2 ∨ q = 3 from by omega) with rfl | rfl | rfl | rfl <;> simp [go_sem, elAt, moC]
theorem first_two : firstN [⟨4607182418800017408, 0, 0, 0⟩, ⟨4617315517961601024, 0, 0, 0⟩] 4611686018427387904 = 1 := by decide +kernel

set_option maxRecDepth 20000 in
set_option maxHeartbeats 4000000 in
theorem lawFnMeans (a : Option Addr) (len cap : Nat) (w : World) (hb : Bytes w a len) :
    Calls Try.prog 8 #[.slice a len cap] w fun e w' => e = .returned (.bool true) ∧ Below w.heap.size w w' := by
  by_cases hbig : (1048576 : Int) < len
  · have hbg := big_any a len cap
    go_enter Try.func8, Try.ntmps8
    go_wp2_with fail
    refine (hbg _).mono ?_
    rintro e w' ⟨rfl, hw⟩
    subst w'
    go_wp2_with fail
    go_ret
    exact ⟨rfl, Below.refl _ _⟩
  have hl : len ≤ 1048576 := by omega
  have HBY := hide hb
  obtain ⟨x0, hx0, at0⟩ := at_fix a len cap 0 w hb hl (by omega)
  obtain ⟨x1, hx1, at1⟩ := at_fix a len cap 1 w hb hl (by omega)
  have AT0 := hide at0
  have AT1 := hide at1
  have O0 := hide (ownE_none (K := 1) (cells := flC) (w := w) (w1 := w) (T := 46) (Nat.le_refl _))
  have hfi : ∀ n : Int, floatOfInt .f64 n = fint n := fun _ => rfl
  obtain ⟨i0, hii, hz0, hz1, hz2⟩ := info_parts infoFl
  obtain ⟨n, hn⟩ : ∃ n : Nat, (n : Int) = 1 + x1 % 20 := ⟨(1 + x1 % 20).toNat, by have := Int.emod_nonneg x1 (show (20 : Int) ≠ 0 by omega); omega⟩
  have hn20 : n ≤ 20 := by have := Int.emod_lt_of_pos x1 (show (0 : Int) < 20 by omega); omega
  have HN := hide hn
  clear hb at0 at1 hbig hn
  obtain ⟨x, hx⟩ : ∃ x : Int, x = x0 - 128 := ⟨_, rfl⟩
  have hxa : -128 ≤ x := by omega
  have hxb : x ≤ 127 := by omega
  have hx' : x0 - 128 = x := hx.symm
  have HNX := hide (fint_nan x)
  clear hx
  go_enter Try.func8, Try.ntmps8
  go_wp2_with fail
  refine (big_any a len cap _).mono ?_
  rintro e w' ⟨rfl, hw⟩
  subst w'
  go_wp2_with fail
  refine ((unhide AT0) w (Below.refl _ _)).mono ?_
  rintro e w' ⟨rfl, hw⟩
  subst w'
  go_wp2_with fail
  go_loopw [5, 6, 7] (fun lv mv iv wr => ∃ (k : Nat) (al : Option Addr) (c : Nat) (Z : List Nat), k ≤ n ∧ lv = .slice al k c ∧ mv = .int .i64 (mcnt Z k) ∧ iv = .int .i64 k ∧ Z.length = k ∧ AllX (fint x) Z ∧ OwnE 1 flC wr w.heap.size 46 (.slice al k c) Z ∧ Below w.heap.size w wr) (fun _ _ i _ => n - (intOf i).toNat)
  case atStart => exact ⟨0, _, _, [], Nat.zero_le _, rfl, rfl, rfl, rfl, fun j hj => by simp at hj, unhide O0, bel1 _⟩
  case round =>
    obtain ⟨k, al, c, Z, hk, rfl, rfl, rfl, hzl, hall, hO, hbel⟩ := hrel
    have hml := mcnt_le Z k
    have I0 : Hid (OwnE 1 flC wr w.heap.size 46 (.slice al k c) Z ∧ Below w.heap.size w wr) := hide ⟨hO, hbel⟩
    have HZL := hide hzl
    have HALL := hide hall
    have HBW := hide ((unhide HBY).below hbel)
    clear hzl hall hO hbel O0
    by_cases hlt : k < n
    · have hj1 : (k : Int) < 1 + x1 % 20 := by rw [← unhide HN]; omega
      have hat0 := at_any a len cap (k + 2) wr (unhide HBW) hl (by omega)
      rw [show ((k + 2 : Nat) : Int) = (k : Int) + 2 from by omega] at hat0
      have HAT := hide hat0
      clear hat0
      go_wp2_with fail
      refine ((unhide AT1) wr (unhide I0).2).mono ?_
      rintro e w' ⟨rfl, hw⟩
      subst w'
      go_wp2_with fail
      refine (unhide HAT).mono ?_
      rintro e w' ⟨x2, rfl, hx2, hw⟩
      subst w'
      by_cases h3 : x2 % 3 = 0
      · have hq3 : (x2 % 3 == 0) = true := by simp [h3]
        clear h3
        go_wp2_with (first | (at_builtin; refine wpList_append_lies _ rfl _ _ 71 rfl w.heap.size 46 i0 (.float .f64 0) 1 8 Try.underlying71 hii hz0 hz1 hz2 rfl (by decide) (.slice al k c) k vs rfl hownA ⟨w1.heap.size, 0, none⟩ 1 1 [.float .f64 z1] rfl rfl hnews (by simp [Value.oneCell']) (by decide) (by unfold maxLen; omega) (by omega) (by simp; omega) _ rfl ?_; intro g' cap' w9 hown9 hgrow hat hlt9) | (with_reducible show wpList _ _ _ (⟨_, .binOp .quo _ _ _ _, _, _, _, none⟩ :: _) _ _; refine at_flopI (fun W => Hid (OwnE 1 flC W w.heap.size 46 (.slice al k c) Z ∧ Below w.heap.size w W)) (fun W n h => hide ⟨(unhide h).1.drewN n, (unhide h).2.trans (bel0d' n)⟩) (by assumption) (by decide) .f64 _ _ rfl rfl ?_; intro z1 w1 h1 I1; obtain ⟨vs, hown, hvx⟩ := (unhide I1).1.own; rw [unhide HZL] at hown hvx; have hbA := bel1 (w := w1) (Obj.cells #[Value.float FloatKind.f64 z1] 46); have hownA := ownsRow_below hown hbA; have hnews := World.news_of_block (heap_alloc_new w1 (Obj.cells #[Value.float FloatKind.f64 z1] 46)); have hsz := (unhide I1).2.size; have HVX := hide hvx; have HVL := hide (ownsRow_len hown); clear hown hvx))
        have HNZ : nanB .f64 z1 = true := by rw [h1.nan, nan00]; exact nanB_qnan _
        have hrow : ∀ j, (Value.slice al k c).ownBlock = some j → w.heap.size ≤ j := fun j hj => ((unhide I1).1.lies j hj).1
        have hb9 := hide (((unhide I1).2.trans (hbA.mono hsz)).grown hgrow (by simp; omega) hrow)
        have hz9 := unhide HZL
        have NEW : Hid (OwnE 1 flC w9 w.heap.size 46 (.slice (some ⟨g', 0, none⟩) (k + 1) cap') (Z ++ [z1])) := hide (ownE_app (by rw [hz9]; exact hown9) (by rw [hz9]; exact unhide HVL) (by rw [hz9]; exact unhide HVX) (one_cell _))
        have NALL := hide ((unhide HALL).push (y := z1) (.inr HNZ))
        have NC : Hid ((mcnt (Z ++ [z1]) (k + 1) : Int) = (mcnt Z k : Int)) := hide (by have h := mcnt_push_nan (Z := Z) HNZ; rw [hz9] at h; rw [h]; try simp)
        clear hown9 hgrow hat hlt9 hrow hz9
        go_roundw
        case rel => exact ⟨k + 1, some ⟨g', 0, none⟩, cap', Z ++ [z1], by omega, rfl, by rw [unhide NC]; try go_num, by go_num, by simp [unhide HZL], unhide NALL, unhide NEW, unhide hb9⟩
        case measure => simp [intOf]; omega
      · have hq3 : (x2 % 3 == 0) = false := by simp [h3]
        clear h3
        obtain ⟨vs, hown, hvx⟩ := (unhide I0).1.own
        rw [unhide HZL] at hown hvx
        have hbA := bel1 (w := wr) (Obj.cells #[Value.float FloatKind.f64 (fint x)] 46)
        have hownA := ownsRow_below hown hbA
        have hnews := World.news_of_block (heap_alloc_new wr (Obj.cells #[Value.float FloatKind.f64 (fint x)] 46))
        have hsz := (unhide I0).2.size
        have HVX := hide hvx
        have HVL := hide (ownsRow_len hown)
        clear hown hvx
        go_wp2_with (at_builtin; refine wpList_append_lies _ rfl _ _ 71 rfl w.heap.size 46 i0 (.float .f64 0) 1 8 Try.underlying71 hii hz0 hz1 hz2 rfl (by decide) (.slice al k c) k vs rfl hownA ⟨wr.heap.size, 0, none⟩ 1 1 [.float .f64 (fint x)] rfl rfl hnews (by simp [Value.oneCell']) (by decide) (by unfold maxLen; omega) (by omega) (by simp; omega) _ rfl ?_; intro g' cap' w9 hown9 hgrow hat hlt9)
        have hrow : ∀ j, (Value.slice al k c).ownBlock = some j → w.heap.size ≤ j := fun j hj => ((unhide I0).1.lies j hj).1
        have hb9 := hide (((unhide I0).2.trans (hbA.mono hsz)).grown hgrow (by simp; omega) hrow)
        have hz9 := unhide HZL
        have NEW : Hid (OwnE 1 flC w9 w.heap.size 46 (.slice (some ⟨g', 0, none⟩) (k + 1) cap') (Z ++ [(fint x)])) := hide (ownE_app (by rw [hz9]; exact hown9) (by rw [hz9]; exact unhide HVL) (by rw [hz9]; exact unhide HVX) (one_cell _))
        have NALL := hide ((unhide HALL).push (y := (fint x)) (.inl rfl))
        have NC : Hid ((mcnt (Z ++ [(fint x)]) (k + 1) : Int) = (mcnt Z k : Int) + 1) := hide (by have h := mcnt_push_num (Z := Z) (unhide HNX); rw [hz9] at h; rw [h]; try simp)
        clear hown9 hgrow hat hlt9 hrow hz9
        go_roundw
        case rel => exact ⟨k + 1, some ⟨g', 0, none⟩, cap', Z ++ [(fint x)], by omega, rfl, by rw [unhide NC]; try go_num, by go_num, by simp [unhide HZL], unhide NALL, unhide NEW, unhide hb9⟩
        case measure => simp [intOf]; omega
    · have hj1 : ¬ (k : Int) < 1 + x1 % 20 := by rw [← unhide HN]; omega
      have hZ20 : Z.length ≤ 20 := by rw [unhide HZL]; omega
      have HSB : Hid (smB Z = true) := hide (decide_eq_true (by omega))
      go_wp2_with fail
      refine ((unhide AT1) wr (unhide I0).2).mono ?_
      rintro e w' ⟨rfl, hw⟩
      subst w'
      go_wp2_with fail
      refine (implMeanOf_any al k c Z wr (unhide I0).1.row).mono ?_
      rintro e wA ⟨m, rfl, hmx, bA⟩
      have HMX := hide hmx
      have I1 : Hid (OwnE 1 flC wA w.heap.size 46 (.slice al k c) Z ∧ Below w.heap.size w wA) := hide ⟨(unhide I0).1.below bA, (unhide I0).2.trans (bA.mono (unhide I0).2.size)⟩
      clear hmx bA I0 HBW
      go_wp2_with fail
      refine (implSmooth_any al k c Z 4607182418800017408 wA (unhide I1).1.row).mono ?_
      rintro e wB ⟨v1, q1, rfl, o1, al1, bB⟩
      obtain ⟨a1, c1, rfl, _, _⟩ := o1.slice
      have hR : smR Z 4607182418800017408 = (List.range Z.length).map (fun k => smY Z 4607182418800017408 (k + 1)) := if_pos (unhide HSB)
      have HQL : Hid (q1.length = k) := hide (by rw [al1.len, hR]; simp [unhide HZL])
      have HQ : Hid (∀ j, j < k → Alike .f64 (elAt q1 j) (smY Z 4607182418800017408 (j + 1))) := hide (fun j hj => by
        have h := al1.at_ j
        rw [hR] at h
        have e : elAt ((List.range Z.length).map (fun k => smY Z 4607182418800017408 (k + 1))) j = smY Z 4607182418800017408 (j + 1) := by
          unfold elAt; rw [List.getElem?_map, List.getElem?_range (by rw [unhide HZL]; exact hj)]; rfl
        rwa [e] at h)
      have RZ := hide ((unhide I1).1.below bB).row.open1
      have RQ := hide o1.row.open1
      have BB := hide ((unhide I1).2.trans (bB.mono (unhide I1).2.size))
      clear bB o1 al1 I1 hR
      have hsb := unhide HSB
      have hql : ((q1.length : Int) != (k : Int)) = false := by rw [unhide HQL]; simp
      have HM : Hid ((0 < mcnt Z k ∧ meanB Z = true ∧ meanN Z = mcnt Z k ∧ m = fint x) ∨ (mcnt Z k = 0 ∧ meanB Z = false ∧ meanN Z = 0)) := hide (by
        have hz := unhide HZL
        by_cases hc : 0 < mcnt Z k
        · have h := mean_all hxa hxb (unhide HALL) hZ20 (by rw [hz]; exact hc)
          rw [hz] at h
          have hm := unhide HMX
          rw [h.2.1] at hm
          refine .inl ⟨hc, h.1, h.2.2, ?_⟩
          rcases hm with e | ⟨_, e⟩
          · exact e
          · rw [unhide HNX] at e; cases e
        · exact .inr ⟨by omega, mean_none (by rw [hz]; omega)⟩)
      rcases (unhide HM) with ⟨hc, hmb, hmn, rfl⟩ | ⟨hc, hmb, hmn⟩
      · have hc0 : (0 : Int) < (mcnt Z k : Int) := by omega
        have hme : (FloatKind.f64.format.order (fint x) (fint x) == some .eq) = true := by rw [order_self_eq, unhide HNX]; rfl
        have hmm : ((mcnt Z k : Int) != (mcnt Z k : Int)) = false := by simp
        go_wp2
        go_loopw [13, 14] (fun sv iv wr2 => ∃ j q : Nat, j ≤ k ∧ sv = .bool (smS Z j) ∧ iv = .int .i64 j ∧ wr2 = wB.drewN q) (fun _ i _ => k - (intOf i).toNat)
        case atStart => exact ⟨0, 0, Nat.zero_le _, rfl, rfl, rfl⟩
        case round =>
          obtain ⟨j, q, hj, rfl, rfl, hwr2⟩ := hrel
          subst wr
          by_cases hjk : j < k
          · rcases (unhide RZ) with ⟨h0, _⟩ | ⟨bb, off, rfl, _, hcz⟩
            · omega
            rcases (unhide RQ) with ⟨h0, _⟩ | ⟨bb2, off2, rfl, _, hcq⟩
            · rw [unhide HQL] at h0; omega
            have ca : wB.cell? ⟨bb, off + j, none⟩ = some (.float .f64 (elAt Z j)) := hcz j hjk
            have cb : wB.cell? ⟨bb2, off2 + j, none⟩ = some (.float .f64 (elAt q1 j)) := hcq j (by rw [unhide HQL]; exact hjk)
            have hi0 : (0 : Int) ≤ (j : Int) := by omega
            have hi1 : (j : Int) < (k : Int) := by omega
            have hi2 : (j : Int) < (q1.length : Int) := by rw [unhide HQL]; omega
            have hjz : j < Z.length := by rw [unhide HZL]; exact hjk
            have HAJ := hide (unhide HQ j hjk)
            clear hcz hcq
            cases hsj : smS Z j with
            | true =>
              have hs1 : smS Z (j + 1) = true := by show (smS Z j || _) = true; rw [hsj]; rfl
              have hq : elAt q1 j = fint x := by
                have h := unhide HAJ
                rw [smY_all hxa hxb (unhide HALL) (j + 1) (by omega) hs1] at h
                rcases h with e | ⟨_, e⟩
                · exact e
                · rw [unhide HNX] at e; cases e
              have e2 : (FloatKind.f64.format.order (elAt q1 j) (fint x) != some .eq) = false := by rw [hq, order_self_ne]; exact unhide HNX
              have HS1 := hide hs1
              clear hq hs1
              go_wp2
              go_quiet (fail)
              go_wp2
              go_quiet (fail)
              go_wp2
              go_roundw
              case rel => exact ⟨j + 1, _, by omega, by rw [unhide HS1], by go_num, by first | rfl | rw [World.drewN_drewN]⟩
              case measure => simp [intOf]; omega
            | false =>
              cases nz : nanB .f64 (elAt Z j) with
              | false =>
                have hs1 : smS Z (j + 1) = true := by show (smS Z j || _) = true; rw [nz]; simp
                have hq : elAt q1 j = fint x := by
                  have h := unhide HAJ
                  rw [smY_all hxa hxb (unhide HALL) (j + 1) (by omega) hs1] at h
                  rcases h with e | ⟨_, e⟩
                  · exact e
                  · rw [unhide HNX] at e; cases e
                have e1 : (FloatKind.f64.format.order (elAt Z j) (elAt Z j) == some .eq) = true := by rw [order_self_eq, nz]; rfl
                have e2 : (FloatKind.f64.format.order (elAt q1 j) (fint x) != some .eq) = false := by rw [hq, order_self_ne]; exact unhide HNX
                have HS1 := hide hs1
                clear hq hs1
                go_wp2
                go_quiet (fail)
                go_wp2
                go_quiet (fail)
                go_wp2
                go_roundw
                case rel => exact ⟨j + 1, _, by omega, by rw [unhide HS1], by go_num, by first | rfl | rw [World.drewN_drewN]⟩
                case measure => simp [intOf]; omega
              | true =>
                have hs1 : smS Z (j + 1) = false := by show (smS Z j || _) = false; rw [nz, hsj]; rfl
                have hq : nanB .f64 (elAt q1 j) = true := by
                  rw [(unhide HAJ).nan, smY_none _ hs1]; exact nanB_qnan _
                have e1 : (FloatKind.f64.format.order (elAt Z j) (elAt Z j) == some .eq) = false := by rw [order_self_eq, nz]; rfl
                have e3 : (FloatKind.f64.format.order (elAt q1 j) (elAt q1 j) == some .eq) = false := by rw [order_self_eq, hq]; rfl
                have HS1 := hide hs1
                clear hq hs1
                go_wp2
                go_quiet (fail)
                go_wp2
                go_quiet (fail)
                go_wp2
                go_roundw
                case rel => exact ⟨j + 1, _, by omega, by rw [unhide HS1], by go_num, by first | rfl | rw [World.drewN_drewN]⟩
                case measure => simp [intOf]; omega
          · obtain rfl : j = k := by omega
            go_wp2_with fail
            refine (implFirstOver_any _ _ _ [⟨4607182418800017408, 0, 0, 0⟩, ⟨4617315517961601024, 0, 0, 0⟩] _ _ (two_rows _ _)).mono ?_
            rw [first_two]
            rintro e wE ⟨rfl, bE⟩
            have BE := hide ((unhide BB).trans ((bel0d' q).trans (((bel1 _).trans (bE.mono (by simp))).mono (by have := (unhide BB).size; simpa using this))))
            clear bE
            go_wp2
            go_ret
            exact ⟨rfl, unhide BE⟩
      · have hc0 : ¬ (0 : Int) < (mcnt Z k : Int) := by omega
        have hmm : ((mcnt Z k : Int) != (mcnt Z k : Int)) = false := by simp
        go_wp2
        go_loopw [13, 14] (fun sv iv wr2 => ∃ j q : Nat, j ≤ k ∧ sv = .bool (smS Z j) ∧ iv = .int .i64 j ∧ wr2 = wB.drewN q) (fun _ i _ => k - (intOf i).toNat)
        case atStart => exact ⟨0, 0, Nat.zero_le _, rfl, rfl, rfl⟩
        case round =>
          obtain ⟨j, q, hj, rfl, rfl, hwr2⟩ := hrel
          subst wr
          by_cases hjk : j < k
          · rcases (unhide RZ) with ⟨h0, _⟩ | ⟨bb, off, rfl, _, hcz⟩
            · omega
            rcases (unhide RQ) with ⟨h0, _⟩ | ⟨bb2, off2, rfl, _, hcq⟩
            · rw [unhide HQL] at h0; omega
            have ca : wB.cell? ⟨bb, off + j, none⟩ = some (.float .f64 (elAt Z j)) := hcz j hjk
            have cb : wB.cell? ⟨bb2, off2 + j, none⟩ = some (.float .f64 (elAt q1 j)) := hcq j (by rw [unhide HQL]; exact hjk)
            have hi0 : (0 : Int) ≤ (j : Int) := by omega
            have hi1 : (j : Int) < (k : Int) := by omega
            have hi2 : (j : Int) < (q1.length : Int) := by rw [unhide HQL]; omega
            have hjz : j < Z.length := by rw [unhide HZL]; exact hjk
            have HAJ := hide (unhide HQ j hjk)
            clear hcz hcq
            cases hsj : smS Z j with
            | true =>
              have hs1 : smS Z (j + 1) = true := by show (smS Z j || _) = true; rw [hsj]; rfl
              have hq : elAt q1 j = fint x := by
                have h := unhide HAJ
                rw [smY_all hxa hxb (unhide HALL) (j + 1) (by omega) hs1] at h
                rcases h with e | ⟨_, e⟩
                · exact e
                · rw [unhide HNX] at e; cases e
              have e2 : (FloatKind.f64.format.order (elAt q1 j) (fint x) != some .eq) = false := by rw [hq, order_self_ne]; exact unhide HNX
              have HS1 := hide hs1
              clear hq hs1
              go_wp2
              go_quiet (fail)
              go_wp2
              go_quiet (fail)
              go_wp2
              go_roundw
              case rel => exact ⟨j + 1, _, by omega, by rw [unhide HS1], by go_num, by first | rfl | rw [World.drewN_drewN]⟩
              case measure => simp [intOf]; omega
            | false =>
              cases nz : nanB .f64 (elAt Z j) with
              | false =>
                have hs1 : smS Z (j + 1) = true := by show (smS Z j || _) = true; rw [nz]; simp
                have hq : elAt q1 j = fint x := by
                  have h := unhide HAJ
                  rw [smY_all hxa hxb (unhide HALL) (j + 1) (by omega) hs1] at h
                  rcases h with e | ⟨_, e⟩
                  · exact e
                  · rw [unhide HNX] at e; cases e
                have e1 : (FloatKind.f64.format.order (elAt Z j) (elAt Z j) == some .eq) = true := by rw [order_self_eq, nz]; rfl
                have e2 : (FloatKind.f64.format.order (elAt q1 j) (fint x) != some .eq) = false := by rw [hq, order_self_ne]; exact unhide HNX
                have HS1 := hide hs1
                clear hq hs1
                go_wp2
                go_quiet (fail)
                go_wp2
                go_quiet (fail)
                go_wp2
                go_roundw
                case rel => exact ⟨j + 1, _, by omega, by rw [unhide HS1], by go_num, by first | rfl | rw [World.drewN_drewN]⟩
                case measure => simp [intOf]; omega
              | true =>
                have hs1 : smS Z (j + 1) = false := by show (smS Z j || _) = false; rw [nz, hsj]; rfl
                have hq : nanB .f64 (elAt q1 j) = true := by
                  rw [(unhide HAJ).nan, smY_none _ hs1]; exact nanB_qnan _
                have e1 : (FloatKind.f64.format.order (elAt Z j) (elAt Z j) == some .eq) = false := by rw [order_self_eq, nz]; rfl
                have e3 : (FloatKind.f64.format.order (elAt q1 j) (elAt q1 j) == some .eq) = false := by rw [order_self_eq, hq]; rfl
                have HS1 := hide hs1
                clear hq hs1
                go_wp2
                go_quiet (fail)
                go_wp2
                go_quiet (fail)
                go_wp2
                go_roundw
                case rel => exact ⟨j + 1, _, by omega, by rw [unhide HS1], by go_num, by first | rfl | rw [World.drewN_drewN]⟩
                case measure => simp [intOf]; omega
          · obtain rfl : j = k := by omega
            go_wp2_with fail
            refine (implFirstOver_any _ _ _ [⟨4607182418800017408, 0, 0, 0⟩, ⟨4617315517961601024, 0, 0, 0⟩] _ _ (two_rows _ _)).mono ?_
            rw [first_two]
            rintro e wE ⟨rfl, bE⟩
            have BE := hide ((unhide BB).trans ((bel0d' q).trans (((bel1 _).trans (bE.mono (by simp))).mono (by have := (unhide BB).size; simpa using this))))
            clear bE
            go_wp2
            go_ret
            exact ⟨rfl, unhide BE⟩

end Go.Proofs.Ytgihdklgmndeeab

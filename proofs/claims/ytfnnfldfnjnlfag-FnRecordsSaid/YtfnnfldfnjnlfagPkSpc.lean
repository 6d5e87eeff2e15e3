/-
  What the model's Pack20 answers: a record's bytes and true, or nothing and false. At every list of rows; the answer owns its memory, nothing that was there is written.
-/
import Derived.Test.YtfnnfldfnjnlfagPk1
import Derived.Test.YtfnnfldfnjnlfagRcOk
import Derived.Test.YtfnnfldfnjnlfagApp1
import Derived.Test.YtfnnfldfnjnlfagBuLit
namespace Go.Proofs.Ytfnnfldfnjnlfag
open Go Go.RowKit

/-- A list of bytes that grows. -/
structure PkO (w wr : World) (g n c : Nat) (zs : List Int) : Prop where
  o : OwnE 1 byC wr w.heap.size 5 (.slice (some ⟨g, 0, none⟩) n c) zs
  l : zs.length = n
  b : Below w.heap.size w wr
theorem PkO.step {w wr w9 : World} {g n c g9 n9 c9 : Nat} {zs ys : List Int} (h : PkO w wr g n c zs) (V : World) (hV : Below wr.heap.size wr V) (o : OwnE 1 byC w9 w.heap.size 5 (.slice (some ⟨g9, 0, none⟩) n9 c9) (zs ++ ys)) (gr : V.grownBy w9 (some g)) (hn : (zs ++ ys).length = n9) : PkO w w9 g9 n9 c9 (zs ++ ys) := by
  have hb := h.b.trans (hV.mono h.b.size)
  exact ⟨o, hn, hb.grown gr (Nat.le_trans h.b.size hV.size) (fun q hq => by cases hq; exact (h.o.lies g rfl).1)⟩

set_option maxRecDepth 20000 in
set_option maxHeartbeats 4000000 in
theorem specPack20_some (ad : Option Addr) (len cap : Nat) (zss : List (List Int)) (w : World) (hr : RowS w ad len zss) :
    Calls Try.prog 73 #[.slice ad len cap] w fun e w' => ∃ g1 c1 : Nat, e = .returned (.tuple #[.slice (some ⟨g1, 0, none⟩) (pkL zss).length c1, .bool (pkB zss)]) ∧ OwnE 1 byC w' w.heap.size 5 (.slice (some ⟨g1, 0, none⟩) (pkL zss).length c1) (pkL zss) ∧ Below w.heap.size w w' := by
  have hz := hr.len_eq
  have HR := hide hr
  clear hr
  subst hz
  cases q1 : rcB zss
  · have HE : Hid (pkB zss = false) := hide (by rw [pkB, q1]; rfl)
    rw [pkL_no (unhide HE), unhide HE]
    go_enter Try.func73, Try.ntmps73
    go_wp2_with fail
    refine (specRecordOk_is _ _ _ zss _ (unhide HR) q1).mono ?_
    rintro e w1 ⟨rfl, b1⟩
    have B1 := hide b1
    clear b1
    go_wp2_with fail
    refine bodyPost_ret (v := .tuple #[.slice (some ⟨w1.heap.size, 0, none⟩) 0 0, .bool false]) (by simp [results, Try.results73, go_sem]) rfl ⟨_, _, rfl, ?_, (unhide B1).alloc (unhide B1).size _⟩
    exact byL_lit w1 [] (unhide B1).size (by simp)
  have HC := hide q1
  have hl200 : zss.length ≤ 200 := (rcB_facts q1).1
  obtain ⟨N, hN⟩ : ∃ N, wdN zss = N := ⟨_, rfl⟩
  have HN := hide hN
  have hN8 : N ≤ 8 := by rw [← hN]; exact wdN_le q1
  have HI0 : Hid (pkI zss 0 = [(N : Int), (zss.length : Int)]) := hide (by rw [← hN]; rfl)
  clear hN
  have e1 : (N : Int) % 256 = (N : Int) := by omega
  have e2 : (zss.length : Int) % 256 = (zss.length : Int) := by omega
  go_enter Try.func73, Try.ntmps73
  go_wp2_with fail
  refine (specRecordOk_is _ _ _ zss _ (unhide HR) q1).mono ?_
  rintro e w1 ⟨rfl, b1⟩
  have B1 := hide b1
  have R1 := hide ((unhide HR).below b1)
  clear b1 q1
  have P0 : Hid (PkO w (w1.alloc (Obj.cells #[.int .u8 (N : Int), .int .u8 (zss.length : Int)] 5)) w1.heap.size 2 2 (pkI zss 0)) := hide ⟨by rw [unhide HI0]; exact byL_lit w1 [(N : Int), (zss.length : Int)] (unhide B1).size (by simp), by rw [unhide HI0]; rfl, (unhide B1).alloc (unhide B1).size _⟩
  obtain ⟨W, hW⟩ : ∃ W, W = w1.alloc (Obj.cells #[.int .u8 (N : Int), .int .u8 (zss.length : Int)] 5) := ⟨_, rfl⟩
  rw [← hW] at P0
  have HW := hide hW
  clear hW
  have HZ0 : Hid (zss.length = 0 → N = 0) := hide (fun h => by rw [← unhide HN]; exact wdN_nil h)
  by_cases hz0 : zss.length = 0
  · have hN0 : N = 0 := (unhide HZ0) hz0
    have g0 : ¬ (0 : Int) < (zss.length : Int) := by omega
    have HZL := hide hz0
    clear hz0
    have HW0 : Hid (W = w1.alloc (Obj.cells #[.int .u8 0, .int .u8 (zss.length : Int)] 5)) := hide (by have := unhide HW; rw [hN0] at this; exact this)
    go_wp2_with fail
    rw [← unhide HW0]
    go_loopw [5, 6] (fun o i wr => ∃ (k g n c : Nat), k ≤ zss.length ∧ i = .int .i64 k ∧ o = .slice (some ⟨g, 0, none⟩) n c ∧ PkO w wr g n c (pkI zss k)) (fun _ i _ => zss.length - (intOf i).toNat)
    case atStart => exact ⟨0, _, _, _, Nat.zero_le _, rfl, rfl, unhide P0⟩
    case round =>
      clear P0 R1 B1
      obtain ⟨k, g, n, c, hk, rfl, rfl, hpo⟩ := hrel
      have PO := hide hpo
      clear hpo
      by_cases hlt : k < zss.length
      · exact absurd hlt (by have := unhide HZL; omega)
      · have i1 : ¬ (k : Int) < (zss.length : Int) := by omega
        have hkk : k = zss.length := by omega
        have NF : Hid (PkO w wr g n c (pkF zss)) := hide (by have := unhide PO; rw [hkk] at this; exact this)
        clear hkk
        have HNF : Hid ((pkF zss).length = n) := hide (unhide NF).l
        by_cases hf : n ≤ 1500
        · have HE : Hid (pkB zss = true) := hide (by rw [pkB, unhide HC, unhide HNF, show decide (n ≤ 1500) = true by simpa using hf]; rfl)
          have g1 : ¬ (1500 : Int) < (n : Int) := by omega
          go_wp2_with fail
          refine bodyPost_ret (v := .tuple #[.slice (some ⟨g, 0, none⟩) n c, .bool true]) (by simp [results, Try.results73, go_sem]) rfl ?_
          rw [pkL_yes (unhide HE), unhide HE, unhide HNF]
          exact ⟨_, _, rfl, (unhide NF).o, (unhide NF).b⟩
        · have HE : Hid (pkB zss = false) := hide (by rw [pkB, unhide HNF, show decide (n ≤ 1500) = false by simpa using hf, Bool.and_false])
          have g1 : (1500 : Int) < (n : Int) := by omega
          go_wp2_with fail
          refine bodyPost_ret (v := .tuple #[.slice (some ⟨wr.heap.size, 0, none⟩) 0 0, .bool false]) (by simp [results, Try.results73, go_sem]) rfl ?_
          rw [pkL_no (unhide HE), unhide HE]
          exact ⟨_, _, rfl, byL_lit wr [] (unhide NF).b.size (by simp), (unhide NF).b.alloc (unhide NF).b.size _⟩
  · have g0 : (0 : Int) < (zss.length : Int) := by omega
    rcases (unhide R1).open_ with ⟨h0, _⟩ | ⟨bz, oz, rfl, _, hcz⟩
    · omega
    obtain ⟨az, lz, cz, cz0, rz, _⟩ := hcz 0 (by omega)
    rw [Nat.add_zero] at cz0
    have hlz : lz = N := by have q2 := unhide HN; have q3 := rz.len_eq; unfold wdN at q2; omega
    rw [hlz] at cz0
    clear hcz rz hz0 hlz
    go_wp2_with fail
    rw [← unhide HW]
    clear cz0
    go_loopw [5, 6] (fun o i wr => ∃ (k g n c : Nat), k ≤ zss.length ∧ i = .int .i64 k ∧ o = .slice (some ⟨g, 0, none⟩) n c ∧ PkO w wr g n c (pkI zss k)) (fun _ i _ => zss.length - (intOf i).toNat)
    case atStart => exact ⟨0, _, _, _, Nat.zero_le _, rfl, rfl, unhide P0⟩
    case round =>
      clear P0 R1 B1
      obtain ⟨k, g, n, c, hk, rfl, rfl, hpo⟩ := hrel
      have PO := hide hpo
      clear hpo
      by_cases hlt : k < zss.length
      · have i0 : (0 : Int) ≤ (k : Int) := by omega
        have i1 : (k : Int) < (zss.length : Int) := by omega
        go_wp2_with fail
        go_loopw [5, 7] (fun o i wr => ∃ (j g n c : Nat), j ≤ N ∧ i = .int .i64 j ∧ o = .slice (some ⟨g, 0, none⟩) n c ∧ PkO w wr g n c (pkK zss k j)) (fun _ i _ => N - (intOf i).toNat)
        case atStart => exact ⟨0, _, _, _, Nat.zero_le _, rfl, rfl, by rw [pkK_zero]; exact unhide PO⟩
        case round =>
          clear PO
          obtain ⟨j, g, n, c, hj, rfl, rfl, hpo⟩ := hrel
          have PO := hide hpo
          have HNL := hide hpo.l
          have hn7 : n ≤ 7000 := by rw [← hpo.l]; exact pkK_len (unhide HC) hk (by rw [unhide HN]; exact hj)
          clear hpo
          by_cases hlj : j < N
          · have j0 : (0 : Int) ≤ (j : Int) := by omega
            have j1 : (j : Int) < (N : Int) := by omega
            have rr := (unhide HR).below (unhide PO).b
            rcases rr.open_ with ⟨h0, _⟩ | ⟨bb, off, hbo, _, hc⟩
            · omega
            simp only [Option.some.injEq, Addr.mk.injEq, and_true] at hbo
            obtain ⟨rfl, rfl⟩ := hbo
            obtain ⟨ai, li, ci, ck, rk, _⟩ := hc k hlt
            have hli : li = N := by have q1 := ((rcB_facts (unhide HC)).2 k hlt).1; have q2 := unhide HN; have q3 := rk.len_eq; unfold wdN at q2; omega
            rw [hli] at ck rk
            clear hli
            rcases rk.open_ with ⟨h0, _⟩ | ⟨b4, o4, rfl, _, hc4⟩
            · omega
            have x4 := hc4 j hlj
            obtain ⟨u, hu⟩ : ∃ u, u = nth (nthS zss k) j := ⟨_, rfl⟩
            have hu2 : -30000 ≤ u ∧ u ≤ 30000 := by rw [hu]; exact row_in (unhide HC) hlt (by rw [unhide HN]; exact hlj)
            rw [← hu] at x4
            have HU := hide hu
            clear hu hc4 rk
            by_cases hk0 : k = 0
            · have d0 : ¬ (0 : Int) < (k : Int) := by omega
              have d1 : decide ((0 : Int) < (k : Int)) = false := by simp; omega
              have d2 : decide (0 < k) = false := by simp; omega
              have HCC : Hid (chC zss k j = u) := hide (by rw [unhide HU, hk0, chC]; simp [ahL, nth, show j < wdN zss by rw [unhide HN]; exact hlj])
              clear hk0 hc
              cases hs : inB u (-100) 100
              · skip
                have HS : Hid (inB (u) (-100) 100 = false) := hide hs
                have HX := hide (chL_n (unhide HS))
                clear hs
                have OV : Hid (∀ V : World, RowE 1 byC (V.alloc (Obj.cells #[.int .u8 255, .int .u8 (((u) + 60000) / 65536), .int .u8 (((u) + 60000) / 256 % 256), .int .u8 (((u) + 60000) % 256)] 5)) (some ⟨V.heap.size, 0, none⟩) 4 (chL (u))) := hide (fun V => by rw [unhide HX]; exact (byL_lit (base := V.heap.size) V [255, ((u) + 60000) / 65536, ((u) + 60000) / 256 % 256, ((u) + 60000) % 256] (Nat.le_refl _) (by simp)).row)
                have HL9 : Hid ((pkK zss k j ++ chL (u)).length = n + 4) := hide (by rw [List.length_append, unhide HNL, unhide HX]; rfl)
                have HKS : Hid (pkK zss k (j + 1) = pkK zss k j ++ chL (u)) := hide (by rw [← unhide HCC]; exact pkK_succ zss k j)
                go_wp2_with fail
                refine (l1In_is _ _ _ _ (unhide HS)).mono ?_
                rintro e w2 ⟨rfl, hw2⟩
                subst w2
                go_wp2_with (at_builtin; refine wpList_app_by rfl _ _ rfl ((unhide PO).o.below (bel1 _)) (unhide HNL) rfl _ _ _ (chL (u)) rfl ((unhide OV) _) (by omega) (Nat.le_trans (unhide PO).b.size (bel1 _).size) ?_; intro g9 c9 w9 o9 gr9 hg9)
                have N9 := hide ((unhide PO).step _ (bel1 _) o9 gr9 (unhide HL9))
                clear o9 gr9 hg9
                go_roundw
                case rel => exact ⟨j + 1, g9, n + 4, c9, by omega, by go_num, rfl, by rw [unhide HKS]; exact unhide N9⟩
                case measure => simp [intOf]; omega
              · skip
                have HS : Hid (inB (u) (-100) 100 = true) := hide hs
                have HX := hide (chL_y (unhide HS))
                have hin := in_facts hs
                have e5 : ((u) + 100) % 256 = (u) + 100 := by omega
                clear hs
                have OV : Hid (∀ V : World, RowE 1 byC (V.alloc (Obj.cells #[.int .u8 ((u) + 100)] 5)) (some ⟨V.heap.size, 0, none⟩) 1 (chL (u))) := hide (fun V => by rw [unhide HX]; exact (byL_lit (base := V.heap.size) V [(u) + 100] (Nat.le_refl _) (by simp)).row)
                have HL9 : Hid ((pkK zss k j ++ chL (u)).length = n + 1) := hide (by rw [List.length_append, unhide HNL, unhide HX]; rfl)
                have HKS : Hid (pkK zss k (j + 1) = pkK zss k j ++ chL (u)) := hide (by rw [← unhide HCC]; exact pkK_succ zss k j)
                go_wp2_with fail
                refine (l1In_is _ _ _ _ (unhide HS)).mono ?_
                rintro e w2 ⟨rfl, hw2⟩
                subst w2
                go_wp2_with (at_builtin; refine wpList_app_by rfl _ _ rfl ((unhide PO).o.below (bel1 _)) (unhide HNL) rfl _ _ _ (chL (u)) rfl ((unhide OV) _) (by omega) (Nat.le_trans (unhide PO).b.size (bel1 _).size) ?_; intro g9 c9 w9 o9 gr9 hg9)
                have N9 := hide ((unhide PO).step _ (bel1 _) o9 gr9 (unhide HL9))
                clear o9 gr9 hg9
                go_roundw
                case rel => exact ⟨j + 1, g9, n + 1, c9, by omega, by go_num, rfl, by rw [unhide HKS]; exact unhide N9⟩
                case measure => simp [intOf]; omega
            · have d0 : (0 : Int) < (k : Int) := by omega
              have d1 : decide ((0 : Int) < (k : Int)) = true := by simp; omega
              have d2 : decide (0 < k) = true := by simp; omega
              obtain ⟨p, hp⟩ : ∃ p, k = p + 1 := ⟨k - 1, by omega⟩
              obtain ⟨ap, lp, cp, cpk, rp, _⟩ := hc p (by omega)
              have hlp : lp = N := by have q1 := ((rcB_facts (unhide HC)).2 p (by omega)).1; have q2 := unhide HN; have q3 := rp.len_eq; unfold wdN at q2; omega
              rw [hlp] at cpk rp
              clear hlp
              rcases rp.open_ with ⟨h0, _⟩ | ⟨b5, o5, rfl, _, hc5⟩
              · omega
              have x5 := hc5 j hlj
              obtain ⟨v, hv⟩ : ∃ v, v = nth (nthS zss p) j := ⟨_, rfl⟩
              have hv2 : -30000 ≤ v ∧ v ≤ 30000 := by rw [hv]; exact row_in (unhide HC) (by omega) (by rw [unhide HN]; exact hlj)
              rw [← hv] at x5
              have HCC : Hid (chC zss k j = u - v) := hide (by rw [unhide HU, hv, hp]; rfl)
              have e6 : (k : Int) - 1 = (p : Int) := by omega
              have e7 : IntKind.i64.wrap (p : Int) = (p : Int) := by rw [IntKind.wrap_i64]; omega
              have e8 : (0 : Int) ≤ (p : Int) := by omega
              have e9 : (p : Int) < (zss.length : Int) := by omega
              clear hk0 hc hp hv hc5 rp
              cases hs : inB (u - v) (-100) 100
              · skip
                have HS : Hid (inB (u - v) (-100) 100 = false) := hide hs
                have HX := hide (chL_n (unhide HS))
                clear hs
                have OV : Hid (∀ V : World, RowE 1 byC (V.alloc (Obj.cells #[.int .u8 255, .int .u8 (((u - v) + 60000) / 65536), .int .u8 (((u - v) + 60000) / 256 % 256), .int .u8 (((u - v) + 60000) % 256)] 5)) (some ⟨V.heap.size, 0, none⟩) 4 (chL (u - v))) := hide (fun V => by rw [unhide HX]; exact (byL_lit (base := V.heap.size) V [255, ((u - v) + 60000) / 65536, ((u - v) + 60000) / 256 % 256, ((u - v) + 60000) % 256] (Nat.le_refl _) (by simp)).row)
                have HL9 : Hid ((pkK zss k j ++ chL (u - v)).length = n + 4) := hide (by rw [List.length_append, unhide HNL, unhide HX]; rfl)
                have HKS : Hid (pkK zss k (j + 1) = pkK zss k j ++ chL (u - v)) := hide (by rw [← unhide HCC]; exact pkK_succ zss k j)
                go_wp2_with fail
                refine (l1In_is _ _ _ _ (unhide HS)).mono ?_
                rintro e w2 ⟨rfl, hw2⟩
                subst w2
                go_wp2_with (at_builtin; refine wpList_app_by rfl _ _ rfl ((unhide PO).o.below (bel1 _)) (unhide HNL) rfl _ _ _ (chL (u - v)) rfl ((unhide OV) _) (by omega) (Nat.le_trans (unhide PO).b.size (bel1 _).size) ?_; intro g9 c9 w9 o9 gr9 hg9)
                have N9 := hide ((unhide PO).step _ (bel1 _) o9 gr9 (unhide HL9))
                clear o9 gr9 hg9
                go_roundw
                case rel => exact ⟨j + 1, g9, n + 4, c9, by omega, by go_num, rfl, by rw [unhide HKS]; exact unhide N9⟩
                case measure => simp [intOf]; omega
              · skip
                have HS : Hid (inB (u - v) (-100) 100 = true) := hide hs
                have HX := hide (chL_y (unhide HS))
                have hin := in_facts hs
                have e5 : ((u - v) + 100) % 256 = (u - v) + 100 := by omega
                clear hs
                have OV : Hid (∀ V : World, RowE 1 byC (V.alloc (Obj.cells #[.int .u8 ((u - v) + 100)] 5)) (some ⟨V.heap.size, 0, none⟩) 1 (chL (u - v))) := hide (fun V => by rw [unhide HX]; exact (byL_lit (base := V.heap.size) V [(u - v) + 100] (Nat.le_refl _) (by simp)).row)
                have HL9 : Hid ((pkK zss k j ++ chL (u - v)).length = n + 1) := hide (by rw [List.length_append, unhide HNL, unhide HX]; rfl)
                have HKS : Hid (pkK zss k (j + 1) = pkK zss k j ++ chL (u - v)) := hide (by rw [← unhide HCC]; exact pkK_succ zss k j)
                go_wp2_with fail
                refine (l1In_is _ _ _ _ (unhide HS)).mono ?_
                rintro e w2 ⟨rfl, hw2⟩
                subst w2
                go_wp2_with (at_builtin; refine wpList_app_by rfl _ _ rfl ((unhide PO).o.below (bel1 _)) (unhide HNL) rfl _ _ _ (chL (u - v)) rfl ((unhide OV) _) (by omega) (Nat.le_trans (unhide PO).b.size (bel1 _).size) ?_; intro g9 c9 w9 o9 gr9 hg9)
                have N9 := hide ((unhide PO).step _ (bel1 _) o9 gr9 (unhide HL9))
                clear o9 gr9 hg9
                go_roundw
                case rel => exact ⟨j + 1, g9, n + 1, c9, by omega, by go_num, rfl, by rw [unhide HKS]; exact unhide N9⟩
                case measure => simp [intOf]; omega
          · have j1 : ¬ (j : Int) < (N : Int) := by omega
            have N6 : Hid (PkO w wr g n c (pkI zss (k + 1))) := hide (by have := unhide PO; rw [show j = wdN zss by rw [unhide HN]; omega, pkK_row] at this; exact this)
            go_wp2_with fail
            go_roundw
            case rel => exact ⟨k + 1, g, n, c, by omega, by go_num, rfl, unhide N6⟩
            case measure => simp [intOf]; omega
      · have i1 : ¬ (k : Int) < (zss.length : Int) := by omega
        have hkk : k = zss.length := by omega
        have NF : Hid (PkO w wr g n c (pkF zss)) := hide (by have := unhide PO; rw [hkk] at this; exact this)
        clear hkk
        have HNF : Hid ((pkF zss).length = n) := hide (unhide NF).l
        by_cases hf : n ≤ 1500
        · have HE : Hid (pkB zss = true) := hide (by rw [pkB, unhide HC, unhide HNF, show decide (n ≤ 1500) = true by simpa using hf]; rfl)
          have g1 : ¬ (1500 : Int) < (n : Int) := by omega
          go_wp2_with fail
          refine bodyPost_ret (v := .tuple #[.slice (some ⟨g, 0, none⟩) n c, .bool true]) (by simp [results, Try.results73, go_sem]) rfl ?_
          rw [pkL_yes (unhide HE), unhide HE, unhide HNF]
          exact ⟨_, _, rfl, (unhide NF).o, (unhide NF).b⟩
        · have HE : Hid (pkB zss = false) := hide (by rw [pkB, unhide HNF, show decide (n ≤ 1500) = false by simpa using hf, Bool.and_false])
          have g1 : (1500 : Int) < (n : Int) := by omega
          go_wp2_with fail
          refine bodyPost_ret (v := .tuple #[.slice (some ⟨wr.heap.size, 0, none⟩) 0 0, .bool false]) (by simp [results, Try.results73, go_sem]) rfl ?_
          rw [pkL_no (unhide HE), unhide HE]
          exact ⟨_, _, rfl, byL_lit wr [] (unhide NF).b.size (by simp), (unhide NF).b.alloc (unhide NF).b.size _⟩
theorem specPack20_any (ad : Option Addr) (len cap : Nat) (zss : List (List Int)) (w : World) (hr : RowS w ad len zss) :
    Calls Try.prog 73 #[.slice ad len cap] w fun e w' => ∃ a1 c1, e = .returned (.tuple #[.slice a1 (pkL zss).length c1, .bool (pkB zss)]) ∧ OwnE 1 byC w' w.heap.size 5 (.slice a1 (pkL zss).length c1) (pkL zss) ∧ Below w.heap.size w w' :=
  (specPack20_some ad len cap zss w hr).mono fun _ _ ⟨_, _, he, o, b⟩ => ⟨_, _, he, o, b⟩

end Go.Proofs.Ytfnnfldfnjnlfag

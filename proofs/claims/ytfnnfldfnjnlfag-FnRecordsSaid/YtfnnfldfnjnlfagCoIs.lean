/-
  What Column answers, in the model and in the program: a column and true, or nothing and false. At every list of rows and every place; the answer owns its memory, nothing that was there is written.
-/
import Derived.Test.YtfnnfldfnjnlfagRcOk
import Derived.Test.YtfnnfldfnjnlfagLoopAt
namespace Go.Proofs.Ytfnnfldfnjnlfag
open Go.RowKit

theorem coL_no {zss : List (List Int)} {a : Int} (h : coB zss a = false) : coL zss a = [] := by rw [coL, h]; rfl
theorem coL_yes {zss : List (List Int)} {a : Int} (h : coB zss a = true) : coL zss a = coK zss a zss.length := by rw [coL, h]; rfl
theorem ownI_new {w w1 : World} (hb : w.heap.size ≤ w1.heap.size) : OwnI (w1.alloc (Obj.cells #[] 3)) w.heap.size (.slice (some ⟨w1.heap.size, 0, none⟩) 0 0) [] := ownI_none hb
set_option maxRecDepth 20000 in
set_option maxHeartbeats 2000000 in
theorem implColumn_any (ad : Option Addr) (len cap : Nat) (zss : List (List Int)) (t : Int) (w : World) (hr : RowS w ad len zss) :
    Calls Try.prog 26 #[.slice ad len cap, .int .i64 t] w fun e w' => ∃ a1 c1, e = .returned (.tuple #[.slice a1 (coL zss t).length c1, .bool (coB zss t)]) ∧ OwnI w' w.heap.size (.slice a1 (coL zss t).length c1) (coL zss t) ∧ Below w.heap.size w w' := by
  have hz := hr.len_eq
  have hs := hr.small
  have HR := hide hr
  clear hr
  subst hz
  obtain ⟨W, hW⟩ : ∃ W, W = w.alloc (Obj.cells #[] 3) := ⟨_, rfl⟩
  have BW : Hid (Below w.heap.size w W) := hide (by rw [hW]; exact bel1 _)
  have O0 : Hid (OwnI W w.heap.size (.slice (some ⟨w.heap.size, 0, none⟩) 0 0) []) := hide (by rw [hW]; exact ownI_new (Nat.le_refl _))
  have HW := hide hW
  clear hW
  cases q1 : rcB zss
  · have HE : Hid (coB zss t = false) := hide (by rw [coB, q1]; rfl)
    rw [coL_no (unhide HE), unhide HE]
    go_enter Try.func26, Try.ntmps26
    go_wp2_with fail
    rw [← unhide HW]
    refine (implRecordOk_is _ _ _ zss _ ((unhide HR).below (unhide BW)) q1).mono ?_
    rintro e w1 ⟨rfl, b1⟩
    have B1 := hide ((unhide BW).trans (b1.mono (unhide BW).size))
    have O1 := hide ((unhide O0).below b1)
    have R1 := hide ((unhide HR).below (unhide B1))
    clear b1
    go_wp2_with fail
    refine bodyPost_ret (v := .tuple #[.slice (some ⟨w.heap.size, 0, none⟩) 0 0, .bool false]) (by simp [results, Try.results26, go_sem]) rfl ⟨_, _, rfl, unhide O1, unhide B1⟩
  by_cases q2 : 0 < zss.length
  · have RO := hide (unhide HR).open_
    rcases (unhide RO) with ⟨h0, _⟩ | ⟨bb, off, rfl, _, hc⟩
    · omega
    obtain ⟨a0, l0, c0, cz, r0, _⟩ := hc 0 q2
    rw [Nat.add_zero] at cz
    have HWD : Hid (wdN zss = l0) := hide r0.len_eq
    have hl0 : l0 ≤ 8 := by have := (rcB_facts q1).2 0 q2; rw [← r0.len_eq]; omega
    have n0 : ((zss.length : Int) == 0) = false := by rw [beq_eq_false_iff_ne]; omega
    have i2 : (0 : Int) < (zss.length : Int) := by omega
    have HC := hide hc
    clear hc r0 RO
    cases q3 : inB t 0 ((l0 : Int) - 1)
    · have HE : Hid (coB zss t = false) := hide (by rw [coB, q1, unhide HWD, q3]; simp)
      rw [coL_no (unhide HE), unhide HE]
      go_enter Try.func26, Try.ntmps26
      go_wp2_with fail
      rw [← unhide HW]
      refine (implRecordOk_is _ _ _ zss _ ((unhide HR).below (unhide BW)) q1).mono ?_
      rintro e w1 ⟨rfl, b1⟩
      have B1 := hide ((unhide BW).trans (b1.mono (unhide BW).size))
      have O1 := hide ((unhide O0).below b1)
      have R1 := hide ((unhide HR).below (unhide B1))
      clear b1
      have x0 := ((unhide B1).cell (block_lt_of_cell cz)).trans cz
      go_wp2_with fail
      refine (wideOf_is _ _ _ zss _ (unhide R1) (unhide HWD)).mono ?_
      rintro e w2 ⟨rfl, rfl⟩
      go_wp2_with fail
      refine (within_is _ _ _ _ q3).mono ?_
      rintro e w3 ⟨rfl, rfl⟩
      go_wp2_with fail
      refine bodyPost_ret (v := .tuple #[.slice (some ⟨w.heap.size, 0, none⟩) 0 0, .bool false]) (by simp [results, Try.results26, go_sem]) rfl ⟨_, _, rfl, unhide O1, unhide B1⟩
    · have HE : Hid (coB zss t = true) := hide (by rw [coB, q1, unhide HWD, q3]; simp [q2])
      have HG := hide (coB_facts (unhide HE))
      have HF := hide (rcB_facts q1)
      rw [coL_yes (unhide HE), unhide HE, coK_len]
      go_enter Try.func26, Try.ntmps26
      go_wp2_with fail
      rw [← unhide HW]
      refine (implRecordOk_is _ _ _ zss _ ((unhide HR).below (unhide BW)) q1).mono ?_
      rintro e w1 ⟨rfl, b1⟩
      have B1 := hide ((unhide BW).trans (b1.mono (unhide BW).size))
      have O1 := hide ((unhide O0).below b1)
      have R1 := hide ((unhide HR).below (unhide B1))
      clear b1
      have x0 := ((unhide B1).cell (block_lt_of_cell cz)).trans cz
      go_wp2_with fail
      refine (wideOf_is _ _ _ zss _ (unhide R1) (unhide HWD)).mono ?_
      rintro e w2 ⟨rfl, rfl⟩
      go_wp2_with fail
      refine (within_is _ _ _ _ q3).mono ?_
      rintro e w3 ⟨rfl, rfl⟩
      obtain ⟨n, hn⟩ : ∃ n : Nat, t = (n : Int) := ⟨t.toNat, by have := (unhide HG).2.2.1; omega⟩
      subst hn
      have hnl : n < l0 := by have := (unhide HG).2.2.2; rw [unhide HWD] at this; omega
      clear q1 q3 HE
      have hl200 : zss.length ≤ 200 := (unhide HF).1
      go_wp2_with fail
      go_loopw [6, 24] (fun o i wr => ∃ (k g c : Nat), k ≤ zss.length ∧ i = .int .i64 k ∧ o = .slice (some ⟨g, 0, none⟩) k c ∧ LoopAt w wr [] w.heap.size g k c (coK zss n k)) (fun o i _ => zss.length - (intOf i).toNat)
      case atStart => exact ⟨0, _, _, Nat.zero_le _, rfl, rfl, ⟨by simp, unhide O1, rfl, unhide B1, Nat.le_refl _, (unhide B1).size⟩⟩
      case round =>
        clear O1 B1 R1 x0
        obtain ⟨k, g, c, hk, rfl, rfl, hla⟩ := hrel
        have LA := hide hla
        clear hla
        by_cases hlt : k < zss.length
        · obtain ⟨ai, li, ci, ck, rk, _⟩ := (unhide HC) k hlt
          have hli : n < li := by have e1 := ((unhide HF).2 k hlt).1; have e2 : (nthS zss 0).length = l0 := unhide HWD; have e3 := rk.len_eq; omega
          have x1 := ((unhide LA).b.cell (block_lt_of_cell ck)).trans ck
          have rk2 := rk.below (unhide LA).b
          rcases rk2.open_ with ⟨h0, _⟩ | ⟨b2, o2, rfl, _, hc2⟩
          · omega
          have x2 := hc2 n hli
          have hsm2 := rk2.small
          have hft := rk2.fit n
          have HX : Hid (coK zss n (k + 1) = coK zss n k ++ [nth (nthS zss k) n]) := hide (coK_succ zss n k)
          have i0 : (0 : Int) ≤ (k : Int) := by omega
          have i1 : (k : Int) < (zss.length : Int) := by omega
          have j1 : (n : Int) < (li : Int) := by omega
          have y1 : (wr.alloc (Obj.cells #[.int .i64 (nth (nthS zss k) n)] 3)).cell? ⟨bb, off + k, none⟩ = some (.slice (some ⟨b2, o2, none⟩) li ci) := by rw [(bel1 _).cell (block_lt_of_cell x1)]; exact x1
          clear ck rk rk2 hc2 y1
          obtain ⟨v, hv⟩ : ∃ v, v = nth (nthS zss k) n := ⟨_, rfl⟩
          rw [← hv] at x2 HX hft
          clear hv
          go_wp2_with (at_builtin; refine wpList_app_int rfl _ _ rfl v (unhide LA).o (unhide LA).l rfl rfl rfl (unhide LA).t (by omega) hft ?_; intro g9 c9 w9 o9 gr9)
          have N := hide ((unhide LA).step o9 gr9)
          clear o9 gr9
          go_roundw
          case rel => exact ⟨k + 1, g9, c9, by omega, by go_num, rfl, by rw [unhide HX]; exact unhide N⟩
          case measure => simp [intOf]; omega
        · have hkk : Hid (k = zss.length) := hide (by omega)
          have i1 : ¬ (k : Int) < (zss.length : Int) := by omega
          go_wp2_with fail
          refine bodyPost_ret (v := .tuple #[.slice (some ⟨g, 0, none⟩) k c, .bool true]) (by simp [results, Try.results26, go_sem]) rfl ?_
          have z := unhide LA
          have e := unhide hkk
          subst e
          exact ⟨_, _, rfl, z.o, z.b⟩
  · have h0 : zss.length = 0 := by omega
    have HE : Hid (coB zss t = false) := hide (by rw [coB, show decide (0 < zss.length) = false by simp [h0]]; simp)
    have HWD := hide (wdN_nil h0)
    have q3 : inB t 0 (((0 : Nat) : Int) - 1) = false := by simp only [inB, decide_eq_false_iff_not]; omega
    have n0 : ((zss.length : Int) == 0) = true := by rw [h0]; rfl
    rw [coL_no (unhide HE), unhide HE]
    clear h0 q2
    go_enter Try.func26, Try.ntmps26
    go_wp2_with fail
    rw [← unhide HW]
    refine (implRecordOk_is _ _ _ zss _ ((unhide HR).below (unhide BW)) q1).mono ?_
    rintro e w1 ⟨rfl, b1⟩
    have B1 := hide ((unhide BW).trans (b1.mono (unhide BW).size))
    have O1 := hide ((unhide O0).below b1)
    have R1 := hide ((unhide HR).below (unhide B1))
    clear b1
    go_wp2_with fail
    refine (wideOf_is _ _ _ zss _ (unhide R1) (unhide HWD)).mono ?_
    rintro e w2 ⟨rfl, rfl⟩
    go_wp2_with fail
    refine (within_is _ _ _ _ q3).mono ?_
    rintro e w3 ⟨rfl, rfl⟩
    go_wp2_with fail
    refine bodyPost_ret (v := .tuple #[.slice (some ⟨w.heap.size, 0, none⟩) 0 0, .bool false]) (by simp [results, Try.results26, go_sem]) rfl ⟨_, _, rfl, unhide O1, unhide B1⟩

end Go.Proofs.Ytfnnfldfnjnlfag

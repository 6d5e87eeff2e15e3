/-
  The law FnSlots returns true at every list of bytes and writes nothing that was there: the walk. No condition.
-/
import Derived.Test.YtnhcmokkankcmafAtFun
import Derived.Test.YtnhcmokkankcmafAppI
import Derived.Test.YtnhcmokkankcmafSlFacts
import Derived.Test.YtnhcmokkankcmafBuSlI
namespace Go.Proofs.Ytnhcmokkankcmaf
open Go.RowKit

set_option maxRecDepth 20000 in
set_option maxHeartbeats 1000000 in
theorem lawFnSlots_big (a : Option Addr) (len cap : Nat) (w : World) (h : (1048576 : Int) < len) :
    Calls Try.prog 6 #[.slice a len cap] w fun e w' => e = .returned (.bool true) ∧ Below w.heap.size w w' := by
  have hd : decide ((1048576 : Int) < len) = true := by simpa using h
  go_enter Try.func6, Try.ntmps6
  go_wp2_with fail
  refine (big_any a len cap _).mono ?_
  rintro e w' ⟨rfl, hw⟩
  subst w'
  rw [hd]
  go_wp2
  go_ret
  exact ⟨rfl, Below.refl _ _⟩

set_option maxRecDepth 20000 in
set_option maxHeartbeats 3000000 in
theorem lawFnSlots_small (a : Option Addr) (len cap : Nat) (w : World) (h : ¬ (1048576 : Int) < len) (hb : Bytes w a len) :
    Calls Try.prog 6 #[.slice a len cap] w fun e w' => e = .returned (.bool true) ∧ Below w.heap.size w w' := by
  have hd0 : decide ((1048576 : Int) < len) = false := by simpa using h
  obtain ⟨f, hf, hat⟩ := at_fun a len cap w hb (by omega)
  have HAT := hide hat
  have HF := hide hf
  obtain ⟨n, hn⟩ : ∃ n : Nat, 1 + f 0 % 20 = (n : Int) := ⟨(1 + f 0 % 20).toNat, by have := hf 0; omega⟩
  have hn1 : 1 ≤ n ∧ n ≤ 20 := by have := hf 0; omega
  have hp0 := hf 0
  have HN0 := hide hn
  clear hb h hat hf hn
  go_enter Try.func6, Try.ntmps6
  go_wp2_with fail
  refine (big_any a len cap _).mono ?_
  rintro e w' ⟨rfl, hw⟩
  subst w'
  rw [hd0]
  go_wp2_with fail
  go_loopw [3, 4] (fun s3 s4 wr => ∃ (k g m c : Nat), k ≤ n ∧ s3 = .slice (some ⟨g, 0, none⟩) m c ∧ s4 = .int .i64 (k : Int) ∧ Hid (m = k) ∧ Hid (OwnI wr w.heap.size (.slice (some ⟨g, 0, none⟩) m c) (slG f k)) ∧ Hid (Below w.heap.size w wr)) (fun _ s4 _ => n - (intOf s4).toNat)
  case atStart => exact ⟨0, w.heap.size, 0, 0, by omega, rfl, rfl, hide rfl, hide (ownI_none (Nat.le_refl _)), hide (bel1 _)⟩
  case round =>
    obtain ⟨k, g, m, c, hk, rfl, rfl, HM, HO, HB⟩ := hrel
    go_wp2_with fail
    refine ((unhide HAT) 0 _ rfl (by omega) _ (unhide HB)).mono ?_
    rintro e w1 ⟨rfl, hw⟩
    subst w1
    have hx0 : f 0 % 20 = (n : Int) - 1 := by have := unhide HN0; omega
    have hx1 : (f 0).tmod 20 = (n : Int) - 1 := by rw [Int.tmod_eq_emod_of_nonneg hp0.1]; exact hx0
    have hx2 : 1 + ((n : Int) - 1) = (n : Int) := by omega
    by_cases hlt : k < n
    · have k1 : (k : Int) < (n : Int) := by omega
      have hfk := (unhide HF) (k + 1)
      go_wp2_with fail
      refine ((unhide HAT) (k + 1) _ (by omega) (by omega) _ (unhide HB)).mono ?_
      rintro e w1 ⟨rfl, hw⟩
      subst w1
      obtain ⟨y, hy⟩ : ∃ y, f (k + 1) = y := ⟨_, rfl⟩
      rw [hy] at hfk ⊢
      have hy3 : y.tmod 3 = y % 3 := Int.tmod_eq_emod_of_nonneg hfk.1
      have hbs := (unhide HB).size
      have hmk : m ≤ 20 := by have := unhide HM; omega
      have HY := hide hy
      clear hy
      go_wp2_with (at_builtin; refine wpList_app_int rfl _ _ rfl (n := m) (1 + y % 3) (unhide HO) (by rw [slG_len]; exact (unhide HM).symm) rfl rfl rfl hbs (by omega) (by omega) ?_; intro g' c' w9 o9 gr9; have O9 : Hid (OwnI w9 w.heap.size (.slice (some ⟨g', 0, none⟩) (m + 1) c') (slG f (k + 1))) := hide (by rw [slG_succ, unhide HY]; exact o9); have B9 := hide ((unhide HB).grown gr9 hbs (fun q hq => ((unhide HO).lies q hq).1)); clear o9 gr9)
      go_roundw
      case rel => exact ⟨k + 1, g', m + 1, c', by omega, rfl, by go_num, hide (by have := unhide HM; omega), O9, B9⟩
      case measure => simp [intOf]; omega
    · have hkn : k = n := by omega
      have PL : Hid (SlPlan (slG f n)) := hide (slG_plan hn1.1 hn1.2)
      have OO : Hid (OwnI wr w.heap.size (.slice (some ⟨g, 0, none⟩) n c) (slG f n)) := hide (by have := unhide HO; rw [unhide HM, hkn] at this; exact this)
      have hmn : m = n := by have := unhide HM; omega
      have k1 : ¬ (k : Int) < (n : Int) := by omega
      obtain ⟨gs, hgs⟩ : ∃ gs, slG f n = gs := ⟨_, rfl⟩
      have hgl : gs.length = n := by rw [← hgs]; exact slG_len f n
      rw [hgs] at PL OO
      rw [hmn]
      have hp30 := (unhide HF) 30
      clear hkn hmn hgs HO HM
      go_wp2_with fail
      refine ((unhide HAT) 30 _ rfl (by omega) _ (unhide HB)).mono ?_
      rintro e w1 ⟨rfl, hw⟩
      subst w1
      obtain ⟨T, hT⟩ : ∃ T : Nat, f 30 * 7 = (T : Int) := ⟨(f 30 * 7).toNat, by omega⟩
      have hT2 : T ≤ 1785 := by omega
      have R0 := hide (unhide OO).row
      obtain ⟨i, hi⟩ : ∃ i, T % gs.length = i := ⟨_, rfl⟩
      have hil : i < n := by rw [← hi, hgl]; exact Nat.mod_lt _ (by omega)
      obtain ⟨L, hL⟩ : ∃ L, nth gs i = L := ⟨_, rfl⟩
      have s1 := (unhide PL).at_ T (by omega)
      have s2 := (unhide PL).at_ (T + n) (by omega)
      rw [hi] at s1
      rw [show (T + n) % gs.length = i by rw [hgl]; rw [hgl] at hi; rw [Nat.add_mod_right]; exact hi] at s2
      rw [hL] at s1 s2
      have gp := (unhide PL).gap (i := i) (by omega)
      rw [hL] at gp
      have hno := (unhide PL).none
      obtain ⟨gb, _, hgb⟩ : ∃ b off, (some (⟨g, 0, none⟩ : Addr)) = some ⟨b, off, none⟩ ∧ True := ⟨g, 0, rfl, trivial⟩
      have hcl : wr.cell? ⟨g, i, none⟩ = some (.int .i64 L) := by
        rcases (unhide R0).open_ with ⟨q0, _⟩ | ⟨bb, off, e, _, hc⟩
        · omega
        · simp only [Option.some.injEq, Addr.mk.injEq, and_true] at e
          obtain ⟨rfl, rfl⟩ := e
          have := hc i hil
          rw [hL] at this
          simpa using this
      obtain ⟨G, hG⟩ : ∃ G, gpR gs L = G := ⟨_, rfl⟩
      have GP := hide gp
      have gp1 := gp.2.1
      rw [hG, hgl] at gp1
      have S1 := hide s1
      have eTn : ((T + n : Nat) : Int) = (T : Int) + (n : Int) := by omega
      have S2 : Hid (slR16 gs ((T : Int) + (n : Int)) = L ∧ slB16 gs ((T : Int) + (n : Int)) = true) := hide (by rw [← eTn]; exact ⟨s2.2, s2.1⟩)
      clear eTn
      have HNO := hide hno
      have HGG := hide hG
      have HTT := hide hT
      have HII := hide hi
      have HGL := hide hgl
      have HLL := hide hL
      clear s1 s2 gp hno hgb hG hi hgl hL gb
      have w7 : f 30 * 7 = (T : Int) := unhide HTT
      go_wp2_with fail
      try rw [w7]
      refine (implSlot16_is _ _ _ gs _ _ (unhide R0) (unhide S1).2 (unhide S1).1).mono ?_
      rintro e u1 ⟨rfl, b1⟩
      have HB1 := hide ((unhide HB).trans (b1.mono (unhide HB).size))
      have R1 := hide ((unhide R0).below b1)
      have c1 := (b1.cell (block_lt_of_cell hcl)).trans hcl
      clear b1 hcl R0 w7
      go_wp2_with fail
      refine (implSlot16_is _ _ _ gs _ _ (unhide R1) (unhide S2).1 (unhide S2).2).mono ?_
      rintro e u2 ⟨rfl, b2⟩
      have HB2 := hide ((unhide HB1).trans (b2.mono (unhide HB1).size))
      have R2 := hide ((unhide R1).below b2)
      have c2 := (b2.cell (block_lt_of_cell c1)).trans c1
      have hq0 : (L != L) = false := by simp
      have hTi : (T : Int) % (n : Int) = (i : Int) := by have := unhide HII; rw [unhide HGL] at this; omega
      have hTt : (T : Int).tmod (n : Int) = (i : Int) := by rw [Int.tmod_eq_emod_of_nonneg (by omega)]; exact hTi
      have hn0 : ¬ (n : Int) = 0 := by omega
      have hi0 : (0 : Int) ≤ (i : Int) := by omega
      have hi1 : (i : Int) < (n : Int) := by omega
      clear b2 c1 HB1 R1
      go_wp2_with fail
      refine (implGap16_is _ _ _ gs _ _ (unhide R2) (unhide HGG) (unhide GP).1).mono ?_
      rintro e u3 ⟨rfl, b3⟩
      have HB3 := hide ((unhide HB2).trans (b3.mono (unhide HB2).size))
      have R3 := hide ((unhide R2).below b3)
      have q1 : ¬ G < 1 := by omega
      have q2 : ¬ (n : Int) < G := by omega
      clear b3 c2 HB2 R2 hTi hTt
      go_wp2_with fail
      go_loopw [12, 13] (fun s12 s13 wq => ∃ (sn : Bool) (d : Nat), s12 = .bool sn ∧ s13 = .int .i64 (d : Int) ∧ 1 ≤ d ∧ (d : Int) ≤ G + 1 ∧ Hid ((∃ e, 1 ≤ e ∧ e < d ∧ nth gs ((i + e) % gs.length) = L) → sn = true) ∧ Hid (Below w.heap.size w wq) ∧ Hid (Row wq (some ⟨g, 0, none⟩) n gs)) (fun _ s13 _ => (G + 1).toNat - (intOf s13).toNat)
      case atStart => exact ⟨false, 1, rfl, rfl, by omega, by omega, hide (fun ⟨e, h1, h2, _⟩ => by omega), HB3, R3⟩
      case round =>
        clear HB3 R3
        obtain ⟨sn, d, rfl, rfl, hd1, hd2, HSN, HBq, Rq⟩ := hrel
        by_cases hle : (d : Int) ≤ G
        · have sd := (unhide PL).at_ (T + d) (by omega)
          obtain ⟨v, hv⟩ : ∃ v, nth gs ((T + d) % gs.length) = v := ⟨_, rfl⟩
          rw [hv] at sd
          have hv2 : nth gs ((i + d) % gs.length) = v := by rw [← hv, ← unhide HII, Nat.mod_add_mod]
          have SD : Hid (slR16 gs ((T : Int) + (d : Int)) = v ∧ slB16 gs ((T : Int) + (d : Int)) = true) := hide ⟨by have := sd.2; rw [show ((T + d : Nat) : Int) = (T : Int) + (d : Int) by omega] at this; exact this, by have := sd.1; rw [show ((T + d : Nat) : Int) = (T : Int) + (d : Int) by omega] at this; exact this⟩
          have NX : Hid ((∃ e, 1 ≤ e ∧ e < d + 1 ∧ nth gs ((i + e) % gs.length) = L) → (sn || (v == L)) = true) := hide (fun ⟨e, h1, h2, h3⟩ => by
            by_cases c : e < d
            · rw [(unhide HSN) ⟨e, h1, c, h3⟩]; rfl
            · obtain rfl : e = d := by omega
              rw [hv2] at h3
              simp [h3])
          clear sd hv hv2
          cases hs : sn
          all_goals
            rw [hs] at NX
            go_wp2_with fail
            refine (implSlot16_is _ _ _ gs _ _ (unhide Rq) (unhide SD).1 (unhide SD).2).mono ?_
            rintro e u4 ⟨rfl, b4⟩
            have HB4 := hide ((unhide HBq).trans (b4.mono (unhide HBq).size))
            have R4 := hide ((unhide Rq).below b4)
            clear b4
            go_wp2_with fail
            go_roundw
            case rel => exact ⟨_, d + 1, rfl, by go_num, by omega, by omega, NX, HB4, R4⟩
            case measure => simp [intOf]; omega
        · have hgd : Hid ((d : Int) = G + 1) := hide (by omega)
          have hsn : sn = true := by
            obtain ⟨e, h1, h2, h3⟩ := (unhide GP).2.2
            rw [unhide HGG] at h2
            rw [unhide HLL] at *
            exact (unhide HSN) ⟨e, h1, by have := unhide hgd; omega, h3⟩
          subst hsn
          go_wp2_with fail
          refine (implGap16_is _ _ _ gs _ _ (unhide Rq) rfl (unhide HNO)).mono ?_
          rintro e u5 ⟨rfl, b5⟩
          have HB5 := hide ((unhide HBq).trans (b5.mono (unhide HBq).size))
          clear b5
          go_wp2_with fail
          go_ret
          exact ⟨rfl, unhide HB5⟩

theorem lawFnSlots (a : Option Addr) (len cap : Nat) (w : World) (hb : Bytes w a len) :
    Calls Try.prog 6 #[.slice a len cap] w fun e w' => e = .returned (.bool true) ∧ Below w.heap.size w w' := by
  by_cases h : (1048576 : Int) < len
  · exact lawFnSlots_big a len cap w h
  · exact lawFnSlots_small a len cap w h hb

end Go.Proofs.Ytnhcmokkankcmaf

/-
  The law FnWindows returns true at every list of bytes and writes nothing that was there: the walk. No condition.
-/
import Derived.Test.YtndhiecakojjgafCur1
import Derived.Test.YtndhiecakojjgafWf1
import Derived.Test.YtndhiecakojjgafDr1
import Derived.Test.YtndhiecakojjgafRegInv
import Derived.Deep.CutRange
namespace Go.Proofs.Ytndhiecakojjgaf
open Go.RowKit

theorem mod4 {x : Int} (h : 0 ≤ x) : x.tmod 4 = x % 4 := Int.tmod_eq_emod_of_nonneg h
theorem psum_bd {fr pa : Int} {ws : List Wn} (h : ppB fr pa ws = true) : ∀ k : Nat, 0 ≤ psum ws k ∧ psum ws k ≤ 400000 * (k : Int)
  | 0 => by simp [psum]
  | k + 1 => by
    have ih := psum_bd h k
    have l := (ppB_facts h).2.2.1
    have s := shS_in (k : Int) ws.length (ppB_in h) ws.length (Nat.le_refl _)
    simp only [psum]
    omega
theorem rowJ_none {w : World} : RowE 3 jbC w none 0 [] := ⟨rfl, by omega, fun i hi => by omega⟩
theorem belX1 {w W : World} (h : Below w.heap.size w W) : Below w.heap.size w (W.drewN 1) := h.trans (bel0d' 1)
theorem belX2 {w W : World} (h : Below w.heap.size w W) (o : Obj) : Below w.heap.size w (W.alloc o) := h.alloc h.size o
theorem belX3 {w W : World} (h : Below w.heap.size w W) (o : Obj) : Below w.heap.size w ((W.alloc o).drewN 1) := (belX2 h o).trans (bel0d' 1)
set_option maxRecDepth 20000 in
set_option maxHeartbeats 1000000 in
theorem lawFnWindows_big (a : Option Addr) (len cap : Nat) (w : World) (h : (1048576 : Int) < len) :
    Calls Try.prog 7 #[.slice a len cap] w fun e w' => e = .returned (.bool true) ∧ Below w.heap.size w w' := by
  have hd : decide ((1048576 : Int) < len) = true := by simpa using h
  go_enter Try.func7, Try.ntmps7
  go_wp2_with fail
  refine (big_any a len cap _).mono ?_
  rintro e w' ⟨rfl, hw⟩
  subst w'
  rw [hd]
  go_wp2
  go_ret
  exact ⟨rfl, Below.refl _ _⟩
structure WqR (w10 : World) (a : Option Addr) (len cap : Nat) (f2 m4 lg : Int) (bb : Option Addr) (n cc FR PA : Nat) (ob : Bool) (L : List Wn) (t0 t1 t2 t3 t4 t5 t6 t7 t8 t9 t10 t11 : Bool) (v0 v1 v2 v3 v4 v5 v6 v7 v8 v9 v11 : Value) (W : World) : Prop where
  bel : Below w10.heap.size w10 W
  e0 : t0 = true → v0 = .agg #[.int .i64 (FR : Int), .int .i64 (PA : Int), .slice bb n cc]
  e1 : t1 = true → v1 = .slice a len cap
  e2 : t2 = true → v2 = .int .i64 f2
  e3 : t3 = true → v3 = .int .i64 m4
  e4 : t4 = true → v4 = .int .i64 lg
  e5 : t5 = true → ∃ (a1 : Option Addr) (c1 : Nat), v5 = .tuple #[.agg #[.int .i64 (FR : Int), .int .i64 (PA : Int), .slice a1 L.length c1], .bool ob] ∧ OwnE 3 wnC W w10.heap.size 91 (.slice a1 L.length c1) L ∧ (t9 = true → ∀ Q, v9 = .pointer (some ⟨Q, 0, none⟩) → (Value.slice a1 L.length c1).ownBlock ≠ some Q)
  e6 : t6 = true → v6 = v5
  n6 : t6 = true → t5 = true
  e7 : t7 = true → ∀ (a1 : Option Addr) (c1 : Nat), v5 = .tuple #[.agg #[.int .i64 (FR : Int), .int .i64 (PA : Int), .slice a1 L.length c1], .bool ob] → v7 = .agg #[.int .i64 (FR : Int), .int .i64 (PA : Int), .slice a1 L.length c1]
  n7 : t7 = true → t5 = true
  e8 : t8 = true → v8 = .bool ob
  e9 : t9 = true → ∃ Q, v9 = .pointer (some ⟨Q, 0, none⟩) ∧ w10.heap.size ≤ Q ∧ Q < W.heap.size ∧ (t10 = false → Blk W Q [.int .i64 0, .int .i64 0, .slice none 0 0]) ∧ (t10 = true → ∀ (a1 : Option Addr) (c1 : Nat), v5 = .tuple #[.agg #[.int .i64 (FR : Int), .int .i64 (PA : Int), .slice a1 L.length c1], .bool ob] → Blk W Q [.int .i64 (FR : Int), .int .i64 (PA : Int), .slice a1 L.length c1])
  n10 : t10 = true → t5 = true
  m10 : t10 = true → t9 = true
  e11 : t11 = true → v11 = .bool ob
theorem WqR.below {w10 : World} {a : Option Addr} {len cap : Nat} {f2 m4 lg : Int} {bb : Option Addr} {n cc FR PA : Nat} {ob : Bool} {L : List Wn} {t0 t1 t2 t3 t4 t5 t6 t7 t8 t9 t10 t11 : Bool} {v0 v1 v2 v3 v4 v5 v6 v7 v8 v9 v11 : Value} {W W' : World} (K : WqR w10 a len cap f2 m4 lg bb n cc FR PA ob L t0 t1 t2 t3 t4 t5 t6 t7 t8 t9 t10 t11 v0 v1 v2 v3 v4 v5 v6 v7 v8 v9 v11 W) (k : Below W.heap.size W W') : WqR w10 a len cap f2 m4 lg bb n cc FR PA ob L t0 t1 t2 t3 t4 t5 t6 t7 t8 t9 t10 t11 v0 v1 v2 v3 v4 v5 v6 v7 v8 v9 v11 W' :=
  ⟨(K.bel.trans (k.mono K.bel.size)), (K.e0), (K.e1), (K.e2), (K.e3), (K.e4), (fun h => by obtain ⟨a1, c1, x1, x2, x3⟩ := K.e5 h; exact ⟨a1, c1, x1, x2.below k, x3⟩), (K.e6), (K.n6), (K.e7), (K.n7), (K.e8), (fun h => by obtain ⟨Q, x1, x2, x3, x4, x5⟩ := K.e9 h; exact ⟨Q, x1, x2, Nat.lt_of_lt_of_le x3 k.size, fun h => (x4 h).below k, fun h a1 c1 e => (x5 h a1 c1 e).below k⟩), (K.n10), (K.m10), (K.e11)⟩
def WqRJ (w10 : World) (a : Option Addr) (len cap : Nat) (f2 m4 lg : Int) (bb : Option Addr) (n cc FR PA : Nat) (ob : Bool) (L : List Wn) (A0 : Act) (l : Nat → Bool) (b : Act) (V : World) : Prop := ∃ (v0 v1 v2 v3 v4 v5 v6 v7 v8 v9 v11 : Value), b = (((((((((((A0.put (some 139) v0).put (some 140) v1).put (some 141) v2).put (some 142) v3).put (some 143) v4).put (some 144) v5).put (some 138) v6).put (some 145) v7).put (some 146) v8).put (some 17) v9).put (some 18) v11) ∧ WqR w10 a len cap f2 m4 lg bb n cc FR PA ob L (l 0) (l 1) (l 2) (l 3) (l 4) (l 5) (l 6) (l 7) (l 8) (l 9) (l 10) (l 11) v0 v1 v2 v3 v4 v5 v6 v7 v8 v9 v11 V
theorem WqRJ.mk {w10 : World} {a : Option Addr} {len cap : Nat} {f2 m4 lg : Int} {bb : Option Addr} {n cc FR PA : Nat} {ob : Bool} {L : List Wn} {A0 : Act} {l : Nat → Bool} {b : Act} {V : World} {v0 v1 v2 v3 v4 v5 v6 v7 v8 v9 v11 : Value} (K : WqR w10 a len cap f2 m4 lg bb n cc FR PA ob L (l 0) (l 1) (l 2) (l 3) (l 4) (l 5) (l 6) (l 7) (l 8) (l 9) (l 10) (l 11) v0 v1 v2 v3 v4 v5 v6 v7 v8 v9 v11 V) (h : b = (((((((((((A0.put (some 139) v0).put (some 140) v1).put (some 141) v2).put (some 142) v3).put (some 143) v4).put (some 144) v5).put (some 138) v6).put (some 145) v7).put (some 146) v8).put (some 17) v9).put (some 18) v11)) : WqRJ w10 a len cap f2 m4 lg bb n cc FR PA ob L A0 l b V := ⟨v0, v1, v2, v3, v4, v5, v6, v7, v8, v9, v11, h, K⟩
theorem tup_inj {FR PA n : Nat} {a1 a2 : Option Addr} {c1 c2 : Nat} {ob : Bool} (h : (Value.tuple #[.agg #[.int .i64 (FR : Int), .int .i64 (PA : Int), .slice a1 n c1], .bool ob]) = .tuple #[.agg #[.int .i64 (FR : Int), .int .i64 (PA : Int), .slice a2 n c2], .bool ob]) : a1 = a2 ∧ c1 = c2 := by
  simpa using h

set_option maxRecDepth 20000 in
set_option maxHeartbeats 8000000 in
theorem lawFnWindows_small (a : Option Addr) (len cap : Nat) (w : World) (h : ¬ (1048576 : Int) < len) (hb : Bytes w a len) (hin : ∀ b off, a = some ⟨b, off, none⟩ → b < w.heap.size) :
    Calls Try.prog 7 #[.slice a len cap] w fun e w' => e = .returned (.bool true) ∧ Below w.heap.size w w' := by
  have hd0 : decide ((1048576 : Int) < len) = false := by simpa using h
  obtain ⟨f, hf, hat⟩ := at_fun a len cap w hb (by omega)
  have HAT := hide hat
  have hf2 := hf 2
  have DP := hide (drawPlan17_any a len cap w hb hin)
  clear hb h hat hf hin
  go_enter Try.func7, Try.ntmps7
  go_wp2_with fail
  refine (big_any a len cap _).mono ?_
  rintro e w' ⟨rfl, hw⟩
  subst w'
  rw [hd0]
  go_wp2_with fail
  refine (unhide DP).mono ?_
  rintro e wa ⟨fr, pa, bb, cc, ws, g, c, js, rfl, hpp, hfr, hpa, hwl, hjl, hja, ow, oj, bel⟩
  have f0 := ppB_facts hpp
  obtain ⟨FR, rfl⟩ : ∃ FR : Nat, fr = (FR : Int) := ⟨fr.toNat, by omega⟩
  obtain ⟨PA, rfl⟩ : ∃ PA : Nat, pa = (PA : Int) := ⟨pa.toNat, by omega⟩
  have hF1 : 1 ≤ FR ∧ FR ≤ 100 := by omega
  have hP1 : 1 ≤ PA ∧ PA ≤ 4 := by omega
  obtain ⟨P, hP⟩ : ∃ P, wa.heap.size = P := ⟨_, rfl⟩
  obtain ⟨W1, hW1⟩ : ∃ W, W = wa.alloc (Obj.cells #[.int .i64 (FR : Int), .int .i64 (PA : Int), .slice bb ws.length cc] 53) := ⟨_, rfl⟩
  have b1 : Below wa.heap.size wa W1 := by rw [hW1]; exact bel1 _
  have K0 : Hid (Blk W1 P [.int .i64 (FR : Int), .int .i64 (PA : Int), .slice bb ws.length cc]) := hide (by rw [hW1, ← hP]; exact Blk.new _ _)
  have HRW := hide ((ow.below b1).row)
  have HRJ := hide ((oj.below b1).row)
  have HB1 := hide (bel.trans (b1.mono bel.size))
  have HPP := hide hpp
  have HJA := hide hja
  have HW1 := hide hW1
  have HP := hide hP
  clear hW1 b1 ow oj bel hpp hja f0 hfr hpa DP hP
  go_upto_region 4 with fail
  rw [← unhide HW1, unhide HP]
  clear HW1
  have KJ : Hid (OwnI (W1.alloc (Obj.cells #[] 3)) W1.heap.size (.slice (some ⟨W1.heap.size, 0, none⟩) 0 0) (wfS ws 0)) := hide (ownI_none (Nat.le_refl _))
  have KB : Hid (Below W1.heap.size W1 (W1.alloc (Obj.cells #[] 3))) := hide (bel1 _)
  go_wp2_with fail
  go_loopw [5, 6, 7] (fun s5 s6 s7 wr => ∃ (k g1 c1 : Nat) (S : Int), k ≤ PA ∧ (0 ≤ S ∧ S ≤ 400000 * (k : Int)) ∧ s5 = .int .i64 S ∧ s6 = .slice (some ⟨g1, 0, none⟩) k c1 ∧ s7 = .int .i64 (k : Int) ∧ Hid (psum ws k = S) ∧ Hid (OwnI wr W1.heap.size (.slice (some ⟨g1, 0, none⟩) k c1) (wfS ws k)) ∧ Hid (Below W1.heap.size W1 wr)) (fun _ _ s7 _ => PA - (intOf s7).toNat)
  case atStart => exact ⟨0, _, 0, 0, Nat.zero_le _, by omega, rfl, rfl, rfl, hide rfl, KJ, KB⟩
  case round =>
    clear KJ KB
    obtain ⟨k, g1, c1, S, hk, hS, rfl, rfl, rfl, HS, HO, BB⟩ := hrel
    have p0 : wr.cell? ⟨P, 0, none⟩ = some (.int .i64 (FR : Int)) := ((unhide K0).below (unhide BB)).c 0 (by simp)
    have p1 : wr.cell? ⟨P, 1, none⟩ = some (.int .i64 (PA : Int)) := ((unhide K0).below (unhide BB)).c 1 (by simp)
    have p2 : wr.cell? ⟨P, 2, none⟩ = some (.slice bb ws.length cc) := ((unhide K0).below (unhide BB)).c 2 (by simp)
    by_cases hlt : k < PA
    · have k0 : (0 : Int) ≤ (k : Int) := by omega
      have k1 : (k : Int) < (PA : Int) := by omega
      have hsb : shB (FR : Int) (PA : Int) ws (k : Int) = true := by
        rw [shB, unhide HPP, Bool.true_and]
        simp only [inB, decide_eq_true_eq]
        omega
      have hq := shQ_in hsb
      have hr := shR_in hsb
      obtain ⟨q, hqq⟩ : ∃ q, shQ (FR : Int) (PA : Int) ws (k : Int) = q := ⟨_, rfl⟩
      obtain ⟨r, hrr⟩ : ∃ r, shS ws (k : Int) ws.length = r := ⟨_, rfl⟩
      rw [hqq] at hq
      rw [hrr] at hr
      have SHR := hide (implShare_is (FR : Int) (PA : Int) bb ws.length cc ws (k : Int) wr ((unhide HRW).below (unhide BB)) hr.1 hqq hsb)
      have hst : wfS ws (k + 1) = wfS ws k ++ [r] := by rw [wfS, hrr]
      have HST := hide hst
      have HPS : Hid (psum ws (k + 1) = S + r) := hide (by rw [psum, unhide HS, hrr])
      have hrb := hr.2
      have hq1 : ¬ q < 0 := by omega
      have hq2 : ¬ (FR : Int) < q := by omega
      have hq3 : ¬ r < 0 := by omega
      clear hq hr hsb hqq hrr hst
      go_wp2_with (first
        | (go_at_call 25; refine (unhide SHR).mono ?_; rintro e w9 ⟨rfl, b9⟩; have B9 := hide ((unhide BB).trans (b9.mono (unhide BB).size)); have O9 := hide ((unhide HO).below b9); have pw90 : w9.cell? ⟨P, 0, none⟩ = some (.int .i64 (FR : Int)) := ((unhide K0).below (unhide B9)).c 0 (by simp); have pw91 : w9.cell? ⟨P, 1, none⟩ = some (.int .i64 (PA : Int)) := ((unhide K0).below (unhide B9)).c 1 (by simp); have pw92 : w9.cell? ⟨P, 2, none⟩ = some (.slice bb ws.length cc) := ((unhide K0).below (unhide B9)).c 2 (by simp); clear b9)
        | (at_builtin; (refine wpList_app_int rfl _ _ rfl r (unhide O9) (wfS_len ws k) rfl (by simp) rfl (unhide B9).size (by omega) (by omega) ?_; intro g' c' w10 o10 gr10; have B10 := hide ((unhide B9).grown gr10 (unhide B9).size (fun q hq => ((unhide O9).lies q hq).1)); have O10 := hide o10; clear o10 gr10)))
      go_roundw
      case rel => exact ⟨k + 1, g', c', S + r, by omega, by omega, rfl, rfl, by go_num, HPS, by rw [unhide HST]; exact O10, B10⟩
      case measure => simp [intOf]; omega
    · have hkl : PA = k := by omega
      have k1 : ¬ (k : Int) < (PA : Int) := by omega
      subst hkl
      have hsum := psum_all (unhide HPP) (P := PA) rfl
      rw [unhide HS] at hsum
      have HSUM := hide hsum.1
      have hs1 : 0 ≤ S ∧ S ≤ (FR : Int) := hsum.2
      clear hsum
      have mI := fun W => madeI_run (L := PA) (by omega) W
      go_upto_region 15 with fail
      obtain ⟨gC, hgC⟩ : ∃ g, wr.heap.size = g := ⟨_, rfl⟩
      obtain ⟨W2, hW2⟩ : ∃ W, W = wr.alloc (Obj.cells (madeCells #[.int .i64 0] PA) 3) := ⟨_, rfl⟩
      have OC0 : Hid (OwnI W2 W1.heap.size (.slice (some ⟨gC, 0, none⟩) PA PA) (wfC (FR : Int) (PA : Int) ws PA 0)) := hide (by
        have a1 := madeI_own wr (L := PA) (base := W1.heap.size) (by omega) (unhide BB).size
        rw [hgC, ← hW2] at a1
        rw [wfC_zero]; exact a1)
      have b2 : Below wr.heap.size wr W2 := by rw [hW2]; exact bel1 _
      have OS0 : Hid (OwnI W2 W1.heap.size (.slice (some ⟨g1, 0, none⟩) PA c1) (wfS ws PA)) := hide ((unhide HO).below b2)
      have BB2 : Hid (Below W1.heap.size W1 W2) := hide ((unhide BB).trans (b2.mono (unhide BB).size))
      have hne : g1 < gC := by have := ((unhide HO).lies g1 rfl).2; omega
      have hgW : W1.heap.size ≤ gC := by have := (unhide BB).size; omega
      rw [hgC, ← hW2]
      clear hW2 hgC b2 HO BB mI p0 p1 p2
      go_wp2_with fail
      go_loopw [12] (fun s12 wr => ∃ (t : Nat), t ≤ FR ∧ s12 = .int .i64 (t : Int) ∧ Hid (OwnI wr W1.heap.size (.slice (some ⟨gC, 0, none⟩) PA PA) (wfC (FR : Int) (PA : Int) ws PA t)) ∧ Hid (OwnI wr W1.heap.size (.slice (some ⟨g1, 0, none⟩) PA c1) (wfS ws PA)) ∧ Hid (Below W1.heap.size W1 wr)) (fun s12 _ => FR - (intOf s12).toNat)
      case atStart => exact ⟨0, Nat.zero_le _, rfl, OC0, OS0, BB2⟩
      case round =>
        clear OC0 OS0 BB2
        obtain ⟨t, ht, rfl, OC, OS, BB⟩ := hrel
        have p0 : wr.cell? ⟨P, 0, none⟩ = some (.int .i64 (FR : Int)) := ((unhide K0).below (unhide BB)).c 0 (by simp)
        have p1 : wr.cell? ⟨P, 1, none⟩ = some (.int .i64 (PA : Int)) := ((unhide K0).below (unhide BB)).c 1 (by simp)
        have p2 : wr.cell? ⟨P, 2, none⟩ = some (.slice bb ws.length cc) := ((unhide K0).below (unhide BB)).c 2 (by simp)
        by_cases htl : t < FR
        · have t0 : (0 : Int) ≤ (t : Int) := by omega
          have t1 : (t : Int) < (FR : Int) := by omega
          obtain ⟨who, hwho⟩ : ∃ who, owR (FR : Int) (PA : Int) ws (t : Int) = who := ⟨_, rfl⟩
          have hagain := (ow_again (unhide HPP) (t := (t : Int)) (by omega)).trans hwho
          have hbd := ow_bounds (unhide HPP) (t := (t : Int)) (by omega)
          rw [hwho] at hbd
          have HW := hide hwho
          have HAG := hide hagain
          have HOB := hide (owB_is (unhide HPP) (t := (t : Int)) (by omega))
          have HOB2 := hide (owB_is (unhide HPP) (t := (t : Int) + (FR : Int)) (by omega))
          have hw1 : ¬ who < -1 := by omega
          have hw2 : ¬ (PA : Int) ≤ who := by omega
          have hw3 : (who != who) = false := by simp
          clear hwho hagain
          go_upto_region 19 with (go_at_call 26; refine (implOwner_is _ _ _ _ _ ws _ _ ((unhide HRW).below (unhide BB)) (unhide HW) (unhide HOB)).mono ?_; rintro e w9 ⟨rfl, b9⟩; have B9 := hide ((unhide BB).trans (b9.mono (unhide BB).size)); have OC9 := hide ((unhide OC).below b9); have OS9 := hide ((unhide OS).below b9); have pw90 : w9.cell? ⟨P, 0, none⟩ = some (.int .i64 (FR : Int)) := ((unhide K0).below (unhide B9)).c 0 (by simp); have pw91 : w9.cell? ⟨P, 1, none⟩ = some (.int .i64 (PA : Int)) := ((unhide K0).below (unhide B9)).c 1 (by simp); have pw92 : w9.cell? ⟨P, 2, none⟩ = some (.slice bb ws.length cc) := ((unhide K0).below (unhide B9)).c 2 (by simp); clear b9)
          go_upto_region 20 with (go_at_call 26; refine (implOwner_is _ _ _ _ _ ws _ _ ((unhide HRW).below (unhide B9)) (unhide HAG) (unhide HOB2)).mono ?_; rintro e w10 ⟨rfl, b10⟩; have B10 := hide ((unhide B9).trans (b10.mono (unhide B9).size)); have OC10 := hide ((unhide OC9).below b10); have OS10 := hide ((unhide OS9).below b10); have pw100 : w10.cell? ⟨P, 0, none⟩ = some (.int .i64 (FR : Int)) := ((unhide K0).below (unhide B10)).c 0 (by simp); have pw101 : w10.cell? ⟨P, 1, none⟩ = some (.int .i64 (PA : Int)) := ((unhide K0).below (unhide B10)).c 1 (by simp); have pw102 : w10.cell? ⟨P, 2, none⟩ = some (.slice bb ws.length cc) := ((unhide K0).below (unhide B10)).c 2 (by simp); clear b10)
          by_cases hw0 : 0 ≤ who
          · obtain ⟨b, rfl⟩ : ∃ b : Nat, who = (b : Int) := ⟨who.toNat, by omega⟩
            have hbk : b < PA := by omega
            have b0 : (0 : Int) ≤ (b : Int) := by omega
            have bk : (b : Int) < (PA : Int) := by omega
            have hh := wfC_hit (fr := (FR : Int)) (pa := (PA : Int)) (P := PA) hbk (unhide HW)
            have hln := wfC_len (FR : Int) (PA : Int) ws PA t
            have bd : 0 ≤ nth (wfC (FR : Int) (PA : Int) ws PA t) b ∧ nth (wfC (FR : Int) (PA : Int) ws PA t) b ≤ 100 := by
              rw [wfC_at hbk]
              have := cntB_pos (fun u => decide (owR (FR : Int) (PA : Int) ws (u : Int) = (b : Int))) t
              omega
            have cb : w10.cell? ⟨gC, b, none⟩ = some (.int .i64 (nth (wfC (FR : Int) (PA : Int) ws PA t) b)) ∧ w10.frozen? ⟨gC, b, none⟩ = false := by
              have q := unhide OC10
              have e9 : (Value.slice (some ⟨gC, 0, none⟩) PA PA) = .slice (some ⟨gC, 0, none⟩) (wfC (FR : Int) (PA : Int) ws PA t).length PA := by rw [hln]
              rw [e9] at q
              exact q.here b (by omega)
            obtain ⟨v, hv⟩ : ∃ v, nth (wfC (FR : Int) (PA : Int) ws PA t) b = v := ⟨_, rfl⟩
            rw [hv] at cb bd hh
            have cb1 := cb.1
            have cb2 := cb.2
            have ON := hide ((unhide OC10).setN hln hbk (a := v + 1) (by omega))
            rw [← hh] at ON
            have OSN := hide ((unhide OS10).set_other (S := gC) (o := b) (.int .i64 (v + 1)) (by intro e; simp only [Value.ownBlock, Option.some.injEq] at e; omega))
            have BN := hide ((unhide B10).setCell (p := ⟨gC, b, none⟩) (by show W1.heap.size ≤ gC; omega) (.int .i64 (v + 1)))
            clear cb hv hh hln
            go_wp2_with fail
            go_roundw
            case rel => exact ⟨t + 1, by omega, by go_num, ON, OSN, BN⟩
            case measure => simp [intOf]; omega
          · have hh := wfC_miss (fr := (FR : Int)) (pa := (PA : Int)) (P := PA) (ws := ws) (t := t) (by rw [unhide HW]; omega)
            have ON : Hid (OwnI w10 W1.heap.size (.slice (some ⟨gC, 0, none⟩) PA PA) (wfC (FR : Int) (PA : Int) ws PA (t + 1))) := by rw [hh]; exact OC10
            clear hh
            go_wp2_with fail
            go_roundw
            case rel => exact ⟨t + 1, by omega, by go_num, ON, OS10, B10⟩
            case measure => simp [intOf]; omega
        · have htk : FR = t := by omega
          have t1 : ¬ (t : Int) < (FR : Int) := by omega
          subst htk
          have hall := wfC_all (unhide HPP) PA
          rw [Int.toNat_natCast] at hall
          rw [hall] at OC
          have SI := hide (sameInts_yes _ _ PA PA c1 _ wr (unhide OC).row (unhide OS).row (by omega))
          have hs2 : ¬ (FR : Int) < S := by omega
          clear hall
          go_upto_region 26 with (first
            | (go_at_call 27; refine (unhide SI).mono ?_; rintro e w9 ⟨rfl, b9⟩; have B9 := hide ((unhide BB).trans (b9.mono (unhide BB).size)); have pw90 : w9.cell? ⟨P, 0, none⟩ = some (.int .i64 (FR : Int)) := ((unhide K0).below (unhide B9)).c 0 (by simp); have pw91 : w9.cell? ⟨P, 1, none⟩ = some (.int .i64 (PA : Int)) := ((unhide K0).below (unhide B9)).c 1 (by simp); have pw92 : w9.cell? ⟨P, 2, none⟩ = some (.slice bb ws.length cc) := ((unhide K0).below (unhide B9)).c 2 (by simp); clear b9)
            | (go_at_call 28; refine (implPlanOk_is _ _ _ _ _ ws _ ((unhide HRW).below (unhide B9)) (unhide HPP)).mono ?_; rintro e w10 ⟨rfl, b10⟩; have B10 := hide ((unhide B9).trans (b10.mono (unhide B9).size)); have pw100 : w10.cell? ⟨P, 0, none⟩ = some (.int .i64 (FR : Int)) := ((unhide K0).below (unhide B10)).c 0 (by simp); have pw101 : w10.cell? ⟨P, 1, none⟩ = some (.int .i64 (PA : Int)) := ((unhide K0).below (unhide B10)).c 1 (by simp); have pw102 : w10.cell? ⟨P, 2, none⟩ = some (.slice bb ws.length cc) := ((unhide K0).below (unhide B10)).c 2 (by simp); clear b10))
          have BW10 : Hid (Below w.heap.size w w10) := hide ((unhide HB1).trans ((unhide B10).mono (unhide HB1).size))
          have HR10 := hide ((unhide HRW).below (unhide B10))
          have S10 : Hid (W1.heap.size ≤ w10.heap.size) := hide (unhide B10).size
          obtain ⟨lg, hlg⟩ : ∃ lg, 1 + f 2 % 4 = lg := ⟨_, rfl⟩
          have hlg2 : 1 + (f 2).tmod 4 = lg := by rw [mod4 hf2.1]; exact hlg
          have blg : 1 ≤ lg ∧ lg ≤ 4 := by omega
          have htm : 0 ≤ (f 2).tmod 4 ∧ (f 2).tmod 4 ≤ 3 := by rw [mod4 hf2.1]; omega
          obtain ⟨m4, hm4⟩ : ∃ m, (f 2).tmod 4 = m := ⟨_, rfl⟩
          rw [hm4] at hlg2 htm
          clear hlg
          obtain ⟨L, hL⟩ : ∃ L, ftL (FR : Int) (PA : Int) ws 0 lg = L := ⟨_, rfl⟩
          obtain ⟨ob, hob⟩ : ∃ b, ftB (FR : Int) (PA : Int) ws 0 lg = b := ⟨_, rfl⟩
          have HL := hide hL
          have HOK := hide hob
          clear hL hob
          have KP10 := hide ((unhide K0).below (unhide B10))
          refine wp_region_flagsA (by kernel_rfl) (by kernel_rfl) (WqRJ w10 a len cap (f 2) m4 lg bb ws.length cc FR PA ob L) ?_ ?_ ?_
          · exact WqRJ.mk (v0 := undef) (v1 := undef) (v2 := undef) (v3 := undef) (v4 := undef) (v5 := undef) (v6 := undef) (v7 := undef) (v8 := undef) (v9 := undef) (v11 := undef) ⟨(bel0d' 1 : Below w10.heap.size w10 (w10.drewN 1)), (fun h => by cases h), (fun h => by cases h), (fun h => by cases h), (fun h => by cases h), (fun h => by cases h), (fun h => by cases h), (fun h => by cases h), (fun h => by cases h), (fun h => by cases h), (fun h => by cases h), (fun h => by cases h), (fun h => by cases h), (fun h => by cases h), (fun h => by cases h), (fun h => by cases h)⟩ (by kernel_rfl)
          rotate_left 1
          · rintro l b V i o ho hl hd ⟨v0, v1, v2, v3, v4, v5, v6, v7, v8, v9, v11, rfl, K⟩
            have hi : i < 12 := (Array.getElem?_eq_some_iff.1 ho).1
            rcases (show i = 0 ∨ i = 1 ∨ i = 2 ∨ i = 3 ∨ i = 4 ∨ i = 5 ∨ i = 6 ∨ i = 7 ∨ i = 8 ∨ i = 9 ∨ i = 10 ∨ i = 11 from by omega) with rfl | rfl | rfl | rfl | rfl | rfl | rfl | rfl | rfl | rfl | rfl | rfl
            · simp at ho
              subst ho
              have cb := (unhide KP10).below K.bel
              have yy0 : V.cell? ⟨P, 0, none⟩ = some (.int .i64 (FR : Int)) := cb.c 0 (by simp)
              have yy1 : V.cell? ⟨P, 1, none⟩ = some (.int .i64 (PA : Int)) := cb.c 1 (by simp)
              have yy2 : V.cell? ⟨P, 2, none⟩ = some (.slice bb ws.length cc) := cb.c 2 (by simp)
              have HK : Hid (WqR w10 a len cap (f 2) m4 lg bb ws.length cc FR PA ob L true (l 1) (l 2) (l 3) (l 4) (l 5) (l 6) (l 7) (l 8) (l 9) (l 10) (l 11) (.agg #[.int .i64 (FR : Int), .int .i64 (PA : Int), .slice bb ws.length cc]) v1 v2 v3 v4 v5 v6 v7 v8 v9 v11 V) := hide ⟨(K.bel), (fun _ => rfl), (K.e1), (K.e2), (K.e3), (K.e4), (K.e5), (K.e6), (K.n6), (K.e7), (K.n7), (K.e8), (K.e9), (K.n10), (K.m10), (K.e11)⟩
              clear K hd hl cb
              go_wp2_with fail
              exact ⟨rfl, WqRJ.mk (unhide HK) (by kernel_rfl)⟩
            · simp at ho
              subst ho
              have HK : Hid (WqR w10 a len cap (f 2) m4 lg bb ws.length cc FR PA ob L (l 0) true (l 2) (l 3) (l 4) (l 5) (l 6) (l 7) (l 8) (l 9) (l 10) (l 11) v0 (.slice a len cap) v2 v3 v4 v5 v6 v7 v8 v9 v11 V) := hide ⟨(K.bel), (K.e0), (fun _ => rfl), (K.e2), (K.e3), (K.e4), (K.e5), (K.e6), (K.n6), (K.e7), (K.n7), (K.e8), (K.e9), (K.n10), (K.m10), (K.e11)⟩
              clear K hd hl
              go_wp2_with fail
              exact ⟨rfl, WqRJ.mk (unhide HK) (by kernel_rfl)⟩
            · simp at ho
              subst ho
              have d1 : l 1 = true := hd ⟨1, .data⟩ (by simp) rfl
              have x1 := K.e1 d1
              subst x1
              have HK0 := hide K
              clear K hd hl d1
              go_wp2_with (go_at_call 17; refine ((unhide HAT) 2 _ rfl (by omega) _ ((unhide BW10).trans ((unhide HK0).bel.mono (unhide BW10).size))).mono ?_; rintro e w' ⟨rfl, hw⟩; subst w'; have K := unhide HK0; have HK : Hid (WqR w10 a len cap (f 2) m4 lg bb ws.length cc FR PA ob L (l 0) (l 1) true (l 3) (l 4) (l 5) (l 6) (l 7) (l 8) (l 9) (l 10) (l 11) v0 (.slice a len cap) (.int .i64 (f 2)) v3 v4 v5 v6 v7 v8 v9 v11 V) := hide ⟨(K.bel), (K.e0), (K.e1), (fun _ => rfl), (K.e3), (K.e4), (K.e5), (K.e6), (K.n6), (K.e7), (K.n7), (K.e8), (K.e9), (K.n10), (K.m10), (K.e11)⟩; clear K)
              exact ⟨rfl, WqRJ.mk (unhide HK) (by kernel_rfl)⟩
            · simp at ho
              subst ho
              have d2 : l 2 = true := hd ⟨2, .data⟩ (by simp) rfl
              have x2 := K.e2 d2
              subst x2
              have HK : Hid (WqR w10 a len cap (f 2) m4 lg bb ws.length cc FR PA ob L (l 0) (l 1) (l 2) true (l 4) (l 5) (l 6) (l 7) (l 8) (l 9) (l 10) (l 11) v0 v1 (.int .i64 (f 2)) (.int .i64 m4) v4 v5 v6 v7 v8 v9 v11 V) := hide ⟨(K.bel), (K.e0), (K.e1), (K.e2), (fun _ => rfl), (K.e4), (K.e5), (K.e6), (K.n6), (K.e7), (K.n7), (K.e8), (K.e9), (K.n10), (K.m10), (K.e11)⟩
              clear K hd hl d2
              go_wp2_with fail
              exact ⟨rfl, WqRJ.mk (unhide HK) (by kernel_rfl)⟩
            · simp at ho
              subst ho
              have d3 : l 3 = true := hd ⟨3, .data⟩ (by simp) rfl
              have x3 := K.e3 d3
              subst x3
              have HK : Hid (WqR w10 a len cap (f 2) m4 lg bb ws.length cc FR PA ob L (l 0) (l 1) (l 2) (l 3) true (l 5) (l 6) (l 7) (l 8) (l 9) (l 10) (l 11) v0 v1 v2 (.int .i64 m4) (.int .i64 lg) v5 v6 v7 v8 v9 v11 V) := hide ⟨(K.bel), (K.e0), (K.e1), (K.e2), (K.e3), (fun _ => rfl), (K.e5), (K.e6), (K.n6), (K.e7), (K.n7), (K.e8), (K.e9), (K.n10), (K.m10), (K.e11)⟩
              clear K hd hl d3
              go_wp2_with fail
              exact ⟨rfl, WqRJ.mk (unhide HK) (by kernel_rfl)⟩
            · simp at ho
              subst ho
              have d0 : l 0 = true := hd ⟨0, .data⟩ (by simp) rfl
              have d4 : l 4 = true := hd ⟨4, .data⟩ (by simp) rfl
              have x0 := K.e0 d0
              have x4 := K.e4 d4
              subst x0
              subst x4
              have n6 : l 6 = false := by cases c9 : l 6; rfl; exact absurd (K.n6 c9) (by rw [hl]; simp)
              have n7 : l 7 = false := by cases c9 : l 7; rfl; exact absurd (K.n7 c9) (by rw [hl]; simp)
              have n10 : l 10 = false := by cases c9 : l 10; rfl; exact absurd (K.n10 c9) (by rw [hl]; simp)
              have H6 := hide n6
              have H7 := hide n7
              have H10 := hide n10
              have HL5 := hide hl
              have HK0 := hide K
              clear K hd hl d0 d4 n6 n7 n10
              go_wp2_with (go_at_call 29; refine (implFitWindow_is (FR : Int) (PA : Int) bb ws.length cc ws 0 lg _ (by omega) ((unhide HR10).below (unhide HK0).bel)).mono ?_; rintro e V2 ⟨a1, c1, rfl, o1, b1⟩; rw [unhide HL] at o1; rw [unhide HL, unhide HOK]; have oE := o1.o1; have K := (unhide HK0).below b1; have HK : Hid (WqR w10 a len cap (f 2) m4 lg bb ws.length cc FR PA ob L (l 0) (l 1) (l 2) (l 3) (l 4) true (l 6) (l 7) (l 8) (l 9) (l 10) (l 11) (.agg #[.int .i64 (FR : Int), .int .i64 (PA : Int), .slice bb ws.length cc]) v1 v2 v3 (.int .i64 lg) (.tuple #[.agg #[.int .i64 (FR : Int), .int .i64 (PA : Int), .slice a1 L.length c1], .bool ob]) v6 v7 v8 v9 v11 V2) := hide ⟨(K.bel), (K.e0), (K.e1), (K.e2), (K.e3), (K.e4), (fun _ => ⟨a1, c1, rfl, oE.mono (unhide HK0).bel.size, fun h9 Q hQ e => by obtain ⟨Q2, x1, x2, x3, _⟩ := (unhide HK0).e9 h9; rw [hQ] at x1; have e2 : Q = Q2 := (by simpa using x1); have := (oE.lies Q e).1; omega⟩), (fun h => by cases (unhide H6).symm.trans h), (fun _ => rfl), (fun h => by cases (unhide H7).symm.trans h), (fun _ => rfl), (K.e8), (fun h => by obtain ⟨Q, x1, x2, x3, x4, x5⟩ := K.e9 h; exact ⟨Q, x1, x2, x3, x4, fun h => by cases (unhide H10).symm.trans h⟩), (fun _ => rfl), (K.m10), (K.e11)⟩; clear K b1 o1 oE)
              exact ⟨rfl, WqRJ.mk (unhide HK) (by kernel_rfl)⟩
            · simp at ho
              subst ho
              have d5 : l 5 = true := hd ⟨5, .data⟩ (by simp) rfl
              obtain ⟨a1, c1, x5, _⟩ := K.e5 d5
              subst x5
              have HK : Hid (WqR w10 a len cap (f 2) m4 lg bb ws.length cc FR PA ob L (l 0) (l 1) (l 2) (l 3) (l 4) (l 5) true (l 7) (l 8) (l 9) (l 10) (l 11) v0 v1 v2 v3 v4 (.tuple #[.agg #[.int .i64 (FR : Int), .int .i64 (PA : Int), .slice a1 L.length c1], .bool ob]) (.tuple #[.agg #[.int .i64 (FR : Int), .int .i64 (PA : Int), .slice a1 L.length c1], .bool ob]) v7 v8 v9 v11 V) := hide ⟨(K.bel), (K.e0), (K.e1), (K.e2), (K.e3), (K.e4), (K.e5), (fun _ => rfl), (fun _ => d5), (K.e7), (K.n7), (K.e8), (K.e9), (K.n10), (K.m10), (K.e11)⟩
              clear K hd hl d5
              go_wp2_with fail
              exact ⟨rfl, WqRJ.mk (unhide HK) (by kernel_rfl)⟩
            · simp at ho
              subst ho
              have d6 : l 6 = true := hd ⟨6, .data⟩ (by simp) rfl
              have d5 := K.n6 d6
              obtain ⟨a1, c1, x5, _⟩ := K.e5 d5
              have x6 := K.e6 d6
              subst x5
              subst x6
              have HK : Hid (WqR w10 a len cap (f 2) m4 lg bb ws.length cc FR PA ob L (l 0) (l 1) (l 2) (l 3) (l 4) (l 5) (l 6) true (l 8) (l 9) (l 10) (l 11) v0 v1 v2 v3 v4 (.tuple #[.agg #[.int .i64 (FR : Int), .int .i64 (PA : Int), .slice a1 L.length c1], .bool ob]) (.tuple #[.agg #[.int .i64 (FR : Int), .int .i64 (PA : Int), .slice a1 L.length c1], .bool ob]) (.agg #[.int .i64 (FR : Int), .int .i64 (PA : Int), .slice a1 L.length c1]) v8 v9 v11 V) := hide ⟨(K.bel), (K.e0), (K.e1), (K.e2), (K.e3), (K.e4), (K.e5), (K.e6), (K.n6), (fun _ a2 c2 h => by obtain ⟨rfl, rfl⟩ := tup_inj h; rfl), (fun _ => d5), (K.e8), (K.e9), (K.n10), (K.m10), (K.e11)⟩
              clear K hd hl d6 d5
              go_wp2_with fail
              exact ⟨rfl, WqRJ.mk (unhide HK) (by kernel_rfl)⟩
            · simp at ho
              subst ho
              have d6 : l 6 = true := hd ⟨6, .data⟩ (by simp) rfl
              have d5 := K.n6 d6
              obtain ⟨a1, c1, x5, _⟩ := K.e5 d5
              have x6 := K.e6 d6
              subst x5
              subst x6
              have HK : Hid (WqR w10 a len cap (f 2) m4 lg bb ws.length cc FR PA ob L (l 0) (l 1) (l 2) (l 3) (l 4) (l 5) (l 6) (l 7) true (l 9) (l 10) (l 11) v0 v1 v2 v3 v4 (.tuple #[.agg #[.int .i64 (FR : Int), .int .i64 (PA : Int), .slice a1 L.length c1], .bool ob]) (.tuple #[.agg #[.int .i64 (FR : Int), .int .i64 (PA : Int), .slice a1 L.length c1], .bool ob]) v7 (.bool ob) v9 v11 V) := hide ⟨(K.bel), (K.e0), (K.e1), (K.e2), (K.e3), (K.e4), (K.e5), (K.e6), (K.n6), (K.e7), (K.n7), (fun _ => rfl), (K.e9), (K.n10), (K.m10), (K.e11)⟩
              clear K hd hl d6 d5
              go_wp2_with fail
              exact ⟨rfl, WqRJ.mk (unhide HK) (by kernel_rfl)⟩
            · simp at ho
              subst ho
              have n10 : l 10 = false := by cases c9 : l 10; rfl; exact absurd (K.m10 c9) (by rw [hl]; simp)
              have k := bel1 (w := V) (Obj.cells #[.int .i64 0, .int .i64 0, .slice none 0 0] 53)
              have HK : Hid (WqR w10 a len cap (f 2) m4 lg bb ws.length cc FR PA ob L (l 0) (l 1) (l 2) (l 3) (l 4) (l 5) (l 6) (l 7) (l 8) true (l 10) (l 11) v0 v1 v2 v3 v4 v5 v6 v7 v8 (.pointer (some ⟨V.heap.size, 0, none⟩)) v11 (V.alloc (Obj.cells #[.int .i64 0, .int .i64 0, .slice none 0 0] 53))) := hide ⟨(K.bel.trans (k.mono K.bel.size)), (K.e0), (K.e1), (K.e2), (K.e3), (K.e4), (fun h => by obtain ⟨a1, c1, x1, x2, _⟩ := K.e5 h; exact ⟨a1, c1, x1, x2.below k, fun _ Q hQ e => by have e2 : V.heap.size = Q := (by simpa using hQ); have := (x2.lies Q e).2; omega⟩), (K.e6), (K.n6), (K.e7), (K.n7), (K.e8), (fun _ => ⟨V.heap.size, rfl, K.bel.size, by simp, fun _ => Blk.new _ _, fun h => by cases n10.symm.trans h⟩), (K.n10), (fun _ => rfl), (K.e11)⟩
              clear K hd hl n10 k
              go_wp2_with fail
              exact ⟨rfl, WqRJ.mk (unhide HK) (by kernel_rfl)⟩
            · simp at ho
              subst ho
              have d9 : l 9 = true := hd ⟨9, .data⟩ (by simp) rfl
              have d7 : l 7 = true := hd ⟨7, .data⟩ (by simp) rfl
              have d5 := K.n7 d7
              obtain ⟨a1, c1, x5, oE, nE⟩ := K.e5 d5
              have x7 := K.e7 d7 a1 c1 x5
              obtain ⟨Q, x9, q1, q2, q3, _⟩ := K.e9 d9
              have bQ := q3 hl
              have ne := nE d9 Q x9
              subst x5
              subst x7
              subst x9
              have yy0 : V.cell? ⟨Q, 0, none⟩ = some (.int .i64 0) := bQ.c 0 (by simp)
              have yy1 : V.cell? ⟨Q, 1, none⟩ = some (.int .i64 0) := bQ.c 1 (by simp)
              have yy2 : V.cell? ⟨Q, 2, none⟩ = some (.slice none 0 0) := bQ.c 2 (by simp)
              have ff0 := bQ.f 0 (by simp)
              have ff1 := bQ.f 1 (by simp)
              have ff2 := bQ.f 2 (by simp)
              have HK : Hid (WqR w10 a len cap (f 2) m4 lg bb ws.length cc FR PA ob L (l 0) (l 1) (l 2) (l 3) (l 4) (l 5) (l 6) (l 7) (l 8) (l 9) true (l 11) v0 v1 v2 v3 v4 (.tuple #[.agg #[.int .i64 (FR : Int), .int .i64 (PA : Int), .slice a1 L.length c1], .bool ob]) v6 (.agg #[.int .i64 (FR : Int), .int .i64 (PA : Int), .slice a1 L.length c1]) v8 (.pointer (some ⟨Q, 0, none⟩)) v11 (((V.setCell ⟨Q, 0, none⟩ (.int .i64 (FR : Int))).setCell ⟨Q, 1, none⟩ (.int .i64 (PA : Int))).setCell ⟨Q, 2, none⟩ (.slice a1 L.length c1))) := hide ⟨(((K.bel.setCell (p := ⟨Q, 0, none⟩) q1 _).setCell (p := ⟨Q, 1, none⟩) q1 _).setCell (p := ⟨Q, 2, none⟩) q1 _), (K.e0), (K.e1), (K.e2), (K.e3), (K.e4), (fun _ => ⟨a1, c1, rfl, ((oE.set_other _ ne).set_other _ ne).set_other _ ne, nE⟩), (K.e6), (K.n6), (K.e7), (K.n7), (K.e8), (fun _ => ⟨Q, rfl, q1, by simpa [World.setCell] using q2, fun h => (by cases h), fun _ a2 c2 h => by obtain ⟨rfl, rfl⟩ := tup_inj h; exact ((bQ.set 0 (by simp) _).set 1 (by simp) _).set 2 (by simp) _⟩), (fun _ => d5), (fun _ => d9), (K.e11)⟩
              clear K hd hl bQ oE nE ne d9 d7 d5
              go_wp2_with fail
              exact ⟨rfl, WqRJ.mk (unhide HK) (by kernel_rfl)⟩
            · simp at ho
              subst ho
              have d8 : l 8 = true := hd ⟨8, .data⟩ (by simp) rfl
              have x8 := K.e8 d8
              subst x8
              have HK : Hid (WqR w10 a len cap (f 2) m4 lg bb ws.length cc FR PA ob L (l 0) (l 1) (l 2) (l 3) (l 4) (l 5) (l 6) (l 7) (l 8) (l 9) (l 10) true v0 v1 v2 v3 v4 v5 v6 v7 (.bool ob) v9 (.bool ob) V) := hide ⟨(K.bel), (K.e0), (K.e1), (K.e2), (K.e3), (K.e4), (K.e5), (K.e6), (K.n6), (K.e7), (K.n7), (K.e8), (K.e9), (K.n10), (K.m10), (fun _ => rfl)⟩
              clear K hd hl d8
              go_wp2_with fail
              exact ⟨rfl, WqRJ.mk (unhide HK) (by kernel_rfl)⟩
          rintro l b V hall ⟨v0, v1, v2, v3, v4, v5, v6, v7, v8, v9, v11, rfl, K⟩
          obtain ⟨a1, c1, x5, oE, _⟩ := K.e5 (hall 5 (by decide))
          obtain ⟨Q, x9, q1, _, _, q4⟩ := K.e9 (hall 9 (by decide))
          have x11 := K.e11 (hall 11 (by decide))
          have KQ : Hid (Blk V Q [.int .i64 (FR : Int), .int .i64 (PA : Int), .slice a1 L.length c1]) := hide (q4 (hall 10 (by decide)) a1 c1 x5)
          have RQ : Hid (RowE 3 wnC V a1 L.length L) := hide oE.row
          have BQ : Hid (Below W1.heap.size W1 V) := hide ((unhide B10).trans (K.bel.mono (unhide B10).size))
          subst x9
          subst x11
          clear K hall oE q4 x5 q1
          have HRB1 : Hid (rjB (FR : Int) (PA : Int) ws js (FR : Int) = true) := hide (by
            rw [rjB_three, unhide HPP, unhide HJA]
            have e1 : decide (js.length ≤ 20) = true := decide_eq_true (by omega)
            have e2 : inB (FR : Int) 0 5000 = true := by simp only [inB, decide_eq_true_eq]; omega
            rw [e1, e2]; rfl)
          have HRB2 : Hid (rjB (FR : Int) (PA : Int) ws [] (FR : Int) = true) := hide (by
            have e3 : jbAll (PA : Int) [] = true := jbAll_yes (fun k hk => by simp at hk)
            rw [rjB_three, unhide HPP, e3]
            have e2 : inB (FR : Int) 0 5000 = true := by simp only [inB, decide_eq_true_eq]; omega
            rw [e2]; rfl)
          have hin1 := rjT_in (fr := (FR : Int)) (pa := (PA : Int)) (ws := ws) (js := js) (fun k hk => ((rjB_facts (unhide HRB1)).2.2.2 k hk).2.2) FR
          have hin2 := rjT_in (fr := (FR : Int)) (pa := (PA : Int)) (ws := ws) (js := []) (fun k hk => by simp at hk) FR
          have hown := cnt_owned (unhide HPP) (P := PA) rfl
          rw [Int.toNat_natCast, unhide HS] at hown
          have hid1 := idl_le (fr := (FR : Int)) (pa := (PA : Int)) (ws := ws) (js := js) FR
          have hid2 := idl_nil (fr := (FR : Int)) (pa := (PA : Int)) (ws := ws) FR
          rw [hown] at hid1 hid2
          have hi0 := hin1.i0
          obtain ⟨I1, hI1⟩ : ∃ I, (rjT (FR : Int) (PA : Int) ws js FR).idl = I := ⟨_, rfl⟩
          rw [hI1] at hid1 hi0
          have HLEN1 : Hid ((rjL (FR : Int) (PA : Int) ws js (FR : Int)).length = js.length) := hide (by rw [(rj_yes (unhide HRB1)).1, Int.toNat_natCast]; exact hin1.lt.1)
          have HIDL1 : Hid (rjI (FR : Int) (PA : Int) ws js (FR : Int) = I1) := hide (by rw [(rj_yes (unhide HRB1)).2, Int.toNat_natCast]; exact hI1)
          have HLEN2 : Hid ((rjL (FR : Int) (PA : Int) ws [] (FR : Int)).length = 0) := hide (by rw [(rj_yes (unhide HRB2)).1, Int.toNat_natCast]; exact hin2.lt.1)
          have HIDL2 : Hid (rjI (FR : Int) (PA : Int) ws [] (FR : Int) = S) := hide (by rw [(rj_yes (unhide HRB2)).2, Int.toNat_natCast]; exact hid2)
          have g1' : ((js.length : Int) == (js.length : Int)) = true := by simp
          have g2' : (S == S) = true := by simp
          clear hin1 hin2 hown hid2 hI1
          go_wp2_with fail
          go_loopw [19] (fun s19 wr => ∃ (t : Nat), t ≤ FR ∧ s19 = .int .i64 (t : Int) ∧ Hid (Below V.heap.size V wr)) (fun s19 _ => FR - (intOf s19).toNat)
          case atStart => exact ⟨0, Nat.zero_le _, rfl, hide (Below.refl _ _)⟩
          case round =>
            obtain ⟨t, ht, rfl, BV⟩ := hrel
            have BBV : Hid (Below W1.heap.size W1 wr) := hide ((unhide BQ).trans ((unhide BV).mono (unhide BQ).size))
            have p0 : wr.cell? ⟨P, 0, none⟩ = some (.int .i64 (FR : Int)) := ((unhide K0).below (unhide BBV)).c 0 (by simp)
            have p1 : wr.cell? ⟨P, 1, none⟩ = some (.int .i64 (PA : Int)) := ((unhide K0).below (unhide BBV)).c 1 (by simp)
            have p2 : wr.cell? ⟨P, 2, none⟩ = some (.slice bb ws.length cc) := ((unhide K0).below (unhide BBV)).c 2 (by simp)
            have y0 : wr.cell? ⟨Q, 0, none⟩ = some (.int .i64 (FR : Int)) := ((unhide KQ).below (unhide BV)).c 0 (by simp)
            have y1 : wr.cell? ⟨Q, 1, none⟩ = some (.int .i64 (PA : Int)) := ((unhide KQ).below (unhide BV)).c 1 (by simp)
            have y2 : wr.cell? ⟨Q, 2, none⟩ = some (.slice a1 L.length c1) := ((unhide KQ).below (unhide BV)).c 2 (by simp)
            by_cases htl : t < FR
            · have t1 : (t : Int) < (FR : Int) := by omega
              cases ob with
              | false =>
                have RJ1 := hide (implRunJobs_is (FR : Int) (PA : Int) bb ws.length cc ws (some ⟨g, 0, none⟩) js.length c js (FR : Int) wr ((unhide HRW).below (unhide BBV)) ((unhide HRJ).below (unhide BBV)))
                go_wp2_with (first
                  | ((fail_if_success have := D1); (go_at_call 30; refine (unhide RJ1).mono ?_; rintro e w9 ⟨a9, c9, rfl, o9, b9⟩; rw [unhide HLEN1, unhide HIDL1, unhide HRB1]; have D1 := trivial; have B9 := hide ((unhide BBV).trans (b9.mono (unhide BBV).size)); have pw90 : w9.cell? ⟨P, 0, none⟩ = some (.int .i64 (FR : Int)) := ((unhide K0).below (unhide B9)).c 0 (by simp); have pw91 : w9.cell? ⟨P, 1, none⟩ = some (.int .i64 (PA : Int)) := ((unhide K0).below (unhide B9)).c 1 (by simp); have pw92 : w9.cell? ⟨P, 2, none⟩ = some (.slice bb ws.length cc) := ((unhide K0).below (unhide B9)).c 2 (by simp); clear b9 o9))
                  | (go_at_call 30; refine (implRunJobs_is (FR : Int) (PA : Int) bb ws.length cc ws none 0 0 [] (FR : Int) w9 ((unhide HRW).below (unhide B9)) rowJ_none).mono ?_; rintro e w11 ⟨a8, c8, rfl, o8, b8⟩; rw [unhide HLEN2, unhide HIDL2, unhide HRB2]; have B11 := hide ((unhide B9).trans (b8.mono (unhide B9).size)); clear b8 o8))
                go_ret
                exact ⟨rfl, (unhide HB1).trans ((unhide B11).mono (unhide HB1).size)⟩
              | true =>
                have hpl := ft_plan (unhide HOK)
                have hfo := ft_owner (unhide HOK) (t := (t : Int)) (by omega) t1
                rw [unhide HL] at hpl hfo
                obtain ⟨was, hwas⟩ : ∃ x, owR (FR : Int) (PA : Int) ws (t : Int) = x := ⟨_, rfl⟩
                obtain ⟨iss, hiss⟩ : ∃ x, owR (FR : Int) (PA : Int) L (t : Int) = x := ⟨_, rfl⟩
                rw [hwas, hiss] at hfo
                have O1 := hide (implOwner_is (FR : Int) (PA : Int) bb ws.length cc ws (t : Int) wr ((unhide HRW).below (unhide BBV)) hwas (owB_is (unhide HPP) (by omega)))
                have HO2 : Hid (owR (FR : Int) (PA : Int) L (t : Int) = iss) := hide hiss
                have HB2 : Hid (owB (FR : Int) (PA : Int) L (t : Int) = true) := hide (owB_is hpl.1 (by omega))
                clear hpl hwas hiss
                go_upto_region 31 with (go_at_call 26; refine (unhide O1).mono ?_; rintro e w9 ⟨rfl, b9⟩; have B9 := hide ((unhide BV).trans (b9.mono (unhide BV).size)); have z0 : w9.cell? ⟨Q, 0, none⟩ = some (.int .i64 (FR : Int)) := ((unhide KQ).below (unhide B9)).c 0 (by simp); have z1 : w9.cell? ⟨Q, 1, none⟩ = some (.int .i64 (PA : Int)) := ((unhide KQ).below (unhide B9)).c 1 (by simp); have z2 : w9.cell? ⟨Q, 2, none⟩ = some (.slice a1 L.length c1) := ((unhide KQ).below (unhide B9)).c 2 (by simp); clear b9)
                go_upto_region 32 with (go_at_call 26; refine (implOwner_is _ _ _ _ _ L _ _ ((unhide RQ).below (unhide B9)) (unhide HO2) (unhide HB2)).mono ?_; rintro e w11 ⟨rfl, b11⟩; have B11 := hide ((unhide B9).trans (b11.mono (unhide B9).size)); clear b11)
                by_cases hw : 0 ≤ was
                · have e1 := hfo.1 hw
                  have e2 : ¬ was < 0 := by omega
                  have e3 : (was != was) = false := by simp
                  clear hfo HO2
                  subst e1
                  go_wp2_with fail
                  go_roundw
                  case rel => exact ⟨t + 1, by omega, by go_num, B11⟩
                  case measure => simp [intOf]; omega
                · have e1 := hfo.2 (by omega)
                  have e2 : was < 0 := by omega
                  have e3 : ¬ 0 < iss := by omega
                  clear hfo
                  go_wp2_with fail
                  go_roundw
                  case rel => exact ⟨t + 1, by omega, by go_num, B11⟩
                  case measure => simp [intOf]; omega
            · have t1 : ¬ (t : Int) < (FR : Int) := by omega
              have RJ1 := hide (implRunJobs_is (FR : Int) (PA : Int) bb ws.length cc ws (some ⟨g, 0, none⟩) js.length c js (FR : Int) wr ((unhide HRW).below (unhide BBV)) ((unhide HRJ).below (unhide BBV)))
              go_wp2_with (first
                | ((fail_if_success have := D1); (go_at_call 30; refine (unhide RJ1).mono ?_; rintro e w9 ⟨a9, c9, rfl, o9, b9⟩; rw [unhide HLEN1, unhide HIDL1, unhide HRB1]; have D1 := trivial; have B9 := hide ((unhide BBV).trans (b9.mono (unhide BBV).size)); have pw90 : w9.cell? ⟨P, 0, none⟩ = some (.int .i64 (FR : Int)) := ((unhide K0).below (unhide B9)).c 0 (by simp); have pw91 : w9.cell? ⟨P, 1, none⟩ = some (.int .i64 (PA : Int)) := ((unhide K0).below (unhide B9)).c 1 (by simp); have pw92 : w9.cell? ⟨P, 2, none⟩ = some (.slice bb ws.length cc) := ((unhide K0).below (unhide B9)).c 2 (by simp); clear b9 o9))
                | (go_at_call 30; refine (implRunJobs_is (FR : Int) (PA : Int) bb ws.length cc ws none 0 0 [] (FR : Int) w9 ((unhide HRW).below (unhide B9)) rowJ_none).mono ?_; rintro e w11 ⟨a8, c8, rfl, o8, b8⟩; rw [unhide HLEN2, unhide HIDL2, unhide HRB2]; have B11 := hide ((unhide B9).trans (b8.mono (unhide B9).size)); clear b8 o8))
              go_ret
              exact ⟨rfl, (unhide HB1).trans ((unhide B11).mono (unhide HB1).size)⟩

theorem lawFnWindows (a : Option Addr) (len cap : Nat) (w : World) (hb : Bytes w a len) (hin : ∀ b off, a = some ⟨b, off, none⟩ → b < w.heap.size) :
    Calls Try.prog 7 #[.slice a len cap] w fun e w' => e = .returned (.bool true) ∧ Below w.heap.size w w' := by
  by_cases h : (1048576 : Int) < len
  · exact lawFnWindows_big a len cap w h
  · exact lawFnWindows_small a len cap w h hb hin

end Go.Proofs.Ytndhiecakojjgaf

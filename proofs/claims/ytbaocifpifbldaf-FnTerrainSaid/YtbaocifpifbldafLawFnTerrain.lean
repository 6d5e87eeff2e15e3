/-
  The law FnTerrain returns true at every list of bytes and writes nothing that was there: the walk. No condition.
-/
import Derived.Test.YtbaocifpifbldafDrawAl
import Derived.Test.YtbaocifpifbldafTaAlert
import Derived.Test.YtbaocifpifbldafTerrFacts
namespace Go.Proofs.Ytbaocifpifbldaf
open Go.RowKit

theorem rowTake {w : World} {a : Option Addr} {len : Nat} {zs : List Int} (h : Row w a len zs) (k : Nat) (hk : k ≤ len) : Row w a k (zs.take k) := by
  have hz := h.len_eq
  have hs := h.small
  refine ⟨by simp; omega, by omega, fun i hi => ?_, fun i => ?_⟩
  · obtain ⟨b, off, ha, hc⟩ := h.cells i (by omega)
    exact ⟨b, off, ha, by rw [nthTake zs k i hi]; exact hc⟩
  · by_cases e : i < k
    · rw [nthTake zs k i e]; exact h.fit i
    · have : nth (zs.take k) i = 0 := by unfold nth; rw [List.getElem?_eq_none (by simp; omega)]; rfl
      rw [this]; omega

set_option maxHeartbeats 1000000 in
theorem lawFnTerrain_big (a : Option Addr) (len cap : Nat) (w : World) (h : (1048576 : Int) < len) :
    Calls Try.prog 3 #[.slice a len cap] w fun e w' => e = .returned (.bool true) ∧ Below w.heap.size w w' := by
  have hd : decide ((1048576 : Int) < len) = true := by simpa using h
  go_enter Try.func3, Try.ntmps3
  go_wp2_with fail
  refine (big_any a len cap _).mono ?_
  rintro e w' ⟨rfl, hw⟩
  subst w'
  rw [hd]
  go_wp2
  go_ret
  exact ⟨rfl, Below.refl _ _⟩

set_option maxRecDepth 20000 in
set_option maxHeartbeats 2000000 in
theorem lawFnTerrain_small (a : Option Addr) (len cap : Nat) (w : World) (h : ¬ (1048576 : Int) < len) (hb : Bytes w a len) (hin : ∀ b off, a = some ⟨b, off, none⟩ → b < w.heap.size) :
    Calls Try.prog 3 #[.slice a len cap] w fun e w' => e = .returned (.bool true) ∧ Below w.heap.size w w' := by
  have hd0 : decide ((1048576 : Int) < len) = false := by simpa using h
  have HY := hide hb
  have HIN := hide hin
  clear hb h hin
  go_enter Try.func3, Try.ntmps3
  go_wp2_with fail
  refine (big_any a len cap _).mono ?_
  rintro e w' ⟨rfl, hw⟩
  subst w'
  rw [hd0]
  clear hd0
  go_wp2_with fail
  refine (drawAlert_any a len cap _ (unhide HY) (unhide HIN)).mono ?_
  rintro x W ⟨ad, gs, c, hh, cc, mm, rfl, o5, hzl, hhh, hcc, hmm, b5⟩
  obtain ⟨N, hN⟩ : ∃ N, gs.length = N := ⟨_, rfl⟩
  rw [hN] at o5 ⊢
  have R5 := hide o5.row
  have CP : N ≤ c := by
    rcases o5.form with ⟨e, h0⟩ | ⟨g, c', e, _, _, hc, _⟩
    · rw [h0] at hN; simp at hN; omega
    · simp only [Value.slice.injEq] at e; omega
  have HN := hide hN
  have hN6 : N ≤ 600 := by omega
  have B0 := hide b5
  clear o5 b5 hN hzl HY HIN
  obtain ⟨ι, fW, _, hb, hall⟩ := belClass W
  have HB := hide hb
  have HA := hide hall
  have HR : Hid (∀ x, Row (fW x) ad N gs) := hide (fun x => (unhide R5).below (hb x))
  obtain ⟨x0, h0⟩ := hall W (Below.refl _ _)
  rw [h0]
  clear hb hall h0 R5
  obtain ⟨k, hk⟩ : ∃ k, alR gs hh cc mm = k := ⟨_, rfl⟩
  obtain ⟨ok, hok⟩ : ∃ b, alB gs hh cc mm = b := ⟨_, rfl⟩
  have HK := hide hk
  have HO := hide hok
  clear hk hok
  go_wp2_with fail
  refine (belQ (unhide HB) (unhide HA) (implAlert_is ad N c gs hh cc mm _ (unhide HR _) (unhide HK) (unhide HO))).mono ?_
  rintro e _ ⟨rfl, y1, rfl⟩
  go_wp2_with fail
  refine (belQ (unhide HB) (unhide HA) (specAlert_is ad N c gs hh cc mm _ (unhide HR _) (unhide HK) (unhide HO))).mono ?_
  rintro e _ ⟨rfl, y2, rfl⟩
  have q0 : (ok != ok) = false := by simp
  go_wp2_with fail
  refine (belG (unhide HA) (belAl (unhide HB _) _) (implAlert_is _ 3 3 [0, 50, 90] 100 0 20 _ (row_lit _ [0, 50, 90] 3 (by decide) (by decide)) al_lit.1 al_lit.2)).mono ?_
  rintro e _ ⟨rfl, y3, rfl⟩
  cases ok with
  | false =>
    have hk : k = -1 := by rw [← unhide HK]; simp [alR, unhide HO]
    subst hk
    go_wp2_with fail
    go_ret
    exact ⟨rfl, (unhide B0).trans ((unhide HB _).mono (unhide B0).size)⟩
  | true =>
    have hf := alB_facts (unhide HO)
    have ho := alOk_facts hf.1
    obtain ⟨J, hJ⟩ : ∃ J, alF gs hh cc mm = J := ⟨_, rfl⟩
    have hJl : J < N := by have := hf.2; rw [hJ, unhide HN] at this; exact this
    have hk : k = (J : Int) := by rw [← unhide HK, ← hJ]; simp [alR, unhide HO]
    have f1 := (alF_facts hf.2).1
    rw [hJ] at f1
    have g1 := alAll_at ho.2.1 (show J < gs.length by rw [unhide HN]; exact hJl)
    have b1 := ho.2.2.1
    have b2 := ho.2.2.2.1
    have b3 := ho.2.2.2.2
    have g2 := mulBd (s := (J : Int)) (d := cc) (A := 600) (B := 200) (by omega) (by omega) (by omega) (by omega) (by omega) (by omega)
    have HS : Hid (alB (gs.take J) hh cc mm = false) := hide (by rw [← hJ]; exact al_sooner hf.2)
    have HLS : Hid (∀ m2, m2 ≤ mm → alB gs hh cc m2 = true → (J : Int) ≤ alR gs hh cc m2) := hide (fun m2 h1 h2 => by rw [← hJ]; exact al_less h1 h2 hf.2)
    have hm2 : 0 ≤ mm / 2 ∧ mm / 2 ≤ mm := by omega
    rcases (unhide HR x0).open_ with ⟨h0, _⟩ | ⟨bb, off, rfl, _, _⟩
    · omega
    have m0 : ∀ x, (fW x).cell? ⟨bb, off + J, none⟩ = some (.int .i64 (nth gs J)) := fun x => by
      rcases (unhide HR x).open_ with ⟨h0, _⟩ | ⟨bb', off', e, _, hc⟩
      · omega
      · simp only [Option.some.injEq, Addr.mk.injEq, and_true] at e
        obtain ⟨rfl, rfl⟩ := e
        exact hc J hJl
    subst hk
    have n1 : (0 : Int) ≤ (J : Int) := by omega
    have n2 : (J : Int) < (N : Int) := by omega
    have j1 : decide ((J : Int) < 0) = false := decide_eq_false (by omega)
    have j2 : decide ((N : Int) ≤ (J : Int)) = false := decide_eq_false (by omega)
    have j3 : decide (mm ≤ hh + (J : Int) * cc - nth gs J) = false := decide_eq_false (by omega)
    clear hf ho hJ f1
    obtain ⟨less, hless⟩ : ∃ z, alR gs hh cc (mm / 2) = z := ⟨_, rfl⟩
    obtain ⟨still, hstill⟩ : ∃ z, alB gs hh cc (mm / 2) = z := ⟨_, rfl⟩
    have HL1 := hide hless
    have HL2 := hide hstill
    have HL3 : Hid (still = true → (J : Int) ≤ less) := hide (fun e => by rw [← hless]; exact unhide HLS _ hm2.2 (hstill.trans e))
    obtain ⟨r, hr⟩ : ∃ z, alR (gs.take J) hh cc mm = z := ⟨_, rfl⟩
    have HRR := hide hr
    clear hless hstill hr
    go_wp2_with fail
    refine (belQ (unhide HB) (unhide HA) (implAlert_is _ J c (gs.take J) hh cc mm _ (rowTake (unhide HR _) J (by omega)) (unhide HRR) (unhide HS))).mono ?_
    rintro e _ ⟨rfl, y4, rfl⟩
    go_wp2_with fail
    refine (belQ (unhide HB) (unhide HA) (implAlert_is _ N c gs hh cc (mm / 2) _ (unhide HR _) (unhide HL1) (unhide HL2))).mono ?_
    rintro e _ ⟨rfl, y5, rfl⟩
    cases still with
    | false =>
      go_wp2_with fail
      go_ret
      exact ⟨rfl, (unhide B0).trans ((unhide HB _).mono (unhide B0).size)⟩
    | true =>
      have hl := unhide HL3 rfl
      have j4 : decide ((J : Int) ≤ less) = true := decide_eq_true hl
      go_wp2_with fail
      go_ret
      exact ⟨rfl, (unhide B0).trans ((unhide HB _).mono (unhide B0).size)⟩

theorem lawFnTerrain (a : Option Addr) (len cap : Nat) (w : World) (hb : Bytes w a len) (hin : ∀ b off, a = some ⟨b, off, none⟩ → b < w.heap.size) :
    Calls Try.prog 3 #[.slice a len cap] w fun e w' => e = .returned (.bool true) ∧ Below w.heap.size w w' := by
  by_cases h : (1048576 : Int) < len
  · exact lawFnTerrain_big a len cap w h
  · exact lawFnTerrain_small a len cap w h hb hin

end Go.Proofs.Ytbaocifpifbldaf

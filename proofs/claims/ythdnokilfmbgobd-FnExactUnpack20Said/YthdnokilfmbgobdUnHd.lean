/-
  The head of bytes as the program's reader tells it: how wide rows are, how many, a code. Nothing is written but the reader's own memory.
-/
import Derived.Test.YthdnokilfmbgobdUnSz
namespace Go.Proofs.Ythdnokilfmbgobd
open Go Go.RowKit

theorem hd_a {bs : List Int} (h : bs.length < 1) : hdC bs = 1 := by rw [hdC, if_pos h]
theorem hd_b {bs : List Int} (h : 1 ≤ bs.length) (h8 : 8 < elAt bs 0) : hdC bs = 2 ∧ hdA bs = 0 := by rw [hdC, if_neg (by omega), if_pos h8, hdA, if_pos h8]; exact ⟨rfl, rfl⟩
theorem hd_c {bs : List Int} (h : bs.length = 1) (h8 : ¬ 8 < elAt bs 0) : hdC bs = 1 := by rw [hdC, if_neg (by omega), if_neg h8, if_pos (by omega)]
theorem hd_d {bs : List Int} (h : 2 ≤ bs.length) (h8 : ¬ 8 < elAt bs 0) (hd : 200 < elAt bs 1 ∨ ((elAt bs 0 == 0) != (elAt bs 1 == 0)) = true) : hdC bs = 2 ∧ hdA bs = 1 := by
  refine ⟨?_, by rw [hdA, if_neg h8]⟩
  rw [hdC, if_neg (by omega), if_neg h8, if_neg (by omega)]
  by_cases g : 200 < elAt bs 1
  · rw [if_pos g]
  · rw [if_neg g, if_pos (hd.resolve_left g)]
theorem hd_e {bs : List Int} (h : 2 ≤ bs.length) (h8 : ¬ 8 < elAt bs 0) (h2 : ¬ 200 < elAt bs 1) (hd : ((elAt bs 0 == 0) != (elAt bs 1 == 0)) = false) : hdC bs = 0 := by
  rw [hdC, if_neg (by omega), if_neg h8, if_neg (by omega), if_neg h2, if_neg (by rw [hd]; simp)]
/-- What reading the head leaves. -/
def HdE (bs : List Int) (U bb bo n bc : Nat) (w : World) (e : Ending) (w' : World) : Prop :=
  w.grownBy w' (some U) ∧ ((hdC bs = 0 ∧ e = .returned (.tuple #[.int .i64 (hdW bs : Int), .int .i64 (hdM bs : Int), .int .i64 0]) ∧ Un w' U bb bo n bc 2 bs) ∨ (hdC bs = 1 ∧ ∃ x y t, e = .returned (.tuple #[.int .i64 x, .int .i64 y, .int .i64 1]) ∧ Un w' U bb bo n bc t bs) ∨ (hdC bs = 2 ∧ ∃ x y, e = .returned (.tuple #[.int .i64 x, .int .i64 y, .int .i64 2]) ∧ Un w' U bb bo n bc (hdA bs) bs))

set_option maxRecDepth 20000 in
set_option maxHeartbeats 2000000 in
theorem readHead_any (U bb bo n bc : Nat) (bs : List Int) (w : World) (h : Un w U bb bo n bc 0 bs) :
    Calls Try.prog 36 #[.pointer (some ⟨U, 0, none⟩)] w fun e w' => HdE bs U bb bo n bc w e w' := by
  have hl := h.r.len_eq
  have HL := hide hl
  have H := hide h
  clear hl
  by_cases h0 : n = 0
  · go_enter Try.func36, Try.ntmps36
    go_wp2_with fail
    refine (readSize_short _ _ _ _ _ _ bs _ _ _ (unhide H) h0.symm).mono ?_
    rintro e w1 ⟨rfl, b1⟩
    have G1 := hide (bel_grown b1 (some U))
    have U1 := hide ((unhide H).below b1)
    clear b1
    go_wp2_with fail
    refine bodyPost_ret (v := .tuple #[.int .i64 0, .int .i64 0, .int .i64 1]) (by simp [results, Try.results36, go_sem]) rfl ?_
    exact ⟨unhide G1, .inr (.inl ⟨hd_a (by rw [unhide HL, h0]; omega), 0, 0, 0, rfl, unhide U1⟩)⟩
  have b0 := h.byt 0 (by omega)
  by_cases h8 : 8 < elAt bs 0
  · have q : inB (elAt bs 0) 0 8 = false := by simp [inB]; omega
    go_enter Try.func36, Try.ntmps36
    go_wp2_with fail
    refine (readSize_bad _ _ _ _ _ _ bs _ _ _ (unhide H) (by omega) q).mono ?_
    rintro e w1 ⟨rfl, b1⟩
    have G1 := hide (bel_grown b1 (some U))
    have U1 := hide ((unhide H).below b1)
    clear b1
    go_wp2_with fail
    refine bodyPost_ret (v := .tuple #[.int .i64 0, .int .i64 0, .int .i64 2]) (by simp [results, Try.results36, go_sem]) rfl ?_
    have k := hd_b (bs := bs) (by rw [unhide HL]; omega) h8
    exact ⟨unhide G1, .inr (.inr ⟨k.1, 0, 0, rfl, by rw [k.2]; exact unhide U1⟩)⟩
  have q : inB (elAt bs 0) 0 8 = true := by simp [inB]; omega
  go_enter Try.func36, Try.ntmps36
  go_wp2_with fail
  refine (readSize_ok _ _ _ _ _ _ bs _ _ _ (unhide H) (by omega) q).mono ?_
  rintro e w1 ⟨rfl, u1, g1⟩
  have U1 := hide u1
  have G1 := hide g1
  obtain ⟨v, hv⟩ : ∃ v, v = elAt bs 0 := ⟨_, rfl⟩
  rw [← hv] at b0 h8 ⊢
  have HV := hide hv
  clear u1 g1 hv q h
  by_cases hz : v = 0
  · have z1 : (v == 0) = true := by rw [hz]; rfl
    go_wp2_with fail
    by_cases h1 : n = 1
    · refine (readSize_short _ _ _ _ _ _ bs _ _ _ (unhide U1) (by omega)).mono ?_
      rintro e w2 ⟨rfl, b2⟩
      have G2 := hide (grown_on (unhide G1) (bel_grown b2 (some U)))
      have U2 := hide ((unhide U1).below b2)
      clear b2
      go_wp2_with fail
      refine bodyPost_ret (v := .tuple #[.int .i64 0, .int .i64 0, .int .i64 1]) (by simp [results, Try.results36, go_sem]) rfl ?_
      exact ⟨unhide G2, .inr (.inl ⟨hd_c (by rw [unhide HL, h1]) (by have := unhide HV; omega), _, _, _, rfl, unhide U2⟩)⟩
    have b1 := (unhide U1).byt 1 (by omega)
    have hn2 : 2 ≤ bs.length := by rw [unhide HL]; omega
    cases q1 : inB (elAt bs 1) 0 0
    · refine (readSize_bad _ _ _ _ _ _ bs _ _ _ (unhide U1) (by omega) q1).mono ?_
      rintro e w2 ⟨rfl, b2⟩
      have G2 := hide (grown_on (unhide G1) (bel_grown b2 (some U)))
      have U2 := hide ((unhide U1).below b2)
      clear b2
      go_wp2_with fail
      refine bodyPost_ret (v := .tuple #[.int .i64 0, .int .i64 0, .int .i64 2]) (by simp [results, Try.results36, go_sem]) rfl ?_
      have q2 : ¬ (0 ≤ elAt bs 1 ∧ elAt bs 1 ≤ 0) := by simpa [inB] using q1
      have k := hd_d (bs := bs) hn2 (by have := unhide HV; omega) (.inr (by rw [← unhide HV, z1, show (elAt bs 1 == 0) = false by rw [beq_eq_false_iff_ne]; omega]; rfl))
      exact ⟨unhide G2, .inr (.inr ⟨k.1, _, _, rfl, by rw [k.2]; exact unhide U2⟩)⟩
    · refine (readSize_ok _ _ _ _ _ _ bs _ _ _ (unhide U1) (by omega) q1).mono ?_
      rintro e w2 ⟨rfl, u2, g2⟩
      have U2 := hide u2
      have G2 := hide (grown_on (unhide G1) g2)
      clear u2 g2
      have q2 := in_facts q1
      have k := hd_e (bs := bs) hn2 (by have := unhide HV; omega) (by omega) (by rw [← unhide HV, z1, show (elAt bs 1 == 0) = true by rw [beq_iff_eq]; omega]; rfl)
      have HK := hide k
      have HW1 : Hid ((hdW bs : Int) = v) := hide (by unfold hdW; rw [← unhide HV]; omega)
      have HM1 : Hid ((hdM bs : Int) = elAt bs 1) := hide (by unfold hdM; omega)
      clear k q1
      go_wp2_with fail
      refine bodyPost_ret (v := .tuple #[.int .i64 0, .int .i64 (elAt bs 1), .int .i64 0]) (by simp [results, Try.results36, go_sem]) rfl ?_
      exact ⟨unhide G2, .inl ⟨unhide HK, by rw [unhide HW1, unhide HM1, hz], unhide U2⟩⟩
  · have z1 : (v == 0) = false := by rw [beq_eq_false_iff_ne]; exact hz
    go_wp2_with fail
    by_cases h1 : n = 1
    · refine (readSize_short _ _ _ _ _ _ bs _ _ _ (unhide U1) (by omega)).mono ?_
      rintro e w2 ⟨rfl, b2⟩
      have G2 := hide (grown_on (unhide G1) (bel_grown b2 (some U)))
      have U2 := hide ((unhide U1).below b2)
      clear b2
      go_wp2_with fail
      refine bodyPost_ret (v := .tuple #[.int .i64 v, .int .i64 0, .int .i64 1]) (by simp [results, Try.results36, go_sem]) rfl ?_
      exact ⟨unhide G2, .inr (.inl ⟨hd_c (by rw [unhide HL, h1]) (by have := unhide HV; omega), _, _, _, rfl, unhide U2⟩)⟩
    have b1 := (unhide U1).byt 1 (by omega)
    have hn2 : 2 ≤ bs.length := by rw [unhide HL]; omega
    cases q1 : inB (elAt bs 1) 1 200
    · refine (readSize_bad _ _ _ _ _ _ bs _ _ _ (unhide U1) (by omega) q1).mono ?_
      rintro e w2 ⟨rfl, b2⟩
      have G2 := hide (grown_on (unhide G1) (bel_grown b2 (some U)))
      have U2 := hide ((unhide U1).below b2)
      clear b2
      go_wp2_with fail
      refine bodyPost_ret (v := .tuple #[.int .i64 v, .int .i64 0, .int .i64 2]) (by simp [results, Try.results36, go_sem]) rfl ?_
      have q2 : ¬ (1 ≤ elAt bs 1 ∧ elAt bs 1 ≤ 200) := by simpa [inB] using q1
      have k := hd_d (bs := bs) hn2 (by have := unhide HV; omega) (by by_cases g : 200 < elAt bs 1; exact .inl g; exact .inr (by rw [← unhide HV, z1, show (elAt bs 1 == 0) = true by rw [beq_iff_eq]; omega]; rfl))
      exact ⟨unhide G2, .inr (.inr ⟨k.1, _, _, rfl, by rw [k.2]; exact unhide U2⟩)⟩
    · refine (readSize_ok _ _ _ _ _ _ bs _ _ _ (unhide U1) (by omega) q1).mono ?_
      rintro e w2 ⟨rfl, u2, g2⟩
      have U2 := hide u2
      have G2 := hide (grown_on (unhide G1) g2)
      clear u2 g2
      have q2 := in_facts q1
      have k := hd_e (bs := bs) hn2 (by have := unhide HV; omega) (by omega) (by rw [← unhide HV, z1, show (elAt bs 1 == 0) = false by rw [beq_eq_false_iff_ne]; omega]; rfl)
      have HK := hide k
      have HW1 : Hid ((hdW bs : Int) = v) := hide (by unfold hdW; rw [← unhide HV]; omega)
      have HM1 : Hid ((hdM bs : Int) = elAt bs 1) := hide (by unfold hdM; omega)
      clear k q1
      go_wp2_with fail
      refine bodyPost_ret (v := .tuple #[.int .i64 v, .int .i64 (elAt bs 1), .int .i64 0]) (by simp [results, Try.results36, go_sem]) rfl ?_
      exact ⟨unhide G2, .inl ⟨unhide HK, by rw [unhide HW1, unhide HM1], unhide U2⟩⟩

end Go.Proofs.Ythdnokilfmbgobd

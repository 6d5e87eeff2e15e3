/-
  The best first height, in plain numbers: only those that lead through all count. And the sum of all changes of a way, in the program.
-/
import Derived.Test.YtbaocifpifbldaePgImpl
import Derived.Test.YtbaocifpifbldaePbPure
namespace Go.Proofs.Ytbaocifpifbldae
open Go.RowKit

theorem pfB_out {ps : List Po} {up down h : Int} (hh : h < (bkI ps up down 0).a1 ∨ (bkI ps up down 0).a2 < h) : pfB ps up down h = false := by
  have : inB h (bkI ps up down 0).a1 (bkI ps up down 0).a2 = false := by
    cases e : inB h (bkI ps up down 0).a1 (bkI ps up down 0).a2 with
    | false => rfl
    | true => have := in_facts e; omega
  simp [pfB, this]
theorem pfB_in {ps : List Po} {up down h : Int} (q1 : poB ps = true) (q2 : slB up down = true) (q3 : bkB ps up down = true) (h1 : (bkI ps up down 0).a1 ≤ h) (h2 : h ≤ (bkI ps up down 0).a2) : pfB ps up down h = true := by
  have : inB h (bkI ps up down 0).a1 (bkI ps up down 0).a2 = true := by simp [inB, h1, h2]
  simp [pfB, q1, q2, q3, this]
/-- Where no height is right, none is told. -/
theorem bsS_none {ps : List Po} {up down : Int} : ∀ n : Nat, (∀ j : Nat, j < n → pfB ps up down ((elAt ps 0).a1 + j) = false) → bsS ps up down n = (0, -1)
  | 0, _ => rfl
  | n + 1, h => by rw [bsS_no (h n (by omega))]; exact bsS_none n (fun j hj => h j (by omega))
theorem bsS_stay {ps : List Po} {up down : Int} (n : Nat) : ∀ m : Nat, (∀ j : Nat, n ≤ j → j < n + m → pfB ps up down ((elAt ps 0).a1 + j) = false) → bsS ps up down (n + m) = bsS ps up down n
  | 0, _ => rfl
  | m + 1, h => by
    show bsS ps up down (n + m + 1) = _
    rw [bsS_no (h (n + m) (by omega) (by omega))]; exact bsS_stay n m (fun j h1 h2 => h j h1 (by omega))
theorem bs_no {ps : List Po} {up down : Int} (h : (poB ps && slB up down && bkB ps up down && decide ((elAt ps 0).a2 ≤ 300)) = false) : bsI ps up down = 0 ∧ bsB ps up down = false := by
  have e : bsR ps up down = (0, -1) := by
    unfold bsR
    by_cases hk : bsK ps = true
    · rw [if_pos hk]
      refine bsS_none _ (fun j _ => ?_)
      have hk' : (poB ps && decide ((elAt ps 0).a2 ≤ 300)) = true := hk
      simp only [Bool.and_eq_true] at hk'
      rw [hk'.1, hk'.2, Bool.true_and, Bool.and_true] at h
      unfold pfB
      rw [hk'.1, Bool.true_and, h, Bool.false_and]
    · rw [if_neg hk]
  unfold bsI bsB
  rw [e]
  exact ⟨rfl, rfl⟩
/-- The best of those from the least that leads through all up to one. -/
def bsH (ps : List Po) (up down : Int) (h : Int) : Int × Int := bsS ps up down (h - (elAt ps 0).a1).toNat
theorem bsH_first {ps : List Po} {up down : Int} (q1 : poB ps = true) (q2 : slB up down = true) (q3 : bkB ps up down = true) : bsH ps up down ((bkI ps up down 0).a1 + 1) = ((bkI ps up down 0).a1, wsA ps up down (bkI ps up down 0).a1) := by
  have pf := poB_facts q1
  have hl := bkI_in (up := up) (down := down) (ps := ps) (i := 0) (by omega)
  have hb := of_decide_eq_true q3 0 (by omega)
  obtain ⟨n, hn⟩ : ∃ n : Nat, (bkI ps up down 0).a1 = (elAt ps 0).a1 + n := ⟨((bkI ps up down 0).a1 - (elAt ps 0).a1).toNat, by omega⟩
  have e0 := bsS_none (ps := ps) (up := up) (down := down) n (fun j hj => pfB_out (.inl (by omega)))
  unfold bsH
  have e : ((bkI ps up down 0).a1 + 1 - (elAt ps 0).a1).toNat = n + 1 := by omega
  rw [e, bsS_take (by rw [← hn]; exact pfB_in q1 q2 q3 (Int.le_refl _) (by omega)) (.inl (by rw [e0]; decide)), ← hn]
theorem bsH_next {ps : List Po} {up down h : Int} (q1 : poB ps = true) (q2 : slB up down = true) (q3 : bkB ps up down = true) (h1 : (bkI ps up down 0).a1 ≤ h) (h2 : h ≤ (bkI ps up down 0).a2) (h0 : 0 ≤ (bsH ps up down h).2) :
    bsH ps up down (h + 1) = if wsA ps up down h < (bsH ps up down h).2 then (h, wsA ps up down h) else bsH ps up down h := by
  have pf := poB_facts q1
  have hl := bkI_in (up := up) (down := down) (ps := ps) (i := 0) (by omega)
  obtain ⟨n, hn⟩ : ∃ n : Nat, h = (elAt ps 0).a1 + n := ⟨(h - (elAt ps 0).a1).toNat, by omega⟩
  have e1 : (h + 1 - (elAt ps 0).a1).toNat = n + 1 := by omega
  have e2 : (h - (elAt ps 0).a1).toNat = n := by omega
  unfold bsH at h0 ⊢
  rw [e1]
  rw [e2] at h0 ⊢
  have hp : pfB ps up down ((elAt ps 0).a1 + n) = true := by rw [← hn]; exact pfB_in q1 q2 q3 h1 h2
  by_cases hc : wsA ps up down h < (bsS ps up down n).2
  · rw [if_pos hc, bsS_take hp (.inr (by rw [← hn]; exact hc)), ← hn]
  · rw [if_neg hc]
    exact bsS_keep (by omega) (by rw [← hn]; exact hc)
theorem bsH_last {ps : List Po} {up down : Int} (q1 : poB ps = true) (_q2 : slB up down = true) (q3 : bkB ps up down = true) (q4 : (elAt ps 0).a2 ≤ 300) : bsR ps up down = bsH ps up down ((bkI ps up down 0).a2 + 1) := by
  have pf := poB_facts q1
  have hl := bkI_in (up := up) (down := down) (ps := ps) (i := 0) (by omega)
  have hb := of_decide_eq_true q3 0 (by omega)
  have hk : bsK ps = true := by simp [bsK, q1, q4]
  unfold bsR bsH
  rw [if_pos hk]
  obtain ⟨m, hm⟩ : ∃ m : Nat, ((elAt ps 0).a2 - (elAt ps 0).a1 + 1).toNat = ((bkI ps up down 0).a2 + 1 - (elAt ps 0).a1).toNat + m := ⟨((elAt ps 0).a2 - (bkI ps up down 0).a2).toNat, by omega⟩
  rw [hm]
  exact bsS_stay _ m (fun j h1 _ => pfB_out (.inr (by omega)))
theorem wsA_bd {ps : List Po} {up down h : Int} (hp : pfB ps up down h = true) (hb : ps.length ≤ 30) : 0 ≤ wsA ps up down h ∧ wsA ps up down h ≤ 3000000 := by
  have q1 : poB ps = true := by
    unfold pfB at hp
    simp only [Bool.and_eq_true] at hp
    exact hp.1.1.1
  have hl : (pfL ps up down h).length = ps.length := by simp [pfL, hp, prL_len]
  have pf := poB_facts q1
  have := wsm_bd (pfL_bd ps up down h) ((pfL ps up down h).length - 1) (by omega)
  unfold wsA
  omega

set_option maxRecDepth 20000 in
set_option maxHeartbeats 1000000 in
theorem sumOfChanges_any (a : Option Addr) (len cap : Nat) (zs : List Int) (w : World) (hr : Row w a len zs) (hl : len ≤ 1000) (h1 : 1 ≤ len) (hb : ∀ i, i < zs.length → 0 ≤ nth zs i ∧ nth zs i ≤ 100000) :
    Calls Try.prog 58 #[.slice a len cap] w fun e w' => e = .returned (.int .i64 (wsm zs (len - 1))) ∧ Below w.heap.size w w' := by
  have hz := hr.len_eq
  have hopen := hr.open_
  clear hr
  obtain ⟨m, hm⟩ : ∃ m : Nat, len = m + 1 := ⟨len - 1, by omega⟩
  have hsub : (len : Int) - 1 = (m : Int) := by omega
  have hwr : IntKind.i64.wrap (m : Int) = (m : Int) := by rw [IntKind.wrap_i64]; omega
  have HE : Hid (wsm zs (len - 1) = wsm zs m) := hide (by rw [show len - 1 = m by omega])
  have HM := hide hm
  have HZ := hide hz
  rw [unhide HE]
  clear hm hz HE
  go_enter Try.func58, Try.ntmps58
  go_wp2_with fail
  go_loopw [3, 8] (fun s3 s8 wr => ∃ i n : Nat, i ≤ m ∧ s3 = .int .i64 (wsm zs i) ∧ s8 = .int .i64 (i : Int) ∧ wr = w.drewN n) (fun _ s8 _ => m - (intOf s8).toNat)
  case atStart => exact ⟨0, 0, Nat.zero_le _, rfl, rfl, rfl⟩
  case round =>
    obtain ⟨i, n, hi, rfl, rfl, rfl⟩ := hrel
    by_cases hlt : i < m
    · have hm := unhide HM
      have hz := unhide HZ
      rcases hopen with ⟨h0, _⟩ | ⟨bb, off, rfl, _, hcs⟩
      · omega
      have n2 : (i : Int) < (m : Int) := by omega
      obtain ⟨j, hj⟩ : ∃ j, i + 1 = j := ⟨_, rfl⟩
      have hadd : (i : Int) + 1 = (j : Int) := by omega
      have hwj : IntKind.i64.wrap (j : Int) = (j : Int) := by rw [IntKind.wrap_i64]; omega
      have i0 : (0 : Int) ≤ (i : Int) := by omega
      have i1 : (i : Int) < (len : Int) := by omega
      have j0 : (0 : Int) ≤ (j : Int) := by omega
      have j1 : (j : Int) < (len : Int) := by omega
      have y1 : w.cell? ⟨bb, off + i, none⟩ = some (.int .i64 (nth zs i)) := hcs i (by omega)
      have y2 : w.cell? ⟨bb, off + j, none⟩ = some (.int .i64 (nth zs j)) := hcs j (by omega)
      have b1 := hb i (by omega)
      have b2 := hb j (by omega)
      have sb := wsm_bd hb i (by omega)
      obtain ⟨d, hd⟩ : ∃ d, ((nth zs j - nth zs i).natAbs : Int) = d := ⟨_, rfl⟩
      obtain ⟨u, hu⟩ : ∃ u, nth zs i = u := ⟨_, rfl⟩
      obtain ⟨v, hv⟩ : ∃ v, nth zs j = v := ⟨_, rfl⟩
      obtain ⟨S, hS⟩ : ∃ S, wsm zs i = S := ⟨_, rfl⟩
      have HX : Hid (wsm zs (i + 1) = S + d) := hide (by
        show wsm zs i + ((nth zs (i + 1) - nth zs i).natAbs : Int) = _
        rw [hj, hd, hS])
      rw [hu, hv] at hd
      rw [hu] at y1 b1
      rw [hv] at y2 b2
      rw [hS] at sb
      have HD := hide hd
      have d1 : 0 ≤ d ∧ d ≤ 100000 := by omega
      have HJ := hide hj
      have ht : (i : Int) ≤ 1000 := by omega
      have hwd : IntKind.i64.wrap (v - u) = v - u := by rw [IntKind.wrap_i64]; omega
      rw [hS]
      clear hcs hm hz hu hv hS hd hj
      go_wp2_with fail
      go_quiet ((go_at_call 98; first | exact quietSame (sizeOf_is _ _ (by omega) (unhide HD)) | exact Calls.quiet_of_same (sizeOf_is _ _ (by omega) (unhide HD))))
      go_wp2_with fail
      go_roundw
      case rel => exact ⟨i + 1, _, by omega, congrArg (Value.int .i64) (by rw [unhide HX]), by have := unhide HJ; go_num, by first | rfl | exact World.drewN_drewN _ _ _⟩
      case measure => have := unhide HJ; simp [intOf]; omega
    · have n2 : ¬ (i : Int) < (m : Int) := by omega
      have hie : i = m := by omega
      have HI := hide hie
      clear hie
      go_wp2
      go_ret
      exact ⟨by rw [unhide HI]; try rfl, bel0d' _⟩

end Go.Proofs.Ytbaocifpifbldae

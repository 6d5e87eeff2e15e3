/-
  What the program of chapter 13 answers of descents and points: the plain answers, at every argument; nothing that was there is written.
-/
import Derived.Test.YtbaocifpifbldaePfOk
import Derived.Test.YtbaocifpifbldaeLoopAt
namespace Go.Proofs.Ytbaocifpifbldae
open Go.RowKit

set_option maxHeartbeats 1000000 in
theorem implDescent_any (a s f : Int) (w : World) :
    Calls Try.prog 23 #[.int .i64 a, .int .i64 s, .int .i64 f] w fun e w' => e = .returned (.tuple #[.int .i64 (dsR a s f), .bool (dsB a s f)]) ∧ Below w.heap.size w w' := by
  rcases three (inB a 0 100000) (inB s 1 1000) (inB f 0 100000) with ⟨q1, hv⟩ | ⟨q1, q2, hv⟩ | ⟨q1, q2, q3, hv⟩ | ⟨q1, q2, q3, hv⟩
  iterate 3
    · have HB : dsB a s f = false := by have e : dsOk a s f = false := hv; simp [dsB, e]
      have HE := hide HB
      have HR : dsR a s f = 0 := by simp [dsR, HB]
      rw [HB, HR]
      clear HB HR hv
      go_enter Try.func23, Try.ntmps23
      go_wp2_with (go_at_call 51; refine (within_is _ _ _ _ (by first | exact q1 | exact q2 | exact q3)).mono ?_; rintro e w' ⟨rfl, hw⟩; subst w')
      go_ret2
      exact ⟨rfl, Below.refl _ _⟩
  have f1 := in_facts q1
  have f2 := in_facts q2
  have f3 := in_facts q3
  have hb := dsN_bd f1.1 f1.2 f2.1 f2.2
  have hz : ¬ s = 0 := by omega
  obtain ⟨n, hn⟩ : ∃ n, (a + s - 1).tdiv s = n := ⟨_, rfl⟩
  have hn' : dsN a s = n := hn
  rw [hn'] at hb
  have b0 := hb.1
  have b1 := hb.2
  have a0 := f1.1
  have a1 := f1.2
  have s0 := f2.1
  have s1 := f2.2
  have g0 := f3.1
  have g1 := f3.2
  have hO : dsOk a s f = true := hv
  by_cases hf : f - n < 0
  · have HB : dsB a s f = false := by simp [dsB, hO, hn']; omega
    have HR : dsR a s f = 0 := by simp [dsR, HB]
    rw [HB, HR]
    clear HB HR hv hO hn' hb f1 f2 f3
    go_enter Try.func23, Try.ntmps23
    go_wp2_with (go_at_call 51; refine (within_is _ _ _ _ (by first | exact q1 | exact q2 | exact q3)).mono ?_; rintro e w' ⟨rfl, hw⟩; subst w')
    go_ret2
    exact ⟨rfl, Below.refl _ _⟩
  · have HB : dsB a s f = true := by simp [dsB, hO, hn']; omega
    have HR : dsR a s f = f - n := by simp [dsR, HB, hn']
    rw [HB, HR]
    clear HB HR hv hO hn' hb f1 f2 f3
    go_enter Try.func23, Try.ntmps23
    go_wp2_with (go_at_call 51; refine (within_is _ _ _ _ (by first | exact q1 | exact q2 | exact q3)).mono ?_; rintro e w' ⟨rfl, hw⟩; subst w')
    go_ret2
    exact ⟨rfl, Below.refl _ _⟩

/-- A point by itself. -/
def poO (p : Po) : Bool := inB p.a0 0 100000 && inB p.a2 0 100000 && inB p.a1 0 p.a2
theorem po_of {ps : List Po} {i : Nat} (h : poO (elAt ps i) = true) : poAt ps i = decide (i = 0 ∨ (elAt ps (i - 1)).a0 < (elAt ps i).a0) := by
  simp only [poO, Bool.and_eq_true] at h
  have h2 := in_facts h.1.2
  have : (elAt ps i).a2 ≤ 100000 := h2.2
  simp [poAt, h.1.1, h.2, this]
theorem po_no {ps : List Po} {i : Nat} (h : poO (elAt ps i) = false) : poAt ps i = false := by
  cases e : poAt ps i with
  | false => rfl
  | true =>
    have f := poAt_facts e
    have : poO (elAt ps i) = true := by
      simp only [poO, inB, Bool.and_eq_true, decide_eq_true_eq]
      omega
    rw [this] at h; cases h
theorem po_far {ps : List Po} {i : Nat} (h : i < ps.length) : nth (ps.map (·.a0)) i = (elAt ps i).a0 := by
  simp [nth, elAt, h]
theorem poB_rise {ps : List Po} (h : ∀ i, i < ps.length → poO (elAt ps i) = true) (hl : inB ps.length 1 30 = true) : poB ps = riseB (ps.map (·.a0)) := by
  have e : (∀ i, i < ps.length → poAt ps i = true) ↔ (∀ i, i < (ps.map (·.a0)).length - 1 → nth (ps.map (·.a0)) i < nth (ps.map (·.a0)) (i + 1)) := by
    constructor
    · intro k i hi
      simp only [List.length_map] at hi
      have := (poAt_facts (k (i + 1) (by omega))).2.2.2
      rw [po_far (by omega), po_far (by omega)]
      simpa using this
    · intro k i hi
      rw [po_of (h i hi)]
      refine decide_eq_true ?_
      cases i with
      | zero => exact .inl rfl
      | succ i =>
        have := k i (by simp; omega)
        rw [po_far (by omega), po_far (by omega)] at this
        exact .inr this
  unfold poB riseB
  rw [hl, Bool.and_true]
  exact decide_eq_decide.2 e

theorem po_take {ps : List Po} {i : Nat} (h : i < ps.length) : (ps.take (i + 1)).map (·.a0) = (ps.take i).map (·.a0) ++ [(elAt ps i).a0] := by
  rw [List.take_succ_eq_append_getElem h, List.map_append]
  simp [elAt, h]
set_option maxRecDepth 20000 in
set_option maxHeartbeats 1000000 in
theorem implPointsOk_any (ad : Option Addr) (len cap : Nat) (ps : List Po) (w : World) (hr : RowE 3 poC w ad len ps) :
    Calls Try.prog 20 #[.slice ad len cap] w fun e w' => e = .returned (.bool (poB ps)) ∧ Below w.heap.size w w' := by
  have hz := hr.len_eq
  have hsm := hr.small
  have HOP := hide hr.open_
  clear hr
  subst hz
  cases q0 : inB (ps.length : Int) 1 30 with
  | false =>
    have HE : Hid (poB ps = false) := hide (by simp [poB, q0])
    go_enter Try.func20, Try.ntmps20
    go_wp2_with (go_at_call 51; refine (within_is _ _ _ _ q0).mono ?_; rintro e w' ⟨rfl, hw⟩; subst w')
    go_ret
    exact ⟨ret_bool (unhide HE).symm, Below.refl _ _⟩
  | true =>
    have f0 := in_facts q0
    have Q0 := hide q0
    go_enter Try.func20, Try.ntmps20
    go_wp2_with (go_at_call 51; refine (within_is _ _ _ _ q0).mono ?_; rintro e w' ⟨rfl, hw⟩; subst w')
    have K0 : Hid (LoopAt w (w.alloc (Obj.cells #[] 3)) [] w.heap.size w.heap.size 0 0 []) := hide ⟨fun p hp => by simp at hp, ownI_none (Nat.le_refl _), rfl, bel1 _, Nat.le_refl _, by simp⟩
    go_loopw [3, 13] (fun s3 s13 wr => ∃ (i g cp : Nat), i ≤ ps.length ∧ s3 = .slice (some ⟨g, 0, none⟩) i cp ∧ s13 = .int .i64 (i : Int) ∧ Hid (∀ j, j < i → poO (elAt ps j) = true) ∧ Hid (LoopAt w wr [] w.heap.size g i cp ((ps.take i).map (·.a0)))) (fun _ s13 _ => ps.length - (intOf s13).toNat)
    case atStart => exact ⟨0, _, 0, Nat.zero_le _, rfl, rfl, hide (fun j hj => by omega), K0⟩
    case round =>
      obtain ⟨i, g, cp, hi, rfl, rfl, HN, HK⟩ := hrel
      clear K0
      by_cases hlt : i < ps.length
      · rcases (unhide HOP) with ⟨h0, _⟩ | ⟨bb, off, rfl, _, hcs⟩
        · omega
        have n1 : (0 : Int) ≤ (i : Int) := by omega
        have n2 : (i : Int) < (ps.length : Int) := by omega
        have bw := (unhide HK).b
        have p0' : wr.cell? ⟨bb, off + i * 3, none⟩ = some (.int .i64 (elAt ps i).a0) := (bw.cell (block_lt_of_cell (hcs i hlt 0 (by omega)))).trans (hcs i hlt 0 (by omega))
        have p1' : wr.cell? ⟨bb, off + i * 3 + 1, none⟩ = some (.int .i64 (elAt ps i).a1) := (bw.cell (block_lt_of_cell (hcs i hlt 1 (by omega)))).trans (hcs i hlt 1 (by omega))
        have p2' : wr.cell? ⟨bb, off + i * 3 + 2, none⟩ = some (.int .i64 (elAt ps i).a2) := (bw.cell (block_lt_of_cell (hcs i hlt 2 (by omega)))).trans (hcs i hlt 2 (by omega))
        have KE := hide ((unhide HK).below (bel1 (Obj.cells #[.int .i64 (elAt ps i).a0, .int .i64 (elAt ps i).a1, .int .i64 (elAt ps i).a2] 53)))
        have HV : Hid (poO (elAt ps i) = (inB (elAt ps i).a0 0 100000 && inB (elAt ps i).a2 0 100000 && inB (elAt ps i).a1 0 (elAt ps i).a2)) := hide rfl
        rcases three (inB (elAt ps i).a0 0 100000) (inB (elAt ps i).a2 0 100000) (inB (elAt ps i).a1 0 (elAt ps i).a2) with ⟨q1, hv⟩ | ⟨q1, q2, hv⟩ | ⟨q1, q2, q3, hv⟩ | ⟨q1, q2, q3, hv⟩
        iterate 3
          · have HE := hide (poB_not hlt (po_no ((unhide HV).trans hv)))
            clear hcs bw hv
            go_wp2_with (go_at_call 51; refine (within_is _ _ _ _ (by first | exact q1 | exact q2 | exact q3)).mono ?_; rintro e w' ⟨rfl, hw⟩; subst w')
            go_ret
            exact ⟨ret_bool (unhide HE).symm, (unhide KE).b⟩
        have HA := hide ((unhide HV).trans hv)
        have fa := in_facts q1
        clear hcs bw hv
        go_wp2_with (first | (go_at_call 51; refine (within_is _ _ _ _ (by first | exact q1 | exact q2 | exact q3)).mono ?_; rintro e w' ⟨rfl, hw⟩; subst w') | (at_builtin; (refine wpList_app_int rfl _ _ rfl (elAt ps i).a0 (unhide KE).o (unhide KE).l rfl (by simp) rfl (unhide KE).t (by omega) (by omega) ?_; intro g' c' w9 o9 gr9; have K9 := hide ((unhide KE).step o9 gr9); clear o9 gr9)))
        go_roundw
        case rel => exact ⟨i + 1, _, _, by omega, rfl, by go_num, hide (fun j hj => by rcases Nat.lt_succ_iff_lt_or_eq.1 hj with h | h; exact unhide HN j h; subst h; exact unhide HA), by rw [po_take hlt]; exact K9⟩
        case measure => simp [intOf]; omega
      · have n2 : ¬ (i : Int) < (ps.length : Int) := by omega
        have hie : i = ps.length := by omega
        have HE := hide (poB_rise (ps := ps) (fun j hj => unhide HN j (by omega)) (unhide Q0))
        have K9 := (unhide HK)
        have R9 := hide (unhide HK).o.row
        have E9 : Hid ((ps.take i).map (·.a0) = ps.map (·.a0)) := hide (by rw [hie, List.take_length])
        have HB := hide (unhide HK).b
        clear K9 hie
        go_wp2_with (go_at_call 56; refine (ascending_any _ _ _ _ _ (unhide R9)).mono ?_; rintro e w' ⟨rfl, n, rfl⟩)
        go_ret
        exact ⟨ret_bool (by rw [unhide HE, ← List.map_take, unhide E9]), (unhide HB).trans (bel0d' n)⟩

end Go.Proofs.Ytbaocifpifbldae

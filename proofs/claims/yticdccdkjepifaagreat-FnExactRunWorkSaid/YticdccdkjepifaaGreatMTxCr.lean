/-
  The law's size, copy and comparison of a Carry and of a list of them. The copy at lists of at most 1048576; nothing that was there is written.
  The law's size, copy and comparison of a Defect and of a list of them. The copy at lists of at most 1048576; nothing that was there is written.
-/
import Derived.Test.YticdccdkjepifaaGreatMWrOrd
import Derived.Test.YticdccdkjepifaaGreatMStrRow
import Derived.Deep.DrawnRows
import Derived.Laws.MakeOwn

namespace Go.Proofs.YticdccdkjepifaaGreat
open Go.RowKit

set_option maxHeartbeats 1000000 in
theorem szCarry_any (n : ByteArray) (m : Int) (d : Int) (left : Int) (w : World) (hp : n.size ≤ 9223372036854775807) (hl0 : 0 ≤ left) (hl1 : left ≤ 1048576) :
    Calls Tryz.prog 46 #[.agg #[.string n, .int .i64 m, .int .i64 d], .int .i64 left] w fun x w' => (∃ r : Int, x = .returned (.int .i64 r) ∧ (r < 0 ∨ (0 ≤ r ∧ r ≤ left ∧ n.size ≤ 1048576))) ∧ Below w.heap.size w w' := by
  by_cases q0 : (n.size : Int) ≤ left
  · have n0 : ¬ left - (n.size : Int) < 0 := by omega
    go_enter Tryz.func46, Tryz.ntmps46
    go_wp2_with fail
    go_ret
    exact ⟨⟨_, rfl, .inr ⟨by omega, by omega, by omega⟩⟩, bel1 _⟩
  · have n0 : left - (n.size : Int) < 0 := by omega
    go_enter Tryz.func46, Tryz.ntmps46
    go_wp2_with fail
    go_ret
    exact ⟨⟨-1, rfl, .inl (by omega)⟩, bel1 _⟩
set_option maxHeartbeats 1000000 in
theorem toCarry_any (n : ByteArray) (m : Int) (d : Int) (w : World) :
    Calls Tryz.prog 51 #[.agg #[.string n, .int .i64 m, .int .i64 d]] w fun e w' => e = .returned (.agg #[.string n, .int .i64 m, .int .i64 d]) ∧ Below w.heap.size w w' := by
  go_enter Tryz.func51, Tryz.ntmps51
  go_wp2
  refine bodyPost_ret (v := .agg #[.string n, .int .i64 m, .int .i64 d]) (by simp [results, Tryz.results51, go_sem]) rfl ⟨rfl, ?_⟩
  repeat (first | exact bel3 _ _ _ | refine Below.setCell ?_ (by simp; try omega) _)

set_option maxHeartbeats 1000000 in
theorem eqCarry_same (n : ByteArray) (m : Int) (d : Int) (w : World) :
    Calls Tryz.prog 63 #[.agg #[.string n, .int .i64 m, .int .i64 d], .agg #[.string n, .int .i64 m, .int .i64 d]] w fun e w' => e = .returned (.bool true) ∧ Below w.heap.size w w' := by
  go_enter Tryz.func63, Tryz.ntmps63
  go_wp2_with fail
  go_ret
  exact ⟨rfl, bel2 _ _⟩

set_option maxHeartbeats 1000000 in
theorem szCarryS_any (ad : Option Addr) (len cap : Nat) (ps : List Cr) (left : Int) (w : World) (hr : RowE 3 crC w ad len ps) (hfit : ∀ i, fitT (elAt ps i).n) (h0 : 0 ≤ left) (h1 : left ≤ 1048576) :
    Calls Tryz.prog 19 #[.slice ad len cap, .int .i64 left] w fun x w' => (∃ r : Int, x = .returned (.int .i64 r) ∧ (r < 0 ∨ (0 ≤ r ∧ r ≤ left ∧ len ≤ 1048576))) ∧ Below w.heap.size w w' := by
  have hs := hr.small
  have HR := hide hr
  have HFIT := hide hfit
  clear hr hfit
  by_cases hbig : left < (len : Int)
  · go_enter Tryz.func19, Tryz.ntmps19
    go_wp2
    go_ret
    exact ⟨⟨-1, rfl, by omega⟩, Below.refl _ _⟩
  have hle : (len : Int) ≤ left := by omega
  have hl20 : (len : Int) ≤ 1048576 := by omega
  go_enter Tryz.func19, Tryz.ntmps19
  go_wp2_with fail
  go_loopw [1, 5] (fun lv iv wr => ∃ (k : Nat) (q : Int), k ≤ len ∧ iv = .int .i64 k ∧ lv = .int .i64 q ∧ (0 ≤ q ∧ q ≤ left) ∧ Below w.heap.size w wr) (fun _ i _ => len - (intOf i).toNat)
  case atStart => exact ⟨0, left - len, Nat.zero_le _, rfl, rfl, by omega, Below.refl _ _⟩
  case round =>
    obtain ⟨k, q, hk, rfl, rfl, hq, hbel⟩ := hrel
    by_cases hlt : k < len
    · obtain ⟨bb, off, rfl, hc⟩ := (unhide HR).at_ k hlt
      have c0 : w.cell? ⟨bb, off + k * 3, none⟩ = some (.string (elAt ps k).n) := hc 0 (by omega)
      have c0 := (hbel.cell (block_lt_of_cell c0)).trans c0
      have c1 : w.cell? ⟨bb, off + k * 3 + 1, none⟩ = some (.int .i64 (elAt ps k).m) := hc 1 (by omega)
      have c1 := (hbel.cell (block_lt_of_cell c1)).trans c1
      have c2 : w.cell? ⟨bb, off + k * 3 + 2, none⟩ = some (.int .i64 (elAt ps k).d) := hc 2 (by omega)
      have c2 := (hbel.cell (block_lt_of_cell c2)).trans c2
      have hn : (elAt ps k).n.size ≤ 9223372036854775807 := unhide HFIT k
      have hi1 : (k : Int) < (len : Int) := by omega
      have HB := hide hbel
      clear hc hbel
      go_wp2_with fail
      refine (szCarry_any _ _ _ q _ hn hq.1 (by omega)).mono ?_
      rintro x w1 ⟨⟨r, rfl, hr⟩, b1⟩
      have HB1 := hide ((unhide HB).trans (b1.mono (unhide HB).size))
      clear b1 c0 c1 c2
      rcases hr with hr | hr
      · go_wp2_with fail
        go_ret
        exact ⟨⟨-1, rfl, by omega⟩, unhide HB1⟩
      · have hr0 : ¬ r < 0 := by omega
        go_wp2_with fail
        go_roundw
        case rel => exact ⟨k + 1, r, by omega, by go_num, rfl, by omega, unhide HB1⟩
        case measure => simp [intOf]; omega
    · have HB := hide hbel
      have hi1 : ¬ (k : Int) < (len : Int) := by omega
      clear hbel
      go_wp2_with fail
      go_ret
      exact ⟨⟨q, rfl, by omega⟩, unhide HB⟩

/-- After k rounds of the copying; the new row lies in block B. -/
structure CopiedCr (T : TypeId) (w wr : World) (B : Nat) (ps : List Cr) (k : Nat) : Prop where
  own : ∃ xs : List Value, wr.ownsRow B T 3 (.slice (some ⟨B, 0, none⟩) ps.length ps.length) ps.length xs ∧ ∀ j, j < k → ∀ q, q < 3 → xs[j * 3 + q]? = some (crC (elAt ps j) q)
  bel : Below w.heap.size w wr
  here : B < wr.heap.size
  old : w.heap.size ≤ B
theorem CopiedCr.at_ {T : TypeId} {w wr : World} {B : Nat} {ps : List Cr} {k : Nat} (h : CopiedCr T w wr B ps k) (i : Nat) (hi : i < ps.length * 3) : (∃ v, wr.cell? ⟨B, i, none⟩ = some v) ∧ wr.frozen? ⟨B, i, none⟩ = false := by
  obtain ⟨xs, ho, _⟩ := h.own
  refine ⟨?_, ho.frozenAt i⟩
  rw [ho.cellAt i hi]
  have := ho.1
  exact ⟨xs[i]'(by omega), List.getElem?_eq_getElem (by omega)⟩
theorem CopiedCr.call {T : TypeId} {w wr w' : World} {B : Nat} {ps : List Cr} {k : Nat} (h : CopiedCr T w wr B ps k) (b : Below wr.heap.size wr w') : CopiedCr T w w' B ps k := by
  obtain ⟨xs, ho, hx⟩ := h.own
  exact ⟨⟨xs, ownsRow_below ho b, hx⟩, h.bel.trans (b.mono h.bel.size), Nat.lt_of_lt_of_le h.here b.size, h.old⟩
theorem CopiedCr.step {T : TypeId} {w wr : World} {B : Nat} {ps : List Cr} {k : Nat} (h : CopiedCr T w wr B ps k) (hk : k < ps.length) :
    CopiedCr T w (((wr.setCell ⟨B, k * 3, none⟩ (.string (elAt ps k).n)).setCell ⟨B, k * 3 + 1, none⟩ (.int .i64 (elAt ps k).m)).setCell ⟨B, k * 3 + 2, none⟩ (.int .i64 (elAt ps k).d)) B ps (k + 1) := by
  obtain ⟨xs, ho, hx⟩ := h.own
  have hl := ho.1
  have o0 := (ho.stored (k * 3) (.string (elAt ps k).n)).1
  have o1 := (o0.stored (k * 3 + 1) (.int .i64 (elAt ps k).m)).1
  have o2 := (o1.stored (k * 3 + 2) (.int .i64 (elAt ps k).d)).1
  refine ⟨⟨_, o2, fun j hj q hq => ?_⟩, (((h.bel.setCell h.old _).setCell h.old _).setCell h.old _), by have := h.here; simpa [World.setCell] using this, h.old⟩
  by_cases e : j = k
  · subst e
    have hq' : q = 0 ∨ q = 1 ∨ q = 2 := by omega
    rcases hq' with rfl | rfl | rfl
    · rw [List.getElem?_set_ne (by omega), List.getElem?_set_ne (by omega)]; exact List.getElem?_set_self (by first | omega | (simp; omega))
    · rw [List.getElem?_set_ne (by omega)]; exact List.getElem?_set_self (by first | omega | (simp; omega))
    · exact List.getElem?_set_self (by first | omega | (simp; omega))
  · rw [List.getElem?_set_ne (by omega), List.getElem?_set_ne (by omega), List.getElem?_set_ne (by omega)]
    exact hx j (by omega) q hq

theorem infoCr : (Tryz.prog.info? 92).map (fun i => (i.zero, i.size, i.bytes)) = some (some (.agg #[.string ⟨#[]⟩, .int .i64 0, .int .i64 0]), 3, 32) := by kernel_rfl
set_option maxHeartbeats 1000000 in
theorem toCarryS_own (ad : Option Addr) (len cap : Nat) (ps : List Cr) (w : World) (hr : RowE 3 crC w ad len ps) (hlen : len ≤ 1048576) :
    Calls Tryz.prog 25 #[.slice ad len cap] w fun e w' => e = .returned (.slice (some ⟨w.heap.size, 0, none⟩) len len) ∧ OwnE 3 crC w' w.heap.size 92 (.slice (some ⟨w.heap.size, 0, none⟩) len len) ps ∧ Below w.heap.size w w' := by
  have hz := hr.len_eq
  have HO := hide hr
  clear hr
  subst hz
  obtain ⟨i0, hi, hz0, hz1, hz2⟩ := info_parts infoCr
  go_enter Tryz.func25, Tryz.ntmps25
  go_wp2_with (at_make; refine wpList_make_full _ rfl (.tmp 6) (.tmp 6) 33 rfl w.heap.size 92 i0 (.agg #[.string ⟨#[]⟩, .int .i64 0, .int .i64 0]) 3 Tryz.underlying33 hi hz0 hz1 .i64 .i64 _ _ ps.length rfl rfl rfl rfl (by rw [hz2]; omega) (by unfold maxLen; omega) (Nat.le_refl _) ?_; intro w1 hown hgrow)
  have hB : w.heap.size < w1.heap.size := (hown.lt w.heap.size rfl).2
  have HC0 : CopiedCr 92 w w1 w.heap.size ps 0 := ⟨⟨_, hown, fun j hj => by omega⟩, (Below.refl _ _).grown hgrow (Nat.le_refl _) (fun k hk => by cases hk), hB, Nat.le_refl _⟩
  clear hown hgrow hi hz0 hz1 hz2 hB
  go_loopw [4] (fun i wr => ∃ k : Nat, k ≤ ps.length ∧ i = .int .i64 k ∧ CopiedCr 92 w wr w.heap.size ps k) (fun i _ => ps.length - (intOf i).toNat)
  case atStart => exact ⟨0, Nat.zero_le _, rfl, HC0⟩
  case round =>
    obtain ⟨k, hk, rfl, hcp⟩ := hrel
    by_cases hlt : k < ps.length
    · obtain ⟨bb, off, rfl, hc⟩ := (unhide HO).at_ k hlt
      have c0 : w.cell? ⟨bb, off + k * 3, none⟩ = some (.string (elAt ps k).n) := hc 0 (by omega)
      have c0 := (hcp.bel.cell (block_lt_of_cell c0)).trans c0
      have c1 : w.cell? ⟨bb, off + k * 3 + 1, none⟩ = some (.int .i64 (elAt ps k).m) := hc 1 (by omega)
      have c1 := (hcp.bel.cell (block_lt_of_cell c1)).trans c1
      have c2 : w.cell? ⟨bb, off + k * 3 + 2, none⟩ = some (.int .i64 (elAt ps k).d) := hc 2 (by omega)
      have c2 := (hcp.bel.cell (block_lt_of_cell c2)).trans c2
      have HCP := hide hcp
      have hi1 : (k : Int) < (ps.length : Int) := by omega
      clear hc hcp HC0
      go_wp2_with fail
      refine (toCarry_any _ _ _ _).mono ?_
      rintro e w2 ⟨rfl, hb2⟩
      have hc2 := (unhide HCP).call hb2
      obtain ⟨⟨v0, hs0⟩, hf0⟩ := hc2.at_ (k * 3) (by omega)
      obtain ⟨⟨v1, hs1⟩, hf1⟩ := hc2.at_ (k * 3 + 1) (by omega)
      obtain ⟨⟨v2, hs2⟩, hf2⟩ := hc2.at_ (k * 3 + 2) (by omega)
      have HS := hide (hc2.step hlt)
      clear hb2 hc2
      go_wp2
      go_roundw
      case rel => exact ⟨k + 1, by omega, by go_num, unhide HS⟩
      case measure => simp [intOf]; omega
    · have hkk : k = ps.length := by omega
      subst hkk
      have HR := hide (show OwnE 3 crC _ w.heap.size 92 (.slice (some ⟨w.heap.size, 0, none⟩) ps.length ps.length) ps from ⟨hcp.own⟩)
      have HB := hide hcp.bel
      go_wp2
      go_ret
      exact ⟨rfl, unhide HR, unhide HB⟩
set_option maxHeartbeats 1000000 in
theorem eqCarryS_sm (ad bd : Option Addr) (len cap cap2 : Nat) (ps : List Cr) (w : World) (hr : RowE 3 crC w ad len ps) (hr2 : RowE 3 crC w bd len ps) :
    Calls Tryz.prog 34 #[.slice ad len cap, .slice bd len cap2] w fun e w' => e = .returned (.bool true) ∧ Below w.heap.size w w' := by
  have hs := hr.small
  have HO := hide hr
  have HO2 := hide hr2
  clear hr hr2
  have hb : ((len : Int) != (len : Int)) = false := by simp
  go_enter Tryz.func34, Tryz.ntmps34
  go_wp2
  go_loopw [5] (fun i wr => ∃ k : Nat, k ≤ len ∧ i = .int .i64 k ∧ Below w.heap.size w wr) (fun i _ => len - (intOf i).toNat)
  case atStart => exact ⟨0, Nat.zero_le _, rfl, Below.refl _ _⟩
  case round =>
    obtain ⟨k, hk, rfl, hbel⟩ := hrel
    by_cases hlt : k < len
    · obtain ⟨bb, off, rfl, hc⟩ := ((unhide HO).below hbel).at_ k hlt
      obtain ⟨bb2, off2, rfl, hc2⟩ := ((unhide HO2).below hbel).at_ k hlt
      obtain ⟨ι, f, _, hbf, hall⟩ := belClass wr
      have c0 : wr.cell? ⟨bb, off + k * 3, none⟩ = some (.string (elAt ps k).n) := hc 0 (by omega)
      have C0 : ∀ x, (f x).cell? ⟨bb, off + k * 3, none⟩ = some (.string (elAt ps k).n) := fun x => ((hbf x).cell (block_lt_of_cell c0)).trans c0
      have c1 : wr.cell? ⟨bb, off + k * 3 + 1, none⟩ = some (.int .i64 (elAt ps k).m) := hc 1 (by omega)
      have C1 : ∀ x, (f x).cell? ⟨bb, off + k * 3 + 1, none⟩ = some (.int .i64 (elAt ps k).m) := fun x => ((hbf x).cell (block_lt_of_cell c1)).trans c1
      have c2 : wr.cell? ⟨bb, off + k * 3 + 2, none⟩ = some (.int .i64 (elAt ps k).d) := hc 2 (by omega)
      have C2 : ∀ x, (f x).cell? ⟨bb, off + k * 3 + 2, none⟩ = some (.int .i64 (elAt ps k).d) := fun x => ((hbf x).cell (block_lt_of_cell c2)).trans c2
      have d0 : wr.cell? ⟨bb2, off2 + k * 3, none⟩ = some (.string (elAt ps k).n) := hc2 0 (by omega)
      have D0 : ∀ x, (f x).cell? ⟨bb2, off2 + k * 3, none⟩ = some (.string (elAt ps k).n) := fun x => ((hbf x).cell (block_lt_of_cell d0)).trans d0
      have d1 : wr.cell? ⟨bb2, off2 + k * 3 + 1, none⟩ = some (.int .i64 (elAt ps k).m) := hc2 1 (by omega)
      have D1 : ∀ x, (f x).cell? ⟨bb2, off2 + k * 3 + 1, none⟩ = some (.int .i64 (elAt ps k).m) := fun x => ((hbf x).cell (block_lt_of_cell d1)).trans d1
      have d2 : wr.cell? ⟨bb2, off2 + k * 3 + 2, none⟩ = some (.int .i64 (elAt ps k).d) := hc2 2 (by omega)
      have D2 : ∀ x, (f x).cell? ⟨bb2, off2 + k * 3 + 2, none⟩ = some (.int .i64 (elAt ps k).d) := fun x => ((hbf x).cell (block_lt_of_cell d2)).trans d2
      clear c0 d0 c1 d1 c2 d2
      have hi1 : (k : Int) < (len : Int) := by omega
      have HF := hide hbf
      have HA := hide hall
      have HB := hide hbel
      clear hc hc2 hbf hall hbel
      go_wp2_with fail
      refine wp_region_bel (unhide HA) (by kernel_rfl) (by kernel_rfl) ?_
      repeat (go_big_quiet_step (first | (go_at_call 63; exact belQ (unhide HF) (unhide HA) (eqCarry_same _ _ _ _))))
      refine wpQuiet_nil ?_
      rintro _ ⟨x3, rfl⟩
      have HB3 := hide ((unhide HB).trans ((unhide HF x3).mono (unhide HB).size))
      go_wp2_with fail
      go_roundw
      case rel => exact ⟨k + 1, by omega, by go_num, unhide HB3⟩
      case measure => simp [intOf]; omega
    · have HB := hide hbel
      have hi1 : ¬ (k : Int) < (len : Int) := by omega
      clear hbel
      go_wp2_with fail
      go_ret
      exact ⟨rfl, unhide HB⟩
theorem eqCarryS_same (ad bd : Option Addr) (len cap len2 cap2 : Nat) (ps : List Cr) (w : World) (hr : RowE 3 crC w ad len ps) (hr2 : RowE 3 crC w bd len2 ps) :
    Calls Tryz.prog 34 #[.slice ad len cap, .slice bd len2 cap2] w fun e w' => e = .returned (.bool true) ∧ Below w.heap.size w w' := by
  have e1 := hr.len_eq
  have e2 := hr2.len_eq
  subst e1
  subst e2
  exact eqCarryS_sm ad bd _ cap cap2 ps w hr hr2

end Go.Proofs.YticdccdkjepifaaGreat

namespace Go.Proofs.YticdccdkjepifaaGreat
open Go.RowKit

set_option maxHeartbeats 1000000 in
theorem szDefect_any (n : ByteArray) (i : Int) (s : Int) (left : Int) (w : World) (hp : n.size ≤ 9223372036854775807) (hl0 : 0 ≤ left) (hl1 : left ≤ 1048576) :
    Calls Tryz.prog 47 #[.agg #[.string n, .int .i64 i, .int .i64 s], .int .i64 left] w fun x w' => (∃ r : Int, x = .returned (.int .i64 r) ∧ (r < 0 ∨ (0 ≤ r ∧ r ≤ left ∧ n.size ≤ 1048576))) ∧ Below w.heap.size w w' := by
  by_cases q0 : (n.size : Int) ≤ left
  · have n0 : ¬ left - (n.size : Int) < 0 := by omega
    go_enter Tryz.func47, Tryz.ntmps47
    go_wp2_with fail
    go_ret
    exact ⟨⟨_, rfl, .inr ⟨by omega, by omega, by omega⟩⟩, bel1 _⟩
  · have n0 : left - (n.size : Int) < 0 := by omega
    go_enter Tryz.func47, Tryz.ntmps47
    go_wp2_with fail
    go_ret
    exact ⟨⟨-1, rfl, .inl (by omega)⟩, bel1 _⟩
set_option maxHeartbeats 1000000 in
theorem toDefect_any (n : ByteArray) (i : Int) (s : Int) (w : World) :
    Calls Tryz.prog 52 #[.agg #[.string n, .int .i64 i, .int .i64 s]] w fun e w' => e = .returned (.agg #[.string n, .int .i64 i, .int .i64 s]) ∧ Below w.heap.size w w' := by
  go_enter Tryz.func52, Tryz.ntmps52
  go_wp2
  refine bodyPost_ret (v := .agg #[.string n, .int .i64 i, .int .i64 s]) (by simp [results, Tryz.results52, go_sem]) rfl ⟨rfl, ?_⟩
  repeat (first | exact bel3 _ _ _ | refine Below.setCell ?_ (by simp; try omega) _)

set_option maxHeartbeats 1000000 in
theorem eqDefect_same (n : ByteArray) (i : Int) (s : Int) (w : World) :
    Calls Tryz.prog 64 #[.agg #[.string n, .int .i64 i, .int .i64 s], .agg #[.string n, .int .i64 i, .int .i64 s]] w fun e w' => e = .returned (.bool true) ∧ Below w.heap.size w w' := by
  go_enter Tryz.func64, Tryz.ntmps64
  go_wp2_with fail
  go_ret
  exact ⟨rfl, bel2 _ _⟩

set_option maxHeartbeats 1000000 in
theorem szDefectS_any (ad : Option Addr) (len cap : Nat) (ps : List Df) (left : Int) (w : World) (hr : RowE 3 dfC w ad len ps) (hfit : ∀ i, fitT (elAt ps i).n) (h0 : 0 ≤ left) (h1 : left ≤ 1048576) :
    Calls Tryz.prog 20 #[.slice ad len cap, .int .i64 left] w fun x w' => (∃ r : Int, x = .returned (.int .i64 r) ∧ (r < 0 ∨ (0 ≤ r ∧ r ≤ left ∧ len ≤ 1048576))) ∧ Below w.heap.size w w' := by
  have hs := hr.small
  have HR := hide hr
  have HFIT := hide hfit
  clear hr hfit
  by_cases hbig : left < (len : Int)
  · go_enter Tryz.func20, Tryz.ntmps20
    go_wp2
    go_ret
    exact ⟨⟨-1, rfl, by omega⟩, Below.refl _ _⟩
  have hle : (len : Int) ≤ left := by omega
  have hl20 : (len : Int) ≤ 1048576 := by omega
  go_enter Tryz.func20, Tryz.ntmps20
  go_wp2_with fail
  go_loopw [1, 5] (fun lv iv wr => ∃ (k : Nat) (q : Int), k ≤ len ∧ iv = .int .i64 k ∧ lv = .int .i64 q ∧ (0 ≤ q ∧ q ≤ left) ∧ Below w.heap.size w wr) (fun _ i _ => len - (intOf i).toNat)
  case atStart => exact ⟨0, left - len, Nat.zero_le _, rfl, rfl, by omega, Below.refl _ _⟩
  case round =>
    obtain ⟨k, q, hk, rfl, rfl, hq, hbel⟩ := hrel
    by_cases hlt : k < len
    · obtain ⟨bb, off, rfl, hc⟩ := (unhide HR).at_ k hlt
      have c0 : w.cell? ⟨bb, off + k * 3, none⟩ = some (.string (elAt ps k).n) := hc 0 (by omega)
      have c0 := (hbel.cell (block_lt_of_cell c0)).trans c0
      have c1 : w.cell? ⟨bb, off + k * 3 + 1, none⟩ = some (.int .i64 (elAt ps k).i) := hc 1 (by omega)
      have c1 := (hbel.cell (block_lt_of_cell c1)).trans c1
      have c2 : w.cell? ⟨bb, off + k * 3 + 2, none⟩ = some (.int .i64 (elAt ps k).s) := hc 2 (by omega)
      have c2 := (hbel.cell (block_lt_of_cell c2)).trans c2
      have hn : (elAt ps k).n.size ≤ 9223372036854775807 := unhide HFIT k
      have hi1 : (k : Int) < (len : Int) := by omega
      have HB := hide hbel
      clear hc hbel
      go_wp2_with fail
      refine (szDefect_any _ _ _ q _ hn hq.1 (by omega)).mono ?_
      rintro x w1 ⟨⟨r, rfl, hr⟩, b1⟩
      have HB1 := hide ((unhide HB).trans (b1.mono (unhide HB).size))
      clear b1 c0 c1 c2
      rcases hr with hr | hr
      · go_wp2_with fail
        go_ret
        exact ⟨⟨-1, rfl, by omega⟩, unhide HB1⟩
      · have hr0 : ¬ r < 0 := by omega
        go_wp2_with fail
        go_roundw
        case rel => exact ⟨k + 1, r, by omega, by go_num, rfl, by omega, unhide HB1⟩
        case measure => simp [intOf]; omega
    · have HB := hide hbel
      have hi1 : ¬ (k : Int) < (len : Int) := by omega
      clear hbel
      go_wp2_with fail
      go_ret
      exact ⟨⟨q, rfl, by omega⟩, unhide HB⟩

/-- After k rounds of the copying; the new row lies in block B. -/
structure CopiedDf (T : TypeId) (w wr : World) (B : Nat) (ps : List Df) (k : Nat) : Prop where
  own : ∃ xs : List Value, wr.ownsRow B T 3 (.slice (some ⟨B, 0, none⟩) ps.length ps.length) ps.length xs ∧ ∀ j, j < k → ∀ q, q < 3 → xs[j * 3 + q]? = some (dfC (elAt ps j) q)
  bel : Below w.heap.size w wr
  here : B < wr.heap.size
  old : w.heap.size ≤ B
theorem CopiedDf.at_ {T : TypeId} {w wr : World} {B : Nat} {ps : List Df} {k : Nat} (h : CopiedDf T w wr B ps k) (i : Nat) (hi : i < ps.length * 3) : (∃ v, wr.cell? ⟨B, i, none⟩ = some v) ∧ wr.frozen? ⟨B, i, none⟩ = false := by
  obtain ⟨xs, ho, _⟩ := h.own
  refine ⟨?_, ho.frozenAt i⟩
  rw [ho.cellAt i hi]
  have := ho.1
  exact ⟨xs[i]'(by omega), List.getElem?_eq_getElem (by omega)⟩
theorem CopiedDf.call {T : TypeId} {w wr w' : World} {B : Nat} {ps : List Df} {k : Nat} (h : CopiedDf T w wr B ps k) (b : Below wr.heap.size wr w') : CopiedDf T w w' B ps k := by
  obtain ⟨xs, ho, hx⟩ := h.own
  exact ⟨⟨xs, ownsRow_below ho b, hx⟩, h.bel.trans (b.mono h.bel.size), Nat.lt_of_lt_of_le h.here b.size, h.old⟩
theorem CopiedDf.step {T : TypeId} {w wr : World} {B : Nat} {ps : List Df} {k : Nat} (h : CopiedDf T w wr B ps k) (hk : k < ps.length) :
    CopiedDf T w (((wr.setCell ⟨B, k * 3, none⟩ (.string (elAt ps k).n)).setCell ⟨B, k * 3 + 1, none⟩ (.int .i64 (elAt ps k).i)).setCell ⟨B, k * 3 + 2, none⟩ (.int .i64 (elAt ps k).s)) B ps (k + 1) := by
  obtain ⟨xs, ho, hx⟩ := h.own
  have hl := ho.1
  have o0 := (ho.stored (k * 3) (.string (elAt ps k).n)).1
  have o1 := (o0.stored (k * 3 + 1) (.int .i64 (elAt ps k).i)).1
  have o2 := (o1.stored (k * 3 + 2) (.int .i64 (elAt ps k).s)).1
  refine ⟨⟨_, o2, fun j hj q hq => ?_⟩, (((h.bel.setCell h.old _).setCell h.old _).setCell h.old _), by have := h.here; simpa [World.setCell] using this, h.old⟩
  by_cases e : j = k
  · subst e
    have hq' : q = 0 ∨ q = 1 ∨ q = 2 := by omega
    rcases hq' with rfl | rfl | rfl
    · rw [List.getElem?_set_ne (by omega), List.getElem?_set_ne (by omega)]; exact List.getElem?_set_self (by first | omega | (simp; omega))
    · rw [List.getElem?_set_ne (by omega)]; exact List.getElem?_set_self (by first | omega | (simp; omega))
    · exact List.getElem?_set_self (by first | omega | (simp; omega))
  · rw [List.getElem?_set_ne (by omega), List.getElem?_set_ne (by omega), List.getElem?_set_ne (by omega)]
    exact hx j (by omega) q hq

theorem infoDf : (Tryz.prog.info? 94).map (fun i => (i.zero, i.size, i.bytes)) = some (some (.agg #[.string ⟨#[]⟩, .int .i64 0, .int .i64 0]), 3, 32) := by kernel_rfl
set_option maxHeartbeats 1000000 in
theorem toDefectS_own (ad : Option Addr) (len cap : Nat) (ps : List Df) (w : World) (hr : RowE 3 dfC w ad len ps) (hlen : len ≤ 1048576) :
    Calls Tryz.prog 26 #[.slice ad len cap] w fun e w' => e = .returned (.slice (some ⟨w.heap.size, 0, none⟩) len len) ∧ OwnE 3 dfC w' w.heap.size 94 (.slice (some ⟨w.heap.size, 0, none⟩) len len) ps ∧ Below w.heap.size w w' := by
  have hz := hr.len_eq
  have HO := hide hr
  clear hr
  subst hz
  obtain ⟨i0, hi, hz0, hz1, hz2⟩ := info_parts infoDf
  go_enter Tryz.func26, Tryz.ntmps26
  go_wp2_with (at_make; refine wpList_make_full _ rfl (.tmp 6) (.tmp 6) 34 rfl w.heap.size 94 i0 (.agg #[.string ⟨#[]⟩, .int .i64 0, .int .i64 0]) 3 Tryz.underlying34 hi hz0 hz1 .i64 .i64 _ _ ps.length rfl rfl rfl rfl (by rw [hz2]; omega) (by unfold maxLen; omega) (Nat.le_refl _) ?_; intro w1 hown hgrow)
  have hB : w.heap.size < w1.heap.size := (hown.lt w.heap.size rfl).2
  have HC0 : CopiedDf 94 w w1 w.heap.size ps 0 := ⟨⟨_, hown, fun j hj => by omega⟩, (Below.refl _ _).grown hgrow (Nat.le_refl _) (fun k hk => by cases hk), hB, Nat.le_refl _⟩
  clear hown hgrow hi hz0 hz1 hz2 hB
  go_loopw [4] (fun i wr => ∃ k : Nat, k ≤ ps.length ∧ i = .int .i64 k ∧ CopiedDf 94 w wr w.heap.size ps k) (fun i _ => ps.length - (intOf i).toNat)
  case atStart => exact ⟨0, Nat.zero_le _, rfl, HC0⟩
  case round =>
    obtain ⟨k, hk, rfl, hcp⟩ := hrel
    by_cases hlt : k < ps.length
    · obtain ⟨bb, off, rfl, hc⟩ := (unhide HO).at_ k hlt
      have c0 : w.cell? ⟨bb, off + k * 3, none⟩ = some (.string (elAt ps k).n) := hc 0 (by omega)
      have c0 := (hcp.bel.cell (block_lt_of_cell c0)).trans c0
      have c1 : w.cell? ⟨bb, off + k * 3 + 1, none⟩ = some (.int .i64 (elAt ps k).i) := hc 1 (by omega)
      have c1 := (hcp.bel.cell (block_lt_of_cell c1)).trans c1
      have c2 : w.cell? ⟨bb, off + k * 3 + 2, none⟩ = some (.int .i64 (elAt ps k).s) := hc 2 (by omega)
      have c2 := (hcp.bel.cell (block_lt_of_cell c2)).trans c2
      have HCP := hide hcp
      have hi1 : (k : Int) < (ps.length : Int) := by omega
      clear hc hcp HC0
      go_wp2_with fail
      refine (toDefect_any _ _ _ _).mono ?_
      rintro e w2 ⟨rfl, hb2⟩
      have hc2 := (unhide HCP).call hb2
      obtain ⟨⟨v0, hs0⟩, hf0⟩ := hc2.at_ (k * 3) (by omega)
      obtain ⟨⟨v1, hs1⟩, hf1⟩ := hc2.at_ (k * 3 + 1) (by omega)
      obtain ⟨⟨v2, hs2⟩, hf2⟩ := hc2.at_ (k * 3 + 2) (by omega)
      have HS := hide (hc2.step hlt)
      clear hb2 hc2
      go_wp2
      go_roundw
      case rel => exact ⟨k + 1, by omega, by go_num, unhide HS⟩
      case measure => simp [intOf]; omega
    · have hkk : k = ps.length := by omega
      subst hkk
      have HR := hide (show OwnE 3 dfC _ w.heap.size 94 (.slice (some ⟨w.heap.size, 0, none⟩) ps.length ps.length) ps from ⟨hcp.own⟩)
      have HB := hide hcp.bel
      go_wp2
      go_ret
      exact ⟨rfl, unhide HR, unhide HB⟩
set_option maxHeartbeats 1000000 in
theorem eqDefectS_sm (ad bd : Option Addr) (len cap cap2 : Nat) (ps : List Df) (w : World) (hr : RowE 3 dfC w ad len ps) (hr2 : RowE 3 dfC w bd len ps) :
    Calls Tryz.prog 35 #[.slice ad len cap, .slice bd len cap2] w fun e w' => e = .returned (.bool true) ∧ Below w.heap.size w w' := by
  have hs := hr.small
  have HO := hide hr
  have HO2 := hide hr2
  clear hr hr2
  have hb : ((len : Int) != (len : Int)) = false := by simp
  go_enter Tryz.func35, Tryz.ntmps35
  go_wp2
  go_loopw [5] (fun i wr => ∃ k : Nat, k ≤ len ∧ i = .int .i64 k ∧ Below w.heap.size w wr) (fun i _ => len - (intOf i).toNat)
  case atStart => exact ⟨0, Nat.zero_le _, rfl, Below.refl _ _⟩
  case round =>
    obtain ⟨k, hk, rfl, hbel⟩ := hrel
    by_cases hlt : k < len
    · obtain ⟨bb, off, rfl, hc⟩ := ((unhide HO).below hbel).at_ k hlt
      obtain ⟨bb2, off2, rfl, hc2⟩ := ((unhide HO2).below hbel).at_ k hlt
      obtain ⟨ι, f, _, hbf, hall⟩ := belClass wr
      have c0 : wr.cell? ⟨bb, off + k * 3, none⟩ = some (.string (elAt ps k).n) := hc 0 (by omega)
      have C0 : ∀ x, (f x).cell? ⟨bb, off + k * 3, none⟩ = some (.string (elAt ps k).n) := fun x => ((hbf x).cell (block_lt_of_cell c0)).trans c0
      have c1 : wr.cell? ⟨bb, off + k * 3 + 1, none⟩ = some (.int .i64 (elAt ps k).i) := hc 1 (by omega)
      have C1 : ∀ x, (f x).cell? ⟨bb, off + k * 3 + 1, none⟩ = some (.int .i64 (elAt ps k).i) := fun x => ((hbf x).cell (block_lt_of_cell c1)).trans c1
      have c2 : wr.cell? ⟨bb, off + k * 3 + 2, none⟩ = some (.int .i64 (elAt ps k).s) := hc 2 (by omega)
      have C2 : ∀ x, (f x).cell? ⟨bb, off + k * 3 + 2, none⟩ = some (.int .i64 (elAt ps k).s) := fun x => ((hbf x).cell (block_lt_of_cell c2)).trans c2
      have d0 : wr.cell? ⟨bb2, off2 + k * 3, none⟩ = some (.string (elAt ps k).n) := hc2 0 (by omega)
      have D0 : ∀ x, (f x).cell? ⟨bb2, off2 + k * 3, none⟩ = some (.string (elAt ps k).n) := fun x => ((hbf x).cell (block_lt_of_cell d0)).trans d0
      have d1 : wr.cell? ⟨bb2, off2 + k * 3 + 1, none⟩ = some (.int .i64 (elAt ps k).i) := hc2 1 (by omega)
      have D1 : ∀ x, (f x).cell? ⟨bb2, off2 + k * 3 + 1, none⟩ = some (.int .i64 (elAt ps k).i) := fun x => ((hbf x).cell (block_lt_of_cell d1)).trans d1
      have d2 : wr.cell? ⟨bb2, off2 + k * 3 + 2, none⟩ = some (.int .i64 (elAt ps k).s) := hc2 2 (by omega)
      have D2 : ∀ x, (f x).cell? ⟨bb2, off2 + k * 3 + 2, none⟩ = some (.int .i64 (elAt ps k).s) := fun x => ((hbf x).cell (block_lt_of_cell d2)).trans d2
      clear c0 d0 c1 d1 c2 d2
      have hi1 : (k : Int) < (len : Int) := by omega
      have HF := hide hbf
      have HA := hide hall
      have HB := hide hbel
      clear hc hc2 hbf hall hbel
      go_wp2_with fail
      refine wp_region_bel (unhide HA) (by kernel_rfl) (by kernel_rfl) ?_
      repeat (go_big_quiet_step (first | (go_at_call 64; exact belQ (unhide HF) (unhide HA) (eqDefect_same _ _ _ _))))
      refine wpQuiet_nil ?_
      rintro _ ⟨x3, rfl⟩
      have HB3 := hide ((unhide HB).trans ((unhide HF x3).mono (unhide HB).size))
      go_wp2_with fail
      go_roundw
      case rel => exact ⟨k + 1, by omega, by go_num, unhide HB3⟩
      case measure => simp [intOf]; omega
    · have HB := hide hbel
      have hi1 : ¬ (k : Int) < (len : Int) := by omega
      clear hbel
      go_wp2_with fail
      go_ret
      exact ⟨rfl, unhide HB⟩
theorem eqDefectS_same (ad bd : Option Addr) (len cap len2 cap2 : Nat) (ps : List Df) (w : World) (hr : RowE 3 dfC w ad len ps) (hr2 : RowE 3 dfC w bd len2 ps) :
    Calls Tryz.prog 35 #[.slice ad len cap, .slice bd len2 cap2] w fun e w' => e = .returned (.bool true) ∧ Below w.heap.size w w' := by
  have e1 := hr.len_eq
  have e2 := hr2.len_eq
  subst e1
  subst e2
  exact eqDefectS_sm ad bd _ cap cap2 ps w hr hr2

end Go.Proofs.YticdccdkjepifaaGreat

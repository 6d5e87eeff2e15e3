/-
  The law's size, copy and comparison of a list of Legs. The copy at lists of at most 1048576; nothing that was there is written.
-/
import Derived.Test.YtglefolkecimabdToLg
import Derived.Deep.DrawnRows
import Derived.Deep.RegionHeld3
namespace Go.Proofs.Ytglefolkecimabd
open Go.RowKit
attribute [local go_sem ↓] Go.wp_at_zero Go.wp_at_succ

set_option maxHeartbeats 400000 in
theorem szLegS_no (ad : Option Addr) (len cap : Nat) (left : Int) (w : World) (h0 : 0 ≤ left) (h1 : left ≤ 1048576) (hl : len ≤ 9223372036854775807) (h : left < len) :
    Calls Try.prog 47 #[.slice ad len cap, .int .i64 left] w fun e w' => e = .returned (.int .i64 (-1)) ∧ w' = w := by
  go_enter Try.func47, Try.ntmps47
  go_wp2
  go_ret
  exact ⟨rfl, rfl⟩

set_option maxHeartbeats 400000 in
theorem szLegS_yes (ad : Option Addr) (len cap : Nat) (left : Int) (w : World) (h1 : left ≤ 1048576) (h : (len : Int) ≤ left) :
    Calls Try.prog 47 #[.slice ad len cap, .int .i64 left] w fun e w' => e = .returned (.int .i64 (left - len)) ∧ w' = w := by
  go_enter Try.func47, Try.ntmps47
  go_wp2
  go_ret
  exact ⟨rfl, rfl⟩

theorem infoLg : (Try.prog.info? 91).map (fun i => (i.zero, i.size, i.bytes)) = some (some (.agg #[.int .i64 0, .int .i64 0, .int .i64 0, .int .i64 0]), 4, 32) := by kernel_rfl

/-- After k rounds of the copying; the new row lies in block B. -/
structure CopiedLg (w wr : World) (B : Nat) (ps : List Lg) (k : Nat) : Prop where
  own : ∃ xs : List Value, wr.ownsRow B 91 4 (.slice (some ⟨B, 0, none⟩) ps.length ps.length) ps.length xs ∧ ∀ j, j < k → ∀ q, q < 4 → xs[j * 4 + q]? = some (lgC (elAt ps j) q)
  bel : Below w.heap.size w wr
  here : B < wr.heap.size
  old : w.heap.size ≤ B

theorem CopiedLg.at_ {w wr : World} {B : Nat} {ps : List Lg} {k : Nat} (h : CopiedLg w wr B ps k) (i : Nat) (hi : i < ps.length * 4) : (∃ v, wr.cell? ⟨B, i, none⟩ = some v) ∧ wr.frozen? ⟨B, i, none⟩ = false := by
  obtain ⟨xs, ho, _⟩ := h.own
  refine ⟨?_, ho.frozenAt i⟩
  rw [ho.cellAt i hi]
  have := ho.1
  exact ⟨xs[i]'(by omega), List.getElem?_eq_getElem (by omega)⟩

theorem CopiedLg.call {w wr w' : World} {B : Nat} {ps : List Lg} {k : Nat} (h : CopiedLg w wr B ps k) (b : Below wr.heap.size wr w') : CopiedLg w w' B ps k := by
  obtain ⟨xs, ho, hx⟩ := h.own
  exact ⟨⟨xs, ownsRow_below ho b, hx⟩, h.bel.trans (b.mono h.bel.size), Nat.lt_of_lt_of_le h.here b.size, h.old⟩

theorem CopiedLg.step {w wr : World} {B : Nat} {ps : List Lg} {k : Nat} (h : CopiedLg w wr B ps k) (hk : k < ps.length) :
    CopiedLg w ((((wr.setCell ⟨B, k * 4, none⟩ (.int .i64 (elAt ps k).a0)).setCell ⟨B, k * 4 + 1, none⟩ (.int .i64 (elAt ps k).a1)).setCell ⟨B, k * 4 + 2, none⟩ (.int .i64 (elAt ps k).a2)).setCell ⟨B, k * 4 + 3, none⟩ (.int .i64 (elAt ps k).a3)) B ps (k + 1) := by
  obtain ⟨xs, ho, hx⟩ := h.own
  have hl := ho.1
  have o0 := (ho.stored (k * 4) (.int .i64 (elAt ps k).a0)).1
  have o1 := (o0.stored (k * 4 + 1) (.int .i64 (elAt ps k).a1)).1
  have o2 := (o1.stored (k * 4 + 2) (.int .i64 (elAt ps k).a2)).1
  have o3 := (o2.stored (k * 4 + 3) (.int .i64 (elAt ps k).a3)).1
  refine ⟨⟨_, o3, fun j hj q hq => ?_⟩, ((((h.bel.setCell h.old _).setCell h.old _).setCell h.old _).setCell h.old _), by have := h.here; simpa [World.setCell] using this, h.old⟩
  by_cases e : j = k
  · subst e
    have hq' : q = 0 ∨ q = 1 ∨ q = 2 ∨ q = 3 := by omega
    rcases hq' with rfl | rfl | rfl | rfl
    · rw [List.getElem?_set_ne (by omega), List.getElem?_set_ne (by omega), List.getElem?_set_ne (by omega)]; exact List.getElem?_set_self (by first | omega | (simp; omega))
    · rw [List.getElem?_set_ne (by omega), List.getElem?_set_ne (by omega)]; exact List.getElem?_set_self (by first | omega | (simp; omega))
    · rw [List.getElem?_set_ne (by omega)]; exact List.getElem?_set_self (by first | omega | (simp; omega))
    · exact List.getElem?_set_self (by first | omega | (simp; omega))
  · rw [List.getElem?_set_ne (by omega), List.getElem?_set_ne (by omega), List.getElem?_set_ne (by omega), List.getElem?_set_ne (by omega)]
    exact hx j (by omega) q hq

set_option maxHeartbeats 1000000 in
theorem toLegS_own (ad : Option Addr) (len cap : Nat) (ps : List Lg) (w : World) (hr : RowE 4 lgC w ad len ps) (hlen : len ≤ 1048576) :
    Calls Try.prog 54 #[.slice ad len cap] w fun e w' => e = .returned (.slice (some ⟨w.heap.size, 0, none⟩) len len) ∧ OwnE 4 lgC w' w.heap.size 91 (.slice (some ⟨w.heap.size, 0, none⟩) len len) ps ∧ Below w.heap.size w w' := by
  have hz := hr.len_eq
  have HO := hide hr.open_
  clear hr
  subst hz
  obtain ⟨i0, hi, hz0, hz1, hz2⟩ := info_parts infoLg
  go_enter Try.func54, Try.ntmps54
  go_wp2_with (at_make; refine wpList_make_full _ rfl (.tmp 6) (.tmp 6) 60 rfl w.heap.size 91 i0 (.agg #[.int .i64 0, .int .i64 0, .int .i64 0, .int .i64 0]) 4 Try.underlying60 hi hz0 hz1 .i64 .i64 _ _ ps.length rfl rfl rfl rfl (by rw [hz2]; omega) (by unfold maxLen; omega) (Nat.le_refl _) ?_; intro w1 hown hgrow)
  have hB : w.heap.size < w1.heap.size := (hown.lt w.heap.size rfl).2
  have HC0 : CopiedLg w w1 w.heap.size ps 0 := ⟨⟨_, hown, fun j hj => by omega⟩, (Below.refl _ _).grown hgrow (Nat.le_refl _) (fun k hk => by cases hk), hB, Nat.le_refl _⟩
  clear hown hgrow hi hz0 hz1 hz2 hB
  go_loopw [4] (fun i wr => ∃ k : Nat, k ≤ ps.length ∧ i = .int .i64 k ∧ CopiedLg w wr w.heap.size ps k) (fun i _ => ps.length - (intOf i).toNat)
  case atStart => exact ⟨0, Nat.zero_le _, rfl, HC0⟩
  case round =>
    obtain ⟨k, hk, rfl, hcp⟩ := hrel
    by_cases hlt : k < ps.length
    · rcases (unhide HO) with ⟨h0, _⟩ | ⟨bb, off, rfl, _, hc⟩
      · simp [h0] at hlt
      have c0 : w.cell? ⟨bb, off + k * 4, none⟩ = some (.int .i64 (elAt ps k).a0) := hc k hlt 0 (by omega)
      have c0 := (hcp.bel.cell (block_lt_of_cell c0)).trans c0
      have c1 : w.cell? ⟨bb, off + k * 4 + 1, none⟩ = some (.int .i64 (elAt ps k).a1) := hc k hlt 1 (by omega)
      have c1 := (hcp.bel.cell (block_lt_of_cell c1)).trans c1
      have c2 : w.cell? ⟨bb, off + k * 4 + 2, none⟩ = some (.int .i64 (elAt ps k).a2) := hc k hlt 2 (by omega)
      have c2 := (hcp.bel.cell (block_lt_of_cell c2)).trans c2
      have c3 : w.cell? ⟨bb, off + k * 4 + 3, none⟩ = some (.int .i64 (elAt ps k).a3) := hc k hlt 3 (by omega)
      have c3 := (hcp.bel.cell (block_lt_of_cell c3)).trans c3
      have HCP := hide hcp
      have hi1 : (k : Int) < (ps.length : Int) := by omega
      clear hc hcp HC0
      go_wp2_with fail
      refine (toLeg_any _ _ _ _ _).mono ?_
      rintro e w2 ⟨rfl, hb2⟩
      have hc2 := (unhide HCP).call hb2
      obtain ⟨⟨v0, hs0⟩, hf0⟩ := hc2.at_ (k * 4) (by omega)
      obtain ⟨⟨v1, hs1⟩, hf1⟩ := hc2.at_ (k * 4 + 1) (by omega)
      obtain ⟨⟨v2, hs2⟩, hf2⟩ := hc2.at_ (k * 4 + 2) (by omega)
      obtain ⟨⟨v3, hs3⟩, hf3⟩ := hc2.at_ (k * 4 + 3) (by omega)
      have HS := hide (hc2.step hlt)
      clear hb2 hc2
      go_wp2
      go_roundw
      case rel => exact ⟨k + 1, by omega, by go_num, unhide HS⟩
      case measure => simp [intOf]; omega
    · have hkk : k = ps.length := by omega
      subst hkk
      have HR := hide (show OwnE 4 lgC _ w.heap.size 91 (.slice (some ⟨w.heap.size, 0, none⟩) ps.length ps.length) ps from ⟨hcp.own⟩)
      have HB := hide hcp.bel
      go_wp2
      go_ret
      exact ⟨rfl, unhide HR, unhide HB⟩

set_option maxHeartbeats 1000000 in
theorem eqLegS_alike (ad bd : Option Addr) (len cap len2 cap2 : Nat) (ps qs : List Lg) (w : World) (hr : RowE 4 lgC w ad len ps) (hr2 : RowE 4 lgC w bd len2 qs) (hl : ps.length = qs.length) (hal : ∀ i, i < ps.length → lgAlike (elAt ps i) (elAt qs i)) :
    Calls Try.prog 62 #[.slice ad len cap, .slice bd len2 cap2] w fun e w' => e = .returned (.bool true) ∧ Below w.heap.size w w' := by
  have hz := hr.len_eq
  have hs := hr.small
  have HO := hide hr.open_
  have hz2 := hr2.len_eq
  have HO2 := hide hr2.open_
  clear hr hr2
  subst hz
  rw [← hl] at hz2
  subst hz2
  have HAL := hide hal
  clear hal hl
  have hb : ((ps.length : Int) != (ps.length : Int)) = false := by simp
  go_enter Try.func62, Try.ntmps62
  go_wp2
  go_loopw [5] (fun i wr => ∃ k : Nat, k ≤ ps.length ∧ i = .int .i64 k ∧ Below w.heap.size w wr) (fun i _ => ps.length - (intOf i).toNat)
  case atStart => exact ⟨0, Nat.zero_le _, rfl, Below.refl _ _⟩
  case round =>
    obtain ⟨k, hk, rfl, hbel⟩ := hrel
    have HB := hide hbel
    clear hbel
    by_cases hlt : k < ps.length
    · rcases (unhide HO) with ⟨h0, _⟩ | ⟨bb, off, rfl, _, hc⟩
      · simp [h0] at hlt
      rcases (unhide HO2) with ⟨h0, _⟩ | ⟨bb2, off2, rfl, _, hc2⟩
      · simp [h0] at hlt
      have c0 : w.cell? ⟨bb, off + k * 4, none⟩ = some (.int .i64 (elAt ps k).a0) := hc k hlt 0 (by omega)
      have c0 := ((unhide HB).cell (block_lt_of_cell c0)).trans c0
      have d0 : w.cell? ⟨bb2, off2 + k * 4, none⟩ = some (.int .i64 (elAt qs k).a0) := hc2 k hlt 0 (by omega)
      have d0 := ((unhide HB).cell (block_lt_of_cell d0)).trans d0
      have c1 : w.cell? ⟨bb, off + k * 4 + 1, none⟩ = some (.int .i64 (elAt ps k).a1) := hc k hlt 1 (by omega)
      have c1 := ((unhide HB).cell (block_lt_of_cell c1)).trans c1
      have d1 : w.cell? ⟨bb2, off2 + k * 4 + 1, none⟩ = some (.int .i64 (elAt qs k).a1) := hc2 k hlt 1 (by omega)
      have d1 := ((unhide HB).cell (block_lt_of_cell d1)).trans d1
      have c2 : w.cell? ⟨bb, off + k * 4 + 2, none⟩ = some (.int .i64 (elAt ps k).a2) := hc k hlt 2 (by omega)
      have c2 := ((unhide HB).cell (block_lt_of_cell c2)).trans c2
      have d2 : w.cell? ⟨bb2, off2 + k * 4 + 2, none⟩ = some (.int .i64 (elAt qs k).a2) := hc2 k hlt 2 (by omega)
      have d2 := ((unhide HB).cell (block_lt_of_cell d2)).trans d2
      have c3 : w.cell? ⟨bb, off + k * 4 + 3, none⟩ = some (.int .i64 (elAt ps k).a3) := hc k hlt 3 (by omega)
      have c3 := ((unhide HB).cell (block_lt_of_cell c3)).trans c3
      have d3 : w.cell? ⟨bb2, off2 + k * 4 + 3, none⟩ = some (.int .i64 (elAt qs k).a3) := hc2 k hlt 3 (by omega)
      have d3 := ((unhide HB).cell (block_lt_of_cell d3)).trans d3
      have lc := block_lt_of_cell c0
      have ld := block_lt_of_cell d0
      have hi1 : (0 : Int) ≤ (k : Int) := by omega
      have hi2 : (k : Int) < (ps.length : Int) := by omega
      clear hc hc2
      go_wp2
      go_region_held3 (fun w' => w'.cell? ⟨bb, off + k * 4, none⟩ = some (.int .i64 (elAt ps k).a0) ∧ w'.cell? ⟨bb, off + k * 4 + 1, none⟩ = some (.int .i64 (elAt ps k).a1) ∧ w'.cell? ⟨bb, off + k * 4 + 2, none⟩ = some (.int .i64 (elAt ps k).a2) ∧ w'.cell? ⟨bb, off + k * 4 + 3, none⟩ = some (.int .i64 (elAt ps k).a3) ∧ w'.cell? ⟨bb2, off2 + k * 4, none⟩ = some (.int .i64 (elAt qs k).a0) ∧ w'.cell? ⟨bb2, off2 + k * 4 + 1, none⟩ = some (.int .i64 (elAt qs k).a1) ∧ w'.cell? ⟨bb2, off2 + k * 4 + 2, none⟩ = some (.int .i64 (elAt qs k).a2) ∧ w'.cell? ⟨bb2, off2 + k * 4 + 3, none⟩ = some (.int .i64 (elAt qs k).a3)) (go_keep)
        ((go_at_call 97; refine (eqLeg_alike _ _ _ _ _ _ _ _ _ (unhide HAL k hlt)).mono ?_; rintro e w3 ⟨rfl, b3⟩; have c0 := (b3.cell (p := ⟨bb, off + k * 4, none⟩) lc).trans c0; have c1 := (b3.cell (p := ⟨bb, off + k * 4 + 1, none⟩) lc).trans c1; have c2 := (b3.cell (p := ⟨bb, off + k * 4 + 2, none⟩) lc).trans c2; have c3 := (b3.cell (p := ⟨bb, off + k * 4 + 3, none⟩) lc).trans c3; have d0 := (b3.cell (p := ⟨bb2, off2 + k * 4, none⟩) ld).trans d0; have d1 := (b3.cell (p := ⟨bb2, off2 + k * 4 + 1, none⟩) ld).trans d1; have d2 := (b3.cell (p := ⟨bb2, off2 + k * 4 + 2, none⟩) ld).trans d2; have d3 := (b3.cell (p := ⟨bb2, off2 + k * 4 + 3, none⟩) ld).trans d3))
      have HB3 := hide ((unhide HB).trans (((bel0d' 1).trans (b3.mono (Nat.le_refl _))).mono (by have := (unhide HB).size; simp; omega)))
      clear b3
      go_wp2
      go_roundw
      case rel => exact ⟨k + 1, by omega, by go_num, unhide HB3⟩
      case measure => simp [intOf]; omega
    · go_wp2
      go_ret
      exact ⟨rfl, unhide HB⟩

theorem eqLegS_same (ad bd : Option Addr) (len cap len2 cap2 : Nat) (ps : List Lg) (w : World) (hr : RowE 4 lgC w ad len ps) (hr2 : RowE 4 lgC w bd len2 ps) :
    Calls Try.prog 62 #[.slice ad len cap, .slice bd len2 cap2] w fun e w' => e = .returned (.bool true) ∧ Below w.heap.size w w' :=
  eqLegS_alike ad bd len cap len2 cap2 ps ps w hr hr2 rfl (fun _ _ => lgAlike_refl _)
theorem szLegS_any (ad : Option Addr) (len cap : Nat) (left : Int) (w : World) (hl : len ≤ 9223372036854775807) (h0 : 0 ≤ left) (h1 : left ≤ 1048576) :
    Calls Try.prog 47 #[.slice ad len cap, .int .i64 left] w fun e w' => (∃ r : Int, e = .returned (.int .i64 r) ∧ (r < 0 ∨ (0 ≤ r ∧ r ≤ 1048576 ∧ len ≤ 1048576))) ∧ Below w.heap.size w w' := by
  by_cases h : left < len
  · exact (szLegS_no ad len cap left w h0 h1 hl h).mono fun _ _ ⟨a, b⟩ => ⟨⟨-1, a, .inl (by omega)⟩, by rw [b]; exact Below.refl _ _⟩
  · exact (szLegS_yes ad len cap left w h1 (by omega)).mono fun _ _ ⟨a, b⟩ => ⟨⟨_, a, .inr ⟨by omega, by omega, by omega⟩⟩, by rw [b]; exact Below.refl _ _⟩

end Go.Proofs.Ytglefolkecimabd

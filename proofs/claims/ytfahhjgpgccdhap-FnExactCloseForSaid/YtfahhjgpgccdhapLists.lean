/-
  The law's copy and comparison of a Source: of one value it says so. No condition.
  The law's size, copy and comparison of a list of Sources. The copy at lists of at most 1048576; nothing that was there is written.
  The law's copy and comparison of a Tie: of one value it says so. No condition.
  The law's size, copy and comparison of a list of Ties. The copy at lists of at most 1048576; nothing that was there is written.
  The law's copy and comparison of a Use: of one value it says so. No condition.
  The law's size, copy and comparison of a list of Uses. The copy at lists of at most 1048576; nothing that was there is written.
  The law's mark of a bool: whether the number is a third one. No program here.
  The law's marks in a list of Sources that a call has made: every number gets the next number, and nothing else is written; the marks are found again.
  The law's marks in a list of Ties that a call has made: every number gets the next number, and nothing else is written; the marks are found again.
  The law's marks in a list of Uses that a call has made: every number gets the next number, and nothing else is written; the marks are found again.
  The law's size, copy, comparison and marks of a net. The copy at lists of at most 1048576; nothing that was there is written, the marks only into the net's own lists.
-/
import Derived.Test.YtfahhjgpgccdhapChecked
import Derived.Test.YtfahhjgpgccdhapBase
import Derived.Test.YtfahhjgpgccdhapRowE
import Derived.Deep.DrawnRows
import Derived.Deep.RegionHeld3
import Derived.Test.YtfahhjgpgccdhapBlk

namespace Go.Proofs.Ytfahhjgpgccdhap
open Go.RowKit

/-- What a Source holds. -/
structure Sr where
  a0 : Int
  a1 : Int
  a2 : Bool
instance : Inhabited Sr := ⟨⟨0, 0, false⟩⟩
/-- Its cells. -/
def srC (m : Sr) : Nat → Value
  | 0 => .int .i64 m.a0
  | 1 => .int .i64 m.a1
  | _ => .bool m.a2
def srAlike (m n : Sr) : Prop := m.a0 = n.a0 ∧ m.a1 = n.a1 ∧ m.a2 = n.a2
theorem srAlike_refl (m : Sr) : srAlike m m := ⟨rfl, rfl, rfl⟩
theorem srAlike.symm {m n : Sr} (h : srAlike m n) : srAlike n m := ⟨h.1.symm, h.2.1.symm, h.2.2.symm⟩
theorem srAlike.trans {m n l : Sr} (h : srAlike m n) (g : srAlike n l) : srAlike m l := ⟨h.1.trans g.1, h.2.1.trans g.2.1, h.2.2.trans g.2.2⟩

set_option maxHeartbeats 1000000 in
theorem toSource_any (a0 : Int) (a1 : Int) (a2 : Bool) (w : World) :
    Calls Try.prog 58 #[.agg #[.int .i64 a0, .int .i64 a1, .bool a2]] w fun e w' => e = .returned (.agg #[.int .i64 a0, .int .i64 a1, .bool a2]) ∧ Below w.heap.size w w' := by
  go_enter Try.func58, Try.ntmps58
  go_wp2
  refine bodyPost_ret (v := .agg #[.int .i64 a0, .int .i64 a1, .bool a2]) (by simp [results, Try.results58, go_sem]) rfl ⟨rfl, ?_⟩
  repeat (first | exact bel3 _ _ _ | refine Below.setCell ?_ (by simp; try omega) _)

set_option maxHeartbeats 1000000 in
theorem eqSource_alike (a0 : Int) (a1 : Int) (a2 : Bool) (b0 : Int) (b1 : Int) (b2 : Bool) (w : World) (h : srAlike ⟨a0, a1, a2⟩ ⟨b0, b1, b2⟩) :
    Calls Try.prog 63 #[.agg #[.int .i64 a0, .int .i64 a1, .bool a2], .agg #[.int .i64 b0, .int .i64 b1, .bool b2]] w fun e w' => e = .returned (.bool true) ∧ Below w.heap.size w w' := by
  obtain ⟨h0, h1, h2⟩ := h
  have h0 : a0 = b0 := h0
  subst h0
  have h1 : a1 = b1 := h1
  subst h1
  have h2 : a2 = b2 := h2
  subst h2
  go_enter Try.func63, Try.ntmps63
  go_wp2_with fail
  go_ret
  exact ⟨rfl, by simpa using bel2 _ _⟩

end Go.Proofs.Ytfahhjgpgccdhap

namespace Go.Proofs.Ytfahhjgpgccdhap
open Go.RowKit
attribute [local go_sem ↓] Go.wp_at_zero Go.wp_at_succ

set_option maxHeartbeats 400000 in
theorem szSourceS_no (ad : Option Addr) (len cap : Nat) (left : Int) (w : World) (h0 : 0 ≤ left) (h1 : left ≤ 1048576) (hl : len ≤ 9223372036854775807) (h : left < len) :
    Calls Try.prog 29 #[.slice ad len cap, .int .i64 left] w fun e w' => e = .returned (.int .i64 (-1)) ∧ w' = w := by
  go_enter Try.func29, Try.ntmps29
  go_wp2
  go_ret
  exact ⟨rfl, rfl⟩

set_option maxHeartbeats 400000 in
theorem szSourceS_yes (ad : Option Addr) (len cap : Nat) (left : Int) (w : World) (h1 : left ≤ 1048576) (h : (len : Int) ≤ left) :
    Calls Try.prog 29 #[.slice ad len cap, .int .i64 left] w fun e w' => e = .returned (.int .i64 (left - len)) ∧ w' = w := by
  go_enter Try.func29, Try.ntmps29
  go_wp2
  go_ret
  exact ⟨rfl, rfl⟩

theorem infoSr : (Try.prog.info? 66).map (fun i => (i.zero, i.size, i.bytes)) = some (some (.agg #[.int .i64 0, .int .i64 0, .bool false]), 3, 24) := by kernel_rfl

/-- After k rounds of the copying; the new row lies in block B. -/
structure CopiedSr (w wr : World) (B : Nat) (ps : List Sr) (k : Nat) : Prop where
  own : ∃ xs : List Value, wr.ownsRow B 66 3 (.slice (some ⟨B, 0, none⟩) ps.length ps.length) ps.length xs ∧ ∀ j, j < k → ∀ q, q < 3 → xs[j * 3 + q]? = some (srC (elAt ps j) q)
  bel : Below w.heap.size w wr
  here : B < wr.heap.size
  old : w.heap.size ≤ B

theorem CopiedSr.at_ {w wr : World} {B : Nat} {ps : List Sr} {k : Nat} (h : CopiedSr w wr B ps k) (i : Nat) (hi : i < ps.length * 3) : (∃ v, wr.cell? ⟨B, i, none⟩ = some v) ∧ wr.frozen? ⟨B, i, none⟩ = false := by
  obtain ⟨xs, ho, _⟩ := h.own
  refine ⟨?_, ho.frozenAt i⟩
  rw [ho.cellAt i hi]
  have := ho.1
  exact ⟨xs[i]'(by omega), List.getElem?_eq_getElem (by omega)⟩

theorem CopiedSr.call {w wr w' : World} {B : Nat} {ps : List Sr} {k : Nat} (h : CopiedSr w wr B ps k) (b : Below wr.heap.size wr w') : CopiedSr w w' B ps k := by
  obtain ⟨xs, ho, hx⟩ := h.own
  exact ⟨⟨xs, ownsRow_below ho b, hx⟩, h.bel.trans (b.mono h.bel.size), Nat.lt_of_lt_of_le h.here b.size, h.old⟩

theorem CopiedSr.step {w wr : World} {B : Nat} {ps : List Sr} {k : Nat} (h : CopiedSr w wr B ps k) (hk : k < ps.length) :
    CopiedSr w (((wr.setCell ⟨B, k * 3, none⟩ (.int .i64 (elAt ps k).a0)).setCell ⟨B, k * 3 + 1, none⟩ (.int .i64 (elAt ps k).a1)).setCell ⟨B, k * 3 + 2, none⟩ (.bool (elAt ps k).a2)) B ps (k + 1) := by
  obtain ⟨xs, ho, hx⟩ := h.own
  have hl := ho.1
  have o0 := (ho.stored (k * 3) (.int .i64 (elAt ps k).a0)).1
  have o1 := (o0.stored (k * 3 + 1) (.int .i64 (elAt ps k).a1)).1
  have o2 := (o1.stored (k * 3 + 2) (.bool (elAt ps k).a2)).1
  refine ⟨⟨_, o2, fun j hj q hq => ?_⟩, (((h.bel.setCell h.old _).setCell h.old _).setCell h.old _), by have := h.here; simpa [World.setCell] using this, h.old⟩
  by_cases e : j = k
  · subst e
    have hq' : q = 0 ∨ q = 1 ∨ q = 2 := by omega
    rcases hq' with rfl | rfl | rfl
    · rw [List.getElem?_set_ne (by omega), List.getElem?_set_ne (by omega)]; exact List.getElem?_set_self (by first | omega | (simp; omega))
    · rw [List.getElem?_set_ne (by omega)]; exact List.getElem?_set_self (by first | omega | (simp; omega))
    · exact List.getElem?_set_self (by first | omega | (simp; omega))
  · rw [List.getElem?_set_ne (by omega), List.getElem?_set_ne (by omega), List.getElem?_set_ne (by omega)]
    exact hx j (by omega) q hq

set_option maxHeartbeats 1000000 in
theorem toSourceS_own (ad : Option Addr) (len cap : Nat) (ps : List Sr) (w : World) (hr : RowE 3 srC w ad len ps) (hlen : len ≤ 1048576) :
    Calls Try.prog 33 #[.slice ad len cap] w fun e w' => e = .returned (.slice (some ⟨w.heap.size, 0, none⟩) len len) ∧ OwnE 3 srC w' w.heap.size 66 (.slice (some ⟨w.heap.size, 0, none⟩) len len) ps ∧ Below w.heap.size w w' := by
  have hz := hr.len_eq
  have HO := hide hr.open_
  clear hr
  subst hz
  obtain ⟨i0, hi, hz0, hz1, hz2⟩ := info_parts infoSr
  go_enter Try.func33, Try.ntmps33
  go_wp2_with (at_make; refine wpList_make_full _ rfl (.tmp 6) (.tmp 6) 29 rfl w.heap.size 66 i0 (.agg #[.int .i64 0, .int .i64 0, .bool false]) 3 Try.underlying29 hi hz0 hz1 .i64 .i64 _ _ ps.length rfl rfl rfl rfl (by rw [hz2]; omega) (by unfold maxLen; omega) (Nat.le_refl _) ?_; intro w1 hown hgrow)
  have hB : w.heap.size < w1.heap.size := (hown.lt w.heap.size rfl).2
  have HC0 : CopiedSr w w1 w.heap.size ps 0 := ⟨⟨_, hown, fun j hj => by omega⟩, (Below.refl _ _).grown hgrow (Nat.le_refl _) (fun k hk => by cases hk), hB, Nat.le_refl _⟩
  clear hown hgrow hi hz0 hz1 hz2 hB
  go_loopw [4] (fun i wr => ∃ k : Nat, k ≤ ps.length ∧ i = .int .i64 k ∧ CopiedSr w wr w.heap.size ps k) (fun i _ => ps.length - (intOf i).toNat)
  case atStart => exact ⟨0, Nat.zero_le _, rfl, HC0⟩
  case round =>
    obtain ⟨k, hk, rfl, hcp⟩ := hrel
    by_cases hlt : k < ps.length
    · rcases (unhide HO) with ⟨h0, _⟩ | ⟨bb, off, rfl, _, hc⟩
      · simp [h0] at hlt
      have c0 : w.cell? ⟨bb, off + k * 3, none⟩ = some (.int .i64 (elAt ps k).a0) := hc k hlt 0 (by omega)
      have c0 := (hcp.bel.cell (block_lt_of_cell c0)).trans c0
      have c1 : w.cell? ⟨bb, off + k * 3 + 1, none⟩ = some (.int .i64 (elAt ps k).a1) := hc k hlt 1 (by omega)
      have c1 := (hcp.bel.cell (block_lt_of_cell c1)).trans c1
      have c2 : w.cell? ⟨bb, off + k * 3 + 2, none⟩ = some (.bool (elAt ps k).a2) := hc k hlt 2 (by omega)
      have c2 := (hcp.bel.cell (block_lt_of_cell c2)).trans c2
      have HCP := hide hcp
      have hi1 : (k : Int) < (ps.length : Int) := by omega
      clear hc hcp HC0
      go_wp2_with fail
      refine (toSource_any _ _ _ _).mono ?_
      rintro e w2 ⟨rfl, hb2⟩
      have hc2 := (unhide HCP).call hb2
      obtain ⟨⟨v0, hs0⟩, hf0⟩ := hc2.at_ (k * 3) (by omega)
      obtain ⟨⟨v1, hs1⟩, hf1⟩ := hc2.at_ (k * 3 + 1) (by omega)
      obtain ⟨⟨v2, hs2⟩, hf2⟩ := hc2.at_ (k * 3 + 2) (by omega)
      have HS := hide (hc2.step hlt)
      clear hb2 hc2
      go_wp2
      go_roundw
      case rel => exact ⟨k + 1, by omega, by go_num, unhide HS⟩
      case measure => simp [intOf]; omega
    · have hkk : k = ps.length := by omega
      subst hkk
      have HR := hide (show OwnE 3 srC _ w.heap.size 66 (.slice (some ⟨w.heap.size, 0, none⟩) ps.length ps.length) ps from ⟨hcp.own⟩)
      have HB := hide hcp.bel
      go_wp2
      go_ret
      exact ⟨rfl, unhide HR, unhide HB⟩

set_option maxHeartbeats 1000000 in
theorem eqSourceS_alike (ad bd : Option Addr) (len cap len2 cap2 : Nat) (ps qs : List Sr) (w : World) (hr : RowE 3 srC w ad len ps) (hr2 : RowE 3 srC w bd len2 qs) (hl : ps.length = qs.length) (hal : ∀ i, i < ps.length → srAlike (elAt ps i) (elAt qs i)) :
    Calls Try.prog 40 #[.slice ad len cap, .slice bd len2 cap2] w fun e w' => e = .returned (.bool true) ∧ Below w.heap.size w w' := by
  have hz := hr.len_eq
  have hs := hr.small
  have HO := hide hr.open_
  have hz2 := hr2.len_eq
  have HO2 := hide hr2.open_
  clear hr hr2
  subst hz
  rw [← hl] at hz2
  subst hz2
  have HAL := hide hal
  clear hal hl
  have hb : ((ps.length : Int) != (ps.length : Int)) = false := by simp
  go_enter Try.func40, Try.ntmps40
  go_wp2
  go_loopw [5] (fun i wr => ∃ k : Nat, k ≤ ps.length ∧ i = .int .i64 k ∧ Below w.heap.size w wr) (fun i _ => ps.length - (intOf i).toNat)
  case atStart => exact ⟨0, Nat.zero_le _, rfl, Below.refl _ _⟩
  case round =>
    obtain ⟨k, hk, rfl, hbel⟩ := hrel
    have HB := hide hbel
    clear hbel
    by_cases hlt : k < ps.length
    · rcases (unhide HO) with ⟨h0, _⟩ | ⟨bb, off, rfl, _, hc⟩
      · simp [h0] at hlt
      rcases (unhide HO2) with ⟨h0, _⟩ | ⟨bb2, off2, rfl, _, hc2⟩
      · simp [h0] at hlt
      have c0 : w.cell? ⟨bb, off + k * 3, none⟩ = some (.int .i64 (elAt ps k).a0) := hc k hlt 0 (by omega)
      have c0 := ((unhide HB).cell (block_lt_of_cell c0)).trans c0
      have d0 : w.cell? ⟨bb2, off2 + k * 3, none⟩ = some (.int .i64 (elAt qs k).a0) := hc2 k hlt 0 (by omega)
      have d0 := ((unhide HB).cell (block_lt_of_cell d0)).trans d0
      have c1 : w.cell? ⟨bb, off + k * 3 + 1, none⟩ = some (.int .i64 (elAt ps k).a1) := hc k hlt 1 (by omega)
      have c1 := ((unhide HB).cell (block_lt_of_cell c1)).trans c1
      have d1 : w.cell? ⟨bb2, off2 + k * 3 + 1, none⟩ = some (.int .i64 (elAt qs k).a1) := hc2 k hlt 1 (by omega)
      have d1 := ((unhide HB).cell (block_lt_of_cell d1)).trans d1
      have c2 : w.cell? ⟨bb, off + k * 3 + 2, none⟩ = some (.bool (elAt ps k).a2) := hc k hlt 2 (by omega)
      have c2 := ((unhide HB).cell (block_lt_of_cell c2)).trans c2
      have d2 : w.cell? ⟨bb2, off2 + k * 3 + 2, none⟩ = some (.bool (elAt qs k).a2) := hc2 k hlt 2 (by omega)
      have d2 := ((unhide HB).cell (block_lt_of_cell d2)).trans d2
      have lc := block_lt_of_cell c0
      have ld := block_lt_of_cell d0
      have hi1 : (0 : Int) ≤ (k : Int) := by omega
      have hi2 : (k : Int) < (ps.length : Int) := by omega
      clear hc hc2
      go_wp2
      go_region_held3 (fun w' => w'.cell? ⟨bb, off + k * 3, none⟩ = some (.int .i64 (elAt ps k).a0) ∧ w'.cell? ⟨bb, off + k * 3 + 1, none⟩ = some (.int .i64 (elAt ps k).a1) ∧ w'.cell? ⟨bb, off + k * 3 + 2, none⟩ = some (.bool (elAt ps k).a2) ∧ w'.cell? ⟨bb2, off2 + k * 3, none⟩ = some (.int .i64 (elAt qs k).a0) ∧ w'.cell? ⟨bb2, off2 + k * 3 + 1, none⟩ = some (.int .i64 (elAt qs k).a1) ∧ w'.cell? ⟨bb2, off2 + k * 3 + 2, none⟩ = some (.bool (elAt qs k).a2)) (go_keep)
        ((go_at_call 63; refine (eqSource_alike _ _ _ _ _ _ _ (unhide HAL k hlt)).mono ?_; rintro e w3 ⟨rfl, b3⟩; have c0 := (b3.cell (p := ⟨bb, off + k * 3, none⟩) lc).trans c0; have c1 := (b3.cell (p := ⟨bb, off + k * 3 + 1, none⟩) lc).trans c1; have c2 := (b3.cell (p := ⟨bb, off + k * 3 + 2, none⟩) lc).trans c2; have d0 := (b3.cell (p := ⟨bb2, off2 + k * 3, none⟩) ld).trans d0; have d1 := (b3.cell (p := ⟨bb2, off2 + k * 3 + 1, none⟩) ld).trans d1; have d2 := (b3.cell (p := ⟨bb2, off2 + k * 3 + 2, none⟩) ld).trans d2))
      have HB3 := hide ((unhide HB).trans (((bel0d' 1).trans (b3.mono (Nat.le_refl _))).mono (by have := (unhide HB).size; simp; omega)))
      clear b3
      go_wp2
      go_roundw
      case rel => exact ⟨k + 1, by omega, by go_num, unhide HB3⟩
      case measure => simp [intOf]; omega
    · go_wp2
      go_ret
      exact ⟨rfl, unhide HB⟩

end Go.Proofs.Ytfahhjgpgccdhap

namespace Go.Proofs.Ytfahhjgpgccdhap
open Go.RowKit

/-- What a Tie holds. -/
structure Ti where
  a0 : Int
  a1 : Int
  a2 : Bool
instance : Inhabited Ti := ⟨⟨0, 0, false⟩⟩
/-- Its cells. -/
def tiC (m : Ti) : Nat → Value
  | 0 => .int .i64 m.a0
  | 1 => .int .i64 m.a1
  | _ => .bool m.a2
def tiAlike (m n : Ti) : Prop := m.a0 = n.a0 ∧ m.a1 = n.a1 ∧ m.a2 = n.a2
theorem tiAlike_refl (m : Ti) : tiAlike m m := ⟨rfl, rfl, rfl⟩
theorem tiAlike.symm {m n : Ti} (h : tiAlike m n) : tiAlike n m := ⟨h.1.symm, h.2.1.symm, h.2.2.symm⟩
theorem tiAlike.trans {m n l : Ti} (h : tiAlike m n) (g : tiAlike n l) : tiAlike m l := ⟨h.1.trans g.1, h.2.1.trans g.2.1, h.2.2.trans g.2.2⟩

set_option maxHeartbeats 1000000 in
theorem toTie_any (a0 : Int) (a1 : Int) (a2 : Bool) (w : World) :
    Calls Try.prog 59 #[.agg #[.int .i64 a0, .int .i64 a1, .bool a2]] w fun e w' => e = .returned (.agg #[.int .i64 a0, .int .i64 a1, .bool a2]) ∧ Below w.heap.size w w' := by
  go_enter Try.func59, Try.ntmps59
  go_wp2
  refine bodyPost_ret (v := .agg #[.int .i64 a0, .int .i64 a1, .bool a2]) (by simp [results, Try.results59, go_sem]) rfl ⟨rfl, ?_⟩
  repeat (first | exact bel3 _ _ _ | refine Below.setCell ?_ (by simp; try omega) _)

set_option maxHeartbeats 1000000 in
theorem eqTie_alike (a0 : Int) (a1 : Int) (a2 : Bool) (b0 : Int) (b1 : Int) (b2 : Bool) (w : World) (h : tiAlike ⟨a0, a1, a2⟩ ⟨b0, b1, b2⟩) :
    Calls Try.prog 64 #[.agg #[.int .i64 a0, .int .i64 a1, .bool a2], .agg #[.int .i64 b0, .int .i64 b1, .bool b2]] w fun e w' => e = .returned (.bool true) ∧ Below w.heap.size w w' := by
  obtain ⟨h0, h1, h2⟩ := h
  have h0 : a0 = b0 := h0
  subst h0
  have h1 : a1 = b1 := h1
  subst h1
  have h2 : a2 = b2 := h2
  subst h2
  go_enter Try.func64, Try.ntmps64
  go_wp2_with fail
  go_ret
  exact ⟨rfl, by simpa using bel2 _ _⟩

end Go.Proofs.Ytfahhjgpgccdhap

namespace Go.Proofs.Ytfahhjgpgccdhap
open Go.RowKit
attribute [local go_sem ↓] Go.wp_at_zero Go.wp_at_succ

set_option maxHeartbeats 400000 in
theorem szTieS_no (ad : Option Addr) (len cap : Nat) (left : Int) (w : World) (h0 : 0 ≤ left) (h1 : left ≤ 1048576) (hl : len ≤ 9223372036854775807) (h : left < len) :
    Calls Try.prog 30 #[.slice ad len cap, .int .i64 left] w fun e w' => e = .returned (.int .i64 (-1)) ∧ w' = w := by
  go_enter Try.func30, Try.ntmps30
  go_wp2
  go_ret
  exact ⟨rfl, rfl⟩

set_option maxHeartbeats 400000 in
theorem szTieS_yes (ad : Option Addr) (len cap : Nat) (left : Int) (w : World) (h1 : left ≤ 1048576) (h : (len : Int) ≤ left) :
    Calls Try.prog 30 #[.slice ad len cap, .int .i64 left] w fun e w' => e = .returned (.int .i64 (left - len)) ∧ w' = w := by
  go_enter Try.func30, Try.ntmps30
  go_wp2
  go_ret
  exact ⟨rfl, rfl⟩

theorem infoTi : (Try.prog.info? 68).map (fun i => (i.zero, i.size, i.bytes)) = some (some (.agg #[.int .i64 0, .int .i64 0, .bool false]), 3, 24) := by kernel_rfl

/-- After k rounds of the copying; the new row lies in block B. -/
structure CopiedTi (w wr : World) (B : Nat) (ps : List Ti) (k : Nat) : Prop where
  own : ∃ xs : List Value, wr.ownsRow B 68 3 (.slice (some ⟨B, 0, none⟩) ps.length ps.length) ps.length xs ∧ ∀ j, j < k → ∀ q, q < 3 → xs[j * 3 + q]? = some (tiC (elAt ps j) q)
  bel : Below w.heap.size w wr
  here : B < wr.heap.size
  old : w.heap.size ≤ B

theorem CopiedTi.at_ {w wr : World} {B : Nat} {ps : List Ti} {k : Nat} (h : CopiedTi w wr B ps k) (i : Nat) (hi : i < ps.length * 3) : (∃ v, wr.cell? ⟨B, i, none⟩ = some v) ∧ wr.frozen? ⟨B, i, none⟩ = false := by
  obtain ⟨xs, ho, _⟩ := h.own
  refine ⟨?_, ho.frozenAt i⟩
  rw [ho.cellAt i hi]
  have := ho.1
  exact ⟨xs[i]'(by omega), List.getElem?_eq_getElem (by omega)⟩

theorem CopiedTi.call {w wr w' : World} {B : Nat} {ps : List Ti} {k : Nat} (h : CopiedTi w wr B ps k) (b : Below wr.heap.size wr w') : CopiedTi w w' B ps k := by
  obtain ⟨xs, ho, hx⟩ := h.own
  exact ⟨⟨xs, ownsRow_below ho b, hx⟩, h.bel.trans (b.mono h.bel.size), Nat.lt_of_lt_of_le h.here b.size, h.old⟩

theorem CopiedTi.step {w wr : World} {B : Nat} {ps : List Ti} {k : Nat} (h : CopiedTi w wr B ps k) (hk : k < ps.length) :
    CopiedTi w (((wr.setCell ⟨B, k * 3, none⟩ (.int .i64 (elAt ps k).a0)).setCell ⟨B, k * 3 + 1, none⟩ (.int .i64 (elAt ps k).a1)).setCell ⟨B, k * 3 + 2, none⟩ (.bool (elAt ps k).a2)) B ps (k + 1) := by
  obtain ⟨xs, ho, hx⟩ := h.own
  have hl := ho.1
  have o0 := (ho.stored (k * 3) (.int .i64 (elAt ps k).a0)).1
  have o1 := (o0.stored (k * 3 + 1) (.int .i64 (elAt ps k).a1)).1
  have o2 := (o1.stored (k * 3 + 2) (.bool (elAt ps k).a2)).1
  refine ⟨⟨_, o2, fun j hj q hq => ?_⟩, (((h.bel.setCell h.old _).setCell h.old _).setCell h.old _), by have := h.here; simpa [World.setCell] using this, h.old⟩
  by_cases e : j = k
  · subst e
    have hq' : q = 0 ∨ q = 1 ∨ q = 2 := by omega
    rcases hq' with rfl | rfl | rfl
    · rw [List.getElem?_set_ne (by omega), List.getElem?_set_ne (by omega)]; exact List.getElem?_set_self (by first | omega | (simp; omega))
    · rw [List.getElem?_set_ne (by omega)]; exact List.getElem?_set_self (by first | omega | (simp; omega))
    · exact List.getElem?_set_self (by first | omega | (simp; omega))
  · rw [List.getElem?_set_ne (by omega), List.getElem?_set_ne (by omega), List.getElem?_set_ne (by omega)]
    exact hx j (by omega) q hq

set_option maxHeartbeats 1000000 in
theorem toTieS_own (ad : Option Addr) (len cap : Nat) (ps : List Ti) (w : World) (hr : RowE 3 tiC w ad len ps) (hlen : len ≤ 1048576) :
    Calls Try.prog 34 #[.slice ad len cap] w fun e w' => e = .returned (.slice (some ⟨w.heap.size, 0, none⟩) len len) ∧ OwnE 3 tiC w' w.heap.size 68 (.slice (some ⟨w.heap.size, 0, none⟩) len len) ps ∧ Below w.heap.size w w' := by
  have hz := hr.len_eq
  have HO := hide hr.open_
  clear hr
  subst hz
  obtain ⟨i0, hi, hz0, hz1, hz2⟩ := info_parts infoTi
  go_enter Try.func34, Try.ntmps34
  go_wp2_with (at_make; refine wpList_make_full _ rfl (.tmp 6) (.tmp 6) 30 rfl w.heap.size 68 i0 (.agg #[.int .i64 0, .int .i64 0, .bool false]) 3 Try.underlying30 hi hz0 hz1 .i64 .i64 _ _ ps.length rfl rfl rfl rfl (by rw [hz2]; omega) (by unfold maxLen; omega) (Nat.le_refl _) ?_; intro w1 hown hgrow)
  have hB : w.heap.size < w1.heap.size := (hown.lt w.heap.size rfl).2
  have HC0 : CopiedTi w w1 w.heap.size ps 0 := ⟨⟨_, hown, fun j hj => by omega⟩, (Below.refl _ _).grown hgrow (Nat.le_refl _) (fun k hk => by cases hk), hB, Nat.le_refl _⟩
  clear hown hgrow hi hz0 hz1 hz2 hB
  go_loopw [4] (fun i wr => ∃ k : Nat, k ≤ ps.length ∧ i = .int .i64 k ∧ CopiedTi w wr w.heap.size ps k) (fun i _ => ps.length - (intOf i).toNat)
  case atStart => exact ⟨0, Nat.zero_le _, rfl, HC0⟩
  case round =>
    obtain ⟨k, hk, rfl, hcp⟩ := hrel
    by_cases hlt : k < ps.length
    · rcases (unhide HO) with ⟨h0, _⟩ | ⟨bb, off, rfl, _, hc⟩
      · simp [h0] at hlt
      have c0 : w.cell? ⟨bb, off + k * 3, none⟩ = some (.int .i64 (elAt ps k).a0) := hc k hlt 0 (by omega)
      have c0 := (hcp.bel.cell (block_lt_of_cell c0)).trans c0
      have c1 : w.cell? ⟨bb, off + k * 3 + 1, none⟩ = some (.int .i64 (elAt ps k).a1) := hc k hlt 1 (by omega)
      have c1 := (hcp.bel.cell (block_lt_of_cell c1)).trans c1
      have c2 : w.cell? ⟨bb, off + k * 3 + 2, none⟩ = some (.bool (elAt ps k).a2) := hc k hlt 2 (by omega)
      have c2 := (hcp.bel.cell (block_lt_of_cell c2)).trans c2
      have HCP := hide hcp
      have hi1 : (k : Int) < (ps.length : Int) := by omega
      clear hc hcp HC0
      go_wp2_with fail
      refine (toTie_any _ _ _ _).mono ?_
      rintro e w2 ⟨rfl, hb2⟩
      have hc2 := (unhide HCP).call hb2
      obtain ⟨⟨v0, hs0⟩, hf0⟩ := hc2.at_ (k * 3) (by omega)
      obtain ⟨⟨v1, hs1⟩, hf1⟩ := hc2.at_ (k * 3 + 1) (by omega)
      obtain ⟨⟨v2, hs2⟩, hf2⟩ := hc2.at_ (k * 3 + 2) (by omega)
      have HS := hide (hc2.step hlt)
      clear hb2 hc2
      go_wp2
      go_roundw
      case rel => exact ⟨k + 1, by omega, by go_num, unhide HS⟩
      case measure => simp [intOf]; omega
    · have hkk : k = ps.length := by omega
      subst hkk
      have HR := hide (show OwnE 3 tiC _ w.heap.size 68 (.slice (some ⟨w.heap.size, 0, none⟩) ps.length ps.length) ps from ⟨hcp.own⟩)
      have HB := hide hcp.bel
      go_wp2
      go_ret
      exact ⟨rfl, unhide HR, unhide HB⟩

set_option maxHeartbeats 1000000 in
theorem eqTieS_alike (ad bd : Option Addr) (len cap len2 cap2 : Nat) (ps qs : List Ti) (w : World) (hr : RowE 3 tiC w ad len ps) (hr2 : RowE 3 tiC w bd len2 qs) (hl : ps.length = qs.length) (hal : ∀ i, i < ps.length → tiAlike (elAt ps i) (elAt qs i)) :
    Calls Try.prog 41 #[.slice ad len cap, .slice bd len2 cap2] w fun e w' => e = .returned (.bool true) ∧ Below w.heap.size w w' := by
  have hz := hr.len_eq
  have hs := hr.small
  have HO := hide hr.open_
  have hz2 := hr2.len_eq
  have HO2 := hide hr2.open_
  clear hr hr2
  subst hz
  rw [← hl] at hz2
  subst hz2
  have HAL := hide hal
  clear hal hl
  have hb : ((ps.length : Int) != (ps.length : Int)) = false := by simp
  go_enter Try.func41, Try.ntmps41
  go_wp2
  go_loopw [5] (fun i wr => ∃ k : Nat, k ≤ ps.length ∧ i = .int .i64 k ∧ Below w.heap.size w wr) (fun i _ => ps.length - (intOf i).toNat)
  case atStart => exact ⟨0, Nat.zero_le _, rfl, Below.refl _ _⟩
  case round =>
    obtain ⟨k, hk, rfl, hbel⟩ := hrel
    have HB := hide hbel
    clear hbel
    by_cases hlt : k < ps.length
    · rcases (unhide HO) with ⟨h0, _⟩ | ⟨bb, off, rfl, _, hc⟩
      · simp [h0] at hlt
      rcases (unhide HO2) with ⟨h0, _⟩ | ⟨bb2, off2, rfl, _, hc2⟩
      · simp [h0] at hlt
      have c0 : w.cell? ⟨bb, off + k * 3, none⟩ = some (.int .i64 (elAt ps k).a0) := hc k hlt 0 (by omega)
      have c0 := ((unhide HB).cell (block_lt_of_cell c0)).trans c0
      have d0 : w.cell? ⟨bb2, off2 + k * 3, none⟩ = some (.int .i64 (elAt qs k).a0) := hc2 k hlt 0 (by omega)
      have d0 := ((unhide HB).cell (block_lt_of_cell d0)).trans d0
      have c1 : w.cell? ⟨bb, off + k * 3 + 1, none⟩ = some (.int .i64 (elAt ps k).a1) := hc k hlt 1 (by omega)
      have c1 := ((unhide HB).cell (block_lt_of_cell c1)).trans c1
      have d1 : w.cell? ⟨bb2, off2 + k * 3 + 1, none⟩ = some (.int .i64 (elAt qs k).a1) := hc2 k hlt 1 (by omega)
      have d1 := ((unhide HB).cell (block_lt_of_cell d1)).trans d1
      have c2 : w.cell? ⟨bb, off + k * 3 + 2, none⟩ = some (.bool (elAt ps k).a2) := hc k hlt 2 (by omega)
      have c2 := ((unhide HB).cell (block_lt_of_cell c2)).trans c2
      have d2 : w.cell? ⟨bb2, off2 + k * 3 + 2, none⟩ = some (.bool (elAt qs k).a2) := hc2 k hlt 2 (by omega)
      have d2 := ((unhide HB).cell (block_lt_of_cell d2)).trans d2
      have lc := block_lt_of_cell c0
      have ld := block_lt_of_cell d0
      have hi1 : (0 : Int) ≤ (k : Int) := by omega
      have hi2 : (k : Int) < (ps.length : Int) := by omega
      clear hc hc2
      go_wp2
      go_region_held3 (fun w' => w'.cell? ⟨bb, off + k * 3, none⟩ = some (.int .i64 (elAt ps k).a0) ∧ w'.cell? ⟨bb, off + k * 3 + 1, none⟩ = some (.int .i64 (elAt ps k).a1) ∧ w'.cell? ⟨bb, off + k * 3 + 2, none⟩ = some (.bool (elAt ps k).a2) ∧ w'.cell? ⟨bb2, off2 + k * 3, none⟩ = some (.int .i64 (elAt qs k).a0) ∧ w'.cell? ⟨bb2, off2 + k * 3 + 1, none⟩ = some (.int .i64 (elAt qs k).a1) ∧ w'.cell? ⟨bb2, off2 + k * 3 + 2, none⟩ = some (.bool (elAt qs k).a2)) (go_keep)
        ((go_at_call 64; refine (eqTie_alike _ _ _ _ _ _ _ (unhide HAL k hlt)).mono ?_; rintro e w3 ⟨rfl, b3⟩; have c0 := (b3.cell (p := ⟨bb, off + k * 3, none⟩) lc).trans c0; have c1 := (b3.cell (p := ⟨bb, off + k * 3 + 1, none⟩) lc).trans c1; have c2 := (b3.cell (p := ⟨bb, off + k * 3 + 2, none⟩) lc).trans c2; have d0 := (b3.cell (p := ⟨bb2, off2 + k * 3, none⟩) ld).trans d0; have d1 := (b3.cell (p := ⟨bb2, off2 + k * 3 + 1, none⟩) ld).trans d1; have d2 := (b3.cell (p := ⟨bb2, off2 + k * 3 + 2, none⟩) ld).trans d2))
      have HB3 := hide ((unhide HB).trans (((bel0d' 1).trans (b3.mono (Nat.le_refl _))).mono (by have := (unhide HB).size; simp; omega)))
      clear b3
      go_wp2
      go_roundw
      case rel => exact ⟨k + 1, by omega, by go_num, unhide HB3⟩
      case measure => simp [intOf]; omega
    · go_wp2
      go_ret
      exact ⟨rfl, unhide HB⟩

end Go.Proofs.Ytfahhjgpgccdhap

namespace Go.Proofs.Ytfahhjgpgccdhap
open Go.RowKit

/-- What a Use holds. -/
structure Us where
  a0 : Int
  a1 : Int
  a2 : Int
instance : Inhabited Us := ⟨⟨0, 0, 0⟩⟩
/-- Its cells. -/
def usC (m : Us) : Nat → Value
  | 0 => .int .i64 m.a0
  | 1 => .int .i64 m.a1
  | _ => .int .i64 m.a2
def usAlike (m n : Us) : Prop := m.a0 = n.a0 ∧ m.a1 = n.a1 ∧ m.a2 = n.a2
theorem usAlike_refl (m : Us) : usAlike m m := ⟨rfl, rfl, rfl⟩
theorem usAlike.symm {m n : Us} (h : usAlike m n) : usAlike n m := ⟨h.1.symm, h.2.1.symm, h.2.2.symm⟩
theorem usAlike.trans {m n l : Us} (h : usAlike m n) (g : usAlike n l) : usAlike m l := ⟨h.1.trans g.1, h.2.1.trans g.2.1, h.2.2.trans g.2.2⟩

set_option maxHeartbeats 1000000 in
theorem toUse_any (a0 : Int) (a1 : Int) (a2 : Int) (w : World) :
    Calls Try.prog 60 #[.agg #[.int .i64 a0, .int .i64 a1, .int .i64 a2]] w fun e w' => e = .returned (.agg #[.int .i64 a0, .int .i64 a1, .int .i64 a2]) ∧ Below w.heap.size w w' := by
  go_enter Try.func60, Try.ntmps60
  go_wp2
  refine bodyPost_ret (v := .agg #[.int .i64 a0, .int .i64 a1, .int .i64 a2]) (by simp [results, Try.results60, go_sem]) rfl ⟨rfl, ?_⟩
  repeat (first | exact bel3 _ _ _ | refine Below.setCell ?_ (by simp; try omega) _)

set_option maxHeartbeats 1000000 in
theorem eqUse_alike (a0 : Int) (a1 : Int) (a2 : Int) (b0 : Int) (b1 : Int) (b2 : Int) (w : World) (h : usAlike ⟨a0, a1, a2⟩ ⟨b0, b1, b2⟩) :
    Calls Try.prog 65 #[.agg #[.int .i64 a0, .int .i64 a1, .int .i64 a2], .agg #[.int .i64 b0, .int .i64 b1, .int .i64 b2]] w fun e w' => e = .returned (.bool true) ∧ Below w.heap.size w w' := by
  obtain ⟨h0, h1, h2⟩ := h
  have h0 : a0 = b0 := h0
  subst h0
  have h1 : a1 = b1 := h1
  subst h1
  have h2 : a2 = b2 := h2
  subst h2
  go_enter Try.func65, Try.ntmps65
  go_wp2_with fail
  go_ret
  exact ⟨rfl, by simpa using bel2 _ _⟩

end Go.Proofs.Ytfahhjgpgccdhap

namespace Go.Proofs.Ytfahhjgpgccdhap
open Go.RowKit
attribute [local go_sem ↓] Go.wp_at_zero Go.wp_at_succ

set_option maxHeartbeats 400000 in
theorem szUseS_no (ad : Option Addr) (len cap : Nat) (left : Int) (w : World) (h0 : 0 ≤ left) (h1 : left ≤ 1048576) (hl : len ≤ 9223372036854775807) (h : left < len) :
    Calls Try.prog 31 #[.slice ad len cap, .int .i64 left] w fun e w' => e = .returned (.int .i64 (-1)) ∧ w' = w := by
  go_enter Try.func31, Try.ntmps31
  go_wp2
  go_ret
  exact ⟨rfl, rfl⟩

set_option maxHeartbeats 400000 in
theorem szUseS_yes (ad : Option Addr) (len cap : Nat) (left : Int) (w : World) (h1 : left ≤ 1048576) (h : (len : Int) ≤ left) :
    Calls Try.prog 31 #[.slice ad len cap, .int .i64 left] w fun e w' => e = .returned (.int .i64 (left - len)) ∧ w' = w := by
  go_enter Try.func31, Try.ntmps31
  go_wp2
  go_ret
  exact ⟨rfl, rfl⟩

theorem infoUs : (Try.prog.info? 70).map (fun i => (i.zero, i.size, i.bytes)) = some (some (.agg #[.int .i64 0, .int .i64 0, .int .i64 0]), 3, 24) := by kernel_rfl

/-- After k rounds of the copying; the new row lies in block B. -/
structure CopiedUs (w wr : World) (B : Nat) (ps : List Us) (k : Nat) : Prop where
  own : ∃ xs : List Value, wr.ownsRow B 70 3 (.slice (some ⟨B, 0, none⟩) ps.length ps.length) ps.length xs ∧ ∀ j, j < k → ∀ q, q < 3 → xs[j * 3 + q]? = some (usC (elAt ps j) q)
  bel : Below w.heap.size w wr
  here : B < wr.heap.size
  old : w.heap.size ≤ B

theorem CopiedUs.at_ {w wr : World} {B : Nat} {ps : List Us} {k : Nat} (h : CopiedUs w wr B ps k) (i : Nat) (hi : i < ps.length * 3) : (∃ v, wr.cell? ⟨B, i, none⟩ = some v) ∧ wr.frozen? ⟨B, i, none⟩ = false := by
  obtain ⟨xs, ho, _⟩ := h.own
  refine ⟨?_, ho.frozenAt i⟩
  rw [ho.cellAt i hi]
  have := ho.1
  exact ⟨xs[i]'(by omega), List.getElem?_eq_getElem (by omega)⟩

theorem CopiedUs.call {w wr w' : World} {B : Nat} {ps : List Us} {k : Nat} (h : CopiedUs w wr B ps k) (b : Below wr.heap.size wr w') : CopiedUs w w' B ps k := by
  obtain ⟨xs, ho, hx⟩ := h.own
  exact ⟨⟨xs, ownsRow_below ho b, hx⟩, h.bel.trans (b.mono h.bel.size), Nat.lt_of_lt_of_le h.here b.size, h.old⟩

theorem CopiedUs.step {w wr : World} {B : Nat} {ps : List Us} {k : Nat} (h : CopiedUs w wr B ps k) (hk : k < ps.length) :
    CopiedUs w (((wr.setCell ⟨B, k * 3, none⟩ (.int .i64 (elAt ps k).a0)).setCell ⟨B, k * 3 + 1, none⟩ (.int .i64 (elAt ps k).a1)).setCell ⟨B, k * 3 + 2, none⟩ (.int .i64 (elAt ps k).a2)) B ps (k + 1) := by
  obtain ⟨xs, ho, hx⟩ := h.own
  have hl := ho.1
  have o0 := (ho.stored (k * 3) (.int .i64 (elAt ps k).a0)).1
  have o1 := (o0.stored (k * 3 + 1) (.int .i64 (elAt ps k).a1)).1
  have o2 := (o1.stored (k * 3 + 2) (.int .i64 (elAt ps k).a2)).1
  refine ⟨⟨_, o2, fun j hj q hq => ?_⟩, (((h.bel.setCell h.old _).setCell h.old _).setCell h.old _), by have := h.here; simpa [World.setCell] using this, h.old⟩
  by_cases e : j = k
  · subst e
    have hq' : q = 0 ∨ q = 1 ∨ q = 2 := by omega
    rcases hq' with rfl | rfl | rfl
    · rw [List.getElem?_set_ne (by omega), List.getElem?_set_ne (by omega)]; exact List.getElem?_set_self (by first | omega | (simp; omega))
    · rw [List.getElem?_set_ne (by omega)]; exact List.getElem?_set_self (by first | omega | (simp; omega))
    · exact List.getElem?_set_self (by first | omega | (simp; omega))
  · rw [List.getElem?_set_ne (by omega), List.getElem?_set_ne (by omega), List.getElem?_set_ne (by omega)]
    exact hx j (by omega) q hq

set_option maxHeartbeats 1000000 in
theorem toUseS_own (ad : Option Addr) (len cap : Nat) (ps : List Us) (w : World) (hr : RowE 3 usC w ad len ps) (hlen : len ≤ 1048576) :
    Calls Try.prog 35 #[.slice ad len cap] w fun e w' => e = .returned (.slice (some ⟨w.heap.size, 0, none⟩) len len) ∧ OwnE 3 usC w' w.heap.size 70 (.slice (some ⟨w.heap.size, 0, none⟩) len len) ps ∧ Below w.heap.size w w' := by
  have hz := hr.len_eq
  have HO := hide hr.open_
  clear hr
  subst hz
  obtain ⟨i0, hi, hz0, hz1, hz2⟩ := info_parts infoUs
  go_enter Try.func35, Try.ntmps35
  go_wp2_with (at_make; refine wpList_make_full _ rfl (.tmp 6) (.tmp 6) 31 rfl w.heap.size 70 i0 (.agg #[.int .i64 0, .int .i64 0, .int .i64 0]) 3 Try.underlying31 hi hz0 hz1 .i64 .i64 _ _ ps.length rfl rfl rfl rfl (by rw [hz2]; omega) (by unfold maxLen; omega) (Nat.le_refl _) ?_; intro w1 hown hgrow)
  have hB : w.heap.size < w1.heap.size := (hown.lt w.heap.size rfl).2
  have HC0 : CopiedUs w w1 w.heap.size ps 0 := ⟨⟨_, hown, fun j hj => by omega⟩, (Below.refl _ _).grown hgrow (Nat.le_refl _) (fun k hk => by cases hk), hB, Nat.le_refl _⟩
  clear hown hgrow hi hz0 hz1 hz2 hB
  go_loopw [4] (fun i wr => ∃ k : Nat, k ≤ ps.length ∧ i = .int .i64 k ∧ CopiedUs w wr w.heap.size ps k) (fun i _ => ps.length - (intOf i).toNat)
  case atStart => exact ⟨0, Nat.zero_le _, rfl, HC0⟩
  case round =>
    obtain ⟨k, hk, rfl, hcp⟩ := hrel
    by_cases hlt : k < ps.length
    · rcases (unhide HO) with ⟨h0, _⟩ | ⟨bb, off, rfl, _, hc⟩
      · simp [h0] at hlt
      have c0 : w.cell? ⟨bb, off + k * 3, none⟩ = some (.int .i64 (elAt ps k).a0) := hc k hlt 0 (by omega)
      have c0 := (hcp.bel.cell (block_lt_of_cell c0)).trans c0
      have c1 : w.cell? ⟨bb, off + k * 3 + 1, none⟩ = some (.int .i64 (elAt ps k).a1) := hc k hlt 1 (by omega)
      have c1 := (hcp.bel.cell (block_lt_of_cell c1)).trans c1
      have c2 : w.cell? ⟨bb, off + k * 3 + 2, none⟩ = some (.int .i64 (elAt ps k).a2) := hc k hlt 2 (by omega)
      have c2 := (hcp.bel.cell (block_lt_of_cell c2)).trans c2
      have HCP := hide hcp
      have hi1 : (k : Int) < (ps.length : Int) := by omega
      clear hc hcp HC0
      go_wp2_with fail
      refine (toUse_any _ _ _ _).mono ?_
      rintro e w2 ⟨rfl, hb2⟩
      have hc2 := (unhide HCP).call hb2
      obtain ⟨⟨v0, hs0⟩, hf0⟩ := hc2.at_ (k * 3) (by omega)
      obtain ⟨⟨v1, hs1⟩, hf1⟩ := hc2.at_ (k * 3 + 1) (by omega)
      obtain ⟨⟨v2, hs2⟩, hf2⟩ := hc2.at_ (k * 3 + 2) (by omega)
      have HS := hide (hc2.step hlt)
      clear hb2 hc2
      go_wp2
      go_roundw
      case rel => exact ⟨k + 1, by omega, by go_num, unhide HS⟩
      case measure => simp [intOf]; omega
    · have hkk : k = ps.length := by omega
      subst hkk
      have HR := hide (show OwnE 3 usC _ w.heap.size 70 (.slice (some ⟨w.heap.size, 0, none⟩) ps.length ps.length) ps from ⟨hcp.own⟩)
      have HB := hide hcp.bel
      go_wp2
      go_ret
      exact ⟨rfl, unhide HR, unhide HB⟩

set_option maxHeartbeats 1000000 in
theorem eqUseS_alike (ad bd : Option Addr) (len cap len2 cap2 : Nat) (ps qs : List Us) (w : World) (hr : RowE 3 usC w ad len ps) (hr2 : RowE 3 usC w bd len2 qs) (hl : ps.length = qs.length) (hal : ∀ i, i < ps.length → usAlike (elAt ps i) (elAt qs i)) :
    Calls Try.prog 42 #[.slice ad len cap, .slice bd len2 cap2] w fun e w' => e = .returned (.bool true) ∧ Below w.heap.size w w' := by
  have hz := hr.len_eq
  have hs := hr.small
  have HO := hide hr.open_
  have hz2 := hr2.len_eq
  have HO2 := hide hr2.open_
  clear hr hr2
  subst hz
  rw [← hl] at hz2
  subst hz2
  have HAL := hide hal
  clear hal hl
  have hb : ((ps.length : Int) != (ps.length : Int)) = false := by simp
  go_enter Try.func42, Try.ntmps42
  go_wp2
  go_loopw [5] (fun i wr => ∃ k : Nat, k ≤ ps.length ∧ i = .int .i64 k ∧ Below w.heap.size w wr) (fun i _ => ps.length - (intOf i).toNat)
  case atStart => exact ⟨0, Nat.zero_le _, rfl, Below.refl _ _⟩
  case round =>
    obtain ⟨k, hk, rfl, hbel⟩ := hrel
    have HB := hide hbel
    clear hbel
    by_cases hlt : k < ps.length
    · rcases (unhide HO) with ⟨h0, _⟩ | ⟨bb, off, rfl, _, hc⟩
      · simp [h0] at hlt
      rcases (unhide HO2) with ⟨h0, _⟩ | ⟨bb2, off2, rfl, _, hc2⟩
      · simp [h0] at hlt
      have c0 : w.cell? ⟨bb, off + k * 3, none⟩ = some (.int .i64 (elAt ps k).a0) := hc k hlt 0 (by omega)
      have c0 := ((unhide HB).cell (block_lt_of_cell c0)).trans c0
      have d0 : w.cell? ⟨bb2, off2 + k * 3, none⟩ = some (.int .i64 (elAt qs k).a0) := hc2 k hlt 0 (by omega)
      have d0 := ((unhide HB).cell (block_lt_of_cell d0)).trans d0
      have c1 : w.cell? ⟨bb, off + k * 3 + 1, none⟩ = some (.int .i64 (elAt ps k).a1) := hc k hlt 1 (by omega)
      have c1 := ((unhide HB).cell (block_lt_of_cell c1)).trans c1
      have d1 : w.cell? ⟨bb2, off2 + k * 3 + 1, none⟩ = some (.int .i64 (elAt qs k).a1) := hc2 k hlt 1 (by omega)
      have d1 := ((unhide HB).cell (block_lt_of_cell d1)).trans d1
      have c2 : w.cell? ⟨bb, off + k * 3 + 2, none⟩ = some (.int .i64 (elAt ps k).a2) := hc k hlt 2 (by omega)
      have c2 := ((unhide HB).cell (block_lt_of_cell c2)).trans c2
      have d2 : w.cell? ⟨bb2, off2 + k * 3 + 2, none⟩ = some (.int .i64 (elAt qs k).a2) := hc2 k hlt 2 (by omega)
      have d2 := ((unhide HB).cell (block_lt_of_cell d2)).trans d2
      have lc := block_lt_of_cell c0
      have ld := block_lt_of_cell d0
      have hi1 : (0 : Int) ≤ (k : Int) := by omega
      have hi2 : (k : Int) < (ps.length : Int) := by omega
      clear hc hc2
      go_wp2
      go_region_held3 (fun w' => w'.cell? ⟨bb, off + k * 3, none⟩ = some (.int .i64 (elAt ps k).a0) ∧ w'.cell? ⟨bb, off + k * 3 + 1, none⟩ = some (.int .i64 (elAt ps k).a1) ∧ w'.cell? ⟨bb, off + k * 3 + 2, none⟩ = some (.int .i64 (elAt ps k).a2) ∧ w'.cell? ⟨bb2, off2 + k * 3, none⟩ = some (.int .i64 (elAt qs k).a0) ∧ w'.cell? ⟨bb2, off2 + k * 3 + 1, none⟩ = some (.int .i64 (elAt qs k).a1) ∧ w'.cell? ⟨bb2, off2 + k * 3 + 2, none⟩ = some (.int .i64 (elAt qs k).a2)) (go_keep)
        ((go_at_call 65; refine (eqUse_alike _ _ _ _ _ _ _ (unhide HAL k hlt)).mono ?_; rintro e w3 ⟨rfl, b3⟩; have c0 := (b3.cell (p := ⟨bb, off + k * 3, none⟩) lc).trans c0; have c1 := (b3.cell (p := ⟨bb, off + k * 3 + 1, none⟩) lc).trans c1; have c2 := (b3.cell (p := ⟨bb, off + k * 3 + 2, none⟩) lc).trans c2; have d0 := (b3.cell (p := ⟨bb2, off2 + k * 3, none⟩) ld).trans d0; have d1 := (b3.cell (p := ⟨bb2, off2 + k * 3 + 1, none⟩) ld).trans d1; have d2 := (b3.cell (p := ⟨bb2, off2 + k * 3 + 2, none⟩) ld).trans d2))
      have HB3 := hide ((unhide HB).trans (((bel0d' 1).trans (b3.mono (Nat.le_refl _))).mono (by have := (unhide HB).size; simp; omega)))
      clear b3
      go_wp2
      go_roundw
      case rel => exact ⟨k + 1, by omega, by go_num, unhide HB3⟩
      case measure => simp [intOf]; omega
    · go_wp2
      go_ret
      exact ⟨rfl, unhide HB⟩

end Go.Proofs.Ytfahhjgpgccdhap

namespace Go.Proofs.Ytfahhjgpgccdhap

abbrev third (n : Int) : Bool := n % 3 == 0

end Go.Proofs.Ytfahhjgpgccdhap

namespace Go.Proofs.Ytfahhjgpgccdhap
open Go.RowKit

def mkSr (n : Int) : Sr := ⟨(n), (n + 1), third (n + 1 + 1)⟩

set_option maxHeartbeats 1000000 in
theorem markSourceS_any (base : Nat) (a : Option Addr) (len c : Nat) (ps : List Sr) (k : Int) (w : World) (ho : OwnE 3 srC w base 66 (.slice a len c) ps) (hl : ps.length = len) (h1 : len ≤ 1048576) (hk0 : 0 ≤ k) (hk1 : k ≤ 1000000000) :
    Calls Try.prog 45 #[.slice a len c, .int .i64 k] w fun e w' => e = .returned (.int .i64 (k + 3 * len)) ∧ OwnE 3 srC w' base 66 (.slice a len c) (markL mkSr 3 ps k len) ∧ w.grownBy w' (Value.slice a len c).ownBlock := by
  subst hl
  go_enter Try.func45, Try.ntmps45
  go_wp2
  go_loopw [1, 5] (fun kk i wr => ∃ j : Nat, j ≤ ps.length ∧ i = .int .i64 j ∧ kk = .int .i64 (k + 3 * j) ∧ OwnE 3 srC wr base 66 (.slice a ps.length c) (markL mkSr 3 ps k j) ∧ w.grownBy wr (Value.slice a ps.length c).ownBlock) (fun _ i _ => ps.length - (intOf i).toNat)
  case atStart => exact ⟨0, Nat.zero_le _, rfl, by simp, ho, grown_refl _ _⟩
  case round =>
    obtain ⟨j, hj, rfl, rfl, how, hgr⟩ := hrel
    have hml := markL_len mkSr 3 ps k j
    by_cases hlt : j < ps.length
    · rcases how.form with ⟨_, h0⟩ | ⟨g, c', hv, hg1, hg2, hc1, _⟩
      · rw [h0] at hml; simp at hml; omega
      simp only [Value.slice.injEq] at hv
      obtain ⟨rfl, hx, rfl⟩ := hv
      clear hx hc1
      have n0 : wr.cell? ⟨g, j * 3, none⟩ = some (.int .i64 (elAt (markL mkSr 3 ps k j) j).a0) := (how.here hml j hlt 0 (by omega)).1
      have z0 : wr.frozen? ⟨g, j * 3, none⟩ = false := (how.here hml j hlt 0 (by omega)).2
      have n1 : wr.cell? ⟨g, j * 3 + 1, none⟩ = some (.int .i64 (elAt (markL mkSr 3 ps k j) j).a1) := (how.here hml j hlt 1 (by omega)).1
      have z1 : wr.frozen? ⟨g, j * 3 + 1, none⟩ = false := (how.here hml j hlt 1 (by omega)).2
      have n2 : wr.cell? ⟨g, j * 3 + 2, none⟩ = some (.bool (elAt (markL mkSr 3 ps k j) j).a2) := (how.here hml j hlt 2 (by omega)).1
      have z2 : wr.frozen? ⟨g, j * 3 + 2, none⟩ = false := (how.here hml j hlt 2 (by omega)).2
      have o0 := how.setOne hml j hlt 0 (by omega) (.int .i64 ((k + 3 * (j : Int)))) ⟨(k + 3 * (j : Int)), (elAt (markL mkSr 3 ps k j) j).a1, (elAt (markL mkSr 3 ps k j) j).a2⟩ (by intro p hp; rcases (show p = 0 ∨ p = 1 ∨ p = 2 from by omega) with rfl | rfl | rfl <;> rfl)
      have o1 := o0.setMore hml hlt 1 (by omega) (.int .i64 ((k + 3 * (j : Int) + 1))) ⟨(k + 3 * (j : Int)), (k + 3 * (j : Int) + 1), (elAt (markL mkSr 3 ps k j) j).a2⟩ (by intro p hp; rcases (show p = 0 ∨ p = 1 ∨ p = 2 from by omega) with rfl | rfl | rfl <;> rfl)
      have o2 := o1.setMore hml hlt 2 (by omega) (.bool (third (k + 3 * (j : Int) + 1 + 1))) ⟨(k + 3 * (j : Int)), (k + 3 * (j : Int) + 1), third (k + 3 * (j : Int) + 1 + 1)⟩ (by intro p hp; rcases (show p = 0 ∨ p = 1 ∨ p = 2 from by omega) with rfl | rfl | rfl <;> rfl)
      have O3 : Hid (OwnE 3 srC (((wr.setCell ⟨g, j * 3, none⟩ (.int .i64 ((k + 3 * (j : Int))))).setCell ⟨g, j * 3 + 1, none⟩ (.int .i64 ((k + 3 * (j : Int) + 1)))).setCell ⟨g, j * 3 + 2, none⟩ (.bool (third (k + 3 * (j : Int) + 1 + 1)))) base 66 (.slice (some ⟨g, 0, none⟩) ps.length c) (markL mkSr 3 ps k (j + 1))) := hide o2
      have G3 : Hid (w.grownBy (((wr.setCell ⟨g, j * 3, none⟩ (.int .i64 ((k + 3 * (j : Int))))).setCell ⟨g, j * 3 + 1, none⟩ (.int .i64 ((k + 3 * (j : Int) + 1)))).setCell ⟨g, j * 3 + 2, none⟩ (.bool (third (k + 3 * (j : Int) + 1 + 1)))) (Value.slice (some ⟨g, 0, none⟩) ps.length c).ownBlock) := hide (grown_set (grown_set (grown_set hgr _ _) _ _) _ _)
      have hi1 : (j : Int) < (ps.length : Int) := by omega
      clear o0 o1 o2 how hgr hml
      go_wp2
      go_roundw
      case rel => exact ⟨j + 1, by omega, by go_num, by go_num, unhide O3, unhide G3⟩
      case measure => simp [intOf]; omega
    · have hkk : j = ps.length := by omega
      subst hkk
      have O := hide how
      have G := hide hgr
      clear how hgr hml
      go_wp2
      go_ret
      exact ⟨rfl, unhide O, unhide G⟩


end Go.Proofs.Ytfahhjgpgccdhap

namespace Go.Proofs.Ytfahhjgpgccdhap
open Go.RowKit

def mkTi (n : Int) : Ti := ⟨(n), (n + 1), third (n + 1 + 1)⟩

set_option maxHeartbeats 1000000 in
theorem markTieS_any (base : Nat) (a : Option Addr) (len c : Nat) (ps : List Ti) (k : Int) (w : World) (ho : OwnE 3 tiC w base 68 (.slice a len c) ps) (hl : ps.length = len) (h1 : len ≤ 1048576) (hk0 : 0 ≤ k) (hk1 : k ≤ 1000000000) :
    Calls Try.prog 46 #[.slice a len c, .int .i64 k] w fun e w' => e = .returned (.int .i64 (k + 3 * len)) ∧ OwnE 3 tiC w' base 68 (.slice a len c) (markL mkTi 3 ps k len) ∧ w.grownBy w' (Value.slice a len c).ownBlock := by
  subst hl
  go_enter Try.func46, Try.ntmps46
  go_wp2
  go_loopw [1, 5] (fun kk i wr => ∃ j : Nat, j ≤ ps.length ∧ i = .int .i64 j ∧ kk = .int .i64 (k + 3 * j) ∧ OwnE 3 tiC wr base 68 (.slice a ps.length c) (markL mkTi 3 ps k j) ∧ w.grownBy wr (Value.slice a ps.length c).ownBlock) (fun _ i _ => ps.length - (intOf i).toNat)
  case atStart => exact ⟨0, Nat.zero_le _, rfl, by simp, ho, grown_refl _ _⟩
  case round =>
    obtain ⟨j, hj, rfl, rfl, how, hgr⟩ := hrel
    have hml := markL_len mkTi 3 ps k j
    by_cases hlt : j < ps.length
    · rcases how.form with ⟨_, h0⟩ | ⟨g, c', hv, hg1, hg2, hc1, _⟩
      · rw [h0] at hml; simp at hml; omega
      simp only [Value.slice.injEq] at hv
      obtain ⟨rfl, hx, rfl⟩ := hv
      clear hx hc1
      have n0 : wr.cell? ⟨g, j * 3, none⟩ = some (.int .i64 (elAt (markL mkTi 3 ps k j) j).a0) := (how.here hml j hlt 0 (by omega)).1
      have z0 : wr.frozen? ⟨g, j * 3, none⟩ = false := (how.here hml j hlt 0 (by omega)).2
      have n1 : wr.cell? ⟨g, j * 3 + 1, none⟩ = some (.int .i64 (elAt (markL mkTi 3 ps k j) j).a1) := (how.here hml j hlt 1 (by omega)).1
      have z1 : wr.frozen? ⟨g, j * 3 + 1, none⟩ = false := (how.here hml j hlt 1 (by omega)).2
      have n2 : wr.cell? ⟨g, j * 3 + 2, none⟩ = some (.bool (elAt (markL mkTi 3 ps k j) j).a2) := (how.here hml j hlt 2 (by omega)).1
      have z2 : wr.frozen? ⟨g, j * 3 + 2, none⟩ = false := (how.here hml j hlt 2 (by omega)).2
      have o0 := how.setOne hml j hlt 0 (by omega) (.int .i64 ((k + 3 * (j : Int)))) ⟨(k + 3 * (j : Int)), (elAt (markL mkTi 3 ps k j) j).a1, (elAt (markL mkTi 3 ps k j) j).a2⟩ (by intro p hp; rcases (show p = 0 ∨ p = 1 ∨ p = 2 from by omega) with rfl | rfl | rfl <;> rfl)
      have o1 := o0.setMore hml hlt 1 (by omega) (.int .i64 ((k + 3 * (j : Int) + 1))) ⟨(k + 3 * (j : Int)), (k + 3 * (j : Int) + 1), (elAt (markL mkTi 3 ps k j) j).a2⟩ (by intro p hp; rcases (show p = 0 ∨ p = 1 ∨ p = 2 from by omega) with rfl | rfl | rfl <;> rfl)
      have o2 := o1.setMore hml hlt 2 (by omega) (.bool (third (k + 3 * (j : Int) + 1 + 1))) ⟨(k + 3 * (j : Int)), (k + 3 * (j : Int) + 1), third (k + 3 * (j : Int) + 1 + 1)⟩ (by intro p hp; rcases (show p = 0 ∨ p = 1 ∨ p = 2 from by omega) with rfl | rfl | rfl <;> rfl)
      have O3 : Hid (OwnE 3 tiC (((wr.setCell ⟨g, j * 3, none⟩ (.int .i64 ((k + 3 * (j : Int))))).setCell ⟨g, j * 3 + 1, none⟩ (.int .i64 ((k + 3 * (j : Int) + 1)))).setCell ⟨g, j * 3 + 2, none⟩ (.bool (third (k + 3 * (j : Int) + 1 + 1)))) base 68 (.slice (some ⟨g, 0, none⟩) ps.length c) (markL mkTi 3 ps k (j + 1))) := hide o2
      have G3 : Hid (w.grownBy (((wr.setCell ⟨g, j * 3, none⟩ (.int .i64 ((k + 3 * (j : Int))))).setCell ⟨g, j * 3 + 1, none⟩ (.int .i64 ((k + 3 * (j : Int) + 1)))).setCell ⟨g, j * 3 + 2, none⟩ (.bool (third (k + 3 * (j : Int) + 1 + 1)))) (Value.slice (some ⟨g, 0, none⟩) ps.length c).ownBlock) := hide (grown_set (grown_set (grown_set hgr _ _) _ _) _ _)
      have hi1 : (j : Int) < (ps.length : Int) := by omega
      clear o0 o1 o2 how hgr hml
      go_wp2
      go_roundw
      case rel => exact ⟨j + 1, by omega, by go_num, by go_num, unhide O3, unhide G3⟩
      case measure => simp [intOf]; omega
    · have hkk : j = ps.length := by omega
      subst hkk
      have O := hide how
      have G := hide hgr
      clear how hgr hml
      go_wp2
      go_ret
      exact ⟨rfl, unhide O, unhide G⟩


end Go.Proofs.Ytfahhjgpgccdhap

namespace Go.Proofs.Ytfahhjgpgccdhap
open Go.RowKit

def mkUs (n : Int) : Us := ⟨(n), (n + 1), (n + 1 + 1)⟩

set_option maxHeartbeats 1000000 in
theorem markUseS_any (base : Nat) (a : Option Addr) (len c : Nat) (ps : List Us) (k : Int) (w : World) (ho : OwnE 3 usC w base 70 (.slice a len c) ps) (hl : ps.length = len) (h1 : len ≤ 1048576) (hk0 : 0 ≤ k) (hk1 : k ≤ 1000000000) :
    Calls Try.prog 47 #[.slice a len c, .int .i64 k] w fun e w' => e = .returned (.int .i64 (k + 3 * len)) ∧ OwnE 3 usC w' base 70 (.slice a len c) (markL mkUs 3 ps k len) ∧ w.grownBy w' (Value.slice a len c).ownBlock := by
  subst hl
  go_enter Try.func47, Try.ntmps47
  go_wp2
  go_loopw [1, 5] (fun kk i wr => ∃ j : Nat, j ≤ ps.length ∧ i = .int .i64 j ∧ kk = .int .i64 (k + 3 * j) ∧ OwnE 3 usC wr base 70 (.slice a ps.length c) (markL mkUs 3 ps k j) ∧ w.grownBy wr (Value.slice a ps.length c).ownBlock) (fun _ i _ => ps.length - (intOf i).toNat)
  case atStart => exact ⟨0, Nat.zero_le _, rfl, by simp, ho, grown_refl _ _⟩
  case round =>
    obtain ⟨j, hj, rfl, rfl, how, hgr⟩ := hrel
    have hml := markL_len mkUs 3 ps k j
    by_cases hlt : j < ps.length
    · rcases how.form with ⟨_, h0⟩ | ⟨g, c', hv, hg1, hg2, hc1, _⟩
      · rw [h0] at hml; simp at hml; omega
      simp only [Value.slice.injEq] at hv
      obtain ⟨rfl, hx, rfl⟩ := hv
      clear hx hc1
      have n0 : wr.cell? ⟨g, j * 3, none⟩ = some (.int .i64 (elAt (markL mkUs 3 ps k j) j).a0) := (how.here hml j hlt 0 (by omega)).1
      have z0 : wr.frozen? ⟨g, j * 3, none⟩ = false := (how.here hml j hlt 0 (by omega)).2
      have n1 : wr.cell? ⟨g, j * 3 + 1, none⟩ = some (.int .i64 (elAt (markL mkUs 3 ps k j) j).a1) := (how.here hml j hlt 1 (by omega)).1
      have z1 : wr.frozen? ⟨g, j * 3 + 1, none⟩ = false := (how.here hml j hlt 1 (by omega)).2
      have n2 : wr.cell? ⟨g, j * 3 + 2, none⟩ = some (.int .i64 (elAt (markL mkUs 3 ps k j) j).a2) := (how.here hml j hlt 2 (by omega)).1
      have z2 : wr.frozen? ⟨g, j * 3 + 2, none⟩ = false := (how.here hml j hlt 2 (by omega)).2
      have o0 := how.setOne hml j hlt 0 (by omega) (.int .i64 ((k + 3 * (j : Int)))) ⟨(k + 3 * (j : Int)), (elAt (markL mkUs 3 ps k j) j).a1, (elAt (markL mkUs 3 ps k j) j).a2⟩ (by intro p hp; rcases (show p = 0 ∨ p = 1 ∨ p = 2 from by omega) with rfl | rfl | rfl <;> rfl)
      have o1 := o0.setMore hml hlt 1 (by omega) (.int .i64 ((k + 3 * (j : Int) + 1))) ⟨(k + 3 * (j : Int)), (k + 3 * (j : Int) + 1), (elAt (markL mkUs 3 ps k j) j).a2⟩ (by intro p hp; rcases (show p = 0 ∨ p = 1 ∨ p = 2 from by omega) with rfl | rfl | rfl <;> rfl)
      have o2 := o1.setMore hml hlt 2 (by omega) (.int .i64 ((k + 3 * (j : Int) + 1 + 1))) ⟨(k + 3 * (j : Int)), (k + 3 * (j : Int) + 1), (k + 3 * (j : Int) + 1 + 1)⟩ (by intro p hp; rcases (show p = 0 ∨ p = 1 ∨ p = 2 from by omega) with rfl | rfl | rfl <;> rfl)
      have O3 : Hid (OwnE 3 usC (((wr.setCell ⟨g, j * 3, none⟩ (.int .i64 ((k + 3 * (j : Int))))).setCell ⟨g, j * 3 + 1, none⟩ (.int .i64 ((k + 3 * (j : Int) + 1)))).setCell ⟨g, j * 3 + 2, none⟩ (.int .i64 ((k + 3 * (j : Int) + 1 + 1)))) base 70 (.slice (some ⟨g, 0, none⟩) ps.length c) (markL mkUs 3 ps k (j + 1))) := hide o2
      have G3 : Hid (w.grownBy (((wr.setCell ⟨g, j * 3, none⟩ (.int .i64 ((k + 3 * (j : Int))))).setCell ⟨g, j * 3 + 1, none⟩ (.int .i64 ((k + 3 * (j : Int) + 1)))).setCell ⟨g, j * 3 + 2, none⟩ (.int .i64 ((k + 3 * (j : Int) + 1 + 1)))) (Value.slice (some ⟨g, 0, none⟩) ps.length c).ownBlock) := hide (grown_set (grown_set (grown_set hgr _ _) _ _) _ _)
      have hi1 : (j : Int) < (ps.length : Int) := by omega
      clear o0 o1 o2 how hgr hml
      go_wp2
      go_roundw
      case rel => exact ⟨j + 1, by omega, by go_num, by go_num, unhide O3, unhide G3⟩
      case measure => simp [intOf]; omega
    · have hkk : j = ps.length := by omega
      subst hkk
      have O := hide how
      have G := hide hgr
      clear how hgr hml
      go_wp2
      go_ret
      exact ⟨rfl, unhide O, unhide G⟩


end Go.Proofs.Ytfahhjgpgccdhap

namespace Go.Proofs.Ytfahhjgpgccdhap
open Go.RowKit

/-- A net's three lists, read. -/
structure NetIn (w : World) (a1 a2 a3 : Option Addr) (l1 l2 l3 : Nat) (ss : List Sr) (ts : List Ti) (us : List Us) : Prop where
  r1 : RowE 3 srC w a1 l1 ss
  r2 : RowE 3 tiC w a2 l2 ts
  r3 : RowE 3 usC w a3 l3 us
theorem NetIn.below {w w' : World} {a1 a2 a3 : Option Addr} {l1 l2 l3 : Nat} {ss : List Sr} {ts : List Ti} {us : List Us} (h : NetIn w a1 a2 a3 l1 l2 l3 ss ts us) (k : Below w.heap.size w w') : NetIn w' a1 a2 a3 l1 l2 l3 ss ts us :=
  ⟨h.r1.below k, h.r2.below k, h.r3.below k⟩
/-- A net's three lists that a call has made, each in a block of its own. -/
structure NetOwn (w : World) (base : Nat) (g1 g2 g3 l1 l2 l3 : Nat) (ss : List Sr) (ts : List Ti) (us : List Us) : Prop where
  o1 : OwnE 3 srC w base 66 (.slice (some ⟨g1, 0, none⟩) l1 l1) ss
  o2 : OwnE 3 tiC w base 68 (.slice (some ⟨g2, 0, none⟩) l2 l2) ts
  o3 : OwnE 3 usC w base 70 (.slice (some ⟨g3, 0, none⟩) l3 l3) us
  n12 : g1 < g2
  n23 : g2 < g3
theorem NetOwn.below {w w' : World} {base g1 g2 g3 l1 l2 l3 : Nat} {ss : List Sr} {ts : List Ti} {us : List Us} (h : NetOwn w base g1 g2 g3 l1 l2 l3 ss ts us) (k : Below w.heap.size w w') : NetOwn w' base g1 g2 g3 l1 l2 l3 ss ts us :=
  ⟨h.o1.below k, h.o2.below k, h.o3.below k, h.n12, h.n23⟩
theorem NetOwn.mono {w : World} {base base' g1 g2 g3 l1 l2 l3 : Nat} {ss : List Sr} {ts : List Ti} {us : List Us} (h : NetOwn w base g1 g2 g3 l1 l2 l3 ss ts us) (hb : base' ≤ base) : NetOwn w base' g1 g2 g3 l1 l2 l3 ss ts us :=
  ⟨h.o1.mono hb, h.o2.mono hb, h.o3.mono hb, h.n12, h.n23⟩
theorem NetOwn.read {w : World} {base g1 g2 g3 l1 l2 l3 : Nat} {ss : List Sr} {ts : List Ti} {us : List Us} (h : NetOwn w base g1 g2 g3 l1 l2 l3 ss ts us) : NetIn w (some ⟨g1, 0, none⟩) (some ⟨g2, 0, none⟩) (some ⟨g3, 0, none⟩) l1 l2 l3 ss ts us :=
  ⟨h.o1.row, h.o2.row, h.o3.row⟩

set_option maxHeartbeats 2000000 in
theorem szNet7_any (n : Int) (a1 a2 a3 : Option Addr) (l1 c1 l2 c2 l3 c3 : Nat) (w : World) (h1 : l1 ≤ 9223372036854775807) (h2 : l2 ≤ 9223372036854775807) (h3 : l3 ≤ 9223372036854775807) :
    Calls Try.prog 8 #[.agg #[.int .i64 n, .slice a1 l1 c1, .slice a2 l2 c2, .slice a3 l3 c3], .int .i64 1048576] w fun x w' => (∃ r : Int, x = .returned (.int .i64 r) ∧ (r < 0 ∨ (0 ≤ r ∧ l1 ≤ 1048576 ∧ l2 ≤ 1048576 ∧ l3 ≤ 1048576))) ∧ Below w.heap.size w w' := by
  by_cases q1 : (l1 : Int) ≤ 1048576
  · by_cases q2 : (l2 : Int) ≤ 1048576 - l1
    · by_cases q3 : (l3 : Int) ≤ 1048576 - l1 - l2
      · go_enter Try.func8, Try.ntmps8
        go_wp2_with (first
          | (go_at_call 29; refine (szSourceS_yes a1 l1 c1 1048576 _ (by omega) q1).mono ?_; rintro e w' ⟨rfl, hw⟩; subst w')
          | (go_at_call 30; refine (szTieS_yes a2 l2 c2 (1048576 - l1) _ (by omega) q2).mono ?_; rintro e w' ⟨rfl, hw⟩; subst w')
          | (go_at_call 31; refine (szUseS_yes a3 l3 c3 (1048576 - l1 - l2) _ (by omega) q3).mono ?_; rintro e w' ⟨rfl, hw⟩; subst w'))
        go_ret
        exact ⟨⟨_, rfl, .inr ⟨by omega, by omega, by omega, by omega⟩⟩, bel1 _⟩
      · go_enter Try.func8, Try.ntmps8
        go_wp2_with (first
          | (go_at_call 29; refine (szSourceS_yes a1 l1 c1 1048576 _ (by omega) q1).mono ?_; rintro e w' ⟨rfl, hw⟩; subst w')
          | (go_at_call 30; refine (szTieS_yes a2 l2 c2 (1048576 - l1) _ (by omega) q2).mono ?_; rintro e w' ⟨rfl, hw⟩; subst w')
          | (go_at_call 31; refine (szUseS_no a3 l3 c3 (1048576 - l1 - l2) _ (by omega) (by omega) h3 (by omega)).mono ?_; rintro e w' ⟨rfl, hw⟩; subst w'))
        go_ret
        exact ⟨⟨-1, rfl, .inl (by omega)⟩, bel1 _⟩
    · go_enter Try.func8, Try.ntmps8
      go_wp2_with (first
        | (go_at_call 29; refine (szSourceS_yes a1 l1 c1 1048576 _ (by omega) q1).mono ?_; rintro e w' ⟨rfl, hw⟩; subst w')
        | (go_at_call 30; refine (szTieS_no a2 l2 c2 (1048576 - l1) _ (by omega) (by omega) h2 (by omega)).mono ?_; rintro e w' ⟨rfl, hw⟩; subst w'))
      go_ret
      exact ⟨⟨-1, rfl, .inl (by omega)⟩, bel1 _⟩
  · go_enter Try.func8, Try.ntmps8
    go_wp2_with (go_at_call 29; refine (szSourceS_no a1 l1 c1 1048576 _ (by omega) (by omega) h1 (by omega)).mono ?_; rintro e w' ⟨rfl, hw⟩; subst w')
    go_ret
    exact ⟨⟨-1, rfl, .inl (by omega)⟩, bel1 _⟩
set_option maxRecDepth 20000 in
set_option maxHeartbeats 4000000 in
theorem toNet7_own (n : Int) (a1 a2 a3 : Option Addr) (l1 c1 l2 c2 l3 c3 : Nat) (ss : List Sr) (ts : List Ti) (us : List Us) (w : World) (hr : NetIn w a1 a2 a3 l1 l2 l3 ss ts us) (h1 : l1 ≤ 1048576) (h2 : l2 ≤ 1048576) (h3 : l3 ≤ 1048576) :
    Calls Try.prog 10 #[.agg #[.int .i64 n, .slice a1 l1 c1, .slice a2 l2 c2, .slice a3 l3 c3]] w fun x w' => (∃ g1 g2 g3, x = .returned (.agg #[.int .i64 n, .slice (some ⟨g1, 0, none⟩) l1 l1, .slice (some ⟨g2, 0, none⟩) l2 l2, .slice (some ⟨g3, 0, none⟩) l3 l3]) ∧ NetOwn w' w.heap.size g1 g2 g3 l1 l2 l3 ss ts us) ∧ Below w.heap.size w w' := by
  obtain ⟨W, hW⟩ : ∃ W, W = ((w.alloc (Obj.cells #[.int .i64 n, .slice a1 l1 c1, .slice a2 l2 c2, .slice a3 l3 c3] 26)).alloc (Obj.cells #[.int .i64 0, .slice none 0 0, .slice none 0 0, .slice none 0 0] 33)).alloc (Obj.cells #[.int .i64 n, .slice none 0 0, .slice none 0 0, .slice none 0 0] 33) := ⟨_, rfl⟩
  have KP : Hid (Blk W w.heap.size [.int .i64 n, .slice a1 l1 c1, .slice a2 l2 c2, .slice a3 l3 c3]) := hide (by
    rw [hW]; exact ((Blk.new (w := w) [.int .i64 n, .slice a1 l1 c1, .slice a2 l2 c2, .slice a3 l3 c3] 26).alloc _).alloc _)
  have KR : Hid (Blk W (w.heap.size + 1) [.int .i64 0, .slice none 0 0, .slice none 0 0, .slice none 0 0]) := hide (by
    rw [hW]
    have := (Blk.new (w := w.alloc (Obj.cells #[.int .i64 n, .slice a1 l1 c1, .slice a2 l2 c2, .slice a3 l3 c3] 26)) [.int .i64 0, .slice none 0 0, .slice none 0 0, .slice none 0 0] 33).alloc (Obj.cells #[.int .i64 n, .slice none 0 0, .slice none 0 0, .slice none 0 0] 33)
    simpa using this)
  have KO : Hid (Blk W (w.heap.size + 1 + 1) [.int .i64 n, .slice none 0 0, .slice none 0 0, .slice none 0 0]) := hide (by
    rw [hW]
    have := Blk.new (w := (w.alloc (Obj.cells #[.int .i64 n, .slice a1 l1 c1, .slice a2 l2 c2, .slice a3 l3 c3] 26)).alloc (Obj.cells #[.int .i64 0, .slice none 0 0, .slice none 0 0, .slice none 0 0] 33)) [.int .i64 n, .slice none 0 0, .slice none 0 0, .slice none 0 0] 33
    simpa using this)
  have HB : Hid (Below w.heap.size w W) := hide (by rw [hW]; exact bel3 _ _ _)
  have hsz : w.heap.size + 1 + 1 + 1 ≤ W.heap.size := by rw [hW]; simp
  have HI := hide (hr.below (unhide HB))
  have HR0 := hide hr
  have HW := hide hW
  clear hr hW
  go_enter Try.func10, Try.ntmps10
  go_wp2_with fail
  rw [← unhide HW]
  clear HW
  obtain ⟨G1, hG1⟩ : ∃ G, W.heap.size = G := ⟨_, rfl⟩
  refine (toSourceS_own a1 l1 c1 ss W (unhide HI).r1 h1).mono ?_
  rintro x v1 ⟨rfl, ow, bw⟩
  rw [hG1] at ow ⊢
  have HB := hide ((unhide HB).trans (bw.mono (unhide HB).size))
  have HI := hide ((unhide HI).below bw)
  have KP := hide ((unhide KP).below bw)
  have KR := hide ((unhide KR).below bw)
  have KO := hide ((unhide KO).below bw)
  have sz1 : G1 < v1.heap.size := ((ow.lies G1 rfl).2)
  have O1 := hide ow
  have hsz : w.heap.size + 1 + 1 + 1 ≤ G1 := by omega
  clear ow bw
  obtain ⟨V1, hV1⟩ : ∃ V, V = v1.setCell ⟨w.heap.size + 1 + 1, 1, none⟩ (.slice (some ⟨G1, 0, none⟩) l1 l1) := ⟨_, rfl⟩
  have y1 : v1.cell? ⟨w.heap.size + 1 + 1, 1, none⟩ = some (.slice none 0 0) := (unhide KO).c 1 (by simp)
  have z1 : v1.frozen? ⟨w.heap.size + 1 + 1, 1, none⟩ = false := (unhide KO).f 1 (by simp)
  have KO := hide ((unhide KO).set 1 (by simp) (.slice (some ⟨G1, 0, none⟩) l1 l1))
  have KP := hide ((unhide KP).other (p := ⟨w.heap.size + 1 + 1, 1, none⟩) (by simp; omega) (.slice (some ⟨G1, 0, none⟩) l1 l1))
  have KR := hide ((unhide KR).other (p := ⟨w.heap.size + 1 + 1, 1, none⟩) (by simp) (.slice (some ⟨G1, 0, none⟩) l1 l1))
  have O1 := hide ((unhide O1).set_other (S := w.heap.size + 1 + 1) (o := 1) (.slice (some ⟨G1, 0, none⟩) l1 l1) (by simp only [Value.ownBlock, ne_eq, Option.some.injEq]; omega))
  have HB := hide ((unhide HB).setCell (p := ⟨w.heap.size + 1 + 1, 1, none⟩) (by simp; omega) (.slice (some ⟨G1, 0, none⟩) l1 l1))
  have szv1 : (v1.setCell ⟨w.heap.size + 1 + 1, 1, none⟩ (.slice (some ⟨G1, 0, none⟩) l1 l1)).heap.size = v1.heap.size := by simp [World.setCell]
  rw [← hV1] at KO KP KR HB szv1 O1
  have HI : Hid (NetIn V1 a1 a2 a3 l1 l2 l3 ss ts us) := hide ((unhide HR0).below (unhide HB))
  have m2 : V1.cell? ⟨w.heap.size, 2, none⟩ = some (.slice a2 l2 c2) := (unhide KP).c 2 (by simp)
  rw [hV1] at m2
  have HV1 := hide hV1
  clear hV1
  go_wp2_with fail
  rw [← unhide HV1]
  clear HV1 m2 y1 z1
  rw [← szv1] at sz1
  obtain ⟨G2, hG2⟩ : ∃ G, V1.heap.size = G := ⟨_, rfl⟩
  refine (toTieS_own a2 l2 c2 ts V1 (unhide HI).r2 h2).mono ?_
  rintro x v2 ⟨rfl, ow, bw⟩
  rw [hG2] at ow ⊢
  have HB := hide ((unhide HB).trans (bw.mono (unhide HB).size))
  have HI := hide ((unhide HI).below bw)
  have KP := hide ((unhide KP).below bw)
  have KR := hide ((unhide KR).below bw)
  have KO := hide ((unhide KO).below bw)
  have sz2 : G2 < v2.heap.size := ((ow.lies G2 rfl).2)
  have O1 := hide ((unhide O1).below bw)
  have O2 := hide ow
  have hs2 : G1 < G2 := by rw [← hG2]; omega
  clear ow bw
  obtain ⟨V2, hV2⟩ : ∃ V, V = v2.setCell ⟨w.heap.size + 1 + 1, 2, none⟩ (.slice (some ⟨G2, 0, none⟩) l2 l2) := ⟨_, rfl⟩
  have y2 : v2.cell? ⟨w.heap.size + 1 + 1, 2, none⟩ = some (.slice none 0 0) := (unhide KO).c 2 (by simp)
  have z2 : v2.frozen? ⟨w.heap.size + 1 + 1, 2, none⟩ = false := (unhide KO).f 2 (by simp)
  have KO := hide ((unhide KO).set 2 (by simp) (.slice (some ⟨G2, 0, none⟩) l2 l2))
  have KP := hide ((unhide KP).other (p := ⟨w.heap.size + 1 + 1, 2, none⟩) (by simp; omega) (.slice (some ⟨G2, 0, none⟩) l2 l2))
  have KR := hide ((unhide KR).other (p := ⟨w.heap.size + 1 + 1, 2, none⟩) (by simp) (.slice (some ⟨G2, 0, none⟩) l2 l2))
  have O1 := hide ((unhide O1).set_other (S := w.heap.size + 1 + 1) (o := 2) (.slice (some ⟨G2, 0, none⟩) l2 l2) (by simp only [Value.ownBlock, ne_eq, Option.some.injEq]; omega))
  have O2 := hide ((unhide O2).set_other (S := w.heap.size + 1 + 1) (o := 2) (.slice (some ⟨G2, 0, none⟩) l2 l2) (by simp only [Value.ownBlock, ne_eq, Option.some.injEq]; omega))
  have HB := hide ((unhide HB).setCell (p := ⟨w.heap.size + 1 + 1, 2, none⟩) (by simp; omega) (.slice (some ⟨G2, 0, none⟩) l2 l2))
  have szv2 : (v2.setCell ⟨w.heap.size + 1 + 1, 2, none⟩ (.slice (some ⟨G2, 0, none⟩) l2 l2)).heap.size = v2.heap.size := by simp [World.setCell]
  rw [← hV2] at KO KP KR HB szv2 O1 O2
  have HI : Hid (NetIn V2 a1 a2 a3 l1 l2 l3 ss ts us) := hide ((unhide HR0).below (unhide HB))
  have m3 : V2.cell? ⟨w.heap.size, 3, none⟩ = some (.slice a3 l3 c3) := (unhide KP).c 3 (by simp)
  rw [hV2] at m3
  have HV2 := hide hV2
  clear hV2
  go_wp2_with fail
  rw [← unhide HV2]
  clear HV2 m3 y2 z2
  rw [← szv2] at sz2
  obtain ⟨G3, hG3⟩ : ∃ G, V2.heap.size = G := ⟨_, rfl⟩
  refine (toUseS_own a3 l3 c3 us V2 (unhide HI).r3 h3).mono ?_
  rintro x v3 ⟨rfl, ow, bw⟩
  rw [hG3] at ow ⊢
  have HB := hide ((unhide HB).trans (bw.mono (unhide HB).size))
  have HI := hide ((unhide HI).below bw)
  have KP := hide ((unhide KP).below bw)
  have KR := hide ((unhide KR).below bw)
  have KO := hide ((unhide KO).below bw)
  have sz3 : G3 < v3.heap.size := ((ow.lies G3 rfl).2)
  have O1 := hide ((unhide O1).below bw)
  have O2 := hide ((unhide O2).below bw)
  have O3 := hide ow
  have hs3 : G2 < G3 := by rw [← hG3]; omega
  clear ow bw
  obtain ⟨V3, hV3⟩ : ∃ V, V = v3.setCell ⟨w.heap.size + 1 + 1, 3, none⟩ (.slice (some ⟨G3, 0, none⟩) l3 l3) := ⟨_, rfl⟩
  have y3 : v3.cell? ⟨w.heap.size + 1 + 1, 3, none⟩ = some (.slice none 0 0) := (unhide KO).c 3 (by simp)
  have z3 : v3.frozen? ⟨w.heap.size + 1 + 1, 3, none⟩ = false := (unhide KO).f 3 (by simp)
  have KO := hide ((unhide KO).set 3 (by simp) (.slice (some ⟨G3, 0, none⟩) l3 l3))
  have KP := hide ((unhide KP).other (p := ⟨w.heap.size + 1 + 1, 3, none⟩) (by simp; omega) (.slice (some ⟨G3, 0, none⟩) l3 l3))
  have KR := hide ((unhide KR).other (p := ⟨w.heap.size + 1 + 1, 3, none⟩) (by simp) (.slice (some ⟨G3, 0, none⟩) l3 l3))
  have O1 := hide ((unhide O1).set_other (S := w.heap.size + 1 + 1) (o := 3) (.slice (some ⟨G3, 0, none⟩) l3 l3) (by simp only [Value.ownBlock, ne_eq, Option.some.injEq]; omega))
  have O2 := hide ((unhide O2).set_other (S := w.heap.size + 1 + 1) (o := 3) (.slice (some ⟨G3, 0, none⟩) l3 l3) (by simp only [Value.ownBlock, ne_eq, Option.some.injEq]; omega))
  have O3 := hide ((unhide O3).set_other (S := w.heap.size + 1 + 1) (o := 3) (.slice (some ⟨G3, 0, none⟩) l3 l3) (by simp only [Value.ownBlock, ne_eq, Option.some.injEq]; omega))
  have HB := hide ((unhide HB).setCell (p := ⟨w.heap.size + 1 + 1, 3, none⟩) (by simp; omega) (.slice (some ⟨G3, 0, none⟩) l3 l3))
  have szv3 : (v3.setCell ⟨w.heap.size + 1 + 1, 3, none⟩ (.slice (some ⟨G3, 0, none⟩) l3 l3)).heap.size = v3.heap.size := by simp [World.setCell]
  rw [← hV3] at KO KP KR HB szv3 O1 O2 O3
  have hO : Hid (Blk V3 (w.heap.size + 1 + 1) [(.int .i64 n), (.slice (some ⟨G1, 0, none⟩) l1 l1), (.slice (some ⟨G2, 0, none⟩) l2 l2), (.slice (some ⟨G3, 0, none⟩) l3 l3)]) := KO
  have u0 : V3.cell? ⟨w.heap.size + 1 + 1, 0, none⟩ = some (.int .i64 n) := (unhide hO).c 0 (by simp)
  have r0 : V3.cell? ⟨w.heap.size + 1, 0, none⟩ = some (.int .i64 0) := (unhide KR).c 0 (by simp)
  have t0 : V3.frozen? ⟨w.heap.size + 1, 0, none⟩ = false := (unhide KR).f 0 (by simp)
  have u1 : V3.cell? ⟨w.heap.size + 1 + 1, 1, none⟩ = some (.slice (some ⟨G1, 0, none⟩) l1 l1) := (unhide hO).c 1 (by simp)
  have r1 : V3.cell? ⟨w.heap.size + 1, 1, none⟩ = some (.slice none 0 0) := (unhide KR).c 1 (by simp)
  have t1 : V3.frozen? ⟨w.heap.size + 1, 1, none⟩ = false := (unhide KR).f 1 (by simp)
  have u2 : V3.cell? ⟨w.heap.size + 1 + 1, 2, none⟩ = some (.slice (some ⟨G2, 0, none⟩) l2 l2) := (unhide hO).c 2 (by simp)
  have r2 : V3.cell? ⟨w.heap.size + 1, 2, none⟩ = some (.slice none 0 0) := (unhide KR).c 2 (by simp)
  have t2 : V3.frozen? ⟨w.heap.size + 1, 2, none⟩ = false := (unhide KR).f 2 (by simp)
  have u3 : V3.cell? ⟨w.heap.size + 1 + 1, 3, none⟩ = some (.slice (some ⟨G3, 0, none⟩) l3 l3) := (unhide hO).c 3 (by simp)
  have r3 : V3.cell? ⟨w.heap.size + 1, 3, none⟩ = some (.slice none 0 0) := (unhide KR).c 3 (by simp)
  have t3 : V3.frozen? ⟨w.heap.size + 1, 3, none⟩ = false := (unhide KR).f 3 (by simp)
  rw [hV3] at u0 u1 u2 u3 r0 r1 r2 r3 t0 t1 t2 t3
  have HB := hide ((unhide HB).setCell (p := ⟨w.heap.size + 1, 0, none⟩) (by simp) (.int .i64 n))
  have O1 := hide ((unhide O1).set_other (S := w.heap.size + 1) (o := 0) (.int .i64 n) (by simp only [Value.ownBlock, ne_eq, Option.some.injEq]; omega))
  have O2 := hide ((unhide O2).set_other (S := w.heap.size + 1) (o := 0) (.int .i64 n) (by simp only [Value.ownBlock, ne_eq, Option.some.injEq]; omega))
  have O3 := hide ((unhide O3).set_other (S := w.heap.size + 1) (o := 0) (.int .i64 n) (by simp only [Value.ownBlock, ne_eq, Option.some.injEq]; omega))
  have HB := hide ((unhide HB).setCell (p := ⟨w.heap.size + 1, 1, none⟩) (by simp) (.slice (some ⟨G1, 0, none⟩) l1 l1))
  have O1 := hide ((unhide O1).set_other (S := w.heap.size + 1) (o := 1) (.slice (some ⟨G1, 0, none⟩) l1 l1) (by simp only [Value.ownBlock, ne_eq, Option.some.injEq]; omega))
  have O2 := hide ((unhide O2).set_other (S := w.heap.size + 1) (o := 1) (.slice (some ⟨G1, 0, none⟩) l1 l1) (by simp only [Value.ownBlock, ne_eq, Option.some.injEq]; omega))
  have O3 := hide ((unhide O3).set_other (S := w.heap.size + 1) (o := 1) (.slice (some ⟨G1, 0, none⟩) l1 l1) (by simp only [Value.ownBlock, ne_eq, Option.some.injEq]; omega))
  have HB := hide ((unhide HB).setCell (p := ⟨w.heap.size + 1, 2, none⟩) (by simp) (.slice (some ⟨G2, 0, none⟩) l2 l2))
  have O1 := hide ((unhide O1).set_other (S := w.heap.size + 1) (o := 2) (.slice (some ⟨G2, 0, none⟩) l2 l2) (by simp only [Value.ownBlock, ne_eq, Option.some.injEq]; omega))
  have O2 := hide ((unhide O2).set_other (S := w.heap.size + 1) (o := 2) (.slice (some ⟨G2, 0, none⟩) l2 l2) (by simp only [Value.ownBlock, ne_eq, Option.some.injEq]; omega))
  have O3 := hide ((unhide O3).set_other (S := w.heap.size + 1) (o := 2) (.slice (some ⟨G2, 0, none⟩) l2 l2) (by simp only [Value.ownBlock, ne_eq, Option.some.injEq]; omega))
  have HB := hide ((unhide HB).setCell (p := ⟨w.heap.size + 1, 3, none⟩) (by simp) (.slice (some ⟨G3, 0, none⟩) l3 l3))
  have O1 := hide ((unhide O1).set_other (S := w.heap.size + 1) (o := 3) (.slice (some ⟨G3, 0, none⟩) l3 l3) (by simp only [Value.ownBlock, ne_eq, Option.some.injEq]; omega))
  have O2 := hide ((unhide O2).set_other (S := w.heap.size + 1) (o := 3) (.slice (some ⟨G3, 0, none⟩) l3 l3) (by simp only [Value.ownBlock, ne_eq, Option.some.injEq]; omega))
  have O3 := hide ((unhide O3).set_other (S := w.heap.size + 1) (o := 3) (.slice (some ⟨G3, 0, none⟩) l3 l3) (by simp only [Value.ownBlock, ne_eq, Option.some.injEq]; omega))
  rw [hV3] at HB O1 O2 O3
  have HN := hide (NetOwn.mk ((unhide O1).mono (base' := w.heap.size) (by omega)) ((unhide O2).mono (base' := w.heap.size) (by omega)) ((unhide O3).mono (base' := w.heap.size) (by omega)) hs2 hs3)
  clear O1 O2 O3 KO KP KR hO hV3
  go_wp2_with fail
  refine bodyPost_ret (v := .agg #[(.int .i64 n), (.slice (some ⟨G1, 0, none⟩) l1 l1), (.slice (some ⟨G2, 0, none⟩) l2 l2), (.slice (some ⟨G3, 0, none⟩) l3 l3)]) (by simp [results, Try.results10, go_sem, *]) rfl ⟨⟨G1, G2, G3, rfl, unhide HN⟩, unhide HB⟩
theorem alike_all_sr (ss : List Sr) : ∀ i, i < ss.length → srAlike (elAt ss i) (elAt ss i) := fun _ _ => srAlike_refl _
theorem alike_all_ti (ts : List Ti) : ∀ i, i < ts.length → tiAlike (elAt ts i) (elAt ts i) := fun _ _ => tiAlike_refl _
theorem alike_all_us (us : List Us) : ∀ i, i < us.length → usAlike (elAt us i) (elAt us i) := fun _ _ => usAlike_refl _

set_option maxHeartbeats 2000000 in
theorem eqNet7_any (n : Int) (a1 a2 a3 : Option Addr) (l1 c1 l2 c2 l3 c3 : Nat) (b1 b2 b3 : Option Addr) (d1 d2 d3 : Nat) (ss : List Sr) (ts : List Ti) (us : List Us) (w : World) (hr : NetIn w a1 a2 a3 l1 l2 l3 ss ts us) (hq : NetIn w b1 b2 b3 l1 l2 l3 ss ts us) :
    Calls Try.prog 12 #[.agg #[.int .i64 n, .slice a1 l1 c1, .slice a2 l2 c2, .slice a3 l3 c3], .agg #[.int .i64 n, .slice b1 l1 d1, .slice b2 l2 d2, .slice b3 l3 d3]] w fun x w' => x = .returned (.bool true) ∧ Below w.heap.size w w' := by
  obtain ⟨W, hW⟩ : ∃ W, W = (w.alloc (Obj.cells #[.int .i64 n, .slice a1 l1 c1, .slice a2 l2 c2, .slice a3 l3 c3] 33)).alloc (Obj.cells #[.int .i64 n, .slice b1 l1 d1, .slice b2 l2 d2, .slice b3 l3 d3] 33) := ⟨_, rfl⟩
  have KA : Hid (Blk W w.heap.size [.int .i64 n, .slice a1 l1 c1, .slice a2 l2 c2, .slice a3 l3 c3]) := hide (by rw [hW]; exact (Blk.new (w := w) [.int .i64 n, .slice a1 l1 c1, .slice a2 l2 c2, .slice a3 l3 c3] 33).alloc _)
  have KB : Hid (Blk W (w.heap.size + 1) [.int .i64 n, .slice b1 l1 d1, .slice b2 l2 d2, .slice b3 l3 d3]) := hide (by
    rw [hW]
    have := Blk.new (w := w.alloc (Obj.cells #[.int .i64 n, .slice a1 l1 c1, .slice a2 l2 c2, .slice a3 l3 c3] 33)) [.int .i64 n, .slice b1 l1 d1, .slice b2 l2 d2, .slice b3 l3 d3] 33
    simpa using this)
  have HB : Hid (Below w.heap.size w W) := hide (by rw [hW]; exact bel2 _ _)
  have HA := hide (hr.below (unhide HB))
  have HQ := hide (hq.below (unhide HB))
  have hnn : (n != n) = false := by simp
  have HW := hide hW
  clear hr hq hW
  go_enter Try.func12, Try.ntmps12
  go_wp2_with fail
  rw [← unhide HW]
  clear HW
  refine (eqSourceS_alike _ _ _ _ _ _ ss ss _ (unhide HA).r1 (unhide HQ).r1 rfl (alike_all_sr ss)).mono ?_
  rintro x x1 ⟨rfl, bw⟩
  have HB := hide ((unhide HB).trans (bw.mono (unhide HB).size))
  have HA := hide ((unhide HA).below bw)
  have HQ := hide ((unhide HQ).below bw)
  have KA := hide ((unhide KA).below bw)
  have KB := hide ((unhide KB).below bw)
  clear bw
  have m2 : x1.cell? ⟨w.heap.size, 2, none⟩ = some (.slice a2 l2 c2) := (unhide KA).c 2 (by simp)
  have k2 : x1.cell? ⟨w.heap.size + 1, 2, none⟩ = some (.slice b2 l2 d2) := (unhide KB).c 2 (by simp)
  go_wp2_with fail
  clear m2 k2
  refine (eqTieS_alike _ _ _ _ _ _ ts ts _ (unhide HA).r2 (unhide HQ).r2 rfl (alike_all_ti ts)).mono ?_
  rintro x x2 ⟨rfl, bw⟩
  have HB := hide ((unhide HB).trans (bw.mono (unhide HB).size))
  have HA := hide ((unhide HA).below bw)
  have HQ := hide ((unhide HQ).below bw)
  have KA := hide ((unhide KA).below bw)
  have KB := hide ((unhide KB).below bw)
  clear bw
  have m3 : x2.cell? ⟨w.heap.size, 3, none⟩ = some (.slice a3 l3 c3) := (unhide KA).c 3 (by simp)
  have k3 : x2.cell? ⟨w.heap.size + 1, 3, none⟩ = some (.slice b3 l3 d3) := (unhide KB).c 3 (by simp)
  go_wp2_with fail
  clear m3 k3
  refine (eqUseS_alike _ _ _ _ _ _ us us _ (unhide HA).r3 (unhide HQ).r3 rfl (alike_all_us us)).mono ?_
  rintro x x3 ⟨rfl, bw⟩
  have HB := hide ((unhide HB).trans (bw.mono (unhide HB).size))
  have HA := hide ((unhide HA).below bw)
  have HQ := hide ((unhide HQ).below bw)
  have KA := hide ((unhide KA).below bw)
  have KB := hide ((unhide KB).below bw)
  clear bw
  go_wp2_with fail
  go_ret
  exact ⟨rfl, unhide HB⟩
end Go.Proofs.Ytfahhjgpgccdhap

/-
  The law's size, copy and comparison of a list of pairs of whole numbers (Burn). The copy at lists of at most 1048576; nothing that was there is written.
-/
import Derived.Test.YtbaocifpifbldajChecked
import Derived.Test.YtbaocifpifbldajOwn2
import Derived.Deep.DrawnRows
namespace Go.Proofs.Ytbaocifpifbldaj
open Go.RowKit
attribute [local go_sem ↓] Go.wp_at_zero Go.wp_at_succ

set_option maxHeartbeats 400000 in
theorem szBurnS_no (ad : Option Addr) (len cap : Nat) (left : Int) (w : World) (h0 : 0 ≤ left) (h1 : left ≤ 1048576) (hl : len ≤ 9223372036854775807) (h : left < len) :
    Calls Try.prog 18 #[.slice ad len cap, .int .i64 left] w fun e w' => e = .returned (.int .i64 (-1)) ∧ w' = w := by
  go_enter Try.func18, Try.ntmps18
  go_wp2
  go_ret
  exact ⟨rfl, rfl⟩

set_option maxHeartbeats 400000 in
theorem szBurnS_yes (ad : Option Addr) (len cap : Nat) (left : Int) (w : World) (h1 : left ≤ 1048576) (h : (len : Int) ≤ left) :
    Calls Try.prog 18 #[.slice ad len cap, .int .i64 left] w fun e w' => e = .returned (.int .i64 (left - len)) ∧ w' = w := by
  go_enter Try.func18, Try.ntmps18
  go_wp2
  go_ret
  exact ⟨rfl, rfl⟩

set_option maxHeartbeats 1000000 in
theorem toBurn_any (a b : Int) (w : World) :
    Calls Try.prog 52 #[.agg #[.int .i64 a, .int .i64 b]] w fun e w' => e = .returned (.agg #[.int .i64 a, .int .i64 b]) ∧ Below w.heap.size w w' := by
  go_enter Try.func52, Try.ntmps52
  go_wp2
  refine bodyPost_ret (v := .agg #[.int .i64 a, .int .i64 b]) (by simp [results, Try.results52, go_sem]) rfl ⟨rfl, ?_⟩
  repeat (first | exact bel3 _ _ _ | refine Below.setCell ?_ (by simp; try omega) _)

set_option maxHeartbeats 1000000 in
theorem eqBurn_same (a b : Int) (w : World) :
    Calls Try.prog 57 #[.agg #[.int .i64 a, .int .i64 b], .agg #[.int .i64 a, .int .i64 b]] w fun e w' => e = .returned (.bool true) ∧ Below w.heap.size w w' := by
  have e1 : (a != a) = false := by simp
  have e2 : (b != b) = false := by simp
  go_enter Try.func57, Try.ntmps57
  go_wp2
  go_ret
  exact ⟨rfl, bel2 _ _⟩

theorem infoBurn : (Try.prog.info? 76).map (fun i => (i.zero, i.size, i.bytes)) = some (some (.agg #[.int .i64 0, .int .i64 0]), 2, 16) := by kernel_rfl

/-- After k rounds of the copying; the new row lies in block B. -/
structure CopiedBurn (w wr : World) (B : Nat) (ps : List (Int × Int)) (k : Nat) : Prop where
  own : ∃ xs : List Value, wr.ownsRow B 76 2 (.slice (some ⟨B, 0, none⟩) ps.length ps.length) ps.length xs ∧ ∀ j, j < k → xs[j * 2]? = some (.int .i64 (fstAt ps j)) ∧ xs[j * 2 + 1]? = some (.int .i64 (sndAt ps j))
  bel : Below w.heap.size w wr
  here : B < wr.heap.size
  old : w.heap.size ≤ B

theorem CopiedBurn.at_ {w wr : World} {B : Nat} {ps : List (Int × Int)} {k : Nat} (h : CopiedBurn w wr B ps k) (i : Nat) (hi : i < ps.length * 2) : (∃ v, wr.cell? ⟨B, i, none⟩ = some v) ∧ wr.frozen? ⟨B, i, none⟩ = false := by
  obtain ⟨xs, ho, _⟩ := h.own
  refine ⟨?_, ho.frozenAt i⟩
  rw [ho.cellAt i hi]
  have := ho.1
  exact ⟨xs[i]'(by omega), List.getElem?_eq_getElem (by omega)⟩

theorem CopiedBurn.call {w wr w' : World} {B : Nat} {ps : List (Int × Int)} {k : Nat} (h : CopiedBurn w wr B ps k) (b : Below wr.heap.size wr w') : CopiedBurn w w' B ps k := by
  obtain ⟨xs, ho, hx⟩ := h.own
  exact ⟨⟨xs, ownsRow_below ho b, hx⟩, h.bel.trans (b.mono h.bel.size), Nat.lt_of_lt_of_le h.here b.size, h.old⟩

theorem CopiedBurn.step {w wr : World} {B : Nat} {ps : List (Int × Int)} {k : Nat} (h : CopiedBurn w wr B ps k) (hk : k < ps.length) :
    CopiedBurn w ((wr.setCell ⟨B, k * 2, none⟩ (.int .i64 (fstAt ps k))).setCell ⟨B, k * 2 + 1, none⟩ (.int .i64 (sndAt ps k))) B ps (k + 1) := by
  obtain ⟨xs, ho, hx⟩ := h.own
  have hl := ho.1
  have o1 := (ho.stored (k * 2) (.int .i64 (fstAt ps k))).1
  have o2 := (o1.stored (k * 2 + 1) (.int .i64 (sndAt ps k))).1
  refine ⟨⟨_, o2, fun j hj => ?_⟩, (h.bel.setCell h.old _).setCell h.old _, by have := h.here; simpa [World.setCell] using this, h.old⟩
  by_cases e : j = k
  · subst e
    constructor
    · rw [List.getElem?_set_ne (by omega), List.getElem?_set_self (by omega)]
    · rw [List.getElem?_set_self (by simp; omega)]
  · have := hx j (by omega)
    constructor
    · rw [List.getElem?_set_ne (by omega), List.getElem?_set_ne (by omega)]; exact this.1
    · rw [List.getElem?_set_ne (by omega), List.getElem?_set_ne (by omega)]; exact this.2

set_option maxHeartbeats 1000000 in
theorem toBurnS_own (ad : Option Addr) (len cap : Nat) (ps : List (Int × Int)) (w : World) (hr : Row2 w ad len ps) (hlen : len ≤ 1048576) :
    Calls Try.prog 21 #[.slice ad len cap] w fun e w' => e = .returned (.slice (some ⟨w.heap.size, 0, none⟩) len len) ∧ Own2 w' w.heap.size 76 (.slice (some ⟨w.heap.size, 0, none⟩) len len) ps ∧ Below w.heap.size w w' := by
  have hz := hr.len_eq
  have HO := hide hr.open_
  have HF := hide hr.fit
  clear hr
  subst hz
  obtain ⟨i0, hi, hz0, hz1, hz2⟩ := info_parts infoBurn
  go_enter Try.func21, Try.ntmps21
  go_wp2_with (at_make; refine wpList_make_full _ rfl (.tmp 6) (.tmp 6) 45 rfl w.heap.size 76 i0 (.agg #[.int .i64 0, .int .i64 0]) 2 Try.underlying45 hi hz0 hz1 .i64 .i64 _ _ ps.length rfl rfl rfl rfl (by rw [hz2]; omega) (by unfold maxLen; omega) (Nat.le_refl _) ?_; intro w1 hown hgrow)
  have hB : w.heap.size < w1.heap.size := (hown.lt w.heap.size rfl).2
  have HC0 : CopiedBurn w w1 w.heap.size ps 0 := ⟨⟨_, hown, fun j hj => by omega⟩, (Below.refl _ _).grown hgrow (Nat.le_refl _) (fun k hk => by cases hk), hB, Nat.le_refl _⟩
  clear hown hgrow hi hz0 hz1 hz2 hB
  go_loopw [4] (fun i wr => ∃ k : Nat, k ≤ ps.length ∧ i = .int .i64 k ∧ CopiedBurn w wr w.heap.size ps k) (fun i _ => ps.length - (intOf i).toNat)
  case atStart => exact ⟨0, Nat.zero_le _, rfl, HC0⟩
  case round =>
    obtain ⟨k, hk, rfl, hcp⟩ := hrel
    by_cases hlt : k < ps.length
    · rcases (unhide HO) with ⟨h0, _⟩ | ⟨bb, off, rfl, _, hc⟩
      · simp [h0] at hlt
      obtain ⟨hca, hcb⟩ := hc k hlt
      have hca := (hcp.bel.cell (block_lt_of_cell hca)).trans hca
      have hcb := (hcp.bel.cell (block_lt_of_cell hcb)).trans hcb
      have HCP := hide hcp
      have hi1 : (k : Int) < (ps.length : Int) := by omega
      clear hc hcp HC0
      go_wp2_with fail
      refine (toBurn_any _ _ _).mono ?_
      rintro e w2 ⟨rfl, hb2⟩
      have hc2 := (unhide HCP).call hb2
      obtain ⟨⟨va, hsa⟩, hfa⟩ := hc2.at_ (k * 2) (by omega)
      obtain ⟨⟨vb, hsb⟩, hfb⟩ := hc2.at_ (k * 2 + 1) (by omega)
      have HS := hide (hc2.step hlt)
      clear hb2 hc2
      go_wp2
      go_roundw
      case rel => exact ⟨k + 1, by omega, by go_num, unhide HS⟩
      case measure => simp [intOf]; omega
    · have hkk : k = ps.length := by omega
      subst hkk
      have HR := hide (show Own2 _ w.heap.size 76 (.slice (some ⟨w.heap.size, 0, none⟩) ps.length ps.length) ps from ⟨hcp.own, unhide HF⟩)
      have HB := hide hcp.bel
      go_wp2
      go_ret
      exact ⟨rfl, unhide HR, unhide HB⟩

theorem toBurnS_any (ad : Option Addr) (len cap : Nat) (ps : List (Int × Int)) (w : World) (hr : Row2 w ad len ps) (hlen : len ≤ 1048576) :
    Calls Try.prog 21 #[.slice ad len cap] w fun e w' => e = .returned (.slice (some ⟨w.heap.size, 0, none⟩) len len) ∧ Row2 w' (some ⟨w.heap.size, 0, none⟩) len ps ∧ Below w.heap.size w w' :=
  (toBurnS_own ad len cap ps w hr hlen).mono fun _ _ ⟨he, ho, hb⟩ => ⟨he, ho.row, hb⟩

set_option maxHeartbeats 1000000 in
theorem eqBurnS_same (ad bd : Option Addr) (len cap len2 cap2 : Nat) (ps : List (Int × Int)) (w : World) (hr : Row2 w ad len ps) (hr2 : Row2 w bd len2 ps) :
    Calls Try.prog 24 #[.slice ad len cap, .slice bd len2 cap2] w fun e w' => e = .returned (.bool true) ∧ Below w.heap.size w w' := by
  have hz := hr.len_eq
  have hs := hr.small
  have HO := hide hr.open_
  have hz2 := hr2.len_eq
  have HO2 := hide hr2.open_
  clear hr hr2
  subst hz
  subst hz2
  have hb : ((ps.length : Int) != (ps.length : Int)) = false := by simp
  go_enter Try.func24, Try.ntmps24
  go_wp2
  go_loopw [5] (fun i wr => ∃ k : Nat, k ≤ ps.length ∧ i = .int .i64 k ∧ Below w.heap.size w wr) (fun i _ => ps.length - (intOf i).toNat)
  case atStart => exact ⟨0, Nat.zero_le _, rfl, Below.refl _ _⟩
  case round =>
    obtain ⟨k, hk, rfl, hbel⟩ := hrel
    have HB := hide hbel
    clear hbel
    by_cases hlt : k < ps.length
    · rcases (unhide HO) with ⟨h0, _⟩ | ⟨bb, off, rfl, _, hc⟩
      · simp [h0] at hlt
      rcases (unhide HO2) with ⟨h0, _⟩ | ⟨bb2, off2, rfl, _, hc2⟩
      · simp [h0] at hlt
      obtain ⟨ca, cb⟩ := hc k hlt
      obtain ⟨da, db⟩ := hc2 k hlt
      have ca := ((unhide HB).cell (block_lt_of_cell ca)).trans ca
      have cb := ((unhide HB).cell (block_lt_of_cell cb)).trans cb
      have da := ((unhide HB).cell (block_lt_of_cell da)).trans da
      have db := ((unhide HB).cell (block_lt_of_cell db)).trans db
      have lc := block_lt_of_cell ca
      have ld := block_lt_of_cell da
      have hi1 : (0 : Int) ≤ (k : Int) := by omega
      have hi2 : (k : Int) < (ps.length : Int) := by omega
      clear hc hc2
      go_wp2
      go_region_held3 (fun w' => w'.cell? ⟨bb, off + k * 2, none⟩ = some (.int .i64 (fstAt ps k)) ∧ w'.cell? ⟨bb, off + k * 2 + 1, none⟩ = some (.int .i64 (sndAt ps k)) ∧ w'.cell? ⟨bb2, off2 + k * 2, none⟩ = some (.int .i64 (fstAt ps k)) ∧ w'.cell? ⟨bb2, off2 + k * 2 + 1, none⟩ = some (.int .i64 (sndAt ps k))) (go_keep)
        ((go_at_call 57; refine (eqBurn_same _ _ _).mono ?_; rintro e w3 ⟨rfl, b3⟩; have ca := (b3.cell (p := ⟨bb, off + k * 2, none⟩) lc).trans ca; have cb := (b3.cell (p := ⟨bb, off + k * 2 + 1, none⟩) lc).trans cb; have da := (b3.cell (p := ⟨bb2, off2 + k * 2, none⟩) ld).trans da; have db := (b3.cell (p := ⟨bb2, off2 + k * 2 + 1, none⟩) ld).trans db))
      have HB3 := hide ((unhide HB).trans (((bel0d' 1).trans (b3.mono (Nat.le_refl _))).mono (by have := (unhide HB).size; simp; omega)))
      clear b3
      go_wp2
      go_roundw
      case rel => exact ⟨k + 1, by omega, by go_num, unhide HB3⟩
      case measure => simp [intOf]; omega
    · go_wp2
      go_ret
      exact ⟨rfl, unhide HB⟩

end Go.Proofs.Ytbaocifpifbldaj

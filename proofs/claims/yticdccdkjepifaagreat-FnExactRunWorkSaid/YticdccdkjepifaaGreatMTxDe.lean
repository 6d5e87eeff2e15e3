/-
  The law's size, copy and comparison of a Deed19 and of a list of them. The copy at lists of at most 1048576; nothing that was there is written.
  The law's marks in a list of Deed19s that a call has made: a text and numbers get the next numbers, and nothing else is written; the marks are found again. At lists of at most 1048576.
-/
import Derived.Test.YticdccdkjepifaaGreatMWrOrd
import Derived.Test.YticdccdkjepifaaGreatMStrRow
import Derived.Deep.DrawnRows
import Derived.Laws.MakeOwn
import Derived.Test.YticdccdkjepifaaGreatMOnly
import Derived.Deep.RegionHeld3

namespace Go.Proofs.YticdccdkjepifaaGreat
open Go.RowKit

set_option maxHeartbeats 1000000 in
theorem szDeed19_any (k : Int) (n : ByteArray) (i : Int) (m : Int) (left : Int) (w : World) (hp : n.size ≤ 9223372036854775807) (hl0 : 0 ≤ left) (hl1 : left ≤ 1048576) :
    Calls Tryz.prog 21 #[.agg #[.int .i64 k, .string n, .int .i64 i, .int .i64 m], .int .i64 left] w fun x w' => (∃ r : Int, x = .returned (.int .i64 r) ∧ (r < 0 ∨ (0 ≤ r ∧ r ≤ left ∧ n.size ≤ 1048576))) ∧ Below w.heap.size w w' := by
  by_cases q0 : (n.size : Int) ≤ left
  · have n0 : ¬ left - (n.size : Int) < 0 := by omega
    go_enter Tryz.func21, Tryz.ntmps21
    go_wp2_with fail
    go_ret
    exact ⟨⟨_, rfl, .inr ⟨by omega, by omega, by omega⟩⟩, bel1 _⟩
  · have n0 : left - (n.size : Int) < 0 := by omega
    go_enter Tryz.func21, Tryz.ntmps21
    go_wp2_with fail
    go_ret
    exact ⟨⟨-1, rfl, .inl (by omega)⟩, bel1 _⟩
set_option maxHeartbeats 1000000 in
theorem toDeed19_any (k : Int) (n : ByteArray) (i : Int) (m : Int) (w : World) :
    Calls Tryz.prog 28 #[.agg #[.int .i64 k, .string n, .int .i64 i, .int .i64 m]] w fun e w' => e = .returned (.agg #[.int .i64 k, .string n, .int .i64 i, .int .i64 m]) ∧ Below w.heap.size w w' := by
  go_enter Tryz.func28, Tryz.ntmps28
  go_wp2
  refine bodyPost_ret (v := .agg #[.int .i64 k, .string n, .int .i64 i, .int .i64 m]) (by simp [results, Tryz.results28, go_sem]) rfl ⟨rfl, ?_⟩
  repeat (first | exact bel3 _ _ _ | refine Below.setCell ?_ (by simp; try omega) _)

set_option maxHeartbeats 1000000 in
theorem eqDeed19_same (k : Int) (n : ByteArray) (i : Int) (m : Int) (w : World) :
    Calls Tryz.prog 37 #[.agg #[.int .i64 k, .string n, .int .i64 i, .int .i64 m], .agg #[.int .i64 k, .string n, .int .i64 i, .int .i64 m]] w fun e w' => e = .returned (.bool true) ∧ Below w.heap.size w w' := by
  go_enter Tryz.func37, Tryz.ntmps37
  go_wp2_with fail
  go_ret
  exact ⟨rfl, bel2 _ _⟩

set_option maxHeartbeats 1000000 in
theorem szDeed19S_any (ad : Option Addr) (len cap : Nat) (ps : List De) (left : Int) (w : World) (hr : RowE 4 deC w ad len ps) (hfit : ∀ i, fitT (elAt ps i).n) (h0 : 0 ≤ left) (h1 : left ≤ 1048576) :
    Calls Tryz.prog 5 #[.slice ad len cap, .int .i64 left] w fun x w' => (∃ r : Int, x = .returned (.int .i64 r) ∧ (r < 0 ∨ (0 ≤ r ∧ r ≤ left ∧ len ≤ 1048576))) ∧ Below w.heap.size w w' := by
  have hs := hr.small
  have HR := hide hr
  have HFIT := hide hfit
  clear hr hfit
  by_cases hbig : left < (len : Int)
  · go_enter Tryz.func5, Tryz.ntmps5
    go_wp2
    go_ret
    exact ⟨⟨-1, rfl, by omega⟩, Below.refl _ _⟩
  have hle : (len : Int) ≤ left := by omega
  have hl20 : (len : Int) ≤ 1048576 := by omega
  go_enter Tryz.func5, Tryz.ntmps5
  go_wp2_with fail
  go_loopw [1, 5] (fun lv iv wr => ∃ (k : Nat) (q : Int), k ≤ len ∧ iv = .int .i64 k ∧ lv = .int .i64 q ∧ (0 ≤ q ∧ q ≤ left) ∧ Below w.heap.size w wr) (fun _ i _ => len - (intOf i).toNat)
  case atStart => exact ⟨0, left - len, Nat.zero_le _, rfl, rfl, by omega, Below.refl _ _⟩
  case round =>
    obtain ⟨k, q, hk, rfl, rfl, hq, hbel⟩ := hrel
    by_cases hlt : k < len
    · obtain ⟨bb, off, rfl, hc⟩ := (unhide HR).at_ k hlt
      have c0 : w.cell? ⟨bb, off + k * 4, none⟩ = some (.int .i64 (elAt ps k).k) := hc 0 (by omega)
      have c0 := (hbel.cell (block_lt_of_cell c0)).trans c0
      have c1 : w.cell? ⟨bb, off + k * 4 + 1, none⟩ = some (.string (elAt ps k).n) := hc 1 (by omega)
      have c1 := (hbel.cell (block_lt_of_cell c1)).trans c1
      have c2 : w.cell? ⟨bb, off + k * 4 + 2, none⟩ = some (.int .i64 (elAt ps k).i) := hc 2 (by omega)
      have c2 := (hbel.cell (block_lt_of_cell c2)).trans c2
      have c3 : w.cell? ⟨bb, off + k * 4 + 3, none⟩ = some (.int .i64 (elAt ps k).m) := hc 3 (by omega)
      have c3 := (hbel.cell (block_lt_of_cell c3)).trans c3
      have hn : (elAt ps k).n.size ≤ 9223372036854775807 := unhide HFIT k
      have hi1 : (k : Int) < (len : Int) := by omega
      have HB := hide hbel
      clear hc hbel
      go_wp2_with fail
      refine (szDeed19_any _ _ _ _ q _ hn hq.1 (by omega)).mono ?_
      rintro x w1 ⟨⟨r, rfl, hr⟩, b1⟩
      have HB1 := hide ((unhide HB).trans (b1.mono (unhide HB).size))
      clear b1 c0 c1 c2 c3
      rcases hr with hr | hr
      · go_wp2_with fail
        go_ret
        exact ⟨⟨-1, rfl, by omega⟩, unhide HB1⟩
      · have hr0 : ¬ r < 0 := by omega
        go_wp2_with fail
        go_roundw
        case rel => exact ⟨k + 1, r, by omega, by go_num, rfl, by omega, unhide HB1⟩
        case measure => simp [intOf]; omega
    · have HB := hide hbel
      have hi1 : ¬ (k : Int) < (len : Int) := by omega
      clear hbel
      go_wp2_with fail
      go_ret
      exact ⟨⟨q, rfl, by omega⟩, unhide HB⟩

/-- After k rounds of the copying; the new row lies in block B. -/
structure CopiedDe (T : TypeId) (w wr : World) (B : Nat) (ps : List De) (k : Nat) : Prop where
  own : ∃ xs : List Value, wr.ownsRow B T 4 (.slice (some ⟨B, 0, none⟩) ps.length ps.length) ps.length xs ∧ ∀ j, j < k → ∀ q, q < 4 → xs[j * 4 + q]? = some (deC (elAt ps j) q)
  bel : Below w.heap.size w wr
  here : B < wr.heap.size
  old : w.heap.size ≤ B
theorem CopiedDe.at_ {T : TypeId} {w wr : World} {B : Nat} {ps : List De} {k : Nat} (h : CopiedDe T w wr B ps k) (i : Nat) (hi : i < ps.length * 4) : (∃ v, wr.cell? ⟨B, i, none⟩ = some v) ∧ wr.frozen? ⟨B, i, none⟩ = false := by
  obtain ⟨xs, ho, _⟩ := h.own
  refine ⟨?_, ho.frozenAt i⟩
  rw [ho.cellAt i hi]
  have := ho.1
  exact ⟨xs[i]'(by omega), List.getElem?_eq_getElem (by omega)⟩
theorem CopiedDe.call {T : TypeId} {w wr w' : World} {B : Nat} {ps : List De} {k : Nat} (h : CopiedDe T w wr B ps k) (b : Below wr.heap.size wr w') : CopiedDe T w w' B ps k := by
  obtain ⟨xs, ho, hx⟩ := h.own
  exact ⟨⟨xs, ownsRow_below ho b, hx⟩, h.bel.trans (b.mono h.bel.size), Nat.lt_of_lt_of_le h.here b.size, h.old⟩
theorem CopiedDe.step {T : TypeId} {w wr : World} {B : Nat} {ps : List De} {k : Nat} (h : CopiedDe T w wr B ps k) (hk : k < ps.length) :
    CopiedDe T w ((((wr.setCell ⟨B, k * 4, none⟩ (.int .i64 (elAt ps k).k)).setCell ⟨B, k * 4 + 1, none⟩ (.string (elAt ps k).n)).setCell ⟨B, k * 4 + 2, none⟩ (.int .i64 (elAt ps k).i)).setCell ⟨B, k * 4 + 3, none⟩ (.int .i64 (elAt ps k).m)) B ps (k + 1) := by
  obtain ⟨xs, ho, hx⟩ := h.own
  have hl := ho.1
  have o0 := (ho.stored (k * 4) (.int .i64 (elAt ps k).k)).1
  have o1 := (o0.stored (k * 4 + 1) (.string (elAt ps k).n)).1
  have o2 := (o1.stored (k * 4 + 2) (.int .i64 (elAt ps k).i)).1
  have o3 := (o2.stored (k * 4 + 3) (.int .i64 (elAt ps k).m)).1
  refine ⟨⟨_, o3, fun j hj q hq => ?_⟩, ((((h.bel.setCell h.old _).setCell h.old _).setCell h.old _).setCell h.old _), by have := h.here; simpa [World.setCell] using this, h.old⟩
  by_cases e : j = k
  · subst e
    have hq' : q = 0 ∨ q = 1 ∨ q = 2 ∨ q = 3 := by omega
    rcases hq' with rfl | rfl | rfl | rfl
    · rw [List.getElem?_set_ne (by omega), List.getElem?_set_ne (by omega), List.getElem?_set_ne (by omega)]; exact List.getElem?_set_self (by first | omega | (simp; omega))
    · rw [List.getElem?_set_ne (by omega), List.getElem?_set_ne (by omega)]; exact List.getElem?_set_self (by first | omega | (simp; omega))
    · rw [List.getElem?_set_ne (by omega)]; exact List.getElem?_set_self (by first | omega | (simp; omega))
    · exact List.getElem?_set_self (by first | omega | (simp; omega))
  · rw [List.getElem?_set_ne (by omega), List.getElem?_set_ne (by omega), List.getElem?_set_ne (by omega), List.getElem?_set_ne (by omega)]
    exact hx j (by omega) q hq

theorem infoDe : (Tryz.prog.info? 60).map (fun i => (i.zero, i.size, i.bytes)) = some (some (.agg #[.int .i64 0, .string ⟨#[]⟩, .int .i64 0, .int .i64 0]), 4, 40) := by kernel_rfl
set_option maxHeartbeats 1000000 in
theorem toDeed19S_own (ad : Option Addr) (len cap : Nat) (ps : List De) (w : World) (hr : RowE 4 deC w ad len ps) (hlen : len ≤ 1048576) :
    Calls Tryz.prog 8 #[.slice ad len cap] w fun e w' => e = .returned (.slice (some ⟨w.heap.size, 0, none⟩) len len) ∧ OwnE 4 deC w' w.heap.size 60 (.slice (some ⟨w.heap.size, 0, none⟩) len len) ps ∧ Below w.heap.size w w' := by
  have hz := hr.len_eq
  have HO := hide hr
  clear hr
  subst hz
  obtain ⟨i0, hi, hz0, hz1, hz2⟩ := info_parts infoDe
  go_enter Tryz.func8, Tryz.ntmps8
  go_wp2_with (at_make; refine wpList_make_full _ rfl (.tmp 6) (.tmp 6) 42 rfl w.heap.size 60 i0 (.agg #[.int .i64 0, .string ⟨#[]⟩, .int .i64 0, .int .i64 0]) 4 Tryz.underlying42 hi hz0 hz1 .i64 .i64 _ _ ps.length rfl rfl rfl rfl (by rw [hz2]; omega) (by unfold maxLen; omega) (Nat.le_refl _) ?_; intro w1 hown hgrow)
  have hB : w.heap.size < w1.heap.size := (hown.lt w.heap.size rfl).2
  have HC0 : CopiedDe 60 w w1 w.heap.size ps 0 := ⟨⟨_, hown, fun j hj => by omega⟩, (Below.refl _ _).grown hgrow (Nat.le_refl _) (fun k hk => by cases hk), hB, Nat.le_refl _⟩
  clear hown hgrow hi hz0 hz1 hz2 hB
  go_loopw [4] (fun i wr => ∃ k : Nat, k ≤ ps.length ∧ i = .int .i64 k ∧ CopiedDe 60 w wr w.heap.size ps k) (fun i _ => ps.length - (intOf i).toNat)
  case atStart => exact ⟨0, Nat.zero_le _, rfl, HC0⟩
  case round =>
    obtain ⟨k, hk, rfl, hcp⟩ := hrel
    by_cases hlt : k < ps.length
    · obtain ⟨bb, off, rfl, hc⟩ := (unhide HO).at_ k hlt
      have c0 : w.cell? ⟨bb, off + k * 4, none⟩ = some (.int .i64 (elAt ps k).k) := hc 0 (by omega)
      have c0 := (hcp.bel.cell (block_lt_of_cell c0)).trans c0
      have c1 : w.cell? ⟨bb, off + k * 4 + 1, none⟩ = some (.string (elAt ps k).n) := hc 1 (by omega)
      have c1 := (hcp.bel.cell (block_lt_of_cell c1)).trans c1
      have c2 : w.cell? ⟨bb, off + k * 4 + 2, none⟩ = some (.int .i64 (elAt ps k).i) := hc 2 (by omega)
      have c2 := (hcp.bel.cell (block_lt_of_cell c2)).trans c2
      have c3 : w.cell? ⟨bb, off + k * 4 + 3, none⟩ = some (.int .i64 (elAt ps k).m) := hc 3 (by omega)
      have c3 := (hcp.bel.cell (block_lt_of_cell c3)).trans c3
      have HCP := hide hcp
      have hi1 : (k : Int) < (ps.length : Int) := by omega
      clear hc hcp HC0
      go_wp2_with fail
      refine (toDeed19_any _ _ _ _ _).mono ?_
      rintro e w2 ⟨rfl, hb2⟩
      have hc2 := (unhide HCP).call hb2
      obtain ⟨⟨v0, hs0⟩, hf0⟩ := hc2.at_ (k * 4) (by omega)
      obtain ⟨⟨v1, hs1⟩, hf1⟩ := hc2.at_ (k * 4 + 1) (by omega)
      obtain ⟨⟨v2, hs2⟩, hf2⟩ := hc2.at_ (k * 4 + 2) (by omega)
      obtain ⟨⟨v3, hs3⟩, hf3⟩ := hc2.at_ (k * 4 + 3) (by omega)
      have HS := hide (hc2.step hlt)
      clear hb2 hc2
      go_wp2
      go_roundw
      case rel => exact ⟨k + 1, by omega, by go_num, unhide HS⟩
      case measure => simp [intOf]; omega
    · have hkk : k = ps.length := by omega
      subst hkk
      have HR := hide (show OwnE 4 deC _ w.heap.size 60 (.slice (some ⟨w.heap.size, 0, none⟩) ps.length ps.length) ps from ⟨hcp.own⟩)
      have HB := hide hcp.bel
      go_wp2
      go_ret
      exact ⟨rfl, unhide HR, unhide HB⟩
set_option maxHeartbeats 1000000 in
theorem eqDeed19S_sm (ad bd : Option Addr) (len cap cap2 : Nat) (ps : List De) (w : World) (hr : RowE 4 deC w ad len ps) (hr2 : RowE 4 deC w bd len ps) :
    Calls Tryz.prog 12 #[.slice ad len cap, .slice bd len cap2] w fun e w' => e = .returned (.bool true) ∧ Below w.heap.size w w' := by
  have hs := hr.small
  have HO := hide hr
  have HO2 := hide hr2
  clear hr hr2
  have hb : ((len : Int) != (len : Int)) = false := by simp
  go_enter Tryz.func12, Tryz.ntmps12
  go_wp2
  go_loopw [5] (fun i wr => ∃ k : Nat, k ≤ len ∧ i = .int .i64 k ∧ Below w.heap.size w wr) (fun i _ => len - (intOf i).toNat)
  case atStart => exact ⟨0, Nat.zero_le _, rfl, Below.refl _ _⟩
  case round =>
    obtain ⟨k, hk, rfl, hbel⟩ := hrel
    by_cases hlt : k < len
    · obtain ⟨bb, off, rfl, hc⟩ := ((unhide HO).below hbel).at_ k hlt
      obtain ⟨bb2, off2, rfl, hc2⟩ := ((unhide HO2).below hbel).at_ k hlt
      obtain ⟨ι, f, _, hbf, hall⟩ := belClass wr
      have c0 : wr.cell? ⟨bb, off + k * 4, none⟩ = some (.int .i64 (elAt ps k).k) := hc 0 (by omega)
      have C0 : ∀ x, (f x).cell? ⟨bb, off + k * 4, none⟩ = some (.int .i64 (elAt ps k).k) := fun x => ((hbf x).cell (block_lt_of_cell c0)).trans c0
      have c1 : wr.cell? ⟨bb, off + k * 4 + 1, none⟩ = some (.string (elAt ps k).n) := hc 1 (by omega)
      have C1 : ∀ x, (f x).cell? ⟨bb, off + k * 4 + 1, none⟩ = some (.string (elAt ps k).n) := fun x => ((hbf x).cell (block_lt_of_cell c1)).trans c1
      have c2 : wr.cell? ⟨bb, off + k * 4 + 2, none⟩ = some (.int .i64 (elAt ps k).i) := hc 2 (by omega)
      have C2 : ∀ x, (f x).cell? ⟨bb, off + k * 4 + 2, none⟩ = some (.int .i64 (elAt ps k).i) := fun x => ((hbf x).cell (block_lt_of_cell c2)).trans c2
      have c3 : wr.cell? ⟨bb, off + k * 4 + 3, none⟩ = some (.int .i64 (elAt ps k).m) := hc 3 (by omega)
      have C3 : ∀ x, (f x).cell? ⟨bb, off + k * 4 + 3, none⟩ = some (.int .i64 (elAt ps k).m) := fun x => ((hbf x).cell (block_lt_of_cell c3)).trans c3
      have d0 : wr.cell? ⟨bb2, off2 + k * 4, none⟩ = some (.int .i64 (elAt ps k).k) := hc2 0 (by omega)
      have D0 : ∀ x, (f x).cell? ⟨bb2, off2 + k * 4, none⟩ = some (.int .i64 (elAt ps k).k) := fun x => ((hbf x).cell (block_lt_of_cell d0)).trans d0
      have d1 : wr.cell? ⟨bb2, off2 + k * 4 + 1, none⟩ = some (.string (elAt ps k).n) := hc2 1 (by omega)
      have D1 : ∀ x, (f x).cell? ⟨bb2, off2 + k * 4 + 1, none⟩ = some (.string (elAt ps k).n) := fun x => ((hbf x).cell (block_lt_of_cell d1)).trans d1
      have d2 : wr.cell? ⟨bb2, off2 + k * 4 + 2, none⟩ = some (.int .i64 (elAt ps k).i) := hc2 2 (by omega)
      have D2 : ∀ x, (f x).cell? ⟨bb2, off2 + k * 4 + 2, none⟩ = some (.int .i64 (elAt ps k).i) := fun x => ((hbf x).cell (block_lt_of_cell d2)).trans d2
      have d3 : wr.cell? ⟨bb2, off2 + k * 4 + 3, none⟩ = some (.int .i64 (elAt ps k).m) := hc2 3 (by omega)
      have D3 : ∀ x, (f x).cell? ⟨bb2, off2 + k * 4 + 3, none⟩ = some (.int .i64 (elAt ps k).m) := fun x => ((hbf x).cell (block_lt_of_cell d3)).trans d3
      clear c0 d0 c1 d1 c2 d2 c3 d3
      have hi1 : (k : Int) < (len : Int) := by omega
      have HF := hide hbf
      have HA := hide hall
      have HB := hide hbel
      clear hc hc2 hbf hall hbel
      go_wp2_with fail
      refine wp_region_bel (unhide HA) (by kernel_rfl) (by kernel_rfl) ?_
      repeat (go_big_quiet_step (first | (go_at_call 37; exact belQ (unhide HF) (unhide HA) (eqDeed19_same _ _ _ _ _))))
      refine wpQuiet_nil ?_
      rintro _ ⟨x3, rfl⟩
      have HB3 := hide ((unhide HB).trans ((unhide HF x3).mono (unhide HB).size))
      go_wp2_with fail
      go_roundw
      case rel => exact ⟨k + 1, by omega, by go_num, unhide HB3⟩
      case measure => simp [intOf]; omega
    · have HB := hide hbel
      have hi1 : ¬ (k : Int) < (len : Int) := by omega
      clear hbel
      go_wp2_with fail
      go_ret
      exact ⟨rfl, unhide HB⟩
theorem eqDeed19S_same (ad bd : Option Addr) (len cap len2 cap2 : Nat) (ps : List De) (w : World) (hr : RowE 4 deC w ad len ps) (hr2 : RowE 4 deC w bd len2 ps) :
    Calls Tryz.prog 12 #[.slice ad len cap, .slice bd len2 cap2] w fun e w' => e = .returned (.bool true) ∧ Below w.heap.size w w' := by
  have e1 := hr.len_eq
  have e2 := hr2.len_eq
  subst e1
  subst e2
  exact eqDeed19S_sm ad bd _ cap cap2 ps w hr hr2

end Go.Proofs.YticdccdkjepifaaGreat

namespace Go.Proofs.YticdccdkjepifaaGreat
open Go Go.RowKit

def mkDe (n : Int) : De := ⟨n, mkT (n + 1), n + 1 + 1, n + 1 + 1 + 1⟩
theorem grownBDe {w w' : World} (h : Below w.heap.size w w') (row : Option Nat) : w.grownBy w' row := ⟨h.os, h.tape, h.output, h.size, fun k hk _ => h.block k hk⟩
theorem grownTDe {w w1 w2 : World} {row : Option Nat} (h : w.grownBy w1 row) (k : w1.grownBy w2 row) : w.grownBy w2 row := ⟨k.os.trans h.os, k.tape.trans h.tape, k.output.trans h.output, Nat.le_trans h.size k.size, fun i hi hne => (k.block i (Nat.lt_of_lt_of_le hi h.size) hne).trans (h.block i hi hne)⟩
set_option maxRecDepth 20000 in
set_option maxHeartbeats 2000000 in
theorem markDeed19S_any (base : Nat) (a : Option Addr) (len c : Nat) (ps : List De) (k : Int) (w : World) (ho : OwnE 4 deC w base 60 (.slice a len c) ps) (hl : ps.length = len) (h1 : len ≤ 1048576) (hk0 : 1 ≤ k) (hk1 : k ≤ 900000000) :
    Calls Tryz.prog 14 #[.slice a len c, .int .i64 k] w fun e w' => e = .returned (.int .i64 (k + 4 * len)) ∧ OwnE 4 deC w' base 60 (.slice a len c) (markL mkDe 4 ps k len) ∧ w.grownBy w' (Value.slice a len c).ownBlock := by
  subst hl
  go_enter Tryz.func14, Tryz.ntmps14
  go_wp2
  go_loopw [1, 5] (fun kk i wr => ∃ j : Nat, j ≤ ps.length ∧ i = .int .i64 j ∧ kk = .int .i64 (k + 4 * j) ∧ OwnE 4 deC wr base 60 (.slice a ps.length c) (markL mkDe 4 ps k j) ∧ w.grownBy wr (Value.slice a ps.length c).ownBlock) (fun _ i _ => ps.length - (intOf i).toNat)
  case atStart => exact ⟨0, Nat.zero_le _, rfl, by simp, ho, grown_refl _ _⟩
  case round =>
    obtain ⟨j, hj, rfl, rfl, how, hgr⟩ := hrel
    have hml := markL_len mkDe 4 ps k j
    by_cases hlt : j < ps.length
    · have hi1 : (j : Int) < (ps.length : Int) := by omega
      have HOW := hide how
      have HGR := hide hgr
      have HML := hide hml
      clear how hgr hml
      have how := unhide HOW
      have hml := unhide HML
      rcases how.form with ⟨_, h0⟩ | ⟨g, c', hv, hg1, hg2, hc1, _⟩
      · rw [h0] at hml; simp at hml; omega
      simp only [Value.slice.injEq] at hv
      obtain ⟨rfl, hx, rfl⟩ := hv
      clear hx hc1
      have n0 : wr.cell? ⟨g, j * 4, none⟩ = some (.int .i64 (elAt (markL mkDe 4 ps k j) j).k) := (how.here hml j hlt 0 (by omega)).1
      have z0 : wr.frozen? ⟨g, j * 4, none⟩ = false := (how.here hml j hlt 0 (by omega)).2
      have o0 := hide (how.setOne hml j hlt 0 (by omega) (.int .i64 (k + 4 * (j : Int))) ⟨k + 4 * (j : Int), (elAt (markL mkDe 4 ps k j) j).n, (elAt (markL mkDe 4 ps k j) j).i, (elAt (markL mkDe 4 ps k j) j).m⟩ (by intro p hp; rcases (show p = 0 ∨ p = 1 ∨ p = 2 ∨ p = 3 from by omega) with rfl | rfl | rfl | rfl <;> rfl))
      have hgr0 := hide (grown_set (unhide HGR) (j * 4) (.int .i64 (k + 4 * (j : Int))))
      clear how
      go_wp2_with fail
      refine (markText_any _ _ (by omega) (by omega)).mono ?_
      rintro e w1 ⟨rfl, b1⟩
      have o0 := (unhide o0).below b1
      have hgr := grownTDe (unhide hgr0) (grownBDe b1 _)
      have hml2 : ((markL mkDe 4 ps k j).set j ⟨k + 4 * (j : Int), (elAt (markL mkDe 4 ps k j) j).n, (elAt (markL mkDe 4 ps k j) j).i, (elAt (markL mkDe 4 ps k j) j).m⟩).length = ps.length := by rw [List.length_set]; exact hml
      have ee : elAt ((markL mkDe 4 ps k j).set j ⟨k + 4 * (j : Int), (elAt (markL mkDe 4 ps k j) j).n, (elAt (markL mkDe 4 ps k j) j).i, (elAt (markL mkDe 4 ps k j) j).m⟩) j = ⟨k + 4 * (j : Int), (elAt (markL mkDe 4 ps k j) j).n, (elAt (markL mkDe 4 ps k j) j).i, (elAt (markL mkDe 4 ps k j) j).m⟩ := by rw [elAt_set _ _ _ _ (by omega), if_pos rfl]
      have n1 : w1.cell? ⟨g, j * 4 + 1, none⟩ = some (.string (elAt (markL mkDe 4 ps k j) j).n) := by have q := (o0.here hml2 j hlt 1 (by omega)).1; rw [ee] at q; exact q
      have z1 : w1.frozen? ⟨g, j * 4 + 1, none⟩ = false := (o0.here hml2 j hlt 1 (by omega)).2
      have n2 : w1.cell? ⟨g, j * 4 + 2, none⟩ = some (.int .i64 (elAt (markL mkDe 4 ps k j) j).i) := by have q := (o0.here hml2 j hlt 2 (by omega)).1; rw [ee] at q; exact q
      have z2 : w1.frozen? ⟨g, j * 4 + 2, none⟩ = false := (o0.here hml2 j hlt 2 (by omega)).2
      have n3 : w1.cell? ⟨g, j * 4 + 3, none⟩ = some (.int .i64 (elAt (markL mkDe 4 ps k j) j).m) := by have q := (o0.here hml2 j hlt 3 (by omega)).1; rw [ee] at q; exact q
      have z3 : w1.frozen? ⟨g, j * 4 + 3, none⟩ = false := (o0.here hml2 j hlt 3 (by omega)).2
      have o1 := o0.setMore hml hlt 1 (by omega) (.string (mkT (k + 4 * (j : Int) + 1))) ⟨k + 4 * (j : Int), mkT (k + 4 * (j : Int) + 1), (elAt (markL mkDe 4 ps k j) j).i, (elAt (markL mkDe 4 ps k j) j).m⟩ (by intro p hp; rcases (show p = 0 ∨ p = 1 ∨ p = 2 ∨ p = 3 from by omega) with rfl | rfl | rfl | rfl <;> rfl)
      have o2 := o1.setMore hml hlt 2 (by omega) (.int .i64 (k + 4 * (j : Int) + 1 + 1)) ⟨k + 4 * (j : Int), mkT (k + 4 * (j : Int) + 1), k + 4 * (j : Int) + 1 + 1, (elAt (markL mkDe 4 ps k j) j).m⟩ (by intro p hp; rcases (show p = 0 ∨ p = 1 ∨ p = 2 ∨ p = 3 from by omega) with rfl | rfl | rfl | rfl <;> rfl)
      have o3 := o2.setMore hml hlt 3 (by omega) (.int .i64 (k + 4 * (j : Int) + 1 + 1 + 1)) ⟨k + 4 * (j : Int), mkT (k + 4 * (j : Int) + 1), k + 4 * (j : Int) + 1 + 1, k + 4 * (j : Int) + 1 + 1 + 1⟩ (by intro p hp; rcases (show p = 0 ∨ p = 1 ∨ p = 2 ∨ p = 3 from by omega) with rfl | rfl | rfl | rfl <;> rfl)
      have O3 : Hid (OwnE 4 deC (((w1.setCell ⟨g, j * 4 + 1, none⟩ (.string (mkT (k + 4 * (j : Int) + 1)))).setCell ⟨g, j * 4 + 2, none⟩ (.int .i64 (k + 4 * (j : Int) + 1 + 1))).setCell ⟨g, j * 4 + 3, none⟩ (.int .i64 (k + 4 * (j : Int) + 1 + 1 + 1))) base 60 (.slice (some ⟨g, 0, none⟩) ps.length c) (markL mkDe 4 ps k (j + 1))) := hide o3
      have G3 : Hid (w.grownBy (((w1.setCell ⟨g, j * 4 + 1, none⟩ (.string (mkT (k + 4 * (j : Int) + 1)))).setCell ⟨g, j * 4 + 2, none⟩ (.int .i64 (k + 4 * (j : Int) + 1 + 1))).setCell ⟨g, j * 4 + 3, none⟩ (.int .i64 (k + 4 * (j : Int) + 1 + 1 + 1))) (Value.slice (some ⟨g, 0, none⟩) ps.length c).ownBlock) := hide (grown_set (grown_set (grown_set hgr _ _) _ _) _ _)
      clear o0 o1 o2 o3 hgr b1 hml2 ee hgr0
      go_wp2
      go_roundw
      case rel => exact ⟨j + 1, by omega, by go_num, by go_num, unhide O3, unhide G3⟩
      case measure => simp [intOf]; omega
    · have hkk : j = ps.length := by omega
      subst hkk
      have O := hide how
      have G := hide hgr
      clear how hgr hml
      go_wp2
      go_ret
      exact ⟨rfl, unhide O, unhide G⟩

end Go.Proofs.YticdccdkjepifaaGreat

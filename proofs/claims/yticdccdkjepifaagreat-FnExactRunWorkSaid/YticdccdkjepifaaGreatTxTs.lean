/-
  The law's size, copy and comparison of a Task and of a list of them. The copy at lists of at most 1048576; nothing that was there is written.
-/
import Derived.Test.YticdccdkjepifaaGreatMWrOrd
import Derived.Test.YticdccdkjepifaaGreatMStrRow
import Derived.Deep.DrawnRows
import Derived.Laws.MakeOwn
namespace Go.Proofs.YticdccdkjepifaaGreat
open Go.RowKit

set_option maxHeartbeats 1000000 in
theorem eqTask_same (nm : ByteArray) (h : Int) (c : Int) (d : Int) (dh : Int) (dc : Int) (dd : Int) (w : World) :
    Calls Tryz.prog 62 #[.agg #[.string nm, .int .i64 h, .int .i64 c, .int .i64 d, .int .i64 dh, .int .i64 dc, .int .i64 dd], .agg #[.string nm, .int .i64 h, .int .i64 c, .int .i64 d, .int .i64 dh, .int .i64 dc, .int .i64 dd]] w fun e w' => e = .returned (.bool true) ∧ Below w.heap.size w w' := by
  obtain ⟨W, hW⟩ : ∃ W, W = (w.alloc (Obj.cells #[.string nm, .int .i64 h, .int .i64 c, .int .i64 d, .int .i64 dh, .int .i64 dc, .int .i64 dd] 90)).alloc (Obj.cells #[.string nm, .int .i64 h, .int .i64 c, .int .i64 d, .int .i64 dh, .int .i64 dc, .int .i64 dd] 90) := ⟨_, rfl⟩
  have HW := hide hW
  have BW : Hid (Below w.heap.size w W) := hide (by rw [hW]; exact bel2 _ _)
  clear hW
  have CE : Hid (Calls Tryz.prog 36 #[.agg #[.int .i64 dh, .int .i64 dc, .int .i64 dd], .agg #[.int .i64 dh, .int .i64 dc, .int .i64 dd]] W fun e w' => e = .returned (.bool true) ∧ Below W.heap.size W w') := hide (eqClock_alike dh dc dd dh dc dd W (ckAlike_refl ⟨dh, dc, dd⟩))
  rw [unhide HW] at CE
  go_enter Tryz.func62, Tryz.ntmps62
  go_wp2_with (go_at_call 36; refine (unhide CE).mono ?_; rintro e w2 ⟨rfl, b2⟩; rw [← unhide HW] at b2; have B2 := hide ((unhide BW).trans (b2.mono (unhide BW).size)); clear b2)
  go_ret
  exact ⟨rfl, unhide B2⟩

set_option maxHeartbeats 1000000 in
theorem szTaskS_any (ad : Option Addr) (len cap : Nat) (ps : List Ts) (left : Int) (w : World) (hr : RowE 7 tsC w ad len ps) (hfit : ∀ i, fitT (elAt ps i).nm) (h0 : 0 ≤ left) (h1 : left ≤ 1048576) :
    Calls Tryz.prog 18 #[.slice ad len cap, .int .i64 left] w fun x w' => (∃ r : Int, x = .returned (.int .i64 r) ∧ (r < 0 ∨ (0 ≤ r ∧ r ≤ left ∧ len ≤ 1048576))) ∧ Below w.heap.size w w' := by
  have hs := hr.small
  have HR := hide hr
  have HFIT := hide hfit
  clear hr hfit
  by_cases hbig : left < (len : Int)
  · go_enter Tryz.func18, Tryz.ntmps18
    go_wp2
    go_ret
    exact ⟨⟨-1, rfl, by omega⟩, Below.refl _ _⟩
  have hle : (len : Int) ≤ left := by omega
  have hl20 : (len : Int) ≤ 1048576 := by omega
  go_enter Tryz.func18, Tryz.ntmps18
  go_wp2_with fail
  go_loopw [1, 5] (fun lv iv wr => ∃ (k : Nat) (q : Int), k ≤ len ∧ iv = .int .i64 k ∧ lv = .int .i64 q ∧ (0 ≤ q ∧ q ≤ left) ∧ Below w.heap.size w wr) (fun _ i _ => len - (intOf i).toNat)
  case atStart => exact ⟨0, left - len, Nat.zero_le _, rfl, rfl, by omega, Below.refl _ _⟩
  case round =>
    obtain ⟨k, q, hk, rfl, rfl, hq, hbel⟩ := hrel
    by_cases hlt : k < len
    · obtain ⟨bb, off, rfl, hc⟩ := (unhide HR).at_ k hlt
      have c0 : w.cell? ⟨bb, off + k * 7, none⟩ = some (.string (elAt ps k).nm) := hc 0 (by omega)
      have c0 := (hbel.cell (block_lt_of_cell c0)).trans c0
      have c1 : w.cell? ⟨bb, off + k * 7 + 1, none⟩ = some (.int .i64 (elAt ps k).h) := hc 1 (by omega)
      have c1 := (hbel.cell (block_lt_of_cell c1)).trans c1
      have c2 : w.cell? ⟨bb, off + k * 7 + 2, none⟩ = some (.int .i64 (elAt ps k).c) := hc 2 (by omega)
      have c2 := (hbel.cell (block_lt_of_cell c2)).trans c2
      have c3 : w.cell? ⟨bb, off + k * 7 + 3, none⟩ = some (.int .i64 (elAt ps k).d) := hc 3 (by omega)
      have c3 := (hbel.cell (block_lt_of_cell c3)).trans c3
      have c4 : w.cell? ⟨bb, off + k * 7 + 4, none⟩ = some (.int .i64 (elAt ps k).dh) := hc 4 (by omega)
      have c4 := (hbel.cell (block_lt_of_cell c4)).trans c4
      have c5 : w.cell? ⟨bb, off + k * 7 + 5, none⟩ = some (.int .i64 (elAt ps k).dc) := hc 5 (by omega)
      have c5 := (hbel.cell (block_lt_of_cell c5)).trans c5
      have c6 : w.cell? ⟨bb, off + k * 7 + 6, none⟩ = some (.int .i64 (elAt ps k).dd) := hc 6 (by omega)
      have c6 := (hbel.cell (block_lt_of_cell c6)).trans c6
      have hn : (elAt ps k).nm.size ≤ 9223372036854775807 := unhide HFIT k
      have hi1 : (k : Int) < (len : Int) := by omega
      have HB := hide hbel
      clear hc hbel
      go_wp2_with fail
      refine (szTask_any _ _ _ _ _ _ _ q _ hn hq.1 (by omega)).mono ?_
      rintro x w1 ⟨⟨r, rfl, hr⟩, b1⟩
      have HB1 := hide ((unhide HB).trans (b1.mono (unhide HB).size))
      clear b1 c0 c1 c2 c3 c4 c5 c6
      rcases hr with hr | hr
      · go_wp2_with fail
        go_ret
        exact ⟨⟨-1, rfl, by omega⟩, unhide HB1⟩
      · have hr0 : ¬ r < 0 := by omega
        go_wp2_with fail
        go_roundw
        case rel => exact ⟨k + 1, r, by omega, by go_num, rfl, by omega, unhide HB1⟩
        case measure => simp [intOf]; omega
    · have HB := hide hbel
      have hi1 : ¬ (k : Int) < (len : Int) := by omega
      clear hbel
      go_wp2_with fail
      go_ret
      exact ⟨⟨q, rfl, by omega⟩, unhide HB⟩

/-- After k rounds of the copying; the new row lies in block B. -/
structure CopiedTs (T : TypeId) (w wr : World) (B : Nat) (ps : List Ts) (k : Nat) : Prop where
  own : ∃ xs : List Value, wr.ownsRow B T 7 (.slice (some ⟨B, 0, none⟩) ps.length ps.length) ps.length xs ∧ ∀ j, j < k → ∀ q, q < 7 → xs[j * 7 + q]? = some (tsC (elAt ps j) q)
  bel : Below w.heap.size w wr
  here : B < wr.heap.size
  old : w.heap.size ≤ B
theorem CopiedTs.at_ {T : TypeId} {w wr : World} {B : Nat} {ps : List Ts} {k : Nat} (h : CopiedTs T w wr B ps k) (i : Nat) (hi : i < ps.length * 7) : (∃ v, wr.cell? ⟨B, i, none⟩ = some v) ∧ wr.frozen? ⟨B, i, none⟩ = false := by
  obtain ⟨xs, ho, _⟩ := h.own
  refine ⟨?_, ho.frozenAt i⟩
  rw [ho.cellAt i hi]
  have := ho.1
  exact ⟨xs[i]'(by omega), List.getElem?_eq_getElem (by omega)⟩
theorem CopiedTs.call {T : TypeId} {w wr w' : World} {B : Nat} {ps : List Ts} {k : Nat} (h : CopiedTs T w wr B ps k) (b : Below wr.heap.size wr w') : CopiedTs T w w' B ps k := by
  obtain ⟨xs, ho, hx⟩ := h.own
  exact ⟨⟨xs, ownsRow_below ho b, hx⟩, h.bel.trans (b.mono h.bel.size), Nat.lt_of_lt_of_le h.here b.size, h.old⟩
theorem CopiedTs.step {T : TypeId} {w wr : World} {B : Nat} {ps : List Ts} {k : Nat} (h : CopiedTs T w wr B ps k) (hk : k < ps.length) :
    CopiedTs T w (((((((wr.setCell ⟨B, k * 7, none⟩ (.string (elAt ps k).nm)).setCell ⟨B, k * 7 + 1, none⟩ (.int .i64 (elAt ps k).h)).setCell ⟨B, k * 7 + 2, none⟩ (.int .i64 (elAt ps k).c)).setCell ⟨B, k * 7 + 3, none⟩ (.int .i64 (elAt ps k).d)).setCell ⟨B, k * 7 + 4, none⟩ (.int .i64 (elAt ps k).dh)).setCell ⟨B, k * 7 + 5, none⟩ (.int .i64 (elAt ps k).dc)).setCell ⟨B, k * 7 + 6, none⟩ (.int .i64 (elAt ps k).dd)) B ps (k + 1) := by
  obtain ⟨xs, ho, hx⟩ := h.own
  have hl := ho.1
  have o0 := (ho.stored (k * 7) (.string (elAt ps k).nm)).1
  have o1 := (o0.stored (k * 7 + 1) (.int .i64 (elAt ps k).h)).1
  have o2 := (o1.stored (k * 7 + 2) (.int .i64 (elAt ps k).c)).1
  have o3 := (o2.stored (k * 7 + 3) (.int .i64 (elAt ps k).d)).1
  have o4 := (o3.stored (k * 7 + 4) (.int .i64 (elAt ps k).dh)).1
  have o5 := (o4.stored (k * 7 + 5) (.int .i64 (elAt ps k).dc)).1
  have o6 := (o5.stored (k * 7 + 6) (.int .i64 (elAt ps k).dd)).1
  refine ⟨⟨_, o6, fun j hj q hq => ?_⟩, (((((((h.bel.setCell h.old _).setCell h.old _).setCell h.old _).setCell h.old _).setCell h.old _).setCell h.old _).setCell h.old _), by have := h.here; simpa [World.setCell] using this, h.old⟩
  by_cases e : j = k
  · subst e
    have hq' : q = 0 ∨ q = 1 ∨ q = 2 ∨ q = 3 ∨ q = 4 ∨ q = 5 ∨ q = 6 := by omega
    rcases hq' with rfl | rfl | rfl | rfl | rfl | rfl | rfl
    · rw [List.getElem?_set_ne (by omega), List.getElem?_set_ne (by omega), List.getElem?_set_ne (by omega), List.getElem?_set_ne (by omega), List.getElem?_set_ne (by omega), List.getElem?_set_ne (by omega)]; exact List.getElem?_set_self (by first | omega | (simp; omega))
    · rw [List.getElem?_set_ne (by omega), List.getElem?_set_ne (by omega), List.getElem?_set_ne (by omega), List.getElem?_set_ne (by omega), List.getElem?_set_ne (by omega)]; exact List.getElem?_set_self (by first | omega | (simp; omega))
    · rw [List.getElem?_set_ne (by omega), List.getElem?_set_ne (by omega), List.getElem?_set_ne (by omega), List.getElem?_set_ne (by omega)]; exact List.getElem?_set_self (by first | omega | (simp; omega))
    · rw [List.getElem?_set_ne (by omega), List.getElem?_set_ne (by omega), List.getElem?_set_ne (by omega)]; exact List.getElem?_set_self (by first | omega | (simp; omega))
    · rw [List.getElem?_set_ne (by omega), List.getElem?_set_ne (by omega)]; exact List.getElem?_set_self (by first | omega | (simp; omega))
    · rw [List.getElem?_set_ne (by omega)]; exact List.getElem?_set_self (by first | omega | (simp; omega))
    · exact List.getElem?_set_self (by first | omega | (simp; omega))
  · rw [List.getElem?_set_ne (by omega), List.getElem?_set_ne (by omega), List.getElem?_set_ne (by omega), List.getElem?_set_ne (by omega), List.getElem?_set_ne (by omega), List.getElem?_set_ne (by omega), List.getElem?_set_ne (by omega)]
    exact hx j (by omega) q hq

theorem infoTs : (Tryz.prog.info? 90).map (fun i => (i.zero, i.size, i.bytes)) = some (some (.agg #[.string ⟨#[]⟩, .int .i64 0, .int .i64 0, .int .i64 0, .int .i64 0, .int .i64 0, .int .i64 0]), 7, 64) := by kernel_rfl
set_option maxHeartbeats 1000000 in
theorem toTaskS_own (ad : Option Addr) (len cap : Nat) (ps : List Ts) (w : World) (hr : RowE 7 tsC w ad len ps) (hlen : len ≤ 1048576) :
    Calls Tryz.prog 24 #[.slice ad len cap] w fun e w' => e = .returned (.slice (some ⟨w.heap.size, 0, none⟩) len len) ∧ OwnE 7 tsC w' w.heap.size 90 (.slice (some ⟨w.heap.size, 0, none⟩) len len) ps ∧ Below w.heap.size w w' := by
  have hz := hr.len_eq
  have HO := hide hr
  clear hr
  subst hz
  obtain ⟨i0, hi, hz0, hz1, hz2⟩ := info_parts infoTs
  go_enter Tryz.func24, Tryz.ntmps24
  go_wp2_with (at_make; refine wpList_make_full _ rfl (.tmp 6) (.tmp 6) 32 rfl w.heap.size 90 i0 (.agg #[.string ⟨#[]⟩, .int .i64 0, .int .i64 0, .int .i64 0, .int .i64 0, .int .i64 0, .int .i64 0]) 7 Tryz.underlying32 hi hz0 hz1 .i64 .i64 _ _ ps.length rfl rfl rfl rfl (by rw [hz2]; omega) (by unfold maxLen; omega) (Nat.le_refl _) ?_; intro w1 hown hgrow)
  have hB : w.heap.size < w1.heap.size := (hown.lt w.heap.size rfl).2
  have HC0 : CopiedTs 90 w w1 w.heap.size ps 0 := ⟨⟨_, hown, fun j hj => by omega⟩, (Below.refl _ _).grown hgrow (Nat.le_refl _) (fun k hk => by cases hk), hB, Nat.le_refl _⟩
  clear hown hgrow hi hz0 hz1 hz2 hB
  go_loopw [4] (fun i wr => ∃ k : Nat, k ≤ ps.length ∧ i = .int .i64 k ∧ CopiedTs 90 w wr w.heap.size ps k) (fun i _ => ps.length - (intOf i).toNat)
  case atStart => exact ⟨0, Nat.zero_le _, rfl, HC0⟩
  case round =>
    obtain ⟨k, hk, rfl, hcp⟩ := hrel
    by_cases hlt : k < ps.length
    · obtain ⟨bb, off, rfl, hc⟩ := (unhide HO).at_ k hlt
      have c0 : w.cell? ⟨bb, off + k * 7, none⟩ = some (.string (elAt ps k).nm) := hc 0 (by omega)
      have c0 := (hcp.bel.cell (block_lt_of_cell c0)).trans c0
      have c1 : w.cell? ⟨bb, off + k * 7 + 1, none⟩ = some (.int .i64 (elAt ps k).h) := hc 1 (by omega)
      have c1 := (hcp.bel.cell (block_lt_of_cell c1)).trans c1
      have c2 : w.cell? ⟨bb, off + k * 7 + 2, none⟩ = some (.int .i64 (elAt ps k).c) := hc 2 (by omega)
      have c2 := (hcp.bel.cell (block_lt_of_cell c2)).trans c2
      have c3 : w.cell? ⟨bb, off + k * 7 + 3, none⟩ = some (.int .i64 (elAt ps k).d) := hc 3 (by omega)
      have c3 := (hcp.bel.cell (block_lt_of_cell c3)).trans c3
      have c4 : w.cell? ⟨bb, off + k * 7 + 4, none⟩ = some (.int .i64 (elAt ps k).dh) := hc 4 (by omega)
      have c4 := (hcp.bel.cell (block_lt_of_cell c4)).trans c4
      have c5 : w.cell? ⟨bb, off + k * 7 + 5, none⟩ = some (.int .i64 (elAt ps k).dc) := hc 5 (by omega)
      have c5 := (hcp.bel.cell (block_lt_of_cell c5)).trans c5
      have c6 : w.cell? ⟨bb, off + k * 7 + 6, none⟩ = some (.int .i64 (elAt ps k).dd) := hc 6 (by omega)
      have c6 := (hcp.bel.cell (block_lt_of_cell c6)).trans c6
      have HCP := hide hcp
      have hi1 : (k : Int) < (ps.length : Int) := by omega
      clear hc hcp HC0
      go_wp2_with fail
      refine (toTask_any _ _ _ _ _ _ _ _).mono ?_
      rintro e w2 ⟨rfl, hb2⟩
      have hc2 := (unhide HCP).call hb2
      obtain ⟨⟨v0, hs0⟩, hf0⟩ := hc2.at_ (k * 7) (by omega)
      obtain ⟨⟨v1, hs1⟩, hf1⟩ := hc2.at_ (k * 7 + 1) (by omega)
      obtain ⟨⟨v2, hs2⟩, hf2⟩ := hc2.at_ (k * 7 + 2) (by omega)
      obtain ⟨⟨v3, hs3⟩, hf3⟩ := hc2.at_ (k * 7 + 3) (by omega)
      obtain ⟨⟨v4, hs4⟩, hf4⟩ := hc2.at_ (k * 7 + 4) (by omega)
      obtain ⟨⟨v5, hs5⟩, hf5⟩ := hc2.at_ (k * 7 + 5) (by omega)
      obtain ⟨⟨v6, hs6⟩, hf6⟩ := hc2.at_ (k * 7 + 6) (by omega)
      have HS := hide (hc2.step hlt)
      clear hb2 hc2
      go_wp2
      go_roundw
      case rel => exact ⟨k + 1, by omega, by go_num, unhide HS⟩
      case measure => simp [intOf]; omega
    · have hkk : k = ps.length := by omega
      subst hkk
      have HR := hide (show OwnE 7 tsC _ w.heap.size 90 (.slice (some ⟨w.heap.size, 0, none⟩) ps.length ps.length) ps from ⟨hcp.own⟩)
      have HB := hide hcp.bel
      go_wp2
      go_ret
      exact ⟨rfl, unhide HR, unhide HB⟩
set_option maxHeartbeats 1000000 in
theorem eqTaskS_sm (ad bd : Option Addr) (len cap cap2 : Nat) (ps : List Ts) (w : World) (hr : RowE 7 tsC w ad len ps) (hr2 : RowE 7 tsC w bd len ps) :
    Calls Tryz.prog 33 #[.slice ad len cap, .slice bd len cap2] w fun e w' => e = .returned (.bool true) ∧ Below w.heap.size w w' := by
  have hs := hr.small
  have HO := hide hr
  have HO2 := hide hr2
  clear hr hr2
  have hb : ((len : Int) != (len : Int)) = false := by simp
  go_enter Tryz.func33, Tryz.ntmps33
  go_wp2
  go_loopw [5] (fun i wr => ∃ k : Nat, k ≤ len ∧ i = .int .i64 k ∧ Below w.heap.size w wr) (fun i _ => len - (intOf i).toNat)
  case atStart => exact ⟨0, Nat.zero_le _, rfl, Below.refl _ _⟩
  case round =>
    obtain ⟨k, hk, rfl, hbel⟩ := hrel
    by_cases hlt : k < len
    · obtain ⟨bb, off, rfl, hc⟩ := ((unhide HO).below hbel).at_ k hlt
      obtain ⟨bb2, off2, rfl, hc2⟩ := ((unhide HO2).below hbel).at_ k hlt
      obtain ⟨ι, f, _, hbf, hall⟩ := belClass wr
      have c0 : wr.cell? ⟨bb, off + k * 7, none⟩ = some (.string (elAt ps k).nm) := hc 0 (by omega)
      have C0 : ∀ x, (f x).cell? ⟨bb, off + k * 7, none⟩ = some (.string (elAt ps k).nm) := fun x => ((hbf x).cell (block_lt_of_cell c0)).trans c0
      have c1 : wr.cell? ⟨bb, off + k * 7 + 1, none⟩ = some (.int .i64 (elAt ps k).h) := hc 1 (by omega)
      have C1 : ∀ x, (f x).cell? ⟨bb, off + k * 7 + 1, none⟩ = some (.int .i64 (elAt ps k).h) := fun x => ((hbf x).cell (block_lt_of_cell c1)).trans c1
      have c2 : wr.cell? ⟨bb, off + k * 7 + 2, none⟩ = some (.int .i64 (elAt ps k).c) := hc 2 (by omega)
      have C2 : ∀ x, (f x).cell? ⟨bb, off + k * 7 + 2, none⟩ = some (.int .i64 (elAt ps k).c) := fun x => ((hbf x).cell (block_lt_of_cell c2)).trans c2
      have c3 : wr.cell? ⟨bb, off + k * 7 + 3, none⟩ = some (.int .i64 (elAt ps k).d) := hc 3 (by omega)
      have C3 : ∀ x, (f x).cell? ⟨bb, off + k * 7 + 3, none⟩ = some (.int .i64 (elAt ps k).d) := fun x => ((hbf x).cell (block_lt_of_cell c3)).trans c3
      have c4 : wr.cell? ⟨bb, off + k * 7 + 4, none⟩ = some (.int .i64 (elAt ps k).dh) := hc 4 (by omega)
      have C4 : ∀ x, (f x).cell? ⟨bb, off + k * 7 + 4, none⟩ = some (.int .i64 (elAt ps k).dh) := fun x => ((hbf x).cell (block_lt_of_cell c4)).trans c4
      have c5 : wr.cell? ⟨bb, off + k * 7 + 5, none⟩ = some (.int .i64 (elAt ps k).dc) := hc 5 (by omega)
      have C5 : ∀ x, (f x).cell? ⟨bb, off + k * 7 + 5, none⟩ = some (.int .i64 (elAt ps k).dc) := fun x => ((hbf x).cell (block_lt_of_cell c5)).trans c5
      have c6 : wr.cell? ⟨bb, off + k * 7 + 6, none⟩ = some (.int .i64 (elAt ps k).dd) := hc 6 (by omega)
      have C6 : ∀ x, (f x).cell? ⟨bb, off + k * 7 + 6, none⟩ = some (.int .i64 (elAt ps k).dd) := fun x => ((hbf x).cell (block_lt_of_cell c6)).trans c6
      have d0 : wr.cell? ⟨bb2, off2 + k * 7, none⟩ = some (.string (elAt ps k).nm) := hc2 0 (by omega)
      have D0 : ∀ x, (f x).cell? ⟨bb2, off2 + k * 7, none⟩ = some (.string (elAt ps k).nm) := fun x => ((hbf x).cell (block_lt_of_cell d0)).trans d0
      have d1 : wr.cell? ⟨bb2, off2 + k * 7 + 1, none⟩ = some (.int .i64 (elAt ps k).h) := hc2 1 (by omega)
      have D1 : ∀ x, (f x).cell? ⟨bb2, off2 + k * 7 + 1, none⟩ = some (.int .i64 (elAt ps k).h) := fun x => ((hbf x).cell (block_lt_of_cell d1)).trans d1
      have d2 : wr.cell? ⟨bb2, off2 + k * 7 + 2, none⟩ = some (.int .i64 (elAt ps k).c) := hc2 2 (by omega)
      have D2 : ∀ x, (f x).cell? ⟨bb2, off2 + k * 7 + 2, none⟩ = some (.int .i64 (elAt ps k).c) := fun x => ((hbf x).cell (block_lt_of_cell d2)).trans d2
      have d3 : wr.cell? ⟨bb2, off2 + k * 7 + 3, none⟩ = some (.int .i64 (elAt ps k).d) := hc2 3 (by omega)
      have D3 : ∀ x, (f x).cell? ⟨bb2, off2 + k * 7 + 3, none⟩ = some (.int .i64 (elAt ps k).d) := fun x => ((hbf x).cell (block_lt_of_cell d3)).trans d3
      have d4 : wr.cell? ⟨bb2, off2 + k * 7 + 4, none⟩ = some (.int .i64 (elAt ps k).dh) := hc2 4 (by omega)
      have D4 : ∀ x, (f x).cell? ⟨bb2, off2 + k * 7 + 4, none⟩ = some (.int .i64 (elAt ps k).dh) := fun x => ((hbf x).cell (block_lt_of_cell d4)).trans d4
      have d5 : wr.cell? ⟨bb2, off2 + k * 7 + 5, none⟩ = some (.int .i64 (elAt ps k).dc) := hc2 5 (by omega)
      have D5 : ∀ x, (f x).cell? ⟨bb2, off2 + k * 7 + 5, none⟩ = some (.int .i64 (elAt ps k).dc) := fun x => ((hbf x).cell (block_lt_of_cell d5)).trans d5
      have d6 : wr.cell? ⟨bb2, off2 + k * 7 + 6, none⟩ = some (.int .i64 (elAt ps k).dd) := hc2 6 (by omega)
      have D6 : ∀ x, (f x).cell? ⟨bb2, off2 + k * 7 + 6, none⟩ = some (.int .i64 (elAt ps k).dd) := fun x => ((hbf x).cell (block_lt_of_cell d6)).trans d6
      clear c0 d0 c1 d1 c2 d2 c3 d3 c4 d4 c5 d5 c6 d6
      have hi1 : (k : Int) < (len : Int) := by omega
      have HF := hide hbf
      have HA := hide hall
      have HB := hide hbel
      clear hc hc2 hbf hall hbel
      go_wp2_with fail
      refine wp_region_bel (unhide HA) (by kernel_rfl) (by kernel_rfl) ?_
      repeat (go_big_quiet_step (first | (go_at_call 62; exact belQ (unhide HF) (unhide HA) (eqTask_same _ _ _ _ _ _ _ _))))
      refine wpQuiet_nil ?_
      rintro _ ⟨x3, rfl⟩
      have HB3 := hide ((unhide HB).trans ((unhide HF x3).mono (unhide HB).size))
      go_wp2_with fail
      go_roundw
      case rel => exact ⟨k + 1, by omega, by go_num, unhide HB3⟩
      case measure => simp [intOf]; omega
    · have HB := hide hbel
      have hi1 : ¬ (k : Int) < (len : Int) := by omega
      clear hbel
      go_wp2_with fail
      go_ret
      exact ⟨rfl, unhide HB⟩
theorem eqTaskS_same (ad bd : Option Addr) (len cap len2 cap2 : Nat) (ps : List Ts) (w : World) (hr : RowE 7 tsC w ad len ps) (hr2 : RowE 7 tsC w bd len2 ps) :
    Calls Tryz.prog 33 #[.slice ad len cap, .slice bd len2 cap2] w fun e w' => e = .returned (.bool true) ∧ Below w.heap.size w w' := by
  have e1 := hr.len_eq
  have e2 := hr2.len_eq
  subst e1
  subst e2
  exact eqTaskS_sm ad bd _ cap cap2 ps w hr hr2

end Go.Proofs.YticdccdkjepifaaGreat

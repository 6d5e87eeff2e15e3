/-
  What the law's copy of a list of lists answers (toIntSS): new memory that reads as the list did, at every list of at most 1048576 lists of at most 1048576 numbers; nothing that was there is written.
-/
import Derived.Test.YthdnokilfmbgobdRowS
namespace Go.Proofs.Ythdnokilfmbgobd
open Go.RowKit

theorem info_ints : (Try.prog.info? 32).map (fun i => (i.zero, i.size, i.bytes)) = some (some (.slice none 0 0), 1, 24) := by kernel_rfl

/-- A row of rows in new memory: the row of slices in block B, the numbers of each in a block behind it. -/
structure RowN (w : World) (B len : Nat) (zss : List (List Int)) : Prop where
  len_eq : zss.length = len
  small : len ≤ 9223372036854775807
  cells : ∀ i, i < len → ∃ g n, B < g ∧ w.cell? ⟨B, i, none⟩ = some (.slice (some ⟨g, 0, none⟩) n n) ∧ Row w (some ⟨g, 0, none⟩) n (nthS zss i)

theorem RowN.rowS {w : World} {B len : Nat} {zss : List (List Int)} (h : RowN w B len zss) : RowS w (some ⟨B, 0, none⟩) len zss := by
  refine ⟨h.len_eq, h.small, fun i hi => ?_⟩
  obtain ⟨g, n, _, hc, hr⟩ := h.cells i hi
  exact ⟨B, 0, _, n, n, rfl, by rw [Nat.zero_add]; exact hc, hr, Nat.le_refl _⟩
theorem RowN.below {w w' : World} {B len : Nat} {zss : List (List Int)} (h : RowN w B len zss) (k : Below w.heap.size w w') : RowN w' B len zss := by
  refine ⟨h.len_eq, h.small, fun i hi => ?_⟩
  obtain ⟨g, n, hg, hc, hr⟩ := h.cells i hi
  exact ⟨g, n, hg, (k.cell (block_lt_of_cell hc)).trans hc, hr.below k⟩
theorem RowN.setCell {w : World} {B len : Nat} {zss : List (List Int)} (h : RowN w B len zss) {p : Addr} (hp : p.block < B) (v : Value) : RowN (w.setCell p v) B len zss := by
  refine ⟨h.len_eq, h.small, fun i hi => ?_⟩
  obtain ⟨g, n, hg, hc, hr⟩ := h.cells i hi
  exact ⟨g, n, hg, (World.cell?_setCell_other w _ _ _ (by intro e; rw [e] at hp; exact absurd hp (Nat.lt_irrefl _))).trans hc, hr.setCell (by omega) v⟩

/-- After k rounds of the copying of lists; the new row lies in block B. -/
structure CopiedS (w wr : World) (B : Nat) (zss : List (List Int)) (k : Nat) : Prop where
  own : ∃ xs : List Value, wr.ownsRow B 32 1 (.slice (some ⟨B, 0, none⟩) zss.length zss.length) zss.length xs ∧ ∀ j, j < k → ∃ g, B < g ∧ xs[j]? = some (.slice (some ⟨g, 0, none⟩) (nthS zss j).length (nthS zss j).length) ∧ Row wr (some ⟨g, 0, none⟩) (nthS zss j).length (nthS zss j)
  bel : Below w.heap.size w wr
  here : B < wr.heap.size
  old : w.heap.size ≤ B

theorem CopiedS.here_ {w wr : World} {B : Nat} {zss : List (List Int)} {k : Nat} (h : CopiedS w wr B zss k) (hk : k < zss.length) :
    (∃ v, wr.cell? ⟨B, k, none⟩ = some v) ∧ wr.frozen? ⟨B, k, none⟩ = false := by
  obtain ⟨xs, ho, _⟩ := h.own
  refine ⟨?_, ho.frozenAt k⟩
  rw [ho.cellAt k (by omega)]
  have := ho.1
  exact ⟨xs[k]'(by omega), List.getElem?_eq_getElem (by omega)⟩

/-- A call that makes memory leaves it so. -/
theorem CopiedS.call {w wr w' : World} {B : Nat} {zss : List (List Int)} {k : Nat} (h : CopiedS w wr B zss k) (b : Below wr.heap.size wr w') : CopiedS w w' B zss k := by
  obtain ⟨xs, ho, hx⟩ := h.own
  refine ⟨⟨xs, ownsRow_below ho b, fun j hj => ?_⟩, h.bel.trans (b.mono h.bel.size), Nat.lt_of_lt_of_le h.here b.size, h.old⟩
  obtain ⟨g, hg, e, r⟩ := hx j hj
  exact ⟨g, hg, e, r.below b⟩

theorem CopiedS.step {w wr : World} {B : Nat} {zss : List (List Int)} {k g : Nat} (h : CopiedS w wr B zss k) (hk : k < zss.length) (hg : B < g) (hr : Row wr (some ⟨g, 0, none⟩) (nthS zss k).length (nthS zss k)) :
    CopiedS w (wr.setCell ⟨B, k, none⟩ (.slice (some ⟨g, 0, none⟩) (nthS zss k).length (nthS zss k).length)) B zss (k + 1) := by
  obtain ⟨xs, ho, hx⟩ := h.own
  refine ⟨⟨_, (ho.stored k _).1, fun j hj => ?_⟩, h.bel.setCell h.old _, by have := h.here; simpa [World.setCell] using this, h.old⟩
  have hl := ho.1
  by_cases e : j = k
  · subst e
    exact ⟨g, hg, by rw [List.getElem?_set_self (by omega)], hr.setCell (by simp; omega) _⟩
  · obtain ⟨g', hg', e', r'⟩ := hx j (by omega)
    exact ⟨g', hg', by rw [List.getElem?_set_ne (by omega)]; exact e', r'.setCell (by simp; omega) _⟩

theorem CopiedS.row {w wr : World} {B : Nat} {zss : List (List Int)} (h : CopiedS w wr B zss zss.length) (hs : zss.length ≤ 1048576) :
    RowN wr B zss.length zss := by
  obtain ⟨xs, ho, hx⟩ := h.own
  refine ⟨rfl, by omega, fun i hi => ?_⟩
  obtain ⟨g, hg, e, r⟩ := hx i hi
  refine ⟨g, _, hg, ?_, r⟩
  rw [ho.cellAt i (by omega), e]

set_option maxHeartbeats 1000000 in
theorem toIntSS_any (ad : Option Addr) (len cap : Nat) (zss : List (List Int)) (w : World) (hr : RowS w ad len zss) (hlen : len ≤ 1048576) (hall : ∀ i, i < len → (nthS zss i).length ≤ 1048576) :
    Calls Try.prog 17 #[.slice ad len cap] w fun e w' => e = .returned (.slice (some ⟨w.heap.size, 0, none⟩) len len) ∧ RowN w' w.heap.size len zss ∧ Below w.heap.size w w' := by
  have hz := hr.len_eq
  have HO := hide hr.open_
  have HA := hide hall
  clear hr hall
  subst hz
  obtain ⟨i0, hi, hz0, hz1, hz2⟩ := info_parts info_ints
  go_enter Try.func17, Try.ntmps17
  go_wp2_with (at_make; refine wpList_make_full _ rfl (.tmp 6) (.tmp 6) 23 rfl w.heap.size 32 i0 (.slice none 0 0) 1 Try.underlying23 hi hz0 hz1 .i64 .i64 _ _ zss.length rfl rfl rfl rfl (by rw [hz2]; omega) (by unfold maxLen; omega) (Nat.le_refl _) ?_; intro w1 hown hgrow)
  have hB : w.heap.size < w1.heap.size := (hown.lt w.heap.size rfl).2
  have HC0 : CopiedS w w1 w.heap.size zss 0 := ⟨⟨_, hown, fun j hj => by omega⟩, (Below.refl _ _).grown hgrow (Nat.le_refl _) (fun k hk => by cases hk), hB, Nat.le_refl _⟩
  clear hown hgrow hi hz0 hz1 hz2 hB
  go_loopw [4] (fun i wr => ∃ k : Nat, k ≤ zss.length ∧ i = .int .i64 k ∧ CopiedS w wr w.heap.size zss k) (fun i _ => zss.length - (intOf i).toNat)
  case atStart => exact ⟨0, Nat.zero_le _, rfl, HC0⟩
  case round =>
    obtain ⟨k, hk, rfl, hcp⟩ := hrel
    by_cases hlt : k < zss.length
    · rcases (unhide HO) with ⟨h0, _⟩ | ⟨bb, off, rfl, _, hc⟩
      · simp [h0] at hlt
      obtain ⟨ai, li, ci, hcw, hrow, _⟩ := hc k hlt
      have hcell := (hcp.bel.cell (p := ⟨bb, off + k, none⟩) (block_lt_of_cell hcw)).trans hcw
      have hli := hrow.len_eq
      have hl20 : li ≤ 1048576 := by rw [← hli]; exact (unhide HA) k hlt
      have HR := hide (hrow.below hcp.bel)
      have HCP := hide hcp
      have HLI := hide hli
      have hi1 : (k : Int) < (zss.length : Int) := by omega
      clear hc hcw hcp HC0 hrow hli
      go_wp2_with fail
      refine (toIntS_any _ _ _ (nthS zss k) _ (unhide HR) hl20).mono ?_
      rintro e w2 ⟨rfl, hr2, hb2⟩
      have hc2 := (unhide HCP).call hb2
      obtain ⟨⟨vk, hsome⟩, hfroz⟩ := hc2.here_ hlt
      have hne : w.heap.size < wr.heap.size := (unhide HCP).here
      rw [← unhide HLI] at hr2
      have HS := hide (hc2.step hlt hne hr2)
      rw [unhide HLI] at HS
      clear hb2 hc2 hr2 hne
      go_wp2
      go_roundw
      case rel => exact ⟨k + 1, by omega, by go_num, unhide HS⟩
      case measure => simp [intOf]; omega
    · have hkk : k = zss.length := by omega
      subst hkk
      have HR := hide (hcp.row hlen)
      have HB := hide hcp.bel
      go_wp2
      go_ret
      exact ⟨rfl, unhide HR, unhide HB⟩

end Go.Proofs.Ythdnokilfmbgobd

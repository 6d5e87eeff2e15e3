/-
  What the law's copy of a list of whole numbers answers (toIntS): a new slice that reads as the list did, at every list of at most 1048576 numbers; nothing that was there is written.
-/
import Derived.Test.YtglefolkecimabdSmall
namespace Go.Proofs.Ytglefolkecimabd
open Go.RowKit

theorem info_int : (Try.prog.info? 3).map (fun i => (i.zero, i.size, i.bytes)) = some (some (.int .i64 0), 1, 8) := by kernel_rfl

/-- After k rounds of the copying. -/
structure Copied (w wr : World) (zs : List Int) (k : Nat) : Prop where
  own : ∃ xs : List Value, wr.ownsRow w.heap.size 3 1 (.slice (some ⟨w.heap.size, 0, none⟩) zs.length zs.length) zs.length xs ∧ ∀ j, j < k → xs[j]? = some (.int .i64 (nth zs j))
  bel : Below w.heap.size w wr

theorem Copied.here {w wr : World} {zs : List Int} {k : Nat} (h : Copied w wr zs k) (hk : k < zs.length) :
    (∃ v, wr.cell? ⟨w.heap.size, k, none⟩ = some v) ∧ wr.frozen? ⟨w.heap.size, k, none⟩ = false := by
  obtain ⟨xs, ho, _⟩ := h.own
  refine ⟨?_, ho.frozenAt k⟩
  rw [ho.cellAt k (by omega)]
  have := ho.1
  exact ⟨xs[k]'(by omega), List.getElem?_eq_getElem (by omega)⟩

theorem Copied.step {w wr : World} {zs : List Int} {k : Nat} (h : Copied w wr zs k) (hk : k < zs.length) :
    Copied w (wr.setCell ⟨w.heap.size, k, none⟩ (.int .i64 (nth zs k))) zs (k + 1) := by
  obtain ⟨xs, ho, hx⟩ := h.own
  refine ⟨⟨_, (ho.stored k _).1, fun j hj => ?_⟩, h.bel.setCell (Nat.le_refl _) _⟩
  have hl := ho.1
  by_cases e : j = k
  · subst e; rw [List.getElem?_set_self (by omega)]
  · rw [List.getElem?_set_ne (by omega)]; exact hx j (by omega)

theorem Copied.row {w wr : World} {zs : List Int} (h : Copied w wr zs zs.length) (hs : zs.length ≤ 1048576) (hf : ∀ i : Nat, -9223372036854775808 ≤ nth zs i ∧ nth zs i ≤ 9223372036854775807) :
    Row wr (some ⟨w.heap.size, 0, none⟩) zs.length zs := by
  obtain ⟨xs, ho, hx⟩ := h.own
  refine ⟨rfl, by omega, fun i hi => ⟨_, _, rfl, ?_⟩, hf⟩
  rw [Nat.zero_add, ho.cellAt i (by omega), hx i hi]

set_option maxHeartbeats 400000 in
theorem toIntS_any (ad : Option Addr) (len cap : Nat) (zs : List Int) (w : World) (hr : Row w ad len zs) (hlen : len ≤ 1048576) :
    Calls Try.prog 41 #[.slice ad len cap] w fun e w' => e = .returned (.slice (some ⟨w.heap.size, 0, none⟩) len len) ∧ Row w' (some ⟨w.heap.size, 0, none⟩) len zs ∧ Below w.heap.size w w' := by
  have hz := hr.len_eq
  have hopen := hr.open_
  have HF := hide hr.fit
  clear hr
  subst hz
  obtain ⟨i0, hi, hz0, hz1, hz2⟩ := info_parts info_int
  go_enter Try.func41, Try.ntmps41
  go_wp2_with (at_make; refine wpList_make_full _ rfl (.tmp 6) (.tmp 6) 32 rfl w.heap.size 3 i0 (.int .i64 0) 1 Try.underlying32 hi hz0 hz1 .i64 .i64 _ _ zs.length rfl rfl rfl rfl (by rw [hz2]; omega) (by unfold maxLen; omega) (Nat.le_refl _) ?_; intro w1 hown hgrow)
  have HC0 : Copied w w1 zs 0 := ⟨⟨_, hown, fun j hj => by omega⟩, (Below.refl _ _).grown hgrow (Nat.le_refl _) (fun k hk => by cases hk)⟩
  clear hown hgrow hi hz0 hz1 hz2
  go_loopw [4] (fun i wr => ∃ k : Nat, k ≤ zs.length ∧ i = .int .i64 k ∧ Copied w wr zs k) (fun i _ => zs.length - (intOf i).toNat)
  case atStart => exact ⟨0, Nat.zero_le _, rfl, HC0⟩
  case round =>
    obtain ⟨k, hk, rfl, hcp⟩ := hrel
    by_cases hlt : k < zs.length
    · rcases hopen with ⟨h0, _⟩ | ⟨bb, off, rfl, _, hc⟩
      · omega
      have hcw := hc k hlt
      have hcell := (hcp.bel.cell (p := ⟨bb, off + k, none⟩) (block_lt_of_cell hcw)).trans hcw
      obtain ⟨⟨vk, hsome⟩, hfroz⟩ := hcp.here hlt
      have HS := hide (hcp.step hlt)
      clear hc hcw hcp HC0
      go_wp2
      go_roundw
      case rel => exact ⟨k + 1, by omega, by go_num, unhide HS⟩
      case measure => simp [intOf]; omega
    · have hkk : k = zs.length := by omega
      subst hkk
      have HR := hide (hcp.row hlen (unhide HF))
      have HB := hide hcp.bel
      go_wp2
      go_ret
      exact ⟨rfl, unhide HR, unhide HB⟩

end Go.Proofs.Ytglefolkecimabd

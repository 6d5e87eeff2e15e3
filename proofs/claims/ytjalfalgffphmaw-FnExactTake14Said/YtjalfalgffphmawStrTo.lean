/-
  The law's size and copy of a list of texts. At lengths of at most 1048576.
-/
import Derived.Test.YtjalfalgffphmawStrRow
import Derived.Test.YtjalfalgffphmawMake
namespace Go.Proofs.Ytjalfalgffphmaw
open Go.RowKit

set_option maxRecDepth 20000 in
set_option maxHeartbeats 1000000 in
theorem szStringS_any (ad : Option Addr) (len cap : Nat) (ts : List ByteArray) (left : Int) (w : World) (hr : RowE 1 stC w ad len ts) (hf : ∀ i, i < len → (elAt ts i).size ≤ 9223372036854775807) (h0 : 0 ≤ left) (h1 : left ≤ 1048576) :
    Calls Try.prog 22 #[.slice ad len cap, .int .i64 left] w fun e w' => (∃ r : Int, e = .returned (.int .i64 r) ∧ (r < 0 ∨ (0 ≤ r ∧ r ≤ left ∧ len ≤ 1048576))) ∧ w' = w := by
  have hz := hr.len_eq
  have hs := hr.small
  have HO := hide hr.open1
  have HF := hide hf
  clear hr hf
  subst hz
  by_cases hlt : left < ts.length
  · go_enter Try.func22, Try.ntmps22
    go_wp2
    go_ret
    exact ⟨⟨_, rfl, .inl (by omega)⟩, rfl⟩
  · go_enter Try.func22, Try.ntmps22
    go_wp2_with fail
    go_loopw [1, 5] (fun l i wr => ∃ (k : Nat) (q : Int), k ≤ ts.length ∧ i = .int .i64 k ∧ l = .int .i64 q ∧ 0 ≤ q ∧ q ≤ left ∧ wr = w) (fun _ i _ => ts.length - (intOf i).toNat)
    case atStart => exact ⟨0, left - ts.length, by omega, rfl, rfl, by omega, by omega, rfl⟩
    case round =>
      obtain ⟨k, q, hk, rfl, rfl, hq0, hq1, hwr⟩ := hrel
      subst wr
      by_cases hk2 : k < ts.length
      · rcases (unhide HO) with ⟨h0, _⟩ | ⟨bb, off, rfl, _, hc⟩
        · omega
        have m0 : w.cell? ⟨bb, off + k, none⟩ = some (.string (elAt ts k)) := hc k hk2
        have fs := (unhide HF) k hk2
        have k0 : (0 : Int) ≤ (k : Int) := by omega
        have k1 : (k : Int) < (ts.length : Int) := by omega
        obtain ⟨S, hS⟩ : ∃ S, elAt ts k = S := ⟨_, rfl⟩
        rw [hS] at m0 fs
        clear hc hS
        by_cases hfit : (S.size : Int) ≤ q
        · have nf : ¬ q - (S.size : Int) < 0 := by omega
          go_wp2_with fail
          go_roundw
          case rel => exact ⟨k + 1, q - S.size, by omega, by go_num, rfl, by omega, by omega, by first | rfl | trivial⟩
          case measure => simp [intOf]; omega
        · have nf : q - (S.size : Int) < 0 := by omega
          go_wp2_with fail
          go_ret
          exact ⟨⟨_, rfl, .inl (by omega)⟩, rfl⟩
      · go_wp2_with fail
        go_ret
        exact ⟨⟨_, rfl, .inr ⟨by omega, by omega, by omega⟩⟩, rfl⟩

theorem info_tx : (Try.prog.info? 9).map (fun i => (i.zero, i.size, i.bytes)) = some (some (.string ⟨#[]⟩), 1, 16) := by kernel_rfl
/-- After k rounds of the copying; the new row lies in block B. -/
structure CopiedSt (w wr : World) (B : Nat) (ps : List ByteArray) (k : Nat) : Prop where
  own : ∃ xs : List Value, wr.ownsRow B 9 1 (.slice (some ⟨B, 0, none⟩) ps.length ps.length) ps.length xs ∧ ∀ j, j < k → xs[j]? = some (.string (elAt ps j))
  bel : Below w.heap.size w wr
  here : B < wr.heap.size
  old : w.heap.size ≤ B
theorem CopiedSt.at_ {w wr : World} {B : Nat} {ps : List ByteArray} {k : Nat} (h : CopiedSt w wr B ps k) (i : Nat) (hi : i < ps.length) : (∃ v, wr.cell? ⟨B, i, none⟩ = some v) ∧ wr.frozen? ⟨B, i, none⟩ = false := by
  obtain ⟨xs, ho, _⟩ := h.own
  refine ⟨?_, ho.frozenAt i⟩
  rw [ho.cellAt i (by omega)]
  have := ho.1
  exact ⟨xs[i]'(by omega), List.getElem?_eq_getElem (by omega)⟩
theorem CopiedSt.step {w wr : World} {B : Nat} {ps : List ByteArray} {k : Nat} (h : CopiedSt w wr B ps k) (hk : k < ps.length) : CopiedSt w (wr.setCell ⟨B, k, none⟩ (.string (elAt ps k))) B ps (k + 1) := by
  obtain ⟨xs, ho, hx⟩ := h.own
  have hl := ho.1
  refine ⟨⟨_, (ho.stored k _).1, fun j hj => ?_⟩, h.bel.setCell h.old _, by have := h.here; simpa [World.setCell] using this, h.old⟩
  by_cases e : j = k
  · subst e
    exact List.getElem?_set_self (by omega)
  · rw [List.getElem?_set_ne (by omega)]
    exact hx j (by omega)
theorem CopiedSt.done {w wr : World} {B : Nat} {ps : List ByteArray} (h : CopiedSt w wr B ps ps.length) : OwnE 1 stC wr B 9 (.slice (some ⟨B, 0, none⟩) ps.length ps.length) ps := by
  obtain ⟨xs, ho, hx⟩ := h.own
  refine ⟨⟨xs, ho, fun j hj q hq => ?_⟩⟩
  obtain rfl : q = 0 := by omega
  rw [Nat.mul_one, Nat.add_zero]
  exact hx j hj

set_option maxRecDepth 20000 in
set_option maxHeartbeats 1000000 in
theorem toStringS_own (ad : Option Addr) (len cap : Nat) (ts : List ByteArray) (w : World) (hr : RowE 1 stC w ad len ts) (hlen : len ≤ 1048576) :
    Calls Try.prog 24 #[.slice ad len cap] w fun e w' => e = .returned (.slice (some ⟨w.heap.size, 0, none⟩) len len) ∧ OwnE 1 stC w' w.heap.size 9 (.slice (some ⟨w.heap.size, 0, none⟩) len len) ts ∧ Below w.heap.size w w' := by
  have hz := hr.len_eq
  have HO := hide hr.open1
  clear hr
  subst hz
  obtain ⟨i0, hi, hz0, hz1, hz2⟩ := info_parts info_tx
  go_enter Try.func24, Try.ntmps24
  go_wp2_with (at_make; refine wpList_make_full _ rfl (.tmp 6) (.tmp 6) 23 rfl w.heap.size 9 i0 (.string ⟨#[]⟩) 1 Try.underlying23 hi hz0 hz1 .i64 .i64 _ _ ts.length rfl rfl rfl rfl (by rw [hz2]; omega) (by unfold maxLen; omega) (Nat.le_refl _) ?_; intro w1 hown hgrow)
  have hB : w.heap.size < w1.heap.size := (hown.lt w.heap.size rfl).2
  have HC0 : Hid (CopiedSt w w1 w.heap.size ts 0) := hide ⟨⟨_, hown, fun j hj => by omega⟩, (Below.refl _ _).grown hgrow (Nat.le_refl _) (fun k hk => by cases hk), hB, Nat.le_refl _⟩
  clear hown hgrow hi hz0 hz1 hz2 hB
  go_loopw [4] (fun i wr => ∃ k : Nat, k ≤ ts.length ∧ i = .int .i64 k ∧ Hid (CopiedSt w wr w.heap.size ts k)) (fun i _ => ts.length - (intOf i).toNat)
  case atStart => exact ⟨0, Nat.zero_le _, rfl, HC0⟩
  case round =>
    clear HC0
    obtain ⟨k, hk, rfl, HCP⟩ := hrel
    by_cases hlt : k < ts.length
    · rcases (unhide HO) with ⟨h0, _⟩ | ⟨bb, off, rfl, _, hc⟩
      · simp [h0] at hlt
      have c0 : w.cell? ⟨bb, off + k, none⟩ = some (.string (elAt ts k)) := hc k hlt
      have m0 := ((unhide HCP).bel.cell (block_lt_of_cell c0)).trans c0
      have hne : ¬ bb = w.heap.size := by have := block_lt_of_cell c0; simp at this; omega
      obtain ⟨⟨v0, hs0⟩, hf0⟩ := (unhide HCP).at_ k hlt
      have HS := hide ((unhide HCP).step hlt)
      have k0 : (0 : Int) ≤ (k : Int) := by omega
      have k1 : (k : Int) < (ts.length : Int) := by omega
      clear hc c0
      go_wp2_with fail
      go_roundw
      case rel => exact ⟨k + 1, by omega, by go_num, HS⟩
      case measure => simp [intOf]; omega
    · have hkk : k = ts.length := by omega
      subst hkk
      have HR := hide (unhide HCP).done
      have HB := hide (unhide HCP).bel
      go_wp2
      go_ret
      exact ⟨rfl, unhide HR, unhide HB⟩
theorem eqStringS_bel (ad bd : Option Addr) (len cap cap2 : Nat) (ps : List ByteArray) (w : World) (hr : RowE 1 stC w ad len ps) (hr2 : RowE 1 stC w bd len ps) :
    Calls Try.prog 19 #[.slice ad len cap, .slice bd len cap2] w fun e w' => e = .returned (.bool true) ∧ Below w.heap.size w w' := by
  refine (eqStringS_same ad bd len cap cap2 ps w hr hr2).mono ?_
  rintro e w' ⟨h, n, rfl⟩
  exact ⟨h, bel0d n⟩
theorem eqStringS_two (ad bd : Option Addr) (len cap len2 cap2 : Nat) (ps : List ByteArray) (w : World) (hr : RowE 1 stC w ad len ps) (hr2 : RowE 1 stC w bd len2 ps) :
    Calls Try.prog 19 #[.slice ad len cap, .slice bd len2 cap2] w fun e w' => e = .returned (.bool true) ∧ Below w.heap.size w w' := by
  have h1 := hr.len_eq
  have h2 := hr2.len_eq
  obtain rfl : len = len2 := by omega
  exact eqStringS_bel ad bd len cap cap2 ps w hr hr2
theorem heldStringS_bel (a : Option Addr) (len c : Nat) (ps : List ByteArray) (k : Int) (w : World) (hr : RowE 1 stC w a len (markL mkT 1 ps k len)) (hl : ps.length = len) (h1 : len ≤ 1048576) (hk0 : 1 ≤ k) (hk1 : k ≤ 900000000) :
    Calls Try.prog 21 #[.slice a len c, .int .i64 k] w fun e w' => e = .returned (.int .i64 (k + len)) ∧ Below w.heap.size w w' := heldStringS_any a len c ps k w hr hl h1 hk0 hk1

end Go.Proofs.Ytjalfalgffphmaw

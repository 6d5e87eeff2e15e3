/-
  Columns and events of a record that is right, in plain numbers; a number looked for in a list. No program here but the law's within.
-/
import Derived.Test.YtfnnfldfnjnlfagRcDr
import Derived.Test.YtfnnfldfnjnlfagEvIs
namespace Go.Proofs.Ytfnnfldfnjnlfag
open Go Go.RowKit

theorem nthS_in {z : List (List Int)} {i : Nat} (h : i < z.length) : nthS z i ∈ z := by
  have e : nthS z i = z[i] := by simp [nthS, h]
  rw [e]; exact List.getElem_mem h
theorem nth_in {r : List Int} {k : Nat} (h : k < r.length) : nth r k ∈ r := by
  have e : nth r k = r[k] := by simp [nth, h]
  rw [e]; exact List.getElem_mem h
theorem rcD_ok {z : List (List Int)} (h : RcD z) : rcB z = true := by
  obtain ⟨N, hN, hl, hr⟩ := h
  refine rcB_yes (fun i hi => ?_) (by omega)
  have a := hr _ (nthS_in hi)
  have b := hr _ (nthS_in (z := z) (i := 0) (by omega))
  rw [rwB, a.1, b.1, Bool.and_eq_true, Bool.and_eq_true]
  refine ⟨⟨by simp, by simp [inB]; omega⟩, allB_true (fun j hj => ?_)⟩
  have := a.2 _ (nth_in hj)
  simp [inB]; omega
theorem rcD_wd {z : List (List Int)} (h : RcD z) (h0 : 0 < z.length) : 1 ≤ wdN z ∧ wdN z ≤ 4 := by
  obtain ⟨N, hN, hl, hr⟩ := h
  have b := hr _ (nthS_in (z := z) (i := 0) h0)
  unfold wdN; omega
theorem coB_in {z : List (List Int)} {k : Int} (h : rcB z = true) (h0 : 0 < z.length) (h1 : 0 ≤ k) (h2 : k < wdN z) : coB z k = true := by
  rw [coB, h, show decide (0 < z.length) = true by simpa using h0]; simp [inB]; omega
theorem coB_out {z : List (List Int)} {k : Int} (h2 : (wdN z : Int) ≤ k) : coB z k = false := by
  rw [coB, show inB k 0 ((wdN z : Int) - 1) = false by simp [inB]; omega]; simp
theorem coB_nil {z : List (List Int)} {k : Int} (h : z.length = 0) : coB z k = false := by
  rw [coB, show decide (0 < z.length) = false by simp [h]]; simp
/-- Whether a number is in a list. -/
def memB (L : List Int) (x : Int) : Bool := decide (x ∈ L)
theorem memB_no {L : List Int} {x : Int} (h : ∀ j, j < L.length → nth L j ≠ x) : memB L x = false := by
  simp only [memB, decide_eq_false_iff_not]
  intro hx
  obtain ⟨j, hj, e⟩ := List.getElem_of_mem hx
  exact h j hj (by simp [nth, hj, e])
theorem memB_yes {L : List Int} {x : Int} {j : Nat} (hj : j < L.length) (h : nth L j = x) : memB L x = true := by
  simp only [memB, decide_eq_true_eq]; rw [← h]; exact nth_in hj
theorem evK_mem (L : List Int) (m : Int) {k i : Nat} (h : i < k) : memB (evK L m k) (i : Int) = evI L m i := by
  unfold memB evK
  cases e : evI L m i
  · rw [decide_eq_false_iff_not]
    intro hx
    obtain ⟨j, hj, ej⟩ := List.mem_map.1 hx
    have : j = i := by omega
    subst this
    rw [List.mem_filter, e] at hj
    exact absurd hj.2 (by simp)
  · rw [decide_eq_true_eq]
    exact List.mem_map.2 ⟨i, List.mem_filter.2 ⟨by simpa using h, e⟩, rfl⟩
theorem evK_rise (L : List Int) (m : Int) (k : Nat) {i j : Nat} (hij : i < j) (hj : j < (evK L m k).length) : nth (evK L m k) i < nth (evK L m k) j := by
  have p : (evK L m k).Pairwise (· < ·) := by
    unfold evK
    rw [List.pairwise_map]
    exact (List.pairwise_lt_range.filter _).imp (fun h => by omega)
  have := (List.pairwise_iff_getElem.1 p) i j (by omega) hj hij
  simpa [nth, hj, show i < (evK L m k).length by omega] using this
set_option maxHeartbeats 1000000 in
theorem lwWithin_any (a : Option Addr) (len cap : Nat) (L : List Int) (x : Int) (w : World) (hr : Row w a len L) :
    Calls Try.prog 28 #[.slice a len cap, .int .i64 x] w fun e w' => e = .returned (.bool (memB L x)) ∧ Below w.heap.size w w' := by
  have hz := hr.len_eq
  have hs := hr.small
  have HO := hide hr.open_
  clear hr
  subst hz
  go_enter Try.func28, Try.ntmps28
  go_wp2
  go_loopw [5] (fun i wr => ∃ k : Nat, k ≤ L.length ∧ i = .int .i64 k ∧ Hid (∀ j, j < k → nth L j ≠ x) ∧ Below w.heap.size w wr) (fun i _ => L.length - (intOf i).toNat)
  case atStart => exact ⟨0, Nat.zero_le _, rfl, (fun j hj => by omega), Below.refl _ _⟩
  case round =>
    obtain ⟨k, hk, rfl, hall, hbel⟩ := hrel
    have BW := hide hbel
    by_cases hlt : k < L.length
    · rcases (unhide HO) with ⟨h0, _⟩ | ⟨bb, off, rfl, _, hc⟩
      · omega
      have x1 := (hbel.cell (block_lt_of_cell (hc k hlt))).trans (hc k hlt)
      have i0 : (0 : Int) ≤ (k : Int) := by omega
      have i1 : (k : Int) < (L.length : Int) := by omega
      clear hc hbel
      by_cases e : nth L k = x
      · have HE := hide (memB_yes hlt e)
        have d1 : (nth L k == x) = true := by simpa using e
        clear e
        go_wp2_with fail
        go_ret
        exact ⟨ret_bool (unhide HE).symm, unhide BW⟩
      · have HE := hide e
        have d1 : (nth L k == x) = false := by simpa using e
        clear e
        go_wp2_with fail
        go_roundw
        case rel => exact ⟨k + 1, by omega, by go_num, (fun j hj => by rcases Nat.lt_succ_iff_lt_or_eq.1 hj with h | h; exact hall.out j h; subst h; exact unhide HE), unhide BW⟩
        case measure => simp [intOf]; omega
    · have i1 : ¬ (k : Int) < (L.length : Int) := by omega
      have HE := hide (memB_no (L := L) (x := x) (fun j hj => hall.out j (by omega)))
      go_wp2_with fail
      go_ret
      exact ⟨ret_bool (unhide HE).symm, unhide BW⟩

end Go.Proofs.Ytfnnfldfnjnlfag

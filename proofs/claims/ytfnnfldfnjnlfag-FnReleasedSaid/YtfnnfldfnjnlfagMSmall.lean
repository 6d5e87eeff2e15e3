/-
  What the small functions on whole numbers and their lists answer (l1In, l1All, l1Rise of the model; within, allWithin, ascending of the program; szIntS, eqIntS, toIntS of the law): at every argument, with no memory written that was there.
  A variable in a block of its own: what its cells hold, that none is frozen, that the block is there. No condition.
  What the law's copy of a list of whole numbers answers (toIntS): a new slice that reads as the list did, at every list of at most 1048576 numbers; nothing that was there is written.
-/
import Derived.Test.YtfnnfldfnjnlfagChecked
import Derived.Test.YtfnnfldfnjnlfagMBase

namespace Go.Proofs.Ytfnnfldfnjnlfag
open Go.RowKit

set_option maxHeartbeats 400000 in
theorem l1In_any (x a b : Int) (w : World) :
    Calls Try.prog 98 #[.int .i64 x, .int .i64 a, .int .i64 b] w fun e w' => e = .returned (.bool (inB x a b)) ∧ w' = w := by
  by_cases h1 : a ≤ x <;> by_cases h2 : x ≤ b
  all_goals
    go_enter Try.func98, Try.ntmps98
    go_wp2
    go_ret
    exact ⟨ret_bool (by simp [inB]; omega), rfl⟩

set_option maxHeartbeats 400000 in
theorem within_any (x a b : Int) (w : World) :
    Calls Try.prog 69 #[.int .i64 x, .int .i64 a, .int .i64 b] w fun e w' => e = .returned (.bool (inB x a b)) ∧ w' = w := by
  by_cases h1 : a ≤ x <;> by_cases h2 : x ≤ b
  all_goals
    go_enter Try.func69, Try.ntmps69
    go_wp2
    go_ret
    exact ⟨ret_bool (by simp [inB]; omega), rfl⟩

theorem l1In_is {c : Bool} (x a b : Int) (w : World) (hc : inB x a b = c) :
    Calls Try.prog 98 #[.int .i64 x, .int .i64 a, .int .i64 b] w fun e w' => e = .returned (.bool c) ∧ w' = w := by
  subst hc; exact l1In_any x a b w
theorem within_is {c : Bool} (x a b : Int) (w : World) (hc : inB x a b = c) :
    Calls Try.prog 69 #[.int .i64 x, .int .i64 a, .int .i64 b] w fun e w' => e = .returned (.bool c) ∧ w' = w := by
  subst hc; exact within_any x a b w

theorem allB_true {zs : List Int} {a b : Int} (h : ∀ j, j < zs.length → inB (nth zs j) a b = true) : allB zs a b = true := by
  simp only [allB, decide_eq_true_eq]; exact h
theorem allB_false {zs : List Int} {a b : Int} {j : Nat} (hj : j < zs.length) (h : inB (nth zs j) a b = false) : allB zs a b = false := by
  simp only [allB, decide_eq_false_iff_not]; intro k; have := k j hj; rw [h] at this; cases this

set_option maxHeartbeats 400000 in
theorem l1All_any (ad : Option Addr) (len cap : Nat) (zs : List Int) (a b : Int) (w : World) (hr : Row w ad len zs) :
    Calls Try.prog 119 #[.slice ad len cap, .int .i64 a, .int .i64 b] w fun e w' => e = .returned (.bool (allB zs a b)) ∧ ∃ n, w' = w.drewN n := by
  have hz := hr.len_eq
  have hs := hr.small
  have hopen := hr.open_
  clear hr
  subst hz
  go_enter Try.func119, Try.ntmps119
  go_wp2
  go_loopw [7] (fun i wr => ∃ k n : Nat, k ≤ zs.length ∧ i = .int .i64 k ∧ Hid (∀ j, j < k → inB (nth zs j) a b = true) ∧ wr = w.drewN n) (fun i _ => zs.length - (intOf i).toNat)
  case atStart => exact ⟨0, 0, Nat.zero_le _, rfl, (fun j hj => by omega), rfl⟩
  case round =>
    obtain ⟨k, n, hk, rfl, hall, rfl⟩ := hrel
    by_cases hlt : k < zs.length
    · rcases hopen with ⟨h0, _⟩ | ⟨bb, off, rfl, _, hc⟩
      · omega
      have hcell := hc k hlt
      clear hc
      cases hin : inB (nth zs k) a b
      · have Hin : Hid (inB (nth zs k) a b = false) := hin
        go_wp2_with (go_at_call 98; refine (l1In_any _ _ _ _).mono ?_; rintro e w' ⟨rfl, rfl⟩)
        go_ret
        exact ⟨ret_bool (allB_false hlt Hin.out).symm, n, rfl⟩
      · have Hin : Hid (inB (nth zs k) a b = true) := hin
        go_wp2_with (go_at_call 98; refine (l1In_any _ _ _ _).mono ?_; rintro e w' ⟨rfl, rfl⟩)
        go_roundw
        case rel => exact ⟨k + 1, n, by omega, by go_num, (fun j hj => by rcases Nat.lt_succ_iff_lt_or_eq.1 hj with h | h; exact hall.out j h; subst h; exact Hin.out), rfl⟩
        case measure => simp [intOf]; omega
    · go_wp2
      go_ret
      exact ⟨ret_bool (allB_true fun j hj => hall.out j (by omega)).symm, n, rfl⟩

set_option maxHeartbeats 400000 in
theorem allWithin_any (ad : Option Addr) (len cap : Nat) (zs : List Int) (a b : Int) (w : World) (hr : Row w ad len zs) :
    Calls Try.prog 40 #[.slice ad len cap, .int .i64 a, .int .i64 b] w fun e w' => e = .returned (.bool (allB zs a b)) ∧ ∃ n, w' = w.drewN n := by
  have hz := hr.len_eq
  have hs := hr.small
  have hopen := hr.open_
  clear hr
  subst hz
  go_enter Try.func40, Try.ntmps40
  go_wp2
  go_loopw [11] (fun i wr => ∃ k n : Nat, k ≤ zs.length ∧ i = .int .i64 k ∧ Hid (∀ j, j < k → inB (nth zs j) a b = true) ∧ wr = w.drewN n) (fun i _ => zs.length - (intOf i).toNat)
  case atStart => exact ⟨0, 0, Nat.zero_le _, rfl, (fun j hj => by omega), rfl⟩
  case round =>
    obtain ⟨k, n, hk, rfl, hall, rfl⟩ := hrel
    by_cases hlt : k < zs.length
    · rcases hopen with ⟨h0, _⟩ | ⟨bb, off, rfl, _, hc⟩
      · omega
      have hcell := hc k hlt
      clear hc
      cases hin : inB (nth zs k) a b
      · have Hin : Hid (inB (nth zs k) a b = false) := hin
        go_wp2_with (go_at_call 69; refine (within_any _ _ _ _).mono ?_; rintro e w' ⟨rfl, rfl⟩)
        go_ret
        exact ⟨ret_bool (allB_false hlt Hin.out).symm, n, rfl⟩
      · have Hin : Hid (inB (nth zs k) a b = true) := hin
        go_wp2_with (go_at_call 69; refine (within_any _ _ _ _).mono ?_; rintro e w' ⟨rfl, rfl⟩)
        go_roundw
        case rel => exact ⟨k + 1, n, by omega, by go_num, (fun j hj => by rcases Nat.lt_succ_iff_lt_or_eq.1 hj with h | h; exact hall.out j h; subst h; exact Hin.out), rfl⟩
        case measure => simp [intOf]; omega
    · go_wp2
      go_ret
      exact ⟨ret_bool (allB_true fun j hj => hall.out j (by omega)).symm, n, rfl⟩

theorem riseB_true {zs : List Int} (h : ∀ j, j + 1 < zs.length → nth zs j < nth zs (j + 1)) : riseB zs = true := by
  simp only [riseB, decide_eq_true_eq]; exact fun i hi => h i (by omega)
theorem riseB_false {zs : List Int} {j : Nat} (hj : j + 1 < zs.length) (h : nth zs (j + 1) ≤ nth zs j) : riseB zs = false := by
  simp only [riseB, decide_eq_false_iff_not]; intro k; have := k j (by omega); omega


set_option maxHeartbeats 400000 in
theorem ascending_any (ad : Option Addr) (len cap : Nat) (zs : List Int) (w : World) (hr : Row w ad len zs) :
    Calls Try.prog 82 #[.slice ad len cap] w fun e w' => e = .returned (.bool (riseB zs)) ∧ ∃ n, w' = w.drewN n := by
  have hz := hr.len_eq
  have hs := hr.small
  have hopen := hr.open_
  clear hr
  subst hz
  go_enter Try.func82, Try.ntmps82
  go_wp2
  go_loopw [3] (fun i wr => ∃ k n : Nat, i = .int .i64 ((k : Int) + 1) ∧ k ≤ zs.length ∧ Hid (∀ j, j < k → j + 1 < zs.length → nth zs j < nth zs (j + 1)) ∧ wr = w.drewN n) (fun i _ => zs.length + 1 - (intOf i).toNat)
  case atStart => exact ⟨0, 0, rfl, by omega, (fun j hj => by omega), rfl⟩
  case round =>
    obtain ⟨k, n, rfl, hk, hall, rfl⟩ := hrel
    by_cases hlt : k + 1 < zs.length
    · rcases hopen with ⟨h0, _⟩ | ⟨bb, off, rfl, _, hc⟩
      · simp [h0] at hlt
      have hc1 := hc k (by omega)
      have hc2 := hc (k + 1) hlt
      have hi1 : (0 : Int) ≤ (k : Int) := by omega
      have hi2 : (k : Int) < (zs.length : Int) := by omega
      have hi3 : (k : Int) + 1 < (zs.length : Int) := by omega
      have hi4 : ((k : Int) + 1).toNat = k + 1 := by omega
      clear hc
      by_cases hin : nth zs k < nth zs (k + 1)
      · go_wp2
        go_quiet (fail)
        go_wp2
        go_roundw
        case rel => exact ⟨k + 1, _, by go_num, by omega, (fun j hj h2 => by rcases Nat.lt_succ_iff_lt_or_eq.1 hj with h | h; exact hall.out j h h2; subst h; exact hin), rfl⟩
        case measure => simp [intOf]; omega
      · go_wp2
        go_quiet (fail)
        go_wp2
        go_ret
        exact ⟨ret_bool (riseB_false hlt (by omega)).symm, dn2 _ _ _⟩
    · go_wp2
      go_ret
      exact ⟨ret_bool (riseB_true fun j hj => hall.out j (by omega) hj).symm, n, rfl⟩

end Go.Proofs.Ytfnnfldfnjnlfag

namespace Go.Proofs.Ytfnnfldfnjnlfag
open Go.RowKit

structure Blk (w : World) (B : Nat) (vs : List Value) : Prop where
  c : ∀ i (h : i < vs.length), w.cell? ⟨B, i, none⟩ = some vs[i]
  f : ∀ i, i < vs.length → w.frozen? ⟨B, i, none⟩ = false
  lt : B < w.heap.size
theorem Blk.below {w w' : World} {B : Nat} {vs : List Value} (h : Blk w B vs) (k : Below w.heap.size w w') : Blk w' B vs :=
  ⟨fun i hi => (k.cell (p := ⟨B, i, none⟩) h.lt).trans (h.c i hi), fun i hi => (k.frozen (p := ⟨B, i, none⟩) h.lt).trans (h.f i hi), Nat.lt_of_lt_of_le h.lt k.size⟩
theorem Blk.drewN {w : World} {B : Nat} {vs : List Value} (h : Blk w B vs) (n : Nat) : Blk (w.drewN n) B vs := h.below (bel0d n)
theorem Blk.alloc {w : World} {B : Nat} {vs : List Value} (h : Blk w B vs) (o : Obj) : Blk (w.alloc o) B vs := h.below (bel1 o)
theorem Blk.new {w : World} (vs : List Value) (T : TypeId) : Blk (w.alloc (Obj.cells vs.toArray T)) w.heap.size vs :=
  ⟨fun i hi => by simp [go_sem, hi], fun i _ => by simp [go_sem], by simp⟩
theorem Blk.other {w : World} {B : Nat} {vs : List Value} (h : Blk w B vs) {p : Addr} (hp : p.block ≠ B) (v : Value) : Blk (w.setCell p v) B vs :=
  ⟨fun i hi => (World.cell?_setCell_other w _ _ _ (by intro e; rw [e] at hp; exact hp rfl)).trans (h.c i hi), fun i hi => by simp [h.f i hi], by simpa [World.setCell] using h.lt⟩
theorem Blk.set {w : World} {B : Nat} {vs : List Value} (h : Blk w B vs) (i : Nat) (hi : i < vs.length) (v : Value) : Blk (w.setCell ⟨B, i, none⟩ v) B (vs.set i v) := by
  refine ⟨fun j hj => ?_, fun j hj => by simpa using h.f j (by simpa using hj), by simpa [World.setCell] using h.lt⟩
  have hj' : j < vs.length := by simpa using hj
  by_cases e : i = j
  · subst e
    rw [List.getElem_set_self]
    exact World.cell?_setCell_same _ _ _ (h.c i hi)
  · rw [List.getElem_set_ne e]
    exact (World.cell?_setCell_other w _ _ _ (by intro k; simp only [Addr.mk.injEq] at k; omega)).trans (h.c j hj')

end Go.Proofs.Ytfnnfldfnjnlfag

namespace Go.Proofs.Ytfnnfldfnjnlfag
open Go.RowKit

theorem info_int : (Try.prog.info? 3).map (fun i => (i.zero, i.size, i.bytes)) = some (some (.int .i64 0), 1, 8) := by kernel_rfl

/-- After k rounds of the copying. -/
structure Copied (w wr : World) (zs : List Int) (k : Nat) : Prop where
  own : ∃ xs : List Value, wr.ownsRow w.heap.size 3 1 (.slice (some ⟨w.heap.size, 0, none⟩) zs.length zs.length) zs.length xs ∧ ∀ j, j < k → xs[j]? = some (.int .i64 (nth zs j))
  bel : Below w.heap.size w wr

theorem Copied.here {w wr : World} {zs : List Int} {k : Nat} (h : Copied w wr zs k) (hk : k < zs.length) :
    (∃ v, wr.cell? ⟨w.heap.size, k, none⟩ = some v) ∧ wr.frozen? ⟨w.heap.size, k, none⟩ = false := by
  obtain ⟨xs, ho, _⟩ := h.own
  refine ⟨?_, ho.frozenAt k⟩
  rw [ho.cellAt k (by omega)]
  have := ho.1
  exact ⟨xs[k]'(by omega), List.getElem?_eq_getElem (by omega)⟩

theorem Copied.step {w wr : World} {zs : List Int} {k : Nat} (h : Copied w wr zs k) (hk : k < zs.length) :
    Copied w (wr.setCell ⟨w.heap.size, k, none⟩ (.int .i64 (nth zs k))) zs (k + 1) := by
  obtain ⟨xs, ho, hx⟩ := h.own
  refine ⟨⟨_, (ho.stored k _).1, fun j hj => ?_⟩, h.bel.setCell (Nat.le_refl _) _⟩
  have hl := ho.1
  by_cases e : j = k
  · subst e; rw [List.getElem?_set_self (by omega)]
  · rw [List.getElem?_set_ne (by omega)]; exact hx j (by omega)

theorem Copied.row {w wr : World} {zs : List Int} (h : Copied w wr zs zs.length) (hs : zs.length ≤ 1048576) (hf : ∀ i : Nat, -9223372036854775808 ≤ nth zs i ∧ nth zs i ≤ 9223372036854775807) :
    Row wr (some ⟨w.heap.size, 0, none⟩) zs.length zs := by
  obtain ⟨xs, ho, hx⟩ := h.own
  refine ⟨rfl, by omega, fun i hi => ⟨_, _, rfl, ?_⟩, hf⟩
  rw [Nat.zero_add, ho.cellAt i (by omega), hx i hi]

end Go.Proofs.Ytfnnfldfnjnlfag

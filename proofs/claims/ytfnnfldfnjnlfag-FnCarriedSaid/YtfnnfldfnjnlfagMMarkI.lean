/-
  The law's marks in a list of whole numbers that a call has made: every number gets the next number, and nothing else is written; the marks are found again. A list that is made empty, and one number more behind a list.
  The drawing cursor at hand: it lies in one block, the bytes elsewhere, and nothing that was there has turned. What the drawing functions answer, so said. No condition.
-/
import Derived.Test.YtfnnfldfnjnlfagMBlk
import Derived.Deep.AppendLies
import Derived.Test.YtfnnfldfnjnlfagMCurNew

namespace Go.Proofs.Ytfnnfldfnjnlfag
open Go.RowKit

theorem info_int1 : (Try.prog.info? 3).map (fun i => (i.zero, i.size, i.bytes)) = some (some (.int .i64 0), 1, 8) := by kernel_rfl
theorem ownI_none {w w1 : World} (h : w.heap.size ≤ w1.heap.size) : OwnI (w1.alloc (Obj.cells #[] 3)) w.heap.size (.slice (some ⟨w1.heap.size, 0, none⟩) 0 0) [] := by
  refine ⟨⟨[], ⟨rfl, .inr ⟨_, _, #[], rfl, h, ?_, Nat.le_refl _, by simp [maxLen], rfl, rfl⟩⟩, fun j hj => by simp at hj⟩, fun i => by simp [nth]⟩
  show (w1.heap.push _)[w1.heap.size]? = _
  simp
theorem nth_app (Z : List Int) (a : Int) : (∀ i, i < Z.length → nth (Z ++ [a]) i = nth Z i) ∧ nth (Z ++ [a]) Z.length = a := by
  refine ⟨fun i hi => ?_, ?_⟩
  · unfold nth; rw [List.getElem?_append_left hi]
  · simp [nth]
theorem ownI_app {w : World} {base : Nat} {v : Value} {Z : List Int} {vs : List Value} {a : Int} (h : w.ownsRow base 3 1 v (Z.length + 1) (vs ++ [.int .i64 a])) (hl : vs.length = Z.length * 1)
    (hx : ∀ j, j < Z.length → vs[j]? = some (.int .i64 (nth Z j))) (hf : ∀ i : Nat, -9223372036854775808 ≤ nth Z i ∧ nth Z i ≤ 9223372036854775807) (ha : -9223372036854775808 ≤ a ∧ a ≤ 9223372036854775807) : OwnI w base v (Z ++ [a]) := by
  obtain ⟨h1, h2⟩ := nth_app Z a
  refine ⟨⟨vs ++ [.int .i64 a], by simpa using h, fun j hj => ?_⟩, fun i => ?_⟩
  · simp only [List.length_append, List.length_cons, List.length_nil] at hj
    by_cases e : j < Z.length
    · rw [h1 j e, List.getElem?_append_left (by omega)]
      exact hx j e
    · obtain rfl : j = Z.length := by omega
      rw [h2, List.getElem?_append_right (by omega), hl]
      simp
  · by_cases e : i < Z.length
    · rw [h1 i e]; exact hf i
    · by_cases e' : i = Z.length
      · subst e'; rw [h2]; exact ha
      · have : nth (Z ++ [a]) i = 0 := by unfold nth; rw [List.getElem?_eq_none (by simp; omega)]; rfl
        rw [this]; omega


end Go.Proofs.Ytfnnfldfnjnlfag

namespace Go.Proofs.Ytfnnfldfnjnlfag
open Go.RowKit

structure Dr (w : World) (C : Nat) (a : Option Addr) (len cap : Nat) (W : World) : Prop where
  cur : Cur W C a len cap
  byt : Bytes W a len
  bel : Below w.heap.size w W
  ne : ∀ b off, a = some ⟨b, off, none⟩ → b ≠ C
  ge : w.heap.size ≤ C
  lt : C < W.heap.size
theorem Dr.below {w : World} {C : Nat} {a : Option Addr} {len cap : Nat} {W W' : World} (h : Dr w C a len cap W) (b : Below W.heap.size W W') : Dr w C a len cap W' :=
  ⟨h.cur.below b, h.byt.below b, h.bel.trans (b.mono h.bel.size), h.ne, h.ge, Nat.lt_of_lt_of_le h.lt b.size⟩
theorem Dr.step {w : World} {C : Nat} {a : Option Addr} {len cap : Nat} {W W' : World} (h : Dr w C a len cap W) (c : Cur W' C a len cap) (g : W.grownBy W' (some C)) : Dr w C a len cap W' :=
  ⟨c, h.byt.far g (fun b off e => by have := h.ne b off e; simp [this]), h.bel.grown g h.bel.size (fun k hk => by cases hk; exact h.ge), h.ne, h.ge, Nat.lt_of_lt_of_le h.lt g.size⟩
/-- A list that grows behind the cursor's block: what is appended leaves the cursor. -/
theorem Dr.own {w : World} {C : Nat} {a : Option Addr} {len cap : Nat} {W W' : World} {row : Option Nat} (h : Dr w C a len cap W) (g : W.grownBy W' row) (hr : ∀ k, row = some k → C < k) (hin : ∀ b off, a = some ⟨b, off, none⟩ → b < w.heap.size) : Dr w C a len cap W' := by
  have ge := h.ge
  refine ⟨h.cur.far g (fun e => ?_), h.byt.far g (fun b off e e2 => ?_), h.bel.grown g h.bel.size (fun k hk => ?_), h.ne, h.ge, Nat.lt_of_lt_of_le h.lt g.size⟩
  · have := hr C e.symm; omega
  · have h1 := hr b e2.symm; have h2 := hin b off e; omega
  · have := hr k hk; omega
theorem drNew (a : Option Addr) (len cap : Nat) (w : World) (hb : Bytes w a len) (hin : ∀ b off, a = some ⟨b, off, none⟩ → b < w.heap.size) :
    Calls Try.prog 29 #[.slice a len cap] w fun e w' => e = .returned (.pointer (some ⟨w.heap.size, 0, none⟩)) ∧ Dr w w.heap.size a len cap w' ∧ Below w.heap.size w w' := by
  refine (l1New_any a len cap w hb).mono ?_
  rintro x w' ⟨rfl, hc, b⟩
  exact ⟨rfl, ⟨hc, hb.below b, b, fun b' off e => by have := hin b' off e; omega, Nat.le_refl _, hc.lt⟩, b⟩
theorem drBelow {w : World} {C : Nat} {a : Option Addr} {len cap : Nat} (n : Int) (W : World) (h : Dr w C a len cap W) (hn : 1 ≤ n ∧ n ≤ 1000000) :
    Calls Try.prog 31 #[.pointer (some ⟨C, 0, none⟩), .int .i64 n] W fun e w' => ∃ x : Int, e = .returned (.int .i64 x) ∧ (0 ≤ x ∧ x < n) ∧ Dr w C a len cap w' ∧ W.grownBy w' (some C) := by
  refine (l1Below_any C a len cap n W h.cur h.byt h.ne hn).mono ?_
  rintro e w' ⟨x, rfl, hx, hc, g⟩
  exact ⟨x, rfl, hx, h.step hc g, g⟩
theorem drOnce {w : World} {C : Nat} {a : Option Addr} {len cap : Nat} (n : Int) (W : World) (h : Dr w C a len cap W) (hn : 1 ≤ n ∧ n ≤ 1000000) :
    Calls Try.prog 78 #[.pointer (some ⟨C, 0, none⟩), .int .i64 n] W fun e w' => ∃ x : Bool, e = .returned (.bool x) ∧ Dr w C a len cap w' ∧ W.grownBy w' (some C) := by
  refine (l1Once_any C a len cap n W h.cur h.byt h.ne hn).mono ?_
  rintro e w' ⟨x, rfl, hc, g⟩
  exact ⟨x, rfl, h.step hc g, g⟩
theorem drPickInt {w : World} {C : Nat} {a : Option Addr} {len cap : Nat} (g n c : Nat) (zs : List Int) (W : World) (h : Dr w C a len cap W) (hr : Row W (some ⟨g, 0, none⟩) n zs) (hg : g ≠ C) (hn : 1 ≤ n ∧ n ≤ 100) :
    Calls Try.prog 76 #[.pointer (some ⟨C, 0, none⟩), .slice (some ⟨g, 0, none⟩) n c] W fun e w' => ∃ i : Nat, i < n ∧ e = .returned (.int .i64 (nth zs i)) ∧ Dr w C a len cap w' ∧ W.grownBy w' (some C) := by
  refine (l1PickInt_any C a len cap g n c zs W h.cur h.byt h.ne hr hg hn).mono ?_
  rintro e w' ⟨i, hi, rfl, hc, gr⟩
  exact ⟨i, hi, rfl, h.step hc gr, gr⟩
set_option maxHeartbeats 400000 in
theorem l1Size_any (a : Option Addr) (len cap : Nat) (most : Int) (w : World) (hl : len ≤ 1048576) (hm : 2 ≤ most) :
    Calls Try.prog 100 #[.slice a len cap, .int .i64 most] w fun e w' => ∃ x : Int, e = .returned (.int .i64 x) ∧ (2 ≤ x ∧ x ≤ most) ∧ w' = w := by
  have h0 : (0 : Int) ≤ (len : Int) := by omega
  have h1 : (len : Int) / 20 ≤ 60000 := by omega
  have h2 : (0 : Int) ≤ (len : Int) / 20 := by omega
  by_cases h : most < 2 + (len : Int) / 20
  all_goals
    go_enter Try.func100, Try.ntmps100
    go_wp2
    go_ret
    exact ⟨_, rfl, by omega, rfl⟩

end Go.Proofs.Ytfnnfldfnjnlfag

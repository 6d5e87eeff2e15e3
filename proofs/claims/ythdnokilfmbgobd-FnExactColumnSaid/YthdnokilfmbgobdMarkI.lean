/-
  The law's marks in a list of whole numbers that a call has made: every number gets the next number, and nothing else is written; the marks are found again. A list that is made empty, and one number more behind a list.
-/
import Derived.Test.YthdnokilfmbgobdOwnI
import Derived.Deep.AppendLies
namespace Go.Proofs.Ythdnokilfmbgobd
open Go.RowKit

theorem info_int1 : (Try.prog.info? 3).map (fun i => (i.zero, i.size, i.bytes)) = some (some (.int .i64 0), 1, 8) := by kernel_rfl
theorem ownI_none {w w1 : World} (h : w.heap.size ≤ w1.heap.size) : OwnI (w1.alloc (Obj.cells #[] 3)) w.heap.size (.slice (some ⟨w1.heap.size, 0, none⟩) 0 0) [] := by
  refine ⟨⟨[], ⟨rfl, .inr ⟨_, _, #[], rfl, h, ?_, Nat.le_refl _, by simp [maxLen], rfl, rfl⟩⟩, fun j hj => by simp at hj⟩, fun i => by simp [nth]⟩
  show (w1.heap.push _)[w1.heap.size]? = _
  simp
theorem nth_app (Z : List Int) (a : Int) : (∀ i, i < Z.length → nth (Z ++ [a]) i = nth Z i) ∧ nth (Z ++ [a]) Z.length = a := by
  refine ⟨fun i hi => ?_, ?_⟩
  · unfold nth; rw [List.getElem?_append_left hi]
  · simp [nth]
theorem ownI_app {w : World} {base : Nat} {v : Value} {Z : List Int} {vs : List Value} {a : Int} (h : w.ownsRow base 3 1 v (Z.length + 1) (vs ++ [.int .i64 a])) (hl : vs.length = Z.length * 1)
    (hx : ∀ j, j < Z.length → vs[j]? = some (.int .i64 (nth Z j))) (hf : ∀ i : Nat, -9223372036854775808 ≤ nth Z i ∧ nth Z i ≤ 9223372036854775807) (ha : -9223372036854775808 ≤ a ∧ a ≤ 9223372036854775807) : OwnI w base v (Z ++ [a]) := by
  obtain ⟨h1, h2⟩ := nth_app Z a
  refine ⟨⟨vs ++ [.int .i64 a], by simpa using h, fun j hj => ?_⟩, fun i => ?_⟩
  · simp only [List.length_append, List.length_cons, List.length_nil] at hj
    by_cases e : j < Z.length
    · rw [h1 j e, List.getElem?_append_left (by omega)]
      exact hx j e
    · obtain rfl : j = Z.length := by omega
      rw [h2, List.getElem?_append_right (by omega), hl]
      simp
  · by_cases e : i < Z.length
    · rw [h1 i e]; exact hf i
    · by_cases e' : i = Z.length
      · subst e'; rw [h2]; exact ha
      · have : nth (Z ++ [a]) i = 0 := by unfold nth; rw [List.getElem?_eq_none (by simp; omega)]; rfl
        rw [this]; omega

theorem markI_at (zs : List Int) (k : Int) : ∀ n, n ≤ zs.length → ∀ i, i < n → nth (markI zs k n) i = k + i := by
  intro n
  induction n with
  | zero => intro _ i hi; omega
  | succ n ih =>
    intro hn i hi
    have hl : n < (markI zs k n).length := by rw [markI_len]; omega
    show nth ((markI zs k n).set n (k + n)) i = _
    rw [nth_set _ _ _ _ hl]
    by_cases e : i = n
    · subst e; simp
    · rw [if_neg e]; exact ih (by omega) i (by omega)

set_option maxHeartbeats 1000000 in
theorem markIntS_own (base : Nat) (a : Option Addr) (len c : Nat) (zs : List Int) (k : Int) (w : World) (ho : OwnI w base (.slice a len c) zs) (hl : zs.length = len) (h1 : len ≤ 1048576) (hk0 : 0 ≤ k) (hk1 : k ≤ 1000000000) :
    Calls Try.prog 20 #[.slice a len c, .int .i64 k] w fun e w' => e = .returned (.int .i64 (k + len)) ∧ OwnI w' base (.slice a len c) (markI zs k len) ∧ w.grownBy w' (Value.slice a len c).ownBlock := by
  subst hl
  go_enter Try.func20, Try.ntmps20
  go_wp2
  go_loopw [1, 5] (fun kk i wr => ∃ j : Nat, j ≤ zs.length ∧ i = .int .i64 j ∧ kk = .int .i64 (k + j) ∧ OwnI wr base (.slice a zs.length c) (markI zs k j) ∧ w.grownBy wr (Value.slice a zs.length c).ownBlock) (fun _ i _ => zs.length - (intOf i).toNat)
  case atStart => exact ⟨0, Nat.zero_le _, rfl, by simp, ho, grown_refl _ _⟩
  case round =>
    obtain ⟨j, hj, rfl, rfl, how, hgr⟩ := hrel
    have hml := markI_len zs k j
    by_cases hlt : j < zs.length
    · rcases how.form with ⟨_, h0⟩ | ⟨g, c', hv, hg1, hg2, hc1, _⟩
      · rw [h0] at hml; simp at hml; omega
      simp only [Value.slice.injEq] at hv
      obtain ⟨rfl, hx, rfl⟩ := hv
      clear hx hc1
      have o1 := how
      rw [← hml] at o1
      obtain ⟨n0, z0⟩ := o1.here j (by omega)
      have o2 := o1.set j (by omega) (k + j) (by omega)
      rw [hml] at o2
      have O3 : Hid (OwnI (wr.setCell ⟨g, j, none⟩ (.int .i64 (k + j))) base (.slice (some ⟨g, 0, none⟩) zs.length c) (markI zs k (j + 1))) := hide o2
      have G3 : Hid (w.grownBy (wr.setCell ⟨g, j, none⟩ (.int .i64 (k + j))) (Value.slice (some ⟨g, 0, none⟩) zs.length c).ownBlock) := hide (grown_set hgr _ _)
      have hi1 : (j : Int) < (zs.length : Int) := by omega
      clear o1 o2 how hgr hml
      go_wp2
      go_roundw
      case rel => exact ⟨j + 1, by omega, by go_num, by go_num, unhide O3, unhide G3⟩
      case measure => simp [intOf]; omega
    · have hkk : j = zs.length := by omega
      subst hkk
      have O := hide how
      have G := hide hgr
      clear how hgr hml
      go_wp2
      go_ret
      exact ⟨rfl, unhide O, unhide G⟩

set_option maxHeartbeats 1000000 in
theorem heldIntS_any (base : Nat) (a : Option Addr) (len c : Nat) (zs : List Int) (k : Int) (w : World) (ho : OwnI w base (.slice a len c) (markI zs k len)) (hl : zs.length = len) (h1 : len ≤ 1048576) (hk0 : 0 ≤ k) (hk1 : k ≤ 1000000000) :
    Calls Try.prog 21 #[.slice a len c, .int .i64 k] w fun e w' => e = .returned (.int .i64 (k + len)) ∧ w' = w := by
  subst hl
  have HO := hide (OwnI.row ho).open_
  clear ho
  go_enter Try.func21, Try.ntmps21
  go_wp2
  go_loopw [1, 5] (fun kk i wr => ∃ j : Nat, j ≤ zs.length ∧ i = .int .i64 j ∧ kk = .int .i64 (k + j) ∧ wr = w) (fun _ i _ => zs.length - (intOf i).toNat)
  case atStart => exact ⟨0, Nat.zero_le _, rfl, by simp, rfl⟩
  case round =>
    obtain ⟨j, hj, rfl, rfl, hwr⟩ := hrel
    subst wr
    by_cases hlt : j < zs.length
    · rcases (unhide HO) with ⟨h0, _⟩ | ⟨bb, off, rfl, _, hc⟩
      · omega
      have ca := hc j hlt
      have m0 := markI_at zs k zs.length (Nat.le_refl _) j hlt
      rw [m0] at ca
      have hi1 : (j : Int) < (zs.length : Int) := by omega
      have q0 : ((k + (j : Int)) != (k + (j : Int))) = false := by simp
      clear hc m0
      go_wp2
      go_roundw
      case rel => exact ⟨j + 1, by omega, by go_num, by go_num, by first | rfl | trivial⟩
      case measure => simp [intOf]; omega
    · have hkk : j = zs.length := by omega
      subst hkk
      go_wp2
      go_ret
      exact ⟨rfl, rfl⟩

end Go.Proofs.Ythdnokilfmbgobd

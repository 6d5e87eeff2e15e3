/-
  Below a limit all blocks but one are as they were; lists of pairs that a call has made, empty and with one pair more; literal lists of whole numbers; parts of a list of pairs. No condition.
-/
import Derived.Test.YtomcbbpaajpeiaaCurNew
import Derived.Deep.AppendLies
namespace Go.Proofs.Ytomcbbpaajpeiaa
open Go.RowKit

theorem grown_alloc (w : World) (o : Obj) (row : Option Nat) : w.grownBy (w.alloc o) row := ⟨rfl, rfl, rfl, by simp, fun k hk _ => Below.heap_alloc _ _ _ hk⟩
theorem Row.far1 {w w' : World} {g off len : Nat} {zs : List Int} {row : Option Nat} (h : Row w (some ⟨g, off, none⟩) len zs) (k : w.grownBy w' row) (hne : some g ≠ row) : Row w' (some ⟨g, off, none⟩) len zs := by
  refine ⟨h.len_eq, h.small, fun i hi => ?_, h.fit⟩
  obtain ⟨b, off', ha, hc⟩ := h.cells i hi
  simp only [Option.some.injEq, Addr.mk.injEq, and_true] at ha
  obtain ⟨rfl, rfl⟩ := ha
  exact ⟨_, _, rfl, (World.cell?_of_block (a := ⟨g, off + i, none⟩) (k.block g (block_lt_of_cell hc) hne)).trans hc⟩

/-- Below lim all blocks but C are as they were. -/
structure Kp (C lim : Nat) (w w' : World) : Prop where
  os : w'.os = w.os
  tape : w'.tape = w.tape
  output : w'.output = w.output
  size : w.heap.size ≤ w'.heap.size
  block : ∀ k, k < lim → k ≠ C → w'.heap[k]? = w.heap[k]?
theorem Kp.refl (C lim : Nat) (w : World) : Kp C lim w w := ⟨rfl, rfl, rfl, Nat.le_refl _, fun _ _ _ => rfl⟩
theorem Kp.trans {C lim : Nat} {a b c : World} (h : Kp C lim a b) (k : Kp C lim b c) : Kp C lim a c :=
  ⟨k.os.trans h.os, k.tape.trans h.tape, k.output.trans h.output, Nat.le_trans h.size k.size, fun i hi hne => (k.block i hi hne).trans (h.block i hi hne)⟩
theorem Kp.of_row {C lim : Nat} {w w' : World} (h : w.grownBy w' (some C)) (hl : lim ≤ w.heap.size) : Kp C lim w w' :=
  ⟨h.os, h.tape, h.output, h.size, fun k hk hne => h.block k (by omega) (by simp [hne])⟩
theorem Kp.of_below {C lim : Nat} {w w' : World} (h : Below w.heap.size w w') (hl : lim ≤ w.heap.size) : Kp C lim w w' :=
  ⟨h.os, h.tape, h.output, h.size, fun k hk _ => h.block k (by omega)⟩
theorem Kp.of_own {C lim : Nat} {w w' : World} {row : Option Nat} (h : w.grownBy w' row) (hl : lim ≤ w.heap.size) (hr : ∀ i, row = some i → lim ≤ i) : Kp C lim w w' :=
  ⟨h.os, h.tape, h.output, h.size, fun k hk _ => h.block k (by omega) (fun e => by have := hr k e.symm; omega)⟩
theorem Kp.mono {C lim lim' : Nat} {w w' : World} (h : Kp C lim w w') (hl : lim' ≤ lim) : Kp C lim' w w' := ⟨h.os, h.tape, h.output, h.size, fun k hk hne => h.block k (by omega) hne⟩
theorem Kp.row2 {C lim : Nat} {w w' : World} (h : Kp C lim w w') {a : Option Addr} {len : Nat} {ps : List (Int × Int)} (hr : Row2 w a len ps) (hg : ∀ b off, a = some ⟨b, off, none⟩ → b < lim ∧ b ≠ C) : Row2 w' a len ps := by
  refine ⟨hr.len_eq, hr.small, fun i hi => ?_, hr.fit⟩
  obtain ⟨b, off', ha, hc, hd⟩ := hr.cells i hi
  obtain ⟨h1, h2⟩ := hg b off' ha
  exact ⟨_, _, ha, (World.cell?_of_block (a := ⟨b, off' + i * 2, none⟩) (h.block b h1 h2)).trans hc, (World.cell?_of_block (a := ⟨b, off' + i * 2 + 1, none⟩) (h.block b h1 h2)).trans hd⟩

theorem Own2.liesIn {w : World} {base : Nat} {T : TypeId} {v : Value} {ps : List (Int × Int)} (h : Own2 w base T v ps) : ∀ g, v.ownBlock = some g → base ≤ g ∧ g < w.heap.size := by
  intro g hg
  rcases h.form with ⟨rfl, _⟩ | ⟨g', cap, rfl, h1, h2, _⟩
  · simp [Value.ownBlock] at hg
  · simp only [Value.ownBlock, Option.some.injEq] at hg
    omega
theorem own2_empty (w : World) (T : TypeId) {base : Nat} (h : base ≤ w.heap.size) : Own2 (w.alloc (Obj.cells #[] T)) base T (.slice (some ⟨w.heap.size, 0, none⟩) ([] : List (Int × Int)).length 0) [] := by
  refine ⟨⟨[], ⟨rfl, .inr ⟨_, _, #[], rfl, h, ?_, Nat.le_refl _, by simp [maxLen], rfl, rfl⟩⟩, fun j hj => by simp at hj⟩, fun i => by simp [fstAt, sndAt]⟩
  show (w.heap.push _)[w.heap.size]? = _
  simp
theorem own2_nil (w : World) (T : TypeId) (base : Nat) : Own2 w base T (.slice none ([] : List (Int × Int)).length 0) [] :=
  ⟨⟨[], ⟨rfl, .inl ⟨rfl, rfl⟩⟩, fun j hj => by simp at hj⟩, fun i => by simp [fstAt, sndAt]⟩
theorem push_at {P : List (Int × Int)} {a b : Int} : (∀ i, i < P.length → fstAt (P ++ [(a, b)]) i = fstAt P i ∧ sndAt (P ++ [(a, b)]) i = sndAt P i) ∧ fstAt (P ++ [(a, b)]) P.length = a ∧ sndAt (P ++ [(a, b)]) P.length = b := by
  refine ⟨fun i hi => ?_, ?_, ?_⟩
  · unfold fstAt sndAt; rw [List.getElem?_append_left hi]; exact ⟨rfl, rfl⟩
  · simp [fstAt]
  · simp [sndAt]
theorem push_fit {P : List (Int × Int)} {a b : Int} (h : Fit2 P) (ha : -9223372036854775808 ≤ a ∧ a ≤ 9223372036854775807) (hb : -9223372036854775808 ≤ b ∧ b ≤ 9223372036854775807) : Fit2 (P ++ [(a, b)]) := by
  obtain ⟨h1, h2, h3⟩ := push_at (P := P) (a := a) (b := b)
  intro i
  by_cases e : i < P.length
  · rw [(h1 i e).1, (h1 i e).2]; exact h i
  · by_cases e' : i = P.length
    · subst e'; rw [h2, h3]; exact ⟨ha, hb⟩
    · have : (P ++ [(a, b)])[i]?.getD (0, 0) = (0, 0) := by rw [List.getElem?_eq_none (by simp; omega)]; rfl
      unfold fstAt sndAt
      rw [this]; simp
theorem own2_push {w : World} {base : Nat} {T : TypeId} {v : Value} {P : List (Int × Int)} {vs : List Value} {k N : Int} (h : w.ownsRow base T 2 v (P.length + 1) (vs ++ [.int .i64 k, .int .i64 N])) (hl : vs.length = P.length * 2)
    (hx : ∀ j, j < P.length → vs[j * 2]? = some (.int .i64 (fstAt P j)) ∧ vs[j * 2 + 1]? = some (.int .i64 (sndAt P j))) (hf : Fit2 P) (hk : -9223372036854775808 ≤ k ∧ k ≤ 9223372036854775807) (hN : -9223372036854775808 ≤ N ∧ N ≤ 9223372036854775807) : Own2 w base T v (P ++ [(k, N)]) := by
  refine ⟨⟨vs ++ [.int .i64 k, .int .i64 N], by simpa using h, fun j hj => ?_⟩, push_fit hf hk hN⟩
  obtain ⟨h1, h2, h3⟩ := push_at (P := P) (a := k) (b := N)
  simp only [List.length_append, List.length_cons, List.length_nil] at hj
  by_cases e : j < P.length
  · rw [(h1 j e).1, (h1 j e).2, List.getElem?_append_left (by omega), List.getElem?_append_left (by omega)]
    exact hx j e
  · obtain rfl : j = P.length := by omega
    rw [h2, h3, List.getElem?_append_right (by omega), List.getElem?_append_right (by omega), hl]
    simp

/-- A literal list of whole numbers. -/
theorem row_lit (w : World) (zs : List Int) (T : TypeId) (hn : zs.length ≤ 100) (hf : ∀ z ∈ zs, -9223372036854775808 ≤ z ∧ z ≤ 9223372036854775807) : Row (w.alloc (Obj.cells (zs.map (Value.int .i64)).toArray T)) (some ⟨w.heap.size, 0, none⟩) zs.length zs := by
  refine ⟨rfl, by omega, fun i hi => ⟨_, _, rfl, ?_⟩, fun i => ?_⟩
  · simp [go_sem, nth, hi]
  · by_cases hi : i < zs.length
    · have : nth zs i = zs[i] := by simp [nth, hi]
      rw [this]; exact hf _ (List.getElem_mem hi)
    · have : nth zs i = 0 := by simp [nth, hi]
      rw [this]; omega

theorem Row2.take {w : World} {b off len : Nat} {ps : List (Int × Int)} (h : Row2 w (some ⟨b, off, none⟩) len ps) {i : Nat} (hi : i ≤ len) : Row2 w (some ⟨b, off, none⟩) i (ps.take i) := by
  have hl := h.len_eq
  have hn : ∀ j, j < i → (ps.take i)[j]?.getD (0, 0) = ps[j]?.getD (0, 0) := fun j hj => by rw [List.getElem?_take, if_pos hj]
  refine ⟨by simp; omega, by have := h.small; omega, fun j hj => ?_, fun j => ?_⟩
  · obtain ⟨b', off', ha, hc, hd⟩ := h.cells j (by omega)
    refine ⟨b', off', ha, ?_, ?_⟩
    · unfold fstAt at hc ⊢; rw [hn j hj]; exact hc
    · unfold sndAt at hd ⊢; rw [hn j hj]; exact hd
  · by_cases hj : j < i
    · have := h.fit j
      unfold fstAt sndAt at this ⊢
      rw [hn j hj]; exact this
    · have : (ps.take i)[j]?.getD (0, 0) = (0, 0) := by rw [List.getElem?_take, if_neg hj]; rfl
      unfold fstAt sndAt
      rw [this]; simp
theorem Row2.drop {w : World} {b off len : Nat} {ps : List (Int × Int)} (h : Row2 w (some ⟨b, off, none⟩) len ps) {i : Nat} (hi : i ≤ len) : Row2 w (some ⟨b, off + i * 2, none⟩) (len - i) (ps.drop i) := by
  have hl := h.len_eq
  have hn : ∀ j, (ps.drop i)[j]?.getD (0, 0) = ps[i + j]?.getD (0, 0) := fun j => by rw [List.getElem?_drop]
  refine ⟨by simp; omega, by have := h.small; omega, fun j hj => ?_, fun j => ?_⟩
  · obtain ⟨b', off', ha, hc, hd⟩ := h.cells (i + j) (by omega)
    simp only [Option.some.injEq, Addr.mk.injEq, and_true] at ha
    obtain ⟨rfl, rfl⟩ := ha
    refine ⟨_, _, rfl, ?_, ?_⟩
    · unfold fstAt at hc ⊢; rw [hn j, ← hc]; congr 2; omega
    · unfold sndAt at hd ⊢; rw [hn j, ← hd]; congr 2; omega
  · have := h.fit (i + j)
    unfold fstAt sndAt at this ⊢
    rw [hn j]; exact this
theorem Row2.one {w : World} {b off len : Nat} {ps : List (Int × Int)} (h : Row2 w (some ⟨b, off, none⟩) len ps) {i : Nat} (hi : i < len) : Row2 w (some ⟨b, off + i * 2, none⟩) 1 [(fstAt ps i, sndAt ps i)] := by
  obtain ⟨b', off', ha, hc, hd⟩ := h.cells i hi
  simp only [Option.some.injEq, Addr.mk.injEq, and_true] at ha
  obtain ⟨rfl, rfl⟩ := ha
  refine ⟨rfl, by omega, fun j hj => ⟨_, _, rfl, ?_, ?_⟩, fun j => ?_⟩
  · obtain rfl : j = 0 := by omega
    simpa [fstAt] using hc
  · obtain rfl : j = 0 := by omega
    simpa [sndAt] using hd
  · rcases j with _ | j
    · exact h.fit i
    · simp [fstAt, sndAt]

set_option maxHeartbeats 1000000 in
theorem l1Once_any (C : Nat) (a : Option Addr) (len cap : Nat) (n : Int) (w : World) (hc : Cur w C a len cap) (hb : Bytes w a len) (hne : ∀ b off, a = some ⟨b, off, none⟩ → b ≠ C) (hn : 1 ≤ n ∧ n ≤ 1000000) :
    Calls Try.prog 28 #[.pointer (some ⟨C, 0, none⟩), .int .i64 n] w fun e w' => ∃ x : Bool, e = .returned (.bool x) ∧ Cur w' C a len cap ∧ w.grownBy w' (some C) := by
  go_enter Try.func28, Try.ntmps28
  go_wp2_with fail
  refine (l1Below_any C a len cap n w hc hb hne hn).mono ?_
  rintro e w1 ⟨x, rfl, hx, hc1, g1⟩
  have HC := hide hc1
  have HG := hide g1
  clear hc hb hc1 g1
  go_wp2
  go_ret
  exact ⟨_, rfl, unhide HC, unhide HG⟩

end Go.Proofs.Ytomcbbpaajpeiaa

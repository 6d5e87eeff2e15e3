/-
  Below a limit all blocks but one are as they were; lists of pairs that a call has made, empty and with one pair more; literal lists of whole numbers; parts of a list of pairs. No condition.
  The law's marks in a list of whole numbers that a call has made: every number gets the next number, and nothing else is written; the marks are found again. A list that is made empty, and one number more behind a list.
  The drawing cursor at hand: it lies in one block, the bytes elsewhere, and nothing that was there has turned. What the drawing functions answer, so said. No condition.
  The drawing cursor beside what was there at a start: nothing but the cursor's block has turned below it. No condition. (The same stand in DwIs: never import both.)
  One whole number more behind a list that a call has made, as a law for the walk. At lists of at most 1000000.
  One element more behind a list that a call has made, as laws for the walk, in the order of the text and in a region that draws its order: elements of several cells. At lists of at most 1000.
  A list of whole numbers behind a list that a call has made, as laws for the walk: in a plain region and in one that draws its order. At lists of at most 4000000.
-/
import Derived.Test.YtemodlgmjgdjpaaGreatDoorMCur
import Derived.Deep.AppendLies
import Derived.Test.YtemodlgmjgdjpaaGreatDoorMOnly
import Derived.Test.YtemodlgmjgdjpaaGreatDoorRowE

namespace Go.Proofs.YtemodlgmjgdjpaaGreatDoor
open Go.RowKit

theorem grown_alloc (w : World) (o : Obj) (row : Option Nat) : w.grownBy (w.alloc o) row := ⟨rfl, rfl, rfl, by simp, fun k hk _ => Below.heap_alloc _ _ _ hk⟩
theorem Row.far1 {w w' : World} {g off len : Nat} {zs : List Int} {row : Option Nat} (h : Row w (some ⟨g, off, none⟩) len zs) (k : w.grownBy w' row) (hne : some g ≠ row) : Row w' (some ⟨g, off, none⟩) len zs := by
  refine ⟨h.len_eq, h.small, fun i hi => ?_, h.fit⟩
  obtain ⟨b, off', ha, hc⟩ := h.cells i hi
  simp only [Option.some.injEq, Addr.mk.injEq, and_true] at ha
  obtain ⟨rfl, rfl⟩ := ha
  exact ⟨_, _, rfl, (World.cell?_of_block (a := ⟨g, off + i, none⟩) (k.block g (block_lt_of_cell hc) hne)).trans hc⟩

/-- Below lim all blocks but C are as they were. -/
structure Kp (C lim : Nat) (w w' : World) : Prop where
  os : w'.os = w.os
  tape : w'.tape = w.tape
  output : w'.output = w.output
  size : w.heap.size ≤ w'.heap.size
  block : ∀ k, k < lim → k ≠ C → w'.heap[k]? = w.heap[k]?
theorem Kp.refl (C lim : Nat) (w : World) : Kp C lim w w := ⟨rfl, rfl, rfl, Nat.le_refl _, fun _ _ _ => rfl⟩
theorem Kp.trans {C lim : Nat} {a b c : World} (h : Kp C lim a b) (k : Kp C lim b c) : Kp C lim a c :=
  ⟨k.os.trans h.os, k.tape.trans h.tape, k.output.trans h.output, Nat.le_trans h.size k.size, fun i hi hne => (k.block i hi hne).trans (h.block i hi hne)⟩
theorem Kp.of_row {C lim : Nat} {w w' : World} (h : w.grownBy w' (some C)) (hl : lim ≤ w.heap.size) : Kp C lim w w' :=
  ⟨h.os, h.tape, h.output, h.size, fun k hk hne => h.block k (by omega) (by simp [hne])⟩
theorem Kp.of_below {C lim : Nat} {w w' : World} (h : Below w.heap.size w w') (hl : lim ≤ w.heap.size) : Kp C lim w w' :=
  ⟨h.os, h.tape, h.output, h.size, fun k hk _ => h.block k (by omega)⟩
theorem Kp.of_own {C lim : Nat} {w w' : World} {row : Option Nat} (h : w.grownBy w' row) (hl : lim ≤ w.heap.size) (hr : ∀ i, row = some i → lim ≤ i) : Kp C lim w w' :=
  ⟨h.os, h.tape, h.output, h.size, fun k hk _ => h.block k (by omega) (fun e => by have := hr k e.symm; omega)⟩
theorem Kp.mono {C lim lim' : Nat} {w w' : World} (h : Kp C lim w w') (hl : lim' ≤ lim) : Kp C lim' w w' := ⟨h.os, h.tape, h.output, h.size, fun k hk hne => h.block k (by omega) hne⟩
theorem Kp.row2 {C lim : Nat} {w w' : World} (h : Kp C lim w w') {a : Option Addr} {len : Nat} {ps : List (Int × Int)} (hr : Row2 w a len ps) (hg : ∀ b off, a = some ⟨b, off, none⟩ → b < lim ∧ b ≠ C) : Row2 w' a len ps := by
  refine ⟨hr.len_eq, hr.small, fun i hi => ?_, hr.fit⟩
  obtain ⟨b, off', ha, hc, hd⟩ := hr.cells i hi
  obtain ⟨h1, h2⟩ := hg b off' ha
  exact ⟨_, _, ha, (World.cell?_of_block (a := ⟨b, off' + i * 2, none⟩) (h.block b h1 h2)).trans hc, (World.cell?_of_block (a := ⟨b, off' + i * 2 + 1, none⟩) (h.block b h1 h2)).trans hd⟩

theorem Own2.liesIn {w : World} {base : Nat} {T : TypeId} {v : Value} {ps : List (Int × Int)} (h : Own2 w base T v ps) : ∀ g, v.ownBlock = some g → base ≤ g ∧ g < w.heap.size := by
  intro g hg
  rcases h.form with ⟨rfl, _⟩ | ⟨g', cap, rfl, h1, h2, _⟩
  · simp [Value.ownBlock] at hg
  · simp only [Value.ownBlock, Option.some.injEq] at hg
    omega
theorem own2_empty (w : World) (T : TypeId) {base : Nat} (h : base ≤ w.heap.size) : Own2 (w.alloc (Obj.cells #[] T)) base T (.slice (some ⟨w.heap.size, 0, none⟩) ([] : List (Int × Int)).length 0) [] := by
  refine ⟨⟨[], ⟨rfl, .inr ⟨_, _, #[], rfl, h, ?_, Nat.le_refl _, by simp [maxLen], rfl, rfl⟩⟩, fun j hj => by simp at hj⟩, fun i => by simp [fstAt, sndAt]⟩
  show (w.heap.push _)[w.heap.size]? = _
  simp
theorem own2_nil (w : World) (T : TypeId) (base : Nat) : Own2 w base T (.slice none ([] : List (Int × Int)).length 0) [] :=
  ⟨⟨[], ⟨rfl, .inl ⟨rfl, rfl⟩⟩, fun j hj => by simp at hj⟩, fun i => by simp [fstAt, sndAt]⟩
theorem push_at {P : List (Int × Int)} {a b : Int} : (∀ i, i < P.length → fstAt (P ++ [(a, b)]) i = fstAt P i ∧ sndAt (P ++ [(a, b)]) i = sndAt P i) ∧ fstAt (P ++ [(a, b)]) P.length = a ∧ sndAt (P ++ [(a, b)]) P.length = b := by
  refine ⟨fun i hi => ?_, ?_, ?_⟩
  · unfold fstAt sndAt; rw [List.getElem?_append_left hi]; exact ⟨rfl, rfl⟩
  · simp [fstAt]
  · simp [sndAt]
theorem push_fit {P : List (Int × Int)} {a b : Int} (h : Fit2 P) (ha : -9223372036854775808 ≤ a ∧ a ≤ 9223372036854775807) (hb : -9223372036854775808 ≤ b ∧ b ≤ 9223372036854775807) : Fit2 (P ++ [(a, b)]) := by
  obtain ⟨h1, h2, h3⟩ := push_at (P := P) (a := a) (b := b)
  intro i
  by_cases e : i < P.length
  · rw [(h1 i e).1, (h1 i e).2]; exact h i
  · by_cases e' : i = P.length
    · subst e'; rw [h2, h3]; exact ⟨ha, hb⟩
    · have : (P ++ [(a, b)])[i]?.getD (0, 0) = (0, 0) := by rw [List.getElem?_eq_none (by simp; omega)]; rfl
      unfold fstAt sndAt
      rw [this]; simp
theorem own2_push {w : World} {base : Nat} {T : TypeId} {v : Value} {P : List (Int × Int)} {vs : List Value} {k N : Int} (h : w.ownsRow base T 2 v (P.length + 1) (vs ++ [.int .i64 k, .int .i64 N])) (hl : vs.length = P.length * 2)
    (hx : ∀ j, j < P.length → vs[j * 2]? = some (.int .i64 (fstAt P j)) ∧ vs[j * 2 + 1]? = some (.int .i64 (sndAt P j))) (hf : Fit2 P) (hk : -9223372036854775808 ≤ k ∧ k ≤ 9223372036854775807) (hN : -9223372036854775808 ≤ N ∧ N ≤ 9223372036854775807) : Own2 w base T v (P ++ [(k, N)]) := by
  refine ⟨⟨vs ++ [.int .i64 k, .int .i64 N], by simpa using h, fun j hj => ?_⟩, push_fit hf hk hN⟩
  obtain ⟨h1, h2, h3⟩ := push_at (P := P) (a := k) (b := N)
  simp only [List.length_append, List.length_cons, List.length_nil] at hj
  by_cases e : j < P.length
  · rw [(h1 j e).1, (h1 j e).2, List.getElem?_append_left (by omega), List.getElem?_append_left (by omega)]
    exact hx j e
  · obtain rfl : j = P.length := by omega
    rw [h2, h3, List.getElem?_append_right (by omega), List.getElem?_append_right (by omega), hl]
    simp

/-- A literal list of whole numbers. -/
theorem row_lit (w : World) (zs : List Int) (T : TypeId) (hn : zs.length ≤ 100) (hf : ∀ z ∈ zs, -9223372036854775808 ≤ z ∧ z ≤ 9223372036854775807) : Row (w.alloc (Obj.cells (zs.map (Value.int .i64)).toArray T)) (some ⟨w.heap.size, 0, none⟩) zs.length zs := by
  refine ⟨rfl, by omega, fun i hi => ⟨_, _, rfl, ?_⟩, fun i => ?_⟩
  · simp [go_sem, nth, hi]
  · by_cases hi : i < zs.length
    · have : nth zs i = zs[i] := by simp [nth, hi]
      rw [this]; exact hf _ (List.getElem_mem hi)
    · have : nth zs i = 0 := by simp [nth, hi]
      rw [this]; omega

theorem Row2.take {w : World} {b off len : Nat} {ps : List (Int × Int)} (h : Row2 w (some ⟨b, off, none⟩) len ps) {i : Nat} (hi : i ≤ len) : Row2 w (some ⟨b, off, none⟩) i (ps.take i) := by
  have hl := h.len_eq
  have hn : ∀ j, j < i → (ps.take i)[j]?.getD (0, 0) = ps[j]?.getD (0, 0) := fun j hj => by rw [List.getElem?_take, if_pos hj]
  refine ⟨by simp; omega, by have := h.small; omega, fun j hj => ?_, fun j => ?_⟩
  · obtain ⟨b', off', ha, hc, hd⟩ := h.cells j (by omega)
    refine ⟨b', off', ha, ?_, ?_⟩
    · unfold fstAt at hc ⊢; rw [hn j hj]; exact hc
    · unfold sndAt at hd ⊢; rw [hn j hj]; exact hd
  · by_cases hj : j < i
    · have := h.fit j
      unfold fstAt sndAt at this ⊢
      rw [hn j hj]; exact this
    · have : (ps.take i)[j]?.getD (0, 0) = (0, 0) := by rw [List.getElem?_take, if_neg hj]; rfl
      unfold fstAt sndAt
      rw [this]; simp
theorem Row2.drop {w : World} {b off len : Nat} {ps : List (Int × Int)} (h : Row2 w (some ⟨b, off, none⟩) len ps) {i : Nat} (hi : i ≤ len) : Row2 w (some ⟨b, off + i * 2, none⟩) (len - i) (ps.drop i) := by
  have hl := h.len_eq
  have hn : ∀ j, (ps.drop i)[j]?.getD (0, 0) = ps[i + j]?.getD (0, 0) := fun j => by rw [List.getElem?_drop]
  refine ⟨by simp; omega, by have := h.small; omega, fun j hj => ?_, fun j => ?_⟩
  · obtain ⟨b', off', ha, hc, hd⟩ := h.cells (i + j) (by omega)
    simp only [Option.some.injEq, Addr.mk.injEq, and_true] at ha
    obtain ⟨rfl, rfl⟩ := ha
    refine ⟨_, _, rfl, ?_, ?_⟩
    · unfold fstAt at hc ⊢; rw [hn j, ← hc]; congr 2; omega
    · unfold sndAt at hd ⊢; rw [hn j, ← hd]; congr 2; omega
  · have := h.fit (i + j)
    unfold fstAt sndAt at this ⊢
    rw [hn j]; exact this
theorem Row2.one {w : World} {b off len : Nat} {ps : List (Int × Int)} (h : Row2 w (some ⟨b, off, none⟩) len ps) {i : Nat} (hi : i < len) : Row2 w (some ⟨b, off + i * 2, none⟩) 1 [(fstAt ps i, sndAt ps i)] := by
  obtain ⟨b', off', ha, hc, hd⟩ := h.cells i hi
  simp only [Option.some.injEq, Addr.mk.injEq, and_true] at ha
  obtain ⟨rfl, rfl⟩ := ha
  refine ⟨rfl, by omega, fun j hj => ⟨_, _, rfl, ?_, ?_⟩, fun j => ?_⟩
  · obtain rfl : j = 0 := by omega
    simpa [fstAt] using hc
  · obtain rfl : j = 0 := by omega
    simpa [sndAt] using hd
  · rcases j with _ | j
    · exact h.fit i
    · simp [fstAt, sndAt]

set_option maxHeartbeats 1000000 in
theorem l1Once_any (C : Nat) (a : Option Addr) (len cap : Nat) (n : Int) (w : World) (hc : Cur w C a len cap) (hb : Bytes w a len) (hne : ∀ b off, a = some ⟨b, off, none⟩ → b ≠ C) (hn : 1 ≤ n ∧ n ≤ 1000000) :
    Calls Tryz.prog 70 #[.pointer (some ⟨C, 0, none⟩), .int .i64 n] w fun e w' => ∃ x : Bool, e = .returned (.bool x) ∧ Cur w' C a len cap ∧ w.grownBy w' (some C) := by
  go_enter Tryz.func70, Tryz.ntmps70
  go_wp2_with fail
  refine (l1Below_any C a len cap n w hc hb hne hn).mono ?_
  rintro e w1 ⟨x, rfl, hx, hc1, g1⟩
  have HC := hide hc1
  have HG := hide g1
  clear hc hb hc1 g1
  go_wp2
  go_ret
  exact ⟨_, rfl, unhide HC, unhide HG⟩

end Go.Proofs.YtemodlgmjgdjpaaGreatDoor

namespace Go.Proofs.YtemodlgmjgdjpaaGreatDoor
open Go.RowKit

theorem info_int1 : (Tryz.prog.info? 3).map (fun i => (i.zero, i.size, i.bytes)) = some (some (.int .i64 0), 1, 8) := by kernel_rfl
theorem ownI_none {w w1 : World} (h : w.heap.size ≤ w1.heap.size) : OwnI (w1.alloc (Obj.cells #[] 3)) w.heap.size (.slice (some ⟨w1.heap.size, 0, none⟩) 0 0) [] := by
  refine ⟨⟨[], ⟨rfl, .inr ⟨_, _, #[], rfl, h, ?_, Nat.le_refl _, by simp [maxLen], rfl, rfl⟩⟩, fun j hj => by simp at hj⟩, fun i => by simp [nth]⟩
  show (w1.heap.push _)[w1.heap.size]? = _
  simp
theorem nth_app (Z : List Int) (a : Int) : (∀ i, i < Z.length → nth (Z ++ [a]) i = nth Z i) ∧ nth (Z ++ [a]) Z.length = a := by
  refine ⟨fun i hi => ?_, ?_⟩
  · unfold nth; rw [List.getElem?_append_left hi]
  · simp [nth]
theorem ownI_app {w : World} {base : Nat} {v : Value} {Z : List Int} {vs : List Value} {a : Int} (h : w.ownsRow base 3 1 v (Z.length + 1) (vs ++ [.int .i64 a])) (hl : vs.length = Z.length * 1)
    (hx : ∀ j, j < Z.length → vs[j]? = some (.int .i64 (nth Z j))) (hf : ∀ i : Nat, -9223372036854775808 ≤ nth Z i ∧ nth Z i ≤ 9223372036854775807) (ha : -9223372036854775808 ≤ a ∧ a ≤ 9223372036854775807) : OwnI w base v (Z ++ [a]) := by
  obtain ⟨h1, h2⟩ := nth_app Z a
  refine ⟨⟨vs ++ [.int .i64 a], by simpa using h, fun j hj => ?_⟩, fun i => ?_⟩
  · simp only [List.length_append, List.length_cons, List.length_nil] at hj
    by_cases e : j < Z.length
    · rw [h1 j e, List.getElem?_append_left (by omega)]
      exact hx j e
    · obtain rfl : j = Z.length := by omega
      rw [h2, List.getElem?_append_right (by omega), hl]
      simp
  · by_cases e : i < Z.length
    · rw [h1 i e]; exact hf i
    · by_cases e' : i = Z.length
      · subst e'; rw [h2]; exact ha
      · have : nth (Z ++ [a]) i = 0 := by unfold nth; rw [List.getElem?_eq_none (by simp; omega)]; rfl
        rw [this]; omega

theorem markI_at (zs : List Int) (k : Int) : ∀ n, n ≤ zs.length → ∀ i, i < n → nth (markI zs k n) i = k + i := by
  intro n
  induction n with
  | zero => intro _ i hi; omega
  | succ n ih =>
    intro hn i hi
    have hl : n < (markI zs k n).length := by rw [markI_len]; omega
    show nth ((markI zs k n).set n (k + n)) i = _
    rw [nth_set _ _ _ _ hl]
    by_cases e : i = n
    · subst e; simp
    · rw [if_neg e]; exact ih (by omega) i (by omega)

set_option maxHeartbeats 1000000 in
theorem markIntS_own (base : Nat) (a : Option Addr) (len c : Nat) (zs : List Int) (k : Int) (w : World) (ho : OwnI w base (.slice a len c) zs) (hl : zs.length = len) (h1 : len ≤ 1048576) (hk0 : 0 ≤ k) (hk1 : k ≤ 1000000000) :
    Calls Tryz.prog 31 #[.slice a len c, .int .i64 k] w fun e w' => e = .returned (.int .i64 (k + len)) ∧ OwnI w' base (.slice a len c) (markI zs k len) ∧ w.grownBy w' (Value.slice a len c).ownBlock := by
  subst hl
  go_enter Tryz.func31, Tryz.ntmps31
  go_wp2
  go_loopw [1, 5] (fun kk i wr => ∃ j : Nat, j ≤ zs.length ∧ i = .int .i64 j ∧ kk = .int .i64 (k + j) ∧ OwnI wr base (.slice a zs.length c) (markI zs k j) ∧ w.grownBy wr (Value.slice a zs.length c).ownBlock) (fun _ i _ => zs.length - (intOf i).toNat)
  case atStart => exact ⟨0, Nat.zero_le _, rfl, by simp, ho, grown_refl _ _⟩
  case round =>
    obtain ⟨j, hj, rfl, rfl, how, hgr⟩ := hrel
    have hml := markI_len zs k j
    by_cases hlt : j < zs.length
    · rcases how.form with ⟨_, h0⟩ | ⟨g, c', hv, hg1, hg2, hc1, _⟩
      · rw [h0] at hml; simp at hml; omega
      simp only [Value.slice.injEq] at hv
      obtain ⟨rfl, hx, rfl⟩ := hv
      clear hx hc1
      have o1 := how
      rw [← hml] at o1
      obtain ⟨n0, z0⟩ := o1.here j (by omega)
      have o2 := o1.set j (by omega) (k + j) (by omega)
      rw [hml] at o2
      have O3 : Hid (OwnI (wr.setCell ⟨g, j, none⟩ (.int .i64 (k + j))) base (.slice (some ⟨g, 0, none⟩) zs.length c) (markI zs k (j + 1))) := hide o2
      have G3 : Hid (w.grownBy (wr.setCell ⟨g, j, none⟩ (.int .i64 (k + j))) (Value.slice (some ⟨g, 0, none⟩) zs.length c).ownBlock) := hide (grown_set hgr _ _)
      have hi1 : (j : Int) < (zs.length : Int) := by omega
      clear o1 o2 how hgr hml
      go_wp2
      go_roundw
      case rel => exact ⟨j + 1, by omega, by go_num, by go_num, unhide O3, unhide G3⟩
      case measure => simp [intOf]; omega
    · have hkk : j = zs.length := by omega
      subst hkk
      have O := hide how
      have G := hide hgr
      clear how hgr hml
      go_wp2
      go_ret
      exact ⟨rfl, unhide O, unhide G⟩

set_option maxHeartbeats 1000000 in
theorem heldIntS_any (base : Nat) (a : Option Addr) (len c : Nat) (zs : List Int) (k : Int) (w : World) (ho : OwnI w base (.slice a len c) (markI zs k len)) (hl : zs.length = len) (h1 : len ≤ 1048576) (hk0 : 0 ≤ k) (hk1 : k ≤ 1000000000) :
    Calls Tryz.prog 32 #[.slice a len c, .int .i64 k] w fun e w' => e = .returned (.int .i64 (k + len)) ∧ w' = w := by
  subst hl
  have HO := hide (OwnI.row ho).open_
  clear ho
  go_enter Tryz.func32, Tryz.ntmps32
  go_wp2
  go_loopw [1, 5] (fun kk i wr => ∃ j : Nat, j ≤ zs.length ∧ i = .int .i64 j ∧ kk = .int .i64 (k + j) ∧ wr = w) (fun _ i _ => zs.length - (intOf i).toNat)
  case atStart => exact ⟨0, Nat.zero_le _, rfl, by simp, rfl⟩
  case round =>
    obtain ⟨j, hj, rfl, rfl, hwr⟩ := hrel
    subst wr
    by_cases hlt : j < zs.length
    · rcases (unhide HO) with ⟨h0, _⟩ | ⟨bb, off, rfl, _, hc⟩
      · omega
      have ca := hc j hlt
      have m0 := markI_at zs k zs.length (Nat.le_refl _) j hlt
      rw [m0] at ca
      have hi1 : (j : Int) < (zs.length : Int) := by omega
      have q0 : ((k + (j : Int)) != (k + (j : Int))) = false := by simp
      clear hc m0
      go_wp2
      go_roundw
      case rel => exact ⟨j + 1, by omega, by go_num, by go_num, by first | rfl | trivial⟩
      case measure => simp [intOf]; omega
    · have hkk : j = zs.length := by omega
      subst hkk
      go_wp2
      go_ret
      exact ⟨rfl, rfl⟩

end Go.Proofs.YtemodlgmjgdjpaaGreatDoor

namespace Go.Proofs.YtemodlgmjgdjpaaGreatDoor
open Go.RowKit

structure Dr (w : World) (C : Nat) (a : Option Addr) (len cap : Nat) (W : World) : Prop where
  cur : Cur W C a len cap
  byt : Bytes W a len
  bel : Below w.heap.size w W
  ne : ∀ b off, a = some ⟨b, off, none⟩ → b ≠ C
  ge : w.heap.size ≤ C
  lt : C < W.heap.size
theorem Dr.below {w : World} {C : Nat} {a : Option Addr} {len cap : Nat} {W W' : World} (h : Dr w C a len cap W) (b : Below W.heap.size W W') : Dr w C a len cap W' :=
  ⟨h.cur.below b, h.byt.below b, h.bel.trans (b.mono h.bel.size), h.ne, h.ge, Nat.lt_of_lt_of_le h.lt b.size⟩
theorem Dr.step {w : World} {C : Nat} {a : Option Addr} {len cap : Nat} {W W' : World} (h : Dr w C a len cap W) (c : Cur W' C a len cap) (g : W.grownBy W' (some C)) : Dr w C a len cap W' :=
  ⟨c, h.byt.far g (fun b off e => by have := h.ne b off e; simp [this]), h.bel.grown g h.bel.size (fun k hk => by cases hk; exact h.ge), h.ne, h.ge, Nat.lt_of_lt_of_le h.lt g.size⟩
/-- A list that grows behind the cursor's block: what is appended leaves the cursor. -/
theorem Dr.own {w : World} {C : Nat} {a : Option Addr} {len cap : Nat} {W W' : World} {row : Option Nat} (h : Dr w C a len cap W) (g : W.grownBy W' row) (hr : ∀ k, row = some k → C < k) (hin : ∀ b off, a = some ⟨b, off, none⟩ → b < w.heap.size) : Dr w C a len cap W' := by
  have ge := h.ge
  refine ⟨h.cur.far g (fun e => ?_), h.byt.far g (fun b off e e2 => ?_), h.bel.grown g h.bel.size (fun k hk => ?_), h.ne, h.ge, Nat.lt_of_lt_of_le h.lt g.size⟩
  · have := hr C e.symm; omega
  · have h1 := hr b e2.symm; have h2 := hin b off e; omega
  · have := hr k hk; omega
theorem drNew (a : Option Addr) (len cap : Nat) (w : World) (hb : Bytes w a len) (hin : ∀ b off, a = some ⟨b, off, none⟩ → b < w.heap.size) :
    Calls Tryz.prog 33 #[.slice a len cap] w fun e w' => e = .returned (.pointer (some ⟨w.heap.size, 0, none⟩)) ∧ Dr w w.heap.size a len cap w' ∧ Below w.heap.size w w' := by
  refine (l1New_any a len cap w hb).mono ?_
  rintro x w' ⟨rfl, hc, b⟩
  exact ⟨rfl, ⟨hc, hb.below b, b, fun b' off e => by have := hin b' off e; omega, Nat.le_refl _, hc.lt⟩, b⟩
theorem drBelow {w : World} {C : Nat} {a : Option Addr} {len cap : Nat} (n : Int) (W : World) (h : Dr w C a len cap W) (hn : 1 ≤ n ∧ n ≤ 1000000) :
    Calls Tryz.prog 35 #[.pointer (some ⟨C, 0, none⟩), .int .i64 n] W fun e w' => ∃ x : Int, e = .returned (.int .i64 x) ∧ (0 ≤ x ∧ x < n) ∧ Dr w C a len cap w' ∧ W.grownBy w' (some C) := by
  refine (l1Below_any C a len cap n W h.cur h.byt h.ne hn).mono ?_
  rintro e w' ⟨x, rfl, hx, hc, g⟩
  exact ⟨x, rfl, hx, h.step hc g, g⟩
theorem drOnce {w : World} {C : Nat} {a : Option Addr} {len cap : Nat} (n : Int) (W : World) (h : Dr w C a len cap W) (hn : 1 ≤ n ∧ n ≤ 1000000) :
    Calls Tryz.prog 70 #[.pointer (some ⟨C, 0, none⟩), .int .i64 n] W fun e w' => ∃ x : Bool, e = .returned (.bool x) ∧ Dr w C a len cap w' ∧ W.grownBy w' (some C) := by
  refine (l1Once_any C a len cap n W h.cur h.byt h.ne hn).mono ?_
  rintro e w' ⟨x, rfl, hc, g⟩
  exact ⟨x, rfl, h.step hc g, g⟩

end Go.Proofs.YtemodlgmjgdjpaaGreatDoor

namespace Go.Proofs.YtemodlgmjgdjpaaGreatDoor
open Go Go.RowKit

structure Dk (w : World) (C : Nat) (a : Option Addr) (len cap : Nat) (W0 W : World) : Prop where
  d : Dr w C a len cap W
  g : Aps (· = C) W0 W
  inn : ∀ b off, a = some ⟨b, off, none⟩ → b < w.heap.size
  lo : C < W0.heap.size
theorem Dk.start {w : World} {C : Nat} {a : Option Addr} {len cap : Nat} {W : World} (h : Dr w C a len cap W) (hin : ∀ b off, a = some ⟨b, off, none⟩ → b < w.heap.size) : Dk w C a len cap W W := ⟨h, Aps.refl _ _, hin, h.lt⟩
theorem Dk.below {w : World} {C : Nat} {a : Option Addr} {len cap : Nat} {W0 W W' : World} (h : Dk w C a len cap W0 W) (b : Below W.heap.size W W') : Dk w C a len cap W0 W' := ⟨h.d.below b, h.g.trans (Aps.of_below b), h.inn, h.lo⟩
theorem Dk.call {w : World} {C : Nat} {a : Option Addr} {len cap : Nat} {W0 W W' : World} (h : Dk w C a len cap W0 W) (gr : W.grownBy W' (some C)) (d : Dr w C a len cap W') : Dk w C a len cap W0 W' := ⟨d, h.g.grow gr (fun _ hq => (Option.some.inj hq).symm), h.inn, h.lo⟩
theorem Dk.own {w : World} {C : Nat} {a : Option Addr} {len cap : Nat} {W0 W W' : World} {B : Nat} (h : Dk w C a len cap W0 W) (gr : W.grownBy W' (some B)) (hB : W0.heap.size ≤ B) : Dk w C a len cap W0 W' :=
  ⟨h.d.own gr (fun k hk => by have e := Option.some.inj hk; have := h.lo; omega) h.inn, h.g.growN gr (fun _ hq => .inr (by have e := Option.some.inj hq; omega)), h.inn, h.lo⟩
theorem Dk.gr {w : World} {C : Nat} {a : Option Addr} {len cap : Nat} {W0 W : World} (h : Dk w C a len cap W0 W) : W0.grownBy W (some C) :=
  ⟨h.g.os, h.g.tape, h.g.output, h.g.size, fun k hk e => h.g.block k hk (fun e2 => e (by rw [e2]))⟩

end Go.Proofs.YtemodlgmjgdjpaaGreatDoor

namespace Go.Proofs.YtemodlgmjgdjpaaGreatDoor
open Go.RowKit

theorem grownBy_alloc_then {w w' : World} {o : Obj} {row : Option Nat} (h : (w.alloc o).grownBy w' row) : w.grownBy w' row :=
  ⟨h.os, h.tape, h.output, Nat.le_trans (by simp) h.size, fun k hk hne => (h.block k (Nat.lt_of_lt_of_le hk (by simp)) hne).trans (Below.heap_alloc _ _ _ hk)⟩
theorem wpList_app_int {ops : Array Oper} {rest : List Oper} {o : Oper} {a : Act} {Q : Exit → Act → World → Prop} (hgd : o.guard = none) (s xo : Operand)
    (ho : o.op = .call { callee := .builtin .append, args := #[s, xo], argTypes := #[39, 39] }) {wr : World} {base n : Nat} {v : Value} {zs : List Int} (x : Int) (hO : OwnI wr base v zs) (hn : zs.length = n) (hs : a.eval s = v)
    {H : Nat} (hH : wr.heap.size = H) (hx : a.eval xo = .slice (some ⟨H, 0, none⟩) 1 1) (hb : base ≤ wr.heap.size) (hsm : n ≤ 1000000) (hf : -9223372036854775808 ≤ x ∧ x ≤ 9223372036854775807)
    (h : ∀ g cap w', OwnI w' base (.slice (some ⟨g, 0, none⟩) (n + 1) cap) (zs ++ [x]) → wr.grownBy w' v.ownBlock → wpList Tryz.prog ops Q rest (a.put o.dst (.slice (some ⟨g, 0, none⟩) (n + 1) cap)) w') :
    wpList Tryz.prog ops Q (o :: rest) a (wr.alloc (Obj.cells #[.int .i64 x] 3)) := by
  subst hn
  subst hH
  obtain ⟨vs, hown, hvx⟩ := hO.own
  have hbA := bel1 (w := wr) (Obj.cells #[.int .i64 x] 3)
  have hownA := ownsRow_below hown hbA
  have hnews := World.news_of_block (heap_alloc_new wr (Obj.cells #[.int .i64 x] 3))
  obtain ⟨i0, hii, hz0, hz1, hz2⟩ := info_parts info_int1
  refine wpList_append_lies _ hgd s xo 39 ho base 3 i0 (.int .i64 0) 1 8 Tryz.underlying39 hii hz0 hz1 hz2 rfl (by decide) v zs.length vs hs hownA ⟨wr.heap.size, 0, none⟩ 1 1 [.int .i64 x] hx rfl hnews (by simp [Value.oneCell']) (by decide) (by unfold maxLen; omega) (by omega) (by simp; omega) _ rfl ?_
  intro g cap w' h1 h2 _ _
  exact h g cap w' (ownI_app h1 hown.1 hvx hO.fit hf) (grownBy_alloc_then h2)

end Go.Proofs.YtemodlgmjgdjpaaGreatDoor

namespace Go.Proofs.YtemodlgmjgdjpaaGreatDoor
open Go.RowKit

theorem step_app_elG {α : Type} [Inhabited α] {K : Nat} {cells : α → Nat → Value} {ops : Array Oper} {o : Oper} {a : Act} {L : Act → World → Prop} {Q : Exit → Act → World → Prop} {E : Prop} (hgd : o.guard = none) (s xo : Operand) (sT eT : TypeId)
    (ho : o.op = .call { callee := .builtin .append, args := #[s, xo], argTypes := #[sT, sT] }) (hU : Tryz.prog.underlying sT = some (.slice eT)) {z : Value} {bytes : Nat} (hI : (Tryz.prog.info? eT).map (fun i => (i.zero, i.size, i.bytes)) = some (some z, K, bytes)) (hz : z.cells.size = K) (hK : 0 < K) (hby : bytes ≤ 1000)
    {wr : World} {base n : Nat} {v : Value} {zs : List α} (x : α) (us : List Value) (hul : us.length = K) (hux : ∀ q, q < K → us[q]? = some (cells x q)) (hu1 : ∀ u ∈ us, u.oneCell' = true) (hO : OwnE K cells wr base eT v zs) (hn : zs.length = n) (hs : a.eval s = v)
    {H : Nat} (hH : wr.heap.size = H) (hx : a.eval xo = .slice (some ⟨H, 0, none⟩) 1 1) (hb : base ≤ wr.heap.size) (hsm : n ≤ 1000)
    (h : ∀ g cap w', OwnE K cells w' base eT (.slice (some ⟨g, 0, none⟩) (n + 1) cap) (zs ++ [x]) → wr.grownBy w' v.ownBlock → (v.ownBlock = some g ∨ wr.heap.size < g) → L (a.put o.dst (.slice (some ⟨g, 0, none⟩) (n + 1) cap)) w') :
    if Region.wanted o (yielded ops a.tmps) = true then Oper.wp Tryz.prog o a (wr.alloc (Obj.cells us.toArray eT)) L Q else E := by
  subst hn
  subst hH
  obtain ⟨vs, hown, hvx⟩ := hO.own
  have hbA := bel1 (w := wr) (Obj.cells us.toArray eT)
  have hownA := ownsRow_below hown hbA
  have hnews := World.news_of_block (heap_alloc_new wr (Obj.cells us.toArray eT))
  obtain ⟨i0, hii, hz0, hz1, hz2⟩ := info_parts hI
  have hm : (zs.length + 1) * bytes ≤ 1001 * 1000 := Nat.mul_le_mul (by omega) hby
  refine step_append_lies _ hgd s xo sT ho base eT i0 z K bytes hU hii hz0 hz1 hz2 hz hK v zs.length vs hs hownA ⟨wr.heap.size, 0, none⟩ 1 1 us hx (by rw [hul, Nat.one_mul]) (by simpa using hnews) hu1 (by decide) (by unfold maxLen; omega) (by omega) (by simp; omega) _ rfl ?_
  intro g cap w' h1 h2 h3 _
  refine h g cap w' (ownE_app h1 hown.1 hvx hux) (grownBy_alloc_then h2) ?_
  rcases h3 with h3 | h3
  · exact .inl h3
  · right; rw [h3]; simp

theorem step_app_elD {α : Type} [Inhabited α] {K : Nat} {cells : α → Nat → Value} {ops : Array Oper} {o : Oper} {a : Act} {L : Act → World → Prop} {Q : Exit → Act → World → Prop} {E : Prop} (hgd : o.guard = none) (s xo : Operand) (sT eT : TypeId)
    (ho : o.op = .call { callee := .builtin .append, args := #[s, xo], argTypes := #[sT, sT] }) (hU : Tryz.prog.underlying sT = some (.slice eT)) {z : Value} {bytes : Nat} (hI : (Tryz.prog.info? eT).map (fun i => (i.zero, i.size, i.bytes)) = some (some z, K, bytes)) (hz : z.cells.size = K) (hK : 0 < K) (hby : bytes ≤ 1000)
    {wr : World} {base n : Nat} {v : Value} {zs : List α} (x : α) (us : List Value) (hul : us.length = K) (hux : ∀ q, q < K → us[q]? = some (cells x q)) (hu1 : ∀ u ∈ us, u.oneCell' = true) (hO : OwnE K cells wr base eT v zs) (hn : zs.length = n) (hs : a.eval s = v)
    {H : Nat} (hH : wr.heap.size = H) (hx : a.eval xo = .slice (some ⟨H, 0, none⟩) 1 1) (hb : base ≤ wr.heap.size) (hsm : n ≤ 1000)
    (h : ∀ g cap w', OwnE K cells w' base eT (.slice (some ⟨g, 0, none⟩) (n + 1) cap) (zs ++ [x]) → wr.grownBy w' v.ownBlock → (v.ownBlock = some g ∨ wr.heap.size < g) → L (a.put o.dst (.slice (some ⟨g, 0, none⟩) (n + 1) cap)) w') :
    if Region.wanted o (yielded ops a.tmps) = true then Oper.wp Tryz.prog o a (wr.alloc (Obj.cells us.toArray eT)).drew L Q else E :=
  step_app_elG (wr := wr.drew) hgd s xo sT eT ho hU hI hz hK hby x us hul hux hu1 (hO.below (bel0d 1)) hn hs hH hx hb hsm (fun g cap w' h1 h2 h3 => h g cap w' h1 ⟨h2.os, h2.tape, h2.output, h2.size, h2.block⟩ h3)

theorem wpList_app_elG {α : Type} [Inhabited α] {K : Nat} {cells : α → Nat → Value} {ops : Array Oper} {rest : List Oper} {o : Oper} {a : Act} {Q : Exit → Act → World → Prop} (hgd : o.guard = none) (s xo : Operand) (sT eT : TypeId)
    (ho : o.op = .call { callee := .builtin .append, args := #[s, xo], argTypes := #[sT, sT] }) (hU : Tryz.prog.underlying sT = some (.slice eT)) {z : Value} {bytes : Nat} (hI : (Tryz.prog.info? eT).map (fun i => (i.zero, i.size, i.bytes)) = some (some z, K, bytes)) (hz : z.cells.size = K) (hK : 0 < K) (hby : bytes ≤ 1000)
    {wr : World} {base n : Nat} {v : Value} {zs : List α} (x : α) (us : List Value) (hul : us.length = K) (hux : ∀ q, q < K → us[q]? = some (cells x q)) (hu1 : ∀ u ∈ us, u.oneCell' = true) (hO : OwnE K cells wr base eT v zs) (hn : zs.length = n) (hs : a.eval s = v)
    {H : Nat} (hH : wr.heap.size = H) (hx : a.eval xo = .slice (some ⟨H, 0, none⟩) 1 1) (hb : base ≤ wr.heap.size) (hsm : n ≤ 1000)
    (h : ∀ g cap w', OwnE K cells w' base eT (.slice (some ⟨g, 0, none⟩) (n + 1) cap) (zs ++ [x]) → wr.grownBy w' v.ownBlock → (v.ownBlock = some g ∨ wr.heap.size < g) → wpList Tryz.prog ops Q rest (a.put o.dst (.slice (some ⟨g, 0, none⟩) (n + 1) cap)) w') :
    wpList Tryz.prog ops Q (o :: rest) a (wr.alloc (Obj.cells us.toArray eT)) := by
  subst hn
  subst hH
  obtain ⟨vs, hown, hvx⟩ := hO.own
  have hbA := bel1 (w := wr) (Obj.cells us.toArray eT)
  have hownA := ownsRow_below hown hbA
  have hnews := World.news_of_block (heap_alloc_new wr (Obj.cells us.toArray eT))
  obtain ⟨i0, hii, hz0, hz1, hz2⟩ := info_parts hI
  have hm : (zs.length + 1) * bytes ≤ 1001 * 1000 := Nat.mul_le_mul (by omega) hby
  refine wpList_append_lies _ hgd s xo sT ho base eT i0 z K bytes hU hii hz0 hz1 hz2 hz hK v zs.length vs hs hownA ⟨wr.heap.size, 0, none⟩ 1 1 us hx (by rw [hul, Nat.one_mul]) (by simpa using hnews) hu1 (by decide) (by unfold maxLen; omega) (by omega) (by simp; omega) _ rfl ?_
  intro g cap w' h1 h2 h3 _
  refine h g cap w' (ownE_app h1 hown.1 hvx hux) (grownBy_alloc_then h2) ?_
  rcases h3 with h3 | h3
  · exact .inl h3
  · right; rw [h3]; simp

end Go.Proofs.YtemodlgmjgdjpaaGreatDoor

namespace Go.Proofs.YtemodlgmjgdjpaaGreatDoor
open Go.RowKit

theorem map_of_cells {xs : List Value} {zs : List Int} (hl : xs.length = zs.length) (hx : ∀ j, j < zs.length → xs[j]? = some (.int .i64 (nth zs j))) : xs = zs.map (Value.int .i64) := by
  apply List.ext_getElem?
  intro j
  by_cases hj : j < zs.length
  · rw [hx j hj]; simp [nth, hj]
  · rw [List.getElem?_eq_none (by omega), List.getElem?_eq_none (by simp; omega)]
theorem nth_appL (xs ys : List Int) (i : Nat) : nth (xs ++ ys) i = if i < xs.length then nth xs i else nth ys (i - xs.length) := by
  unfold nth
  by_cases h : i < xs.length
  · rw [if_pos h, List.getElem?_append_left h]
  · rw [if_neg h, List.getElem?_append_right (by omega)]
theorem ownI_of_map {w : World} {base : Nat} {v : Value} {zs : List Int} (h : w.ownsRow base 3 1 v zs.length (zs.map (Value.int .i64))) (hf : ∀ i : Nat, -9223372036854775808 ≤ nth zs i ∧ nth zs i ≤ 9223372036854775807) : OwnI w base v zs :=
  ⟨⟨_, h, fun j hj => by simp [nth, hj]⟩, hf⟩
theorem OwnI.map {w : World} {base : Nat} {v : Value} {zs : List Int} (h : OwnI w base v zs) : w.ownsRow base 3 1 v zs.length (zs.map (Value.int .i64)) := by
  obtain ⟨xs, hown, hx⟩ := h.own
  have hl : xs.length = zs.length := by simpa using hown.1
  obtain rfl := map_of_cells hl hx
  exact hown
theorem wp_app_ints {o : Oper} {a : Act} {K : Act → World → Prop} {Q : Exit → Act → World → Prop} {w : World} (s xo : Operand) (ho : o.op = .call { callee := .builtin .append, args := #[s, xo], argTypes := #[39, 39] })
    {base : Nat} {v : Value} {zs : List Int} (hO : OwnI w base v zs) (hs : a.eval s = v) (ad : Addr) (m c : Nat) (ys : List Int) (hx : a.eval xo = .slice (some ad) m c) (hy : ys.length = m)
    (hc : ∀ j, j < m → w.cell? (ad.add j) = some (.int .i64 (nth ys j))) (hfy : ∀ i : Nat, -9223372036854775808 ≤ nth ys i ∧ nth ys i ≤ 9223372036854775807) (hsm : zs.length + m ≤ 4000000) (hb : base ≤ w.heap.size)
    (h : ∀ v' w', OwnI w' base v' (zs ++ ys) → w.grownBy w' v.ownBlock → (v' = .slice none 0 0 → v = .slice none 0 0) → K (a.put o.dst v') w') : Oper.wp Tryz.prog o a w K Q := by
  subst hy
  obtain ⟨i0, hii, hz0, hz1, hz2⟩ := info_parts info_int1
  refine wp_append_own w s xo 39 ho base 3 i0 (.int .i64 0) 1 8 Tryz.underlying39 hii hz0 hz1 hz2 rfl (by decide) v zs.length _ hs hO.map ad ys.length c (ys.map (Value.int .i64)) hx (by simp) (fun j u hj => ?_) (fun u hu => ?_) (by unfold maxLen; omega) (by omega) hb ?_
  · have hj' : j < ys.length := by
      rcases Nat.lt_or_ge j ys.length with h | h
      · exact h
      · rw [List.getElem?_eq_none (by simpa using h)] at hj; cases hj
    rw [hc j hj', ← hj]; simp [nth, hj']
  · obtain ⟨x, _, rfl⟩ := List.mem_map.1 hu; rfl
  · intro v' w' h1 h2 h3
    refine h v' w' (ownI_of_map ?_ (fun i => ?_)) h2 (fun e => (h3.1 e).1)
    · simpa using h1
    · rw [nth_appL]; split
      · exact hO.fit i
      · exact hfy _
theorem wpList_app_ints {ops : Array Oper} {rest : List Oper} {o : Oper} {a : Act} {Q : Exit → Act → World → Prop} {w : World} (hgd : o.guard = none) (s xo : Operand) (ho : o.op = .call { callee := .builtin .append, args := #[s, xo], argTypes := #[39, 39] })
    {base : Nat} {v : Value} {zs : List Int} (hO : OwnI w base v zs) (hs : a.eval s = v) (ad : Addr) (m c : Nat) (ys : List Int) (hx : a.eval xo = .slice (some ad) m c) (hy : ys.length = m)
    (hc : ∀ j, j < m → w.cell? (ad.add j) = some (.int .i64 (nth ys j))) (hfy : ∀ i : Nat, -9223372036854775808 ≤ nth ys i ∧ nth ys i ≤ 9223372036854775807) (hsm : zs.length + m ≤ 4000000) (hb : base ≤ w.heap.size)
    (h : ∀ v' w', OwnI w' base v' (zs ++ ys) → w.grownBy w' v.ownBlock → (v' = .slice none 0 0 → v = .slice none 0 0) → wpList Tryz.prog ops Q rest (a.put o.dst v') w') : wpList Tryz.prog ops Q (o :: rest) a w :=
  wpList_plain hgd fun _ hK => wp_app_ints s xo ho hO hs ad m c ys hx hy hc hfy hsm hb fun v' w' h1 h2 h3 => hK _ _ (h v' w' h1 h2 h3)
theorem step_app_ints {ops : Array Oper} {o : Oper} {a : Act} {K : Act → World → Prop} {Q : Exit → Act → World → Prop} {E : Prop} {w : World} (hgd : o.guard = none) (s xo : Operand) (ho : o.op = .call { callee := .builtin .append, args := #[s, xo], argTypes := #[39, 39] })
    {base : Nat} {v : Value} {zs : List Int} (hO : OwnI w base v zs) (hs : a.eval s = v) (ad : Addr) (m c : Nat) (ys : List Int) (hx : a.eval xo = .slice (some ad) m c) (hy : ys.length = m)
    (hc : ∀ j, j < m → w.cell? (ad.add j) = some (.int .i64 (nth ys j))) (hfy : ∀ i : Nat, -9223372036854775808 ≤ nth ys i ∧ nth ys i ≤ 9223372036854775807) (hsm : zs.length + m ≤ 4000000) (hb : base ≤ w.heap.size)
    (h : ∀ v' w', OwnI w' base v' (zs ++ ys) → w.grownBy w' v.ownBlock → (v' = .slice none 0 0 → v = .slice none 0 0) → K (a.put o.dst v') w') : if Region.wanted o (yielded ops a.tmps) = true then Oper.wp Tryz.prog o a w K Q else E := by
  have hw : Region.wanted o (yielded ops a.tmps) = true := by simp [Region.wanted, hgd]
  rw [if_pos hw]
  exact wp_app_ints s xo ho hO hs ad m c ys hx hy hc hfy hsm hb h

end Go.Proofs.YtemodlgmjgdjpaaGreatDoor

/-
  A slice whose elements take K cells each, read as a list; one that a call has made; its marks. No condition.
-/
import Derived.Test.YtemodlgmjgdjpaaGreatDoorMBase
import Derived.Laws.AppendOwn
namespace Go.Proofs.YtemodlgmjgdjpaaGreatDoor
open Go.RowKit

theorem in_row {i q n K : Nat} (hi : i < n) (hq : q < K) : i * K + q < n * K := by
  have h : (i + 1) * K ≤ n * K := Nat.mul_le_mul_right K hi
  rw [Nat.add_mul, Nat.one_mul] at h
  omega
theorem same_place {i j q p K : Nat} (hq : q < K) (hp : p < K) (h : i * K + q = j * K + p) : i = j ∧ q = p := by
  have hK : 0 < K := by omega
  have a : (i * K + q) / K = i := by rw [Nat.add_comm, Nat.add_mul_div_right _ _ hK, Nat.div_eq_of_lt hq, Nat.zero_add]
  have b : (j * K + p) / K = j := by rw [Nat.add_comm, Nat.add_mul_div_right _ _ hK, Nat.div_eq_of_lt hp, Nat.zero_add]
  have e : i = j := by rw [← a, h, b]
  subst e
  exact ⟨rfl, by omega⟩

/-- The element at a place; the plain one where there is none. -/
def elAt {α : Type} [Inhabited α] (ps : List α) (i : Nat) : α := ps[i]?.getD default
theorem elAt_set {α : Type} [Inhabited α] (ps : List α) (i j : Nat) (x : α) (hi : i < ps.length) : elAt (ps.set i x) j = if j = i then x else elAt ps j := by
  unfold elAt
  by_cases e : j = i
  · subst e; rw [List.getElem?_set_self hi]; simp
  · rw [List.getElem?_set_ne (by omega)]; simp [e]
theorem elAt_app {α : Type} [Inhabited α] (Z : List α) (x : α) : (∀ i, i < Z.length → elAt (Z ++ [x]) i = elAt Z i) ∧ elAt (Z ++ [x]) Z.length = x := by
  refine ⟨fun i hi => ?_, ?_⟩
  · unfold elAt; rw [List.getElem?_append_left hi]
  · simp [elAt]

structure RowE {α : Type} [Inhabited α] (K : Nat) (cells : α → Nat → Value) (w : World) (a : Option Addr) (len : Nat) (ps : List α) : Prop where
  len_eq : ps.length = len
  small : len ≤ 9223372036854775807
  at_ : ∀ i, i < len → ∃ b off, a = some ⟨b, off, none⟩ ∧ ∀ q, q < K → w.cell? ⟨b, off + i * K + q, none⟩ = some (cells (elAt ps i) q)

section rows
variable {α : Type} [Inhabited α] {K : Nat} {cells : α → Nat → Value}

theorem RowE.open_ {w : World} {a : Option Addr} {len : Nat} {ps : List α} (h : RowE K cells w a len ps) :
    (len = 0 ∧ ps = []) ∨ ∃ b off, a = some ⟨b, off, none⟩ ∧ 0 < len ∧ ∀ i, i < len → ∀ q, q < K → w.cell? ⟨b, off + i * K + q, none⟩ = some (cells (elAt ps i) q) := by
  by_cases h0 : len = 0
  · exact .inl ⟨h0, List.length_eq_zero_iff.1 (by rw [h.len_eq, h0])⟩
  · obtain ⟨b, off, ha, _⟩ := h.at_ 0 (by omega)
    refine .inr ⟨b, off, ha, by omega, fun i hi => ?_⟩
    obtain ⟨b', off', ha', hc⟩ := h.at_ i hi
    rw [ha] at ha'
    simp only [Option.some.injEq, Addr.mk.injEq] at ha'
    obtain ⟨rfl, rfl, _⟩ := ha'
    exact hc
theorem RowE.below {w w' : World} {a : Option Addr} {len : Nat} {ps : List α} (h : RowE K cells w a len ps) (k : Below w.heap.size w w') : RowE K cells w' a len ps := by
  refine ⟨h.len_eq, h.small, fun i hi => ?_⟩
  obtain ⟨b, off, ha, hc⟩ := h.at_ i hi
  exact ⟨b, off, ha, fun q hq => (k.cell (block_lt_of_cell (hc q hq))).trans (hc q hq)⟩
theorem RowE.alloc {w : World} {a : Option Addr} {len : Nat} {ps : List α} (h : RowE K cells w a len ps) (o : Obj) : RowE K cells (w.alloc o) a len ps := h.below (bel1 o)
theorem RowE.drewN {w : World} {a : Option Addr} {len : Nat} {ps : List α} (h : RowE K cells w a len ps) (n : Nat) : RowE K cells (w.drewN n) a len ps := h.below (bel0d n)
theorem RowE.setCell {w : World} {g : Nat} {len : Nat} {ps : List α} (h : RowE K cells w (some ⟨g, 0, none⟩) len ps) {p : Addr} (hp : p.block ≠ g) (v : Value) : RowE K cells (w.setCell p v) (some ⟨g, 0, none⟩) len ps := by
  refine ⟨h.len_eq, h.small, fun i hi => ?_⟩
  obtain ⟨b, off, ha, hc⟩ := h.at_ i hi
  simp only [Option.some.injEq, Addr.mk.injEq, and_true] at ha
  obtain ⟨rfl, rfl⟩ := ha
  exact ⟨_, _, rfl, fun q hq => (World.cell?_setCell_other w _ _ _ (by intro e; rw [e] at hp; exact hp rfl)).trans (hc q hq)⟩
theorem RowE.far {w w' : World} {g off len : Nat} {ps : List α} {row : Option Nat} (h : RowE K cells w (some ⟨g, off, none⟩) len ps) (k : w.grownBy w' row) (hne : some g ≠ row) : RowE K cells w' (some ⟨g, off, none⟩) len ps := by
  refine ⟨h.len_eq, h.small, fun i hi => ?_⟩
  obtain ⟨b, off', ha, hc⟩ := h.at_ i hi
  simp only [Option.some.injEq, Addr.mk.injEq, and_true] at ha
  obtain ⟨rfl, rfl⟩ := ha
  exact ⟨_, _, rfl, fun q hq => (World.cell?_of_block (a := ⟨g, off + i * K + q, none⟩) (k.block g (block_lt_of_cell (hc q hq)) hne)).trans (hc q hq)⟩

end rows

structure OwnE {α : Type} [Inhabited α] (K : Nat) (cells : α → Nat → Value) (w : World) (base : Nat) (T : TypeId) (v : Value) (ps : List α) : Prop where
  own : ∃ xs : List Value, w.ownsRow base T K v ps.length xs ∧ ∀ j, j < ps.length → ∀ q, q < K → xs[j * K + q]? = some (cells (elAt ps j) q)

section owns
variable {α : Type} [Inhabited α] {K : Nat} {cells : α → Nat → Value}

/-- What such a value looks like. -/
theorem OwnE.form {w : World} {base : Nat} {T : TypeId} {v : Value} {ps : List α} (h : OwnE K cells w base T v ps) :
    (v = .slice none 0 0 ∧ ps = []) ∨ ∃ g cap, v = .slice (some ⟨g, 0, none⟩) ps.length cap ∧ base ≤ g ∧ g < w.heap.size ∧ ps.length ≤ cap ∧ cap ≤ maxLen := by
  obtain ⟨xs, ho, _⟩ := h.own
  rcases ho.2 with ⟨hv, h0⟩ | ⟨g, cap, cur, hv, hb, hg, hc, hm, _⟩
  · exact .inl ⟨hv, List.length_eq_zero_iff.1 h0⟩
  · refine .inr ⟨g, cap, hv, hb, ?_, hc, hm⟩
    rcases Nat.lt_or_ge g w.heap.size with hlt | hge
    · exact hlt
    · rw [Array.getElem?_eq_none hge] at hg; cases hg
theorem OwnE.lies {w : World} {base : Nat} {T : TypeId} {v : Value} {ps : List α} (h : OwnE K cells w base T v ps) : ∀ g, v.ownBlock = some g → base ≤ g ∧ g < w.heap.size := by
  intro g hg
  rcases h.form with ⟨rfl, _⟩ | ⟨g', cap, rfl, h1, h2, _⟩
  · simp [Value.ownBlock] at hg
  · simp only [Value.ownBlock, Option.some.injEq] at hg
    omega
theorem OwnE.slice {w : World} {base : Nat} {T : TypeId} {v : Value} {ps : List α} (h : OwnE K cells w base T v ps) : ∃ a cap, v = .slice a ps.length cap ∧ ps.length ≤ cap ∧ RowE K cells w a ps.length ps := by
  obtain ⟨xs, ho, hx⟩ := h.own
  rcases h.form with ⟨rfl, h0⟩ | ⟨g, cap, rfl, _, _, hc, hm⟩
  · subst h0; exact ⟨none, 0, rfl, Nat.le_refl _, ⟨rfl, by simp, fun i hi => by simp at hi⟩⟩
  · refine ⟨_, cap, rfl, hc, ⟨rfl, ?_, fun i hi => ⟨_, _, rfl, fun q hq => ?_⟩⟩⟩
    · unfold maxLen at hm; omega
    · rw [Nat.zero_add, ho.cellAt (i * K + q) (in_row hi hq)]; exact hx i hi q hq
theorem OwnE.row {w : World} {base : Nat} {T : TypeId} {a : Option Addr} {len cap : Nat} {ps : List α} (h : OwnE K cells w base T (.slice a len cap) ps) : RowE K cells w a len ps := by
  obtain ⟨a', cap', e, _, hr⟩ := h.slice
  simp only [Value.slice.injEq] at e
  obtain ⟨rfl, rfl, rfl⟩ := e
  exact hr
theorem OwnE.below {w w' : World} {base : Nat} {T : TypeId} {v : Value} {ps : List α} (h : OwnE K cells w base T v ps) (k : Below w.heap.size w w') : OwnE K cells w' base T v ps := by
  obtain ⟨xs, ho, hx⟩ := h.own
  exact ⟨⟨xs, ownsRow_below ho k, hx⟩⟩
theorem OwnE.drewN {w : World} {base : Nat} {T : TypeId} {v : Value} {ps : List α} (h : OwnE K cells w base T v ps) (n : Nat) : OwnE K cells (w.drewN n) base T v ps := h.below (bel0d n)
theorem OwnE.mono {w : World} {base base' : Nat} {T : TypeId} {v : Value} {ps : List α} (h : OwnE K cells w base T v ps) (hb : base' ≤ base) : OwnE K cells w base' T v ps := by
  obtain ⟨xs, ⟨h1, h2⟩, hx⟩ := h.own
  refine ⟨⟨xs, ⟨h1, ?_⟩, hx⟩⟩
  rcases h2 with h2 | ⟨g, cap, cur, a, b, c⟩
  · exact .inl h2
  · exact .inr ⟨g, cap, cur, a, by omega, c⟩
/-- Another block's turning leaves it. -/
theorem OwnE.far {w w' : World} {base : Nat} {T : TypeId} {v : Value} {ps : List α} {row : Option Nat} (h : OwnE K cells w base T v ps) (k : w.grownBy w' row) (hne : ∀ g, v.ownBlock = some g → some g ≠ row) : OwnE K cells w' base T v ps := by
  obtain ⟨xs, ⟨h1, h2⟩, hx⟩ := h.own
  refine ⟨⟨xs, ⟨h1, ?_⟩, hx⟩⟩
  rcases h2 with h2 | ⟨g, cap, cur, rfl, b, c, d⟩
  · exact .inl h2
  · refine .inr ⟨g, cap, cur, rfl, b, ?_, d⟩
    have hg : g < w.heap.size := by
      rcases Nat.lt_or_ge g w.heap.size with hlt | hge
      · exact hlt
      · rw [Array.getElem?_eq_none hge] at c; cases c
    rw [k.block g hg (hne g rfl)]; exact c
theorem OwnE.set_other {w : World} {base : Nat} {T : TypeId} {v : Value} {ps : List α} (h : OwnE K cells w base T v ps) {S o : Nat} (u : Value) (hne : v.ownBlock ≠ some S) : OwnE K cells (w.setCell ⟨S, o, none⟩ u) base T v ps :=
  h.far (grown_set (grown_refl w (some S)) o u) (fun _ hg e => hne (hg.trans e))
/-- One cell of it may be read and written. -/
theorem OwnE.here {w : World} {base : Nat} {T : TypeId} {g n cap : Nat} {ps : List α} (h : OwnE K cells w base T (.slice (some ⟨g, 0, none⟩) n cap) ps) (hn : ps.length = n) (i : Nat) (hi : i < n) (q : Nat) (hq : q < K) :
    w.cell? ⟨g, i * K + q, none⟩ = some (cells (elAt ps i) q) ∧ w.frozen? ⟨g, i * K + q, none⟩ = false := by
  subst hn
  obtain ⟨xs, ho, hx⟩ := h.own
  exact ⟨by rw [ho.cellAt _ (in_row hi hq)]; exact hx i hi q hq, ho.frozenAt _⟩
/-- A store into one cell of it. -/
theorem OwnE.setOne {w : World} {base : Nat} {T : TypeId} {g n cap : Nat} {ps : List α} (h : OwnE K cells w base T (.slice (some ⟨g, 0, none⟩) n cap) ps) (hn : ps.length = n) (i : Nat) (hi : i < n) (q : Nat) (hq : q < K) (v : Value) (x : α)
    (hx : ∀ p, p < K → cells x p = if p = q then v else cells (elAt ps i) p) : OwnE K cells (w.setCell ⟨g, i * K + q, none⟩ v) base T (.slice (some ⟨g, 0, none⟩) n cap) (ps.set i x) := by
  subst hn
  obtain ⟨xs, ho, hxs⟩ := h.own
  have hl := ho.1
  have o1 := (ho.stored (i * K + q) v).1
  refine ⟨⟨_, by rw [List.length_set]; exact o1, fun j hj p hp => ?_⟩⟩
  rw [List.length_set] at hj
  rw [elAt_set _ _ _ _ hi]
  by_cases e : j = i
  · subst e
    rw [if_pos rfl, hx p hp]
    by_cases e2 : p = q
    · subst e2
      rw [if_pos rfl]
      exact List.getElem?_set_self (by rw [hl]; exact in_row hi hp)
    · rw [if_neg e2, List.getElem?_set_ne (by omega)]
      exact hxs j hj p hp
  · rw [if_neg e, List.getElem?_set_ne (fun he => e (same_place hp hq he.symm).1)]
    exact hxs j hj p hp

/-- A further one into the same element. -/
theorem OwnE.setMore {w : World} {base : Nat} {T : TypeId} {g n cap : Nat} {ps : List α} {i : Nat} {y : α} (h : OwnE K cells w base T (.slice (some ⟨g, 0, none⟩) n cap) (ps.set i y)) (hn : ps.length = n) (hi : i < n) (q : Nat) (hq : q < K) (v : Value) (x : α)
    (hx : ∀ p, p < K → cells x p = if p = q then v else cells y p) : OwnE K cells (w.setCell ⟨g, i * K + q, none⟩ v) base T (.slice (some ⟨g, 0, none⟩) n cap) (ps.set i x) := by
  have o := h.setOne (by simp [hn]) i hi q hq v x (by intro p hp; rw [elAt_set _ _ _ _ (by omega), if_pos rfl]; exact hx p hp)
  rwa [List.set_set] at o

theorem ownE_none {w w1 : World} {T : TypeId} (h : w.heap.size ≤ w1.heap.size) : OwnE K cells (w1.alloc (Obj.cells #[] T)) w.heap.size T (.slice (some ⟨w1.heap.size, 0, none⟩) 0 0) ([] : List α) := by
  refine ⟨⟨[], ⟨by simp, .inr ⟨_, _, #[], rfl, h, ?_, Nat.le_refl _, by simp [maxLen], by simp, by simp⟩⟩, fun j hj => by simp at hj⟩⟩
  show (w1.heap.push _)[w1.heap.size]? = _
  simp
theorem ownE_app {w : World} {base : Nat} {T : TypeId} {v : Value} {Z : List α} {vs us : List Value} {x : α} (h : w.ownsRow base T K v (Z.length + 1) (vs ++ us)) (hl : vs.length = Z.length * K)
    (hx : ∀ j, j < Z.length → ∀ q, q < K → vs[j * K + q]? = some (cells (elAt Z j) q)) (hu : ∀ q, q < K → us[q]? = some (cells x q)) : OwnE K cells w base T v (Z ++ [x]) := by
  obtain ⟨h1, h2⟩ := elAt_app Z x
  refine ⟨⟨vs ++ us, by simpa using h, fun j hj q hq => ?_⟩⟩
  simp only [List.length_append, List.length_cons, List.length_nil] at hj
  by_cases e : j < Z.length
  · rw [h1 j e, List.getElem?_append_left (by rw [hl]; exact in_row e hq)]
    exact hx j e q hq
  · obtain rfl : j = Z.length := by omega
    rw [h2, List.getElem?_append_right (by omega), hl]
    rw [show Z.length * K + q - Z.length * K = q by omega]
    exact hu q hq

/-- Elements of one cell. -/
theorem RowE.open1 {w : World} {a : Option Addr} {len : Nat} {ps : List α} (h : RowE 1 cells w a len ps) :
    (len = 0 ∧ ps = []) ∨ ∃ b off, a = some ⟨b, off, none⟩ ∧ 0 < len ∧ ∀ i, i < len → w.cell? ⟨b, off + i, none⟩ = some (cells (elAt ps i) 0) := by
  rcases h.open_ with h | ⟨b, off, ha, hl, hc⟩
  · exact .inl h
  · exact .inr ⟨b, off, ha, hl, fun i hi => by have := hc i hi 0 (by omega); rwa [Nat.mul_one] at this⟩
theorem OwnE.here1 {w : World} {base : Nat} {T : TypeId} {g n cap : Nat} {ps : List α} (h : OwnE 1 cells w base T (.slice (some ⟨g, 0, none⟩) n cap) ps) (hn : ps.length = n) (i : Nat) (hi : i < n) :
    w.cell? ⟨g, i, none⟩ = some (cells (elAt ps i) 0) ∧ w.frozen? ⟨g, i, none⟩ = false := by
  have := h.here hn i hi 0 (by omega)
  rwa [Nat.mul_one] at this
theorem OwnE.set1 {w : World} {base : Nat} {T : TypeId} {g n cap : Nat} {ps : List α} (h : OwnE 1 cells w base T (.slice (some ⟨g, 0, none⟩) n cap) ps) (hn : ps.length = n) (i : Nat) (hi : i < n) (v : Value) (x : α)
    (hx : cells x 0 = v) : OwnE 1 cells (w.setCell ⟨g, i, none⟩ v) base T (.slice (some ⟨g, 0, none⟩) n cap) (ps.set i x) := by
  have := h.setOne hn i hi 0 (by omega) v x (fun p hp => by obtain rfl : p = 0 := by omega
                                                            rw [if_pos rfl]; exact hx)
  rwa [Nat.mul_one] at this

end owns

/-- After n rounds of the marking: each element gets the next K numbers. -/
def markL {α : Type} (mk : Int → α) (K : Nat) (ps : List α) (k : Int) : Nat → List α
  | 0 => ps
  | n + 1 => (markL mk K ps k n).set n (mk (k + K * n))
theorem markL_len {α : Type} (mk : Int → α) (K : Nat) (ps : List α) (k : Int) (n : Nat) : (markL mk K ps k n).length = ps.length := by
  induction n with
  | zero => rfl
  | succ n ih => simp [markL, ih]
theorem markL_at {α : Type} [Inhabited α] (mk : Int → α) (K : Nat) (ps : List α) (k : Int) : ∀ n, n ≤ ps.length → ∀ i, i < n → elAt (markL mk K ps k n) i = mk (k + K * i) := by
  intro n
  induction n with
  | zero => intro _ i hi; omega
  | succ n ih =>
    intro hn i hi
    have hl : n < (markL mk K ps k n).length := by rw [markL_len]; omega
    show elAt ((markL mk K ps k n).set n (mk (k + K * n))) i = _
    rw [elAt_set _ _ _ _ hl]
    by_cases e : i = n
    · subst e; simp
    · rw [if_neg e]; exact ih (by omega) i (by omega)

end Go.Proofs.YtemodlgmjgdjpaaGreatDoor

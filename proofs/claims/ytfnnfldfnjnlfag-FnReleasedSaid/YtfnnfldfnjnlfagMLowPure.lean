/-
  Plain mathematics: bounds on products, and the lesser neighbour of a place in a list. No program here.
  What a name is: 1 to 20 bytes, each a letter, a digit or '-', in plain numbers. No program here.
  A slice whose elements take K cells each, read as a list; one that a call has made; its marks. No condition.
  Clocks, tasks, what is due, what may be carried, in plain numbers. No program here.
  Rules of warnings as a Lean structure: a name, a rank, the phases in which it is quiet, whether it latches, what it needs. No program here.
  Rules of warnings in plain terms: which one has a name, whether they are so, which are quiet in a phase, how loud names are. No program here.
-/
import Derived.Test.YtfnnfldfnjnlfagMBase
import Derived.Laws.AppendOwn

namespace Go.Proofs.Ytfnnfldfnjnlfag

theorem mulBd {s d A B : Int} (h1 : -A ≤ s) (h2 : s ≤ A) (h3 : -B ≤ d) (h4 : d ≤ B) (_hA : 0 ≤ A) (_hB : 0 ≤ B) : -(A * B) ≤ s * d ∧ s * d ≤ A * B := by
  have e1 : 0 ≤ (A - s) * (B - d) := Int.mul_nonneg (by omega) (by omega)
  have e2 : 0 ≤ (A + s) * (B + d) := Int.mul_nonneg (by omega) (by omega)
  have e3 : 0 ≤ (A - s) * (B + d) := Int.mul_nonneg (by omega) (by omega)
  have e4 : 0 ≤ (A + s) * (B - d) := Int.mul_nonneg (by omega) (by omega)
  simp only [Int.sub_mul, Int.add_mul, Int.mul_sub, Int.mul_add] at e1 e2 e3 e4
  constructor <;> omega

/-- Whether the place of the lesser neighbour is behind i. -/
def beyond (zs : List Int) (x : Int) (i : Nat) : Bool := decide (i + 2 < zs.length ∧ nth zs (i + 1) ≤ x)
def lowAt (zs : List Int) (x : Int) : Nat := ((List.range zs.length).find? fun i => !beyond zs x i).getD 0

theorem beyond_true {zs : List Int} {x : Int} {i : Nat} (h : i + 2 < zs.length) (h' : nth zs (i + 1) ≤ x) : beyond zs x i = true := by
  simp only [beyond, decide_eq_true_eq]; exact ⟨h, h'⟩
theorem beyond_end {zs : List Int} {x : Int} {i : Nat} (h : ¬ i + 2 < zs.length) : beyond zs x i = false := by
  simp only [beyond, decide_eq_false_iff_not]; exact fun k => h k.1
theorem beyond_less {zs : List Int} {x : Int} {i : Nat} (h : ¬ nth zs (i + 1) ≤ x) : beyond zs x i = false := by
  simp only [beyond, decide_eq_false_iff_not]; exact fun k => h k.2
theorem lowAt_is {zs : List Int} {x : Int} {k : Nat} (hk : k < zs.length) (h : beyond zs x k = false) (hb : ∀ j, j < k → beyond zs x j = true) : lowAt zs x = k := by
  unfold lowAt
  have : (List.range zs.length).find? (fun i => !beyond zs x i) = some k := by
    rw [List.find?_range_eq_some]
    refine ⟨by simp [h], by simpa using hk, fun j hj => ?_⟩
    simp [hb j hj]
  rw [this]; rfl

/-- The lesser neighbour has one behind it. -/
theorem lowAt_lt {zs : List Int} {x : Int} (h : 2 ≤ zs.length) : lowAt zs x + 2 ≤ zs.length := by
  have he : beyond zs x (zs.length - 2) = false := beyond_end (by omega)
  unfold lowAt
  cases hf : (List.range zs.length).find? (fun i => !beyond zs x i) with
  | none => simp; omega
  | some i =>
    rw [List.find?_range_eq_some] at hf
    have := hf.2.2 (zs.length - 2)
    rw [he] at this
    simp only [Option.getD_some]
    by_cases c : zs.length - 2 < i
    · have := this c; simp at this
    · omega

/-- The products and sums of one value between two neighbours. -/
theorem between_bd {x0 x1 y0 y1 x B C : Int} (h1 : -B ≤ x0 ∧ x0 ≤ B) (h2 : -B ≤ x1 ∧ x1 ≤ B) (h3 : -C ≤ y0 ∧ y0 ≤ C) (h4 : -C ≤ y1 ∧ y1 ≤ C) (h5 : -B ≤ x ∧ x ≤ B) :
    (-(C * (2 * B)) ≤ y0 * (x1 - x0) ∧ y0 * (x1 - x0) ≤ C * (2 * B)) ∧ (-(2 * C * (2 * B)) ≤ (y1 - y0) * (x - x0) ∧ (y1 - y0) * (x - x0) ≤ 2 * C * (2 * B)) := by
  exact ⟨mulBd (by omega) (by omega) (by omega) (by omega) (by omega) (by omega), mulBd (by omega) (by omega) (by omega) (by omega) (by omega) (by omega)⟩

theorem ret_pair1 {k : IntKind} {a b : Int} {c : Bool} (h : a = b) : Ending.returned (.tuple #[.int k a, .bool c]) = .returned (.tuple #[.int k b, .bool c]) := by rw [h]

theorem ret_ib {a b : Int} {c d : Bool} (h : a = b) (h2 : c = d) : Ending.returned (.tuple #[.int .i64 a, .bool c]) = .returned (.tuple #[.int .i64 b, .bool d]) := by rw [h, h2]

theorem in_facts {x a b : Int} (h : inB x a b = true) : a ≤ x ∧ x ≤ b := by simpa [inB] using h

end Go.Proofs.Ytfnnfldfnjnlfag

namespace Go.Proofs.Ytfnnfldfnjnlfag
open Go

/-- Whether a byte may stand in a name. -/
def byteB (c : Int) : Bool := inB c 97 122 || inB c 65 90 || inB c 48 57 || decide (c = 45)
/-- The byte at a place of a text; 0 where there is none. -/
def byAt (s : ByteArray) (i : Nat) : Int := if h : i < s.size then ((s[i]'h).toNat : Int) else 0
theorem byAt_is {s : ByteArray} {i : Nat} (h : i < s.size) : ((s[i]'h).toNat : Int) = byAt s i := by simp [byAt, h]
theorem byAt_bd (s : ByteArray) (i : Nat) : 0 ≤ byAt s i ∧ byAt s i ≤ 255 := by
  unfold byAt
  split
  · rename_i h
    have := (s[i]'h).toNat_lt
    omega
  · omega
/-- Whether a text is a name. -/
def nameB (s : ByteArray) : Bool := inB s.size 1 20 && decide (∀ i, i < s.size → byteB (byAt s i) = true)
theorem nameB_size {s : ByteArray} (h : inB s.size 1 20 = false) : nameB s = false := by simp [nameB, h]
theorem nameB_at {s : ByteArray} {i : Nat} (hi : i < s.size) (h : byteB (byAt s i) = false) : nameB s = false := by
  have : ¬ (∀ i, i < s.size → byteB (byAt s i) = true) := fun k => by have := k i hi; rw [h] at this; cases this
  simp [nameB, this]
theorem nameB_all {s : ByteArray} (h : ∀ i, i < s.size → byteB (byAt s i) = true) : nameB s = inB s.size 1 20 := by
  have : decide (∀ i, i < s.size → byteB (byAt s i) = true) = true := decide_eq_true h
  unfold nameB
  rw [this, Bool.and_true]
theorem nameB_facts {s : ByteArray} (h : nameB s = true) : 1 ≤ s.size ∧ s.size ≤ 20 := by
  simp [nameB, inB] at h; omega

end Go.Proofs.Ytfnnfldfnjnlfag

namespace Go.Proofs.Ytfnnfldfnjnlfag
open Go.RowKit

theorem in_row {i q n K : Nat} (hi : i < n) (hq : q < K) : i * K + q < n * K := by
  have h : (i + 1) * K ≤ n * K := Nat.mul_le_mul_right K hi
  rw [Nat.add_mul, Nat.one_mul] at h
  omega
theorem same_place {i j q p K : Nat} (hq : q < K) (hp : p < K) (h : i * K + q = j * K + p) : i = j ∧ q = p := by
  have hK : 0 < K := by omega
  have a : (i * K + q) / K = i := by rw [Nat.add_comm, Nat.add_mul_div_right _ _ hK, Nat.div_eq_of_lt hq, Nat.zero_add]
  have b : (j * K + p) / K = j := by rw [Nat.add_comm, Nat.add_mul_div_right _ _ hK, Nat.div_eq_of_lt hp, Nat.zero_add]
  have e : i = j := by rw [← a, h, b]
  subst e
  exact ⟨rfl, by omega⟩

/-- The element at a place; the plain one where there is none. -/
def elAt {α : Type} [Inhabited α] (ps : List α) (i : Nat) : α := ps[i]?.getD default
theorem elAt_set {α : Type} [Inhabited α] (ps : List α) (i j : Nat) (x : α) (hi : i < ps.length) : elAt (ps.set i x) j = if j = i then x else elAt ps j := by
  unfold elAt
  by_cases e : j = i
  · subst e; rw [List.getElem?_set_self hi]; simp
  · rw [List.getElem?_set_ne (by omega)]; simp [e]
theorem elAt_app {α : Type} [Inhabited α] (Z : List α) (x : α) : (∀ i, i < Z.length → elAt (Z ++ [x]) i = elAt Z i) ∧ elAt (Z ++ [x]) Z.length = x := by
  refine ⟨fun i hi => ?_, ?_⟩
  · unfold elAt; rw [List.getElem?_append_left hi]
  · simp [elAt]

structure RowE {α : Type} [Inhabited α] (K : Nat) (cells : α → Nat → Value) (w : World) (a : Option Addr) (len : Nat) (ps : List α) : Prop where
  len_eq : ps.length = len
  small : len ≤ 9223372036854775807
  at_ : ∀ i, i < len → ∃ b off, a = some ⟨b, off, none⟩ ∧ ∀ q, q < K → w.cell? ⟨b, off + i * K + q, none⟩ = some (cells (elAt ps i) q)

section rows
variable {α : Type} [Inhabited α] {K : Nat} {cells : α → Nat → Value}

theorem RowE.open_ {w : World} {a : Option Addr} {len : Nat} {ps : List α} (h : RowE K cells w a len ps) :
    (len = 0 ∧ ps = []) ∨ ∃ b off, a = some ⟨b, off, none⟩ ∧ 0 < len ∧ ∀ i, i < len → ∀ q, q < K → w.cell? ⟨b, off + i * K + q, none⟩ = some (cells (elAt ps i) q) := by
  by_cases h0 : len = 0
  · exact .inl ⟨h0, List.length_eq_zero_iff.1 (by rw [h.len_eq, h0])⟩
  · obtain ⟨b, off, ha, _⟩ := h.at_ 0 (by omega)
    refine .inr ⟨b, off, ha, by omega, fun i hi => ?_⟩
    obtain ⟨b', off', ha', hc⟩ := h.at_ i hi
    rw [ha] at ha'
    simp only [Option.some.injEq, Addr.mk.injEq] at ha'
    obtain ⟨rfl, rfl, _⟩ := ha'
    exact hc
theorem RowE.below {w w' : World} {a : Option Addr} {len : Nat} {ps : List α} (h : RowE K cells w a len ps) (k : Below w.heap.size w w') : RowE K cells w' a len ps := by
  refine ⟨h.len_eq, h.small, fun i hi => ?_⟩
  obtain ⟨b, off, ha, hc⟩ := h.at_ i hi
  exact ⟨b, off, ha, fun q hq => (k.cell (block_lt_of_cell (hc q hq))).trans (hc q hq)⟩
theorem RowE.alloc {w : World} {a : Option Addr} {len : Nat} {ps : List α} (h : RowE K cells w a len ps) (o : Obj) : RowE K cells (w.alloc o) a len ps := h.below (bel1 o)
theorem RowE.drewN {w : World} {a : Option Addr} {len : Nat} {ps : List α} (h : RowE K cells w a len ps) (n : Nat) : RowE K cells (w.drewN n) a len ps := h.below (bel0d n)
theorem RowE.setCell {w : World} {g : Nat} {len : Nat} {ps : List α} (h : RowE K cells w (some ⟨g, 0, none⟩) len ps) {p : Addr} (hp : p.block ≠ g) (v : Value) : RowE K cells (w.setCell p v) (some ⟨g, 0, none⟩) len ps := by
  refine ⟨h.len_eq, h.small, fun i hi => ?_⟩
  obtain ⟨b, off, ha, hc⟩ := h.at_ i hi
  simp only [Option.some.injEq, Addr.mk.injEq, and_true] at ha
  obtain ⟨rfl, rfl⟩ := ha
  exact ⟨_, _, rfl, fun q hq => (World.cell?_setCell_other w _ _ _ (by intro e; rw [e] at hp; exact hp rfl)).trans (hc q hq)⟩
theorem RowE.far {w w' : World} {g off len : Nat} {ps : List α} {row : Option Nat} (h : RowE K cells w (some ⟨g, off, none⟩) len ps) (k : w.grownBy w' row) (hne : some g ≠ row) : RowE K cells w' (some ⟨g, off, none⟩) len ps := by
  refine ⟨h.len_eq, h.small, fun i hi => ?_⟩
  obtain ⟨b, off', ha, hc⟩ := h.at_ i hi
  simp only [Option.some.injEq, Addr.mk.injEq, and_true] at ha
  obtain ⟨rfl, rfl⟩ := ha
  exact ⟨_, _, rfl, fun q hq => (World.cell?_of_block (a := ⟨g, off + i * K + q, none⟩) (k.block g (block_lt_of_cell (hc q hq)) hne)).trans (hc q hq)⟩

end rows

structure OwnE {α : Type} [Inhabited α] (K : Nat) (cells : α → Nat → Value) (w : World) (base : Nat) (T : TypeId) (v : Value) (ps : List α) : Prop where
  own : ∃ xs : List Value, w.ownsRow base T K v ps.length xs ∧ ∀ j, j < ps.length → ∀ q, q < K → xs[j * K + q]? = some (cells (elAt ps j) q)

section owns
variable {α : Type} [Inhabited α] {K : Nat} {cells : α → Nat → Value}

/-- What such a value looks like. -/
theorem OwnE.form {w : World} {base : Nat} {T : TypeId} {v : Value} {ps : List α} (h : OwnE K cells w base T v ps) :
    (v = .slice none 0 0 ∧ ps = []) ∨ ∃ g cap, v = .slice (some ⟨g, 0, none⟩) ps.length cap ∧ base ≤ g ∧ g < w.heap.size ∧ ps.length ≤ cap ∧ cap ≤ maxLen := by
  obtain ⟨xs, ho, _⟩ := h.own
  rcases ho.2 with ⟨hv, h0⟩ | ⟨g, cap, cur, hv, hb, hg, hc, hm, _⟩
  · exact .inl ⟨hv, List.length_eq_zero_iff.1 h0⟩
  · refine .inr ⟨g, cap, hv, hb, ?_, hc, hm⟩
    rcases Nat.lt_or_ge g w.heap.size with hlt | hge
    · exact hlt
    · rw [Array.getElem?_eq_none hge] at hg; cases hg
theorem OwnE.lies {w : World} {base : Nat} {T : TypeId} {v : Value} {ps : List α} (h : OwnE K cells w base T v ps) : ∀ g, v.ownBlock = some g → base ≤ g ∧ g < w.heap.size := by
  intro g hg
  rcases h.form with ⟨rfl, _⟩ | ⟨g', cap, rfl, h1, h2, _⟩
  · simp [Value.ownBlock] at hg
  · simp only [Value.ownBlock, Option.some.injEq] at hg
    omega
theorem OwnE.slice {w : World} {base : Nat} {T : TypeId} {v : Value} {ps : List α} (h : OwnE K cells w base T v ps) : ∃ a cap, v = .slice a ps.length cap ∧ ps.length ≤ cap ∧ RowE K cells w a ps.length ps := by
  obtain ⟨xs, ho, hx⟩ := h.own
  rcases h.form with ⟨rfl, h0⟩ | ⟨g, cap, rfl, _, _, hc, hm⟩
  · subst h0; exact ⟨none, 0, rfl, Nat.le_refl _, ⟨rfl, by simp, fun i hi => by simp at hi⟩⟩
  · refine ⟨_, cap, rfl, hc, ⟨rfl, ?_, fun i hi => ⟨_, _, rfl, fun q hq => ?_⟩⟩⟩
    · unfold maxLen at hm; omega
    · rw [Nat.zero_add, ho.cellAt (i * K + q) (in_row hi hq)]; exact hx i hi q hq
theorem OwnE.row {w : World} {base : Nat} {T : TypeId} {a : Option Addr} {len cap : Nat} {ps : List α} (h : OwnE K cells w base T (.slice a len cap) ps) : RowE K cells w a len ps := by
  obtain ⟨a', cap', e, _, hr⟩ := h.slice
  simp only [Value.slice.injEq] at e
  obtain ⟨rfl, rfl, rfl⟩ := e
  exact hr
theorem OwnE.below {w w' : World} {base : Nat} {T : TypeId} {v : Value} {ps : List α} (h : OwnE K cells w base T v ps) (k : Below w.heap.size w w') : OwnE K cells w' base T v ps := by
  obtain ⟨xs, ho, hx⟩ := h.own
  exact ⟨⟨xs, ownsRow_below ho k, hx⟩⟩
theorem OwnE.drewN {w : World} {base : Nat} {T : TypeId} {v : Value} {ps : List α} (h : OwnE K cells w base T v ps) (n : Nat) : OwnE K cells (w.drewN n) base T v ps := h.below (bel0d n)
theorem OwnE.mono {w : World} {base base' : Nat} {T : TypeId} {v : Value} {ps : List α} (h : OwnE K cells w base T v ps) (hb : base' ≤ base) : OwnE K cells w base' T v ps := by
  obtain ⟨xs, ⟨h1, h2⟩, hx⟩ := h.own
  refine ⟨⟨xs, ⟨h1, ?_⟩, hx⟩⟩
  rcases h2 with h2 | ⟨g, cap, cur, a, b, c⟩
  · exact .inl h2
  · exact .inr ⟨g, cap, cur, a, by omega, c⟩
/-- Another block's turning leaves it. -/
theorem OwnE.far {w w' : World} {base : Nat} {T : TypeId} {v : Value} {ps : List α} {row : Option Nat} (h : OwnE K cells w base T v ps) (k : w.grownBy w' row) (hne : ∀ g, v.ownBlock = some g → some g ≠ row) : OwnE K cells w' base T v ps := by
  obtain ⟨xs, ⟨h1, h2⟩, hx⟩ := h.own
  refine ⟨⟨xs, ⟨h1, ?_⟩, hx⟩⟩
  rcases h2 with h2 | ⟨g, cap, cur, rfl, b, c, d⟩
  · exact .inl h2
  · refine .inr ⟨g, cap, cur, rfl, b, ?_, d⟩
    have hg : g < w.heap.size := by
      rcases Nat.lt_or_ge g w.heap.size with hlt | hge
      · exact hlt
      · rw [Array.getElem?_eq_none hge] at c; cases c
    rw [k.block g hg (hne g rfl)]; exact c
theorem OwnE.set_other {w : World} {base : Nat} {T : TypeId} {v : Value} {ps : List α} (h : OwnE K cells w base T v ps) {S o : Nat} (u : Value) (hne : v.ownBlock ≠ some S) : OwnE K cells (w.setCell ⟨S, o, none⟩ u) base T v ps :=
  h.far (grown_set (grown_refl w (some S)) o u) (fun _ hg e => hne (hg.trans e))
/-- One cell of it may be read and written. -/
theorem OwnE.here {w : World} {base : Nat} {T : TypeId} {g n cap : Nat} {ps : List α} (h : OwnE K cells w base T (.slice (some ⟨g, 0, none⟩) n cap) ps) (hn : ps.length = n) (i : Nat) (hi : i < n) (q : Nat) (hq : q < K) :
    w.cell? ⟨g, i * K + q, none⟩ = some (cells (elAt ps i) q) ∧ w.frozen? ⟨g, i * K + q, none⟩ = false := by
  subst hn
  obtain ⟨xs, ho, hx⟩ := h.own
  exact ⟨by rw [ho.cellAt _ (in_row hi hq)]; exact hx i hi q hq, ho.frozenAt _⟩
/-- A store into one cell of it. -/
theorem OwnE.setOne {w : World} {base : Nat} {T : TypeId} {g n cap : Nat} {ps : List α} (h : OwnE K cells w base T (.slice (some ⟨g, 0, none⟩) n cap) ps) (hn : ps.length = n) (i : Nat) (hi : i < n) (q : Nat) (hq : q < K) (v : Value) (x : α)
    (hx : ∀ p, p < K → cells x p = if p = q then v else cells (elAt ps i) p) : OwnE K cells (w.setCell ⟨g, i * K + q, none⟩ v) base T (.slice (some ⟨g, 0, none⟩) n cap) (ps.set i x) := by
  subst hn
  obtain ⟨xs, ho, hxs⟩ := h.own
  have hl := ho.1
  have o1 := (ho.stored (i * K + q) v).1
  refine ⟨⟨_, by rw [List.length_set]; exact o1, fun j hj p hp => ?_⟩⟩
  rw [List.length_set] at hj
  rw [elAt_set _ _ _ _ hi]
  by_cases e : j = i
  · subst e
    rw [if_pos rfl, hx p hp]
    by_cases e2 : p = q
    · subst e2
      rw [if_pos rfl]
      exact List.getElem?_set_self (by rw [hl]; exact in_row hi hp)
    · rw [if_neg e2, List.getElem?_set_ne (by omega)]
      exact hxs j hj p hp
  · rw [if_neg e, List.getElem?_set_ne (fun he => e (same_place hp hq he.symm).1)]
    exact hxs j hj p hp

/-- A further one into the same element. -/
theorem OwnE.setMore {w : World} {base : Nat} {T : TypeId} {g n cap : Nat} {ps : List α} {i : Nat} {y : α} (h : OwnE K cells w base T (.slice (some ⟨g, 0, none⟩) n cap) (ps.set i y)) (hn : ps.length = n) (hi : i < n) (q : Nat) (hq : q < K) (v : Value) (x : α)
    (hx : ∀ p, p < K → cells x p = if p = q then v else cells y p) : OwnE K cells (w.setCell ⟨g, i * K + q, none⟩ v) base T (.slice (some ⟨g, 0, none⟩) n cap) (ps.set i x) := by
  have o := h.setOne (by simp [hn]) i hi q hq v x (by intro p hp; rw [elAt_set _ _ _ _ (by omega), if_pos rfl]; exact hx p hp)
  rwa [List.set_set] at o

theorem ownE_none {w w1 : World} {T : TypeId} (h : w.heap.size ≤ w1.heap.size) : OwnE K cells (w1.alloc (Obj.cells #[] T)) w.heap.size T (.slice (some ⟨w1.heap.size, 0, none⟩) 0 0) ([] : List α) := by
  refine ⟨⟨[], ⟨by simp, .inr ⟨_, _, #[], rfl, h, ?_, Nat.le_refl _, by simp [maxLen], by simp, by simp⟩⟩, fun j hj => by simp at hj⟩⟩
  show (w1.heap.push _)[w1.heap.size]? = _
  simp
theorem ownE_app {w : World} {base : Nat} {T : TypeId} {v : Value} {Z : List α} {vs us : List Value} {x : α} (h : w.ownsRow base T K v (Z.length + 1) (vs ++ us)) (hl : vs.length = Z.length * K)
    (hx : ∀ j, j < Z.length → ∀ q, q < K → vs[j * K + q]? = some (cells (elAt Z j) q)) (hu : ∀ q, q < K → us[q]? = some (cells x q)) : OwnE K cells w base T v (Z ++ [x]) := by
  obtain ⟨h1, h2⟩ := elAt_app Z x
  refine ⟨⟨vs ++ us, by simpa using h, fun j hj q hq => ?_⟩⟩
  simp only [List.length_append, List.length_cons, List.length_nil] at hj
  by_cases e : j < Z.length
  · rw [h1 j e, List.getElem?_append_left (by rw [hl]; exact in_row e hq)]
    exact hx j e q hq
  · obtain rfl : j = Z.length := by omega
    rw [h2, List.getElem?_append_right (by omega), hl]
    rw [show Z.length * K + q - Z.length * K = q by omega]
    exact hu q hq

/-- Elements of one cell. -/
theorem RowE.open1 {w : World} {a : Option Addr} {len : Nat} {ps : List α} (h : RowE 1 cells w a len ps) :
    (len = 0 ∧ ps = []) ∨ ∃ b off, a = some ⟨b, off, none⟩ ∧ 0 < len ∧ ∀ i, i < len → w.cell? ⟨b, off + i, none⟩ = some (cells (elAt ps i) 0) := by
  rcases h.open_ with h | ⟨b, off, ha, hl, hc⟩
  · exact .inl h
  · exact .inr ⟨b, off, ha, hl, fun i hi => by have := hc i hi 0 (by omega); rwa [Nat.mul_one] at this⟩
theorem OwnE.here1 {w : World} {base : Nat} {T : TypeId} {g n cap : Nat} {ps : List α} (h : OwnE 1 cells w base T (.slice (some ⟨g, 0, none⟩) n cap) ps) (hn : ps.length = n) (i : Nat) (hi : i < n) :
    w.cell? ⟨g, i, none⟩ = some (cells (elAt ps i) 0) ∧ w.frozen? ⟨g, i, none⟩ = false := by
  have := h.here hn i hi 0 (by omega)
  rwa [Nat.mul_one] at this
theorem OwnE.set1 {w : World} {base : Nat} {T : TypeId} {g n cap : Nat} {ps : List α} (h : OwnE 1 cells w base T (.slice (some ⟨g, 0, none⟩) n cap) ps) (hn : ps.length = n) (i : Nat) (hi : i < n) (v : Value) (x : α)
    (hx : cells x 0 = v) : OwnE 1 cells (w.setCell ⟨g, i, none⟩ v) base T (.slice (some ⟨g, 0, none⟩) n cap) (ps.set i x) := by
  have := h.setOne hn i hi 0 (by omega) v x (fun p hp => by obtain rfl : p = 0 := by omega
                                                            rw [if_pos rfl]; exact hx)
  rwa [Nat.mul_one] at this

end owns

/-- After n rounds of the marking: each element gets the next K numbers. -/
def markL {α : Type} (mk : Int → α) (K : Nat) (ps : List α) (k : Int) : Nat → List α
  | 0 => ps
  | n + 1 => (markL mk K ps k n).set n (mk (k + K * n))
theorem markL_len {α : Type} (mk : Int → α) (K : Nat) (ps : List α) (k : Int) (n : Nat) : (markL mk K ps k n).length = ps.length := by
  induction n with
  | zero => rfl
  | succ n ih => simp [markL, ih]
theorem markL_at {α : Type} [Inhabited α] (mk : Int → α) (K : Nat) (ps : List α) (k : Int) : ∀ n, n ≤ ps.length → ∀ i, i < n → elAt (markL mk K ps k n) i = mk (k + K * i) := by
  intro n
  induction n with
  | zero => intro _ i hi; omega
  | succ n ih =>
    intro hn i hi
    have hl : n < (markL mk K ps k n).length := by rw [markL_len]; omega
    show elAt ((markL mk K ps k n).set n (mk (k + K * n))) i = _
    rw [elAt_set _ _ _ _ hl]
    by_cases e : i = n
    · subst e; simp
    · rw [if_neg e]; exact ih (by omega) i (by omega)

end Go.Proofs.Ytfnnfldfnjnlfag

namespace Go.Proofs.Ytfnnfldfnjnlfag
open Go Go.RowKit

/-- Whether a clock is so. -/
def ckB (h c d : Int) : Bool := inB h 0 1000000 && inB c 0 1000000 && inB d 0 1000000
theorem ckB_facts {h c d : Int} (k : ckB h c d = true) : (0 ≤ h ∧ h ≤ 1000000) ∧ (0 ≤ c ∧ c ≤ 1000000) ∧ (0 ≤ d ∧ d ≤ 1000000) := by
  simp only [ckB, inB, Bool.and_eq_true, decide_eq_true_eq] at k
  exact ⟨k.1.1, k.1.2, k.2⟩
/-- What a task says: its name, three bounds, when it was done. -/
structure Ts where
  nm : ByteArray
  h : Int
  c : Int
  d : Int
  dh : Int
  dc : Int
  dd : Int
instance : Inhabited Ts := ⟨⟨⟨#[]⟩, 0, 0, 0, 0, 0, 0⟩⟩
def tsB (t : Ts) : Bool := nameB t.nm && inB t.h 0 100000 && inB t.c 0 100000 && inB t.d 0 100000 && decide (0 < t.h + t.c + t.d) && ckB t.dh t.dc t.dd
theorem tsB_facts {t : Ts} (k : tsB t = true) : nameB t.nm = true ∧ (0 ≤ t.h ∧ t.h ≤ 100000) ∧ (0 ≤ t.c ∧ t.c ≤ 100000) ∧ (0 ≤ t.d ∧ t.d ≤ 100000) ∧ 0 < t.h + t.c + t.d ∧ ckB t.dh t.dc t.dd = true := by
  simp only [tsB, inB, Bool.and_eq_true, decide_eq_true_eq] at k
  obtain ⟨⟨⟨⟨⟨k1, k2⟩, k3⟩, k4⟩, k5⟩, k6⟩ := k
  exact ⟨k1, k2, k3, k4, k5, k6⟩
/-- Whether one clock is not beyond another. -/
def bhB (ah ac ad bh bc bd : Int) : Bool := decide (ah ≤ bh) && decide (ac ≤ bc) && decide (ad ≤ bd)
/-- What is left of a bound. -/
def lfI (b p : Int) : Int := if b = 0 then 0 else max 0 (b - p)
/-- Whether a task can be asked, whether it is due, what is left. -/
def d9B (t : Ts) (nh nc nd : Int) : Bool := tsB t && ckB nh nc nd && bhB t.dh t.dc t.dd nh nc nd
def d9D (t : Ts) (nh nc nd : Int) : Bool := d9B t nh nc nd && (decide (0 < t.h ∧ t.h ≤ nh - t.dh) || decide (0 < t.c ∧ t.c ≤ nc - t.dc) || decide (0 < t.d ∧ t.d ≤ nd - t.dd))
def d9H (t : Ts) (nh nc nd : Int) : Int := if d9B t nh nc nd = true then lfI t.h (nh - t.dh) else 0
def d9C (t : Ts) (nh nc nd : Int) : Int := if d9B t nh nc nd = true then lfI t.c (nc - t.dc) else 0
def d9E (t : Ts) (nh nc nd : Int) : Int := if d9B t nh nc nd = true then lfI t.d (nd - t.dd) else 0

end Go.Proofs.Ytfnnfldfnjnlfag

namespace Go.Proofs.Ytfnnfldfnjnlfag
open Go

structure Wr where
  n : ByteArray
  r : Int
  q : List Int
  l : Bool
  d : ByteArray
instance : Inhabited Wr := ⟨⟨⟨#[]⟩, 0, [], false, ⟨#[]⟩⟩⟩
/-- The first k phases together. -/
def wrTot (rs : List Wr) : Nat → Nat
  | 0 => 0
  | k + 1 => wrTot rs k + (elAt rs k).q.length
theorem wrTot_mono (rs : List Wr) {k m : Nat} (h : k ≤ m) : wrTot rs k ≤ wrTot rs m := by
  induction m with
  | zero => obtain rfl : k = 0 := by omega
            exact Nat.le_refl _
  | succ m ih =>
    by_cases e : k = m + 1
    · rw [e]; exact Nat.le_refl _
    · exact Nat.le_trans (ih (by omega)) (Nat.le_add_right _ _)

end Go.Proofs.Ytfnnfldfnjnlfag

namespace Go.Proofs.Ytfnnfldfnjnlfag
open Go

/-- Texts alike. -/
def sEq (x y : ByteArray) : Bool := x.toList == y.toList
/-- The place of the first rule of a name; as many as there are, where there is none. -/
def wfK (rs : List Wr) (s : ByteArray) : Nat := ((List.range rs.length).find? fun i => sEq (elAt rs i).n s).getD rs.length
def wfI (rs : List Wr) (s : ByteArray) : Int := if wfK rs s < rs.length then (wfK rs s : Int) else -1
theorem wfK_here {rs : List Wr} {s : ByteArray} {k : Nat} (hk : k < rs.length) (h : sEq (elAt rs k).n s = true) (hb : ∀ j, j < k → sEq (elAt rs j).n s = false) : wfK rs s = k := by
  unfold wfK
  have : (List.range rs.length).find? (fun i => sEq (elAt rs i).n s) = some k := by
    rw [List.find?_range_eq_some]
    refine ⟨h, by simpa using hk, fun j hj => ?_⟩
    have := hb j hj
    simp [this]
  rw [this]; rfl
theorem wfK_none {rs : List Wr} {s : ByteArray} (hb : ∀ j, j < rs.length → sEq (elAt rs j).n s = false) : wfK rs s = rs.length := by
  unfold wfK
  have : (List.range rs.length).find? (fun i => sEq (elAt rs i).n s) = none := by
    rw [List.find?_eq_none]
    intro j hj
    have := hb j (by simpa using hj)
    simp [this]
  rw [this]; rfl
theorem wfK_le (rs : List Wr) (s : ByteArray) : wfK rs s ≤ rs.length := by
  unfold wfK
  cases e : (List.range rs.length).find? fun i => sEq (elAt rs i).n s with
  | none => simp
  | some k =>
    rw [List.find?_range_eq_some] at e
    have := List.mem_range.1 e.2.1
    simp; omega
/-- Whether a phase is among the quiet ones. -/
def qtB (q : List Int) (ph : Int) : Bool := decide (∃ i, i < q.length ∧ nth q i = ph)
theorem qtB_yes {q : List Int} {ph : Int} {i : Nat} (h : i < q.length) (e : nth q i = ph) : qtB q ph = true := decide_eq_true ⟨i, h, e⟩
theorem qtB_no {q : List Int} {ph : Int} (h : ∀ i, i < q.length → ¬ nth q i = ph) : qtB q ph = false := decide_eq_false (fun ⟨i, hi, e⟩ => h i hi e)
/-- Texts in their order. -/
def sLt (x y : ByteArray) : Bool := Op.bytesLess x.toList y.toList
/-- Whether what a rule needs is so. -/
def wrDB (rs : List Wr) (i : Nat) : Bool := sEq (elAt rs i).d ⟨#[]⟩ || (decide (wfK rs (elAt rs i).d < rs.length) && decide (¬ wfK rs (elAt rs i).d = i) && sEq (elAt rs (wfK rs (elAt rs i).d)).d ⟨#[]⟩)
/-- Whether a rule by itself, and behind the one ahead, is so. -/
def wrSB (rs : List Wr) (i : Nat) : Bool := nameB (elAt rs i).n && (decide (i = 0) || sLt (elAt rs (i - 1)).n (elAt rs i).n) && inB (elAt rs i).r 1 3 && riseB (elAt rs i).q && allB (elAt rs i).q 0 9
def wrAtB (rs : List Wr) (i : Nat) : Bool := wrSB rs i && wrDB rs i
/-- Whether rules are so. -/
def wrB (rs : List Wr) : Bool := decide (∀ i, i < rs.length → wrAtB rs i = true) && decide (rs.length ≤ 30)
theorem wrB_not {rs : List Wr} {i : Nat} (hi : i < rs.length) (h : wrAtB rs i = false) : wrB rs = false := by
  have : ¬ ∀ i, i < rs.length → wrAtB rs i = true := fun k => by have := k i hi; rw [h] at this; cases this
  simp [wrB, this]
theorem wrB_all {rs : List Wr} (h : ∀ i, i < rs.length → wrAtB rs i = true) : wrB rs = decide (rs.length ≤ 30) := by
  have e : decide (∀ i, i < rs.length → wrAtB rs i = true) = true := decide_eq_true h
  unfold wrB; rw [e, Bool.true_and]
/-- The greatest rank of the first k names. -/
def loK (rs : List Wr) (ts : List ByteArray) : Nat → Int
  | 0 => 0
  | k + 1 => if wfK rs (elAt ts k) < rs.length then max (loK rs ts k) (elAt rs (wfK rs (elAt ts k))).r else loK rs ts k
def loB (rs : List Wr) (ts : List ByteArray) : Bool := wrB rs && decide (ts.length ≤ 30)
def loR (rs : List Wr) (ts : List ByteArray) : Int := if loB rs ts = true then loK rs ts ts.length else 0
/-- The names of the first k rules that are quiet in a phase. -/
def inhK (rs : List Wr) (ph : Int) : Nat → List ByteArray
  | 0 => []
  | k + 1 => if qtB (elAt rs k).q ph = true then inhK rs ph k ++ [(elAt rs k).n] else inhK rs ph k
theorem inhK_len (rs : List Wr) (ph : Int) : ∀ k, (inhK rs ph k).length ≤ k
  | 0 => Nat.le_refl _
  | k + 1 => by
    have := inhK_len rs ph k
    unfold inhK
    split
    · simp; omega
    · omega
def inhB (rs : List Wr) (ph : Int) : Bool := wrB rs && inB ph 0 9
def inhL (rs : List Wr) (ph : Int) : List ByteArray := if inhB rs ph = true then inhK rs ph rs.length else []
theorem wrB_facts {rs : List Wr} (h : wrB rs = true) : (∀ i, i < rs.length → wrAtB rs i = true) ∧ rs.length ≤ 30 := by
  simp only [wrB, Bool.and_eq_true, decide_eq_true_eq] at h
  exact h
theorem wrR_facts {rs : List Wr} (h : wrB rs = true) {i : Nat} (hi : i < rs.length) : 1 ≤ (elAt rs i).r ∧ (elAt rs i).r ≤ 3 := by
  have := (wrB_facts h).1 i hi
  unfold wrAtB wrSB at this
  simp only [Bool.and_eq_true] at this
  exact in_facts this.1.1.1.2
theorem loK_bd {rs : List Wr} (h : wrB rs = true) (ts : List ByteArray) : ∀ k, 0 ≤ loK rs ts k ∧ loK rs ts k ≤ 3
  | 0 => by simp [loK]
  | k + 1 => by
    have ih := loK_bd h ts k
    unfold loK
    split
    · rename_i hk
      have := wrR_facts h hk
      omega
    · exact ih
theorem rise_ge {q : List Int} (h : riseB q = true) (h0 : allB q 0 9 = true) : ∀ i, i < q.length → (i : Int) ≤ nth q i
  | 0, hi => by
    have := in_facts (of_decide_eq_true h0 0 hi)
    omega
  | i + 1, hi => by
    have ih := rise_ge h h0 i (by omega)
    have := of_decide_eq_true h i (by omega)
    omega
theorem wrQ_len {rs : List Wr} (h : wrB rs = true) {i : Nat} (hi : i < rs.length) : (elAt rs i).q.length ≤ 10 := by
  have := (wrB_facts h).1 i hi
  unfold wrAtB wrSB at this
  simp only [Bool.and_eq_true] at this
  have h1 := this.1.1.2
  have h2 := this.1.2
  rcases Nat.lt_or_ge 10 (elAt rs i).q.length with c | c
  · have a := rise_ge h1 h2 10 c
    have b := in_facts (of_decide_eq_true h2 10 c)
    omega
  · exact c
theorem inhL_small (rs : List Wr) (ph : Int) : (inhL rs ph).length ≤ 1048576 := by
  unfold inhL
  split
  · rename_i h
    simp only [inhB, Bool.and_eq_true] at h
    have := (wrB_facts h.1).2
    have := inhK_len rs ph rs.length
    omega
  · simp
/-- Whether a name is among names. -/
def hasB (ts : List ByteArray) (s : ByteArray) : Bool := decide (∃ i, i < ts.length ∧ sEq (elAt ts i) s = true)
theorem hasB_yes {ts : List ByteArray} {s : ByteArray} {i : Nat} (h : i < ts.length) (e : sEq (elAt ts i) s = true) : hasB ts s = true := decide_eq_true ⟨i, h, e⟩
theorem hasB_no {ts : List ByteArray} {s : ByteArray} (h : ∀ i, i < ts.length → sEq (elAt ts i) s = false) : hasB ts s = false := decide_eq_false (fun ⟨i, hi, e⟩ => by rw [h i hi] at e; cases e)
/-- Whether a name of a list is a rule's, and behind the one ahead. -/
def nmAt (rs : List Wr) (ts : List ByteArray) (i : Nat) : Bool := decide (wfK rs (elAt ts i) < rs.length) && (decide (i = 0) || sLt (elAt ts (i - 1)) (elAt ts i))
/-- Whether a list is of ascending names of rules. -/
def nmB (rs : List Wr) (ts : List ByteArray) : Bool := decide (∀ i, i < ts.length → nmAt rs ts i = true)
theorem nmB_not {rs : List Wr} {ts : List ByteArray} {i : Nat} (hi : i < ts.length) (h : nmAt rs ts i = false) : nmB rs ts = false := decide_eq_false (fun k => by have := k i hi; rw [h] at this; cases this)
theorem nmB_all {rs : List Wr} {ts : List ByteArray} (h : ∀ i, i < ts.length → nmAt rs ts i = true) : nmB rs ts = true := decide_eq_true h

end Go.Proofs.Ytfnnfldfnjnlfag

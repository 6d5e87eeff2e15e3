/-
  Plain mathematics: bounds on products, and the lesser neighbour of a place in a list. No program here.
  What a name is: 1 to 20 bytes, each a letter, a digit or '-', in plain numbers. No program here.
  A slice whose elements take K cells each, read as a list; one that a call has made; its marks. No condition.
-/
import Derived.Test.YtfnnfldfnjnlfagBase
import Derived.Test.YtfnnfldfnjnlfagMRow2
import Derived.Laws.AppendOwn

namespace Go.Proofs.Ytfnnfldfnjnlfag

theorem mulBd {s d A B : Int} (h1 : -A ≤ s) (h2 : s ≤ A) (h3 : -B ≤ d) (h4 : d ≤ B) (_hA : 0 ≤ A) (_hB : 0 ≤ B) : -(A * B) ≤ s * d ∧ s * d ≤ A * B := by
  have e1 : 0 ≤ (A - s) * (B - d) := Int.mul_nonneg (by omega) (by omega)
  have e2 : 0 ≤ (A + s) * (B + d) := Int.mul_nonneg (by omega) (by omega)
  have e3 : 0 ≤ (A - s) * (B + d) := Int.mul_nonneg (by omega) (by omega)
  have e4 : 0 ≤ (A + s) * (B - d) := Int.mul_nonneg (by omega) (by omega)
  simp only [Int.sub_mul, Int.add_mul, Int.mul_sub, Int.mul_add] at e1 e2 e3 e4
  constructor <;> omega

/-- Whether the place of the lesser neighbour is behind i. -/
def beyond (zs : List Int) (x : Int) (i : Nat) : Bool := decide (i + 2 < zs.length ∧ nth zs (i + 1) ≤ x)
def lowAt (zs : List Int) (x : Int) : Nat := ((List.range zs.length).find? fun i => !beyond zs x i).getD 0

theorem beyond_true {zs : List Int} {x : Int} {i : Nat} (h : i + 2 < zs.length) (h' : nth zs (i + 1) ≤ x) : beyond zs x i = true := by
  simp only [beyond, decide_eq_true_eq]; exact ⟨h, h'⟩
theorem beyond_end {zs : List Int} {x : Int} {i : Nat} (h : ¬ i + 2 < zs.length) : beyond zs x i = false := by
  simp only [beyond, decide_eq_false_iff_not]; exact fun k => h k.1
theorem beyond_less {zs : List Int} {x : Int} {i : Nat} (h : ¬ nth zs (i + 1) ≤ x) : beyond zs x i = false := by
  simp only [beyond, decide_eq_false_iff_not]; exact fun k => h k.2
theorem lowAt_is {zs : List Int} {x : Int} {k : Nat} (hk : k < zs.length) (h : beyond zs x k = false) (hb : ∀ j, j < k → beyond zs x j = true) : lowAt zs x = k := by
  unfold lowAt
  have : (List.range zs.length).find? (fun i => !beyond zs x i) = some k := by
    rw [List.find?_range_eq_some]
    refine ⟨by simp [h], by simpa using hk, fun j hj => ?_⟩
    simp [hb j hj]
  rw [this]; rfl

/-- The lesser neighbour has one behind it. -/
theorem lowAt_lt {zs : List Int} {x : Int} (h : 2 ≤ zs.length) : lowAt zs x + 2 ≤ zs.length := by
  have he : beyond zs x (zs.length - 2) = false := beyond_end (by omega)
  unfold lowAt
  cases hf : (List.range zs.length).find? (fun i => !beyond zs x i) with
  | none => simp; omega
  | some i =>
    rw [List.find?_range_eq_some] at hf
    have := hf.2.2 (zs.length - 2)
    rw [he] at this
    simp only [Option.getD_some]
    by_cases c : zs.length - 2 < i
    · have := this c; simp at this
    · omega

/-- The products and sums of one value between two neighbours. -/
theorem between_bd {x0 x1 y0 y1 x B C : Int} (h1 : -B ≤ x0 ∧ x0 ≤ B) (h2 : -B ≤ x1 ∧ x1 ≤ B) (h3 : -C ≤ y0 ∧ y0 ≤ C) (h4 : -C ≤ y1 ∧ y1 ≤ C) (h5 : -B ≤ x ∧ x ≤ B) :
    (-(C * (2 * B)) ≤ y0 * (x1 - x0) ∧ y0 * (x1 - x0) ≤ C * (2 * B)) ∧ (-(2 * C * (2 * B)) ≤ (y1 - y0) * (x - x0) ∧ (y1 - y0) * (x - x0) ≤ 2 * C * (2 * B)) := by
  exact ⟨mulBd (by omega) (by omega) (by omega) (by omega) (by omega) (by omega), mulBd (by omega) (by omega) (by omega) (by omega) (by omega) (by omega)⟩

theorem ret_pair1 {k : IntKind} {a b : Int} {c : Bool} (h : a = b) : Ending.returned (.tuple #[.int k a, .bool c]) = .returned (.tuple #[.int k b, .bool c]) := by rw [h]

theorem ret_ib {a b : Int} {c d : Bool} (h : a = b) (h2 : c = d) : Ending.returned (.tuple #[.int .i64 a, .bool c]) = .returned (.tuple #[.int .i64 b, .bool d]) := by rw [h, h2]

theorem in_facts {x a b : Int} (h : inB x a b = true) : a ≤ x ∧ x ≤ b := by simpa [inB] using h

end Go.Proofs.Ytfnnfldfnjnlfag

namespace Go.Proofs.Ytfnnfldfnjnlfag
open Go

/-- Whether a byte may stand in a name. -/
def byteB (c : Int) : Bool := inB c 97 122 || inB c 65 90 || inB c 48 57 || decide (c = 45)
/-- The byte at a place of a text; 0 where there is none. -/
def byAt (s : ByteArray) (i : Nat) : Int := if h : i < s.size then ((s[i]'h).toNat : Int) else 0
theorem byAt_is {s : ByteArray} {i : Nat} (h : i < s.size) : ((s[i]'h).toNat : Int) = byAt s i := by simp [byAt, h]
theorem byAt_bd (s : ByteArray) (i : Nat) : 0 ≤ byAt s i ∧ byAt s i ≤ 255 := by
  unfold byAt
  split
  · rename_i h
    have := (s[i]'h).toNat_lt
    omega
  · omega
/-- Whether a text is a name. -/
def nameB (s : ByteArray) : Bool := inB s.size 1 20 && decide (∀ i, i < s.size → byteB (byAt s i) = true)
theorem nameB_size {s : ByteArray} (h : inB s.size 1 20 = false) : nameB s = false := by simp [nameB, h]
theorem nameB_at {s : ByteArray} {i : Nat} (hi : i < s.size) (h : byteB (byAt s i) = false) : nameB s = false := by
  have : ¬ (∀ i, i < s.size → byteB (byAt s i) = true) := fun k => by have := k i hi; rw [h] at this; cases this
  simp [nameB, this]
theorem nameB_all {s : ByteArray} (h : ∀ i, i < s.size → byteB (byAt s i) = true) : nameB s = inB s.size 1 20 := by
  have : decide (∀ i, i < s.size → byteB (byAt s i) = true) = true := decide_eq_true h
  unfold nameB
  rw [this, Bool.and_true]
theorem nameB_facts {s : ByteArray} (h : nameB s = true) : 1 ≤ s.size ∧ s.size ≤ 20 := by
  simp [nameB, inB] at h; omega

end Go.Proofs.Ytfnnfldfnjnlfag

namespace Go.Proofs.Ytfnnfldfnjnlfag
open Go.RowKit

theorem in_row {i q n K : Nat} (hi : i < n) (hq : q < K) : i * K + q < n * K := by
  have h : (i + 1) * K ≤ n * K := Nat.mul_le_mul_right K hi
  rw [Nat.add_mul, Nat.one_mul] at h
  omega
theorem same_place {i j q p K : Nat} (hq : q < K) (hp : p < K) (h : i * K + q = j * K + p) : i = j ∧ q = p := by
  have hK : 0 < K := by omega
  have a : (i * K + q) / K = i := by rw [Nat.add_comm, Nat.add_mul_div_right _ _ hK, Nat.div_eq_of_lt hq, Nat.zero_add]
  have b : (j * K + p) / K = j := by rw [Nat.add_comm, Nat.add_mul_div_right _ _ hK, Nat.div_eq_of_lt hp, Nat.zero_add]
  have e : i = j := by rw [← a, h, b]
  subst e
  exact ⟨rfl, by omega⟩

/-- The element at a place; the plain one where there is none. -/
def elAt {α : Type} [Inhabited α] (ps : List α) (i : Nat) : α := ps[i]?.getD default
theorem elAt_set {α : Type} [Inhabited α] (ps : List α) (i j : Nat) (x : α) (hi : i < ps.length) : elAt (ps.set i x) j = if j = i then x else elAt ps j := by
  unfold elAt
  by_cases e : j = i
  · subst e; rw [List.getElem?_set_self hi]; simp
  · rw [List.getElem?_set_ne (by omega)]; simp [e]
theorem elAt_app {α : Type} [Inhabited α] (Z : List α) (x : α) : (∀ i, i < Z.length → elAt (Z ++ [x]) i = elAt Z i) ∧ elAt (Z ++ [x]) Z.length = x := by
  refine ⟨fun i hi => ?_, ?_⟩
  · unfold elAt; rw [List.getElem?_append_left hi]
  · simp [elAt]

structure RowE {α : Type} [Inhabited α] (K : Nat) (cells : α → Nat → Value) (w : World) (a : Option Addr) (len : Nat) (ps : List α) : Prop where
  len_eq : ps.length = len
  small : len ≤ 9223372036854775807
  at_ : ∀ i, i < len → ∃ b off, a = some ⟨b, off, none⟩ ∧ ∀ q, q < K → w.cell? ⟨b, off + i * K + q, none⟩ = some (cells (elAt ps i) q)

section rows
variable {α : Type} [Inhabited α] {K : Nat} {cells : α → Nat → Value}

theorem RowE.open_ {w : World} {a : Option Addr} {len : Nat} {ps : List α} (h : RowE K cells w a len ps) :
    (len = 0 ∧ ps = []) ∨ ∃ b off, a = some ⟨b, off, none⟩ ∧ 0 < len ∧ ∀ i, i < len → ∀ q, q < K → w.cell? ⟨b, off + i * K + q, none⟩ = some (cells (elAt ps i) q) := by
  by_cases h0 : len = 0
  · exact .inl ⟨h0, List.length_eq_zero_iff.1 (by rw [h.len_eq, h0])⟩
  · obtain ⟨b, off, ha, _⟩ := h.at_ 0 (by omega)
    refine .inr ⟨b, off, ha, by omega, fun i hi => ?_⟩
    obtain ⟨b', off', ha', hc⟩ := h.at_ i hi
    rw [ha] at ha'
    simp only [Option.some.injEq, Addr.mk.injEq] at ha'
    obtain ⟨rfl, rfl, _⟩ := ha'
    exact hc
theorem RowE.below {w w' : World} {a : Option Addr} {len : Nat} {ps : List α} (h : RowE K cells w a len ps) (k : Below w.heap.size w w') : RowE K cells w' a len ps := by
  refine ⟨h.len_eq, h.small, fun i hi => ?_⟩
  obtain ⟨b, off, ha, hc⟩ := h.at_ i hi
  exact ⟨b, off, ha, fun q hq => (k.cell (block_lt_of_cell (hc q hq))).trans (hc q hq)⟩
theorem RowE.alloc {w : World} {a : Option Addr} {len : Nat} {ps : List α} (h : RowE K cells w a len ps) (o : Obj) : RowE K cells (w.alloc o) a len ps := h.below (bel1 o)
theorem RowE.drewN {w : World} {a : Option Addr} {len : Nat} {ps : List α} (h : RowE K cells w a len ps) (n : Nat) : RowE K cells (w.drewN n) a len ps := h.below (bel0d n)
theorem RowE.setCell {w : World} {g : Nat} {len : Nat} {ps : List α} (h : RowE K cells w (some ⟨g, 0, none⟩) len ps) {p : Addr} (hp : p.block ≠ g) (v : Value) : RowE K cells (w.setCell p v) (some ⟨g, 0, none⟩) len ps := by
  refine ⟨h.len_eq, h.small, fun i hi => ?_⟩
  obtain ⟨b, off, ha, hc⟩ := h.at_ i hi
  simp only [Option.some.injEq, Addr.mk.injEq, and_true] at ha
  obtain ⟨rfl, rfl⟩ := ha
  exact ⟨_, _, rfl, fun q hq => (World.cell?_setCell_other w _ _ _ (by intro e; rw [e] at hp; exact hp rfl)).trans (hc q hq)⟩
theorem RowE.far {w w' : World} {g off len : Nat} {ps : List α} {row : Option Nat} (h : RowE K cells w (some ⟨g, off, none⟩) len ps) (k : w.grownBy w' row) (hne : some g ≠ row) : RowE K cells w' (some ⟨g, off, none⟩) len ps := by
  refine ⟨h.len_eq, h.small, fun i hi => ?_⟩
  obtain ⟨b, off', ha, hc⟩ := h.at_ i hi
  simp only [Option.some.injEq, Addr.mk.injEq, and_true] at ha
  obtain ⟨rfl, rfl⟩ := ha
  exact ⟨_, _, rfl, fun q hq => (World.cell?_of_block (a := ⟨g, off + i * K + q, none⟩) (k.block g (block_lt_of_cell (hc q hq)) hne)).trans (hc q hq)⟩

end rows

structure OwnE {α : Type} [Inhabited α] (K : Nat) (cells : α → Nat → Value) (w : World) (base : Nat) (T : TypeId) (v : Value) (ps : List α) : Prop where
  own : ∃ xs : List Value, w.ownsRow base T K v ps.length xs ∧ ∀ j, j < ps.length → ∀ q, q < K → xs[j * K + q]? = some (cells (elAt ps j) q)

section owns
variable {α : Type} [Inhabited α] {K : Nat} {cells : α → Nat → Value}

/-- What such a value looks like. -/
theorem OwnE.form {w : World} {base : Nat} {T : TypeId} {v : Value} {ps : List α} (h : OwnE K cells w base T v ps) :
    (v = .slice none 0 0 ∧ ps = []) ∨ ∃ g cap, v = .slice (some ⟨g, 0, none⟩) ps.length cap ∧ base ≤ g ∧ g < w.heap.size ∧ ps.length ≤ cap ∧ cap ≤ maxLen := by
  obtain ⟨xs, ho, _⟩ := h.own
  rcases ho.2 with ⟨hv, h0⟩ | ⟨g, cap, cur, hv, hb, hg, hc, hm, _⟩
  · exact .inl ⟨hv, List.length_eq_zero_iff.1 h0⟩
  · refine .inr ⟨g, cap, hv, hb, ?_, hc, hm⟩
    rcases Nat.lt_or_ge g w.heap.size with hlt | hge
    · exact hlt
    · rw [Array.getElem?_eq_none hge] at hg; cases hg
theorem OwnE.lies {w : World} {base : Nat} {T : TypeId} {v : Value} {ps : List α} (h : OwnE K cells w base T v ps) : ∀ g, v.ownBlock = some g → base ≤ g ∧ g < w.heap.size := by
  intro g hg
  rcases h.form with ⟨rfl, _⟩ | ⟨g', cap, rfl, h1, h2, _⟩
  · simp [Value.ownBlock] at hg
  · simp only [Value.ownBlock, Option.some.injEq] at hg
    omega
theorem OwnE.slice {w : World} {base : Nat} {T : TypeId} {v : Value} {ps : List α} (h : OwnE K cells w base T v ps) : ∃ a cap, v = .slice a ps.length cap ∧ ps.length ≤ cap ∧ RowE K cells w a ps.length ps := by
  obtain ⟨xs, ho, hx⟩ := h.own
  rcases h.form with ⟨rfl, h0⟩ | ⟨g, cap, rfl, _, _, hc, hm⟩
  · subst h0; exact ⟨none, 0, rfl, Nat.le_refl _, ⟨rfl, by simp, fun i hi => by simp at hi⟩⟩
  · refine ⟨_, cap, rfl, hc, ⟨rfl, ?_, fun i hi => ⟨_, _, rfl, fun q hq => ?_⟩⟩⟩
    · unfold maxLen at hm; omega
    · rw [Nat.zero_add, ho.cellAt (i * K + q) (in_row hi hq)]; exact hx i hi q hq
theorem OwnE.row {w : World} {base : Nat} {T : TypeId} {a : Option Addr} {len cap : Nat} {ps : List α} (h : OwnE K cells w base T (.slice a len cap) ps) : RowE K cells w a len ps := by
  obtain ⟨a', cap', e, _, hr⟩ := h.slice
  simp only [Value.slice.injEq] at e
  obtain ⟨rfl, rfl, rfl⟩ := e
  exact hr
theorem OwnE.below {w w' : World} {base : Nat} {T : TypeId} {v : Value} {ps : List α} (h : OwnE K cells w base T v ps) (k : Below w.heap.size w w') : OwnE K cells w' base T v ps := by
  obtain ⟨xs, ho, hx⟩ := h.own
  exact ⟨⟨xs, ownsRow_below ho k, hx⟩⟩
theorem OwnE.drewN {w : World} {base : Nat} {T : TypeId} {v : Value} {ps : List α} (h : OwnE K cells w base T v ps) (n : Nat) : OwnE K cells (w.drewN n) base T v ps := h.below (bel0d n)
theorem OwnE.mono {w : World} {base base' : Nat} {T : TypeId} {v : Value} {ps : List α} (h : OwnE K cells w base T v ps) (hb : base' ≤ base) : OwnE K cells w base' T v ps := by
  obtain ⟨xs, ⟨h1, h2⟩, hx⟩ := h.own
  refine ⟨⟨xs, ⟨h1, ?_⟩, hx⟩⟩
  rcases h2 with h2 | ⟨g, cap, cur, a, b, c⟩
  · exact .inl h2
  · exact .inr ⟨g, cap, cur, a, by omega, c⟩
/-- Another block's turning leaves it. -/
theorem OwnE.far {w w' : World} {base : Nat} {T : TypeId} {v : Value} {ps : List α} {row : Option Nat} (h : OwnE K cells w base T v ps) (k : w.grownBy w' row) (hne : ∀ g, v.ownBlock = some g → some g ≠ row) : OwnE K cells w' base T v ps := by
  obtain ⟨xs, ⟨h1, h2⟩, hx⟩ := h.own
  refine ⟨⟨xs, ⟨h1, ?_⟩, hx⟩⟩
  rcases h2 with h2 | ⟨g, cap, cur, rfl, b, c, d⟩
  · exact .inl h2
  · refine .inr ⟨g, cap, cur, rfl, b, ?_, d⟩
    have hg : g < w.heap.size := by
      rcases Nat.lt_or_ge g w.heap.size with hlt | hge
      · exact hlt
      · rw [Array.getElem?_eq_none hge] at c; cases c
    rw [k.block g hg (hne g rfl)]; exact c
theorem OwnE.set_other {w : World} {base : Nat} {T : TypeId} {v : Value} {ps : List α} (h : OwnE K cells w base T v ps) {S o : Nat} (u : Value) (hne : v.ownBlock ≠ some S) : OwnE K cells (w.setCell ⟨S, o, none⟩ u) base T v ps :=
  h.far (grown_set (grown_refl w (some S)) o u) (fun _ hg e => hne (hg.trans e))
/-- One cell of it may be read and written. -/
theorem OwnE.here {w : World} {base : Nat} {T : TypeId} {g n cap : Nat} {ps : List α} (h : OwnE K cells w base T (.slice (some ⟨g, 0, none⟩) n cap) ps) (hn : ps.length = n) (i : Nat) (hi : i < n) (q : Nat) (hq : q < K) :
    w.cell? ⟨g, i * K + q, none⟩ = some (cells (elAt ps i) q) ∧ w.frozen? ⟨g, i * K + q, none⟩ = false := by
  subst hn
  obtain ⟨xs, ho, hx⟩ := h.own
  exact ⟨by rw [ho.cellAt _ (in_row hi hq)]; exact hx i hi q hq, ho.frozenAt _⟩
/-- A store into one cell of it. -/
theorem OwnE.setOne {w : World} {base : Nat} {T : TypeId} {g n cap : Nat} {ps : List α} (h : OwnE K cells w base T (.slice (some ⟨g, 0, none⟩) n cap) ps) (hn : ps.length = n) (i : Nat) (hi : i < n) (q : Nat) (hq : q < K) (v : Value) (x : α)
    (hx : ∀ p, p < K → cells x p = if p = q then v else cells (elAt ps i) p) : OwnE K cells (w.setCell ⟨g, i * K + q, none⟩ v) base T (.slice (some ⟨g, 0, none⟩) n cap) (ps.set i x) := by
  subst hn
  obtain ⟨xs, ho, hxs⟩ := h.own
  have hl := ho.1
  have o1 := (ho.stored (i * K + q) v).1
  refine ⟨⟨_, by rw [List.length_set]; exact o1, fun j hj p hp => ?_⟩⟩
  rw [List.length_set] at hj
  rw [elAt_set _ _ _ _ hi]
  by_cases e : j = i
  · subst e
    rw [if_pos rfl, hx p hp]
    by_cases e2 : p = q
    · subst e2
      rw [if_pos rfl]
      exact List.getElem?_set_self (by rw [hl]; exact in_row hi hp)
    · rw [if_neg e2, List.getElem?_set_ne (by omega)]
      exact hxs j hj p hp
  · rw [if_neg e, List.getElem?_set_ne (fun he => e (same_place hp hq he.symm).1)]
    exact hxs j hj p hp

/-- A further one into the same element. -/
theorem OwnE.setMore {w : World} {base : Nat} {T : TypeId} {g n cap : Nat} {ps : List α} {i : Nat} {y : α} (h : OwnE K cells w base T (.slice (some ⟨g, 0, none⟩) n cap) (ps.set i y)) (hn : ps.length = n) (hi : i < n) (q : Nat) (hq : q < K) (v : Value) (x : α)
    (hx : ∀ p, p < K → cells x p = if p = q then v else cells y p) : OwnE K cells (w.setCell ⟨g, i * K + q, none⟩ v) base T (.slice (some ⟨g, 0, none⟩) n cap) (ps.set i x) := by
  have o := h.setOne (by simp [hn]) i hi q hq v x (by intro p hp; rw [elAt_set _ _ _ _ (by omega), if_pos rfl]; exact hx p hp)
  rwa [List.set_set] at o

theorem ownE_none {w w1 : World} {T : TypeId} (h : w.heap.size ≤ w1.heap.size) : OwnE K cells (w1.alloc (Obj.cells #[] T)) w.heap.size T (.slice (some ⟨w1.heap.size, 0, none⟩) 0 0) ([] : List α) := by
  refine ⟨⟨[], ⟨by simp, .inr ⟨_, _, #[], rfl, h, ?_, Nat.le_refl _, by simp [maxLen], by simp, by simp⟩⟩, fun j hj => by simp at hj⟩⟩
  show (w1.heap.push _)[w1.heap.size]? = _
  simp
theorem ownE_app {w : World} {base : Nat} {T : TypeId} {v : Value} {Z : List α} {vs us : List Value} {x : α} (h : w.ownsRow base T K v (Z.length + 1) (vs ++ us)) (hl : vs.length = Z.length * K)
    (hx : ∀ j, j < Z.length → ∀ q, q < K → vs[j * K + q]? = some (cells (elAt Z j) q)) (hu : ∀ q, q < K → us[q]? = some (cells x q)) : OwnE K cells w base T v (Z ++ [x]) := by
  obtain ⟨h1, h2⟩ := elAt_app Z x
  refine ⟨⟨vs ++ us, by simpa using h, fun j hj q hq => ?_⟩⟩
  simp only [List.length_append, List.length_cons, List.length_nil] at hj
  by_cases e : j < Z.length
  · rw [h1 j e, List.getElem?_append_left (by rw [hl]; exact in_row e hq)]
    exact hx j e q hq
  · obtain rfl : j = Z.length := by omega
    rw [h2, List.getElem?_append_right (by omega), hl]
    rw [show Z.length * K + q - Z.length * K = q by omega]
    exact hu q hq

/-- Elements of one cell. -/
theorem RowE.open1 {w : World} {a : Option Addr} {len : Nat} {ps : List α} (h : RowE 1 cells w a len ps) :
    (len = 0 ∧ ps = []) ∨ ∃ b off, a = some ⟨b, off, none⟩ ∧ 0 < len ∧ ∀ i, i < len → w.cell? ⟨b, off + i, none⟩ = some (cells (elAt ps i) 0) := by
  rcases h.open_ with h | ⟨b, off, ha, hl, hc⟩
  · exact .inl h
  · exact .inr ⟨b, off, ha, hl, fun i hi => by have := hc i hi 0 (by omega); rwa [Nat.mul_one] at this⟩
theorem OwnE.here1 {w : World} {base : Nat} {T : TypeId} {g n cap : Nat} {ps : List α} (h : OwnE 1 cells w base T (.slice (some ⟨g, 0, none⟩) n cap) ps) (hn : ps.length = n) (i : Nat) (hi : i < n) :
    w.cell? ⟨g, i, none⟩ = some (cells (elAt ps i) 0) ∧ w.frozen? ⟨g, i, none⟩ = false := by
  have := h.here hn i hi 0 (by omega)
  rwa [Nat.mul_one] at this
theorem OwnE.set1 {w : World} {base : Nat} {T : TypeId} {g n cap : Nat} {ps : List α} (h : OwnE 1 cells w base T (.slice (some ⟨g, 0, none⟩) n cap) ps) (hn : ps.length = n) (i : Nat) (hi : i < n) (v : Value) (x : α)
    (hx : cells x 0 = v) : OwnE 1 cells (w.setCell ⟨g, i, none⟩ v) base T (.slice (some ⟨g, 0, none⟩) n cap) (ps.set i x) := by
  have := h.setOne hn i hi 0 (by omega) v x (fun p hp => by obtain rfl : p = 0 := by omega
                                                            rw [if_pos rfl]; exact hx)
  rwa [Nat.mul_one] at this

end owns

/-- After n rounds of the marking: each element gets the next K numbers. -/
def markL {α : Type} (mk : Int → α) (K : Nat) (ps : List α) (k : Int) : Nat → List α
  | 0 => ps
  | n + 1 => (markL mk K ps k n).set n (mk (k + K * n))
theorem markL_len {α : Type} (mk : Int → α) (K : Nat) (ps : List α) (k : Int) (n : Nat) : (markL mk K ps k n).length = ps.length := by
  induction n with
  | zero => rfl
  | succ n ih => simp [markL, ih]
theorem markL_at {α : Type} [Inhabited α] (mk : Int → α) (K : Nat) (ps : List α) (k : Int) : ∀ n, n ≤ ps.length → ∀ i, i < n → elAt (markL mk K ps k n) i = mk (k + K * i) := by
  intro n
  induction n with
  | zero => intro _ i hi; omega
  | succ n ih =>
    intro hn i hi
    have hl : n < (markL mk K ps k n).length := by rw [markL_len]; omega
    show elAt ((markL mk K ps k n).set n (mk (k + K * n))) i = _
    rw [elAt_set _ _ _ _ hl]
    by_cases e : i = n
    · subst e; simp
    · rw [if_neg e]; exact ih (by omega) i (by omega)

end Go.Proofs.Ytfnnfldfnjnlfag

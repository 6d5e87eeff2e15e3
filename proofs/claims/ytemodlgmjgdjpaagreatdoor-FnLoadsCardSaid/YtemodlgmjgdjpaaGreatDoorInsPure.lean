/-
  A list put into a list of cells, and one element put into a list, in plain lists; copy between rows of elements of several cells. No program here.
-/
import Derived.Test.YtemodlgmjgdjpaaGreatDoorMOnly
import Derived.Laws.CopyRow
import Derived.Shelf.Spec.SlicesInsert
import Derived.Lib.AppendZerosOnto
namespace Go.Proofs.YtemodlgmjgdjpaaGreatDoor
open Go.RowKit

/-- The list l with the values cs from place o on. -/
def seg (l : List Value) (o : Nat) (cs : List Value) : List Value := l.take o ++ cs ++ l.drop (o + cs.length)
theorem seg_len {l cs : List Value} {o : Nat} (h : o + cs.length ≤ l.length) : (seg l o cs).length = l.length := by
  simp only [seg, List.length_append, List.length_take, List.length_drop]
  omega
theorem seg_in {l cs : List Value} {o p : Nat} (h : o + cs.length ≤ l.length) (h1 : o ≤ p) (h2 : p < o + cs.length) : (seg l o cs)[p]? = cs[p - o]? := by
  have e : (l.take o).length = o := by rw [List.length_take]; omega
  rw [seg, List.append_assoc, List.getElem?_append_right (by omega), e, List.getElem?_append_left (by omega)]
theorem seg_out {l cs : List Value} {o p : Nat} (h : o + cs.length ≤ l.length) (h1 : p < o ∨ o + cs.length ≤ p) : (seg l o cs)[p]? = l[p]? := by
  have e : (l.take o).length = o := by rw [List.length_take]; omega
  rw [seg, List.append_assoc]
  rcases h1 with h1 | h1
  · rw [List.getElem?_append_left (by omega), List.getElem?_take, if_pos h1]
  · rw [List.getElem?_append_right (by omega), e, List.getElem?_append_right (by omega), List.getElem?_drop]
    congr 1
    omega
/-- copy(d, s), elements of K cells, into a row. -/
theorem run_copy_rowK {P : Program} {K : Nat} (w : World) (dT sT ty elem : TypeId) (g o dLen dCap : Nat) (a : Addr) (sLen sCap : Nat) (cur : Array Value) (t : TypeId) (cs : List Value)
    (hu : P.underlying dT = some (.slice elem)) (hs : (P.info? elem).map (·.size) = some K)
    (hg : w.heap[g]? = some (.cells cur t (0, 0))) (hn : cs.length = Nat.min sLen dLen * K)
    (hsrc : ∀ j v, cs[j]? = some v → w.cell? (a.add j) = some v) (hfit : o + cs.length ≤ cur.size) (h1 : ∀ v ∈ cs, v.oneCell' = true) :
    (Builtin.copy_ #[dT, sT] ty #[.slice (some ⟨g, o, none⟩) dLen dCap, .slice (some a) sLen sCap]).run P w = .ok (goInt (Nat.min sLen dLen)) (w.setRow g (seg cur.toList o cs).toArray) := by
  have hl := run_loadCells_list (P := P) (w := w) a cs hsrc
  have hst := run_storeCells_at P g o t cs 0 cur w hg (by simpa using hfit) h1
  cases hq : P.info? elem with
  | none => simp [hq] at hs
  | some i =>
    have hi : i.size = K := by simpa [hq] using hs
    simp [Builtin.copy_, run_underlying hu, Builtin.lenOf, Builtin.firstCells, sizeOf, typeInfo, hq, hi, ← hn, hl, hst, seg]
theorem ownE_row {α : Type} [Inhabited α] {K : Nat} {cells : α → Nat → Value} {w : World} {base : Nat} {T : TypeId} {g n cap : Nat} {ps : List α} {cur : Array Value} (hg : w.heap[g]? = some (.cells cur T (0, 0))) (hb : base ≤ g) (hn : ps.length = n) (hc : n ≤ cap) (hm : cap ≤ maxLen) (hs : cur.size = cap * K)
    (hx : ∀ j, j < n → ∀ q, q < K → cur.toList[j * K + q]? = some (cells (elAt ps j) q)) : OwnE K cells w base T (.slice (some ⟨g, 0, none⟩) n cap) ps := by
  subst hn
  refine ⟨⟨cur.toList.take (ps.length * K), ⟨?_, .inr ⟨g, cap, cur, rfl, hb, hg, hc, hm, hs, rfl⟩⟩, fun j hj q hq => ?_⟩⟩
  · have e : cur.toList.length = cap * K := by simpa using hs
    rw [List.length_take, e]
    have := Nat.mul_le_mul_right K hc
    omega
  · rw [List.getElem?_take, if_pos (in_row hj hq)]
    exact hx j hj q hq
/-- One element put in. -/
def insL {α : Type} (ps : List α) (k : Nat) (x : α) : List α := ps.take k ++ ([x] ++ ps.drop k)
theorem insL_len {α : Type} {ps : List α} {k : Nat} {x : α} (h : k ≤ ps.length) : (insL ps k x).length = ps.length + 1 := by
  simp only [insL, List.length_append, List.length_take, List.length_drop, List.length_singleton]
  omega
theorem insL_at {α : Type} [Inhabited α] {ps : List α} {k : Nat} {x : α} (h : k ≤ ps.length) (j : Nat) : elAt (insL ps k x) j = if j < k then elAt ps j else if j = k then x else elAt ps (j - 1) := by
  have e : (ps.take k).length = k := by rw [List.length_take]; omega
  unfold insL
  by_cases h1 : j < k
  · rw [if_pos h1, elAt_left (by omega)]
    unfold elAt
    rw [List.getElem?_take, if_pos h1]
  · rw [if_neg h1]
    obtain ⟨i, rfl⟩ : ∃ i, j = k + i := ⟨j - k, by omega⟩
    have := elAt_right (ps.take k) ([x] ++ ps.drop k) i
    rw [e] at this
    rw [this]
    by_cases h2 : i = 0
    · subst h2
      rw [if_pos (by omega)]
      rfl
    · rw [if_neg (by omega)]
      obtain ⟨m, rfl⟩ : ∃ m, i = m + 1 := ⟨i - 1, by omega⟩
      unfold elAt
      rw [show k + (m + 1) - 1 = k + m by omega]
      show (((ps.drop k))[m]?).getD _ = _
      rw [List.getElem?_drop]
/-- The cells of such a list, out of those of the list and of the element. -/
theorem ins_cells {α : Type} [Inhabited α] {K : Nat} {cells : α → Nat → Value} {ps : List α} {k : Nat} {x : α} (hk : k ≤ ps.length) {L cs vs : List Value} (hcs : ∀ j, j < ps.length → ∀ q, q < K → cs[j * K + q]? = some (cells (elAt ps j) q)) (hvs : ∀ q, q < K → vs[q]? = some (cells x q))
    (h1 : ∀ p, p < k * K → L[p]? = cs[p]?) (h2 : ∀ p, k * K ≤ p → p < k * K + K → L[p]? = vs[p - k * K]?) (h3 : ∀ p, k * K + K ≤ p → p < ps.length * K + K → L[p]? = cs[p - K]?) :
    ∀ j, j < ps.length + 1 → ∀ q, q < K → L[j * K + q]? = some (cells (elAt (insL ps k x) j) q) := by
  intro j hj q hq
  rw [insL_at hk]
  by_cases a : j < k
  · rw [if_pos a, h1 _ (in_row a hq)]
    exact hcs j (by omega) q hq
  · rw [if_neg a]
    by_cases b : j = k
    · subst b
      rw [if_pos rfl, h2 _ (by omega) (by omega), show j * K + q - j * K = q by omega]
      exact hvs q hq
    · rw [if_neg b]
      obtain ⟨i, rfl⟩ : ∃ i, j = i + 1 := ⟨j - 1, by omega⟩
      have e1 : (i + 1) * K = i * K + K := Nat.succ_mul i K
      have e2 : k * K ≤ i * K := Nat.mul_le_mul_right K (by omega)
      have e3 := in_row (i := i) (n := ps.length) (show i < ps.length by omega) hq
      rw [h3 _ (by omega) (by omega), show (i + 1) * K + q - K = i * K + q by omega, show i + 1 - 1 = i by omega]
      exact hcs i (by omega) q hq
theorem grown_heap {w w' : World} {g : Nat} (ho : w'.os = w.os) (ht : w'.tape = w.tape) (hp : w'.output = w.output) (hs : w.heap.size ≤ w'.heap.size) (hb : ∀ k, k < w.heap.size → k ≠ g → w'.heap[k]? = w.heap[k]?) : w.grownBy w' (some g) :=
  ⟨ho, ht, hp, hs, fun k hk hne => hb k hk (fun e => hne (by rw [e]))⟩
theorem setRow_at {w : World} {g k : Nat} {cur : Array Value} (h : k ≠ g) : (w.setRow g cur).heap[k]? = w.heap[k]? := by
  unfold World.setRow
  simp only [Array.getElem?_modify]
  rw [if_neg (fun e => h e.symm)]

end Go.Proofs.YtemodlgmjgdjpaaGreatDoor

/-
  A list behind a list that a call has made: elements of several cells, as a law for the walk. At lists of at most 1000 together, the second not nil.
  A list put into a list of cells, and one element put into a list, in plain lists; copy between rows of elements of several cells. No program here.
-/
import Derived.Test.YtfnnfldfnjnlfahChecked
import Derived.Test.YtfnnfldfnjnlfahRowE
import Derived.Laws.AppendOwn
import Derived.Laws.OwnMore
import Derived.Laws.CopyRow
import Derived.Shelf.Spec.SlicesInsert
import Derived.Lib.AppendZerosOnto

namespace Go.Proofs.Ytfnnfldfnjnlfah
open Go.RowKit

theorem addr_addR (g o j : Nat) : (⟨g, o, none⟩ : Addr).add j = ⟨g, o + j, none⟩ := by unfold Addr.add; split <;> simp_all
section
variable {α : Type} [Inhabited α] {K : Nat} {cells : α → Nat → Value}

/-- The cells of a list. -/
def flatE (K : Nat) (cells : α → Nat → Value) (ps : List α) : List Value := (List.range (ps.length * K)).map fun p => cells (elAt ps (p / K)) (p % K)
theorem flatE_len (ps : List α) : (flatE K cells ps).length = ps.length * K := by simp [flatE]
theorem flatE_at {ps : List α} {p : Nat} (hp : p < ps.length * K) : (flatE K cells ps)[p]? = some (cells (elAt ps (p / K)) (p % K)) := by simp [flatE, hp]
theorem elAt_right (xs ys : List α) (j : Nat) : elAt (xs ++ ys) (xs.length + j) = elAt ys j := by
  unfold elAt; rw [List.getElem?_append_right (by omega)]; congr 2; omega
theorem elAt_left {xs ys : List α} {j : Nat} (h : j < xs.length) : elAt (xs ++ ys) j = elAt xs j := by
  unfold elAt; rw [List.getElem?_append_left h]
theorem ownE_apps {w : World} {base : Nat} {T : TypeId} {v : Value} {xs ys : List α} {vs : List Value} (hK : 0 < K) (h : w.ownsRow base T K v (xs.length + ys.length) (vs ++ flatE K cells ys)) (hl : vs.length = xs.length * K)
    (hx : ∀ j, j < xs.length → ∀ q, q < K → vs[j * K + q]? = some (cells (elAt xs j) q)) : OwnE K cells w base T v (xs ++ ys) := by
  refine ⟨⟨_, by rw [List.length_append]; exact h, fun j hj q hq => ?_⟩⟩
  rw [List.length_append] at hj
  by_cases e : j < xs.length
  · rw [elAt_left e, List.getElem?_append_left (by rw [hl]; exact in_row e hq)]
    exact hx j e q hq
  · obtain ⟨i, rfl⟩ : ∃ i, j = xs.length + i := ⟨j - xs.length, by omega⟩
    have hi : i < ys.length := by omega
    have e1 : (xs.length + i) * K + q = vs.length + (i * K + q) := by rw [hl, Nat.add_mul]; omega
    rw [e1, List.getElem?_append_right (by omega), elAt_right, show vs.length + (i * K + q) - vs.length = i * K + q by omega, flatE_at (in_row hi hq)]
    have e2 : (i * K + q) / K = i := by rw [Nat.add_comm, Nat.add_mul_div_right _ _ hK, Nat.div_eq_of_lt hq, Nat.zero_add]
    have e3 : (i * K + q) % K = q := by rw [Nat.add_comm, Nat.add_mul_mod_self_right, Nat.mod_eq_of_lt hq]
    rw [e2, e3]
theorem wpList_app_els {ops : Array Oper} {rest : List Oper} {o : Oper} {a : Act} {Q : Exit → Act → World → Prop} {w : World} (hwn : Region.wanted o (yielded ops a.tmps) = true) (s xo : Operand) (sT eT : TypeId) (ho : o.op = .call { callee := .builtin .append, args := #[s, xo], argTypes := #[sT, sT] })
    (hU : Try.prog.underlying sT = some (.slice eT)) {z : Value} {bytes : Nat} (hI : (Try.prog.info? eT).map (fun i => (i.zero, i.size, i.bytes)) = some (some z, K, bytes)) (hz : z.cells.size = K) (hK : 0 < K) (hby : bytes ≤ 1000) (h1c : ∀ x q, (cells x q).oneCell' = true)
    {base : Nat} {v : Value} {zs : List α} (hO : OwnE K cells w base eT v zs) (hs : a.eval s = v) (g off m c : Nat) (ys : List α) (hx : a.eval xo = .slice (some ⟨g, off, none⟩) m c) (hy : RowE K cells w (some ⟨g, off, none⟩) m ys) (hm : zs.length + m ≤ 1000) (hb : base ≤ w.heap.size)
    (h : ∀ v' w', OwnE K cells w' base eT v' (zs ++ ys) → w.grownBy w' v.ownBlock → (v' = .slice none 0 0 → v = .slice none 0 0) → wpList Try.prog ops Q rest (a.put o.dst v') w') : wpList Try.prog ops Q (o :: rest) a w := by
  refine wpList_step fun _ hK' => ?_
  rw [if_pos hwn]
  obtain ⟨i0, hii, hz0, hz1, hz2⟩ := info_parts hI
  obtain ⟨vs, hown, hvx⟩ := hO.own
  have hlen := hy.len_eq
  have hmul : (zs.length + m) * bytes ≤ 1000 * 1000 := Nat.mul_le_mul hm hby
  refine wp_append_own w s xo sT ho base eT i0 z K bytes hU hii hz0 hz1 hz2 hz hK v zs.length vs hs hown ⟨g, off, none⟩ m c (flatE K cells ys) hx (by rw [flatE_len, hlen]) (fun j u hj => ?_) (fun u hu => ?_) (by unfold maxLen; omega) (by omega) hb ?_
  · have hj' : j < ys.length * K := by
      rcases Nat.lt_or_ge j (ys.length * K) with h | h
      · exact h
      · rw [List.getElem?_eq_none (by rw [flatE_len]; exact h)] at hj; cases hj
    rw [flatE_at hj'] at hj
    have hd : j / K < m := by rw [← hlen]; exact Nat.div_lt_of_lt_mul (by rw [Nat.mul_comm]; exact hj')
    obtain ⟨b', off', e, hc⟩ := hy.at_ (j / K) hd
    simp only [Option.some.injEq, Addr.mk.injEq, and_true] at e
    obtain ⟨rfl, rfl⟩ := e
    have e : off + j = off + j / K * K + j % K := by rw [Nat.add_assoc, Nat.div_add_mod']
    rw [addr_addR, e, ← hj]; exact hc (j % K) (Nat.mod_lt _ hK)
  · obtain ⟨p, _, rfl⟩ := List.mem_map.1 hu; exact h1c _ _
  · intro v' w' h1 h2 h3
    exact hK' _ _ (h v' w' (ownE_apps hK (by rw [hlen]; exact h1) hown.1 hvx) h2 (fun e => (h3.1 e).1))
theorem ownE_one {w : World} {base : Nat} {T : TypeId} {x : α} (us : List Value) (hul : us.length = K) (hux : ∀ q, q < K → us[q]? = some (cells x q)) (h : base ≤ w.heap.size) : OwnE K cells (w.alloc (Obj.cells us.toArray T)) base T (.slice (some ⟨w.heap.size, 0, none⟩) 1 1) [x] := by
  refine ⟨⟨us, ?_, fun j hj q hq => ?_⟩⟩
  · have := World.ownsRow_lit (base := base) (e := T) (size := K) w us.toArray 1 h (by unfold maxLen; omega) (by simp [hul])
    simpa using this
  · obtain rfl : j = 0 := by simp at hj; omega
    rw [Nat.zero_mul, Nat.zero_add]; exact hux q hq

end

end Go.Proofs.Ytfnnfldfnjnlfah

namespace Go.Proofs.Ytfnnfldfnjnlfah
open Go.RowKit

/-- The list l with the values cs from place o on. -/
def seg (l : List Value) (o : Nat) (cs : List Value) : List Value := l.take o ++ cs ++ l.drop (o + cs.length)
theorem seg_len {l cs : List Value} {o : Nat} (h : o + cs.length ≤ l.length) : (seg l o cs).length = l.length := by
  simp only [seg, List.length_append, List.length_take, List.length_drop]
  omega
theorem seg_in {l cs : List Value} {o p : Nat} (h : o + cs.length ≤ l.length) (h1 : o ≤ p) (h2 : p < o + cs.length) : (seg l o cs)[p]? = cs[p - o]? := by
  have e : (l.take o).length = o := by rw [List.length_take]; omega
  rw [seg, List.append_assoc, List.getElem?_append_right (by omega), e, List.getElem?_append_left (by omega)]
theorem seg_out {l cs : List Value} {o p : Nat} (h : o + cs.length ≤ l.length) (h1 : p < o ∨ o + cs.length ≤ p) : (seg l o cs)[p]? = l[p]? := by
  have e : (l.take o).length = o := by rw [List.length_take]; omega
  rw [seg, List.append_assoc]
  rcases h1 with h1 | h1
  · rw [List.getElem?_append_left (by omega), List.getElem?_take, if_pos h1]
  · rw [List.getElem?_append_right (by omega), e, List.getElem?_append_right (by omega), List.getElem?_drop]
    congr 1
    omega
/-- copy(d, s), elements of K cells, into a row. -/
theorem run_copy_rowK {P : Program} {K : Nat} (w : World) (dT sT ty elem : TypeId) (g o dLen dCap : Nat) (a : Addr) (sLen sCap : Nat) (cur : Array Value) (t : TypeId) (cs : List Value)
    (hu : P.underlying dT = some (.slice elem)) (hs : (P.info? elem).map (·.size) = some K)
    (hg : w.heap[g]? = some (.cells cur t (0, 0))) (hn : cs.length = Nat.min sLen dLen * K)
    (hsrc : ∀ j v, cs[j]? = some v → w.cell? (a.add j) = some v) (hfit : o + cs.length ≤ cur.size) (h1 : ∀ v ∈ cs, v.oneCell' = true) :
    (Builtin.copy_ #[dT, sT] ty #[.slice (some ⟨g, o, none⟩) dLen dCap, .slice (some a) sLen sCap]).run P w = .ok (goInt (Nat.min sLen dLen)) (w.setRow g (seg cur.toList o cs).toArray) := by
  have hl := run_loadCells_list (P := P) (w := w) a cs hsrc
  have hst := run_storeCells_at P g o t cs 0 cur w hg (by simpa using hfit) h1
  cases hq : P.info? elem with
  | none => simp [hq] at hs
  | some i =>
    have hi : i.size = K := by simpa [hq] using hs
    simp [Builtin.copy_, run_underlying hu, Builtin.lenOf, Builtin.firstCells, sizeOf, typeInfo, hq, hi, ← hn, hl, hst, seg]
theorem ownE_row {α : Type} [Inhabited α] {K : Nat} {cells : α → Nat → Value} {w : World} {base : Nat} {T : TypeId} {g n cap : Nat} {ps : List α} {cur : Array Value} (hg : w.heap[g]? = some (.cells cur T (0, 0))) (hb : base ≤ g) (hn : ps.length = n) (hc : n ≤ cap) (hm : cap ≤ maxLen) (hs : cur.size = cap * K)
    (hx : ∀ j, j < n → ∀ q, q < K → cur.toList[j * K + q]? = some (cells (elAt ps j) q)) : OwnE K cells w base T (.slice (some ⟨g, 0, none⟩) n cap) ps := by
  subst hn
  refine ⟨⟨cur.toList.take (ps.length * K), ⟨?_, .inr ⟨g, cap, cur, rfl, hb, hg, hc, hm, hs, rfl⟩⟩, fun j hj q hq => ?_⟩⟩
  · have e : cur.toList.length = cap * K := by simpa using hs
    rw [List.length_take, e]
    have := Nat.mul_le_mul_right K hc
    omega
  · rw [List.getElem?_take, if_pos (in_row hj hq)]
    exact hx j hj q hq
/-- One element put in. -/
def insL {α : Type} (ps : List α) (k : Nat) (x : α) : List α := ps.take k ++ ([x] ++ ps.drop k)
theorem insL_len {α : Type} {ps : List α} {k : Nat} {x : α} (h : k ≤ ps.length) : (insL ps k x).length = ps.length + 1 := by
  simp only [insL, List.length_append, List.length_take, List.length_drop, List.length_singleton]
  omega
theorem insL_at {α : Type} [Inhabited α] {ps : List α} {k : Nat} {x : α} (h : k ≤ ps.length) (j : Nat) : elAt (insL ps k x) j = if j < k then elAt ps j else if j = k then x else elAt ps (j - 1) := by
  have e : (ps.take k).length = k := by rw [List.length_take]; omega
  unfold insL
  by_cases h1 : j < k
  · rw [if_pos h1, elAt_left (by omega)]
    unfold elAt
    rw [List.getElem?_take, if_pos h1]
  · rw [if_neg h1]
    obtain ⟨i, rfl⟩ : ∃ i, j = k + i := ⟨j - k, by omega⟩
    have := elAt_right (ps.take k) ([x] ++ ps.drop k) i
    rw [e] at this
    rw [this]
    by_cases h2 : i = 0
    · subst h2
      rw [if_pos (by omega)]
      rfl
    · rw [if_neg (by omega)]
      obtain ⟨m, rfl⟩ : ∃ m, i = m + 1 := ⟨i - 1, by omega⟩
      unfold elAt
      rw [show k + (m + 1) - 1 = k + m by omega]
      show (((ps.drop k))[m]?).getD _ = _
      rw [List.getElem?_drop]
/-- The cells of such a list, out of those of the list and of the element. -/
theorem ins_cells {α : Type} [Inhabited α] {K : Nat} {cells : α → Nat → Value} {ps : List α} {k : Nat} {x : α} (hk : k ≤ ps.length) {L cs vs : List Value} (hcs : ∀ j, j < ps.length → ∀ q, q < K → cs[j * K + q]? = some (cells (elAt ps j) q)) (hvs : ∀ q, q < K → vs[q]? = some (cells x q))
    (h1 : ∀ p, p < k * K → L[p]? = cs[p]?) (h2 : ∀ p, k * K ≤ p → p < k * K + K → L[p]? = vs[p - k * K]?) (h3 : ∀ p, k * K + K ≤ p → p < ps.length * K + K → L[p]? = cs[p - K]?) :
    ∀ j, j < ps.length + 1 → ∀ q, q < K → L[j * K + q]? = some (cells (elAt (insL ps k x) j) q) := by
  intro j hj q hq
  rw [insL_at hk]
  by_cases a : j < k
  · rw [if_pos a, h1 _ (in_row a hq)]
    exact hcs j (by omega) q hq
  · rw [if_neg a]
    by_cases b : j = k
    · subst b
      rw [if_pos rfl, h2 _ (by omega) (by omega), show j * K + q - j * K = q by omega]
      exact hvs q hq
    · rw [if_neg b]
      obtain ⟨i, rfl⟩ : ∃ i, j = i + 1 := ⟨j - 1, by omega⟩
      have e1 : (i + 1) * K = i * K + K := Nat.succ_mul i K
      have e2 : k * K ≤ i * K := Nat.mul_le_mul_right K (by omega)
      have e3 := in_row (i := i) (n := ps.length) (show i < ps.length by omega) hq
      rw [h3 _ (by omega) (by omega), show (i + 1) * K + q - K = i * K + q by omega, show i + 1 - 1 = i by omega]
      exact hcs i (by omega) q hq
theorem grown_heap {w w' : World} {g : Nat} (ho : w'.os = w.os) (ht : w'.tape = w.tape) (hp : w'.output = w.output) (hs : w.heap.size ≤ w'.heap.size) (hb : ∀ k, k < w.heap.size → k ≠ g → w'.heap[k]? = w.heap[k]?) : w.grownBy w' (some g) :=
  ⟨ho, ht, hp, hs, fun k hk hne => hb k hk (fun e => hne (by rw [e]))⟩
theorem setRow_at {w : World} {g k : Nat} {cur : Array Value} (h : k ≠ g) : (w.setRow g cur).heap[k]? = w.heap[k]? := by
  unfold World.setRow
  simp only [Array.getElem?_modify]
  rw [if_neg (fun e => h e.symm)]

end Go.Proofs.Ytfnnfldfnjnlfah

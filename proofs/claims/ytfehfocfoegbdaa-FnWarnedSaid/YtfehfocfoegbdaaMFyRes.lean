/-
  A result that stands in a block, and two behind it. No condition.
  A list behind a list that a call has made: elements of several cells, as a law for the walk. At lists of at most 1000 together, the second not nil.
  The law's at tells one number in every world in which the bytes are as they were. At every list of at most 1048576 bytes.
-/
import Derived.Test.YtfehfocfoegbdaaMWhole
import Derived.Test.YtfehfocfoegbdaaChecked
import Derived.Test.YtfehfocfoegbdaaRowE
import Derived.Laws.AppendOwn
import Derived.Laws.OwnMore
import Derived.Test.YtfehfocfoegbdaaMBlks

namespace Go.Proofs.Ytfehfocfoegbdaa
open Go.RowKit

theorem results_cellBB {fn : Func} {p q r : Tmp} {t : TypeId} {tmps : Array Value} {w : World} {B : Nat} {vs : List Value} {x y : Value} (h : fn.results = #[.cell p t, .tmp q, .tmp r]) (hA : ∀ w, (isAgg t).run Try.prog w = .ok true w) (hZ : ∀ w, (Go.sizeOf t).run Try.prog w = .ok vs.length w)
    (hp : tmps.getD p undef = .pointer (some ⟨B, 0, none⟩)) (hb : Blk w B vs) (hq : tmps.getD q undef = x) (hr : tmps.getD r undef = y) : (results fn tmps).run Try.prog w = .ok (.tuple #[.agg vs.toArray, x, y]) w := by
  have hl := run_loadVar hA hZ hb
  have hp' : tmps[p]?.getD undef = .pointer (some ⟨B, 0, none⟩) := by simpa using hp
  have hq' : tmps[q]?.getD undef = x := by simpa using hq
  have hr' : tmps[r]?.getD undef = y := by simpa using hr
  simp only [results, h]
  simp [hp', hq', hr', asAddr, hl]

end Go.Proofs.Ytfehfocfoegbdaa

namespace Go.Proofs.Ytfehfocfoegbdaa
open Go.RowKit

theorem addr_addR (g o j : Nat) : (⟨g, o, none⟩ : Addr).add j = ⟨g, o + j, none⟩ := by unfold Addr.add; split <;> simp_all
section
variable {α : Type} [Inhabited α] {K : Nat} {cells : α → Nat → Value}

/-- The cells of a list. -/
def flatE (K : Nat) (cells : α → Nat → Value) (ps : List α) : List Value := (List.range (ps.length * K)).map fun p => cells (elAt ps (p / K)) (p % K)
theorem flatE_len (ps : List α) : (flatE K cells ps).length = ps.length * K := by simp [flatE]
theorem flatE_at {ps : List α} {p : Nat} (hp : p < ps.length * K) : (flatE K cells ps)[p]? = some (cells (elAt ps (p / K)) (p % K)) := by simp [flatE, hp]
theorem elAt_right (xs ys : List α) (j : Nat) : elAt (xs ++ ys) (xs.length + j) = elAt ys j := by
  unfold elAt; rw [List.getElem?_append_right (by omega)]; congr 2; omega
theorem elAt_left {xs ys : List α} {j : Nat} (h : j < xs.length) : elAt (xs ++ ys) j = elAt xs j := by
  unfold elAt; rw [List.getElem?_append_left h]
theorem ownE_apps {w : World} {base : Nat} {T : TypeId} {v : Value} {xs ys : List α} {vs : List Value} (hK : 0 < K) (h : w.ownsRow base T K v (xs.length + ys.length) (vs ++ flatE K cells ys)) (hl : vs.length = xs.length * K)
    (hx : ∀ j, j < xs.length → ∀ q, q < K → vs[j * K + q]? = some (cells (elAt xs j) q)) : OwnE K cells w base T v (xs ++ ys) := by
  refine ⟨⟨_, by rw [List.length_append]; exact h, fun j hj q hq => ?_⟩⟩
  rw [List.length_append] at hj
  by_cases e : j < xs.length
  · rw [elAt_left e, List.getElem?_append_left (by rw [hl]; exact in_row e hq)]
    exact hx j e q hq
  · obtain ⟨i, rfl⟩ : ∃ i, j = xs.length + i := ⟨j - xs.length, by omega⟩
    have hi : i < ys.length := by omega
    have e1 : (xs.length + i) * K + q = vs.length + (i * K + q) := by rw [hl, Nat.add_mul]; omega
    rw [e1, List.getElem?_append_right (by omega), elAt_right, show vs.length + (i * K + q) - vs.length = i * K + q by omega, flatE_at (in_row hi hq)]
    have e2 : (i * K + q) / K = i := by rw [Nat.add_comm, Nat.add_mul_div_right _ _ hK, Nat.div_eq_of_lt hq, Nat.zero_add]
    have e3 : (i * K + q) % K = q := by rw [Nat.add_comm, Nat.add_mul_mod_self_right, Nat.mod_eq_of_lt hq]
    rw [e2, e3]
theorem wpList_app_els {ops : Array Oper} {rest : List Oper} {o : Oper} {a : Act} {Q : Exit → Act → World → Prop} {w : World} (hwn : Region.wanted o (yielded ops a.tmps) = true) (s xo : Operand) (sT eT : TypeId) (ho : o.op = .call { callee := .builtin .append, args := #[s, xo], argTypes := #[sT, sT] })
    (hU : Try.prog.underlying sT = some (.slice eT)) {z : Value} {bytes : Nat} (hI : (Try.prog.info? eT).map (fun i => (i.zero, i.size, i.bytes)) = some (some z, K, bytes)) (hz : z.cells.size = K) (hK : 0 < K) (hby : bytes ≤ 1000) (h1c : ∀ x q, (cells x q).oneCell' = true)
    {base : Nat} {v : Value} {zs : List α} (hO : OwnE K cells w base eT v zs) (hs : a.eval s = v) (g off m c : Nat) (ys : List α) (hx : a.eval xo = .slice (some ⟨g, off, none⟩) m c) (hy : RowE K cells w (some ⟨g, off, none⟩) m ys) (hm : zs.length + m ≤ 1000) (hb : base ≤ w.heap.size)
    (h : ∀ v' w', OwnE K cells w' base eT v' (zs ++ ys) → w.grownBy w' v.ownBlock → (v' = .slice none 0 0 → v = .slice none 0 0) → wpList Try.prog ops Q rest (a.put o.dst v') w') : wpList Try.prog ops Q (o :: rest) a w := by
  refine wpList_step fun _ hK' => ?_
  rw [if_pos hwn]
  obtain ⟨i0, hii, hz0, hz1, hz2⟩ := info_parts hI
  obtain ⟨vs, hown, hvx⟩ := hO.own
  have hlen := hy.len_eq
  have hmul : (zs.length + m) * bytes ≤ 1000 * 1000 := Nat.mul_le_mul hm hby
  refine wp_append_own w s xo sT ho base eT i0 z K bytes hU hii hz0 hz1 hz2 hz hK v zs.length vs hs hown ⟨g, off, none⟩ m c (flatE K cells ys) hx (by rw [flatE_len, hlen]) (fun j u hj => ?_) (fun u hu => ?_) (by unfold maxLen; omega) (by omega) hb ?_
  · have hj' : j < ys.length * K := by
      rcases Nat.lt_or_ge j (ys.length * K) with h | h
      · exact h
      · rw [List.getElem?_eq_none (by rw [flatE_len]; exact h)] at hj; cases hj
    rw [flatE_at hj'] at hj
    have hd : j / K < m := by rw [← hlen]; exact Nat.div_lt_of_lt_mul (by rw [Nat.mul_comm]; exact hj')
    obtain ⟨b', off', e, hc⟩ := hy.at_ (j / K) hd
    simp only [Option.some.injEq, Addr.mk.injEq, and_true] at e
    obtain ⟨rfl, rfl⟩ := e
    have e : off + j = off + j / K * K + j % K := by rw [Nat.add_assoc, Nat.div_add_mod']
    rw [addr_addR, e, ← hj]; exact hc (j % K) (Nat.mod_lt _ hK)
  · obtain ⟨p, _, rfl⟩ := List.mem_map.1 hu; exact h1c _ _
  · intro v' w' h1 h2 h3
    exact hK' _ _ (h v' w' (ownE_apps hK (by rw [hlen]; exact h1) hown.1 hvx) h2 (fun e => (h3.1 e).1))
theorem ownE_one {w : World} {base : Nat} {T : TypeId} {x : α} (us : List Value) (hul : us.length = K) (hux : ∀ q, q < K → us[q]? = some (cells x q)) (h : base ≤ w.heap.size) : OwnE K cells (w.alloc (Obj.cells us.toArray T)) base T (.slice (some ⟨w.heap.size, 0, none⟩) 1 1) [x] := by
  refine ⟨⟨us, ?_, fun j hj q hq => ?_⟩⟩
  · have := World.ownsRow_lit (base := base) (e := T) (size := K) w us.toArray 1 h (by unfold maxLen; omega) (by simp [hul])
    simpa using this
  · obtain rfl : j = 0 := by simp at hj; omega
    rw [Nat.zero_mul, Nat.zero_add]; exact hux q hq

end

end Go.Proofs.Ytfehfocfoegbdaa

namespace Go.Proofs.Ytfehfocfoegbdaa
open Go.RowKit

end Go.Proofs.Ytfehfocfoegbdaa

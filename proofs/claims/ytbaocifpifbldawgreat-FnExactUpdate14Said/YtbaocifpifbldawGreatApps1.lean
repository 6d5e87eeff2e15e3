/-
  The model's lesser and greater of two numbers; no memory is written. No condition.
  One element more behind a list that a call has made, as laws for the walk, in the order of the text and in a region that draws its order: elements of several cells. At lists of at most 1000.
  How loud names are, and which rules are quiet in a phase, in the model: the plain answers; nothing that was there is written.
  Which rules are quiet in a phase, in the model: the plain answer; its list owns its memory; nothing that was there is written.
  A list behind a list that a call has made: elements of several cells, as a law for the walk. At lists of at most 1000 together, the second not nil.
  A list of texts behind a list of texts that a call has made, and where the answer lies. At lists of at most four million together.
  A result that stands in a block, and two behind it. No condition.
-/
import Derived.Test.YtbaocifpifbldawGreatSmall
import Derived.Test.YtbaocifpifbldawGreatRows1
import Derived.Test.YtbaocifpifbldawGreatKp0
import Derived.Test.YtbaocifpifbldawGreatSpec1
import Derived.Test.YtbaocifpifbldawGreatText1
import Derived.Test.YtbaocifpifbldawGreatPan0
import Derived.Test.YtbaocifpifbldawGreatChecked
import Derived.Laws.AppendOwn
import Derived.Laws.OwnMore
import Derived.Deep.AppendLies
import Derived.Deep.Upon
import Derived.Test.YtbaocifpifbldawGreatPan1

namespace Go.Proofs.YtbaocifpifbldawGreat
open Go.RowKit


end Go.Proofs.YtbaocifpifbldawGreat

namespace Go.Proofs.YtbaocifpifbldawGreat
open Go.RowKit

theorem step_app_elG {α : Type} [Inhabited α] {K : Nat} {cells : α → Nat → Value} {ops : Array Oper} {o : Oper} {a : Act} {L : Act → World → Prop} {Q : Exit → Act → World → Prop} {E : Prop} (hgd : o.guard = none) (s xo : Operand) (sT eT : TypeId)
    (ho : o.op = .call { callee := .builtin .append, args := #[s, xo], argTypes := #[sT, sT] }) (hU : Tryz.prog.underlying sT = some (.slice eT)) {z : Value} {bytes : Nat} (hI : (Tryz.prog.info? eT).map (fun i => (i.zero, i.size, i.bytes)) = some (some z, K, bytes)) (hz : z.cells.size = K) (hK : 0 < K) (hby : bytes ≤ 1000)
    {wr : World} {base n : Nat} {v : Value} {zs : List α} (x : α) (us : List Value) (hul : us.length = K) (hux : ∀ q, q < K → us[q]? = some (cells x q)) (hu1 : ∀ u ∈ us, u.oneCell' = true) (hO : OwnE K cells wr base eT v zs) (hn : zs.length = n) (hs : a.eval s = v)
    {H : Nat} (hH : wr.heap.size = H) (hx : a.eval xo = .slice (some ⟨H, 0, none⟩) 1 1) (hb : base ≤ wr.heap.size) (hsm : n ≤ 1000)
    (h : ∀ g cap w', OwnE K cells w' base eT (.slice (some ⟨g, 0, none⟩) (n + 1) cap) (zs ++ [x]) → wr.grownBy w' v.ownBlock → (v.ownBlock = some g ∨ wr.heap.size < g) → L (a.put o.dst (.slice (some ⟨g, 0, none⟩) (n + 1) cap)) w') :
    if Region.wanted o (yielded ops a.tmps) = true then Oper.wp Tryz.prog o a (wr.alloc (Obj.cells us.toArray eT)) L Q else E := by
  subst hn
  subst hH
  obtain ⟨vs, hown, hvx⟩ := hO.own
  have hbA := bel1 (w := wr) (Obj.cells us.toArray eT)
  have hownA := ownsRow_below hown hbA
  have hnews := World.news_of_block (heap_alloc_new wr (Obj.cells us.toArray eT))
  obtain ⟨i0, hii, hz0, hz1, hz2⟩ := info_parts hI
  have hm : (zs.length + 1) * bytes ≤ 1001 * 1000 := Nat.mul_le_mul (by omega) hby
  refine step_append_lies _ hgd s xo sT ho base eT i0 z K bytes hU hii hz0 hz1 hz2 hz hK v zs.length vs hs hownA ⟨wr.heap.size, 0, none⟩ 1 1 us hx (by rw [hul, Nat.one_mul]) (by simpa using hnews) hu1 (by decide) (by unfold maxLen; omega) (by omega) (by simp; omega) _ rfl ?_
  intro g cap w' h1 h2 h3 _
  refine h g cap w' (ownE_app h1 hown.1 hvx hux) (grownBy_alloc_then h2) ?_
  rcases h3 with h3 | h3
  · exact .inl h3
  · right; rw [h3]; simp

theorem step_app_elD {α : Type} [Inhabited α] {K : Nat} {cells : α → Nat → Value} {ops : Array Oper} {o : Oper} {a : Act} {L : Act → World → Prop} {Q : Exit → Act → World → Prop} {E : Prop} (hgd : o.guard = none) (s xo : Operand) (sT eT : TypeId)
    (ho : o.op = .call { callee := .builtin .append, args := #[s, xo], argTypes := #[sT, sT] }) (hU : Tryz.prog.underlying sT = some (.slice eT)) {z : Value} {bytes : Nat} (hI : (Tryz.prog.info? eT).map (fun i => (i.zero, i.size, i.bytes)) = some (some z, K, bytes)) (hz : z.cells.size = K) (hK : 0 < K) (hby : bytes ≤ 1000)
    {wr : World} {base n : Nat} {v : Value} {zs : List α} (x : α) (us : List Value) (hul : us.length = K) (hux : ∀ q, q < K → us[q]? = some (cells x q)) (hu1 : ∀ u ∈ us, u.oneCell' = true) (hO : OwnE K cells wr base eT v zs) (hn : zs.length = n) (hs : a.eval s = v)
    {H : Nat} (hH : wr.heap.size = H) (hx : a.eval xo = .slice (some ⟨H, 0, none⟩) 1 1) (hb : base ≤ wr.heap.size) (hsm : n ≤ 1000)
    (h : ∀ g cap w', OwnE K cells w' base eT (.slice (some ⟨g, 0, none⟩) (n + 1) cap) (zs ++ [x]) → wr.grownBy w' v.ownBlock → (v.ownBlock = some g ∨ wr.heap.size < g) → L (a.put o.dst (.slice (some ⟨g, 0, none⟩) (n + 1) cap)) w') :
    if Region.wanted o (yielded ops a.tmps) = true then Oper.wp Tryz.prog o a (wr.alloc (Obj.cells us.toArray eT)).drew L Q else E :=
  step_app_elG (wr := wr.drew) hgd s xo sT eT ho hU hI hz hK hby x us hul hux hu1 (hO.below (bel0d 1)) hn hs hH hx hb hsm (fun g cap w' h1 h2 h3 => h g cap w' h1 ⟨h2.os, h2.tape, h2.output, h2.size, h2.block⟩ h3)

theorem wpList_app_elG {α : Type} [Inhabited α] {K : Nat} {cells : α → Nat → Value} {ops : Array Oper} {rest : List Oper} {o : Oper} {a : Act} {Q : Exit → Act → World → Prop} (hgd : o.guard = none) (s xo : Operand) (sT eT : TypeId)
    (ho : o.op = .call { callee := .builtin .append, args := #[s, xo], argTypes := #[sT, sT] }) (hU : Tryz.prog.underlying sT = some (.slice eT)) {z : Value} {bytes : Nat} (hI : (Tryz.prog.info? eT).map (fun i => (i.zero, i.size, i.bytes)) = some (some z, K, bytes)) (hz : z.cells.size = K) (hK : 0 < K) (hby : bytes ≤ 1000)
    {wr : World} {base n : Nat} {v : Value} {zs : List α} (x : α) (us : List Value) (hul : us.length = K) (hux : ∀ q, q < K → us[q]? = some (cells x q)) (hu1 : ∀ u ∈ us, u.oneCell' = true) (hO : OwnE K cells wr base eT v zs) (hn : zs.length = n) (hs : a.eval s = v)
    {H : Nat} (hH : wr.heap.size = H) (hx : a.eval xo = .slice (some ⟨H, 0, none⟩) 1 1) (hb : base ≤ wr.heap.size) (hsm : n ≤ 1000)
    (h : ∀ g cap w', OwnE K cells w' base eT (.slice (some ⟨g, 0, none⟩) (n + 1) cap) (zs ++ [x]) → wr.grownBy w' v.ownBlock → (v.ownBlock = some g ∨ wr.heap.size < g) → wpList Tryz.prog ops Q rest (a.put o.dst (.slice (some ⟨g, 0, none⟩) (n + 1) cap)) w') :
    wpList Tryz.prog ops Q (o :: rest) a (wr.alloc (Obj.cells us.toArray eT)) := by
  subst hn
  subst hH
  obtain ⟨vs, hown, hvx⟩ := hO.own
  have hbA := bel1 (w := wr) (Obj.cells us.toArray eT)
  have hownA := ownsRow_below hown hbA
  have hnews := World.news_of_block (heap_alloc_new wr (Obj.cells us.toArray eT))
  obtain ⟨i0, hii, hz0, hz1, hz2⟩ := info_parts hI
  have hm : (zs.length + 1) * bytes ≤ 1001 * 1000 := Nat.mul_le_mul (by omega) hby
  refine wpList_append_lies _ hgd s xo sT ho base eT i0 z K bytes hU hii hz0 hz1 hz2 hz hK v zs.length vs hs hownA ⟨wr.heap.size, 0, none⟩ 1 1 us hx (by rw [hul, Nat.one_mul]) (by simpa using hnews) hu1 (by decide) (by unfold maxLen; omega) (by omega) (by simp; omega) _ rfl ?_
  intro g cap w' h1 h2 h3 _
  refine h g cap w' (ownE_app h1 hown.1 hvx hux) (grownBy_alloc_then h2) ?_
  rcases h3 with h3 | h3
  · exact .inl h3
  · right; rw [h3]; simp

end Go.Proofs.YtbaocifpifbldawGreat

namespace Go.Proofs.YtbaocifpifbldawGreat
open Go.RowKit

theorem specRulesOk_is {c : Bool} (ad : Option Addr) (len cap : Nat) (rs : List Wr) (w : World) (hr : RowW w ad len rs) (hl : len ≤ 1048576) (hc : wrB rs = c) :
    Calls Tryz.prog 21 #[.slice ad len cap] w fun e w' => e = .returned (.bool c) ∧ Below w.heap.size w w' := by subst hc; exact specRulesOk_any ad len cap rs w hr hl

end Go.Proofs.YtbaocifpifbldawGreat

namespace Go.Proofs.YtbaocifpifbldawGreat
open Go.RowKit

theorem info_txt : (Tryz.prog.info? 9).map (fun i => (i.zero, i.size, i.bytes)) = some (some (.string ⟨#[]⟩), 1, 16) := by kernel_rfl
theorem stE_none {w w1 : World} (h : w.heap.size ≤ w1.heap.size) : OwnE 1 stC (w1.alloc (Obj.cells #[] 9)) w.heap.size 9 (.slice (some ⟨w1.heap.size, 0, none⟩) 0 0) [] := by
  refine ⟨⟨[], ⟨rfl, .inr ⟨_, _, #[], rfl, h, ?_, Nat.le_refl _, by simp [maxLen], rfl, rfl⟩⟩, fun j hj => by simp at hj⟩⟩
  show (w1.heap.push _)[w1.heap.size]? = _
  simp
/-- A list of texts that grows. -/
structure StW (w wr : World) (g n cp : Nat) (out : List ByteArray) : Prop where
  o : OwnE 1 stC wr w.heap.size 9 (.slice (some ⟨g, 0, none⟩) n cp) out
  l : out.length = n
  bel : Below w.heap.size w wr
theorem StW.below {w wr w' : World} {g n cp : Nat} {out : List ByteArray} (k : StW w wr g n cp out) (b : Below wr.heap.size wr w') : StW w w' g n cp out := ⟨k.o.below b, k.l, k.bel.trans (b.mono k.bel.size)⟩
theorem StW.app {w wr w' : World} {g n cp g' cp' : Nat} {out : List ByteArray} {z : ByteArray} (k : StW w wr g n cp out) (o : OwnE 1 stC w' w.heap.size 9 (.slice (some ⟨g', 0, none⟩) (n + 1) cp') (out ++ [z])) (gr : wr.grownBy w' (Value.slice (some ⟨g, 0, none⟩) n cp).ownBlock) : StW w w' g' (n + 1) cp' (out ++ [z]) :=
  ⟨o, by simp [k.l], k.bel.grown gr k.bel.size (fun q hq => (k.o.lies q hq).1)⟩

end Go.Proofs.YtbaocifpifbldawGreat

namespace Go.Proofs.YtbaocifpifbldawGreat
open Go.RowKit

theorem addr_addR (g o j : Nat) : (⟨g, o, none⟩ : Addr).add j = ⟨g, o + j, none⟩ := by unfold Addr.add; split <;> simp_all
section
variable {α : Type} [Inhabited α] {K : Nat} {cells : α → Nat → Value}

/-- The cells of a list. -/
def flatE (K : Nat) (cells : α → Nat → Value) (ps : List α) : List Value := (List.range (ps.length * K)).map fun p => cells (elAt ps (p / K)) (p % K)
theorem flatE_len (ps : List α) : (flatE K cells ps).length = ps.length * K := by simp [flatE]
theorem flatE_at {ps : List α} {p : Nat} (hp : p < ps.length * K) : (flatE K cells ps)[p]? = some (cells (elAt ps (p / K)) (p % K)) := by simp [flatE, hp]
theorem elAt_right (xs ys : List α) (j : Nat) : elAt (xs ++ ys) (xs.length + j) = elAt ys j := by
  unfold elAt; rw [List.getElem?_append_right (by omega)]; congr 2; omega
theorem elAt_left {xs ys : List α} {j : Nat} (h : j < xs.length) : elAt (xs ++ ys) j = elAt xs j := by
  unfold elAt; rw [List.getElem?_append_left h]
theorem ownE_apps {w : World} {base : Nat} {T : TypeId} {v : Value} {xs ys : List α} {vs : List Value} (hK : 0 < K) (h : w.ownsRow base T K v (xs.length + ys.length) (vs ++ flatE K cells ys)) (hl : vs.length = xs.length * K)
    (hx : ∀ j, j < xs.length → ∀ q, q < K → vs[j * K + q]? = some (cells (elAt xs j) q)) : OwnE K cells w base T v (xs ++ ys) := by
  refine ⟨⟨_, by rw [List.length_append]; exact h, fun j hj q hq => ?_⟩⟩
  rw [List.length_append] at hj
  by_cases e : j < xs.length
  · rw [elAt_left e, List.getElem?_append_left (by rw [hl]; exact in_row e hq)]
    exact hx j e q hq
  · obtain ⟨i, rfl⟩ : ∃ i, j = xs.length + i := ⟨j - xs.length, by omega⟩
    have hi : i < ys.length := by omega
    have e1 : (xs.length + i) * K + q = vs.length + (i * K + q) := by rw [hl, Nat.add_mul]; omega
    rw [e1, List.getElem?_append_right (by omega), elAt_right, show vs.length + (i * K + q) - vs.length = i * K + q by omega, flatE_at (in_row hi hq)]
    have e2 : (i * K + q) / K = i := by rw [Nat.add_comm, Nat.add_mul_div_right _ _ hK, Nat.div_eq_of_lt hq, Nat.zero_add]
    have e3 : (i * K + q) % K = q := by rw [Nat.add_comm, Nat.add_mul_mod_self_right, Nat.mod_eq_of_lt hq]
    rw [e2, e3]
theorem wpList_app_els {ops : Array Oper} {rest : List Oper} {o : Oper} {a : Act} {Q : Exit → Act → World → Prop} {w : World} (hwn : Region.wanted o (yielded ops a.tmps) = true) (s xo : Operand) (sT eT : TypeId) (ho : o.op = .call { callee := .builtin .append, args := #[s, xo], argTypes := #[sT, sT] })
    (hU : Tryz.prog.underlying sT = some (.slice eT)) {z : Value} {bytes : Nat} (hI : (Tryz.prog.info? eT).map (fun i => (i.zero, i.size, i.bytes)) = some (some z, K, bytes)) (hz : z.cells.size = K) (hK : 0 < K) (hby : bytes ≤ 1000) (h1c : ∀ x q, (cells x q).oneCell' = true)
    {base : Nat} {v : Value} {zs : List α} (hO : OwnE K cells w base eT v zs) (hs : a.eval s = v) (g off m c : Nat) (ys : List α) (hx : a.eval xo = .slice (some ⟨g, off, none⟩) m c) (hy : RowE K cells w (some ⟨g, off, none⟩) m ys) (hm : zs.length + m ≤ 1000) (hb : base ≤ w.heap.size)
    (h : ∀ v' w', OwnE K cells w' base eT v' (zs ++ ys) → w.grownBy w' v.ownBlock → (v' = .slice none 0 0 → v = .slice none 0 0) → wpList Tryz.prog ops Q rest (a.put o.dst v') w') : wpList Tryz.prog ops Q (o :: rest) a w := by
  refine wpList_step fun _ hK' => ?_
  rw [if_pos hwn]
  obtain ⟨i0, hii, hz0, hz1, hz2⟩ := info_parts hI
  obtain ⟨vs, hown, hvx⟩ := hO.own
  have hlen := hy.len_eq
  have hmul : (zs.length + m) * bytes ≤ 1000 * 1000 := Nat.mul_le_mul hm hby
  refine wp_append_own w s xo sT ho base eT i0 z K bytes hU hii hz0 hz1 hz2 hz hK v zs.length vs hs hown ⟨g, off, none⟩ m c (flatE K cells ys) hx (by rw [flatE_len, hlen]) (fun j u hj => ?_) (fun u hu => ?_) (by unfold maxLen; omega) (by omega) hb ?_
  · have hj' : j < ys.length * K := by
      rcases Nat.lt_or_ge j (ys.length * K) with h | h
      · exact h
      · rw [List.getElem?_eq_none (by rw [flatE_len]; exact h)] at hj; cases hj
    rw [flatE_at hj'] at hj
    have hd : j / K < m := by rw [← hlen]; exact Nat.div_lt_of_lt_mul (by rw [Nat.mul_comm]; exact hj')
    obtain ⟨b', off', e, hc⟩ := hy.at_ (j / K) hd
    simp only [Option.some.injEq, Addr.mk.injEq, and_true] at e
    obtain ⟨rfl, rfl⟩ := e
    have e : off + j = off + j / K * K + j % K := by rw [Nat.add_assoc, Nat.div_add_mod']
    rw [addr_addR, e, ← hj]; exact hc (j % K) (Nat.mod_lt _ hK)
  · obtain ⟨p, _, rfl⟩ := List.mem_map.1 hu; exact h1c _ _
  · intro v' w' h1 h2 h3
    exact hK' _ _ (h v' w' (ownE_apps hK (by rw [hlen]; exact h1) hown.1 hvx) h2 (fun e => (h3.1 e).1))
theorem ownE_one {w : World} {base : Nat} {T : TypeId} {x : α} (us : List Value) (hul : us.length = K) (hux : ∀ q, q < K → us[q]? = some (cells x q)) (h : base ≤ w.heap.size) : OwnE K cells (w.alloc (Obj.cells us.toArray T)) base T (.slice (some ⟨w.heap.size, 0, none⟩) 1 1) [x] := by
  refine ⟨⟨us, ?_, fun j hj q hq => ?_⟩⟩
  · have := World.ownsRow_lit (base := base) (e := T) (size := K) w us.toArray 1 h (by unfold maxLen; omega) (by simp [hul])
    simpa using this
  · obtain rfl : j = 0 := by simp at hj; omega
    rw [Nat.zero_mul, Nat.zero_add]; exact hux q hq

end

end Go.Proofs.YtbaocifpifbldawGreat

namespace Go.Proofs.YtbaocifpifbldawGreat
open Go.RowKit

theorem info_tx3 : (Tryz.prog.info? 9).map (fun i => (i.zero, i.size, i.bytes)) = some (some (.string ⟨#[]⟩), 1, 16) := by kernel_rfl
theorem src_none {tx e' : TypeId} (hk : Tryz.prog.underlying tx = some (.slice e')) (xa : Option Addr) (c : Nat) (w : World) : Src Tryz.prog 1 tx (.slice xa 0 c) 0 [] w := by
  refine ⟨.inl ⟨e', hk⟩, fun w' => ?_, ?_, ?_, rfl, fun u hu => by cases hu⟩
  · simp [Builtin.lenOf]
  · cases xa <;> simp [Builtin.firstCells, loadCells, loadCellsFrom]
  · cases xa <;> simp [Builtin.firstCells, loadCells, loadCellsFrom]
theorem wpList_app_st {ops : Array Oper} {rest : List Oper} {o : Oper} {a : Act} {Q : Exit → Act → World → Prop} {w : World} (hgd : o.guard = none) (s xo : Operand) (ho : o.op = .call { callee := .builtin .append, args := #[s, xo], argTypes := #[23, 23] })
    {base g0 n c0 : Nat} {zs : List ByteArray} (hO : OwnE 1 stC w base 9 (.slice (some ⟨g0, 0, none⟩) n c0) zs) (hn : zs.length = n) (hs : a.eval s = .slice (some ⟨g0, 0, none⟩) n c0) (xa : Option Addr) (m c : Nat) (ys : List ByteArray) (hx : a.eval xo = .slice xa m c) (hy : RowE 1 stC w xa m ys) (hm : n + m ≤ 4194304) (hb : base ≤ w.heap.size)
    (h : ∀ g cap w', OwnE 1 stC w' base 9 (.slice (some ⟨g, 0, none⟩) (n + m) cap) (zs ++ ys) → w.grownBy w' (some g0) → (g = g0 ∨ g = w.heap.size) → wpList Tryz.prog ops Q rest (a.put o.dst (.slice (some ⟨g, 0, none⟩) (n + m) cap)) w') : wpList Tryz.prog ops Q (o :: rest) a w := by
  obtain ⟨i0, hii, hz0, hz1, hz2⟩ := info_parts info_tx3
  have hlen := hy.len_eq
  by_cases h0 : m = 0
  · subst h0
    obtain rfl : ys = [] := List.length_eq_zero_iff.1 hlen
    have hcap : n ≤ c0 := by
      obtain ⟨a', cap', e, hle, _⟩ := hO.slice
      cases e
      rw [hn] at hle
      exact hle
    have hr := fun ty => run_append_nothing (P := Tryz.prog) w 23 23 ty 9 i0 Tryz.underlying23 hii (some ⟨g0, 0, none⟩) n c0 hcap (.slice xa 0 c) (by rw [hz1]; exact src_none Tryz.underlying23 xa c w)
    refine wpList_plain hgd fun K hK => ?_
    unfold Oper.wp execOp
    simp only [ho, resolve, invoke, builtin, Sem.run_bind, Sem.run_pure, Result.andThen_ok, List.map_toArray, List.map_cons, List.map_nil, hs, hx, hr]
    have := h g0 c0 w (by rw [List.append_nil]; exact hO) ⟨rfl, rfl, rfl, Nat.le_refl _, fun _ _ _ => rfl⟩ (.inl rfl)
    exact hK _ _ this
  · obtain ⟨bb, off, rfl, _⟩ := hy.at_ 0 (by omega)
    obtain ⟨vs, hown, hvx⟩ := hO.own
    rw [hn] at hown
    refine wpList_append_lies _ hgd s xo 23 ho base 9 i0 (.string ⟨#[]⟩) 1 16 Tryz.underlying23 hii hz0 hz1 hz2 rfl (by decide) _ n vs hs hown ⟨bb, off, none⟩ m c (flatE 1 stC ys) hx (by rw [flatE_len, hlen]) (fun j u hj => ?_) (fun u hu => ?_) (by omega) (by unfold maxLen; omega) (by omega) hb _ rfl ?_
    · have hj' : j < ys.length * 1 := by
        rcases Nat.lt_or_ge j (ys.length * 1) with h | h
        · exact h
        · rw [List.getElem?_eq_none (by rw [flatE_len]; exact h)] at hj; cases hj
      rw [flatE_at hj'] at hj
      obtain ⟨b', off', e, hc⟩ := hy.at_ j (by omega)
      simp only [Option.some.injEq, Addr.mk.injEq, and_true] at e
      obtain ⟨rfl, rfl⟩ := e
      have := hc 0 (by omega)
      rw [addr_addR, ← hj, Nat.mod_one, Nat.div_one]
      simpa using this
    · obtain ⟨p, _, rfl⟩ := List.mem_map.1 hu; rfl
    · intro g cap w' h1 h2 h3 _
      have hown1 := hown.1
      refine h g cap w' ?_ h2 ?_
      · have hrow := ownE_apps (xs := zs) (ys := ys) (vs := vs) (v := .slice (some ⟨g, 0, none⟩) (n + m) cap) (w := w') (base := base) (T := 9) (K := 1) (cells := stC) (by decide) (by rw [hn, hlen]; exact h1) (by rw [hn]; exact hown1) hvx
        exact hrow
      · rcases h3 with h3 | h3
        · left; simpa [Value.ownBlock] using h3.symm
        · exact .inr h3

end Go.Proofs.YtbaocifpifbldawGreat

namespace Go.Proofs.YtbaocifpifbldawGreat
open Go.RowKit

theorem results_cellBB {fn : Func} {p q r : Tmp} {t : TypeId} {tmps : Array Value} {w : World} {B : Nat} {vs : List Value} {x y : Value} (h : fn.results = #[.cell p t, .tmp q, .tmp r]) (hA : ∀ w, (isAgg t).run Tryz.prog w = .ok true w) (hZ : ∀ w, (Go.sizeOf t).run Tryz.prog w = .ok vs.length w)
    (hp : tmps.getD p undef = .pointer (some ⟨B, 0, none⟩)) (hb : Blk w B vs) (hq : tmps.getD q undef = x) (hr : tmps.getD r undef = y) : (results fn tmps).run Tryz.prog w = .ok (.tuple #[.agg vs.toArray, x, y]) w := by
  have hl := run_loadVar hA hZ hb
  have hp' : tmps[p]?.getD undef = .pointer (some ⟨B, 0, none⟩) := by simpa using hp
  have hq' : tmps[q]?.getD undef = x := by simpa using hq
  have hr' : tmps[r]?.getD undef = y := by simpa using hr
  simp only [results, h]
  simp [hp', hq', hr', asAddr, hl]

end Go.Proofs.YtbaocifpifbldawGreat

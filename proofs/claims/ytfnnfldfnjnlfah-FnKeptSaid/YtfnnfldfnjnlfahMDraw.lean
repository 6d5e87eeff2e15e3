/-
  The drawing cursor at hand: it lies in one block, the bytes elsewhere, and nothing that was there has turned. What the drawing functions answer, so said. No condition.
  One whole number more behind a list that a call has made, as a law for the walk. At lists of at most 1000000.
  One element more behind a list that a call has made, as laws for the walk, in the order of the text and in a region that draws its order: elements of several cells. At lists of at most 1000.
  A list of lists of whole numbers that a call has made, each list in memory of its own; the law's size (with the total of the lengths), copy and marks of it. At lengths of at most 1048576.
  Lists of rows of whole numbers, each in memory of its own, that a call has made; one row more; the law's comparison. No condition.
  A list of rows that grows, each row made behind those that are there. No condition.
  A loop that puts one whole number after the other behind a list of its own, with variables in blocks of their own ahead of it: what stays. No condition.
  A list of whole numbers that make has made, as an equation for the walk, and as it reads. At lists of at most 1048576.
-/
import Derived.Test.YtfnnfldfnjnlfahMKeeps
import Derived.Deep.AppendLies
import Derived.Test.YtfnnfldfnjnlfahRowE
import Derived.Test.YtfnnfldfnjnlfahMMakeS
import Derived.Test.YtfnnfldfnjnlfahMOwnI
import Derived.Test.YtfnnfldfnjnlfahMRowS
import Derived.Test.YtfnnfldfnjnlfahMCkPure
import Derived.Laws.MakeOwn
import Derived.Laws.OwnMore

namespace Go.Proofs.Ytfnnfldfnjnlfah
open Go.RowKit

structure Dr (w : World) (C : Nat) (a : Option Addr) (len cap : Nat) (W : World) : Prop where
  cur : Cur W C a len cap
  byt : Bytes W a len
  bel : Below w.heap.size w W
  ne : ∀ b off, a = some ⟨b, off, none⟩ → b ≠ C
  ge : w.heap.size ≤ C
  lt : C < W.heap.size
theorem Dr.below {w : World} {C : Nat} {a : Option Addr} {len cap : Nat} {W W' : World} (h : Dr w C a len cap W) (b : Below W.heap.size W W') : Dr w C a len cap W' :=
  ⟨h.cur.below b, h.byt.below b, h.bel.trans (b.mono h.bel.size), h.ne, h.ge, Nat.lt_of_lt_of_le h.lt b.size⟩
theorem Dr.step {w : World} {C : Nat} {a : Option Addr} {len cap : Nat} {W W' : World} (h : Dr w C a len cap W) (c : Cur W' C a len cap) (g : W.grownBy W' (some C)) : Dr w C a len cap W' :=
  ⟨c, h.byt.far g (fun b off e => by have := h.ne b off e; simp [this]), h.bel.grown g h.bel.size (fun k hk => by cases hk; exact h.ge), h.ne, h.ge, Nat.lt_of_lt_of_le h.lt g.size⟩
/-- A list that grows behind the cursor's block: what is appended leaves the cursor. -/
theorem Dr.own {w : World} {C : Nat} {a : Option Addr} {len cap : Nat} {W W' : World} {row : Option Nat} (h : Dr w C a len cap W) (g : W.grownBy W' row) (hr : ∀ k, row = some k → C < k) (hin : ∀ b off, a = some ⟨b, off, none⟩ → b < w.heap.size) : Dr w C a len cap W' := by
  have ge := h.ge
  refine ⟨h.cur.far g (fun e => ?_), h.byt.far g (fun b off e e2 => ?_), h.bel.grown g h.bel.size (fun k hk => ?_), h.ne, h.ge, Nat.lt_of_lt_of_le h.lt g.size⟩
  · have := hr C e.symm; omega
  · have h1 := hr b e2.symm; have h2 := hin b off e; omega
  · have := hr k hk; omega
theorem drNew (a : Option Addr) (len cap : Nat) (w : World) (hb : Bytes w a len) (hin : ∀ b off, a = some ⟨b, off, none⟩ → b < w.heap.size) :
    Calls Try.prog 26 #[.slice a len cap] w fun e w' => e = .returned (.pointer (some ⟨w.heap.size, 0, none⟩)) ∧ Dr w w.heap.size a len cap w' ∧ Below w.heap.size w w' := by
  refine (l1New_any a len cap w hb).mono ?_
  rintro x w' ⟨rfl, hc, b⟩
  exact ⟨rfl, ⟨hc, hb.below b, b, fun b' off e => by have := hin b' off e; omega, Nat.le_refl _, hc.lt⟩, b⟩
theorem drBelow {w : World} {C : Nat} {a : Option Addr} {len cap : Nat} (n : Int) (W : World) (h : Dr w C a len cap W) (hn : 1 ≤ n ∧ n ≤ 1000000) :
    Calls Try.prog 31 #[.pointer (some ⟨C, 0, none⟩), .int .i64 n] W fun e w' => ∃ x : Int, e = .returned (.int .i64 x) ∧ (0 ≤ x ∧ x < n) ∧ Dr w C a len cap w' ∧ W.grownBy w' (some C) := by
  refine (l1Below_any C a len cap n W h.cur h.byt h.ne hn).mono ?_
  rintro e w' ⟨x, rfl, hx, hc, g⟩
  exact ⟨x, rfl, hx, h.step hc g, g⟩
theorem drOnce {w : World} {C : Nat} {a : Option Addr} {len cap : Nat} (n : Int) (W : World) (h : Dr w C a len cap W) (hn : 1 ≤ n ∧ n ≤ 1000000) :
    Calls Try.prog 56 #[.pointer (some ⟨C, 0, none⟩), .int .i64 n] W fun e w' => ∃ x : Bool, e = .returned (.bool x) ∧ Dr w C a len cap w' ∧ W.grownBy w' (some C) := by
  refine (l1Once_any C a len cap n W h.cur h.byt h.ne hn).mono ?_
  rintro e w' ⟨x, rfl, hc, g⟩
  exact ⟨x, rfl, h.step hc g, g⟩
theorem drPickInt {w : World} {C : Nat} {a : Option Addr} {len cap : Nat} (g n c : Nat) (zs : List Int) (W : World) (h : Dr w C a len cap W) (hr : Row W (some ⟨g, 0, none⟩) n zs) (hg : g ≠ C) (hn : 1 ≤ n ∧ n ≤ 100) :
    Calls Try.prog 57 #[.pointer (some ⟨C, 0, none⟩), .slice (some ⟨g, 0, none⟩) n c] W fun e w' => ∃ i : Nat, i < n ∧ e = .returned (.int .i64 (nth zs i)) ∧ Dr w C a len cap w' ∧ W.grownBy w' (some C) := by
  refine (l1PickInt_any C a len cap g n c zs W h.cur h.byt h.ne hr hg hn).mono ?_
  rintro e w' ⟨i, hi, rfl, hc, gr⟩
  exact ⟨i, hi, rfl, h.step hc gr, gr⟩
set_option maxHeartbeats 400000 in
theorem l1Size_any (a : Option Addr) (len cap : Nat) (most : Int) (w : World) (hl : len ≤ 1048576) (hm : 2 ≤ most) :
    Calls Try.prog 55 #[.slice a len cap, .int .i64 most] w fun e w' => ∃ x : Int, e = .returned (.int .i64 x) ∧ (2 ≤ x ∧ x ≤ most) ∧ w' = w := by
  have h0 : (0 : Int) ≤ (len : Int) := by omega
  have h1 : (len : Int) / 20 ≤ 60000 := by omega
  have h2 : (0 : Int) ≤ (len : Int) / 20 := by omega
  by_cases h : most < 2 + (len : Int) / 20
  all_goals
    go_enter Try.func55, Try.ntmps55
    go_wp2
    go_ret
    exact ⟨_, rfl, by omega, rfl⟩

end Go.Proofs.Ytfnnfldfnjnlfah

namespace Go.Proofs.Ytfnnfldfnjnlfah
open Go.RowKit

theorem grownBy_alloc_then {w w' : World} {o : Obj} {row : Option Nat} (h : (w.alloc o).grownBy w' row) : w.grownBy w' row :=
  ⟨h.os, h.tape, h.output, Nat.le_trans (by simp) h.size, fun k hk hne => (h.block k (Nat.lt_of_lt_of_le hk (by simp)) hne).trans (Below.heap_alloc _ _ _ hk)⟩
theorem wpList_app_int {ops : Array Oper} {rest : List Oper} {o : Oper} {a : Act} {Q : Exit → Act → World → Prop} (hgd : o.guard = none) (s xo : Operand)
    (ho : o.op = .call { callee := .builtin .append, args := #[s, xo], argTypes := #[26, 26] }) {wr : World} {base n : Nat} {v : Value} {zs : List Int} (x : Int) (hO : OwnI wr base v zs) (hn : zs.length = n) (hs : a.eval s = v)
    {H : Nat} (hH : wr.heap.size = H) (hx : a.eval xo = .slice (some ⟨H, 0, none⟩) 1 1) (hb : base ≤ wr.heap.size) (hsm : n ≤ 1000000) (hf : -9223372036854775808 ≤ x ∧ x ≤ 9223372036854775807)
    (h : ∀ g cap w', OwnI w' base (.slice (some ⟨g, 0, none⟩) (n + 1) cap) (zs ++ [x]) → wr.grownBy w' v.ownBlock → wpList Try.prog ops Q rest (a.put o.dst (.slice (some ⟨g, 0, none⟩) (n + 1) cap)) w') :
    wpList Try.prog ops Q (o :: rest) a (wr.alloc (Obj.cells #[.int .i64 x] 3)) := by
  subst hn
  subst hH
  obtain ⟨vs, hown, hvx⟩ := hO.own
  have hbA := bel1 (w := wr) (Obj.cells #[.int .i64 x] 3)
  have hownA := ownsRow_below hown hbA
  have hnews := World.news_of_block (heap_alloc_new wr (Obj.cells #[.int .i64 x] 3))
  obtain ⟨i0, hii, hz0, hz1, hz2⟩ := info_parts info_int1
  refine wpList_append_lies _ hgd s xo 26 ho base 3 i0 (.int .i64 0) 1 8 Try.underlying26 hii hz0 hz1 hz2 rfl (by decide) v zs.length vs hs hownA ⟨wr.heap.size, 0, none⟩ 1 1 [.int .i64 x] hx rfl hnews (by simp [Value.oneCell']) (by decide) (by unfold maxLen; omega) (by omega) (by simp; omega) _ rfl ?_
  intro g cap w' h1 h2 _ _
  exact h g cap w' (ownI_app h1 hown.1 hvx hO.fit hf) (grownBy_alloc_then h2)

end Go.Proofs.Ytfnnfldfnjnlfah

namespace Go.Proofs.Ytfnnfldfnjnlfah
open Go.RowKit

theorem step_app_elG {α : Type} [Inhabited α] {K : Nat} {cells : α → Nat → Value} {ops : Array Oper} {o : Oper} {a : Act} {L : Act → World → Prop} {Q : Exit → Act → World → Prop} {E : Prop} (hgd : o.guard = none) (s xo : Operand) (sT eT : TypeId)
    (ho : o.op = .call { callee := .builtin .append, args := #[s, xo], argTypes := #[sT, sT] }) (hU : Try.prog.underlying sT = some (.slice eT)) {z : Value} {bytes : Nat} (hI : (Try.prog.info? eT).map (fun i => (i.zero, i.size, i.bytes)) = some (some z, K, bytes)) (hz : z.cells.size = K) (hK : 0 < K) (hby : bytes ≤ 1000)
    {wr : World} {base n : Nat} {v : Value} {zs : List α} (x : α) (us : List Value) (hul : us.length = K) (hux : ∀ q, q < K → us[q]? = some (cells x q)) (hu1 : ∀ u ∈ us, u.oneCell' = true) (hO : OwnE K cells wr base eT v zs) (hn : zs.length = n) (hs : a.eval s = v)
    {H : Nat} (hH : wr.heap.size = H) (hx : a.eval xo = .slice (some ⟨H, 0, none⟩) 1 1) (hb : base ≤ wr.heap.size) (hsm : n ≤ 1000)
    (h : ∀ g cap w', OwnE K cells w' base eT (.slice (some ⟨g, 0, none⟩) (n + 1) cap) (zs ++ [x]) → wr.grownBy w' v.ownBlock → (v.ownBlock = some g ∨ wr.heap.size < g) → L (a.put o.dst (.slice (some ⟨g, 0, none⟩) (n + 1) cap)) w') :
    if Region.wanted o (yielded ops a.tmps) = true then Oper.wp Try.prog o a (wr.alloc (Obj.cells us.toArray eT)) L Q else E := by
  subst hn
  subst hH
  obtain ⟨vs, hown, hvx⟩ := hO.own
  have hbA := bel1 (w := wr) (Obj.cells us.toArray eT)
  have hownA := ownsRow_below hown hbA
  have hnews := World.news_of_block (heap_alloc_new wr (Obj.cells us.toArray eT))
  obtain ⟨i0, hii, hz0, hz1, hz2⟩ := info_parts hI
  have hm : (zs.length + 1) * bytes ≤ 1001 * 1000 := Nat.mul_le_mul (by omega) hby
  refine step_append_lies _ hgd s xo sT ho base eT i0 z K bytes hU hii hz0 hz1 hz2 hz hK v zs.length vs hs hownA ⟨wr.heap.size, 0, none⟩ 1 1 us hx (by rw [hul, Nat.one_mul]) (by simpa using hnews) hu1 (by decide) (by unfold maxLen; omega) (by omega) (by simp; omega) _ rfl ?_
  intro g cap w' h1 h2 h3 _
  refine h g cap w' (ownE_app h1 hown.1 hvx hux) (grownBy_alloc_then h2) ?_
  rcases h3 with h3 | h3
  · exact .inl h3
  · right; rw [h3]; simp

theorem step_app_elD {α : Type} [Inhabited α] {K : Nat} {cells : α → Nat → Value} {ops : Array Oper} {o : Oper} {a : Act} {L : Act → World → Prop} {Q : Exit → Act → World → Prop} {E : Prop} (hgd : o.guard = none) (s xo : Operand) (sT eT : TypeId)
    (ho : o.op = .call { callee := .builtin .append, args := #[s, xo], argTypes := #[sT, sT] }) (hU : Try.prog.underlying sT = some (.slice eT)) {z : Value} {bytes : Nat} (hI : (Try.prog.info? eT).map (fun i => (i.zero, i.size, i.bytes)) = some (some z, K, bytes)) (hz : z.cells.size = K) (hK : 0 < K) (hby : bytes ≤ 1000)
    {wr : World} {base n : Nat} {v : Value} {zs : List α} (x : α) (us : List Value) (hul : us.length = K) (hux : ∀ q, q < K → us[q]? = some (cells x q)) (hu1 : ∀ u ∈ us, u.oneCell' = true) (hO : OwnE K cells wr base eT v zs) (hn : zs.length = n) (hs : a.eval s = v)
    {H : Nat} (hH : wr.heap.size = H) (hx : a.eval xo = .slice (some ⟨H, 0, none⟩) 1 1) (hb : base ≤ wr.heap.size) (hsm : n ≤ 1000)
    (h : ∀ g cap w', OwnE K cells w' base eT (.slice (some ⟨g, 0, none⟩) (n + 1) cap) (zs ++ [x]) → wr.grownBy w' v.ownBlock → (v.ownBlock = some g ∨ wr.heap.size < g) → L (a.put o.dst (.slice (some ⟨g, 0, none⟩) (n + 1) cap)) w') :
    if Region.wanted o (yielded ops a.tmps) = true then Oper.wp Try.prog o a (wr.alloc (Obj.cells us.toArray eT)).drew L Q else E :=
  step_app_elG (wr := wr.drew) hgd s xo sT eT ho hU hI hz hK hby x us hul hux hu1 (hO.below (bel0d 1)) hn hs hH hx hb hsm (fun g cap w' h1 h2 h3 => h g cap w' h1 ⟨h2.os, h2.tape, h2.output, h2.size, h2.block⟩ h3)

theorem wpList_app_elG {α : Type} [Inhabited α] {K : Nat} {cells : α → Nat → Value} {ops : Array Oper} {rest : List Oper} {o : Oper} {a : Act} {Q : Exit → Act → World → Prop} (hgd : o.guard = none) (s xo : Operand) (sT eT : TypeId)
    (ho : o.op = .call { callee := .builtin .append, args := #[s, xo], argTypes := #[sT, sT] }) (hU : Try.prog.underlying sT = some (.slice eT)) {z : Value} {bytes : Nat} (hI : (Try.prog.info? eT).map (fun i => (i.zero, i.size, i.bytes)) = some (some z, K, bytes)) (hz : z.cells.size = K) (hK : 0 < K) (hby : bytes ≤ 1000)
    {wr : World} {base n : Nat} {v : Value} {zs : List α} (x : α) (us : List Value) (hul : us.length = K) (hux : ∀ q, q < K → us[q]? = some (cells x q)) (hu1 : ∀ u ∈ us, u.oneCell' = true) (hO : OwnE K cells wr base eT v zs) (hn : zs.length = n) (hs : a.eval s = v)
    {H : Nat} (hH : wr.heap.size = H) (hx : a.eval xo = .slice (some ⟨H, 0, none⟩) 1 1) (hb : base ≤ wr.heap.size) (hsm : n ≤ 1000)
    (h : ∀ g cap w', OwnE K cells w' base eT (.slice (some ⟨g, 0, none⟩) (n + 1) cap) (zs ++ [x]) → wr.grownBy w' v.ownBlock → (v.ownBlock = some g ∨ wr.heap.size < g) → wpList Try.prog ops Q rest (a.put o.dst (.slice (some ⟨g, 0, none⟩) (n + 1) cap)) w') :
    wpList Try.prog ops Q (o :: rest) a (wr.alloc (Obj.cells us.toArray eT)) := by
  subst hn
  subst hH
  obtain ⟨vs, hown, hvx⟩ := hO.own
  have hbA := bel1 (w := wr) (Obj.cells us.toArray eT)
  have hownA := ownsRow_below hown hbA
  have hnews := World.news_of_block (heap_alloc_new wr (Obj.cells us.toArray eT))
  obtain ⟨i0, hii, hz0, hz1, hz2⟩ := info_parts hI
  have hm : (zs.length + 1) * bytes ≤ 1001 * 1000 := Nat.mul_le_mul (by omega) hby
  refine wpList_append_lies _ hgd s xo sT ho base eT i0 z K bytes hU hii hz0 hz1 hz2 hz hK v zs.length vs hs hownA ⟨wr.heap.size, 0, none⟩ 1 1 us hx (by rw [hul, Nat.one_mul]) (by simpa using hnews) hu1 (by decide) (by unfold maxLen; omega) (by omega) (by simp; omega) _ rfl ?_
  intro g cap w' h1 h2 h3 _
  refine h g cap w' (ownE_app h1 hown.1 hvx hux) (grownBy_alloc_then h2) ?_
  rcases h3 with h3 | h3
  · exact .inl h3
  · right; rw [h3]; simp

end Go.Proofs.Ytfnnfldfnjnlfah

namespace Go.Proofs.Ytfnnfldfnjnlfah
open Go.RowKit

/-- The first k lengths together. -/
def totTo (zss : List (List Int)) : Nat → Nat
  | 0 => 0
  | k + 1 => totTo zss k + (nthS zss k).length

/-- Each list in a block of its own, the blocks rising. -/
structure OwnSS (w : World) (B hi len : Nat) (zss : List (List Int)) : Prop where
  len_eq : zss.length = len
  small : len ≤ 1048576
  lt : B < w.heap.size
  own : ∃ G : Nat → Nat, (∀ i, i < len → w.cell? ⟨B, i, none⟩ = some (.slice (some ⟨G i, 0, none⟩) (nthS zss i).length (nthS zss i).length) ∧ OwnI w (B + 1) (.slice (some ⟨G i, 0, none⟩) (nthS zss i).length (nthS zss i).length) (nthS zss i)) ∧ (∀ i j, i < j → j < len → G i < G j) ∧ ∀ i, i < len → G i < hi
theorem OwnSS.below {w w' : World} {B hi len : Nat} {zss : List (List Int)} (h : OwnSS w B hi len zss) (k : Below w.heap.size w w') : OwnSS w' B hi len zss := by
  obtain ⟨G, h1, h2⟩ := h.own
  exact ⟨h.len_eq, h.small, Nat.lt_of_lt_of_le h.lt k.size, G, fun i hi => ⟨(k.cell (p := ⟨B, i, none⟩) h.lt).trans (h1 i hi).1, (h1 i hi).2.below k⟩, h2⟩
theorem OwnSS.row {w : World} {B hi len : Nat} {zss : List (List Int)} (h : OwnSS w B hi len zss) : RowS w (some ⟨B, 0, none⟩) len zss := by
  obtain ⟨G, h1, h2⟩ := h.own
  refine ⟨h.len_eq, by have := h.small; omega, fun i hi => ⟨B, 0, _, _, _, rfl, by rw [Nat.zero_add]; exact (h1 i hi).1, (h1 i hi).2.row, Nat.le_refl _⟩⟩

structure CopiedO (w wr : World) (B : Nat) (zss : List (List Int)) (k : Nat) : Prop where
  own : ∃ (xs : List Value) (G : Nat → Nat), wr.ownsRow B 26 1 (.slice (some ⟨B, 0, none⟩) zss.length zss.length) zss.length xs ∧ (∀ j, j < k → xs[j]? = some (.slice (some ⟨G j, 0, none⟩) (nthS zss j).length (nthS zss j).length) ∧ OwnI wr (B + 1) (.slice (some ⟨G j, 0, none⟩) (nthS zss j).length (nthS zss j).length) (nthS zss j)) ∧ ∀ i j, i < j → j < k → G i < G j
  bel : Below w.heap.size w wr
  here : B < wr.heap.size
  old : w.heap.size ≤ B
theorem CopiedO.here_ {w wr : World} {B : Nat} {zss : List (List Int)} {k : Nat} (h : CopiedO w wr B zss k) (hk : k < zss.length) :
    (∃ v, wr.cell? ⟨B, k, none⟩ = some v) ∧ wr.frozen? ⟨B, k, none⟩ = false := by
  obtain ⟨xs, G, ho, _⟩ := h.own
  refine ⟨?_, ho.frozenAt k⟩
  rw [ho.cellAt k (by omega)]
  have := ho.1
  exact ⟨xs[k]'(by omega), List.getElem?_eq_getElem (by omega)⟩
theorem CopiedO.call {w wr w' : World} {B : Nat} {zss : List (List Int)} {k : Nat} (h : CopiedO w wr B zss k) (b : Below wr.heap.size wr w') : CopiedO w w' B zss k := by
  obtain ⟨xs, G, ho, hx, hg⟩ := h.own
  exact ⟨⟨xs, G, ownsRow_below ho b, fun j hj => ⟨(hx j hj).1, (hx j hj).2.below b⟩, hg⟩, h.bel.trans (b.mono h.bel.size), Nat.lt_of_lt_of_le h.here b.size, h.old⟩
theorem CopiedO.step {w wr w2 : World} {B : Nat} {zss : List (List Int)} {k : Nat} (h : CopiedO w wr B zss k) (b : Below wr.heap.size wr w2) (hk : k < zss.length) (ho2 : OwnI w2 wr.heap.size (.slice (some ⟨wr.heap.size, 0, none⟩) (nthS zss k).length (nthS zss k).length) (nthS zss k)) :
    CopiedO w (w2.setCell ⟨B, k, none⟩ (.slice (some ⟨wr.heap.size, 0, none⟩) (nthS zss k).length (nthS zss k).length)) B zss (k + 1) := by
  have hB := h.here
  obtain ⟨_, G0, _, hx0, _⟩ := h.own
  have h2 := h.call b
  obtain ⟨xs, G, ho, hx, hg⟩ := h.own
  have hoB := ownsRow_below ho b
  have hl := ho.1
  refine ⟨⟨_, fun j => if j = k then wr.heap.size else G j, (hoB.stored k _).1, fun j hj => ?_, fun i j hij hj => ?_⟩, h2.bel.setCell h.old _, by have := h2.here; simpa [World.setCell] using this, h.old⟩
  · by_cases e : j = k
    · subst e
      simp only [if_true]
      exact ⟨by rw [List.getElem?_set_self (by omega)], (ho2.mono (by omega)).set_other _ (by simp [Value.ownBlock]; omega)⟩
    · simp only [e, if_false]
      have hj' : j < k := by omega
      have l := (hx j hj').2.lies (G j) rfl
      exact ⟨by rw [List.getElem?_set_ne (by omega)]; exact (hx j hj').1, ((hx j hj').2.below b).set_other _ (by simp [Value.ownBlock]; omega)⟩
  · have hi : ¬ i = k := by omega
    simp only [hi, if_false]
    by_cases e : j = k
    · simp only [e, if_true]
      exact ((hx i (by omega)).2.lies (G i) rfl).2
    · simp only [e, if_false]
      exact hg i j hij (by omega)
theorem CopiedO.done {w wr : World} {B : Nat} {zss : List (List Int)} (h : CopiedO w wr B zss zss.length) (hs : zss.length ≤ 1048576) : OwnSS wr B wr.heap.size zss.length zss := by
  obtain ⟨xs, G, ho, hx, hg⟩ := h.own
  refine ⟨rfl, hs, h.here, G, fun i hi => ⟨?_, (hx i hi).2⟩, hg, fun i hi => ((hx i hi).2.lies _ rfl).2⟩
  rw [ho.cellAt i (by omega), (hx i hi).1]

/-- Some lists of the same lengths, in the same blocks. -/
structure SomeSS (w wr : World) (B hi len : Nat) (G : Nat → Nat) (zss : List (List Int)) : Prop where
  c : ∀ i, i < len → wr.cell? ⟨B, i, none⟩ = some (.slice (some ⟨G i, 0, none⟩) (nthS zss i).length (nthS zss i).length)
  o : ∀ i, i < len → ∃ zs : List Int, zs.length = (nthS zss i).length ∧ OwnI wr (B + 1) (.slice (some ⟨G i, 0, none⟩) (nthS zss i).length (nthS zss i).length) zs
  l : ∀ i, i < len → G i < hi
  y : Only (B + 1) hi w wr
theorem totTo_mono (zss : List (List Int)) {k m : Nat} (h : k ≤ m) : totTo zss k ≤ totTo zss m := by
  induction m with
  | zero => obtain rfl : k = 0 := by omega
            exact Nat.le_refl _
  | succ m ih =>
    by_cases e : k = m + 1
    · rw [e]; exact Nat.le_refl _
    · exact Nat.le_trans (ih (by omega)) (Nat.le_add_right _ _)
theorem SomeSS.step {w wr w' : World} {B hi len : Nat} {G : Nat → Nat} {zss : List (List Int)} (h : SomeSS w wr B hi len G zss) (hG : ∀ i j, i < j → j < len → G i < G j) {k : Nat} (hk : k < len) (hB : B < wr.heap.size) {zs : List Int} (hz : zs.length = (nthS zss k).length) (o : OwnI w' (B + 1) (.slice (some ⟨G k, 0, none⟩) (nthS zss k).length (nthS zss k).length) zs) (gr : wr.grownBy w' (some (G k))) : SomeSS w w' B hi len G zss := by
  have lk := o.lies (G k) rfl
  refine ⟨fun i hi => ?_, fun i hi => ?_, h.l, h.y.trans (Only.of_row gr (fun q hq => by have e : G k = q := by simpa using hq
                                                                                         have := h.l k hk; omega))⟩
  · have hb := gr.block B hB (by simp; omega)
    exact (World.cell?_of_block (a := ⟨B, i, none⟩) hb).trans (h.c i hi)
  · by_cases e : i = k
    · subst e; exact ⟨zs, hz, o⟩
    · obtain ⟨ys, h1, h2⟩ := h.o i hi
      refine ⟨ys, h1, h2.far gr (fun q hq e2 => ?_)⟩
      have e3 : G i = q := by simpa [Value.ownBlock] using hq
      have e4 : q = G k := by simpa using e2
      rcases Nat.lt_or_gt_of_ne e with c | c
      · have := hG i k c hk; omega
      · have := hG k i c hi; omega
theorem OwnSS.only {w w' : World} {B hi len lo2 hi2 : Nat} {zss : List (List Int)} (h : OwnSS w B hi len zss) (k : Only lo2 hi2 w w') (hs : hi2 ≤ B ∨ (B < lo2 ∧ hi ≤ lo2)) : OwnSS w' B hi len zss := by
  obtain ⟨G, h1, h2, h3⟩ := h.own
  refine ⟨h.len_eq, h.small, Nat.lt_of_lt_of_le h.lt k.size, G, fun i hl => ⟨?_, (h1 i hl).2.only k (fun g hg => ?_)⟩, h2, h3⟩
  · exact (World.cell?_of_block (a := ⟨B, i, none⟩) (k.block B h.lt (by omega))).trans (h1 i hl).1
  · have e : G i = g := by simpa [Value.ownBlock] using hg
    have a := ((h1 i hl).2.lies (G i) rfl).1
    have b := h3 i hl
    rcases hs with hs | hs
    · right; omega
    · left; omega

end Go.Proofs.Ytfnnfldfnjnlfah

namespace Go.Proofs.Ytfnnfldfnjnlfah
open Go Go.RowKit

/-- A row as it lies. -/
structure Rx where
  a : Option Addr
  n : Nat
  c : Nat
  zs : List Int
instance : Inhabited Rx := ⟨⟨none, 0, 0, []⟩⟩
def rxV (x : Rx) : Value := .slice x.a x.n x.c
def rxC (x : Rx) (_ : Nat) : Value := rxV x
theorem rxC_one (x : Rx) (q : Nat) : (rxC x q).oneCell' = true := rfl
theorem infoRx : (Try.prog.info? 26).map (fun i => (i.zero, i.size, i.bytes)) = some (some (.slice none 0 0), 1, 24) := by kernel_rfl
/-- Rows that a call has made: the list, and each row, in memory of its own. -/
structure OwnRr (w : World) (base : Nat) (v : Value) (us : List Rx) : Prop where
  out : OwnE 1 rxC w base 26 v us
  dat : ∀ i, i < us.length → OwnI w base (rxV (elAt us i)) (elAt us i).zs
  apt : ∀ i, i < us.length → ∀ g, (rxV (elAt us i)).ownBlock = some g → v.ownBlock ≠ some g
  par : ∀ i j, i < j → j < us.length → ∀ g, (rxV (elAt us i)).ownBlock = some g → (rxV (elAt us j)).ownBlock ≠ some g
theorem OwnRr.below {w w' : World} {base : Nat} {v : Value} {us : List Rx} (h : OwnRr w base v us) (k : Below w.heap.size w w') : OwnRr w' base v us :=
  ⟨h.out.below k, fun i hi => (h.dat i hi).below k, h.apt, h.par⟩
theorem OwnRr.mono {w : World} {base base' : Nat} {v : Value} {us : List Rx} (h : OwnRr w base v us) (hb : base' ≤ base) : OwnRr w base' v us :=
  ⟨h.out.mono hb, fun i hi => (h.dat i hi).mono hb, h.apt, h.par⟩
/-- Its blocks lie from b on, below u. -/
def RrLies (b u : Nat) (v : Value) (us : List Rx) : Prop := (∀ g, v.ownBlock = some g → b ≤ g ∧ g < u) ∧ ∀ i, i < us.length → ∀ g, (rxV (elAt us i)).ownBlock = some g → b ≤ g ∧ g < u
theorem OwnRr.lies {w : World} {base : Nat} {v : Value} {us : List Rx} (h : OwnRr w base v us) : RrLies base w.heap.size v us := ⟨h.out.lies, fun i hi => (h.dat i hi).lies⟩
theorem OwnRr.only {w w' : World} {base lo hi b u : Nat} {v : Value} {us : List Rx} (h : OwnRr w base v us) (k : Only lo hi w w') (hl : RrLies b u v us) (hs : u ≤ lo ∨ hi ≤ b) : OwnRr w' base v us :=
  ⟨h.out.only k (fun g hg => by have := hl.1 g hg; omega), fun i hi => (h.dat i hi).only k (fun g hg => by have := hl.2 i hi g hg; omega), h.apt, h.par⟩
/-- Another block, ahead of all of its own or behind them, is written. -/
theorem OwnRr.far {w w' : World} {base : Nat} {v : Value} {us : List Rx} {row : Option Nat} (h : OwnRr w base v us) (k : w.grownBy w' row) (h1 : ∀ g, v.ownBlock = some g → some g ≠ row) (h2 : ∀ i, i < us.length → ∀ g, (rxV (elAt us i)).ownBlock = some g → some g ≠ row) : OwnRr w' base v us :=
  ⟨h.out.far k h1, fun i hi => (h.dat i hi).far k (h2 i hi), h.apt, h.par⟩
theorem ownRr_none {w : World} {base : Nat} (hb : base ≤ w.heap.size) : OwnRr (w.alloc (Obj.cells #[] 26)) base (.slice (some ⟨w.heap.size, 0, none⟩) 0 0) [] :=
  ⟨(ownE_none (w := w) (Nat.le_refl _)).mono hb, fun i hi => by simp at hi, fun i hi => by simp at hi, fun i j _ hj => by simp at hj⟩
theorem elAt_appL {α : Type} [Inhabited α] {Z : List α} {x : α} {i : Nat} (h : i < Z.length) : elAt (Z ++ [x]) i = elAt Z i := (elAt_app Z x).1 i h
theorem elAt_appR {α : Type} [Inhabited α] {Z : List α} {x : α} : elAt (Z ++ [x]) Z.length = x := (elAt_app Z x).2
theorem OwnRr.push {w w9 : World} {base g n c : Nat} {v : Value} {us : List Rx} {x : Rx} (h : OwnRr w base v us) (o : OwnE 1 rxC w9 base 26 (.slice (some ⟨g, 0, none⟩) n c) (us ++ [x])) (gr : w.grownBy w9 v.ownBlock) (hg : v.ownBlock = some g ∨ w.heap.size ≤ g)
    (hd : OwnI w base (rxV x) x.zs) (hv : ∀ q, (rxV x).ownBlock = some q → v.ownBlock ≠ some q) (hp : ∀ i, i < us.length → ∀ q, (rxV (elAt us i)).ownBlock = some q → (rxV x).ownBlock ≠ some q) : OwnRr w9 base (.slice (some ⟨g, 0, none⟩) n c) (us ++ [x]) := by
  have dt : ∀ i, i < (us ++ [x]).length → OwnI w base (rxV (elAt (us ++ [x]) i)) (elAt (us ++ [x]) i).zs ∧ ∀ q, (rxV (elAt (us ++ [x]) i)).ownBlock = some q → v.ownBlock ≠ some q := by
    intro i hi
    by_cases e : i < us.length
    · rw [elAt_appL e]; exact ⟨h.dat i e, h.apt i e⟩
    · obtain rfl : i = us.length := by simp at hi; omega
      rw [elAt_appR]; exact ⟨hd, hv⟩
  refine ⟨o, fun i hi => (dt i hi).1.far gr (fun q hq e => (dt i hi).2 q hq e.symm), fun i hi q hq e => ?_, fun i j hij hj q hq => ?_⟩
  · have e : g = q := Option.some.inj e
    rcases hg with k | k
    · exact (dt i hi).2 q hq (by rw [k, e])
    · have := ((dt i hi).1.lies q hq).2; omega
  · have hi : i < us.length := by simp at hj; omega
    rw [elAt_appL hi] at hq
    by_cases e : j < us.length
    · rw [elAt_appL e]; exact h.par i j hij e q hq
    · obtain rfl : j = us.length := by simp at hj; omega
      rw [elAt_appR]; exact hp i hi q hq
def rxZ (us : List Rx) : List (List Int) := us.map (·.zs)
theorem rxZ_at {us : List Rx} {i : Nat} (h : i < us.length) : nthS (rxZ us) i = (elAt us i).zs := by simp [nthS, rxZ, elAt, h]
/-- As it reads. -/
theorem OwnRr.read {w : World} {base : Nat} {a : Option Addr} {len c : Nat} {us : List Rx} (h : OwnRr w base (.slice a len c) us) (hs : us.length ≤ 9223372036854775807) : RowS w a len (rxZ us) := by
  have hl := h.out.row.len_eq
  refine ⟨by simp [rxZ, hl], by omega, fun i hi => ?_⟩
  obtain ⟨b, off, ha, hc⟩ := h.out.row.at_ i hi
  have hc0 := hc 0 (by omega)
  rw [Nat.mul_one, Nat.add_zero] at hc0
  have hd := h.dat i (by omega)
  refine ⟨b, off, (elAt us i).a, (elAt us i).n, (elAt us i).c, ha, hc0, ?_, ?_⟩
  · rw [rxZ_at (by omega)]; exact OwnI.row hd
  · rcases hd.form with ⟨e, _⟩ | ⟨g, cap, e, _, _, hle, _⟩
    · simp only [rxV, Value.slice.injEq] at e; omega
    · simp only [rxV, Value.slice.injEq] at e; omega
/-- Rows that a call has made, and what they say. -/
structure OwnRT (w : World) (base : Nat) (v : Value) (us : List Rx) (T : List (List Int)) : Prop where
  o : OwnRr w base v us
  con : rxZ us = T
theorem OwnRT.below {w w' : World} {base : Nat} {v : Value} {us : List Rx} {T : List (List Int)} (h : OwnRT w base v us T) (k : Below w.heap.size w w') : OwnRT w' base v us T := ⟨h.o.below k, h.con⟩
theorem OwnRT.lies {w : World} {base : Nat} {v : Value} {us : List Rx} {T : List (List Int)} (h : OwnRT w base v us T) : RrLies base w.heap.size v us := h.o.lies
theorem OwnRT.only {w w' : World} {base lo hi b u : Nat} {v : Value} {us : List Rx} {T : List (List Int)} (h : OwnRT w base v us T) (k : Only lo hi w w') (hl : RrLies b u v us) (hs : u ≤ lo ∨ hi ≤ b) : OwnRT w' base v us T := ⟨h.o.only k hl hs, h.con⟩
/-- What the marks ask of them. -/
structure RrFit (us : List Rx) (T : List (List Int)) : Prop where
  len : us.length = T.length
  few : T.length ≤ 400
  d32 : ∀ i, i < us.length → (elAt us i).zs.length ≤ 32
  dn : ∀ i, i < us.length → (elAt us i).zs.length = (elAt us i).n
theorem OwnRT.fit {w : World} {base : Nat} {v : Value} {us : List Rx} {T : List (List Int)} (h : OwnRT w base v us T) (h1 : T.length ≤ 400) (h2 : ∀ x ∈ T, x.length ≤ 32) : RrFit us T :=
  ⟨by rw [← h.con]; simp [rxZ], h1, fun i hi => h2 _ (by rw [← h.con]; exact List.mem_map.2 ⟨elAt us i, by simp [elAt, hi], rfl⟩), fun i hi => (OwnI.row (a := (elAt us i).a) (len := (elAt us i).n) (cap := (elAt us i).c) (h.o.dat i hi)).len_eq⟩
end Go.Proofs.Ytfnnfldfnjnlfah

namespace Go.Proofs.Ytfnnfldfnjnlfah
open Go Go.RowKit

structure RrG (w wr : World) (g i c : Nat) (us : List Rx) (z : List (List Int)) : Prop where
  o : OwnRr wr w.heap.size (.slice (some ⟨g, 0, none⟩) i c) us
  l : us.length = i
  z : rxZ us = z
theorem RrG.below {w wr w' : World} {g i c : Nat} {us : List Rx} {z : List (List Int)} (h : RrG w wr g i c us z) (b : Below wr.heap.size wr w') : RrG w w' g i c us z := ⟨h.o.below b, h.l, h.z⟩
/-- A block that is none of its own is written. -/
theorem RrG.far {w wr w' : World} {g i c q B : Nat} {us : List Rx} {z : List (List Int)} (h : RrG w wr g i c us z) (hl : RrLies w.heap.size B (.slice (some ⟨g, 0, none⟩) i c) us) (k : wr.grownBy w' (some q)) (hq : q < w.heap.size ∨ B ≤ q) : RrG w w' g i c us z :=
  ⟨h.o.far k (fun p hp e => by have := hl.1 p hp; have := Option.some.inj e; omega) (fun j hj p hp e => by have := hl.2 j hj p hp; have := Option.some.inj e; omega), h.l, h.z⟩
theorem RrG.push {w V w9 : World} {g i c B g9 c9 : Nat} {us : List Rx} {z : List (List Int)} {x : Rx} (h : RrG w V g i c us z) (hl : RrLies w.heap.size B (.slice (some ⟨g, 0, none⟩) i c) us) (hd : OwnI V B (rxV x) x.zs) (hB : w.heap.size ≤ B) (o : OwnE 1 rxC w9 w.heap.size 26 (.slice (some ⟨g9, 0, none⟩) (i + 1) c9) (us ++ [x])) (gr : V.grownBy w9 (Value.slice (some ⟨g, 0, none⟩) i c).ownBlock) (hg : (Value.slice (some ⟨g, 0, none⟩) i c).ownBlock = some g9 ∨ V.heap.size < g9) : RrG w w9 g9 (i + 1) c9 (us ++ [x]) (z ++ [x.zs]) := by
  refine ⟨h.o.push o gr (hg.imp id (by omega)) (hd.mono hB) (fun q hq e => ?_) (fun j hj q hq e => ?_), by simp [h.l], by simp [rxZ, ← h.z]⟩
  · have := (hd.lies q hq).1; have := hl.1 q e; omega
  · have := (hd.lies q e).1; have := hl.2 j hj q hq; omega
theorem RrG.row {w V w9 : World} {g i c B : Nat} {us : List Rx} {z : List (List Int)} {v : Value} {L : List Int} (_h : RrG w V g i c us z) (hl : RrLies w.heap.size B (.slice (some ⟨g, 0, none⟩) i c) us) (hd : OwnI V B v L) (gr : V.grownBy w9 (Value.slice (some ⟨g, 0, none⟩) i c).ownBlock) : OwnI w9 B v L :=
  hd.far gr (fun q hq e => by have := (hd.lies q hq).1; have := hl.1 q e.symm; omega)

end Go.Proofs.Ytfnnfldfnjnlfah

namespace Go.Proofs.Ytfnnfldfnjnlfah
open Go.RowKit

theorem Blk.apart {w w' : World} {B : Nat} {vs : List Value} {row : Option Nat} (h : Blk w B vs) (k : w.grownBy w' row) (hne : some B ≠ row) : Blk w' B vs := by
  have hb := k.block B h.lt hne
  refine ⟨fun i hi => (World.cell?_of_block (a := ⟨B, i, none⟩) hb).trans (h.c i hi), fun i hi => ?_, Nat.lt_of_lt_of_le h.lt k.size⟩
  have h2 := h.f i hi
  unfold World.frozen? at h2 ⊢
  simp only at h2 ⊢
  rw [hb]; exact h2

structure LoopAt (w wr : World) (boxes : List (Nat × List Value)) (base g k c : Nat) (zs : List Int) : Prop where
  x : ∀ p ∈ boxes, Blk wr p.1 p.2 ∧ p.1 < base
  o : OwnI wr base (.slice (some ⟨g, 0, none⟩) k c) zs
  l : zs.length = k
  b : Below w.heap.size w wr
  s : w.heap.size ≤ base
  t : base ≤ wr.heap.size
theorem LoopAt.below {w wr w' : World} {boxes : List (Nat × List Value)} {base g k c : Nat} {zs : List Int} (h : LoopAt w wr boxes base g k c zs) (j : Below wr.heap.size wr w') : LoopAt w w' boxes base g k c zs :=
  ⟨fun p hp => ⟨(h.x p hp).1.below j, (h.x p hp).2⟩, h.o.below j, h.l, h.b.trans (j.mono (Nat.le_trans h.s h.t)), h.s, Nat.le_trans h.t j.size⟩
theorem LoopAt.step {w wr w' : World} {boxes : List (Nat × List Value)} {base g k c g' c' : Nat} {zs : List Int} {x : Int} (h : LoopAt w wr boxes base g k c zs) (o : OwnI w' base (.slice (some ⟨g', 0, none⟩) (k + 1) c') (zs ++ [x])) (gr : wr.grownBy w' (Value.slice (some ⟨g, 0, none⟩) k c).ownBlock) : LoopAt w w' boxes base g' (k + 1) c' (zs ++ [x]) := by
  have lg := h.o.lies
  refine ⟨fun p hp => ⟨(h.x p hp).1.apart gr ?_, (h.x p hp).2⟩, o, by simp [h.l], h.b.grown gr (Nat.le_trans h.s h.t) (fun q hq => Nat.le_trans h.s (lg q hq).1), h.s, Nat.le_trans h.t gr.size⟩
  intro e
  have := lg p.1 e.symm
  have := (h.x p hp).2
  omega

end Go.Proofs.Ytfnnfldfnjnlfah

namespace Go.Proofs.Ytfnnfldfnjnlfah
open Go.RowKit

theorem madeI_run {L : Nat} (hL : L ≤ 1048576) (W : World) :
    (Instr.makeSlice 26 (.int .i64 (L : Int)) (.int .i64 (L : Int))).run Try.prog W = .ok (.slice (some ⟨W.heap.size, 0, none⟩) L L) (W.alloc (.cells (madeCells #[.int .i64 0] L) 3)) := by
  obtain ⟨i0, h0, h1, h2, h3⟩ := info_parts info_int1
  have hbytes : (i0.bytes : Int) * (L : Int) ≤ 281474976710656 := by
    have hm : i0.bytes * L ≤ 8 * 1048576 := Nat.mul_le_mul (by omega) hL
    have : ((i0.bytes * L : Nat) : Int) ≤ 281474976710656 := by omega
    rwa [Int.natCast_mul] at this
  have hr := run_make (P := Try.prog) W 26 3 i0 (.int .i64 0) Try.underlying26 h0 h1 .i64 .i64 (L : Int) (L : Int) (by omega) (Int.le_refl _) hbytes (by omega)
  rw [show (Value.int IntKind.i64 0).cells = #[.int .i64 0] from rfl, h2] at hr
  simpa using hr
theorem nthZ (n i : Nat) : nth (List.replicate n (0 : Int)) i = 0 := by
  unfold nth
  by_cases h : i < n
  · simp [h]
  · have : (List.replicate n (0 : Int))[i]? = none := by simp; omega
    simp [this]
theorem madeI_row (W : World) {L : Nat} (hL : L ≤ 1048576) : Row (W.alloc (.cells (madeCells #[.int .i64 0] L) 3)) (some ⟨W.heap.size, 0, none⟩) L (List.replicate L 0) := by
  have e : madeCells #[.int .i64 0] L = (List.replicate L (Value.int .i64 0)).toArray := by
    apply Array.ext'
    rw [toList_madeCells_one]
  rw [e]
  refine ⟨by simp, by omega, fun i hi => ⟨_, _, rfl, ?_⟩, fun i => by rw [nthZ]; omega⟩
  rw [nthZ, Nat.zero_add]
  have := (Blk.new (w := W) (List.replicate L (Value.int .i64 0)) 3).c i (by simpa using hi)
  rw [this]; simp

end Go.Proofs.Ytfnnfldfnjnlfah

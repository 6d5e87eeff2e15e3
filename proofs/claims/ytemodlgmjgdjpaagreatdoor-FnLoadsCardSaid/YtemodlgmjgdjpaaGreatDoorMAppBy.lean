/-
  A list of bytes behind a list of bytes that a call has made, and where the answer lies. At lists of at most four million together.
  Bytes turned into a text: what the conversion tells. No condition. (The same two stand in LawFnFrames: never import both.)
-/
import Derived.Test.YtemodlgmjgdjpaaGreatDoorMOnly
import Derived.Test.YtemodlgmjgdjpaaGreatDoorMRowBy
import Derived.Deep.AppendLies
import Derived.Deep.Upon
import Derived.Laws.BytesString
import Derived.Laws.Cells

namespace Go.Proofs.YtemodlgmjgdjpaaGreatDoor
open Go.RowKit

theorem info_by3 : (Tryz.prog.info? 5).map (fun i => (i.zero, i.size, i.bytes)) = some (some (.int .u8 0), 1, 1) := by kernel_rfl
theorem src_noneB {tx e' : TypeId} (hk : Tryz.prog.underlying tx = some (.slice e')) (xa : Option Addr) (c : Nat) (w : World) : Src Tryz.prog 1 tx (.slice xa 0 c) 0 [] w := by
  refine ⟨.inl ⟨e', hk⟩, fun w' => ?_, ?_, ?_, rfl, fun u hu => by cases hu⟩
  · simp [Builtin.lenOf]
  · cases xa <;> simp [Builtin.firstCells, loadCells, loadCellsFrom]
  · cases xa <;> simp [Builtin.firstCells, loadCells, loadCellsFrom]
theorem wpList_app_by {ops : Array Oper} {rest : List Oper} {o : Oper} {a : Act} {Q : Exit → Act → World → Prop} {w : World} (hgd : o.guard = none) (s xo : Operand) (ho : o.op = .call { callee := .builtin .append, args := #[s, xo], argTypes := #[22, 22] })
    {base g0 n c0 : Nat} {zs : List Int} (hO : OwnE 1 byC w base 5 (.slice (some ⟨g0, 0, none⟩) n c0) zs) (hn : zs.length = n) (hs : a.eval s = .slice (some ⟨g0, 0, none⟩) n c0) (xa : Option Addr) (m c : Nat) (ys : List Int) (hx : a.eval xo = .slice xa m c) (hy : RowE 1 byC w xa m ys) (hm : n + m ≤ 4194304) (hb : base ≤ w.heap.size)
    (h : ∀ g cap w', OwnE 1 byC w' base 5 (.slice (some ⟨g, 0, none⟩) (n + m) cap) (zs ++ ys) → w.grownBy w' (some g0) → (g = g0 ∨ g = w.heap.size) → wpList Tryz.prog ops Q rest (a.put o.dst (.slice (some ⟨g, 0, none⟩) (n + m) cap)) w') : wpList Tryz.prog ops Q (o :: rest) a w := by
  obtain ⟨i0, hii, hz0, hz1, hz2⟩ := info_parts info_by3
  have hlen := hy.len_eq
  by_cases h0 : m = 0
  · subst h0
    obtain rfl : ys = [] := List.length_eq_zero_iff.1 hlen
    have hcap : n ≤ c0 := by
      obtain ⟨a', cap', e, hle, _⟩ := hO.slice
      cases e
      rw [hn] at hle
      exact hle
    have hr := fun ty => run_append_nothing (P := Tryz.prog) w 22 22 ty 5 i0 Tryz.underlying22 hii (some ⟨g0, 0, none⟩) n c0 hcap (.slice xa 0 c) (by rw [hz1]; exact src_noneB Tryz.underlying22 xa c w)
    refine wpList_plain hgd fun K hK => ?_
    unfold Oper.wp execOp
    simp only [ho, resolve, invoke, builtin, Sem.run_bind, Sem.run_pure, Result.andThen_ok, List.map_toArray, List.map_cons, List.map_nil, hs, hx, hr]
    have := h g0 c0 w (by rw [List.append_nil]; exact hO) ⟨rfl, rfl, rfl, Nat.le_refl _, fun _ _ _ => rfl⟩ (.inl rfl)
    exact hK _ _ this
  · obtain ⟨bb, off, rfl, _⟩ := hy.at_ 0 (by omega)
    obtain ⟨vs, hown, hvx⟩ := hO.own
    rw [hn] at hown
    refine wpList_append_lies _ hgd s xo 22 ho base 5 i0 (.int .u8 0) 1 1 Tryz.underlying22 hii hz0 hz1 hz2 rfl (by decide) _ n vs hs hown ⟨bb, off, none⟩ m c (flatE 1 byC ys) hx (by rw [flatE_len, hlen]) (fun j u hj => ?_) (fun u hu => ?_) (by omega) (by unfold maxLen; omega) (by omega) hb _ rfl ?_
    · have hj' : j < ys.length * 1 := by
        rcases Nat.lt_or_ge j (ys.length * 1) with h | h
        · exact h
        · rw [List.getElem?_eq_none (by rw [flatE_len]; exact h)] at hj; cases hj
      rw [flatE_at hj'] at hj
      obtain ⟨b', off', e, hc⟩ := hy.at_ j (by omega)
      simp only [Option.some.injEq, Addr.mk.injEq, and_true] at e
      obtain ⟨rfl, rfl⟩ := e
      have := hc 0 (by omega)
      rw [addr_addR, ← hj, Nat.mod_one, Nat.div_one]
      simpa using this
    · obtain ⟨p, _, rfl⟩ := List.mem_map.1 hu; rfl
    · intro g cap w' h1 h2 h3 _
      have hown1 := hown.1
      refine h g cap w' ?_ h2 ?_
      · have hrow := ownE_apps (xs := zs) (ys := ys) (vs := vs) (v := .slice (some ⟨g, 0, none⟩) (n + m) cap) (w := w') (base := base) (T := 5) (K := 1) (cells := byC) (by decide) (by rw [hn, hlen]; exact h1) (by rw [hn]; exact hown1) hvx
        exact hrow
      · rcases h3 with h3 | h3
        · left; simpa [Value.ownBlock] using h3.symm
        · exact .inr h3

end Go.Proofs.YtemodlgmjgdjpaaGreatDoor

namespace Go.Proofs.YtemodlgmjgdjpaaGreatDoor
open Go Go.RowKit

/-- The text of some bytes. -/
def byStr (ds : List Int) : ByteArray := ds.foldl (fun r n => r.push (UInt8.ofNat n.toNat)) ByteArray.empty
theorem conv_str {w : World} {p : Option Addr} {n : Nat} {ds : List Int} (h : RowE 1 byC w p n ds) (q : Nat) : (convert 22 9 (.slice p n q)).run Tryz.prog w = .ok (.string (byStr ds)) w := by
  rw [run_convert_bytes_string w 22 9 5 p n q Tryz.underlying22 Tryz.underlying5 Tryz.underlying9]
  have hl := h.len_eq
  subst hl
  rcases h.open1 with ⟨h0, h1⟩ | ⟨b, off, rfl, _, hc⟩
  · subst h1
    cases p with
    | none => rfl
    | some a => exact run_bytesToString w a 0 q [] (by simp [loadCells, loadCellsFrom])
  · refine run_bytesToString w ⟨b, off, none⟩ ds.length q ds ?_
    rw [show ds.length = (ds.map (Value.int .u8)).length by simp]
    refine run_loadCells_list w ⟨b, off, none⟩ (ds.map (Value.int .u8)) (fun j v hj => ?_)
    have hj2 : j < ds.length := by
      rcases Nat.lt_or_ge j ds.length with k | k
      · exact k
      · rw [List.getElem?_eq_none (by simpa using k)] at hj; cases hj
    have := hc j hj2
    simp only [List.getElem?_map, List.getElem?_eq_getElem hj2, Option.map_some, Option.some.injEq] at hj
    rw [addr_addR, this, ← hj]
    simp [byC, elAt, hj2]

end Go.Proofs.YtemodlgmjgdjpaaGreatDoor

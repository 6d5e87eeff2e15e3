/-
  Bytes copied by make and copy, and a list of loads that grows by copies, two blocks beside it. At lists of at most 1048576.
  The program's copies of a load and of what is aboard: what they say, in memory of their own. Nothing that was there is written.
  The program's copy of what is aboard: the same loads, in memory of their own. Nothing that was there is written.
-/
import Derived.Test.YtemodlgmjgdjpaaGreatDoorMAbTo
import Derived.Test.YtemodlgmjgdjpaaGreatDoorInsPure
import Derived.Test.YtemodlgmjgdjpaaGreatDoorMBase
import Derived.Test.YtemodlgmjgdjpaaGreatDoorMOnly

namespace Go.Proofs.YtemodlgmjgdjpaaGreatDoor
open Go Go.RowKit

theorem infoBy18 : (Tryz.prog.info? 5).map (fun i => (i.zero, i.size, i.bytes)) = some (some (.int .u8 0), 1, 1) := by kernel_rfl
theorem sizeBy18 : (Tryz.prog.info? 5).map (·.size) = some 1 := by kernel_rfl
theorem madeB_run {L : Nat} (hL : L ≤ 1048576) (W : World) :
    (Instr.makeSlice 22 (.int .i64 (L : Int)) (.int .i64 (L : Int))).run Tryz.prog W = .ok (.slice (some ⟨W.heap.size, 0, none⟩) L L) (W.alloc (.cells (madeCells #[.int .u8 0] L) 5)) := by
  obtain ⟨i0, h0, h1, h2, h3⟩ := info_parts infoBy18
  have hbytes : (i0.bytes : Int) * (L : Int) ≤ 281474976710656 := by
    have hm : i0.bytes * L ≤ 1 * 1048576 := Nat.mul_le_mul (by omega) hL
    have : ((i0.bytes * L : Nat) : Int) ≤ 281474976710656 := by omega
    rwa [Int.natCast_mul] at this
  have hr := run_make (P := Tryz.prog) W 22 5 i0 (.int .u8 0) Tryz.underlying22 h0 h1 .i64 .i64 (L : Int) (L : Int) (by omega) (Int.le_refl _) hbytes (by omega)
  rw [show (Value.int IntKind.u8 0).cells = #[.int .u8 0] from rfl, h2] at hr
  simpa using hr
theorem copy_zero (w : World) (ty : TypeId) (a b : Option Addr) (c d : Nat) :
    (Builtin.copy_ #[22, 22] ty #[.slice a 0 c, .slice b 0 d]).run Tryz.prog w = .ok (goInt 0) w := by
  obtain ⟨i0, h0, _, _, _⟩ := info_parts infoBy18
  cases a <;> cases b <;> simp [Builtin.copy_, run_underlying Tryz.underlying22, Builtin.lenOf, Builtin.firstCells, sizeOf, typeInfo, h0, loadCells, loadCellsFrom, storeCells]
/-- New memory with the bytes of a list. -/
theorem copyB_run {W : World} {a : Option Addr} {L c : Nat} {zs : List Int} (hr : RowE 1 byC W a L zs) (hL : L ≤ 1048576) :
    ∃ V, (∀ ty, (Builtin.copy_ #[22, 22] ty #[.slice (some ⟨W.heap.size, 0, none⟩) L L, .slice a L c]).run Tryz.prog (W.alloc (.cells (madeCells #[.int .u8 0] L) 5)) = .ok (goInt L) V) ∧ OwnE 1 byC V W.heap.size 5 (.slice (some ⟨W.heap.size, 0, none⟩) L L) zs ∧ Below W.heap.size W V := by
  have hz := hr.len_eq
  have hsz : (madeCells #[.int .u8 0] L).size = L := by simp [madeCells]
  have hg : (W.alloc (.cells (madeCells #[.int .u8 0] L) 5)).heap[W.heap.size]? = some (.cells (madeCells #[.int .u8 0] L) 5 (0, 0)) := by
    show (W.heap.push _)[W.heap.size]? = _
    simp
  by_cases h0 : L = 0
  · subst h0
    refine ⟨_, fun ty => copy_zero _ ty _ _ _ _, ?_, bel1 _⟩
    exact ownE_row hg (Nat.le_refl _) hz (Nat.le_refl _) (by unfold maxLen; omega) (by rw [hsz]) (fun j hj => by omega)
  · obtain ⟨bb, off, rfl, _⟩ := hr.at_ 0 (by omega)
    have hcs : (flatE 1 byC zs).length = L := by rw [flatE_len, hz, Nat.mul_one]
    have hel : ∀ j, j < L → (flatE 1 byC zs)[j]? = some (byC (elAt zs j) 0) := fun j hj => by
      rw [flatE_at (by omega), Nat.mod_one, Nat.div_one]
    have hsrc : ∀ j v, (flatE 1 byC zs)[j]? = some v → (W.alloc (.cells (madeCells #[.int .u8 0] L) 5)).cell? ((⟨bb, off, none⟩ : Addr).add j) = some v := fun j v hj => by
      have hjL : j < L := by
        rcases Nat.lt_or_ge j L with h | h
        · exact h
        · rw [List.getElem?_eq_none (by omega)] at hj; cases hj
      rw [hel j hjL] at hj
      obtain ⟨b', off', e, hc⟩ := hr.at_ j hjL
      simp only [Option.some.injEq, Addr.mk.injEq, and_true] at e
      obtain ⟨rfl, rfl⟩ := e
      have h1 := hc 0 (by omega)
      rw [addr_addR, ← hj]
      rw [Nat.mul_one, Nat.add_zero] at h1
      exact (World.cell?_alloc_lt _ _ _ (block_lt_of_cell h1)).trans h1
    have hlen : 0 + (flatE 1 byC zs).length ≤ (madeCells #[.int .u8 0] L).size := by omega
    have hrun := fun ty => run_copy_rowK (P := Tryz.prog) (K := 1) (W.alloc (.cells (madeCells #[.int .u8 0] L) 5)) 22 22 ty 5 W.heap.size 0 L L ⟨bb, off, none⟩ L c (madeCells #[.int .u8 0] L) 5 (flatE 1 byC zs) Tryz.underlying22 sizeBy18 hg (by rw [hcs]; simp) hsrc hlen (fun v hv => by obtain ⟨p, _, rfl⟩ := List.mem_map.1 hv; rfl)
    have hmin : Nat.min L L = L := Nat.min_self L
    rw [hmin] at hrun
    have hgr : (W.alloc (.cells (madeCells #[.int .u8 0] L) 5)).grownBy ((W.alloc (.cells (madeCells #[.int .u8 0] L) 5)).setRow W.heap.size (seg (madeCells #[.int .u8 0] L).toList 0 (flatE 1 byC zs)).toArray) (some W.heap.size) := grown_heap rfl rfl rfl (by simp) (fun k _ hne => setRow_at hne)
    refine ⟨_, hrun, ?_, (bel1 (w := W) _).grown hgr (by simp) (fun q hq => by cases hq; exact Nat.le_refl _)⟩
    refine ownE_row (setRow_heap _ W.heap.size _ _ 5 _ hg) (Nat.le_refl _) hz (Nat.le_refl _) (by unfold maxLen; omega) ?_ (fun j hj q hq => ?_)
    · rw [List.size_toArray, seg_len (by simpa using hlen), Array.length_toList, hsz, Nat.mul_one]
    · obtain rfl : q = 0 := by omega
      rw [Nat.mul_one, Nat.add_zero, seg_in (by simpa using hlen) (by omega) (by omega), Nat.sub_zero, hel j hj]
/-- One load more, its six cells lying in a block, at lists of up to 1048576. -/
theorem wpList_app_lxB {ops : Array Oper} {rest : List Oper} {o : Oper} {a : Act} {Q : Exit → Act → World → Prop} {w : World} (hgd : o.guard = none) (s xo : Operand) (ho : o.op = .call { callee := .builtin .append, args := #[s, xo], argTypes := #[24, 24] })
    {base n q : Nat} {v : Value} {ws : List Lx} (x : Lx) (hO : OwnE 6 lxC w base 32 v ws) (hn : ws.length = n) (hs : a.eval s = v) (hx : a.eval xo = .slice (some ⟨q, 0, none⟩) 1 1) (hq : ∀ j, j < 6 → w.cell? ⟨q, j, none⟩ = some (lxC x j)) (hb : base ≤ w.heap.size) (hsm : n ≤ 1048576)
    (h : ∀ g cap w', OwnE 6 lxC w' base 32 (.slice (some ⟨g, 0, none⟩) (n + 1) cap) (ws ++ [x]) → w.grownBy w' v.ownBlock → (v.ownBlock = some g ∨ w.heap.size ≤ g) → wpList Tryz.prog ops Q rest (a.put o.dst (.slice (some ⟨g, 0, none⟩) (n + 1) cap)) w') : wpList Tryz.prog ops Q (o :: rest) a w := by
  subst hn
  obtain ⟨vs, hown, hvx⟩ := hO.own
  obtain ⟨i0, hii, hz0, hz1, hz2⟩ := info_parts infoLx
  refine wpList_append_lies _ hgd s xo 24 ho base 32 i0 (.agg #[.string ⟨#[]⟩, .int .i64 0, .int .i64 0, .int .i64 0, .int .i64 0, .slice none 0 0]) 6 72 Tryz.underlying24 hii hz0 hz1 hz2 rfl (by decide) v ws.length vs hs hown ⟨q, 0, none⟩ 1 1 (lxV x) hx rfl (fun j u hj => ?_) (lxV_one x) (by decide) (by unfold maxLen; omega) (by omega) hb _ rfl ?_
  · have hj6 : j < 6 := by
      rcases Nat.lt_or_ge j 6 with k | k
      · exact k
      · rw [List.getElem?_eq_none (by simpa [lxV] using k)] at hj; cases hj
    rw [lxV_at x j hj6] at hj
    have := hq j hj6
    rw [Option.some.inj hj] at this
    rw [addr_addR]
    simpa using this
  · intro g cap w' h1 h2 h3 _
    refine h g cap w' (ownE_app h1 hown.1 hvx (lxV_at x)) h2 ?_
    rcases h3 with h3 | h3
    · exact .inl h3
    · right; omega
/-- A list of loads that grows, over base b, blocks with P and Q below it. -/
structure CpS (w : World) (b : Nat) (P Q : List Value) (wr : World) (v : Value) (us : List Lx) : Prop where
  own : OwnLd wr b v us
  k0 : Blk wr w.heap.size P
  k1 : Blk wr (w.heap.size + 1) Q
  bel : Below w.heap.size w wr
  hb : w.heap.size + 2 ≤ b ∧ b ≤ wr.heap.size
theorem CpS.below {w wr w9 : World} {b : Nat} {P Q : List Value} {v : Value} {us : List Lx} (h : CpS w b P Q wr v us) (k : Below wr.heap.size wr w9) : CpS w b P Q w9 v us :=
  ⟨h.own.below k, h.k0.below k, h.k1.below k, h.bel.trans (k.mono h.bel.size), h.hb.1, Nat.le_trans h.hb.2 k.size⟩
theorem CpS.push {w wr V w9 : World} {b g n c : Nat} {P Q : List Value} {v : Value} {us : List Lx} {x : Lx} (h : CpS w b P Q wr v us) (k : Below wr.heap.size wr V) (hd : OwnE 1 byC V wr.heap.size 5 (slV x.d) x.d.zs) (o : OwnE 6 lxC w9 b 32 (.slice (some ⟨g, 0, none⟩) n c) (us ++ [x])) (gr : V.grownBy w9 v.ownBlock) (hg : v.ownBlock = some g ∨ V.heap.size ≤ g) :
    CpS w b P Q w9 (.slice (some ⟨g, 0, none⟩) n c) (us ++ [x]) := by
  have hV := h.below k
  have hb := h.hb
  have hlo := h.own.lies
  refine ⟨hV.own.push o gr hg (hd.mono hb.2) (fun q hq e => ?_) (fun i hi q hq e => ?_), hV.k0.apart gr (fun e => by have := (hV.own.out.lies _ e.symm).1; omega), hV.k1.apart gr (fun e => by have := (hV.own.out.lies _ e.symm).1; omega), hV.bel.grown gr hV.bel.size (fun q hq => by have := (hV.own.out.lies q hq).1; omega), hb.1, Nat.le_trans hV.hb.2 gr.size⟩
  · have := (hd.lies q hq).1
    have := (hlo.1 q e).2
    omega
  · have := (hd.lies q e).1
    have := (hlo.2 i hi q hq).2
    omega
theorem cp_ok {zs : List Lc} {us : List Lx} (h : us.map lxW = zs) (hk : LzOk zs) {w : World} {base : Nat} {v : Value} (ho : OwnLd w base v us) : OwnLT w base v zs := ⟨⟨us, h, ho⟩, hk⟩
theorem cp_take {zs : List Lc} {k : Nat} (h : k < zs.length) : zs.take (k + 1) = zs.take k ++ [elAt zs k] := by
  rw [List.take_add_one, show zs[k]? = some (elAt zs k) by simp [elAt, h]]; rfl
theorem ownLd_len {w : World} {base : Nat} {a : Option Addr} {n c : Nat} {us : List Lx} (h : OwnLd w base (.slice a n c) us) : us.length = n := h.out.row.len_eq
theorem ownLd_nil {w : World} {base : Nat} : OwnLd w base (.slice none 0 0) [] :=
  ⟨⟨[], ⟨rfl, .inl ⟨rfl, rfl⟩⟩, fun j hj => by simp at hj⟩, fun i hi => by simp at hi, fun i hi => by simp at hi, fun i j _ hj => by simp at hj⟩

end Go.Proofs.YtemodlgmjgdjpaaGreatDoor

namespace Go.Proofs.YtemodlgmjgdjpaaGreatDoor
open Go Go.RowKit

set_option maxRecDepth 20000 in
set_option maxHeartbeats 4000000 in
theorem copiedL_any (x : Lx) (w : World) (hin : LxIn w x) (hn : x.d.n ≤ 1048576) :
    Calls Tryz.prog 45 #[.agg #[.string x.p, .int .i64 x.nb, .int .i64 x.le, .int .i64 x.mo, .int .i64 x.ne, .slice x.d.a x.d.n x.d.c]] w fun e w' => (∃ G, e = .returned (.agg #[.string x.p, .int .i64 x.nb, .int .i64 x.le, .int .i64 x.mo, .int .i64 x.ne, .slice (some ⟨G, 0, none⟩) x.d.n x.d.n]) ∧ OwnE 1 byC w' w.heap.size 5 (.slice (some ⟨G, 0, none⟩) x.d.n x.d.n) x.d.zs) ∧ Below w.heap.size w w' := by
  obtain ⟨W, hW⟩ : ∃ W, W = (w.alloc (Obj.cells #[.string x.p, .int .i64 x.nb, .int .i64 x.le, .int .i64 x.mo, .int .i64 x.ne, .slice x.d.a x.d.n x.d.c] 32)).alloc (Obj.cells #[.string ⟨#[]⟩, .int .i64 0, .int .i64 0, .int .i64 0, .int .i64 0, .slice none 0 0] 32) := ⟨_, rfl⟩
  have KA : Blk W w.heap.size [.string x.p, .int .i64 x.nb, .int .i64 x.le, .int .i64 x.mo, .int .i64 x.ne, .slice x.d.a x.d.n x.d.c] := by rw [hW]; exact (Blk.new _ _).alloc _
  have KX : Blk W (w.heap.size + 1) [.string ⟨#[]⟩, .int .i64 0, .int .i64 0, .int .i64 0, .int .i64 0, .slice none 0 0] := by
    rw [hW]
    have := Blk.new (w := (w.alloc (Obj.cells #[.string x.p, .int .i64 x.nb, .int .i64 x.le, .int .i64 x.mo, .int .i64 x.ne, .slice x.d.a x.d.n x.d.c] 32))) [.string ⟨#[]⟩, .int .i64 0, .int .i64 0, .int .i64 0, .int .i64 0, .slice none 0 0] 32
    simpa using this
  have BW : Below w.heap.size w W := by rw [hW]; exact bel2 _ _
  have hWs : W.heap.size = w.heap.size + 1 + 1 := by rw [hW]; simp
  obtain ⟨V, hrun, hown, bV⟩ := copyB_run (c := x.d.c) (hin.sl.row.below BW) hn
  have hmk := madeB_run hn W
  have KAV : Hid (Blk V w.heap.size [.string x.p, .int .i64 x.nb, .int .i64 x.le, .int .i64 x.mo, .int .i64 x.ne, .slice x.d.a x.d.n x.d.c]) := hide (KA.below bV)
  have KXV : Hid (Blk V (w.heap.size + 1) [.string ⟨#[]⟩, .int .i64 0, .int .i64 0, .int .i64 0, .int .i64 0, .slice none 0 0]) := hide (KX.below bV)
  have OV : Hid (OwnE 1 byC V w.heap.size 5 (.slice (some ⟨w.heap.size + 1 + 1, 0, none⟩) x.d.n x.d.n) x.d.zs) := hide (by rw [hWs] at hown; exact hown.mono (by omega))
  have OL : Hid (w.heap.size + 1 < w.heap.size + 1 + 1) := hide (by omega)
  have BV : Hid (Below w.heap.size w V) := hide (BW.trans (bV.mono BW.size))
  have a5 : W.cell? ⟨w.heap.size, 5, none⟩ = some (.slice x.d.a x.d.n x.d.c) := KA.c 5 (by simp)
  have a5m := (World.cell?_alloc_lt W (Obj.cells (madeCells #[.int .u8 0] x.d.n) 5) ⟨w.heap.size, 5, none⟩ (by show w.heap.size < W.heap.size; omega)).trans a5
  rw [hWs] at hmk hrun
  rw [hW] at a5 a5m hmk hrun
  have v5 : V.cell? ⟨w.heap.size, 5, none⟩ = some (.slice x.d.a x.d.n x.d.c) := (unhide KAV).c 5 (by simp)
  have f5 : V.frozen? ⟨w.heap.size, 5, none⟩ = false := (unhide KAV).f 5 (by simp)
  obtain ⟨U, hU⟩ : ∃ U, U = V.setCell ⟨w.heap.size, 5, none⟩ (.slice (some ⟨w.heap.size + 1 + 1, 0, none⟩) x.d.n x.d.n) := ⟨_, rfl⟩
  have KAU : Hid (Blk U w.heap.size [.string x.p, .int .i64 x.nb, .int .i64 x.le, .int .i64 x.mo, .int .i64 x.ne, .slice (some ⟨w.heap.size + 1 + 1, 0, none⟩) x.d.n x.d.n]) := hide (by rw [hU]; exact (unhide KAV).set 5 (by simp) _)
  have KXU : Hid (Blk U (w.heap.size + 1) [.string ⟨#[]⟩, .int .i64 0, .int .i64 0, .int .i64 0, .int .i64 0, .slice none 0 0]) := hide (by rw [hU]; exact (unhide KXV).other (by simp) _)
  have OU : Hid (OwnE 1 byC U (w.heap.size) 5 (.slice (some ⟨w.heap.size + 1 + 1, 0, none⟩) x.d.n x.d.n) x.d.zs) := hide (by rw [hU]; exact (unhide OV).set_other _ (by simp [Value.ownBlock]; omega))
  have BU : Hid (Below w.heap.size w U) := hide (by rw [hU]; exact (unhide BV).setCell (by simp) _)
  have u0 : U.cell? ⟨w.heap.size, 0, none⟩ = some (.string x.p) := (unhide KAU).c 0 (by simp)
  have u1 : U.cell? ⟨w.heap.size, 1, none⟩ = some (.int .i64 x.nb) := (unhide KAU).c 1 (by simp)
  have u2 : U.cell? ⟨w.heap.size, 2, none⟩ = some (.int .i64 x.le) := (unhide KAU).c 2 (by simp)
  have u3 : U.cell? ⟨w.heap.size, 3, none⟩ = some (.int .i64 x.mo) := (unhide KAU).c 3 (by simp)
  have u4 : U.cell? ⟨w.heap.size, 4, none⟩ = some (.int .i64 x.ne) := (unhide KAU).c 4 (by simp)
  have u5 : U.cell? ⟨w.heap.size, 5, none⟩ = some (.slice (some ⟨w.heap.size + 1 + 1, 0, none⟩) x.d.n x.d.n) := (unhide KAU).c 5 (by simp)
  rw [hU] at u0 u1 u2 u3 u4 u5 KXU BU OU
  clear hin KA KX BW bV hown hWs hW KAV KXV OV BV KAU hU W
  go_enter Tryz.func45, Tryz.ntmps45
  go_wp2_with ((with_reducible show wpList _ _ _ (⟨none, .store 32 _ _, _, _, _, none⟩ :: _) _ _); refine at_storeAgg (us := [.string ⟨#[]⟩, .int .i64 0, .int .i64 0, .int .i64 0, .int .i64 0, .slice none 0 0]) (vs := [.string x.p, .int .i64 x.nb, .int .i64 x.le, .int .i64 x.mo, .int .i64 x.ne, .slice (some ⟨w.heap.size + 1 + 1, 0, none⟩) x.d.n x.d.n]) Tryz.sizeOf32 rfl rfl (unhide KXU) rfl (by intro v hv; simp at hv; rcases hv with rfl | rfl | rfl | rfl | rfl | rfl <;> rfl) ?_; intro w5 kk gg)
  have BE : Below w.heap.size w w5 := (unhide BU).grown gg (unhide BU).size (fun q hq => by cases hq; omega)
  have OE := (unhide OU).far gg (fun g hg e => by simp [Value.ownBlock] at hg; cases e; omega)
  exact bodyPost_ret (results_cell (vs := [.string x.p, .int .i64 x.nb, .int .i64 x.le, .int .i64 x.mo, .int .i64 x.ne, .slice (some ⟨w.heap.size + 1 + 1, 0, none⟩) x.d.n x.d.n]) rfl Tryz.isAgg32 Tryz.sizeOf32 rfl kk) rfl ⟨⟨_, rfl, OE⟩, BE⟩

end Go.Proofs.YtemodlgmjgdjpaaGreatDoor

namespace Go.Proofs.YtemodlgmjgdjpaaGreatDoor
open Go Go.RowKit

theorem OwnLd.far {w w' : World} {base : Nat} {v : Value} {us : List Lx} {row : Option Nat} (h : OwnLd w base v us) (k : w.grownBy w' row) (hne : ∀ g, base ≤ g → some g ≠ row) : OwnLd w' base v us :=
  ⟨h.out.far k (fun g hg => hne g (h.out.lies g hg).1), fun i hi => (h.dat i hi).far k (fun g hg => hne g ((h.dat i hi).lies g hg).1), h.apt, h.par⟩
set_option maxRecDepth 20000 in
set_option maxHeartbeats 4000000 in
theorem copiedA_any (s : Int) (a1 : Option Addr) (l1 c1 : Nat) (zs : List Lc) (w : World) (hr : LsT w a1 l1 zs) (hlz : LzB zs) :
    Calls Tryz.prog 38 #[.agg #[.int .i64 s, .slice a1 l1 c1]] w fun e w' => (∃ g c, e = .returned (.agg #[.int .i64 s, .slice (some ⟨g, 0, none⟩) l1 c]) ∧ OwnLT w' (w.heap.size + 2) (.slice (some ⟨g, 0, none⟩) l1 c) zs) ∧ Below w.heap.size w w' := by
  have hzl := hr.len_eq
  have HOK := hide hr.ok
  obtain ⟨ls, e, hl⟩ := hr.ex
  have hz := hl.row.len_eq
  have HO := hide hl.row.six
  have HEL := hide hl.el
  have hsm := hl.row.small
  have HE := hide e
  have HZL := hide hzl
  have HLZ := hide hlz
  have hlm : ls.length ≤ 1048576 := by have := hlz.1; omega
  subst hz
  clear hr hl e hzl hlz
  obtain ⟨W, hW⟩ : ∃ W, W = (w.alloc (Obj.cells #[.int .i64 s, .slice a1 ls.length c1] 26)).alloc (Obj.cells #[.int .i64 0, .slice none 0 0] 26) := ⟨_, rfl⟩
  have K0 : Blk W w.heap.size [.int .i64 s, .slice a1 ls.length c1] := by rw [hW]; exact (Blk.new _ _).alloc _
  have K1 : Blk W (w.heap.size + 1) [.int .i64 0, .slice none 0 0] := by
    rw [hW]
    have := Blk.new (w := (w.alloc (Obj.cells #[.int .i64 s, .slice a1 ls.length c1] 26))) [.int .i64 0, .slice none 0 0] 26
    simpa using this
  have B0 : Below w.heap.size w W := by rw [hW]; exact bel2 _ _
  have hWs : W.heap.size = w.heap.size + 1 + 1 := by rw [hW]; simp
  obtain ⟨W2, hW2⟩ : ∃ W2, W2 = W.alloc (Obj.cells #[] 32) := ⟨_, rfl⟩
  have S0 : Hid (CpS w (w.heap.size + 2) [.int .i64 s, .slice a1 ls.length c1] [.int .i64 0, .slice none 0 0] W2 (.slice (some ⟨w.heap.size + 1 + 1, 0, none⟩) 0 0) []) := hide ⟨by
    have := ownLd_none (w := W) (base := w.heap.size + 2) (by omega)
    rw [hWs] at this; rw [hW2]; exact this, by rw [hW2]; exact K0.alloc _, by rw [hW2]; exact K1.alloc _, by rw [hW2]; exact B0.trans ((bel1 _).mono B0.size), by omega, by rw [hW2]; simp; omega⟩
  have g0 : W2.cell? ⟨w.heap.size, 1, none⟩ = some (.slice a1 ls.length c1) := (unhide S0).k0.c 1 (by simp)
  rw [hW2, hW] at g0
  have HW : Hid (W2 = ((w.alloc (Obj.cells #[.int .i64 s, .slice a1 ls.length c1] 26)).alloc (Obj.cells #[.int .i64 0, .slice none 0 0] 26)).alloc (Obj.cells #[] 32)) := hide (by rw [hW2, hW])
  clear hW K0 K1 B0 hWs hW2 W
  go_enter Tryz.func38, Tryz.ntmps38
  go_wp2_with fail
  rw [← unhide HW]
  clear HW g0
  go_loopw [3, 10] (fun v i wr => ∃ (k g c : Nat) (us : List Lx), v = .slice (some ⟨g, 0, none⟩) k c ∧ i = .int .i64 k ∧ k ≤ ls.length ∧ Hid (us.map lxW = zs.take k) ∧ Hid (CpS w (w.heap.size + 2) [.int .i64 s, .slice a1 ls.length c1] [.int .i64 0, .slice none 0 0] wr (.slice (some ⟨g, 0, none⟩) k c) us)) (fun _ i _ => ls.length - (intOf i).toNat)
  case atStart => exact ⟨0, _, 0, [], rfl, rfl, Nat.zero_le _, hide rfl, S0⟩
  case round =>
    clear S0
    obtain ⟨k, g, c, us, rfl, rfl, hk, HM, SS⟩ := hrel
    by_cases hlt : k < ls.length
    · rcases (unhide HO) with ⟨h0, _⟩ | ⟨bb, off, rfl, _, hc⟩
      · omega
      obtain ⟨x, hx⟩ : ∃ x, elAt ls k = x := ⟨_, rfl⟩
      have el : elAt zs k = lxW x := by rw [← hx]; exact elAt_lx (unhide HE) hlt
      have hin := (unhide HEL) k hlt
      have q := hc k hlt
      rw [hx] at hin q
      have cl := fun {p : Addr} {v : Value} (h : w.cell? p = some v) => ((unhide SS).bel.cell (p := p) (block_lt_of_cell h)).trans h
      have s0 := cl q.1
      have s1 := cl q.2.1
      have s2 := cl q.2.2.1
      have s3 := cl q.2.2.2.1
      have s4 := cl q.2.2.2.2.1
      have s5 := cl q.2.2.2.2.2
      have hi1 : (k : Int) < (ls.length : Int) := by omega
      have hi0 : (0 : Int) ≤ (k : Int) := by omega
      have hzk : k < zs.length := by have := unhide HZL; omega
      have hdn : x.d.n ≤ 1048576 := by
        have h2 := (unhide HLZ).2 k hzk
        rw [el] at h2
        have h3 := hin.sl.row.len_eq
        have h2 : x.d.zs.length ≤ 1048576 := h2
        omega
      have HNX : Hid (zs.take (k + 1) = zs.take k ++ [lxW x]) := hide (by rw [cp_take hzk, el])
      have HIN := hide hin
      clear q cl hx hc hin el hzk
      have HL : Hid (us.length = k) := hide (ownLd_len (unhide SS).own)
      have bV := bel1 (w := wr) (Obj.cells #[.string x.p, .int .i64 x.nb, .int .i64 x.le, .int .i64 x.mo, .int .i64 x.ne, .slice x.d.a x.d.n x.d.c] 32)
      have CC : Hid (Calls Tryz.prog 45 #[.agg #[.string x.p, .int .i64 x.nb, .int .i64 x.le, .int .i64 x.mo, .int .i64 x.ne, .slice x.d.a x.d.n x.d.c]] (wr.alloc (Obj.cells #[.string x.p, .int .i64 x.nb, .int .i64 x.le, .int .i64 x.mo, .int .i64 x.ne, .slice x.d.a x.d.n x.d.c] 32)) fun e w' => (∃ G, e = .returned (.agg #[.string x.p, .int .i64 x.nb, .int .i64 x.le, .int .i64 x.mo, .int .i64 x.ne, .slice (some ⟨G, 0, none⟩) x.d.n x.d.n]) ∧ OwnE 1 byC w' (wr.alloc (Obj.cells #[.string x.p, .int .i64 x.nb, .int .i64 x.le, .int .i64 x.mo, .int .i64 x.ne, .slice x.d.a x.d.n x.d.c] 32)).heap.size 5 (.slice (some ⟨G, 0, none⟩) x.d.n x.d.n) x.d.zs) ∧ Below (wr.alloc (Obj.cells #[.string x.p, .int .i64 x.nb, .int .i64 x.le, .int .i64 x.mo, .int .i64 x.ne, .slice x.d.a x.d.n x.d.c] 32)).heap.size (wr.alloc (Obj.cells #[.string x.p, .int .i64 x.nb, .int .i64 x.le, .int .i64 x.mo, .int .i64 x.ne, .slice x.d.a x.d.n x.d.c] 32)) w') := hide (copiedL_any x _ ⟨(unhide HIN).sl.below ((unhide SS).bel.trans (bV.mono (unhide SS).bel.size)), (unhide HIN).sz⟩ hdn)
      have BV := hide bV
      clear bV HIN
      go_wp2_with (first
        | (go_at_call 45; refine (unhide CC).mono ?_; rintro e w2 ⟨⟨G, rfl, od⟩, b2⟩; have B2 : Hid (Below wr.heap.size wr w2) := hide ((unhide BV).trans (b2.mono (unhide BV).size)); have OD : Hid (OwnE 1 byC w2 wr.heap.size 5 (.slice (some ⟨G, 0, none⟩) x.d.n x.d.n) x.d.zs) := hide (od.mono (by simp)); clear b2 od)
        | (at_builtin; refine wpList_app_lxB rfl _ _ rfl (⟨x.p, x.nb, x.le, x.mo, x.ne, ⟨some ⟨G, 0, none⟩, x.d.n, x.d.n, x.d.zs⟩⟩ : Lx) (((unhide SS).below (unhide B2)).below (bel1 _)).own.out (unhide HL) rfl rfl (fun j hj => (Blk.new (w := w2) [.string x.p, .int .i64 x.nb, .int .i64 x.le, .int .i64 x.mo, .int .i64 x.ne, .slice (some ⟨G, 0, none⟩) x.d.n x.d.n] 32).c j (by simpa using hj) |>.trans (by match j, hj with | 0, _ => rfl | 1, _ => rfl | 2, _ => rfl | 3, _ => rfl | 4, _ => rfl | 5, _ => rfl)) (by have := (((unhide SS).below (unhide B2)).below (bel1 (Obj.cells #[.string x.p, .int .i64 x.nb, .int .i64 x.le, .int .i64 x.mo, .int .i64 x.ne, .slice (some ⟨G, 0, none⟩) x.d.n x.d.n] 32))).hb; omega) (by omega) ?_; intro g9 c9 w9 o9 gr9 hg9))
      have NX : Hid (CpS w (w.heap.size + 2) [.int .i64 s, .slice (some ⟨bb, off, none⟩) ls.length c1] [.int .i64 0, .slice none 0 0] w9 (.slice (some ⟨g9, 0, none⟩) (k + 1) c9) (us ++ [(⟨x.p, x.nb, x.le, x.mo, x.ne, ⟨some ⟨G, 0, none⟩, x.d.n, x.d.n, x.d.zs⟩⟩ : Lx)])) := hide ((unhide SS).push ((unhide B2).trans ((bel1 _).mono (unhide B2).size)) ((unhide OD).below (bel1 _)) o9 gr9 hg9)
      have NM : Hid ((us ++ [(⟨x.p, x.nb, x.le, x.mo, x.ne, ⟨some ⟨G, 0, none⟩, x.d.n, x.d.n, x.d.zs⟩⟩ : Lx)]).map lxW = zs.take (k + 1)) := hide (by rw [List.map_append, unhide HM, unhide HNX]; rfl)
      clear o9 gr9 hg9 CC BV B2 OD SS
      go_roundw
      case rel => exact ⟨k + 1, g9, c9, _, rfl, by go_num, by omega, NM, NX⟩
      case measure => simp [intOf]; omega
    · have hi1 : ¬ (k : Int) < (ls.length : Int) := by omega
      obtain rfl : k = ls.length := by omega
      have HMF : Hid (us.map lxW = zs) := hide (by have h := unhide HM; rw [← unhide HZL, List.take_length] at h; exact h)
      have f1 : wr.frozen? ⟨w.heap.size, 1, none⟩ = false := (unhide SS).k0.f 1 (by simp)
      have c1w : wr.cell? ⟨w.heap.size, 1, none⟩ = some (.slice a1 ls.length c1) := (unhide SS).k0.c 1 (by simp)
      obtain ⟨U, hU⟩ : ∃ U, U = wr.setCell ⟨w.heap.size, 1, none⟩ (.slice (some ⟨g, 0, none⟩) ls.length c) := ⟨_, rfl⟩
      have KAU : Blk U w.heap.size [.int .i64 s, .slice (some ⟨g, 0, none⟩) ls.length c] := by rw [hU]; exact (unhide SS).k0.set 1 (by simp) _
      have KXU : Hid (Blk U (w.heap.size + 1) [.int .i64 0, .slice none 0 0]) := hide (by rw [hU]; exact (unhide SS).k1.other (by simp) _)
      have OU : Hid (OwnLd U (w.heap.size + 2) (.slice (some ⟨g, 0, none⟩) ls.length c) us) := hide (by rw [hU]; exact (unhide SS).own.set_low (by omega) _)
      have BU : Hid (Below w.heap.size w U) := hide (by rw [hU]; exact (unhide SS).bel.setCell (by simp) _)
      have u0 : U.cell? ⟨w.heap.size, 0, none⟩ = some (.int .i64 s) := KAU.c 0 (by simp)
      have u1 : U.cell? ⟨w.heap.size, 1, none⟩ = some (.slice (some ⟨g, 0, none⟩) ls.length c) := KAU.c 1 (by simp)
      rw [hU] at u0 u1 KXU BU OU
      clear SS KAU hU HM U hk hlt
      go_wp2_with ((with_reducible show wpList _ _ _ (⟨none, .store 26 _ _, _, _, _, none⟩ :: _) _ _); refine at_storeAgg (us := [.int .i64 0, .slice none 0 0]) (vs := [.int .i64 s, .slice (some ⟨g, 0, none⟩) ls.length c]) Tryz.sizeOf26 rfl rfl (unhide KXU) rfl (by intro v hv; simp at hv; rcases hv with rfl | rfl <;> rfl) ?_; intro w5 kk gg)
      have BE : Below w.heap.size w w5 := (unhide BU).grown gg (unhide BU).size (fun q hq => by cases hq; omega)
      have OE := (unhide OU).far gg (fun q hq e => by cases e; omega)
      exact bodyPost_ret (results_cell (vs := [.int .i64 s, .slice (some ⟨g, 0, none⟩) ls.length c]) rfl Tryz.isAgg26 Tryz.sizeOf26 rfl kk) rfl ⟨⟨_, _, rfl, cp_ok (unhide HMF) (unhide HOK) OE⟩, BE⟩

end Go.Proofs.YtemodlgmjgdjpaaGreatDoor

/-
  A list of whole numbers that make has made, as an equation for the walk, and as it reads. At lists of at most 1048576.
  Three lists of whole numbers that a call has made, apart from each other and from a variable: what stays, what a store turns. No condition.
  What the model's RunJobs answers: the plain answer, in memory of its own; nothing that was there is written.
  What RunJobs answers, of both sides, as the laws want it. No condition.
-/
import Derived.Test.YtndhiecakojjgafBlk1
import Derived.Test.YtndhiecakojjgafOwn1
import Derived.Laws.MakeOwn
import Derived.Laws.OwnMore
import Derived.Test.YtndhiecakojjgafRw1
import Derived.Test.YtndhiecakojjgafPpOwn
import Derived.Test.YtndhiecakojjgafPpTo

namespace Go.Proofs.Ytndhiecakojjgaf
open Go.RowKit

theorem madeI_run {L : Nat} (hL : L ≤ 1048576) (W : World) :
    (Instr.makeSlice 24 (.int .i64 (L : Int)) (.int .i64 (L : Int))).run Try.prog W = .ok (.slice (some ⟨W.heap.size, 0, none⟩) L L) (W.alloc (.cells (madeCells #[.int .i64 0] L) 3)) := by
  obtain ⟨i0, h0, h1, h2, h3⟩ := info_parts info_int1
  have hbytes : (i0.bytes : Int) * (L : Int) ≤ 281474976710656 := by
    have hm : i0.bytes * L ≤ 8 * 1048576 := Nat.mul_le_mul (by omega) hL
    have : ((i0.bytes * L : Nat) : Int) ≤ 281474976710656 := by omega
    rwa [Int.natCast_mul] at this
  have hr := run_make (P := Try.prog) W 24 3 i0 (.int .i64 0) Try.underlying24 h0 h1 .i64 .i64 (L : Int) (L : Int) (by omega) (Int.le_refl _) hbytes (by omega)
  rw [show (Value.int IntKind.i64 0).cells = #[.int .i64 0] from rfl, h2] at hr
  simpa using hr
theorem nthZ (n i : Nat) : nth (List.replicate n (0 : Int)) i = 0 := by
  unfold nth
  by_cases h : i < n
  · simp [h]
  · have : (List.replicate n (0 : Int))[i]? = none := by simp; omega
    simp [this]
theorem madeI_row (W : World) {L : Nat} (hL : L ≤ 1048576) : Row (W.alloc (.cells (madeCells #[.int .i64 0] L) 3)) (some ⟨W.heap.size, 0, none⟩) L (List.replicate L 0) := by
  have e : madeCells #[.int .i64 0] L = (List.replicate L (Value.int .i64 0)).toArray := by
    apply Array.ext'
    rw [toList_madeCells_one]
  rw [e]
  refine ⟨by simp, by omega, fun i hi => ⟨_, _, rfl, ?_⟩, fun i => by rw [nthZ]; omega⟩
  rw [nthZ, Nat.zero_add]
  have := (Blk.new (w := W) (List.replicate L (Value.int .i64 0)) 3).c i (by simpa using hi)
  rw [this]; simp

end Go.Proofs.Ytndhiecakojjgaf

namespace Go.Proofs.Ytndhiecakojjgaf
open Go.RowKit

theorem madeI_own (W : World) {L base : Nat} (hL : L ≤ 1048576) (hb : base ≤ W.heap.size) : OwnI (W.alloc (.cells (madeCells #[.int .i64 0] L) 3)) base (.slice (some ⟨W.heap.size, 0, none⟩) L L) (List.replicate L 0) := by
  have e : madeCells #[.int .i64 0] L = (List.replicate L (Value.int .i64 0)).toArray := by
    apply Array.ext'
    rw [toList_madeCells_one]
  rw [e]
  refine ⟨⟨List.replicate L (Value.int .i64 0), ?_, fun j hj => ?_⟩, fun i => by rw [nthZ]; omega⟩
  · have := World.ownsRow_lit (base := base) (e := 3) (size := 1) W (List.replicate L (Value.int .i64 0)).toArray L hb (by unfold maxLen; omega) (by simp)
    simpa using this
  · have hj' : j < L := by simpa using hj
    rw [nthZ]
    simp [hj']
theorem OwnI.setN {w : World} {base g n cap : Nat} {zs : List Int} (h : OwnI w base (.slice (some ⟨g, 0, none⟩) n cap) zs) (hn : zs.length = n) {i : Nat} (hi : i < n) {a : Int} (ha : -9223372036854775808 ≤ a ∧ a ≤ 9223372036854775807) : OwnI (w.setCell ⟨g, i, none⟩ (.int .i64 a)) base (.slice (some ⟨g, 0, none⟩) n cap) (zs.set i a) := by
  subst hn
  exact h.set i hi a ha
structure RjM (w wr : World) (vs : List Value) (ga gb gc n : Nat) (A B C : List Int) : Prop where
  a : OwnI wr w.heap.size (.slice (some ⟨ga, 0, none⟩) n n) A
  b : OwnI wr w.heap.size (.slice (some ⟨gb, 0, none⟩) n n) B
  c : OwnI wr w.heap.size (.slice (some ⟨gc, 0, none⟩) n n) C
  la : A.length = n
  lb : B.length = n
  lc : C.length = n
  lt : w.heap.size < ga ∧ ga < gb ∧ gb < gc
  blk : Blk wr w.heap.size vs
  bel : Below w.heap.size w wr
theorem RjM.below {w wr w' : World} {vs : List Value} {ga gb gc n : Nat} {A B C : List Int} (k : RjM w wr vs ga gb gc n A B C) (b : Below wr.heap.size wr w') : RjM w w' vs ga gb gc n A B C :=
  ⟨k.a.below b, k.b.below b, k.c.below b, k.la, k.lb, k.lc, k.lt, k.blk.below b, k.bel.trans (b.mono k.bel.size)⟩
theorem RjM.cells {w wr : World} {vs : List Value} {ga gb gc n : Nat} {A B C : List Int} (k : RjM w wr vs ga gb gc n A B C) {i : Nat} (hi : i < n) : (wr.cell? ⟨ga, i, none⟩ = some (.int .i64 (nth A i)) ∧ wr.frozen? ⟨ga, i, none⟩ = false) ∧ (wr.cell? ⟨gb, i, none⟩ = some (.int .i64 (nth B i)) ∧ wr.frozen? ⟨gb, i, none⟩ = false) ∧ (wr.cell? ⟨gc, i, none⟩ = some (.int .i64 (nth C i)) ∧ wr.frozen? ⟨gc, i, none⟩ = false) := by
  have a := k.a
  have b := k.b
  have c := k.c
  have la := k.la
  have lb := k.lb
  have lc := k.lc
  refine ⟨?_, ?_, ?_⟩
  · rw [← la] at a; exact a.here i (by omega)
  · rw [← lb] at b; exact b.here i (by omega)
  · rw [← lc] at c; exact c.here i (by omega)
theorem RjM.setA {w wr : World} {vs : List Value} {ga gb gc n : Nat} {A B C : List Int} (k : RjM w wr vs ga gb gc n A B C) {i : Nat} (hi : i < n) {x : Int} (hx : -9223372036854775808 ≤ x ∧ x ≤ 9223372036854775807) : RjM w (wr.setCell ⟨ga, i, none⟩ (.int .i64 x)) vs ga gb gc n (A.set i x) B C := by
  refine ⟨?_, ?_, ?_, ?_, ?_, ?_, k.lt, k.blk.other (p := ⟨ga, i, none⟩) (by have := k.lt; show ga ≠ w.heap.size; omega) _, k.bel.setCell (p := ⟨ga, i, none⟩) (by have := k.lt; show w.heap.size ≤ ga; omega) _⟩
  · exact k.a.setN k.la hi hx
  · exact k.b.set_other _ (by intro e; simp only [Value.ownBlock, Option.some.injEq] at e; have := k.lt; omega)
  · exact k.c.set_other _ (by intro e; simp only [Value.ownBlock, Option.some.injEq] at e; have := k.lt; omega)
  · simpa using k.la
  · exact k.lb
  · exact k.lc
theorem RjM.setB {w wr : World} {vs : List Value} {ga gb gc n : Nat} {A B C : List Int} (k : RjM w wr vs ga gb gc n A B C) {i : Nat} (hi : i < n) {x : Int} (hx : -9223372036854775808 ≤ x ∧ x ≤ 9223372036854775807) : RjM w (wr.setCell ⟨gb, i, none⟩ (.int .i64 x)) vs ga gb gc n A (B.set i x) C := by
  refine ⟨?_, ?_, ?_, ?_, ?_, ?_, k.lt, k.blk.other (p := ⟨gb, i, none⟩) (by have := k.lt; show gb ≠ w.heap.size; omega) _, k.bel.setCell (p := ⟨gb, i, none⟩) (by have := k.lt; show w.heap.size ≤ gb; omega) _⟩
  · exact k.a.set_other _ (by intro e; simp only [Value.ownBlock, Option.some.injEq] at e; have := k.lt; omega)
  · exact k.b.setN k.lb hi hx
  · exact k.c.set_other _ (by intro e; simp only [Value.ownBlock, Option.some.injEq] at e; have := k.lt; omega)
  · exact k.la
  · simpa using k.lb
  · exact k.lc
theorem RjM.setC {w wr : World} {vs : List Value} {ga gb gc n : Nat} {A B C : List Int} (k : RjM w wr vs ga gb gc n A B C) {i : Nat} (hi : i < n) {x : Int} (hx : -9223372036854775808 ≤ x ∧ x ≤ 9223372036854775807) : RjM w (wr.setCell ⟨gc, i, none⟩ (.int .i64 x)) vs ga gb gc n A B (C.set i x) := by
  refine ⟨?_, ?_, ?_, ?_, ?_, ?_, k.lt, k.blk.other (p := ⟨gc, i, none⟩) (by have := k.lt; show gc ≠ w.heap.size; omega) _, k.bel.setCell (p := ⟨gc, i, none⟩) (by have := k.lt; show w.heap.size ≤ gc; omega) _⟩
  · exact k.a.set_other _ (by intro e; simp only [Value.ownBlock, Option.some.injEq] at e; have := k.lt; omega)
  · exact k.b.set_other _ (by intro e; simp only [Value.ownBlock, Option.some.injEq] at e; have := k.lt; omega)
  · exact k.c.setN k.lc hi hx
  · exact k.la
  · exact k.lb
  · simpa using k.lc

end Go.Proofs.Ytndhiecakojjgaf

namespace Go.Proofs.Ytndhiecakojjgaf
open Go.RowKit

theorem jb_no {pa : Int} {x0 x1 x2 : Int} : jbB pa ⟨x0, x1, x2⟩ = (inB x0 0 (pa - 1) && inB x1 1 100000 && inB x2 1 100000) := rfl
theorem rjBe_yes {js : List Jb} {lf cm : List Int} {who N : Int} {k : Nat} (hN : rjBe js lf cm who k = N) (h0 : (elAt js k).a0 = who) (h3 : 0 < nth lf k) (h : N < 0 ∨ nth cm k < nth cm N.toNat) : rjBe js lf cm who (k + 1) = (k : Int) := by
  rw [rjBe, hN, if_pos ⟨h0, h3, h⟩]
theorem rjBe_no {js : List Jb} {lf cm : List Int} {who N : Int} {k : Nat} (hN : rjBe js lf cm who k = N) (h : ¬ ((elAt js k).a0 = who ∧ 0 < nth lf k ∧ (N < 0 ∨ nth cm k < nth cm N.toNat))) : rjBe js lf cm who (k + 1) = N := by
  rw [rjBe, hN, if_neg h]
theorem rjGo_none {js : List Jb} {who t : Int} {s : RjS} (hw : ¬ 0 ≤ who) (e : rjBe js (rjLf js t s.lf js.length) (rjCm js t s.cm js.length) who js.length = -1) : rjGo js who t s = ⟨rjLt js t s.lt s.lf js.length, rjLf js t s.lf js.length, rjCm js t s.cm js.length, s.idl⟩ := by
  unfold rjGo
  rw [e, if_neg (by omega), if_neg hw]
theorem rj_step_no {js : List Jb} {t : Int} {lt lf cm : List Int} {k : Nat} (h : ¬ t % (elAt js k).a1 = 0) : rjLt js t lt lf (k + 1) = rjLt js t lt lf k ∧ rjLf js t lf (k + 1) = rjLf js t lf k ∧ rjCm js t cm (k + 1) = rjCm js t cm k := by
  have e : rjC js t k = false := by rw [rjC]; exact decide_eq_false h
  simp [rjLt, rjLf, rjCm, e]
theorem rj_step_late {js : List Jb} {t : Int} {lt lf cm : List Int} {k : Nat} (h : t % (elAt js k).a1 = 0) (h2 : 0 < nth lf k) : rjLt js t lt lf (k + 1) = (rjLt js t lt lf k).set k (nth lt k + 1) ∧ rjLf js t lf (k + 1) = (rjLf js t lf k).set k (elAt js k).a2 ∧ rjCm js t cm (k + 1) = (rjCm js t cm k).set k t := by
  have e : rjC js t k = true := by rw [rjC]; exact decide_eq_true h
  simp [rjLt, rjLf, rjCm, e, h2]
theorem rj_step_fine {js : List Jb} {t : Int} {lt lf cm : List Int} {k : Nat} (h : t % (elAt js k).a1 = 0) (h2 : ¬ 0 < nth lf k) : rjLt js t lt lf (k + 1) = rjLt js t lt lf k ∧ rjLf js t lf (k + 1) = (rjLf js t lf k).set k (elAt js k).a2 ∧ rjCm js t cm (k + 1) = (rjCm js t cm k).set k t := by
  have e : rjC js t k = true := by rw [rjC]; exact decide_eq_true h
  simp [rjLt, rjLf, rjCm, e, h2]


end Go.Proofs.Ytndhiecakojjgaf

namespace Go.Proofs.Ytndhiecakojjgaf
open Go.RowKit

theorem rjL_len (fr pa : Int) (ws : List Wn) (js : List Jb) (tk : Int) : (rjL fr pa ws js tk).length ≤ 20 := by
  cases h : rjB fr pa ws js tk with
  | false => rw [(rj_no h).1]; simp
  | true =>
    have f := rjB_facts h
    rw [(rj_yes h).1, (rjT_in (fun k hk => (f.2.2.2 k hk).2.2) tk.toNat).lt.1]
    exact f.2.1
theorem implRunJobs_any (fr pa : Int) (da : Option Addr) (dn dc : Nat) (ws : List Wn) (ja : Option Addr) (jn jc : Nat) (js : List Jb) (tk : Int) (w : World) (hr : PpIn w da dn ws) (hrj : RowE 3 jbC w ja jn js) : Calls Try.prog 30 #[.agg #[.int .i64 fr, .int .i64 pa, .slice da dn dc], .slice ja jn jc, .int .i64 tk] w fun e w' => ∃ (a1 : Option Addr) (c1 : Nat), e = .returned (.tuple #[.slice a1 (rjL fr pa ws js tk).length c1, .int .i64 (rjI fr pa ws js tk), .bool (rjB fr pa ws js tk)]) ∧ OwnI w' w.heap.size (.slice a1 (rjL fr pa ws js tk).length c1) (rjL fr pa ws js tk) ∧ Below w.heap.size w w' := implRunJobs_is fr pa da dn dc ws ja jn jc js tk w hr.r1 hrj

end Go.Proofs.Ytndhiecakojjgaf

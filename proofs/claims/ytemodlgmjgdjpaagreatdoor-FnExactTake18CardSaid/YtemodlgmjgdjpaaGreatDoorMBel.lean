/-
  A region that draws its order, whose own operations only read and whose callees answer one plain value and make memory only: one walk, in the order of the text, serves every order. The class of worlds: those in which nothing that was there has turned. No condition.
  A whole struct or array that lies in a block of its own, loaded and stored in one step of a walk. No condition.
  Rules of warnings as a Lean structure: a name, a rank, the phases in which it is quiet, whether it latches, what it needs. No program here.
  Rules of warnings in plain terms: which one has a name, whether they are so, which are quiet in a phase, how loud names are. No program here.
  The law's text of a mark: a number's decimals, one text for each number. At numbers of 1 to 1000000000; nothing that was there is written.
-/
import Derived.Test.YtemodlgmjgdjpaaGreatDoorMBase
import Derived.Deep.Quiet
import Derived.Test.YtemodlgmjgdjpaaGreatDoorChecked
import Derived.Test.YtemodlgmjgdjpaaGreatDoorMMake
import Derived.Laws.Cells
import Derived.Laws.IdiomCopy
import Derived.Test.YtemodlgmjgdjpaaGreatDoorMLowPure
import Derived.Test.YtemodlgmjgdjpaaGreatDoorMRowE
import Derived.Laws.IdiomStrings
import Derived.Laws.Concat

namespace Go.Proofs.YtemodlgmjgdjpaaGreatDoor
open Go.RowKit

/-- The worlds in which nothing that was there in w has turned, as the values of a function. -/
theorem belClass (w : World) : ∃ (ι : Type) (f : ι → World), Nonempty ι ∧ (∀ x, Below w.heap.size w (f x)) ∧ (∀ w', Below w.heap.size w w' → ∃ x, w' = f x) :=
  ⟨{w' // Below w.heap.size w w'}, Subtype.val, ⟨⟨w, Below.refl _ _⟩⟩, fun x => x.2, fun w' h => ⟨⟨w', h⟩, rfl⟩⟩

theorem wp_region_bel {P : Program} {id : Nat} {Q : Exit → Act → World → Prop} {a : Act} {w : World} {l : List Oper} {ι : Type} {f : ι → World} (hall : ∀ w', Below w.heap.size w w' → ∃ x, w' = f x)
    (hm : P.follows .mixedOrders = true) (hB : Region.lexB .any l.toArray = true)
    (h : wpQuiet P l.toArray (fun w' => ∃ x, w' = f x) (fun a' => ∀ w', (∃ x, w' = f x) → Q .normal a' w') l a) : (Code.region id l.toArray true).wp P Q a w :=
  wp_region_quiet (C := fun w' => ∃ x, w' = f x) hm hB (hall _ ⟨rfl, rfl, rfl, Nat.le_refl _, fun _ _ => rfl⟩) (by simpa using h)

/-- A callee's contract in such a walk. -/
theorem belQ {P : Program} {F : FuncId} {args : Array Value} {w : World} {ι : Type} {f : ι → World} (hb : ∀ x, Below w.heap.size w (f x)) (hall : ∀ w', Below w.heap.size w w' → ∃ x, w' = f x) {x : ι} {v : Value}
    (h : Calls P F args (f x) fun e w' => e = .returned v ∧ Below (f x).heap.size (f x) w') : Calls P F args (f x) fun e w'' => e = .returned v ∧ ∃ y, w'' = f y :=
  h.mono fun _ _ ⟨he, k⟩ => ⟨he, hall _ ((hb x).trans (k.mono (hb x).size))⟩
theorem belS {P : Program} {F : FuncId} {args : Array Value} {ι : Type} {f : ι → World} {x : ι} {v : Value}
    (h : Calls P F args (f x) fun e w' => e = .returned v ∧ w' = f x) : Calls P F args (f x) fun e w'' => e = .returned v ∧ ∃ y, w'' = f y :=
  h.mono fun _ _ ⟨he, k⟩ => ⟨he, x, k⟩
theorem belN {P : Program} {F : FuncId} {args : Array Value} {w : World} {ι : Type} {f : ι → World} (hb : ∀ x, Below w.heap.size w (f x)) (hall : ∀ w', Below w.heap.size w w' → ∃ x, w' = f x) {x : ι} {v : Value}
    (h : Calls P F args (f x) fun e w' => e = .returned v ∧ ∃ n, w' = (f x).drewN n) : Calls P F args (f x) fun e w'' => e = .returned v ∧ ∃ y, w'' = f y :=
  h.mono fun _ _ ⟨he, n, k⟩ => ⟨he, hall _ (by rw [k]; exact (hb x).trans (bel0d' n))⟩

end Go.Proofs.YtemodlgmjgdjpaaGreatDoor

namespace Go.Proofs.YtemodlgmjgdjpaaGreatDoor
open Go.RowKit

theorem addr0 (B j : Nat) : (⟨B, 0, none⟩ : Addr).add j = ⟨B, j, none⟩ := by unfold Addr.add; simp; exact fun h => h.symm
theorem run_loadVar {t : TypeId} {w : World} {B : Nat} {vs : List Value} (hA : ∀ w, (isAgg t).run Tryz.prog w = .ok true w) (hZ : ∀ w, (Go.sizeOf t).run Tryz.prog w = .ok vs.length w) (hb : Blk w B vs) :
    (loadVar t ⟨B, 0, none⟩).run Tryz.prog w = .ok (.agg vs.toArray) w := by
  have hl := run_loadCells_list (P := Tryz.prog) (w := w) ⟨B, 0, none⟩ vs (fun j v hj => by
    obtain ⟨h, e⟩ := List.getElem?_eq_some_iff.1 hj
    rw [addr0, ← e]; exact hb.c j h)
  unfold loadVar
  simp [hA, hZ, hl]
theorem Blk.setCells {w : World} {B : Nat} {us vs : List Value} (h : Blk w B us) (hl : us.length = vs.length) : Blk (w.setCells B 0 vs) B vs ∧ w.grownBy (w.setCells B 0 vs) (some B) := by
  have gr : ∀ (vs : List Value) (o : Nat) (w : World), w.grownBy (w.setCells B o vs) (some B) := by
    intro vs
    induction vs with
    | nil => intro o w; exact ⟨rfl, rfl, rfl, Nat.le_refl _, fun _ _ _ => rfl⟩
    | cons v r ih =>
      intro o w
      have h1 := ih (o + 1) (w.setCell ⟨B, o, none⟩ v)
      refine ⟨h1.os, h1.tape, h1.output, Nat.le_trans (by simp [World.setCell]) h1.size, fun k hk hne => ?_⟩
      have hkB : k ≠ B := fun e => hne (by rw [e])
      exact (h1.block k (by simpa [World.setCell] using hk) hne).trans (Below.heap_setCell _ _ _ _ hkB)
  refine ⟨⟨fun i hi => ?_, fun i hi => ?_, Nat.lt_of_lt_of_le h.lt (gr vs 0 w).size⟩, gr vs 0 w⟩
  · have := World.cell?_setCells_in B vs 0 w (fun j hj => by rw [Nat.zero_add, h.c j (by omega)]; rfl) i hi
    simpa using this
  · rw [World.frozen?_setCells]; exact h.f i (by omega)
theorem run_storeVar {t : TypeId} {w : World} {B : Nat} {us vs : List Value} (hZ : ∀ w, (Go.sizeOf t).run Tryz.prog w = .ok vs.length w) (hl : us.length = vs.length) (h1 : ∀ v ∈ vs, v.oneCell' = true) (hb : Blk w B us) :
    (storeVar t ⟨B, 0, none⟩ (.agg vs.toArray)).run Tryz.prog w = .ok () (w.setCells B 0 vs) := by
  have hs := run_storeCells_cells (P := Tryz.prog) B 0 vs 0 w (fun j hj => by rw [show 0 + 0 + j = j by omega, hb.c j (by omega)]; rfl) (fun j hj => by rw [show 0 + 0 + j = j by omega]; exact hb.f j (by omega)) h1
  unfold storeVar
  simp [hZ, Value.cells, hs]

theorem at_loadAgg {ops : Array Oper} {rest : List Oper} {d : Option Tmp} {t ty : TypeId} {s : Operand} {pos : String} {af : Array Edge} {a : Act} {Q : Exit → Act → World → Prop} {w : World} {B : Nat} {vs : List Value}
    (hA : ∀ w, (isAgg t).run Tryz.prog w = .ok true w) (hZ : ∀ w, (Go.sizeOf t).run Tryz.prog w = .ok vs.length w) (hs : a.eval s = .pointer (some ⟨B, 0, none⟩)) (hb : Blk w B vs)
    (hK : wpList Tryz.prog ops Q rest (a.put d (.agg vs.toArray)) w) : wpList Tryz.prog ops Q (⟨d, .load t s, ty, pos, af, none⟩ :: rest) a w := by
  refine wpList_plain rfl fun K hK' => ?_
  have hr := run_loadVar hA hZ hb
  unfold Oper.wp
  simp [execOp, hs, Instr.loadAt, Instr.sureAddr, hr, Result.andThen]
  exact hK' _ _ hK
theorem at_storeAgg {ops : Array Oper} {rest : List Oper} {t ty : TypeId} {s x : Operand} {pos : String} {af : Array Edge} {a : Act} {Q : Exit → Act → World → Prop} {w : World} {B : Nat} {us vs : List Value}
    (hZ : ∀ w, (Go.sizeOf t).run Tryz.prog w = .ok vs.length w) (hs : a.eval s = .pointer (some ⟨B, 0, none⟩)) (hx : a.eval x = .agg vs.toArray) (hb : Blk w B us) (hl : us.length = vs.length) (h1 : ∀ v ∈ vs, v.oneCell' = true)
    (hK : ∀ w2, Blk w2 B vs → w.grownBy w2 (some B) → wpList Tryz.prog ops Q rest a w2) : wpList Tryz.prog ops Q (⟨none, .store t s x, ty, pos, af, none⟩ :: rest) a w := by
  refine wpList_plain rfl fun K hK' => ?_
  have hr := run_storeVar hZ hl h1 hb
  have h2 := hb.setCells hl
  unfold Oper.wp
  simp [execOp, hs, hx, Instr.storeAt, Instr.sureAddr, hr, Result.andThen]
  exact hK' _ _ (hK _ h2.1 h2.2)

/-- A result that stands in such a block. -/
theorem results_cell {fn : Func} {p : Tmp} {t : TypeId} {tmps : Array Value} {w : World} {B : Nat} {vs : List Value} (h : fn.results = #[.cell p t]) (hA : ∀ w, (isAgg t).run Tryz.prog w = .ok true w) (hZ : ∀ w, (Go.sizeOf t).run Tryz.prog w = .ok vs.length w)
    (hp : tmps.getD p undef = .pointer (some ⟨B, 0, none⟩)) (hb : Blk w B vs) : (results fn tmps).run Tryz.prog w = .ok (.agg vs.toArray) w := by
  have hr := run_loadVar hA hZ hb
  have hp' : tmps[p]?.getD undef = .pointer (some ⟨B, 0, none⟩) := by simpa using hp
  simp only [results, h]
  simp [hp', asAddr, hr]

end Go.Proofs.YtemodlgmjgdjpaaGreatDoor

namespace Go.Proofs.YtemodlgmjgdjpaaGreatDoor
open Go

structure Wr where
  n : ByteArray
  r : Int
  q : List Int
  l : Bool
  d : ByteArray
instance : Inhabited Wr := ⟨⟨⟨#[]⟩, 0, [], false, ⟨#[]⟩⟩⟩
/-- The first k phases together. -/
def wrTot (rs : List Wr) : Nat → Nat
  | 0 => 0
  | k + 1 => wrTot rs k + (elAt rs k).q.length
theorem wrTot_mono (rs : List Wr) {k m : Nat} (h : k ≤ m) : wrTot rs k ≤ wrTot rs m := by
  induction m with
  | zero => obtain rfl : k = 0 := by omega
            exact Nat.le_refl _
  | succ m ih =>
    by_cases e : k = m + 1
    · rw [e]; exact Nat.le_refl _
    · exact Nat.le_trans (ih (by omega)) (Nat.le_add_right _ _)

end Go.Proofs.YtemodlgmjgdjpaaGreatDoor

namespace Go.Proofs.YtemodlgmjgdjpaaGreatDoor
open Go

/-- Texts alike. -/
def sEq (x y : ByteArray) : Bool := x.toList == y.toList
/-- The place of the first rule of a name; as many as there are, where there is none. -/
def wfK (rs : List Wr) (s : ByteArray) : Nat := ((List.range rs.length).find? fun i => sEq (elAt rs i).n s).getD rs.length
def wfI (rs : List Wr) (s : ByteArray) : Int := if wfK rs s < rs.length then (wfK rs s : Int) else -1
theorem wfK_here {rs : List Wr} {s : ByteArray} {k : Nat} (hk : k < rs.length) (h : sEq (elAt rs k).n s = true) (hb : ∀ j, j < k → sEq (elAt rs j).n s = false) : wfK rs s = k := by
  unfold wfK
  have : (List.range rs.length).find? (fun i => sEq (elAt rs i).n s) = some k := by
    rw [List.find?_range_eq_some]
    refine ⟨h, by simpa using hk, fun j hj => ?_⟩
    have := hb j hj
    simp [this]
  rw [this]; rfl
theorem wfK_none {rs : List Wr} {s : ByteArray} (hb : ∀ j, j < rs.length → sEq (elAt rs j).n s = false) : wfK rs s = rs.length := by
  unfold wfK
  have : (List.range rs.length).find? (fun i => sEq (elAt rs i).n s) = none := by
    rw [List.find?_eq_none]
    intro j hj
    have := hb j (by simpa using hj)
    simp [this]
  rw [this]; rfl
theorem wfK_le (rs : List Wr) (s : ByteArray) : wfK rs s ≤ rs.length := by
  unfold wfK
  cases e : (List.range rs.length).find? fun i => sEq (elAt rs i).n s with
  | none => simp
  | some k =>
    rw [List.find?_range_eq_some] at e
    have := List.mem_range.1 e.2.1
    simp; omega
/-- Whether a phase is among the quiet ones. -/
def qtB (q : List Int) (ph : Int) : Bool := decide (∃ i, i < q.length ∧ nth q i = ph)
theorem qtB_yes {q : List Int} {ph : Int} {i : Nat} (h : i < q.length) (e : nth q i = ph) : qtB q ph = true := decide_eq_true ⟨i, h, e⟩
theorem qtB_no {q : List Int} {ph : Int} (h : ∀ i, i < q.length → ¬ nth q i = ph) : qtB q ph = false := decide_eq_false (fun ⟨i, hi, e⟩ => h i hi e)
/-- Texts in their order. -/
def sLt (x y : ByteArray) : Bool := Op.bytesLess x.toList y.toList
/-- Whether what a rule needs is so. -/
def wrDB (rs : List Wr) (i : Nat) : Bool := sEq (elAt rs i).d ⟨#[]⟩ || (decide (wfK rs (elAt rs i).d < rs.length) && decide (¬ wfK rs (elAt rs i).d = i) && sEq (elAt rs (wfK rs (elAt rs i).d)).d ⟨#[]⟩)
/-- Whether a rule by itself, and behind the one ahead, is so. -/
def wrSB (rs : List Wr) (i : Nat) : Bool := nameB (elAt rs i).n && (decide (i = 0) || sLt (elAt rs (i - 1)).n (elAt rs i).n) && inB (elAt rs i).r 1 3 && riseB (elAt rs i).q && allB (elAt rs i).q 0 9
def wrAtB (rs : List Wr) (i : Nat) : Bool := wrSB rs i && wrDB rs i
/-- Whether rules are so. -/
def wrB (rs : List Wr) : Bool := decide (∀ i, i < rs.length → wrAtB rs i = true) && decide (rs.length ≤ 30)
theorem wrB_not {rs : List Wr} {i : Nat} (hi : i < rs.length) (h : wrAtB rs i = false) : wrB rs = false := by
  have : ¬ ∀ i, i < rs.length → wrAtB rs i = true := fun k => by have := k i hi; rw [h] at this; cases this
  simp [wrB, this]
theorem wrB_all {rs : List Wr} (h : ∀ i, i < rs.length → wrAtB rs i = true) : wrB rs = decide (rs.length ≤ 30) := by
  have e : decide (∀ i, i < rs.length → wrAtB rs i = true) = true := decide_eq_true h
  unfold wrB; rw [e, Bool.true_and]
/-- The greatest rank of the first k names. -/
def loK (rs : List Wr) (ts : List ByteArray) : Nat → Int
  | 0 => 0
  | k + 1 => if wfK rs (elAt ts k) < rs.length then max (loK rs ts k) (elAt rs (wfK rs (elAt ts k))).r else loK rs ts k
def loB (rs : List Wr) (ts : List ByteArray) : Bool := wrB rs && decide (ts.length ≤ 30)
def loR (rs : List Wr) (ts : List ByteArray) : Int := if loB rs ts = true then loK rs ts ts.length else 0
/-- The names of the first k rules that are quiet in a phase. -/
def inhK (rs : List Wr) (ph : Int) : Nat → List ByteArray
  | 0 => []
  | k + 1 => if qtB (elAt rs k).q ph = true then inhK rs ph k ++ [(elAt rs k).n] else inhK rs ph k
theorem inhK_len (rs : List Wr) (ph : Int) : ∀ k, (inhK rs ph k).length ≤ k
  | 0 => Nat.le_refl _
  | k + 1 => by
    have := inhK_len rs ph k
    unfold inhK
    split
    · simp; omega
    · omega
def inhB (rs : List Wr) (ph : Int) : Bool := wrB rs && inB ph 0 9
def inhL (rs : List Wr) (ph : Int) : List ByteArray := if inhB rs ph = true then inhK rs ph rs.length else []
theorem wrB_facts {rs : List Wr} (h : wrB rs = true) : (∀ i, i < rs.length → wrAtB rs i = true) ∧ rs.length ≤ 30 := by
  simp only [wrB, Bool.and_eq_true, decide_eq_true_eq] at h
  exact h
theorem wrR_facts {rs : List Wr} (h : wrB rs = true) {i : Nat} (hi : i < rs.length) : 1 ≤ (elAt rs i).r ∧ (elAt rs i).r ≤ 3 := by
  have := (wrB_facts h).1 i hi
  unfold wrAtB wrSB at this
  simp only [Bool.and_eq_true] at this
  exact in_facts this.1.1.1.2
theorem loK_bd {rs : List Wr} (h : wrB rs = true) (ts : List ByteArray) : ∀ k, 0 ≤ loK rs ts k ∧ loK rs ts k ≤ 3
  | 0 => by simp [loK]
  | k + 1 => by
    have ih := loK_bd h ts k
    unfold loK
    split
    · rename_i hk
      have := wrR_facts h hk
      omega
    · exact ih
theorem rise_ge {q : List Int} (h : riseB q = true) (h0 : allB q 0 9 = true) : ∀ i, i < q.length → (i : Int) ≤ nth q i
  | 0, hi => by
    have := in_facts (of_decide_eq_true h0 0 hi)
    omega
  | i + 1, hi => by
    have ih := rise_ge h h0 i (by omega)
    have := of_decide_eq_true h i (by omega)
    omega
theorem wrQ_len {rs : List Wr} (h : wrB rs = true) {i : Nat} (hi : i < rs.length) : (elAt rs i).q.length ≤ 10 := by
  have := (wrB_facts h).1 i hi
  unfold wrAtB wrSB at this
  simp only [Bool.and_eq_true] at this
  have h1 := this.1.1.2
  have h2 := this.1.2
  rcases Nat.lt_or_ge 10 (elAt rs i).q.length with c | c
  · have a := rise_ge h1 h2 10 c
    have b := in_facts (of_decide_eq_true h2 10 c)
    omega
  · exact c
theorem inhL_small (rs : List Wr) (ph : Int) : (inhL rs ph).length ≤ 1048576 := by
  unfold inhL
  split
  · rename_i h
    simp only [inhB, Bool.and_eq_true] at h
    have := (wrB_facts h.1).2
    have := inhK_len rs ph rs.length
    omega
  · simp
/-- Whether a name is among names. -/
def hasB (ts : List ByteArray) (s : ByteArray) : Bool := decide (∃ i, i < ts.length ∧ sEq (elAt ts i) s = true)
theorem hasB_yes {ts : List ByteArray} {s : ByteArray} {i : Nat} (h : i < ts.length) (e : sEq (elAt ts i) s = true) : hasB ts s = true := decide_eq_true ⟨i, h, e⟩
theorem hasB_no {ts : List ByteArray} {s : ByteArray} (h : ∀ i, i < ts.length → sEq (elAt ts i) s = false) : hasB ts s = false := decide_eq_false (fun ⟨i, hi, e⟩ => by rw [h i hi] at e; cases e)
/-- Whether a name of a list is a rule's, and behind the one ahead. -/
def nmAt (rs : List Wr) (ts : List ByteArray) (i : Nat) : Bool := decide (wfK rs (elAt ts i) < rs.length) && (decide (i = 0) || sLt (elAt ts (i - 1)) (elAt ts i))
/-- Whether a list is of ascending names of rules. -/
def nmB (rs : List Wr) (ts : List ByteArray) : Bool := decide (∀ i, i < ts.length → nmAt rs ts i = true)
theorem nmB_not {rs : List Wr} {ts : List ByteArray} {i : Nat} (hi : i < ts.length) (h : nmAt rs ts i = false) : nmB rs ts = false := decide_eq_false (fun k => by have := k i hi; rw [h] at this; cases this)
theorem nmB_all {rs : List Wr} {ts : List ByteArray} (h : ∀ i, i < ts.length → nmAt rs ts i = true) : nmB rs ts = true := decide_eq_true h

end Go.Proofs.YtemodlgmjgdjpaaGreatDoor

namespace Go.Proofs.YtemodlgmjgdjpaaGreatDoor
open Go.RowKit

/-- The decimals of a number ahead of a text. -/
def digs : Nat → Int → ByteArray → ByteArray
  | 0, _, out => out
  | f + 1, k, out => if 0 < k then digs f (k / 10) ((⟨#[UInt8.ofNat (48 + k % 10).toNat]⟩ : ByteArray) ++ out) else out
theorem digs_end (f : Nat) {k : Int} (h : ¬ 0 < k) (out : ByteArray) : digs f k out = out := by
  cases f with
  | zero => rfl
  | succ f => simp [digs, h]
theorem digs_more {f : Nat} {k : Int} (h : 0 < k) (hf : k ≤ f) (out : ByteArray) : ∃ g : Nat, k / 10 ≤ g ∧ digs f k out = digs g (k / 10) ((⟨#[UInt8.ofNat (48 + k % 10).toNat]⟩ : ByteArray) ++ out) := by
  cases f with
  | zero => exfalso; simp at hf; omega
  | succ f => exact ⟨f, by simp at hf; omega, by simp [digs, h]⟩
/-- The text of a mark. -/
def mkT (k : Int) : ByteArray := (⟨#[109]⟩ : ByteArray) ++ digs k.toNat k ⟨#[]⟩

theorem run_one_byte (w : World) (n : Int) (h : 0 ≤ n) (h2 : n ≤ 255) :
    (convert 22 9 (.slice (some ⟨w.heap.size, 0, none⟩) 1 1)).run Tryz.prog (w.alloc (Obj.cells #[.int .u8 n] 5)) = .ok (.string ⟨#[UInt8.ofNat n.toNat]⟩) (w.alloc (Obj.cells #[.int .u8 n] 5)) := by
  have e : ((UInt8.ofNat n.toNat).toNat : Int) = n := by
    rw [UInt8.toNat_ofNat']
    omega
  have := run_convert_bytes_back (P := Tryz.prog) (w.alloc (Obj.cells #[.int .u8 n] 5)) 22 9 5 ⟨w.heap.size, 0, none⟩ 1 [UInt8.ofNat n.toNat] Tryz.underlying22 Tryz.underlying5 Tryz.underlying9 (fun j hj => by
    obtain rfl : j = 0 := by simp at hj; omega
    have hc : (w.alloc (Obj.cells #[.int .u8 n] 5)).cell? ⟨w.heap.size, 0, none⟩ = some (.int .u8 n) := by simp [go_sem]
    show (w.alloc (Obj.cells #[.int .u8 n] 5)).cell? ⟨w.heap.size, 0 + 0, none⟩ = _
    rw [Nat.add_zero, hc]
    simp only [List.getElem_cons_zero, e])
  simpa using this

set_option maxRecDepth 20000 in
set_option maxHeartbeats 2000000 in
theorem markText_any (k : Int) (w : World) (h1 : 1 ≤ k) (h2 : k ≤ 1000000000) :
    Calls Tryz.prog 69 #[.int .i64 k] w fun e w' => e = .returned (.string (mkT k)) ∧ Below w.heap.size w w' := by
  go_enter Tryz.func69, Tryz.ntmps69
  go_wp2_with fail
  go_loopw [0, 3] (fun kv ov wr => ∃ (q : Int) (out : ByteArray) (f : Nat), kv = .int .i64 q ∧ ov = .string out ∧ (0 ≤ q ∧ q ≤ k) ∧ ((out.size : Int) + q ≤ k) ∧ Hid (q ≤ (f : Int)) ∧ Hid (digs f q out = digs k.toNat k ⟨#[]⟩) ∧ Below w.heap.size w wr) (fun kv _ _ => (intOf kv).toNat)
  case atStart => exact ⟨k, ⟨#[]⟩, k.toNat, rfl, rfl, by omega, by show (0 : Int) + k ≤ k; omega, hide (by omega), hide rfl, Below.refl _ _⟩
  case round =>
    obtain ⟨q, out, f, rfl, rfl, hq, hsz, HF, HD, hbel⟩ := hrel
    by_cases h0 : 0 < q
    · obtain ⟨f', hf', e'⟩ := digs_more h0 (unhide HF) out
      have HF' := hide hf'
      have HD' := hide (e'.symm.trans (unhide HD))
      have hrun := run_one_byte wr (48 + q % 10) (by omega) (by omega)
      have HB := hide (hbel.alloc hbel.size (Obj.cells #[.int .u8 (48 + q % 10)] 5))
      clear hf' e' hbel
      go_wp2_with fail
      go_roundw
      case rel =>
        refine ⟨q / 10, _, f', rfl, rfl, by omega, ?_, HF', HD', unhide HB⟩
        rw [ByteArray.size_append]
        show (((1 : Nat) + out.size : Nat) : Int) + q / 10 ≤ k
        omega
      case measure => simp [intOf]; omega
    · have HE : Hid (mkT k = (⟨#[109]⟩ : ByteArray) ++ out) := hide (by unfold mkT; rw [← unhide HD, digs_end f h0])
      have HB := hide hbel
      have hsz1 : (⟨#[109]⟩ : ByteArray).size + out.size ≤ 9223372036854775807 := by
        show 1 + out.size ≤ _
        omega
      clear hbel
      go_wp2_with fail
      go_ret
      exact ⟨by rw [unhide HE]; rfl, unhide HB⟩

end Go.Proofs.YtemodlgmjgdjpaaGreatDoor

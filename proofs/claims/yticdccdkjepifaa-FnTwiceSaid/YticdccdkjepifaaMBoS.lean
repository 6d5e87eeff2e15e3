/-
  What lies there while frames of two networks are taken: the words, the receiver. No condition.
  Bytes turned into a text: what the conversion tells. No condition. (The same two stand in LawFnFrames: never import both.)
-/
import Derived.Test.YticdccdkjepifaaBoPure
import Derived.Test.YticdccdkjepifaaMAppR
import Derived.Test.YticdccdkjepifaaMBuImpl
import Derived.Test.YticdccdkjepifaaAppBy
import Derived.Laws.BytesString
import Derived.Laws.Cells

namespace Go.Proofs.Yticdccdkjepifaa
open Go Go.RowKit

theorem results_BBcell {fn : Func} {p q r : Tmp} {t : TypeId} {tmps : Array Value} {w : World} {B : Nat} {vs : List Value} {x y : Value} (h : fn.results = #[.tmp q, .tmp r, .cell p t]) (hA : ∀ w, (isAgg t).run Try.prog w = .ok true w) (hZ : ∀ w, (Go.sizeOf t).run Try.prog w = .ok vs.length w)
    (hp : tmps.getD p undef = .pointer (some ⟨B, 0, none⟩)) (hb : Blk w B vs) (hq : tmps.getD q undef = x) (hr : tmps.getD r undef = y) : (results fn tmps).run Try.prog w = .ok (.tuple #[x, y, .agg vs.toArray]) w := by
  have hl := run_loadVar hA hZ hb
  have hp' : tmps[p]?.getD undef = .pointer (some ⟨B, 0, none⟩) := by simpa using hp
  have hq' : tmps[q]?.getD undef = x := by simpa using hq
  have hr' : tmps[r]?.getD undef = y := by simpa using hr
  simp only [results, h]
  simp [hp', hq', hr', asAddr, hl]
/-- The words so far, what is due. -/
structure BoS (w wr : World) (rl rk n : Int) (v : Value) (ws : List Wx) (t : List Wc) : Prop where
  own : OwnWd wr (w.heap.size + 2) v ws
  con : ws.map wxW = t
  rcv : Blk wr w.heap.size [.int .i64 rl, .int .i64 n, .int .i64 rk]
  res : Blk wr (w.heap.size + 1) [.int .i64 0, .int .i64 0, .int .i64 0]
  bel : Below w.heap.size w wr
theorem BoS.below {w wr w' : World} {rl rk n : Int} {v : Value} {ws : List Wx} {t : List Wc} (h : BoS w wr rl rk n v ws t) (k : Below wr.heap.size wr w') : BoS w w' rl rk n v ws t :=
  ⟨h.own.below k, h.con, h.rcv.below k, h.res.below k, h.bel.trans (k.mono h.bel.size)⟩
theorem BoS.sz {w wr : World} {rl rk n : Int} {v : Value} {ws : List Wx} {t : List Wc} (h : BoS w wr rl rk n v ws t) : w.heap.size + 2 ≤ wr.heap.size := by have := h.res.lt; omega
/-- The receiver that is due next is stored. -/
theorem BoS.setR {w wr : World} {rl rk n : Int} {v : Value} {ws : List Wx} {t : List Wc} (h : BoS w wr rl rk n v ws t) (m : Int) : BoS w (((wr.setCell ⟨w.heap.size, 0, none⟩ (.int .i64 rl)).setCell ⟨w.heap.size, 1, none⟩ (.int .i64 m)).setCell ⟨w.heap.size, 2, none⟩ (.int .i64 rk)) rl rk m v ws t :=
  ⟨((h.own.set_low (by omega) _).set_low (by omega) _).set_low (by omega) _, h.con, ((h.rcv.set 0 (by simp) _).set 1 (by simp) _).set 2 (by simp) _, ((h.res.other (by show w.heap.size ≠ w.heap.size + 1; omega) _).other (by show w.heap.size ≠ w.heap.size + 1; omega) _).other (by show w.heap.size ≠ w.heap.size + 1; omega) _, ((h.bel.setCell (p := ⟨w.heap.size, 0, none⟩) (Nat.le_refl _) _).setCell (p := ⟨w.heap.size, 1, none⟩) (Nat.le_refl _) _).setCell (p := ⟨w.heap.size, 2, none⟩) (Nat.le_refl _) _⟩
/-- A word more. -/
theorem BoS.push {w wr w9 : World} {rl rk n : Int} {v : Value} {ws : List Wx} {t : List Wc} {g m c : Nat} {x : Wx} (h : BoS w wr rl rk n v ws t) (o : OwnE 3 wxC w9 (w.heap.size + 2) 50 (.slice (some ⟨g, 0, none⟩) m c) (ws ++ [x])) (gr : wr.grownBy w9 v.ownBlock) (hg : v.ownBlock = some g ∨ wr.heap.size ≤ g)
    (hd : OwnE 1 byC wr (w.heap.size + 2) 5 (slV x.d) x.d.zs) (hv : ∀ q, (slV x.d).ownBlock = some q → v.ownBlock ≠ some q) (hp : ∀ i, i < ws.length → ∀ q, (slV (elAt ws i).d).ownBlock = some q → (slV x.d).ownBlock ≠ some q) : BoS w w9 rl rk n (.slice (some ⟨g, 0, none⟩) m c) (ws ++ [x]) (t ++ [wxW x]) :=
  ⟨h.own.push o gr hg hd hv hp, by rw [List.map_append, h.con]; rfl, h.rcv.apart gr (fun e => by have := (h.own.out.lies _ e.symm).1; omega), h.res.apart gr (fun e => by have := (h.own.out.lies _ e.symm).1; omega), h.bel.grown gr (by have := h.sz; omega) (fun q hq => by have := (h.own.out.lies q hq).1; omega)⟩
/-- Bytes that were made later lie apart from all words so far. -/
theorem BoS.fresh {w wr wn : World} {rl rk n : Int} {v : Value} {ws : List Wx} {t : List Wc} {x : Wx} (h : BoS w wr rl rk n v ws t) (hd : OwnE 1 byC wn wr.heap.size 5 (slV x.d) x.d.zs) : (∀ q, (slV x.d).ownBlock = some q → v.ownBlock ≠ some q) ∧ ∀ i, i < ws.length → ∀ q, (slV (elAt ws i).d).ownBlock = some q → (slV x.d).ownBlock ≠ some q :=
  ⟨fun q hq e => by have := (hd.lies q hq).1; have := (h.own.out.lies q e).2; omega, fun i hi q hq e => by have := (hd.lies q e).1; have := ((h.own.dat i hi).lies q hq).2; omega⟩
/-- What is still to come, at a place, on one network or the other. -/
def rem {α : Type} (X Y : List α) (i : Nat) : Nat → List α
  | 0 => inter (X.drop i) (Y.drop i)
  | 1 => inter (Y.drop i) (X.drop (i + 1))
  | _ => inter (X.drop (i + 1)) (Y.drop (i + 1))
theorem rem0_is {X Y : List Sl} {i : Nat} (h : i < X.length) : rem X Y i 0 = elAt X i :: rem X Y i 1 := by
  show inter (X.drop i) (Y.drop i) = _
  rw [List.drop_eq_getElem_cons h, inter_cons]
  have : elAt X i = X[i] := by simp [elAt, h]
  rw [this]; rfl
theorem rem0_no {X Y : List Sl} {i : Nat} (h : X.length ≤ i) : rem X Y i 0 = rem X Y i 1 := by
  show inter (X.drop i) (Y.drop i) = inter (Y.drop i) (X.drop (i + 1))
  rw [List.drop_eq_nil_of_le h, List.drop_eq_nil_of_le (show X.length ≤ i + 1 by omega), inter_nil, inter_nil2]
theorem rem1_is {X Y : List Sl} {i : Nat} (h : i < Y.length) : rem X Y i 1 = elAt Y i :: rem X Y i 2 := by
  show inter (Y.drop i) (X.drop (i + 1)) = _
  rw [List.drop_eq_getElem_cons h, inter_cons]
  have : elAt Y i = Y[i] := by simp [elAt, h]
  rw [this]; rfl
theorem rem1_no {X Y : List Sl} {i : Nat} (h : Y.length ≤ i) : rem X Y i 1 = rem X Y i 2 := by
  show inter (Y.drop i) (X.drop (i + 1)) = inter (X.drop (i + 1)) (Y.drop (i + 1))
  rw [List.drop_eq_nil_of_le h, List.drop_eq_nil_of_le (show Y.length ≤ i + 1 by omega), inter_nil, inter_nil2]
theorem rem_end {X Y : List Sl} {i : Nat} (h : X.length ≤ i) (h2 : Y.length ≤ i) : rem X Y i 0 = [] := by
  show inter (X.drop i) (Y.drop i) = _
  rw [List.drop_eq_nil_of_le h, List.drop_eq_nil_of_le h2, inter_nil]
/-- What frames that lie so give. -/
def boS (rl rk : Int) (st : Bst) (ss : List Sl) : Bst := boF rl rk st (ss.map (·.zs))
theorem boS_cons (rl rk : Int) (st : Bst) (s : Sl) (ss : List Sl) : boS rl rk st (s :: ss) = boS rl rk (boStep rl rk st s.zs) ss := rfl
theorem elAt_mem {α : Type} [Inhabited α] {X : List α} {i : Nat} (h : i < X.length) : elAt X i ∈ X := by
  have : elAt X i = X[i] := by simp [elAt, h]
  rw [this]; exact List.getElem_mem h

end Go.Proofs.Yticdccdkjepifaa

namespace Go.Proofs.Yticdccdkjepifaa
open Go Go.RowKit

/-- The text of some bytes. -/
def byStr (ds : List Int) : ByteArray := ds.foldl (fun r n => r.push (UInt8.ofNat n.toNat)) ByteArray.empty
theorem conv_str {w : World} {p : Option Addr} {n : Nat} {ds : List Int} (h : RowE 1 byC w p n ds) (q : Nat) : (convert 22 9 (.slice p n q)).run Try.prog w = .ok (.string (byStr ds)) w := by
  rw [run_convert_bytes_string w 22 9 5 p n q Try.underlying22 Try.underlying5 Try.underlying9]
  have hl := h.len_eq
  subst hl
  rcases h.open1 with ⟨h0, h1⟩ | ⟨b, off, rfl, _, hc⟩
  · subst h1
    cases p with
    | none => rfl
    | some a => exact run_bytesToString w a 0 q [] (by simp [loadCells, loadCellsFrom])
  · refine run_bytesToString w ⟨b, off, none⟩ ds.length q ds ?_
    rw [show ds.length = (ds.map (Value.int .u8)).length by simp]
    refine run_loadCells_list w ⟨b, off, none⟩ (ds.map (Value.int .u8)) (fun j v hj => ?_)
    have hj2 : j < ds.length := by
      rcases Nat.lt_or_ge j ds.length with k | k
      · exact k
      · rw [List.getElem?_eq_none (by simpa using k)] at hj; cases hj
    have := hc j hj2
    simp only [List.getElem?_map, List.getElem?_eq_getElem hj2, Option.map_some, Option.some.injEq] at hj
    rw [addr_addR, this, ← hj]
    simp [byC, elAt, hj2]

end Go.Proofs.Yticdccdkjepifaa

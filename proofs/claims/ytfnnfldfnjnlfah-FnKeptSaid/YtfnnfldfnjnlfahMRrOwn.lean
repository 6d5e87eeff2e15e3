/-
  Lists of rows of whole numbers, each in memory of its own, that a call has made; one row more; the law's comparison. No condition.
  A list of rows that grows, each row made behind those that are there. No condition.
  Records in plain numbers: when rows are right, a column, its events, where two records differ. No program here.
  A record's bytes in plain numbers: a change in one byte or four, rows one behind the other; how long they are. No program here.
-/
import Derived.Test.YtfnnfldfnjnlfahMMakeS
import Derived.Test.YtfnnfldfnjnlfahMAppI
import Derived.Test.YtfnnfldfnjnlfahMCur
import Derived.Test.YtfnnfldfnjnlfahMRowS

namespace Go.Proofs.Ytfnnfldfnjnlfah
open Go Go.RowKit

/-- A row as it lies. -/
structure Rx where
  a : Option Addr
  n : Nat
  c : Nat
  zs : List Int
instance : Inhabited Rx := ⟨⟨none, 0, 0, []⟩⟩
def rxV (x : Rx) : Value := .slice x.a x.n x.c
def rxC (x : Rx) (_ : Nat) : Value := rxV x
theorem rxC_one (x : Rx) (q : Nat) : (rxC x q).oneCell' = true := rfl
theorem infoRx : (Try.prog.info? 26).map (fun i => (i.zero, i.size, i.bytes)) = some (some (.slice none 0 0), 1, 24) := by kernel_rfl
/-- Rows that a call has made: the list, and each row, in memory of its own. -/
structure OwnRr (w : World) (base : Nat) (v : Value) (us : List Rx) : Prop where
  out : OwnE 1 rxC w base 26 v us
  dat : ∀ i, i < us.length → OwnI w base (rxV (elAt us i)) (elAt us i).zs
  apt : ∀ i, i < us.length → ∀ g, (rxV (elAt us i)).ownBlock = some g → v.ownBlock ≠ some g
  par : ∀ i j, i < j → j < us.length → ∀ g, (rxV (elAt us i)).ownBlock = some g → (rxV (elAt us j)).ownBlock ≠ some g
theorem OwnRr.below {w w' : World} {base : Nat} {v : Value} {us : List Rx} (h : OwnRr w base v us) (k : Below w.heap.size w w') : OwnRr w' base v us :=
  ⟨h.out.below k, fun i hi => (h.dat i hi).below k, h.apt, h.par⟩
theorem OwnRr.mono {w : World} {base base' : Nat} {v : Value} {us : List Rx} (h : OwnRr w base v us) (hb : base' ≤ base) : OwnRr w base' v us :=
  ⟨h.out.mono hb, fun i hi => (h.dat i hi).mono hb, h.apt, h.par⟩
/-- Its blocks lie from b on, below u. -/
def RrLies (b u : Nat) (v : Value) (us : List Rx) : Prop := (∀ g, v.ownBlock = some g → b ≤ g ∧ g < u) ∧ ∀ i, i < us.length → ∀ g, (rxV (elAt us i)).ownBlock = some g → b ≤ g ∧ g < u
theorem OwnRr.lies {w : World} {base : Nat} {v : Value} {us : List Rx} (h : OwnRr w base v us) : RrLies base w.heap.size v us := ⟨h.out.lies, fun i hi => (h.dat i hi).lies⟩
theorem OwnRr.only {w w' : World} {base lo hi b u : Nat} {v : Value} {us : List Rx} (h : OwnRr w base v us) (k : Only lo hi w w') (hl : RrLies b u v us) (hs : u ≤ lo ∨ hi ≤ b) : OwnRr w' base v us :=
  ⟨h.out.only k (fun g hg => by have := hl.1 g hg; omega), fun i hi => (h.dat i hi).only k (fun g hg => by have := hl.2 i hi g hg; omega), h.apt, h.par⟩
/-- Another block, ahead of all of its own or behind them, is written. -/
theorem OwnRr.far {w w' : World} {base : Nat} {v : Value} {us : List Rx} {row : Option Nat} (h : OwnRr w base v us) (k : w.grownBy w' row) (h1 : ∀ g, v.ownBlock = some g → some g ≠ row) (h2 : ∀ i, i < us.length → ∀ g, (rxV (elAt us i)).ownBlock = some g → some g ≠ row) : OwnRr w' base v us :=
  ⟨h.out.far k h1, fun i hi => (h.dat i hi).far k (h2 i hi), h.apt, h.par⟩
theorem ownRr_none {w : World} {base : Nat} (hb : base ≤ w.heap.size) : OwnRr (w.alloc (Obj.cells #[] 26)) base (.slice (some ⟨w.heap.size, 0, none⟩) 0 0) [] :=
  ⟨(ownE_none (w := w) (Nat.le_refl _)).mono hb, fun i hi => by simp at hi, fun i hi => by simp at hi, fun i j _ hj => by simp at hj⟩
theorem elAt_appL {α : Type} [Inhabited α] {Z : List α} {x : α} {i : Nat} (h : i < Z.length) : elAt (Z ++ [x]) i = elAt Z i := (elAt_app Z x).1 i h
theorem elAt_appR {α : Type} [Inhabited α] {Z : List α} {x : α} : elAt (Z ++ [x]) Z.length = x := (elAt_app Z x).2
theorem OwnRr.push {w w9 : World} {base g n c : Nat} {v : Value} {us : List Rx} {x : Rx} (h : OwnRr w base v us) (o : OwnE 1 rxC w9 base 26 (.slice (some ⟨g, 0, none⟩) n c) (us ++ [x])) (gr : w.grownBy w9 v.ownBlock) (hg : v.ownBlock = some g ∨ w.heap.size ≤ g)
    (hd : OwnI w base (rxV x) x.zs) (hv : ∀ q, (rxV x).ownBlock = some q → v.ownBlock ≠ some q) (hp : ∀ i, i < us.length → ∀ q, (rxV (elAt us i)).ownBlock = some q → (rxV x).ownBlock ≠ some q) : OwnRr w9 base (.slice (some ⟨g, 0, none⟩) n c) (us ++ [x]) := by
  have dt : ∀ i, i < (us ++ [x]).length → OwnI w base (rxV (elAt (us ++ [x]) i)) (elAt (us ++ [x]) i).zs ∧ ∀ q, (rxV (elAt (us ++ [x]) i)).ownBlock = some q → v.ownBlock ≠ some q := by
    intro i hi
    by_cases e : i < us.length
    · rw [elAt_appL e]; exact ⟨h.dat i e, h.apt i e⟩
    · obtain rfl : i = us.length := by simp at hi; omega
      rw [elAt_appR]; exact ⟨hd, hv⟩
  refine ⟨o, fun i hi => (dt i hi).1.far gr (fun q hq e => (dt i hi).2 q hq e.symm), fun i hi q hq e => ?_, fun i j hij hj q hq => ?_⟩
  · have e : g = q := Option.some.inj e
    rcases hg with k | k
    · exact (dt i hi).2 q hq (by rw [k, e])
    · have := ((dt i hi).1.lies q hq).2; omega
  · have hi : i < us.length := by simp at hj; omega
    rw [elAt_appL hi] at hq
    by_cases e : j < us.length
    · rw [elAt_appL e]; exact h.par i j hij e q hq
    · obtain rfl : j = us.length := by simp at hj; omega
      rw [elAt_appR]; exact hp i hi q hq
def rxZ (us : List Rx) : List (List Int) := us.map (·.zs)
theorem rxZ_at {us : List Rx} {i : Nat} (h : i < us.length) : nthS (rxZ us) i = (elAt us i).zs := by simp [nthS, rxZ, elAt, h]
/-- As it reads. -/
theorem OwnRr.read {w : World} {base : Nat} {a : Option Addr} {len c : Nat} {us : List Rx} (h : OwnRr w base (.slice a len c) us) (hs : us.length ≤ 9223372036854775807) : RowS w a len (rxZ us) := by
  have hl := h.out.row.len_eq
  refine ⟨by simp [rxZ, hl], by omega, fun i hi => ?_⟩
  obtain ⟨b, off, ha, hc⟩ := h.out.row.at_ i hi
  have hc0 := hc 0 (by omega)
  rw [Nat.mul_one, Nat.add_zero] at hc0
  have hd := h.dat i (by omega)
  refine ⟨b, off, (elAt us i).a, (elAt us i).n, (elAt us i).c, ha, hc0, ?_, ?_⟩
  · rw [rxZ_at (by omega)]; exact OwnI.row hd
  · rcases hd.form with ⟨e, _⟩ | ⟨g, cap, e, _, _, hle, _⟩
    · simp only [rxV, Value.slice.injEq] at e; omega
    · simp only [rxV, Value.slice.injEq] at e; omega
/-- Rows that a call has made, and what they say. -/
structure OwnRT (w : World) (base : Nat) (v : Value) (us : List Rx) (T : List (List Int)) : Prop where
  o : OwnRr w base v us
  con : rxZ us = T
theorem OwnRT.below {w w' : World} {base : Nat} {v : Value} {us : List Rx} {T : List (List Int)} (h : OwnRT w base v us T) (k : Below w.heap.size w w') : OwnRT w' base v us T := ⟨h.o.below k, h.con⟩
theorem OwnRT.lies {w : World} {base : Nat} {v : Value} {us : List Rx} {T : List (List Int)} (h : OwnRT w base v us T) : RrLies base w.heap.size v us := h.o.lies
theorem OwnRT.only {w w' : World} {base lo hi b u : Nat} {v : Value} {us : List Rx} {T : List (List Int)} (h : OwnRT w base v us T) (k : Only lo hi w w') (hl : RrLies b u v us) (hs : u ≤ lo ∨ hi ≤ b) : OwnRT w' base v us T := ⟨h.o.only k hl hs, h.con⟩
/-- What the marks ask of them. -/
structure RrFit (us : List Rx) (T : List (List Int)) : Prop where
  len : us.length = T.length
  few : T.length ≤ 400
  d32 : ∀ i, i < us.length → (elAt us i).zs.length ≤ 32
  dn : ∀ i, i < us.length → (elAt us i).zs.length = (elAt us i).n
theorem OwnRT.fit {w : World} {base : Nat} {v : Value} {us : List Rx} {T : List (List Int)} (h : OwnRT w base v us T) (h1 : T.length ≤ 400) (h2 : ∀ x ∈ T, x.length ≤ 32) : RrFit us T :=
  ⟨by rw [← h.con]; simp [rxZ], h1, fun i hi => h2 _ (by rw [← h.con]; exact List.mem_map.2 ⟨elAt us i, by simp [elAt, hi], rfl⟩), fun i hi => (OwnI.row (a := (elAt us i).a) (len := (elAt us i).n) (cap := (elAt us i).c) (h.o.dat i hi)).len_eq⟩
end Go.Proofs.Ytfnnfldfnjnlfah

namespace Go.Proofs.Ytfnnfldfnjnlfah
open Go Go.RowKit

structure RrG (w wr : World) (g i c : Nat) (us : List Rx) (z : List (List Int)) : Prop where
  o : OwnRr wr w.heap.size (.slice (some ⟨g, 0, none⟩) i c) us
  l : us.length = i
  z : rxZ us = z
theorem RrG.below {w wr w' : World} {g i c : Nat} {us : List Rx} {z : List (List Int)} (h : RrG w wr g i c us z) (b : Below wr.heap.size wr w') : RrG w w' g i c us z := ⟨h.o.below b, h.l, h.z⟩
/-- A block that is none of its own is written. -/
theorem RrG.far {w wr w' : World} {g i c q B : Nat} {us : List Rx} {z : List (List Int)} (h : RrG w wr g i c us z) (hl : RrLies w.heap.size B (.slice (some ⟨g, 0, none⟩) i c) us) (k : wr.grownBy w' (some q)) (hq : q < w.heap.size ∨ B ≤ q) : RrG w w' g i c us z :=
  ⟨h.o.far k (fun p hp e => by have := hl.1 p hp; have := Option.some.inj e; omega) (fun j hj p hp e => by have := hl.2 j hj p hp; have := Option.some.inj e; omega), h.l, h.z⟩
theorem RrG.push {w V w9 : World} {g i c B g9 c9 : Nat} {us : List Rx} {z : List (List Int)} {x : Rx} (h : RrG w V g i c us z) (hl : RrLies w.heap.size B (.slice (some ⟨g, 0, none⟩) i c) us) (hd : OwnI V B (rxV x) x.zs) (hB : w.heap.size ≤ B) (o : OwnE 1 rxC w9 w.heap.size 26 (.slice (some ⟨g9, 0, none⟩) (i + 1) c9) (us ++ [x])) (gr : V.grownBy w9 (Value.slice (some ⟨g, 0, none⟩) i c).ownBlock) (hg : (Value.slice (some ⟨g, 0, none⟩) i c).ownBlock = some g9 ∨ V.heap.size < g9) : RrG w w9 g9 (i + 1) c9 (us ++ [x]) (z ++ [x.zs]) := by
  refine ⟨h.o.push o gr (hg.imp id (by omega)) (hd.mono hB) (fun q hq e => ?_) (fun j hj q hq e => ?_), by simp [h.l], by simp [rxZ, ← h.z]⟩
  · have := (hd.lies q hq).1; have := hl.1 q e; omega
  · have := (hd.lies q e).1; have := hl.2 j hj q hq; omega
theorem RrG.row {w V w9 : World} {g i c B : Nat} {us : List Rx} {z : List (List Int)} {v : Value} {L : List Int} (_h : RrG w V g i c us z) (hl : RrLies w.heap.size B (.slice (some ⟨g, 0, none⟩) i c) us) (hd : OwnI V B v L) (gr : V.grownBy w9 (Value.slice (some ⟨g, 0, none⟩) i c).ownBlock) : OwnI w9 B v L :=
  hd.far gr (fun q hq e => by have := (hd.lies q hq).1; have := hl.1 q e.symm; omega)

end Go.Proofs.Ytfnnfldfnjnlfah

namespace Go.Proofs.Ytfnnfldfnjnlfah

/-- A row is as wide as the first, of 1 to 8 values, each in its bounds. -/
def rwB (zss : List (List Int)) (i : Nat) : Bool := (((nthS zss i).length : Int) == ((nthS zss 0).length : Int)) && inB (nthS zss i).length 1 8 && allB (nthS zss i) (-30000) 30000
def rcAa (zss : List (List Int)) : Bool := decide (∀ i, i < zss.length → rwB zss i = true)
def rcB (zss : List (List Int)) : Bool := rcAa zss && decide (zss.length ≤ 200)
theorem rcA_true {zss : List (List Int)} (h : ∀ i, i < zss.length → rwB zss i = true) : rcAa zss = true := by simp only [rcAa, decide_eq_true_eq]; exact h
theorem rcB_no {zss : List (List Int)} {j : Nat} (hj : j < zss.length) (h : rwB zss j = false) : rcB zss = false := by
  have : rcAa zss = false := by simp only [rcAa, decide_eq_false_iff_not]; intro k; have := k j hj; rw [h] at this; cases this
  rw [rcB, this]; rfl
theorem rcB_long {zss : List (List Int)} (h : ¬ zss.length ≤ 200) : rcB zss = false := by
  rw [rcB, show decide (zss.length ≤ 200) = false by simpa using h, Bool.and_false]
theorem rcB_yes {zss : List (List Int)} (h : ∀ i, i < zss.length → rwB zss i = true) (hl : zss.length ≤ 200) : rcB zss = true := by
  rw [rcB, rcA_true h, show decide (zss.length ≤ 200) = true by simpa using hl]; rfl
theorem rcB_facts {zss : List (List Int)} (h : rcB zss = true) : zss.length ≤ 200 ∧ ∀ i, i < zss.length → (nthS zss i).length = (nthS zss 0).length ∧ 1 ≤ (nthS zss i).length ∧ (nthS zss i).length ≤ 8 ∧ ∀ k, k < (nthS zss i).length → -30000 ≤ nth (nthS zss i) k ∧ nth (nthS zss i) k ≤ 30000 := by
  rw [rcB, Bool.and_eq_true, rcAa, decide_eq_true_eq, decide_eq_true_eq] at h
  refine ⟨h.2, fun i hi => ?_⟩
  have := h.1 i hi
  rw [rwB, Bool.and_eq_true, Bool.and_eq_true] at this
  obtain ⟨⟨h1, h2⟩, h3⟩ := this
  simp only [inB, decide_eq_true_eq] at h2
  simp only [beq_iff_eq] at h1
  simp only [allB, decide_eq_true_eq, inB] at h3
  exact ⟨by omega, by omega, by omega, fun k hk => by have := h3 k hk; omega⟩
/-- How wide rows are. -/
def wdN (zss : List (List Int)) : Nat := (nthS zss 0).length
theorem wdN_nil {zss : List (List Int)} (h : zss.length = 0) : wdN zss = 0 := by
  have : zss = [] := List.length_eq_zero_iff.1 h
  subst this; rfl

/-! A column. -/
def coB (zss : List (List Int)) (a : Int) : Bool := rcB zss && (decide (0 < zss.length) && inB a 0 ((wdN zss : Int) - 1))
def coK (zss : List (List Int)) (a : Int) (k : Nat) : List Int := (List.range k).map fun i => nth (nthS zss i) a.toNat
def coL (zss : List (List Int)) (a : Int) : List Int := if coB zss a = true then coK zss a zss.length else []
theorem coK_len (zss : List (List Int)) (a : Int) (k : Nat) : (coK zss a k).length = k := by simp [coK]
theorem coK_succ (zss : List (List Int)) (a : Int) (k : Nat) : coK zss a (k + 1) = coK zss a k ++ [nth (nthS zss k) a.toNat] := by simp [coK, List.range_succ]
theorem coK_at (zss : List (List Int)) (a : Int) {k i : Nat} (h : i < k) : nth (coK zss a k) i = nth (nthS zss i) a.toNat := by simp [nth, coK, h]
theorem coL_len (zss : List (List Int)) (a : Int) : (coL zss a).length ≤ 200 := by
  unfold coL
  split
  · rename_i h; rw [coK_len]; rw [coB, Bool.and_eq_true] at h; exact (rcB_facts h.1).1
  · simp
theorem coB_facts {zss : List (List Int)} {a : Int} (h : coB zss a = true) : rcB zss = true ∧ 0 < zss.length ∧ 0 ≤ a ∧ a < wdN zss := by
  rw [coB, Bool.and_eq_true, Bool.and_eq_true, decide_eq_true_eq] at h
  have := h.2.2
  simp only [inB, decide_eq_true_eq] at this
  exact ⟨h.1, h.2.1, by omega, by omega⟩
theorem coL_in (zss : List (List Int)) (a : Int) : ∀ i, i < (coL zss a).length → -30000 ≤ nth (coL zss a) i ∧ nth (coL zss a) i ≤ 30000 := by
  unfold coL
  split
  · rename_i h
    intro i hi
    rw [coK_len] at hi
    rw [coK_at _ _ hi]
    have f := coB_facts h
    have g := (rcB_facts f.1).2 i hi
    exact g.2.2.2 _ (by have := g.1; unfold wdN at f; omega)
  · intro i hi; simp at hi

/-! Its events. -/
def evI (L : List Int) (m : Int) (i : Nat) : Bool := decide (m < nth L i) && (decide (i = 0) || decide (nth L (i - 1) ≤ m))
def evK (L : List Int) (m : Int) (k : Nat) : List Int := ((List.range k).filter (evI L m)).map fun (i : Nat) => (i : Int)
theorem evK_succ (L : List Int) (m : Int) (k : Nat) : evK L m (k + 1) = if evI L m k = true then evK L m k ++ [(k : Int)] else evK L m k := by
  unfold evK
  rw [List.range_succ, List.filter_append, List.map_append]
  by_cases h : evI L m k = true <;> simp [h]
theorem evK_len (L : List Int) (m : Int) (k : Nat) : (evK L m k).length ≤ k := by
  unfold evK
  rw [List.length_map]
  exact Nat.le_trans (List.length_filter_le _ _) (by simp)

/-! Where two records differ. -/
def unI (a b : List Int) (k : Nat) : Bool := decide (a.length ≤ k) || decide (b.length ≤ k) || decide (nth a k ≠ nth b k)
def unF (a b : List Int) : Option Nat := (List.range (max a.length b.length)).find? (unI a b)
def dfBo (A B : List (List Int)) : Bool := rcB A && rcB B
def dfF (A B : List (List Int)) : Option Nat := (List.range (max A.length B.length)).find? fun i => (unF (nthS A i) (nthS B i)).isSome
def dfR (A B : List (List Int)) : Int := if dfBo A B = false then -2 else match dfF A B with | none => -1 | some i => i
def dfCo (A B : List (List Int)) : Int := if dfBo A B = false then -2 else match dfF A B with | none => -1 | some i => ((unF (nthS A i) (nthS B i)).getD 0 : Nat)
def dfO (A B : List (List Int)) : Bool := if dfBo A B = false then false else (dfF A B).isNone

end Go.Proofs.Ytfnnfldfnjnlfah

namespace Go.Proofs.Ytfnnfldfnjnlfah

def chL (c : Int) : List Int := if inB c (-100) 100 = true then [c + 100] else [255, (c + 60000) / 65536, (c + 60000) / 256 % 256, (c + 60000) % 256]
theorem chL_y {c : Int} (h : inB c (-100) 100 = true) : chL c = [c + 100] := by rw [chL, if_pos h]
theorem chL_n {c : Int} (h : inB c (-100) 100 = false) : chL c = [255, (c + 60000) / 65536, (c + 60000) / 256 % 256, (c + 60000) % 256] := by rw [chL, if_neg (by rw [h]; simp)]
theorem chL_len (c : Int) : 1 ≤ (chL c).length ∧ (chL c).length ≤ 4 := by unfold chL; split <;> simp
/-- The row ahead; its value in a column. -/
def ahL (zss : List (List Int)) : Nat → List Int
  | 0 => List.replicate (wdN zss) 0
  | i + 1 => nthS zss i
def chC (zss : List (List Int)) (i k : Nat) : Int := nth (nthS zss i) k - nth (ahL zss i) k
theorem ahL_len {zss : List (List Int)} (h : rcB zss = true) {i : Nat} (hi : i < zss.length) : (ahL zss i).length = wdN zss := by
  cases i with
  | zero => simp [ahL]
  | succ j => exact ((rcB_facts h).2 j (by omega)).1
theorem ahL_in {zss : List (List Int)} (h : rcB zss = true) {i k : Nat} (hi : i < zss.length) (hk : k < wdN zss) : -30000 ≤ nth (ahL zss i) k ∧ nth (ahL zss i) k ≤ 30000 := by
  cases i with
  | zero => simp [ahL, nth, hk]
  | succ j => have := (rcB_facts h).2 j (by omega); exact this.2.2.2 k (by rw [this.1]; exact hk)
theorem row_in {zss : List (List Int)} (h : rcB zss = true) {i k : Nat} (hi : i < zss.length) (hk : k < wdN zss) : -30000 ≤ nth (nthS zss i) k ∧ nth (nthS zss i) k ≤ 30000 := by
  have := (rcB_facts h).2 i hi; exact this.2.2.2 k (by rw [this.1]; exact hk)
theorem chC_in {zss : List (List Int)} (h : rcB zss = true) {i k : Nat} (hi : i < zss.length) (hk : k < wdN zss) : -60000 ≤ chC zss i k ∧ chC zss i k ≤ 60000 := by
  have a := ahL_in h hi hk; have b := row_in h hi hk; unfold chC; omega
theorem wdN_le {zss : List (List Int)} (h : rcB zss = true) : wdN zss ≤ 8 := by
  by_cases h0 : zss.length = 0
  · rw [wdN_nil h0]; omega
  · exact ((rcB_facts h).2 0 (by omega)).2.2.1
def pkJ (zss : List (List Int)) (i : Nat) : Nat → List Int
  | 0 => []
  | k + 1 => pkJ zss i k ++ chL (chC zss i k)
def pkI (zss : List (List Int)) : Nat → List Int
  | 0 => [(wdN zss : Int), (zss.length : Int)]
  | i + 1 => pkI zss i ++ pkJ zss i (wdN zss)
def pkK (zss : List (List Int)) (i k : Nat) : List Int := pkI zss i ++ pkJ zss i k
def pkF (zss : List (List Int)) : List Int := pkI zss zss.length
def pkB (zss : List (List Int)) : Bool := rcB zss && decide ((pkF zss).length ≤ 1500)
def pkL (zss : List (List Int)) : List Int := if pkB zss = true then pkF zss else []
theorem pkK_zero (zss : List (List Int)) (i : Nat) : pkK zss i 0 = pkI zss i := by simp [pkK, pkJ]
theorem pkK_succ (zss : List (List Int)) (i k : Nat) : pkK zss i (k + 1) = pkK zss i k ++ chL (chC zss i k) := by simp [pkK, pkJ]
theorem pkK_row (zss : List (List Int)) (i : Nat) : pkK zss i (wdN zss) = pkI zss (i + 1) := rfl
theorem pkJ_len (zss : List (List Int)) (i : Nat) : ∀ k, (pkJ zss i k).length ≤ 4 * k
  | 0 => by simp [pkJ]
  | k + 1 => by have := pkJ_len zss i k; have := chL_len (chC zss i k); rw [pkJ, List.length_append]; omega
theorem pkI_len {zss : List (List Int)} (h : wdN zss ≤ 8) : ∀ i, (pkI zss i).length ≤ 2 + 32 * i
  | 0 => by simp [pkI]
  | i + 1 => by have := pkI_len h i; have := pkJ_len zss i (wdN zss); rw [pkI, List.length_append]; omega
theorem pkK_len {zss : List (List Int)} (h : rcB zss = true) {i k : Nat} (hi : i ≤ zss.length) (hk : k ≤ wdN zss) : (pkK zss i k).length ≤ 7000 := by
  have a := pkI_len (wdN_le h) i; have b := pkJ_len zss i k; have c := wdN_le h; have d := (rcB_facts h).1
  rw [pkK, List.length_append]; omega
theorem pkJ_mono (zss : List (List Int)) (i : Nat) {k : Nat} : ∀ {n : Nat}, k ≤ n → (pkJ zss i k).length ≤ (pkJ zss i n).length
  | 0, h => by have : k = 0 := by omega
               subst this; omega
  | n + 1, h => by
    by_cases e : k = n + 1
    · subst e; omega
    · have := pkJ_mono zss i (k := k) (n := n) (by omega); rw [pkJ, List.length_append]; omega
theorem pkI_mono (zss : List (List Int)) {i : Nat} : ∀ {n : Nat}, i ≤ n → (pkI zss i).length ≤ (pkI zss n).length
  | 0, h => by have : i = 0 := by omega
               subst this; omega
  | n + 1, h => by
    by_cases e : i = n + 1
    · subst e; omega
    · have := pkI_mono zss (i := i) (n := n) (by omega); rw [pkI, List.length_append]; omega
theorem pkK_mono (zss : List (List Int)) {i k : Nat} (hi : i < zss.length) (hk : k ≤ wdN zss) : (pkK zss i k).length ≤ (pkF zss).length := by
  have a := pkJ_mono zss i hk
  have b := pkI_mono zss (i := i + 1) (n := zss.length) (by omega)
  rw [pkI, List.length_append] at b
  rw [pkK, List.length_append, pkF]; omega
theorem pkL_no {zss : List (List Int)} (h : pkB zss = false) : pkL zss = [] := by rw [pkL, if_neg (by rw [h]; simp)]
theorem pkL_yes {zss : List (List Int)} (h : pkB zss = true) : pkL zss = pkF zss := by rw [pkL, if_pos h]
theorem pkL_len (zss : List (List Int)) : (pkL zss).length ≤ 1500 := by
  unfold pkL
  split
  · rename_i h; rw [pkB, Bool.and_eq_true, decide_eq_true_eq] at h; exact h.2
  · simp

end Go.Proofs.Ytfnnfldfnjnlfah

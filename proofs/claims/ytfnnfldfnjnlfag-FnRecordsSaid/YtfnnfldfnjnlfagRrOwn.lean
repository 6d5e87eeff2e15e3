/-
  Lists of rows of whole numbers, each in memory of its own, that a call has made; one row more; the law's comparison. No condition.
-/
import Derived.Test.YtfnnfldfnjnlfagOwnSS
import Derived.Test.YtfnnfldfnjnlfagAppEl
namespace Go.Proofs.Ytfnnfldfnjnlfag
open Go Go.RowKit

/-- A row as it lies. -/
structure Rx where
  a : Option Addr
  n : Nat
  c : Nat
  zs : List Int
instance : Inhabited Rx := ⟨⟨none, 0, 0, []⟩⟩
def rxV (x : Rx) : Value := .slice x.a x.n x.c
def rxC (x : Rx) (_ : Nat) : Value := rxV x
theorem rxC_one (x : Rx) (q : Nat) : (rxC x q).oneCell' = true := rfl
theorem infoRx : (Try.prog.info? 68).map (fun i => (i.zero, i.size, i.bytes)) = some (some (.slice none 0 0), 1, 24) := by kernel_rfl
/-- Rows that a call has made: the list, and each row, in memory of its own. -/
structure OwnRr (w : World) (base : Nat) (v : Value) (us : List Rx) : Prop where
  out : OwnE 1 rxC w base 68 v us
  dat : ∀ i, i < us.length → OwnI w base (rxV (elAt us i)) (elAt us i).zs
  apt : ∀ i, i < us.length → ∀ g, (rxV (elAt us i)).ownBlock = some g → v.ownBlock ≠ some g
  par : ∀ i j, i < j → j < us.length → ∀ g, (rxV (elAt us i)).ownBlock = some g → (rxV (elAt us j)).ownBlock ≠ some g
theorem OwnRr.below {w w' : World} {base : Nat} {v : Value} {us : List Rx} (h : OwnRr w base v us) (k : Below w.heap.size w w') : OwnRr w' base v us :=
  ⟨h.out.below k, fun i hi => (h.dat i hi).below k, h.apt, h.par⟩
theorem OwnRr.mono {w : World} {base base' : Nat} {v : Value} {us : List Rx} (h : OwnRr w base v us) (hb : base' ≤ base) : OwnRr w base' v us :=
  ⟨h.out.mono hb, fun i hi => (h.dat i hi).mono hb, h.apt, h.par⟩
/-- Its blocks lie from b on, below u. -/
def RrLies (b u : Nat) (v : Value) (us : List Rx) : Prop := (∀ g, v.ownBlock = some g → b ≤ g ∧ g < u) ∧ ∀ i, i < us.length → ∀ g, (rxV (elAt us i)).ownBlock = some g → b ≤ g ∧ g < u
theorem OwnRr.lies {w : World} {base : Nat} {v : Value} {us : List Rx} (h : OwnRr w base v us) : RrLies base w.heap.size v us := ⟨h.out.lies, fun i hi => (h.dat i hi).lies⟩
theorem OwnRr.only {w w' : World} {base lo hi b u : Nat} {v : Value} {us : List Rx} (h : OwnRr w base v us) (k : Only lo hi w w') (hl : RrLies b u v us) (hs : u ≤ lo ∨ hi ≤ b) : OwnRr w' base v us :=
  ⟨h.out.only k (fun g hg => by have := hl.1 g hg; omega), fun i hi => (h.dat i hi).only k (fun g hg => by have := hl.2 i hi g hg; omega), h.apt, h.par⟩
/-- Another block, ahead of all of its own or behind them, is written. -/
theorem OwnRr.far {w w' : World} {base : Nat} {v : Value} {us : List Rx} {row : Option Nat} (h : OwnRr w base v us) (k : w.grownBy w' row) (h1 : ∀ g, v.ownBlock = some g → some g ≠ row) (h2 : ∀ i, i < us.length → ∀ g, (rxV (elAt us i)).ownBlock = some g → some g ≠ row) : OwnRr w' base v us :=
  ⟨h.out.far k h1, fun i hi => (h.dat i hi).far k (h2 i hi), h.apt, h.par⟩
theorem ownRr_none {w : World} {base : Nat} (hb : base ≤ w.heap.size) : OwnRr (w.alloc (Obj.cells #[] 68)) base (.slice (some ⟨w.heap.size, 0, none⟩) 0 0) [] :=
  ⟨(ownE_none (w := w) (Nat.le_refl _)).mono hb, fun i hi => by simp at hi, fun i hi => by simp at hi, fun i j _ hj => by simp at hj⟩
theorem elAt_appL {α : Type} [Inhabited α] {Z : List α} {x : α} {i : Nat} (h : i < Z.length) : elAt (Z ++ [x]) i = elAt Z i := (elAt_app Z x).1 i h
theorem elAt_appR {α : Type} [Inhabited α] {Z : List α} {x : α} : elAt (Z ++ [x]) Z.length = x := (elAt_app Z x).2
theorem OwnRr.push {w w9 : World} {base g n c : Nat} {v : Value} {us : List Rx} {x : Rx} (h : OwnRr w base v us) (o : OwnE 1 rxC w9 base 68 (.slice (some ⟨g, 0, none⟩) n c) (us ++ [x])) (gr : w.grownBy w9 v.ownBlock) (hg : v.ownBlock = some g ∨ w.heap.size ≤ g)
    (hd : OwnI w base (rxV x) x.zs) (hv : ∀ q, (rxV x).ownBlock = some q → v.ownBlock ≠ some q) (hp : ∀ i, i < us.length → ∀ q, (rxV (elAt us i)).ownBlock = some q → (rxV x).ownBlock ≠ some q) : OwnRr w9 base (.slice (some ⟨g, 0, none⟩) n c) (us ++ [x]) := by
  have dt : ∀ i, i < (us ++ [x]).length → OwnI w base (rxV (elAt (us ++ [x]) i)) (elAt (us ++ [x]) i).zs ∧ ∀ q, (rxV (elAt (us ++ [x]) i)).ownBlock = some q → v.ownBlock ≠ some q := by
    intro i hi
    by_cases e : i < us.length
    · rw [elAt_appL e]; exact ⟨h.dat i e, h.apt i e⟩
    · obtain rfl : i = us.length := by simp at hi; omega
      rw [elAt_appR]; exact ⟨hd, hv⟩
  refine ⟨o, fun i hi => (dt i hi).1.far gr (fun q hq e => (dt i hi).2 q hq e.symm), fun i hi q hq e => ?_, fun i j hij hj q hq => ?_⟩
  · have e : g = q := Option.some.inj e
    rcases hg with k | k
    · exact (dt i hi).2 q hq (by rw [k, e])
    · have := ((dt i hi).1.lies q hq).2; omega
  · have hi : i < us.length := by simp at hj; omega
    rw [elAt_appL hi] at hq
    by_cases e : j < us.length
    · rw [elAt_appL e]; exact h.par i j hij e q hq
    · obtain rfl : j = us.length := by simp at hj; omega
      rw [elAt_appR]; exact hp i hi q hq
def rxZ (us : List Rx) : List (List Int) := us.map (·.zs)
theorem rxZ_at {us : List Rx} {i : Nat} (h : i < us.length) : nthS (rxZ us) i = (elAt us i).zs := by simp [nthS, rxZ, elAt, h]
/-- As it reads. -/
theorem OwnRr.read {w : World} {base : Nat} {a : Option Addr} {len c : Nat} {us : List Rx} (h : OwnRr w base (.slice a len c) us) (hs : us.length ≤ 9223372036854775807) : RowS w a len (rxZ us) := by
  have hl := h.out.row.len_eq
  refine ⟨by simp [rxZ, hl], by omega, fun i hi => ?_⟩
  obtain ⟨b, off, ha, hc⟩ := h.out.row.at_ i hi
  have hc0 := hc 0 (by omega)
  rw [Nat.mul_one, Nat.add_zero] at hc0
  have hd := h.dat i (by omega)
  refine ⟨b, off, (elAt us i).a, (elAt us i).n, (elAt us i).c, ha, hc0, ?_, ?_⟩
  · rw [rxZ_at (by omega)]; exact OwnI.row hd
  · rcases hd.form with ⟨e, _⟩ | ⟨g, cap, e, _, _, hle, _⟩
    · simp only [rxV, Value.slice.injEq] at e; omega
    · simp only [rxV, Value.slice.injEq] at e; omega
/-- Rows that a call has made, and what they say. -/
structure OwnRT (w : World) (base : Nat) (v : Value) (us : List Rx) (T : List (List Int)) : Prop where
  o : OwnRr w base v us
  con : rxZ us = T
theorem OwnRT.below {w w' : World} {base : Nat} {v : Value} {us : List Rx} {T : List (List Int)} (h : OwnRT w base v us T) (k : Below w.heap.size w w') : OwnRT w' base v us T := ⟨h.o.below k, h.con⟩
theorem OwnRT.lies {w : World} {base : Nat} {v : Value} {us : List Rx} {T : List (List Int)} (h : OwnRT w base v us T) : RrLies base w.heap.size v us := h.o.lies
theorem OwnRT.only {w w' : World} {base lo hi b u : Nat} {v : Value} {us : List Rx} {T : List (List Int)} (h : OwnRT w base v us T) (k : Only lo hi w w') (hl : RrLies b u v us) (hs : u ≤ lo ∨ hi ≤ b) : OwnRT w' base v us T := ⟨h.o.only k hl hs, h.con⟩
/-- What the marks ask of them. -/
structure RrFit (us : List Rx) (T : List (List Int)) : Prop where
  len : us.length = T.length
  few : T.length ≤ 400
  d32 : ∀ i, i < us.length → (elAt us i).zs.length ≤ 32
  dn : ∀ i, i < us.length → (elAt us i).zs.length = (elAt us i).n
theorem OwnRT.fit {w : World} {base : Nat} {v : Value} {us : List Rx} {T : List (List Int)} (h : OwnRT w base v us T) (h1 : T.length ≤ 400) (h2 : ∀ x ∈ T, x.length ≤ 32) : RrFit us T :=
  ⟨by rw [← h.con]; simp [rxZ], h1, fun i hi => h2 _ (by rw [← h.con]; exact List.mem_map.2 ⟨elAt us i, by simp [elAt, hi], rfl⟩), fun i hi => (OwnI.row (a := (elAt us i).a) (len := (elAt us i).n) (cap := (elAt us i).c) (h.o.dat i hi)).len_eq⟩
end Go.Proofs.Ytfnnfldfnjnlfag

/-
  Votes of many rounds in plain numbers, and what lies at the head of a round of its loop.
-/
import Derived.Test.YtidgkkldhnckeadVsAll
import Derived.Test.YtidgkkldhnckeadAppI
import Derived.Test.YtidgkkldhnckeadRowS
import Derived.Test.YtidgkkldhnckeadBlks
namespace Go.Proofs.Ytidgkkldhnckead
open Go.RowKit

/-- The lanes' lists behind k rounds, the values told so far. -/
def vsAt (n h : Int) (bs : List Bool) (os : List Int) (zss : List (List Int)) : Nat → List Bool × List Int
  | 0 => (bs, os)
  | k + 1 => (votOut n h (vsAt n h bs os zss k).1 (vsAt n h bs os zss k).2 (nthS zss k), votOdd n h (vsAt n h bs os zss k).1 (vsAt n h bs os zss k).2 (nthS zss k))
def vsX (n h : Int) (bs : List Bool) (os : List Int) (zss : List (List Int)) (k : Nat) : Int := votX n h (vsAt n h bs os zss k).1 (vsAt n h bs os zss k).2 (nthS zss k)
def vsV (n h : Int) (bs : List Bool) (os : List Int) (zss : List (List Int)) (k : Nat) : List Int := (List.range k).map (vsX n h bs os zss)
theorem vsV_succ (n h : Int) (bs : List Bool) (os : List Int) (zss : List (List Int)) (k : Nat) : vsV n h bs os zss (k + 1) = vsV n h bs os zss k ++ [vsX n h bs os zss k] := by simp [vsV, List.range_succ]
theorem vsV_len (n h : Int) (bs : List Bool) (os : List Int) (zss : List (List Int)) (k : Nat) : (vsV n h bs os zss k).length = k := by simp [vsV]
def vsMany (zss : List (List Int)) : Nat := if zss.length ≤ 200 then zss.length else 0
theorem vsAt_len (n h : Int) (bs : List Bool) (os : List Int) (zss : List (List Int)) (k : Nat) : (vsAt n h bs os zss k).1.length ≤ bs.length ∧ (vsAt n h bs os zss k).2.length ≤ os.length := by
  induction k with
  | zero => exact ⟨Nat.le_refl _, Nat.le_refl _⟩
  | succ k ih =>
    have a := votO_len n h (vsAt n h bs os zss k).1 (vsAt n h bs os zss k).2 (nthS zss k)
    have b := votD_len n h (vsAt n h bs os zss k).1 (vsAt n h bs os zss k).2 (nthS zss k)
    exact ⟨Nat.le_trans a ih.1, Nat.le_trans b ih.2⟩
theorem votX_in (n h : Int) (bs : List Bool) (os zs : List Int) : -1000000 ≤ votX n h bs os zs ∧ votX n h bs os zs ≤ 1000000 := by
  unfold votX
  split
  · rename_i e
    exact valX_in (heardS_all (bs := bs) (seen_parts e).2.2)
  · omega

theorem wpList_app_at {ops : Array Oper} {rest : List Oper} {o : Oper} {a : Act} {Q : Exit → Act → World → Prop} (hgd : o.guard = none) (s xo : Operand)
    (ho : o.op = .call { callee := .builtin .append, args := #[s, xo], argTypes := #[26, 26] }) {wr : World} {base n : Nat} {v : Value} {zs : List Int} (x : Int) (hO : OwnI wr base v zs) (hn : zs.length = n) (hs : a.eval s = v)
    {H : Nat} (hH : wr.heap.size = H) (hx : a.eval xo = .slice (some ⟨H, 0, none⟩) 1 1) (hb : base ≤ wr.heap.size) (hsm : n ≤ 1000000) (hf : -9223372036854775808 ≤ x ∧ x ≤ 9223372036854775807)
    (h : ∀ g cap w', OwnI w' base (.slice (some ⟨g, 0, none⟩) (n + 1) cap) (zs ++ [x]) → wr.grownBy w' v.ownBlock → (v.ownBlock = some g ∨ wr.heap.size < g) → wpList Try.prog ops Q rest (a.put o.dst (.slice (some ⟨g, 0, none⟩) (n + 1) cap)) w') :
    wpList Try.prog ops Q (o :: rest) a (wr.alloc (Obj.cells #[.int .i64 x] 3)) := by
  subst hn
  subst hH
  obtain ⟨vs, hown, hvx⟩ := hO.own
  have hbA := bel1 (w := wr) (Obj.cells #[.int .i64 x] 3)
  have hownA := ownsRow_below hown hbA
  have hnews := World.news_of_block (heap_alloc_new wr (Obj.cells #[.int .i64 x] 3))
  obtain ⟨i0, hii, hz0, hz1, hz2⟩ := info_parts info_int1
  refine wpList_append_lies _ hgd s xo 26 ho base 3 i0 (.int .i64 0) 1 8 Try.underlying26 hii hz0 hz1 hz2 rfl (by decide) v zs.length vs hs hownA ⟨wr.heap.size, 0, none⟩ 1 1 [.int .i64 x] hx rfl hnews (by simp [Value.oneCell']) (by decide) (by unfold maxLen; omega) (by omega) (by simp; omega) _ rfl ?_
  intro g cap w' h1 h2 h3 _
  exact h g cap w' (ownI_app h1 hown.1 hvx hO.fit hf) (grownBy_alloc_then h2) (by
    rcases h3 with h3 | h3
    · exact .inl h3
    · right; rw [h3]; simp)

theorem Blk.farther {w w' : World} {B : Nat} {vs : List Value} {row : Option Nat} (h : Blk w B vs) (k : w.grownBy w' row) (hne : some B ≠ row) : Blk w' B vs := by
  have hb := k.block B h.lt hne
  refine ⟨fun i hi => (World.cell?_of_block (a := ⟨B, i, none⟩) hb).trans (h.c i hi), fun i hi => ?_, Nat.lt_of_lt_of_le h.lt k.size⟩
  have h2 := h.f i hi
  unfold World.frozen? at h2 ⊢
  simp only at h2 ⊢
  rw [hb]; exact h2

/-- A voter's lists and the block of a list beside them. -/
def VoApart (q1 q2 : Option Addr) (M1 e1 M2 e2 g : Nat) : Prop := ∃ lo hi, VoLies lo hi q1 q2 M1 e1 M2 e2 ∧ (g < lo ∨ hi ≤ g)
theorem voApart_of {lo hi : Nat} {q1 q2 : Option Addr} {M1 e1 M2 e2 g : Nat} (a : VoLies lo hi q1 q2 M1 e1 M2 e2) (b : g < lo ∨ hi ≤ g) : VoApart q1 q2 M1 e1 M2 e2 g := ⟨lo, hi, a, b⟩
/-- What lies at the head of a round: the voter in block P, its lists from lo up to hi, the values told. -/
structure Vts (w wr : World) (P lo hi : Nat) (n h : Int) (A1 A2 : Option Addr) (L1 d1 L2 d2 g k c : Nat) (B : List Bool) (D vs : List Int) : Prop where
  p : Blk wr P [.int .i64 n, .int .i64 h, .slice A1 L1 d1, .slice A2 L2 d2]
  r : Blk wr (w.heap.size + 1) [.int .i64 0, .int .i64 0, .slice none 0 0, .slice none 0 0]
  vo : VoOwn wr lo A1 A2 L1 d1 L2 d2 B D
  vl : VoLies lo hi A1 A2 L1 d1 L2 d2
  ov : OwnI wr (w.heap.size + 1 + 1) (.slice (some ⟨g, 0, none⟩) k c) vs
  out : g < lo ∨ hi ≤ g
  hP : P < lo ∨ hi ≤ P
  gP : g ≠ P
  pw : w.heap.size ≤ P
  pr : P ≠ w.heap.size + 1
  lw : w.heap.size + 1 + 1 ≤ lo
  hw : hi ≤ wr.heap.size
  b1 : B.length = L1
  b2 : D.length = L2
  lv : vs.length = k
  b : Below w.heap.size w wr
theorem Vts.below {w wr w2 : World} {P lo hi : Nat} {n h : Int} {A1 A2 : Option Addr} {L1 d1 L2 d2 g k c : Nat} {B : List Bool} {D vs : List Int} (S : Vts w wr P lo hi n h A1 A2 L1 d1 L2 d2 g k c B D vs) (b : Below wr.heap.size wr w2) : Vts w w2 P lo hi n h A1 A2 L1 d1 L2 d2 g k c B D vs :=
  ⟨S.p.below b, S.r.below b, S.vo.below b, S.vl, S.ov.below b, S.out, S.hP, S.gP, S.pw, S.pr, S.lw, Nat.le_trans S.hw b.size, S.b1, S.b2, S.lv, S.b.trans (b.mono S.b.size)⟩
/-- A round's voter stored into its block. -/
theorem Vts.stored {w wr w2 : World} {P lo hi : Nat} {n h : Int} {A1 A2 : Option Addr} {L1 d1 L2 d2 g k c : Nat} {B : List Bool} {D vs : List Int} (S : Vts w wr P lo hi n h A1 A2 L1 d1 L2 d2 g k c B D vs) (b : Below wr.heap.size wr w2)
    {q1 q2 : Option Addr} {M1 e1 M2 e2 : Nat} {B' : List Bool} {D' : List Int} (vo : VoOwn w2 wr.heap.size q1 q2 M1 e1 M2 e2 B' D') (m1 : B'.length = M1) (m2 : D'.length = M2) (o : Obj) :
    Vts w (((((w2.alloc o).setCell ⟨P, 0, none⟩ (.int .i64 n)).setCell ⟨P, 1, none⟩ (.int .i64 h)).setCell ⟨P, 2, none⟩ (.slice q1 M1 e1)).setCell ⟨P, 3, none⟩ (.slice q2 M2 e2)) P wr.heap.size w2.heap.size n h q1 q2 M1 e1 M2 e2 g k c B' D' vs := by
  have lg := S.ov.lies g rfl
  have hP := S.p.lt
  have l1 := vo.o1.lies
  have l2 := vo.o2.lies
  have pw := S.pw
  have pr := S.pr
  have gP := S.gP
  have hz := b.size
  have hlw := S.lw
  have hout := S.out
  have v1 := vo.below (bel1 o)
  have a1 : ∀ q, (Value.slice q1 M1 e1).ownBlock = some q → q ≠ P := fun q hq => by have := l1 q hq; omega
  have a2 : ∀ q, (Value.slice q2 M2 e2).ownBlock = some q → q ≠ P := fun q hq => by have := l2 q hq; omega
  have n1 : (Value.slice q1 M1 e1).ownBlock ≠ some P := fun e => a1 P e rfl
  have n2 : (Value.slice q2 M2 e2).ownBlock ≠ some P := fun e => a2 P e rfl
  have ng : (Value.slice (some ⟨g, 0, none⟩) k c).ownBlock ≠ some P := fun e => gP (by simpa [Value.ownBlock] using e)
  have w1 := S.b.trans (b.mono S.b.size)
  refine ⟨((((((S.p.below b).alloc o).set 0 (by simp) _).set 1 (by simp) _).set 2 (by simp) _).set 3 (by simp) _), ?_, ?_, ⟨l1, l2⟩, ?_, .inl lg.2, .inl hP, gP, pw, pr, by omega, ?_, m1, m2, S.lv, ?_⟩
  · exact ((((((S.r.below b).alloc o).other (by simpa using pr) _).other (by simpa using pr) _).other (by simpa using pr) _).other (by simpa using pr) _)
  · exact (((v1.set_other _ n1 n2).set_other _ n1 n2).set_other _ n1 n2).set_other _ n1 n2
  · exact ((((((S.ov.below b).below (bel1 o)).set_other _ ng).set_other _ ng).set_other _ ng).set_other _ ng)
  · simp [World.setCell]
  · exact (((((w1.alloc w1.size o).setCell (by simpa using pw) _).setCell (by simpa using pw) _).setCell (by simpa using pw) _).setCell (by simpa using pw) _)
/-- A value put behind. -/
theorem Vts.pushed {w wr w9 : World} {P lo hi : Nat} {n h : Int} {A1 A2 : Option Addr} {L1 d1 L2 d2 g k c g' c' : Nat} {B : List Bool} {D vs : List Int} {x : Int} (S : Vts w wr P lo hi n h A1 A2 L1 d1 L2 d2 g k c B D vs)
    (o : OwnI w9 (w.heap.size + 1 + 1) (.slice (some ⟨g', 0, none⟩) (k + 1) c') (vs ++ [x])) (gr : wr.grownBy w9 (Value.slice (some ⟨g, 0, none⟩) k c).ownBlock) (ha : (Value.slice (some ⟨g, 0, none⟩) k c).ownBlock = some g' ∨ wr.heap.size < g') :
    Vts w w9 P lo hi n h A1 A2 L1 d1 L2 d2 g' (k + 1) c' B D (vs ++ [x]) := by
  have lg := S.ov.lies g rfl
  have hPlt := S.p.lt
  have gP := S.gP
  have hw := S.hw
  have hout := S.out
  have hP := S.hP
  have hl1 := S.vl.1
  have hl2 := S.vl.2
  have gr' : wr.grownBy w9 (some g) := gr
  refine ⟨S.p.farther gr' (by simp; omega), S.r.farther gr' (by simp; omega), ⟨S.vo.o1.far gr' (fun q hq e => ?_), S.vo.o2.far gr' (fun q hq e => ?_), S.vo.p12⟩, S.vl, o, ?_, hP, ?_, S.pw, S.pr, S.lw, Nat.le_trans hw gr.size, S.b1, S.b2, by simp [S.lv], ?_⟩
  · have := hl1 q hq; have e' : q = g := by simpa using e
    omega
  · have := hl2 q hq; have e' : q = g := by simpa using e
    omega
  · rcases ha with ha | ha
    · have e' : g = g' := by simpa [Value.ownBlock] using ha
      omega
    · right; omega
  · rcases ha with ha | ha
    · have e' : g = g' := by simpa [Value.ownBlock] using ha
      omega
    · omega
  · exact S.b.grown gr' (S.b.size) (fun q hq => by have e' : g = q := by simpa using hq
                                                   omega)

/-- Something else written. -/
theorem Vts.other {w wr : World} {P lo hi : Nat} {n h : Int} {A1 A2 : Option Addr} {L1 d1 L2 d2 g k c : Nat} {B : List Bool} {D vs : List Int} (S : Vts w wr P lo hi n h A1 A2 L1 d1 L2 d2 g k c B D vs) {q o : Nat} (hq : w.heap.size + 1 + 1 ≤ q) (n0 : q ≠ P) (n1 : hi ≤ q) (n2 : q ≠ g) (u : Value) :
    Vts w (wr.setCell ⟨q, o, none⟩ u) P lo hi n h A1 A2 L1 d1 L2 d2 g k c B D vs := by
  have hl1 := S.vl.1
  have hl2 := S.vl.2
  exact ⟨S.p.other (by simpa using n0) _, S.r.other (by simp; omega) _, S.vo.set_other _ (fun e => by have := hl1 _ e; omega) (fun e => by have := hl2 _ e; omega), S.vl, S.ov.set_other _ (by simp [Value.ownBlock]; omega), S.out, S.hP, S.gP, S.pw, S.pr, S.lw, by simpa [World.setCell] using S.hw, S.b1, S.b2, S.lv, S.b.setCell (by simp; omega) _⟩
/-- A voter made behind all that was there, stored into its block. -/
theorem Vts.put {w wr : World} {P lo hi lo' hi' : Nat} {n h : Int} {A1 A2 : Option Addr} {L1 d1 L2 d2 g k c : Nat} {B : List Bool} {D vs : List Int} (S : Vts w wr P lo hi n h A1 A2 L1 d1 L2 d2 g k c B D vs)
    {q1 q2 : Option Addr} {M1 e1 M2 e2 : Nat} {B' : List Bool} {D' : List Int} (vo : VoOwn wr lo' q1 q2 M1 e1 M2 e2 B' D') (vl : VoLies lo' hi' q1 q2 M1 e1 M2 e2) (m1 : B'.length = M1) (m2 : D'.length = M2) (x0 : P < lo') (x1 : g < lo') (x2 : w.heap.size + 1 + 1 ≤ lo') (x3 : hi' ≤ wr.heap.size) :
    Vts w ((((wr.setCell ⟨P, 0, none⟩ (.int .i64 n)).setCell ⟨P, 1, none⟩ (.int .i64 h)).setCell ⟨P, 2, none⟩ (.slice q1 M1 e1)).setCell ⟨P, 3, none⟩ (.slice q2 M2 e2)) P lo' hi' n h q1 q2 M1 e1 M2 e2 g k c B' D' vs := by
  have pw := S.pw
  have pr := S.pr
  have gP := S.gP
  have n1 : (Value.slice q1 M1 e1).ownBlock ≠ some P := fun e => by have := vl.1 _ e; omega
  have n2 : (Value.slice q2 M2 e2).ownBlock ≠ some P := fun e => by have := vl.2 _ e; omega
  have ng : (Value.slice (some ⟨g, 0, none⟩) k c).ownBlock ≠ some P := fun e => gP (by simpa [Value.ownBlock] using e)
  refine ⟨((((S.p.set 0 (by simp) _).set 1 (by simp) _).set 2 (by simp) _).set 3 (by simp) _), ?_, ?_, vl, ?_, .inl x1, .inl x0, gP, pw, pr, x2, ?_, m1, m2, S.lv, ?_⟩
  · exact ((((S.r.other (by simpa using pr) _).other (by simpa using pr) _).other (by simpa using pr) _).other (by simpa using pr) _)
  · exact (((vo.set_other _ n1 n2).set_other _ n1 n2).set_other _ n1 n2).set_other _ n1 n2
  · exact (((S.ov.set_other _ ng).set_other _ ng).set_other _ ng).set_other _ ng
  · simpa [World.setCell] using x3
  · exact ((((S.b.setCell (by simpa using pw) _).setCell (by simpa using pw) _).setCell (by simpa using pw) _).setCell (by simpa using pw) _)

end Go.Proofs.Ytidgkkldhnckead

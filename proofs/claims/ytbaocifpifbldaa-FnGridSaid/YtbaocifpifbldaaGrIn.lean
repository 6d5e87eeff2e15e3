/-
  Two grids that grow, on the way of a law: their sides, their rows, all in blocks of their own. No condition.
-/
import Derived.Test.YtbaocifpifbldaaGrPure
import Derived.Test.YtbaocifpifbldaaAppEl
import Derived.Test.YtbaocifpifbldaaBlks
import Derived.Test.YtbaocifpifbldaaApFar
namespace Go.Proofs.Ytbaocifpifbldaa
open Go.RowKit

/-- A row of two numbers in a block of its own. -/
structure Gw where
  b : Nat
  p : Int
  q : Int
instance : Inhabited Gw := ⟨⟨0, 0, 0⟩⟩
instance : Inhabited Value := ⟨.bool false⟩
def gwV (r : Gw) : Value := .slice (some ⟨r.b, 0, none⟩) 2 2
def idC (v : Value) (_ : Nat) : Value := v
structure GrS (w wr : World) (t : Int) (vg vf : Value) (rg rf : List Gw) : Prop where
  bx : Blk wr w.heap.size [.int .i64 0, .int .i64 t]
  by_ : Blk wr (w.heap.size + 1) [.int .i64 (-2), .int .i64 4, .int .i64 9]
  bg : Blk wr (w.heap.size + 1 + 1) [.slice (some ⟨w.heap.size, 0, none⟩) 2 2, .slice (some ⟨w.heap.size + 1, 0, none⟩) 3 3, vg]
  bf : Blk wr (w.heap.size + 1 + 1 + 1) [.slice (some ⟨w.heap.size, 0, none⟩) 2 2, .slice (some ⟨w.heap.size + 1, 0, none⟩) 3 3, vf]
  og : OwnE 1 idC wr (w.heap.size + 4) 24 vg (rg.map gwV)
  of : OwnE 1 idC wr (w.heap.size + 4) 24 vf (rf.map gwV)
  ap : ∀ k, vg.ownBlock = some k → vf.ownBlock ≠ some k
  kr : ∀ r ∈ rg ++ rf, Blk wr r.b [.int .i64 r.p, .int .i64 r.q] ∧ w.heap.size + 4 ≤ r.b ∧ vg.ownBlock ≠ some r.b ∧ vf.ownBlock ≠ some r.b
  bel : Below w.heap.size w wr
  sz : w.heap.size + 4 ≤ wr.heap.size
theorem GrS.below {w wr w' : World} {t : Int} {vg vf : Value} {rg rf : List Gw} (h : GrS w wr t vg vf rg rf) (b : Below wr.heap.size wr w') : GrS w w' t vg vf rg rf :=
  ⟨h.bx.below b, h.by_.below b, h.bg.below b, h.bf.below b, h.og.below b, h.of.below b, h.ap, fun r hr => by obtain ⟨k1, k2⟩ := h.kr r hr; exact ⟨k1.below b, k2⟩, h.bel.trans (b.mono h.bel.size), Nat.le_trans h.sz b.size⟩

theorem GrS.pushG {w wr w1 w9 : World} {t p q : Int} {vg vf : Value} {rg rf : List Gw} {g9 n c9 : Nat} (h : GrS w wr t vg vf rg rf) (b : Below wr.heap.size wr w1)
    (o : OwnE 1 idC w9 (w.heap.size + 4) 24 (.slice (some ⟨g9, 0, none⟩) n c9) ((rg ++ [(⟨w1.heap.size, p, q⟩ : Gw)]).map gwV)) (gr : (w1.alloc (Obj.cells #[.int .i64 p, .int .i64 q] 3)).grownBy w9 vg.ownBlock) (ha : vg.ownBlock = some g9 ∨ (w1.alloc (Obj.cells #[.int .i64 p, .int .i64 q] 3)).heap.size < g9) :
    GrS w (w9.setCell ⟨w.heap.size + 1 + 1, 2, none⟩ (.slice (some ⟨g9, 0, none⟩) n c9)) t (.slice (some ⟨g9, 0, none⟩) n c9) vf (rg ++ [(⟨w1.heap.size, p, q⟩ : Gw)]) rf := by
  have h1 := h.below b
  have h2 := h1.below (bel1 (w := w1) (Obj.cells #[.int .i64 p, .int .i64 q] 3))
  have lm := h.og.lies
  have lo := h.of.lies
  have sz1 : wr.heap.size ≤ w1.heap.size := b.size
  have szw : w.heap.size + 4 ≤ wr.heap.size := h.sz
  have hsU : (w1.alloc (Obj.cells #[.int .i64 p, .int .i64 q] 3)).heap.size = w1.heap.size + 1 := by simp
  rw [hsU] at ha
  have hg9 : w.heap.size + 4 ≤ g9 := by
    rcases ha with e | e
    · exact (lm g9 e).1
    · omega
  have hlt9 : w1.heap.size + 1 ≤ w9.heap.size := by have := gr.size; rw [hsU] at this; exact this
  have old : ∀ (B : Nat) (vs : List Value), Blk (w1.alloc (Obj.cells #[.int .i64 p, .int .i64 q] 3)) B vs → vg.ownBlock ≠ some B → Blk w9 B vs := fun B vs hb hn => hb.apart gr (fun e => hn e.symm)
  have low : ∀ B, B < w.heap.size + 4 → vg.ownBlock ≠ some B := fun B hB e => by have := lm B e; omega
  have oto : OwnE 1 idC w9 (w.heap.size + 4) 24 vf (rf.map gwV) := h2.of.far gr (fun k hk e => h.ap k (e.symm) hk)
  refine ⟨?_, ?_, by simpa using (old _ _ h2.bg (low _ (by omega))).set 2 (by simp) (.slice (some ⟨g9, 0, none⟩) n c9), (old _ _ h2.bf (low _ (by omega))).other (by simp; try omega) _, o.set_other _ (by simp [Value.ownBlock]; omega), oto.set_other (S := w.heap.size + 1 + 1) _ (fun e => by have := lo _ e; omega), ?_, ?_, ?_, ?_⟩
  · exact (old _ _ h2.bx (low _ (by omega))).other (by simp; try omega) _
  · exact (old _ _ h2.by_ (low _ (by omega))).other (by simp; try omega) _
  · intro k hk e
    have e2 : g9 = k := by simpa [Value.ownBlock] using hk
    subst e2
    rcases ha with e3 | e3
    · exact h.ap g9 e3 e
    · have := lo g9 e; omega
  · intro r hr
    have cases : r ∈ rg ++ rf ∨ r = ⟨w1.heap.size, p, q⟩ := by
      simp only [List.mem_append, List.mem_singleton] at hr ⊢
      rcases hr with (hr | hr) | hr
      · exact .inl (.inl hr)
      · exact .inr hr
      · exact .inl (.inr hr)
    rcases cases with hr2 | rfl
    · obtain ⟨k1, k2, k3, k4⟩ := h.kr r hr2
      obtain ⟨m1, _, _, _⟩ := h2.kr r hr2
      have hrlt : r.b < wr.heap.size := k1.lt
      have gne : g9 ≠ r.b := fun e => by
        rcases ha with e2 | e2
        · rw [e] at e2; exact k3 e2
        · omega
      exact ⟨(old _ _ m1 k3).other (by simp; omega) _, k2, by simpa [Value.ownBlock] using gne, k4⟩
    · have nb : vg.ownBlock ≠ some w1.heap.size := fun e => by have := lm _ e; omega
      have ob : vf.ownBlock ≠ some w1.heap.size := fun e => by have := lo _ e; omega
      have gne : g9 ≠ w1.heap.size := fun e => by
        rcases ha with e2 | e2
        · rw [e] at e2; exact nb e2
        · omega
      refine ⟨(old _ _ (Blk.new [.int .i64 p, .int .i64 q] 3) nb).other (by simp; omega) _, by show w.heap.size + 4 ≤ w1.heap.size; omega, by simpa [Value.ownBlock] using gne, ob⟩
  · exact (h2.bel.grown gr h2.bel.size (fun k hk => by have := lm k hk; omega)).setCell (by simp; try omega) _
  · simp [World.setCell]; omega

theorem GrS.pushF {w wr w1 w9 : World} {t p q : Int} {vg vf : Value} {rg rf : List Gw} {g9 n c9 : Nat} (h : GrS w wr t vg vf rg rf) (b : Below wr.heap.size wr w1)
    (o : OwnE 1 idC w9 (w.heap.size + 4) 24 (.slice (some ⟨g9, 0, none⟩) n c9) ((rf ++ [(⟨w1.heap.size, p, q⟩ : Gw)]).map gwV)) (gr : (w1.alloc (Obj.cells #[.int .i64 p, .int .i64 q] 3)).grownBy w9 vf.ownBlock) (ha : vf.ownBlock = some g9 ∨ (w1.alloc (Obj.cells #[.int .i64 p, .int .i64 q] 3)).heap.size < g9) :
    GrS w (w9.setCell ⟨w.heap.size + 1 + 1 + 1, 2, none⟩ (.slice (some ⟨g9, 0, none⟩) n c9)) t vg (.slice (some ⟨g9, 0, none⟩) n c9) rg (rf ++ [(⟨w1.heap.size, p, q⟩ : Gw)]) := by
  have h1 := h.below b
  have h2 := h1.below (bel1 (w := w1) (Obj.cells #[.int .i64 p, .int .i64 q] 3))
  have lm := h.of.lies
  have lo := h.og.lies
  have sz1 : wr.heap.size ≤ w1.heap.size := b.size
  have szw : w.heap.size + 4 ≤ wr.heap.size := h.sz
  have hsU : (w1.alloc (Obj.cells #[.int .i64 p, .int .i64 q] 3)).heap.size = w1.heap.size + 1 := by simp
  rw [hsU] at ha
  have hg9 : w.heap.size + 4 ≤ g9 := by
    rcases ha with e | e
    · exact (lm g9 e).1
    · omega
  have hlt9 : w1.heap.size + 1 ≤ w9.heap.size := by have := gr.size; rw [hsU] at this; exact this
  have old : ∀ (B : Nat) (vs : List Value), Blk (w1.alloc (Obj.cells #[.int .i64 p, .int .i64 q] 3)) B vs → vf.ownBlock ≠ some B → Blk w9 B vs := fun B vs hb hn => hb.apart gr (fun e => hn e.symm)
  have low : ∀ B, B < w.heap.size + 4 → vf.ownBlock ≠ some B := fun B hB e => by have := lm B e; omega
  have oto : OwnE 1 idC w9 (w.heap.size + 4) 24 vg (rg.map gwV) := h2.og.far gr (fun k hk e => h.ap k hk e.symm)
  refine ⟨?_, ?_, (old _ _ h2.bg (low _ (by omega))).other (by simp; try omega) _, by simpa using (old _ _ h2.bf (low _ (by omega))).set 2 (by simp) (.slice (some ⟨g9, 0, none⟩) n c9), oto.set_other (S := w.heap.size + 1 + 1 + 1) _ (fun e => by have := lo _ e; omega), o.set_other _ (by simp [Value.ownBlock]; omega), ?_, ?_, ?_, ?_⟩
  · exact (old _ _ h2.bx (low _ (by omega))).other (by simp; try omega) _
  · exact (old _ _ h2.by_ (low _ (by omega))).other (by simp; try omega) _
  · intro k hk e
    have e2 : g9 = k := by simpa [Value.ownBlock] using e
    subst e2
    rcases ha with e3 | e3
    · exact h.ap g9 hk e3
    · have := lo g9 hk; omega
  · intro r hr
    have cases : r ∈ rg ++ rf ∨ r = ⟨w1.heap.size, p, q⟩ := by
      simp only [List.mem_append, List.mem_singleton] at hr ⊢
      rcases hr with hr | (hr | hr)
      · exact .inl (.inl hr)
      · exact .inl (.inr hr)
      · exact .inr hr
    rcases cases with hr2 | rfl
    · obtain ⟨k1, k2, k3, k4⟩ := h.kr r hr2
      obtain ⟨m1, _, _, _⟩ := h2.kr r hr2
      have hrlt : r.b < wr.heap.size := k1.lt
      have gne : g9 ≠ r.b := fun e => by
        rcases ha with e2 | e2
        · rw [e] at e2; exact k4 e2
        · omega
      exact ⟨(old _ _ m1 k4).other (by simp; omega) _, k2, k3, by simpa [Value.ownBlock] using gne⟩
    · have nb : vf.ownBlock ≠ some w1.heap.size := fun e => by have := lm _ e; omega
      have ob : vg.ownBlock ≠ some w1.heap.size := fun e => by have := lo _ e; omega
      have gne : g9 ≠ w1.heap.size := fun e => by
        rcases ha with e2 | e2
        · rw [e] at e2; exact nb e2
        · omega
      refine ⟨(old _ _ (Blk.new [.int .i64 p, .int .i64 q] 3) nb).other (by simp; omega) _, by show w.heap.size + 4 ≤ w1.heap.size; omega, ob, by simpa [Value.ownBlock] using gne⟩
  · exact (h2.bel.grown gr h2.bel.size (fun k hk => by have := lm k hk; omega)).setCell (by simp; try omega) _
  · simp [World.setCell]; omega

theorem row_blk {w : World} {b : Nat} {p q : Int} (h : Blk w b [.int .i64 p, .int .i64 q]) (hp : -1000 ≤ p ∧ p ≤ 1000) (hq : -1000 ≤ q ∧ q ≤ 1000) : Row w (some ⟨b, 0, none⟩) 2 [p, q] := by
  refine ⟨rfl, by omega, fun i hi => ⟨b, 0, rfl, ?_⟩, fun i => ?_⟩
  · rcases (by omega : i = 0 ∨ i = 1) with rfl | rfl
    · exact h.c 0 (by simp)
    · exact h.c 1 (by simp)
  · match i with
    | 0 => simp only [nth, List.getElem?_cons_zero, Option.getD_some]; omega
    | 1 => simp only [nth, List.getElem?_cons_succ, List.getElem?_cons_zero, Option.getD_some]; omega
    | n + 2 => simp [nth]
theorem GrS.rowX {w wr : World} {t : Int} {vg vf : Value} {rg rf : List Gw} (h : GrS w wr t vg vf rg rf) (ht : 3 ≤ t ∧ t ≤ 7) : Row wr (some ⟨w.heap.size, 0, none⟩) 2 (grX t) := row_blk h.bx (by omega) (by omega)
theorem GrS.rowY {w wr : World} {t : Int} {vg vf : Value} {rg rf : List Gw} (h : GrS w wr t vg vf rg rf) : Row wr (some ⟨w.heap.size + 1, 0, none⟩) 3 grY := by
  refine ⟨rfl, by omega, fun i hi => ⟨_, 0, rfl, ?_⟩, fun i => ?_⟩
  · rcases (by omega : i = 0 ∨ i = 1 ∨ i = 2) with rfl | rfl | rfl
    · exact h.by_.c 0 (by simp)
    · exact h.by_.c 1 (by simp)
    · exact h.by_.c 2 (by simp)
  · match i with
    | 0 => simp [nth, grY]
    | 1 => simp [nth, grY]
    | 2 => simp [nth, grY]
    | n + 3 => simp [nth, grY]
theorem elAt_map (rs : List Gw) (i : Nat) (hi : i < rs.length) : elAt (rs.map gwV) i = gwV (elAt rs i) := by
  unfold elAt; rw [List.getElem?_map, List.getElem?_eq_getElem hi]; rfl
theorem elAt_mem {rs : List Gw} {i : Nat} (hi : i < rs.length) : elAt rs i ∈ rs := by
  unfold elAt; rw [List.getElem?_eq_getElem hi]; exact List.getElem_mem hi
theorem grZ_at (z : Nat → Int × Int) {i : Nat} (hi : i < 3) : nthS (grZ z) i = [(z i).1, (z i).2] := by
  rcases (by omega : i = 0 ∨ i = 1 ∨ i = 2) with rfl | rfl | rfl <;> rfl
/-- Three rows in a list of their own read as the grid's. -/
theorem rows_three {w wr : World} {base g c : Nat} {rs : List Gw} {z : Nat → Int × Int} {t : Int} (hf : GrFit t z) (o : OwnE 1 idC wr base 24 (.slice (some ⟨g, 0, none⟩) 3 c) (rs.map gwV)) (hl : rs.length = 3) (hz : ∀ i, i < 3 → (elAt rs i).p = (z i).1 ∧ (elAt rs i).q = (z i).2)
    (hk : ∀ r ∈ rs, Blk wr r.b [.int .i64 r.p, .int .i64 r.q]) : RowS wr (some ⟨g, 0, none⟩) 3 (grZ z) ∧ w = w := by
  refine ⟨⟨rfl, by omega, fun i hi => ?_⟩, rfl⟩
  have hc := (o.here (by rw [List.length_map]; exact hl) i hi 0 (by omega)).1
  rw [elAt_map rs i (by omega)] at hc
  refine ⟨g, 0, some ⟨(elAt rs i).b, 0, none⟩, 2, 2, rfl, ?_, ?_, Nat.le_refl _⟩
  · rw [Nat.zero_add]; simpa [idC, gwV] using hc
  · have hb := hk _ (elAt_mem (rs := rs) (i := i) (by omega))
    rw [(hz i hi).1, (hz i hi).2] at hb
    rw [grZ_at z hi]
    have := hf.zb i
    exact row_blk hb (by omega) (by omega)
theorem gr_new (w : World) (t : Int) (T1 T2 T3 T4 : TypeId) : GrS w ((((w.alloc (Obj.cells #[.int .i64 0, .int .i64 t] T1)).alloc (Obj.cells #[.int .i64 (-2), .int .i64 4, .int .i64 9] T2)).alloc (Obj.cells #[.slice (some ⟨w.heap.size, 0, none⟩) 2 2, .slice (some ⟨w.heap.size + 1, 0, none⟩) 3 3, .slice none 0 0] T3)).alloc (Obj.cells #[.slice (some ⟨w.heap.size, 0, none⟩) 2 2, .slice (some ⟨w.heap.size + 1, 0, none⟩) 3 3, .slice none 0 0] T4)) t (.slice none 0 0) (.slice none 0 0) [] [] := by
  refine ⟨blkAt3_0.alloc _, blkAt3_1.alloc _, blkAt3_2.alloc _, Blk.next _ _ (by simp), ?_, ?_, fun k hk => by simp [Value.ownBlock] at hk, fun r hr => by simp at hr, (bel3 _ _ _).alloc (by simp; omega) _, by simp⟩
  · exact ⟨⟨[], ⟨rfl, .inl ⟨rfl, rfl⟩⟩, fun j hj => by simp at hj⟩⟩
  · exact ⟨⟨[], ⟨rfl, .inl ⟨rfl, rfl⟩⟩, fun j hj => by simp at hj⟩⟩
theorem infoIS : (Try.prog.info? 24).map (fun i => (i.zero, i.size, i.bytes)) = some (some (.slice none 0 0), 1, 24) := by kernel_rfl
theorem one_cell (v : Value) : ∀ q, q < 1 → [v][q]? = some (idC v q) := fun q hq => by
  obtain rfl : q = 0 := by omega
  rfl
def zf (f : Nat → Int) (i : Nat) : Int × Int := (f (2 * i + 1) - 128, f (2 * i + 2) - 128)
/-- What the first k rows hold. -/
structure GrR (f : Nat → Int) (rg rf : List Gw) (k : Nat) : Prop where
  lg : rg.length = k
  lf : rf.length = k
  zg : ∀ i, i < k → (elAt rg i).p = (zf f i).1 ∧ (elAt rg i).q = (zf f i).2
  zf_ : ∀ i, i < k → (elAt rf i).p = 7 ∧ (elAt rf i).q = 7
theorem elAt_app1 (rs : List Gw) (r : Gw) (i : Nat) (hi : i < rs.length + 1) : elAt (rs ++ [r]) i = if i < rs.length then elAt rs i else r := by
  by_cases h : i < rs.length
  · rw [if_pos h]; exact (elAt_app rs r).1 i h
  · obtain rfl : i = rs.length := by omega
    rw [if_neg h]; exact (elAt_app rs r).2
theorem GrR.push {f : Nat → Int} {rg rf : List Gw} {k b1 b2 : Nat} {p q : Int} (h : GrR f rg rf k) (hp : p = (zf f k).1) (hq : q = (zf f k).2) : GrR f (rg ++ [⟨b1, p, q⟩]) (rf ++ [⟨b2, 7, 7⟩]) (k + 1) := by
  refine ⟨by simp [h.lg], by simp [h.lf], fun i hi => ?_, fun i hi => ?_⟩
  · rw [elAt_app1 _ _ _ (by rw [h.lg]; exact hi), h.lg]
    by_cases e : i < k
    · rw [if_pos e]; exact h.zg i e
    · obtain rfl : i = k := by omega
      rw [if_neg e]; exact ⟨hp, hq⟩
  · rw [elAt_app1 _ _ _ (by rw [h.lf]; exact hi), h.lf]
    by_cases e : i < k
    · rw [if_pos e]; exact h.zf_ i e
    · rw [if_neg e]; exact ⟨rfl, rfl⟩

end Go.Proofs.Ytbaocifpifbldaa

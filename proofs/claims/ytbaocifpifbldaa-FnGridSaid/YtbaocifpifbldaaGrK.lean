/-
  Two grids that are whole, on the way of a law: what is read of them. No condition.
-/
import Derived.Test.YtbaocifpifbldaaGrIn
import Derived.Test.YtbaocifpifbldaaSomeE
import Derived.Test.YtbaocifpifbldaaGridAtJ
namespace Go.Proofs.Ytbaocifpifbldaa
open Go.RowKit

structure GrK (w W : World) (t : Int) (f : Nat → Int) (g c g2 c2 : Nat) : Prop where
  bx : Blk W w.heap.size [.int .i64 0, .int .i64 t]
  by_ : Blk W (w.heap.size + 1) [.int .i64 (-2), .int .i64 4, .int .i64 9]
  bg : Blk W (w.heap.size + 1 + 1) [.slice (some ⟨w.heap.size, 0, none⟩) 2 2, .slice (some ⟨w.heap.size + 1, 0, none⟩) 3 3, .slice (some ⟨g, 0, none⟩) 3 c]
  bf : Blk W (w.heap.size + 1 + 1 + 1) [.slice (some ⟨w.heap.size, 0, none⟩) 2 2, .slice (some ⟨w.heap.size + 1, 0, none⟩) 3 3, .slice (some ⟨g2, 0, none⟩) 3 c2]
  rx : Row W (some ⟨w.heap.size, 0, none⟩) 2 (grX t)
  ry : Row W (some ⟨w.heap.size + 1, 0, none⟩) 3 grY
  rg : RowS W (some ⟨g, 0, none⟩) 3 (grZ (zf f))
  rf : RowS W (some ⟨g2, 0, none⟩) 3 (grZ flatZ)
  zc : ∀ i, i < 3 → ∃ b, W.cell? ⟨g, i, none⟩ = some (.slice (some ⟨b, 0, none⟩) 2 2) ∧ Blk W b [.int .i64 (zf f i).1, .int .i64 (zf f i).2]
  hc : 3 ≤ c
  hc2 : 3 ≤ c2
  bel : Below w.heap.size w W
theorem GrK.below {w W W' : World} {t : Int} {f : Nat → Int} {g c g2 c2 : Nat} (h : GrK w W t f g c g2 c2) (b : Below W.heap.size W W') : GrK w W' t f g c g2 c2 :=
  ⟨h.bx.below b, h.by_.below b, h.bg.below b, h.bf.below b, h.rx.below b, h.ry.below b, h.rg.below b, h.rf.below b, fun i hi => by obtain ⟨k, k1, k2⟩ := h.zc i hi; exact ⟨k, (b.cell (block_lt_of_cell k1)).trans k1, k2.below b⟩, h.hc, h.hc2, h.bel.trans (b.mono h.bel.size)⟩
theorem GrK.cx {w W : World} {t : Int} {f : Nat → Int} {g c g2 c2 : Nat} (h : GrK w W t f g c g2 c2) {k : Nat} (hk : k < 2) : W.cell? ⟨w.heap.size, k, none⟩ = some (.int .i64 (grXk t k)) := by
  rcases (by omega : k = 0 ∨ k = 1) with rfl | rfl
  · exact h.bx.c 0 (by simp)
  · exact h.bx.c 1 (by simp)
theorem GrK.cy {w W : World} {t : Int} {f : Nat → Int} {g c g2 c2 : Nat} (h : GrK w W t f g c g2 c2) {i : Nat} (hi : i < 3) : W.cell? ⟨w.heap.size + 1, i, none⟩ = some (.int .i64 (grYi i)) := by
  rcases (by omega : i = 0 ∨ i = 1 ∨ i = 2) with rfl | rfl | rfl
  · exact h.by_.c 0 (by simp)
  · exact h.by_.c 1 (by simp)
  · exact h.by_.c 2 (by simp)
theorem GrK.cz {w W : World} {t : Int} {f : Nat → Int} {g c g2 c2 : Nat} (h : GrK w W t f g c g2 c2) {i k : Nat} (hi : i < 3) (hk : k < 2) : ∃ b, W.cell? ⟨g, i, none⟩ = some (.slice (some ⟨b, 0, none⟩) 2 2) ∧ W.cell? ⟨b, k, none⟩ = some (.int .i64 (grC (zf f) i k)) := by
  obtain ⟨b, h1, h2⟩ := h.zc i hi
  refine ⟨b, h1, ?_⟩
  rcases (by omega : k = 0 ∨ k = 1) with rfl | rfl
  · exact h2.c 0 (by simp)
  · exact h2.c 1 (by simp)
theorem own_three {w W : World} {base : Nat} {v : Value} {rs : List Gw} (o : OwnE 1 idC W base 24 v (rs.map gwV)) (hl : rs.length = 3) : ∃ g c, v = .slice (some ⟨g, 0, none⟩) 3 c ∧ 3 ≤ c ∧ w = w := by
  have hm : (rs.map gwV).length = 3 := by rw [List.length_map]; exact hl
  obtain ⟨a', c', e', h', _⟩ := o.slice
  obtain ⟨g, c, e, _⟩ := o.some_ (fun e => by rw [e'] at e; rw [hm] at e; simp at e)
  rw [hm] at e e' h'
  rw [e] at e'
  simp only [Value.slice.injEq] at e'
  exact ⟨g, c, e, by omega, rfl⟩
/-- Behind the loop that makes them the grids are whole. -/
theorem GrS.whole {w W : World} {t : Int} {f : Nat → Int} {vg vf : Value} {rg rf : List Gw} (h : GrS w W t vg vf rg rf) (r : GrR f rg rf 3) (hf : GrFit t (zf f)) : ∃ g c g2 c2, GrK w W t f g c g2 c2 := by
  obtain ⟨g, c, e1, hc, _⟩ := own_three (w := w) h.og r.lg
  obtain ⟨g2, c2, e2, hc2, _⟩ := own_three (w := w) h.of r.lf
  subst e1
  subst e2
  refine ⟨g, c, g2, c2, h.bx, h.by_, h.bg, h.bf, h.rowX hf.t0, h.rowY, ?_, ?_, ?_, hc, hc2, h.bel⟩
  · exact (rows_three (w := w) hf h.og r.lg r.zg (fun r hr => (h.kr r (List.mem_append_left _ hr)).1)).1
  · exact (rows_three (w := w) (t := t) ⟨hf.t0, fun i => by simp [flatZ]⟩ h.of r.lf r.zf_ (fun r hr => (h.kr r (List.mem_append_right _ hr)).1)).1
  · intro i hi
    have hc := (h.og.here (by rw [List.length_map]; exact r.lg) i hi 0 (by omega)).1
    rw [elAt_map rg i (by rw [r.lg]; exact hi)] at hc
    refine ⟨(elAt rg i).b, by simpa [idC, gwV] using hc, ?_⟩
    have hb := (h.kr _ (List.mem_append_left _ (elAt_mem (rs := rg) (i := i) (by rw [r.lg]; exact hi)))).1
    rw [(r.zg i hi).1, (r.zg i hi).2] at hb
    exact hb
theorem grhK3 {w W w3 : World} {p0 o0 p1 o1 p2 o2 : Nat} {v0 v1 v2 : Value} (h : W.cell? ⟨p0, o0, none⟩ = some v0 ∧ W.cell? ⟨p1, o1, none⟩ = some v1 ∧ W.cell? ⟨p2, o2, none⟩ = some v2 ∧ Below w.heap.size w W) (b3 : Below W.heap.size W w3) : w3.cell? ⟨p0, o0, none⟩ = some v0 ∧ w3.cell? ⟨p1, o1, none⟩ = some v1 ∧ w3.cell? ⟨p2, o2, none⟩ = some v2 ∧ Below w.heap.size w w3 := by
  obtain ⟨h0, h1, h2, hb⟩ := h
  exact ⟨(b3.cell (block_lt_of_cell h0)).trans h0, (b3.cell (block_lt_of_cell h1)).trans h1, (b3.cell (block_lt_of_cell h2)).trans h2, hb.trans (b3.mono hb.size)⟩
theorem grhK5 {w W w3 : World} {p0 o0 p1 o1 p2 o2 p3 o3 p4 o4 : Nat} {v0 v1 v2 v3 v4 : Value} (h : W.cell? ⟨p0, o0, none⟩ = some v0 ∧ W.cell? ⟨p1, o1, none⟩ = some v1 ∧ W.cell? ⟨p2, o2, none⟩ = some v2 ∧ W.cell? ⟨p3, o3, none⟩ = some v3 ∧ W.cell? ⟨p4, o4, none⟩ = some v4 ∧ Below w.heap.size w W) (b3 : Below W.heap.size W w3) : w3.cell? ⟨p0, o0, none⟩ = some v0 ∧ w3.cell? ⟨p1, o1, none⟩ = some v1 ∧ w3.cell? ⟨p2, o2, none⟩ = some v2 ∧ w3.cell? ⟨p3, o3, none⟩ = some v3 ∧ w3.cell? ⟨p4, o4, none⟩ = some v4 ∧ Below w.heap.size w w3 := by
  obtain ⟨h0, h1, h2, h3, h4, hb⟩ := h
  exact ⟨(b3.cell (block_lt_of_cell h0)).trans h0, (b3.cell (block_lt_of_cell h1)).trans h1, (b3.cell (block_lt_of_cell h2)).trans h2, (b3.cell (block_lt_of_cell h3)).trans h3, (b3.cell (block_lt_of_cell h4)).trans h4, hb.trans (b3.mono hb.size)⟩
theorem grhNew {V w3 : World} {u0 u1 : Value} {T : TypeId} (b3 : Below (V.alloc (Obj.cells #[u0, u1] T)).heap.size (V.alloc (Obj.cells #[u0, u1] T)) w3) : w3.cell? ⟨V.heap.size, 0, none⟩ = some u0 ∧ w3.cell? ⟨V.heap.size, 1, none⟩ = some u1 ∧ w3.frozen? ⟨V.heap.size, 0, none⟩ = false ∧ w3.frozen? ⟨V.heap.size, 1, none⟩ = false ∧ V.heap.size < w3.heap.size := by
  have hl : V.heap.size < (V.alloc (Obj.cells #[u0, u1] T)).heap.size := by simp
  exact ⟨(b3.cell (p := ⟨V.heap.size, 0, none⟩) hl).trans (by simp [go_sem]), (b3.cell (p := ⟨V.heap.size, 1, none⟩) hl).trans (by simp [go_sem]), (b3.frozen (p := ⟨V.heap.size, 0, none⟩) hl).trans (by simp [go_sem]), (b3.frozen (p := ⟨V.heap.size, 1, none⟩) hl).trans (by simp [go_sem]), Nat.lt_of_lt_of_le hl b3.size⟩
theorem grhNewD {V w3 : World} {u0 u1 : Value} {T : TypeId} (b3 : Below (V.alloc (Obj.cells #[u0, u1] T)).drew.heap.size (V.alloc (Obj.cells #[u0, u1] T)).drew w3) : w3.cell? ⟨V.heap.size, 0, none⟩ = some u0 ∧ w3.cell? ⟨V.heap.size, 1, none⟩ = some u1 ∧ w3.frozen? ⟨V.heap.size, 0, none⟩ = false ∧ w3.frozen? ⟨V.heap.size, 1, none⟩ = false ∧ V.heap.size < w3.heap.size :=
  grhNew (T := T) ((bel0d' 1).trans b3)
theorem grhStill {V w3 : World} {S : Nat} {u0 u1 : Value} (h : V.cell? ⟨S, 0, none⟩ = some u0 ∧ V.cell? ⟨S, 1, none⟩ = some u1 ∧ V.frozen? ⟨S, 0, none⟩ = false ∧ V.frozen? ⟨S, 1, none⟩ = false ∧ S < V.heap.size) (b3 : Below V.heap.size V w3) : w3.cell? ⟨S, 0, none⟩ = some u0 ∧ w3.cell? ⟨S, 1, none⟩ = some u1 ∧ w3.frozen? ⟨S, 0, none⟩ = false ∧ w3.frozen? ⟨S, 1, none⟩ = false ∧ S < w3.heap.size := by
  obtain ⟨h0, h1, f0, f1, hl⟩ := h
  exact ⟨(b3.cell (p := ⟨S, 0, none⟩) hl).trans h0, (b3.cell (p := ⟨S, 1, none⟩) hl).trans h1, (b3.frozen (p := ⟨S, 0, none⟩) hl).trans f0, (b3.frozen (p := ⟨S, 1, none⟩) hl).trans f1, Nat.lt_of_lt_of_le hl b3.size⟩
theorem grh_al (w : World) : ∀ (W : World) (o : Obj), Below w.heap.size w W → Below w.heap.size w (W.alloc o) := fun _ o h => h.alloc h.size o
theorem grh_dr (w : World) : ∀ W : World, Below w.heap.size w W → Below w.heap.size w W.drew := fun _ h => h.trans ⟨rfl, rfl, rfl, Nat.le_refl _, fun _ _ => rfl⟩
theorem grh_st1 (w : World) : ∀ (W : World) (p o : Nat) (v : Value), w.heap.size ≤ p → Below w.heap.size w W → Below w.heap.size w (W.setCell ⟨p, o, none⟩ v) := fun _ _ _ v hp h => h.setCell hp v
theorem grh_st (w : World) : ∀ (W : World) (p o0 o1 : Nat) (v0 v1 : Value), w.heap.size ≤ p → Below w.heap.size w W → Below w.heap.size w ((W.setCell ⟨p, o0, none⟩ v0).setCell ⟨p, o1, none⟩ v1) := fun _ _ _ _ v0 v1 hp h => (h.setCell hp v0).setCell hp v1

theorem grh3B {w W : World} {p0 o0 p1 o1 p2 o2 : Nat} {v0 v1 v2 : Value} (h : W.cell? ⟨p0, o0, none⟩ = some v0 ∧ W.cell? ⟨p1, o1, none⟩ = some v1 ∧ W.cell? ⟨p2, o2, none⟩ = some v2 ∧ Below w.heap.size w W) : Below w.heap.size w W := h.2.2.2

end Go.Proofs.Ytbaocifpifbldaa

/-
  What there is between two deeds of FnReleased: the fleet now, in its block; where the next one lies. No condition.
  What the program's carryOf and manyOf answer: plain answers; nothing that was there is written.
  A text that is not empty has a list that is not empty. No condition.
-/
import Derived.Test.YtfnnfldfnjnlfagRelFact
import Derived.Test.YtfnnfldfnjnlfagMFlIn
import Derived.Test.YtfnnfldfnjnlfagMWhole
import Derived.Test.YtfnnfldfnjnlfagMTaAlert

namespace Go.Proofs.Ytfnnfldfnjnlfag
open Go Go.RowKit

/-- The next fleet: its block, its lists in memory of their own. -/
structure NxC (wr : World) (G : Fl) (P g1 q1 g2 q2 g3 q3 m1 m2 m3 : Nat) (W : World) : Prop where
  p : Blk W P [.slice (some ⟨g1, 0, none⟩) m1 q1, .slice (some ⟨g2, 0, none⟩) m2 q2, .slice (some ⟨g3, 0, none⟩) m3 q3, .int .i64 G.nh, .int .i64 G.nc, .int .i64 G.nd]
  o : FlOwn W wr.heap.size (some ⟨g1, 0, none⟩) (some ⟨g2, 0, none⟩) (some ⟨g3, 0, none⟩) m1 q1 m2 q2 m3 q3 G.ts G.cs G.ds
  ge : wr.heap.size ≤ P
  bel : Below wr.heap.size wr W
theorem nxB {wr V w7 : World} {G : Fl} {g1 q1 g2 q2 g3 q3 m1 m2 m3 : Nat} (hV : V = wr ∨ V = wr.drew) (o : FlOwn w7 V.heap.size (some ⟨g1, 0, none⟩) (some ⟨g2, 0, none⟩) (some ⟨g3, 0, none⟩) m1 q1 m2 q2 m3 q3 G.ts G.cs G.ds) (b : Below V.heap.size V w7) : NxC wr G w7.heap.size g1 q1 g2 q2 g3 q3 m1 m2 m3 (w7.alloc (Obj.cells #[.slice (some ⟨g1, 0, none⟩) m1 q1, .slice (some ⟨g2, 0, none⟩) m2 q2, .slice (some ⟨g3, 0, none⟩) m3 q3, .int .i64 G.nh, .int .i64 G.nc, .int .i64 G.nd] 30)) := by
  have hs : V.heap.size = wr.heap.size := by rcases hV with rfl | rfl <;> rfl
  have bV : Below wr.heap.size wr V := by
    rcases hV with rfl | rfl
    · exact Below.refl _ _
    · exact bel0d' 1
  rw [hs] at o b
  have b1 := bV.trans b
  exact ⟨Blk.new [.slice (some ⟨g1, 0, none⟩) m1 q1, .slice (some ⟨g2, 0, none⟩) m2 q2, .slice (some ⟨g3, 0, none⟩) m3 q3, .int .i64 G.nh, .int .i64 G.nc, .int .i64 G.nd] _, o.below (bel1 _), b1.size, b1.alloc b1.size _⟩
theorem nxA {wr V w7 : World} {G : Fl} {g1 q1 g2 q2 g3 q3 m1 m2 m3 : Nat} (hV : V = wr.alloc (Obj.cells #[.slice none 0 0, .slice none 0 0, .slice none 0 0, .int .i64 0, .int .i64 0, .int .i64 0] 30) ∨ V = (wr.alloc (Obj.cells #[.slice none 0 0, .slice none 0 0, .slice none 0 0, .int .i64 0, .int .i64 0, .int .i64 0] 30)).drew) (o : FlOwn w7 V.heap.size (some ⟨g1, 0, none⟩) (some ⟨g2, 0, none⟩) (some ⟨g3, 0, none⟩) m1 q1 m2 q2 m3 q3 G.ts G.cs G.ds) (b : Below V.heap.size V w7) : NxC wr G wr.heap.size g1 q1 g2 q2 g3 q3 m1 m2 m3 ((((((w7.setCell ⟨wr.heap.size, 0, none⟩ (.slice (some ⟨g1, 0, none⟩) m1 q1)).setCell ⟨wr.heap.size, 1, none⟩ (.slice (some ⟨g2, 0, none⟩) m2 q2)).setCell ⟨wr.heap.size, 2, none⟩ (.slice (some ⟨g3, 0, none⟩) m3 q3)).setCell ⟨wr.heap.size, 3, none⟩ (.int .i64 G.nh)).setCell ⟨wr.heap.size, 4, none⟩ (.int .i64 G.nc)).setCell ⟨wr.heap.size, 5, none⟩ (.int .i64 G.nd)) := by
  have hs : V.heap.size = wr.heap.size + 1 := by rcases hV with rfl | rfl <;> simp
  have bV : Below wr.heap.size wr V := by
    rcases hV with rfl | rfl
    · exact bel1 _
    · exact (bel1 (w := wr) _).trans (bel0d' 1)
  have kV : Blk V wr.heap.size [.slice none 0 0, .slice none 0 0, .slice none 0 0, .int .i64 0, .int .i64 0, .int .i64 0] := by
    rcases hV with rfl | rfl
    · exact Blk.new _ _
    · exact (Blk.new (w := wr) [.slice none 0 0, .slice none 0 0, .slice none 0 0, .int .i64 0, .int .i64 0, .int .i64 0] 30).below (bel0d 1)
  have k7 := kV.below b
  have x1 : (Value.slice (some ⟨g1, 0, none⟩) m1 q1).ownBlock ≠ some wr.heap.size := fun e => by have := (o.o1.lies _ e).1; omega
  have x2 : (Value.slice (some ⟨g2, 0, none⟩) m2 q2).ownBlock ≠ some wr.heap.size := fun e => by have := (o.o2.lies _ e).1; omega
  have x3 : (Value.slice (some ⟨g3, 0, none⟩) m3 q3).ownBlock ≠ some wr.heap.size := fun e => by have := (o.o3.lies _ e).1; omega
  refine ⟨?_, ?_, Nat.le_refl _, ?_⟩
  · have := (((((k7.set 0 (by simp) (.slice (some ⟨g1, 0, none⟩) m1 q1)).set 1 (by simp) (.slice (some ⟨g2, 0, none⟩) m2 q2)).set 2 (by simp) (.slice (some ⟨g3, 0, none⟩) m3 q3)).set 3 (by simp) (.int .i64 G.nh)).set 4 (by simp) (.int .i64 G.nc)).set 5 (by simp) (.int .i64 G.nd)
    simpa using this
  · exact ((((((o.set_other _ x1 x2 x3).set_other _ x1 x2 x3).set_other _ x1 x2 x3).set_other _ x1 x2 x3).set_other _ x1 x2 x3).set_other _ x1 x2 x3).mono (by omega)
  · exact ((((((bV.trans (b.mono (by omega))).setCell (p := ⟨wr.heap.size, 0, none⟩) (Nat.le_refl _) _).setCell (p := ⟨wr.heap.size, 1, none⟩) (Nat.le_refl _) _).setCell (p := ⟨wr.heap.size, 2, none⟩) (Nat.le_refl _) _).setCell (p := ⟨wr.heap.size, 3, none⟩) (Nat.le_refl _) _).setCell (p := ⟨wr.heap.size, 4, none⟩) (Nat.le_refl _) _).setCell (p := ⟨wr.heap.size, 5, none⟩) (Nat.le_refl _) _
/-- Whether a task of that name is among the first k. -/
def mdK (ts : List Ts) (n : ByteArray) : Nat → Bool
  | 0 => false
  | k + 1 => mdK ts n k || decide ((elAt ts k).nm = n)
theorem mdK_at {ts : List Ts} {n : ByteArray} {q : Nat} (h : (elAt ts q).nm = n) : ∀ k, q < k → mdK ts n k = true
  | 0, hk => by omega
  | k + 1, hk => by
    rw [mdK]
    by_cases e : q = k
    · subst e; simp [h]
    · rw [mdK_at h k (by omega)]; rfl
/-- The fleet now, between two deeds. -/
structure RlS (W0 : World) (Q : Nat) (F : Fl) (b1 b2 b3 : Option Addr) (l1 l2 l3 p1 p2 p3 : Nat) (W : World) : Prop where
  q : Blk W Q [.slice b1 l1 p1, .slice b2 l2 p2, .slice b3 l3 p3, .int .i64 F.nh, .int .i64 F.nc, .int .i64 F.nd]
  i : FlIn W b1 b2 b3 l1 l2 l3 F.ts F.cs F.ds
  bel : Below W0.heap.size W0 W
  ge : W0.heap.size ≤ Q
theorem RlS.below {W0 : World} {Q : Nat} {F : Fl} {b1 b2 b3 : Option Addr} {l1 l2 l3 p1 p2 p3 : Nat} {W W' : World} (h : RlS W0 Q F b1 b2 b3 l1 l2 l3 p1 p2 p3 W) (b : Below W.heap.size W W') : RlS W0 Q F b1 b2 b3 l1 l2 l3 p1 p2 p3 W' := ⟨h.q.below b, h.i.below b, h.bel.trans (b.mono h.bel.size), h.ge⟩

end Go.Proofs.Ytfnnfldfnjnlfag

namespace Go.Proofs.Ytfnnfldfnjnlfag
open Go Go.RowKit

/-- The carry of a name; the plain one where there is none. -/
def crAt (cs : List Cr) (nm : ByteArray) : Cr := if ixE (qCr nm) cs < 0 then default else elAt cs (ixE (qCr nm) cs).toNat
theorem txl_no {x y : ByteArray} (h : ¬ x = y) : (x.toList == y.toList) = false := by
  rw [beq_eq_false_iff_ne]
  intro e
  rw [ByteArray.toList_eq, ByteArray.toList_eq] at e
  exact h (by cases x; cases y; simp only [ByteArray.mk.injEq]; exact Array.toList_inj.1 e)
theorem crAt_yes {cs : List Cr} {nm : ByteArray} {k : Nat} (hk : k < cs.length) (h : (elAt cs k).n = nm) (hj : ∀ j, j < k → qCr nm (elAt cs j) = false) : ixE (qCr nm) cs = (k : Int) ∧ crAt cs nm = elAt cs k := by
  have e := ixE_at (P := qCr nm) hk (decide_eq_true h) hj
  refine ⟨e, ?_⟩
  rw [crAt, e, if_neg (by omega)]
  simp
theorem crAt_no {cs : List Cr} {nm : ByteArray} (hj : ∀ j, j < cs.length → qCr nm (elAt cs j) = false) : ixE (qCr nm) cs = -1 ∧ crAt cs nm = default := by
  have e := ixE_none (P := qCr nm) hj
  exact ⟨e, by rw [crAt, e, if_pos (by omega)]⟩
theorem ret_cr {x y : Cr} {b c : Bool} (h : x = y) (k : b = c) : Ending.returned (.tuple #[.agg #[.string x.n, .int .i64 x.m, .int .i64 x.d], .bool b]) = .returned (.tuple #[.agg #[.string y.n, .int .i64 y.m, .int .i64 y.d], .bool c]) := by rw [h, k]
set_option maxRecDepth 20000 in
set_option maxHeartbeats 2000000 in
theorem carryOf_any (nh nc nd : Int) (a1 a2 a3 : Option Addr) (l1 c1 l2 c2 l3 c3 : Nat) (cs : List Cr) (nm : ByteArray) (w : World) (hr : RowE 3 crC w a2 l2 cs) :
    Calls Try.prog 83 #[.agg #[.slice a1 l1 c1, .slice a2 l2 c2, .slice a3 l3 c3, .int .i64 nh, .int .i64 nc, .int .i64 nd], .string nm] w fun e w' => e = .returned (.tuple #[.agg #[.string (crAt cs nm).n, .int .i64 (crAt cs nm).m, .int .i64 (crAt cs nm).d], .bool (!decide (ixE (qCr nm) cs < 0))]) ∧ Below w.heap.size w w' := by
  have hz := hr.len_eq
  have hsm := hr.small
  have HR := hide hr
  clear hr
  subst hz
  obtain ⟨W, hW⟩ : ∃ W, W = (w.alloc (Obj.cells #[.slice a1 l1 c1, .slice a2 cs.length c2, .slice a3 l3 c3, .int .i64 nh, .int .i64 nc, .int .i64 nd] 30)).alloc (Obj.cells #[.string ⟨#[]⟩, .int .i64 0, .int .i64 0] 54) := ⟨_, rfl⟩
  have K0 : Hid (Blk W w.heap.size [.slice a1 l1 c1, .slice a2 cs.length c2, .slice a3 l3 c3, .int .i64 nh, .int .i64 nc, .int .i64 nd]) := hide (by rw [hW]; exact blkAt2_0)
  have K1 : Hid (Blk W (w.heap.size + 1) [.string ⟨#[]⟩, .int .i64 0, .int .i64 0]) := hide (by rw [hW]; exact blkAt2_1)
  have B0 : Hid (Below w.heap.size w W) := hide (by rw [hW]; exact bel2 _ _)
  have g1 : W.cell? ⟨w.heap.size, 1, none⟩ = some (.slice a2 cs.length c2) := (unhide K0).c 1 (by simp)
  rw [hW] at g1
  have HW := hide hW
  clear hW
  go_enter Try.func83, Try.ntmps83
  go_wp2_with fail
  rw [← unhide HW]
  clear HW g1
  go_loopw [11] (fun i wr => ∃ k : Nat, i = .int .i64 k ∧ k ≤ cs.length ∧ Hid (Blk wr (w.heap.size + 1) [.string ⟨#[]⟩, .int .i64 0, .int .i64 0]) ∧ Hid (Below w.heap.size w wr) ∧ Hid (∀ j, j < k → qCr nm (elAt cs j) = false)) (fun i _ => cs.length - (intOf i).toNat)
  case atStart => exact ⟨0, rfl, Nat.zero_le _, K1, B0, hide (fun j hj => by omega)⟩
  case round =>
    clear K0 K1 B0
    obtain ⟨k, rfl, hk, KR, BW, AL⟩ := hrel
    by_cases hlt : k < cs.length
    · obtain ⟨bb, off, rfl, hc⟩ := (unhide HR).at_ k hlt
      have s0 : w.cell? ⟨bb, off + k * 3, none⟩ = some (.string (elAt cs k).n) := hc 0 (by omega)
      have s0 := ((unhide BW).cell (block_lt_of_cell s0)).trans s0
      have s1 : w.cell? ⟨bb, off + k * 3 + 1, none⟩ = some (.int .i64 (elAt cs k).m) := hc 1 (by omega)
      have s1 := ((unhide BW).cell (block_lt_of_cell s1)).trans s1
      have s2 : w.cell? ⟨bb, off + k * 3 + 2, none⟩ = some (.int .i64 (elAt cs k).d) := hc 2 (by omega)
      have s2 := ((unhide BW).cell (block_lt_of_cell s2)).trans s2
      have hi1 : (k : Int) < (cs.length : Int) := by omega
      have hi0 : (0 : Int) ≤ (k : Int) := by omega
      obtain ⟨x, hx⟩ : ∃ x, elAt cs k = x := ⟨_, rfl⟩
      rw [hx] at s0 s1 s2
      have HX := hide hx
      have r0 : wr.cell? ⟨w.heap.size + 1, 0, none⟩ = some (.string ⟨#[]⟩) := (unhide KR).c 0 (by simp)
      have r1 : wr.cell? ⟨w.heap.size + 1, 1, none⟩ = some (.int .i64 0) := (unhide KR).c 1 (by simp)
      have r2 : wr.cell? ⟨w.heap.size + 1, 2, none⟩ = some (.int .i64 0) := (unhide KR).c 2 (by simp)
      have t0 : wr.frozen? ⟨w.heap.size + 1, 0, none⟩ = false := (unhide KR).f 0 (by simp)
      have t1 : wr.frozen? ⟨w.heap.size + 1, 1, none⟩ = false := (unhide KR).f 1 (by simp)
      have t2 : wr.frozen? ⟨w.heap.size + 1, 2, none⟩ = false := (unhide KR).f 2 (by simp)
      have hlt2 := (unhide KR).lt
      have BA := hide ((unhide BW).alloc (unhide BW).size (Obj.cells #[.string x.n, .int .i64 x.m, .int .i64 x.d] 54))
      have KA := hide ((unhide KR).alloc (Obj.cells #[.string x.n, .int .i64 x.m, .int .i64 x.d] 54))
      clear hc hx
      by_cases e : x.n = nm
      · have HE := hide (crAt_yes hlt (by rw [unhide HX]; exact e) (unhide AL))
        have d : (x.n.toList == nm.toList) = true := by rw [e]; simp
        clear e AL KR
        go_wp2_with ((with_reducible show wpList _ _ _ (⟨none, .store 54 (.tmp 4) _, _, _, _, none⟩ :: _) _ _); refine at_storeAgg (us := [.string ⟨#[]⟩, .int .i64 0, .int .i64 0]) (vs := [.string x.n, .int .i64 x.m, .int .i64 x.d]) Try.sizeOf54 rfl rfl (unhide KA) rfl (by intro v hv; simp at hv; rcases hv with rfl | rfl | rfl <;> rfl) ?_; intro w5 kk gg)
        have BE : Below w.heap.size w w5 := (unhide BA).grown gg (unhide BA).size (fun q hq => by cases hq; omega)
        exact bodyPost_ret (results_cellB (vs := [.string x.n, .int .i64 x.m, .int .i64 x.d]) rfl Try.isAgg54 Try.sizeOf54 rfl kk rfl) rfl ⟨ret_cr (by rw [(unhide HE).2, unhide HX]) (by rw [(unhide HE).1]; simp <;> omega), BE⟩
      · have d := txl_no e
        have NX : Hid (∀ j, j < k + 1 → qCr nm (elAt cs j) = false) := hide (fun j hj => by
          by_cases e3 : j = k
          · rw [e3, unhide HX]; exact decide_eq_false e
          · exact (unhide AL) j (by omega))
        clear e AL KR r0 r1 r2 t0 t1 t2
        go_wp2_with fail
        go_roundw
        case rel => exact ⟨k + 1, by go_num, by omega, KA, BA, NX⟩
        case measure => simp [intOf]; omega
    · have hi1 : ¬ (k : Int) < (cs.length : Int) := by omega
      have HE := hide (crAt_no (nm := nm) (fun j hj => (unhide AL) j (by omega)))
      have hlt2 := (unhide KR).lt
      clear AL
      go_wp2_with ((with_reducible show wpList _ _ _ (⟨none, .store 54 (.tmp 4) _, _, _, _, none⟩ :: _) _ _); refine at_storeAgg (us := [.string ⟨#[]⟩, .int .i64 0, .int .i64 0]) (vs := [.string ⟨#[]⟩, .int .i64 0, .int .i64 0]) Try.sizeOf54 rfl rfl (unhide KR) rfl (by intro v hv; simp at hv; rcases hv with rfl | rfl <;> rfl) ?_; intro w5 kk gg)
      have BE : Below w.heap.size w w5 := (unhide BW).grown gg (unhide BW).size (fun q hq => by cases hq; omega)
      exact bodyPost_ret (results_cellB (vs := [.string ⟨#[]⟩, .int .i64 0, .int .i64 0]) rfl Try.isAgg54 Try.sizeOf54 rfl kk rfl) rfl ⟨ret_cr (x := default) (by rw [(unhide HE).2]) (by rw [(unhide HE).1]; simp), BE⟩
set_option maxRecDepth 20000 in
set_option maxHeartbeats 2000000 in
theorem manyOf_any (nh nc nd : Int) (a1 a2 a3 : Option Addr) (l1 c1 l2 c2 l3 c3 : Nat) (ds : List Df) (nm : ByteArray) (w : World) (hr : RowE 3 dfC w a3 l3 ds) (hl : l3 ≤ 100) :
    Calls Try.prog 84 #[.agg #[.slice a1 l1 c1, .slice a2 l2 c2, .slice a3 l3 c3, .int .i64 nh, .int .i64 nc, .int .i64 nd], .string nm] w fun e w' => e = .returned (.int .i64 (mnF ds nm)) ∧ Below w.heap.size w w' := by
  have hz := hr.len_eq
  have HR := hide hr
  clear hr
  subst hz
  obtain ⟨W, hW⟩ : ∃ W, W = w.alloc (Obj.cells #[.slice a1 l1 c1, .slice a2 l2 c2, .slice a3 ds.length c3, .int .i64 nh, .int .i64 nc, .int .i64 nd] 30) := ⟨_, rfl⟩
  have K0 : Hid (Blk W w.heap.size [.slice a1 l1 c1, .slice a2 l2 c2, .slice a3 ds.length c3, .int .i64 nh, .int .i64 nc, .int .i64 nd]) := hide (by rw [hW]; exact Blk.new _ _)
  have B0 : Hid (Below w.heap.size w W) := hide (by rw [hW]; exact bel1 _)
  have HW := hide hW
  clear hW
  go_enter Try.func84, Try.ntmps84
  go_wp2_with fail
  rw [← unhide HW]
  clear HW
  go_loopw [5, 11] (fun m i wr => ∃ k : Nat, m = .int .i64 (mnK ds nm k) ∧ i = .int .i64 k ∧ k ≤ ds.length ∧ Hid (Below w.heap.size w wr)) (fun _ i _ => ds.length - (intOf i).toNat)
  case atStart => exact ⟨0, rfl, rfl, Nat.zero_le _, B0⟩
  case round =>
    clear K0 B0
    obtain ⟨k, rfl, rfl, hk, BW⟩ := hrel
    by_cases hlt : k < ds.length
    · obtain ⟨bb, off, rfl, hc⟩ := (unhide HR).at_ k hlt
      have s0 : w.cell? ⟨bb, off + k * 3, none⟩ = some (.string (elAt ds k).n) := hc 0 (by omega)
      have s0 := ((unhide BW).cell (block_lt_of_cell s0)).trans s0
      have s1 : w.cell? ⟨bb, off + k * 3 + 1, none⟩ = some (.int .i64 (elAt ds k).i) := hc 1 (by omega)
      have s1 := ((unhide BW).cell (block_lt_of_cell s1)).trans s1
      have s2 : w.cell? ⟨bb, off + k * 3 + 2, none⟩ = some (.int .i64 (elAt ds k).s) := hc 2 (by omega)
      have s2 := ((unhide BW).cell (block_lt_of_cell s2)).trans s2
      have hi1 : (k : Int) < (ds.length : Int) := by omega
      have hi0 : (0 : Int) ≤ (k : Int) := by omega
      have hm := mnK_bd ds nm k
      have HS : Hid (mnK ds nm (k + 1) = mnK ds nm k + if (elAt ds k).n = nm then 1 else 0) := hide rfl
      obtain ⟨M, hM⟩ : ∃ m, mnK ds nm k = m := ⟨_, rfl⟩
      rw [hM] at HS hm ⊢
      obtain ⟨x, hx⟩ : ∃ x, elAt ds k = x := ⟨_, rfl⟩
      rw [hx] at s0 s1 s2 HS
      have BA := hide ((unhide BW).alloc (unhide BW).size (Obj.cells #[.string x.n, .int .i64 x.i, .int .i64 x.s] 56))
      clear hc hx hM
      by_cases e : x.n = nm
      · have d : (x.n.toList == nm.toList) = true := by rw [e]; simp
        have HS2 : Hid (mnK ds nm (k + 1) = M + 1) := hide (by rw [unhide HS, if_pos e])
        clear e HS
        go_wp2_with fail
        go_roundw
        case rel => exact ⟨k + 1, by rw [unhide HS2], by go_num, by omega, BA⟩
        case measure => simp [intOf]; omega
      · have d := txl_no e
        have HS2 : Hid (mnK ds nm (k + 1) = M) := hide (by rw [unhide HS, if_neg e]; omega)
        clear e HS
        go_wp2_with fail
        go_roundw
        case rel => exact ⟨k + 1, by rw [unhide HS2], by go_num, by omega, BA⟩
        case measure => simp [intOf]; omega
    · have hi1 : ¬ (k : Int) < (ds.length : Int) := by omega
      have HK : Hid (mnK ds nm k = mnF ds nm) := hide (by rw [mnF, show k = ds.length by omega])
      rw [unhide HK]
      go_wp2_with fail
      go_ret
      exact ⟨rfl, unhide BW⟩

end Go.Proofs.Ytfnnfldfnjnlfag

namespace Go.Proofs.Ytfnnfldfnjnlfag
open Go Go.RowKit

theorem nz_list {x : ByteArray} (h : x ≠ ⟨#[]⟩) : x.toList.isEmpty = false := by
  have d := txl_no h
  rw [show (⟨#[]⟩ : ByteArray).toList = [] by kernel_rfl] at d
  cases q : x.toList with
  | nil => rw [q] at d; simp at d
  | cons _ _ => rfl

end Go.Proofs.Ytfnnfldfnjnlfag

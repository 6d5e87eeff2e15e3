/-
  What the model's RunWork answers: the fleet behind the deeds and what each told. The fleet's and the deeds' texts can be there, its lists are no longer than memory.
-/
import Derived.Test.YticdccdkjepifaaGreatMMdAll
import Derived.Test.YticdccdkjepifaaGreatMRelFact
import Derived.Test.YticdccdkjepifaaGreatHgRw
import Derived.Deep.CutRange
namespace Go.Proofs.YticdccdkjepifaaGreat
open Go Go.RowKit

/-- What there is between two deeds of the model: the fleet now, what was told, the result's block. -/
structure RmS (w : World) (Q R : Nat) (F : Fl) (T : List Bool) (b1 b2 b3 p1 p2 p3 gt k ct : Nat) (W : World) : Prop where
  q : Blk W Q [.slice (some ⟨b1, 0, none⟩) F.ts.length p1, .slice (some ⟨b2, 0, none⟩) F.cs.length p2, .slice (some ⟨b3, 0, none⟩) F.ds.length p3, .int .i64 F.nh, .int .i64 F.nc, .int .i64 F.nd]
  o : FlOwn W (R + 1) (some ⟨b1, 0, none⟩) (some ⟨b2, 0, none⟩) (some ⟨b3, 0, none⟩) F.ts.length p1 F.cs.length p2 F.ds.length p3 F.ts F.cs F.ds
  told : OwnE 1 boC W (R + 1) 4 (.slice (some ⟨gt, 0, none⟩) k ct) T
  len : T.length = k
  gq : gt ≠ Q
  kr : Blk W R [.slice none 0 0, .slice none 0 0, .slice none 0 0, .int .i64 0, .int .i64 0, .int .i64 0]
  bel : Below w.heap.size w W
  rq : R < Q
  rw : w.heap.size ≤ R
theorem RmS.below {w : World} {Q R : Nat} {F : Fl} {T : List Bool} {b1 b2 b3 p1 p2 p3 gt k ct : Nat} {W W' : World} (h : RmS w Q R F T b1 b2 b3 p1 p2 p3 gt k ct W) (b : Below W.heap.size W W') : RmS w Q R F T b1 b2 b3 p1 p2 p3 gt k ct W' :=
  ⟨h.q.below b, h.o.below b, h.told.below b, h.len, h.gq, h.kr.below b, h.bel.trans (b.mono h.bel.size), h.rq, h.rw⟩
/-- The next fleet becomes the one now. -/
theorem RmS.next {w : World} {Q R : Nat} {F : Fl} {T : List Bool} {b1 b2 b3 p1 p2 p3 gt k ct : Nat} {W W' : World} {V : World} {G : Fl} {P g1 q1 g2 q2 g3 q3 : Nat} (h : RmS w Q R F T b1 b2 b3 p1 p2 p3 gt k ct W) (nx : NxC W G P g1 q1 g2 q2 g3 q3 G.ts.length G.cs.length G.ds.length V) (kb : Blk W' Q [.slice (some ⟨g1, 0, none⟩) G.ts.length q1, .slice (some ⟨g2, 0, none⟩) G.cs.length q2, .slice (some ⟨g3, 0, none⟩) G.ds.length q3, .int .i64 G.nh, .int .i64 G.nc, .int .i64 G.nd]) (gr : V.grownBy W' (some Q)) : RmS w Q R G T g1 g2 g3 q1 q2 q3 gt k ct W' := by
  have hV := h.below nx.bel
  have hQ := h.q.lt
  have hR := h.kr.lt
  have hrq := h.rq
  have hs := nx.bel.size
  have f1 := nx.o.o1.far gr (fun q hq e => by have e1 := Option.some.inj e; have e2 := (nx.o.o1.lies q hq).1; omega)
  have f2 := nx.o.o2.far gr (fun q hq e => by have e1 := Option.some.inj e; have e2 := (nx.o.o2.lies q hq).1; omega)
  have f3 := nx.o.o3.far gr (fun q hq e => by have e1 := Option.some.inj e; have e2 := (nx.o.o3.lies q hq).1; omega)
  refine ⟨kb, ⟨f1.mono (by omega), f2.mono (by omega), f3.mono (by omega), nx.o.p12, nx.o.p13, nx.o.p23⟩, hV.told.far gr (fun q hq e => ?_), h.len, h.gq, hV.kr.apart gr (fun e => by have e1 := Option.some.inj e; omega), hV.bel.grown gr hV.bel.size (fun q hq => by have e1 : Q = q := Option.some.inj hq; have e2 := h.rw; omega), h.rq, h.rw⟩
  have e1 : gt = q := Option.some.inj hq
  have e2 := Option.some.inj e
  have e3 := h.gq
  omega
/-- One more told. -/
theorem RmS.push {w : World} {Q R : Nat} {F : Fl} {T : List Bool} {b1 b2 b3 p1 p2 p3 gt k ct : Nat} {W W' : World} {x : Bool} {g9 c9 : Nat} (h : RmS w Q R F T b1 b2 b3 p1 p2 p3 gt k ct W) (o9 : OwnE 1 boC W' (R + 1) 4 (.slice (some ⟨g9, 0, none⟩) (k + 1) c9) (T ++ [x])) (gr : W.grownBy W' (some gt)) (hg9 : some gt = some g9 ∨ W.heap.size < g9) : RmS w Q R F (T ++ [x]) b1 b2 b3 p1 p2 p3 g9 (k + 1) c9 W' := by
  have hQ := h.q.lt
  have hR := h.kr.lt
  have n1 := h.gq
  have hl := (h.told.lies gt rfl).1
  have q1 := own_ne h.o.o1 h.told (by decide)
  have q2 := own_ne h.o.o2 h.told (by decide)
  have q3 := own_ne h.o.o3 h.told (by decide)
  have x1 : ∀ {p : Nat}, some p = some gt → (Value.slice (some ⟨gt, 0, none⟩) k ct).ownBlock = some p := fun e => by rw [e]; rfl
  refine ⟨h.q.apart gr (fun e => n1 (Option.some.inj e).symm), ⟨h.o.o1.far gr (fun p hp e => q1 p hp (x1 e)), h.o.o2.far gr (fun p hp e => q2 p hp (x1 e)), h.o.o3.far gr (fun p hp e => q3 p hp (x1 e)), h.o.p12, h.o.p13, h.o.p23⟩, o9, by simp [h.len], ?_, h.kr.apart gr (fun e => by have e1 := Option.some.inj e; omega), h.bel.grown gr h.bel.size (fun q hq => by have e : gt = q := Option.some.inj hq; have e2 := h.rw; omega), h.rq, h.rw⟩
  rcases hg9 with e | e
  · have e : gt = g9 := Option.some.inj e
    omega
  · omega
def RmT (w : World) (Q R : Nat) (f : Fl) (es : List De) (N : Nat) (t i : Value) (W : World) : Prop := ∃ (k gt ct b1 b2 b3 p1 p2 p3 : Nat), t = .slice (some ⟨gt, 0, none⟩) k ct ∧ i = .int .i64 k ∧ k ≤ N ∧ Hid (RmS w Q R (rwF f es k) (rwT f es k) b1 b2 b3 p1 p2 p3 gt k ct W)
set_option maxRecDepth 20000 in
set_option maxHeartbeats 4000000 in
theorem specRunWork_any (nh nc nd : Int) (a1 a2 a3 : Option Addr) (l1 c1 l2 c2 l3 c3 : Nat) (ts : List Ts) (cs : List Cr) (ds : List Df) (ad : Option Addr) (len cap : Nat) (es : List De) (w : World) (hr : FlIn w a1 a2 a3 l1 l2 l3 ts cs ds) (m1 : l1 ≤ 1048600) (m2 : l2 ≤ 1048600) (m3 : l3 ≤ 1048600) (ff : FitF ⟨ts, cs, ds, nh, nc, nd⟩) (he : RowE 4 deC w ad len es) (hn : ∀ i, fitT (elAt es i).n) :
    Calls Tryz.prog 6 #[.agg #[.slice a1 l1 c1, .slice a2 l2 c2, .slice a3 l3 c3, .int .i64 nh, .int .i64 nc, .int .i64 nd], .slice ad len cap] w fun e w' => RwE w (rwF ⟨ts, cs, ds, nh, nc, nd⟩ es (rwN es)) (rwT ⟨ts, cs, ds, nh, nc, nd⟩ es (rwN es)) e w' := by
  have z1 := hr.r1.len_eq
  have z2 := hr.r2.len_eq
  have z3 := hr.r3.len_eq
  have z4 := he.len_eq
  subst z1
  subst z2
  subst z3
  obtain ⟨V0, hV0⟩ : ∃ V, V = (w.alloc (Obj.cells #[.slice a1 ts.length c1, .slice a2 cs.length c2, .slice a3 ds.length c3, .int .i64 nh, .int .i64 nc, .int .i64 nd] 37)).alloc (Obj.cells #[.slice none 0 0, .slice none 0 0, .slice none 0 0, .int .i64 0, .int .i64 0, .int .i64 0] 37) := ⟨_, rfl⟩
  have bV : Below w.heap.size w V0 := by rw [hV0]; exact bel2 _ _
  have KF : Blk V0 w.heap.size [.slice a1 ts.length c1, .slice a2 cs.length c2, .slice a3 ds.length c3, .int .i64 nh, .int .i64 nc, .int .i64 nd] := by rw [hV0]; exact (Blk.new (w := w) [.slice a1 ts.length c1, .slice a2 cs.length c2, .slice a3 ds.length c3, .int .i64 nh, .int .i64 nc, .int .i64 nd] _).alloc _
  have KR : Hid (Blk V0 (w.heap.size + 1) [.slice none 0 0, .slice none 0 0, .slice none 0 0, .int .i64 0, .int .i64 0, .int .i64 0]) := hide (by rw [hV0]; have k := Blk.new (w := w.alloc (Obj.cells #[.slice a1 ts.length c1, .slice a2 cs.length c2, .slice a3 ds.length c3, .int .i64 nh, .int .i64 nc, .int .i64 nd] 37)) [.slice none 0 0, .slice none 0 0, .slice none 0 0, .int .i64 0, .int .i64 0, .int .i64 0] 37; simpa using k)
  have hsV : V0.heap.size = w.heap.size + 2 := by rw [hV0]; simp
  have q0 : V0.cell? ⟨w.heap.size, 0, none⟩ = some (.slice a1 ts.length c1) := KF.c 0 (by simp)
  have q1 : V0.cell? ⟨w.heap.size, 1, none⟩ = some (.slice a2 cs.length c2) := KF.c 1 (by simp)
  have q2 : V0.cell? ⟨w.heap.size, 2, none⟩ = some (.slice a3 ds.length c3) := KF.c 2 (by simp)
  have q3 : V0.cell? ⟨w.heap.size, 3, none⟩ = some (.int .i64 nh) := KF.c 3 (by simp)
  have q4 : V0.cell? ⟨w.heap.size, 4, none⟩ = some (.int .i64 nc) := KF.c 4 (by simp)
  have q5 : V0.cell? ⟨w.heap.size, 5, none⟩ = some (.int .i64 nd) := KF.c 5 (by simp)
  have BV := hide bV
  have HW := hide hV0
  have HSV := hide hsV
  have FR := hide (hr.below bV)
  have FF := hide ff
  have HE := hide he
  have HNF := hide hn
  clear hV0 bV KF hr ff he hn hsV
  obtain ⟨N, hN⟩ : ∃ N, rwN es = N := ⟨_, rfl⟩
  have hNN : Hid ((len ≤ 100 ∧ N = len) ∨ (100 < len ∧ N = 0)) := hide (by
    rw [← hN, rwN]
    by_cases c : es.length ≤ 100
    · rw [if_pos c]; exact .inl ⟨by omega, z4⟩
    · rw [if_neg c]; exact .inr ⟨by omega, rfl⟩)
  rw [hN]
  have HZ4 := hide z4
  clear hN z4
  have FB := hide (rw_fit (es := es) (unhide FF) (unhide HNF))
  have LB := hide (rw_len (f := ⟨ts, cs, ds, nh, nc, nd⟩) (es := es) m1 m2 m3)
  have CC := hide (l19Copy_any nh nc nd a1 a2 a3 ts.length c1 cs.length c2 ds.length c3 ts cs ds V0 (unhide FR) m1 m2 m3)
  obtain ⟨f, hf⟩ : ∃ f : Fl, (⟨ts, cs, ds, nh, nc, nd⟩ : Fl) = f := ⟨_, rfl⟩
  rw [hf] at FB LB ⊢
  have HF := hide hf
  clear hf
  go_enter Tryz.func6, Tryz.ntmps6
  go_upto_region 1 with fail
  rw [← unhide HW]
  clear HW
  go_wp2_with fail
  refine (unhide CC).mono ?_
  rintro e w1 ⟨g1, p1, g2, p2, g3, p3, rfl, h1, b1⟩
  obtain ⟨R, hR⟩ : ∃ R, w.heap.size + 1 = R := ⟨_, rfl⟩
  obtain ⟨Q, hQ⟩ : ∃ Q, w1.heap.size = Q := ⟨_, rfl⟩
  obtain ⟨V1, hV1⟩ : ∃ V, V = w1.alloc (Obj.cells #[.slice (some ⟨g1, 0, none⟩) ts.length p1, .slice (some ⟨g2, 0, none⟩) cs.length p2, .slice (some ⟨g3, 0, none⟩) ds.length p3, .int .i64 nh, .int .i64 nc, .int .i64 nd] 37) := ⟨_, rfl⟩
  have bV1 : Below w1.heap.size w1 V1 := by rw [hV1]; exact bel1 _
  have hbb := b1.trans (bV1.mono b1.size)
  have S0 : Hid (RmS w Q R (rwF f es 0) (rwT f es 0) g1 g2 g3 p1 p2 p3 V1.heap.size 0 0 (V1.alloc (Obj.cells #[] 4))) := hide (by
    rw [← unhide HF]
    have hs := unhide HSV
    have hQ1 : V1.heap.size = Q + 1 := by rw [hV1, ← hQ]; simp
    have hge := b1.size
    have KQ : Blk V1 Q [.slice (some ⟨g1, 0, none⟩) ts.length p1, .slice (some ⟨g2, 0, none⟩) cs.length p2, .slice (some ⟨g3, 0, none⟩) ds.length p3, .int .i64 nh, .int .i64 nc, .int .i64 nd] := by rw [hV1, ← hQ]; exact Blk.new _ _
    have KR1 : Blk V1 R [.slice none 0 0, .slice none 0 0, .slice none 0 0, .int .i64 0, .int .i64 0, .int .i64 0] := by rw [← hR]; exact ((unhide KR).below b1).below bV1
    have O1 := (h1.below bV1).mono (base' := R + 1) (by omega)
    exact ⟨KQ.below (bel1 _), O1.below (bel1 _), (ownE_none (K := 1) (cells := boC) (w := V1) (w1 := V1) (T := 4) (Nat.le_refl _)).mono (by omega), rfl, by omega, KR1.below (bel1 _), ((unhide BV).trans (hbb.mono (unhide BV).size)).trans ((bel1 (w := V1) _).mono (by have := (unhide BV).size; omega)), by omega, by omega⟩)
  have HV1 := hide hV1
  have HRR := hide hR
  clear h1 b1 bV1 hbb hV1 CC KR q0 q1 q2 q3 q4 q5 FF FR
  go_upto_region 2 with fail
  rw [← unhide HV1]
  clear HV1
  go_wp2_with fail
  clear hQ hR
  go_loopw [7, 8] (fun t i wr => RmT w Q R f es N t i wr) (fun _ i _ => N - (intOf i).toNat)
  case atStart => exact ⟨0, _, 0, g1, g2, g3, p1, p2, p3, rfl, rfl, Nat.zero_le _, S0⟩
  case round =>
    clear S0
    obtain ⟨k, gt, ct, b1, b2, b3, p1, p2, p3, rfl, rfl, hk, ST⟩ := hrel
    have HFK := hide ((unhide FB) k)
    have HLB := hide ((unhide LB) k)
    have HRS : Hid (rwF f es (k + 1) = dwF (rwF f es k) (elAt es k) ∧ rwT f es (k + 1) = rwT f es k ++ [dwB (rwF f es k) (elAt es k)]) := hide ⟨rfl, rfl⟩
    obtain ⟨F, hF⟩ : ∃ F, rwF f es k = F := ⟨_, rfl⟩
    rw [hF] at ST HFK HLB HRS
    have HFE := hide hF
    clear hF
    by_cases hlt : k < N
    · have i0 : (0 : Int) ≤ (k : Int) := by omega
      have hb : len ≤ 100 ∧ k < len := by have := unhide hNN; omega
      have i1 : (k : Int) < (len : Int) := by omega
      have i2 : (len : Int) ≤ 100 := by omega
      obtain ⟨bb, off, hbo, hc⟩ := ((unhide HE).below (unhide ST).bel).at_ k hb.2
      have HDN := hide ((unhide HNF) k)
      obtain ⟨d, hd⟩ : ∃ d, elAt es k = d := ⟨_, rfl⟩
      rw [hd] at hc HRS HDN
      have x0 : wr.cell? ⟨bb, off + k * 4, none⟩ = some (.int .i64 d.k) := hc 0 (by omega)
      have x1 : wr.cell? ⟨bb, off + k * 4 + 1, none⟩ = some (.string d.n) := hc 1 (by omega)
      have x2 : wr.cell? ⟨bb, off + k * 4 + 2, none⟩ = some (.int .i64 d.i) := hc 2 (by omega)
      have x3 : wr.cell? ⟨bb, off + k * 4 + 3, none⟩ = some (.int .i64 d.m) := hc 3 (by omega)
      have u0 : wr.cell? ⟨Q, 0, none⟩ = some (.slice (some ⟨b1, 0, none⟩) F.ts.length p1) := (unhide ST).q.c 0 (by simp)
      have u1 : wr.cell? ⟨Q, 1, none⟩ = some (.slice (some ⟨b2, 0, none⟩) F.cs.length p2) := (unhide ST).q.c 1 (by simp)
      have u2 : wr.cell? ⟨Q, 2, none⟩ = some (.slice (some ⟨b3, 0, none⟩) F.ds.length p3) := (unhide ST).q.c 2 (by simp)
      have u3 : wr.cell? ⟨Q, 3, none⟩ = some (.int .i64 F.nh) := (unhide ST).q.c 3 (by simp)
      have u4 : wr.cell? ⟨Q, 4, none⟩ = some (.int .i64 F.nc) := (unhide ST).q.c 4 (by simp)
      have u5 : wr.cell? ⟨Q, 5, none⟩ = some (.int .i64 F.nd) := (unhide ST).q.c 5 (by simp)
      have xa0 : ∀ o, (wr.alloc o).cell? ⟨bb, off + k * 4, none⟩ = some (.int .i64 d.k) := fun o => ((bel1 (w := wr) o).cell (block_lt_of_cell x0)).trans x0
      have xa1 : ∀ o, (wr.alloc o).cell? ⟨bb, off + k * 4 + 1, none⟩ = some (.string d.n) := fun o => ((bel1 (w := wr) o).cell (block_lt_of_cell x1)).trans x1
      have xa2 : ∀ o, (wr.alloc o).cell? ⟨bb, off + k * 4 + 2, none⟩ = some (.int .i64 d.i) := fun o => ((bel1 (w := wr) o).cell (block_lt_of_cell x2)).trans x2
      have xa3 : ∀ o, (wr.alloc o).cell? ⟨bb, off + k * 4 + 3, none⟩ = some (.int .i64 d.m) := fun o => ((bel1 (w := wr) o).cell (block_lt_of_cell x3)).trans x3
      have ua0 : ∀ o, (wr.alloc o).cell? ⟨Q, 0, none⟩ = some (.slice (some ⟨b1, 0, none⟩) F.ts.length p1) := fun o => ((bel1 (w := wr) o).cell (block_lt_of_cell u0)).trans u0
      have ua1 : ∀ o, (wr.alloc o).cell? ⟨Q, 1, none⟩ = some (.slice (some ⟨b2, 0, none⟩) F.cs.length p2) := fun o => ((bel1 (w := wr) o).cell (block_lt_of_cell u1)).trans u1
      have ua2 : ∀ o, (wr.alloc o).cell? ⟨Q, 2, none⟩ = some (.slice (some ⟨b3, 0, none⟩) F.ds.length p3) := fun o => ((bel1 (w := wr) o).cell (block_lt_of_cell u2)).trans u2
      have ua3 : ∀ o, (wr.alloc o).cell? ⟨Q, 3, none⟩ = some (.int .i64 F.nh) := fun o => ((bel1 (w := wr) o).cell (block_lt_of_cell u3)).trans u3
      have ua4 : ∀ o, (wr.alloc o).cell? ⟨Q, 4, none⟩ = some (.int .i64 F.nc) := fun o => ((bel1 (w := wr) o).cell (block_lt_of_cell u4)).trans u4
      have ua5 : ∀ o, (wr.alloc o).cell? ⟨Q, 5, none⟩ = some (.int .i64 F.nd) := fun o => ((bel1 (w := wr) o).cell (block_lt_of_cell u5)).trans u5
      have hlen1 := (unhide HLB).1
      have hlen2 := (unhide HLB).2.1
      have hlen3 := (unhide HLB).2.2
      obtain ⟨G, hG⟩ : ∃ G, dwF F d = G := ⟨_, rfl⟩
      obtain ⟨ok, hok⟩ : ∃ ok, dwB F d = ok := ⟨_, rfl⟩
      obtain ⟨m1, hm1⟩ : ∃ m1, G.ts.length = m1 := ⟨_, rfl⟩
      obtain ⟨m2, hm2⟩ : ∃ m2, G.cs.length = m2 := ⟨_, rfl⟩
      obtain ⟨m3, hm3⟩ : ∃ m3, G.ds.length = m3 := ⟨_, rfl⟩
      have CD : Hid (∀ V, Below wr.heap.size wr V → Calls Tryz.prog 23 #[.agg #[.slice (some ⟨b1, 0, none⟩) F.ts.length p1, .slice (some ⟨b2, 0, none⟩) F.cs.length p2, .slice (some ⟨b3, 0, none⟩) F.ds.length p3, .int .i64 F.nh, .int .i64 F.nc, .int .i64 F.nd], .agg #[.int .i64 d.k, .string d.n, .int .i64 d.i, .int .i64 d.m]] V fun e w' => ∃ g1 q1 g2 q2 g3 q3 : Nat, e = .returned (.tuple #[.agg #[.slice (some ⟨g1, 0, none⟩) m1 q1, .slice (some ⟨g2, 0, none⟩) m2 q2, .slice (some ⟨g3, 0, none⟩) m3 q3, .int .i64 G.nh, .int .i64 G.nc, .int .i64 G.nd], .bool ok]) ∧ FlOwn w' V.heap.size (some ⟨g1, 0, none⟩) (some ⟨g2, 0, none⟩) (some ⟨g3, 0, none⟩) m1 q1 m2 q2 m3 q3 G.ts G.cs G.ds ∧ Below V.heap.size V w') := hide (fun V bV => by
        rw [← hok, ← hm1, ← hm2, ← hm3, ← hG]
        exact specDoWork_e F.nh F.nc F.nd (some ⟨b1, 0, none⟩) (some ⟨b2, 0, none⟩) (some ⟨b3, 0, none⟩) F.ts.length p1 F.cs.length p2 F.ds.length p3 F.ts F.cs F.ds d.k d.i d.m d.n V ((unhide ST).o.read.below bV) hlen1 hlen2 hlen3 (unhide HFK) (unhide HDN))
      rw [hG, hok] at HRS
      have HM : Hid (G.ts.length = m1 ∧ G.cs.length = m2 ∧ G.ds.length = m3) := hide ⟨hm1, hm2, hm3⟩
      have HBO := hide hbo
      subst hbo
      clear hG hok hm1 hm2 hm3 hc hd hlen1 hlen2 hlen3 hb
      go_wp2_with fail
      go_cut [9, 10] from 25 to 34 (fun s9 s10 wc => ∃ P g1 q1 g2 q2 g3 q3 : Nat, s9 = .pointer (some ⟨P, 0, none⟩) ∧ s10 = .bool ok ∧ NxC wr G P g1 q1 g2 q2 g3 q3 m1 m2 m3 wc)
      case first =>
        go_region_law ((fail_if_success have := D1); go_simp; go_wp2_with (go_at_call 23; refine ((unhide CD) _ (by first | exact Below.refl _ _ | exact bel0d' 1 | exact bel1 _ | exact (bel1 (w := wr) _).trans (bel0d' 1))).mono ?_; rintro e w8 ⟨g1, q1, g2, q2, g3, q3, rfl, o8, b8⟩; have D1 := trivial; (first | (have nb := (Blk.new (w := wr) [.slice none 0 0, .slice none 0 0, .slice none 0 0, .int .i64 0, .int .i64 0, .int .i64 0] 37).below b8; have y0 : w8.cell? ⟨wr.heap.size, 0, none⟩ = some (.slice none 0 0) := nb.c 0 (by simp); have z0 : w8.frozen? ⟨wr.heap.size, 0, none⟩ = false := nb.f 0 (by simp); have y1 : w8.cell? ⟨wr.heap.size, 1, none⟩ = some (.slice none 0 0) := nb.c 1 (by simp); have z1 : w8.frozen? ⟨wr.heap.size, 1, none⟩ = false := nb.f 1 (by simp); have y2 : w8.cell? ⟨wr.heap.size, 2, none⟩ = some (.slice none 0 0) := nb.c 2 (by simp); have z2 : w8.frozen? ⟨wr.heap.size, 2, none⟩ = false := nb.f 2 (by simp); have y3 : w8.cell? ⟨wr.heap.size, 3, none⟩ = some (.int .i64 0) := nb.c 3 (by simp); have z3 : w8.frozen? ⟨wr.heap.size, 3, none⟩ = false := nb.f 3 (by simp); have y4 : w8.cell? ⟨wr.heap.size, 4, none⟩ = some (.int .i64 0) := nb.c 4 (by simp); have z4 : w8.frozen? ⟨wr.heap.size, 4, none⟩ = false := nb.f 4 (by simp); have y5 : w8.cell? ⟨wr.heap.size, 5, none⟩ = some (.int .i64 0) := nb.c 5 (by simp); have z5 : w8.frozen? ⟨wr.heap.size, 5, none⟩ = false := nb.f 5 (by simp); have NXX := hide (nxA (wr := wr) (.inl rfl) o8 b8); clear nb) | (have nb := ((Blk.new (w := wr) [.slice none 0 0, .slice none 0 0, .slice none 0 0, .int .i64 0, .int .i64 0, .int .i64 0] 37).below (bel0d 1)).below b8; have y0 : w8.cell? ⟨wr.heap.size, 0, none⟩ = some (.slice none 0 0) := nb.c 0 (by simp); have z0 : w8.frozen? ⟨wr.heap.size, 0, none⟩ = false := nb.f 0 (by simp); have y1 : w8.cell? ⟨wr.heap.size, 1, none⟩ = some (.slice none 0 0) := nb.c 1 (by simp); have z1 : w8.frozen? ⟨wr.heap.size, 1, none⟩ = false := nb.f 1 (by simp); have y2 : w8.cell? ⟨wr.heap.size, 2, none⟩ = some (.slice none 0 0) := nb.c 2 (by simp); have z2 : w8.frozen? ⟨wr.heap.size, 2, none⟩ = false := nb.f 2 (by simp); have y3 : w8.cell? ⟨wr.heap.size, 3, none⟩ = some (.int .i64 0) := nb.c 3 (by simp); have z3 : w8.frozen? ⟨wr.heap.size, 3, none⟩ = false := nb.f 3 (by simp); have y4 : w8.cell? ⟨wr.heap.size, 4, none⟩ = some (.int .i64 0) := nb.c 4 (by simp); have z4 : w8.frozen? ⟨wr.heap.size, 4, none⟩ = false := nb.f 4 (by simp); have y5 : w8.cell? ⟨wr.heap.size, 5, none⟩ = some (.int .i64 0) := nb.c 5 (by simp); have z5 : w8.frozen? ⟨wr.heap.size, 5, none⟩ = false := nb.f 5 (by simp); have NXX := hide (nxA (wr := wr) (.inr rfl) o8 b8); clear nb) | (have NXX := hide (nxB (wr := wr) (.inl rfl) o8 b8)) | (have NXX := hide (nxB (wr := wr) (.inr rfl) o8 b8))); clear o8 b8))
        all_goals (
          go_wp2
          go_meet
          case rel => exact ⟨_, g1, q1, g2, q2, g3, q3, rfl, rfl, unhide NXX⟩)
      case rest =>
        obtain ⟨P, g1, q1, g2, q2, g3, q3, rfl, rfl, nx⟩ := hcut
        have S8 := hide ((unhide ST).below nx.bel)
        have KP8 := hide nx.p
        have KQ8 := hide (unhide S8).q
        have NX := hide nx
        clear nx CD x0 x1 x2 x3 u0 u1 u2 u3 u4 u5 xa0 xa1 xa2 xa3 ua0 ua1 ua2 ua3 ua4 ua5
        go_upto_region 7 with fail
        go_upto_region 8 with (first
          | ((with_reducible show wpList _ _ _ (⟨_, .load 37 _, _, _, _, none⟩ :: _) _ _); refine at_loadAgg (vs := [.slice (some ⟨g1, 0, none⟩) m1 q1, .slice (some ⟨g2, 0, none⟩) m2 q2, .slice (some ⟨g3, 0, none⟩) m3 q3, .int .i64 G.nh, .int .i64 G.nc, .int .i64 G.nd]) Tryz.isAgg37 Tryz.sizeOf37 rfl (unhide KP8) ?_)
          | ((with_reducible show wpList _ _ _ (⟨none, .store 37 _ _, _, _, _, none⟩ :: _) _ _); refine at_storeAgg (us := [.slice (some ⟨b1, 0, none⟩) F.ts.length p1, .slice (some ⟨b2, 0, none⟩) F.cs.length p2, .slice (some ⟨b3, 0, none⟩) F.ds.length p3, .int .i64 F.nh, .int .i64 F.nc, .int .i64 F.nd]) (vs := [.slice (some ⟨g1, 0, none⟩) m1 q1, .slice (some ⟨g2, 0, none⟩) m2 q2, .slice (some ⟨g3, 0, none⟩) m3 q3, .int .i64 G.nh, .int .i64 G.nc, .int .i64 G.nd]) Tryz.sizeOf37 rfl rfl (unhide KQ8) rfl (fun v hv => by simp at hv; rcases hv with rfl | rfl | rfl | rfl | rfl | rfl <;> rfl) ?_; intro w9 kk gg; have K9 := hide kk; have G9 := hide gg; clear kk gg))
        have S9 : Hid (RmS w Q R G (rwT f es k) g1 g2 g3 q1 q2 q3 gt k ct w9) := hide (by
          obtain ⟨e1, e2, e3⟩ := unhide HM
          have nx := unhide NX
          have k9 := unhide K9
          rw [← e1, ← e2, ← e3] at nx k9
          exact (unhide ST).next nx k9 (unhide G9))
        clear NX KP8 KQ8 K9 G9 S8 ST
        go_wp2_with (at_builtin; refine wpList_app_elG (K := 1) (cells := boC) rfl _ _ 38 4 rfl Tryz.underlying38 infoBo rfl (by decide) (by decide) ok [.bool ok] rfl (fun q hq => by match q, hq with | 0, _ => rfl) (fun u hu => by simp at hu; rcases hu with rfl; rfl) (unhide S9).told (unhide S9).len rfl rfl rfl (by have := (unhide S9).kr.lt; omega) (by omega) ?_; intro g9 c9 wz o9 gr9 hg9)
        have SZ := hide ((unhide S9).push o9 gr9 hg9)
        clear o9 gr9 hg9 S9
        go_roundw
        case rel => exact ⟨k + 1, g9, c9, g1, g2, g3, q1, q2, q3, rfl, by go_num, by omega, by rw [(unhide HRS).1, (unhide HRS).2]; exact SZ⟩
        case measure => simp [intOf]; omega
    · have hkN : k = N := by omega
      have HK := hide hkN
      have KQ8 := hide (unhide ST).q
      have KR8 := hide (unhide ST).kr
      rcases unhide hNN with ⟨h1, h2⟩ | ⟨h1, h2⟩
      · have i1 : ¬ (k : Int) < (len : Int) := by omega
        clear h1 h2 hkN hlt hk HRS
        go_wp2_with (first
          | ((with_reducible show wpList _ _ _ (⟨_, .load 37 _, _, _, _, none⟩ :: _) _ _); refine at_loadAgg (vs := [.slice (some ⟨b1, 0, none⟩) F.ts.length p1, .slice (some ⟨b2, 0, none⟩) F.cs.length p2, .slice (some ⟨b3, 0, none⟩) F.ds.length p3, .int .i64 F.nh, .int .i64 F.nc, .int .i64 F.nd]) Tryz.isAgg37 Tryz.sizeOf37 rfl (unhide KQ8) ?_)
          | ((with_reducible show wpList _ _ _ (⟨none, .store 37 _ _, _, _, _, none⟩ :: _) _ _); refine at_storeAgg (us := [.slice none 0 0, .slice none 0 0, .slice none 0 0, .int .i64 0, .int .i64 0, .int .i64 0]) (vs := [.slice (some ⟨b1, 0, none⟩) F.ts.length p1, .slice (some ⟨b2, 0, none⟩) F.cs.length p2, .slice (some ⟨b3, 0, none⟩) F.ds.length p3, .int .i64 F.nh, .int .i64 F.nc, .int .i64 F.nd]) Tryz.sizeOf37 rfl rfl (unhide KR8) rfl (fun v hv => by simp at hv; rcases hv with rfl | rfl | rfl | rfl | rfl | rfl <;> rfl) ?_; intro w7 kk gg; have K7 := hide kk; have G7 := hide gg; clear kk gg))
        have nR := (unhide ST).kr.lt
        have hRg := (unhide HRR)
        have n1 := (unhide ST).o.o1.far (unhide G7) (fun q hq e => by have e1 : b1 = q := Option.some.inj hq; have e2 : q = R := (Option.some.inj e); have e3 := ((unhide ST).o.o1.lies q hq).1; omega)
        have n2 := (unhide ST).o.o2.far (unhide G7) (fun q hq e => by have e1 : b2 = q := Option.some.inj hq; have e2 : q = R := (Option.some.inj e); have e3 := ((unhide ST).o.o2.lies q hq).1; omega)
        have n3 := (unhide ST).o.o3.far (unhide G7) (fun q hq e => by have e1 : b3 = q := Option.some.inj hq; have e2 : q = R := (Option.some.inj e); have e3 := ((unhide ST).o.o3.lies q hq).1; omega)
        have nt := (unhide ST).told.far (unhide G7) (fun q hq e => by have e1 : gt = q := Option.some.inj hq; have e2 : q = R := (Option.some.inj e); have e3 := ((unhide ST).told.lies q hq).1; omega)
        refine bodyPost_ret (results_cellB (vs := [.slice (some ⟨b1, 0, none⟩) F.ts.length p1, .slice (some ⟨b2, 0, none⟩) F.cs.length p2, .slice (some ⟨b3, 0, none⟩) F.ds.length p3, .int .i64 F.nh, .int .i64 F.nc, .int .i64 F.nd]) rfl Tryz.isAgg37 Tryz.sizeOf37 rfl (unhide K7) rfl) rfl ?_
        rw [← unhide HK, unhide HFE]
        exact ⟨b1, p1, b2, p2, b3, p3, gt, ct, by rw [rwT_len]; kernel_rfl, ⟨n1.mono (by omega), n2.mono (by omega), n3.mono (by omega), (unhide ST).o.p12, (unhide ST).o.p13, (unhide ST).o.p23⟩, by rw [rwT_len]; exact nt.mono (by omega), (unhide ST).bel.grown (unhide G7) (unhide ST).bel.size (fun q hq => by have e : R = q := (Option.some.inj hq); omega)⟩
      · have i1 : (k : Int) < (len : Int) := by omega
        have i2 : ¬ (len : Int) ≤ 100 := by omega
        clear h1 h2 hkN hlt hk HRS
        go_wp2_with (first
          | ((with_reducible show wpList _ _ _ (⟨_, .load 37 _, _, _, _, none⟩ :: _) _ _); refine at_loadAgg (vs := [.slice (some ⟨b1, 0, none⟩) F.ts.length p1, .slice (some ⟨b2, 0, none⟩) F.cs.length p2, .slice (some ⟨b3, 0, none⟩) F.ds.length p3, .int .i64 F.nh, .int .i64 F.nc, .int .i64 F.nd]) Tryz.isAgg37 Tryz.sizeOf37 rfl (unhide KQ8) ?_)
          | ((with_reducible show wpList _ _ _ (⟨none, .store 37 _ _, _, _, _, none⟩ :: _) _ _); refine at_storeAgg (us := [.slice none 0 0, .slice none 0 0, .slice none 0 0, .int .i64 0, .int .i64 0, .int .i64 0]) (vs := [.slice (some ⟨b1, 0, none⟩) F.ts.length p1, .slice (some ⟨b2, 0, none⟩) F.cs.length p2, .slice (some ⟨b3, 0, none⟩) F.ds.length p3, .int .i64 F.nh, .int .i64 F.nc, .int .i64 F.nd]) Tryz.sizeOf37 rfl rfl (unhide KR8) rfl (fun v hv => by simp at hv; rcases hv with rfl | rfl | rfl | rfl | rfl | rfl <;> rfl) ?_; intro w7 kk gg; have K7 := hide kk; have G7 := hide gg; clear kk gg))
        have nR := (unhide ST).kr.lt
        have hRg := (unhide HRR)
        have n1 := (unhide ST).o.o1.far (unhide G7) (fun q hq e => by have e1 : b1 = q := Option.some.inj hq; have e2 : q = R := (Option.some.inj e); have e3 := ((unhide ST).o.o1.lies q hq).1; omega)
        have n2 := (unhide ST).o.o2.far (unhide G7) (fun q hq e => by have e1 : b2 = q := Option.some.inj hq; have e2 : q = R := (Option.some.inj e); have e3 := ((unhide ST).o.o2.lies q hq).1; omega)
        have n3 := (unhide ST).o.o3.far (unhide G7) (fun q hq e => by have e1 : b3 = q := Option.some.inj hq; have e2 : q = R := (Option.some.inj e); have e3 := ((unhide ST).o.o3.lies q hq).1; omega)
        have nt := (unhide ST).told.far (unhide G7) (fun q hq e => by have e1 : gt = q := Option.some.inj hq; have e2 : q = R := (Option.some.inj e); have e3 := ((unhide ST).told.lies q hq).1; omega)
        refine bodyPost_ret (results_cellB (vs := [.slice (some ⟨b1, 0, none⟩) F.ts.length p1, .slice (some ⟨b2, 0, none⟩) F.cs.length p2, .slice (some ⟨b3, 0, none⟩) F.ds.length p3, .int .i64 F.nh, .int .i64 F.nc, .int .i64 F.nd]) rfl Tryz.isAgg37 Tryz.sizeOf37 rfl (unhide K7) rfl) rfl ?_
        rw [← unhide HK, unhide HFE]
        exact ⟨b1, p1, b2, p2, b3, p3, gt, ct, by rw [rwT_len]; kernel_rfl, ⟨n1.mono (by omega), n2.mono (by omega), n3.mono (by omega), (unhide ST).o.p12, (unhide ST).o.p13, (unhide ST).o.p23⟩, by rw [rwT_len]; exact nt.mono (by omega), (unhide ST).bel.grown (unhide G7) (unhide ST).bel.size (fun q hq => by have e : R = q := (Option.some.inj hq); omega)⟩


end Go.Proofs.YticdccdkjepifaaGreat

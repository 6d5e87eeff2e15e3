/-
  The law FnExactRunWork returns true at every argument and writes nothing that was there: the walk. No condition.
-/
import Derived.Test.YticdccdkjepifaaGreatDvIs
import Derived.Test.YticdccdkjepifaaGreatMdRw
import Derived.Test.YticdccdkjepifaaGreatHgRw
import Derived.Test.YticdccdkjepifaaGreatMFlTo
import Derived.Test.YticdccdkjepifaaGreatMMkCr
import Derived.Test.YticdccdkjepifaaGreatMTxDe
import Derived.Test.YticdccdkjepifaaGreatOpO
import Derived.Test.YticdccdkjepifaaGreatMStrRow
import Derived.Deep.Cut
namespace Go.Proofs.YticdccdkjepifaaGreat
open Go Go.RowKit

structure RvE (w : World) (V0 : World) (nh nc nd : Int) (a1 a2 a3 : Option Addr) (l1 c1 l2 c2 l3 c3 : Nat) (ts : List Ts) (cs : List Cr) (ds : List Df) (X x1 x2 x3 : Nat) (A A1 : Value) (t0 t1 t2 t3 t4 : Bool) (v0 v1 v2 v3 v4 : Value) (W : World) : Prop where
  bel : Below V0.heap.size V0 W
  sz : V0.heap.size ≤ W.heap.size
  kx : Blk W (X) [.slice (some ⟨x1, 0, none⟩) l1 l1, .slice (some ⟨x2, 0, none⟩) l2 l2, .slice (some ⟨x3, 0, none⟩) l3 l3, .int .i64 nh, .int .i64 nc, .int .i64 nd]
  kp : Blk W (w.heap.size) [.slice a1 l1 c1, .slice a2 l2 c2, .slice a3 l3 c3, .int .i64 nh, .int .i64 nc, .int .i64 nd]
  pown : FlIn W (some ⟨x1, 0, none⟩) (some ⟨x2, 0, none⟩) (some ⟨x3, 0, none⟩) l1 l2 l3 ts cs ds
  parg : FlIn W a1 a2 a3 l1 l2 l3 ts cs ds
  e0 : t0 = true → v0 = A1
  e1 : t1 = true → v1 = A
  e2 : t2 = true → ∃ e1 e2 e3, v2 = .agg #[.slice (some ⟨e1, 0, none⟩) l1 l1, .slice (some ⟨e2, 0, none⟩) l2 l2, .slice (some ⟨e3, 0, none⟩) l3 l3, .int .i64 nh, .int .i64 nc, .int .i64 nd] ∧ FlIn W (some ⟨e1, 0, none⟩) (some ⟨e2, 0, none⟩) (some ⟨e3, 0, none⟩) l1 l2 l3 ts cs ds
  e3 : t3 = true → v3 = .bool true
  e4 : t4 = true → v4 = .bool false
theorem RvE.below {w : World} {V0 : World} {nh nc nd : Int} {a1 a2 a3 : Option Addr} {l1 c1 l2 c2 l3 c3 : Nat} {ts : List Ts} {cs : List Cr} {ds : List Df} {X x1 x2 x3 : Nat} {A A1 : Value} {t0 t1 t2 t3 t4 : Bool} {v0 v1 v2 v3 v4 : Value} {W W' : World} (K : RvE w V0 nh nc nd a1 a2 a3 l1 c1 l2 c2 l3 c3 ts cs ds X x1 x2 x3 A A1 t0 t1 t2 t3 t4 v0 v1 v2 v3 v4 W) (hbw : Below W.heap.size W W') : RvE w V0 nh nc nd a1 a2 a3 l1 c1 l2 c2 l3 c3 ts cs ds X x1 x2 x3 A A1 t0 t1 t2 t3 t4 v0 v1 v2 v3 v4 W' :=
  ⟨K.bel.trans (hbw.mono K.bel.size), Nat.le_trans K.sz hbw.size, K.kx.below hbw, K.kp.below hbw, K.pown.below hbw, K.parg.below hbw, K.e0, K.e1, fun h => by obtain ⟨e1, e2, e3, x1, x2⟩ := K.e2 h; exact ⟨e1, e2, e3, x1, x2.below hbw⟩, K.e3, K.e4⟩
def RvEJ (w : World) (V0 : World) (nh nc nd : Int) (a1 a2 a3 : Option Addr) (l1 c1 l2 c2 l3 c3 : Nat) (ts : List Ts) (cs : List Cr) (ds : List Df) (X x1 x2 x3 : Nat) (A A1 : Value) (A0 : Act) (l : Nat → Bool) (a : Act) (V : World) : Prop := ∃ (v0 v1 v2 v3 v4 : Value), a = (((((A0.put (some 55) v0).put (some 56) v1).put (some 57) v2).put (some 58) v3).put (some 59) v4) ∧ RvE w V0 nh nc nd a1 a2 a3 l1 c1 l2 c2 l3 c3 ts cs ds X x1 x2 x3 A A1 (l 0) (l 1) (l 2) (l 3) (l 4) v0 v1 v2 v3 v4 V
theorem RvEJ.mk {w : World} {V0 : World} {nh nc nd : Int} {a1 a2 a3 : Option Addr} {l1 c1 l2 c2 l3 c3 : Nat} {ts : List Ts} {cs : List Cr} {ds : List Df} {X x1 x2 x3 : Nat} {A A1 : Value} {A0 : Act} {l : Nat → Bool} {a : Act} {V : World} {v0 v1 v2 v3 v4 : Value} (K : RvE w V0 nh nc nd a1 a2 a3 l1 c1 l2 c2 l3 c3 ts cs ds X x1 x2 x3 A A1 (l 0) (l 1) (l 2) (l 3) (l 4) v0 v1 v2 v3 v4 V) (hq : a = (((((A0.put (some 55) v0).put (some 56) v1).put (some 57) v2).put (some 58) v3).put (some 59) v4)) : RvEJ w V0 nh nc nd a1 a2 a3 l1 c1 l2 c2 l3 c3 ts cs ds X x1 x2 x3 A A1 A0 l a V := ⟨v0, v1, v2, v3, v4, hq, K⟩
theorem rw_lenM {f : Fl} {es : List De} (m1 : f.ts.length ≤ 1048576) (m2 : f.cs.length ≤ 1048576) (m3 : f.ds.length ≤ 1048576) : ∀ k, (rwF f es k).ts.length ≤ 1048576 ∧ (rwF f es k).cs.length ≤ 1048576 ∧ (rwF f es k).ds.length ≤ 1048576
  | 0 => ⟨m1, m2, m3⟩
  | k + 1 => by obtain ⟨a, b, c⟩ := rw_lenM (es := es) m1 m2 m3 k; exact dv_len a b c
set_option maxRecDepth 20000 in
set_option maxHeartbeats 20000000 in
theorem lawRunWork (nh nc nd : Int) (a1 a2 a3 : Option Addr) (l1 c1 l2 c2 l3 c3 : Nat) (ts : List Ts) (cs : List Cr) (ds : List Df) (ad : Option Addr) (len cap : Nat) (es : List De) (w : World) (hr : FlIn w a1 a2 a3 l1 l2 l3 ts cs ds) (f1 : ∀ i, fitT (elAt ts i).nm) (f2 : ∀ i, fitT (elAt cs i).n) (f3 : ∀ i, fitT (elAt ds i).n) (hd : RowE 4 deC w ad len es) (hn : ∀ i, fitT (elAt es i).n) :
    Calls Tryz.prog 3 #[.agg #[.slice a1 l1 c1, .slice a2 l2 c2, .slice a3 l3 c3, .int .i64 nh, .int .i64 nc, .int .i64 nd], .slice ad len cap] w fun x w' => x = .returned (.bool true) ∧ Below w.heap.size w w' := by
  obtain ⟨W, hW⟩ : ∃ W, W = w.alloc (Obj.cells #[.slice a1 l1 c1, .slice a2 l2 c2, .slice a3 l3 c3, .int .i64 nh, .int .i64 nc, .int .i64 nd] 28) := ⟨_, rfl⟩
  have KF : Hid (Blk W w.heap.size [.slice a1 l1 c1, .slice a2 l2 c2, .slice a3 l3 c3, .int .i64 nh, .int .i64 nc, .int .i64 nd]) := hide (by rw [hW]; exact Blk.new _ _)
  have HB : Hid (Below w.heap.size w W) := hide (by rw [hW]; exact bel1 _)
  obtain ⟨A, hA⟩ : ∃ A : Value, A = .agg #[.slice a1 l1 c1, .slice a2 l2 c2, .slice a3 l3 c3, .int .i64 nh, .int .i64 nc, .int .i64 nd] := ⟨_, rfl⟩
  have HA := hide hA
  have HW := hide hW
  have HR := hide hr
  have RD := hide hd
  have FT : Hid (FitF ⟨ts, cs, ds, nh, nc, nd⟩) := hide ⟨f1, f2, f3⟩
  have HN := hide hn
  have sW := (unhide KF).lt
  obtain ⟨f', hf'⟩ : ∃ x, rwF ⟨ts, cs, ds, nh, nc, nd⟩ es (rwN es) = x := ⟨_, rfl⟩
  obtain ⟨T', hT'⟩ : ∃ x, rwT ⟨ts, cs, ds, nh, nc, nd⟩ es (rwN es) = x := ⟨_, rfl⟩
  have HF := hide hf'
  have HT := hide hT'
  obtain ⟨n', hn'⟩ : ∃ x, T'.length = x := ⟨_, rfl⟩
  have n100 : n' ≤ 100 := by
    rw [← hn', ← hT', rwT_len, rwN]
    by_cases c : es.length ≤ 100
    · rw [if_pos c]; exact c
    · rw [if_neg c]; omega
  have HTL := hide hn'
  have el1 := hr.r1.len_eq
  have el2 := hr.r2.len_eq
  have el3 := hr.r3.len_eq
  have eld := hd.len_eq
  have EL := hide (And.intro el1 (And.intro el2 (And.intro el3 eld)))
  clear hW hr f1 f2 f3 hA hn hd hf' hT' hn' el1 el2 el3 eld
  go_enter Tryz.func3, Tryz.ntmps3
  go_upto_region 2 with fail
  rw [← unhide HW, ← unhide HA]
  clear HW
  go_wp2_with ((with_reducible show wpList _ _ _ (⟨_, .load 28 _, _, _, _, none⟩ :: _) _ _); refine at_loadV (vs := [.slice a1 l1 c1, .slice a2 l2 c2, .slice a3 l3 c3, .int .i64 nh, .int .i64 nc, .int .i64 nd]) (V := A) (unhide HA) Tryz.isAgg28 Tryz.sizeOf28 rfl (unhide KF) ?_)
  rw [unhide HA]
  refine (szFleet_any nh nc nd a1 a2 a3 l1 c1 l2 c2 l3 c3 ts cs ds 1048576 _ ((unhide HR).below (unhide HB)) (unhide FT).t (unhide FT).c (unhide FT).d (by omega) (by omega)).mono ?_
  rw [← unhide HA]
  rintro e w2 ⟨⟨r1, rfl, hl⟩, bw⟩
  have sw2_W := bw.size
  have HB := hide ((unhide HB).trans (bw.mono (unhide HB).size))
  have KF := hide ((unhide KF).below bw)
  clear bw
  rcases hl with hl | ⟨hl, hle, i1, i2, i3⟩
  · go_wp2_with fail
    go_ret
    exact ⟨rfl, unhide HB⟩
  have nr1 : ¬ r1 < 0 := by omega
  go_wp2_with fail
  refine (szDeed19S_any ad len cap es r1 _ ((unhide RD).below (unhide HB)) (unhide HN) (by omega) (by omega)).mono ?_
  rintro e w3 ⟨⟨r2, rfl, hl⟩, bw⟩
  have sw3_w2 := bw.size
  have HB := hide ((unhide HB).trans (bw.mono (unhide HB).size))
  have KF := hide ((unhide KF).below bw)
  clear bw
  rcases hl with hl | ⟨hl2, hle2, hlen⟩
  · go_wp2_with fail
    go_ret
    exact ⟨rfl, unhide HB⟩
  have nr2 : ¬ r2 < 0 := by omega
  have LEN : Hid (f'.ts.length ≤ 1048600 ∧ f'.cs.length ≤ 1048600 ∧ f'.ds.length ≤ 1048600) := hide (by
    have q := unhide EL
    have := rw_len (f := ⟨ts, cs, ds, nh, nc, nd⟩) (es := es) (by show ts.length ≤ 1048600; omega) (by show cs.length ≤ 1048600; omega) (by show ds.length ≤ 1048600; omega) (rwN es)
    rw [unhide HF] at this
    exact this)
  have LEM : Hid (f'.ts.length ≤ 1048576 ∧ f'.cs.length ≤ 1048576 ∧ f'.ds.length ≤ 1048576) := hide (by
    have q := unhide EL
    have := rw_lenM (f := ⟨ts, cs, ds, nh, nc, nd⟩) (es := es) (by show ts.length ≤ 1048576; omega) (by show cs.length ≤ 1048576; omega) (by show ds.length ≤ 1048576; omega) (rwN es)
    rw [unhide HF] at this
    exact this)
  have CWS : Hid (∀ V e1 e2 e3 q, FlIn V (some ⟨e1, 0, none⟩) (some ⟨e2, 0, none⟩) (some ⟨e3, 0, none⟩) l1 l2 l3 ts cs ds → RowE 4 deC V (some ⟨q, 0, none⟩) len es → Calls Tryz.prog 6 #[.agg #[.slice (some ⟨e1, 0, none⟩) l1 l1, .slice (some ⟨e2, 0, none⟩) l2 l2, .slice (some ⟨e3, 0, none⟩) l3 l3, .int .i64 nh, .int .i64 nc, .int .i64 nd], .slice (some ⟨q, 0, none⟩) len len] V fun e w' => RwE V f' T' e w') := hide (fun V e1 e2 e3 q hfl hdl => by
    have k := specRunWork_any nh nc nd _ _ _ l1 l1 l2 l2 l3 l3 ts cs ds (some ⟨q, 0, none⟩) len len es V hfl (by omega) (by omega) (by omega) (unhide FT) hdl (unhide HN)
    rw [unhide HF, unhide HT] at k
    exact k)
  have CWI : Hid (∀ V e1 e2 e3 q, FlIn V (some ⟨e1, 0, none⟩) (some ⟨e2, 0, none⟩) (some ⟨e3, 0, none⟩) l1 l2 l3 ts cs ds → RowE 4 deC V (some ⟨q, 0, none⟩) len es → Calls Tryz.prog 9 #[.agg #[.slice (some ⟨e1, 0, none⟩) l1 l1, .slice (some ⟨e2, 0, none⟩) l2 l2, .slice (some ⟨e3, 0, none⟩) l3 l3, .int .i64 nh, .int .i64 nc, .int .i64 nd], .slice (some ⟨q, 0, none⟩) len len] V fun e w' => RwE V f' T' e w') := hide (fun V e1 e2 e3 q hfl hdl => by
    have k := implRunWork_any nh nc nd _ _ _ l1 l1 l2 l2 l3 l3 ts cs ds (some ⟨q, 0, none⟩) len len es V hfl (by omega) (by omega) (by omega) (unhide FT) hdl (unhide HN)
    rw [unhide HF, unhide HT] at k
    exact k)
  clear hl hle hl2 hle2
  go_wp2_with ((with_reducible show wpList _ _ _ (⟨_, .load 28 _, _, _, _, none⟩ :: _) _ _); refine at_loadV (vs := [.slice a1 l1 c1, .slice a2 l2 c2, .slice a3 l3 c3, .int .i64 nh, .int .i64 nc, .int .i64 nd]) (V := A) (unhide HA) Tryz.isAgg28 Tryz.sizeOf28 rfl (unhide KF) ?_)
  rw [unhide HA]
  refine (toFleet_own nh nc nd a1 a2 a3 l1 c1 l2 c2 l3 c3 ts cs ds _ ((unhide HR).below (unhide HB)) i1 i2 i3).mono ?_
  rw [← unhide HA]
  rintro e w4 ⟨⟨e1, e2, e3, rfl, ow⟩, bw⟩
  have OE := hide ow.read
  clear ow
  have sw4_w3 := bw.size
  have HB := hide ((unhide HB).trans (bw.mono (unhide HB).size))
  have KF := hide ((unhide KF).below bw)
  clear bw
  go_wp2_with fail
  refine (toDeed19S_own ad len cap es _ ((unhide RD).below (unhide HB)) hlen).mono ?_
  rintro e w5 ⟨rfl, oq, bw⟩
  obtain ⟨q0, hq0⟩ : ∃ q, w4.heap.size = q := ⟨_, rfl⟩
  rw [hq0] at oq ⊢
  have OQ := hide oq.row
  clear oq hq0
  have sw5_w4 := bw.size
  have HB := hide ((unhide HB).trans (bw.mono (unhide HB).size))
  have KF := hide ((unhide KF).below bw)
  have OE := hide ((unhide OE).below bw)
  clear bw
  go_wp2_with fail
  refine ((unhide CWS) _ e1 e2 e3 q0 (unhide OE) (unhide OQ)).mono ?_
  rintro e w6 ⟨g01, p01, g02, p02, g03, p03, gt0, ct0, rfl, ow, tw, bw⟩
  obtain ⟨F0, hF⟩ : ∃ A : Value, A = .agg #[.slice (some ⟨g01, 0, none⟩) f'.ts.length p01, .slice (some ⟨g02, 0, none⟩) f'.cs.length p02, .slice (some ⟨g03, 0, none⟩) f'.ds.length p03, .int .i64 f'.nh, .int .i64 f'.nc, .int .i64 f'.nd] := ⟨_, rfl⟩
  rw [← hF]
  have HF0 := hide hF
  clear hF
  have L0 : Hid (∀ k, flS (some ⟨g01, 0, none⟩) (some ⟨g02, 0, none⟩) (some ⟨g03, 0, none⟩) f'.ts.length p01 f'.cs.length p02 f'.ds.length p03 k → w5.heap.size ≤ k ∧ k < w6.heap.size) := hide (fun k hk => ow.in_ hk)
  have lo0 := (tw.lies gt0 rfl).1
  have hi0 := (tw.lies gt0 rfl).2
  have O0 := hide ow
  have T0 := hide tw
  clear ow tw
  have sw6_w5 := bw.size
  have HB := hide ((unhide HB).trans (bw.mono (unhide HB).size))
  have KF := hide ((unhide KF).below bw)
  have OE := hide ((unhide OE).below bw)
  have OQ := hide ((unhide OQ).below bw)
  clear bw
  clear OE OQ CWS
  obtain ⟨S0, hX⟩ : ∃ X, w6.heap.size = X := ⟨_, rfl⟩
  have leS0 : w6.heap.size ≤ S0 := by omega
  have geS0 : S0 ≤ w6.heap.size := by omega
  obtain ⟨zw7, hz⟩ : ∃ V, V = w6.alloc (Obj.cells #[.slice none 0 0, .slice none 0 0, .slice none 0 0, .int .i64 0, .int .i64 0, .int .i64 0] 37) := ⟨_, rfl⟩
  have bw : Below w6.heap.size w6 zw7 := by rw [hz]; exact bel1 _
  have KS0 : Hid (Blk zw7 S0 [.slice none 0 0, .slice none 0 0, .slice none 0 0, .int .i64 0, .int .i64 0, .int .i64 0]) := hide (by rw [hz, ← hX]; exact Blk.new _ _)
  have szw7_w6 := bw.size
  have HB := hide ((unhide HB).trans (bw.mono (unhide HB).size))
  have KF := hide ((unhide KF).below bw)
  have O0 := hide ((unhide O0).below bw)
  have T0 := hide ((unhide T0).below bw)
  clear bw
  have HZ := hide hz
  have HX := hide hX
  clear hz hX
  go_upto_region 9 with ((with_reducible show wpList _ _ _ (⟨none, .store 37 (.tmp 6) _, _, _, _, none⟩ :: _) _ _); rw [← unhide HZ, unhide HX]; refine at_storeAgg (us := [.slice none 0 0, .slice none 0 0, .slice none 0 0, .int .i64 0, .int .i64 0, .int .i64 0]) (vs := [.slice (some ⟨g01, 0, none⟩) f'.ts.length p01, .slice (some ⟨g02, 0, none⟩) f'.cs.length p02, .slice (some ⟨g03, 0, none⟩) f'.ds.length p03, .int .i64 f'.nh, .int .i64 f'.nc, .int .i64 f'.nd]) Tryz.sizeOf37 rfl (unhide HF0) (unhide KS0) rfl (by intro v hv; simp only [List.mem_cons, List.not_mem_nil, or_false] at hv; rcases hv with rfl | rfl | rfl | rfl | rfl | rfl <;> rfl) ?_; intro w7 kb gr)
  have on := Aps.of_row (S := fun k => k = S0) gr (fun k hk => (Option.some.inj hk).symm)
  have ltS0 : S0 < w7.heap.size := kb.lt
  have sw7_zw7 := on.size
  have HB := hide (below_aps (unhide HB) on (fun k hk => by have qs := hk; omega) (Nat.le_refl _))
  have KF := hide ((unhide KF).aps on (fun e => by have qs := e; omega))
  have O0 := hide ((unhide O0).aps on (fun i hi e => by have a := (unhide L0) i hi; have qs := e; omega))
  have T0 := hide ((unhide T0).aps on (fun g hg e => by have e1 : gt0 = g := Option.some.inj hg; have qs := e; omega))
  have KS0 := hide kb
  clear kb gr on HZ HX
  go_wp2_with ((with_reducible show wpList _ _ _ (⟨_, .load 28 _, _, _, _, none⟩ :: _) _ _); refine at_loadV (vs := [.slice a1 l1 c1, .slice a2 l2 c2, .slice a3 l3 c3, .int .i64 nh, .int .i64 nc, .int .i64 nd]) (V := A) (unhide HA) Tryz.isAgg28 Tryz.sizeOf28 rfl (unhide KF) ?_)
  rw [unhide HA]
  refine (toFleet_own nh nc nd a1 a2 a3 l1 c1 l2 c2 l3 c3 ts cs ds _ ((unhide HR).below (unhide HB)) i1 i2 i3).mono ?_
  rw [← unhide HA]
  rintro e w8 ⟨⟨x1, x2, x3, rfl, ow⟩, bw⟩
  obtain ⟨A1, hA1⟩ : ∃ A : Value, A = .agg #[.slice (some ⟨x1, 0, none⟩) l1 l1, .slice (some ⟨x2, 0, none⟩) l2 l2, .slice (some ⟨x3, 0, none⟩) l3 l3, .int .i64 nh, .int .i64 nc, .int .i64 nd] := ⟨_, rfl⟩
  rw [← hA1]
  have HA1 := hide hA1
  clear hA1
  have LX : Hid (∀ k, flS (some ⟨x1, 0, none⟩) (some ⟨x2, 0, none⟩) (some ⟨x3, 0, none⟩) l1 l1 l2 l2 l3 l3 k → w7.heap.size ≤ k ∧ k < w8.heap.size) := hide (fun k hk => ow.in_ hk)
  have OX := hide ow
  clear ow
  have sw8_w7 := bw.size
  have HB := hide ((unhide HB).trans (bw.mono (unhide HB).size))
  have KF := hide ((unhide KF).below bw)
  have O0 := hide ((unhide O0).below bw)
  have T0 := hide ((unhide T0).below bw)
  have KS0 := hide ((unhide KS0).below bw)
  clear bw
  obtain ⟨X, hX⟩ : ∃ X, w8.heap.size = X := ⟨_, rfl⟩
  have leX : w8.heap.size ≤ X := by omega
  have geX : X ≤ w8.heap.size := by omega
  obtain ⟨zw9, hz⟩ : ∃ V, V = w8.alloc (Obj.cells #[.slice none 0 0, .slice none 0 0, .slice none 0 0, .int .i64 0, .int .i64 0, .int .i64 0] 37) := ⟨_, rfl⟩
  have bw : Below w8.heap.size w8 zw9 := by rw [hz]; exact bel1 _
  have KX : Hid (Blk zw9 X [.slice none 0 0, .slice none 0 0, .slice none 0 0, .int .i64 0, .int .i64 0, .int .i64 0]) := hide (by rw [hz, ← hX]; exact Blk.new _ _)
  have szw9_w8 := bw.size
  have HB := hide ((unhide HB).trans (bw.mono (unhide HB).size))
  have KF := hide ((unhide KF).below bw)
  have O0 := hide ((unhide O0).below bw)
  have T0 := hide ((unhide T0).below bw)
  have KS0 := hide ((unhide KS0).below bw)
  have OX := hide ((unhide OX).below bw)
  clear bw
  have HZ := hide hz
  have HX := hide hX
  clear hz hX
  go_upto_region 10 with ((with_reducible show wpList _ _ _ (⟨none, .store 37 (.tmp 8) _, _, _, _, none⟩ :: _) _ _); rw [← unhide HZ, unhide HX]; refine at_storeAgg (us := [.slice none 0 0, .slice none 0 0, .slice none 0 0, .int .i64 0, .int .i64 0, .int .i64 0]) (vs := [.slice (some ⟨x1, 0, none⟩) l1 l1, .slice (some ⟨x2, 0, none⟩) l2 l2, .slice (some ⟨x3, 0, none⟩) l3 l3, .int .i64 nh, .int .i64 nc, .int .i64 nd]) Tryz.sizeOf37 rfl (unhide HA1) (unhide KX) rfl (by intro v hv; simp only [List.mem_cons, List.not_mem_nil, or_false] at hv; rcases hv with rfl | rfl | rfl | rfl | rfl | rfl <;> rfl) ?_; intro w9 kb gr)
  have on := Aps.of_row (S := fun k => k = X) gr (fun k hk => (Option.some.inj hk).symm)
  have ltX : X < w9.heap.size := kb.lt
  have sw9_zw9 := on.size
  have HB := hide (below_aps (unhide HB) on (fun k hk => by have qs := hk; omega) (Nat.le_refl _))
  have KF := hide ((unhide KF).aps on (fun e => by have qs := e; omega))
  have O0 := hide ((unhide O0).aps on (fun i hi e => by have a := (unhide L0) i hi; have qs := e; omega))
  have T0 := hide ((unhide T0).aps on (fun g hg e => by have e1 : gt0 = g := Option.some.inj hg; have qs := e; omega))
  have KS0 := hide ((unhide KS0).aps on (fun e => by have qs := e; omega))
  have OX := hide ((unhide OX).aps on (fun i hi e => by have a := (unhide LX) i hi; have qs := e; omega))
  have KX := hide kb
  clear kb gr on HZ HX
  go_wp2_with fail
  refine (toDeed19S_own ad len cap es _ ((unhide RD).below (unhide HB)) hlen).mono ?_
  rintro e w10 ⟨rfl, oq, bw⟩
  obtain ⟨D1, hD1⟩ : ∃ q, w9.heap.size = q := ⟨_, rfl⟩
  rw [hD1] at oq ⊢
  have loD := (oq.lies D1 rfl).1
  have hiD := (oq.lies D1 rfl).2
  have leD : w9.heap.size ≤ D1 := by omega
  have OD := hide oq
  clear oq hD1
  have sw10_w9 := bw.size
  have HB := hide ((unhide HB).trans (bw.mono (unhide HB).size))
  have KF := hide ((unhide KF).below bw)
  have O0 := hide ((unhide O0).below bw)
  have T0 := hide ((unhide T0).below bw)
  have KS0 := hide ((unhide KS0).below bw)
  have OX := hide ((unhide OX).below bw)
  have KX := hide ((unhide KX).below bw)
  clear bw
  go_wp2_with ((with_reducible show wpList _ _ _ (⟨_, .load 37 _, _, _, _, none⟩ :: _) _ _); refine at_loadV (vs := [.slice (some ⟨x1, 0, none⟩) l1 l1, .slice (some ⟨x2, 0, none⟩) l2 l2, .slice (some ⟨x3, 0, none⟩) l3 l3, .int .i64 nh, .int .i64 nc, .int .i64 nd]) (V := A1) (unhide HA1) Tryz.isAgg37 Tryz.sizeOf37 rfl (unhide KX) ?_)
  rw [unhide HA1]
  refine ((unhide CWI) _ x1 x2 x3 D1 (unhide OX).read (unhide OD).row).mono ?_
  rintro e w11 ⟨g11, p11, g12, p12, g13, p13, gt1, ct1, rfl, ow, tw, bw⟩
  obtain ⟨F1, hF⟩ : ∃ A : Value, A = .agg #[.slice (some ⟨g11, 0, none⟩) f'.ts.length p11, .slice (some ⟨g12, 0, none⟩) f'.cs.length p12, .slice (some ⟨g13, 0, none⟩) f'.ds.length p13, .int .i64 f'.nh, .int .i64 f'.nc, .int .i64 f'.nd] := ⟨_, rfl⟩
  rw [← hF]
  have HF1 := hide hF
  clear hF
  have L1 : Hid (∀ k, flS (some ⟨g11, 0, none⟩) (some ⟨g12, 0, none⟩) (some ⟨g13, 0, none⟩) f'.ts.length p11 f'.cs.length p12 f'.ds.length p13 k → w10.heap.size ≤ k ∧ k < w11.heap.size) := hide (fun k hk => ow.in_ hk)
  have lo1 := (tw.lies gt1 rfl).1
  have hi1 := (tw.lies gt1 rfl).2
  have NT1 : Hid (¬ flS (some ⟨g11, 0, none⟩) (some ⟨g12, 0, none⟩) (some ⟨g13, 0, none⟩) f'.ts.length p11 f'.cs.length p12 f'.ds.length p13 gt1) := hide (fun e => by
    rcases e with e | e | e
    · exact own_ne ow.o1 tw (by decide) _ e rfl
    · exact own_ne ow.o2 tw (by decide) _ e rfl
    · exact own_ne ow.o3 tw (by decide) _ e rfl)
  have O1 := hide ow
  have T1 := hide tw
  clear ow tw
  have sw11_w10 := bw.size
  have HB := hide ((unhide HB).trans (bw.mono (unhide HB).size))
  have KF := hide ((unhide KF).below bw)
  have O0 := hide ((unhide O0).below bw)
  have T0 := hide ((unhide T0).below bw)
  have KS0 := hide ((unhide KS0).below bw)
  have OX := hide ((unhide OX).below bw)
  have KX := hide ((unhide KX).below bw)
  have OD := hide ((unhide OD).below bw)
  clear bw
  try rw [← unhide HA1]
  obtain ⟨S1, hX⟩ : ∃ X, w11.heap.size = X := ⟨_, rfl⟩
  have leS1 : w11.heap.size ≤ S1 := by omega
  have geS1 : S1 ≤ w11.heap.size := by omega
  obtain ⟨zw12, hz⟩ : ∃ V, V = w11.alloc (Obj.cells #[.slice none 0 0, .slice none 0 0, .slice none 0 0, .int .i64 0, .int .i64 0, .int .i64 0] 37) := ⟨_, rfl⟩
  have bw : Below w11.heap.size w11 zw12 := by rw [hz]; exact bel1 _
  have KS1 : Hid (Blk zw12 S1 [.slice none 0 0, .slice none 0 0, .slice none 0 0, .int .i64 0, .int .i64 0, .int .i64 0]) := hide (by rw [hz, ← hX]; exact Blk.new _ _)
  have szw12_w11 := bw.size
  have HB := hide ((unhide HB).trans (bw.mono (unhide HB).size))
  have KF := hide ((unhide KF).below bw)
  have O0 := hide ((unhide O0).below bw)
  have T0 := hide ((unhide T0).below bw)
  have KS0 := hide ((unhide KS0).below bw)
  have OX := hide ((unhide OX).below bw)
  have KX := hide ((unhide KX).below bw)
  have OD := hide ((unhide OD).below bw)
  have O1 := hide ((unhide O1).below bw)
  have T1 := hide ((unhide T1).below bw)
  clear bw
  have HZ := hide hz
  have HX := hide hX
  clear hz hX
  go_upto_region 12 with ((with_reducible show wpList _ _ _ (⟨none, .store 37 (.tmp 10) _, _, _, _, none⟩ :: _) _ _); rw [← unhide HZ, unhide HX]; refine at_storeAgg (us := [.slice none 0 0, .slice none 0 0, .slice none 0 0, .int .i64 0, .int .i64 0, .int .i64 0]) (vs := [.slice (some ⟨g11, 0, none⟩) f'.ts.length p11, .slice (some ⟨g12, 0, none⟩) f'.cs.length p12, .slice (some ⟨g13, 0, none⟩) f'.ds.length p13, .int .i64 f'.nh, .int .i64 f'.nc, .int .i64 f'.nd]) Tryz.sizeOf37 rfl (unhide HF1) (unhide KS1) rfl (by intro v hv; simp only [List.mem_cons, List.not_mem_nil, or_false] at hv; rcases hv with rfl | rfl | rfl | rfl | rfl | rfl <;> rfl) ?_; intro w12 kb gr)
  have on := Aps.of_row (S := fun k => k = S1) gr (fun k hk => (Option.some.inj hk).symm)
  have ltS1 : S1 < w12.heap.size := kb.lt
  have sw12_zw12 := on.size
  have HB := hide (below_aps (unhide HB) on (fun k hk => by have qs := hk; omega) (Nat.le_refl _))
  have KF := hide ((unhide KF).aps on (fun e => by have qs := e; omega))
  have O0 := hide ((unhide O0).aps on (fun i hi e => by have a := (unhide L0) i hi; have qs := e; omega))
  have T0 := hide ((unhide T0).aps on (fun g hg e => by have e1 : gt0 = g := Option.some.inj hg; have qs := e; omega))
  have KS0 := hide ((unhide KS0).aps on (fun e => by have qs := e; omega))
  have OX := hide ((unhide OX).aps on (fun i hi e => by have a := (unhide LX) i hi; have qs := e; omega))
  have KX := hide ((unhide KX).aps on (fun e => by have qs := e; omega))
  have OD := hide ((unhide OD).aps on (fun g hg e => by have e1 : D1 = g := Option.some.inj hg; have qs := e; omega))
  have O1 := hide ((unhide O1).aps on (fun i hi e => by have a := (unhide L1) i hi; have qs := e; omega))
  have T1 := hide ((unhide T1).aps on (fun g hg e => by have e1 : gt1 = g := Option.some.inj hg; have qs := e; omega))
  have KS1 := hide kb
  clear kb gr on HZ HX
  go_wp2_with (first
    | ((with_reducible show wpList _ _ _ (⟨_, .load 37 (.tmp 10), _, _, _, none⟩ :: _) _ _); refine at_loadV (vs := [.slice (some ⟨g11, 0, none⟩) f'.ts.length p11, .slice (some ⟨g12, 0, none⟩) f'.cs.length p12, .slice (some ⟨g13, 0, none⟩) f'.ds.length p13, .int .i64 f'.nh, .int .i64 f'.nc, .int .i64 f'.nd]) (V := F1) (unhide HF1) Tryz.isAgg37 Tryz.sizeOf37 rfl (unhide KS1) ?_)
    | ((with_reducible show wpList _ _ _ (⟨_, .load 37 (.tmp 6), _, _, _, none⟩ :: _) _ _); refine at_loadV (vs := [.slice (some ⟨g01, 0, none⟩) f'.ts.length p01, .slice (some ⟨g02, 0, none⟩) f'.cs.length p02, .slice (some ⟨g03, 0, none⟩) f'.ds.length p03, .int .i64 f'.nh, .int .i64 f'.nc, .int .i64 f'.nd]) (V := F0) (unhide HF0) Tryz.isAgg37 Tryz.sizeOf37 rfl (unhide KS0) ?_))
  rw [unhide HF1, unhide HF0]
  refine (eqFleet_same f'.nh f'.nc f'.nd _ _ _ _ _ _ _ _ _ _ _ _ _ _ _ f'.ts f'.cs f'.ds _ (unhide O1).read (unhide O0).read).mono ?_
  rw [← unhide HF1, ← unhide HF0]
  rintro e w13 ⟨rfl, bw⟩
  have sw13_w12 := bw.size
  have HB := hide ((unhide HB).trans (bw.mono (unhide HB).size))
  have KF := hide ((unhide KF).below bw)
  have O0 := hide ((unhide O0).below bw)
  have T0 := hide ((unhide T0).below bw)
  have KS0 := hide ((unhide KS0).below bw)
  have OX := hide ((unhide OX).below bw)
  have KX := hide ((unhide KX).below bw)
  have OD := hide ((unhide OD).below bw)
  have O1 := hide ((unhide O1).below bw)
  have T1 := hide ((unhide T1).below bw)
  have KS1 := hide ((unhide KS1).below bw)
  clear bw
  go_wp2_with fail
  refine (eqBoolS_same _ _ _ _ _ _ T' _ (unhide T1).row (unhide T0).row).mono ?_
  rintro e w14 ⟨rfl, bw⟩
  have sw14_w13 := bw.size
  have HB := hide ((unhide HB).trans (bw.mono (unhide HB).size))
  have KF := hide ((unhide KF).below bw)
  have O0 := hide ((unhide O0).below bw)
  have T0 := hide ((unhide T0).below bw)
  have KS0 := hide ((unhide KS0).below bw)
  have OX := hide ((unhide OX).below bw)
  have KX := hide ((unhide KX).below bw)
  have OD := hide ((unhide OD).below bw)
  have O1 := hide ((unhide O1).below bw)
  have T1 := hide ((unhide T1).below bw)
  have KS1 := hide ((unhide KS1).below bw)
  clear bw
  have OXR := hide (unhide OX).read
  have HI := hide ((unhide HR).below (unhide HB))
  have HREF : Hid (Below w14.heap.size w14 w14) := hide (Below.refl _ _)
  go_upto_region 14 with fail
  refine wp_region_flagsA (by kernel_rfl) (by kernel_rfl) (RvEJ w w14 nh nc nd a1 a2 a3 l1 c1 l2 c2 l3 c3 ts cs ds X x1 x2 x3 A A1) ?_ ?_ ?_
  · exact RvEJ.mk (v0 := undef) (v1 := undef) (v2 := undef) (v3 := undef) (v4 := undef) ⟨(unhide HREF).trans (bel0d' 1), Nat.le_refl _, ((unhide KX).below (bel0d 1) : _), ((unhide KF).below (bel0d 1) : _), ((unhide OXR)).below (bel0d 1), ((unhide HI)).below (bel0d 1), (fun h => by cases h), (fun h => by cases h), (fun h => by cases h), (fun h => by cases h), (fun h => by cases h)⟩ (by kernel_rfl)
  rotate_left 1
  · rintro l a V i o ho hl hd ⟨v0, v1, v2, v3, v4, rfl, K⟩
    have hi : i < 5 := (Array.getElem?_eq_some_iff.1 ho).1
    rcases (show i = 0 ∨ i = 1 ∨ i = 2 ∨ i = 3 ∨ i = 4 from by omega) with rfl | rfl | rfl | rfl | rfl
    · as_aux_lemma =>
      simp at ho
      subst ho
      have HKB := hide K.kx
      have HK : Hid (RvE w w14 nh nc nd a1 a2 a3 l1 c1 l2 c2 l3 c3 ts cs ds X x1 x2 x3 A A1 true (l 1) (l 2) (l 3) (l 4) A1 v1 v2 v3 v4 V) := hide ⟨(K.bel), (K.sz), (K.kx), (K.kp), (K.pown), (K.parg), (fun _ => rfl), (K.e1), (K.e2), (K.e3), (K.e4)⟩
      clear K hd hl
      refine at_loadV (vs := [.slice (some ⟨x1, 0, none⟩) l1 l1, .slice (some ⟨x2, 0, none⟩) l2 l2, .slice (some ⟨x3, 0, none⟩) l3 l3, .int .i64 nh, .int .i64 nc, .int .i64 nd]) (V := A1) (unhide HA1) Tryz.isAgg37 Tryz.sizeOf37 rfl (unhide HKB) ?_
      go_wp2_with fail
      exact ⟨rfl, RvEJ.mk (unhide HK) (by kernel_rfl)⟩
    · as_aux_lemma =>
      simp at ho
      subst ho
      have HKB := hide K.kp
      have HK : Hid (RvE w w14 nh nc nd a1 a2 a3 l1 c1 l2 c2 l3 c3 ts cs ds X x1 x2 x3 A A1 (l 0) true (l 2) (l 3) (l 4) v0 A v2 v3 v4 V) := hide ⟨(K.bel), (K.sz), (K.kx), (K.kp), (K.pown), (K.parg), (K.e0), (fun _ => rfl), (K.e2), (K.e3), (K.e4)⟩
      clear K hd hl
      refine at_loadV (vs := [.slice a1 l1 c1, .slice a2 l2 c2, .slice a3 l3 c3, .int .i64 nh, .int .i64 nc, .int .i64 nd]) (V := A) (unhide HA) Tryz.isAgg28 Tryz.sizeOf28 rfl (unhide HKB) ?_
      go_wp2_with fail
      exact ⟨rfl, RvEJ.mk (unhide HK) (by kernel_rfl)⟩
    · as_aux_lemma =>
      simp at ho
      subst ho
      have d1 : l 1 = true := hd ⟨1, .data⟩ (by simp) rfl
      have x1 := (K.e1 d1).symm
      subst x1
      have HK0 := hide K
      clear K hd hl
      go_wp2_with (go_at_call 7; rw [unhide HA]; refine (toFleet_own nh nc nd a1 a2 a3 l1 c1 l2 c2 l3 c3 ts cs ds _ (unhide HK0).parg i1 i2 i3).mono ?_; rw [← unhide HA]; rintro e V2 ⟨⟨e1, e2, e3, rfl, hp0⟩, b2⟩; have hp := hp0.read; clear hp0; have K := (unhide HK0).below b2; have HK : Hid (RvE w w14 nh nc nd a1 a2 a3 l1 c1 l2 c2 l3 c3 ts cs ds X x1 x2 x3 A A1 (l 0) (l 1) true (l 3) (l 4) v0 A (.agg #[.slice (some ⟨e1, 0, none⟩) l1 l1, .slice (some ⟨e2, 0, none⟩) l2 l2, .slice (some ⟨e3, 0, none⟩) l3 l3, .int .i64 nh, .int .i64 nc, .int .i64 nd]) v3 v4 V2) := hide ⟨(K.bel), (K.sz), (K.kx), (K.kp), (K.pown), (K.parg), (K.e0), (K.e1), (fun _ => ⟨e1, e2, e3, rfl, hp⟩), (K.e3), (K.e4)⟩; clear K b2 hp)
      exact ⟨rfl, RvEJ.mk (unhide HK) (by kernel_rfl)⟩
    · as_aux_lemma =>
      simp at ho
      subst ho
      have d0 : l 0 = true := hd ⟨0, .data⟩ (by simp) rfl
      have x0 := (K.e0 d0).symm
      subst x0
      have d2 : l 2 = true := hd ⟨2, .data⟩ (by simp) rfl
      obtain ⟨e1, e2, e3, x2, y2⟩ := K.e2 d2
      subst x2
      have HK0 := hide K
      clear K hd hl
      go_wp2_with (go_at_call 10; rw [unhide HA1]; refine (eqFleet_same nh nc nd _ _ _ _ _ _ _ _ _ _ _ _ _ _ _ ts cs ds _ (unhide HK0).pown y2).mono ?_; rw [← unhide HA1]; rintro e V2 ⟨rfl, b2⟩; have K := (unhide HK0).below b2; have HK : Hid (RvE w w14 nh nc nd a1 a2 a3 l1 c1 l2 c2 l3 c3 ts cs ds X x1 x2 x3 A A1 (l 0) (l 1) (l 2) true (l 4) A1 v1 (.agg #[.slice (some ⟨e1, 0, none⟩) l1 l1, .slice (some ⟨e2, 0, none⟩) l2 l2, .slice (some ⟨e3, 0, none⟩) l3 l3, .int .i64 nh, .int .i64 nc, .int .i64 nd]) (.bool true) v4 V2) := hide ⟨(K.bel), (K.sz), (K.kx), (K.kp), (K.pown), (K.parg), (K.e0), (K.e1), (K.e2), (fun _ => rfl), (K.e4)⟩; clear K b2)
      exact ⟨rfl, RvEJ.mk (unhide HK) (by kernel_rfl)⟩
    · as_aux_lemma =>
      simp at ho
      subst ho
      have d3 : l 3 = true := hd ⟨3, .data⟩ (by simp) rfl
      have x3 := K.e3 d3
      subst x3
      have HK : Hid (RvE w w14 nh nc nd a1 a2 a3 l1 c1 l2 c2 l3 c3 ts cs ds X x1 x2 x3 A A1 (l 0) (l 1) (l 2) (l 3) true v0 v1 v2 (.bool true) (.bool false) V) := hide ⟨(K.bel), (K.sz), (K.kx), (K.kp), (K.pown), (K.parg), (K.e0), (K.e1), (K.e2), (K.e3), (fun _ => rfl)⟩
      clear K hd hl
      go_wp2_with fail
      exact ⟨rfl, RvEJ.mk (unhide HK) (by kernel_rfl)⟩
  rintro l a V14 hall ⟨v0, v1, v2, v3, v4, rfl, K⟩
  have g0 := hall 0 (by decide)
  have g1 := hall 1 (by decide)
  have g2 := hall 2 (by decide)
  have g3 := hall 3 (by decide)
  have g4 := hall 4 (by decide)
  clear hall
  have px0 := (K.e0 g0).symm
  have px1 := (K.e1 g1).symm
  obtain ⟨e1, e2, e3, px2, pp2⟩ := K.e2 g2
  have KX2 := hide pp2
  clear pp2
  have px3 := K.e3 g3
  have px4 := K.e4 g4
  have KBx : Hid (Blk V14 (X) [.slice (some ⟨x1, 0, none⟩) l1 l1, .slice (some ⟨x2, 0, none⟩) l2 l2, .slice (some ⟨x3, 0, none⟩) l3 l3, .int .i64 nh, .int .i64 nc, .int .i64 nd]) := hide K.kx
  have KBp : Hid (Blk V14 (w.heap.size) [.slice a1 l1 c1, .slice a2 l2 c2, .slice a3 l3 c3, .int .i64 nh, .int .i64 nc, .int .i64 nd]) := hide K.kp
  have KPown : Hid (FlIn V14 (some ⟨x1, 0, none⟩) (some ⟨x2, 0, none⟩) (some ⟨x3, 0, none⟩) l1 l2 l3 ts cs ds) := hide K.pown
  have KParg : Hid (FlIn V14 a1 a2 a3 l1 l2 l3 ts cs ds) := hide K.parg
  have KBEL : Hid (Below w14.heap.size w14 V14) := hide K.bel
  have KSZ : Hid (w14.heap.size ≤ V14.heap.size) := hide K.sz
  clear K g0 g1 g2 g3 g4
  subst px0
  subst px1
  subst px2
  subst px3
  subst px4
  have bw := unhide KBEL
  clear OXR HI HREF KBx KBp KPown KParg KX2 KSZ
  have sV14_w14 := bw.size
  have HB := hide ((unhide HB).trans (bw.mono (unhide HB).size))
  have KF := hide ((unhide KF).below bw)
  have O0 := hide ((unhide O0).below bw)
  have T0 := hide ((unhide T0).below bw)
  have KS0 := hide ((unhide KS0).below bw)
  have OX := hide ((unhide OX).below bw)
  have KX := hide ((unhide KX).below bw)
  have OD := hide ((unhide OD).below bw)
  have O1 := hide ((unhide O1).below bw)
  have T1 := hide ((unhide T1).below bw)
  have KS1 := hide ((unhide KS1).below bw)
  clear bw
  clear KBEL
  go_wp2_with fail
  refine (toDeed19S_own ad len cap es _ ((unhide RD).below (unhide HB)) hlen).mono ?_
  rintro e w15 ⟨rfl, oq, bw⟩
  have OQ := hide oq.row
  clear oq
  have sw15_V14 := bw.size
  have HB := hide ((unhide HB).trans (bw.mono (unhide HB).size))
  have KF := hide ((unhide KF).below bw)
  have O0 := hide ((unhide O0).below bw)
  have T0 := hide ((unhide T0).below bw)
  have KS0 := hide ((unhide KS0).below bw)
  have OX := hide ((unhide OX).below bw)
  have KX := hide ((unhide KX).below bw)
  have OD := hide ((unhide OD).below bw)
  have O1 := hide ((unhide O1).below bw)
  have T1 := hide ((unhide T1).below bw)
  have KS1 := hide ((unhide KS1).below bw)
  clear bw
  go_wp2_with fail
  refine (eqDeed19S_same _ _ _ _ _ _ es _ (unhide OD).row (unhide OQ)).mono ?_
  rintro e w16 ⟨rfl, bw⟩
  clear OQ
  have sw16_w15 := bw.size
  have HB := hide ((unhide HB).trans (bw.mono (unhide HB).size))
  have KF := hide ((unhide KF).below bw)
  have O0 := hide ((unhide O0).below bw)
  have T0 := hide ((unhide T0).below bw)
  have KS0 := hide ((unhide KS0).below bw)
  have OX := hide ((unhide OX).below bw)
  have KX := hide ((unhide KX).below bw)
  have OD := hide ((unhide OD).below bw)
  have O1 := hide ((unhide O1).below bw)
  have T1 := hide ((unhide T1).below bw)
  have KS1 := hide ((unhide KS1).below bw)
  clear bw
  go_wp2_with ((with_reducible show wpList _ _ _ (⟨_, .load 37 _, _, _, _, none⟩ :: _) _ _); refine at_loadV (vs := [.slice (some ⟨x1, 0, none⟩) l1 l1, .slice (some ⟨x2, 0, none⟩) l2 l2, .slice (some ⟨x3, 0, none⟩) l3 l3, .int .i64 nh, .int .i64 nc, .int .i64 nd]) (V := A1) (unhide HA1) Tryz.isAgg37 Tryz.sizeOf37 rfl (unhide KX) ?_)
  rw [unhide HA1]
  refine (markFleet_aps nh nc nd _ _ _ _ _ _ _ _ _ _ ts cs ds 1 _ (unhide OX) (unhide EL).1 i1 (unhide EL).2.1 i2 (unhide EL).2.2.1 i3 (by omega) (by omega)).mono ?_
  rw [← unhide HA1]
  rintro e w17 ⟨rfl, om, on⟩
  obtain ⟨M, hM⟩ : ∃ M, (1 + 7 * (l1 : Int) + 3 * (l2 : Int) + 3 * (l3 : Int)) = M := ⟨_, rfl⟩
  have nM : 1 ≤ M ∧ M ≤ 20000000 := by omega
  rw [hM]
  clear hM om
  have sw17_w16 := on.size
  have HB := hide (below_aps (unhide HB) on (fun k hk => by have qs := (unhide LX) k hk; omega) (Nat.le_refl _))
  have KF := hide ((unhide KF).aps on (fun e => by have qs := (unhide LX) _ e; omega))
  have O0 := hide ((unhide O0).aps on (fun i hi e => by have a := (unhide L0) i hi; have qs := (unhide LX) i e; omega))
  have T0 := hide ((unhide T0).aps on (fun g hg e => by have e1 : gt0 = g := Option.some.inj hg; have qs := (unhide LX) g e; omega))
  have KS0 := hide ((unhide KS0).aps on (fun e => by have qs := (unhide LX) _ e; omega))
  have KX := hide ((unhide KX).aps on (fun e => by have qs := (unhide LX) _ e; omega))
  have OD := hide ((unhide OD).aps on (fun g hg e => by have e1 : D1 = g := Option.some.inj hg; have qs := (unhide LX) g e; omega))
  have O1 := hide ((unhide O1).aps on (fun i hi e => by have a := (unhide L1) i hi; have qs := (unhide LX) i e; omega))
  have T1 := hide ((unhide T1).aps on (fun g hg e => by have e1 : gt1 = g := Option.some.inj hg; have qs := (unhide LX) g e; omega))
  have KS1 := hide ((unhide KS1).aps on (fun e => by have qs := (unhide LX) _ e; omega))
  clear on OX KX
  go_wp2_with fail
  refine (markDeed19S_any _ _ _ _ es M _ (unhide OD) (unhide EL).2.2.2 hlen (by omega) (by omega)).mono ?_
  rintro e w18 ⟨rfl, om, gr⟩
  obtain ⟨M2, hM2⟩ : ∃ m, M + 4 * (len : Int) = m := ⟨_, rfl⟩
  have nM2 : ¬ M2 < 0 := by omega
  rw [hM2]
  clear hM2 om
  have on := Aps.of_row (S := fun k => k = D1) gr (fun k hk => (Option.some.inj hk).symm)
  have sw18_w17 := on.size
  have HB := hide (below_aps (unhide HB) on (fun k hk => by have qs := hk; omega) (Nat.le_refl _))
  have KF := hide ((unhide KF).aps on (fun e => by have qs := e; omega))
  have O0 := hide ((unhide O0).aps on (fun i hi e => by have a := (unhide L0) i hi; have qs := e; omega))
  have T0 := hide ((unhide T0).aps on (fun g hg e => by have e1 : gt0 = g := Option.some.inj hg; have qs := e; omega))
  have KS0 := hide ((unhide KS0).aps on (fun e => by have qs := e; omega))
  have O1 := hide ((unhide O1).aps on (fun i hi e => by have a := (unhide L1) i hi; have qs := e; omega))
  have T1 := hide ((unhide T1).aps on (fun g hg e => by have e1 : gt1 = g := Option.some.inj hg; have qs := e; omega))
  have KS1 := hide ((unhide KS1).aps on (fun e => by have qs := e; omega))
  clear on gr OD
  have m00 : w18.cell? ⟨S0, 0, none⟩ = some (.slice (some ⟨g01, 0, none⟩) f'.ts.length p01) := (unhide KS0).c 0 (by simp)
  have m01 : w18.cell? ⟨S0, 1, none⟩ = some (.slice (some ⟨g02, 0, none⟩) f'.cs.length p02) := (unhide KS0).c 1 (by simp)
  have m02 : w18.cell? ⟨S0, 2, none⟩ = some (.slice (some ⟨g03, 0, none⟩) f'.ds.length p03) := (unhide KS0).c 2 (by simp)
  have m03 : w18.cell? ⟨S0, 3, none⟩ = some (.int .i64 f'.nh) := (unhide KS0).c 3 (by simp)
  have m04 : w18.cell? ⟨S0, 4, none⟩ = some (.int .i64 f'.nc) := (unhide KS0).c 4 (by simp)
  have m05 : w18.cell? ⟨S0, 5, none⟩ = some (.int .i64 f'.nd) := (unhide KS0).c 5 (by simp)
  have m10 : w18.cell? ⟨S1, 0, none⟩ = some (.slice (some ⟨g11, 0, none⟩) f'.ts.length p11) := (unhide KS1).c 0 (by simp)
  have m11 : w18.cell? ⟨S1, 1, none⟩ = some (.slice (some ⟨g12, 0, none⟩) f'.cs.length p12) := (unhide KS1).c 1 (by simp)
  have m12 : w18.cell? ⟨S1, 2, none⟩ = some (.slice (some ⟨g13, 0, none⟩) f'.ds.length p13) := (unhide KS1).c 2 (by simp)
  have m13 : w18.cell? ⟨S1, 3, none⟩ = some (.int .i64 f'.nh) := (unhide KS1).c 3 (by simp)
  have m14 : w18.cell? ⟨S1, 4, none⟩ = some (.int .i64 f'.nc) := (unhide KS1).c 4 (by simp)
  have m15 : w18.cell? ⟨S1, 5, none⟩ = some (.int .i64 f'.nd) := (unhide KS1).c 5 (by simp)
  go_wp2_with fail
  clear m00 m01 m02 m03 m04 m05 m10 m11 m12 m13 m14 m15
  refine (eqFleet_same f'.nh f'.nc f'.nd _ _ _ _ _ _ _ _ _ _ _ _ _ _ _ f'.ts f'.cs f'.ds _ (unhide O1).read (unhide O0).read).mono ?_
  rintro e w19 ⟨rfl, bw⟩
  have sw19_w18 := bw.size
  have HB := hide ((unhide HB).trans (bw.mono (unhide HB).size))
  have KF := hide ((unhide KF).below bw)
  have O0 := hide ((unhide O0).below bw)
  have T0 := hide ((unhide T0).below bw)
  have KS0 := hide ((unhide KS0).below bw)
  have O1 := hide ((unhide O1).below bw)
  have T1 := hide ((unhide T1).below bw)
  have KS1 := hide ((unhide KS1).below bw)
  clear bw
  go_wp2_with fail
  refine (eqBoolS_same _ _ _ _ _ _ T' _ (unhide T1).row (unhide T0).row).mono ?_
  rintro e w20 ⟨rfl, bw⟩
  have sw20_w19 := bw.size
  have HB := hide ((unhide HB).trans (bw.mono (unhide HB).size))
  have KF := hide ((unhide KF).below bw)
  have O0 := hide ((unhide O0).below bw)
  have T0 := hide ((unhide T0).below bw)
  have KS0 := hide ((unhide KS0).below bw)
  have O1 := hide ((unhide O1).below bw)
  have T1 := hide ((unhide T1).below bw)
  have KS1 := hide ((unhide KS1).below bw)
  clear bw
  go_wp2_with ((with_reducible show wpList _ _ _ (⟨_, .load 37 (.tmp 10), _, _, _, none⟩ :: _) _ _); refine at_loadV (vs := [.slice (some ⟨g11, 0, none⟩) f'.ts.length p11, .slice (some ⟨g12, 0, none⟩) f'.cs.length p12, .slice (some ⟨g13, 0, none⟩) f'.ds.length p13, .int .i64 f'.nh, .int .i64 f'.nc, .int .i64 f'.nd]) (V := F1) (unhide HF1) Tryz.isAgg37 Tryz.sizeOf37 rfl (unhide KS1) ?_)
  rw [unhide HF1]
  refine (markFleet_aps f'.nh f'.nc f'.nd _ _ _ _ _ _ _ _ _ _ f'.ts f'.cs f'.ds 1 _ (unhide O1) rfl (unhide LEM).1 rfl (unhide LEM).2.1 rfl (unhide LEM).2.2 (by omega) (by omega)).mono ?_
  rw [← unhide HF1]
  rintro e w21 ⟨rfl, om, on⟩
  have sw21_w20 := on.size
  have HB := hide (below_aps (unhide HB) on (fun k hk => by have qs := (unhide L1) k hk; omega) (Nat.le_refl _))
  have KF := hide ((unhide KF).aps on (fun e => by have qs := (unhide L1) _ e; omega))
  have O0 := hide ((unhide O0).aps on (fun i hi e => by have a := (unhide L0) i hi; have qs := (unhide L1) i e; omega))
  have T0 := hide ((unhide T0).aps on (fun g hg e => by have e1 : gt0 = g := Option.some.inj hg; have qs := (unhide L1) g e; omega))
  have KS0 := hide ((unhide KS0).aps on (fun e => by have qs := (unhide L1) _ e; omega))
  have T1 := hide ((unhide T1).aps on (fun g hg e => (unhide NT1) (by have e1 : gt1 = g := Option.some.inj hg; rw [e1]; exact e)))
  have KS1 := hide ((unhide KS1).aps on (fun e => by have qs := (unhide L1) _ e; omega))
  have O1 := hide om
  clear om on
  obtain ⟨M3, hM3⟩ : ∃ m, (1 + 7 * (f'.ts.length : Int) + 3 * (f'.cs.length : Int) + 3 * (f'.ds.length : Int)) = m := ⟨_, rfl⟩
  have bM3 : 1 ≤ M3 ∧ M3 ≤ 20000000 := by have q := unhide LEM; omega
  rw [hM3]
  have HM3 := hide hM3
  clear hM3
  go_wp2_with fail
  refine (markBoolS_any _ _ _ _ T' M3 _ (unhide T1) rfl (by have q := unhide HTL; omega) (by omega) (by omega)).mono ?_
  rintro e w22 ⟨rfl, om, gr⟩
  have on := Aps.of_row (S := fun k => k = gt1) gr (fun k hk => (Option.some.inj hk).symm)
  have sw22_w21 := on.size
  have HB := hide (below_aps (unhide HB) on (fun k hk => by have qs := hk; omega) (Nat.le_refl _))
  have KF := hide ((unhide KF).aps on (fun e => by have qs := e; omega))
  have O0 := hide ((unhide O0).aps on (fun i hi e => by have a := (unhide L0) i hi; have qs := e; omega))
  have T0 := hide ((unhide T0).aps on (fun g hg e => by have e1 : gt0 = g := Option.some.inj hg; have qs := e; omega))
  have KS0 := hide ((unhide KS0).aps on (fun e => by have qs := e; omega))
  have O1 := hide ((unhide O1).aps on (fun i hi e => (unhide NT1) (by have e : i = gt1 := e; rw [← e]; exact hi)))
  have KS1 := hide ((unhide KS1).aps on (fun e => by have qs := e; omega))
  have T1 := hide om
  clear om on gr
  obtain ⟨M4, hM4⟩ : ∃ m, M3 + (T'.length : Int) = m := ⟨_, rfl⟩
  have nM4 : ¬ M4 < 0 := by omega
  have nM3 : ¬ M3 < 0 := by omega
  have hq2 : (M4 != M4) = false := by simp
  rw [hM4]
  have HM4 := hide hM4
  clear hM4
  go_wp2_with ((with_reducible show wpList _ _ _ (⟨_, .load 37 (.tmp 10), _, _, _, none⟩ :: _) _ _); refine at_loadV (vs := [.slice (some ⟨g11, 0, none⟩) f'.ts.length p11, .slice (some ⟨g12, 0, none⟩) f'.cs.length p12, .slice (some ⟨g13, 0, none⟩) f'.ds.length p13, .int .i64 f'.nh, .int .i64 f'.nc, .int .i64 f'.nd]) (V := F1) (unhide HF1) Tryz.isAgg37 Tryz.sizeOf37 rfl (unhide KS1) ?_)
  rw [unhide HF1]
  refine (heldFleet_any f'.nh f'.nc f'.nd _ _ _ _ _ _ _ _ _ _ f'.ts f'.cs f'.ds 1 _ (unhide O1) rfl (unhide LEM).1 rfl (unhide LEM).2.1 rfl (unhide LEM).2.2 (by omega) (by omega)).mono ?_
  rw [← unhide HF1]
  rintro e w23 ⟨rfl, bw⟩
  rw [unhide HM3]
  have sw23_w22 := bw.size
  have HB := hide ((unhide HB).trans (bw.mono (unhide HB).size))
  have KF := hide ((unhide KF).below bw)
  have O0 := hide ((unhide O0).below bw)
  have T0 := hide ((unhide T0).below bw)
  have KS0 := hide ((unhide KS0).below bw)
  have O1 := hide ((unhide O1).below bw)
  have T1 := hide ((unhide T1).below bw)
  have KS1 := hide ((unhide KS1).below bw)
  clear bw
  go_wp2_with fail
  refine (heldBoolS_any _ _ _ _ T' M3 _ (unhide T1) rfl (by have q := unhide HTL; omega) (by omega) (by omega)).mono ?_
  rintro e w' ⟨rfl, hw⟩
  subst w'
  rw [unhide HM4]
  go_wp2_with ((with_reducible show wpList _ _ _ (⟨_, .load 28 _, _, _, _, none⟩ :: _) _ _); refine at_loadV (vs := [.slice a1 l1 c1, .slice a2 l2 c2, .slice a3 l3 c3, .int .i64 nh, .int .i64 nc, .int .i64 nd]) (V := A) (unhide HA) Tryz.isAgg28 Tryz.sizeOf28 rfl (unhide KF) ?_)
  rw [unhide HA]
  refine (toFleet_own nh nc nd a1 a2 a3 l1 c1 l2 c2 l3 c3 ts cs ds _ ((unhide HR).below (unhide HB)) i1 i2 i3).mono ?_
  rw [← unhide HA]
  rintro e w24 ⟨⟨e1, e2, e3, rfl, ow⟩, bw⟩
  have OE := hide ow.read
  clear ow
  have sw24_w23 := bw.size
  have HB := hide ((unhide HB).trans (bw.mono (unhide HB).size))
  have KF := hide ((unhide KF).below bw)
  have O0 := hide ((unhide O0).below bw)
  have T0 := hide ((unhide T0).below bw)
  have KS0 := hide ((unhide KS0).below bw)
  have O1 := hide ((unhide O1).below bw)
  have T1 := hide ((unhide T1).below bw)
  have KS1 := hide ((unhide KS1).below bw)
  clear bw
  go_wp2_with fail
  refine (toDeed19S_own ad len cap es _ ((unhide RD).below (unhide HB)) hlen).mono ?_
  rintro e w25 ⟨rfl, oq, bw⟩
  obtain ⟨q0, hq0⟩ : ∃ q, w24.heap.size = q := ⟨_, rfl⟩
  rw [hq0] at oq ⊢
  have OQ := hide oq.row
  clear oq hq0
  have sw25_w24 := bw.size
  have HB := hide ((unhide HB).trans (bw.mono (unhide HB).size))
  have KF := hide ((unhide KF).below bw)
  have O0 := hide ((unhide O0).below bw)
  have T0 := hide ((unhide T0).below bw)
  have KS0 := hide ((unhide KS0).below bw)
  have O1 := hide ((unhide O1).below bw)
  have T1 := hide ((unhide T1).below bw)
  have KS1 := hide ((unhide KS1).below bw)
  have OE := hide ((unhide OE).below bw)
  clear bw
  go_wp2_with fail
  refine ((unhide CWI) _ e1 e2 e3 q0 (unhide OE) (unhide OQ)).mono ?_
  rintro e w26 ⟨g21, p21, g22, p22, g23, p23, gt2, ct2, rfl, ow, tw, bw⟩
  obtain ⟨F2, hF⟩ : ∃ A : Value, A = .agg #[.slice (some ⟨g21, 0, none⟩) f'.ts.length p21, .slice (some ⟨g22, 0, none⟩) f'.cs.length p22, .slice (some ⟨g23, 0, none⟩) f'.ds.length p23, .int .i64 f'.nh, .int .i64 f'.nc, .int .i64 f'.nd] := ⟨_, rfl⟩
  rw [← hF]
  have HF2 := hide hF
  clear hF
  have L2 : Hid (∀ k, flS (some ⟨g21, 0, none⟩) (some ⟨g22, 0, none⟩) (some ⟨g23, 0, none⟩) f'.ts.length p21 f'.cs.length p22 f'.ds.length p23 k → w25.heap.size ≤ k ∧ k < w26.heap.size) := hide (fun k hk => ow.in_ hk)
  have lo2 := (tw.lies gt2 rfl).1
  have hi2 := (tw.lies gt2 rfl).2
  have O2 := hide ow
  have T2 := hide tw
  clear ow tw
  have sw26_w25 := bw.size
  have HB := hide ((unhide HB).trans (bw.mono (unhide HB).size))
  have KF := hide ((unhide KF).below bw)
  have O0 := hide ((unhide O0).below bw)
  have T0 := hide ((unhide T0).below bw)
  have KS0 := hide ((unhide KS0).below bw)
  have O1 := hide ((unhide O1).below bw)
  have T1 := hide ((unhide T1).below bw)
  have KS1 := hide ((unhide KS1).below bw)
  have OE := hide ((unhide OE).below bw)
  have OQ := hide ((unhide OQ).below bw)
  clear bw
  clear OE OQ CWI
  obtain ⟨S2, hX⟩ : ∃ X, w26.heap.size = X := ⟨_, rfl⟩
  have leS2 : w26.heap.size ≤ S2 := by omega
  have geS2 : S2 ≤ w26.heap.size := by omega
  obtain ⟨zw27, hz⟩ : ∃ V, V = w26.alloc (Obj.cells #[.slice none 0 0, .slice none 0 0, .slice none 0 0, .int .i64 0, .int .i64 0, .int .i64 0] 37) := ⟨_, rfl⟩
  have bw : Below w26.heap.size w26 zw27 := by rw [hz]; exact bel1 _
  have KS2 : Hid (Blk zw27 S2 [.slice none 0 0, .slice none 0 0, .slice none 0 0, .int .i64 0, .int .i64 0, .int .i64 0]) := hide (by rw [hz, ← hX]; exact Blk.new _ _)
  have szw27_w26 := bw.size
  have HB := hide ((unhide HB).trans (bw.mono (unhide HB).size))
  have KF := hide ((unhide KF).below bw)
  have O0 := hide ((unhide O0).below bw)
  have T0 := hide ((unhide T0).below bw)
  have KS0 := hide ((unhide KS0).below bw)
  have O1 := hide ((unhide O1).below bw)
  have T1 := hide ((unhide T1).below bw)
  have KS1 := hide ((unhide KS1).below bw)
  have O2 := hide ((unhide O2).below bw)
  have T2 := hide ((unhide T2).below bw)
  clear bw
  have HZ := hide hz
  have HX := hide hX
  clear hz hX
  go_upto_region 36 with ((with_reducible show wpList _ _ _ (⟨none, .store 37 (.tmp 15) _, _, _, _, none⟩ :: _) _ _); rw [← unhide HZ, unhide HX]; refine at_storeAgg (us := [.slice none 0 0, .slice none 0 0, .slice none 0 0, .int .i64 0, .int .i64 0, .int .i64 0]) (vs := [.slice (some ⟨g21, 0, none⟩) f'.ts.length p21, .slice (some ⟨g22, 0, none⟩) f'.cs.length p22, .slice (some ⟨g23, 0, none⟩) f'.ds.length p23, .int .i64 f'.nh, .int .i64 f'.nc, .int .i64 f'.nd]) Tryz.sizeOf37 rfl (unhide HF2) (unhide KS2) rfl (by intro v hv; simp only [List.mem_cons, List.not_mem_nil, or_false] at hv; rcases hv with rfl | rfl | rfl | rfl | rfl | rfl <;> rfl) ?_; intro w27 kb gr)
  have on := Aps.of_row (S := fun k => k = S2) gr (fun k hk => (Option.some.inj hk).symm)
  have ltS2 : S2 < w27.heap.size := kb.lt
  have sw27_zw27 := on.size
  have HB := hide (below_aps (unhide HB) on (fun k hk => by have qs := hk; omega) (Nat.le_refl _))
  have KF := hide ((unhide KF).aps on (fun e => by have qs := e; omega))
  have O0 := hide ((unhide O0).aps on (fun i hi e => by have a := (unhide L0) i hi; have qs := e; omega))
  have T0 := hide ((unhide T0).aps on (fun g hg e => by have e1 : gt0 = g := Option.some.inj hg; have qs := e; omega))
  have KS0 := hide ((unhide KS0).aps on (fun e => by have qs := e; omega))
  have O1 := hide ((unhide O1).aps on (fun i hi e => by have a := (unhide L1) i hi; have qs := e; omega))
  have T1 := hide ((unhide T1).aps on (fun g hg e => by have e1 : gt1 = g := Option.some.inj hg; have qs := e; omega))
  have KS1 := hide ((unhide KS1).aps on (fun e => by have qs := e; omega))
  have O2 := hide ((unhide O2).aps on (fun i hi e => by have a := (unhide L2) i hi; have qs := e; omega))
  have T2 := hide ((unhide T2).aps on (fun g hg e => by have e1 : gt2 = g := Option.some.inj hg; have qs := e; omega))
  have KS2 := hide kb
  clear kb gr on HZ HX
  go_wp2_with (first
    | ((with_reducible show wpList _ _ _ (⟨_, .load 37 (.tmp 15), _, _, _, none⟩ :: _) _ _); refine at_loadV (vs := [.slice (some ⟨g21, 0, none⟩) f'.ts.length p21, .slice (some ⟨g22, 0, none⟩) f'.cs.length p22, .slice (some ⟨g23, 0, none⟩) f'.ds.length p23, .int .i64 f'.nh, .int .i64 f'.nc, .int .i64 f'.nd]) (V := F2) (unhide HF2) Tryz.isAgg37 Tryz.sizeOf37 rfl (unhide KS2) ?_)
    | ((with_reducible show wpList _ _ _ (⟨_, .load 37 (.tmp 6), _, _, _, none⟩ :: _) _ _); refine at_loadV (vs := [.slice (some ⟨g01, 0, none⟩) f'.ts.length p01, .slice (some ⟨g02, 0, none⟩) f'.cs.length p02, .slice (some ⟨g03, 0, none⟩) f'.ds.length p03, .int .i64 f'.nh, .int .i64 f'.nc, .int .i64 f'.nd]) (V := F0) (unhide HF0) Tryz.isAgg37 Tryz.sizeOf37 rfl (unhide KS0) ?_))
  rw [unhide HF2, unhide HF0]
  refine (eqFleet_same f'.nh f'.nc f'.nd _ _ _ _ _ _ _ _ _ _ _ _ _ _ _ f'.ts f'.cs f'.ds _ (unhide O2).read (unhide O0).read).mono ?_
  rw [← unhide HF2, ← unhide HF0]
  rintro e w28 ⟨rfl, bw⟩
  have sw28_w27 := bw.size
  have HB := hide ((unhide HB).trans (bw.mono (unhide HB).size))
  have KF := hide ((unhide KF).below bw)
  have O0 := hide ((unhide O0).below bw)
  have T0 := hide ((unhide T0).below bw)
  have KS0 := hide ((unhide KS0).below bw)
  have O1 := hide ((unhide O1).below bw)
  have T1 := hide ((unhide T1).below bw)
  have KS1 := hide ((unhide KS1).below bw)
  have O2 := hide ((unhide O2).below bw)
  have T2 := hide ((unhide T2).below bw)
  have KS2 := hide ((unhide KS2).below bw)
  clear bw
  go_wp2_with fail
  refine (eqBoolS_same _ _ _ _ _ _ T' _ (unhide T2).row (unhide T0).row).mono ?_
  rintro e w29 ⟨rfl, bw⟩
  have sw29_w28 := bw.size
  have HB := hide ((unhide HB).trans (bw.mono (unhide HB).size))
  have KF := hide ((unhide KF).below bw)
  have O0 := hide ((unhide O0).below bw)
  have T0 := hide ((unhide T0).below bw)
  have KS0 := hide ((unhide KS0).below bw)
  have O1 := hide ((unhide O1).below bw)
  have T1 := hide ((unhide T1).below bw)
  have KS1 := hide ((unhide KS1).below bw)
  have O2 := hide ((unhide O2).below bw)
  have T2 := hide ((unhide T2).below bw)
  have KS2 := hide ((unhide KS2).below bw)
  clear bw
  go_wp2_with ((with_reducible show wpList _ _ _ (⟨_, .load 37 (.tmp 10), _, _, _, none⟩ :: _) _ _); refine at_loadV (vs := [.slice (some ⟨g11, 0, none⟩) f'.ts.length p11, .slice (some ⟨g12, 0, none⟩) f'.cs.length p12, .slice (some ⟨g13, 0, none⟩) f'.ds.length p13, .int .i64 f'.nh, .int .i64 f'.nc, .int .i64 f'.nd]) (V := F1) (unhide HF1) Tryz.isAgg37 Tryz.sizeOf37 rfl (unhide KS1) ?_)
  rw [unhide HF1]
  refine (heldFleet_any f'.nh f'.nc f'.nd _ _ _ _ _ _ _ _ _ _ f'.ts f'.cs f'.ds 1 _ (unhide O1) rfl (unhide LEM).1 rfl (unhide LEM).2.1 rfl (unhide LEM).2.2 (by omega) (by omega)).mono ?_
  rw [← unhide HF1]
  rintro e w30 ⟨rfl, bw⟩
  rw [unhide HM3]
  have sw30_w29 := bw.size
  have HB := hide ((unhide HB).trans (bw.mono (unhide HB).size))
  have KF := hide ((unhide KF).below bw)
  have O0 := hide ((unhide O0).below bw)
  have T0 := hide ((unhide T0).below bw)
  have KS0 := hide ((unhide KS0).below bw)
  have O1 := hide ((unhide O1).below bw)
  have T1 := hide ((unhide T1).below bw)
  have KS1 := hide ((unhide KS1).below bw)
  have O2 := hide ((unhide O2).below bw)
  have T2 := hide ((unhide T2).below bw)
  have KS2 := hide ((unhide KS2).below bw)
  clear bw
  go_wp2_with fail
  refine (heldBoolS_any _ _ _ _ T' M3 _ (unhide T1) rfl (by have q := unhide HTL; omega) (by omega) (by omega)).mono ?_
  rintro e w' ⟨rfl, hw⟩
  subst w'
  rw [unhide HM4]
  go_wp2_with fail
  go_ret
  exact ⟨rfl, unhide HB⟩

end Go.Proofs.YticdccdkjepifaaGreat

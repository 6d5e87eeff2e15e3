/-
  The program's RunWork, whole: deeds one behind the other on a hangar of its own, what they told in a list of its own. The fleet's and the deeds' texts can be there, its lists are no longer than memory.
-/
import Derived.Test.YticdccdkjepifaaGreatHgRun
import Derived.Test.YticdccdkjepifaaGreatRowBo
import Derived.Test.YticdccdkjepifaaGreatMMarkI
namespace Go.Proofs.YticdccdkjepifaaGreat
open Go Go.RowKit

/-- What RunWork tells: the fleet's lists and the list of what was told, each in memory of its own. -/
def RwE (w : World) (f : Fl) (T : List Bool) (e : Ending) (w' : World) : Prop := ∃ g1 p1 g2 p2 g3 p3 gt ct : Nat, e = .returned (.tuple #[.agg #[.slice (some ⟨g1, 0, none⟩) f.ts.length p1, .slice (some ⟨g2, 0, none⟩) f.cs.length p2, .slice (some ⟨g3, 0, none⟩) f.ds.length p3, .int .i64 f.nh, .int .i64 f.nc, .int .i64 f.nd], .slice (some ⟨gt, 0, none⟩) T.length ct]) ∧ FlOwn w' w.heap.size (some ⟨g1, 0, none⟩) (some ⟨g2, 0, none⟩) (some ⟨g3, 0, none⟩) f.ts.length p1 f.cs.length p2 f.ds.length p3 f.ts f.cs f.ds ∧ OwnE 1 boC w' w.heap.size 4 (.slice (some ⟨gt, 0, none⟩) T.length ct) T ∧ Below w.heap.size w w'
theorem Hg.grow {w w' : World} {base G : Nat} {m : Int} {a1 a2 a3 : Option Addr} {c1 c2 c3 : Nat} {ts : List Ts} {cs : List Cr} {ds : List Df} {nh nc nd : Int} {row : Option Nat} (h : Hg w base G m a1 a2 a3 c1 c2 c3 ts cs ds nh nc nd) (gr : w.grownBy w' row) (h0 : some G ≠ row)
    (h1 : ∀ g, (Value.slice a1 ts.length c1).ownBlock = some g → some g ≠ row) (h2 : ∀ g, (Value.slice a2 cs.length c2).ownBlock = some g → some g ≠ row) (h3 : ∀ g, (Value.slice a3 ds.length c3).ownBlock = some g → some g ≠ row) : Hg w' base G m a1 a2 a3 c1 c2 c3 ts cs ds nh nc nd :=
  ⟨h.blk.apart gr h0, ⟨h.own.o1.far gr h1, h.own.o2.far gr h2, h.own.o3.far gr h3, h.own.p12, h.own.p13, h.own.p23⟩, h.low, h.n1, h.n2, h.n3, h.s3⟩
/-- What there is between two deeds: the hangar, what was told, the result's block. -/
structure RwS (w : World) (base G R : Nat) (f : Fl) (T : List Bool) (gt k ct : Nat) (W : World) : Prop where
  hg : HgE W base G 0 f
  told : OwnE 1 boC W w.heap.size 4 (.slice (some ⟨gt, 0, none⟩) k ct) T
  len : T.length = k
  ng : gt ≠ G
  nr : gt ≠ R
  kr : Blk W R [.slice none 0 0, .slice none 0 0, .slice none 0 0, .int .i64 0, .int .i64 0, .int .i64 0]
  bel : Below w.heap.size w W
  rb : R < base
theorem RwS.below {w : World} {base G R : Nat} {f : Fl} {T : List Bool} {gt k ct : Nat} {W W' : World} (h : RwS w base G R f T gt k ct W) (b : Below W.heap.size W W') : RwS w base G R f T gt k ct W' := by
  obtain ⟨a1, a2, a3, c1, c2, c3, hh⟩ := h.hg
  exact ⟨⟨a1, a2, a3, c1, c2, c3, hh.below b⟩, h.told.below b, h.len, h.ng, h.nr, h.kr.below b, h.bel.trans (b.mono h.bel.size), h.rb⟩
/-- The hangar's own blocks turn: all else stays. -/
theorem RwS.keep {w : World} {base G R : Nat} {f : Fl} {T : List Bool} {gt k ct : Nat} {W W' : World} {a1 a2 a3 : Option Addr} {c1 c2 c3 : Nat} (h : RwS w base G R f T gt k ct W) (hh : Hg W base G 0 a1 a2 a3 c1 c2 c3 f.ts f.cs f.ds f.nh f.nc f.nd) (ap : Aps (hz G a1 a2 a3) W W') (hb : w.heap.size ≤ base) :
    OwnE 1 boC W' w.heap.size 4 (.slice (some ⟨gt, 0, none⟩) k ct) T ∧ Blk W' R [.slice none 0 0, .slice none 0 0, .slice none 0 0, .int .i64 0, .int .i64 0, .int .i64 0] ∧ Below w.heap.size w W' := by
  have nT : ¬ hz G a1 a2 a3 gt := by
    rintro (e | e | e | e)
    · exact h.ng e
    · exact own_ne hh.own.o1 h.told (by decide) _ ((own_len _ _ _ _ _).trans e) rfl
    · exact own_ne hh.own.o2 h.told (by decide) _ ((own_len _ _ _ _ _).trans e) rfl
    · exact own_ne hh.own.o3 h.told (by decide) _ ((own_len _ _ _ _ _).trans e) rfl
  have nR : ¬ hz G a1 a2 a3 R := fun e => by have e1 := hh.hz_low R e; have e2 := h.rb; omega
  exact ⟨h.told.aps ap (fun g hg e => by have e1 : gt = g := Option.some.inj hg; subst e1; exact nT e), h.kr.aps ap nR, h.bel.trans (ap.below (fun b hb' => Nat.le_trans hb (hh.hz_low b hb')) h.bel.size)⟩
theorem RwS.done {w : World} {base G R : Nat} {f f' : Fl} {T : List Bool} {gt k ct : Nat} {W W' : World} {a1 a2 a3 : Option Addr} {c1 c2 c3 : Nat} (h : RwS w base G R f T gt k ct W) (hh : Hg W base G 0 a1 a2 a3 c1 c2 c3 f.ts f.cs f.ds f.nh f.nc f.nd) (h' : HgE W' base G 0 f') (ap : Aps (hz G a1 a2 a3) W W') (hb : w.heap.size ≤ base) : RwS w base G R f' T gt k ct W' := by
  obtain ⟨q1, q2, q3⟩ := h.keep hh ap hb
  exact ⟨h', q1, h.len, h.ng, h.nr, q2, q3, h.rb⟩
/-- One more told. -/
theorem RwS.push {w : World} {base G R : Nat} {f : Fl} {T : List Bool} {gt k ct : Nat} {W W' : World} {x : Bool} {g9 c9 : Nat} (h : RwS w base G R f T gt k ct W) (o9 : OwnE 1 boC W' w.heap.size 4 (.slice (some ⟨g9, 0, none⟩) (k + 1) c9) (T ++ [x])) (gr : W.grownBy W' (some gt)) (hg9 : some gt = some g9 ∨ W.heap.size < g9) : RwS w base G R f (T ++ [x]) g9 (k + 1) c9 W' := by
  obtain ⟨a1, a2, a3, c1, c2, c3, hh⟩ := h.hg
  have hG := hh.blk.lt
  have hR := h.kr.lt
  have n1 := h.ng
  have n2 := h.nr
  have hl := (h.told.lies gt rfl).1
  have q1 := own_ne hh.own.o1 h.told (by decide)
  have q2 := own_ne hh.own.o2 h.told (by decide)
  have q3 := own_ne hh.own.o3 h.told (by decide)
  have x1 : ∀ {p : Nat}, some p = some gt → (Value.slice (some ⟨gt, 0, none⟩) k ct).ownBlock = some p := fun e => by rw [e]; rfl
  refine ⟨⟨a1, a2, a3, c1, c2, c3, hh.grow gr (fun e => n1 (Option.some.inj e).symm) (fun p hp e => q1 p hp (x1 e)) (fun p hp e => q2 p hp (x1 e)) (fun p hp e => q3 p hp (x1 e))⟩, o9, by simp [h.len], ?_, ?_, h.kr.apart gr (fun e => n2 (Option.some.inj e).symm), h.bel.grown gr h.bel.size (fun q hq => by have e : gt = q := Option.some.inj hq; omega), h.rb⟩
  · rcases hg9 with e | e
    · have e : gt = g9 := Option.some.inj e
      omega
    · omega
  · rcases hg9 with e | e
    · have e : gt = g9 := Option.some.inj e
      omega
    · omega
theorem fit_mem {α : Type} [Inhabited α] {key : α → ByteArray} {xs : List α} (h : ∀ i, fitT (key (elAt xs i))) : ∀ x ∈ xs, fitT (key x) := fun x hx => by
  obtain ⟨i, hi, e⟩ := List.getElem_of_mem hx
  have q := h i
  unfold elAt at q
  rw [List.getElem?_eq_getElem hi, e] at q
  exact q
theorem fit_of {α : Type} [Inhabited α] {key : α → ByteArray} {xs : List α} (h : ∀ x ∈ xs, fitT (key x)) (hd : fitT (key default)) : ∀ i, fitT (key (elAt xs i)) := fun i => by
  unfold elAt
  rcases Nat.lt_or_ge i xs.length with hi | hi
  · rw [List.getElem?_eq_getElem hi]; exact h _ (List.getElem_mem hi)
  · rw [List.getElem?_eq_none hi]; exact hd
theorem dw_fit {f : Fl} {d : De} (hf : FitF f) (hn : fitT d.n) : FitF (dwF f d) := by
  have t := fit_mem (key := fun x : Ts => x.nm) hf.t
  have s := fit_mem (key := fun x : Df => x.n) hf.d
  have e0 : fitT (⟨#[]⟩ : ByteArray) := by unfold fitT; decide
  rw [dwF]
  split
  · exact hf
  split
  · exact ⟨hf.t, hf.c, hf.d⟩
  split
  · refine ⟨fit_of (fun x hx => ?_) e0, hf.c, hf.d⟩
    rcases List.mem_or_eq_of_mem_set hx with h | h
    · exact t x h
    · rw [h]; exact hf.t _
  split
  · refine ⟨hf.t, hf.c, fit_of (fun x hx => ?_) e0⟩
    rcases List.mem_append.1 hx with h | h
    · exact s x (List.mem_of_mem_take h)
    · rcases List.mem_cons.1 h with h | h
      · rw [h]; exact hn
      · exact s x (List.mem_of_mem_drop h)
  split
  · refine ⟨hf.t, hf.c, fit_of (fun x hx => ?_) e0⟩
    rcases List.mem_append.1 hx with h | h
    · exact s x (List.mem_of_mem_take h)
    · exact s x (List.mem_of_mem_drop h)
  · exact ⟨hf.t, hf.c, hf.d⟩
theorem rw_fit {f : Fl} {es : List De} (hf : FitF f) (hn : ∀ i, fitT (elAt es i).n) : ∀ k, FitF (rwF f es k)
  | 0 => hf
  | k + 1 => dw_fit (rw_fit hf hn k) (hn k)
theorem rw_len {f : Fl} {es : List De} (m1 : f.ts.length ≤ 1048600) (m2 : f.cs.length ≤ 1048600) (m3 : f.ds.length ≤ 1048600) : ∀ k, (rwF f es k).ts.length ≤ 1048600 ∧ (rwF f es k).cs.length ≤ 1048600 ∧ (rwF f es k).ds.length ≤ 1048600
  | 0 => ⟨m1, m2, m3⟩
  | k + 1 => by obtain ⟨a, b, c⟩ := rw_len (es := es) m1 m2 m3 k; exact dw_len a b c
set_option maxRecDepth 20000 in
set_option maxHeartbeats 4000000 in
theorem implRunWork_any (nh nc nd : Int) (a1 a2 a3 : Option Addr) (l1 c1 l2 c2 l3 c3 : Nat) (ts : List Ts) (cs : List Cr) (ds : List Df) (ad : Option Addr) (len cap : Nat) (es : List De) (w : World) (hr : FlIn w a1 a2 a3 l1 l2 l3 ts cs ds) (m1 : l1 ≤ 1048600) (m2 : l2 ≤ 1048600) (m3 : l3 ≤ 1048600) (ff : FitF ⟨ts, cs, ds, nh, nc, nd⟩) (he : RowE 4 deC w ad len es) (hn : ∀ i, fitT (elAt es i).n) :
    Calls Tryz.prog 9 #[.agg #[.slice a1 l1 c1, .slice a2 l2 c2, .slice a3 l3 c3, .int .i64 nh, .int .i64 nc, .int .i64 nd], .slice ad len cap] w fun e w' => RwE w (rwF ⟨ts, cs, ds, nh, nc, nd⟩ es (rwN es)) (rwT ⟨ts, cs, ds, nh, nc, nd⟩ es (rwN es)) e w' := by
  have z1 := hr.r1.len_eq
  have z2 := hr.r2.len_eq
  have z3 := hr.r3.len_eq
  have z4 := he.len_eq
  subst z1
  subst z2
  subst z3
  obtain ⟨V0, hV0⟩ : ∃ V, V = ((w.alloc (Obj.cells #[.slice a1 ts.length c1, .slice a2 cs.length c2, .slice a3 ds.length c3, .int .i64 nh, .int .i64 nc, .int .i64 nd] 37)).alloc (Obj.cells #[.slice none 0 0, .slice none 0 0, .slice none 0 0, .int .i64 0, .int .i64 0, .int .i64 0] 37)).alloc (Obj.cells #[] 4) := ⟨_, rfl⟩
  have bV : Below w.heap.size w V0 := by rw [hV0]; exact bel3 _ _ _
  have KF : Blk V0 w.heap.size [.slice a1 ts.length c1, .slice a2 cs.length c2, .slice a3 ds.length c3, .int .i64 nh, .int .i64 nc, .int .i64 nd] := by rw [hV0]; exact ((Blk.new (w := w) [.slice a1 ts.length c1, .slice a2 cs.length c2, .slice a3 ds.length c3, .int .i64 nh, .int .i64 nc, .int .i64 nd] _).alloc _).alloc _
  have KR : Hid (Blk V0 (w.heap.size + 1) [.slice none 0 0, .slice none 0 0, .slice none 0 0, .int .i64 0, .int .i64 0, .int .i64 0]) := hide (by rw [hV0]; have k := (Blk.new (w := w.alloc (Obj.cells #[.slice a1 ts.length c1, .slice a2 cs.length c2, .slice a3 ds.length c3, .int .i64 nh, .int .i64 nc, .int .i64 nd] 37)) [.slice none 0 0, .slice none 0 0, .slice none 0 0, .int .i64 0, .int .i64 0, .int .i64 0] 37).alloc (Obj.cells #[] 4); simpa using k)
  have KT : Hid (OwnE 1 boC V0 w.heap.size 4 (.slice (some ⟨w.heap.size + 2, 0, none⟩) 0 0) []) := hide (by rw [hV0]; have k := (ownE_none (K := 1) (cells := boC) (w := w) (w1 := (w.alloc (Obj.cells #[.slice a1 ts.length c1, .slice a2 cs.length c2, .slice a3 ds.length c3, .int .i64 nh, .int .i64 nc, .int .i64 nd] 37)).alloc (Obj.cells #[.slice none 0 0, .slice none 0 0, .slice none 0 0, .int .i64 0, .int .i64 0, .int .i64 0] 37)) (T := 4) (by simp; omega)); simpa using k)
  have hsV : V0.heap.size = w.heap.size + 3 := by rw [hV0]; simp
  have q0 : V0.cell? ⟨w.heap.size, 0, none⟩ = some (.slice a1 ts.length c1) := KF.c 0 (by simp)
  have q1 : V0.cell? ⟨w.heap.size, 1, none⟩ = some (.slice a2 cs.length c2) := KF.c 1 (by simp)
  have q2 : V0.cell? ⟨w.heap.size, 2, none⟩ = some (.slice a3 ds.length c3) := KF.c 2 (by simp)
  have q3 : V0.cell? ⟨w.heap.size, 3, none⟩ = some (.int .i64 nh) := KF.c 3 (by simp)
  have q4 : V0.cell? ⟨w.heap.size, 4, none⟩ = some (.int .i64 nc) := KF.c 4 (by simp)
  have q5 : V0.cell? ⟨w.heap.size, 5, none⟩ = some (.int .i64 nd) := KF.c 5 (by simp)
  have BV := hide bV
  have HW := hide hV0
  have HSV := hide hsV
  have FR := hide (hr.below bV)
  have FF := hide ff
  have HE := hide he
  have HNF := hide hn
  clear hV0 bV KF hr ff he hn hsV
  by_cases hlong : len ≤ 100
  · have hN : rwN es = len := by rw [rwN, if_pos (by omega), z4]
    rw [hN]
    have k1 : ¬ (100 : Int) < (len : Int) := by omega
    have HZ4 := hide z4
    clear hN z4
    have FB := hide (rw_fit (es := es) (unhide FF) (unhide HNF))
    have LB := hide (rw_len (f := ⟨ts, cs, ds, nh, nc, nd⟩) (es := es) m1 m2 m3)
    obtain ⟨f, hf⟩ : ∃ f : Fl, (⟨ts, cs, ds, nh, nc, nd⟩ : Fl) = f := ⟨_, rfl⟩
    rw [hf] at FB LB ⊢
    have HF := hide hf
    clear hf
    have CH := hide (hangarOf_any nh nc nd a1 a2 a3 ts.length c1 cs.length c2 ds.length c3 ts cs ds V0 (unhide FR) m1 m2 m3)
    go_enter Tryz.func9, Tryz.ntmps9
    go_upto_region 2 with fail
    rw [← unhide HW]
    clear HW
    go_wp2_with fail
    refine (unhide CH).mono ?_
    rintro e w1 ⟨G, g1, p1, g2, p2, g3, p3, rfl, h1, b1⟩
    obtain ⟨base, hbase⟩ : ∃ b, b = V0.heap.size := ⟨_, rfl⟩
    have S0 : Hid (RwS w base G (w.heap.size + 1) (rwF f es 0) (rwT f es 0) (w.heap.size + 2) 0 0 w1) := hide (by
      rw [← unhide HF]
      have hlo := h1.low
      have hs := unhide HSV
      exact ⟨⟨_, _, _, _, _, _, by rw [hbase]; exact h1⟩, (unhide KT).below b1, rfl, by omega, by omega, (unhide KR).below b1, (unhide BV).trans (b1.mono (unhide BV).size), by omega⟩)
    have HBS : Hid (w.heap.size ≤ base) := hide (by have hs := unhide HSV; omega)
    clear h1 b1 CH KR KT q0 q1 q2 q3 q4 q5 FR FF hbase m1 m2 m3 HF
    go_wp2_with fail
    go_loopw [6, 21] (fun t i wr => ∃ k gt ct : Nat, t = .slice (some ⟨gt, 0, none⟩) k ct ∧ i = .int .i64 k ∧ k ≤ len ∧ RwS w base G (w.heap.size + 1) (rwF f es k) (rwT f es k) gt k ct wr) (fun _ i _ => len - (intOf i).toNat)
    case atStart => exact ⟨0, _, _, rfl, rfl, Nat.zero_le _, unhide S0⟩
    case round =>
      clear S0
      obtain ⟨k, gt, ct, rfl, rfl, hk, hst⟩ := hrel
      have ST := hide hst
      clear hst
      by_cases hlt : k < len
      · have i0 : (0 : Int) ≤ (k : Int) := by omega
        have i1 : (k : Int) < (len : Int) := by omega
        obtain ⟨bb, off, rfl, hc⟩ := ((unhide HE).below (unhide ST).bel).at_ k hlt
        have c0 : wr.cell? ⟨bb, off + k * 4, none⟩ = some (.int .i64 (elAt es k).k) := hc 0 (by omega)
        have c1 : wr.cell? ⟨bb, off + k * 4 + 1, none⟩ = some (.string (elAt es k).n) := hc 1 (by omega)
        have c2 : wr.cell? ⟨bb, off + k * 4 + 2, none⟩ = some (.int .i64 (elAt es k).i) := hc 2 (by omega)
        have c3 : wr.cell? ⟨bb, off + k * 4 + 3, none⟩ = some (.int .i64 (elAt es k).m) := hc 3 (by omega)
        have HRS : Hid (rwF f es (k + 1) = dwF (rwF f es k) (elAt es k) ∧ rwT f es (k + 1) = rwT f es k ++ [dwB (rwF f es k) (elAt es k)]) := hide ⟨rfl, rfl⟩
        have HD := hide ((unhide HNF) k)
        obtain ⟨d, hd⟩ : ∃ d, elAt es k = d := ⟨_, rfl⟩
        rw [hd] at c0 c1 c2 c3 HRS HD
        clear hc hd
        go_wp2_with fail
        obtain ⟨V, hV⟩ : ∃ V, V = wr.alloc (Obj.cells #[.int .i64 d.k, .string d.n, .int .i64 d.i, .int .i64 d.m] 60) := ⟨_, rfl⟩
        have SV := (unhide ST).below (W' := V) (by rw [hV]; exact bel1 _)
        rw [← hV]
        obtain ⟨b1, b2, b3, e1, e2, e3, hh⟩ := SV.hg
        have CD : Calls Tryz.prog 31 #[.pointer (some ⟨G, 0, none⟩), .agg #[.int .i64 d.k, .string d.n, .int .i64 d.i, .int .i64 d.m]] V fun e w' => e = .returned (.bool (dwB (rwF f es k) d)) ∧ HgE w' base G 0 (dwF (rwF f es k) d) ∧ Aps (hz G b1 b2 b3) V w' := do_aps base G b1 b2 b3 e1 e2 e3 _ _ _ _ _ _ d.n d.i d.m d.k V hh (unhide FB k) (unhide HD)
        obtain ⟨B, hB⟩ : ∃ B, dwB (rwF f es k) d = B := ⟨_, rfl⟩
        rw [hB] at CD
        have HT : Hid (rwT f es (k + 1) = rwT f es k ++ [B]) := hide (by rw [(unhide HRS).2, hB])
        refine CD.mono ?_
        rintro e w5 ⟨rfl, h5, a5⟩
        have S5 : Hid (RwS w base G (w.heap.size + 1) (rwF f es (k + 1)) (rwT f es k) gt k ct w5) := hide (by rw [(unhide HRS).1]; exact SV.done hh h5 a5 (unhide HBS))
        clear CD hB h5 a5 hh SV hV c0 c1 c2 c3 ST
        go_wp2_with (at_builtin; refine wpList_app_elG (K := 1) (cells := boC) rfl _ _ 38 4 rfl Tryz.underlying38 infoBo rfl (by decide) (by decide) B [.bool B] rfl (fun q hq => by match q, hq with | 0, _ => rfl) (fun u hu => by simp at hu; rcases hu with rfl; rfl) (unhide S5).told (unhide S5).len rfl rfl rfl (unhide S5).bel.size (by omega) ?_; intro g9 c9 w9 o9 gr9 hg9)
        have S9 := hide ((unhide S5).push o9 gr9 hg9)
        clear o9 gr9 hg9 S5
        go_roundw
        case rel => exact ⟨k + 1, g9, c9, rfl, by go_num, by omega, by rw [unhide HT]; exact unhide S9⟩
        case measure => simp [intOf]; omega
      · have k2 : ¬ (k : Int) < (len : Int) := by omega
        have hkl : k = len := by omega
        have HK := hide hkl
        obtain ⟨b1, b2, b3, e1, e2, e3, hh⟩ := (unhide ST).hg
        have HH := hide hh
        have CL := hide (lists_aps base G b1 b2 b3 e1 e2 e3 _ _ _ _ _ _ wr hh (unhide LB k).1 (unhide LB k).2.1 (unhide LB k).2.2)
        obtain ⟨f', hf'⟩ : ∃ f', rwF f es k = f' := ⟨_, rfl⟩
        rw [hf'] at ST HH CL
        have HF' := hide hf'
        clear hh hkl hf'
        go_wp2_with fail
        refine (unhide CL).mono ?_
        rintro e w6 ⟨g1, p1, g2, p2, g3, p3, rfl, ho, ap⟩
        obtain ⟨t6, r6, b6⟩ := (unhide ST).keep (unhide HH) ap (unhide HBS)
        have hws := (unhide ST).bel.size
        have hRl := (unhide ST).kr.lt
        have hnr := (unhide ST).nr
        have hp1 := (ho.o1.lies g1 rfl).1
        have hp2 := (ho.o2.lies g2 rfl).1
        have hp3 := (ho.o3.lies g3 rfl).1
        have T6 := hide t6
        have R6 := hide r6
        have B6 := hide b6
        have HO := hide ho
        clear t6 r6 b6 ho ap CL HH
        go_wp2_with (((with_reducible show wpList _ _ _ (⟨none, .store 37 _ _, _, _, _, none⟩ :: _) _ _); refine at_storeAgg (us := [.slice none 0 0, .slice none 0 0, .slice none 0 0, .int .i64 0, .int .i64 0, .int .i64 0]) (vs := [.slice (some ⟨g1, 0, none⟩) f'.ts.length p1, .slice (some ⟨g2, 0, none⟩) f'.cs.length p2, .slice (some ⟨g3, 0, none⟩) f'.ds.length p3, .int .i64 f'.nh, .int .i64 f'.nc, .int .i64 f'.nd]) Tryz.sizeOf37 rfl rfl (unhide R6) rfl (fun v hv => by simp at hv; rcases hv with rfl | rfl | rfl | rfl | rfl | rfl <;> rfl) ?_; intro w7 k9 g9; have K7 := hide k9; have G7 := hide g9; clear k9 g9))
        have n1 := (unhide HO).o1.far (unhide G7) (fun q hq e => by have e1 : g1 = q := Option.some.inj hq; have e2 : q = w.heap.size + 1 := Option.some.inj e; omega)
        have n2 := (unhide HO).o2.far (unhide G7) (fun q hq e => by have e1 : g2 = q := Option.some.inj hq; have e2 : q = w.heap.size + 1 := Option.some.inj e; omega)
        have n3 := (unhide HO).o3.far (unhide G7) (fun q hq e => by have e1 : g3 = q := Option.some.inj hq; have e2 : q = w.heap.size + 1 := Option.some.inj e; omega)
        have nt := (unhide T6).far (unhide G7) (fun q hq e => by have e1 : gt = q := Option.some.inj hq; have e2 : q = w.heap.size + 1 := Option.some.inj e; omega)
        refine bodyPost_ret (results_cellB (vs := [.slice (some ⟨g1, 0, none⟩) f'.ts.length p1, .slice (some ⟨g2, 0, none⟩) f'.cs.length p2, .slice (some ⟨g3, 0, none⟩) f'.ds.length p3, .int .i64 f'.nh, .int .i64 f'.nc, .int .i64 f'.nd]) rfl Tryz.isAgg37 Tryz.sizeOf37 rfl (unhide K7) rfl) rfl ?_
        rw [← unhide HK, unhide HF']
        exact ⟨g1, p1, g2, p2, g3, p3, gt, ct, by rw [rwT_len]; kernel_rfl, ⟨n1.mono hws, n2.mono hws, n3.mono hws, (unhide HO).p12, (unhide HO).p13, (unhide HO).p23⟩, by rw [rwT_len]; exact nt, (unhide B6).grown (unhide G7) (unhide B6).size (fun q hq => by have e : w.heap.size + 1 = q := Option.some.inj hq; omega)⟩
  · have hN : rwN es = 0 := by rw [rwN, if_neg (by omega)]
    rw [hN]
    have k1 : (100 : Int) < (len : Int) := by omega
    clear hN z4
    have CC := hide (copied19_any nh nc nd a1 a2 a3 ts.length c1 cs.length c2 ds.length c3 ts cs ds V0 (unhide FR) m1 m2 m3)
    go_enter Tryz.func9, Tryz.ntmps9
    go_upto_region 2 with fail
    rw [← unhide HW]
    clear HW
    go_wp2_with fail
    refine (unhide CC).mono ?_
    rintro e w6 ⟨g1, p1, g2, p2, g3, p3, rfl, ho, b6⟩
    have hs := unhide HSV
    have T6 := hide ((unhide KT).below b6)
    have R6 := hide ((unhide KR).below b6)
    have B6 := hide ((unhide BV).trans (b6.mono (unhide BV).size))
    have HO := hide ho
    have hp1 := (ho.o1.lies g1 rfl).1
    have hp2 := (ho.o2.lies g2 rfl).1
    have hp3 := (ho.o3.lies g3 rfl).1
    clear ho b6 CC KT KR q0 q1 q2 q3 q4 q5
    go_wp2_with (((with_reducible show wpList _ _ _ (⟨none, .store 37 _ _, _, _, _, none⟩ :: _) _ _); refine at_storeAgg (us := [.slice none 0 0, .slice none 0 0, .slice none 0 0, .int .i64 0, .int .i64 0, .int .i64 0]) (vs := [.slice (some ⟨g1, 0, none⟩) ts.length p1, .slice (some ⟨g2, 0, none⟩) cs.length p2, .slice (some ⟨g3, 0, none⟩) ds.length p3, .int .i64 nh, .int .i64 nc, .int .i64 nd]) Tryz.sizeOf37 rfl rfl (unhide R6) rfl (fun v hv => by simp at hv; rcases hv with rfl | rfl | rfl | rfl | rfl | rfl <;> rfl) ?_; intro w7 k9 g9; have K7 := hide k9; have G7 := hide g9; clear k9 g9))
    have n1 := (unhide HO).o1.far (unhide G7) (fun q hq e => by have e1 : g1 = q := Option.some.inj hq; have e2 : q = w.heap.size + 1 := Option.some.inj e; omega)
    have n2 := (unhide HO).o2.far (unhide G7) (fun q hq e => by have e1 : g2 = q := Option.some.inj hq; have e2 : q = w.heap.size + 1 := Option.some.inj e; omega)
    have n3 := (unhide HO).o3.far (unhide G7) (fun q hq e => by have e1 : g3 = q := Option.some.inj hq; have e2 : q = w.heap.size + 1 := Option.some.inj e; omega)
    have nt := (unhide T6).far (unhide G7) (fun q hq e => by have e1 : w.heap.size + 2 = q := Option.some.inj hq; have e2 : q = w.heap.size + 1 := Option.some.inj e; omega)
    refine bodyPost_ret (results_cellB (vs := [.slice (some ⟨g1, 0, none⟩) ts.length p1, .slice (some ⟨g2, 0, none⟩) cs.length p2, .slice (some ⟨g3, 0, none⟩) ds.length p3, .int .i64 nh, .int .i64 nc, .int .i64 nd]) rfl Tryz.isAgg37 Tryz.sizeOf37 rfl (unhide K7) rfl) rfl ?_
    exact ⟨g1, p1, g2, p2, g3, p3, w.heap.size + 2, 0, rfl, ⟨n1.mono (by omega), n2.mono (by omega), n3.mono (by omega), (unhide HO).p12, (unhide HO).p13, (unhide HO).p23⟩, nt, (unhide B6).grown (unhide G7) (unhide B6).size (fun q hq => by have e : w.heap.size + 1 = q := Option.some.inj hq; omega)⟩

end Go.Proofs.YticdccdkjepifaaGreat

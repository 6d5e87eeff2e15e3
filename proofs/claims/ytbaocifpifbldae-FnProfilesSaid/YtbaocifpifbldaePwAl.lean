/-
  The program's walk from its begin, and what it answers of the heights that can be had.
-/
import Derived.Test.YtbaocifpifbldaePwPa
import Derived.Laws.MakeOwn
import Derived.Laws.OwnMore
import Derived.Deep.Cut
import Derived.Deep.CutRange
namespace Go.Proofs.Ytbaocifpifbldae
open Go.RowKit

/-- The points that make has made. -/
abbrev madePo (L : Nat) : Obj := .cells (madeCells #[.int .i64 0, .int .i64 0, .int .i64 0] (L * 3)) 53
theorem madePo_run {L : Nat} (hL : L ≤ 1000) (W : World) :
    (Instr.makeSlice 47 (.int .i64 (L : Int)) (.int .i64 (L : Int))).run Try.prog W = .ok (.slice (some ⟨W.heap.size, 0, none⟩) L L) (W.alloc (madePo L)) := by
  obtain ⟨i0, h0, h1, h2, h3⟩ := info_parts infoPo
  have hbytes : (i0.bytes : Int) * (L : Int) ≤ 281474976710656 := by rw [h3]; omega
  have hr := run_make (P := Try.prog) W 47 53 i0 (.agg #[.int .i64 0, .int .i64 0, .int .i64 0]) Try.underlying47 h0 h1 .i64 .i64 (L : Int) (L : Int) (by omega) (Int.le_refl _) hbytes (by omega)
  rw [show (Value.agg #[.int .i64 0, .int .i64 0, .int .i64 0]).cells = #[.int .i64 0, .int .i64 0, .int .i64 0] from rfl, h2] at hr
  simpa using hr
theorem madePo_at (L k : Nat) (h : k < L * 3) : (madeCells #[.int .i64 0, .int .i64 0, .int .i64 0] (L * 3)).toList[k]? = some (Value.int .i64 0) := by
  have h3 : k % 3 = 0 ∨ k % 3 = 1 ∨ k % 3 = 2 := by omega
  simp only [madeCells, Array.toList_map, Array.toList_range, List.getElem?_map, List.getElem?_range, h]
  rcases h3 with e | e | e <;> simp [e]
theorem ownPo_made {W : World} {base g : Nat} (ps : List Po) (h : base ≤ W.heap.size) (hL : ps.length ≤ maxLen) (hg : W.heap.size = g) : OwnE 3 poC (W.alloc (madePo ps.length)) base 53 (.slice (some ⟨g, 0, none⟩) ps.length ps.length) (zeL ps) := by
  subst hg
  have hz : (zeL ps).length = ps.length := by simp [zeL]
  refine ⟨⟨(madeCells #[.int .i64 0, .int .i64 0, .int .i64 0] (ps.length * 3)).toList, ?_, fun j hj q hq => ?_⟩⟩
  · rw [hz]; exact World.ownsRow_lit W _ ps.length h hL (size_madeCells _ _)
  · rw [hz] at hj
    have e : elAt (zeL ps) j = ⟨0, 0, 0⟩ := by simp [zeL, elAt, hj]
    rw [madePo_at _ _ (by omega), e]
    match q, hq with
    | 0, _ => rfl
    | 1, _ => rfl
    | 2, _ => rfl
theorem cell_dr (W : World) (a : Addr) : W.drew.cell? a = W.cell? a := rfl
theorem cell_al {W : World} {o : Obj} {a : Addr} (h : a.block < W.heap.size) : (W.alloc o).cell? a = W.cell? a := (bel1 o).cell h
theorem Blk.newAt {w : World} {vs : List Value} {T : TypeId} {g : Nat} (h : w.heap.size = g) : Blk (w.alloc (Obj.cells vs.toArray T)) g vs := by subst h; exact Blk.new vs T
theorem blk_drew {w : World} {B : Nat} {vs : List Value} (h : Blk w B vs) : Blk w.drew B vs := h.below ((Below.refl _ _).drew)
theorem ownPo_noneAt {W : World} {base g : Nat} (h : base ≤ W.heap.size) (hg : W.heap.size = g) : OwnE 3 poC (W.alloc (Obj.cells #[] 53)) base 53 (.slice (some ⟨g, 0, none⟩) 0 0) [] := by
  subst hg
  refine ⟨⟨[], ⟨rfl, .inr ⟨_, _, #[], rfl, h, ?_, Nat.le_refl _, by simp [maxLen], rfl, rfl⟩⟩, fun j hj => by simp at hj⟩⟩
  show (W.heap.push _)[W.heap.size]? = _
  simp
theorem Wk.rebase {w w2 wr : World} {P : Nat} {ps : List Po} {up down : Int} {ad : Option Addr} {cap g k cp h c2 : Nat} {ls : List Po} (K : Wk w2 wr P ps up down ad cap g k cp h c2 ls) (b : Below w.heap.size w w2) (hr : RowE 3 poC w ad ps.length ps) : Wk w wr P ps up down ad cap g k cp h c2 ls :=
  ⟨K.blk, hr, K.had.mono b.size, K.led.mono b.size, K.ll, K.gp, K.hp, K.gh, Nat.le_trans b.size K.pl, b.trans (K.bel.mono b.size)⟩
theorem Wk.far {w wr w' : World} {P : Nat} {ps : List Po} {up down : Int} {ad : Option Addr} {cap g k cp h c2 : Nat} {ls : List Po} (K : Wk w wr P ps up down ad cap g k cp h c2 ls) {R : Nat} (gr : wr.grownBy w' (some R)) (h1 : ¬ R = P) (h2 : ¬ R = g) (h3 : ¬ R = h) (h4 : w.heap.size ≤ R) : Wk w w' P ps up down ad cap g k cp h c2 ls :=
  ⟨K.blk.apart gr (fun e => h1 (Option.some.inj e).symm), K.row, K.had.far gr (fun q hq e => h2 ((Option.some.inj e).symm.trans (Option.some.inj hq).symm)), K.led.far gr (fun q hq e => h3 ((Option.some.inj e).symm.trans (Option.some.inj hq).symm)), K.ll, K.gp, K.hp, K.gh, K.pl, K.bel.grown gr K.bel.size (fun q hq => by cases hq; exact h4)⟩
theorem ownPo_drew {w : World} {base : Nat} {T : TypeId} {v : Value} {ps : List Po} (h : OwnE 3 poC w base T v ps) : OwnE 3 poC w.drew base T v ps := h.below ((Below.refl _ _).drew)
theorem blk_of5 {w : World} {B : Nat} {v0 v1 v2 v3 v4 : Value} (c0 : w.cell? ⟨B, 0, none⟩ = some v0) (c1 : w.cell? ⟨B, 1, none⟩ = some v1) (c2 : w.cell? ⟨B, 2, none⟩ = some v2) (c3 : w.cell? ⟨B, 3, none⟩ = some v3) (c4 : w.cell? ⟨B, 4, none⟩ = some v4)
    (f0 : w.frozen? ⟨B, 0, none⟩ = false) (f1 : w.frozen? ⟨B, 1, none⟩ = false) (f2 : w.frozen? ⟨B, 2, none⟩ = false) (f3 : w.frozen? ⟨B, 3, none⟩ = false) (f4 : w.frozen? ⟨B, 4, none⟩ = false) (lt : B < w.heap.size) : Blk w B [v0, v1, v2, v3, v4] := by
  refine ⟨fun q hq => ?_, fun q hq => ?_, lt⟩
  all_goals
    rcases (show q = 0 ∨ q = 1 ∨ q = 2 ∨ q = 3 ∨ q = 4 from by simp at hq; omega) with rfl | rfl | rfl | rfl | rfl <;> assumption
/-- A result that stands in a block, and one behind it. -/
theorem results_walk {fn : Func} {p q : Tmp} {t : TypeId} {tmps : Array Value} {w : World} {B : Nat} {vs : List Value} {x : Value} (h : fn.results = #[.cell p t, .tmp q]) (hA : ∀ w, (isAgg t).run Try.prog w = .ok true w) (hZ : ∀ w, (Go.sizeOf t).run Try.prog w = .ok vs.length w)
    (hp : tmps.getD p undef = .pointer (some ⟨B, 0, none⟩)) (hb : Blk w B vs) (hq : tmps.getD q undef = x) : (results fn tmps).run Try.prog w = .ok (.tuple #[.agg vs.toArray, x]) w := by
  have hr := run_loadVar hA hZ hb
  have hp' : tmps[p]?.getD undef = .pointer (some ⟨B, 0, none⟩) := by simpa using hp
  have hq' : tmps[q]?.getD undef = x := by simpa using hq
  simp only [results, h]
  simp [hp', hq', asAddr, hr]
theorem implPointsOk_is {c : Bool} (ad : Option Addr) (len cap : Nat) (ps : List Po) (w : World) (hr : RowE 3 poC w ad len ps) (hc : poB ps = c) :
    Calls Try.prog 20 #[.slice ad len cap] w fun e w' => e = .returned (.bool c) ∧ Below w.heap.size w w' := by subst hc; exact implPointsOk_any ad len cap ps w hr
set_option maxRecDepth 20000 in
set_option maxHeartbeats 1000000 in
theorem walked_bad (ad : Option Addr) (len cap : Nat) (ps : List Po) (up down : Int) (w : World) (hr : RowE 3 poC w ad len ps) (hv : (poB ps && slB up down) = false) :
    Calls Try.prog 55 #[.slice ad len cap, .agg #[.int .i64 up, .int .i64 down]] w fun e w' => e = .returned (.tuple #[.agg #[.int .i64 0, .int .i64 0, .slice none 0 0, .slice none 0 0, .slice none 0 0], .bool false]) ∧ Below w.heap.size w w' := by
  rcases two (poB ps) (slB up down) with ⟨q1, _⟩ | ⟨q1, q2, _⟩ | ⟨q1, q2, h⟩
  all_goals
    try (rw [h] at hv; cases hv)
  · have HR := hide (hr.below (bel2 (Obj.cells #[.int .i64 up, .int .i64 down] 109) (Obj.cells #[.int .i64 0, .int .i64 0, .slice none 0 0, .slice none 0 0, .slice none 0 0] 111)))
    clear hr hv
    go_enter Try.func55, Try.ntmps55
    go_wp2_with (first | (go_at_call 20; refine (implPointsOk_is _ _ _ ps _ (unhide HR) q1).mono ?_; rintro e w1 ⟨rfl, b1⟩; have KR := hide ((blkAt2_1 : Blk ((w.alloc (Obj.cells #[.int .i64 up, .int .i64 down] 109)).alloc (Obj.cells #[.int .i64 0, .int .i64 0, .slice none 0 0, .slice none 0 0, .slice none 0 0] 111)) (w.heap.size + 1) [.int .i64 0, .int .i64 0, .slice none 0 0, .slice none 0 0, .slice none 0 0]).below b1); have B1 := hide ((bel2 _ _).trans (b1.mono (by simp; omega)) : Below w.heap.size w w1); clear b1) | ((with_reducible show wpList _ _ _ (⟨none, .store 111 _ _, _, _, _, none⟩ :: _) _ _); refine at_storeAgg (us := [.int .i64 0, .int .i64 0, .slice none 0 0, .slice none 0 0, .slice none 0 0]) (vs := [.int .i64 0, .int .i64 0, .slice none 0 0, .slice none 0 0, .slice none 0 0]) Try.sizeOf111 rfl rfl (unhide KR) rfl (by simp [Value.oneCell']) ?_; intro w9 kk9 gg9))
    refine bodyPost_ret (results_walk (x := .bool false) (vs := [.int .i64 0, .int .i64 0, .slice none 0 0, .slice none 0 0, .slice none 0 0]) rfl Try.isAgg111 Try.sizeOf111 rfl kk9 rfl) rfl ⟨rfl, ?_⟩
    exact (unhide B1).grown gg9 (unhide B1).size (fun q hq => by cases hq; omega)
  · have HR := hide (hr.below (bel2 (Obj.cells #[.int .i64 up, .int .i64 down] 109) (Obj.cells #[.int .i64 0, .int .i64 0, .slice none 0 0, .slice none 0 0, .slice none 0 0] 111)))
    clear hr hv
    go_enter Try.func55, Try.ntmps55
    go_wp2_with (first | (go_at_call 20; refine (implPointsOk_is _ _ _ ps _ (unhide HR) q1).mono ?_; rintro e w1 ⟨rfl, b1⟩; have s0 := ((blkAt2_0 : Blk ((w.alloc (Obj.cells #[.int .i64 up, .int .i64 down] 109)).alloc (Obj.cells #[.int .i64 0, .int .i64 0, .slice none 0 0, .slice none 0 0, .slice none 0 0] 111)) w.heap.size [.int .i64 up, .int .i64 down]).below b1).c 0 (by simp); have s1 := ((blkAt2_0 : Blk ((w.alloc (Obj.cells #[.int .i64 up, .int .i64 down] 109)).alloc (Obj.cells #[.int .i64 0, .int .i64 0, .slice none 0 0, .slice none 0 0, .slice none 0 0] 111)) w.heap.size [.int .i64 up, .int .i64 down]).below b1).c 1 (by simp); have KR := hide ((blkAt2_1 : Blk ((w.alloc (Obj.cells #[.int .i64 up, .int .i64 down] 109)).alloc (Obj.cells #[.int .i64 0, .int .i64 0, .slice none 0 0, .slice none 0 0, .slice none 0 0] 111)) (w.heap.size + 1) [.int .i64 0, .int .i64 0, .slice none 0 0, .slice none 0 0, .slice none 0 0]).below b1); have B1 := hide ((bel2 _ _).trans (b1.mono (by simp; omega)) : Below w.heap.size w w1); simp only [List.getElem_cons_zero, List.getElem_cons_succ] at s0 s1; clear b1) | (go_at_call 96; refine (areSo_is _ _ _ q2).mono ?_; rintro e w2 ⟨rfl, b2⟩; have KR2 := hide ((unhide KR).below b2); have B2 := hide ((unhide B1).trans (b2.mono (unhide B1).size)); clear b2) | ((with_reducible show wpList _ _ _ (⟨none, .store 111 _ _, _, _, _, none⟩ :: _) _ _); refine at_storeAgg (us := [.int .i64 0, .int .i64 0, .slice none 0 0, .slice none 0 0, .slice none 0 0]) (vs := [.int .i64 0, .int .i64 0, .slice none 0 0, .slice none 0 0, .slice none 0 0]) Try.sizeOf111 rfl rfl (unhide KR2) rfl (by simp [Value.oneCell']) ?_; intro w9 kk9 gg9))
    refine bodyPost_ret (results_walk (x := .bool false) (vs := [.int .i64 0, .int .i64 0, .slice none 0 0, .slice none 0 0, .slice none 0 0]) rfl Try.isAgg111 Try.sizeOf111 rfl kk9 rfl) rfl ⟨rfl, ?_⟩
    exact (unhide B2).grown gg9 (unhide B2).size (fun q hq => by cases hq; omega)

set_option maxRecDepth 20000 in
set_option maxHeartbeats 1000000 in
theorem walked_on (ad : Option Addr) (len cap : Nat) (ps : List Po) (up down : Int) (w : World) (hr : RowE 3 poC w ad len ps) (q1 : poB ps = true) (q2 : slB up down = true) :
    Calls Try.prog 55 #[.slice ad len cap, .agg #[.int .i64 up, .int .i64 down]] w fun e w' => ∃ P g cp h c2, e = .returned (.tuple #[.agg #[.int .i64 up, .int .i64 down, .slice ad ps.length cap, .slice (some ⟨g, 0, none⟩) (rcK ps up down) cp, .slice (some ⟨h, 0, none⟩) ps.length c2], .bool true]) ∧ Wk w w' P ps up down ad cap g (rcK ps up down) cp h c2 (lvL ps up down (rcK ps up down) 0) := by
  have hz := hr.len_eq
  subst hz
  have H0 := hide hr
  have HR := hide (hr.below (bel2 (Obj.cells #[.int .i64 up, .int .i64 down] 109) (Obj.cells #[.int .i64 0, .int .i64 0, .slice none 0 0, .slice none 0 0, .slice none 0 0] 111)))
  have pf := poB_facts q1
  have lb := pf.2.1
  have hb30 := pf.2.2
  clear hr pf
  go_enter Try.func55, Try.ntmps55
  go_wp2_with (first | (go_at_call 20; refine (implPointsOk_is _ _ _ ps _ (unhide HR) q1).mono ?_; rintro e w1 ⟨rfl, b1⟩; have KS := hide ((blkAt2_0 : Blk ((w.alloc (Obj.cells #[.int .i64 up, .int .i64 down] 109)).alloc (Obj.cells #[.int .i64 0, .int .i64 0, .slice none 0 0, .slice none 0 0, .slice none 0 0] 111)) w.heap.size [.int .i64 up, .int .i64 down]).below b1); have s0 := (unhide KS).c 0 (by simp); have s1 := (unhide KS).c 1 (by simp); have KR := hide ((blkAt2_1 : Blk ((w.alloc (Obj.cells #[.int .i64 up, .int .i64 down] 109)).alloc (Obj.cells #[.int .i64 0, .int .i64 0, .slice none 0 0, .slice none 0 0, .slice none 0 0] 111)) (w.heap.size + 1) [.int .i64 0, .int .i64 0, .slice none 0 0, .slice none 0 0, .slice none 0 0]).below b1); have B1 := hide ((bel2 _ _).trans (b1.mono (by simp; omega)) : Below w.heap.size w w1); simp only [List.getElem_cons_zero, List.getElem_cons_succ] at s0 s1; clear b1) | (go_at_call 96; refine (areSo_is _ _ _ q2).mono ?_; rintro e w2 ⟨rfl, b2⟩; have KR2 := hide ((unhide KR).below b2); have t0 := ((unhide KS).below b2).c 0 (by simp); have t1 := ((unhide KS).below b2).c 1 (by simp); have B2 := hide ((unhide B1).trans (b2.mono (unhide B1).size)); simp only [List.getElem_cons_zero, List.getElem_cons_succ] at t0 t1; clear b2))
  have mP := fun W => madePo_run (L := ps.length) (by omega) W
  have hsz := (unhide B2).size
  have o0 := World.new_ne w2 _ t0
  have o1 := World.new_ne w2 _ t1
  have hRl := (unhide KR2).lt
  go_cut [6, 18, 21] from 16 to 22 (fun s v1 v2 W => ∃ P g h, s = .pointer (some ⟨P, 0, none⟩) ∧ v1 = .slice (some ⟨g, 0, none⟩) 0 0 ∧ v2 = .slice (some ⟨h, 0, none⟩) ps.length ps.length ∧ Blk W P [.int .i64 up, .int .i64 down, .slice ad ps.length cap, .slice (some ⟨g, 0, none⟩) 0 0, .slice (some ⟨h, 0, none⟩) ps.length ps.length] ∧ (OwnE 3 poC W w2.heap.size 53 (.slice (some ⟨g, 0, none⟩) 0 0) [] ∧ OwnE 3 poC W w2.heap.size 53 (.slice (some ⟨h, 0, none⟩) ps.length ps.length) (zeL ps) ∧ g ≠ P ∧ h ≠ P ∧ g ≠ h ∧ w2.heap.size ≤ P) ∧ Below w2.heap.size w2 W)
  case first =>
    go_region_held3 (fun w' => w'.cell? ⟨w.heap.size, 0, none⟩ = some (.int .i64 up) ∧ w'.cell? ⟨w.heap.size, 1, none⟩ = some (.int .i64 down)) (refine ⟨?_, ?_⟩ <;> (repeat (first | exact t0 | exact t1 | (refine (cell_dr _ _).trans ?_) | (refine (cell_al (by simp; omega)).trans ?_) | (refine (World.cell?_setCell_other _ _ _ _ (by simp; omega)).trans ?_)))) (fail)
    all_goals
      go_wp2_with fail
      go_meet
      case rel =>
        refine ⟨_, _, _, rfl, rfl, rfl, ?_, ⟨?_, ?_, ?_, ?_, ?_, ?_⟩, ?_⟩
        · repeat (first | exact Blk.newAt (vs := [.int .i64 up, .int .i64 down, .slice ad ps.length cap, .slice (some ⟨_, 0, none⟩) 0 0, .slice (some ⟨_, 0, none⟩) ps.length ps.length]) (by first | rfl | simp) | refine blk_drew ?_ | refine Blk.below ?_ (bel1 _))
        · repeat (first | exact ownPo_noneAt (by first | omega | (simp <;> omega)) (by first | rfl | simp) | refine ownPo_drew ?_ | refine OwnE.below ?_ (bel1 _))
        · repeat (first | exact ownPo_made ps (by first | omega | (simp <;> omega)) (by unfold maxLen; omega) (by first | rfl | simp) | refine ownPo_drew ?_ | refine OwnE.below ?_ (bel1 _))
        · omega
        · omega
        · omega
        · omega
        · repeat (first | exact Below.refl _ _ | refine Below.drew ?_ | refine Below.alloc ?_ (by first | omega | (simp <;> omega)) _)
  case rest =>
    obtain ⟨P, g, h, rfl, rfl, rfl, kP, ⟨og, oh, n1, n2, n3, n4⟩, bc⟩ := hcut
    have R2 := hide ((unhide H0).below ((unhide B2) : Below w.heap.size w w2))
    have K0 : Hid (Wk w2 wc P ps up down ad cap g 0 0 h ps.length (zeL ps)) := hide ⟨kP, unhide R2, og, oh, by simp [zeL], n1, n2, n3, n4, bc⟩
    clear kP og oh n1 n2 n3 n4 bc mP s0 s1 t0 t1 o0 o1 HR B1 KR KS
    go_wp2_with (first
      | (go_at_call 97; refine (pass_any w2 P ps up down ad cap h ps.length q1 q2 ps.length 0 (by omega) _ _ _ (unhide K0) (fun j hj => by omega)).mono ?_; rintro e w5 ⟨g5, cp5, rfl, k5⟩; have K5 := hide k5; have KR5 := hide ((unhide KR2).below k5.bel); clear k5)
      | ((with_reducible show wpList _ _ _ (⟨_, .load 111 _, _, _, _, none⟩ :: _) _ _); refine at_loadAgg (vs := [.int .i64 up, .int .i64 down, .slice ad ps.length cap, .slice (some ⟨g5, 0, none⟩) (rcK ps up down) cp5, .slice (some ⟨h, 0, none⟩) ps.length ps.length]) Try.isAgg111 Try.sizeOf111 rfl (unhide K5).blk ?_)
      | ((with_reducible show wpList _ _ _ (⟨none, .store 111 _ _, _, _, _, none⟩ :: _) _ _); refine at_storeAgg (us := [.int .i64 0, .int .i64 0, .slice none 0 0, .slice none 0 0, .slice none 0 0]) (vs := [.int .i64 up, .int .i64 down, .slice ad ps.length cap, .slice (some ⟨g5, 0, none⟩) (rcK ps up down) cp5, .slice (some ⟨h, 0, none⟩) ps.length ps.length]) Try.sizeOf111 rfl rfl (unhide KR5) rfl (by simp [Value.oneCell']) ?_; intro w9 kk9 gg9))
    refine bodyPost_ret (results_walk (x := .bool true) (vs := [.int .i64 up, .int .i64 down, .slice ad ps.length cap, .slice (some ⟨g5, 0, none⟩) (rcK ps up down) cp5, .slice (some ⟨h, 0, none⟩) ps.length ps.length]) rfl Try.isAgg111 Try.sizeOf111 rfl kk9 rfl) rfl ⟨P, g5, cp5, h, ps.length, rfl, ?_⟩
    have k5 := unhide K5
    exact (k5.rebase (unhide B2) (unhide H0)).far gg9 (by have := k5.pl; omega) (by have := (k5.had.lies g5 rfl).1; omega) (by have := (k5.led.lies h rfl).1; omega) (by omega)

end Go.Proofs.Ytbaocifpifbldae

/-
  What the drawing of a plan and of jobs holds on to: the cursor, the plan's block, its windows; what is plain of them. No condition.
  What the model's l17Draw answers: a plan that is so, in new memory. At every cursor; nothing that was there is written but the cursor.
  What the model's l17DrawJobs and DrawPlan17 answer: jobs that are so, and a plan with jobs, in new memory. At every cursor; nothing that was there is written but the cursor.
-/
import Derived.Test.YtndhiecakojjgafDraw
import Derived.Test.YtndhiecakojjgafOwn1
import Derived.Test.YtndhiecakojjgafFar1
import Derived.Test.YtndhiecakojjgafRowWn
import Derived.Test.YtndhiecakojjgafRowJb
import Derived.Test.YtndhiecakojjgafRj1
import Derived.Test.YtndhiecakojjgafBlk1
import Derived.Laws.OwnMore
import Derived.Test.YtndhiecakojjgafPpTo
import Derived.Deep.RegionLaw
import Derived.Deep.Cut
import Derived.Deep.CutRange
import Derived.Test.YtndhiecakojjgafSq1

namespace Go.Proofs.Ytndhiecakojjgaf
open Go.RowKit

theorem ownW_nl (w : World) (base : Nat) : OwnE 3 wnC w base 91 (.slice none 0 0) [] :=
  ⟨⟨[], by simpa using World.ownsRow_nil w base 91 3, fun j hj => by simp at hj⟩⟩
theorem grown_past {a b c : World} {row : Option Nat} {g : Nat} (h : a.grownBy b row) (k : b.grownBy c (some g)) (hg : a.heap.size ≤ g) : a.grownBy c row :=
  ⟨k.os.trans h.os, k.tape.trans h.tape, k.output.trans h.output, Nat.le_trans h.size k.size, fun i hi hne => (k.block i (Nat.lt_of_lt_of_le hi h.size) (fun e => by have := Option.some.inj e; omega)).trans (h.block i hi hne)⟩
theorem grown_pastN {a b c : World} {row : Option Nat} {v : Value} (h : a.grownBy b row) (k : b.grownBy c v.ownBlock) (hg : ∀ q, v.ownBlock = some q → a.heap.size ≤ q) : a.grownBy c row :=
  ⟨k.os.trans h.os, k.tape.trans h.tape, k.output.trans h.output, Nat.le_trans h.size k.size, fun i hi hne => (k.block i (Nat.lt_of_lt_of_le hi h.size) (fun e => by have := hg i e.symm; omega)).trans (h.block i hi hne)⟩
/-- The plan that is being drawn: the cursor, the result's block, the plan's block, its windows. -/
structure Pd (w : World) (C R B : Nat) (a : Option Addr) (len cap : Nat) (W : World) (fr pa : Int) (v : Value) (ws : List Wn) : Prop where
  d : Dr w C a len cap W
  inn : ∀ b off, a = some ⟨b, off, none⟩ → b < w.heap.size
  cb : C < R ∧ R < B
  r : Blk W R [.int .i64 0, .int .i64 0, .slice none 0 0]
  p : Blk W B [.int .i64 fr, .int .i64 pa, v]
  o : OwnE 3 wnC W (B + 1) 91 v ws
theorem Pd.below {w : World} {C R B : Nat} {a : Option Addr} {len cap : Nat} {W W' : World} {fr pa : Int} {v : Value} {ws : List Wn} (h : Pd w C R B a len cap W fr pa v ws) (k : Below W.heap.size W W') : Pd w C R B a len cap W' fr pa v ws :=
  ⟨h.d.below k, h.inn, h.cb, h.r.below k, h.p.below k, h.o.below k⟩
theorem Pd.call {w : World} {C R B : Nat} {a : Option Addr} {len cap : Nat} {W W' : World} {fr pa : Int} {v : Value} {ws : List Wn} (h : Pd w C R B a len cap W fr pa v ws) (k : W.grownBy W' (some C)) (d : Dr w C a len cap W') : Pd w C R B a len cap W' fr pa v ws := by
  have cb := h.cb
  exact ⟨d, h.inn, h.cb, h.r.apart k (fun e => by have := Option.some.inj e; omega), h.p.apart k (fun e => by have := Option.some.inj e; omega), h.o.far k (fun g hg e => by have := Option.some.inj e; have := (h.o.lies g hg).1; omega)⟩
theorem Pd.here {w : World} {C R B : Nat} {a : Option Addr} {len cap : Nat} {W : World} {fr pa : Int} {v : Value} {ws : List Wn} (h : Pd w C R B a len cap W fr pa v ws) : B + 1 ≤ W.heap.size := h.p.lt
theorem setDr {w : World} {C : Nat} {a : Option Addr} {len cap : Nat} {W : World} (h : Dr w C a len cap W) {B i : Nat} {v : Value} (hB : C < B) (hin : ∀ b off, a = some ⟨b, off, none⟩ → b < w.heap.size) : Dr w C a len cap (W.setCell ⟨B, i, none⟩ v) :=
  h.own (grown_set (grown_refl W (some B)) i v) (fun k hk => by have := Option.some.inj hk; omega) hin
theorem Pd.push {w : World} {C R B : Nat} {a : Option Addr} {len cap : Nat} {W W' : World} {fr pa : Int} {v : Value} {ws : List Wn} {g n c : Nat} {ps : List Wn} (h : Pd w C R B a len cap W fr pa v ws) (o : OwnE 3 wnC W' (B + 1) 91 (.slice (some ⟨g, 0, none⟩) n c) ps) (k : W.grownBy W' v.ownBlock) :
    Pd w C R B a len cap (W'.setCell ⟨B, 2, none⟩ (.slice (some ⟨g, 0, none⟩) n c)) fr pa (.slice (some ⟨g, 0, none⟩) n c) ps := by
  have cb := h.cb
  have row : ∀ q, v.ownBlock = some q → B < q := fun q hq => by have := (h.o.lies q hq).1; omega
  have lg := (o.lies g rfl).1
  refine ⟨setDr (h.d.own k (fun q hq => by have := row q hq; omega) h.inn) (by omega) h.inn, h.inn, cb, (h.r.apart k (fun e => by have := row R e.symm; omega)).other (by show B ≠ R; omega) _, ?_, ?_⟩
  · exact (h.p.apart k (fun e => by have := row B e.symm; omega)).set 2 (by simp) (.slice (some ⟨g, 0, none⟩) n c)
  · exact o.set_other _ (fun e => by have := Option.some.inj (show some g = some B from e); omega)
theorem Pd.setF {w : World} {C R B : Nat} {a : Option Addr} {len cap : Nat} {W : World} {fr pa : Int} {v : Value} {ws : List Wn} (h : Pd w C R B a len cap W fr pa v ws) (x : Int) : Pd w C R B a len cap (W.setCell ⟨B, 0, none⟩ (.int .i64 x)) x pa v ws := by
  have cb := h.cb
  exact ⟨setDr h.d (by omega) h.inn, h.inn, cb, h.r.other (by show B ≠ R; omega) _, h.p.set 0 (by simp) _, h.o.set_other _ (fun e => by have := (h.o.lies B e).1; omega)⟩
/-- Windows that were drawn so far, the last one ending ahead of A. -/
structure PdW (pa : Int) (ws : List Wn) (A : Int) : Prop where
  w : ∀ k, k < ws.length → (0 ≤ (elAt ws k).a0 ∧ (elAt ws k).a0 < pa) ∧ (1 ≤ (elAt ws k).a2 ∧ (elAt ws k).a2 ≤ 8) ∧ pwE ws k ≤ (elAt ws k).a1
  e : pwE ws ws.length ≤ A
  b : A ≤ 4 + 12 * (ws.length : Int)
theorem pwE_app {ws : List Wn} {x : Wn} : ∀ k, k ≤ ws.length → pwE (ws ++ [x]) k = pwE ws k
  | 0, _ => rfl
  | k + 1, hk => by
    show (elAt (ws ++ [x]) k).a1 + (elAt (ws ++ [x]) k).a2 = _
    rw [(elAt_app ws x).1 k (by omega)]
    rfl
theorem PdW.push {pa : Int} {ws : List Wn} {A A' p l : Int} (h : PdW pa ws A) (hp : 0 ≤ p ∧ p < pa) (hl : 1 ≤ l ∧ l ≤ 8) (h1 : A + l ≤ A') (h2 : A' ≤ A + 12) : PdW pa (ws ++ [⟨p, A, l⟩]) A' := by
  have hb := h.b
  refine ⟨fun k hk => ?_, ?_, by simp; omega⟩
  · by_cases q : k < ws.length
    · rw [(elAt_app ws _).1 k q, pwE_app k (by omega)]
      exact h.w k q
    · obtain rfl : k = ws.length := by simp at hk; omega
      rw [(elAt_app ws _).2, pwE_app _ (Nat.le_refl _)]
      exact ⟨hp, hl, h.e⟩
  · have e : (ws ++ [(⟨p, A, l⟩ : Wn)]).length = ws.length + 1 := by simp
    rw [e]
    show (elAt (ws ++ [(⟨p, A, l⟩ : Wn)]) ws.length).a1 + (elAt (ws ++ [(⟨p, A, l⟩ : Wn)]) ws.length).a2 ≤ A'
    rw [(elAt_app ws _).2]
    exact h1
theorem pwE_up {pa A : Int} {ws : List Wn} (h : PdW pa ws A) : ∀ d j, j + d ≤ ws.length → pwE ws j ≤ pwE ws (j + d)
  | 0, _, _ => Int.le_refl _
  | d + 1, j, hj => by
    have ih := pwE_up h d j (by omega)
    have w := h.w (j + d) (by omega)
    show pwE ws j ≤ (elAt ws (j + d)).a1 + (elAt ws (j + d)).a2
    omega
theorem PdW.plan {pa A fr : Int} {ws : List Wn} (h : PdW pa ws A) (hl : ws.length ≤ 6) (hpa : 1 ≤ pa ∧ pa ≤ 4) (hA : 0 ≤ A) (h1 : A + 1 ≤ fr) (h2 : fr ≤ A + 10) : ppB fr pa ws = true ∧ fr ≤ 100 := by
  have hb := h.b
  refine ⟨?_, by omega⟩
  simp only [ppB, Bool.and_eq_true, decide_eq_true_eq]
  refine ⟨⟨⟨by simp only [inB, decide_eq_true_eq]; omega, by simp only [inB, decide_eq_true_eq]; omega⟩, by omega⟩, pwB_yes (fun k hk => ?_)⟩
  have w := h.w k hk
  have u := pwE_up h (ws.length - (k + 1)) (k + 1) (by omega)
  rw [show k + 1 + (ws.length - (k + 1)) = ws.length by omega] at u
  have u2 : (elAt ws k).a1 + (elAt ws k).a2 ≤ pwE ws ws.length := u
  have e := h.e
  simp only [wnB, inB, Bool.and_eq_true, decide_eq_true_eq]
  omega

end Go.Proofs.Ytndhiecakojjgaf

namespace Go.Proofs.Ytndhiecakojjgaf
open Go.RowKit

set_option maxRecDepth 20000 in
set_option maxHeartbeats 4000000 in
theorem l17Draw_any {w : World} {C : Nat} {a : Option Addr} {len cap : Nat} (W : World) (h : Dr w C a len cap W) (hin : ∀ b off, a = some ⟨b, off, none⟩ → b < w.heap.size) :
    Calls Try.prog 49 #[.pointer (some ⟨C, 0, none⟩)] W fun e w' => ∃ (fr pa : Int) (b : Option Addr) (c : Nat) (ws : List Wn), e = .returned (.agg #[.int .i64 fr, .int .i64 pa, .slice b ws.length c]) ∧ ppB fr pa ws = true ∧ fr ≤ 100 ∧ pa ≤ 4 ∧ ws.length ≤ 6 ∧ Dr w C a len cap w' ∧ OwnE 3 wnC w' (C + 1) 91 (.slice b ws.length c) ws := by
  have hlt := h.lt
  obtain ⟨R, hR⟩ : ∃ R, W.heap.size = R := ⟨_, rfl⟩
  obtain ⟨X0, hX0⟩ : ∃ X, X = W.alloc (Obj.cells #[.int .i64 0, .int .i64 0, .slice none 0 0] 53) := ⟨_, rfl⟩
  have bX : Below W.heap.size W X0 := by rw [hX0]; exact bel1 _
  have sX : X0.heap.size = R + 1 := by rw [hX0, ← hR]; simp
  have KR : Hid (Blk X0 R [.int .i64 0, .int .i64 0, .slice none 0 0]) := hide (by rw [hX0, ← hR]; exact Blk.new _ _)
  have DX := hide (h.below bX)
  have HX0 := hide hX0
  have HR := hide hR
  have HIN := hide hin
  have HCR : Hid (C < R) := hide (by omega)
  clear hX0 bX h hin hlt hR
  go_enter Try.func49, Try.ntmps49
  go_wp2_with fail
  rw [← unhide HX0, unhide HR]
  clear HX0
  refine (drBelow 4 _ (unhide DX) (by omega)).mono ?_
  rintro e wa ⟨xp, rfl, hxp, d, gr⟩
  have hsz := gr.size
  obtain ⟨B, hB⟩ : ∃ B, wa.heap.size = B := ⟨_, rfl⟩
  obtain ⟨pa, hpa⟩ : ∃ pa, 1 + xp = pa := ⟨_, rfl⟩
  have bpa : 1 ≤ pa ∧ pa ≤ 4 := by omega
  obtain ⟨X1, hX1⟩ : ∃ X, X = wa.alloc (Obj.cells #[.int .i64 0, .int .i64 pa, .slice none 0 0] 53) := ⟨_, rfl⟩
  have S1 : Hid (Pd w C R B a len cap X1 0 pa (.slice none 0 0) []) := hide (by
    have b1 : Below wa.heap.size wa X1 := by rw [hX1]; exact bel1 _
    have cr := unhide HCR
    refine ⟨d.below b1, unhide HIN, ⟨cr, by omega⟩, ((unhide KR).apart gr (fun e => by have := Option.some.inj e; omega)).below b1, ?_, ownW_nl _ _⟩
    rw [hX1, ← hB]; exact Blk.new _ _)
  have HX1 := hide hX1
  have HB := hide hB
  have HPA := hide hpa
  clear d gr hX1 hB hpa hsz sX KR DX
  go_upto_region 2 with fail
  rw [unhide HPA, ← unhide HX1, unhide HB]
  clear HX1 HPA
  go_wp2_with fail
  refine (drBelow 5 _ (unhide S1).d (by omega)).mono ?_
  rintro e wb1 ⟨xa, rfl, hxa, d, gr⟩
  have S1 := hide ((unhide S1).call gr d)
  clear d gr
  go_wp2_with fail
  refine (drBelow 7 _ (unhide S1).d (by omega)).mono ?_
  rintro e wb2 ⟨xk, rfl, hxk, d, gr⟩
  have S1 := hide ((unhide S1).call gr d)
  clear d gr
  go_wp2_with fail
  obtain ⟨kk, rfl⟩ : ∃ kk : Nat, xk = (kk : Int) := ⟨xk.toNat, by omega⟩
  go_loopw [4, 5] (fun s4 s5 wr => ∃ (k : Nat) (A : Int) (V : Value) (ws : List Wn), s4 = .int .i64 A ∧ s5 = .int .i64 (k : Int) ∧ ws.length + k ≤ 6 ∧ (0 ≤ A ∧ A ≤ 100) ∧ Hid (PdW pa ws A) ∧ Hid (Pd w C R B a len cap wr 0 pa V ws)) (fun _ s5 _ => (intOf s5).toNat)
  case atStart => exact ⟨kk, xa, _, [], rfl, rfl, by simp; omega, by omega, hide ⟨fun j hj => by simp at hj, by show (0 : Int) ≤ xa; omega, by simp; omega⟩, S1⟩
  case round =>
    clear S1
    obtain ⟨k, A, V, ws, rfl, rfl, hk, hA, HW, HS⟩ := hrel
    by_cases hk0 : 0 < k
    · obtain ⟨j, hj⟩ : ∃ j, k = j + 1 := ⟨k - 1, by omega⟩
      have hsub : (k : Int) - 1 = (j : Int) := by omega
      have hwr : IntKind.i64.wrap (j : Int) = (j : Int) := by rw [IntKind.wrap_i64]; omega
      have hkp : (0 : Int) < (k : Int) := by omega
      obtain ⟨n, hn⟩ : ∃ n, ws.length = n := ⟨_, rfl⟩
      have HN := hide hn
      have HJ := hide hj
      rw [hn] at hk
      have hnb : n ≤ 1000 := by omega
      clear hn hj
      go_wp2_with fail
      refine (drBelow 8 _ (unhide HS).d (by omega)).mono ?_
      rintro e wb ⟨xl, rfl, hxl, d, gr⟩
      have HS := hide ((unhide HS).call gr d)
      obtain ⟨lg, hlg⟩ : ∃ lg, 1 + xl = lg := ⟨_, rfl⟩
      have blg : 1 ≤ lg ∧ lg ≤ 8 := by omega
      have HLG := hide hlg
      clear d gr hlg
      have p1 : wb.cell? ⟨B, 1, none⟩ = some (.int .i64 pa) := (unhide HS).p.c 1 (by simp)
      have p2 : wb.cell? ⟨B, 2, none⟩ = some V := (unhide HS).p.c 2 (by simp)
      go_upto_region 7 with fail
      rw [unhide HLG]
      clear HLG
      go_cut [] from 22 to 33 (fun wc => ∃ (g c : Nat) (xq : Int), (0 ≤ xq ∧ xq < pa) ∧ Hid (Pd w C R B a len cap wc 0 pa (.slice (some ⟨g, 0, none⟩) (n + 1) c) (ws ++ [⟨xq, A, lg⟩])))
      case first =>
        go_region_law (first
          | ((fail_if_success have := D1); go_simp; go_wp2_with (go_at_call 32; refine (drBelow (w := w) (a := a) (len := len) (cap := cap) _ _ (by first | exact (unhide HS).d | exact ((unhide HS).below (bel0d 1)).d) (by omega)).mono ?_; rintro e u1 ⟨xq, rfl, hxq, d, gr⟩; have D1 : Hid (Pd w C R B a len cap u1 0 pa V ws) := hide (Pd.call (by first | exact unhide HS | exact (unhide HS).below (bel0d 1)) gr d); have q2 : u1.cell? ⟨B, 2, none⟩ = some V := (unhide D1).p.c 2 (by simp); have q2b : ∀ o, (u1.alloc o).cell? ⟨B, 2, none⟩ = some V := (fun o => ((unhide D1).p.alloc o).c 2 (by simp)); clear d gr))
          | (refine step_app_elG (K := 3) (cells := wnC) rfl (.tmp 23) (.tmp 31) 51 91 rfl Try.underlying51 infoWn rfl (by decide) (by decide) (Wn.mk xq A lg) [.int .i64 xq, .int .i64 A, .int .i64 lg] rfl (fun q hq => by match q, hq with | 0, _ => rfl | 1, _ => rfl | 2, _ => rfl) (fun u hu => by simp at hu; rcases hu with rfl | rfl | rfl <;> rfl) (unhide D1).o (unhide HN) (by simp [Act.eval]) rfl (by simp [Act.eval]) (unhide D1).here (by omega) ?_; intro g9 c9 w9 o9 gr9 _; have p9 : w9.cell? ⟨B, 2, none⟩ = some V := ((unhide D1).p.apart gr9 (fun e => by have := ((unhide D1).o.lies B e.symm).1; omega)).c 2 (by simp); have f9 : w9.frozen? ⟨B, 2, none⟩ = false := ((unhide D1).p.apart gr9 (fun e => by have := ((unhide D1).o.lies B e.symm).1; omega)).f 2 (by simp)))
        all_goals (
          go_wp2
          go_meet
          case rel => exact ⟨g9, c9, xq, hxq, hide ((unhide D1).push o9 gr9)⟩)
      case rest =>
        clear HS p1 p2
        obtain ⟨g, c, xq, hxq, HS⟩ := hcut
        go_wp2_with fail
        refine (drBelow 5 _ (unhide HS).d (by omega)).mono ?_
        rintro e wd ⟨x5, rfl, hx5, d, gr⟩
        have HS := hide ((unhide HS).call gr d)
        clear d gr
        go_wp2_with fail
        refine (drBelow 2 _ (unhide HS).d (by omega)).mono ?_
        rintro e we ⟨x2, rfl, hx2, d, gr⟩
        have HS := hide ((unhide HS).call gr d)
        clear d gr
        have m5 : 0 ≤ x5 * x2 ∧ x5 * x2 ≤ 4 := by
          rcases (show x2 = 0 ∨ x2 = 1 by omega) with e | e
          · subst e; omega
          · subst e; omega
        obtain ⟨y5, hy5⟩ : ∃ y, x5 * x2 = y := ⟨_, rfl⟩
        rw [hy5] at m5
        go_wp2_with fail
        go_roundw
        case rel => exact ⟨j, A + lg + y5, _, ws ++ [⟨xq, A, lg⟩], rfl, by go_num, by have := unhide HJ; have := unhide HN; simp; omega, by have := (unhide HW).b; have := unhide HN; omega, hide ((unhide HW).push hxq blg (by omega) (by omega)), HS⟩
        case measure => simp [intOf]; have := unhide HJ; omega
    · have hkp : ¬ (0 : Int) < (k : Int) := by omega
      go_wp2_with fail
      refine (drBelow 10 _ (unhide HS).d (by omega)).mono ?_
      rintro e wf ⟨xf, rfl, hxf, d, gr⟩
      have HS := hide ((unhide HS).call gr d)
      clear d gr
      have p0 : wf.cell? ⟨B, 0, none⟩ = some (.int .i64 0) := (unhide HS).p.c 0 (by simp)
      have f0 : wf.frozen? ⟨B, 0, none⟩ = false := (unhide HS).p.f 0 (by simp)
      obtain ⟨fr, hfr⟩ : ∃ fr, A + 1 + xf = fr := ⟨_, rfl⟩
      have bfr : A + 1 ≤ fr ∧ fr ≤ A + 10 := by omega
      have HFR := hide hfr
      have SF := hide ((unhide HS).setF fr)
      clear hfr
      go_upto_region 10 with fail
      rw [unhide HFR]
      clear HFR p0 f0
      obtain ⟨U, hU⟩ : ∃ U, U = wf.setCell ⟨B, 0, none⟩ (.int .i64 fr) := ⟨_, rfl⟩
      rw [← hU] at SF
      rw [← hU]
      clear hU HS
      have hpl := (unhide HW).plan (fr := fr) (by omega) bpa hA.1 bfr.1 bfr.2
      obtain ⟨bb, cc, hV⟩ : ∃ bb cc, V = .slice bb ws.length cc := by
        obtain ⟨x1, x2, x3, _⟩ := (unhide SF).o.slice
        exact ⟨x1, x2, x3⟩
      subst hV
      have KPB := hide (unhide SF).p
      have KRB := hide (unhide SF).r
      have q0 : U.cell? ⟨B, 0, none⟩ = some (.int .i64 fr) := (unhide KPB).c 0 (by simp)
      have q1 : U.cell? ⟨B, 1, none⟩ = some (.int .i64 pa) := (unhide KPB).c 1 (by simp)
      have q2 : U.cell? ⟨B, 2, none⟩ = some (.slice bb ws.length cc) := (unhide KPB).c 2 (by simp)
      go_wp2_with (((with_reducible show wpList _ _ _ (⟨none, .store 53 _ _, _, _, _, none⟩ :: _) _ _); refine at_storeAgg (us := [.int .i64 0, .int .i64 0, .slice none 0 0]) (vs := [.int .i64 fr, .int .i64 pa, .slice bb ws.length cc]) Try.sizeOf53 rfl rfl (unhide KRB) rfl (fun v hv => by simp at hv; rcases hv with rfl | rfl | rfl <;> rfl) ?_; intro w9 k9 g9; have K9 := hide k9; have G9 := hide g9; clear k9 g9))
      refine bodyPost_ret (results_cell (vs := [.int .i64 fr, .int .i64 pa, .slice bb ws.length cc]) rfl Try.isAgg53 Try.sizeOf53 rfl (unhide K9)) rfl ⟨fr, pa, bb, cc, ws, rfl, hpl.1, hpl.2, bpa.2, by omega, ?_, ?_⟩
      · have cb := (unhide SF).cb
        exact (unhide SF).d.own (unhide G9) (fun k hk => by have := Option.some.inj hk; omega) (unhide HIN)
      · have cb := (unhide SF).cb
        exact ((unhide SF).o.far (unhide G9) (fun g hg e => by have := Option.some.inj e; have := ((unhide SF).o.lies g hg).1; omega)).mono (by omega)

end Go.Proofs.Ytndhiecakojjgaf

namespace Go.Proofs.Ytndhiecakojjgaf
open Go.RowKit

/-- Jobs that are being drawn: the cursor, the list, what else stays. -/
structure Jd (w W0 : World) (C : Nat) (a : Option Addr) (len cap : Nat) (W : World) (g n c : Nat) (js : List Jb) : Prop where
  d : Dr w C a len cap W
  o : OwnE 3 jbC W W0.heap.size 108 (.slice (some ⟨g, 0, none⟩) n c) js
  l : js.length = n
  gr : W0.grownBy W (some C)
theorem Jd.call {w W0 : World} {C : Nat} {a : Option Addr} {len cap : Nat} {W W' : World} {g n c : Nat} {js : List Jb} (h : Jd w W0 C a len cap W g n c js) (hC : C < W0.heap.size) (k : W.grownBy W' (some C)) (d : Dr w C a len cap W') : Jd w W0 C a len cap W' g n c js :=
  ⟨d, h.o.far k (fun q hq e => by have := Option.some.inj e; have := (h.o.lies q hq).1; omega), h.l, ⟨k.os.trans h.gr.os, k.tape.trans h.gr.tape, k.output.trans h.gr.output, Nat.le_trans h.gr.size k.size, fun i hi hne => (k.block i (Nat.lt_of_lt_of_le hi h.gr.size) hne).trans (h.gr.block i hi hne)⟩⟩
theorem Jd.push {w W0 : World} {C : Nat} {a : Option Addr} {len cap : Nat} {W W' : World} {g n c g' c' : Nat} {js : List Jb} {z : Jb} (h : Jd w W0 C a len cap W g n c js) (hC : C < W0.heap.size) (hin : ∀ b off, a = some ⟨b, off, none⟩ → b < w.heap.size) (o : OwnE 3 jbC W' W0.heap.size 108 (.slice (some ⟨g', 0, none⟩) (n + 1) c') (js ++ [z])) (k : W.grownBy W' (Value.slice (some ⟨g, 0, none⟩) n c).ownBlock) : Jd w W0 C a len cap W' g' (n + 1) c' (js ++ [z]) :=
  ⟨h.d.own k (fun q hq => by have := (h.o.lies q hq).1; omega) hin, o, by simp [h.l], grown_pastN h.gr k (fun q hq => (h.o.lies q hq).1)⟩
theorem ne_own {w : World} {C R : Nat} {T : TypeId} {v : Value} {ws : List Wn} (h : OwnE 3 wnC w (C + 1) T v ws) (hR : R < C) : v.ownBlock ≠ some R := fun e => by have := (h.lies R e).1; omega
theorem ne_ownJ {w : World} {C R : Nat} {T : TypeId} {v : Value} {js : List Jb} (h : OwnE 3 jbC w (C + 1) T v js) (hR : R < C) : v.ownBlock ≠ some R := fun e => by have := (h.lies R e).1; omega
theorem jb_app {pa : Int} {js : List Jb} {x : Jb} (h : ∀ k, k < js.length → jbB pa (elAt js k) = true) (hx : jbB pa x = true) : ∀ k, k < (js ++ [x]).length → jbB pa (elAt (js ++ [x]) k) = true := by
  intro k hk
  by_cases e : k < js.length
  · rw [(elAt_app js x).1 k e]; exact h k e
  · obtain rfl : k = js.length := by simp at hk; omega
    rw [(elAt_app js x).2]; exact hx

set_option maxRecDepth 20000 in
set_option maxHeartbeats 4000000 in
theorem l17DrawJobs_any {w : World} {C : Nat} {a : Option Addr} {len cap : Nat} (pa : Int) (W : World) (h : Dr w C a len cap W) (hin : ∀ b off, a = some ⟨b, off, none⟩ → b < w.heap.size) (hpa : 1 ≤ pa ∧ pa ≤ 4) :
    Calls Try.prog 50 #[.pointer (some ⟨C, 0, none⟩), .int .i64 pa] W fun e w' => ∃ (g c : Nat) (js : List Jb), e = .returned (.slice (some ⟨g, 0, none⟩) js.length c) ∧ js.length ≤ 5 ∧ jbAll pa js = true ∧ Dr w C a len cap w' ∧ OwnE 3 jbC w' W.heap.size 108 (.slice (some ⟨g, 0, none⟩) js.length c) js ∧ W.grownBy w' (some C) := by
  have HC0 := hide h.lt
  have HIN := hide hin
  obtain ⟨X0, hX0⟩ : ∃ X, X = W.alloc (Obj.cells #[] 108) := ⟨_, rfl⟩
  have bX : Below W.heap.size W X0 := by rw [hX0]; exact bel1 _
  have HS : Hid (Jd w W C a len cap X0 W.heap.size 0 0 []) := hide ⟨h.below bX, by rw [hX0]; exact ownE_none (Nat.le_refl _), rfl, ⟨bX.os, bX.tape, bX.output, bX.size, fun i hi _ => bX.block i hi⟩⟩
  have HX0 := hide hX0
  clear hX0 bX h hin
  go_enter Try.func50, Try.ntmps50
  go_wp2_with fail
  rw [← unhide HX0]
  clear HX0
  refine (drBelow 6 _ (unhide HS).d (by omega)).mono ?_
  rintro e wk ⟨xk, rfl, hxk, d, gr⟩
  have HS := hide ((unhide HS).call (unhide HC0) gr d)
  clear d gr
  obtain ⟨kk, rfl⟩ : ∃ kk : Nat, xk = (kk : Int) := ⟨xk.toNat, by omega⟩
  go_wp2_with fail
  go_loopw [5, 6] (fun s5 s6 wr => ∃ (k g c n : Nat) (js : List Jb), s5 = .slice (some ⟨g, 0, none⟩) n c ∧ s6 = .int .i64 (k : Int) ∧ n + k ≤ 5 ∧ Hid (∀ j, j < js.length → jbB pa (elAt js j) = true) ∧ Hid (Jd w W C a len cap wr g n c js)) (fun _ s6 _ => (intOf s6).toNat)
  case atStart => exact ⟨kk, _, 0, 0, [], rfl, rfl, by omega, hide (fun j hj => by simp at hj), HS⟩
  case round =>
    clear HS
    obtain ⟨k, g, c, n, js, rfl, rfl, hk, HE, HS⟩ := hrel
    by_cases hk0 : 0 < k
    · obtain ⟨j, hj⟩ : ∃ j, k = j + 1 := ⟨k - 1, by omega⟩
      have hsub : (k : Int) - 1 = (j : Int) := by omega
      have hwr : IntKind.i64.wrap (j : Int) = (j : Int) := by rw [IntKind.wrap_i64]; omega
      have hkp : (0 : Int) < (k : Int) := by omega
      have HJ := hide hj
      have hmx : max 1 pa = pa := by omega
      clear hj
      go_wp2_with (go_at_call 66; refine (mxs_is _ _ _ hmx).mono ?_; rintro e w' ⟨rfl, hw⟩; subst w')
      refine (drBelow pa _ (unhide HS).d (by omega)).mono ?_
      rintro e wq ⟨xq, rfl, hxq, d, gr⟩
      have HS := hide ((unhide HS).call (unhide HC0) gr d)
      clear d gr
      go_wp2_with fail
      refine (drBelow 60 _ (unhide HS).d (by omega)).mono ?_
      rintro e we ⟨xe, rfl, hxe, d, gr⟩
      have HS := hide ((unhide HS).call (unhide HC0) gr d)
      clear d gr
      go_wp2_with fail
      refine (drBelow 12 _ (unhide HS).d (by omega)).mono ?_
      rintro e wn ⟨xn, rfl, hxn, d, gr⟩
      have HS := hide ((unhide HS).call (unhide HC0) gr d)
      clear d gr
      obtain ⟨ev, hev⟩ : ∃ z, 1 + xe = z := ⟨_, rfl⟩
      obtain ⟨nd, hnd⟩ : ∃ z, 1 + xn = z := ⟨_, rfl⟩
      have hjb : jbB pa ⟨xq, ev, nd⟩ = true := by simp only [jbB, inB, Bool.and_eq_true, decide_eq_true_eq]; omega
      have HSZ : Hid (W.heap.size ≤ wn.heap.size) := hide (unhide HS).gr.size
      go_wp2_with (at_builtin; (refine wpList_app_elG (K := 3) (cells := jbC) rfl _ _ 54 108 rfl Try.underlying54 infoJb rfl (by decide) (by decide) (Jb.mk xq ev nd) [.int .i64 xq, .int .i64 ev, .int .i64 nd] rfl (fun q hq => by match q, hq with | 0, _ => rfl | 1, _ => rfl | 2, _ => rfl) (fun u hu => by simp at hu; rcases hu with rfl | rfl | rfl <;> rfl) (unhide HS).o (unhide HS).l rfl (by simp) rfl (unhide HSZ) (by omega) ?_; intro g' c' w9 o9 gr9 _; have H9 := hide ((unhide HS).push (unhide HC0) (unhide HIN) o9 gr9); clear o9 gr9))
      go_roundw
      case rel => exact ⟨j, g', c', n + 1, js ++ [⟨xq, ev, nd⟩], rfl, by go_num, by have := unhide HJ; omega, hide (jb_app (unhide HE) hjb), H9⟩
      case measure => simp [intOf]; have := unhide HJ; omega
    · have hkp : ¬ (0 : Int) < (k : Int) := by omega
      go_wp2_with fail
      go_ret
      refine ⟨g, c, js, ?_, ?_, ?_, (unhide HS).d, ?_, (unhide HS).gr⟩
      · rw [(unhide HS).l]; rfl
      · rw [(unhide HS).l]; omega
      · exact decide_eq_true (unhide HE)
      · rw [(unhide HS).l]; exact (unhide HS).o

set_option maxRecDepth 20000 in
set_option maxHeartbeats 4000000 in
theorem drawPlan17_any (a : Option Addr) (len cap : Nat) (w : World) (hb : Bytes w a len) (hin : ∀ b off, a = some ⟨b, off, none⟩ → b < w.heap.size) :
    Calls Try.prog 24 #[.slice a len cap] w fun e w' => ∃ (fr pa : Int) (bb : Option Addr) (cc : Nat) (ws : List Wn) (g c : Nat) (js : List Jb), e = .returned (.tuple #[.agg #[.int .i64 fr, .int .i64 pa, .slice bb ws.length cc], .slice (some ⟨g, 0, none⟩) js.length c]) ∧ ppB fr pa ws = true ∧ fr ≤ 100 ∧ pa ≤ 4 ∧ ws.length ≤ 6 ∧ js.length ≤ 5 ∧ jbAll pa js = true ∧ OwnE 3 wnC w' w.heap.size 91 (.slice bb ws.length cc) ws ∧ OwnE 3 jbC w' w.heap.size 108 (.slice (some ⟨g, 0, none⟩) js.length c) js ∧ Below w.heap.size w w' := by
  obtain ⟨R, hR⟩ : ∃ R, w.heap.size = R := ⟨_, rfl⟩
  obtain ⟨W, hW⟩ : ∃ W, W = w.alloc (Obj.cells #[.int .i64 0, .int .i64 0, .slice none 0 0] 53) := ⟨_, rfl⟩
  have bW : Below w.heap.size w W := by rw [hW]; exact bel1 _
  have KR : Hid (Blk W R [.int .i64 0, .int .i64 0, .slice none 0 0]) := hide (by rw [hW, ← hR]; exact Blk.new _ _)
  have HBY := hide (hb.below bW)
  have HIN : Hid (∀ b off, a = some ⟨b, off, none⟩ → b < W.heap.size) := hide (fun b off e => Nat.lt_of_lt_of_le (hin b off e) bW.size)
  have HBW := hide bW
  have HW := hide hW
  have HR := hide hR
  clear hW bW hb hin hR
  go_enter Try.func24, Try.ntmps24
  go_wp2_with fail
  rw [← unhide HW, unhide HR]
  clear HW
  refine (drNew a len cap W (unhide HBY) (unhide HIN)).mono ?_
  rintro e wa ⟨rfl, d, _⟩
  obtain ⟨C, hC⟩ : ∃ C, W.heap.size = C := ⟨_, rfl⟩
  rw [hC] at d
  rw [hC]
  have DA := hide d
  have HC := hide hC
  clear d hC
  go_wp2_with fail
  refine (l17Draw_any wa (unhide DA) (unhide HIN)).mono ?_
  rintro e wb ⟨fr, pa, bb, cc, ws, rfl, hpp, hfr, hpa, hwl, d, ow⟩
  have f0 := ppB_facts hpp
  have hpa1 : 1 ≤ pa ∧ pa ≤ 4 := by omega
  obtain ⟨P, hP⟩ : ∃ P, wb.heap.size = P := ⟨_, rfl⟩
  obtain ⟨X, hX⟩ : ∃ X, X = wb.alloc (Obj.cells #[.int .i64 fr, .int .i64 pa, .slice bb ws.length cc] 53) := ⟨_, rfl⟩
  have bX : Below wb.heap.size wb X := by rw [hX]; exact bel1 _
  have KP : Hid (Blk X P [.int .i64 fr, .int .i64 pa, .slice bb ws.length cc]) := hide (by rw [hX, ← hP]; exact Blk.new _ _)
  have DX := hide (d.below bX)
  have OX := hide (ow.below bX)
  have hCR : R < C := by have h1 := (unhide KR).lt; have h2 := unhide HC; omega
  have hCP : C < P := by have := d.lt; omega
  have HPP := hide hpp
  have HX := hide hX
  have HP := hide hP
  clear d ow bX hX hP DA hpp f0
  go_upto_region 3 with fail
  rw [← unhide HX, unhide HP]
  clear HX
  have KX := hide ((unhide KR).below (unhide DX).bel)
  have p0 : X.cell? ⟨P, 0, none⟩ = some (.int .i64 fr) := (unhide KP).c 0 (by simp)
  have p1 : X.cell? ⟨P, 1, none⟩ = some (.int .i64 pa) := (unhide KP).c 1 (by simp)
  have p2 : X.cell? ⟨P, 2, none⟩ = some (.slice bb ws.length cc) := (unhide KP).c 2 (by simp)
  go_cut [3] from 10 to 14 (fun s3 wc => ∃ (g c : Nat) (js : List Jb), s3 = .slice (some ⟨g, 0, none⟩) js.length c ∧ Hid (js.length ≤ 5 ∧ jbAll pa js = true) ∧ Hid (Blk wc R [.int .i64 fr, .int .i64 pa, .slice bb ws.length cc]) ∧ Hid (OwnE 3 wnC wc (C + 1) 91 (.slice bb ws.length cc) ws) ∧ Hid (OwnE 3 jbC wc (C + 1) 108 (.slice (some ⟨g, 0, none⟩) js.length c) js) ∧ Hid (Below w.heap.size w wc))
  case first =>
    go_region_law (first
      | ((fail_if_success have := D1); go_simp; go_wp2_with (go_at_call 50; refine (l17DrawJobs_any (w := W) (a := a) (len := len) (cap := cap) pa _ (by first | exact unhide DX | exact (unhide DX).below (bel0d 1)) (unhide HIN) hpa1).mono ?_; rintro e u1 ⟨g, c, js, rfl, hjl, hja, d, oj, gr⟩; have D1 : Hid (Dr W C a len cap u1) := hide d; have KU : Hid (Blk u1 R [.int .i64 0, .int .i64 0, .slice none 0 0]) := hide ((unhide KR).below d.bel); have KPU : Hid (Blk u1 P [.int .i64 fr, .int .i64 pa, .slice bb ws.length cc]) := hide (Blk.apart (by first | exact unhide KP | exact (unhide KP).below (bel0d 1)) gr (fun e => by have := Option.some.inj e; omega)); have OWU : Hid (OwnE 3 wnC u1 (C + 1) 91 (.slice bb ws.length cc) ws) := hide (OwnE.far (by first | exact unhide OX | exact (unhide OX).below (bel0d 1)) gr (fun q hq e => by have := Option.some.inj e; have := ((unhide OX).lies q hq).1; omega)); have OJU : Hid (OwnE 3 jbC u1 (C + 1) 108 (.slice (some ⟨g, 0, none⟩) js.length c) js) := hide (oj.mono (by have := (unhide KP).lt; first | omega | (simp; omega))); have HJJ : Hid (js.length ≤ 5 ∧ jbAll pa js = true) := hide ⟨hjl, hja⟩; have q0 : u1.cell? ⟨P, 0, none⟩ = some (.int .i64 fr) := (unhide KPU).c 0 (by simp); have q1 : u1.cell? ⟨P, 1, none⟩ = some (.int .i64 pa) := (unhide KPU).c 1 (by simp); have q2 : u1.cell? ⟨P, 2, none⟩ = some (.slice bb ws.length cc) := (unhide KPU).c 2 (by simp); have r0 : u1.cell? ⟨R, 0, none⟩ = some (.int .i64 0) := (unhide KU).c 0 (by simp); have r1 : u1.cell? ⟨R, 1, none⟩ = some (.int .i64 0) := (unhide KU).c 1 (by simp); have r2 : u1.cell? ⟨R, 2, none⟩ = some (.slice none 0 0) := (unhide KU).c 2 (by simp); have z0 : u1.frozen? ⟨R, 0, none⟩ = false := (unhide KU).f 0 (by simp); have z1 : u1.frozen? ⟨R, 1, none⟩ = false := (unhide KU).f 1 (by simp); have z2 : u1.frozen? ⟨R, 2, none⟩ = false := (unhide KU).f 2 (by simp); clear d oj gr hjl hja))
      | fail)
    all_goals (
      go_wp2
      go_meet
      case rel => exact ⟨g, c, js, rfl, HJJ, hide ((((unhide KU).set 0 (by simp) _).set 1 (by simp) _).set 2 (by simp) _), hide ((((unhide OWU).set_other _ (ne_own (unhide OWU) hCR)).set_other _ (ne_own (unhide OWU) hCR)).set_other _ (ne_own (unhide OWU) hCR)), hide ((((unhide OJU).set_other _ (ne_ownJ (unhide OJU) hCR)).set_other _ (ne_ownJ (unhide OJU) hCR)).set_other _ (ne_ownJ (unhide OJU) hCR)), hide (((((unhide HBW).trans ((unhide D1).bel.mono (unhide HBW).size)).setCell (p := ⟨R, 0, none⟩) (by have := unhide HR; show w.heap.size ≤ R; omega) _).setCell (p := ⟨R, 1, none⟩) (by have := unhide HR; show w.heap.size ≤ R; omega) _).setCell (p := ⟨R, 2, none⟩) (by have := unhide HR; show w.heap.size ≤ R; omega) _)⟩)
  case rest =>
    obtain ⟨g, c, js, rfl, HJJ, KE, OWE, OJE, BE⟩ := hcut
    go_wp2_with fail
    have hRw := unhide HR
    refine bodyPost_ret (results_cellB (x := .slice (some ⟨g, 0, none⟩) js.length c) (vs := [.int .i64 fr, .int .i64 pa, .slice bb ws.length cc]) rfl Try.isAgg53 Try.sizeOf53 rfl (unhide KE) rfl) rfl ⟨fr, pa, bb, cc, ws, g, c, js, rfl, unhide HPP, hfr, hpa, hwl, (unhide HJJ).1, (unhide HJJ).2, (unhide OWE).mono (by omega), (unhide OJE).mono (by omega), unhide BE⟩

end Go.Proofs.Ytndhiecakojjgaf

/-
  What FromRoots answers in the program: the plain coefficients. No condition; nothing that was there is written.
-/
import Derived.Test.YtomcbbpaajpeiaaCxImpl
import Derived.Test.YtomcbbpaajpeiaaMSbIs
import Derived.Test.YtomcbbpaajpeiaaOwnZ
import Derived.Deep.DrawnRows
namespace Go.Proofs.Ytomcbbpaajpeiaa
open Go.RowKit
attribute [local go_sem] run_store_float run_store_complex
attribute [local go_sem ↓] Go.wp_at_zero Go.wp_at_succ

theorem infoCI : (Try.prog.info? 31).map (fun i => (i.zero, i.size, i.bytes)) = some (some (.agg #[.float .f64 0, .float .f64 0]), 2, 16) := by kernel_rfl
theorem infoZ : (Try.prog.info? 50).map (fun i => (i.zero, i.size, i.bytes)) = some (some (.complex .f64 0 0), 1, 16) := by kernel_rfl

set_option maxRecDepth 20000 in
set_option maxHeartbeats 20000000 in
theorem implFromRoots_any (ad : Option Addr) (len cap : Nat) (ps : List (Nat × Nat)) (w : World) (hr : RowC w ad len ps) :
    Calls Try.prog 13 #[.slice ad len cap] w fun e w' => ∃ v q, e = .returned (.tuple #[v, .bool (fromB ps)]) ∧ OwnC w' w.heap.size 31 v q ∧ AlikeL q (fromR ps) ∧ Below w.heap.size w w' := by
  have hz := hr.len_eq
  have hs := hr.small
  have HO := hide hr.open_
  clear hr
  subst hz
  obtain ⟨i0, hii, hz0, hz1, hz2⟩ := info_parts infoCI
  obtain ⟨iz, hiz, hy0, hy1, hy2⟩ := info_parts infoZ
  obtain ⟨F, G, N, hrun, hF, hG⟩ := run_cless_all (P := Try.prog) 50
  by_cases hlen : ps.length ≤ 11
  · have HN := hide (show fromB ps = true from decide_eq_true hlen)
    go_enter Try.func13, Try.ntmps13
    go_wp2
    go_loopw [5, 19] (fun o kk wr => ∃ (k L g cp : Nat) (l : List (Nat × Nat)), k ≤ ps.length ∧ kk = .int .i64 (k : Nat) ∧ o = .slice (some ⟨g, 0, none⟩) L cp ∧ L = k + 1 ∧ l.length = L ∧ OwnZ wr w.heap.size 50 (.slice (some ⟨g, 0, none⟩) L cp) l ∧ AlikeL l (fromL ps k) ∧ g ≠ w.heap.size ∧ OwnC wr w.heap.size 31 (.slice (some ⟨w.heap.size, 0, none⟩) 0 0) [] ∧ Below w.heap.size w wr) (fun _ i _ => ps.length - (intOf i).toNat)
    case atStart => exact ⟨0, 1, _, _, [(one64c, 0)], Nat.zero_le _, rfl, rfl, rfl, rfl, by simpa [one64c] using ownZ_lit (w.alloc (Obj.cells #[] 31)) w.heap.size 50 one64c 0 (by simp), ⟨rfl, fun _ => .refl _ _, fun _ => .refl _ _⟩, by omega, (ownC_none w _ _ (Nat.le_refl _)).below (bel1 _), bel2 _ _⟩
    case round =>
      obtain ⟨k, L, g, cp, l, hk, rfl, rfl, hLk, hl, hZ, hal, hgw, hT, hbel⟩ := hrel
      have HL := hide hl
      have HLK := hide hLk
      have hL1 : k + 1 ≤ L := by omega
      have hL2 : L ≤ k + 1 := by omega
      have HAL := hide hal
      clear hal hl hLk
      by_cases hlt : k < ps.length
      · rcases (unhide HO) with ⟨h0, _⟩ | ⟨bb, off, rfl, _, hc⟩
        · omega
        obtain ⟨ra, rb⟩ := hc k hlt
        have ra := (hbel.cell (block_lt_of_cell ra)).trans ra
        have rb := (hbel.cell (block_lt_of_cell rb)).trans rb
        have hi1 : (0 : Int) ≤ (k : Int) := by omega
        have hi2 : (k : Int) < (ps.length : Int) := by omega
        have hgl := hZ.liesIn g rfl
        have zw := hbel.size
        obtain ⟨vs, hown, hvx⟩ := hZ.own
        rw [unhide HL] at hown
        have hownA := ownsRow_below (ownsRow_below hown (bel1 (Obj.cells #[.float .f64 (reAt ps k), .float .f64 (imAt ps k)] 31))) (bel1 (Obj.cells #[.complex .f64 0 0] 50))
        have hnews : ∀ j u, [Value.complex .f64 0 0][j]? = some u → ((wr.alloc (Obj.cells #[.float .f64 (reAt ps k), .float .f64 (imAt ps k)] 31)).alloc (Obj.cells #[.complex .f64 0 0] 50)).cell? ((⟨wr.heap.size + 1, 0, none⟩ : Addr).add j) = some u := by
          have h := World.news_of_block (heap_alloc_new (wr.alloc (Obj.cells #[.float .f64 (reAt ps k), .float .f64 (imAt ps k)] 31)) (Obj.cells #[.complex .f64 0 0] 50))
          simpa using h
        have HVX := hide hvx
        have HVL := hide hown.1
        have HB := hide hbel
        have OT := hide hT
        clear hc hZ hT hbel hown hvx
        go_wp2_with (at_builtin; refine wpList_append_lies _ rfl _ _ 55 rfl w.heap.size 50 iz (.complex .f64 0 0) 1 16 Try.underlying55 hiz hy0 hy1 hy2 rfl (by decide) (.slice (some ⟨g, 0, none⟩) L cp) L vs rfl hownA ⟨wr.heap.size + 1, 0, none⟩ 1 1 [.complex .f64 0 0] rfl rfl hnews (by simp [Value.oneCell']) (by decide) (by unfold maxLen; omega) (by omega) (by simp; omega) _ rfl ?_; intro g' cap3 w9 hown9 hgrow hat hlt9)
        have hml := unhide HL
        have rne : wr.heap.size ≠ g := by omega
        have hlW : wr.heap.size < ((wr.alloc (Obj.cells #[.float .f64 (reAt ps k), .float .f64 (imAt ps k)] 31)).alloc (Obj.cells #[.complex .f64 0 0] 50)).heap.size := by simp; omega
        have r0 : w9.cell? ⟨wr.heap.size, 0, none⟩ = some (.float .f64 (reAt ps k)) := (hgrow.cell_far ⟨wr.heap.size, 0, none⟩ hlW (fun e => rne (by injection e))).trans (by simp [go_sem])
        have r1 : w9.cell? ⟨wr.heap.size, 1, none⟩ = some (.float .f64 (imAt ps k)) := (hgrow.cell_far ⟨wr.heap.size, 1, none⟩ hlW (fun e => rne (by injection e))).trans (by simp [go_sem])
        have OZ : Hid (OwnZ w9 w.heap.size 50 (.slice (some ⟨g', 0, none⟩) (L + 1) cap3) (l ++ [(0, 0)])) := hide (ownZ_push (by rw [hml]; exact hown9) (by rw [hml]; exact unhide HVL) (unhide HVX))
        have OT := hide ((((unhide OT).below (bel1 _)).below (bel1 _)).far hgrow (fun g0 e => by cases e; exact fun e2 => hgw (by injection e2 with e2; exact e2.symm)))
        have B1 : Hid (Below w.heap.size w w9) := hide (Below.grown ((unhide HB).trans ((bel2 _ _).mono zw)) hgrow (by simp; omega) (fun i hi => by cases hi; exact hgl.1))
        have hg1 : g' ≠ w.heap.size ∧ g' ≠ wr.heap.size ∧ w.heap.size ≤ g' := by
          rcases hat with e | e
          · have e : g = g' := by injection e
            omega
          · simp at e; omega
        have HLEN : Hid ((l ++ [(0, 0)]).length = L + 1) := hide (by simp [hml])
        have HALF : Hid (Half (l ++ [(0, 0)]) l (reAt ps k) (imAt ps k) L) := hide (by rw [← hml]; exact Half.start _ _)
        obtain ⟨rB, hrB⟩ : ∃ rB, rB = wr.heap.size := ⟨_, rfl⟩
        obtain ⟨M, hM⟩ : ∃ M, M = L + 1 := ⟨_, rfl⟩
        rw [← hrB] at r0 r1 hg1 ⊢
        rw [← hM] at OZ HLEN ⊢
        have hM1 : L + 1 ≤ M := by omega
        have hM2 : M ≤ L + 1 := by omega
        have HM := hide hM
        clear hown9 hgrow hat hlt9 hownA hnews hml hrB hM hlW rne ra rb
        go_loopw [8] (fun ii wi => ∃ (i : Nat) (q : List (Nat × Nat)), i ≤ L ∧ ii = .int .i64 (i : Nat) ∧ q.length = M ∧ OwnZ wi w.heap.size 50 (.slice (some ⟨g', 0, none⟩) M cap3) q ∧ Half q l (reAt ps k) (imAt ps k) i ∧ wi.cell? ⟨rB, 0, none⟩ = some (.float .f64 (reAt ps k)) ∧ wi.cell? ⟨rB, 1, none⟩ = some (.float .f64 (imAt ps k)) ∧ OwnC wi w.heap.size 31 (.slice (some ⟨w.heap.size, 0, none⟩) 0 0) [] ∧ Below w.heap.size w wi) (fun i _ => (intOf i).toNat)
        case atStart => exact ⟨L, _, Nat.le_refl _, rfl, unhide HLEN, unhide OZ, unhide HALF, r0, r1, unhide OT, unhide B1⟩
        case round =>
          obtain ⟨i, q, hiL, rfl, hql, hZq, hhalf, r0, r1, hT, hb⟩ := hrel
          have OZ := hide hZq
          have OT := hide hT
          have B1 := hide hb
          have HQL := hide hql
          have HH := hide hhalf
          have hZl : OwnZ wr w.heap.size 50 (.slice (some ⟨g', 0, none⟩) q.length cap3) q := by rw [hql]; exact hZq
          by_cases hpos : 0 < i
          · obtain ⟨i1, hi⟩ : ∃ i1, i = i1 + 1 := ⟨i - 1, by omega⟩
            obtain ⟨e0, f0⟩ := hZl.here i (by omega)
            obtain ⟨e1, _⟩ := hZl.here i1 (by omega)
            rw [(hhalf.old i (Nat.le_refl _)).1, (hhalf.old i (Nat.le_refl _)).2] at e0
            rw [(hhalf.old i1 (by omega)).1, (hhalf.old i1 (by omega)).2] at e1
            have hsub : ((i : Int) - 1) = ((i1 : Nat) : Int) := by omega
            have hwr : IntKind.i64.wrap ((i1 : Nat) : Int) = ((i1 : Nat) : Int) := by rw [IntKind.wrap_i64]; omega
            have k1 : (i : Int) < (M : Int) := by omega
            have k2 : (i1 : Int) < (M : Int) := by omega
            have k3 : (0 : Int) ≤ (i1 : Int) := by omega
            have k4 : (0 : Int) < (i : Int) := by omega
            have HI := hide hi
            have hii1 : i1 + 1 ≤ i := by omega
            have hii2 : i ≤ i1 + 1 := by omega
            clear hi hZl hZq hT hb hql hhalf
            go_wp2
            go_region_with ((first
              | (go_at_call 19; refine (complexOf_any _ _ _).mono ?_; rintro e w3 ⟨rfl, b3⟩; have f0 := (b3.frozen (block_lt_of_cell e0)).trans f0; have e0 := (b3.cell (block_lt_of_cell e0)).trans e0; have e1 := (b3.cell (block_lt_of_cell e1)).trans e1; have r0 := (b3.cell (block_lt_of_cell r0)).trans r0; have r1 := (b3.cell (block_lt_of_cell r1)).trans r1; have OZ := hide (show OwnZ w3 _ _ _ _ from by first | exact (unhide OZ).below b3 | exact ((unhide OZ).drewN _).below b3); have OT := hide (show OwnC w3 _ _ _ _ from by first | exact (unhide OT).below b3 | exact ((unhide OT).drewN _).below b3); have B1 := hide (show Below w.heap.size w w3 from by first | exact (unhide B1).trans (b3.mono (unhide B1).size) | exact ((unhide B1).trans (bel0d' _)).trans (b3.mono (unhide B1).size)); clear b3)
              | (go_at_call 22; refine (product_any _ _ _ _ _).mono ?_; rintro e w4 ⟨x1, y1, rfl, j1, j2, n3, rfl⟩)))
            all_goals (
              have hZ3 : OwnZ w3 w.heap.size 50 (.slice (some ⟨g', 0, none⟩) q.length cap3) q := by rw [unhide HQL]; exact unhide OZ
              have OZ2 : Hid (∀ m X Y, OwnZ ((w3.drewN m).setCell ⟨g', i, none⟩ (.complex .f64 X Y)) w.heap.size 50 (.slice (some ⟨g', 0, none⟩) M cap3) (q.set i (X, Y))) := hide (fun m X Y => by
                have h := (hZ3.drewN m).set i (by rw [unhide HQL]; omega) X Y
                rw [unhide HQL] at h
                exact h)
              have AX : Hid (∀ W, Alike .f64 (F (reAt l i) (imAt l i) x1 y1 W) (nRe l (reAt ps k) (imAt ps k) i)) := hide (fun W => by
                have h := (hF (reAt l i) (imAt l i) x1 y1 W).trans (Alike.fl (.refl _ _) j1)
                have e : nRe l (reAt ps k) (imAt ps k) i = fl .sub .f64 (reAt l i) (tRe (reAt l i1) (imAt l i1) (reAt ps k) (imAt ps k)) := by rw [unhide HI]; rfl
                rw [e]; exact h)
              have AY : Hid (∀ W, Alike .f64 (G (reAt l i) (imAt l i) x1 y1 W) (nIm l (reAt ps k) (imAt ps k) i)) := hide (fun W => by
                have h := (hG (reAt l i) (imAt l i) x1 y1 W).trans (Alike.fl (.refl _ _) j2)
                have e : nIm l (reAt ps k) (imAt ps k) i = fl .sub .f64 (imAt l i) (tIm (reAt l i1) (imAt l i1) (reAt ps k) (imAt ps k)) := by rw [unhide HI]; rfl
                rw [e]; exact h)
              have HST : Hid (∀ X Y, Alike .f64 X (nRe l (reAt ps k) (imAt ps k) i) → Alike .f64 Y (nIm l (reAt ps k) (imAt ps k) i) → Half (q.set i (X, Y)) l (reAt ps k) (imAt ps k) i1) := hide (fun X Y hX hY => by
                have h := unhide HH
                rw [unhide HI] at h hX hY ⊢
                exact h.step (by rw [unhide HQL]; omega) hX hY)
              have RC : Hid (∀ m v o, ((w3.drewN m).setCell ⟨g', i, none⟩ v).cell? ⟨rB, o, none⟩ = w3.cell? ⟨rB, o, none⟩) := hide (fun m v o => World.cell?_setCell_other _ _ _ _ (by intro e; injection e with e; exact hg1.2.1 e))
              have OT2 : Hid (∀ m v, OwnC ((w3.drewN m).setCell ⟨g', i, none⟩ v) w.heap.size 31 (.slice (some ⟨w.heap.size, 0, none⟩) 0 0) []) := hide (fun m v => ((unhide OT).drewN m).far (grown_set (grown_refl _ _) _ _) (fun g0 e => by cases e; exact fun e2 => hg1.1 (by injection e2 with e2; exact e2.symm)))
              have B2 : Hid (∀ m v, Below w.heap.size w ((w3.drewN m).setCell ⟨g', i, none⟩ v)) := hide (fun m v => (below_drewN (unhide B1) m).setCell hg1.2.2 _)
              go_wp2
              go_roundw
              case rel => exact ⟨i1, q.set i (_, _), by omega, by go_num, by rw [List.length_set]; exact unhide HQL, unhide OZ2 _ _ _, unhide HST _ _ (unhide AX _) (unhide AY _), (unhide RC _ _ _).trans r0, (unhide RC _ _ _).trans r1, unhide OT2 _ _, unhide B2 _ _⟩
              case measure => simp [intOf]; omega)
          · obtain rfl : i = 0 := by omega
            have AL : Hid (AlikeL q (fromL ps (k + 1))) := hide (hhalf.done (unhide HAL) (by rw [hql, unhide HL]; exact unhide HM))
            clear hZl hZq hT hb hql hhalf
            go_wp2
            go_roundw
            case rel => exact ⟨k + 1, M, g', cap3, q, by omega, by go_num, rfl, by omega, unhide HQL, unhide OZ, unhide AL, hg1.1, unhide OT, unhide B1⟩
            case measure => simp [intOf]; omega
      · obtain rfl : k = ps.length := by omega
        have OZ := hide hZ
        have HB := hide hbel
        have OT := hide hT
        have hgl := hZ.liesIn g rfl
        have zw := hbel.size
        clear hZ hbel hT
        go_wp2
        go_loopw [4, 52] (fun t jj wi => ∃ (j tb tc : Nat) (m : List (Nat × Nat)), j ≤ L ∧ jj = .int .i64 (j : Nat) ∧ t = .slice (some ⟨tb, 0, none⟩) j tc ∧ m.length = j ∧ OwnC wi w.heap.size 31 (.slice (some ⟨tb, 0, none⟩) j tc) m ∧ (∀ i, i < j → reAt m i = reAt l i ∧ imAt m i = imAt l i) ∧ tb ≠ g ∧ OwnZ wi w.heap.size 50 (.slice (some ⟨g, 0, none⟩) L cp) l ∧ Below w.heap.size w wi) (fun _ i _ => L - (intOf i).toNat)
        case atStart => exact ⟨0, _, _, [], Nat.zero_le _, rfl, rfl, rfl, unhide OT, fun i hi => absurd hi (Nat.not_lt_zero _), fun e => hgw e.symm, unhide OZ, unhide HB⟩
        case round =>
          obtain ⟨j, tb, tc, m, hjL, rfl, rfl, hml, hC, hme, htg, hZ2, hb⟩ := hrel
          have OC := hide hC
          have OZ := hide hZ2
          have B1 := hide hb
          have HML := hide hml
          have HME := hide hme
          have zb := hb.size
          have hZl : OwnZ wr w.heap.size 50 (.slice (some ⟨g, 0, none⟩) l.length cp) l := by rw [unhide HL]; exact hZ2
          by_cases hin : j < L
          · obtain ⟨e0, _⟩ := hZl.here j (by rw [unhide HL]; exact hin)
            have k1 : (j : Int) < (L : Int) := by omega
            have k2 : (0 : Int) ≤ (j : Int) := by omega
            clear hC hme hZ2 hb hml hZl
            go_wp2_with fail
            refine (cxOf_any _ _ _).mono ?_
            rintro e w3 ⟨rfl, b3⟩
            have OC := hide ((unhide OC).below b3)
            have OZ := hide ((unhide OZ).below b3)
            have B1 := hide ((unhide B1).trans (b3.mono (unhide B1).size))
            have z3 := (unhide B1).size
            obtain ⟨vs, hown, hvx⟩ := (unhide OC).own
            rw [unhide HML] at hown
            have hownA := ownsRow_below hown (bel1 (w := w3) (Obj.cells #[.float .f64 (reAt l j), .float .f64 (imAt l j)] 31))
            have hnews := World.news_of_block (heap_alloc_new w3 (Obj.cells #[.float .f64 (reAt l j), .float .f64 (imAt l j)] 31))
            have HVX := hide hvx
            have HVL := hide hown.1
            clear hown hvx b3
            go_wp2_with (at_builtin; refine wpList_append_lies _ rfl _ _ 37 rfl w.heap.size 31 i0 (.agg #[.float .f64 0, .float .f64 0]) 2 16 Try.underlying37 hii hz0 hz1 hz2 rfl (by decide) (.slice (some ⟨tb, 0, none⟩) j tc) j vs rfl hownA ⟨w3.heap.size, 0, none⟩ 1 1 [.float .f64 (reAt l j), .float .f64 (imAt l j)] rfl rfl hnews (by simp [Value.oneCell']) (by decide) (by unfold maxLen; omega) (by omega) (by simp; omega) _ rfl ?_; intro g' cap3 w9 hown9 hgrow hat hlt9)
            have hml := unhide HML
            have NEW : Hid (OwnC w9 w.heap.size 31 (.slice (some ⟨g', 0, none⟩) (j + 1) cap3) (m ++ [(reAt l j, imAt l j)])) := hide (ownC_push (by rw [hml]; exact hown9) (by rw [hml]; exact unhide HVL) (unhide HVX))
            have GA : Hid (g' ≠ g) := hide (by
              rcases hat with e | e
              · have e : tb = g' := by injection e
                exact fun e2 => htg (e.trans e2)
              · have := ((unhide OZ).liesIn g rfl).2; simp at e; omega)
            have hlies := (unhide OC).liesIn tb rfl
            have ME : Hid (∀ i, i < j + 1 → reAt (m ++ [(reAt l j, imAt l j)]) i = reAt l i ∧ imAt (m ++ [(reAt l j, imAt l j)]) i = imAt l i) := hide (by
              intro i hi
              obtain ⟨u1, u2, u3⟩ := pushC_at (P := m) (a := reAt l j) (b := imAt l j)
              by_cases ej : i < m.length
              · rw [(u1 i ej).1, (u1 i ej).2]; exact unhide HME i (by omega)
              · obtain rfl : i = m.length := by omega
                rw [u2, u3, hml]; exact ⟨rfl, rfl⟩)
            have OUT : Hid (OwnZ w9 w.heap.size 50 (.slice (some ⟨g, 0, none⟩) L cp) l) := hide (((unhide OZ).below (bel1 _)).far hgrow (fun g0 e => by cases e; exact fun e2 => htg (by injection e2 with e2; exact e2.symm)))
            have B9 : Hid (Below w.heap.size w w9) := hide (Below.grown ((unhide B1).trans ((bel1 _).mono z3)) hgrow (by simp; omega) (fun i hi => by cases hi; exact hlies.1))
            have MLEN : Hid ((m ++ [(reAt l j, imAt l j)]).length = j + 1) := hide (by simp [hml])
            clear hown9 hgrow hat hlt9 hownA hnews hml hlies
            go_wp2
            go_roundw
            case rel => exact ⟨j + 1, g', cap3, _, by omega, by go_num, rfl, unhide MLEN, unhide NEW, unhide ME, unhide GA, unhide OUT, unhide B9⟩
            case measure => simp [intOf]; omega
          · have AL : Hid (AlikeL m (fromR ps)) := hide (by
              unfold fromR
              rw [unhide HN]
              refine AlikeL.trans ⟨by rw [hml, unhide HL]; omega, fun i => ?_, fun i => ?_⟩ (unhide HAL)
              · by_cases e : i < j
                · rw [(hme i e).1]; exact .refl _ _
                · rw [(at_out (l := m) (i := i) (by omega)).1, (at_out (l := l) (i := i) (by rw [unhide HL]; omega)).1]; exact .refl _ _
              · by_cases e : i < j
                · rw [(hme i e).2]; exact .refl _ _
                · rw [(at_out (l := m) (i := i) (by omega)).2, (at_out (l := l) (i := i) (by rw [unhide HL]; omega)).2]; exact .refl _ _)
            clear hC hme hZ2 hb hml hZl
            go_wp2
            go_ret2
            exact ⟨_, m, by rw [unhide HN]; rfl, unhide OC, unhide AL, unhide B1⟩
  · have HN := hide (show fromB ps = false from decide_eq_false hlen)
    go_enter Try.func13, Try.ntmps13
    go_wp2
    go_ret2
    refine ⟨_, [], by rw [unhide HN]; rfl, ownC_none w _ _ (Nat.le_refl _), ?_, bel1 _⟩
    unfold fromR
    rw [unhide HN]
    exact ⟨rfl, fun _ => .refl _ _, fun _ => .refl _ _⟩

end Go.Proofs.Ytomcbbpaajpeiaa

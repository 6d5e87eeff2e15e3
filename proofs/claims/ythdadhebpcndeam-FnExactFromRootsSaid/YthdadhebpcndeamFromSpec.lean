/-
  What FromRoots answers in the specification: the plain coefficients. No condition; nothing that was there is written.
-/
import Derived.Test.YthdadhebpcndeamCxSpec
import Derived.Test.YthdadhebpcndeamFromPure
import Derived.Test.YthdadhebpcndeamCxHeld
import Derived.Deep.RegionHeld3
import Derived.Deep.DrawnRows
namespace Go.Proofs.Ythdadhebpcndeam
open Go.RowKit
attribute [local go_sem] run_store_float run_store_complex
attribute [local go_sem ↓] Go.wp_at_zero Go.wp_at_succ

theorem heldF6_call {w W w3 : World} {p0 o0 p1 o1 p2 o2 p3 o3 p4 o4 p5 o5 : Nat} {v0 v1 v2 v3 v4 v5 : Value} (h : W.cell? ⟨p0, o0, none⟩ = some v0 ∧ W.cell? ⟨p1, o1, none⟩ = some v1 ∧ W.cell? ⟨p2, o2, none⟩ = some v2 ∧ W.cell? ⟨p3, o3, none⟩ = some v3 ∧ W.cell? ⟨p4, o4, none⟩ = some v4 ∧ W.cell? ⟨p5, o5, none⟩ = some v5 ∧ Below w.heap.size w W) (b3 : Below W.heap.size W w3) : w3.cell? ⟨p0, o0, none⟩ = some v0 ∧ w3.cell? ⟨p1, o1, none⟩ = some v1 ∧ w3.cell? ⟨p2, o2, none⟩ = some v2 ∧ w3.cell? ⟨p3, o3, none⟩ = some v3 ∧ w3.cell? ⟨p4, o4, none⟩ = some v4 ∧ w3.cell? ⟨p5, o5, none⟩ = some v5 ∧ Below w.heap.size w w3 := by
  obtain ⟨h0, h1, h2, h3, h4, h5, hb⟩ := h
  exact ⟨(b3.cell (block_lt_of_cell h0)).trans h0, (b3.cell (block_lt_of_cell h1)).trans h1, (b3.cell (block_lt_of_cell h2)).trans h2, (b3.cell (block_lt_of_cell h3)).trans h3, (b3.cell (block_lt_of_cell h4)).trans h4, (b3.cell (block_lt_of_cell h5)).trans h5, hb.trans (b3.mono hb.size)⟩
theorem heldF6_grow {w W w9 : World} {p0 o0 p1 o1 p2 o2 p3 o3 p4 o4 p5 o5 g : Nat} {v0 v1 v2 v3 v4 v5 : Value} (h : W.cell? ⟨p0, o0, none⟩ = some v0 ∧ W.cell? ⟨p1, o1, none⟩ = some v1 ∧ W.cell? ⟨p2, o2, none⟩ = some v2 ∧ W.cell? ⟨p3, o3, none⟩ = some v3 ∧ W.cell? ⟨p4, o4, none⟩ = some v4 ∧ W.cell? ⟨p5, o5, none⟩ = some v5 ∧ Below w.heap.size w W) (o : Obj) (hgrow : (W.alloc o).grownBy w9 (some g)) (hg : w.heap.size ≤ g) (n0 : p0 ≠ g) (n1 : p1 ≠ g) (n2 : p2 ≠ g) (n3 : p3 ≠ g) (n4 : p4 ≠ g) (n5 : p5 ≠ g) : w9.cell? ⟨p0, o0, none⟩ = some v0 ∧ w9.cell? ⟨p1, o1, none⟩ = some v1 ∧ w9.cell? ⟨p2, o2, none⟩ = some v2 ∧ w9.cell? ⟨p3, o3, none⟩ = some v3 ∧ w9.cell? ⟨p4, o4, none⟩ = some v4 ∧ w9.cell? ⟨p5, o5, none⟩ = some v5 ∧ Below w.heap.size w w9 := by
  obtain ⟨k0, k1, k2, k3, k4, k5, hb⟩ := heldF6_call h (bel1 o)
  exact ⟨(hgrow.cell_far ⟨p0, o0, none⟩ (block_lt_of_cell k0) (fun e => n0 (by injection e))).trans k0, (hgrow.cell_far ⟨p1, o1, none⟩ (block_lt_of_cell k1) (fun e => n1 (by injection e))).trans k1, (hgrow.cell_far ⟨p2, o2, none⟩ (block_lt_of_cell k2) (fun e => n2 (by injection e))).trans k2, (hgrow.cell_far ⟨p3, o3, none⟩ (block_lt_of_cell k3) (fun e => n3 (by injection e))).trans k3, (hgrow.cell_far ⟨p4, o4, none⟩ (block_lt_of_cell k4) (fun e => n4 (by injection e))).trans k4, (hgrow.cell_far ⟨p5, o5, none⟩ (block_lt_of_cell k5) (fun e => n5 (by injection e))).trans k5, hb.grown hgrow hb.size (fun i hi => by cases hi; exact hg)⟩
theorem heldF4_call {w W w3 : World} {p0 o0 p1 o1 p2 o2 p3 o3 : Nat} {v0 v1 v2 v3 : Value} (h : W.cell? ⟨p0, o0, none⟩ = some v0 ∧ W.cell? ⟨p1, o1, none⟩ = some v1 ∧ W.cell? ⟨p2, o2, none⟩ = some v2 ∧ W.cell? ⟨p3, o3, none⟩ = some v3 ∧ Below w.heap.size w W) (b3 : Below W.heap.size W w3) : w3.cell? ⟨p0, o0, none⟩ = some v0 ∧ w3.cell? ⟨p1, o1, none⟩ = some v1 ∧ w3.cell? ⟨p2, o2, none⟩ = some v2 ∧ w3.cell? ⟨p3, o3, none⟩ = some v3 ∧ Below w.heap.size w w3 := by
  obtain ⟨h0, h1, h2, h3, hb⟩ := h
  exact ⟨(b3.cell (block_lt_of_cell h0)).trans h0, (b3.cell (block_lt_of_cell h1)).trans h1, (b3.cell (block_lt_of_cell h2)).trans h2, (b3.cell (block_lt_of_cell h3)).trans h3, hb.trans (b3.mono hb.size)⟩
theorem heldF4_grow {w W w9 : World} {p0 o0 p1 o1 p2 o2 p3 o3 g : Nat} {v0 v1 v2 v3 : Value} (h : W.cell? ⟨p0, o0, none⟩ = some v0 ∧ W.cell? ⟨p1, o1, none⟩ = some v1 ∧ W.cell? ⟨p2, o2, none⟩ = some v2 ∧ W.cell? ⟨p3, o3, none⟩ = some v3 ∧ Below w.heap.size w W) (o : Obj) (hgrow : (W.alloc o).grownBy w9 (some g)) (hg : w.heap.size ≤ g) (n0 : p0 ≠ g) (n1 : p1 ≠ g) (n2 : p2 ≠ g) (n3 : p3 ≠ g) : w9.cell? ⟨p0, o0, none⟩ = some v0 ∧ w9.cell? ⟨p1, o1, none⟩ = some v1 ∧ w9.cell? ⟨p2, o2, none⟩ = some v2 ∧ w9.cell? ⟨p3, o3, none⟩ = some v3 ∧ Below w.heap.size w w9 := by
  obtain ⟨k0, k1, k2, k3, hb⟩ := heldF4_call h (bel1 o)
  exact ⟨(hgrow.cell_far ⟨p0, o0, none⟩ (block_lt_of_cell k0) (fun e => n0 (by injection e))).trans k0, (hgrow.cell_far ⟨p1, o1, none⟩ (block_lt_of_cell k1) (fun e => n1 (by injection e))).trans k1, (hgrow.cell_far ⟨p2, o2, none⟩ (block_lt_of_cell k2) (fun e => n2 (by injection e))).trans k2, (hgrow.cell_far ⟨p3, o3, none⟩ (block_lt_of_cell k3) (fun e => n3 (by injection e))).trans k3, hb.grown hgrow hb.size (fun i hi => by cases hi; exact hg)⟩

theorem infoC : (Try.prog.info? 27).map (fun i => (i.zero, i.size, i.bytes)) = some (some (.agg #[.float .f64 0, .float .f64 0]), 2, 16) := by kernel_rfl

set_option maxRecDepth 20000 in
set_option maxHeartbeats 8000000 in
theorem specFromRoots_any (ad : Option Addr) (len cap : Nat) (ps : List (Nat × Nat)) (w : World) (hr : RowC w ad len ps) :
    Calls Try.prog 15 #[.slice ad len cap] w fun e w' => ∃ v q, e = .returned (.tuple #[v, .bool (fromB ps)]) ∧ OwnC w' w.heap.size 27 v q ∧ AlikeL q (fromR ps) ∧ Below w.heap.size w w' := by
  have hz := hr.len_eq
  have hs := hr.small
  have HO := hide hr.open_
  clear hr
  subst hz
  obtain ⟨i0, hii, hz0, hz1, hz2⟩ := info_parts infoC
  have hAl := bel_al w
  have hDr := bel_dr w
  by_cases hlen : ps.length ≤ 11
  · have HN := hide (show fromB ps = true from decide_eq_true hlen)
    go_enter Try.func15, Try.ntmps15
    go_wp2
    go_loopw [4, 5] (fun o kk wr => ∃ (k L a cp : Nat) (l : List (Nat × Nat)), k ≤ ps.length ∧ kk = .int .i64 (k : Nat) ∧ o = .slice (some ⟨a, 0, none⟩) L cp ∧ L = k + 1 ∧ l.length = L ∧ OwnC wr w.heap.size 27 (.slice (some ⟨a, 0, none⟩) L cp) l ∧ AlikeL l (fromL ps k) ∧ Below w.heap.size w wr) (fun _ i _ => ps.length - (intOf i).toNat)
    case atStart => exact ⟨0, 1, _, _, [(one64c, 0)], Nat.zero_le _, rfl, rfl, rfl, rfl, ownC_lit w _ _ _ _ (Nat.le_refl _), ⟨rfl, fun _ => .refl _ _, fun _ => .refl _ _⟩, bel1 _⟩
    case round =>
      obtain ⟨k, L, a, cp, l, hk, rfl, rfl, hLk, hl, hO, hal, hbel⟩ := hrel
      have HL := hide hl
      have HLK := hide hLk
      have hL1 : k + 1 ≤ L := by omega
      have hL2 : L ≤ k + 1 := by omega
      have hOl : OwnC wr w.heap.size 27 (.slice (some ⟨a, 0, none⟩) l.length cp) l := by rw [hl]; exact hO
      have hkb : k < 12 := by omega
      have HAL := hide hal
      clear hal hl hLk
      by_cases hlt : k < ps.length
      · rcases (unhide HO) with ⟨h0, _⟩ | ⟨bb, off, rfl, _, hc⟩
        · omega
        obtain ⟨⟨o0, o1⟩, _, _⟩ := hOl.here 0 (by rw [unhide HL]; omega)
        simp only [Nat.zero_mul, Nat.zero_add] at o0 o1
        have hA := hO.liesIn a rfl
        have HC := hide (hc k hlt)
        have hbb : bb < w.heap.size := by have := block_lt_of_cell (hc k hlt).1; simpa using this
        have hi2 : (k : Int) < (ps.length : Int) := by omega
        have hi3 : (0 : Int) < (L : Int) := by omega
        have OO := hide hO
        have HB := hide hbel
        have zw := hbel.size
        clear hc hO hbel hOl
        go_wp2
        go_loopw [6, 7] (fun nx ii wi => ∃ (n i g cap2 : Nat) (m : List (Nat × Nat)), n ≤ L ∧ n = i + 1 ∧ ii = .int .i64 (n : Nat) ∧ nx = .slice (some ⟨g, 0, none⟩) n cap2 ∧ m.length = n ∧ OwnC wi w.heap.size 27 (.slice (some ⟨g, 0, none⟩) n cap2) m ∧ (∀ j, j < m.length → Alike .f64 (reAt m j) (nRe l (reAt ps k) (imAt ps k) j) ∧ Alike .f64 (imAt m j) (nIm l (reAt ps k) (imAt ps k) j)) ∧ g ≠ a ∧ OwnC wi w.heap.size 27 (.slice (some ⟨a, 0, none⟩) L cp) l ∧ Below w.heap.size w wi) (fun _ i _ => L - (intOf i).toNat)
        case atStart =>
          refine ⟨1, 0, _, _, [(reAt l 0, imAt l 0)], by omega, rfl, rfl, rfl, rfl, ownC_lit _ _ _ _ _ zw, ?_, by omega, (unhide OO).below (bel1 _), (unhide HB).trans ((bel1 _).mono zw)⟩
          intro j hj
          obtain rfl : j = 0 := by simpa using hj
          exact ⟨.refl _ _, .refl _ _⟩
        case round =>
          obtain ⟨n, i, g, cap2, m, hnL, hni, rfl, rfl, hml, hN, hma, hga, hO2, hb2⟩ := hrel
          have ON := hide hN
          have HML := hide hml
          have HMA := hide hma
          have HG := hide (hN.liesIn g rfl).1
          have hgw := (hN.liesIn g rfl).2
          have haw := hO2.liesIn a rfl
          have hOl : OwnC wr w.heap.size 27 (.slice (some ⟨a, 0, none⟩) l.length cp) l := by rw [unhide HL]; exact hO2
          obtain ⟨ra, rb⟩ := unhide HC
          have ra := (hb2.cell (block_lt_of_cell ra)).trans ra
          have rb := (hb2.cell (block_lt_of_cell rb)).trans rb
          have nbg : bb ≠ g := by have := unhide HG; omega
          have zi := hb2.size
          have OO := hide hO2
          clear hN hma hml hO2
          have hn1 : i + 1 ≤ n := by omega
          have hn2 : n ≤ i + 1 := by omega
          have HNI := hide hni
          clear hni
          by_cases hin : n < L
          · obtain ⟨⟨p0, p1⟩, _, _⟩ := hOl.here n (by rw [unhide HL]; omega)
            obtain ⟨⟨q0, q1⟩, _, _⟩ := hOl.here i (by rw [unhide HL]; omega)
            have k1 : (n : Int) < (L : Int) := by omega
            have k2 : (i : Int) < (L : Int) := by omega
            have k3 : (0 : Int) ≤ (i : Int) := by omega
            have hsub : ((n : Int) - 1) = ((i : Nat) : Int) := by omega
            have hwr : IntKind.i64.wrap ((i : Nat) : Int) = ((i : Nat) : Int) := by rw [IntKind.wrap_i64]; omega
            clear hOl
            go_wp2
            go_region_held3 (fun w' => w'.cell? ⟨a, n * 2, none⟩ = some (.float .f64 (reAt l n)) ∧ w'.cell? ⟨a, n * 2 + 1, none⟩ = some (.float .f64 (imAt l n)) ∧ w'.cell? ⟨a, i * 2, none⟩ = some (.float .f64 (reAt l i)) ∧ w'.cell? ⟨a, i * 2 + 1, none⟩ = some (.float .f64 (imAt l i)) ∧ w'.cell? ⟨bb, off + k * 2, none⟩ = some (.float .f64 (reAt ps k)) ∧ w'.cell? ⟨bb, off + k * 2 + 1, none⟩ = some (.float .f64 (imAt ps k)) ∧ Below w.heap.size w w') (first | assumption | go_keep)
              ((first
            | (refine step_append_lies _ rfl _ _ 30 rfl w.heap.size 27 i0 (.agg #[.float .f64 0, .float .f64 0]) 2 16 Try.underlying30 hii hz0 hz1 hz2 rfl (by decide) (.slice (some ⟨g, 0, none⟩) n cap2) n vs rfl hownA ⟨w3.heap.size, 0, none⟩ 1 1 [.float .f64 x2, .float .f64 y2] rfl rfl hnews (by simp [Value.oneCell']) (by decide) (by unfold maxLen; omega) (by omega) (by simp; omega) _ rfl ?_; intro g' cap3 w9 hown9 hgrow hat hlt9; have H9 := heldF6_grow H3 _ hgrow (unhide HG) (fun e => hga e.symm) (fun e => hga e.symm) (fun e => hga e.symm) (fun e => hga e.symm) nbg nbg)
            | (go_at_call 29; refine (specCxTimes_any _ _ _ _ _).mono ?_; rintro e w3 ⟨x1, y1, rfl, j1, j2, b3⟩; have H3 := heldF6_call (by assumption) b3; have ON := hide (show OwnC w3 _ _ _ _ from by first | exact (unhide ON).below b3 | exact ((unhide ON).drewN 1).below b3); have OO := hide (show OwnC w3 _ _ _ _ from by first | exact (unhide OO).below b3 | exact ((unhide OO).drewN 1).below b3); clear b3)
            | (go_at_call 34; refine (specCxLess_any _ _ _ _ _).mono ?_; rintro e w3 ⟨x2, y2, rfl, j3, j4, b3⟩; have H3 := heldF6_call (by assumption) b3; have ON := hide (show OwnC w3 _ _ _ _ from by first | exact (unhide ON).below b3 | exact ((unhide ON).drewN 1).below b3); have OO := hide (show OwnC w3 _ _ _ _ from by first | exact (unhide OO).below b3 | exact ((unhide OO).drewN 1).below b3); have z3 := H3.2.2.2.2.2.2.size; obtain ⟨vs, hown, hvx⟩ := (unhide ON).own; rw [unhide HML] at hown; have hownA := ownsRow_below hown (bel1 (w := w3) (Obj.cells #[.float .f64 x2, .float .f64 y2] 27)); have hnews := World.news_of_block (heap_alloc_new w3 (Obj.cells #[.float .f64 x2, .float .f64 y2] 27)); have HVX := hide hvx; have HVL := hide hown.1; clear hown hvx; clear b3)))
            have hml := unhide HML
            have NEW : Hid (OwnC w9 w.heap.size 27 (.slice (some ⟨g', 0, none⟩) (n + 1) cap3) (m ++ [(x2, y2)])) := hide (ownC_push (by rw [hml]; exact hown9) (by rw [hml]; exact unhide HVL) (unhide HVX))
            have MLEN : Hid ((m ++ [(x2, y2)]).length = n + 1) := hide (by simp [hml])
            have GA : Hid (g' ≠ a) := hide (by
              rcases hat with e | e
              · injection e with e; exact fun e2 => hga (e.trans e2)
              · have := ((unhide OO).liesIn a rfl).2; simp at e; omega)
            have B9 := hide H9.2.2.2.2.2.2
            have MA : Hid (∀ j, j < (m ++ [(x2, y2)]).length → Alike .f64 (reAt (m ++ [(x2, y2)]) j) (nRe l (reAt ps k) (imAt ps k) j) ∧ Alike .f64 (imAt (m ++ [(x2, y2)]) j) (nIm l (reAt ps k) (imAt ps k) j)) := hide (by
              intro j hj
              obtain ⟨u1, u2, u3⟩ := pushC_at (P := m) (a := x2) (b := y2)
              by_cases ej : j < m.length
              · rw [(u1 j ej).1, (u1 j ej).2]; exact unhide HMA j ej
              · obtain rfl : j = m.length := by simp at hj; omega
                rw [u2, u3, hml, unhide HNI]
                rw [unhide HNI] at j3 j4
                exact ⟨j3.trans (Alike.fl (.refl _ _) j1), j4.trans (Alike.fl (.refl _ _) j2)⟩)
            have OUT : Hid (OwnC w9 w.heap.size 27 (.slice (some ⟨a, 0, none⟩) L cp) l) := hide (((unhide OO).below (bel1 _)).far hgrow (fun g0 e => by cases e; exact fun e2 => hga (by injection e2 with e2; exact e2.symm)))
            clear hown9 hgrow hat hlt9 H9 H3 hownA hnews j1 j2 j3 j4 hml
            go_wp2
            go_roundw
            case rel => exact ⟨n + 1, i + 1, g', cap3, m ++ [(x2, y2)], by omega, by omega, by go_num, rfl, unhide MLEN, unhide NEW, unhide MA, unhide GA, unhide OUT, unhide B9⟩
            case measure => simp [intOf]; omega
          · obtain rfl : L = n := by omega
            obtain rfl : k = i := by omega
            obtain ⟨⟨q0, q1⟩, _, _⟩ := hOl.here k (by rw [unhide HL]; omega)
            have k2 : (k : Int) < (L : Int) := by omega
            have k3 : (0 : Int) ≤ (k : Int) := by omega
            have hsub : ((L : Int) - 1) = ((k : Nat) : Int) := by omega
            have hwr : IntKind.i64.wrap ((k : Nat) : Int) = ((k : Nat) : Int) := by rw [IntKind.wrap_i64]; omega
            clear hOl
            go_wp2
            go_region_held3 (fun w' => w'.cell? ⟨a, k * 2, none⟩ = some (.float .f64 (reAt l k)) ∧ w'.cell? ⟨a, k * 2 + 1, none⟩ = some (.float .f64 (imAt l k)) ∧ w'.cell? ⟨bb, off + k * 2, none⟩ = some (.float .f64 (reAt ps k)) ∧ w'.cell? ⟨bb, off + k * 2 + 1, none⟩ = some (.float .f64 (imAt ps k)) ∧ Below w.heap.size w w') (first | assumption | go_keep)
              ((first
            | (refine step_append_lies _ rfl _ _ 30 rfl w.heap.size 27 i0 (.agg #[.float .f64 0, .float .f64 0]) 2 16 Try.underlying30 hii hz0 hz1 hz2 rfl (by decide) (.slice (some ⟨g, 0, none⟩) L cap2) L vs rfl hownA ⟨w3.heap.size, 0, none⟩ 1 1 [.float .f64 x2, .float .f64 y2] rfl rfl hnews (by simp [Value.oneCell']) (by decide) (by unfold maxLen; omega) (by omega) (by simp; omega) _ rfl ?_; intro g' cap3 w9 hown9 hgrow hat hlt9; have H9 := heldF4_grow H3 _ hgrow (unhide HG) (fun e => hga e.symm) (fun e => hga e.symm) nbg nbg)
            | (go_at_call 29; refine (specCxTimes_any _ _ _ _ _).mono ?_; rintro e w3 ⟨x1, y1, rfl, j1, j2, b3⟩; have H3 := heldF4_call (by assumption) b3; have ON := hide (show OwnC w3 _ _ _ _ from by first | exact (unhide ON).below b3 | exact ((unhide ON).drewN 1).below b3); have OO := hide (show OwnC w3 _ _ _ _ from by first | exact (unhide OO).below b3 | exact ((unhide OO).drewN 1).below b3); clear b3)
            | (go_at_call 34; refine (specCxLess_any _ _ _ _ _).mono ?_; rintro e w3 ⟨x2, y2, rfl, j3, j4, b3⟩; have H3 := heldF4_call (by assumption) b3; have ON := hide (show OwnC w3 _ _ _ _ from by first | exact (unhide ON).below b3 | exact ((unhide ON).drewN 1).below b3); have OO := hide (show OwnC w3 _ _ _ _ from by first | exact (unhide OO).below b3 | exact ((unhide OO).drewN 1).below b3); have z3 := H3.2.2.2.2.size; obtain ⟨vs, hown, hvx⟩ := (unhide ON).own; rw [unhide HML] at hown; have hownA := ownsRow_below hown (bel1 (w := w3) (Obj.cells #[.float .f64 x2, .float .f64 y2] 27)); have hnews := World.news_of_block (heap_alloc_new w3 (Obj.cells #[.float .f64 x2, .float .f64 y2] 27)); have HVX := hide hvx; have HVL := hide hown.1; clear hown hvx; clear b3)))
            have hml := unhide HML
            have NEW : Hid (OwnC w9 w.heap.size 27 (.slice (some ⟨g', 0, none⟩) (L + 1) cap3) (m ++ [(x2, y2)])) := hide (ownC_push (by rw [hml]; exact hown9) (by rw [hml]; exact unhide HVL) (unhide HVX))
            have MLEN : Hid ((m ++ [(x2, y2)]).length = L + 1) := hide (by simp [hml])
            have GA : Hid (g' ≠ a) := hide (by
              rcases hat with e | e
              · injection e with e; exact fun e2 => hga (e.trans e2)
              · have := ((unhide OO).liesIn a rfl).2; simp at e; omega)
            have B9 := hide H9.2.2.2.2
            have MA : Hid (∀ j, j < (m ++ [(x2, y2)]).length → Alike .f64 (reAt (m ++ [(x2, y2)]) j) (nRe l (reAt ps k) (imAt ps k) j) ∧ Alike .f64 (imAt (m ++ [(x2, y2)]) j) (nIm l (reAt ps k) (imAt ps k) j)) := hide (by
              intro j hj
              obtain ⟨u1, u2, u3⟩ := pushC_at (P := m) (a := x2) (b := y2)
              by_cases ej : j < m.length
              · rw [(u1 j ej).1, (u1 j ej).2]; exact unhide HMA j ej
              · obtain rfl : j = m.length := by simp at hj; omega
                rw [u2, u3, hml, unhide HNI]
                have z := at_out (l := l) (i := k + 1) (by rw [unhide HL, unhide HNI]; exact Nat.le_refl _)
                refine ⟨?_, ?_⟩
                · show Alike .f64 x2 (fl .sub .f64 (reAt l (k + 1)) (tRe (reAt l k) (imAt l k) (reAt ps k) (imAt ps k)))
                  rw [z.1]; exact j3.trans (Alike.fl (.refl _ _) j1)
                · show Alike .f64 y2 (fl .sub .f64 (imAt l (k + 1)) (tIm (reAt l k) (imAt l k) (reAt ps k) (imAt ps k)))
                  rw [z.2]; exact j4.trans (Alike.fl (.refl _ _) j2))
            have AL : Hid (AlikeL (m ++ [(x2, y2)]) (fromL ps (k + 1))) := hide (nextL_of (unhide HAL) (by rw [unhide MLEN, unhide HL]) (unhide MA))
            clear hown9 hgrow hat hlt9 H9 H3 hownA hnews j1 j2 j3 j4 hml
            go_wp2
            go_roundw
            case rel => exact ⟨k + 1, L + 1, g', cap3, m ++ [(x2, y2)], by omega, by go_num, rfl, by omega, unhide MLEN, unhide NEW, unhide AL, unhide B9⟩
            case measure => simp [intOf]; omega
      · obtain rfl : k = ps.length := by omega
        have HOO := hide hO
        have HBB := hide hbel
        clear hO hbel hOl
        go_wp2
        go_ret2
        refine ⟨_, l, by rw [unhide HN]; rfl, unhide HOO, ?_, unhide HBB⟩
        unfold fromR
        rw [unhide HN]
        exact unhide HAL
  · have HN := hide (show fromB ps = false from decide_eq_false hlen)
    go_enter Try.func15, Try.ntmps15
    go_wp2
    go_ret2
    refine ⟨_, [], by rw [unhide HN]; rfl, ownC_none w _ _ (Nat.le_refl _), ?_, bel1 _⟩
    unfold fromR
    rw [unhide HN]
    exact ⟨rfl, fun _ => .refl _ _, fun _ => .refl _ _⟩

end Go.Proofs.Ythdadhebpcndeam

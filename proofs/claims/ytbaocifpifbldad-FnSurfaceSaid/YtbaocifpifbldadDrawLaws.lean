/-
  What the model's DrawLaws answers: gains, limits and a number that are so. At every list of bytes; nothing that was there is written.
-/
import Derived.Test.YtbaocifpifbldadGaRes
import Derived.Test.YtbaocifpifbldadSmall
import Derived.Test.YtbaocifpifbldadWhole
import Derived.Deep.Cut
import Derived.Deep.CutRange
import Derived.Deep.RegionLaw
import Derived.Deep.RegionHeld3
namespace Go.Proofs.Ytbaocifpifbldad
open Go.RowKit

/-- What is told. -/
def LawsDrawn (w : World) (e : Ending) (w' : World) : Prop := ∃ (a1 a2 : Option Addr) (l1 c1 l2 c2 : Nat) (xs ys : List Int) (lo hi st now : Int), e = .returned (.tuple #[.agg #[.slice a1 l1 c1, .slice a2 l2 c2], .agg #[.int .i64 lo, .int .i64 hi, .int .i64 st], .int .i64 now]) ∧ GaIn w' a1 a2 l1 l2 xs ys ∧ (l1 ≤ c1 ∧ l2 ≤ c2) ∧ gaB xs ys = true ∧ ((-299 ≤ lo ∧ lo ≤ 0) ∧ (0 ≤ hi ∧ hi ≤ 299) ∧ (1 ≤ st ∧ st ≤ 80)) ∧ (lo ≤ now ∧ now ≤ hi) ∧ Below w.heap.size w w'

set_option maxRecDepth 20000 in
set_option maxHeartbeats 3000000 in
theorem drawLaws_any (a : Option Addr) (len cap : Nat) (w : World) (hb : Bytes w a len) (hin : ∀ b off, a = some ⟨b, off, none⟩ → b < w.heap.size) :
    Calls Try.prog 20 #[.slice a len cap] w fun e w' => LawsDrawn w e w' := by
  obtain ⟨w0, hw0⟩ : ∃ w0, w0 = (w.alloc (Obj.cells #[.slice none 0 0, .slice none 0 0] 46)).alloc (Obj.cells #[.int .i64 0, .int .i64 0, .int .i64 0] 48) := ⟨_, rfl⟩
  have bw0 : Below w.heap.size w w0 := by rw [hw0]; exact bel2 _ _
  have Z2 : Hid (Blk w0 w.heap.size [.slice none 0 0, .slice none 0 0]) := hide (by rw [hw0]; exact blkAt2_0 (v1 := [.slice none 0 0, .slice none 0 0]) (v2 := [.int .i64 0, .int .i64 0, .int .i64 0]))
  have Z3 : Hid (Blk w0 (w.heap.size + 1) [.int .i64 0, .int .i64 0, .int .i64 0]) := hide (by rw [hw0]; exact blkAt2_1 (v1 := [.slice none 0 0, .slice none 0 0]) (v2 := [.int .i64 0, .int .i64 0, .int .i64 0]))
  have sw0 : Hid (w0.heap.size = w.heap.size + 2) := hide (by rw [hw0]; simp)
  have HY := hide (hb.below bw0)
  have HIN : Hid (∀ b off, a = some ⟨b, off, none⟩ → b < w0.heap.size) := hide (fun b off e => Nat.lt_of_lt_of_le (hin b off e) bw0.size)
  have BW0 := hide bw0
  have HIN0 := hide hin
  have HW0 := hide hw0
  clear hb hin hw0 bw0
  go_enter Try.func20, Try.ntmps20
  go_wp2_with fail
  rw [← unhide HW0]
  clear HW0
  refine (drNew a len cap w0 (unhide HY) (unhide HIN)).mono ?_
  rintro x w1 ⟨rfl, d, b⟩
  obtain ⟨C, hC⟩ : ∃ C, w0.heap.size = C := ⟨_, rfl⟩
  rw [hC] at d ⊢
  have DD := hide d
  have HC := hide hC
  clear d b hC HY
  go_wp2_with fail
  refine (drBelow 4 _ (unhide DD) (by omega)).mono ?_
  rintro x w2 ⟨x1, rfl, hx1, d, gr⟩
  have DD := hide d
  obtain ⟨n, hn⟩ : ∃ n : Nat, 2 + x1 = (n : Int) := ⟨(2 + x1).toNat, by omega⟩
  have hnb : 2 ≤ n ∧ n ≤ 5 := by omega
  clear d gr
  go_wp2_with fail
  refine (drBelow 50 _ (unhide DD) (by omega)).mono ?_
  rintro x w3 ⟨x2, rfl, hx2, d, gr⟩
  have DD := hide d
  have hC3 := d.lt
  clear d gr
  go_wp2_with fail
  refine (drRise n x2 90 _ (unhide DD) (unhide HIN) (by omega) (by omega) (by omega)).mono ?_
  rintro x w4 ⟨g1, c1, xs, X, rfl, o1, rs, d4, kp⟩
  have RS := hide rs
  obtain ⟨G, hG⟩ : ∃ G, w4.heap.size = G := ⟨_, rfl⟩
  obtain ⟨V, hV⟩ : ∃ V, V = w4.alloc (Obj.cells #[.slice (some ⟨g1, 0, none⟩) n c1, .slice none 0 0] 46) := ⟨_, rfl⟩
  have S0 : Hid (Gd w0 C G a len cap V (.slice (some ⟨g1, 0, none⟩) n c1) (.slice none 0 0) xs []) := hide (by
    have bV : Below w4.heap.size w4 V := by rw [hV]; exact bel1 _
    have hlt := d4.lt
    refine ⟨d4.below bV, unhide HIN, by rw [← hG]; exact hlt, ?_, (o1.below bV).mono (by omega), fun g hg => ?_, ?_⟩
    · rw [hV, ← hG]; exact Blk.new [.slice (some ⟨g1, 0, none⟩) n c1, .slice none 0 0] 46
    · have := Option.some.inj (show some g1 = some g from hg); have := (o1.lies g1 rfl).2; omega
    · exact ⟨⟨[], by simpa using World.ownsRow_nil V (G + 1) 3 1, fun j hj => by simp at hj⟩, fun i => by simp [nth]⟩)
  have HCAP : Hid (n ≤ c1) := hide (by
    rcases o1.form with ⟨e, _⟩ | ⟨g', c', e, _, _, h1, _⟩
    · cases e
    · simp only [Value.slice.injEq] at e
      have := rs.len; omega)
  have HV := hide hV
  have HG := hide hG
  clear o1 rs d4 kp hV hG DD
  go_wp2_with fail
  rw [← unhide HV, unhide HG]
  clear HV HG
  go_loopw [7] (fun i wr => ∃ (k : Nat) (V2 : Value) (ys : List Int), i = .int .i64 (k : Int) ∧ k ≤ n ∧ Hid (ys.length = k) ∧ Hid (∀ j, j < k → 0 ≤ nth ys j ∧ nth ys j ≤ 299) ∧ Hid (Gd w0 C G a len cap wr (.slice (some ⟨g1, 0, none⟩) n c1) V2 xs ys)) (fun i _ => n - (intOf i).toNat)
  case atStart => exact ⟨0, _, [], rfl, Nat.zero_le _, hide rfl, hide (fun j hj => by omega), S0⟩
  case round =>
    clear S0
    obtain ⟨k, V2, ys, rfl, hk, HL, HY2, HS⟩ := hrel
    have p0 : wr.cell? ⟨G, 0, none⟩ = some (.slice (some ⟨g1, 0, none⟩) n c1) := (unhide HS).p.c 0 (by simp)
    have p1 : wr.cell? ⟨G, 1, none⟩ = some V2 := (unhide HS).p.c 1 (by simp)
    by_cases hlt : k < n
    · have hlt2 : (k : Int) < (n : Int) := by omega
      go_wp2_with fail
      go_region_law (first
        | ((fail_if_success have := D1); go_simp; go_wp2_with (go_at_call 45; refine (drBelow (w := w0) (a := a) (len := len) (cap := cap) _ _ (by first | exact (unhide HS).d | exact ((unhide HS).below (bel0d 1)).d) (by omega)).mono ?_; rintro e u1 ⟨y, rfl, hy, d, gr⟩; have D1 : Hid (Gd w0 C G a len cap u1 (.slice (some ⟨g1, 0, none⟩) n c1) V2 xs ys) := hide (Gd.call (by first | exact unhide HS | exact (unhide HS).below (bel0d 1)) gr d); have p1a : u1.cell? ⟨G, 1, none⟩ = some V2 := (unhide D1).p.c 1 (by simp); have p1b : ∀ o, (u1.alloc o).cell? ⟨G, 1, none⟩ = some V2 := (fun o => ((unhide D1).p.alloc o).c 1 (by simp)); clear d gr))
        | (refine step_app_int rfl (.tmp 27) (.tmp 30) rfl (n := k) y (unhide D1).o2 (unhide HL) (by simp [Act.eval]) rfl (by simp [Act.eval]) (unhide D1).p.lt (by omega) (by omega) ?_; intro g9 c9 w9 o9 gr9 at9; have p9 : w9.cell? ⟨G, 1, none⟩ = some V2 := ((unhide D1).p.apart gr9 (fun e => by have := ((unhide D1).o2.lies G e.symm).1; omega)).c 1 (by simp); have f9 : w9.frozen? ⟨G, 1, none⟩ = false := ((unhide D1).p.apart gr9 (fun e => by have := ((unhide D1).o2.lies G e.symm).1; omega)).f 1 (by simp)))
      all_goals
        go_wp2_with fail
        go_roundw
        case rel => exact ⟨k + 1, _, ys ++ [y], by go_num, by omega, hide (by have := unhide HL; simp [this]), hide (fun j hj => by
          have hl := unhide HL
          by_cases e : j < k
          · have e1 : nth (ys ++ [y]) j = nth ys j := by unfold nth; rw [List.getElem?_append_left (by omega)]
            rw [e1]; exact (unhide HY2) j e
          · obtain rfl : j = k := by omega
            have e1 : nth (ys ++ [y]) j = y := by unfold nth; rw [List.getElem?_append_right (by omega), hl]; simp
            rw [e1]; omega), hide ((unhide D1).push o9 gr9)⟩
        case measure => simp [intOf]; omega
    · obtain rfl : k = n := by omega
      have hlt2 : ¬ (k : Int) < (k : Int) := by omega
      obtain ⟨g2, c2, hV2, hcap2⟩ : ∃ g2 c2, V2 = .slice (some ⟨g2, 0, none⟩) k c2 ∧ k ≤ c2 := by
        rcases (unhide HS).o2.form with ⟨_, e⟩ | ⟨g', c', e, _, _, h1, _⟩
        · have := unhide HL; rw [e] at this; simp at this; omega
        · rw [unhide HL] at e h1; exact ⟨g', c', e, h1⟩
      subst hV2
      have HCAP2 := hide hcap2
      clear hcap2
      go_wp2_with fail
      refine (drBelow 300 _ (unhide HS).d (by omega)).mono ?_
      rintro x v5 ⟨x5, rfl, hx5, d, gr⟩
      have S5 := hide ((unhide HS).call gr d)
      clear d gr HS p0 p1
      go_wp2_with fail
      refine (drBelow 300 _ (unhide S5).d (by omega)).mono ?_
      rintro x v6 ⟨x6, rfl, hx6, d, gr⟩
      have S6 := hide ((unhide S5).call gr d)
      clear d gr S5
      go_wp2_with fail
      refine (drBelow 80 _ (unhide S6).d (by omega)).mono ?_
      rintro x v7 ⟨x7, rfl, hx7, d, gr⟩
      have S7 := hide ((unhide S6).call gr d)
      obtain ⟨lo, hlo⟩ : ∃ lo, -x5 = lo := ⟨_, rfl⟩
      obtain ⟨st, hst⟩ : ∃ st, 1 + x7 = st := ⟨_, rfl⟩
      have blo : -299 ≤ lo ∧ lo ≤ 0 := by omega
      have bst : 1 ≤ st ∧ st ≤ 80 := by omega
      obtain ⟨L, hL⟩ : ∃ L, v7.heap.size = L := ⟨_, rfl⟩
      obtain ⟨Q, hQ⟩ : ∃ Q, Q = v7.alloc (Obj.cells #[.int .i64 lo, .int .i64 x6, .int .i64 st] 48) := ⟨_, rfl⟩
      have bQ : Below v7.heap.size v7 Q := by rw [hQ]; exact bel1 _
      have S8 := hide ((unhide S7).below bQ)
      have LK : Hid (Blk Q L [.int .i64 lo, .int .i64 x6, .int .i64 st]) := hide (by rw [hQ, ← hL]; exact Blk.new [.int .i64 lo, .int .i64 x6, .int .i64 st] 48)
      have hGL : G < L := by rw [← hL]; exact (unhide S7).p.lt
      have hCG := (unhide S7).cb
      have HQ := hide hQ
      have HLL := hide hL
      clear d gr S6 bQ hQ hL S7
      go_wp2_with fail
      rw [← unhide HQ, unhide HLL]
      clear HQ HLL
      have g0 : Q.cell? ⟨G, 0, none⟩ = some (.slice (some ⟨g1, 0, none⟩) k c1) := (unhide S8).p.c 0 (by simp)
      have g1' : Q.cell? ⟨G, 1, none⟩ = some (.slice (some ⟨g2, 0, none⟩) k c2) := (unhide S8).p.c 1 (by simp)
      have l0 : Q.cell? ⟨L, 0, none⟩ = some (.int .i64 lo) := (unhide LK).c 0 (by simp)
      have l1 : Q.cell? ⟨L, 1, none⟩ = some (.int .i64 x6) := (unhide LK).c 1 (by simp)
      have l2 : Q.cell? ⟨L, 2, none⟩ = some (.int .i64 st) := (unhide LK).c 2 (by simp)
      have hwC : w.heap.size + 2 = C := by have h1 := unhide sw0; have h2 := unhide HC; omega
      have n1 : ¬ L = w.heap.size := by omega
      have n2 : ¬ L = w.heap.size + 1 := by omega
      have n3 : ¬ w.heap.size = L := by omega
      have n4 : ¬ w.heap.size + 1 = L := by omega
      have n5 : ¬ G = w.heap.size := by omega
      have n6 : ¬ G = w.heap.size + 1 := by omega
      have n7 : ¬ w.heap.size = G := by omega
      have n8 : ¬ w.heap.size + 1 = G := by omega
      clear hwC
      have HWW : Hid (IntKind.i64.wrap (IntKind.i64.wrap (x6 - lo) + 1) = x6 - lo + 1) := hide (by rw [show IntKind.i64.wrap (x6 - lo) = x6 - lo by rw [IntKind.wrap_i64]; omega, IntKind.wrap_i64]; omega)
      have hcc : w.heap.size + 2 = C := by have h1 := unhide sw0; have h2 := unhide HC; omega
      have q8 : Gq w C G L a len cap (.slice (some ⟨g1, 0, none⟩) k c1) (.slice (some ⟨g2, 0, none⟩) k c2) xs ys lo x6 st Q := by
        have h := unhide S8
        have hd := h.d
        exact ⟨⟨⟨hd.cur, hd.byt, (unhide BW0).trans (hd.bel.mono (unhide BW0).size), hd.ne, by omega, hd.lt⟩, unhide HIN0, h.cb, h.p, h.o1, h.b1, h.o2⟩, unhide LK, hGL, by omega⟩
      have z0 : Blk Q w.heap.size [.slice none 0 0, .slice none 0 0] := (unhide Z2).below (unhide S8).d.bel
      have z1 : Blk Q (w.heap.size + 1) [.int .i64 0, .int .i64 0, .int .i64 0] := (unhide Z3).below (unhide S8).d.bel
      have r00 : Q.cell? ⟨w.heap.size, 0, none⟩ = some (.slice none 0 0) := z0.c 0 (by simp)
      have r01 : Q.cell? ⟨w.heap.size, 1, none⟩ = some (.slice none 0 0) := z0.c 1 (by simp)
      have r10 : Q.cell? ⟨w.heap.size + 1, 0, none⟩ = some (.int .i64 0) := z1.c 0 (by simp)
      have r11 : Q.cell? ⟨w.heap.size + 1, 1, none⟩ = some (.int .i64 0) := z1.c 1 (by simp)
      have r12 : Q.cell? ⟨w.heap.size + 1, 2, none⟩ = some (.int .i64 0) := z1.c 2 (by simp)
      have s00 : Q.frozen? ⟨w.heap.size, 0, none⟩ = false := z0.f 0 (by simp)
      have s01 : Q.frozen? ⟨w.heap.size, 1, none⟩ = false := z0.f 1 (by simp)
      have s10 : Q.frozen? ⟨w.heap.size + 1, 0, none⟩ = false := z1.f 0 (by simp)
      have s11 : Q.frozen? ⟨w.heap.size + 1, 1, none⟩ = false := z1.f 1 (by simp)
      have s12 : Q.frozen? ⟨w.heap.size + 1, 2, none⟩ = false := z1.f 2 (by simp)
      have hDr := gq_dr w C G L a len cap (.slice (some ⟨g1, 0, none⟩) k c1) (.slice (some ⟨g2, 0, none⟩) k c2) xs ys lo x6 st
      have hP0 := gq_p0 w C G L a len cap (.slice (some ⟨g1, 0, none⟩) k c1) (.slice (some ⟨g2, 0, none⟩) k c2) xs ys lo x6 st
      have hP1 := gq_p1 w C G L a len cap (.slice (some ⟨g1, 0, none⟩) k c1) (.slice (some ⟨g2, 0, none⟩) k c2) xs ys lo x6 st
      have HCC := hide hcc
      clear z0 z1 hcc S8 LK
      go_region_held3 (fun w' => w'.cell? ⟨G, 0, none⟩ = some (.slice (some ⟨g1, 0, none⟩) k c1) ∧ w'.cell? ⟨G, 1, none⟩ = some (.slice (some ⟨g2, 0, none⟩) k c2) ∧ w'.cell? ⟨L, 0, none⟩ = some (.int .i64 lo) ∧ w'.cell? ⟨L, 1, none⟩ = some (.int .i64 x6) ∧ w'.cell? ⟨L, 2, none⟩ = some (.int .i64 st) ∧ Gq w C G L a len cap (.slice (some ⟨g1, 0, none⟩) k c1) (.slice (some ⟨g2, 0, none⟩) k c2) xs ys lo x6 st w') (go_keep)
        ((go_at_call 45; (have HQ := gq_of (by assumption); refine (drBelow (w := w) (a := a) (len := len) (cap := cap) _ _ HQ.g.d (by first | omega | (rw [unhide HWW]; omega))).mono ?_; rintro e u1 ⟨y, rfl, hy, d, gr⟩; rw [unhide HWW] at hy; have H3 := gq_call (by assumption) gr d; obtain ⟨e0, e1⟩ := res_same (R := w.heap.size) gr (by have := unhide HCC; omega) HQ.g.d.lt; obtain ⟨e2, e3⟩ := res_same (R := w.heap.size + 1) gr (by have := unhide HCC; omega) HQ.g.d.lt; obtain ⟨g0, g1', l0, l1, l2, q8⟩ := H3; clear d gr HQ)))
      all_goals
        go_wp2_with fail
        have QE := gq_of (by assumption)
        have hwy : IntKind.i64.wrap (lo + y) = lo + y := by rw [IntKind.wrap_i64]; omega
        refine bodyPost_ret (v := .tuple #[.agg #[.slice (some ⟨g1, 0, none⟩) k c1, .slice (some ⟨g2, 0, none⟩) k c2], .agg #[.int .i64 lo, .int .i64 x6, .int .i64 st], .int .i64 (lo + y)]) (by simp [results, Try.results20, go_sem, e0, e2, r00, r01, r10, r11, r12, hwy]) rfl ?_
        have hga : gaB xs ys = true := by
          have hx := unhide RS
          have hl := hx.len
          have hy2 := unhide HL
          refine gaB_yes (by simp only [inB, decide_eq_true_eq]; omega) (by omega) (riseB_true (fun j hj => hx.up j (by omega))) (allB_true (fun j hj => ?_)) (allB_true (fun j hj => ?_))
          · have h1 := hx.lo j (by omega)
            simp only [inB, decide_eq_true_eq]
            omega
          · have h1 := (unhide HY2) j (by omega)
            simp only [inB, decide_eq_true_eq]
            omega
        exact ⟨_, _, _, _, _, _, _, _, _, _, _, _, rfl, ⟨QE.g.o1.row, QE.g.o2.row⟩, ⟨unhide HCAP, unhide HCAP2⟩, hga, ⟨blo, by omega, bst⟩, by omega, QE.g.d.bel⟩

end Go.Proofs.Ytbaocifpifbldad

/-
  The law FnReleased returns true at every list of bytes and writes nothing that was there: the walk. No condition.
-/
import Derived.Test.YtfnnfldfnjnlfagMFlIn
import Derived.Test.YtfnnfldfnjnlfagMRelIs
import Derived.Test.YtfnnfldfnjnlfagDrFl
import Derived.Test.YtfnnfldfnjnlfagHgRw
import Derived.Test.YtfnnfldfnjnlfagRlImp
import Derived.Test.YtfnnfldfnjnlfagMThen
import Derived.Deep.CutRange
namespace Go.Proofs.Ytfnnfldfnjnlfag
open Go Go.RowKit

theorem dw_nc {f : Fl} {d : De} (k : d.k ≠ 1) : (dwF f d).nc = f.nc := by
  cases hB : dwB f d
  · rw [dwF, if_pos hB]
  rw [dwF_at hB, if_neg k]
  split
  · rfl
  split
  · rfl
  split
  · rfl
  · rfl
theorem dw_fly {f : Fl} {d : De} (hB : dwB f d = true) (k : d.k = 1) : (dwF f d).nc = f.nc + 1 ∧ (dwF f d).nh = f.nh + d.m ∧ (1 ≤ d.m ∧ d.m ≤ 100) := by
  rw [dwF_at hB, if_pos k]
  refine ⟨rfl, rfl, ?_⟩
  rcases (dw_kind hB).2 with ⟨_, q⟩ | ⟨z, _⟩ | ⟨z, _⟩ | ⟨z, _⟩ | ⟨z, _⟩
  · simp only [flyB, inB, Bool.and_eq_true, decide_eq_true_eq] at q
    exact q.1.2
  · omega
  · omega
  · omega
  · omega
/-- Between two deeds, wherever the lists lie. -/
def RlT (W0 : World) (Q : Nat) (f : Fl) (es : List De) (nl : Nat) (i : Value) (W : World) : Prop := ∃ (k : Nat) (b1 b2 b3 : Option Addr) (l1 l2 l3 p1 p2 p3 : Nat), i = .int .i64 k ∧ k ≤ nl ∧ Hid (flB (rwF f es k) = true) ∧ Hid (RlS W0 Q (rwF f es k) b1 b2 b3 l1 l2 l3 p1 p2 p3 W)
set_option maxRecDepth 20000 in
set_option maxHeartbeats 1000000 in
theorem lawFnReleased_big (a : Option Addr) (len cap : Nat) (w : World) (h : (1048576 : Int) < len) :
    Calls Try.prog 3 #[.slice a len cap] w fun e w' => e = .returned (.bool true) ∧ Below w.heap.size w w' := by
  have hd : decide ((1048576 : Int) < len) = true := by simpa using h
  go_enter Try.func3, Try.ntmps3
  go_wp2_with fail
  refine (big_any a len cap _).mono ?_
  rintro e w' ⟨rfl, hw⟩
  subst w'
  rw [hd]
  go_wp2
  go_ret
  exact ⟨rfl, Below.refl _ _⟩

theorem carA {wr w7 : World} {o : Obj} {x y z : Value} (h : Below (wr.alloc o).drew.heap.size (wr.alloc o).drew w7) : Below wr.heap.size wr (((w7.setCell ⟨wr.heap.size, 0, none⟩ x).setCell ⟨wr.heap.size, 1, none⟩ y).setCell ⟨wr.heap.size, 2, none⟩ z) := by
  have b1 : Below wr.heap.size wr (wr.alloc o).drew := (bel1 (w := wr) o).trans (bel0d' 1)
  exact (((b1.trans (h.mono b1.size)).setCell (p := ⟨wr.heap.size, 0, none⟩) (Nat.le_refl _) x).setCell (p := ⟨wr.heap.size, 1, none⟩) (Nat.le_refl _) y).setCell (p := ⟨wr.heap.size, 2, none⟩) (Nat.le_refl _) z
theorem carB {wr w7 : World} {o : Obj} (h : Below wr.drew.heap.size wr.drew w7) : Below wr.heap.size wr (w7.alloc o) := by
  have b1 : Below wr.heap.size wr w7 := (bel0d' (w := wr) 1).trans h
  exact b1.alloc b1.size o
set_option maxRecDepth 20000 in
set_option maxHeartbeats 8000000 in
theorem lawFnReleased_small (a : Option Addr) (len cap : Nat) (w : World) (h : ¬ (1048576 : Int) < len) (hb : Bytes w a len) (hin : ∀ b off, a = some ⟨b, off, none⟩ → b < w.heap.size) :
    Calls Try.prog 3 #[.slice a len cap] w fun e w' => e = .returned (.bool true) ∧ Below w.heap.size w w' := by
  have hd0 : decide ((1048576 : Int) < len) = false := by simpa using h
  have DRA := hide (drawFleet_any a len cap w hb hin)
  clear hb h hin
  go_enter Try.func3, Try.ntmps3
  go_wp2_with fail
  refine (big_any a len cap _).mono ?_
  rintro e w' ⟨rfl, hw⟩
  subst w'
  rw [hd0]
  go_wp2_with fail
  refine (unhide DRA).mono ?_
  rintro e w3 ⟨a1, a2, a3, e1, e2, e3, f, gl, nl, cl, es, rfl, o3, ol, ⟨hes, hnl⟩, hf, hfe, b3⟩
  have FT := hide (flB_fit hf)
  obtain ⟨hlt1, hlc1, hld1⟩ := flB_len hf
  obtain ⟨n1, hn1⟩ : ∃ n1, f.ts.length = n1 := ⟨_, rfl⟩
  obtain ⟨n2, hn2⟩ : ∃ n2, f.cs.length = n2 := ⟨_, rfl⟩
  obtain ⟨n3, hn3⟩ : ∃ n3, f.ds.length = n3 := ⟨_, rfl⟩
  rw [hn1] at hlt1
  rw [hn2] at hlc1
  rw [hn3] at hld1
  rw [hn1, hn2, hn3] at o3 ⊢
  obtain ⟨V3, hV3⟩ : ∃ V, V = w3.alloc (Obj.cells #[.slice a1 n1 e1, .slice a2 n2 e2, .slice a3 n3 e3, .int .i64 f.nh, .int .i64 f.nc, .int .i64 f.nd] 30) := ⟨_, rfl⟩
  have bV : Below w3.heap.size w3 V3 := by rw [hV3]; exact bel1 _
  obtain ⟨B, hB⟩ : ∃ B, w3.heap.size = B := ⟨_, rfl⟩
  have KF := hide (show Blk V3 B [.slice a1 n1 e1, .slice a2 n2 e2, .slice a3 n3 e3, .int .i64 f.nh, .int .i64 f.nc, .int .i64 f.nd] from (by rw [hV3, ← hB]; exact Blk.new _ _))
  have FI := hide (o3.read.below bV)
  have OL := hide (ol.row.below bV)
  have FE := hide hfe
  have HES := hide hes
  have B3 := hide (b3.trans (bV.mono b3.size))
  have HV3 := hide hV3
  have HF := hide hf
  have CF : Hid (Calls Try.prog 9 #[.agg #[.slice a1 n1 e1, .slice a2 n2 e2, .slice a3 n3 e3, .int .i64 f.nh, .int .i64 f.nc, .int .i64 f.nd]] V3 fun e w' => e = .returned (.bool true) ∧ Below V3.heap.size V3 w') := hide (by rw [← hf]; exact implFleetOk_any f.nh f.nc f.nd a1 a2 a3 n1 e1 n2 e2 n3 e3 f.ts f.cs f.ds V3 (unhide FI) (unhide FT).t (unhide FT).c (unhide FT).d)
  clear hV3 bV o3 ol hes hf hfe b3 hn1 hn2 hn3 DRA
  go_upto_region 4 with fail
  rw [← unhide HV3]
  clear HV3 hB
  go_wp2_with (((with_reducible show wpList _ _ _ (⟨_, .load 30 _, _, _, _, none⟩ :: _) _ _); refine at_loadAgg (vs := [.slice a1 n1 e1, .slice a2 n2 e2, .slice a3 n3 e3, .int .i64 f.nh, .int .i64 f.nc, .int .i64 f.nd]) Try.isAgg30 Try.sizeOf30 rfl (unhide KF) ?_))
  refine (unhide CF).mono ?_
  rintro e w4 ⟨rfl, b4⟩
  have KF4 := hide ((unhide KF).below b4)
  have FI4 := hide ((unhide FI).below b4)
  have OL4 := hide ((unhide OL).below b4)
  have B4 := hide ((unhide B3).trans (b4.mono (unhide B3).size))
  have c1 : w4.cell? ⟨B, 1, none⟩ = some (.slice a2 n2 e2) := (unhide KF4).c 1 (by simp)
  have c3 : w4.cell? ⟨B, 3, none⟩ = some (.int .i64 f.nh) := (unhide KF4).c 3 (by simp)
  have c4 : w4.cell? ⟨B, 4, none⟩ = some (.int .i64 f.nc) := (unhide KF4).c 4 (by simp)
  have c5 : w4.cell? ⟨B, 5, none⟩ = some (.int .i64 f.nd) := (unhide KF4).c 5 (by simp)
  clear b4 KF FI OL B3 CF
  go_wp2_with fail
  refine (implClockOk_is _ _ _ _ (flB_facts (unhide HF)).1).mono ?_
  rintro e w5 ⟨rfl, b5⟩
  have KF5 := hide ((unhide KF4).below b5)
  have FI5 := hide ((unhide FI4).below b5)
  have OL5 := hide ((unhide OL4).below b5)
  have B5 := hide ((unhide B4).trans (b5.mono (unhide B4).size))
  have c1 : w5.cell? ⟨B, 1, none⟩ = some (.slice a2 n2 e2) := (unhide KF5).c 1 (by simp)
  clear b5 KF4 FI4 OL4 B4 c3 c4 c5
  go_wp2_with fail
  refine (implCarryOk_any a2 n2 e2 f.cs _ (unhide FI5).r2 (unhide FT).c).mono ?_
  rintro e w6 ⟨rfl, b6⟩
  rw [(flB_facts (unhide HF)).2.1]
  have KF6 := hide ((unhide KF5).below b6)
  have FI6 := hide ((unhide FI5).below b6)
  have OL6 := hide ((unhide OL5).below b6)
  have B6 := hide ((unhide B5).trans (b6.mono (unhide B5).size))
  clear b6 KF5 FI5 OL5 B5 c1
  obtain ⟨V7, hV7⟩ : ∃ V, V = w6.alloc (Obj.cells #[.slice a1 n1 e1, .slice a2 n2 e2, .slice a3 n3 e3, .int .i64 f.nh, .int .i64 f.nc, .int .i64 f.nd] 30) := ⟨_, rfl⟩
  obtain ⟨Q, hQ⟩ : ∃ Q, w6.heap.size = Q := ⟨_, rfl⟩
  have bV : Below w6.heap.size w6 V7 := by rw [hV7]; exact bel1 _
  have S0 : Hid (RlS w6 Q f a1 a2 a3 n1 n2 n3 e1 e2 e3 V7) := hide ⟨by rw [hV7, ← hQ]; exact Blk.new [.slice a1 n1 e1, .slice a2 n2 e2, .slice a3 n3 e3, .int .i64 f.nh, .int .i64 f.nc, .int .i64 f.nd] _, (unhide FI6).below bV, bV, by omega⟩
  have HV7 := hide hV7
  clear hV7 bV
  go_upto_region 7 with (((with_reducible show wpList _ _ _ (⟨_, .load 30 _, _, _, _, none⟩ :: _) _ _); refine at_loadAgg (vs := [.slice a1 n1 e1, .slice a2 n2 e2, .slice a3 n3 e3, .int .i64 f.nh, .int .i64 f.nc, .int .i64 f.nd]) Try.isAgg30 Try.sizeOf30 rfl (unhide KF6) ?_))
  rw [← unhide HV7]
  clear HV7 hQ
  go_wp2_with fail
  go_loopw [6] (fun i wr => RlT w6 Q f es nl i wr) (fun i _ => nl - (intOf i).toNat)
  case atStart => exact ⟨0, a1, a2, a3, n1, n2, n3, e1, e2, e3, rfl, Nat.zero_le _, HF, S0⟩
  case round =>
    clear S0
    obtain ⟨k, b1, b2, b3, l1, l2, l3, p1, p2, p3, rfl, hk, HFF, HS⟩ := hrel
    have HST : Hid (rwF f es (k + 1) = dwF (rwF f es k) (elAt es k) ∧ True) := hide ⟨rfl, trivial⟩
    have HFK := hide (rw_fit (unhide FT) (unhide FE) k)
    obtain ⟨F, hF⟩ : ∃ F, rwF f es k = F := ⟨_, rfl⟩
    rw [hF] at HFF HS HST HFK
    have HRW := hide hF
    clear hF
    by_cases hlt : k < nl
    · have i0 : (0 : Int) ≤ (k : Int) := by omega
      have i1 : (k : Int) < (nl : Int) := by omega
      have KQ0 := hide (unhide HS).q
      obtain ⟨X, hX⟩ : ∃ X, (rlR F).1 = X := ⟨_, rfl⟩
      obtain ⟨S, hS⟩ : ∃ S, (rlR F).2 = S := ⟨_, rfl⟩
      have CI : Hid (Calls Try.prog 12 #[.agg #[.slice b1 l1 p1, .slice b2 l2 p2, .slice b3 l3 p3, .int .i64 F.nh, .int .i64 F.nc, .int .i64 F.nd]] wr fun e w' => e = .returned (.tuple #[.int .i64 X, .string S]) ∧ Below wr.heap.size wr w') := hide (by rw [← hX, ← hS]; exact implRelease_any F.nh F.nc F.nd b1 b2 b3 l1 p1 l2 p2 l3 p3 F.ts F.cs F.ds wr (unhide HS).i (unhide HFK).t (unhide HFK).c (unhide HFK).d)
      have HX := hide hX
      clear hX hS
      go_wp2_with (((with_reducible show wpList _ _ _ (⟨_, .load 30 _, _, _, _, none⟩ :: _) _ _); refine at_loadAgg (vs := [.slice b1 l1 p1, .slice b2 l2 p2, .slice b3 l3 p3, .int .i64 F.nh, .int .i64 F.nc, .int .i64 F.nd]) Try.isAgg30 Try.sizeOf30 rfl (unhide KQ0) ?_))
      refine (unhide CI).mono ?_
      rintro e w7 ⟨rfl, b7⟩
      have S7 := hide ((unhide HS).below b7)
      have D7 := hide ((unhide OL6).below (unhide S7).bel)
      have HQ7 : Hid (Q < w7.heap.size) := hide (unhide S7).q.lt
      obtain ⟨bb, off, hbo, hc⟩ := (unhide D7).at_ k hlt
      simp only [Option.some.injEq, Addr.mk.injEq, and_true] at hbo
      obtain ⟨rfl, rfl⟩ := hbo
      obtain ⟨d, hd⟩ : ∃ d, elAt es k = d := ⟨_, rfl⟩
      have HDN := hide ((unhide FE) k)
      rw [hd] at hc HST HDN
      have x0 : w7.cell? ⟨gl, k * 4, none⟩ = some (.int .i64 d.k) := by have q := hc 0 (by omega); rw [Nat.zero_add, Nat.add_zero] at q; exact q
      have x1 : w7.cell? ⟨gl, k * 4 + 1, none⟩ = some (.string d.n) := by have q := hc 1 (by omega); rw [Nat.zero_add] at q; exact q
      have x2 : w7.cell? ⟨gl, k * 4 + 2, none⟩ = some (.int .i64 d.i) := by have q := hc 2 (by omega); rw [Nat.zero_add] at q; exact q
      have x3 : w7.cell? ⟨gl, k * 4 + 3, none⟩ = some (.int .i64 d.m) := by have q := hc 3 (by omega); rw [Nat.zero_add] at q; exact q
      have u0 : w7.cell? ⟨Q, 0, none⟩ = some (.slice b1 l1 p1) := (unhide S7).q.c 0 (by simp)
      have u1 : w7.cell? ⟨Q, 1, none⟩ = some (.slice b2 l2 p2) := (unhide S7).q.c 1 (by simp)
      have u2 : w7.cell? ⟨Q, 2, none⟩ = some (.slice b3 l3 p3) := (unhide S7).q.c 2 (by simp)
      have u3 : w7.cell? ⟨Q, 3, none⟩ = some (.int .i64 F.nh) := (unhide S7).q.c 3 (by simp)
      have u4 : w7.cell? ⟨Q, 4, none⟩ = some (.int .i64 F.nc) := (unhide S7).q.c 4 (by simp)
      have u5 : w7.cell? ⟨Q, 5, none⟩ = some (.int .i64 F.nd) := (unhide S7).q.c 5 (by simp)
      clear hc hd b7 CI KQ0 HS
      obtain ⟨G, hG⟩ : ∃ G, dwF F d = G := ⟨_, rfl⟩
      obtain ⟨ok, hok⟩ : ∃ ok, dwB F d = ok := ⟨_, rfl⟩
      have HGK := hide (dw_fit (unhide HFK) (unhide HDN))
      have HG := hide (dw_keeps (d := d) (unhide HFF))
      obtain ⟨m1, hm1⟩ : ∃ m1, G.ts.length = m1 := ⟨_, rfl⟩
      obtain ⟨m2, hm2⟩ : ∃ m2, G.cs.length = m2 := ⟨_, rfl⟩
      obtain ⟨m3, hm3⟩ : ∃ m3, G.ds.length = m3 := ⟨_, rfl⟩
      have hl1 := (unhide S7).i.r1.len_eq
      have hl2 := (unhide S7).i.r2.len_eq
      have hl3 := (unhide S7).i.r3.len_eq
      obtain ⟨z1, z2, z3⟩ := flB_len (unhide HFF)
      have CD : Hid (∀ V, Below w7.heap.size w7 V → Calls Try.prog 13 #[.agg #[.slice b1 l1 p1, .slice b2 l2 p2, .slice b3 l3 p3, .int .i64 F.nh, .int .i64 F.nc, .int .i64 F.nd], .agg #[.int .i64 d.k, .string d.n, .int .i64 d.i, .int .i64 d.m]] V fun e w' => ∃ g1 q1 g2 q2 g3 q3 : Nat, e = .returned (.tuple #[.agg #[.slice (some ⟨g1, 0, none⟩) m1 q1, .slice (some ⟨g2, 0, none⟩) m2 q2, .slice (some ⟨g3, 0, none⟩) m3 q3, .int .i64 G.nh, .int .i64 G.nc, .int .i64 G.nd], .bool ok]) ∧ FlOwn w' V.heap.size (some ⟨g1, 0, none⟩) (some ⟨g2, 0, none⟩) (some ⟨g3, 0, none⟩) m1 q1 m2 q2 m3 q3 G.ts G.cs G.ds ∧ Below V.heap.size V w') := hide (fun V bV => by
        rw [← hok, ← hm1, ← hm2, ← hm3, ← hG]
        exact implDoWork_any F.nh F.nc F.nd b1 b2 b3 l1 p1 l2 p2 l3 p3 F.ts F.cs F.ds d.k d.i d.m d.n V ((unhide S7).i.below bV) (by omega) (by omega) (by omega) (unhide HFK) (unhide HDN))
      rw [hG] at HG HST HGK
      have HGE := hide hG
      have HOK := hide hok
      have HM1 := hide hm1
      have HM2 := hide hm2
      have HM3 := hide hm3
      have HL3 := hide hl3
      clear hG hok hm1 hm2 hm3 hl1 hl2 hl3 z1 z2 z3
      have xa0 : ∀ o, (w7.alloc o).cell? ⟨gl, k * 4, none⟩ = some (.int .i64 d.k) := fun o => ((bel1 (w := w7) o).cell (block_lt_of_cell x0)).trans x0
      have xa1 : ∀ o, (w7.alloc o).cell? ⟨gl, k * 4 + 1, none⟩ = some (.string d.n) := fun o => ((bel1 (w := w7) o).cell (block_lt_of_cell x1)).trans x1
      have xa2 : ∀ o, (w7.alloc o).cell? ⟨gl, k * 4 + 2, none⟩ = some (.int .i64 d.i) := fun o => ((bel1 (w := w7) o).cell (block_lt_of_cell x2)).trans x2
      have xa3 : ∀ o, (w7.alloc o).cell? ⟨gl, k * 4 + 3, none⟩ = some (.int .i64 d.m) := fun o => ((bel1 (w := w7) o).cell (block_lt_of_cell x3)).trans x3
      have ua0 : ∀ o, (w7.alloc o).cell? ⟨Q, 0, none⟩ = some (.slice b1 l1 p1) := fun o => ((bel1 (w := w7) o).cell (block_lt_of_cell u0)).trans u0
      have ua1 : ∀ o, (w7.alloc o).cell? ⟨Q, 1, none⟩ = some (.slice b2 l2 p2) := fun o => ((bel1 (w := w7) o).cell (block_lt_of_cell u1)).trans u1
      have ua2 : ∀ o, (w7.alloc o).cell? ⟨Q, 2, none⟩ = some (.slice b3 l3 p3) := fun o => ((bel1 (w := w7) o).cell (block_lt_of_cell u2)).trans u2
      have ua3 : ∀ o, (w7.alloc o).cell? ⟨Q, 3, none⟩ = some (.int .i64 F.nh) := fun o => ((bel1 (w := w7) o).cell (block_lt_of_cell u3)).trans u3
      have ua4 : ∀ o, (w7.alloc o).cell? ⟨Q, 4, none⟩ = some (.int .i64 F.nc) := fun o => ((bel1 (w := w7) o).cell (block_lt_of_cell u4)).trans u4
      have ua5 : ∀ o, (w7.alloc o).cell? ⟨Q, 5, none⟩ = some (.int .i64 F.nd) := fun o => ((bel1 (w := w7) o).cell (block_lt_of_cell u5)).trans u5
      go_wp2_with fail
      go_cut [9, 10] from 52 to 60 (fun s9 s10 wc => ∃ P g1 q1 g2 q2 g3 q3 : Nat, s9 = .pointer (some ⟨P, 0, none⟩) ∧ s10 = .bool ok ∧ NxC w7 G P g1 q1 g2 q2 g3 q3 m1 m2 m3 wc)
      case first =>
        go_region_law ((fail_if_success have := D1); go_simp; go_wp2_with (go_at_call 13; refine ((unhide CD) _ (by first | exact Below.refl _ _ | exact bel0d' 1 | exact bel1 _ | exact (bel1 (w := w7) _).trans (bel0d' 1))).mono ?_; rintro e w8 ⟨g1, q1, g2, q2, g3, q3, rfl, o8, b8⟩; have D1 := trivial; (first | (have nb := (Blk.new (w := w7) [.slice none 0 0, .slice none 0 0, .slice none 0 0, .int .i64 0, .int .i64 0, .int .i64 0] 30).below b8; have y0 : w8.cell? ⟨w7.heap.size, 0, none⟩ = some (.slice none 0 0) := nb.c 0 (by simp); have z0 : w8.frozen? ⟨w7.heap.size, 0, none⟩ = false := nb.f 0 (by simp); have y1 : w8.cell? ⟨w7.heap.size, 1, none⟩ = some (.slice none 0 0) := nb.c 1 (by simp); have z1 : w8.frozen? ⟨w7.heap.size, 1, none⟩ = false := nb.f 1 (by simp); have y2 : w8.cell? ⟨w7.heap.size, 2, none⟩ = some (.slice none 0 0) := nb.c 2 (by simp); have z2 : w8.frozen? ⟨w7.heap.size, 2, none⟩ = false := nb.f 2 (by simp); have y3 : w8.cell? ⟨w7.heap.size, 3, none⟩ = some (.int .i64 0) := nb.c 3 (by simp); have z3 : w8.frozen? ⟨w7.heap.size, 3, none⟩ = false := nb.f 3 (by simp); have y4 : w8.cell? ⟨w7.heap.size, 4, none⟩ = some (.int .i64 0) := nb.c 4 (by simp); have z4 : w8.frozen? ⟨w7.heap.size, 4, none⟩ = false := nb.f 4 (by simp); have y5 : w8.cell? ⟨w7.heap.size, 5, none⟩ = some (.int .i64 0) := nb.c 5 (by simp); have z5 : w8.frozen? ⟨w7.heap.size, 5, none⟩ = false := nb.f 5 (by simp); have NXX := hide (nxA (wr := w7) (.inl rfl) o8 b8); clear nb) | (have nb := ((Blk.new (w := w7) [.slice none 0 0, .slice none 0 0, .slice none 0 0, .int .i64 0, .int .i64 0, .int .i64 0] 30).below (bel0d 1)).below b8; have y0 : w8.cell? ⟨w7.heap.size, 0, none⟩ = some (.slice none 0 0) := nb.c 0 (by simp); have z0 : w8.frozen? ⟨w7.heap.size, 0, none⟩ = false := nb.f 0 (by simp); have y1 : w8.cell? ⟨w7.heap.size, 1, none⟩ = some (.slice none 0 0) := nb.c 1 (by simp); have z1 : w8.frozen? ⟨w7.heap.size, 1, none⟩ = false := nb.f 1 (by simp); have y2 : w8.cell? ⟨w7.heap.size, 2, none⟩ = some (.slice none 0 0) := nb.c 2 (by simp); have z2 : w8.frozen? ⟨w7.heap.size, 2, none⟩ = false := nb.f 2 (by simp); have y3 : w8.cell? ⟨w7.heap.size, 3, none⟩ = some (.int .i64 0) := nb.c 3 (by simp); have z3 : w8.frozen? ⟨w7.heap.size, 3, none⟩ = false := nb.f 3 (by simp); have y4 : w8.cell? ⟨w7.heap.size, 4, none⟩ = some (.int .i64 0) := nb.c 4 (by simp); have z4 : w8.frozen? ⟨w7.heap.size, 4, none⟩ = false := nb.f 4 (by simp); have y5 : w8.cell? ⟨w7.heap.size, 5, none⟩ = some (.int .i64 0) := nb.c 5 (by simp); have z5 : w8.frozen? ⟨w7.heap.size, 5, none⟩ = false := nb.f 5 (by simp); have NXX := hide (nxA (wr := w7) (.inr rfl) o8 b8); clear nb) | (have NXX := hide (nxB (wr := w7) (.inl rfl) o8 b8)) | (have NXX := hide (nxB (wr := w7) (.inr rfl) o8 b8))); clear o8 b8))
        all_goals (
          go_wp2
          go_meet
          case rel => exact ⟨_, g1, q1, g2, q2, g3, q3, rfl, rfl, unhide NXX⟩)
      case rest =>
        obtain ⟨P, g1, q1, g2, q2, g3, q3, rfl, rfl, nx⟩ := hcut
        have S8 := hide ((unhide S7).below nx.bel)
        have KP8 := hide nx.p
        have OX8 := hide nx.o
        have CG : Hid (Calls Try.prog 9 #[.agg #[.slice (some ⟨g1, 0, none⟩) m1 q1, .slice (some ⟨g2, 0, none⟩) m2 q2, .slice (some ⟨g3, 0, none⟩) m3 q3, .int .i64 G.nh, .int .i64 G.nc, .int .i64 G.nd]] wc fun e w' => e = .returned (.bool true) ∧ Below wc.heap.size wc w') := hide (by rw [← unhide HG]; exact implFleetOk_any G.nh G.nc G.nd (some ⟨g1, 0, none⟩) (some ⟨g2, 0, none⟩) (some ⟨g3, 0, none⟩) m1 q1 m2 q2 m3 q3 G.ts G.cs G.ds wc nx.o.read (unhide HGK).t (unhide HGK).c (unhide HGK).d)
        have xb0 : wc.cell? ⟨gl, k * 4, none⟩ = some (.int .i64 d.k) := (nx.bel.cell (block_lt_of_cell x0)).trans x0
        have xb1 : wc.cell? ⟨gl, k * 4 + 1, none⟩ = some (.string d.n) := (nx.bel.cell (block_lt_of_cell x1)).trans x1
        have xb2 : wc.cell? ⟨gl, k * 4 + 2, none⟩ = some (.int .i64 d.i) := (nx.bel.cell (block_lt_of_cell x2)).trans x2
        have xb3 : wc.cell? ⟨gl, k * 4 + 3, none⟩ = some (.int .i64 d.m) := (nx.bel.cell (block_lt_of_cell x3)).trans x3
        clear nx CD x0 x1 x2 x3 u0 u1 u2 u3 u4 u5 xa0 xa1 xa2 xa3 ua0 ua1 ua2 ua3 ua4 ua5
        go_wp2_with (((with_reducible show wpList _ _ _ (⟨_, .load 30 _, _, _, _, none⟩ :: _) _ _); refine at_loadAgg (vs := [.slice (some ⟨g1, 0, none⟩) m1 q1, .slice (some ⟨g2, 0, none⟩) m2 q2, .slice (some ⟨g3, 0, none⟩) m3 q3, .int .i64 G.nh, .int .i64 G.nc, .int .i64 G.nd]) Try.isAgg30 Try.sizeOf30 rfl (unhide KP8) ?_))
        refine (unhide CG).mono ?_
        rintro e w9 ⟨rfl, b9⟩
        have S9 := hide ((unhide S8).below b9)
        have KP9 := hide ((unhide KP8).below b9)
        have OX9 := hide ((unhide OX8).below b9)
        have da0 : w9.cell? ⟨gl, k * 4, none⟩ = some (.int .i64 d.k) := (b9.cell (block_lt_of_cell xb0)).trans xb0
        have da1 : w9.cell? ⟨gl, k * 4 + 1, none⟩ = some (.string d.n) := (b9.cell (block_lt_of_cell xb1)).trans xb1
        have da2 : w9.cell? ⟨gl, k * 4 + 2, none⟩ = some (.int .i64 d.i) := (b9.cell (block_lt_of_cell xb2)).trans xb2
        have da3 : w9.cell? ⟨gl, k * 4 + 3, none⟩ = some (.int .i64 d.m) := (b9.cell (block_lt_of_cell xb3)).trans xb3
        have pa0 : w9.cell? ⟨P, 0, none⟩ = some (.slice (some ⟨g1, 0, none⟩) m1 q1) := (unhide KP9).c 0 (by simp)
        have pa1 : w9.cell? ⟨P, 1, none⟩ = some (.slice (some ⟨g2, 0, none⟩) m2 q2) := (unhide KP9).c 1 (by simp)
        have pa2 : w9.cell? ⟨P, 2, none⟩ = some (.slice (some ⟨g3, 0, none⟩) m3 q3) := (unhide KP9).c 2 (by simp)
        have pa3 : w9.cell? ⟨P, 3, none⟩ = some (.int .i64 G.nh) := (unhide KP9).c 3 (by simp)
        have pa4 : w9.cell? ⟨P, 4, none⟩ = some (.int .i64 G.nc) := (unhide KP9).c 4 (by simp)
        have pa5 : w9.cell? ⟨P, 5, none⟩ = some (.int .i64 G.nd) := (unhide KP9).c 5 (by simp)
        have qa0 : w9.cell? ⟨Q, 0, none⟩ = some (.slice b1 l1 p1) := (unhide S9).q.c 0 (by simp)
        have qa1 : w9.cell? ⟨Q, 1, none⟩ = some (.slice b2 l2 p2) := (unhide S9).q.c 1 (by simp)
        have qa2 : w9.cell? ⟨Q, 2, none⟩ = some (.slice b3 l3 p3) := (unhide S9).q.c 2 (by simp)
        have qa3 : w9.cell? ⟨Q, 3, none⟩ = some (.int .i64 F.nh) := (unhide S9).q.c 3 (by simp)
        have qa4 : w9.cell? ⟨Q, 4, none⟩ = some (.int .i64 F.nc) := (unhide S9).q.c 4 (by simp)
        have qa5 : w9.cell? ⟨Q, 5, none⟩ = some (.int .i64 F.nd) := (unhide S9).q.c 5 (by simp)
        clear b9 S8 KP8 OX8 CG xb0 xb1 xb2 xb3
        cases ok
        · have hGF : G = F := by rw [← unhide HGE]; exact dw_no (unhide HOK)
          have hm : m3 = l3 := by rw [← unhide HM3, hGF]; exact unhide HL3
          rw [hGF] at pa3 pa4 pa5
          rw [hm] at pa2
          clear hGF hm
          go_upto_region 24 with fail
          obtain ⟨ι, fW, _, hcb, hcl⟩ := belClass w9
          have HB := hide hcb
          have HA := hide hcl
          have r0 : ∀ x, (fW x).cell? ⟨gl, k * 4, none⟩ = some (.int .i64 d.k) := fun x => ((hcb x).cell (block_lt_of_cell da0)).trans da0
          have r3 : ∀ x, (fW x).cell? ⟨gl, k * 4 + 3, none⟩ = some (.int .i64 d.m) := fun x => ((hcb x).cell (block_lt_of_cell da3)).trans da3
          have rp : ∀ x, (fW x).cell? ⟨P, 3, none⟩ = some (.int .i64 F.nh) := fun x => ((hcb x).cell (block_lt_of_cell pa3)).trans pa3
          have rq : ∀ x, (fW x).cell? ⟨Q, 3, none⟩ = some (.int .i64 F.nh) := fun x => ((hcb x).cell (block_lt_of_cell qa3)).trans qa3
          obtain ⟨x0, hx0⟩ := hcl w9 (Below.refl _ _)
          rw [hx0]
          clear hx0 hcb hcl
          refine wp_region_bel (fun w' h => (unhide HA) w' ((unhide HB _).trans (h.mono (unhide HB _).size))) (by kernel_rfl) (by kernel_rfl) ?_
          (repeat (go_big_quiet_step (fail)))
          refine wpQuiet_nil ?_
          rintro _ ⟨y, rfl⟩
          go_upto_region 26 with fail
          have S10 := hide ((unhide S9).below (unhide HB y))
          have KP10 := hide ((unhide KP9).below (unhide HB y))
          have OX10 := hide ((unhide OX9).below (unhide HB y))
          have KQ := hide (unhide S10).q
          go_wp2_with (first
            | ((with_reducible show wpList _ _ _ (⟨_, .load 30 _, _, _, _, none⟩ :: _) _ _); refine at_loadAgg (vs := [.slice (some ⟨g1, 0, none⟩) m1 q1, .slice (some ⟨g2, 0, none⟩) m2 q2, .slice (some ⟨g3, 0, none⟩) m3 q3, .int .i64 G.nh, .int .i64 G.nc, .int .i64 G.nd]) Try.isAgg30 Try.sizeOf30 rfl (unhide KP10) ?_)
            | ((with_reducible show wpList _ _ _ (⟨none, .store 30 _ _, _, _, _, none⟩ :: _) _ _); refine at_storeAgg (us := [.slice b1 l1 p1, .slice b2 l2 p2, .slice b3 l3 p3, .int .i64 F.nh, .int .i64 F.nc, .int .i64 F.nd]) (vs := [.slice (some ⟨g1, 0, none⟩) m1 q1, .slice (some ⟨g2, 0, none⟩) m2 q2, .slice (some ⟨g3, 0, none⟩) m3 q3, .int .i64 G.nh, .int .i64 G.nc, .int .i64 G.nd]) Try.sizeOf30 rfl rfl (unhide KQ) rfl (fun v hv => by simp at hv; rcases hv with rfl | rfl | rfl | rfl | rfl | rfl <;> rfl) ?_; intro wz k9 g9; have K9 := hide k9; have G9 := hide g9; clear k9 g9))
          have hqq : Q < w7.heap.size := unhide HQ7
          have f1 := (unhide OX10).o1.far (unhide G9) (fun q hq e => by have e1 := Option.some.inj e; have e2 := ((unhide OX10).o1.lies q hq).1; omega)
          have f2 := (unhide OX10).o2.far (unhide G9) (fun q hq e => by have e1 := Option.some.inj e; have e2 := ((unhide OX10).o2.lies q hq).1; omega)
          have f3 := (unhide OX10).o3.far (unhide G9) (fun q hq e => by have e1 := Option.some.inj e; have e2 := ((unhide OX10).o3.lies q hq).1; omega)
          have SN : Hid (RlS w6 Q G (some ⟨g1, 0, none⟩) (some ⟨g2, 0, none⟩) (some ⟨g3, 0, none⟩) m1 m2 m3 q1 q2 q3 wz) := hide ⟨unhide K9, ⟨f1.row, f2.row, f3.row⟩, (unhide S10).bel.grown (unhide G9) (unhide S10).bel.size (fun q hq => by have e1 : Q = q := Option.some.inj hq; have e2 := (unhide S10).ge; omega), (unhide S10).ge⟩
          clear f1 f2 f3
          go_roundw
          case rel => exact ⟨k + 1, some ⟨g1, 0, none⟩, some ⟨g2, 0, none⟩, some ⟨g3, 0, none⟩, m1, m2, m3, q1, q2, q3, by go_num, by omega, by rw [(unhide HST).1]; exact unhide HG, by rw [(unhide HST).1]; exact SN⟩
          case measure => simp [intOf]; omega
        · by_cases k1 : d.k = 1
          · obtain ⟨hnc, hnh, hmb⟩ := dw_fly (unhide HOK) k1
            rw [unhide HGE] at hnc hnh
            have hck := ckB_facts (flB_facts (unhide HFF)).1
            have hnb : 0 ≤ F.nh ∧ F.nh ≤ 1000000 := hck.1
            have hX0 : X = 0 := by rw [← unhide HX]; exact dw_cycles (d := d) (by rw [unhide HGE, hnc]; omega)
            subst hX0
            rw [hnc] at pa4
            rw [hnh] at pa3
            rw [k1] at da0
            have e0 : (F.nc + 1 == F.nc) = false := by rw [beq_eq_false_iff_ne]; omega
            clear hnc hnh hck k1
            go_upto_region 24 with fail
            obtain ⟨ι, fW, _, hcb, hcl⟩ := belClass w9
            have HB := hide hcb
            have HA := hide hcl
            have r0 : ∀ x, (fW x).cell? ⟨gl, k * 4, none⟩ = some (.int .i64 1) := fun x => ((hcb x).cell (block_lt_of_cell da0)).trans da0
            have r3 : ∀ x, (fW x).cell? ⟨gl, k * 4 + 3, none⟩ = some (.int .i64 d.m) := fun x => ((hcb x).cell (block_lt_of_cell da3)).trans da3
            have rp : ∀ x, (fW x).cell? ⟨P, 3, none⟩ = some (.int .i64 (F.nh + d.m)) := fun x => ((hcb x).cell (block_lt_of_cell pa3)).trans pa3
            have rq : ∀ x, (fW x).cell? ⟨Q, 3, none⟩ = some (.int .i64 F.nh) := fun x => ((hcb x).cell (block_lt_of_cell qa3)).trans qa3
            obtain ⟨x0, hx0⟩ := hcl w9 (Below.refl _ _)
            rw [hx0]
            clear hx0 hcb hcl
            refine wp_region_bel (fun w' h => (unhide HA) w' ((unhide HB _).trans (h.mono (unhide HB _).size))) (by kernel_rfl) (by kernel_rfl) ?_
            (repeat (go_big_quiet_step (fail)))
            refine wpQuiet_nil ?_
            rintro _ ⟨y, rfl⟩
            go_upto_region 26 with fail
            have S10 := hide ((unhide S9).below (unhide HB y))
            have KP10 := hide ((unhide KP9).below (unhide HB y))
            have OX10 := hide ((unhide OX9).below (unhide HB y))
            have KQ := hide (unhide S10).q
            go_wp2_with (first
              | ((with_reducible show wpList _ _ _ (⟨_, .load 30 _, _, _, _, none⟩ :: _) _ _); refine at_loadAgg (vs := [.slice (some ⟨g1, 0, none⟩) m1 q1, .slice (some ⟨g2, 0, none⟩) m2 q2, .slice (some ⟨g3, 0, none⟩) m3 q3, .int .i64 G.nh, .int .i64 G.nc, .int .i64 G.nd]) Try.isAgg30 Try.sizeOf30 rfl (unhide KP10) ?_)
              | ((with_reducible show wpList _ _ _ (⟨none, .store 30 _ _, _, _, _, none⟩ :: _) _ _); refine at_storeAgg (us := [.slice b1 l1 p1, .slice b2 l2 p2, .slice b3 l3 p3, .int .i64 F.nh, .int .i64 F.nc, .int .i64 F.nd]) (vs := [.slice (some ⟨g1, 0, none⟩) m1 q1, .slice (some ⟨g2, 0, none⟩) m2 q2, .slice (some ⟨g3, 0, none⟩) m3 q3, .int .i64 G.nh, .int .i64 G.nc, .int .i64 G.nd]) Try.sizeOf30 rfl rfl (unhide KQ) rfl (fun v hv => by simp at hv; rcases hv with rfl | rfl | rfl | rfl | rfl | rfl <;> rfl) ?_; intro wz k9 g9; have K9 := hide k9; have G9 := hide g9; clear k9 g9))
            have hqq : Q < w7.heap.size := unhide HQ7
            have f1 := (unhide OX10).o1.far (unhide G9) (fun q hq e => by have e1 := Option.some.inj e; have e2 := ((unhide OX10).o1.lies q hq).1; omega)
            have f2 := (unhide OX10).o2.far (unhide G9) (fun q hq e => by have e1 := Option.some.inj e; have e2 := ((unhide OX10).o2.lies q hq).1; omega)
            have f3 := (unhide OX10).o3.far (unhide G9) (fun q hq e => by have e1 := Option.some.inj e; have e2 := ((unhide OX10).o3.lies q hq).1; omega)
            have SN : Hid (RlS w6 Q G (some ⟨g1, 0, none⟩) (some ⟨g2, 0, none⟩) (some ⟨g3, 0, none⟩) m1 m2 m3 q1 q2 q3 wz) := hide ⟨unhide K9, ⟨f1.row, f2.row, f3.row⟩, (unhide S10).bel.grown (unhide G9) (unhide S10).bel.size (fun q hq => by have e1 : Q = q := Option.some.inj hq; have e2 := (unhide S10).ge; omega), (unhide S10).ge⟩
            clear f1 f2 f3
            go_roundw
            case rel => exact ⟨k + 1, some ⟨g1, 0, none⟩, some ⟨g2, 0, none⟩, some ⟨g3, 0, none⟩, m1, m2, m3, q1, q2, q3, by go_num, by omega, by rw [(unhide HST).1]; exact unhide HG, by rw [(unhide HST).1]; exact SN⟩
            case measure => simp [intOf]; omega
          · have hnc : G.nc = F.nc := by rw [← unhide HGE]; exact dw_nc k1
            rw [hnc] at pa4
            have e1 : (d.k == 1) = false := by rw [beq_eq_false_iff_ne]; exact k1
            clear hnc
            by_cases k2 : d.k = 2
            · obtain ⟨⟨qx, hqx, hqn⟩, hall⟩ := dw_task (unhide HOK) k2
              rw [unhide HGE] at hqx hqn hall
              rw [k2] at da0
              have hm1b : m1 ≤ 40 := by have q := (flB_len (unhide HG)).1; rw [unhide HM1] at q; exact q
              have HALL := hide hall
              have HMD : Hid (mdK G.ts d.n m1 = true) := hide (mdK_at hqn m1 (by rw [← unhide HM1]; exact hqx))
              clear hqx hqn hall k1 k2 e1
              go_wp2_with fail
              go_loopw [11, 12] (fun o i wj => ∃ j : Nat, o = .bool (mdK G.ts d.n j) ∧ i = .int .i64 j ∧ j ≤ m1 ∧ Below w9.heap.size w9 wj) (fun _ i _ => m1 - (intOf i).toNat)
              case atStart => exact ⟨0, rfl, rfl, Nat.zero_le _, Below.refl _ _⟩
              case round =>
                obtain ⟨j, rfl, rfl, hj, hbj⟩ := hrel
                obtain ⟨wj, hwj⟩ : ∃ W, W = wr := ⟨_, rfl⟩
                rw [← hwj] at hbj ⊢
                clear hwj
                have BJ := hide hbj
                have KPJ := (unhide KP9).below hbj
                have c0 : wj.cell? ⟨P, 0, none⟩ = some (.slice (some ⟨g1, 0, none⟩) m1 q1) := KPJ.c 0 (by simp)
                by_cases hjl : j < m1
                · have j0 : (0 : Int) ≤ (j : Int) := by omega
                  have j1 : (j : Int) < (m1 : Int) := by omega
                  have c3 : wj.cell? ⟨P, 3, none⟩ = some (.int .i64 G.nh) := KPJ.c 3 (by simp)
                  have c4 : wj.cell? ⟨P, 4, none⟩ = some (.int .i64 G.nc) := KPJ.c 4 (by simp)
                  have c5 : wj.cell? ⟨P, 5, none⟩ = some (.int .i64 G.nd) := KPJ.c 5 (by simp)
                  obtain ⟨bb, off, hbo, hc⟩ := ((unhide OX9).o1.row.below hbj).at_ j hjl
                  simp only [Option.some.injEq, Addr.mk.injEq, and_true] at hbo
                  obtain ⟨rfl, rfl⟩ := hbo
                  have HAJ := hide ((unhide HALL) j (by rw [unhide HM1]; exact hjl))
                  have HSZ := hide ((unhide HGK).t j)
                  have HSTM : Hid (mdK G.ts d.n (j + 1) = (mdK G.ts d.n j || decide ((elAt G.ts j).nm = d.n))) := hide rfl
                  obtain ⟨md, hmd⟩ : ∃ md, mdK G.ts d.n j = md := ⟨_, rfl⟩
                  obtain ⟨t, ht⟩ : ∃ t, elAt G.ts j = t := ⟨_, rfl⟩
                  rw [ht] at hc HAJ HSZ HSTM
                  rw [hmd] at HSTM ⊢
                  have tj0 : wj.cell? ⟨g1, j * 7, none⟩ = some (.string t.nm) := by have q := hc 0 (by omega); rw [Nat.zero_add, Nat.add_zero] at q; exact q
                  have tj1 : wj.cell? ⟨g1, j * 7 + 1, none⟩ = some (.int .i64 t.h) := by have q := hc 1 (by omega); rw [Nat.zero_add] at q; exact q
                  have tj2 : wj.cell? ⟨g1, j * 7 + 2, none⟩ = some (.int .i64 t.c) := by have q := hc 2 (by omega); rw [Nat.zero_add] at q; exact q
                  have tj3 : wj.cell? ⟨g1, j * 7 + 3, none⟩ = some (.int .i64 t.d) := by have q := hc 3 (by omega); rw [Nat.zero_add] at q; exact q
                  have tj4 : wj.cell? ⟨g1, j * 7 + 4, none⟩ = some (.int .i64 t.dh) := by have q := hc 4 (by omega); rw [Nat.zero_add] at q; exact q
                  have tj5 : wj.cell? ⟨g1, j * 7 + 5, none⟩ = some (.int .i64 t.dc) := by have q := hc 5 (by omega); rw [Nat.zero_add] at q; exact q
                  have tj6 : wj.cell? ⟨g1, j * 7 + 6, none⟩ = some (.int .i64 t.dd) := by have q := hc 6 (by omega); rw [Nat.zero_add] at q; exact q
                  have tn1 : wj.cell? ⟨gl, k * 4 + 1, none⟩ = some (.string d.n) := (hbj.cell (block_lt_of_cell da1)).trans da1
                  clear hc hmd ht KPJ hbj
                  go_wp2_with fail
                  obtain ⟨ι, fW, _, hcb, hcl⟩ := belClass wj
                  have HB := hide hcb
                  have HA := hide hcl
                  have v0 : ∀ x, (fW x).cell? ⟨P, 0, none⟩ = some (.slice (some ⟨g1, 0, none⟩) m1 q1) := fun x => ((hcb x).cell (block_lt_of_cell c0)).trans c0
                  have v1 : ∀ x, (fW x).cell? ⟨g1, j * 7, none⟩ = some (.string t.nm) := fun x => ((hcb x).cell (block_lt_of_cell tj0)).trans tj0
                  have v2 : ∀ x, (fW x).cell? ⟨gl, k * 4 + 1, none⟩ = some (.string d.n) := fun x => ((hcb x).cell (block_lt_of_cell tn1)).trans tn1
                  obtain ⟨x0, hx0⟩ := hcl wj (Below.refl _ _)
                  rw [hx0]
                  clear hx0 hcb hcl
                  have HR : Hid (∀ y, Below w9.heap.size w9 (fW y)) := hide (fun y => (unhide BJ).trans ((unhide HB y).mono (unhide BJ).size))
                  by_cases hne : t.nm = d.n
                  · have HE := hide hne
                    obtain ⟨tn, htn⟩ : ∃ tn, t.nm = tn := ⟨_, rfl⟩
                    have htd : d.n = tn := hne.symm.trans htn
                    rw [htn] at v1
                    rw [htd] at v2
                    clear hne htn htd
                    refine wp_region_bel (fun w' h => (unhide HA) w' ((unhide HB _).trans (h.mono (unhide HB _).size))) (by kernel_rfl) (by kernel_rfl) ?_
                    (repeat (go_big_quiet_step (fail)))
                    refine wpQuiet_nil ?_
                    rintro _ ⟨y, rfl⟩
                    have bk := unhide HB y
                    obtain ⟨wk, hwk⟩ : ∃ W, W = fW y := ⟨_, rfl⟩
                    rw [← hwk] at bk ⊢
                    have e0 : wk.cell? ⟨P, 0, none⟩ = some (.slice (some ⟨g1, 0, none⟩) m1 q1) := (bk.cell (block_lt_of_cell c0)).trans c0
                    have e3 : wk.cell? ⟨P, 3, none⟩ = some (.int .i64 G.nh) := (bk.cell (block_lt_of_cell c3)).trans c3
                    have e4 : wk.cell? ⟨P, 4, none⟩ = some (.int .i64 G.nc) := (bk.cell (block_lt_of_cell c4)).trans c4
                    have e5 : wk.cell? ⟨P, 5, none⟩ = some (.int .i64 G.nd) := (bk.cell (block_lt_of_cell c5)).trans c5
                    have tk0 : wk.cell? ⟨g1, j * 7, none⟩ = some (.string t.nm) := (bk.cell (block_lt_of_cell tj0)).trans tj0
                    have tk1 : wk.cell? ⟨g1, j * 7 + 1, none⟩ = some (.int .i64 t.h) := (bk.cell (block_lt_of_cell tj1)).trans tj1
                    have tk2 : wk.cell? ⟨g1, j * 7 + 2, none⟩ = some (.int .i64 t.c) := (bk.cell (block_lt_of_cell tj2)).trans tj2
                    have tk3 : wk.cell? ⟨g1, j * 7 + 3, none⟩ = some (.int .i64 t.d) := (bk.cell (block_lt_of_cell tj3)).trans tj3
                    have tk4 : wk.cell? ⟨g1, j * 7 + 4, none⟩ = some (.int .i64 t.dh) := (bk.cell (block_lt_of_cell tj4)).trans tj4
                    have tk5 : wk.cell? ⟨g1, j * 7 + 5, none⟩ = some (.int .i64 t.dc) := (bk.cell (block_lt_of_cell tj5)).trans tj5
                    have tk6 : wk.cell? ⟨g1, j * 7 + 6, none⟩ = some (.int .i64 t.dd) := (bk.cell (block_lt_of_cell tj6)).trans tj6
                    have BK := hide ((unhide BJ).trans (bk.mono (unhide BJ).size))
                    clear hwk bk v0 v1 v2 HA HB HR c0 c3 c4 c5 tn1 tj0 tj1 tj2 tj3 tj4 tj5 tj6
                    obtain ⟨H9, hH9⟩ : ∃ H9, d9H t G.nh G.nc G.nd = H9 := ⟨_, rfl⟩
                    obtain ⟨C9, hC9⟩ : ∃ C9, d9C t G.nh G.nc G.nd = C9 := ⟨_, rfl⟩
                    obtain ⟨E9, hE9⟩ : ∃ E9, d9E t G.nh G.nc G.nd = E9 := ⟨_, rfl⟩
                    have CD2 : Hid (∀ V, Calls Try.prog 14 #[.agg #[.string t.nm, .int .i64 t.h, .int .i64 t.c, .int .i64 t.d, .int .i64 t.dh, .int .i64 t.dc, .int .i64 t.dd], .agg #[.int .i64 G.nh, .int .i64 G.nc, .int .i64 G.nd]] V fun e w' => e = .returned (.tuple #[.bool false, .agg #[.int .i64 H9, .int .i64 C9, .int .i64 E9], .bool true]) ∧ Below V.heap.size V w') := hide (fun V => by
                      obtain ⟨y1, y2, _⟩ := (unhide HAJ) (unhide HE)
                      have k := implDue19_any t.nm t.h t.c t.d t.dh t.dc t.dd G.nh G.nc G.nd V (unhide HSZ)
                      have y1' : d9D ⟨t.nm, t.h, t.c, t.d, t.dh, t.dc, t.dd⟩ G.nh G.nc G.nd = false := y1
                      have y2' : d9B ⟨t.nm, t.h, t.c, t.d, t.dh, t.dc, t.dd⟩ G.nh G.nc G.nd = true := y2
                      rw [y1', y2'] at k
                      rw [← hH9, ← hC9, ← hE9]
                      exact k)
                    have CT2 : Hid (∀ V, Calls Try.prog 15 #[.agg #[.string t.nm, .int .i64 t.h, .int .i64 t.c, .int .i64 t.d, .int .i64 t.dh, .int .i64 t.dc, .int .i64 t.dd]] V fun e w' => e = .returned (.bool true) ∧ Below V.heap.size V w') := hide (fun V => implTaskOk_is t.nm t.h t.c t.d t.dh t.dc t.dd V (unhide HSZ) ((unhide HAJ) (unhide HE)).2.2)
                    have HS2 : Hid (mdK G.ts d.n (j + 1) = true) := hide (by rw [unhide HSTM, decide_eq_true (unhide HE)]; simp)
                    clear hH9 hC9 hE9 HAJ HSZ HSTM
                    have ea0 : ∀ o, (wk.alloc o).cell? ⟨P, 0, none⟩ = some (.slice (some ⟨g1, 0, none⟩) m1 q1) := fun o => ((bel1 (w := wk) o).cell (block_lt_of_cell e0)).trans e0
                    have ea3 : ∀ o, (wk.alloc o).cell? ⟨P, 3, none⟩ = some (.int .i64 G.nh) := fun o => ((bel1 (w := wk) o).cell (block_lt_of_cell e3)).trans e3
                    have ea4 : ∀ o, (wk.alloc o).cell? ⟨P, 4, none⟩ = some (.int .i64 G.nc) := fun o => ((bel1 (w := wk) o).cell (block_lt_of_cell e4)).trans e4
                    have ea5 : ∀ o, (wk.alloc o).cell? ⟨P, 5, none⟩ = some (.int .i64 G.nd) := fun o => ((bel1 (w := wk) o).cell (block_lt_of_cell e5)).trans e5
                    have ta0 : ∀ o, (wk.alloc o).cell? ⟨g1, j * 7, none⟩ = some (.string t.nm) := fun o => ((bel1 (w := wk) o).cell (block_lt_of_cell tk0)).trans tk0
                    have ta1 : ∀ o, (wk.alloc o).cell? ⟨g1, j * 7 + 1, none⟩ = some (.int .i64 t.h) := fun o => ((bel1 (w := wk) o).cell (block_lt_of_cell tk1)).trans tk1
                    have ta2 : ∀ o, (wk.alloc o).cell? ⟨g1, j * 7 + 2, none⟩ = some (.int .i64 t.c) := fun o => ((bel1 (w := wk) o).cell (block_lt_of_cell tk2)).trans tk2
                    have ta3 : ∀ o, (wk.alloc o).cell? ⟨g1, j * 7 + 3, none⟩ = some (.int .i64 t.d) := fun o => ((bel1 (w := wk) o).cell (block_lt_of_cell tk3)).trans tk3
                    have ta4 : ∀ o, (wk.alloc o).cell? ⟨g1, j * 7 + 4, none⟩ = some (.int .i64 t.dh) := fun o => ((bel1 (w := wk) o).cell (block_lt_of_cell tk4)).trans tk4
                    have ta5 : ∀ o, (wk.alloc o).cell? ⟨g1, j * 7 + 5, none⟩ = some (.int .i64 t.dc) := fun o => ((bel1 (w := wk) o).cell (block_lt_of_cell tk5)).trans tk5
                    have ta6 : ∀ o, (wk.alloc o).cell? ⟨g1, j * 7 + 6, none⟩ = some (.int .i64 t.dd) := fun o => ((bel1 (w := wk) o).cell (block_lt_of_cell tk6)).trans tk6
                    go_wp2_with fail
                    go_cut [13, 14, 15] from 125 to 136 (fun s13 s14 s15 wc => ∃ R : Nat, s13 = .bool false ∧ s14 = .pointer (some ⟨R, 0, none⟩) ∧ s15 = .bool true ∧ Below wk.heap.size wk wc)
                    case first =>
                      go_region_law ((fail_if_success have := D2); go_simp; go_wp2_with (go_at_call 14; refine ((unhide CD2) _).mono ?_; rintro e wu ⟨rfl, bu⟩; have D2 := trivial; (first | (have nb := (Blk.new (w := wk) [.int .i64 0, .int .i64 0, .int .i64 0] 28).below bu; have y0 : wu.cell? ⟨wk.heap.size, 0, none⟩ = some (.int .i64 0) := nb.c 0 (by simp); have z0 : wu.frozen? ⟨wk.heap.size, 0, none⟩ = false := nb.f 0 (by simp); have y1 : wu.cell? ⟨wk.heap.size, 1, none⟩ = some (.int .i64 0) := nb.c 1 (by simp); have z1 : wu.frozen? ⟨wk.heap.size, 1, none⟩ = false := nb.f 1 (by simp); have y2 : wu.cell? ⟨wk.heap.size, 2, none⟩ = some (.int .i64 0) := nb.c 2 (by simp); have z2 : wu.frozen? ⟨wk.heap.size, 2, none⟩ = false := nb.f 2 (by simp); clear nb) | (have nb := ((Blk.new (w := wk) [.int .i64 0, .int .i64 0, .int .i64 0] 28).below (bel0d 1)).below bu; have y0 : wu.cell? ⟨wk.heap.size, 0, none⟩ = some (.int .i64 0) := nb.c 0 (by simp); have z0 : wu.frozen? ⟨wk.heap.size, 0, none⟩ = false := nb.f 0 (by simp); have y1 : wu.cell? ⟨wk.heap.size, 1, none⟩ = some (.int .i64 0) := nb.c 1 (by simp); have z1 : wu.frozen? ⟨wk.heap.size, 1, none⟩ = false := nb.f 1 (by simp); have y2 : wu.cell? ⟨wk.heap.size, 2, none⟩ = some (.int .i64 0) := nb.c 2 (by simp); have z2 : wu.frozen? ⟨wk.heap.size, 2, none⟩ = false := nb.f 2 (by simp); clear nb) | skip); have BU := hide bu; clear bu))
                      all_goals (
                        go_wp2
                        go_meet
                        case rel => first
                          | exact ⟨_, rfl, rfl, rfl, carA (unhide BU)⟩
                          | exact ⟨_, rfl, rfl, rfl, carB (unhide BU)⟩)
                    case rest =>
                      obtain ⟨R, rfl, rfl, rfl, bc⟩ := hcut
                      have x0 : wc.cell? ⟨P, 0, none⟩ = some (.slice (some ⟨g1, 0, none⟩) m1 q1) := (bc.cell (block_lt_of_cell e0)).trans e0
                      have tc0 : wc.cell? ⟨g1, j * 7, none⟩ = some (.string t.nm) := (bc.cell (block_lt_of_cell tk0)).trans tk0
                      have tc1 : wc.cell? ⟨g1, j * 7 + 1, none⟩ = some (.int .i64 t.h) := (bc.cell (block_lt_of_cell tk1)).trans tk1
                      have tc2 : wc.cell? ⟨g1, j * 7 + 2, none⟩ = some (.int .i64 t.c) := (bc.cell (block_lt_of_cell tk2)).trans tk2
                      have tc3 : wc.cell? ⟨g1, j * 7 + 3, none⟩ = some (.int .i64 t.d) := (bc.cell (block_lt_of_cell tk3)).trans tk3
                      have tc4 : wc.cell? ⟨g1, j * 7 + 4, none⟩ = some (.int .i64 t.dh) := (bc.cell (block_lt_of_cell tk4)).trans tk4
                      have tc5 : wc.cell? ⟨g1, j * 7 + 5, none⟩ = some (.int .i64 t.dc) := (bc.cell (block_lt_of_cell tk5)).trans tk5
                      have tc6 : wc.cell? ⟨g1, j * 7 + 6, none⟩ = some (.int .i64 t.dd) := (bc.cell (block_lt_of_cell tk6)).trans tk6
                      have BC := hide ((unhide BK).trans (bc.mono (unhide BK).size))
                      clear bc e0 e3 e4 e5 tk0 tk1 tk2 tk3 tk4 tk5 tk6 ea0 ea3 ea4 ea5 ta0 ta1 ta2 ta3 ta4 ta5 ta6
                      go_wp2_with fail
                      refine ((unhide CT2) _).mono ?_
                      rintro e wt ⟨rfl, bt⟩
                      have BT := hide ((unhide BC).trans (bt.mono (unhide BC).size))
                      clear bt x0 tc0 tc1 tc2 tc3 tc4 tc5 tc6
                      go_wp2_with fail
                      go_roundw
                      case rel => exact ⟨j + 1, by rw [unhide HS2], by go_num, by omega, unhide BT⟩
                      case measure => simp [intOf]; omega
                  · have d1 := txl_no hne
                    have HS2 : Hid (mdK G.ts d.n (j + 1) = md) := hide (by rw [unhide HSTM, decide_eq_false hne]; simp)
                    clear hne HSTM HAJ
                    refine wp_region_bel (fun w' h => (unhide HA) w' ((unhide HB _).trans (h.mono (unhide HB _).size))) (by kernel_rfl) (by kernel_rfl) ?_
                    (repeat (go_big_quiet_step (fail)))
                    refine wpQuiet_nil ?_
                    rintro _ ⟨y, rfl⟩
                    go_wp2_with fail
                    go_roundw
                    case rel => exact ⟨j + 1, by rw [unhide HS2], by go_num, by omega, unhide HR y⟩
                    case measure => simp [intOf]; omega
                · have j1 : ¬ (j : Int) < (m1 : Int) := by omega
                  have hjm : j = m1 := by omega
                  have HMJ : Hid (mdK G.ts d.n j = true) := hide (by rw [hjm]; exact unhide HMD)
                  rw [unhide HMJ]
                  have da0' : wj.cell? ⟨gl, k * 4, none⟩ = some (.int .i64 2) := (hbj.cell (block_lt_of_cell da0)).trans da0
                  have S9j := hide ((unhide S9).below hbj)
                  have KP9j := hide KPJ
                  have OX9j := hide ((unhide OX9).below hbj)
                  clear hjm hbj KPJ
                  go_upto_region 24 with fail
                  obtain ⟨ι, fW, _, hcb, hcl⟩ := belClass wj
                  have HB := hide hcb
                  have HA := hide hcl
                  have r0 : ∀ x, (fW x).cell? ⟨gl, k * 4, none⟩ = some (.int .i64 2) := fun x => ((hcb x).cell (block_lt_of_cell da0')).trans da0'
                  obtain ⟨x0, hx0⟩ := hcl wj (Below.refl _ _)
                  rw [hx0]
                  clear hx0 hcb hcl
                  refine wp_region_bel (fun w' h => (unhide HA) w' ((unhide HB _).trans (h.mono (unhide HB _).size))) (by kernel_rfl) (by kernel_rfl) ?_
                  (repeat (go_big_quiet_step (fail)))
                  refine wpQuiet_nil ?_
                  rintro _ ⟨y, rfl⟩
                  go_upto_region 26 with fail
                  have S10 := hide ((unhide S9j).below (unhide HB y))
                  have KP10 := hide ((unhide KP9j).below (unhide HB y))
                  have OX10 := hide ((unhide OX9j).below (unhide HB y))
                  have KQ := hide (unhide S10).q
                  go_wp2_with (first
                    | ((with_reducible show wpList _ _ _ (⟨_, .load 30 _, _, _, _, none⟩ :: _) _ _); refine at_loadAgg (vs := [.slice (some ⟨g1, 0, none⟩) m1 q1, .slice (some ⟨g2, 0, none⟩) m2 q2, .slice (some ⟨g3, 0, none⟩) m3 q3, .int .i64 G.nh, .int .i64 G.nc, .int .i64 G.nd]) Try.isAgg30 Try.sizeOf30 rfl (unhide KP10) ?_)
                    | ((with_reducible show wpList _ _ _ (⟨none, .store 30 _ _, _, _, _, none⟩ :: _) _ _); refine at_storeAgg (us := [.slice b1 l1 p1, .slice b2 l2 p2, .slice b3 l3 p3, .int .i64 F.nh, .int .i64 F.nc, .int .i64 F.nd]) (vs := [.slice (some ⟨g1, 0, none⟩) m1 q1, .slice (some ⟨g2, 0, none⟩) m2 q2, .slice (some ⟨g3, 0, none⟩) m3 q3, .int .i64 G.nh, .int .i64 G.nc, .int .i64 G.nd]) Try.sizeOf30 rfl rfl (unhide KQ) rfl (fun v hv => by simp at hv; rcases hv with rfl | rfl | rfl | rfl | rfl | rfl <;> rfl) ?_; intro wz k9 g9; have K9 := hide k9; have G9 := hide g9; clear k9 g9))
                  have hqq : Q < w7.heap.size := unhide HQ7
                  have f1 := (unhide OX10).o1.far (unhide G9) (fun q hq e => by have e1 := Option.some.inj e; have e2 := ((unhide OX10).o1.lies q hq).1; omega)
                  have f2 := (unhide OX10).o2.far (unhide G9) (fun q hq e => by have e1 := Option.some.inj e; have e2 := ((unhide OX10).o2.lies q hq).1; omega)
                  have f3 := (unhide OX10).o3.far (unhide G9) (fun q hq e => by have e1 := Option.some.inj e; have e2 := ((unhide OX10).o3.lies q hq).1; omega)
                  have SN : Hid (RlS w6 Q G (some ⟨g1, 0, none⟩) (some ⟨g2, 0, none⟩) (some ⟨g3, 0, none⟩) m1 m2 m3 q1 q2 q3 wz) := hide ⟨unhide K9, ⟨f1.row, f2.row, f3.row⟩, (unhide S10).bel.grown (unhide G9) (unhide S10).bel.size (fun q hq => by have e1 : Q = q := Option.some.inj hq; have e2 := (unhide S10).ge; omega), (unhide S10).ge⟩
                  clear f1 f2 f3
                  go_roundw
                  case rel => exact ⟨k + 1, some ⟨g1, 0, none⟩, some ⟨g2, 0, none⟩, some ⟨g3, 0, none⟩, m1, m2, m3, q1, q2, q3, by go_num, by omega, by rw [(unhide HST).1]; exact unhide HG, by rw [(unhide HST).1]; exact SN⟩
                  case measure => simp [intOf]; omega
            · have e2 : (d.k == 2) = false := by rw [beq_eq_false_iff_ne]; exact k2
              clear k1 k2
              go_upto_region 24 with fail
              obtain ⟨ι, fW, _, hcb, hcl⟩ := belClass w9
              have HB := hide hcb
              have HA := hide hcl
              have r0 : ∀ x, (fW x).cell? ⟨gl, k * 4, none⟩ = some (.int .i64 d.k) := fun x => ((hcb x).cell (block_lt_of_cell da0)).trans da0
              have r3 : ∀ x, (fW x).cell? ⟨gl, k * 4 + 3, none⟩ = some (.int .i64 d.m) := fun x => ((hcb x).cell (block_lt_of_cell da3)).trans da3
              have rp : ∀ x, (fW x).cell? ⟨P, 3, none⟩ = some (.int .i64 G.nh) := fun x => ((hcb x).cell (block_lt_of_cell pa3)).trans pa3
              have rq : ∀ x, (fW x).cell? ⟨Q, 3, none⟩ = some (.int .i64 F.nh) := fun x => ((hcb x).cell (block_lt_of_cell qa3)).trans qa3
              obtain ⟨x0, hx0⟩ := hcl w9 (Below.refl _ _)
              rw [hx0]
              clear hx0 hcb hcl
              refine wp_region_bel (fun w' h => (unhide HA) w' ((unhide HB _).trans (h.mono (unhide HB _).size))) (by kernel_rfl) (by kernel_rfl) ?_
              (repeat (go_big_quiet_step (fail)))
              refine wpQuiet_nil ?_
              rintro _ ⟨y, rfl⟩
              go_upto_region 26 with fail
              have S10 := hide ((unhide S9).below (unhide HB y))
              have KP10 := hide ((unhide KP9).below (unhide HB y))
              have OX10 := hide ((unhide OX9).below (unhide HB y))
              have KQ := hide (unhide S10).q
              go_wp2_with (first
                | ((with_reducible show wpList _ _ _ (⟨_, .load 30 _, _, _, _, none⟩ :: _) _ _); refine at_loadAgg (vs := [.slice (some ⟨g1, 0, none⟩) m1 q1, .slice (some ⟨g2, 0, none⟩) m2 q2, .slice (some ⟨g3, 0, none⟩) m3 q3, .int .i64 G.nh, .int .i64 G.nc, .int .i64 G.nd]) Try.isAgg30 Try.sizeOf30 rfl (unhide KP10) ?_)
                | ((with_reducible show wpList _ _ _ (⟨none, .store 30 _ _, _, _, _, none⟩ :: _) _ _); refine at_storeAgg (us := [.slice b1 l1 p1, .slice b2 l2 p2, .slice b3 l3 p3, .int .i64 F.nh, .int .i64 F.nc, .int .i64 F.nd]) (vs := [.slice (some ⟨g1, 0, none⟩) m1 q1, .slice (some ⟨g2, 0, none⟩) m2 q2, .slice (some ⟨g3, 0, none⟩) m3 q3, .int .i64 G.nh, .int .i64 G.nc, .int .i64 G.nd]) Try.sizeOf30 rfl rfl (unhide KQ) rfl (fun v hv => by simp at hv; rcases hv with rfl | rfl | rfl | rfl | rfl | rfl <;> rfl) ?_; intro wz k9 g9; have K9 := hide k9; have G9 := hide g9; clear k9 g9))
              have hqq : Q < w7.heap.size := unhide HQ7
              have f1 := (unhide OX10).o1.far (unhide G9) (fun q hq e => by have e1 := Option.some.inj e; have e2 := ((unhide OX10).o1.lies q hq).1; omega)
              have f2 := (unhide OX10).o2.far (unhide G9) (fun q hq e => by have e1 := Option.some.inj e; have e2 := ((unhide OX10).o2.lies q hq).1; omega)
              have f3 := (unhide OX10).o3.far (unhide G9) (fun q hq e => by have e1 := Option.some.inj e; have e2 := ((unhide OX10).o3.lies q hq).1; omega)
              have SN : Hid (RlS w6 Q G (some ⟨g1, 0, none⟩) (some ⟨g2, 0, none⟩) (some ⟨g3, 0, none⟩) m1 m2 m3 q1 q2 q3 wz) := hide ⟨unhide K9, ⟨f1.row, f2.row, f3.row⟩, (unhide S10).bel.grown (unhide G9) (unhide S10).bel.size (fun q hq => by have e1 : Q = q := Option.some.inj hq; have e2 := (unhide S10).ge; omega), (unhide S10).ge⟩
              clear f1 f2 f3
              go_roundw
              case rel => exact ⟨k + 1, some ⟨g1, 0, none⟩, some ⟨g2, 0, none⟩, some ⟨g3, 0, none⟩, m1, m2, m3, q1, q2, q3, by go_num, by omega, by rw [(unhide HST).1]; exact unhide HG, by rw [(unhide HST).1]; exact SN⟩
              case measure => simp [intOf]; omega
    · have i1 : ¬ (k : Int) < (nl : Int) := by omega
      have hkn : k = nl := by omega
      have KFW := hide ((unhide KF6).below (unhide HS).bel)
      have FIW := (unhide FI6).below (unhide HS).bel
      have OLW := (unhide OL6).below (unhide HS).bel
      have hFF : rwF ⟨f.ts, f.cs, f.ds, f.nh, f.nc, f.nd⟩ es nl = F := by rw [← hkn]; exact unhide HRW
      have hl3 := (unhide HS).i.r3.len_eq
      have RW := hide (implRunWork_any f.nh f.nc f.nd a1 a2 a3 n1 e1 n2 e2 n3 e3 f.ts f.cs f.ds (some ⟨gl, 0, none⟩) nl cl es wr FIW (by omega) (by omega) (by omega) (unhide FT) OLW (unhide FE))
      have HFF2 := hide hFF
      have HL3 := hide hl3
      clear hkn hFF hl3 FIW OLW
      go_wp2_with (((with_reducible show wpList _ _ _ (⟨_, .load 30 _, _, _, _, none⟩ :: _) _ _); refine at_loadAgg (vs := [.slice a1 n1 e1, .slice a2 n2 e2, .slice a3 n3 e3, .int .i64 f.nh, .int .i64 f.nc, .int .i64 f.nd]) Try.isAgg30 Try.sizeOf30 rfl (unhide KFW) ?_))
      refine (unhide RW).mono ?_
      rintro e w10 ⟨h1, o1, h2, o2, h3, o3, gt, ct, rfl, _, _, b10⟩
      rw [rwT_len, show rwN es = nl by rw [rwN, if_pos (by rw [unhide HES]; omega), unhide HES], unhide HFF2, unhide HL3]
      obtain ⟨XX, hXX⟩ : ∃ V, V = w10.alloc (Obj.cells #[.slice (some ⟨h1, 0, none⟩) F.ts.length o1, .slice (some ⟨h2, 0, none⟩) F.cs.length o2, .slice (some ⟨h3, 0, none⟩) l3 o3, .int .i64 F.nh, .int .i64 F.nc, .int .i64 F.nd] 30) := ⟨_, rfl⟩
      have bx : Below w10.heap.size w10 XX := by rw [hXX]; exact bel1 _
      have KX : Blk XX w10.heap.size [.slice (some ⟨h1, 0, none⟩) F.ts.length o1, .slice (some ⟨h2, 0, none⟩) F.cs.length o2, .slice (some ⟨h3, 0, none⟩) l3 o3, .int .i64 F.nh, .int .i64 F.nc, .int .i64 F.nd] := by rw [hXX]; exact Blk.new _ _
      have SX := ((unhide HS).below b10).below bx
      have ka2 : XX.cell? ⟨w10.heap.size, 2, none⟩ = some (.slice (some ⟨h3, 0, none⟩) l3 o3) := KX.c 2 (by simp)
      have ka3 : XX.cell? ⟨w10.heap.size, 3, none⟩ = some (.int .i64 F.nh) := KX.c 3 (by simp)
      have ka4 : XX.cell? ⟨w10.heap.size, 4, none⟩ = some (.int .i64 F.nc) := KX.c 4 (by simp)
      have ka5 : XX.cell? ⟨w10.heap.size, 5, none⟩ = some (.int .i64 F.nd) := KX.c 5 (by simp)
      have qa2 : XX.cell? ⟨Q, 2, none⟩ = some (.slice b3 l3 p3) := SX.q.c 2 (by simp)
      have qa3 : XX.cell? ⟨Q, 3, none⟩ = some (.int .i64 F.nh) := SX.q.c 3 (by simp)
      have qa4 : XX.cell? ⟨Q, 4, none⟩ = some (.int .i64 F.nc) := SX.q.c 4 (by simp)
      have qa5 : XX.cell? ⟨Q, 5, none⟩ = some (.int .i64 F.nd) := SX.q.c 5 (by simp)
      have BX := hide ((unhide B6).trans (SX.bel.mono (unhide B6).size))
      have HXX := hide hXX
      clear hXX bx KX SX b10 RW
      go_upto_region 28 with fail
      rw [← unhide HXX]
      clear HXX
      go_wp2_with fail
      go_ret
      exact ⟨rfl, unhide BX⟩

theorem lawFnReleased (a : Option Addr) (len cap : Nat) (w : World) (hb : Bytes w a len) (hin : ∀ b off, a = some ⟨b, off, none⟩ → b < w.heap.size) :
    Calls Try.prog 3 #[.slice a len cap] w fun e w' => e = .returned (.bool true) ∧ Below w.heap.size w w' := by
  by_cases h : (1048576 : Int) < len
  · exact lawFnReleased_big a len cap w h
  · exact lawFnReleased_small a len cap w h hb hin

end Go.Proofs.Ytfnnfldfnjnlfag

/-
  slices.DeleteFunc with Take18's closure, where one load is of the part: the list without it, in the same memory. At lists of at most 1000.
-/
import Derived.Test.YtemodlgmjgdjpaaGreatDoorMAiFn
import Derived.Test.YtemodlgmjgdjpaaGreatDoorMCpSpc
namespace Go.Proofs.YtemodlgmjgdjpaaGreatDoor
open Go Go.RowKit

/-- The list when the s loads behind place k have been moved. -/
def mvL (us : List Lx) (k : Nat) : Nat → List Lx
  | 0 => us
  | s + 1 => (mvL us k s).set (k + s) (elAt us (k + s + 1))
theorem mvL_len (us : List Lx) (k : Nat) : ∀ s, (mvL us k s).length = us.length
  | 0 => rfl
  | s + 1 => by rw [mvL, List.length_set]; exact mvL_len us k s
theorem mvL_at {us : List Lx} {k : Nat} : ∀ (s i : Nat), k + s ≤ us.length → elAt (mvL us k s) i = if k ≤ i ∧ i < k + s then elAt us (i + 1) else elAt us i
  | 0, i, _ => by rw [mvL, if_neg (by omega)]
  | s + 1, i, h => by
    have ih := mvL_at (us := us) (k := k) s i (by omega)
    rw [mvL, elAt_set _ _ _ _ (by rw [mvL_len]; omega)]
    by_cases e : i = k + s
    · subst e; rw [if_pos rfl, if_pos (by omega)]
    · rw [if_neg e, ih]
      by_cases c : k ≤ i ∧ i < k + s
      · rw [if_pos c, if_pos (by omega)]
      · rw [if_neg c, if_neg (by omega)]
theorem lxC_cells {x : Lx} {w : World} {b o : Nat} (h : ∀ q, q < 6 → w.cell? ⟨b, o + q, none⟩ = some (lxC x q)) : w.cell? ⟨b, o, none⟩ = some (.string x.p) ∧ w.cell? ⟨b, o + 1, none⟩ = some (.int .i64 x.nb) ∧ w.cell? ⟨b, o + 2, none⟩ = some (.int .i64 x.le) ∧ w.cell? ⟨b, o + 3, none⟩ = some (.int .i64 x.mo) ∧ w.cell? ⟨b, o + 4, none⟩ = some (.int .i64 x.ne) ∧ w.cell? ⟨b, o + 5, none⟩ = some (.slice x.d.a x.d.n x.d.c) :=
  ⟨h 0 (by omega), h 1 (by omega), h 2 (by omega), h 3 (by omega), h 4 (by omega), h 5 (by omega)⟩
theorem grownTk {w w' : World} (h : Below w.heap.size w w') (row : Option Nat) : w.grownBy w' row := ⟨h.os, h.tape, h.output, h.size, fun k hk _ => h.block k hk⟩
/-- One load stored over another, cell by cell. -/
theorem OwnE.six {w : World} {base g n cap i : Nat} {ps : List Lx} {y : Lx} (h : OwnE 6 lxC w base 32 (.slice (some ⟨g, 0, none⟩) n cap) ps) (hn : ps.length = n) (hi : i < n) :
    OwnE 6 lxC ((((((w.setCell ⟨g, i * 6, none⟩ (.string y.p)).setCell ⟨g, i * 6 + 1, none⟩ (.int .i64 y.nb)).setCell ⟨g, i * 6 + 2, none⟩ (.int .i64 y.le)).setCell ⟨g, i * 6 + 3, none⟩ (.int .i64 y.mo)).setCell ⟨g, i * 6 + 4, none⟩ (.int .i64 y.ne)).setCell ⟨g, i * 6 + 5, none⟩ (.slice y.d.a y.d.n y.d.c)) base 32 (.slice (some ⟨g, 0, none⟩) n cap) (ps.set i y) := by
  have o0 := h.setOne hn i hi 0 (by omega) (.string y.p) ⟨y.p, (elAt ps i).nb, (elAt ps i).le, (elAt ps i).mo, (elAt ps i).ne, (elAt ps i).d⟩ (fun p hp => by match p, hp with | 0, _ => rfl | 1, _ => rfl | 2, _ => rfl | 3, _ => rfl | 4, _ => rfl | 5, _ => rfl)
  have o1 := o0.setMore hn hi 1 (by omega) (.int .i64 y.nb) ⟨y.p, y.nb, (elAt ps i).le, (elAt ps i).mo, (elAt ps i).ne, (elAt ps i).d⟩ (fun p hp => by match p, hp with | 0, _ => rfl | 1, _ => rfl | 2, _ => rfl | 3, _ => rfl | 4, _ => rfl | 5, _ => rfl)
  have o2 := o1.setMore hn hi 2 (by omega) (.int .i64 y.le) ⟨y.p, y.nb, y.le, (elAt ps i).mo, (elAt ps i).ne, (elAt ps i).d⟩ (fun p hp => by match p, hp with | 0, _ => rfl | 1, _ => rfl | 2, _ => rfl | 3, _ => rfl | 4, _ => rfl | 5, _ => rfl)
  have o3 := o2.setMore hn hi 3 (by omega) (.int .i64 y.mo) ⟨y.p, y.nb, y.le, y.mo, (elAt ps i).ne, (elAt ps i).d⟩ (fun p hp => by match p, hp with | 0, _ => rfl | 1, _ => rfl | 2, _ => rfl | 3, _ => rfl | 4, _ => rfl | 5, _ => rfl)
  have o4 := o3.setMore hn hi 4 (by omega) (.int .i64 y.ne) ⟨y.p, y.nb, y.le, y.mo, y.ne, (elAt ps i).d⟩ (fun p hp => by match p, hp with | 0, _ => rfl | 1, _ => rfl | 2, _ => rfl | 3, _ => rfl | 4, _ => rfl | 5, _ => rfl)
  have o5 := o4.setMore hn hi 5 (by omega) (.slice y.d.a y.d.n y.d.c) y (fun p hp => by match p, hp with | 0, _ => rfl | 1, _ => rfl | 2, _ => rfl | 3, _ => rfl | 4, _ => rfl | 5, _ => rfl)
  exact o5

set_option maxRecDepth 100000 in
set_option maxHeartbeats 8000000 in
theorem delF_hit (base g n m cp k bx : Nat) (us : List Lx) (p : ByteArray) (r : List Value) (w : World) (h : OwnLT w base (.slice (some ⟨g, 0, none⟩) n cp) (us.map lxW)) (hl : OwnLd w base (.slice (some ⟨g, 0, none⟩) n cp) us) (hn : us.length = n) (hnm : n = m + 1) (hs : n ≤ 1000) (hk : k < n) (hix : ixF (qPt p) (us.map lxW) = (k : Int)) (hno : ∀ j, k < j → j < n → qPt p (lxW (elAt us j)) = false) (hb : Blk w bx (.string p :: r)) (hbg : bx ≠ g) :
    Calls Tryz.prog 41 #[.slice (some ⟨g, 0, none⟩) n cp, .func (.func 42) #[] #[.pointer (some ⟨bx, 0, none⟩)]] w fun e w' => e = .returned (.slice (some ⟨g, 0, none⟩) m cp) ∧ OwnLd w' base (.slice (some ⟨g, 0, none⟩) m cp) (dlL us k) ∧ w.grownBy w' (some g) := by
  have CI := hide (tk_ix (some ⟨g, 0, none⟩) n cp (us.map lxW) p bx w h.row r hb)
  rw [hix] at CI
  have HNO := hide hno
  have HN := hide hn
  have HL := hide hl
  have HB := hide hb
  have HNM := hide hnm
  clear h hix hno hn hl hb hnm
  have he1 : ((k : Int) == -1) = false := by simp only [beq_eq_false_iff_ne]; omega
  have he2 : decide ((k : Int) = -1) = false := by simp only [decide_eq_false_iff_not]; omega
  have he3 : ¬ (k : Int) = -1 := by omega
  go_enter Tryz.func41, Tryz.ntmps41
  go_wp2_with (go_at_call 78; refine (unhide CI).mono ?_; rintro e w1 ⟨rfl, b1⟩; have B1 := hide b1; clear b1)
  go_loopw [5, 6] (fun i j wr => ∃ s : Nat, i = .int .i64 ((k + s : Nat) : Int) ∧ j = .int .i64 ((k + s + 1 : Nat) : Int) ∧ k + s < n ∧ Hid (OwnE 6 lxC wr base 32 (.slice (some ⟨g, 0, none⟩) n cp) (mvL us k s)) ∧ Hid (w.grownBy wr (some g))) (fun _ j _ => n - (intOf j).toNat)
  case atStart => exact ⟨0, rfl, by go_num, by omega, hide ((unhide HL).out.below (unhide B1)), hide (grownTk (unhide B1) _)⟩
  case round =>
    obtain ⟨s, rfl, rfl, hks, OE, GR⟩ := hrel
    obtain ⟨i, hi⟩ : ∃ i, k + s = i := ⟨_, rfl⟩
    have HI := hide hi
    rw [hi] at hks ⊢
    obtain ⟨j, hj⟩ : ∃ j, i + 1 = j := ⟨_, rfl⟩
    have HJ := hide hj
    rw [hj]
    by_cases hlt : j < n
    · have hlt2 : (j : Int) < (n : Int) := by omega
      have hj0 : (0 : Int) ≤ (j : Int) := by omega
      have hi0 : (0 : Int) ≤ (i : Int) := by omega
      have hin : (i : Int) < (n : Int) := by omega
      obtain ⟨y, hy⟩ : ∃ y, elAt us j = y := ⟨_, rfl⟩
      have hy2 : elAt (mvL us k s) j = y := by rw [mvL_at s j (by rw [unhide HN]; omega), if_neg (by omega)]; exact hy
      have hml : (mvL us k s).length = n := by rw [mvL_len]; exact unhide HN
      have C := lxC_cells (b := g) (o := j * 6) (x := y) (w := wr) (fun q hq => by have := ((unhide OE).here hml j hlt q hq).1; rw [hy2] at this; exact this)
      obtain ⟨s0, s1, s2, s3, s4, s5⟩ := C
      have q1 : qPt p (lxW y) = false := by have := (unhide HNO) j (by omega) hlt; rw [hy] at this; exact this
      obtain ⟨V, hV⟩ : ∃ V, V = wr.alloc (Obj.cells #[.string y.p, .int .i64 y.nb, .int .i64 y.le, .int .i64 y.mo, .int .i64 y.ne, .slice y.d.a y.d.n y.d.c] 32) := ⟨_, rfl⟩
      have bV : Below wr.heap.size wr V := by rw [hV]; exact bel1 _
      have KN : Hid (Blk V wr.heap.size [.string y.p, .int .i64 y.nb, .int .i64 y.le, .int .i64 y.mo, .int .i64 y.ne, .slice y.d.a y.d.n y.d.c]) := hide (by rw [hV]; exact Blk.new _ _)
      have CC := hide (tk_clo y p bx V r (((unhide HB).apart (unhide GR) (fun e => hbg (Option.some.inj e))).below bV))
      rw [q1] at CC
      have OV := hide ((unhide OE).below bV)
      have GV := hide (grown_trans (unhide GR) (grownTk bV (some g)))
      have HV := hide hV
      have HML := hide hml
      have HY : Hid (mvL us k (s + 1) = (mvL us k s).set i y) := hide (by rw [mvL, hi, hj, hy])
      have HII := HI
      have HJJ := HJ
      clear q1 hV bV hml hy hy2 OE GR hi hj HI HJ
      go_wp2_with (go_at_call 42; rw [← unhide HV]; refine (unhide CC).mono ?_; rintro e w2 ⟨rfl, b2⟩; have KN2 := hide ((unhide KN).below b2); have OV2 := hide ((unhide OV).below b2); have GV2 := hide (grown_trans (unhide GV) (grownTk b2 (some g))); clear b2; have k0 : w2.cell? ⟨wr.heap.size, 0, none⟩ = some (.string y.p) := (unhide KN2).c 0 (by simp); have k1 : w2.cell? ⟨wr.heap.size, 1, none⟩ = some (.int .i64 y.nb) := (unhide KN2).c 1 (by simp); have k2 : w2.cell? ⟨wr.heap.size, 2, none⟩ = some (.int .i64 y.le) := (unhide KN2).c 2 (by simp); have k3 : w2.cell? ⟨wr.heap.size, 3, none⟩ = some (.int .i64 y.mo) := (unhide KN2).c 3 (by simp); have k4 : w2.cell? ⟨wr.heap.size, 4, none⟩ = some (.int .i64 y.ne) := (unhide KN2).c 4 (by simp); have k5 : w2.cell? ⟨wr.heap.size, 5, none⟩ = some (.slice y.d.a y.d.n y.d.c) := (unhide KN2).c 5 (by simp); have t0 := (unhide OV2).here (unhide HML) i (by omega) 0 (by omega); have t1 := (unhide OV2).here (unhide HML) i (by omega) 1 (by omega); have t2 := (unhide OV2).here (unhide HML) i (by omega) 2 (by omega); have t3 := (unhide OV2).here (unhide HML) i (by omega) 3 (by omega); have t4 := (unhide OV2).here (unhide HML) i (by omega) 4 (by omega); have t5 := (unhide OV2).here (unhide HML) i (by omega) 5 (by omega); rw [Nat.add_zero] at t0; obtain ⟨c0, f0⟩ := t0; obtain ⟨c1, f1⟩ := t1; obtain ⟨c2, f2⟩ := t2; obtain ⟨c3, f3⟩ := t3; obtain ⟨c4, f4⟩ := t4; obtain ⟨c5, f5⟩ := t5; simp only [lxC, slV] at c0 c1 c2 c3 c4 c5)
      have O6 := (unhide OV2).six (y := y) (unhide HML) hks
      rw [← unhide HY] at O6
      have O6 := hide O6
      have G6 := hide (grown_set (grown_set (grown_set (grown_set (grown_set (grown_set (unhide GV2) (i * 6) (.string y.p)) (i * 6 + 1) (.int .i64 y.nb)) (i * 6 + 2) (.int .i64 y.le)) (i * 6 + 3) (.int .i64 y.mo)) (i * 6 + 4) (.int .i64 y.ne)) (i * 6 + 5) (.slice y.d.a y.d.n y.d.c))
      have e1 : k + (s + 1) = j := by have := unhide HII; have := unhide HJJ; omega
      have hji : j = i + 1 := (unhide HJJ).symm
      go_roundw
      case rel => exact ⟨s + 1, by rw [e1, hji]; go_num, by rw [e1]; go_num, by omega, O6, G6⟩
      case measure => simp [intOf]; omega
    · obtain rfl : n = j := by have := unhide HJ; omega
      obtain rfl : m = i := by have := unhide HNM; have := unhide HJ; omega
      have hul := unhide HN
      have hnm := unhide HNM
      have hs6 := unhide HI
      have hml : (mvL us k s).length = n := by rw [mvL_len]; exact hul
      obtain ⟨cs, cur, hbg2, hgw, hg, hnc, hcm, hcz, hcl, hcur, hcell, hcs, h1c⟩ := ownLx_open (unhide OE) hml
      have hcz2 : cur.toList.length = cp * 6 := by simpa using hcz
      obtain ⟨R3, hR3⟩ : ∃ R3 : Array Value, R3 = (seg cur.toList (m * 6) [.string ⟨#[]⟩, .int .i64 0, .int .i64 0, .int .i64 0, .int .i64 0, .slice none 0 0]).toArray := ⟨_, rfl⟩
      have hclr : ∀ ty c, (Builtin.clear_ #[24] ty #[.slice (some ⟨g, m * 6, none⟩) 1 c]).run Tryz.prog wr = .ok (.tuple #[]) (wr.setRow g R3) := fun ty c => by
        rw [hR3]; exact clear_one wr g (m * 6) c cur ty hg (by rw [hcz]; omega)
      have hR3l : R3.size = cp * 6 := by
        rw [hR3]; simp only [List.size_toArray]; rw [seg_len (by rw [hcz2]; simp; omega)]; exact hcz2
      have hcells : ∀ i, i < m → ∀ q, q < 6 → R3.toList[i * 6 + q]? = some (lxC (elAt (dlL us k) i) q) := fun i hi q hq => by
        rw [hR3]; simp only
        rw [seg_out (by rw [hcz2]; simp; omega) (.inl (by omega)), hcur _ (by omega), hcs i (by omega) q hq, mvL_at s i (by omega), dlL_at (by omega) (by omega)]
        by_cases c : i < k
        · rw [if_pos c, if_neg (by omega)]
        · rw [if_neg c, if_pos (by omega)]
      have hfin : OwnLd (wr.setRow g R3) base (.slice (some ⟨g, 0, none⟩) m cp) (dlL us k) ∧ w.grownBy (wr.setRow g R3) (some g) := by
        have gr : w.grownBy (wr.setRow g R3) (some g) := grown_trans (unhide GR) (grown_heap rfl rfl rfl (by simp) (fun j hj hne => setRow_at hne))
        have hh : (wr.setRow g R3).heap[g]? = some (.cells R3 32 (0, 0)) := setRow_heap wr g cur R3 _ _ hg
        have hlen : (dlL us k).length = m := by rw [dlL_len (by omega)]; omega
        have h := unhide HL
        refine ⟨h.pick (ownE_row hh hbg2 hlen (by omega) hcm hR3l hcells) (fun i => if i < k then i else i + 1) (fun i hi => ⟨by split <;> omega, dlL_at (by omega) (by omega)⟩) (fun i i2 h1 h2 => by split <;> split <;> omega) (fun i hi => (h.dat i hi).far gr (fun q hq e => h.apt i hi q hq (by rw [e]; rfl))) (fun i hi q hq e => h.apt i hi q hq (by rw [e]; rfl)), gr⟩
      have HF := hide hfin
      have hi0 : (0 : Int) ≤ (m : Int) := by omega
      have hj1 : ¬ (n : Int) < (n : Int) := by omega
      have hmn2 : (m : Int) ≤ (n : Int) := by omega
      have hmnn : m ≤ n := by omega
      have hncI : (n : Int) ≤ (cp : Int) := by omega
      have hmcI : (m : Int) ≤ (cp : Int) := by omega
      have hmc2 : m ≤ cp := by omega
      have hmc : ¬ (cp = m) := by omega
      have hn1 : n - m = 1 := by omega
      have hcmx : cp ≤ 9223372036854775807 := by unfold maxLen at hcm; omega
      clear hfin hcells hR3l hR3 hcur hcell hcs h1c hcl hcz hcz2 hcm hg hbg2 hgw hml hul hnm hs6 OE GR HI HJ hks hlt
      go_wp2_with fail
      go_ret
      exact ⟨rfl, unhide HF⟩
set_option maxHeartbeats 2000000 in
theorem delF_miss (n cp bx : Nat) (a : Option Addr) (zs : List Lc) (p : ByteArray) (r : List Value) (w : World) (h : LsT w a n zs) (hix : ixF (qPt p) zs = -1) (hb : Blk w bx (.string p :: r)) :
    Calls Tryz.prog 41 #[.slice a n cp, .func (.func 42) #[] #[.pointer (some ⟨bx, 0, none⟩)]] w fun e w' => e = .returned (.slice a n cp) ∧ Below w.heap.size w w' := by
  have CI := hide (tk_ix a n cp zs p bx w h r hb)
  rw [hix] at CI
  clear h hix hb
  go_enter Tryz.func41, Tryz.ntmps41
  go_wp2_with (go_at_call 78; refine (unhide CI).mono ?_; rintro e w1 ⟨rfl, b1⟩; have B1 := hide b1; clear b1)
  go_ret
  exact ⟨rfl, unhide B1⟩

end Go.Proofs.YtemodlgmjgdjpaaGreatDoor

/-
  From which heights a way through all that follow is possible, in the model: the plain answer, at points that are so; the list owns its memory; nothing that was there is written.
-/
import Derived.Test.YtbaocifpifbldavPfRch
import Derived.Test.YtbaocifpifbldavPgPure
import Derived.Test.YtbaocifpifbldavAppR
namespace Go.Proofs.Ytbaocifpifbldav
open Go.RowKit

theorem po_one : ∀ (x : Po) (q : Nat), (poC x q).oneCell' = true := by
  intro x q
  match q with
  | 0 => rfl
  | 1 => rfl
  | n + 2 => rfl
theorem rcw_first {w w1 : World} {v : Value} {ps : List Po} (o : OwnE 3 poC w1 w.heap.size 51 v ([] ++ ps)) (gr : (w.alloc (Obj.cells #[] 51)).grownBy w1 (Value.slice (some ⟨w.heap.size, 0, none⟩) 0 0).ownBlock) (hn : v = .slice none 0 0 → (Value.slice (some ⟨w.heap.size, 0, none⟩) 0 0) = .slice none 0 0) :
    ∃ g cp, v = .slice (some ⟨g, 0, none⟩) ps.length cp ∧ RcW w w1 g ps.length cp ps := by
  simp only [List.nil_append] at o
  rcases o.form with h | ⟨g, cp, h⟩
  · exact absurd (hn h.1) (by simp)
  · obtain ⟨hv, _, _⟩ := h
    subst hv
    exact ⟨g, cp, rfl, o, rfl, (bel1 (w := w) _).grown gr (by simp) (fun q hq => by have : w.heap.size = q := Option.some.inj hq; omega)⟩
set_option maxRecDepth 20000 in
set_option maxHeartbeats 1000000 in
theorem l13Back_any (ad : Option Addr) (len cap : Nat) (ps : List Po) (up down : Int) (w : World) (hr : RowE 3 poC w ad len ps) (q1 : poB ps = true) (q2 : slB up down = true) :
    Calls Try.prog 41 #[.slice ad len cap, .int .i64 up, .int .i64 down] w fun e w' => ∃ g c1, e = .returned (.tuple #[.slice (some ⟨g, 0, none⟩) ps.length c1, .bool (bkB ps up down)]) ∧ (bkB ps up down = true → OwnE 3 poC w' w.heap.size 51 (.slice (some ⟨g, 0, none⟩) ps.length c1) (bkL ps up down 0)) ∧ Below w.heap.size w w' := by
  have pf := poB_facts q1
  have hz := hr.len_eq
  subst hz
  have HR0 := hide hr
  rcases hr.open_ with ⟨h0, _⟩ | ⟨bb, off, rfl, _, hcs⟩
  · have := pf.2.1
    omega
  have HR := hide hr
  have HCS := hide hcs
  have hb := pf.2.2
  have lb := pf.2.1
  clear hr hcs HR0
  go_enter Try.func41, Try.ntmps41
  go_wp2_with (at_builtin; (refine wpList_app_els (K := 3) (cells := poC) (by kernel_rfl) _ _ 25 51 rfl Try.underlying25 infoPo rfl (by decide) (by decide) po_one (poE_none (Nat.le_refl _)) rfl bb off ps.length cap ps rfl ((unhide HR).alloc _) (by simp; omega) (by simp) ?_; intro v1 w1 o1 gr1 n1; obtain ⟨g, cp, rfl, K1⟩ := rcw_first o1 gr1 n1; have HK0 := hide K1; clear o1 gr1 n1))
  have HS : Hid (RcW w w1 g ps.length cp (bkL ps up down (ps.length - 1))) := hide (by rw [bkL_start]; exact unhide HK0)
  have HPF := hide pf.1
  have su : (0 ≤ up ∧ up ≤ 1000) ∧ (0 ≤ down ∧ down ≤ 1000) := by
    have h : (inB up 0 1000 && inB down 0 1000) = true := q2
    simp only [Bool.and_eq_true] at h
    exact ⟨in_facts h.1, in_facts h.2⟩
  obtain ⟨⟨u0, u1⟩, v0, v1⟩ := su
  have HL0 : Hid (∀ j, ps.length - 1 ≤ j → j < ps.length → ¬ (bkI ps up down j).a2 < (bkI ps up down j).a1) := hide (fun j h1 h2 => by
    have e : j = ps.length - 1 := by omega
    subst e
    rw [bkI_last]
    have := poAt_facts (pf.1 _ h2)
    omega)
  clear HK0 pf q1 q2
  go_loopw [9] (fun s9 wr => ∃ (t : Nat) (z : Int), s9 = .int .i64 z ∧ Hid (z + 1 = (t : Int)) ∧ t < ps.length ∧ Hid (∀ j, t ≤ j → j < ps.length → ¬ (bkI ps up down j).a2 < (bkI ps up down j).a1) ∧ Hid (RcW w wr g ps.length cp (bkL ps up down t))) (fun s9 _ => (intOf s9 + 1).toNat)
  case atStart => exact ⟨ps.length - 1, (ps.length : Int) - 2, rfl, hide (by omega), by omega, HL0, HS⟩
  case round =>
    obtain ⟨t, z, rfl, HT, ht, HN, HK⟩ := hrel
    have hT := unhide HT
    by_cases hz : 0 ≤ z
    · obtain ⟨m, rfl⟩ : ∃ m : Nat, z = (m : Int) := ⟨z.toNat, by omega⟩
      obtain ⟨M, hM⟩ : ∃ M : Nat, M = m + 1 := ⟨_, rfl⟩
      have hadd : (m : Int) + 1 = (M : Int) := by omega
      obtain rfl : t = M := by omega
      have k0 : (0 : Int) ≤ (m : Int) := by omega
      have k1 : (m : Int) < (ps.length : Int) := by omega
      have k2 : (0 : Int) ≤ (t : Int) := by omega
      have k3 : (t : Int) < (ps.length : Int) := by omega
      have hwr : IntKind.i64.wrap (t : Int) = (t : Int) := by rw [IntKind.wrap_i64]; omega
      have bw := (unhide HK).bel
      have hcs := unhide HCS
      have pm := poAt_facts (unhide HPF m (by omega))
      have pt := poAt_facts (unhide HPF t (by omega))
      have hpr : elAt ps (t - 1) = elAt ps m := by rw [hM]; rfl
      rw [hpr] at pt
      have l0 := hcs m (by omega) 0 (by omega)
      have l1 := hcs m (by omega) 1 (by omega)
      have l2 := hcs m (by omega) 2 (by omega)
      have l3 := hcs t (by omega) 0 (by omega)
      have cm0 : wr.cell? ⟨bb, off + m * 3, none⟩ = some (.int .i64 (elAt ps m).a0) := (bw.cell (block_lt_of_cell l0)).trans l0
      have ct0 : wr.cell? ⟨bb, off + t * 3, none⟩ = some (.int .i64 (elAt ps t).a0) := (bw.cell (block_lt_of_cell l3)).trans l3
      have L1 : Hid (w.cell? ⟨bb, off + m * 3 + 1, none⟩ = some (.int .i64 (elAt ps m).a1)) := hide l1
      have L2 : Hid (w.cell? ⟨bb, off + m * 3 + 2, none⟩ = some (.int .i64 (elAt ps m).a2)) := hide l2
      have hrin := bkI_in (ps := ps) (up := up) (down := down) (i := t) ht
      have hrok := unhide HN t (Nat.le_refl _) ht
      have hnx := bkI_next (ps := ps) (up := up) (down := down) (i := m) (by omega)
      rw [← hM] at hnx
      obtain ⟨rj, hrj⟩ : ∃ r, bkI ps up down t = r := ⟨_, rfl⟩
      rw [hrj] at hrin hrok hnx
      obtain ⟨dd, hdd⟩ : ∃ dd, (elAt ps t).a0 - (elAt ps m).a0 = dd := ⟨_, rfl⟩
      rw [hdd] at hnx
      have d0 : 0 ≤ dd := by omega
      have d1 : dd ≤ 100000 := by omega
      have m1 := mulBd (s := up) (d := dd) (A := 1000) (B := 100000) (by omega) (by omega) (by omega) (by omega) (by omega) (by omega)
      have m2 := mulBd (s := down) (d := dd) (A := 1000) (B := 100000) (by omega) (by omega) (by omega) (by omega) (by omega) (by omega)
      obtain ⟨mu, hmu⟩ : ∃ z, up * dd = z := ⟨_, rfl⟩
      obtain ⟨md, hmd⟩ : ∃ z, down * dd = z := ⟨_, rfl⟩
      rw [hmu] at m1 hnx
      rw [hmd] at m2 hnx
      have mu0 := m1.1
      have mu1 := m1.2
      have md0 := m2.1
      have md1 := m2.2
      obtain ⟨lo, hlo⟩ : ∃ z, max (elAt ps m).a1 (rj.a1 - mu) = z := ⟨_, rfl⟩
      obtain ⟨hi2, hhi⟩ : ∃ z, min (elAt ps m).a2 (rj.a2 + md) = z := ⟨_, rfl⟩
      rw [hlo, hhi] at hnx
      have HLO := hide hlo
      have HHI := hide hhi
      have HX := hide hnx
      have r0 : 0 ≤ rj.a1 := by omega
      have r1 : rj.a1 ≤ 100000 := by omega
      have r2 : 0 ≤ rj.a2 := by omega
      have r3 : rj.a2 ≤ 100000 := by omega
      have pm1 := pm.2.1.1
      have pm2 := pm.2.1.2
      have pm3 := pm.2.2.1
      have HE : Hid (elAt (bkL ps up down t) t = rj) := hide (by rw [bkL_done ht (Nat.le_refl _), hrj])
      have HF : Hid (elAt (bkL ps up down t) m = elAt ps m) := hide (bkL_left (by omega) (by omega))
      have HM := hide hM
      have hmt : m < t := by omega
      clear hcs l0 l1 l2 l3 hpr hrj hlo hhi hnx pm pt hrin hrok m1 m2 hT hM bw
      go_wp2_with fail
      go_quiet (fail)
      obtain ⟨W1, hW1⟩ : ∃ W, W = wr.drewN nq := ⟨_, rfl⟩
      have K1 : Hid (RcW w W1 g ps.length cp (bkL ps up down t)) := hide (by rw [hW1]; exact (unhide HK).below (bel0d nq))
      rw [← hW1]
      clear hW1 cm0 ct0
      go_wp2_with fail
      obtain ⟨ι, f, _, hbf, hall⟩ := belClass W1
      have HB := hide hbf
      have HAL := hide hall
      have x0 : ∀ x, (f x).cell? ⟨bb, off + m * 3 + 1, none⟩ = some (.int .i64 (elAt ps m).a1) := fun x => (((unhide K1).below (hbf x)).bel.cell (block_lt_of_cell (unhide L1))).trans (unhide L1)
      have x1 : ∀ x, (f x).cell? ⟨g, m * 3 + 1, none⟩ = some (.int .i64 (elAt ps m).a1) := fun x => by
        have := ((unhide K1).below (hbf x)).at_ (j := m) (by omega) 1 (by omega)
        rw [unhide HF] at this
        exact this
      have x2 : ∀ x, (f x).frozen? ⟨g, m * 3 + 1, none⟩ = false := fun x => (((unhide K1).below (hbf x)).o.here ((unhide K1).below (hbf x)).l m (by omega) 1 (by omega)).2
      have x3 : ∀ x, (f x).cell? ⟨g, t * 3 + 1, none⟩ = some (.int .i64 rj.a1) := fun x => by
        have := ((unhide K1).below (hbf x)).at_ (j := t) (by omega) 1 (by omega)
        rw [unhide HE] at this
        exact this
      clear hbf hall
      refine wp_region_then (unhide HAL) (by kernel_rfl) (by kernel_rfl) (by kernel_rfl) ?_
      dsimp only [swapLast, lastOf]
      repeat (go_big_quiet_step ((go_at_call 38; exact belS (mx_is _ _ _ (unhide HLO)))))
      refine wpQuiet_nil ?_
      rintro _ ⟨y, rfl⟩
      go_simp
      obtain ⟨U, hU⟩ : ∃ U, U = (f y).setCell ⟨g, m * 3 + 1, none⟩ (.int .i64 lo) := ⟨_, rfl⟩
      have K2 : Hid (RcW w U g ps.length cp ((bkL ps up down t).set m ⟨(elAt ps m).a0, lo, (elAt ps m).a2⟩)) := hide (by
        rw [hU]
        have k := (unhide K1).below (unhide HB y)
        refine ⟨k.o.setOne k.l m (by omega) 1 (by omega) _ _ (fun p hp => ?_), by simp [bkL_len], k.bel.setCell (k.o.lies g rfl).1 _⟩
        rw [unhide HF]
        match p, hp with
        | 0, _ => rfl
        | 1, _ => rfl
        | 2, _ => rfl)
      rw [← hU]
      clear hU x0 x1 x2 x3 HB HAL K1
      have HE2 : Hid (elAt ((bkL ps up down t).set m ⟨(elAt ps m).a0, lo, (elAt ps m).a2⟩) t = rj) := hide (by rw [elAt_set _ _ _ _ (by rw [bkL_len]; omega), if_neg (by omega)]; exact unhide HE)
      have HF2 : Hid (elAt ((bkL ps up down t).set m ⟨(elAt ps m).a0, lo, (elAt ps m).a2⟩) m = ⟨(elAt ps m).a0, lo, (elAt ps m).a2⟩) := hide (by rw [elAt_set _ _ _ _ (by rw [bkL_len]; omega), if_pos rfl])
      go_wp2_with fail
      obtain ⟨ι2, f2, _, hbf, hall⟩ := belClass U
      have HB := hide hbf
      have HAL := hide hall
      have x0 : ∀ x, (f2 x).cell? ⟨bb, off + m * 3 + 2, none⟩ = some (.int .i64 (elAt ps m).a2) := fun x => (((unhide K2).below (hbf x)).bel.cell (block_lt_of_cell (unhide L2))).trans (unhide L2)
      have x1 : ∀ x, (f2 x).cell? ⟨g, m * 3 + 2, none⟩ = some (.int .i64 (elAt ps m).a2) := fun x => by
        have := ((unhide K2).below (hbf x)).at_ (j := m) (by omega) 2 (by omega)
        rw [unhide HF2] at this
        exact this
      have x2 : ∀ x, (f2 x).frozen? ⟨g, m * 3 + 2, none⟩ = false := fun x => (((unhide K2).below (hbf x)).o.here ((unhide K2).below (hbf x)).l m (by omega) 2 (by omega)).2
      have x3 : ∀ x, (f2 x).cell? ⟨g, t * 3 + 2, none⟩ = some (.int .i64 rj.a2) := fun x => by
        have := ((unhide K2).below (hbf x)).at_ (j := t) (by omega) 2 (by omega)
        rw [unhide HE2] at this
        exact this
      clear hbf hall
      refine wp_region_then (unhide HAL) (by kernel_rfl) (by kernel_rfl) (by kernel_rfl) ?_
      dsimp only [swapLast, lastOf]
      repeat (go_big_quiet_step ((go_at_call 39; exact belS (mn_is _ _ _ (unhide HHI)))))
      refine wpQuiet_nil ?_
      rintro _ ⟨y2, rfl⟩
      go_simp
      obtain ⟨U2, hU2⟩ : ∃ U, U = (f2 y2).setCell ⟨g, m * 3 + 2, none⟩ (.int .i64 hi2) := ⟨_, rfl⟩
      have K3 : Hid (RcW w U2 g ps.length cp (bkL ps up down m)) := hide (by
        rw [hU2]
        have k := (unhide K2).below (unhide HB y2)
        have o := k.o.setMore (bkL_len _ _ _ _) (by omega) 2 (by omega) (.int .i64 hi2) ⟨(elAt ps m).a0, lo, hi2⟩ (fun p hp => by
          match p, hp with
          | 0, _ => rfl
          | 1, _ => rfl
          | 2, _ => rfl)
        have hs := bkL_set (ps := ps) (up := up) (down := down) (i := m) (by omega)
        rw [unhide HX, ← unhide HM] at hs
        rw [hs] at o
        exact ⟨o, bkL_len _ _ _ _, k.bel.setCell (k.o.lies g rfl).1 _⟩)
      rw [← hU2]
      clear hU2 x0 x1 x2 x3 HB HAL K2 HE2 HF2
      have HG : Hid (elAt (bkL ps up down m) m = ⟨(elAt ps m).a0, lo, hi2⟩) := hide (by rw [bkL_done (by omega) (Nat.le_refl _), unhide HX])
      have y1 : U2.cell? ⟨g, m * 3 + 1, none⟩ = some (.int .i64 lo) := by
        have := (unhide K3).at_ (j := m) (by omega) 1 (by omega)
        rw [unhide HG] at this
        exact this
      have y2 : U2.cell? ⟨g, m * 3 + 2, none⟩ = some (.int .i64 hi2) := by
        have := (unhide K3).at_ (j := m) (by omega) 2 (by omega)
        rw [unhide HG] at this
        exact this
      by_cases hbad : hi2 < lo
      · have E0 : Hid (bkB ps up down = false) := hide (decide_eq_false (fun h => by have := h m (by omega); rw [unhide HX] at this; exact this hbad))
        go_wp2_with fail
        go_quiet (fail)
        go_wp2
        go_ret2
        have kb := (unhide K3).bel
        refine ⟨g, cp, by rw [unhide E0]; try rfl, fun h => ?_, kb.trans (bel0d' _)⟩
        rw [unhide E0] at h
        cases h
      · go_wp2_with fail
        go_quiet (fail)
        go_wp2
        go_roundw
        case rel => exact ⟨m, (m : Int) - 1, by go_num, hide (by omega), by omega, hide (fun j h1 h2 => by by_cases e : j = m; (subst e; rw [unhide HX]; (show ¬ hi2 < lo); omega); (have := unhide HN j (by have := unhide HM; omega) h2; omega)), hide ((unhide K3).below (bel0d _))⟩
        case measure => (simp [intOf]; try omega)
    · obtain rfl : t = 0 := by omega
      have E0 : Hid (bkB ps up down = true) := hide (decide_eq_true (fun j hj => by have := unhide HN j (Nat.zero_le _) hj; omega))
      have hz' : ¬ (0 : Int) ≤ z := hz
      go_wp2
      go_ret2
      have kb := (unhide HK).bel
      have ko := (unhide HK).o
      exact ⟨g, cp, by rw [unhide E0]; try rfl, fun _ => ko, kb⟩

end Go.Proofs.Ytbaocifpifbldav

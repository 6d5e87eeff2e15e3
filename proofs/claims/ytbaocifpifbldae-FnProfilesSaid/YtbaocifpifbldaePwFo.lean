/-
  One step forth of the program's walk, behind the first point.
-/
import Derived.Test.YtbaocifpifbldaePwWk
namespace Go.Proofs.Ytbaocifpifbldae
open Go.RowKit

set_option maxRecDepth 20000 in
set_option maxHeartbeats 1000000 in
theorem stepForth_none (w wr : World) (P : Nat) (ps : List Po) (up down : Int) (ad : Option Addr) (cap g i cp h c2 : Nat) (ls : List Po) (K : Wk w wr P ps up down ad cap g i cp h c2 ls) (q1 : poB ps = true) (q2 : slB up down = true) (hi0 : 0 < i) (hlt : i < ps.length) (hbad : (rcA ps up down i).a2 < (rcA ps up down i).a1) :
    Calls Try.prog 134 #[.pointer (some ⟨P, 0, none⟩), .int .i64 (i : Int)] wr fun e w' => e = .returned (.bool false) ∧ Wk w w' P ps up down ad cap g i cp h c2 ls := by
  have pf := poB_facts q1
  have sl := sl_facts q2
  have hb30 : ps.length ≤ 30 := pf.2.2
  have n1 : (0 : Int) ≤ (i : Int) := by omega
  have n2 : (i : Int) < (ps.length : Int) := by omega
  have pa := poAt_facts (pf.1 i hlt)
  obtain ⟨bb, off, rfl, hbb, hc⟩ := K.pt hlt
  have p0 := hc 0 (by omega)
  have p1 := hc 1 (by omega)
  have p2 := hc 2 (by omega)
  obtain ⟨j, hj⟩ : ∃ j, i = j + 1 := ⟨i - 1, by omega⟩
  have hsub : (i : Int) - 1 = (j : Int) := by omega
  have hwr : IntKind.i64.wrap (j : Int) = (j : Int) := by rw [IntKind.wrap_i64]; omega
  have hj0 : (0 : Int) ≤ (j : Int) := by omega
  have hj2 : (j : Int) < (i : Int) := by omega
  have hz0 : (0 : Int) < (i : Int) := by omega
  have hd := K.hd (i := j) (by omega)
  have e0 := hd 0 (by omega)
  have e1 := hd 1 (by omega)
  have e2 := hd 2 (by omega)
  have c0 := K.blk.c 0 (by simp)
  have c1 := K.blk.c 1 (by simp)
  have c2' := K.blk.c 2 (by simp)
  have c3 := K.blk.c 3 (by simp)
  have pj := poAt_facts (pf.1 j (by omega))
  have rj := rcA_bd q1 q2 j (by omega)
  have rf := rcA_far ps up down j
  have hlt2 : (elAt ps j).a0 < (elAt ps i).a0 := by
    rcases pa.2.2.2 with h | h
    · omega
    · rw [hj, Nat.add_sub_cancel] at h; rw [hj]; exact h
  obtain ⟨r, hr⟩ : ∃ r, rcA ps up down j = r := ⟨_, rfl⟩
  rw [hr] at e0 e1 e2 rj rf
  obtain ⟨lo, hlo⟩ : ∃ z, max (elAt ps i).a1 (r.a1 - down * ((elAt ps i).a0 - (elAt ps j).a0)) = z := ⟨_, rfl⟩
  obtain ⟨hi2, hhi⟩ : ∃ z, min (elAt ps i).a2 (r.a2 + up * ((elAt ps i).a0 - (elAt ps j).a0)) = z := ⟨_, rfl⟩
  have ha : rcA ps up down i = ⟨(elAt ps i).a0, lo, hi2⟩ := by
    rw [hj] at hlo hhi ⊢
    show (⟨_, _, _⟩ : Po) = _
    rw [hr, hlo, hhi]
  rw [ha] at hbad
  have HA := hide ha
  have nh : hi2 < lo := hbad
  simp only [List.getElem_cons_zero, List.getElem_cons_succ, poC, Nat.add_zero] at p0 p1 p2 c0 c1 c2' c3 e0 e1 e2
  have HC : Hid (∀ W, Calls Try.prog 152 #[.agg #[.int .i64 up, .int .i64 down], .agg #[.int .i64 r.a0, .int .i64 r.a1, .int .i64 r.a2], .agg #[.int .i64 (elAt ps i).a0, .int .i64 (elAt ps i).a1, .int .i64 (elAt ps i).a2]] W fun e w' => e = .returned (.agg #[.int .i64 (elAt ps i).a0, .int .i64 lo, .int .i64 hi2]) ∧ Below W.heap.size W w') := hide (fun W =>
    come_is up down r.a0 r.a1 r.a2 _ _ _ ((elAt ps i).a0 - (elAt ps j).a0) W (by omega) (by omega) (by omega) (by omega) (by omega) (by omega) sl.1 sl.2 (by omega) hlo hhi)
  have HK := hide K
  have HJ := hide hj
  have HR := hide hr
  clear K hc pf hlo hhi hr hj hbad ha pj rj rf hlt2 hd pa sl hi0
  go_enter Try.func134, Try.ntmps134
  go_wp2_with fail
  obtain ⟨V, hV⟩ : ∃ W, W = wr.alloc (Obj.cells #[.int .i64 (elAt ps i).a0, .int .i64 (elAt ps i).a1, .int .i64 (elAt ps i).a2] 53) := ⟨_, rfl⟩
  have KP : Hid (Blk V wr.heap.size [.int .i64 (elAt ps i).a0, .int .i64 (elAt ps i).a1, .int .i64 (elAt ps i).a2]) := hide (by rw [hV]; exact Blk.new _ _)
  have K0 : Hid (Wk w V P ps up down (some ⟨bb, off, none⟩) cap g i cp h c2 ls) := hide (by rw [hV]; exact (unhide HK).below (bel1 _))
  have hPQ : ¬ wr.heap.size = P := by have := (unhide HK).blk.lt; omega
  have hgQ : ¬ wr.heap.size = g := by have := ((unhide HK).had.lies g rfl).2; omega
  have hhQ : ¬ wr.heap.size = h := by have := ((unhide HK).led.lies h rfl).2; omega
  have hwQ : w.heap.size ≤ wr.heap.size := (unhide HK).bel.size
  rw [← hV]
  clear hV p0 p1 p2 c0 c1 c2' c3 e0 e1 e2 HK
  obtain ⟨ι, f, _, hbf, hall⟩ := belClass V
  have HB := hide hbf
  have HAL := hide hall
  have x0 : ∀ x, (f x).cell? ⟨P, 0, none⟩ = some (.int .i64 up) := fun x => ((unhide K0).below (hbf x)).blk.c 0 (by simp)
  have x1 : ∀ x, (f x).cell? ⟨P, 1, none⟩ = some (.int .i64 down) := fun x => ((unhide K0).below (hbf x)).blk.c 1 (by simp)
  have x3 : ∀ x, (f x).cell? ⟨P, 3, none⟩ = some (.slice (some ⟨g, 0, none⟩) i cp) := fun x => ((unhide K0).below (hbf x)).blk.c 3 (by simp)
  have u0 : ∀ x, (f x).cell? ⟨g, j * 3, none⟩ = some (.int .i64 r.a0) := fun x => by have := ((unhide K0).below (hbf x)).hd (i := j) (by omega) 0 (by omega); rw [unhide HR] at this; exact this
  have u1 : ∀ x, (f x).cell? ⟨g, j * 3 + 1, none⟩ = some (.int .i64 r.a1) := fun x => by have := ((unhide K0).below (hbf x)).hd (i := j) (by omega) 1 (by omega); rw [unhide HR] at this; exact this
  have u2 : ∀ x, (f x).cell? ⟨g, j * 3 + 2, none⟩ = some (.int .i64 r.a2) := fun x => by have := ((unhide K0).below (hbf x)).hd (i := j) (by omega) 2 (by omega); rw [unhide HR] at this; exact this
  have v0 : ∀ x, (f x).cell? ⟨wr.heap.size, 0, none⟩ = some (.int .i64 (elAt ps i).a0) := fun x => ((unhide KP).below (hbf x)).c 0 (by simp)
  have v1 : ∀ x, (f x).cell? ⟨wr.heap.size, 1, none⟩ = some (.int .i64 (elAt ps i).a1) := fun x => ((unhide KP).below (hbf x)).c 1 (by simp)
  have v2 : ∀ x, (f x).cell? ⟨wr.heap.size, 2, none⟩ = some (.int .i64 (elAt ps i).a2) := fun x => ((unhide KP).below (hbf x)).c 2 (by simp)
  have z0 : ∀ x, (f x).frozen? ⟨wr.heap.size, 0, none⟩ = false := fun x => ((unhide KP).below (hbf x)).f 0 (by simp)
  have z1 : ∀ x, (f x).frozen? ⟨wr.heap.size, 1, none⟩ = false := fun x => ((unhide KP).below (hbf x)).f 1 (by simp)
  have z2 : ∀ x, (f x).frozen? ⟨wr.heap.size, 2, none⟩ = false := fun x => ((unhide KP).below (hbf x)).f 2 (by simp)
  clear hbf hall
  refine wp_region_then (unhide HAL) (by kernel_rfl) (by kernel_rfl) (by kernel_rfl) ?_
  dsimp only [swapLast, lastOf]
  repeat (go_big_quiet_step ((go_at_call 152; exact belQ (unhide HB) (unhide HAL) (unhide HC _))))
  refine wpQuiet_nil ?_
  rintro _ ⟨y, rfl⟩
  go_simp
  obtain ⟨W1, hW1⟩ : ∃ W, W = (((f y).setCell ⟨wr.heap.size, 0, none⟩ (.int .i64 (elAt ps i).a0)).setCell ⟨wr.heap.size, 1, none⟩ (.int .i64 lo)).setCell ⟨wr.heap.size, 2, none⟩ (.int .i64 hi2) := ⟨_, rfl⟩
  have KP1 : Hid (Blk W1 wr.heap.size [.int .i64 (elAt ps i).a0, .int .i64 lo, .int .i64 hi2]) := hide (by
    rw [hW1]
    have b1 := ((unhide KP).below (unhide HB y)).set 0 (by simp) (.int .i64 (elAt ps i).a0)
    have b2 := b1.set 1 (by simp) (.int .i64 lo)
    have b3 := b2.set 2 (by simp) (.int .i64 hi2)
    simpa using b3)
  have K1 : Hid (Wk w W1 P ps up down (some ⟨bb, off, none⟩) cap g i cp h c2 ls) := hide (by
    rw [hW1]
    exact ((((unhide K0).below (unhide HB y)).setQ 0 _ hPQ hgQ hhQ hwQ).setQ 1 _ hPQ hgQ hhQ hwQ).setQ 2 _ hPQ hgQ hhQ hwQ)
  rw [← hW1]
  clear hW1 HB HAL x0 x1 x3 u0 u1 u2 v0 v1 v2 z0 z1 z2 K0 KP
  have y0 := (unhide KP1).c 0 (by simp)
  have y1 := (unhide KP1).c 1 (by simp)
  have y2 := (unhide KP1).c 2 (by simp)
  have c3 := (unhide K1).blk.c 3 (by simp)
  simp only [List.getElem_cons_zero, List.getElem_cons_succ] at y0 y1 y2 c3
  go_wp2_with fail
  go_ret
  exact ⟨rfl, unhide K1⟩

set_option maxRecDepth 20000 in
set_option maxHeartbeats 1000000 in
theorem stepForth_more (w wr : World) (P : Nat) (ps : List Po) (up down : Int) (ad : Option Addr) (cap g i cp h c2 : Nat) (ls : List Po) (K : Wk w wr P ps up down ad cap g i cp h c2 ls) (q1 : poB ps = true) (q2 : slB up down = true) (hi0 : 0 < i) (hlt : i < ps.length) (hbad : ¬ (rcA ps up down i).a2 < (rcA ps up down i).a1) :
    Calls Try.prog 134 #[.pointer (some ⟨P, 0, none⟩), .int .i64 (i : Int)] wr fun e w' => ∃ g' cp', e = .returned (.bool true) ∧ Wk w w' P ps up down ad cap g' (i + 1) cp' h c2 ls := by
  have pf := poB_facts q1
  have sl := sl_facts q2
  have hb30 : ps.length ≤ 30 := pf.2.2
  have n1 : (0 : Int) ≤ (i : Int) := by omega
  have n2 : (i : Int) < (ps.length : Int) := by omega
  have pa := poAt_facts (pf.1 i hlt)
  obtain ⟨bb, off, rfl, hbb, hc⟩ := K.pt hlt
  have p0 := hc 0 (by omega)
  have p1 := hc 1 (by omega)
  have p2 := hc 2 (by omega)
  obtain ⟨j, hj⟩ : ∃ j, i = j + 1 := ⟨i - 1, by omega⟩
  have hsub : (i : Int) - 1 = (j : Int) := by omega
  have hwr : IntKind.i64.wrap (j : Int) = (j : Int) := by rw [IntKind.wrap_i64]; omega
  have hj0 : (0 : Int) ≤ (j : Int) := by omega
  have hj2 : (j : Int) < (i : Int) := by omega
  have hz0 : (0 : Int) < (i : Int) := by omega
  have hd := K.hd (i := j) (by omega)
  have e0 := hd 0 (by omega)
  have e1 := hd 1 (by omega)
  have e2 := hd 2 (by omega)
  have c0 := K.blk.c 0 (by simp)
  have c1 := K.blk.c 1 (by simp)
  have c2' := K.blk.c 2 (by simp)
  have c3 := K.blk.c 3 (by simp)
  have pj := poAt_facts (pf.1 j (by omega))
  have rj := rcA_bd q1 q2 j (by omega)
  have rf := rcA_far ps up down j
  have hlt2 : (elAt ps j).a0 < (elAt ps i).a0 := by
    rcases pa.2.2.2 with h | h
    · omega
    · rw [hj, Nat.add_sub_cancel] at h; rw [hj]; exact h
  obtain ⟨r, hr⟩ : ∃ r, rcA ps up down j = r := ⟨_, rfl⟩
  rw [hr] at e0 e1 e2 rj rf
  obtain ⟨lo, hlo⟩ : ∃ z, max (elAt ps i).a1 (r.a1 - down * ((elAt ps i).a0 - (elAt ps j).a0)) = z := ⟨_, rfl⟩
  obtain ⟨hi2, hhi⟩ : ∃ z, min (elAt ps i).a2 (r.a2 + up * ((elAt ps i).a0 - (elAt ps j).a0)) = z := ⟨_, rfl⟩
  have ha : rcA ps up down i = ⟨(elAt ps i).a0, lo, hi2⟩ := by
    rw [hj] at hlo hhi ⊢
    show (⟨_, _, _⟩ : Po) = _
    rw [hr, hlo, hhi]
  rw [ha] at hbad
  have HA := hide ha
  have nh : ¬ hi2 < lo := hbad
  simp only [List.getElem_cons_zero, List.getElem_cons_succ, poC, Nat.add_zero] at p0 p1 p2 c0 c1 c2' c3 e0 e1 e2
  have HC : Hid (∀ W, Calls Try.prog 152 #[.agg #[.int .i64 up, .int .i64 down], .agg #[.int .i64 r.a0, .int .i64 r.a1, .int .i64 r.a2], .agg #[.int .i64 (elAt ps i).a0, .int .i64 (elAt ps i).a1, .int .i64 (elAt ps i).a2]] W fun e w' => e = .returned (.agg #[.int .i64 (elAt ps i).a0, .int .i64 lo, .int .i64 hi2]) ∧ Below W.heap.size W w') := hide (fun W =>
    come_is up down r.a0 r.a1 r.a2 _ _ _ ((elAt ps i).a0 - (elAt ps j).a0) W (by omega) (by omega) (by omega) (by omega) (by omega) (by omega) sl.1 sl.2 (by omega) hlo hhi)
  have HK := hide K
  have HJ := hide hj
  have HR := hide hr
  clear K hc pf hlo hhi hr hj hbad ha pj rj rf hlt2 hd pa sl hi0
  go_enter Try.func134, Try.ntmps134
  go_wp2_with fail
  obtain ⟨V, hV⟩ : ∃ W, W = wr.alloc (Obj.cells #[.int .i64 (elAt ps i).a0, .int .i64 (elAt ps i).a1, .int .i64 (elAt ps i).a2] 53) := ⟨_, rfl⟩
  have KP : Hid (Blk V wr.heap.size [.int .i64 (elAt ps i).a0, .int .i64 (elAt ps i).a1, .int .i64 (elAt ps i).a2]) := hide (by rw [hV]; exact Blk.new _ _)
  have K0 : Hid (Wk w V P ps up down (some ⟨bb, off, none⟩) cap g i cp h c2 ls) := hide (by rw [hV]; exact (unhide HK).below (bel1 _))
  have hPQ : ¬ wr.heap.size = P := by have := (unhide HK).blk.lt; omega
  have hgQ : ¬ wr.heap.size = g := by have := ((unhide HK).had.lies g rfl).2; omega
  have hhQ : ¬ wr.heap.size = h := by have := ((unhide HK).led.lies h rfl).2; omega
  have hwQ : w.heap.size ≤ wr.heap.size := (unhide HK).bel.size
  rw [← hV]
  clear hV p0 p1 p2 c0 c1 c2' c3 e0 e1 e2 HK
  obtain ⟨ι, f, _, hbf, hall⟩ := belClass V
  have HB := hide hbf
  have HAL := hide hall
  have x0 : ∀ x, (f x).cell? ⟨P, 0, none⟩ = some (.int .i64 up) := fun x => ((unhide K0).below (hbf x)).blk.c 0 (by simp)
  have x1 : ∀ x, (f x).cell? ⟨P, 1, none⟩ = some (.int .i64 down) := fun x => ((unhide K0).below (hbf x)).blk.c 1 (by simp)
  have x3 : ∀ x, (f x).cell? ⟨P, 3, none⟩ = some (.slice (some ⟨g, 0, none⟩) i cp) := fun x => ((unhide K0).below (hbf x)).blk.c 3 (by simp)
  have u0 : ∀ x, (f x).cell? ⟨g, j * 3, none⟩ = some (.int .i64 r.a0) := fun x => by have := ((unhide K0).below (hbf x)).hd (i := j) (by omega) 0 (by omega); rw [unhide HR] at this; exact this
  have u1 : ∀ x, (f x).cell? ⟨g, j * 3 + 1, none⟩ = some (.int .i64 r.a1) := fun x => by have := ((unhide K0).below (hbf x)).hd (i := j) (by omega) 1 (by omega); rw [unhide HR] at this; exact this
  have u2 : ∀ x, (f x).cell? ⟨g, j * 3 + 2, none⟩ = some (.int .i64 r.a2) := fun x => by have := ((unhide K0).below (hbf x)).hd (i := j) (by omega) 2 (by omega); rw [unhide HR] at this; exact this
  have v0 : ∀ x, (f x).cell? ⟨wr.heap.size, 0, none⟩ = some (.int .i64 (elAt ps i).a0) := fun x => ((unhide KP).below (hbf x)).c 0 (by simp)
  have v1 : ∀ x, (f x).cell? ⟨wr.heap.size, 1, none⟩ = some (.int .i64 (elAt ps i).a1) := fun x => ((unhide KP).below (hbf x)).c 1 (by simp)
  have v2 : ∀ x, (f x).cell? ⟨wr.heap.size, 2, none⟩ = some (.int .i64 (elAt ps i).a2) := fun x => ((unhide KP).below (hbf x)).c 2 (by simp)
  have z0 : ∀ x, (f x).frozen? ⟨wr.heap.size, 0, none⟩ = false := fun x => ((unhide KP).below (hbf x)).f 0 (by simp)
  have z1 : ∀ x, (f x).frozen? ⟨wr.heap.size, 1, none⟩ = false := fun x => ((unhide KP).below (hbf x)).f 1 (by simp)
  have z2 : ∀ x, (f x).frozen? ⟨wr.heap.size, 2, none⟩ = false := fun x => ((unhide KP).below (hbf x)).f 2 (by simp)
  clear hbf hall
  refine wp_region_then (unhide HAL) (by kernel_rfl) (by kernel_rfl) (by kernel_rfl) ?_
  dsimp only [swapLast, lastOf]
  repeat (go_big_quiet_step ((go_at_call 152; exact belQ (unhide HB) (unhide HAL) (unhide HC _))))
  refine wpQuiet_nil ?_
  rintro _ ⟨y, rfl⟩
  go_simp
  obtain ⟨W1, hW1⟩ : ∃ W, W = (((f y).setCell ⟨wr.heap.size, 0, none⟩ (.int .i64 (elAt ps i).a0)).setCell ⟨wr.heap.size, 1, none⟩ (.int .i64 lo)).setCell ⟨wr.heap.size, 2, none⟩ (.int .i64 hi2) := ⟨_, rfl⟩
  have KP1 : Hid (Blk W1 wr.heap.size [.int .i64 (elAt ps i).a0, .int .i64 lo, .int .i64 hi2]) := hide (by
    rw [hW1]
    have b1 := ((unhide KP).below (unhide HB y)).set 0 (by simp) (.int .i64 (elAt ps i).a0)
    have b2 := b1.set 1 (by simp) (.int .i64 lo)
    have b3 := b2.set 2 (by simp) (.int .i64 hi2)
    simpa using b3)
  have K1 : Hid (Wk w W1 P ps up down (some ⟨bb, off, none⟩) cap g i cp h c2 ls) := hide (by
    rw [hW1]
    exact ((((unhide K0).below (unhide HB y)).setQ 0 _ hPQ hgQ hhQ hwQ).setQ 1 _ hPQ hgQ hhQ hwQ).setQ 2 _ hPQ hgQ hhQ hwQ)
  rw [← hW1]
  clear hW1 HB HAL x0 x1 x3 u0 u1 u2 v0 v1 v2 z0 z1 z2 K0 KP
  have y0 := (unhide KP1).c 0 (by simp)
  have y1 := (unhide KP1).c 1 (by simp)
  have y2 := (unhide KP1).c 2 (by simp)
  have c3 := (unhide K1).blk.c 3 (by simp)
  simp only [List.getElem_cons_zero, List.getElem_cons_succ] at y0 y1 y2 c3
  go_wp2_with fail
  have c3a := ((unhide K1).below (bel1 (Obj.cells #[.int .i64 (elAt ps i).a0, .int .i64 lo, .int .i64 hi2] 53))).blk.c 3 (by simp)
  simp only [List.getElem_cons_zero, List.getElem_cons_succ] at c3a
  go_region_law (first
    | (refine step_app_elG (K := 3) (cells := poC) rfl (.tmp 38) (.tmp 40) 47 53 rfl Try.underlying47 infoPo rfl (by decide) (by decide) ⟨(elAt ps i).a0, lo, hi2⟩ [.int .i64 (elAt ps i).a0, .int .i64 lo, .int .i64 hi2] rfl (fun q hq => by match q, hq with | 0, _ => rfl | 1, _ => rfl | 2, _ => rfl) (fun u hu => by simp at hu; rcases hu with rfl | rfl | rfl <;> rfl) (unhide K1).had (rcL_len _ _ _ _) (by simp [Act.eval]) rfl (by simp [Act.eval]) (unhide K1).bel.size (by omega) ?_; intro g9 c9 w9 o9 gr9 ha9; have K9 := hide ((unhide K1).app (unhide HA) o9 gr9 ha9); have d3 := (unhide K9).blk.c 3 (by simp); have z3 := (unhide K9).blk.f 3 (by simp); simp only [List.getElem_cons_zero, List.getElem_cons_succ] at d3)
    | (refine step_app_elD (K := 3) (cells := poC) rfl (.tmp 38) (.tmp 40) 47 53 rfl Try.underlying47 infoPo rfl (by decide) (by decide) ⟨(elAt ps i).a0, lo, hi2⟩ [.int .i64 (elAt ps i).a0, .int .i64 lo, .int .i64 hi2] rfl (fun q hq => by match q, hq with | 0, _ => rfl | 1, _ => rfl | 2, _ => rfl) (fun u hu => by simp at hu; rcases hu with rfl | rfl | rfl <;> rfl) (unhide K1).had (rcL_len _ _ _ _) (by simp [Act.eval]) rfl (by simp [Act.eval]) (unhide K1).bel.size (by omega) ?_; intro g9 c9 w9 o9 gr9 ha9; have K9 := hide ((unhide K1).app (unhide HA) o9 gr9 ha9); have d3 := (unhide K9).blk.c 3 (by simp); have z3 := (unhide K9).blk.f 3 (by simp); simp only [List.getElem_cons_zero, List.getElem_cons_succ] at d3))
  all_goals
    go_wp2_with fail
    go_ret
    first
      | exact ⟨g9, c9, rfl, (unhide K9).put⟩
      | exact ⟨g9, c9, rfl, (unhide K9).put.below (bel0d 1)⟩
      | exact ⟨g9, c9, rfl, ((unhide K9).below (bel0d 1)).put⟩
      | exact ⟨g9, c9, rfl, ((unhide K9).below (bel0d 1)).put.below (bel0d 1)⟩
      | exact ⟨g9, c9, rfl, ((unhide K9).below (bel0d 2)).put⟩
      | skip

end Go.Proofs.Ytbaocifpifbldae

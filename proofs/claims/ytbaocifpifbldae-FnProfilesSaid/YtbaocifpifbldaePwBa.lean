/-
  One step back of the program's walk: a call that was deferred.
-/
import Derived.Test.YtbaocifpifbldaePwFo
namespace Go.Proofs.Ytbaocifpifbldae
open Go.RowKit

theorem Wk.setL {w wr : World} {P : Nat} {ps : List Po} {up down : Int} {ad : Option Addr} {cap g k cp h c2 : Nat} {ls : List Po} (K : Wk w wr P ps up down ad cap g k cp h c2 ls) {i : Nat} (hi : i < ps.length) (z : Po) : Wk w (((wr.setCell ⟨h, i * 3, none⟩ (.int .i64 z.a0)).setCell ⟨h, i * 3 + 1, none⟩ (.int .i64 z.a1)).setCell ⟨h, i * 3 + 2, none⟩ (.int .i64 z.a2)) P ps up down ad cap g k cp h c2 (ls.set i z) := by
  have n1 : h ≠ P := K.hp
  have n2 := K.gh
  have hb : w.heap.size ≤ h := (K.led.lies h rfl).1
  have o1 := K.led.setOne K.ll i hi 0 (by omega) (.int .i64 z.a0) ⟨z.a0, (elAt ls i).a1, (elAt ls i).a2⟩ (fun q hq => by match q, hq with | 0, _ => rfl | 1, _ => rfl | 2, _ => rfl)
  have o2 := o1.setMore K.ll hi 1 (by omega) (.int .i64 z.a1) ⟨z.a0, z.a1, (elAt ls i).a2⟩ (fun q hq => by match q, hq with | 0, _ => rfl | 1, _ => rfl | 2, _ => rfl)
  have o3 := o2.setMore K.ll hi 2 (by omega) (.int .i64 z.a2) z (fun q hq => by match q, hq with | 0, _ => rfl | 1, _ => rfl | 2, _ => rfl)
  refine ⟨((K.blk.other (p := ⟨h, i * 3, none⟩) n1 _).other (p := ⟨h, i * 3 + 1, none⟩) n1 _).other (p := ⟨h, i * 3 + 2, none⟩) n1 _, K.row, ((K.had.set_other _ ?_).set_other _ ?_).set_other _ ?_, o3, by simp [K.ll], K.gp, K.hp, K.gh, K.pl, ((K.bel.setCell hb _).setCell hb _).setCell hb _⟩
  all_goals
    intro e
    exact n2 (Option.some.inj e)

set_option maxRecDepth 20000 in
set_option maxHeartbeats 1000000 in
theorem stepBack_last (w wr : World) (P : Nat) (ps : List Po) (up down : Int) (ad : Option Addr) (cap g k cp h c2 : Nat) (ls : List Po) (i : Nat) (K : Wk w wr P ps up down ad cap g k cp h c2 ls) (q1 : poB ps = true) (q2 : slB up down = true) (hik : i < k) (hkn : k ≤ ps.length) (hl : k = i + 1) :
    CallsD Try.prog 135 #[.pointer (some ⟨P, 0, none⟩), .int .i64 (i : Int)] .returning wr fun e u' w' => u' = .returning ∧ (e = .returned (.tuple #[]) ∧ Wk w w' P ps up down ad cap g k cp h c2 (ls.set i (rcA ps up down i))) := by
  have pf := poB_facts q1
  have sl := sl_facts q2
  have hb30 : ps.length ≤ 30 := pf.2.2
  have hin : i < ps.length := by omega
  have n1 : (0 : Int) ≤ (i : Int) := by omega
  have n2 : (i : Int) < (ps.length : Int) := by omega
  have n3 : (i : Int) < (k : Int) := by omega
  have hd := K.hd hik
  have ld := K.ld hin
  have e0 := hd 0 (by omega)
  have e1 := hd 1 (by omega)
  have e2 := hd 2 (by omega)
  have c0 := K.blk.c 0 (by simp)
  have c1 := K.blk.c 1 (by simp)
  have c3 := K.blk.c 3 (by simp)
  have c4 := K.blk.c 4 (by simp)
  obtain ⟨r, hr⟩ : ∃ r, rcA ps up down i = r := ⟨_, rfl⟩
  rw [hr] at e0 e1 e2
  simp only [List.getElem_cons_zero, List.getElem_cons_succ, poC, Nat.add_zero] at c0 c1 c3 c4 e0 e1 e2
  have HR := hide hr
  have HK := hide K
  have c3a := (K.below (bel1 (Obj.cells #[.int .i64 r.a0, .int .i64 r.a1, .int .i64 r.a2] 53))).blk.c 3 (by simp)
  simp only [List.getElem_cons_zero, List.getElem_cons_succ] at c3a
  have nl : ¬ (i : Int) + 1 < (k : Int) := by omega
  have HL := hide hl
  have HV : Hid (rcA ps up down i = ⟨r.a0, r.a1, r.a2⟩) := hide hr
  clear K hd ld hr pf sl hl
  go_enter_d Try.func135, Try.ntmps135
  go_wp2_with fail
  obtain ⟨V, hV⟩ : ∃ W, W = wr.alloc (Obj.cells #[.int .i64 r.a0, .int .i64 r.a1, .int .i64 r.a2] 53) := ⟨_, rfl⟩
  have KP : Hid (Blk V wr.heap.size [.int .i64 r.a0, .int .i64 r.a1, .int .i64 r.a2]) := hide (by rw [hV]; exact Blk.new _ _)
  have K0 : Hid (Wk w V P ps up down ad cap g k cp h c2 ls) := hide (by rw [hV]; exact (unhide HK).below (bel1 _))
  have hPQ : ¬ wr.heap.size = P := by have := (unhide HK).blk.lt; omega
  have hgQ : ¬ wr.heap.size = g := by have := ((unhide HK).had.lies g rfl).2; omega
  have hhQ : ¬ wr.heap.size = h := by have := ((unhide HK).led.lies h rfl).2; omega
  have hwQ : w.heap.size ≤ wr.heap.size := (unhide HK).bel.size
  rw [← hV]
  clear hV c0 c1 c3 c4 c3a e0 e1 e2 HK
  obtain ⟨ι, f, _, hbf, hall⟩ := belClass V
  have HB := hide hbf
  have HAL := hide hall
  have x4 : ∀ x, (f x).cell? ⟨P, 4, none⟩ = some (.slice (some ⟨h, 0, none⟩) ps.length c2) := fun x => ((unhide K0).below (hbf x)).blk.c 4 (by simp)
  have v0 : ∀ x, (f x).cell? ⟨wr.heap.size, 0, none⟩ = some (.int .i64 r.a0) := fun x => ((unhide KP).below (hbf x)).c 0 (by simp)
  have v1 : ∀ x, (f x).cell? ⟨wr.heap.size, 1, none⟩ = some (.int .i64 r.a1) := fun x => ((unhide KP).below (hbf x)).c 1 (by simp)
  have v2 : ∀ x, (f x).cell? ⟨wr.heap.size, 2, none⟩ = some (.int .i64 r.a2) := fun x => ((unhide KP).below (hbf x)).c 2 (by simp)
  have t0 : ∀ x, (f x).cell? ⟨h, i * 3, none⟩ = some (.int .i64 (elAt ls i).a0) := fun x => (((unhide K0).below (hbf x)).ld hin 0 (by omega)).1
  have t1 : ∀ x, (f x).cell? ⟨h, i * 3 + 1, none⟩ = some (.int .i64 (elAt ls i).a1) := fun x => (((unhide K0).below (hbf x)).ld hin 1 (by omega)).1
  have t2 : ∀ x, (f x).cell? ⟨h, i * 3 + 2, none⟩ = some (.int .i64 (elAt ls i).a2) := fun x => (((unhide K0).below (hbf x)).ld hin 2 (by omega)).1
  have z0 : ∀ x, (f x).frozen? ⟨h, i * 3, none⟩ = false := fun x => (((unhide K0).below (hbf x)).ld hin 0 (by omega)).2
  have z1 : ∀ x, (f x).frozen? ⟨h, i * 3 + 1, none⟩ = false := fun x => (((unhide K0).below (hbf x)).ld hin 1 (by omega)).2
  have z2 : ∀ x, (f x).frozen? ⟨h, i * 3 + 2, none⟩ = false := fun x => (((unhide K0).below (hbf x)).ld hin 2 (by omega)).2
  clear hbf hall
  refine wp_region_then (unhide HAL) (by kernel_rfl) (by kernel_rfl) (by kernel_rfl) ?_
  dsimp only [swapLast, lastOf]
  repeat (go_big_quiet_step (fail))
  refine wpQuiet_nil ?_
  rintro _ ⟨y, rfl⟩
  go_simp
  obtain ⟨W1, hW1⟩ : ∃ W, W = (((f y).setCell ⟨h, i * 3, none⟩ (.int .i64 r.a0)).setCell ⟨h, i * 3 + 1, none⟩ (.int .i64 r.a1)).setCell ⟨h, i * 3 + 2, none⟩ (.int .i64 r.a2) := ⟨_, rfl⟩
  have K1 : Hid (Wk w W1 P ps up down ad cap g k cp h c2 (ls.set i ⟨r.a0, r.a1, r.a2⟩)) := hide (by rw [hW1]; exact ((unhide K0).below (unhide HB y)).setL hin ⟨r.a0, r.a1, r.a2⟩)
  rw [← hW1]
  clear hW1 HB HAL x4 v0 v1 v2 t0 t1 t2 z0 z1 z2 K0 KP
  go_wp2_with fail
  go_end0
  exact ⟨rfl, by rw [unhide HV]; exact unhide K1⟩

/-- One step back: from what is had at a place and what leads on behind it. -/
def bkS (ps : List Po) (up down : Int) (i : Nat) (l : Po) : Po := ⟨(elAt ps i).a0,
      max (rcA ps up down i).a1 (l.a1 - up * ((elAt ps (i + 1)).a0 - (elAt ps i).a0)),
      min (rcA ps up down i).a2 (l.a2 + down * ((elAt ps (i + 1)).a0 - (elAt ps i).a0))⟩

set_option maxRecDepth 20000 in
set_option maxHeartbeats 1000000 in
theorem stepBack_next (w wr : World) (P : Nat) (ps : List Po) (up down : Int) (ad : Option Addr) (cap g k cp h c2 : Nat) (ls : List Po) (i : Nat) (K : Wk w wr P ps up down ad cap g k cp h c2 ls) (q1 : poB ps = true) (q2 : slB up down = true) (hik : i < k) (hkn : k ≤ ps.length) (hi1 : i + 1 < k) (hb : (0 ≤ (elAt ls (i + 1)).a1 ∧ (elAt ls (i + 1)).a1 ≤ 100000) ∧ (0 ≤ (elAt ls (i + 1)).a2 ∧ (elAt ls (i + 1)).a2 ≤ 100000)) (hf : (elAt ls (i + 1)).a0 = (elAt ps (i + 1)).a0) :
    CallsD Try.prog 135 #[.pointer (some ⟨P, 0, none⟩), .int .i64 (i : Int)] .returning wr fun e u' w' => u' = .returning ∧ (e = .returned (.tuple #[]) ∧ Wk w w' P ps up down ad cap g k cp h c2 (ls.set i (bkS ps up down i (elAt ls (i + 1))))) := by
  have pf := poB_facts q1
  have sl := sl_facts q2
  have hb30 : ps.length ≤ 30 := pf.2.2
  have hin : i < ps.length := by omega
  have n1 : (0 : Int) ≤ (i : Int) := by omega
  have n2 : (i : Int) < (ps.length : Int) := by omega
  have n3 : (i : Int) < (k : Int) := by omega
  have hd := K.hd hik
  have ld := K.ld hin
  have e0 := hd 0 (by omega)
  have e1 := hd 1 (by omega)
  have e2 := hd 2 (by omega)
  have c0 := K.blk.c 0 (by simp)
  have c1 := K.blk.c 1 (by simp)
  have c3 := K.blk.c 3 (by simp)
  have c4 := K.blk.c 4 (by simp)
  obtain ⟨r, hr⟩ : ∃ r, rcA ps up down i = r := ⟨_, rfl⟩
  rw [hr] at e0 e1 e2
  simp only [List.getElem_cons_zero, List.getElem_cons_succ, poC, Nat.add_zero] at c0 c1 c3 c4 e0 e1 e2
  obtain ⟨j, hj⟩ : ∃ j, i + 1 = j := ⟨_, rfl⟩
  have hadd : (i : Int) + 1 = (j : Int) := by omega
  have nl : (j : Int) < (k : Int) := by omega
  have hjn : j < ps.length := by omega
  have hj0 : (0 : Int) ≤ (j : Int) := by omega
  have hj1 : (j : Int) < (ps.length : Int) := by omega
  have pi := poAt_facts (pf.1 i hin)
  have pj := poAt_facts (pf.1 j hjn)
  have hlt2 : (elAt ps i).a0 < (elAt ps j).a0 := by
    rcases pj.2.2.2 with h | h
    · omega
    · rw [← hj, Nat.add_sub_cancel] at h; rw [← hj]; exact h
  have rb := rcA_bd q1 q2 i hin
  have rf := rcA_far ps up down i
  rw [hr] at rb rf
  obtain ⟨l, hl⟩ : ∃ l, elAt ls j = l := ⟨_, rfl⟩
  have hb' := hb
  have hf' := hf
  rw [hj, hl] at hb' hf'
  obtain ⟨lo, hlo⟩ : ∃ z, max r.a1 (l.a1 - up * ((elAt ps j).a0 - (elAt ps i).a0)) = z := ⟨_, rfl⟩
  obtain ⟨hi2, hhi⟩ : ∃ z, min r.a2 (l.a2 + down * ((elAt ps j).a0 - (elAt ps i).a0)) = z := ⟨_, rfl⟩
  have HV : Hid (bkS ps up down i (elAt ls (i + 1)) = ⟨r.a0, lo, hi2⟩) := hide (by
    rw [hj, hl]
    unfold bkS
    rw [hr, hj, hlo, hhi, rf])
  have HC : Hid (∀ W, Calls Try.prog 152 #[.agg #[.int .i64 down, .int .i64 up], .agg #[.int .i64 l.a0, .int .i64 l.a1, .int .i64 l.a2], .agg #[.int .i64 r.a0, .int .i64 r.a1, .int .i64 r.a2]] W fun e w' => e = .returned (.agg #[.int .i64 r.a0, .int .i64 lo, .int .i64 hi2]) ∧ Below W.heap.size W w') := hide (fun W =>
    come_is down up l.a0 l.a1 l.a2 _ _ _ ((elAt ps j).a0 - (elAt ps i).a0) W (by omega) (by omega) (by omega) (by omega) (by omega) (by omega) sl.2 sl.1 (by omega) hlo hhi)
  have HR := hide hr
  have HK := hide K
  have c3a := (K.below (bel1 (Obj.cells #[.int .i64 r.a0, .int .i64 r.a1, .int .i64 r.a2] 53))).blk.c 3 (by simp)
  simp only [List.getElem_cons_zero, List.getElem_cons_succ] at c3a
  have HJ := hide hj
  have HL := hide hl
  clear K hd ld hr pf sl hl hj hb hf hb' hf' pi pj hlt2 rb rf hlo hhi hi1
  go_enter_d Try.func135, Try.ntmps135
  go_wp2_with fail
  obtain ⟨V, hV⟩ : ∃ W, W = wr.alloc (Obj.cells #[.int .i64 r.a0, .int .i64 r.a1, .int .i64 r.a2] 53) := ⟨_, rfl⟩
  have KP : Hid (Blk V wr.heap.size [.int .i64 r.a0, .int .i64 r.a1, .int .i64 r.a2]) := hide (by rw [hV]; exact Blk.new _ _)
  have K0 : Hid (Wk w V P ps up down ad cap g k cp h c2 ls) := hide (by rw [hV]; exact (unhide HK).below (bel1 _))
  have hPQ : ¬ wr.heap.size = P := by have := (unhide HK).blk.lt; omega
  have hgQ : ¬ wr.heap.size = g := by have := ((unhide HK).had.lies g rfl).2; omega
  have hhQ : ¬ wr.heap.size = h := by have := ((unhide HK).led.lies h rfl).2; omega
  have hwQ : w.heap.size ≤ wr.heap.size := (unhide HK).bel.size
  rw [← hV]
  clear hV c0 c1 c3 c4 c3a e0 e1 e2 HK
  obtain ⟨ι, f, _, hbf, hall⟩ := belClass V
  have HB := hide hbf
  have HAL := hide hall
  have x0 : ∀ x, (f x).cell? ⟨P, 0, none⟩ = some (.int .i64 up) := fun x => ((unhide K0).below (hbf x)).blk.c 0 (by simp)
  have x1 : ∀ x, (f x).cell? ⟨P, 1, none⟩ = some (.int .i64 down) := fun x => ((unhide K0).below (hbf x)).blk.c 1 (by simp)
  have x4 : ∀ x, (f x).cell? ⟨P, 4, none⟩ = some (.slice (some ⟨h, 0, none⟩) ps.length c2) := fun x => ((unhide K0).below (hbf x)).blk.c 4 (by simp)
  have u0 : ∀ x, (f x).cell? ⟨h, j * 3, none⟩ = some (.int .i64 l.a0) := fun x => by have := (((unhide K0).below (hbf x)).ld hjn 0 (by omega)).1; rw [unhide HL] at this; exact this
  have u1 : ∀ x, (f x).cell? ⟨h, j * 3 + 1, none⟩ = some (.int .i64 l.a1) := fun x => by have := (((unhide K0).below (hbf x)).ld hjn 1 (by omega)).1; rw [unhide HL] at this; exact this
  have u2 : ∀ x, (f x).cell? ⟨h, j * 3 + 2, none⟩ = some (.int .i64 l.a2) := fun x => by have := (((unhide K0).below (hbf x)).ld hjn 2 (by omega)).1; rw [unhide HL] at this; exact this
  have v0 : ∀ x, (f x).cell? ⟨wr.heap.size, 0, none⟩ = some (.int .i64 r.a0) := fun x => ((unhide KP).below (hbf x)).c 0 (by simp)
  have v1 : ∀ x, (f x).cell? ⟨wr.heap.size, 1, none⟩ = some (.int .i64 r.a1) := fun x => ((unhide KP).below (hbf x)).c 1 (by simp)
  have v2 : ∀ x, (f x).cell? ⟨wr.heap.size, 2, none⟩ = some (.int .i64 r.a2) := fun x => ((unhide KP).below (hbf x)).c 2 (by simp)
  have z0 : ∀ x, (f x).frozen? ⟨wr.heap.size, 0, none⟩ = false := fun x => ((unhide KP).below (hbf x)).f 0 (by simp)
  have z1 : ∀ x, (f x).frozen? ⟨wr.heap.size, 1, none⟩ = false := fun x => ((unhide KP).below (hbf x)).f 1 (by simp)
  have z2 : ∀ x, (f x).frozen? ⟨wr.heap.size, 2, none⟩ = false := fun x => ((unhide KP).below (hbf x)).f 2 (by simp)
  clear hbf hall
  refine wp_region_then (unhide HAL) (by kernel_rfl) (by kernel_rfl) (by kernel_rfl) ?_
  dsimp only [swapLast, lastOf]
  repeat (go_big_quiet_step (first | (go_at_call 153; exact belQ (unhide HB) (unhide HAL) (back_is _ _ _)) | (go_at_call 152; exact belQ (unhide HB) (unhide HAL) (unhide HC _))))
  refine wpQuiet_nil ?_
  rintro _ ⟨y, rfl⟩
  go_simp
  obtain ⟨V2, hV2⟩ : ∃ W, W = (((f y).setCell ⟨wr.heap.size, 0, none⟩ (.int .i64 r.a0)).setCell ⟨wr.heap.size, 1, none⟩ (.int .i64 lo)).setCell ⟨wr.heap.size, 2, none⟩ (.int .i64 hi2) := ⟨_, rfl⟩
  have KP1 : Hid (Blk V2 wr.heap.size [.int .i64 r.a0, .int .i64 lo, .int .i64 hi2]) := hide (by
    rw [hV2]
    have b1 := ((unhide KP).below (unhide HB y)).set 0 (by simp) (.int .i64 r.a0)
    have b2 := b1.set 1 (by simp) (.int .i64 lo)
    have b3 := b2.set 2 (by simp) (.int .i64 hi2)
    simpa using b3)
  have K2 : Hid (Wk w V2 P ps up down ad cap g k cp h c2 ls) := hide (by
    rw [hV2]
    exact ((((unhide K0).below (unhide HB y)).setQ 0 _ hPQ hgQ hhQ hwQ).setQ 1 _ hPQ hgQ hhQ hwQ).setQ 2 _ hPQ hgQ hhQ hwQ)
  rw [← hV2]
  clear hV2 HB HAL x0 x1 x4 u0 u1 u2 v0 v1 v2 z0 z1 z2 K0 KP
  go_wp2_with fail
  obtain ⟨ι, f, _, hbf, hall⟩ := belClass V2
  have HB := hide hbf
  have HAL := hide hall
  have x4 : ∀ x, (f x).cell? ⟨P, 4, none⟩ = some (.slice (some ⟨h, 0, none⟩) ps.length c2) := fun x => ((unhide K2).below (hbf x)).blk.c 4 (by simp)
  have v0 : ∀ x, (f x).cell? ⟨wr.heap.size, 0, none⟩ = some (.int .i64 r.a0) := fun x => ((unhide KP1).below (hbf x)).c 0 (by simp)
  have v1 : ∀ x, (f x).cell? ⟨wr.heap.size, 1, none⟩ = some (.int .i64 lo) := fun x => ((unhide KP1).below (hbf x)).c 1 (by simp)
  have v2 : ∀ x, (f x).cell? ⟨wr.heap.size, 2, none⟩ = some (.int .i64 hi2) := fun x => ((unhide KP1).below (hbf x)).c 2 (by simp)
  have t0 : ∀ x, (f x).cell? ⟨h, i * 3, none⟩ = some (.int .i64 (elAt ls i).a0) := fun x => (((unhide K2).below (hbf x)).ld hin 0 (by omega)).1
  have t1 : ∀ x, (f x).cell? ⟨h, i * 3 + 1, none⟩ = some (.int .i64 (elAt ls i).a1) := fun x => (((unhide K2).below (hbf x)).ld hin 1 (by omega)).1
  have t2 : ∀ x, (f x).cell? ⟨h, i * 3 + 2, none⟩ = some (.int .i64 (elAt ls i).a2) := fun x => (((unhide K2).below (hbf x)).ld hin 2 (by omega)).1
  have z0 : ∀ x, (f x).frozen? ⟨h, i * 3, none⟩ = false := fun x => (((unhide K2).below (hbf x)).ld hin 0 (by omega)).2
  have z1 : ∀ x, (f x).frozen? ⟨h, i * 3 + 1, none⟩ = false := fun x => (((unhide K2).below (hbf x)).ld hin 1 (by omega)).2
  have z2 : ∀ x, (f x).frozen? ⟨h, i * 3 + 2, none⟩ = false := fun x => (((unhide K2).below (hbf x)).ld hin 2 (by omega)).2
  clear hbf hall
  refine wp_region_then (unhide HAL) (by kernel_rfl) (by kernel_rfl) (by kernel_rfl) ?_
  dsimp only [swapLast, lastOf]
  repeat (go_big_quiet_step (fail))
  refine wpQuiet_nil ?_
  rintro _ ⟨y, rfl⟩
  go_simp
  obtain ⟨W1, hW1⟩ : ∃ W, W = (((f y).setCell ⟨h, i * 3, none⟩ (.int .i64 r.a0)).setCell ⟨h, i * 3 + 1, none⟩ (.int .i64 lo)).setCell ⟨h, i * 3 + 2, none⟩ (.int .i64 hi2) := ⟨_, rfl⟩
  have K1 : Hid (Wk w W1 P ps up down ad cap g k cp h c2 (ls.set i ⟨r.a0, lo, hi2⟩)) := hide (by rw [hW1]; exact ((unhide K2).below (unhide HB y)).setL hin ⟨r.a0, lo, hi2⟩)
  rw [← hW1]
  clear hW1 HB HAL x4 v0 v1 v2 t0 t1 t2 z0 z1 z2 K2 KP1
  go_wp2_with fail
  go_end0
  exact ⟨rfl, by rw [unhide HV]; exact unhide K1⟩

end Go.Proofs.Ytbaocifpifbldae

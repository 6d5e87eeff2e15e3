/-
  What the methods of a surface answer in the program. The lists of a gain have no less room than length; nothing that was there is written.
-/
import Derived.Test.YtbaocifpifbldadGaAt
import Derived.Test.YtbaocifpifbldadLimIs
import Derived.Test.YtbaocifpifbldadLwPure
import Derived.Test.YtbaocifpifbldadBel
import Derived.Test.YtbaocifpifbldadLoopAt
import Derived.Deep.RegionHeld3
import Derived.Deep.AppendLies
import Derived.Deep.RegionLaw
namespace Go.Proofs.Ytbaocifpifbldad
open Go.RowKit

def suOk (xs ys : List Int) (k r l lo hi st now : Int) : Bool := gaB xs ys && stB k r l && liB lo hi st && inB now lo hi

set_option maxRecDepth 20000 in
set_option maxHeartbeats 8000000 in
theorem surfOk_is {c : Bool} (a1 a2 : Option Addr) (l1 c1 l2 c2 : Nat) (xs ys : List Int) (k r v l lo hi st now : Int) (w : World) (hr : GaIn w a1 a2 l1 l2 xs ys) (hc : suOk xs ys k r l lo hi st now = c) :
    Calls Try.prog 50 #[.agg #[.slice a1 l1 c1, .slice a2 l2 c2, .int .i64 k, .int .i64 r, .int .i64 v, .int .i64 l, .int .i64 lo, .int .i64 hi, .int .i64 st, .int .i64 now]] w fun e w' => e = .returned (.bool c) ∧ Below w.heap.size w w' := by
  subst hc
  have B0 := hide (bel1 (w := w) (.cells #[.slice a1 l1 c1, .slice a2 l2 c2, .int .i64 k, .int .i64 r, .int .i64 v, .int .i64 l, .int .i64 lo, .int .i64 hi, .int .i64 st, .int .i64 now] 95))
  have R := hide (hr.below (unhide B0))
  have KB := hide (Blk.new (w := w) [.slice a1 l1 c1, .slice a2 l2 c2, .int .i64 k, .int .i64 r, .int .i64 v, .int .i64 l, .int .i64 lo, .int .i64 hi, .int .i64 st, .int .i64 now] 95)
  clear hr
  rcases four (gaB xs ys) (stB k r l) (liB lo hi st) (inB now lo hi) with ⟨q2, hv⟩ | ⟨q2, q3, hv⟩ | ⟨q2, q3, q4, hv⟩ | ⟨q2, q3, q4, q5, hv⟩ | ⟨q2, q3, q4, q5, hv⟩
  all_goals
    have HE : Hid (suOk xs ys k r l lo hi st now = _) := hide hv
    clear hv
    go_enter Try.func50, Try.ntmps50
    go_wp2_with (first
      | (go_at_call 24; refine (implGainOk_is _ _ _ _ _ _ xs ys _ (unhide R) q2).mono ?_; rintro e w1 ⟨rfl, b1⟩; have BB := hide b1; clear b1; have s2 : w1.cell? ⟨w.heap.size, 2, none⟩ = some (.int .i64 k) := ((unhide KB).below (unhide BB)).c 2 (by simp); have s3 : w1.cell? ⟨w.heap.size, 3, none⟩ = some (.int .i64 r) := ((unhide KB).below (unhide BB)).c 3 (by simp); have s4 : w1.cell? ⟨w.heap.size, 4, none⟩ = some (.int .i64 v) := ((unhide KB).below (unhide BB)).c 4 (by simp); have s5 : w1.cell? ⟨w.heap.size, 5, none⟩ = some (.int .i64 l) := ((unhide KB).below (unhide BB)).c 5 (by simp))
      | (go_at_call 73; refine (implStick_is _ _ _ _ _ q3).mono ?_; rintro e w2 ⟨rfl, b2⟩; have BB := hide ((unhide BB).trans (b2.mono (unhide BB).size)); clear b2; have s6 : w2.cell? ⟨w.heap.size, 6, none⟩ = some (.int .i64 lo) := ((unhide KB).below (unhide BB)).c 6 (by simp); have s7 : w2.cell? ⟨w.heap.size, 7, none⟩ = some (.int .i64 hi) := ((unhide KB).below (unhide BB)).c 7 (by simp); have s8 : w2.cell? ⟨w.heap.size, 8, none⟩ = some (.int .i64 st) := ((unhide KB).below (unhide BB)).c 8 (by simp))
      | (go_at_call 57; refine (implLimits_is _ _ _ _ q4).mono ?_; rintro e w3 ⟨rfl, b3⟩; have BB := hide ((unhide BB).trans (b3.mono (unhide BB).size)); clear b3; have s6 : w3.cell? ⟨w.heap.size, 6, none⟩ = some (.int .i64 lo) := ((unhide KB).below (unhide BB)).c 6 (by simp); have s7 : w3.cell? ⟨w.heap.size, 7, none⟩ = some (.int .i64 hi) := ((unhide KB).below (unhide BB)).c 7 (by simp); have s9 : w3.cell? ⟨w.heap.size, 9, none⟩ = some (.int .i64 now) := ((unhide KB).below (unhide BB)).c 9 (by simp))
      | (go_at_call 33; refine (within_is _ _ _ _ q5).mono ?_; rintro e w' ⟨rfl, hw⟩; subst w'))
    go_ret
    exact ⟨ret_bool (unhide HE).symm, (unhide B0).trans ((unhide BB).mono (unhide B0).size)⟩

set_option maxRecDepth 20000 in
set_option maxHeartbeats 8000000 in
theorem wanted_any (a1 a2 : Option Addr) (l1 c1 l2 c2 : Nat) (xs ys : List Int) (k r v l lo hi st now : Int) (w : World) (hr : GaIn w a1 a2 l1 l2 xs ys) (h1 : l1 ≤ c1) (h2 : l2 ≤ c2) (f : StFit k r l) :
    Calls Try.prog 85 #[.agg #[.slice a1 l1 c1, .slice a2 l2 c2, .int .i64 k, .int .i64 r, .int .i64 v, .int .i64 l, .int .i64 lo, .int .i64 hi, .int .i64 st, .int .i64 now]] w fun e w' => e = .returned (.int .i64 ((gaAt xs ys v * (k - r)).tdiv 100)) ∧ Below w.heap.size w w' := by
  have B0 := hide (bel1 (w := w) (.cells #[.slice a1 l1 c1, .slice a2 l2 c2, .int .i64 k, .int .i64 r, .int .i64 v, .int .i64 l, .int .i64 lo, .int .i64 hi, .int .i64 st, .int .i64 now] 95))
  have R := hide (hr.below (unhide B0))
  have KB := Blk.new (w := w) [.slice a1 l1 c1, .slice a2 l2 c2, .int .i64 k, .int .i64 r, .int .i64 v, .int .i64 l, .int .i64 lo, .int .i64 hi, .int .i64 st, .int .i64 now] 95
  have pb := gaMul_bd xs ys v f
  have td := tdivBd pb.1 pb.2
  have k0 := f.a0
  have k1 := f.a1
  have r0 := f.r0
  have r1 := f.r1
  clear hr f
  obtain ⟨ι, f, _, hb, hall⟩ := belClass (w.alloc (.cells #[.slice a1 l1 c1, .slice a2 l2 c2, .int .i64 k, .int .i64 r, .int .i64 v, .int .i64 l, .int .i64 lo, .int .i64 hi, .int .i64 st, .int .i64 now] 95))
  have HB := hide hb
  have HA := hide hall
  have fs0 : ∀ x, (f x).cell? ⟨w.heap.size, 0, none⟩ = some (.slice a1 l1 c1) := fun x => (KB.below (hb x)).c 0 (by simp)
  have fs1 : ∀ x, (f x).cell? ⟨w.heap.size, 1, none⟩ = some (.slice a2 l2 c2) := fun x => (KB.below (hb x)).c 1 (by simp)
  have fs2 : ∀ x, (f x).cell? ⟨w.heap.size, 2, none⟩ = some (.int .i64 k) := fun x => (KB.below (hb x)).c 2 (by simp)
  have fs3 : ∀ x, (f x).cell? ⟨w.heap.size, 3, none⟩ = some (.int .i64 r) := fun x => (KB.below (hb x)).c 3 (by simp)
  have fs4 : ∀ x, (f x).cell? ⟨w.heap.size, 4, none⟩ = some (.int .i64 v) := fun x => (KB.below (hb x)).c 4 (by simp)
  have fs5 : ∀ x, (f x).cell? ⟨w.heap.size, 5, none⟩ = some (.int .i64 l) := fun x => (KB.below (hb x)).c 5 (by simp)
  clear hb hall KB
  go_enter Try.func85, Try.ntmps85
  go_wp2_with fail
  refine wp_region_bel (unhide HA) (by kernel_rfl) (by kernel_rfl) ?_
  repeat (go_big_quiet_step ((go_at_call 22; exact belQ (unhide HB) (unhide HA) (implGainAt_any _ _ _ _ _ _ xs ys _ _ ((unhide R).below (unhide HB _)) h1 h2))))
  refine wpQuiet_nil ?_
  rintro _ ⟨x, rfl⟩
  go_wp2_with fail
  go_ret
  exact ⟨rfl, (unhide B0).trans ((unhide HB x).mono (unhide B0).size)⟩

set_option maxHeartbeats 2000000 in
theorem byLoad_own (a1 a2 : Option Addr) (l1 c1 l2 c2 : Nat) (k r v l lo hi st now : Int) (w : World) :
    Calls Try.prog 86 #[.agg #[.slice a1 l1 c1, .slice a2 l2 c2, .int .i64 k, .int .i64 r, .int .i64 v, .int .i64 l, .int .i64 lo, .int .i64 hi, .int .i64 st, .int .i64 now]] w fun e w' => ∃ G, e = .returned (Value.func (.func 99) #[] #[.pointer (some ⟨G, 0, none⟩)]) ∧ Blk w' G [.slice a1 l1 c1, .slice a2 l2 c2, .int .i64 k, .int .i64 r, .int .i64 v, .int .i64 l, .int .i64 lo, .int .i64 hi, .int .i64 st, .int .i64 now] ∧ Below w.heap.size w w' := by
  go_enter Try.func86, Try.ntmps86
  go_wp2
  go_ret
  exact ⟨_, rfl, Blk.new _ _, bel1 _⟩
set_option maxHeartbeats 4000000 in
theorem load1_any (a1 a2 : Option Addr) (l1 c1 l2 c2 : Nat) (k r v l lo hi st now : Int) (x : Int) (G : Nat) (w : World) (hk : Blk w G [.slice a1 l1 c1, .slice a2 l2 c2, .int .i64 k, .int .i64 r, .int .i64 v, .int .i64 l, .int .i64 lo, .int .i64 hi, .int .i64 st, .int .i64 now]) :
    Calls Try.prog 99 #[.int .i64 x, .pointer (some ⟨G, 0, none⟩)] w fun e w' => e = .returned (.int .i64 (lwH 0 l now x)) ∧ w' = w := by
  have s5 : w.cell? ⟨G, 5, none⟩ = some (.int .i64 l) := hk.c 5 (by simp)
  have s9 : w.cell? ⟨G, 9, none⟩ = some (.int .i64 now) := hk.c 9 (by simp)
  clear hk
  by_cases hA : 250 < l
  all_goals by_cases hC : l < -100
  all_goals first
    | omega
    | (go_enter Try.func99, Try.ntmps99
       go_wp2
       all_goals
         go_ret
         exact ⟨ret_int (by unfold lwH; split <;> omega), rfl⟩)

/-- The two limits of every law, in a list. -/
structure Lim2 (w : World) (base g g1 h1 g2 h2 : Nat) (lo hi a b : Int) : Prop where
  ge : base ≤ g1 ∧ base ≤ h1 ∧ base ≤ g2 ∧ base ≤ h2
  c : Blk w g [(Value.func (.func 77) #[] #[.pointer (some ⟨g1, 0, none⟩), .pointer (some ⟨h1, 0, none⟩)]), (Value.func (.func 77) #[] #[.pointer (some ⟨g2, 0, none⟩), .pointer (some ⟨h2, 0, none⟩)])]
  k1 : Blk w g1 [.int .i64 lo]
  k2 : Blk w h1 [.int .i64 hi]
  k3 : Blk w g2 [.int .i64 a]
  k4 : Blk w h2 [.int .i64 b]
theorem Lim2.below {w w' : World} {base g g1 h1 g2 h2 : Nat} {lo hi a b : Int} (h : Lim2 w base g g1 h1 g2 h2 lo hi a b) (k : Below w.heap.size w w') : Lim2 w' base g g1 h1 g2 h2 lo hi a b :=
  ⟨h.ge, h.c.below k, h.k1.below k, h.k2.below k, h.k3.below k, h.k4.below k⟩

set_option maxRecDepth 20000 in
set_option maxHeartbeats 8000000 in
theorem every_own (a1 a2 : Option Addr) (l1 c1 l2 c2 : Nat) (k r v l lo hi st now : Int) (w : World) (f : LiFit lo hi st) (hn0 : lo ≤ now) (hn1 : now ≤ hi) :
    Calls Try.prog 87 #[.agg #[.slice a1 l1 c1, .slice a2 l2 c2, .int .i64 k, .int .i64 r, .int .i64 v, .int .i64 l, .int .i64 lo, .int .i64 hi, .int .i64 st, .int .i64 now]] w fun e w' => ∃ g g1 h1 g2 h2, e = .returned (.slice (some ⟨g, 0, none⟩) 2 2) ∧ Lim2 w' w.heap.size g g1 h1 g2 h2 lo hi (now - st) (now + st) ∧ w.heap.size ≤ g ∧ Below w.heap.size w w' := by
  have B0 := hide (bel1 (w := w) (.cells #[.slice a1 l1 c1, .slice a2 l2 c2, .int .i64 k, .int .i64 r, .int .i64 v, .int .i64 l, .int .i64 lo, .int .i64 hi, .int .i64 st, .int .i64 now] 95))
  have KB := hide (Blk.new (w := w) [.slice a1 l1 c1, .slice a2 l2 c2, .int .i64 k, .int .i64 r, .int .i64 v, .int .i64 l, .int .i64 lo, .int .i64 hi, .int .i64 st, .int .i64 now] 95)
  have e0 := f.a0
  have e1 := f.ab
  have e2 := f.b1
  have e3 := f.s0
  have e4 := f.s1
  have hw1 : IntKind.i64.wrap (now - st) = now - st := by rw [IntKind.wrap_i64]; omega
  have hw2 : IntKind.i64.wrap (now + st) = now + st := by rw [IntKind.wrap_i64]; omega
  clear f
  obtain ⟨W, hW⟩ : ∃ W, W = w.alloc (.cells #[.slice a1 l1 c1, .slice a2 l2 c2, .int .i64 k, .int .i64 r, .int .i64 v, .int .i64 l, .int .i64 lo, .int .i64 hi, .int .i64 st, .int .i64 now] 95) := ⟨_, rfl⟩
  rw [← hW] at KB B0
  have HW := hide hW
  clear hW
  go_enter Try.func87, Try.ntmps87
  go_wp2_with fail
  rw [← unhide HW]
  clear HW
  have s6 : W.cell? ⟨w.heap.size, 6, none⟩ = some (.int .i64 lo) := (unhide KB).c 6 (by simp); have s7 : W.cell? ⟨w.heap.size, 7, none⟩ = some (.int .i64 hi) := (unhide KB).c 7 (by simp); have s8 : W.cell? ⟨w.heap.size, 8, none⟩ = some (.int .i64 st) := (unhide KB).c 8 (by simp); have s9 : W.cell? ⟨w.heap.size, 9, none⟩ = some (.int .i64 now) := (unhide KB).c 9 (by simp)
  go_region_held3 (fun w' => w'.cell? ⟨w.heap.size, 6, none⟩ = some (.int .i64 lo) ∧ w'.cell? ⟨w.heap.size, 7, none⟩ = some (.int .i64 hi) ∧ w'.cell? ⟨w.heap.size, 8, none⟩ = some (.int .i64 st) ∧ w'.cell? ⟨w.heap.size, 9, none⟩ = some (.int .i64 now)) (go_keep)
    ((go_at_call 58; first
      | (refine (heldIn_own lo hi _).mono ?_; rintro e w1 ⟨g1, h1, rfl, kg1, kh1, lg1, lh1, b1⟩; have B1 : Hid (Below W.heap.size W w1) := hide (by first | exact b1 | exact (bel0d' 1).trans b1); have lg1 : W.heap.size ≤ g1 := lg1; have lh1 : W.heap.size ≤ h1 := lh1; clear b1; clear s6 s7 s8 s9; have s6 : w1.cell? ⟨w.heap.size, 6, none⟩ = some (.int .i64 lo) := ((unhide KB).below (unhide B1)).c 6 (by simp); have s7 : w1.cell? ⟨w.heap.size, 7, none⟩ = some (.int .i64 hi) := ((unhide KB).below (unhide B1)).c 7 (by simp); have s8 : w1.cell? ⟨w.heap.size, 8, none⟩ = some (.int .i64 st) := ((unhide KB).below (unhide B1)).c 8 (by simp); have s9 : w1.cell? ⟨w.heap.size, 9, none⟩ = some (.int .i64 now) := ((unhide KB).below (unhide B1)).c 9 (by simp))
      | (refine (heldIn_own (now - st) (now + st) _).mono ?_; rintro e w2 ⟨g2, h2, rfl, kg2, kh2, lg2, lh2, b2⟩; have B2 : Hid (Below w1.heap.size w1 w2) := hide b2; clear b2; clear s6 s7 s8 s9; have s6 : w2.cell? ⟨w.heap.size, 6, none⟩ = some (.int .i64 lo) := (((unhide KB).below (unhide B1)).below (unhide B2)).c 6 (by simp); have s7 : w2.cell? ⟨w.heap.size, 7, none⟩ = some (.int .i64 hi) := (((unhide KB).below (unhide B1)).below (unhide B2)).c 7 (by simp); have s8 : w2.cell? ⟨w.heap.size, 8, none⟩ = some (.int .i64 st) := (((unhide KB).below (unhide B1)).below (unhide B2)).c 8 (by simp); have s9 : w2.cell? ⟨w.heap.size, 9, none⟩ = some (.int .i64 now) := (((unhide KB).below (unhide B1)).below (unhide B2)).c 9 (by simp))))
  have HB9 := hide ((unhide B0).trans (((unhide B1).trans ((unhide B2).mono (unhide B1).size)).mono (unhide B0).size))
  have HL1 := hide ((kg1.below (unhide B2)).alloc (Obj.cells #[(Value.func (.func 77) #[] #[.pointer (some ⟨g1, 0, none⟩), .pointer (some ⟨h1, 0, none⟩)]), (Value.func (.func 77) #[] #[.pointer (some ⟨g2, 0, none⟩), .pointer (some ⟨h2, 0, none⟩)])] 100))
  have HL2 := hide ((kh1.below (unhide B2)).alloc (Obj.cells #[(Value.func (.func 77) #[] #[.pointer (some ⟨g1, 0, none⟩), .pointer (some ⟨h1, 0, none⟩)]), (Value.func (.func 77) #[] #[.pointer (some ⟨g2, 0, none⟩), .pointer (some ⟨h2, 0, none⟩)])] 100))
  have HL3 := hide (kg2.alloc (Obj.cells #[(Value.func (.func 77) #[] #[.pointer (some ⟨g1, 0, none⟩), .pointer (some ⟨h1, 0, none⟩)]), (Value.func (.func 77) #[] #[.pointer (some ⟨g2, 0, none⟩), .pointer (some ⟨h2, 0, none⟩)])] 100))
  have HL4 := hide (kh2.alloc (Obj.cells #[(Value.func (.func 77) #[] #[.pointer (some ⟨g1, 0, none⟩), .pointer (some ⟨h1, 0, none⟩)]), (Value.func (.func 77) #[] #[.pointer (some ⟨g2, 0, none⟩), .pointer (some ⟨h2, 0, none⟩)])] 100))
  have z0 := (unhide B0).size
  have z1 := (unhide B1).size
  have HGE : Hid (w.heap.size ≤ g1 ∧ w.heap.size ≤ h1 ∧ w.heap.size ≤ g2 ∧ w.heap.size ≤ h2) := hide (by omega)
  clear kg1 kh1 kg2 kh2 lg1 lh1 lg2 lh2 s6 s7 s8 s9 z0 z1
  go_wp2_with fail
  go_ret
  exact ⟨_, g1, h1, g2, h2, rfl, ⟨unhide HGE, Blk.new _ _, unhide HL1, unhide HL2, unhide HL3, unhide HL4⟩, (unhide HB9).size, (unhide HB9).alloc (unhide HB9).size _⟩

set_option maxRecDepth 20000 in
set_option maxHeartbeats 8000000 in
theorem direct_own (a1 a2 : Option Addr) (l1 c1 l2 c2 : Nat) (k r v l lo hi st now : Int) (w : World) (fs : StFit k r l) (f : LiFit lo hi st) (hn0 : lo ≤ now) (hn1 : now ≤ hi) :
    Calls Try.prog 76 #[.agg #[.slice a1 l1 c1, .slice a2 l2 c2, .int .i64 k, .int .i64 r, .int .i64 v, .int .i64 l, .int .i64 lo, .int .i64 hi, .int .i64 st, .int .i64 now]] w fun e w' => ∃ g g1 h1 g2 h2, e = .returned (.tuple #[.int .i64 (10 * k), .slice (some ⟨g, 0, none⟩) 2 2]) ∧ (∃ base, Lim2 w' base g g1 h1 g2 h2 lo hi (now - st) (now + st)) ∧ Below w.heap.size w w' := by
  have B0 := hide (bel1 (w := w) (.cells #[.slice a1 l1 c1, .slice a2 l2 c2, .int .i64 k, .int .i64 r, .int .i64 v, .int .i64 l, .int .i64 lo, .int .i64 hi, .int .i64 st, .int .i64 now] 95))
  have KB := hide (Blk.new (w := w) [.slice a1 l1 c1, .slice a2 l2 c2, .int .i64 k, .int .i64 r, .int .i64 v, .int .i64 l, .int .i64 lo, .int .i64 hi, .int .i64 st, .int .i64 now] 95)
  obtain ⟨W, hW⟩ : ∃ W, W = w.alloc (.cells #[.slice a1 l1 c1, .slice a2 l2 c2, .int .i64 k, .int .i64 r, .int .i64 v, .int .i64 l, .int .i64 lo, .int .i64 hi, .int .i64 st, .int .i64 now] 95) := ⟨_, rfl⟩
  rw [← hW] at KB B0
  have HW := hide hW
  clear hW
  have k0 := fs.a0
  have k1 := fs.a1
  have hwk : IntKind.i64.wrap (10 * k) = 10 * k := by rw [IntKind.wrap_i64]; omega
  go_enter Try.func76, Try.ntmps76
  go_wp2_with fail
  rw [← unhide HW]
  clear HW
  have s0 : W.cell? ⟨w.heap.size, 0, none⟩ = some (.slice a1 l1 c1) := (unhide KB).c 0 (by simp); have s1 : W.cell? ⟨w.heap.size, 1, none⟩ = some (.slice a2 l2 c2) := (unhide KB).c 1 (by simp); have s2 : W.cell? ⟨w.heap.size, 2, none⟩ = some (.int .i64 k) := (unhide KB).c 2 (by simp); have s3 : W.cell? ⟨w.heap.size, 3, none⟩ = some (.int .i64 r) := (unhide KB).c 3 (by simp); have s4 : W.cell? ⟨w.heap.size, 4, none⟩ = some (.int .i64 v) := (unhide KB).c 4 (by simp); have s5 : W.cell? ⟨w.heap.size, 5, none⟩ = some (.int .i64 l) := (unhide KB).c 5 (by simp); have s6 : W.cell? ⟨w.heap.size, 6, none⟩ = some (.int .i64 lo) := (unhide KB).c 6 (by simp); have s7 : W.cell? ⟨w.heap.size, 7, none⟩ = some (.int .i64 hi) := (unhide KB).c 7 (by simp); have s8 : W.cell? ⟨w.heap.size, 8, none⟩ = some (.int .i64 st) := (unhide KB).c 8 (by simp); have s9 : W.cell? ⟨w.heap.size, 9, none⟩ = some (.int .i64 now) := (unhide KB).c 9 (by simp)
  go_region_held3 (fun w' => w'.cell? ⟨w.heap.size, 0, none⟩ = some (.slice a1 l1 c1) ∧ w'.cell? ⟨w.heap.size, 1, none⟩ = some (.slice a2 l2 c2) ∧ w'.cell? ⟨w.heap.size, 2, none⟩ = some (.int .i64 k) ∧ w'.cell? ⟨w.heap.size, 3, none⟩ = some (.int .i64 r) ∧ w'.cell? ⟨w.heap.size, 4, none⟩ = some (.int .i64 v) ∧ w'.cell? ⟨w.heap.size, 5, none⟩ = some (.int .i64 l) ∧ w'.cell? ⟨w.heap.size, 6, none⟩ = some (.int .i64 lo) ∧ w'.cell? ⟨w.heap.size, 7, none⟩ = some (.int .i64 hi) ∧ w'.cell? ⟨w.heap.size, 8, none⟩ = some (.int .i64 st) ∧ w'.cell? ⟨w.heap.size, 9, none⟩ = some (.int .i64 now)) (go_keep)
    ((go_at_call 87; refine (every_own _ _ _ _ _ _ k r v l lo hi st now _ f hn0 hn1).mono ?_; rintro e w2 ⟨g, g1, h1, g2, h2, rfl, L2, lg, b2⟩; have L2 := hide L2; have B2 : Hid (Below W.heap.size W w2) := hide (by first | exact b2 | exact (bel0d' 1).trans b2); clear b2 lg s0 s1 s2 s3 s4 s5 s6 s7 s8 s9; have s0 : w2.cell? ⟨w.heap.size, 0, none⟩ = some (.slice a1 l1 c1) := ((unhide KB).below (unhide B2)).c 0 (by simp); have s1 : w2.cell? ⟨w.heap.size, 1, none⟩ = some (.slice a2 l2 c2) := ((unhide KB).below (unhide B2)).c 1 (by simp); have s2 : w2.cell? ⟨w.heap.size, 2, none⟩ = some (.int .i64 k) := ((unhide KB).below (unhide B2)).c 2 (by simp); have s3 : w2.cell? ⟨w.heap.size, 3, none⟩ = some (.int .i64 r) := ((unhide KB).below (unhide B2)).c 3 (by simp); have s4 : w2.cell? ⟨w.heap.size, 4, none⟩ = some (.int .i64 v) := ((unhide KB).below (unhide B2)).c 4 (by simp); have s5 : w2.cell? ⟨w.heap.size, 5, none⟩ = some (.int .i64 l) := ((unhide KB).below (unhide B2)).c 5 (by simp); have s6 : w2.cell? ⟨w.heap.size, 6, none⟩ = some (.int .i64 lo) := ((unhide KB).below (unhide B2)).c 6 (by simp); have s7 : w2.cell? ⟨w.heap.size, 7, none⟩ = some (.int .i64 hi) := ((unhide KB).below (unhide B2)).c 7 (by simp); have s8 : w2.cell? ⟨w.heap.size, 8, none⟩ = some (.int .i64 st) := ((unhide KB).below (unhide B2)).c 8 (by simp); have s9 : w2.cell? ⟨w.heap.size, 9, none⟩ = some (.int .i64 now) := ((unhide KB).below (unhide B2)).c 9 (by simp)))
  have B9 := hide ((unhide B0).trans ((unhide B2).mono (unhide B0).size))
  clear s0 s1 s2 s3 s4 s5 s6 s7 s8 s9
  go_wp2_with fail
  go_ret2
  exact ⟨g, g1, h1, g2, h2, rfl, ⟨_, unhide L2⟩, unhide B9⟩

set_option maxRecDepth 20000 in
set_option maxHeartbeats 8000000 in
theorem alternate_own (a1 a2 : Option Addr) (l1 c1 l2 c2 : Nat) (xs ys : List Int) (k r v l lo hi st now : Int) (w : World) (hr : GaIn w a1 a2 l1 l2 xs ys) (hc1 : l1 ≤ c1) (hc2 : l2 ≤ c2) (fs : StFit k r l) (f : LiFit lo hi st) (hn0 : lo ≤ now) (hn1 : now ≤ hi) :
    Calls Try.prog 75 #[.agg #[.slice a1 l1 c1, .slice a2 l2 c2, .int .i64 k, .int .i64 r, .int .i64 v, .int .i64 l, .int .i64 lo, .int .i64 hi, .int .i64 st, .int .i64 now]] w fun e w' => ∃ g g1 h1 g2 h2, e = .returned (.tuple #[.int .i64 ((gaAt xs ys v * (k - r)).tdiv 100), .slice (some ⟨g, 0, none⟩) 2 2]) ∧ (∃ base, Lim2 w' base g g1 h1 g2 h2 lo hi (now - st) (now + st)) ∧ Below w.heap.size w w' := by
  have B0 := hide (bel1 (w := w) (.cells #[.slice a1 l1 c1, .slice a2 l2 c2, .int .i64 k, .int .i64 r, .int .i64 v, .int .i64 l, .int .i64 lo, .int .i64 hi, .int .i64 st, .int .i64 now] 95))
  have KB := hide (Blk.new (w := w) [.slice a1 l1 c1, .slice a2 l2 c2, .int .i64 k, .int .i64 r, .int .i64 v, .int .i64 l, .int .i64 lo, .int .i64 hi, .int .i64 st, .int .i64 now] 95)
  obtain ⟨W, hW⟩ : ∃ W, W = w.alloc (.cells #[.slice a1 l1 c1, .slice a2 l2 c2, .int .i64 k, .int .i64 r, .int .i64 v, .int .i64 l, .int .i64 lo, .int .i64 hi, .int .i64 st, .int .i64 now] 95) := ⟨_, rfl⟩
  rw [← hW] at KB B0
  have HW := hide hW
  clear hW
  have R := hide (hr.below (unhide B0))
  clear hr
  go_enter Try.func75, Try.ntmps75
  go_wp2_with fail
  rw [← unhide HW]
  clear HW
  have s0 : W.cell? ⟨w.heap.size, 0, none⟩ = some (.slice a1 l1 c1) := (unhide KB).c 0 (by simp); have s1 : W.cell? ⟨w.heap.size, 1, none⟩ = some (.slice a2 l2 c2) := (unhide KB).c 1 (by simp); have s2 : W.cell? ⟨w.heap.size, 2, none⟩ = some (.int .i64 k) := (unhide KB).c 2 (by simp); have s3 : W.cell? ⟨w.heap.size, 3, none⟩ = some (.int .i64 r) := (unhide KB).c 3 (by simp); have s4 : W.cell? ⟨w.heap.size, 4, none⟩ = some (.int .i64 v) := (unhide KB).c 4 (by simp); have s5 : W.cell? ⟨w.heap.size, 5, none⟩ = some (.int .i64 l) := (unhide KB).c 5 (by simp); have s6 : W.cell? ⟨w.heap.size, 6, none⟩ = some (.int .i64 lo) := (unhide KB).c 6 (by simp); have s7 : W.cell? ⟨w.heap.size, 7, none⟩ = some (.int .i64 hi) := (unhide KB).c 7 (by simp); have s8 : W.cell? ⟨w.heap.size, 8, none⟩ = some (.int .i64 st) := (unhide KB).c 8 (by simp); have s9 : W.cell? ⟨w.heap.size, 9, none⟩ = some (.int .i64 now) := (unhide KB).c 9 (by simp)
  go_region_held3 (fun w' => w'.cell? ⟨w.heap.size, 0, none⟩ = some (.slice a1 l1 c1) ∧ w'.cell? ⟨w.heap.size, 1, none⟩ = some (.slice a2 l2 c2) ∧ w'.cell? ⟨w.heap.size, 2, none⟩ = some (.int .i64 k) ∧ w'.cell? ⟨w.heap.size, 3, none⟩ = some (.int .i64 r) ∧ w'.cell? ⟨w.heap.size, 4, none⟩ = some (.int .i64 v) ∧ w'.cell? ⟨w.heap.size, 5, none⟩ = some (.int .i64 l) ∧ w'.cell? ⟨w.heap.size, 6, none⟩ = some (.int .i64 lo) ∧ w'.cell? ⟨w.heap.size, 7, none⟩ = some (.int .i64 hi) ∧ w'.cell? ⟨w.heap.size, 8, none⟩ = some (.int .i64 st) ∧ w'.cell? ⟨w.heap.size, 9, none⟩ = some (.int .i64 now)) (go_keep)
    (first
      | (go_at_call 85; refine (wanted_any _ _ _ _ _ _ xs ys k r v l lo hi st now _ (by first | exact unhide R | exact (unhide R).below (bel0d 1)) hc1 hc2 fs).mono ?_; rintro e w1 ⟨rfl, b1⟩; have B1 : Hid (Below W.heap.size W w1) := hide (by first | exact b1 | exact (bel0d' 1).trans b1); clear b1 s0 s1 s2 s3 s4 s5 s6 s7 s8 s9; have s0 : w1.cell? ⟨w.heap.size, 0, none⟩ = some (.slice a1 l1 c1) := ((unhide KB).below (unhide B1)).c 0 (by simp); have s1 : w1.cell? ⟨w.heap.size, 1, none⟩ = some (.slice a2 l2 c2) := ((unhide KB).below (unhide B1)).c 1 (by simp); have s2 : w1.cell? ⟨w.heap.size, 2, none⟩ = some (.int .i64 k) := ((unhide KB).below (unhide B1)).c 2 (by simp); have s3 : w1.cell? ⟨w.heap.size, 3, none⟩ = some (.int .i64 r) := ((unhide KB).below (unhide B1)).c 3 (by simp); have s4 : w1.cell? ⟨w.heap.size, 4, none⟩ = some (.int .i64 v) := ((unhide KB).below (unhide B1)).c 4 (by simp); have s5 : w1.cell? ⟨w.heap.size, 5, none⟩ = some (.int .i64 l) := ((unhide KB).below (unhide B1)).c 5 (by simp); have s6 : w1.cell? ⟨w.heap.size, 6, none⟩ = some (.int .i64 lo) := ((unhide KB).below (unhide B1)).c 6 (by simp); have s7 : w1.cell? ⟨w.heap.size, 7, none⟩ = some (.int .i64 hi) := ((unhide KB).below (unhide B1)).c 7 (by simp); have s8 : w1.cell? ⟨w.heap.size, 8, none⟩ = some (.int .i64 st) := ((unhide KB).below (unhide B1)).c 8 (by simp); have s9 : w1.cell? ⟨w.heap.size, 9, none⟩ = some (.int .i64 now) := ((unhide KB).below (unhide B1)).c 9 (by simp))
      | (go_at_call 87; refine (every_own _ _ _ _ _ _ k r v l lo hi st now _ f hn0 hn1).mono ?_; rintro e w2 ⟨g, g1, h1, g2, h2, rfl, L2, lg, b2⟩; have L2 := hide L2; have B2 : Hid (Below w1.heap.size w1 w2) := hide (by first | exact b2 | exact (bel0d' 1).trans b2); clear b2 lg s0 s1 s2 s3 s4 s5 s6 s7 s8 s9; have s0 : w2.cell? ⟨w.heap.size, 0, none⟩ = some (.slice a1 l1 c1) := ((((unhide KB).below (unhide B1))).below (unhide B2)).c 0 (by simp); have s1 : w2.cell? ⟨w.heap.size, 1, none⟩ = some (.slice a2 l2 c2) := ((((unhide KB).below (unhide B1))).below (unhide B2)).c 1 (by simp); have s2 : w2.cell? ⟨w.heap.size, 2, none⟩ = some (.int .i64 k) := ((((unhide KB).below (unhide B1))).below (unhide B2)).c 2 (by simp); have s3 : w2.cell? ⟨w.heap.size, 3, none⟩ = some (.int .i64 r) := ((((unhide KB).below (unhide B1))).below (unhide B2)).c 3 (by simp); have s4 : w2.cell? ⟨w.heap.size, 4, none⟩ = some (.int .i64 v) := ((((unhide KB).below (unhide B1))).below (unhide B2)).c 4 (by simp); have s5 : w2.cell? ⟨w.heap.size, 5, none⟩ = some (.int .i64 l) := ((((unhide KB).below (unhide B1))).below (unhide B2)).c 5 (by simp); have s6 : w2.cell? ⟨w.heap.size, 6, none⟩ = some (.int .i64 lo) := ((((unhide KB).below (unhide B1))).below (unhide B2)).c 6 (by simp); have s7 : w2.cell? ⟨w.heap.size, 7, none⟩ = some (.int .i64 hi) := ((((unhide KB).below (unhide B1))).below (unhide B2)).c 7 (by simp); have s8 : w2.cell? ⟨w.heap.size, 8, none⟩ = some (.int .i64 st) := ((((unhide KB).below (unhide B1))).below (unhide B2)).c 8 (by simp); have s9 : w2.cell? ⟨w.heap.size, 9, none⟩ = some (.int .i64 now) := ((((unhide KB).below (unhide B1))).below (unhide B2)).c 9 (by simp)))
  have B9 := hide ((unhide B0).trans (((unhide B1).trans ((unhide B2).mono (unhide B1).size)).mono (unhide B0).size))
  clear s0 s1 s2 s3 s4 s5 s6 s7 s8 s9
  go_wp2_with fail
  go_ret2
  exact ⟨g, g1, h1, g2, h2, rfl, ⟨_, unhide L2⟩, unhide B9⟩

theorem own_one {w : World} {base : Nat} {T : TypeId} (fv : Value) (h : base ≤ w.heap.size) : (w.alloc (Obj.cells #[fv] T)).ownsRow base T 1 (.slice (some ⟨w.heap.size, 0, none⟩) 1 1) 1 [fv] := by
  refine ⟨rfl, .inr ⟨_, _, #[fv], rfl, h, ?_, Nat.le_refl _, by simp [maxLen], rfl, rfl⟩⟩
  show (w.heap.push _)[w.heap.size]? = _
  simp
theorem news2 {w : World} {g : Nat} {a b : Value} (h : Blk w g [a, b]) : ∀ j u, [a, b][j]? = some u → w.cell? ((⟨g, 0, none⟩ : Addr).add j) = some u := by
  intro j u hj
  have e : (⟨g, 0, none⟩ : Addr).add j = ⟨g, j, none⟩ := by unfold Addr.add; simp; exact fun h => h.symm
  rw [e]
  rcases j with _ | _ | j
  · simp only [List.getElem?_cons_zero, Option.some.injEq] at hj; subst hj; exact h.c 0 (by simp)
  · simp only [List.getElem?_cons_succ, List.getElem?_cons_zero, Option.some.injEq] at hj; subst hj; exact h.c 1 (by simp)
  · simp at hj
theorem info_limit : (Try.prog.info? 100).map (fun i => (i.zero, i.size, i.bytes)) = some (some .nilFunc, 1, 8) := by kernel_rfl
/-- The three limits of the normal law, in a list. -/
structure Lim3 (w : World) (g G g1 h1 g2 h2 : Nat) (vs : List Value) (lo hi a b : Int) : Prop where
  c0 : w.cell? ⟨g, 0, none⟩ = some (Value.func (.func 99) #[] #[.pointer (some ⟨G, 0, none⟩)])
  c1 : w.cell? ⟨g, 1, none⟩ = some (Value.func (.func 77) #[] #[.pointer (some ⟨g1, 0, none⟩), .pointer (some ⟨h1, 0, none⟩)])
  c2 : w.cell? ⟨g, 2, none⟩ = some (Value.func (.func 77) #[] #[.pointer (some ⟨g2, 0, none⟩), .pointer (some ⟨h2, 0, none⟩)])
  k0 : Blk w G vs
  k1 : Blk w g1 [.int .i64 lo]
  k2 : Blk w h1 [.int .i64 hi]
  k3 : Blk w g2 [.int .i64 a]
  k4 : Blk w h2 [.int .i64 b]
theorem lim3_of {w w' : World} {base g G g1 h1 g2 h2 g' cp B n : Nat} {vs : List Value} {lo hi a b : Int} (L : Lim2 w n g g1 h1 g2 h2 lo hi a b) (kG : Blk w G vs) (gr : w.grownBy w' (some B)) (e0 : G ≠ B) (e1 : g1 ≠ B ∧ h1 ≠ B ∧ g2 ≠ B ∧ h2 ≠ B)
    (ho : w'.ownsRow base 100 1 (.slice (some ⟨g', 0, none⟩) 3 cp) 3 [(Value.func (.func 99) #[] #[.pointer (some ⟨G, 0, none⟩)]), (Value.func (.func 77) #[] #[.pointer (some ⟨g1, 0, none⟩), .pointer (some ⟨h1, 0, none⟩)]), (Value.func (.func 77) #[] #[.pointer (some ⟨g2, 0, none⟩), .pointer (some ⟨h2, 0, none⟩)])]) : Lim3 w' g' G g1 h1 g2 h2 vs lo hi a b :=
  ⟨by rw [ho.cellAt 0 (by omega)]; rfl, by rw [ho.cellAt 1 (by omega)]; rfl, by rw [ho.cellAt 2 (by omega)]; rfl, kG.apart gr (by simpa using e0), L.k1.apart gr (by simpa using e1.1), L.k2.apart gr (by simpa using e1.2.1), L.k3.apart gr (by simpa using e1.2.2.1), L.k4.apart gr (by simpa using e1.2.2.2)⟩

set_option maxRecDepth 20000 in
set_option maxHeartbeats 16000000 in
theorem normal_own (a1 a2 : Option Addr) (l1 c1 l2 c2 : Nat) (xs ys : List Int) (k r v l lo hi st now : Int) (w : World) (hr : GaIn w a1 a2 l1 l2 xs ys) (hc1 : l1 ≤ c1) (hc2 : l2 ≤ c2) (fs : StFit k r l) (f : LiFit lo hi st) (hn0 : lo ≤ now) (hn1 : now ≤ hi) :
    Calls Try.prog 74 #[.agg #[.slice a1 l1 c1, .slice a2 l2 c2, .int .i64 k, .int .i64 r, .int .i64 v, .int .i64 l, .int .i64 lo, .int .i64 hi, .int .i64 st, .int .i64 now]] w fun e w' => ∃ g c G g1 h1 g2 h2, e = .returned (.tuple #[.int .i64 ((gaAt xs ys v * (k - r)).tdiv 100), .slice (some ⟨g, 0, none⟩) 3 c]) ∧ Lim3 w' g G g1 h1 g2 h2 [.slice a1 l1 c1, .slice a2 l2 c2, .int .i64 k, .int .i64 r, .int .i64 v, .int .i64 l, .int .i64 lo, .int .i64 hi, .int .i64 st, .int .i64 now] lo hi (now - st) (now + st) ∧ Below w.heap.size w w' := by
  obtain ⟨i0, hii, hz0, hz1, hz2⟩ := info_parts info_limit
  have B0 := hide (bel1 (w := w) (.cells #[.slice a1 l1 c1, .slice a2 l2 c2, .int .i64 k, .int .i64 r, .int .i64 v, .int .i64 l, .int .i64 lo, .int .i64 hi, .int .i64 st, .int .i64 now] 95))
  have KB := hide (Blk.new (w := w) [.slice a1 l1 c1, .slice a2 l2 c2, .int .i64 k, .int .i64 r, .int .i64 v, .int .i64 l, .int .i64 lo, .int .i64 hi, .int .i64 st, .int .i64 now] 95)
  obtain ⟨W, hW⟩ : ∃ W, W = w.alloc (.cells #[.slice a1 l1 c1, .slice a2 l2 c2, .int .i64 k, .int .i64 r, .int .i64 v, .int .i64 l, .int .i64 lo, .int .i64 hi, .int .i64 st, .int .i64 now] 95) := ⟨_, rfl⟩
  rw [← hW] at KB B0
  have HW := hide hW
  clear hW
  have R := hide (hr.below (unhide B0))
  clear hr
  go_enter Try.func74, Try.ntmps74
  go_wp2_with fail
  rw [← unhide HW]
  clear HW
  have s0 : W.cell? ⟨w.heap.size, 0, none⟩ = some (.slice a1 l1 c1) := (unhide KB).c 0 (by simp); have s1 : W.cell? ⟨w.heap.size, 1, none⟩ = some (.slice a2 l2 c2) := (unhide KB).c 1 (by simp); have s2 : W.cell? ⟨w.heap.size, 2, none⟩ = some (.int .i64 k) := (unhide KB).c 2 (by simp); have s3 : W.cell? ⟨w.heap.size, 3, none⟩ = some (.int .i64 r) := (unhide KB).c 3 (by simp); have s4 : W.cell? ⟨w.heap.size, 4, none⟩ = some (.int .i64 v) := (unhide KB).c 4 (by simp); have s5 : W.cell? ⟨w.heap.size, 5, none⟩ = some (.int .i64 l) := (unhide KB).c 5 (by simp); have s6 : W.cell? ⟨w.heap.size, 6, none⟩ = some (.int .i64 lo) := (unhide KB).c 6 (by simp); have s7 : W.cell? ⟨w.heap.size, 7, none⟩ = some (.int .i64 hi) := (unhide KB).c 7 (by simp); have s8 : W.cell? ⟨w.heap.size, 8, none⟩ = some (.int .i64 st) := (unhide KB).c 8 (by simp); have s9 : W.cell? ⟨w.heap.size, 9, none⟩ = some (.int .i64 now) := (unhide KB).c 9 (by simp)
  go_region_held3 (fun w' => w'.cell? ⟨w.heap.size, 0, none⟩ = some (.slice a1 l1 c1) ∧ w'.cell? ⟨w.heap.size, 1, none⟩ = some (.slice a2 l2 c2) ∧ w'.cell? ⟨w.heap.size, 2, none⟩ = some (.int .i64 k) ∧ w'.cell? ⟨w.heap.size, 3, none⟩ = some (.int .i64 r) ∧ w'.cell? ⟨w.heap.size, 4, none⟩ = some (.int .i64 v) ∧ w'.cell? ⟨w.heap.size, 5, none⟩ = some (.int .i64 l) ∧ w'.cell? ⟨w.heap.size, 6, none⟩ = some (.int .i64 lo) ∧ w'.cell? ⟨w.heap.size, 7, none⟩ = some (.int .i64 hi) ∧ w'.cell? ⟨w.heap.size, 8, none⟩ = some (.int .i64 st) ∧ w'.cell? ⟨w.heap.size, 9, none⟩ = some (.int .i64 now)) (go_keep)
    (first
      | (have d1 : ∀ u ∈ [(Value.func (.func 77) #[] #[.pointer (some ⟨g1, 0, none⟩), .pointer (some ⟨h1, 0, none⟩)]), (Value.func (.func 77) #[] #[.pointer (some ⟨g2, 0, none⟩), .pointer (some ⟨h2, 0, none⟩)])], u.oneCell' = true := (by simp [Value.oneCell']); have d4 : (1 + 2) * 8 ≤ 140737488355328 := (by omega); have d5 : 1 + 2 ≤ maxLen := (by unfold maxLen; omega); refine step_append_lies _ rfl _ _ 97 rfl w.heap.size 100 i0 .nilFunc 1 8 Try.underlying97 hii hz0 hz1 hz2 rfl (by decide) (.slice (some ⟨w2.heap.size, 0, none⟩) 1 1) 1 [(Value.func (.func 99) #[] #[.pointer (some ⟨G, 0, none⟩)])] rfl (unhide OA) ⟨g, 0, none⟩ 2 2 [(Value.func (.func 77) #[] #[.pointer (some ⟨g1, 0, none⟩), .pointer (some ⟨h1, 0, none⟩)]), (Value.func (.func 77) #[] #[.pointer (some ⟨g2, 0, none⟩), .pointer (some ⟨h2, 0, none⟩)])] rfl rfl (news2 (unhide L2).c) d1 (by decide) d5 d4 (Nat.le_trans (unhide BW2).size (unhide B3).size) _ rfl ?_; intro g' cp w9 hown9 hgrow hat hlt9; have y2 : w9.ownsRow w.heap.size 100 1 (.slice (some ⟨g', 0, none⟩) 3 cp) 3 [(Value.func (.func 99) #[] #[.pointer (some ⟨G, 0, none⟩)]), (Value.func (.func 77) #[] #[.pointer (some ⟨g1, 0, none⟩), .pointer (some ⟨h1, 0, none⟩)]), (Value.func (.func 77) #[] #[.pointer (some ⟨g2, 0, none⟩), .pointer (some ⟨h2, 0, none⟩)])] := hown9; have y3 : (w3).grownBy w9 (some w2.heap.size) := hgrow; have x1 : G ≠ w2.heap.size := (by have h := ((unhide KG).below (unhide B3)).lt; have h2 := (unhide KG).lt; omega); have x2 : g1 ≠ w2.heap.size ∧ h1 ≠ w2.heap.size ∧ g2 ≠ w2.heap.size ∧ h2 ≠ w2.heap.size := (by have h := unhide GE; omega); have P9 := hide (lim3_of (unhide L2) ((unhide KG).below (unhide B3)) y3 x1 x2 y2); have B9 := hide (((unhide BW2).trans ((unhide B3).mono (unhide BW2).size)).grown y3 (Nat.le_trans (unhide BW2).size (unhide B3).size) (fun q hq => by simp at hq; have h := (unhide BW2).size; omega)); have K9 := hide (((((unhide KB).below (unhide B1)).below (unhide B2)).below (unhide B3)).apart y3 (by have h := ((((unhide KB).below (unhide B1)).below (unhide B2))).lt; simp; omega)); clear hown9 hgrow hat hlt9 d1 d4 d5 y2 y3 x1 x2 s0 s1 s2 s3 s4 s5 s6 s7 s8 s9; have s0 : w9.cell? ⟨w.heap.size, 0, none⟩ = some (.slice a1 l1 c1) := (unhide K9).c 0 (by simp); have s1 : w9.cell? ⟨w.heap.size, 1, none⟩ = some (.slice a2 l2 c2) := (unhide K9).c 1 (by simp); have s2 : w9.cell? ⟨w.heap.size, 2, none⟩ = some (.int .i64 k) := (unhide K9).c 2 (by simp); have s3 : w9.cell? ⟨w.heap.size, 3, none⟩ = some (.int .i64 r) := (unhide K9).c 3 (by simp); have s4 : w9.cell? ⟨w.heap.size, 4, none⟩ = some (.int .i64 v) := (unhide K9).c 4 (by simp); have s5 : w9.cell? ⟨w.heap.size, 5, none⟩ = some (.int .i64 l) := (unhide K9).c 5 (by simp); have s6 : w9.cell? ⟨w.heap.size, 6, none⟩ = some (.int .i64 lo) := (unhide K9).c 6 (by simp); have s7 : w9.cell? ⟨w.heap.size, 7, none⟩ = some (.int .i64 hi) := (unhide K9).c 7 (by simp); have s8 : w9.cell? ⟨w.heap.size, 8, none⟩ = some (.int .i64 st) := (unhide K9).c 8 (by simp); have s9 : w9.cell? ⟨w.heap.size, 9, none⟩ = some (.int .i64 now) := (unhide K9).c 9 (by simp))
      | (have d1 : ∀ u ∈ [(Value.func (.func 77) #[] #[.pointer (some ⟨g1, 0, none⟩), .pointer (some ⟨h1, 0, none⟩)]), (Value.func (.func 77) #[] #[.pointer (some ⟨g2, 0, none⟩), .pointer (some ⟨h2, 0, none⟩)])], u.oneCell' = true := (by simp [Value.oneCell']); have d4 : (1 + 2) * 8 ≤ 140737488355328 := (by omega); have d5 : 1 + 2 ≤ maxLen := (by unfold maxLen; omega); refine step_append_lies _ rfl _ _ 97 rfl w.heap.size 100 i0 .nilFunc 1 8 Try.underlying97 hii hz0 hz1 hz2 rfl (by decide) (.slice (some ⟨w3.heap.size, 0, none⟩) 1 1) 1 [(Value.func (.func 99) #[] #[.pointer (some ⟨G, 0, none⟩)])] rfl (own_one _ (Nat.le_trans (unhide BW2).size (unhide B3).size)) ⟨g, 0, none⟩ 2 2 [(Value.func (.func 77) #[] #[.pointer (some ⟨g1, 0, none⟩), .pointer (some ⟨h1, 0, none⟩)]), (Value.func (.func 77) #[] #[.pointer (some ⟨g2, 0, none⟩), .pointer (some ⟨h2, 0, none⟩)])] rfl rfl (news2 ((unhide L2).c.alloc _)) d1 (by decide) d5 d4 (Nat.le_trans (Nat.le_trans (unhide BW2).size (unhide B3).size) (by simp)) _ rfl ?_; intro g' cp w9 hown9 hgrow hat hlt9; have y2 : w9.ownsRow w.heap.size 100 1 (.slice (some ⟨g', 0, none⟩) 3 cp) 3 [(Value.func (.func 99) #[] #[.pointer (some ⟨G, 0, none⟩)]), (Value.func (.func 77) #[] #[.pointer (some ⟨g1, 0, none⟩), .pointer (some ⟨h1, 0, none⟩)]), (Value.func (.func 77) #[] #[.pointer (some ⟨g2, 0, none⟩), .pointer (some ⟨h2, 0, none⟩)])] := hown9; have y3 : (w3.alloc (Obj.cells #[(Value.func (.func 99) #[] #[.pointer (some ⟨G, 0, none⟩)])] 100)).grownBy w9 (some w3.heap.size) := hgrow; have x1 : G ≠ w3.heap.size := (by have h := ((unhide KG).below (unhide B3)).lt; have h2 := (unhide KG).lt; omega); have x2 : g1 ≠ w3.heap.size ∧ h1 ≠ w3.heap.size ∧ g2 ≠ w3.heap.size ∧ h2 ≠ w3.heap.size := (by have h := unhide L2; have h1 := h.k1.lt; have h2 := h.k2.lt; have h3 := h.k3.lt; have h4 := h.k4.lt; omega); have P9 := hide (lim3_of ((unhide L2).below (bel1 _)) (((unhide KG).below (unhide B3)).alloc _) y3 x1 x2 y2); have B9 := hide ((((unhide BW2).trans ((unhide B3).mono (unhide BW2).size)).alloc (Nat.le_trans (unhide BW2).size (unhide B3).size) _).grown y3 (Nat.le_trans (Nat.le_trans (unhide BW2).size (unhide B3).size) (by simp)) (fun q hq => by simp at hq; have h := (unhide BW2).size; have h' := (unhide B3).size; omega)); have K9 := hide ((((((unhide KB).below (unhide B1)).below (unhide B2)).below (unhide B3)).alloc _).apart y3 (by have h := ((((unhide KB).below (unhide B1)).below (unhide B2)).below (unhide B3)).lt; simp; omega)); clear hown9 hgrow hat hlt9 d1 d4 d5 y2 y3 x1 x2 s0 s1 s2 s3 s4 s5 s6 s7 s8 s9; have s0 : w9.cell? ⟨w.heap.size, 0, none⟩ = some (.slice a1 l1 c1) := (unhide K9).c 0 (by simp); have s1 : w9.cell? ⟨w.heap.size, 1, none⟩ = some (.slice a2 l2 c2) := (unhide K9).c 1 (by simp); have s2 : w9.cell? ⟨w.heap.size, 2, none⟩ = some (.int .i64 k) := (unhide K9).c 2 (by simp); have s3 : w9.cell? ⟨w.heap.size, 3, none⟩ = some (.int .i64 r) := (unhide K9).c 3 (by simp); have s4 : w9.cell? ⟨w.heap.size, 4, none⟩ = some (.int .i64 v) := (unhide K9).c 4 (by simp); have s5 : w9.cell? ⟨w.heap.size, 5, none⟩ = some (.int .i64 l) := (unhide K9).c 5 (by simp); have s6 : w9.cell? ⟨w.heap.size, 6, none⟩ = some (.int .i64 lo) := (unhide K9).c 6 (by simp); have s7 : w9.cell? ⟨w.heap.size, 7, none⟩ = some (.int .i64 hi) := (unhide K9).c 7 (by simp); have s8 : w9.cell? ⟨w.heap.size, 8, none⟩ = some (.int .i64 st) := (unhide K9).c 8 (by simp); have s9 : w9.cell? ⟨w.heap.size, 9, none⟩ = some (.int .i64 now) := (unhide K9).c 9 (by simp))
      | (go_at_call 85; refine (wanted_any _ _ _ _ _ _ xs ys k r v l lo hi st now _ (by first | exact unhide R | exact (unhide R).below (bel0d 1)) hc1 hc2 fs).mono ?_; rintro e w1 ⟨rfl, b1⟩; have B1 : Hid (Below W.heap.size W w1) := hide (by first | exact b1 | exact (bel0d' 1).trans b1); clear b1 s0 s1 s2 s3 s4 s5 s6 s7 s8 s9; have s0 : w1.cell? ⟨w.heap.size, 0, none⟩ = some (.slice a1 l1 c1) := ((unhide KB).below (unhide B1)).c 0 (by simp); have s1 : w1.cell? ⟨w.heap.size, 1, none⟩ = some (.slice a2 l2 c2) := ((unhide KB).below (unhide B1)).c 1 (by simp); have s2 : w1.cell? ⟨w.heap.size, 2, none⟩ = some (.int .i64 k) := ((unhide KB).below (unhide B1)).c 2 (by simp); have s3 : w1.cell? ⟨w.heap.size, 3, none⟩ = some (.int .i64 r) := ((unhide KB).below (unhide B1)).c 3 (by simp); have s4 : w1.cell? ⟨w.heap.size, 4, none⟩ = some (.int .i64 v) := ((unhide KB).below (unhide B1)).c 4 (by simp); have s5 : w1.cell? ⟨w.heap.size, 5, none⟩ = some (.int .i64 l) := ((unhide KB).below (unhide B1)).c 5 (by simp); have s6 : w1.cell? ⟨w.heap.size, 6, none⟩ = some (.int .i64 lo) := ((unhide KB).below (unhide B1)).c 6 (by simp); have s7 : w1.cell? ⟨w.heap.size, 7, none⟩ = some (.int .i64 hi) := ((unhide KB).below (unhide B1)).c 7 (by simp); have s8 : w1.cell? ⟨w.heap.size, 8, none⟩ = some (.int .i64 st) := ((unhide KB).below (unhide B1)).c 8 (by simp); have s9 : w1.cell? ⟨w.heap.size, 9, none⟩ = some (.int .i64 now) := ((unhide KB).below (unhide B1)).c 9 (by simp))
      | (go_at_call 86; refine (byLoad_own _ _ _ _ _ _ k r v l lo hi st now _).mono ?_; rintro e w2 ⟨G, rfl, kG, b2⟩; have B2 : Hid (Below w1.heap.size w1 w2) := hide b2; have KG := hide kG; have BW2 : Hid (Below w.heap.size w w2) := hide ((unhide B0).trans (((unhide B1).trans ((unhide B2).mono (unhide B1).size)).mono (unhide B0).size)); clear b2 kG s0 s1 s2 s3 s4 s5 s6 s7 s8 s9; have s0 : w2.cell? ⟨w.heap.size, 0, none⟩ = some (.slice a1 l1 c1) := (((unhide KB).below (unhide B1)).below (unhide B2)).c 0 (by simp); have s1 : w2.cell? ⟨w.heap.size, 1, none⟩ = some (.slice a2 l2 c2) := (((unhide KB).below (unhide B1)).below (unhide B2)).c 1 (by simp); have s2 : w2.cell? ⟨w.heap.size, 2, none⟩ = some (.int .i64 k) := (((unhide KB).below (unhide B1)).below (unhide B2)).c 2 (by simp); have s3 : w2.cell? ⟨w.heap.size, 3, none⟩ = some (.int .i64 r) := (((unhide KB).below (unhide B1)).below (unhide B2)).c 3 (by simp); have s4 : w2.cell? ⟨w.heap.size, 4, none⟩ = some (.int .i64 v) := (((unhide KB).below (unhide B1)).below (unhide B2)).c 4 (by simp); have s5 : w2.cell? ⟨w.heap.size, 5, none⟩ = some (.int .i64 l) := (((unhide KB).below (unhide B1)).below (unhide B2)).c 5 (by simp); have s6 : w2.cell? ⟨w.heap.size, 6, none⟩ = some (.int .i64 lo) := (((unhide KB).below (unhide B1)).below (unhide B2)).c 6 (by simp); have s7 : w2.cell? ⟨w.heap.size, 7, none⟩ = some (.int .i64 hi) := (((unhide KB).below (unhide B1)).below (unhide B2)).c 7 (by simp); have s8 : w2.cell? ⟨w.heap.size, 8, none⟩ = some (.int .i64 st) := (((unhide KB).below (unhide B1)).below (unhide B2)).c 8 (by simp); have s9 : w2.cell? ⟨w.heap.size, 9, none⟩ = some (.int .i64 now) := (((unhide KB).below (unhide B1)).below (unhide B2)).c 9 (by simp))
      | (go_at_call 87; refine (every_own _ _ _ _ _ _ k r v l lo hi st now _ f hn0 hn1).mono ?_; rintro e w3 ⟨g, g1, h1, g2, h2, rfl, L2, lg, b3⟩; have L2 := hide L2; have B3 : Hid (Below w2.heap.size w2 w3) := hide (by first | exact b3 | exact (bel1 _).trans (b3.mono (by simp))); have zz := (unhide BW2).size; (first | (have OA : Hid (w3.ownsRow w.heap.size 100 1 (.slice (some ⟨w2.heap.size, 0, none⟩) 1 1) 1 [(Value.func (.func 99) #[] #[.pointer (some ⟨G, 0, none⟩)])]) := hide (ownsRow_below (own_one _ zz) b3); have GE : Hid (w2.heap.size < g1 ∧ w2.heap.size < h1 ∧ w2.heap.size < g2 ∧ w2.heap.size < h2) := hide (by have h := (unhide L2).ge; simp at h; omega)) | skip); clear lg b3 zz s0 s1 s2 s3 s4 s5 s6 s7 s8 s9; have s0 : w3.cell? ⟨w.heap.size, 0, none⟩ = some (.slice a1 l1 c1) := ((((unhide KB).below (unhide B1)).below (unhide B2)).below (unhide B3)).c 0 (by simp); have s1 : w3.cell? ⟨w.heap.size, 1, none⟩ = some (.slice a2 l2 c2) := ((((unhide KB).below (unhide B1)).below (unhide B2)).below (unhide B3)).c 1 (by simp); have s2 : w3.cell? ⟨w.heap.size, 2, none⟩ = some (.int .i64 k) := ((((unhide KB).below (unhide B1)).below (unhide B2)).below (unhide B3)).c 2 (by simp); have s3 : w3.cell? ⟨w.heap.size, 3, none⟩ = some (.int .i64 r) := ((((unhide KB).below (unhide B1)).below (unhide B2)).below (unhide B3)).c 3 (by simp); have s4 : w3.cell? ⟨w.heap.size, 4, none⟩ = some (.int .i64 v) := ((((unhide KB).below (unhide B1)).below (unhide B2)).below (unhide B3)).c 4 (by simp); have s5 : w3.cell? ⟨w.heap.size, 5, none⟩ = some (.int .i64 l) := ((((unhide KB).below (unhide B1)).below (unhide B2)).below (unhide B3)).c 5 (by simp); have s6 : w3.cell? ⟨w.heap.size, 6, none⟩ = some (.int .i64 lo) := ((((unhide KB).below (unhide B1)).below (unhide B2)).below (unhide B3)).c 6 (by simp); have s7 : w3.cell? ⟨w.heap.size, 7, none⟩ = some (.int .i64 hi) := ((((unhide KB).below (unhide B1)).below (unhide B2)).below (unhide B3)).c 7 (by simp); have s8 : w3.cell? ⟨w.heap.size, 8, none⟩ = some (.int .i64 st) := ((((unhide KB).below (unhide B1)).below (unhide B2)).below (unhide B3)).c 8 (by simp); have s9 : w3.cell? ⟨w.heap.size, 9, none⟩ = some (.int .i64 now) := ((((unhide KB).below (unhide B1)).below (unhide B2)).below (unhide B3)).c 9 (by simp)))
  all_goals
    clear s0 s1 s2 s3 s4 s5 s6 s7 s8 s9
    go_wp2_with fail
    go_ret2
    exact ⟨g', cp, G, g1, h1, g2, h2, rfl, unhide P9, unhide B9⟩

theorem run_store_func {P : Program} {w : World} {a : Addr} {m : _} (f : Fn) (x y : Array Value) : (store a (.func f x y) m).run P w = stored P w a (.func f x y) m := run_store P w a _ m rfl
attribute [local go_sem] run_store_func
theorem below_thru {w W w' : World} (h : Below w.heap.size w W) (b : Below W.heap.size W w') : Below w.heap.size w w' := h.trans (b.mono h.size)

set_option maxRecDepth 20000 in
set_option maxHeartbeats 8000000 in
theorem law0_own (a1 a2 : Option Addr) (l1 c1 l2 c2 : Nat) (xs ys : List Int) (k r v l lo hi st now : Int) (w : World) (hr : GaIn w a1 a2 l1 l2 xs ys) (hc1 : l1 ≤ c1) (hc2 : l2 ≤ c2) (fs : StFit k r l) (f : LiFit lo hi st) (hn0 : lo ≤ now) (hn1 : now ≤ hi) :
    Calls Try.prog 51 #[.agg #[.slice a1 l1 c1, .slice a2 l2 c2, .int .i64 k, .int .i64 r, .int .i64 v, .int .i64 l, .int .i64 lo, .int .i64 hi, .int .i64 st, .int .i64 now], .int .i64 0] w fun e w' => ∃ g c G g1 h1 g2 h2, e = .returned (.tuple #[.int .i64 ((gaAt xs ys v * (k - r)).tdiv 100), .slice (some ⟨g, 0, none⟩) 3 c]) ∧ Lim3 w' g G g1 h1 g2 h2 [.slice a1 l1 c1, .slice a2 l2 c2, .int .i64 k, .int .i64 r, .int .i64 v, .int .i64 l, .int .i64 lo, .int .i64 hi, .int .i64 st, .int .i64 now] lo hi (now - st) (now + st) ∧ Below w.heap.size w w' := by
  have R := hide hr
  clear hr
  go_enter Try.func51, Try.ntmps51
  go_wp2_with fail
  refine (normal_own a1 a2 l1 c1 l2 c2 xs ys k r v l lo hi st now _ ?_ hc1 hc2 fs f hn0 hn1).mono ?_
  · exact (unhide R).below (by repeat (first | exact Below.refl _ _ | refine Below.setCell ?_ (by simp; try omega) _ | refine Below.alloc ?_ (by simp; try omega) _))
  rintro e w3 ⟨g, c, G, g1, h1, g2, h2, rfl, P, b⟩
  have P := hide P
  have B9 : Hid (Below w.heap.size w w3) := hide (below_thru (by repeat (first | exact Below.refl _ _ | refine Below.setCell ?_ (by simp; try omega) _ | refine Below.alloc ?_ (by simp; try omega) _)) b)
  clear b
  go_wp2_with fail
  go_ret2
  exact ⟨g, c, G, g1, h1, g2, h2, rfl, unhide P, unhide B9⟩

set_option maxRecDepth 20000 in
set_option maxHeartbeats 8000000 in
theorem law1_own (a1 a2 : Option Addr) (l1 c1 l2 c2 : Nat) (xs ys : List Int) (k r v l lo hi st now : Int) (w : World) (hr : GaIn w a1 a2 l1 l2 xs ys) (hc1 : l1 ≤ c1) (hc2 : l2 ≤ c2) (fs : StFit k r l) (f : LiFit lo hi st) (hn0 : lo ≤ now) (hn1 : now ≤ hi) :
    Calls Try.prog 51 #[.agg #[.slice a1 l1 c1, .slice a2 l2 c2, .int .i64 k, .int .i64 r, .int .i64 v, .int .i64 l, .int .i64 lo, .int .i64 hi, .int .i64 st, .int .i64 now], .int .i64 1] w fun e w' => ∃ g g1 h1 g2 h2, e = .returned (.tuple #[.int .i64 ((gaAt xs ys v * (k - r)).tdiv 100), .slice (some ⟨g, 0, none⟩) 2 2]) ∧ (∃ base, Lim2 w' base g g1 h1 g2 h2 lo hi (now - st) (now + st)) ∧ Below w.heap.size w w' := by
  have R := hide hr
  clear hr
  go_enter Try.func51, Try.ntmps51
  go_wp2_with fail
  refine (alternate_own a1 a2 l1 c1 l2 c2 xs ys k r v l lo hi st now _ ?_ hc1 hc2 fs f hn0 hn1).mono ?_
  · exact (unhide R).below (by repeat (first | exact Below.refl _ _ | refine Below.setCell ?_ (by simp; try omega) _ | refine Below.alloc ?_ (by simp; try omega) _))
  rintro e w3 ⟨g, g1, h1, g2, h2, rfl, P, b⟩
  have P := hide P
  have B9 : Hid (Below w.heap.size w w3) := hide (below_thru (by repeat (first | exact Below.refl _ _ | refine Below.setCell ?_ (by simp; try omega) _ | refine Below.alloc ?_ (by simp; try omega) _)) b)
  clear b
  go_wp2_with fail
  go_ret2
  exact ⟨g, g1, h1, g2, h2, rfl, unhide P, unhide B9⟩

set_option maxRecDepth 20000 in
set_option maxHeartbeats 8000000 in
theorem law2_own (a1 a2 : Option Addr) (l1 c1 l2 c2 : Nat) (k r v l lo hi st now : Int) (w : World) (fs : StFit k r l) (f : LiFit lo hi st) (hn0 : lo ≤ now) (hn1 : now ≤ hi) :
    Calls Try.prog 51 #[.agg #[.slice a1 l1 c1, .slice a2 l2 c2, .int .i64 k, .int .i64 r, .int .i64 v, .int .i64 l, .int .i64 lo, .int .i64 hi, .int .i64 st, .int .i64 now], .int .i64 2] w fun e w' => ∃ g g1 h1 g2 h2, e = .returned (.tuple #[.int .i64 (10 * k), .slice (some ⟨g, 0, none⟩) 2 2]) ∧ (∃ base, Lim2 w' base g g1 h1 g2 h2 lo hi (now - st) (now + st)) ∧ Below w.heap.size w w' := by
  go_enter Try.func51, Try.ntmps51
  go_wp2_with fail
  refine (direct_own a1 a2 l1 c1 l2 c2 k r v l lo hi st now _ fs f hn0 hn1).mono ?_
  rintro e w3 ⟨g, g1, h1, g2, h2, rfl, P, b⟩
  have P := hide P
  have B9 : Hid (Below w.heap.size w w3) := hide (below_thru (by repeat (first | exact Below.refl _ _ | refine Below.setCell ?_ (by simp; try omega) _ | refine Below.alloc ?_ (by simp; try omega) _)) b)
  clear b
  go_wp2_with fail
  go_ret2
  exact ⟨g, g1, h1, g2, h2, rfl, unhide P, unhide B9⟩

end Go.Proofs.Ytbaocifpifbldad

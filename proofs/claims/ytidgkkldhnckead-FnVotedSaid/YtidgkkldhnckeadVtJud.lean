/-
  What the program's laneJudged and judged answer: a lane that is odd counted, and out when it was odd so often; the five lanes so judged. Where the numbers are within their bounds; nothing that was there is written.
-/
import Derived.Test.YtidgkkldhnckeadVtHeard
import Derived.Test.YtidgkkldhnckeadWhole
import Derived.Test.YtidgkkldhnckeadSmall
namespace Go.Proofs.Ytidgkkldhnckead
open Go.RowKit

/-- A lane's count and whether it is out, behind a round that came with the middle value x. -/
def jdD (n h : Int) (o : Bool) (d s x : Int) : Int := if o = true then d else if inB s (x - n) (x + n) = true then 0 else min (d + 1) h
def jdO (n h : Int) (o : Bool) (d s x : Int) : Bool := if o = true then true else if inB s (x - n) (x + n) = true then false else (min (d + 1) h == h)

set_option maxRecDepth 20000 in
set_option maxHeartbeats 4000000 in
theorem laneJudged_any (n h : Int) (o0 : Bool) (d0 s0 : Int) (o1 : Bool) (d1 s1 : Int) (o2 : Bool) (d2 s2 : Int) (o3 : Bool) (d3 s3 : Int) (o4 : Bool) (d4 s4 : Int) (d s x : Int) (w : World) (hn : 0 ≤ n ∧ n ≤ 1000) (hx : -1000000 ≤ x ∧ x ≤ 1000000) (hd : 0 ≤ d ∧ d ≤ h) (hh : h ≤ 20) :
    Calls Try.prog 70 #[.agg #[.int .i64 n, .int .i64 h, .bool o0, .int .i64 d0, .int .i64 s0, .bool o1, .int .i64 d1, .int .i64 s1, .bool o2, .int .i64 d2, .int .i64 s2, .bool o3, .int .i64 d3, .int .i64 s3, .bool o4, .int .i64 d4, .int .i64 s4], .agg #[.bool false, .int .i64 d, .int .i64 s], .int .i64 x] w fun e w' => e = .returned (.agg #[.bool (jdO n h false d s x), .int .i64 (jdD n h false d s x), .int .i64 s]) ∧ Below w.heap.size w w' := by
  obtain ⟨hd0, hd1⟩ := hd
  obtain ⟨hn0, hn1⟩ := hn
  obtain ⟨hx0, hx1⟩ := hx
  cases hin : inB s (x - n) (x + n) with
  | true =>
    have e1 : jdO n h false d s x = false := by simp [jdO, hin]
    have e2 : jdD n h false d s x = 0 := by simp [jdD, hin]
    rw [e1, e2]
    clear e1 e2
    go_enter Try.func70, Try.ntmps70
    go_wp2_with (go_at_call 33; refine (within_is _ _ _ _ hin).mono ?_; rintro e w' ⟨rfl, hw⟩; subst w')
    refine bodyPost_ret (v := .agg #[.bool false, .int .i64 0, .int .i64 s]) (by simp [results, Try.results70, go_sem, *]) rfl ⟨rfl, ?_⟩
    repeat (first | exact Below.refl _ _ | refine Below.setCell ?_ (by simp; try omega) _ | refine Below.alloc ?_ (by simp; try omega) _)
  | false =>
    by_cases hc : d + 1 < h
    · have e1 : jdO n h false d s x = false := by simp [jdO, hin]; omega
      have e2 : jdD n h false d s x = d + 1 := by simp [jdD, hin]; omega
      rw [e1, e2]
      have hq : ((d + 1) == h) = false := by simp; omega
      have hc2 : ¬ h < d + 1 := by omega
      clear e1 e2
      go_enter Try.func70, Try.ntmps70
      go_wp2_with (go_at_call 33; refine (within_is _ _ _ _ hin).mono ?_; rintro e w' ⟨rfl, hw⟩; subst w')
      refine bodyPost_ret (v := .agg #[.bool false, .int .i64 (d + 1), .int .i64 s]) (by simp [results, Try.results70, go_sem, *] <;> omega) rfl ⟨rfl, ?_⟩
      repeat (first | exact Below.refl _ _ | refine Below.setCell ?_ (by simp; try omega) _ | refine Below.alloc ?_ (by simp; try omega) _)
    · have e1 : jdO n h false d s x = true := by simp [jdO, hin]; omega
      have e2 : jdD n h false d s x = h := by simp [jdD, hin]; omega
      rw [e1, e2]
      clear e1 e2
      by_cases hc2 : h < d + 1
      · have hq : (h == h) = true := by simp
        go_enter Try.func70, Try.ntmps70
        go_wp2_with (go_at_call 33; refine (within_is _ _ _ _ hin).mono ?_; rintro e w' ⟨rfl, hw⟩; subst w')
        refine bodyPost_ret (v := .agg #[.bool true, .int .i64 h, .int .i64 s]) (by simp [results, Try.results70, go_sem, *] <;> omega) rfl ⟨rfl, ?_⟩
        repeat (first | exact Below.refl _ _ | refine Below.setCell ?_ (by simp; try omega) _ | refine Below.alloc ?_ (by simp; try omega) _)
      · obtain rfl : h = d + 1 := by omega
        have hq : ((d + 1) == (d + 1)) = true := by simp
        go_enter Try.func70, Try.ntmps70
        go_wp2_with (go_at_call 33; refine (within_is _ _ _ _ hin).mono ?_; rintro e w' ⟨rfl, hw⟩; subst w')
        refine bodyPost_ret (v := .agg #[.bool true, .int .i64 (d + 1), .int .i64 s]) (by simp [results, Try.results70, go_sem, *]) rfl ⟨rfl, ?_⟩
        repeat (first | exact Below.refl _ _ | refine Below.setCell ?_ (by simp; try omega) _ | refine Below.alloc ?_ (by simp; try omega) _)
attribute [local go_sem high] run_lane0 run_lane1 run_lane2 run_lane3 run_lane4
def jdAt (n h x : Int) (o0 : Bool) (d0 s0 : Int) (o1 : Bool) (d1 s1 : Int) (o2 : Bool) (d2 s2 : Int) (o3 : Bool) (d3 s3 : Int) (o4 : Bool) (d4 s4 : Int) : Nat → List Value
  | 0 => [.int .i64 n, .int .i64 h, .bool o0, .int .i64 d0, .int .i64 s0, .bool o1, .int .i64 d1, .int .i64 s1, .bool o2, .int .i64 d2, .int .i64 s2, .bool o3, .int .i64 d3, .int .i64 s3, .bool o4, .int .i64 d4, .int .i64 s4]
  | 1 => [.int .i64 n, .int .i64 h, .bool (jdO n h o0 d0 s0 x), .int .i64 (jdD n h o0 d0 s0 x), .int .i64 s0, .bool o1, .int .i64 d1, .int .i64 s1, .bool o2, .int .i64 d2, .int .i64 s2, .bool o3, .int .i64 d3, .int .i64 s3, .bool o4, .int .i64 d4, .int .i64 s4]
  | 2 => [.int .i64 n, .int .i64 h, .bool (jdO n h o0 d0 s0 x), .int .i64 (jdD n h o0 d0 s0 x), .int .i64 s0, .bool (jdO n h o1 d1 s1 x), .int .i64 (jdD n h o1 d1 s1 x), .int .i64 s1, .bool o2, .int .i64 d2, .int .i64 s2, .bool o3, .int .i64 d3, .int .i64 s3, .bool o4, .int .i64 d4, .int .i64 s4]
  | 3 => [.int .i64 n, .int .i64 h, .bool (jdO n h o0 d0 s0 x), .int .i64 (jdD n h o0 d0 s0 x), .int .i64 s0, .bool (jdO n h o1 d1 s1 x), .int .i64 (jdD n h o1 d1 s1 x), .int .i64 s1, .bool (jdO n h o2 d2 s2 x), .int .i64 (jdD n h o2 d2 s2 x), .int .i64 s2, .bool o3, .int .i64 d3, .int .i64 s3, .bool o4, .int .i64 d4, .int .i64 s4]
  | 4 => [.int .i64 n, .int .i64 h, .bool (jdO n h o0 d0 s0 x), .int .i64 (jdD n h o0 d0 s0 x), .int .i64 s0, .bool (jdO n h o1 d1 s1 x), .int .i64 (jdD n h o1 d1 s1 x), .int .i64 s1, .bool (jdO n h o2 d2 s2 x), .int .i64 (jdD n h o2 d2 s2 x), .int .i64 s2, .bool (jdO n h o3 d3 s3 x), .int .i64 (jdD n h o3 d3 s3 x), .int .i64 s3, .bool o4, .int .i64 d4, .int .i64 s4]
  | _ => [.int .i64 n, .int .i64 h, .bool (jdO n h o0 d0 s0 x), .int .i64 (jdD n h o0 d0 s0 x), .int .i64 s0, .bool (jdO n h o1 d1 s1 x), .int .i64 (jdD n h o1 d1 s1 x), .int .i64 s1, .bool (jdO n h o2 d2 s2 x), .int .i64 (jdD n h o2 d2 s2 x), .int .i64 s2, .bool (jdO n h o3 d3 s3 x), .int .i64 (jdD n h o3 d3 s3 x), .int .i64 s3, .bool (jdO n h o4 d4 s4 x), .int .i64 (jdD n h o4 d4 s4 x), .int .i64 s4]

/-- What lies at the head of a round. -/
structure Jud (w wr : World) (n h x : Int) (o0 : Bool) (d0 s0 : Int) (o1 : Bool) (d1 s1 : Int) (o2 : Bool) (d2 s2 : Int) (o3 : Bool) (d3 s3 : Int) (o4 : Bool) (d4 s4 : Int) (k : Nat) : Prop where
  p : Blk wr w.heap.size [.int .i64 n, .int .i64 h, .bool o0, .int .i64 d0, .int .i64 s0, .bool o1, .int .i64 d1, .int .i64 s1, .bool o2, .int .i64 d2, .int .i64 s2, .bool o3, .int .i64 d3, .int .i64 s3, .bool o4, .int .i64 d4, .int .i64 s4]
  r : Blk wr (w.heap.size + 1) [.int .i64 0, .int .i64 0, .bool false, .int .i64 0, .int .i64 0, .bool false, .int .i64 0, .int .i64 0, .bool false, .int .i64 0, .int .i64 0, .bool false, .int .i64 0, .int .i64 0, .bool false, .int .i64 0, .int .i64 0]
  a : Blk wr (w.heap.size + 1 + 1) (jdAt n h x o0 d0 s0 o1 d1 s1 o2 d2 s2 o3 d3 s3 o4 d4 s4 k)
  b : Below w.heap.size w wr
theorem Jud.below {w wr w2 : World} {n h x : Int} {o0 : Bool} {d0 s0 : Int} {o1 : Bool} {d1 s1 : Int} {o2 : Bool} {d2 s2 : Int} {o3 : Bool} {d3 s3 : Int} {o4 : Bool} {d4 s4 : Int} {k : Nat} (H : Jud w wr n h x o0 d0 s0 o1 d1 s1 o2 d2 s2 o3 d3 s3 o4 d4 s4 k) (b : Below wr.heap.size wr w2) : Jud w w2 n h x o0 d0 s0 o1 d1 s1 o2 d2 s2 o3 d3 s3 o4 d4 s4 k :=
  ⟨H.p.below b, H.r.below b, H.a.below b, H.b.trans (b.mono H.b.size)⟩

set_option maxRecDepth 20000 in
set_option maxHeartbeats 8000000 in
theorem judged_any (n h : Int) (o0 : Bool) (d0 s0 : Int) (o1 : Bool) (d1 s1 : Int) (o2 : Bool) (d2 s2 : Int) (o3 : Bool) (d3 s3 : Int) (o4 : Bool) (d4 s4 : Int) (x : Int) (w : World) (hn : 0 ≤ n ∧ n ≤ 1000) (hx : -1000000 ≤ x ∧ x ≤ 1000000) (hh : h ≤ 20) (e0 : o0 = false → 0 ≤ d0 ∧ d0 ≤ h) (e1 : o1 = false → 0 ≤ d1 ∧ d1 ≤ h) (e2 : o2 = false → 0 ≤ d2 ∧ d2 ≤ h) (e3 : o3 = false → 0 ≤ d3 ∧ d3 ≤ h) (e4 : o4 = false → 0 ≤ d4 ∧ d4 ≤ h) :
    Calls Try.prog 39 #[.agg #[.int .i64 n, .int .i64 h, .bool o0, .int .i64 d0, .int .i64 s0, .bool o1, .int .i64 d1, .int .i64 s1, .bool o2, .int .i64 d2, .int .i64 s2, .bool o3, .int .i64 d3, .int .i64 s3, .bool o4, .int .i64 d4, .int .i64 s4], .int .i64 x] w fun e w' => e = .returned (.agg #[.int .i64 n, .int .i64 h, .bool (jdO n h o0 d0 s0 x), .int .i64 (jdD n h o0 d0 s0 x), .int .i64 s0, .bool (jdO n h o1 d1 s1 x), .int .i64 (jdD n h o1 d1 s1 x), .int .i64 s1, .bool (jdO n h o2 d2 s2 x), .int .i64 (jdD n h o2 d2 s2 x), .int .i64 s2, .bool (jdO n h o3 d3 s3 x), .int .i64 (jdD n h o3 d3 s3 x), .int .i64 s3, .bool (jdO n h o4 d4 s4 x), .int .i64 (jdD n h o4 d4 s4 x), .int .i64 s4]) ∧ Below w.heap.size w w' := by
  obtain ⟨W, hW⟩ : ∃ W, W = ((w.alloc (Obj.cells #[.int .i64 n, .int .i64 h, .bool o0, .int .i64 d0, .int .i64 s0, .bool o1, .int .i64 d1, .int .i64 s1, .bool o2, .int .i64 d2, .int .i64 s2, .bool o3, .int .i64 d3, .int .i64 s3, .bool o4, .int .i64 d4, .int .i64 s4] 81)).alloc (Obj.cells #[.int .i64 0, .int .i64 0, .bool false, .int .i64 0, .int .i64 0, .bool false, .int .i64 0, .int .i64 0, .bool false, .int .i64 0, .int .i64 0, .bool false, .int .i64 0, .int .i64 0, .bool false, .int .i64 0, .int .i64 0] 81)).alloc (Obj.cells #[.int .i64 n, .int .i64 h, .bool o0, .int .i64 d0, .int .i64 s0, .bool o1, .int .i64 d1, .int .i64 s1, .bool o2, .int .i64 d2, .int .i64 s2, .bool o3, .int .i64 d3, .int .i64 s3, .bool o4, .int .i64 d4, .int .i64 s4] 81) := ⟨_, rfl⟩
  have S0 : Hid (Jud w W n h x o0 d0 s0 o1 d1 s1 o2 d2 s2 o3 d3 s3 o4 d4 s4 0) := hide (by
    rw [hW]
    refine ⟨((Blk.new (w := w) [.int .i64 n, .int .i64 h, .bool o0, .int .i64 d0, .int .i64 s0, .bool o1, .int .i64 d1, .int .i64 s1, .bool o2, .int .i64 d2, .int .i64 s2, .bool o3, .int .i64 d3, .int .i64 s3, .bool o4, .int .i64 d4, .int .i64 s4] 81).alloc _).alloc _, ?_, ?_, bel3 _ _ _⟩
    · have := (Blk.new (w := w.alloc (Obj.cells #[.int .i64 n, .int .i64 h, .bool o0, .int .i64 d0, .int .i64 s0, .bool o1, .int .i64 d1, .int .i64 s1, .bool o2, .int .i64 d2, .int .i64 s2, .bool o3, .int .i64 d3, .int .i64 s3, .bool o4, .int .i64 d4, .int .i64 s4] 81)) [.int .i64 0, .int .i64 0, .bool false, .int .i64 0, .int .i64 0, .bool false, .int .i64 0, .int .i64 0, .bool false, .int .i64 0, .int .i64 0, .bool false, .int .i64 0, .int .i64 0, .bool false, .int .i64 0, .int .i64 0] 81).alloc (Obj.cells #[.int .i64 n, .int .i64 h, .bool o0, .int .i64 d0, .int .i64 s0, .bool o1, .int .i64 d1, .int .i64 s1, .bool o2, .int .i64 d2, .int .i64 s2, .bool o3, .int .i64 d3, .int .i64 s3, .bool o4, .int .i64 d4, .int .i64 s4] 81)
      simpa using this
    · have := Blk.new (w := (w.alloc (Obj.cells #[.int .i64 n, .int .i64 h, .bool o0, .int .i64 d0, .int .i64 s0, .bool o1, .int .i64 d1, .int .i64 s1, .bool o2, .int .i64 d2, .int .i64 s2, .bool o3, .int .i64 d3, .int .i64 s3, .bool o4, .int .i64 d4, .int .i64 s4] 81)).alloc (Obj.cells #[.int .i64 0, .int .i64 0, .bool false, .int .i64 0, .int .i64 0, .bool false, .int .i64 0, .int .i64 0, .bool false, .int .i64 0, .int .i64 0, .bool false, .int .i64 0, .int .i64 0, .bool false, .int .i64 0, .int .i64 0] 81)) [.int .i64 n, .int .i64 h, .bool o0, .int .i64 d0, .int .i64 s0, .bool o1, .int .i64 d1, .int .i64 s1, .bool o2, .int .i64 d2, .int .i64 s2, .bool o3, .int .i64 d3, .int .i64 s3, .bool o4, .int .i64 d4, .int .i64 s4] 81
      simpa [jdAt] using this)
  have HW := hide hW
  have HN := hide hn
  have HX := hide hx
  have HH := hide hh
  have E0 := hide e0
  have E1 := hide e1
  have E2 := hide e2
  have E3 := hide e3
  have E4 := hide e4
  clear hW hn hx hh e0 e1 e2 e3 e4
  go_enter Try.func39, Try.ntmps39
  go_wp2_with fail
  rw [← unhide HW]
  clear HW
  go_loopw [11] (fun i wr => ∃ k : Nat, i = .int .i64 (k : Int) ∧ k ≤ 5 ∧ Jud w wr n h x o0 d0 s0 o1 d1 s1 o2 d2 s2 o3 d3 s3 o4 d4 s4 k) (fun i _ => 5 - (intOf i).toNat)
  case atStart => exact ⟨0, rfl, by omega, unhide S0⟩
  case round =>
    clear S0
    obtain ⟨k, rfl, hk, hs⟩ := hrel
    have HS := hide hs
    clear hs
    by_cases hk5 : k < 5
    · rcases (show k = 0 ∨ k = 1 ∨ k = 2 ∨ k = 3 ∨ k = 4 by omega) with hj | hj | hj | hj | hj
      · skip
        subst hj
        clear hk hk5
        cases o0 with
        | true =>
          have NX : Hid (Jud w (wr.alloc (Obj.cells #[.bool true, .int .i64 d0, .int .i64 s0] 78)) n h x true d0 s0 o1 d1 s1 o2 d2 s2 o3 d3 s3 o4 d4 s4 (0 + 1)) := hide (by
            have q := (unhide HS).below (bel1 (Obj.cells #[.bool true, .int .i64 d0, .int .i64 s0] 78))
            exact ⟨q.p, q.r, q.a, q.b⟩)
          clear HS
          go_wp2_with fail
          go_roundw
          case rel => exact ⟨0 + 1, rfl, by omega, unhide NX⟩
          case measure => simp [intOf]
        | false =>
          obtain ⟨V, hV⟩ : ∃ V, V = wr.alloc (Obj.cells #[.bool false, .int .i64 d0, .int .i64 s0] 78) := ⟨_, rfl⟩
          have SV : Hid (Jud w V n h x false d0 s0 o1 d1 s1 o2 d2 s2 o3 d3 s3 o4 d4 s4 0) := hide (by rw [hV]; exact (unhide HS).below (bel1 _))
          have PV : Hid (Blk (wr.alloc (Obj.cells #[.bool false, .int .i64 d0, .int .i64 s0] 78)) w.heap.size [.int .i64 n, .int .i64 h, .bool false, .int .i64 d0, .int .i64 s0, .bool o1, .int .i64 d1, .int .i64 s1, .bool o2, .int .i64 d2, .int .i64 s2, .bool o3, .int .i64 d3, .int .i64 s3, .bool o4, .int .i64 d4, .int .i64 s4]) := hide (by rw [← hV]; exact (unhide SV).p)
          have HV := hide hV
          clear hV HS
          go_wp2_with ((with_reducible show wpList _ _ _ (⟨_, .load 81 _, _, _, _, none⟩ :: _) _ _); refine at_loadAgg (vs := [.int .i64 n, .int .i64 h, .bool false, .int .i64 d0, .int .i64 s0, .bool o1, .int .i64 d1, .int .i64 s1, .bool o2, .int .i64 d2, .int .i64 s2, .bool o3, .int .i64 d3, .int .i64 s3, .bool o4, .int .i64 d4, .int .i64 s4]) Try.isAgg81 Try.sizeOf81 rfl (unhide PV) ?_)
          rw [← unhide HV]
          clear HV PV
          refine (laneJudged_any n h false d0 s0 o1 d1 s1 o2 d2 s2 o3 d3 s3 o4 d4 s4 d0 s0 x V (unhide HN) (unhide HX) ((unhide E0) (by first | rfl | trivial)) (unhide HH)).mono ?_
          rintro e w2 ⟨rfl, b⟩
          have S2 := (unhide SV).below b
          have q0 : w2.cell? ⟨w.heap.size + 1 + 1, 2, none⟩ = some (.bool false) := S2.a.c 2 (by simp [jdAt])
          have q1 : w2.cell? ⟨w.heap.size + 1 + 1, 2 + 1, none⟩ = some (.int .i64 d0) := S2.a.c (2 + 1) (by simp [jdAt])
          have q2 : w2.cell? ⟨w.heap.size + 1 + 1, 2 + 2, none⟩ = some (.int .i64 s0) := S2.a.c (2 + 2) (by simp [jdAt])
          have g0 : w2.frozen? ⟨w.heap.size + 1 + 1, 2, none⟩ = false := S2.a.f 2 (by simp [jdAt])
          have g1 : w2.frozen? ⟨w.heap.size + 1 + 1, 2 + 1, none⟩ = false := S2.a.f (2 + 1) (by simp [jdAt])
          have g2 : w2.frozen? ⟨w.heap.size + 1 + 1, 2 + 2, none⟩ = false := S2.a.f (2 + 2) (by simp [jdAt])
          obtain ⟨O, hO⟩ : ∃ O, jdO n h false d0 s0 x = O := ⟨_, rfl⟩
          obtain ⟨Dd, hD⟩ : ∃ Dd, jdD n h false d0 s0 x = Dd := ⟨_, rfl⟩
          have NX : Hid (Jud w (((w2.setCell ⟨w.heap.size + 1 + 1, 2, none⟩ (.bool O)).setCell ⟨w.heap.size + 1 + 1, 2 + 1, none⟩ (.int .i64 Dd)).setCell ⟨w.heap.size + 1 + 1, 2 + 2, none⟩ (.int .i64 s0)) n h x false d0 s0 o1 d1 s1 o2 d2 s2 o3 d3 s3 o4 d4 s4 (0 + 1)) := hide (by
            rw [← hO, ← hD]
            refine ⟨((S2.p.other (by first | (simp; done) | (simp; omega)) _).other (by first | (simp; done) | (simp; omega)) _).other (by first | (simp; done) | (simp; omega)) _, ((S2.r.other (by first | (simp; done) | (simp; omega)) _).other (by first | (simp; done) | (simp; omega)) _).other (by first | (simp; done) | (simp; omega)) _, ?_, ?_⟩
            · exact (((S2.a.set 2 (by simp [jdAt]) _).set (2 + 1) (by simp [jdAt]) _).set (2 + 2) (by simp [jdAt]) _)
            · exact ((S2.b.setCell (by simp; omega) _).setCell (by simp; omega) _).setCell (by simp; omega) _)
          rw [hO, hD]
          clear SV S2 b hO hD
          go_wp2_with fail
          go_roundw
          case rel => exact ⟨0 + 1, rfl, by omega, unhide NX⟩
          case measure => simp [intOf]
      · skip
        subst hj
        clear hk hk5
        cases o1 with
        | true =>
          have NX : Hid (Jud w (wr.alloc (Obj.cells #[.bool true, .int .i64 d1, .int .i64 s1] 78)) n h x o0 d0 s0 true d1 s1 o2 d2 s2 o3 d3 s3 o4 d4 s4 (1 + 1)) := hide (by
            have q := (unhide HS).below (bel1 (Obj.cells #[.bool true, .int .i64 d1, .int .i64 s1] 78))
            exact ⟨q.p, q.r, q.a, q.b⟩)
          clear HS
          go_wp2_with fail
          go_roundw
          case rel => exact ⟨1 + 1, rfl, by omega, unhide NX⟩
          case measure => simp [intOf]
        | false =>
          obtain ⟨V, hV⟩ : ∃ V, V = wr.alloc (Obj.cells #[.bool false, .int .i64 d1, .int .i64 s1] 78) := ⟨_, rfl⟩
          have SV : Hid (Jud w V n h x o0 d0 s0 false d1 s1 o2 d2 s2 o3 d3 s3 o4 d4 s4 1) := hide (by rw [hV]; exact (unhide HS).below (bel1 _))
          have PV : Hid (Blk (wr.alloc (Obj.cells #[.bool false, .int .i64 d1, .int .i64 s1] 78)) w.heap.size [.int .i64 n, .int .i64 h, .bool o0, .int .i64 d0, .int .i64 s0, .bool false, .int .i64 d1, .int .i64 s1, .bool o2, .int .i64 d2, .int .i64 s2, .bool o3, .int .i64 d3, .int .i64 s3, .bool o4, .int .i64 d4, .int .i64 s4]) := hide (by rw [← hV]; exact (unhide SV).p)
          have HV := hide hV
          clear hV HS
          go_wp2_with ((with_reducible show wpList _ _ _ (⟨_, .load 81 _, _, _, _, none⟩ :: _) _ _); refine at_loadAgg (vs := [.int .i64 n, .int .i64 h, .bool o0, .int .i64 d0, .int .i64 s0, .bool false, .int .i64 d1, .int .i64 s1, .bool o2, .int .i64 d2, .int .i64 s2, .bool o3, .int .i64 d3, .int .i64 s3, .bool o4, .int .i64 d4, .int .i64 s4]) Try.isAgg81 Try.sizeOf81 rfl (unhide PV) ?_)
          rw [← unhide HV]
          clear HV PV
          refine (laneJudged_any n h o0 d0 s0 false d1 s1 o2 d2 s2 o3 d3 s3 o4 d4 s4 d1 s1 x V (unhide HN) (unhide HX) ((unhide E1) (by first | rfl | trivial)) (unhide HH)).mono ?_
          rintro e w2 ⟨rfl, b⟩
          have S2 := (unhide SV).below b
          have q0 : w2.cell? ⟨w.heap.size + 1 + 1, 5, none⟩ = some (.bool false) := S2.a.c 5 (by simp [jdAt])
          have q1 : w2.cell? ⟨w.heap.size + 1 + 1, 5 + 1, none⟩ = some (.int .i64 d1) := S2.a.c (5 + 1) (by simp [jdAt])
          have q2 : w2.cell? ⟨w.heap.size + 1 + 1, 5 + 2, none⟩ = some (.int .i64 s1) := S2.a.c (5 + 2) (by simp [jdAt])
          have g0 : w2.frozen? ⟨w.heap.size + 1 + 1, 5, none⟩ = false := S2.a.f 5 (by simp [jdAt])
          have g1 : w2.frozen? ⟨w.heap.size + 1 + 1, 5 + 1, none⟩ = false := S2.a.f (5 + 1) (by simp [jdAt])
          have g2 : w2.frozen? ⟨w.heap.size + 1 + 1, 5 + 2, none⟩ = false := S2.a.f (5 + 2) (by simp [jdAt])
          obtain ⟨O, hO⟩ : ∃ O, jdO n h false d1 s1 x = O := ⟨_, rfl⟩
          obtain ⟨Dd, hD⟩ : ∃ Dd, jdD n h false d1 s1 x = Dd := ⟨_, rfl⟩
          have NX : Hid (Jud w (((w2.setCell ⟨w.heap.size + 1 + 1, 5, none⟩ (.bool O)).setCell ⟨w.heap.size + 1 + 1, 5 + 1, none⟩ (.int .i64 Dd)).setCell ⟨w.heap.size + 1 + 1, 5 + 2, none⟩ (.int .i64 s1)) n h x o0 d0 s0 false d1 s1 o2 d2 s2 o3 d3 s3 o4 d4 s4 (1 + 1)) := hide (by
            rw [← hO, ← hD]
            refine ⟨((S2.p.other (by first | (simp; done) | (simp; omega)) _).other (by first | (simp; done) | (simp; omega)) _).other (by first | (simp; done) | (simp; omega)) _, ((S2.r.other (by first | (simp; done) | (simp; omega)) _).other (by first | (simp; done) | (simp; omega)) _).other (by first | (simp; done) | (simp; omega)) _, ?_, ?_⟩
            · exact (((S2.a.set 5 (by simp [jdAt]) _).set (5 + 1) (by simp [jdAt]) _).set (5 + 2) (by simp [jdAt]) _)
            · exact ((S2.b.setCell (by simp; omega) _).setCell (by simp; omega) _).setCell (by simp; omega) _)
          rw [hO, hD]
          clear SV S2 b hO hD
          go_wp2_with fail
          go_roundw
          case rel => exact ⟨1 + 1, rfl, by omega, unhide NX⟩
          case measure => simp [intOf]
      · skip
        subst hj
        clear hk hk5
        cases o2 with
        | true =>
          have NX : Hid (Jud w (wr.alloc (Obj.cells #[.bool true, .int .i64 d2, .int .i64 s2] 78)) n h x o0 d0 s0 o1 d1 s1 true d2 s2 o3 d3 s3 o4 d4 s4 (2 + 1)) := hide (by
            have q := (unhide HS).below (bel1 (Obj.cells #[.bool true, .int .i64 d2, .int .i64 s2] 78))
            exact ⟨q.p, q.r, q.a, q.b⟩)
          clear HS
          go_wp2_with fail
          go_roundw
          case rel => exact ⟨2 + 1, rfl, by omega, unhide NX⟩
          case measure => simp [intOf]
        | false =>
          obtain ⟨V, hV⟩ : ∃ V, V = wr.alloc (Obj.cells #[.bool false, .int .i64 d2, .int .i64 s2] 78) := ⟨_, rfl⟩
          have SV : Hid (Jud w V n h x o0 d0 s0 o1 d1 s1 false d2 s2 o3 d3 s3 o4 d4 s4 2) := hide (by rw [hV]; exact (unhide HS).below (bel1 _))
          have PV : Hid (Blk (wr.alloc (Obj.cells #[.bool false, .int .i64 d2, .int .i64 s2] 78)) w.heap.size [.int .i64 n, .int .i64 h, .bool o0, .int .i64 d0, .int .i64 s0, .bool o1, .int .i64 d1, .int .i64 s1, .bool false, .int .i64 d2, .int .i64 s2, .bool o3, .int .i64 d3, .int .i64 s3, .bool o4, .int .i64 d4, .int .i64 s4]) := hide (by rw [← hV]; exact (unhide SV).p)
          have HV := hide hV
          clear hV HS
          go_wp2_with ((with_reducible show wpList _ _ _ (⟨_, .load 81 _, _, _, _, none⟩ :: _) _ _); refine at_loadAgg (vs := [.int .i64 n, .int .i64 h, .bool o0, .int .i64 d0, .int .i64 s0, .bool o1, .int .i64 d1, .int .i64 s1, .bool false, .int .i64 d2, .int .i64 s2, .bool o3, .int .i64 d3, .int .i64 s3, .bool o4, .int .i64 d4, .int .i64 s4]) Try.isAgg81 Try.sizeOf81 rfl (unhide PV) ?_)
          rw [← unhide HV]
          clear HV PV
          refine (laneJudged_any n h o0 d0 s0 o1 d1 s1 false d2 s2 o3 d3 s3 o4 d4 s4 d2 s2 x V (unhide HN) (unhide HX) ((unhide E2) (by first | rfl | trivial)) (unhide HH)).mono ?_
          rintro e w2 ⟨rfl, b⟩
          have S2 := (unhide SV).below b
          have q0 : w2.cell? ⟨w.heap.size + 1 + 1, 8, none⟩ = some (.bool false) := S2.a.c 8 (by simp [jdAt])
          have q1 : w2.cell? ⟨w.heap.size + 1 + 1, 8 + 1, none⟩ = some (.int .i64 d2) := S2.a.c (8 + 1) (by simp [jdAt])
          have q2 : w2.cell? ⟨w.heap.size + 1 + 1, 8 + 2, none⟩ = some (.int .i64 s2) := S2.a.c (8 + 2) (by simp [jdAt])
          have g0 : w2.frozen? ⟨w.heap.size + 1 + 1, 8, none⟩ = false := S2.a.f 8 (by simp [jdAt])
          have g1 : w2.frozen? ⟨w.heap.size + 1 + 1, 8 + 1, none⟩ = false := S2.a.f (8 + 1) (by simp [jdAt])
          have g2 : w2.frozen? ⟨w.heap.size + 1 + 1, 8 + 2, none⟩ = false := S2.a.f (8 + 2) (by simp [jdAt])
          obtain ⟨O, hO⟩ : ∃ O, jdO n h false d2 s2 x = O := ⟨_, rfl⟩
          obtain ⟨Dd, hD⟩ : ∃ Dd, jdD n h false d2 s2 x = Dd := ⟨_, rfl⟩
          have NX : Hid (Jud w (((w2.setCell ⟨w.heap.size + 1 + 1, 8, none⟩ (.bool O)).setCell ⟨w.heap.size + 1 + 1, 8 + 1, none⟩ (.int .i64 Dd)).setCell ⟨w.heap.size + 1 + 1, 8 + 2, none⟩ (.int .i64 s2)) n h x o0 d0 s0 o1 d1 s1 false d2 s2 o3 d3 s3 o4 d4 s4 (2 + 1)) := hide (by
            rw [← hO, ← hD]
            refine ⟨((S2.p.other (by first | (simp; done) | (simp; omega)) _).other (by first | (simp; done) | (simp; omega)) _).other (by first | (simp; done) | (simp; omega)) _, ((S2.r.other (by first | (simp; done) | (simp; omega)) _).other (by first | (simp; done) | (simp; omega)) _).other (by first | (simp; done) | (simp; omega)) _, ?_, ?_⟩
            · exact (((S2.a.set 8 (by simp [jdAt]) _).set (8 + 1) (by simp [jdAt]) _).set (8 + 2) (by simp [jdAt]) _)
            · exact ((S2.b.setCell (by simp; omega) _).setCell (by simp; omega) _).setCell (by simp; omega) _)
          rw [hO, hD]
          clear SV S2 b hO hD
          go_wp2_with fail
          go_roundw
          case rel => exact ⟨2 + 1, rfl, by omega, unhide NX⟩
          case measure => simp [intOf]
      · skip
        subst hj
        clear hk hk5
        cases o3 with
        | true =>
          have NX : Hid (Jud w (wr.alloc (Obj.cells #[.bool true, .int .i64 d3, .int .i64 s3] 78)) n h x o0 d0 s0 o1 d1 s1 o2 d2 s2 true d3 s3 o4 d4 s4 (3 + 1)) := hide (by
            have q := (unhide HS).below (bel1 (Obj.cells #[.bool true, .int .i64 d3, .int .i64 s3] 78))
            exact ⟨q.p, q.r, q.a, q.b⟩)
          clear HS
          go_wp2_with fail
          go_roundw
          case rel => exact ⟨3 + 1, rfl, by omega, unhide NX⟩
          case measure => simp [intOf]
        | false =>
          obtain ⟨V, hV⟩ : ∃ V, V = wr.alloc (Obj.cells #[.bool false, .int .i64 d3, .int .i64 s3] 78) := ⟨_, rfl⟩
          have SV : Hid (Jud w V n h x o0 d0 s0 o1 d1 s1 o2 d2 s2 false d3 s3 o4 d4 s4 3) := hide (by rw [hV]; exact (unhide HS).below (bel1 _))
          have PV : Hid (Blk (wr.alloc (Obj.cells #[.bool false, .int .i64 d3, .int .i64 s3] 78)) w.heap.size [.int .i64 n, .int .i64 h, .bool o0, .int .i64 d0, .int .i64 s0, .bool o1, .int .i64 d1, .int .i64 s1, .bool o2, .int .i64 d2, .int .i64 s2, .bool false, .int .i64 d3, .int .i64 s3, .bool o4, .int .i64 d4, .int .i64 s4]) := hide (by rw [← hV]; exact (unhide SV).p)
          have HV := hide hV
          clear hV HS
          go_wp2_with ((with_reducible show wpList _ _ _ (⟨_, .load 81 _, _, _, _, none⟩ :: _) _ _); refine at_loadAgg (vs := [.int .i64 n, .int .i64 h, .bool o0, .int .i64 d0, .int .i64 s0, .bool o1, .int .i64 d1, .int .i64 s1, .bool o2, .int .i64 d2, .int .i64 s2, .bool false, .int .i64 d3, .int .i64 s3, .bool o4, .int .i64 d4, .int .i64 s4]) Try.isAgg81 Try.sizeOf81 rfl (unhide PV) ?_)
          rw [← unhide HV]
          clear HV PV
          refine (laneJudged_any n h o0 d0 s0 o1 d1 s1 o2 d2 s2 false d3 s3 o4 d4 s4 d3 s3 x V (unhide HN) (unhide HX) ((unhide E3) (by first | rfl | trivial)) (unhide HH)).mono ?_
          rintro e w2 ⟨rfl, b⟩
          have S2 := (unhide SV).below b
          have q0 : w2.cell? ⟨w.heap.size + 1 + 1, 11, none⟩ = some (.bool false) := S2.a.c 11 (by simp [jdAt])
          have q1 : w2.cell? ⟨w.heap.size + 1 + 1, 11 + 1, none⟩ = some (.int .i64 d3) := S2.a.c (11 + 1) (by simp [jdAt])
          have q2 : w2.cell? ⟨w.heap.size + 1 + 1, 11 + 2, none⟩ = some (.int .i64 s3) := S2.a.c (11 + 2) (by simp [jdAt])
          have g0 : w2.frozen? ⟨w.heap.size + 1 + 1, 11, none⟩ = false := S2.a.f 11 (by simp [jdAt])
          have g1 : w2.frozen? ⟨w.heap.size + 1 + 1, 11 + 1, none⟩ = false := S2.a.f (11 + 1) (by simp [jdAt])
          have g2 : w2.frozen? ⟨w.heap.size + 1 + 1, 11 + 2, none⟩ = false := S2.a.f (11 + 2) (by simp [jdAt])
          obtain ⟨O, hO⟩ : ∃ O, jdO n h false d3 s3 x = O := ⟨_, rfl⟩
          obtain ⟨Dd, hD⟩ : ∃ Dd, jdD n h false d3 s3 x = Dd := ⟨_, rfl⟩
          have NX : Hid (Jud w (((w2.setCell ⟨w.heap.size + 1 + 1, 11, none⟩ (.bool O)).setCell ⟨w.heap.size + 1 + 1, 11 + 1, none⟩ (.int .i64 Dd)).setCell ⟨w.heap.size + 1 + 1, 11 + 2, none⟩ (.int .i64 s3)) n h x o0 d0 s0 o1 d1 s1 o2 d2 s2 false d3 s3 o4 d4 s4 (3 + 1)) := hide (by
            rw [← hO, ← hD]
            refine ⟨((S2.p.other (by first | (simp; done) | (simp; omega)) _).other (by first | (simp; done) | (simp; omega)) _).other (by first | (simp; done) | (simp; omega)) _, ((S2.r.other (by first | (simp; done) | (simp; omega)) _).other (by first | (simp; done) | (simp; omega)) _).other (by first | (simp; done) | (simp; omega)) _, ?_, ?_⟩
            · exact (((S2.a.set 11 (by simp [jdAt]) _).set (11 + 1) (by simp [jdAt]) _).set (11 + 2) (by simp [jdAt]) _)
            · exact ((S2.b.setCell (by simp; omega) _).setCell (by simp; omega) _).setCell (by simp; omega) _)
          rw [hO, hD]
          clear SV S2 b hO hD
          go_wp2_with fail
          go_roundw
          case rel => exact ⟨3 + 1, rfl, by omega, unhide NX⟩
          case measure => simp [intOf]
      · skip
        subst hj
        clear hk hk5
        cases o4 with
        | true =>
          have NX : Hid (Jud w (wr.alloc (Obj.cells #[.bool true, .int .i64 d4, .int .i64 s4] 78)) n h x o0 d0 s0 o1 d1 s1 o2 d2 s2 o3 d3 s3 true d4 s4 (4 + 1)) := hide (by
            have q := (unhide HS).below (bel1 (Obj.cells #[.bool true, .int .i64 d4, .int .i64 s4] 78))
            exact ⟨q.p, q.r, q.a, q.b⟩)
          clear HS
          go_wp2_with fail
          go_roundw
          case rel => exact ⟨4 + 1, rfl, by omega, unhide NX⟩
          case measure => simp [intOf]
        | false =>
          obtain ⟨V, hV⟩ : ∃ V, V = wr.alloc (Obj.cells #[.bool false, .int .i64 d4, .int .i64 s4] 78) := ⟨_, rfl⟩
          have SV : Hid (Jud w V n h x o0 d0 s0 o1 d1 s1 o2 d2 s2 o3 d3 s3 false d4 s4 4) := hide (by rw [hV]; exact (unhide HS).below (bel1 _))
          have PV : Hid (Blk (wr.alloc (Obj.cells #[.bool false, .int .i64 d4, .int .i64 s4] 78)) w.heap.size [.int .i64 n, .int .i64 h, .bool o0, .int .i64 d0, .int .i64 s0, .bool o1, .int .i64 d1, .int .i64 s1, .bool o2, .int .i64 d2, .int .i64 s2, .bool o3, .int .i64 d3, .int .i64 s3, .bool false, .int .i64 d4, .int .i64 s4]) := hide (by rw [← hV]; exact (unhide SV).p)
          have HV := hide hV
          clear hV HS
          go_wp2_with ((with_reducible show wpList _ _ _ (⟨_, .load 81 _, _, _, _, none⟩ :: _) _ _); refine at_loadAgg (vs := [.int .i64 n, .int .i64 h, .bool o0, .int .i64 d0, .int .i64 s0, .bool o1, .int .i64 d1, .int .i64 s1, .bool o2, .int .i64 d2, .int .i64 s2, .bool o3, .int .i64 d3, .int .i64 s3, .bool false, .int .i64 d4, .int .i64 s4]) Try.isAgg81 Try.sizeOf81 rfl (unhide PV) ?_)
          rw [← unhide HV]
          clear HV PV
          refine (laneJudged_any n h o0 d0 s0 o1 d1 s1 o2 d2 s2 o3 d3 s3 false d4 s4 d4 s4 x V (unhide HN) (unhide HX) ((unhide E4) (by first | rfl | trivial)) (unhide HH)).mono ?_
          rintro e w2 ⟨rfl, b⟩
          have S2 := (unhide SV).below b
          have q0 : w2.cell? ⟨w.heap.size + 1 + 1, 14, none⟩ = some (.bool false) := S2.a.c 14 (by simp [jdAt])
          have q1 : w2.cell? ⟨w.heap.size + 1 + 1, 14 + 1, none⟩ = some (.int .i64 d4) := S2.a.c (14 + 1) (by simp [jdAt])
          have q2 : w2.cell? ⟨w.heap.size + 1 + 1, 14 + 2, none⟩ = some (.int .i64 s4) := S2.a.c (14 + 2) (by simp [jdAt])
          have g0 : w2.frozen? ⟨w.heap.size + 1 + 1, 14, none⟩ = false := S2.a.f 14 (by simp [jdAt])
          have g1 : w2.frozen? ⟨w.heap.size + 1 + 1, 14 + 1, none⟩ = false := S2.a.f (14 + 1) (by simp [jdAt])
          have g2 : w2.frozen? ⟨w.heap.size + 1 + 1, 14 + 2, none⟩ = false := S2.a.f (14 + 2) (by simp [jdAt])
          obtain ⟨O, hO⟩ : ∃ O, jdO n h false d4 s4 x = O := ⟨_, rfl⟩
          obtain ⟨Dd, hD⟩ : ∃ Dd, jdD n h false d4 s4 x = Dd := ⟨_, rfl⟩
          have NX : Hid (Jud w (((w2.setCell ⟨w.heap.size + 1 + 1, 14, none⟩ (.bool O)).setCell ⟨w.heap.size + 1 + 1, 14 + 1, none⟩ (.int .i64 Dd)).setCell ⟨w.heap.size + 1 + 1, 14 + 2, none⟩ (.int .i64 s4)) n h x o0 d0 s0 o1 d1 s1 o2 d2 s2 o3 d3 s3 false d4 s4 (4 + 1)) := hide (by
            rw [← hO, ← hD]
            refine ⟨((S2.p.other (by first | (simp; done) | (simp; omega)) _).other (by first | (simp; done) | (simp; omega)) _).other (by first | (simp; done) | (simp; omega)) _, ((S2.r.other (by first | (simp; done) | (simp; omega)) _).other (by first | (simp; done) | (simp; omega)) _).other (by first | (simp; done) | (simp; omega)) _, ?_, ?_⟩
            · exact (((S2.a.set 14 (by simp [jdAt]) _).set (14 + 1) (by simp [jdAt]) _).set (14 + 2) (by simp [jdAt]) _)
            · exact ((S2.b.setCell (by simp; omega) _).setCell (by simp; omega) _).setCell (by simp; omega) _)
          rw [hO, hD]
          clear SV S2 b hO hD
          go_wp2_with fail
          go_roundw
          case rel => exact ⟨4 + 1, rfl, by omega, unhide NX⟩
          case measure => simp [intOf]
    · obtain rfl : k = 5 := by omega
      go_wp2_with (first
        | ((with_reducible show wpList _ _ _ (⟨_, .load 81 _, _, _, _, none⟩ :: _) _ _); refine at_loadAgg (vs := [.int .i64 n, .int .i64 h, .bool (jdO n h o0 d0 s0 x), .int .i64 (jdD n h o0 d0 s0 x), .int .i64 s0, .bool (jdO n h o1 d1 s1 x), .int .i64 (jdD n h o1 d1 s1 x), .int .i64 s1, .bool (jdO n h o2 d2 s2 x), .int .i64 (jdD n h o2 d2 s2 x), .int .i64 s2, .bool (jdO n h o3 d3 s3 x), .int .i64 (jdD n h o3 d3 s3 x), .int .i64 s3, .bool (jdO n h o4 d4 s4 x), .int .i64 (jdD n h o4 d4 s4 x), .int .i64 s4]) Try.isAgg81 Try.sizeOf81 rfl (unhide HS).a ?_)
        | ((with_reducible show wpList _ _ _ (⟨none, .store 81 _ _, _, _, _, none⟩ :: _) _ _); refine at_storeAgg (us := [.int .i64 0, .int .i64 0, .bool false, .int .i64 0, .int .i64 0, .bool false, .int .i64 0, .int .i64 0, .bool false, .int .i64 0, .int .i64 0, .bool false, .int .i64 0, .int .i64 0, .bool false, .int .i64 0, .int .i64 0]) (vs := [.int .i64 n, .int .i64 h, .bool (jdO n h o0 d0 s0 x), .int .i64 (jdD n h o0 d0 s0 x), .int .i64 s0, .bool (jdO n h o1 d1 s1 x), .int .i64 (jdD n h o1 d1 s1 x), .int .i64 s1, .bool (jdO n h o2 d2 s2 x), .int .i64 (jdD n h o2 d2 s2 x), .int .i64 s2, .bool (jdO n h o3 d3 s3 x), .int .i64 (jdD n h o3 d3 s3 x), .int .i64 s3, .bool (jdO n h o4 d4 s4 x), .int .i64 (jdD n h o4 d4 s4 x), .int .i64 s4]) Try.sizeOf81 rfl rfl (unhide HS).r rfl (by simp [Value.oneCell']) ?_; intro w2 k2 g2))
      have HB := hide ((unhide HS).b.grown g2 (unhide HS).b.size (fun q hq => by cases hq; omega))
      exact bodyPost_ret (results_cell (vs := [.int .i64 n, .int .i64 h, .bool (jdO n h o0 d0 s0 x), .int .i64 (jdD n h o0 d0 s0 x), .int .i64 s0, .bool (jdO n h o1 d1 s1 x), .int .i64 (jdD n h o1 d1 s1 x), .int .i64 s1, .bool (jdO n h o2 d2 s2 x), .int .i64 (jdD n h o2 d2 s2 x), .int .i64 s2, .bool (jdO n h o3 d3 s3 x), .int .i64 (jdD n h o3 d3 s3 x), .int .i64 s3, .bool (jdO n h o4 d4 s4 x), .int .i64 (jdD n h o4 d4 s4 x), .int .i64 s4]) rfl Try.isAgg81 Try.sizeOf81 rfl k2) rfl ⟨rfl, unhide HB⟩

end Go.Proofs.Ytidgkkldhnckead

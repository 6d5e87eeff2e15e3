/-
  What the program's canSee and seeing answer: whether a round can be seen; the inner voter with its five lanes. At every voter and list; nothing that was there is written.
-/
import Derived.Test.YtidgkkldhnckeadVtPure
import Derived.Test.YtidgkkldhnckeadVoOk
import Derived.Test.YtidgkkldhnckeadThen
import Derived.Test.YtidgkkldhnckeadBel
import Derived.Test.YtidgkkldhnckeadWhole
namespace Go.Proofs.Ytidgkkldhnckead
open Go.RowKit

set_option maxHeartbeats 2000000 in
theorem canSee_any (n h : Int) (a1 a2 a3 : Option Addr) (l1 c1 l2 c2 l3 c3 : Nat) (bs : List Bool) (os zs : List Int) (w : World) (hr : VoIn w a1 a2 l1 l2 bs os) (hz : Row w a3 l3 zs) :
    Calls Try.prog 35 #[.agg #[.int .i64 n, .int .i64 h, .slice a1 l1 c1, .slice a2 l2 c2], .slice a3 l3 c3] w fun x w' => x = .returned (.bool (seenB n h bs os zs)) ∧ Below w.heap.size w w' := by
  have Z1 := hide hr.r1.len_eq
  have Z3 := hide hz.len_eq
  have KP := hide (Blk.new (w := w) [.int .i64 n, .int .i64 h, .slice a1 l1 c1, .slice a2 l2 c2] 28)
  have B0 := hide (bel1 (w := w) (Obj.cells #[.int .i64 n, .int .i64 h, .slice a1 l1 c1, .slice a2 l2 c2] 28))
  have R := hide (hr.below (unhide B0))
  have RZ := hide (hz.below (unhide B0))
  clear hr hz
  cases q1 : voOk n h bs os with
  | false =>
    have HE := hide (seenB_no (zs := zs) (.inl q1))
    go_enter Try.func35, Try.ntmps35
    go_wp2_with fail
    refine (implVoterOk_is n h _ _ _ _ _ _ bs os _ (unhide R) q1).mono ?_
    rintro x w1 ⟨rfl, b⟩
    have B1 := hide ((unhide B0).trans (b.mono (unhide B0).size))
    clear b
    go_wp2_with fail
    go_ret
    exact ⟨ret_bool (unhide HE).symm, unhide B1⟩
  | true =>
  by_cases q2 : l3 = l1
  · have p2 : ((l3 : Int) == (l1 : Int)) = true := by rw [q2]; simp
    have Q2 := hide q2
    clear q2
    cases q3 : allB zs (-1000000) 1000000 with
    | false =>
      have HE := hide (seenB_no (n := n) (h := h) (bs := bs) (os := os) (.inr (.inr q3)))
      go_enter Try.func35, Try.ntmps35
      go_wp2_with fail
      refine (implVoterOk_is n h _ _ _ _ _ _ bs os _ (unhide R) q1).mono ?_
      rintro x w1 ⟨rfl, b⟩
      have B1 := hide ((unhide B0).trans (b.mono (unhide B0).size))
      have RZ := hide ((unhide RZ).below b)
      have KP := hide ((unhide KP).below b)
      have m2 : w1.cell? ⟨w.heap.size, 2, none⟩ = some (.slice a1 l1 c1) := (unhide KP).c 2 (by simp)
      clear b
      go_wp2_with fail
      refine (allWithin_any _ _ _ zs _ _ _ (unhide RZ)).mono ?_
      rintro x w2 ⟨rfl, n2, hw2⟩
      rw [q3]
      have B2 : Hid (Below w.heap.size w w2) := hide (by rw [hw2]; exact (unhide B1).trans (bel0d' n2))
      clear hw2
      go_wp2_with fail
      go_ret
      exact ⟨ret_bool (unhide HE).symm, unhide B2⟩
    | true =>
      have HE := hide (seenB_yes q1 (show zs.length = bs.length by rw [unhide Z1, unhide Z3]; exact unhide Q2) q3)
      go_enter Try.func35, Try.ntmps35
      go_wp2_with fail
      refine (implVoterOk_is n h _ _ _ _ _ _ bs os _ (unhide R) q1).mono ?_
      rintro x w1 ⟨rfl, b⟩
      have B1 := hide ((unhide B0).trans (b.mono (unhide B0).size))
      have RZ := hide ((unhide RZ).below b)
      have KP := hide ((unhide KP).below b)
      have m2 : w1.cell? ⟨w.heap.size, 2, none⟩ = some (.slice a1 l1 c1) := (unhide KP).c 2 (by simp)
      clear b
      go_wp2_with fail
      refine (allWithin_any _ _ _ zs _ _ _ (unhide RZ)).mono ?_
      rintro x w2 ⟨rfl, n2, hw2⟩
      rw [q3]
      have B2 : Hid (Below w.heap.size w w2) := hide (by rw [hw2]; exact (unhide B1).trans (bel0d' n2))
      clear hw2
      go_wp2_with fail
      go_ret
      exact ⟨ret_bool (unhide HE).symm, unhide B2⟩
  · have p2 : ((l3 : Int) == (l1 : Int)) = false := by simp; omega
    have HE := hide (seenB_no (n := n) (h := h) (bs := bs) (os := os) (zs := zs) (.inr (.inl (by rw [unhide Z1, unhide Z3]; exact q2))))
    clear q2
    go_enter Try.func35, Try.ntmps35
    go_wp2_with fail
    refine (implVoterOk_is n h _ _ _ _ _ _ bs os _ (unhide R) q1).mono ?_
    rintro x w1 ⟨rfl, b⟩
    have B1 := hide ((unhide B0).trans (b.mono (unhide B0).size))
    have RZ := hide ((unhide RZ).below b)
    have KP := hide ((unhide KP).below b)
    have m2 : w1.cell? ⟨w.heap.size, 2, none⟩ = some (.slice a1 l1 c1) := (unhide KP).c 2 (by simp)
    clear b
    go_wp2_with fail
    go_ret
    exact ⟨ret_bool (unhide HE).symm, unhide B1⟩
theorem canSee_is {c : Bool} (n h : Int) (a1 a2 a3 : Option Addr) (l1 c1 l2 c2 l3 c3 : Nat) (bs : List Bool) (os zs : List Int) (w : World) (hr : VoIn w a1 a2 l1 l2 bs os) (hz : Row w a3 l3 zs) (hc : seenB n h bs os zs = c) :
    Calls Try.prog 35 #[.agg #[.int .i64 n, .int .i64 h, .slice a1 l1 c1, .slice a2 l2 c2], .slice a3 l3 c3] w fun x w' => x = .returned (.bool c) ∧ Below w.heap.size w w' := by
  subst hc; exact canSee_any n h a1 a2 a3 l1 c1 l2 c2 l3 c3 bs os zs w hr hz

/-- What a lane of the inner voter is. -/
def laneIs (bs : List Bool) (os zs : List Int) (L k : Nat) (o : Bool) (d s : Int) : Prop := (k < L → elAt bs k = o ∧ nth os k = d ∧ nth zs k = s) ∧ (L ≤ k → o = true ∧ d = 0 ∧ s = 0)
def vtAt (n h : Int) (o0 : Bool) (d0 s0 : Int) (o1 : Bool) (d1 s1 : Int) (o2 : Bool) (d2 s2 : Int) (o3 : Bool) (d3 s3 : Int) (o4 : Bool) (d4 s4 : Int) : Nat → List Value
  | 0 => [.int .i64 n, .int .i64 h, .bool false, .int .i64 0, .int .i64 0, .bool false, .int .i64 0, .int .i64 0, .bool false, .int .i64 0, .int .i64 0, .bool false, .int .i64 0, .int .i64 0, .bool false, .int .i64 0, .int .i64 0]
  | 1 => [.int .i64 n, .int .i64 h, .bool o0, .int .i64 d0, .int .i64 s0, .bool false, .int .i64 0, .int .i64 0, .bool false, .int .i64 0, .int .i64 0, .bool false, .int .i64 0, .int .i64 0, .bool false, .int .i64 0, .int .i64 0]
  | 2 => [.int .i64 n, .int .i64 h, .bool o0, .int .i64 d0, .int .i64 s0, .bool o1, .int .i64 d1, .int .i64 s1, .bool false, .int .i64 0, .int .i64 0, .bool false, .int .i64 0, .int .i64 0, .bool false, .int .i64 0, .int .i64 0]
  | 3 => [.int .i64 n, .int .i64 h, .bool o0, .int .i64 d0, .int .i64 s0, .bool o1, .int .i64 d1, .int .i64 s1, .bool o2, .int .i64 d2, .int .i64 s2, .bool false, .int .i64 0, .int .i64 0, .bool false, .int .i64 0, .int .i64 0]
  | 4 => [.int .i64 n, .int .i64 h, .bool o0, .int .i64 d0, .int .i64 s0, .bool o1, .int .i64 d1, .int .i64 s1, .bool o2, .int .i64 d2, .int .i64 s2, .bool o3, .int .i64 d3, .int .i64 s3, .bool false, .int .i64 0, .int .i64 0]
  | _ => [.int .i64 n, .int .i64 h, .bool o0, .int .i64 d0, .int .i64 s0, .bool o1, .int .i64 d1, .int .i64 s1, .bool o2, .int .i64 d2, .int .i64 s2, .bool o3, .int .i64 d3, .int .i64 s3, .bool o4, .int .i64 d4, .int .i64 s4]

/-- What lies at the head of a round. -/
structure See (w wr : World) (n h : Int) (a1 a2 : Option Addr) (L c1 c2 : Nat) (o0 : Bool) (d0 s0 : Int) (o1 : Bool) (d1 s1 : Int) (o2 : Bool) (d2 s2 : Int) (o3 : Bool) (d3 s3 : Int) (o4 : Bool) (d4 s4 : Int) (k : Nat) : Prop where
  p : Blk wr w.heap.size [.int .i64 n, .int .i64 h, .slice a1 L c1, .slice a2 L c2]
  r : Blk wr (w.heap.size + 1) [.int .i64 0, .int .i64 0, .bool false, .int .i64 0, .int .i64 0, .bool false, .int .i64 0, .int .i64 0, .bool false, .int .i64 0, .int .i64 0, .bool false, .int .i64 0, .int .i64 0, .bool false, .int .i64 0, .int .i64 0]
  s : Blk wr (w.heap.size + 1 + 1) (vtAt n h o0 d0 s0 o1 d1 s1 o2 d2 s2 o3 d3 s3 o4 d4 s4 k)
  b : Below w.heap.size w wr

set_option maxRecDepth 20000 in
set_option maxHeartbeats 8000000 in
theorem seeing_any (n h : Int) (a1 a2 a3 : Option Addr) (L c1 c2 c3 : Nat) (bs : List Bool) (os zs : List Int) (o0 : Bool) (d0 s0 : Int) (o1 : Bool) (d1 s1 : Int) (o2 : Bool) (d2 s2 : Int) (o3 : Bool) (d3 s3 : Int) (o4 : Bool) (d4 s4 : Int) (w : World) (hr : VoIn w a1 a2 L L bs os) (hz : Row w a3 L zs) (hL : 1 ≤ L ∧ L ≤ 5) (e0 : laneIs bs os zs L 0 o0 d0 s0) (e1 : laneIs bs os zs L 1 o1 d1 s1) (e2 : laneIs bs os zs L 2 o2 d2 s2) (e3 : laneIs bs os zs L 3 o3 d3 s3) (e4 : laneIs bs os zs L 4 o4 d4 s4) :
    Calls Try.prog 37 #[.agg #[.int .i64 n, .int .i64 h, .slice a1 L c1, .slice a2 L c2], .slice a3 L c3] w fun x w' => x = .returned (.agg #[.int .i64 n, .int .i64 h, .bool o0, .int .i64 d0, .int .i64 s0, .bool o1, .int .i64 d1, .int .i64 s1, .bool o2, .int .i64 d2, .int .i64 s2, .bool o3, .int .i64 d3, .int .i64 s3, .bool o4, .int .i64 d4, .int .i64 s4]) ∧ Below w.heap.size w w' := by
  have R := hide hr
  have RZ := hide hz
  have E0 := hide e0
  have E1 := hide e1
  have E2 := hide e2
  have E3 := hide e3
  have E4 := hide e4
  have hL1 := hL.1
  have hL2 := hL.2
  clear hr hz hL e0 e1 e2 e3 e4
  obtain ⟨W, hW⟩ : ∃ W, W = ((w.alloc (Obj.cells #[.int .i64 n, .int .i64 h, .slice a1 L c1, .slice a2 L c2] 28)).alloc (Obj.cells #[.int .i64 0, .int .i64 0, .bool false, .int .i64 0, .int .i64 0, .bool false, .int .i64 0, .int .i64 0, .bool false, .int .i64 0, .int .i64 0, .bool false, .int .i64 0, .int .i64 0, .bool false, .int .i64 0, .int .i64 0] 81)).alloc (Obj.cells #[.int .i64 n, .int .i64 h, .bool false, .int .i64 0, .int .i64 0, .bool false, .int .i64 0, .int .i64 0, .bool false, .int .i64 0, .int .i64 0, .bool false, .int .i64 0, .int .i64 0, .bool false, .int .i64 0, .int .i64 0] 81) := ⟨_, rfl⟩
  have S0 : Hid (See w W n h a1 a2 L c1 c2 o0 d0 s0 o1 d1 s1 o2 d2 s2 o3 d3 s3 o4 d4 s4 0) := hide (by
    rw [hW]
    refine ⟨((Blk.new (w := w) [.int .i64 n, .int .i64 h, .slice a1 L c1, .slice a2 L c2] 28).alloc _).alloc _, ?_, ?_, bel3 _ _ _⟩
    · have := (Blk.new (w := w.alloc (Obj.cells #[.int .i64 n, .int .i64 h, .slice a1 L c1, .slice a2 L c2] 28)) [.int .i64 0, .int .i64 0, .bool false, .int .i64 0, .int .i64 0, .bool false, .int .i64 0, .int .i64 0, .bool false, .int .i64 0, .int .i64 0, .bool false, .int .i64 0, .int .i64 0, .bool false, .int .i64 0, .int .i64 0] 81).alloc (Obj.cells #[.int .i64 n, .int .i64 h, .bool false, .int .i64 0, .int .i64 0, .bool false, .int .i64 0, .int .i64 0, .bool false, .int .i64 0, .int .i64 0, .bool false, .int .i64 0, .int .i64 0, .bool false, .int .i64 0, .int .i64 0] 81)
      simpa using this
    · have := Blk.new (w := (w.alloc (Obj.cells #[.int .i64 n, .int .i64 h, .slice a1 L c1, .slice a2 L c2] 28)).alloc (Obj.cells #[.int .i64 0, .int .i64 0, .bool false, .int .i64 0, .int .i64 0, .bool false, .int .i64 0, .int .i64 0, .bool false, .int .i64 0, .int .i64 0, .bool false, .int .i64 0, .int .i64 0, .bool false, .int .i64 0, .int .i64 0] 81)) [.int .i64 n, .int .i64 h, .bool false, .int .i64 0, .int .i64 0, .bool false, .int .i64 0, .int .i64 0, .bool false, .int .i64 0, .int .i64 0, .bool false, .int .i64 0, .int .i64 0, .bool false, .int .i64 0, .int .i64 0] 81
      simpa [vtAt] using this)
  have HW := hide hW
  clear hW
  go_enter Try.func37, Try.ntmps37
  go_wp2_with fail
  rw [← unhide HW]
  clear HW
  go_loopw [12] (fun i wr => ∃ k : Nat, i = .int .i64 (k : Int) ∧ k ≤ 5 ∧ See w wr n h a1 a2 L c1 c2 o0 d0 s0 o1 d1 s1 o2 d2 s2 o3 d3 s3 o4 d4 s4 k) (fun i _ => 5 - (intOf i).toNat)
  case atStart => exact ⟨0, rfl, by omega, unhide S0⟩
  case round =>
    clear S0
    obtain ⟨k, rfl, hk, hs⟩ := hrel
    by_cases hk5 : k < 5
    · rcases (show k = 0 ∨ k = 1 ∨ k = 2 ∨ k = 3 ∨ k = 4 by omega) with hj | hj | hj | hj | hj
      · skip
        subst hj
        clear hk hk5
        by_cases hlt : 0 < L
        · obtain ⟨x1, x2, x3⟩ := (unhide E0).1 hlt
          have hlt' : (0 : Int) < (L : Int) := by omega
          have rb := (unhide R).below hs.b
          have rz := (unhide RZ).below hs.b
          rcases rb.r1.open1 with ⟨h0, _⟩ | ⟨b1, f1, rfl, _, y1⟩
          · omega
          rcases rb.r2.open_ with ⟨h0, _⟩ | ⟨b2, f2, rfl, _, y2⟩
          · omega
          rcases rz.open_ with ⟨h0, _⟩ | ⟨b3, f3, rfl, _, y3⟩
          · omega
          have y1 : wr.cell? ⟨b1, f1, none⟩ = some (.bool o0) := by rw [← x1]; exact y1 0 hlt
          have y2 : wr.cell? ⟨b2, f2, none⟩ = some (.int .i64 d0) := by rw [← x2]; exact y2 0 hlt
          have y3 : wr.cell? ⟨b3, f3, none⟩ = some (.int .i64 s0) := by rw [← x3]; exact y3 0 hlt
          obtain ⟨ι, f, _, hbf, hall⟩ := belClass wr
          have z1 : ∀ x, (f x).cell? ⟨b1, f1, none⟩ = some (.bool o0) := fun x => ((hbf x).cell (block_lt_of_cell y1)).trans y1
          have z2 : ∀ x, (f x).cell? ⟨b2, f2, none⟩ = some (.int .i64 d0) := fun x => ((hbf x).cell (block_lt_of_cell y2)).trans y2
          have z3 : ∀ x, (f x).cell? ⟨b3, f3, none⟩ = some (.int .i64 s0) := fun x => ((hbf x).cell (block_lt_of_cell y3)).trans y3
          have p2 : ∀ x, (f x).cell? ⟨w.heap.size, 2, none⟩ = some (.slice (some ⟨b1, f1, none⟩) L c1) := fun x => (hs.p.below (hbf x)).c 2 (by simp)
          have p3 : ∀ x, (f x).cell? ⟨w.heap.size, 3, none⟩ = some (.slice (some ⟨b2, f2, none⟩) L c2) := fun x => (hs.p.below (hbf x)).c 3 (by simp)
          have q0 : ∀ x, (f x).cell? ⟨w.heap.size + 1 + 1, 2, none⟩ = some (.bool false) := fun x => (hs.s.below (hbf x)).c 2 (by simp [vtAt])
          have q1 : ∀ x, (f x).cell? ⟨w.heap.size + 1 + 1, 2 + 1, none⟩ = some (.int .i64 0) := fun x => (hs.s.below (hbf x)).c (2 + 1) (by simp [vtAt])
          have q2 : ∀ x, (f x).cell? ⟨w.heap.size + 1 + 1, 2 + 2, none⟩ = some (.int .i64 0) := fun x => (hs.s.below (hbf x)).c (2 + 2) (by simp [vtAt])
          have g0 : ∀ x, (f x).frozen? ⟨w.heap.size + 1 + 1, 2, none⟩ = false := fun x => (hs.s.below (hbf x)).f 2 (by simp [vtAt])
          have g1 : ∀ x, (f x).frozen? ⟨w.heap.size + 1 + 1, 2 + 1, none⟩ = false := fun x => (hs.s.below (hbf x)).f (2 + 1) (by simp [vtAt])
          have g2 : ∀ x, (f x).frozen? ⟨w.heap.size + 1 + 1, 2 + 2, none⟩ = false := fun x => (hs.s.below (hbf x)).f (2 + 2) (by simp [vtAt])
          have NX : Hid (∀ x, See w ((((f x).setCell ⟨w.heap.size + 1 + 1, 2, none⟩ (.bool o0)).setCell ⟨w.heap.size + 1 + 1, 2 + 1, none⟩ (.int .i64 d0)).setCell ⟨w.heap.size + 1 + 1, 2 + 2, none⟩ (.int .i64 s0)) n h (some ⟨b1, f1, none⟩) (some ⟨b2, f2, none⟩) L c1 c2 o0 d0 s0 o1 d1 s1 o2 d2 s2 o3 d3 s3 o4 d4 s4 (0 + 1)) := hide (fun x => by
            refine ⟨(((hs.p.below (hbf x)).other (by first | (simp; done) | (simp; omega)) _).other (by first | (simp; done) | (simp; omega)) _).other (by first | (simp; done) | (simp; omega)) _, (((hs.r.below (hbf x)).other (by first | (simp; done) | (simp; omega)) _).other (by first | (simp; done) | (simp; omega)) _).other (by first | (simp; done) | (simp; omega)) _, ?_, ?_⟩
            · exact ((((hs.s.below (hbf x)).set 2 (by simp [vtAt]) _).set (2 + 1) (by simp [vtAt]) _).set (2 + 2) (by simp [vtAt]) _)
            · exact (((hs.b.trans ((hbf x).mono hs.b.size)).setCell (by simp; omega) _).setCell (by simp; omega) _).setCell (by simp; omega) _)
          have HA := hide hall
          clear hs hbf hall rb rz y1 y2 y3 x1 x2 x3
          go_wp2_with fail
          refine wp_region_then (unhide HA) (by kernel_rfl) (by kernel_rfl) (by kernel_rfl) ?_
          dsimp only [swapLast, lastOf]
          repeat (go_big_quiet_step (fail))
          refine wpQuiet_nil ?_
          rintro _ ⟨y, rfl⟩
          go_simp
          go_wp2_with fail
          go_roundw
          case rel => exact ⟨0 + 1, rfl, by omega, unhide NX y⟩
          case measure => simp [intOf]
        · omega
      · skip
        subst hj
        clear hk hk5
        by_cases hlt : 1 < L
        · obtain ⟨x1, x2, x3⟩ := (unhide E1).1 hlt
          have hlt' : (1 : Int) < (L : Int) := by omega
          have rb := (unhide R).below hs.b
          have rz := (unhide RZ).below hs.b
          rcases rb.r1.open1 with ⟨h0, _⟩ | ⟨b1, f1, rfl, _, y1⟩
          · omega
          rcases rb.r2.open_ with ⟨h0, _⟩ | ⟨b2, f2, rfl, _, y2⟩
          · omega
          rcases rz.open_ with ⟨h0, _⟩ | ⟨b3, f3, rfl, _, y3⟩
          · omega
          have y1 : wr.cell? ⟨b1, f1 + 1, none⟩ = some (.bool o1) := by rw [← x1]; exact y1 1 hlt
          have y2 : wr.cell? ⟨b2, f2 + 1, none⟩ = some (.int .i64 d1) := by rw [← x2]; exact y2 1 hlt
          have y3 : wr.cell? ⟨b3, f3 + 1, none⟩ = some (.int .i64 s1) := by rw [← x3]; exact y3 1 hlt
          obtain ⟨ι, f, _, hbf, hall⟩ := belClass wr
          have z1 : ∀ x, (f x).cell? ⟨b1, f1 + 1, none⟩ = some (.bool o1) := fun x => ((hbf x).cell (block_lt_of_cell y1)).trans y1
          have z2 : ∀ x, (f x).cell? ⟨b2, f2 + 1, none⟩ = some (.int .i64 d1) := fun x => ((hbf x).cell (block_lt_of_cell y2)).trans y2
          have z3 : ∀ x, (f x).cell? ⟨b3, f3 + 1, none⟩ = some (.int .i64 s1) := fun x => ((hbf x).cell (block_lt_of_cell y3)).trans y3
          have p2 : ∀ x, (f x).cell? ⟨w.heap.size, 2, none⟩ = some (.slice (some ⟨b1, f1, none⟩) L c1) := fun x => (hs.p.below (hbf x)).c 2 (by simp)
          have p3 : ∀ x, (f x).cell? ⟨w.heap.size, 3, none⟩ = some (.slice (some ⟨b2, f2, none⟩) L c2) := fun x => (hs.p.below (hbf x)).c 3 (by simp)
          have q0 : ∀ x, (f x).cell? ⟨w.heap.size + 1 + 1, 5, none⟩ = some (.bool false) := fun x => (hs.s.below (hbf x)).c 5 (by simp [vtAt])
          have q1 : ∀ x, (f x).cell? ⟨w.heap.size + 1 + 1, 5 + 1, none⟩ = some (.int .i64 0) := fun x => (hs.s.below (hbf x)).c (5 + 1) (by simp [vtAt])
          have q2 : ∀ x, (f x).cell? ⟨w.heap.size + 1 + 1, 5 + 2, none⟩ = some (.int .i64 0) := fun x => (hs.s.below (hbf x)).c (5 + 2) (by simp [vtAt])
          have g0 : ∀ x, (f x).frozen? ⟨w.heap.size + 1 + 1, 5, none⟩ = false := fun x => (hs.s.below (hbf x)).f 5 (by simp [vtAt])
          have g1 : ∀ x, (f x).frozen? ⟨w.heap.size + 1 + 1, 5 + 1, none⟩ = false := fun x => (hs.s.below (hbf x)).f (5 + 1) (by simp [vtAt])
          have g2 : ∀ x, (f x).frozen? ⟨w.heap.size + 1 + 1, 5 + 2, none⟩ = false := fun x => (hs.s.below (hbf x)).f (5 + 2) (by simp [vtAt])
          have NX : Hid (∀ x, See w ((((f x).setCell ⟨w.heap.size + 1 + 1, 5, none⟩ (.bool o1)).setCell ⟨w.heap.size + 1 + 1, 5 + 1, none⟩ (.int .i64 d1)).setCell ⟨w.heap.size + 1 + 1, 5 + 2, none⟩ (.int .i64 s1)) n h (some ⟨b1, f1, none⟩) (some ⟨b2, f2, none⟩) L c1 c2 o0 d0 s0 o1 d1 s1 o2 d2 s2 o3 d3 s3 o4 d4 s4 (1 + 1)) := hide (fun x => by
            refine ⟨(((hs.p.below (hbf x)).other (by first | (simp; done) | (simp; omega)) _).other (by first | (simp; done) | (simp; omega)) _).other (by first | (simp; done) | (simp; omega)) _, (((hs.r.below (hbf x)).other (by first | (simp; done) | (simp; omega)) _).other (by first | (simp; done) | (simp; omega)) _).other (by first | (simp; done) | (simp; omega)) _, ?_, ?_⟩
            · exact ((((hs.s.below (hbf x)).set 5 (by simp [vtAt]) _).set (5 + 1) (by simp [vtAt]) _).set (5 + 2) (by simp [vtAt]) _)
            · exact (((hs.b.trans ((hbf x).mono hs.b.size)).setCell (by simp; omega) _).setCell (by simp; omega) _).setCell (by simp; omega) _)
          have HA := hide hall
          clear hs hbf hall rb rz y1 y2 y3 x1 x2 x3
          go_wp2_with fail
          refine wp_region_then (unhide HA) (by kernel_rfl) (by kernel_rfl) (by kernel_rfl) ?_
          dsimp only [swapLast, lastOf]
          repeat (go_big_quiet_step (fail))
          refine wpQuiet_nil ?_
          rintro _ ⟨y, rfl⟩
          go_simp
          go_wp2_with fail
          go_roundw
          case rel => exact ⟨1 + 1, rfl, by omega, unhide NX y⟩
          case measure => simp [intOf]
        · obtain ⟨x1, x2, x3⟩ := (unhide E1).2 (by omega)
          have hlt' : ¬ (1 : Int) < (L : Int) := by omega
          have q0 : wr.cell? ⟨w.heap.size + 1 + 1, 5, none⟩ = some (.bool false) := hs.s.c 5 (by simp [vtAt])
          have g0 : wr.frozen? ⟨w.heap.size + 1 + 1, 5, none⟩ = false := hs.s.f 5 (by simp [vtAt])
          have NX : Hid (See w (wr.setCell ⟨w.heap.size + 1 + 1, 5, none⟩ (.bool true)) n h a1 a2 L c1 c2 o0 d0 s0 o1 d1 s1 o2 d2 s2 o3 d3 s3 o4 d4 s4 (1 + 1)) := hide (by
            rw [x1, x2, x3] at hs ⊢
            exact ⟨hs.p.other (by first | (simp; done) | (simp; omega)) _, hs.r.other (by first | (simp; done) | (simp; omega)) _, hs.s.set 5 (by simp [vtAt]) _, hs.b.setCell (by simp; omega) _⟩)
          clear hs x1 x2 x3
          go_wp2_with fail
          go_roundw
          case rel => exact ⟨1 + 1, rfl, by omega, unhide NX⟩
          case measure => simp [intOf]
      · skip
        subst hj
        clear hk hk5
        by_cases hlt : 2 < L
        · obtain ⟨x1, x2, x3⟩ := (unhide E2).1 hlt
          have hlt' : (2 : Int) < (L : Int) := by omega
          have rb := (unhide R).below hs.b
          have rz := (unhide RZ).below hs.b
          rcases rb.r1.open1 with ⟨h0, _⟩ | ⟨b1, f1, rfl, _, y1⟩
          · omega
          rcases rb.r2.open_ with ⟨h0, _⟩ | ⟨b2, f2, rfl, _, y2⟩
          · omega
          rcases rz.open_ with ⟨h0, _⟩ | ⟨b3, f3, rfl, _, y3⟩
          · omega
          have y1 : wr.cell? ⟨b1, f1 + 2, none⟩ = some (.bool o2) := by rw [← x1]; exact y1 2 hlt
          have y2 : wr.cell? ⟨b2, f2 + 2, none⟩ = some (.int .i64 d2) := by rw [← x2]; exact y2 2 hlt
          have y3 : wr.cell? ⟨b3, f3 + 2, none⟩ = some (.int .i64 s2) := by rw [← x3]; exact y3 2 hlt
          obtain ⟨ι, f, _, hbf, hall⟩ := belClass wr
          have z1 : ∀ x, (f x).cell? ⟨b1, f1 + 2, none⟩ = some (.bool o2) := fun x => ((hbf x).cell (block_lt_of_cell y1)).trans y1
          have z2 : ∀ x, (f x).cell? ⟨b2, f2 + 2, none⟩ = some (.int .i64 d2) := fun x => ((hbf x).cell (block_lt_of_cell y2)).trans y2
          have z3 : ∀ x, (f x).cell? ⟨b3, f3 + 2, none⟩ = some (.int .i64 s2) := fun x => ((hbf x).cell (block_lt_of_cell y3)).trans y3
          have p2 : ∀ x, (f x).cell? ⟨w.heap.size, 2, none⟩ = some (.slice (some ⟨b1, f1, none⟩) L c1) := fun x => (hs.p.below (hbf x)).c 2 (by simp)
          have p3 : ∀ x, (f x).cell? ⟨w.heap.size, 3, none⟩ = some (.slice (some ⟨b2, f2, none⟩) L c2) := fun x => (hs.p.below (hbf x)).c 3 (by simp)
          have q0 : ∀ x, (f x).cell? ⟨w.heap.size + 1 + 1, 8, none⟩ = some (.bool false) := fun x => (hs.s.below (hbf x)).c 8 (by simp [vtAt])
          have q1 : ∀ x, (f x).cell? ⟨w.heap.size + 1 + 1, 8 + 1, none⟩ = some (.int .i64 0) := fun x => (hs.s.below (hbf x)).c (8 + 1) (by simp [vtAt])
          have q2 : ∀ x, (f x).cell? ⟨w.heap.size + 1 + 1, 8 + 2, none⟩ = some (.int .i64 0) := fun x => (hs.s.below (hbf x)).c (8 + 2) (by simp [vtAt])
          have g0 : ∀ x, (f x).frozen? ⟨w.heap.size + 1 + 1, 8, none⟩ = false := fun x => (hs.s.below (hbf x)).f 8 (by simp [vtAt])
          have g1 : ∀ x, (f x).frozen? ⟨w.heap.size + 1 + 1, 8 + 1, none⟩ = false := fun x => (hs.s.below (hbf x)).f (8 + 1) (by simp [vtAt])
          have g2 : ∀ x, (f x).frozen? ⟨w.heap.size + 1 + 1, 8 + 2, none⟩ = false := fun x => (hs.s.below (hbf x)).f (8 + 2) (by simp [vtAt])
          have NX : Hid (∀ x, See w ((((f x).setCell ⟨w.heap.size + 1 + 1, 8, none⟩ (.bool o2)).setCell ⟨w.heap.size + 1 + 1, 8 + 1, none⟩ (.int .i64 d2)).setCell ⟨w.heap.size + 1 + 1, 8 + 2, none⟩ (.int .i64 s2)) n h (some ⟨b1, f1, none⟩) (some ⟨b2, f2, none⟩) L c1 c2 o0 d0 s0 o1 d1 s1 o2 d2 s2 o3 d3 s3 o4 d4 s4 (2 + 1)) := hide (fun x => by
            refine ⟨(((hs.p.below (hbf x)).other (by first | (simp; done) | (simp; omega)) _).other (by first | (simp; done) | (simp; omega)) _).other (by first | (simp; done) | (simp; omega)) _, (((hs.r.below (hbf x)).other (by first | (simp; done) | (simp; omega)) _).other (by first | (simp; done) | (simp; omega)) _).other (by first | (simp; done) | (simp; omega)) _, ?_, ?_⟩
            · exact ((((hs.s.below (hbf x)).set 8 (by simp [vtAt]) _).set (8 + 1) (by simp [vtAt]) _).set (8 + 2) (by simp [vtAt]) _)
            · exact (((hs.b.trans ((hbf x).mono hs.b.size)).setCell (by simp; omega) _).setCell (by simp; omega) _).setCell (by simp; omega) _)
          have HA := hide hall
          clear hs hbf hall rb rz y1 y2 y3 x1 x2 x3
          go_wp2_with fail
          refine wp_region_then (unhide HA) (by kernel_rfl) (by kernel_rfl) (by kernel_rfl) ?_
          dsimp only [swapLast, lastOf]
          repeat (go_big_quiet_step (fail))
          refine wpQuiet_nil ?_
          rintro _ ⟨y, rfl⟩
          go_simp
          go_wp2_with fail
          go_roundw
          case rel => exact ⟨2 + 1, rfl, by omega, unhide NX y⟩
          case measure => simp [intOf]
        · obtain ⟨x1, x2, x3⟩ := (unhide E2).2 (by omega)
          have hlt' : ¬ (2 : Int) < (L : Int) := by omega
          have q0 : wr.cell? ⟨w.heap.size + 1 + 1, 8, none⟩ = some (.bool false) := hs.s.c 8 (by simp [vtAt])
          have g0 : wr.frozen? ⟨w.heap.size + 1 + 1, 8, none⟩ = false := hs.s.f 8 (by simp [vtAt])
          have NX : Hid (See w (wr.setCell ⟨w.heap.size + 1 + 1, 8, none⟩ (.bool true)) n h a1 a2 L c1 c2 o0 d0 s0 o1 d1 s1 o2 d2 s2 o3 d3 s3 o4 d4 s4 (2 + 1)) := hide (by
            rw [x1, x2, x3] at hs ⊢
            exact ⟨hs.p.other (by first | (simp; done) | (simp; omega)) _, hs.r.other (by first | (simp; done) | (simp; omega)) _, hs.s.set 8 (by simp [vtAt]) _, hs.b.setCell (by simp; omega) _⟩)
          clear hs x1 x2 x3
          go_wp2_with fail
          go_roundw
          case rel => exact ⟨2 + 1, rfl, by omega, unhide NX⟩
          case measure => simp [intOf]
      · skip
        subst hj
        clear hk hk5
        by_cases hlt : 3 < L
        · obtain ⟨x1, x2, x3⟩ := (unhide E3).1 hlt
          have hlt' : (3 : Int) < (L : Int) := by omega
          have rb := (unhide R).below hs.b
          have rz := (unhide RZ).below hs.b
          rcases rb.r1.open1 with ⟨h0, _⟩ | ⟨b1, f1, rfl, _, y1⟩
          · omega
          rcases rb.r2.open_ with ⟨h0, _⟩ | ⟨b2, f2, rfl, _, y2⟩
          · omega
          rcases rz.open_ with ⟨h0, _⟩ | ⟨b3, f3, rfl, _, y3⟩
          · omega
          have y1 : wr.cell? ⟨b1, f1 + 3, none⟩ = some (.bool o3) := by rw [← x1]; exact y1 3 hlt
          have y2 : wr.cell? ⟨b2, f2 + 3, none⟩ = some (.int .i64 d3) := by rw [← x2]; exact y2 3 hlt
          have y3 : wr.cell? ⟨b3, f3 + 3, none⟩ = some (.int .i64 s3) := by rw [← x3]; exact y3 3 hlt
          obtain ⟨ι, f, _, hbf, hall⟩ := belClass wr
          have z1 : ∀ x, (f x).cell? ⟨b1, f1 + 3, none⟩ = some (.bool o3) := fun x => ((hbf x).cell (block_lt_of_cell y1)).trans y1
          have z2 : ∀ x, (f x).cell? ⟨b2, f2 + 3, none⟩ = some (.int .i64 d3) := fun x => ((hbf x).cell (block_lt_of_cell y2)).trans y2
          have z3 : ∀ x, (f x).cell? ⟨b3, f3 + 3, none⟩ = some (.int .i64 s3) := fun x => ((hbf x).cell (block_lt_of_cell y3)).trans y3
          have p2 : ∀ x, (f x).cell? ⟨w.heap.size, 2, none⟩ = some (.slice (some ⟨b1, f1, none⟩) L c1) := fun x => (hs.p.below (hbf x)).c 2 (by simp)
          have p3 : ∀ x, (f x).cell? ⟨w.heap.size, 3, none⟩ = some (.slice (some ⟨b2, f2, none⟩) L c2) := fun x => (hs.p.below (hbf x)).c 3 (by simp)
          have q0 : ∀ x, (f x).cell? ⟨w.heap.size + 1 + 1, 11, none⟩ = some (.bool false) := fun x => (hs.s.below (hbf x)).c 11 (by simp [vtAt])
          have q1 : ∀ x, (f x).cell? ⟨w.heap.size + 1 + 1, 11 + 1, none⟩ = some (.int .i64 0) := fun x => (hs.s.below (hbf x)).c (11 + 1) (by simp [vtAt])
          have q2 : ∀ x, (f x).cell? ⟨w.heap.size + 1 + 1, 11 + 2, none⟩ = some (.int .i64 0) := fun x => (hs.s.below (hbf x)).c (11 + 2) (by simp [vtAt])
          have g0 : ∀ x, (f x).frozen? ⟨w.heap.size + 1 + 1, 11, none⟩ = false := fun x => (hs.s.below (hbf x)).f 11 (by simp [vtAt])
          have g1 : ∀ x, (f x).frozen? ⟨w.heap.size + 1 + 1, 11 + 1, none⟩ = false := fun x => (hs.s.below (hbf x)).f (11 + 1) (by simp [vtAt])
          have g2 : ∀ x, (f x).frozen? ⟨w.heap.size + 1 + 1, 11 + 2, none⟩ = false := fun x => (hs.s.below (hbf x)).f (11 + 2) (by simp [vtAt])
          have NX : Hid (∀ x, See w ((((f x).setCell ⟨w.heap.size + 1 + 1, 11, none⟩ (.bool o3)).setCell ⟨w.heap.size + 1 + 1, 11 + 1, none⟩ (.int .i64 d3)).setCell ⟨w.heap.size + 1 + 1, 11 + 2, none⟩ (.int .i64 s3)) n h (some ⟨b1, f1, none⟩) (some ⟨b2, f2, none⟩) L c1 c2 o0 d0 s0 o1 d1 s1 o2 d2 s2 o3 d3 s3 o4 d4 s4 (3 + 1)) := hide (fun x => by
            refine ⟨(((hs.p.below (hbf x)).other (by first | (simp; done) | (simp; omega)) _).other (by first | (simp; done) | (simp; omega)) _).other (by first | (simp; done) | (simp; omega)) _, (((hs.r.below (hbf x)).other (by first | (simp; done) | (simp; omega)) _).other (by first | (simp; done) | (simp; omega)) _).other (by first | (simp; done) | (simp; omega)) _, ?_, ?_⟩
            · exact ((((hs.s.below (hbf x)).set 11 (by simp [vtAt]) _).set (11 + 1) (by simp [vtAt]) _).set (11 + 2) (by simp [vtAt]) _)
            · exact (((hs.b.trans ((hbf x).mono hs.b.size)).setCell (by simp; omega) _).setCell (by simp; omega) _).setCell (by simp; omega) _)
          have HA := hide hall
          clear hs hbf hall rb rz y1 y2 y3 x1 x2 x3
          go_wp2_with fail
          refine wp_region_then (unhide HA) (by kernel_rfl) (by kernel_rfl) (by kernel_rfl) ?_
          dsimp only [swapLast, lastOf]
          repeat (go_big_quiet_step (fail))
          refine wpQuiet_nil ?_
          rintro _ ⟨y, rfl⟩
          go_simp
          go_wp2_with fail
          go_roundw
          case rel => exact ⟨3 + 1, rfl, by omega, unhide NX y⟩
          case measure => simp [intOf]
        · obtain ⟨x1, x2, x3⟩ := (unhide E3).2 (by omega)
          have hlt' : ¬ (3 : Int) < (L : Int) := by omega
          have q0 : wr.cell? ⟨w.heap.size + 1 + 1, 11, none⟩ = some (.bool false) := hs.s.c 11 (by simp [vtAt])
          have g0 : wr.frozen? ⟨w.heap.size + 1 + 1, 11, none⟩ = false := hs.s.f 11 (by simp [vtAt])
          have NX : Hid (See w (wr.setCell ⟨w.heap.size + 1 + 1, 11, none⟩ (.bool true)) n h a1 a2 L c1 c2 o0 d0 s0 o1 d1 s1 o2 d2 s2 o3 d3 s3 o4 d4 s4 (3 + 1)) := hide (by
            rw [x1, x2, x3] at hs ⊢
            exact ⟨hs.p.other (by first | (simp; done) | (simp; omega)) _, hs.r.other (by first | (simp; done) | (simp; omega)) _, hs.s.set 11 (by simp [vtAt]) _, hs.b.setCell (by simp; omega) _⟩)
          clear hs x1 x2 x3
          go_wp2_with fail
          go_roundw
          case rel => exact ⟨3 + 1, rfl, by omega, unhide NX⟩
          case measure => simp [intOf]
      · skip
        subst hj
        clear hk hk5
        by_cases hlt : 4 < L
        · obtain ⟨x1, x2, x3⟩ := (unhide E4).1 hlt
          have hlt' : (4 : Int) < (L : Int) := by omega
          have rb := (unhide R).below hs.b
          have rz := (unhide RZ).below hs.b
          rcases rb.r1.open1 with ⟨h0, _⟩ | ⟨b1, f1, rfl, _, y1⟩
          · omega
          rcases rb.r2.open_ with ⟨h0, _⟩ | ⟨b2, f2, rfl, _, y2⟩
          · omega
          rcases rz.open_ with ⟨h0, _⟩ | ⟨b3, f3, rfl, _, y3⟩
          · omega
          have y1 : wr.cell? ⟨b1, f1 + 4, none⟩ = some (.bool o4) := by rw [← x1]; exact y1 4 hlt
          have y2 : wr.cell? ⟨b2, f2 + 4, none⟩ = some (.int .i64 d4) := by rw [← x2]; exact y2 4 hlt
          have y3 : wr.cell? ⟨b3, f3 + 4, none⟩ = some (.int .i64 s4) := by rw [← x3]; exact y3 4 hlt
          obtain ⟨ι, f, _, hbf, hall⟩ := belClass wr
          have z1 : ∀ x, (f x).cell? ⟨b1, f1 + 4, none⟩ = some (.bool o4) := fun x => ((hbf x).cell (block_lt_of_cell y1)).trans y1
          have z2 : ∀ x, (f x).cell? ⟨b2, f2 + 4, none⟩ = some (.int .i64 d4) := fun x => ((hbf x).cell (block_lt_of_cell y2)).trans y2
          have z3 : ∀ x, (f x).cell? ⟨b3, f3 + 4, none⟩ = some (.int .i64 s4) := fun x => ((hbf x).cell (block_lt_of_cell y3)).trans y3
          have p2 : ∀ x, (f x).cell? ⟨w.heap.size, 2, none⟩ = some (.slice (some ⟨b1, f1, none⟩) L c1) := fun x => (hs.p.below (hbf x)).c 2 (by simp)
          have p3 : ∀ x, (f x).cell? ⟨w.heap.size, 3, none⟩ = some (.slice (some ⟨b2, f2, none⟩) L c2) := fun x => (hs.p.below (hbf x)).c 3 (by simp)
          have q0 : ∀ x, (f x).cell? ⟨w.heap.size + 1 + 1, 14, none⟩ = some (.bool false) := fun x => (hs.s.below (hbf x)).c 14 (by simp [vtAt])
          have q1 : ∀ x, (f x).cell? ⟨w.heap.size + 1 + 1, 14 + 1, none⟩ = some (.int .i64 0) := fun x => (hs.s.below (hbf x)).c (14 + 1) (by simp [vtAt])
          have q2 : ∀ x, (f x).cell? ⟨w.heap.size + 1 + 1, 14 + 2, none⟩ = some (.int .i64 0) := fun x => (hs.s.below (hbf x)).c (14 + 2) (by simp [vtAt])
          have g0 : ∀ x, (f x).frozen? ⟨w.heap.size + 1 + 1, 14, none⟩ = false := fun x => (hs.s.below (hbf x)).f 14 (by simp [vtAt])
          have g1 : ∀ x, (f x).frozen? ⟨w.heap.size + 1 + 1, 14 + 1, none⟩ = false := fun x => (hs.s.below (hbf x)).f (14 + 1) (by simp [vtAt])
          have g2 : ∀ x, (f x).frozen? ⟨w.heap.size + 1 + 1, 14 + 2, none⟩ = false := fun x => (hs.s.below (hbf x)).f (14 + 2) (by simp [vtAt])
          have NX : Hid (∀ x, See w ((((f x).setCell ⟨w.heap.size + 1 + 1, 14, none⟩ (.bool o4)).setCell ⟨w.heap.size + 1 + 1, 14 + 1, none⟩ (.int .i64 d4)).setCell ⟨w.heap.size + 1 + 1, 14 + 2, none⟩ (.int .i64 s4)) n h (some ⟨b1, f1, none⟩) (some ⟨b2, f2, none⟩) L c1 c2 o0 d0 s0 o1 d1 s1 o2 d2 s2 o3 d3 s3 o4 d4 s4 (4 + 1)) := hide (fun x => by
            refine ⟨(((hs.p.below (hbf x)).other (by first | (simp; done) | (simp; omega)) _).other (by first | (simp; done) | (simp; omega)) _).other (by first | (simp; done) | (simp; omega)) _, (((hs.r.below (hbf x)).other (by first | (simp; done) | (simp; omega)) _).other (by first | (simp; done) | (simp; omega)) _).other (by first | (simp; done) | (simp; omega)) _, ?_, ?_⟩
            · exact ((((hs.s.below (hbf x)).set 14 (by simp [vtAt]) _).set (14 + 1) (by simp [vtAt]) _).set (14 + 2) (by simp [vtAt]) _)
            · exact (((hs.b.trans ((hbf x).mono hs.b.size)).setCell (by simp; omega) _).setCell (by simp; omega) _).setCell (by simp; omega) _)
          have HA := hide hall
          clear hs hbf hall rb rz y1 y2 y3 x1 x2 x3
          go_wp2_with fail
          refine wp_region_then (unhide HA) (by kernel_rfl) (by kernel_rfl) (by kernel_rfl) ?_
          dsimp only [swapLast, lastOf]
          repeat (go_big_quiet_step (fail))
          refine wpQuiet_nil ?_
          rintro _ ⟨y, rfl⟩
          go_simp
          go_wp2_with fail
          go_roundw
          case rel => exact ⟨4 + 1, rfl, by omega, unhide NX y⟩
          case measure => simp [intOf]
        · obtain ⟨x1, x2, x3⟩ := (unhide E4).2 (by omega)
          have hlt' : ¬ (4 : Int) < (L : Int) := by omega
          have q0 : wr.cell? ⟨w.heap.size + 1 + 1, 14, none⟩ = some (.bool false) := hs.s.c 14 (by simp [vtAt])
          have g0 : wr.frozen? ⟨w.heap.size + 1 + 1, 14, none⟩ = false := hs.s.f 14 (by simp [vtAt])
          have NX : Hid (See w (wr.setCell ⟨w.heap.size + 1 + 1, 14, none⟩ (.bool true)) n h a1 a2 L c1 c2 o0 d0 s0 o1 d1 s1 o2 d2 s2 o3 d3 s3 o4 d4 s4 (4 + 1)) := hide (by
            rw [x1, x2, x3] at hs ⊢
            exact ⟨hs.p.other (by first | (simp; done) | (simp; omega)) _, hs.r.other (by first | (simp; done) | (simp; omega)) _, hs.s.set 14 (by simp [vtAt]) _, hs.b.setCell (by simp; omega) _⟩)
          clear hs x1 x2 x3
          go_wp2_with fail
          go_roundw
          case rel => exact ⟨4 + 1, rfl, by omega, unhide NX⟩
          case measure => simp [intOf]
    · obtain rfl : k = 5 := by omega
      have HS := hide hs
      clear hs
      go_wp2_with (first
        | ((with_reducible show wpList _ _ _ (⟨_, .load 81 _, _, _, _, none⟩ :: _) _ _); refine at_loadAgg (vs := [.int .i64 n, .int .i64 h, .bool o0, .int .i64 d0, .int .i64 s0, .bool o1, .int .i64 d1, .int .i64 s1, .bool o2, .int .i64 d2, .int .i64 s2, .bool o3, .int .i64 d3, .int .i64 s3, .bool o4, .int .i64 d4, .int .i64 s4]) Try.isAgg81 Try.sizeOf81 rfl (unhide HS).s ?_)
        | ((with_reducible show wpList _ _ _ (⟨none, .store 81 _ _, _, _, _, none⟩ :: _) _ _); refine at_storeAgg (us := [.int .i64 0, .int .i64 0, .bool false, .int .i64 0, .int .i64 0, .bool false, .int .i64 0, .int .i64 0, .bool false, .int .i64 0, .int .i64 0, .bool false, .int .i64 0, .int .i64 0, .bool false, .int .i64 0, .int .i64 0]) (vs := [.int .i64 n, .int .i64 h, .bool o0, .int .i64 d0, .int .i64 s0, .bool o1, .int .i64 d1, .int .i64 s1, .bool o2, .int .i64 d2, .int .i64 s2, .bool o3, .int .i64 d3, .int .i64 s3, .bool o4, .int .i64 d4, .int .i64 s4]) Try.sizeOf81 rfl rfl (unhide HS).r rfl (by simp [Value.oneCell']) ?_; intro w2 k2 g2))
      have HB := hide ((unhide HS).b.grown g2 (unhide HS).b.size (fun q hq => by cases hq; omega))
      exact bodyPost_ret (results_cell (vs := [.int .i64 n, .int .i64 h, .bool o0, .int .i64 d0, .int .i64 s0, .bool o1, .int .i64 d1, .int .i64 s1, .bool o2, .int .i64 d2, .int .i64 s2, .bool o3, .int .i64 d3, .int .i64 s3, .bool o4, .int .i64 d4, .int .i64 s4]) rfl Try.isAgg81 Try.sizeOf81 rfl k2) rfl ⟨rfl, unhide HB⟩

end Go.Proofs.Ytidgkkldhnckead

/-
  What the program's writtenTo answers: the voter with its lanes' lists written anew, in new memory. At lists of at most five; nothing that was there is written.
-/
import Derived.Test.YtidgkkldhnckeadVtSee
import Derived.Test.YtidgkkldhnckeadCopyIs
namespace Go.Proofs.Ytidgkkldhnckead
open Go.RowKit

theorem elAt_take {α : Type} [Inhabited α] (xs : List α) (n i : Nat) (h : i < n) : elAt (xs.take n) i = elAt xs i := by unfold elAt; rw [List.getElem?_take_of_lt h]
theorem take_of_el {α : Type} [Inhabited α] {B X : List α} {L : Nat} (hB : B.length = L) (hX : L ≤ X.length) (h : ∀ i, i < L → elAt B i = elAt X i) : B = X.take L := by
  apply List.ext_getElem (by simp; omega)
  intro i h1 h2
  have := h i (by omega)
  simp only [elAt, List.getElem?_eq_getElem h1, List.getElem?_eq_getElem (show i < X.length by omega), Option.getD_some] at this
  simpa using this
theorem take_of_nth {B X : List Int} {L : Nat} (hB : B.length = L) (hX : L ≤ X.length) (h : ∀ i, i < L → nth B i = nth X i) : B = X.take L := by
  apply List.ext_getElem (by simp; omega)
  intro i h1 h2
  have := h i (by omega)
  simp only [nth, List.getElem?_eq_getElem h1, List.getElem?_eq_getElem (show i < X.length by omega), Option.getD_some] at this
  simpa using this

/-- What lies at the head of a round. -/
structure Wrt (w wr : World) (n h N H : Int) (g1 g2 : Nat) (L e1 e2 : Nat) (o0 : Bool) (d0 s0 : Int) (o1 : Bool) (d1 s1 : Int) (o2 : Bool) (d2 s2 : Int) (o3 : Bool) (d3 s3 : Int) (o4 : Bool) (d4 s4 : Int) (k : Nat) (B : List Bool) (D : List Int) : Prop where
  v : Blk wr w.heap.size [.int .i64 n, .int .i64 h, .bool o0, .int .i64 d0, .int .i64 s0, .bool o1, .int .i64 d1, .int .i64 s1, .bool o2, .int .i64 d2, .int .i64 s2, .bool o3, .int .i64 d3, .int .i64 s3, .bool o4, .int .i64 d4, .int .i64 s4]
  p : Blk wr (w.heap.size + 1) [.int .i64 N, .int .i64 H, .slice (some ⟨g1, 0, none⟩) L e1, .slice (some ⟨g2, 0, none⟩) L e2]
  r : Blk wr (w.heap.size + 1 + 1) [.int .i64 0, .int .i64 0, .slice none 0 0, .slice none 0 0]
  k1 : OwnE 1 boC wr (w.heap.size + 1 + 1 + 1) 4 (.slice (some ⟨g1, 0, none⟩) L e1) B
  k2 : OwnI wr (w.heap.size + 1 + 1 + 1) (.slice (some ⟨g2, 0, none⟩) L e2) D
  ne : g1 ≠ g2
  l1 : B.length = L
  l2 : D.length = L
  x1 : ∀ i, i < k → elAt B i = elAt [o0, o1, o2, o3, o4] i
  x2 : ∀ i, i < k → nth D i = nth [d0, d1, d2, d3, d4] i
  b : Below w.heap.size w wr
theorem Wrt.below {w wr w2 : World} {n h N H : Int} {g1 g2 : Nat} {L e1 e2 : Nat} {o0 : Bool} {d0 s0 : Int} {o1 : Bool} {d1 s1 : Int} {o2 : Bool} {d2 s2 : Int} {o3 : Bool} {d3 s3 : Int} {o4 : Bool} {d4 s4 : Int} {k : Nat} {B : List Bool} {D : List Int} (S : Wrt w wr n h N H g1 g2 L e1 e2 o0 d0 s0 o1 d1 s1 o2 d2 s2 o3 d3 s3 o4 d4 s4 k B D) (b : Below wr.heap.size wr w2) : Wrt w w2 n h N H g1 g2 L e1 e2 o0 d0 s0 o1 d1 s1 o2 d2 s2 o3 d3 s3 o4 d4 s4 k B D :=
  ⟨S.v.below b, S.p.below b, S.r.below b, S.k1.below b, S.k2.below b, S.ne, S.l1, S.l2, S.x1, S.x2, S.b.trans (b.mono S.b.size)⟩
theorem Wrt.set1 {w wr : World} {n h N H : Int} {g1 g2 : Nat} {L e1 e2 : Nat} {o0 : Bool} {d0 s0 : Int} {o1 : Bool} {d1 s1 : Int} {o2 : Bool} {d2 s2 : Int} {o3 : Bool} {d3 s3 : Int} {o4 : Bool} {d4 s4 : Int} {k : Nat} {B : List Bool} {D : List Int} (S : Wrt w wr n h N H g1 g2 L e1 e2 o0 d0 s0 o1 d1 s1 o2 d2 s2 o3 d3 s3 o4 d4 s4 k B D) (hk : k < L) (x : Bool) :
    Wrt w (wr.setCell ⟨g1, k, none⟩ (.bool x)) n h N H g1 g2 L e1 e2 o0 d0 s0 o1 d1 s1 o2 d2 s2 o3 d3 s3 o4 d4 s4 k (B.set k x) D := by
  have l := S.k1.lies g1 rfl
  refine ⟨S.v.other (by simp; omega) _, S.p.other (by simp; omega) _, S.r.other (by simp; omega) _, S.k1.set1 S.l1 k hk _ x rfl, S.k2.set_other _ (by simp [Value.ownBlock]; exact fun e => S.ne e.symm), S.ne, by simp [S.l1], S.l2, fun i hi => ?_, S.x2, S.b.setCell (by simp; omega) _⟩
  rw [elAt_set _ _ _ _ (by rw [S.l1]; exact hk), if_neg (by omega)]
  exact S.x1 i hi
theorem Wrt.set2 {w wr : World} {n h N H : Int} {g1 g2 : Nat} {L e1 e2 : Nat} {o0 : Bool} {d0 s0 : Int} {o1 : Bool} {d1 s1 : Int} {o2 : Bool} {d2 s2 : Int} {o3 : Bool} {d3 s3 : Int} {o4 : Bool} {d4 s4 : Int} {k : Nat} {B : List Bool} {D : List Int} (S : Wrt w wr n h N H g1 g2 L e1 e2 o0 d0 s0 o1 d1 s1 o2 d2 s2 o3 d3 s3 o4 d4 s4 k B D) (hk : k < L) (x : Int) (hx : -9223372036854775808 ≤ x ∧ x ≤ 9223372036854775807)
    (q1 : elAt B k = elAt [o0, o1, o2, o3, o4] k) (q2 : x = nth [d0, d1, d2, d3, d4] k) : Wrt w (wr.setCell ⟨g2, k, none⟩ (.int .i64 x)) n h N H g1 g2 L e1 e2 o0 d0 s0 o1 d1 s1 o2 d2 s2 o3 d3 s3 o4 d4 s4 (k + 1) B (D.set k x) := by
  have l := S.k2.lies g2 rfl
  have o2 := S.k2
  rw [← S.l2] at o2
  have o3 := o2.set k (by rw [S.l2]; exact hk) x hx
  rw [S.l2] at o3
  refine ⟨S.v.other (by simp; omega) _, S.p.other (by simp; omega) _, S.r.other (by simp; omega) _, S.k1.set_other _ (by simp [Value.ownBlock]; exact S.ne), o3, S.ne, S.l1, by simp [S.l2], fun i hi => ?_, fun i hi => ?_, S.b.setCell (by simp; omega) _⟩
  · rcases Nat.lt_succ_iff_lt_or_eq.1 hi with h | h
    · exact S.x1 i h
    · subst h; exact q1
  · rw [nth_set _ _ _ _ (by rw [S.l2]; exact hk)]
    rcases Nat.lt_succ_iff_lt_or_eq.1 hi with h | h
    · rw [if_neg (by omega)]; exact S.x2 i h
    · subst h; rw [if_pos rfl]; exact q2

set_option maxRecDepth 20000 in
set_option maxHeartbeats 8000000 in
theorem writtenTo_any (n h N H : Int) (o0 : Bool) (d0 s0 : Int) (o1 : Bool) (d1 s1 : Int) (o2 : Bool) (d2 s2 : Int) (o3 : Bool) (d3 s3 : Int) (o4 : Bool) (d4 s4 : Int) (a1 a2 : Option Addr) (L c1 c2 : Nat) (bs : List Bool) (os : List Int) (w : World) (hr : VoIn w a1 a2 L L bs os) (hL : 1 ≤ L ∧ L ≤ 5) (hd : ∀ i : Nat, -9223372036854775808 ≤ nth [d0, d1, d2, d3, d4] i ∧ nth [d0, d1, d2, d3, d4] i ≤ 9223372036854775807) :
    Calls Try.prog 40 #[.agg #[.int .i64 n, .int .i64 h, .bool o0, .int .i64 d0, .int .i64 s0, .bool o1, .int .i64 d1, .int .i64 s1, .bool o2, .int .i64 d2, .int .i64 s2, .bool o3, .int .i64 d3, .int .i64 s3, .bool o4, .int .i64 d4, .int .i64 s4], .agg #[.int .i64 N, .int .i64 H, .slice a1 L c1, .slice a2 L c2]] w fun x w' => ∃ g1 e1 g2 e2, x = .returned (.agg #[.int .i64 N, .int .i64 H, .slice g1 L e1, .slice g2 L e2]) ∧ VoOwn w' w.heap.size g1 g2 L e1 L e2 ([o0, o1, o2, o3, o4].take L) ([d0, d1, d2, d3, d4].take L) ∧ Below w.heap.size w w' := by
  have HD := hide hd
  have hL1 := hL.1
  have hL2 := hL.2
  have Z1 := hide hr.r1.len_eq
  have Z2 := hide hr.r2.len_eq
  obtain ⟨W, hW⟩ : ∃ W, W = ((w.alloc (Obj.cells #[.int .i64 n, .int .i64 h, .bool o0, .int .i64 d0, .int .i64 s0, .bool o1, .int .i64 d1, .int .i64 s1, .bool o2, .int .i64 d2, .int .i64 s2, .bool o3, .int .i64 d3, .int .i64 s3, .bool o4, .int .i64 d4, .int .i64 s4] 81)).alloc (Obj.cells #[.int .i64 N, .int .i64 H, .slice a1 L c1, .slice a2 L c2] 28)).alloc (Obj.cells #[.int .i64 0, .int .i64 0, .slice none 0 0, .slice none 0 0] 28) := ⟨_, rfl⟩
  have KV : Hid (Blk W w.heap.size [.int .i64 n, .int .i64 h, .bool o0, .int .i64 d0, .int .i64 s0, .bool o1, .int .i64 d1, .int .i64 s1, .bool o2, .int .i64 d2, .int .i64 s2, .bool o3, .int .i64 d3, .int .i64 s3, .bool o4, .int .i64 d4, .int .i64 s4]) := hide (by rw [hW]; exact ((Blk.new (w := w) [.int .i64 n, .int .i64 h, .bool o0, .int .i64 d0, .int .i64 s0, .bool o1, .int .i64 d1, .int .i64 s1, .bool o2, .int .i64 d2, .int .i64 s2, .bool o3, .int .i64 d3, .int .i64 s3, .bool o4, .int .i64 d4, .int .i64 s4] 81).alloc _).alloc _)
  have KP : Hid (Blk W (w.heap.size + 1) [.int .i64 N, .int .i64 H, .slice a1 L c1, .slice a2 L c2]) := hide (by
    rw [hW]
    have := (Blk.new (w := w.alloc (Obj.cells #[.int .i64 n, .int .i64 h, .bool o0, .int .i64 d0, .int .i64 s0, .bool o1, .int .i64 d1, .int .i64 s1, .bool o2, .int .i64 d2, .int .i64 s2, .bool o3, .int .i64 d3, .int .i64 s3, .bool o4, .int .i64 d4, .int .i64 s4] 81)) [.int .i64 N, .int .i64 H, .slice a1 L c1, .slice a2 L c2] 28).alloc (Obj.cells #[.int .i64 0, .int .i64 0, .slice none 0 0, .slice none 0 0] 28)
    simpa using this)
  have KR : Hid (Blk W (w.heap.size + 1 + 1) [.int .i64 0, .int .i64 0, .slice none 0 0, .slice none 0 0]) := hide (by
    rw [hW]
    have := Blk.new (w := (w.alloc (Obj.cells #[.int .i64 n, .int .i64 h, .bool o0, .int .i64 d0, .int .i64 s0, .bool o1, .int .i64 d1, .int .i64 s1, .bool o2, .int .i64 d2, .int .i64 s2, .bool o3, .int .i64 d3, .int .i64 s3, .bool o4, .int .i64 d4, .int .i64 s4] 81)).alloc (Obj.cells #[.int .i64 N, .int .i64 H, .slice a1 L c1, .slice a2 L c2] 28)) [.int .i64 0, .int .i64 0, .slice none 0 0, .slice none 0 0] 28
    simpa using this)
  have HB : Hid (Below w.heap.size w W) := hide (by rw [hW]; exact bel3 _ _ _)
  have hsz : W.heap.size = w.heap.size + 1 + 1 + 1 := by rw [hW]; simp
  have RW := hide (hr.below (unhide HB))
  have HSZ := hide hsz
  have HW := hide hW
  clear hr hW hd hL hsz
  go_enter Try.func40, Try.ntmps40
  go_wp2_with fail
  rw [← unhide HW]
  clear HW
  refine (copied_any N H a1 a2 L c1 L c2 bs os W (unhide RW) (by omega) (by omega)).mono ?_
  rintro x v1 ⟨q1, e1, q2, e2, rfl, vo, b⟩
  have f1 : ∃ g1, q1 = some ⟨g1, 0, none⟩ := by
    rcases vo.o1.form with ⟨e, h0⟩ | ⟨g, c', e, _⟩
    · have := unhide Z1; rw [h0] at this; simp at this; omega
    · simp only [Value.slice.injEq] at e; exact ⟨g, e.1⟩
  have f2 : ∃ g2, q2 = some ⟨g2, 0, none⟩ := by
    rcases vo.o2.form with ⟨e, h0⟩ | ⟨g, c', e, _⟩
    · have := unhide Z2; rw [h0] at this; simp at this; omega
    · simp only [Value.slice.injEq] at e; exact ⟨g, e.1⟩
  obtain ⟨g1, rfl⟩ := f1
  obtain ⟨g2, rfl⟩ := f2
  have l1 := vo.o1.lies g1 rfl
  have l2 := vo.o2.lies g2 rfl
  have hne : g1 ≠ g2 := fun e => vo.p12 g1 rfl (by rw [e]; rfl)
  have kp := (unhide KP).below b
  have y0 : v1.cell? ⟨w.heap.size + 1, 0, none⟩ = some (.int .i64 N) := kp.c 0 (by simp)
  have z0 : v1.frozen? ⟨w.heap.size + 1, 0, none⟩ = false := kp.f 0 (by simp)
  have y1 : v1.cell? ⟨w.heap.size + 1, 1, none⟩ = some (.int .i64 H) := kp.c 1 (by simp)
  have z1 : v1.frozen? ⟨w.heap.size + 1, 1, none⟩ = false := kp.f 1 (by simp)
  have y2 : v1.cell? ⟨w.heap.size + 1, 2, none⟩ = some (.slice a1 L c1) := kp.c 2 (by simp)
  have z2 : v1.frozen? ⟨w.heap.size + 1, 2, none⟩ = false := kp.f 2 (by simp)
  have y3 : v1.cell? ⟨w.heap.size + 1, 3, none⟩ = some (.slice a2 L c2) := kp.c 3 (by simp)
  have z3 : v1.frozen? ⟨w.heap.size + 1, 3, none⟩ = false := kp.f 3 (by simp)
  have S1 : Hid (Wrt w ((((v1.setCell ⟨w.heap.size + 1, 0, none⟩ (.int .i64 N)).setCell ⟨w.heap.size + 1, 1, none⟩ (.int .i64 H)).setCell ⟨w.heap.size + 1, 2, none⟩ (.slice (some ⟨g1, 0, none⟩) L e1)).setCell ⟨w.heap.size + 1, 3, none⟩ (.slice (some ⟨g2, 0, none⟩) L e2)) n h N H g1 g2 L e1 e2 o0 d0 s0 o1 d1 s1 o2 d2 s2 o3 d3 s3 o4 d4 s4 0 bs os) := hide (by
    have hs := unhide HSZ
    refine ⟨?_, ?_, ?_, ?_, ?_, hne, unhide Z1, unhide Z2, fun i hi => by omega, fun i hi => by omega, ?_⟩
    · exact (((((unhide KV).below b).other (by simp) _).other (by simp) _).other (by simp) _).other (by simp) _
    · exact (((kp.set 0 (by simp) _).set 1 (by simp) _).set 2 (by simp) _).set 3 (by simp) _
    · exact (((((unhide KR).below b).other (by simp) _).other (by simp) _).other (by simp) _).other (by simp) _
    · refine OwnE.set_other (OwnE.set_other (OwnE.set_other (OwnE.set_other (vo.o1.mono (by omega)) _ ?_) _ ?_) _ ?_) _ ?_ <;> (simp [Value.ownBlock]; omega)
    · refine OwnI.set_other (OwnI.set_other (OwnI.set_other (OwnI.set_other (vo.o2.mono (by omega)) _ ?_) _ ?_) _ ?_) _ ?_ <;> (simp [Value.ownBlock]; omega)
    · exact ((((((unhide HB).trans (b.mono (unhide HB).size)).setCell (by simp) _).setCell (by simp) _).setCell (by simp) _).setCell (by simp) _))
  clear vo b kp KV KP KR HB RW hne l1 l2
  go_wp2_with fail
  go_loopw [11] (fun i wr => ∃ (k : Nat) (B : List Bool) (D : List Int), i = .int .i64 (k : Int) ∧ k ≤ L ∧ Wrt w wr n h N H g1 g2 L e1 e2 o0 d0 s0 o1 d1 s1 o2 d2 s2 o3 d3 s3 o4 d4 s4 k B D) (fun i _ => L - (intOf i).toNat)
  case atStart => exact ⟨0, bs, os, rfl, by omega, unhide S1⟩
  case round =>
    clear S1 y0 z0 y1 z1 y2 z2 y3 z3
    obtain ⟨k, B, D, rfl, hk, hs⟩ := hrel
    have HS := hide hs
    clear hs
    by_cases hlt : k < L
    · rcases (show k = 0 ∨ k = 1 ∨ k = 2 ∨ k = 3 ∨ k = 4 by omega) with hj | hj | hj | hj | hj
      · skip
        subst hj
        have hlt' : (0 : Int) < (L : Int) := by omega
        obtain ⟨ι, f, _, hbf, hall⟩ := belClass wr
        have v0 : ∀ x, (f x).cell? ⟨w.heap.size, 2, none⟩ = some (.bool o0) := fun x => ((unhide HS).below (hbf x)).v.c 2 (by simp)
        have p2 : ∀ x, (f x).cell? ⟨w.heap.size + 1, 2, none⟩ = some (.slice (some ⟨g1, 0, none⟩) L e1) := fun x => ((unhide HS).below (hbf x)).p.c 2 (by simp)
        have c1 : ∀ x, (f x).cell? ⟨g1, 0, none⟩ = some (.bool (elAt B 0)) := fun x => (((unhide HS).below (hbf x)).k1.here1 (unhide HS).l1 0 hlt).1
        have z1 : ∀ x, (f x).frozen? ⟨g1, 0, none⟩ = false := fun x => (((unhide HS).below (hbf x)).k1.here1 (unhide HS).l1 0 hlt).2
        have NX : Hid (∀ x, Wrt w ((f x).setCell ⟨g1, 0, none⟩ (.bool o0)) n h N H g1 g2 L e1 e2 o0 d0 s0 o1 d1 s1 o2 d2 s2 o3 d3 s3 o4 d4 s4 0 (B.set 0 o0) D) := hide (fun x => ((unhide HS).below (hbf x)).set1 hlt o0)
        have LB1 := hide (unhide HS).l1
        have HA := hide hall
        clear hbf hall HS
        go_wp2_with fail
        refine wp_region_then (unhide HA) (by kernel_rfl) (by kernel_rfl) (by kernel_rfl) ?_
        dsimp only [swapLast, lastOf]
        repeat (go_big_quiet_step (fail))
        refine wpQuiet_nil ?_
        rintro _ ⟨y, rfl⟩
        go_simp
        obtain ⟨U, hU⟩ : ∃ U, U = (f y).setCell ⟨g1, 0, none⟩ (.bool o0) := ⟨_, rfl⟩
        have SU := unhide NX y
        rw [← hU] at SU ⊢
        clear hU NX HA v0 p2 c1 z1
        obtain ⟨ι2, f2, _, hbf2, hall2⟩ := belClass U
        have v0 : ∀ x, (f2 x).cell? ⟨w.heap.size, 3, none⟩ = some (.int .i64 d0) := fun x => (SU.below (hbf2 x)).v.c 3 (by simp)
        have p2 : ∀ x, (f2 x).cell? ⟨w.heap.size + 1, 3, none⟩ = some (.slice (some ⟨g2, 0, none⟩) L e2) := fun x => (SU.below (hbf2 x)).p.c 3 (by simp)
        have HD2 : ∀ x, (f2 x).cell? ⟨g2, 0, none⟩ = some (.int .i64 (nth D 0)) ∧ (f2 x).frozen? ⟨g2, 0, none⟩ = false := fun x => by
          have o := (SU.below (hbf2 x)).k2
          rw [← SU.l2] at o
          exact o.here 0 (by rw [SU.l2]; exact hlt)
        have c1 : ∀ x, (f2 x).cell? ⟨g2, 0, none⟩ = some (.int .i64 (nth D 0)) := fun x => (HD2 x).1
        have z1 : ∀ x, (f2 x).frozen? ⟨g2, 0, none⟩ = false := fun x => (HD2 x).2
        have NX : Hid (∀ x, Wrt w ((f2 x).setCell ⟨g2, 0, none⟩ (.int .i64 d0)) n h N H g1 g2 L e1 e2 o0 d0 s0 o1 d1 s1 o2 d2 s2 o3 d3 s3 o4 d4 s4 (0 + 1) (B.set 0 o0) (D.set 0 d0)) := hide (fun x => (SU.below (hbf2 x)).set2 hlt d0 ((unhide HD) 0) (by rw [elAt_set _ _ _ _ (by rw [unhide LB1]; exact hlt), if_pos rfl]; rfl) rfl)
        have HA := hide hall2
        clear hbf2 hall2 SU HD2
        go_wp2_with fail
        refine wp_region_then (unhide HA) (by kernel_rfl) (by kernel_rfl) (by kernel_rfl) ?_
        dsimp only [swapLast, lastOf]
        repeat (go_big_quiet_step (fail))
        refine wpQuiet_nil ?_
        rintro _ ⟨y2, rfl⟩
        go_simp
        go_wp2_with fail
        go_roundw
        case rel => exact ⟨0 + 1, _, _, rfl, by omega, unhide NX y2⟩
        case measure => simp [intOf]; omega
      · skip
        subst hj
        have hlt' : (1 : Int) < (L : Int) := by omega
        obtain ⟨ι, f, _, hbf, hall⟩ := belClass wr
        have v0 : ∀ x, (f x).cell? ⟨w.heap.size, 5, none⟩ = some (.bool o1) := fun x => ((unhide HS).below (hbf x)).v.c 5 (by simp)
        have p2 : ∀ x, (f x).cell? ⟨w.heap.size + 1, 2, none⟩ = some (.slice (some ⟨g1, 0, none⟩) L e1) := fun x => ((unhide HS).below (hbf x)).p.c 2 (by simp)
        have c1 : ∀ x, (f x).cell? ⟨g1, 1, none⟩ = some (.bool (elAt B 1)) := fun x => (((unhide HS).below (hbf x)).k1.here1 (unhide HS).l1 1 hlt).1
        have z1 : ∀ x, (f x).frozen? ⟨g1, 1, none⟩ = false := fun x => (((unhide HS).below (hbf x)).k1.here1 (unhide HS).l1 1 hlt).2
        have NX : Hid (∀ x, Wrt w ((f x).setCell ⟨g1, 1, none⟩ (.bool o1)) n h N H g1 g2 L e1 e2 o0 d0 s0 o1 d1 s1 o2 d2 s2 o3 d3 s3 o4 d4 s4 1 (B.set 1 o1) D) := hide (fun x => ((unhide HS).below (hbf x)).set1 hlt o1)
        have LB1 := hide (unhide HS).l1
        have HA := hide hall
        clear hbf hall HS
        go_wp2_with fail
        refine wp_region_then (unhide HA) (by kernel_rfl) (by kernel_rfl) (by kernel_rfl) ?_
        dsimp only [swapLast, lastOf]
        repeat (go_big_quiet_step (fail))
        refine wpQuiet_nil ?_
        rintro _ ⟨y, rfl⟩
        go_simp
        obtain ⟨U, hU⟩ : ∃ U, U = (f y).setCell ⟨g1, 1, none⟩ (.bool o1) := ⟨_, rfl⟩
        have SU := unhide NX y
        rw [← hU] at SU ⊢
        clear hU NX HA v0 p2 c1 z1
        obtain ⟨ι2, f2, _, hbf2, hall2⟩ := belClass U
        have v0 : ∀ x, (f2 x).cell? ⟨w.heap.size, 6, none⟩ = some (.int .i64 d1) := fun x => (SU.below (hbf2 x)).v.c 6 (by simp)
        have p2 : ∀ x, (f2 x).cell? ⟨w.heap.size + 1, 3, none⟩ = some (.slice (some ⟨g2, 0, none⟩) L e2) := fun x => (SU.below (hbf2 x)).p.c 3 (by simp)
        have HD2 : ∀ x, (f2 x).cell? ⟨g2, 1, none⟩ = some (.int .i64 (nth D 1)) ∧ (f2 x).frozen? ⟨g2, 1, none⟩ = false := fun x => by
          have o := (SU.below (hbf2 x)).k2
          rw [← SU.l2] at o
          exact o.here 1 (by rw [SU.l2]; exact hlt)
        have c1 : ∀ x, (f2 x).cell? ⟨g2, 1, none⟩ = some (.int .i64 (nth D 1)) := fun x => (HD2 x).1
        have z1 : ∀ x, (f2 x).frozen? ⟨g2, 1, none⟩ = false := fun x => (HD2 x).2
        have NX : Hid (∀ x, Wrt w ((f2 x).setCell ⟨g2, 1, none⟩ (.int .i64 d1)) n h N H g1 g2 L e1 e2 o0 d0 s0 o1 d1 s1 o2 d2 s2 o3 d3 s3 o4 d4 s4 (1 + 1) (B.set 1 o1) (D.set 1 d1)) := hide (fun x => (SU.below (hbf2 x)).set2 hlt d1 ((unhide HD) 1) (by rw [elAt_set _ _ _ _ (by rw [unhide LB1]; exact hlt), if_pos rfl]; rfl) rfl)
        have HA := hide hall2
        clear hbf2 hall2 SU HD2
        go_wp2_with fail
        refine wp_region_then (unhide HA) (by kernel_rfl) (by kernel_rfl) (by kernel_rfl) ?_
        dsimp only [swapLast, lastOf]
        repeat (go_big_quiet_step (fail))
        refine wpQuiet_nil ?_
        rintro _ ⟨y2, rfl⟩
        go_simp
        go_wp2_with fail
        go_roundw
        case rel => exact ⟨1 + 1, _, _, rfl, by omega, unhide NX y2⟩
        case measure => simp [intOf]; omega
      · skip
        subst hj
        have hlt' : (2 : Int) < (L : Int) := by omega
        obtain ⟨ι, f, _, hbf, hall⟩ := belClass wr
        have v0 : ∀ x, (f x).cell? ⟨w.heap.size, 8, none⟩ = some (.bool o2) := fun x => ((unhide HS).below (hbf x)).v.c 8 (by simp)
        have p2 : ∀ x, (f x).cell? ⟨w.heap.size + 1, 2, none⟩ = some (.slice (some ⟨g1, 0, none⟩) L e1) := fun x => ((unhide HS).below (hbf x)).p.c 2 (by simp)
        have c1 : ∀ x, (f x).cell? ⟨g1, 2, none⟩ = some (.bool (elAt B 2)) := fun x => (((unhide HS).below (hbf x)).k1.here1 (unhide HS).l1 2 hlt).1
        have z1 : ∀ x, (f x).frozen? ⟨g1, 2, none⟩ = false := fun x => (((unhide HS).below (hbf x)).k1.here1 (unhide HS).l1 2 hlt).2
        have NX : Hid (∀ x, Wrt w ((f x).setCell ⟨g1, 2, none⟩ (.bool o2)) n h N H g1 g2 L e1 e2 o0 d0 s0 o1 d1 s1 o2 d2 s2 o3 d3 s3 o4 d4 s4 2 (B.set 2 o2) D) := hide (fun x => ((unhide HS).below (hbf x)).set1 hlt o2)
        have LB1 := hide (unhide HS).l1
        have HA := hide hall
        clear hbf hall HS
        go_wp2_with fail
        refine wp_region_then (unhide HA) (by kernel_rfl) (by kernel_rfl) (by kernel_rfl) ?_
        dsimp only [swapLast, lastOf]
        repeat (go_big_quiet_step (fail))
        refine wpQuiet_nil ?_
        rintro _ ⟨y, rfl⟩
        go_simp
        obtain ⟨U, hU⟩ : ∃ U, U = (f y).setCell ⟨g1, 2, none⟩ (.bool o2) := ⟨_, rfl⟩
        have SU := unhide NX y
        rw [← hU] at SU ⊢
        clear hU NX HA v0 p2 c1 z1
        obtain ⟨ι2, f2, _, hbf2, hall2⟩ := belClass U
        have v0 : ∀ x, (f2 x).cell? ⟨w.heap.size, 9, none⟩ = some (.int .i64 d2) := fun x => (SU.below (hbf2 x)).v.c 9 (by simp)
        have p2 : ∀ x, (f2 x).cell? ⟨w.heap.size + 1, 3, none⟩ = some (.slice (some ⟨g2, 0, none⟩) L e2) := fun x => (SU.below (hbf2 x)).p.c 3 (by simp)
        have HD2 : ∀ x, (f2 x).cell? ⟨g2, 2, none⟩ = some (.int .i64 (nth D 2)) ∧ (f2 x).frozen? ⟨g2, 2, none⟩ = false := fun x => by
          have o := (SU.below (hbf2 x)).k2
          rw [← SU.l2] at o
          exact o.here 2 (by rw [SU.l2]; exact hlt)
        have c1 : ∀ x, (f2 x).cell? ⟨g2, 2, none⟩ = some (.int .i64 (nth D 2)) := fun x => (HD2 x).1
        have z1 : ∀ x, (f2 x).frozen? ⟨g2, 2, none⟩ = false := fun x => (HD2 x).2
        have NX : Hid (∀ x, Wrt w ((f2 x).setCell ⟨g2, 2, none⟩ (.int .i64 d2)) n h N H g1 g2 L e1 e2 o0 d0 s0 o1 d1 s1 o2 d2 s2 o3 d3 s3 o4 d4 s4 (2 + 1) (B.set 2 o2) (D.set 2 d2)) := hide (fun x => (SU.below (hbf2 x)).set2 hlt d2 ((unhide HD) 2) (by rw [elAt_set _ _ _ _ (by rw [unhide LB1]; exact hlt), if_pos rfl]; rfl) rfl)
        have HA := hide hall2
        clear hbf2 hall2 SU HD2
        go_wp2_with fail
        refine wp_region_then (unhide HA) (by kernel_rfl) (by kernel_rfl) (by kernel_rfl) ?_
        dsimp only [swapLast, lastOf]
        repeat (go_big_quiet_step (fail))
        refine wpQuiet_nil ?_
        rintro _ ⟨y2, rfl⟩
        go_simp
        go_wp2_with fail
        go_roundw
        case rel => exact ⟨2 + 1, _, _, rfl, by omega, unhide NX y2⟩
        case measure => simp [intOf]; omega
      · skip
        subst hj
        have hlt' : (3 : Int) < (L : Int) := by omega
        obtain ⟨ι, f, _, hbf, hall⟩ := belClass wr
        have v0 : ∀ x, (f x).cell? ⟨w.heap.size, 11, none⟩ = some (.bool o3) := fun x => ((unhide HS).below (hbf x)).v.c 11 (by simp)
        have p2 : ∀ x, (f x).cell? ⟨w.heap.size + 1, 2, none⟩ = some (.slice (some ⟨g1, 0, none⟩) L e1) := fun x => ((unhide HS).below (hbf x)).p.c 2 (by simp)
        have c1 : ∀ x, (f x).cell? ⟨g1, 3, none⟩ = some (.bool (elAt B 3)) := fun x => (((unhide HS).below (hbf x)).k1.here1 (unhide HS).l1 3 hlt).1
        have z1 : ∀ x, (f x).frozen? ⟨g1, 3, none⟩ = false := fun x => (((unhide HS).below (hbf x)).k1.here1 (unhide HS).l1 3 hlt).2
        have NX : Hid (∀ x, Wrt w ((f x).setCell ⟨g1, 3, none⟩ (.bool o3)) n h N H g1 g2 L e1 e2 o0 d0 s0 o1 d1 s1 o2 d2 s2 o3 d3 s3 o4 d4 s4 3 (B.set 3 o3) D) := hide (fun x => ((unhide HS).below (hbf x)).set1 hlt o3)
        have LB1 := hide (unhide HS).l1
        have HA := hide hall
        clear hbf hall HS
        go_wp2_with fail
        refine wp_region_then (unhide HA) (by kernel_rfl) (by kernel_rfl) (by kernel_rfl) ?_
        dsimp only [swapLast, lastOf]
        repeat (go_big_quiet_step (fail))
        refine wpQuiet_nil ?_
        rintro _ ⟨y, rfl⟩
        go_simp
        obtain ⟨U, hU⟩ : ∃ U, U = (f y).setCell ⟨g1, 3, none⟩ (.bool o3) := ⟨_, rfl⟩
        have SU := unhide NX y
        rw [← hU] at SU ⊢
        clear hU NX HA v0 p2 c1 z1
        obtain ⟨ι2, f2, _, hbf2, hall2⟩ := belClass U
        have v0 : ∀ x, (f2 x).cell? ⟨w.heap.size, 12, none⟩ = some (.int .i64 d3) := fun x => (SU.below (hbf2 x)).v.c 12 (by simp)
        have p2 : ∀ x, (f2 x).cell? ⟨w.heap.size + 1, 3, none⟩ = some (.slice (some ⟨g2, 0, none⟩) L e2) := fun x => (SU.below (hbf2 x)).p.c 3 (by simp)
        have HD2 : ∀ x, (f2 x).cell? ⟨g2, 3, none⟩ = some (.int .i64 (nth D 3)) ∧ (f2 x).frozen? ⟨g2, 3, none⟩ = false := fun x => by
          have o := (SU.below (hbf2 x)).k2
          rw [← SU.l2] at o
          exact o.here 3 (by rw [SU.l2]; exact hlt)
        have c1 : ∀ x, (f2 x).cell? ⟨g2, 3, none⟩ = some (.int .i64 (nth D 3)) := fun x => (HD2 x).1
        have z1 : ∀ x, (f2 x).frozen? ⟨g2, 3, none⟩ = false := fun x => (HD2 x).2
        have NX : Hid (∀ x, Wrt w ((f2 x).setCell ⟨g2, 3, none⟩ (.int .i64 d3)) n h N H g1 g2 L e1 e2 o0 d0 s0 o1 d1 s1 o2 d2 s2 o3 d3 s3 o4 d4 s4 (3 + 1) (B.set 3 o3) (D.set 3 d3)) := hide (fun x => (SU.below (hbf2 x)).set2 hlt d3 ((unhide HD) 3) (by rw [elAt_set _ _ _ _ (by rw [unhide LB1]; exact hlt), if_pos rfl]; rfl) rfl)
        have HA := hide hall2
        clear hbf2 hall2 SU HD2
        go_wp2_with fail
        refine wp_region_then (unhide HA) (by kernel_rfl) (by kernel_rfl) (by kernel_rfl) ?_
        dsimp only [swapLast, lastOf]
        repeat (go_big_quiet_step (fail))
        refine wpQuiet_nil ?_
        rintro _ ⟨y2, rfl⟩
        go_simp
        go_wp2_with fail
        go_roundw
        case rel => exact ⟨3 + 1, _, _, rfl, by omega, unhide NX y2⟩
        case measure => simp [intOf]; omega
      · skip
        subst hj
        have hlt' : (4 : Int) < (L : Int) := by omega
        obtain ⟨ι, f, _, hbf, hall⟩ := belClass wr
        have v0 : ∀ x, (f x).cell? ⟨w.heap.size, 14, none⟩ = some (.bool o4) := fun x => ((unhide HS).below (hbf x)).v.c 14 (by simp)
        have p2 : ∀ x, (f x).cell? ⟨w.heap.size + 1, 2, none⟩ = some (.slice (some ⟨g1, 0, none⟩) L e1) := fun x => ((unhide HS).below (hbf x)).p.c 2 (by simp)
        have c1 : ∀ x, (f x).cell? ⟨g1, 4, none⟩ = some (.bool (elAt B 4)) := fun x => (((unhide HS).below (hbf x)).k1.here1 (unhide HS).l1 4 hlt).1
        have z1 : ∀ x, (f x).frozen? ⟨g1, 4, none⟩ = false := fun x => (((unhide HS).below (hbf x)).k1.here1 (unhide HS).l1 4 hlt).2
        have NX : Hid (∀ x, Wrt w ((f x).setCell ⟨g1, 4, none⟩ (.bool o4)) n h N H g1 g2 L e1 e2 o0 d0 s0 o1 d1 s1 o2 d2 s2 o3 d3 s3 o4 d4 s4 4 (B.set 4 o4) D) := hide (fun x => ((unhide HS).below (hbf x)).set1 hlt o4)
        have LB1 := hide (unhide HS).l1
        have HA := hide hall
        clear hbf hall HS
        go_wp2_with fail
        refine wp_region_then (unhide HA) (by kernel_rfl) (by kernel_rfl) (by kernel_rfl) ?_
        dsimp only [swapLast, lastOf]
        repeat (go_big_quiet_step (fail))
        refine wpQuiet_nil ?_
        rintro _ ⟨y, rfl⟩
        go_simp
        obtain ⟨U, hU⟩ : ∃ U, U = (f y).setCell ⟨g1, 4, none⟩ (.bool o4) := ⟨_, rfl⟩
        have SU := unhide NX y
        rw [← hU] at SU ⊢
        clear hU NX HA v0 p2 c1 z1
        obtain ⟨ι2, f2, _, hbf2, hall2⟩ := belClass U
        have v0 : ∀ x, (f2 x).cell? ⟨w.heap.size, 15, none⟩ = some (.int .i64 d4) := fun x => (SU.below (hbf2 x)).v.c 15 (by simp)
        have p2 : ∀ x, (f2 x).cell? ⟨w.heap.size + 1, 3, none⟩ = some (.slice (some ⟨g2, 0, none⟩) L e2) := fun x => (SU.below (hbf2 x)).p.c 3 (by simp)
        have HD2 : ∀ x, (f2 x).cell? ⟨g2, 4, none⟩ = some (.int .i64 (nth D 4)) ∧ (f2 x).frozen? ⟨g2, 4, none⟩ = false := fun x => by
          have o := (SU.below (hbf2 x)).k2
          rw [← SU.l2] at o
          exact o.here 4 (by rw [SU.l2]; exact hlt)
        have c1 : ∀ x, (f2 x).cell? ⟨g2, 4, none⟩ = some (.int .i64 (nth D 4)) := fun x => (HD2 x).1
        have z1 : ∀ x, (f2 x).frozen? ⟨g2, 4, none⟩ = false := fun x => (HD2 x).2
        have NX : Hid (∀ x, Wrt w ((f2 x).setCell ⟨g2, 4, none⟩ (.int .i64 d4)) n h N H g1 g2 L e1 e2 o0 d0 s0 o1 d1 s1 o2 d2 s2 o3 d3 s3 o4 d4 s4 (4 + 1) (B.set 4 o4) (D.set 4 d4)) := hide (fun x => (SU.below (hbf2 x)).set2 hlt d4 ((unhide HD) 4) (by rw [elAt_set _ _ _ _ (by rw [unhide LB1]; exact hlt), if_pos rfl]; rfl) rfl)
        have HA := hide hall2
        clear hbf2 hall2 SU HD2
        go_wp2_with fail
        refine wp_region_then (unhide HA) (by kernel_rfl) (by kernel_rfl) (by kernel_rfl) ?_
        dsimp only [swapLast, lastOf]
        repeat (go_big_quiet_step (fail))
        refine wpQuiet_nil ?_
        rintro _ ⟨y2, rfl⟩
        go_simp
        go_wp2_with fail
        go_roundw
        case rel => exact ⟨4 + 1, _, _, rfl, by omega, unhide NX y2⟩
        case measure => simp [intOf]; omega
    · obtain rfl : k = L := by omega
      have hlt' : ¬ (k : Int) < (k : Int) := by omega
      have SS := unhide HS
      have u0 : wr.cell? ⟨w.heap.size + 1, 0, none⟩ = some (.int .i64 N) := SS.p.c 0 (by simp)
      have r0 : wr.cell? ⟨w.heap.size + 1 + 1, 0, none⟩ = some (.int .i64 0) := SS.r.c 0 (by simp)
      have t0 : wr.frozen? ⟨w.heap.size + 1 + 1, 0, none⟩ = false := SS.r.f 0 (by simp)
      have u1 : wr.cell? ⟨w.heap.size + 1, 1, none⟩ = some (.int .i64 H) := SS.p.c 1 (by simp)
      have r1 : wr.cell? ⟨w.heap.size + 1 + 1, 1, none⟩ = some (.int .i64 0) := SS.r.c 1 (by simp)
      have t1 : wr.frozen? ⟨w.heap.size + 1 + 1, 1, none⟩ = false := SS.r.f 1 (by simp)
      have u2 : wr.cell? ⟨w.heap.size + 1, 2, none⟩ = some (.slice (some ⟨g1, 0, none⟩) k e1) := SS.p.c 2 (by simp)
      have r2 : wr.cell? ⟨w.heap.size + 1 + 1, 2, none⟩ = some (.slice none 0 0) := SS.r.c 2 (by simp)
      have t2 : wr.frozen? ⟨w.heap.size + 1 + 1, 2, none⟩ = false := SS.r.f 2 (by simp)
      have u3 : wr.cell? ⟨w.heap.size + 1, 3, none⟩ = some (.slice (some ⟨g2, 0, none⟩) k e2) := SS.p.c 3 (by simp)
      have r3 : wr.cell? ⟨w.heap.size + 1 + 1, 3, none⟩ = some (.slice none 0 0) := SS.r.c 3 (by simp)
      have t3 : wr.frozen? ⟨w.heap.size + 1 + 1, 3, none⟩ = false := SS.r.f 3 (by simp)
      have m1 := SS.k1
      have m2 := SS.k2
      have l1 := m1.lies g1 rfl
      have l2 := m2.lies g2 rfl
      have hB := SS.b
      have m1 := m1.set_other (S := w.heap.size + 1 + 1) (o := 0) (.int .i64 N) (by simp [Value.ownBlock]; omega)
      have m2 := m2.set_other (S := w.heap.size + 1 + 1) (o := 0) (.int .i64 N) (by simp [Value.ownBlock]; omega)
      have hB := hB.setCell (p := ⟨w.heap.size + 1 + 1, 0, none⟩) (by simp; omega) (.int .i64 N)
      have m1 := m1.set_other (S := w.heap.size + 1 + 1) (o := 1) (.int .i64 H) (by simp [Value.ownBlock]; omega)
      have m2 := m2.set_other (S := w.heap.size + 1 + 1) (o := 1) (.int .i64 H) (by simp [Value.ownBlock]; omega)
      have hB := hB.setCell (p := ⟨w.heap.size + 1 + 1, 1, none⟩) (by simp; omega) (.int .i64 H)
      have m1 := m1.set_other (S := w.heap.size + 1 + 1) (o := 2) (.slice (some ⟨g1, 0, none⟩) k e1) (by simp [Value.ownBlock]; omega)
      have m2 := m2.set_other (S := w.heap.size + 1 + 1) (o := 2) (.slice (some ⟨g1, 0, none⟩) k e1) (by simp [Value.ownBlock]; omega)
      have hB := hB.setCell (p := ⟨w.heap.size + 1 + 1, 2, none⟩) (by simp; omega) (.slice (some ⟨g1, 0, none⟩) k e1)
      have m1 := m1.set_other (S := w.heap.size + 1 + 1) (o := 3) (.slice (some ⟨g2, 0, none⟩) k e2) (by simp [Value.ownBlock]; omega)
      have m2 := m2.set_other (S := w.heap.size + 1 + 1) (o := 3) (.slice (some ⟨g2, 0, none⟩) k e2) (by simp [Value.ownBlock]; omega)
      have hB := hB.setCell (p := ⟨w.heap.size + 1 + 1, 3, none⟩) (by simp; omega) (.slice (some ⟨g2, 0, none⟩) k e2)
      have eB : B = [o0, o1, o2, o3, o4].take k := take_of_el SS.l1 (by simpa using hL2) SS.x1
      have eD : D = [d0, d1, d2, d3, d4].take k := take_of_nth SS.l2 (by simpa using hL2) SS.x2
      rw [eB] at m1
      rw [eD] at m2
      have HN := hide (VoOwn.mk (m1.mono (base' := w.heap.size) (by omega)) (m2.mono (base' := w.heap.size) (by omega)) (fun g h1 h2 => SS.ne ((fresh_own h1).symm.trans (fresh_own h2))))
      have HB := hide hB
      clear SS HS m1 m2 hB eB eD l1 l2
      go_wp2_with fail
      refine bodyPost_ret (v := .agg #[.int .i64 N, .int .i64 H, .slice (some ⟨g1, 0, none⟩) k e1, .slice (some ⟨g2, 0, none⟩) k e2]) (by simp [results, Try.results40, go_sem, *]) rfl ⟨some ⟨g1, 0, none⟩, e1, some ⟨g2, 0, none⟩, e2, rfl, unhide HN, unhide HB⟩

end Go.Proofs.Ytidgkkldhnckead

/-
  A region that draws its order, whose own operations only read and whose callees answer one plain value and make memory only: one walk, in the order of the text, serves every order. The class of worlds: those in which nothing that was there has turned. No condition.
  Callees that make one, two, three blocks, in a region that draws its order. No condition.
  Alert of the model and of the program: the plain answer, at every argument; nothing that was there is written.
-/
import Derived.Test.YtndhiecakojjgafBase
import Derived.Deep.Quiet
import Derived.Test.YtndhiecakojjgafTaPure
import Derived.Test.YtndhiecakojjgafTaImpl

namespace Go.Proofs.Ytndhiecakojjgaf
open Go.RowKit

/-- The worlds in which nothing that was there in w has turned, as the values of a function. -/
theorem belClass (w : World) : ∃ (ι : Type) (f : ι → World), Nonempty ι ∧ (∀ x, Below w.heap.size w (f x)) ∧ (∀ w', Below w.heap.size w w' → ∃ x, w' = f x) :=
  ⟨{w' // Below w.heap.size w w'}, Subtype.val, ⟨⟨w, Below.refl _ _⟩⟩, fun x => x.2, fun w' h => ⟨⟨w', h⟩, rfl⟩⟩

theorem wp_region_bel {P : Program} {id : Nat} {Q : Exit → Act → World → Prop} {a : Act} {w : World} {l : List Oper} {ι : Type} {f : ι → World} (hall : ∀ w', Below w.heap.size w w' → ∃ x, w' = f x)
    (hm : P.follows .mixedOrders = true) (hB : Region.lexB .any l.toArray = true)
    (h : wpQuiet P l.toArray (fun w' => ∃ x, w' = f x) (fun a' => ∀ w', (∃ x, w' = f x) → Q .normal a' w') l a) : (Code.region id l.toArray true).wp P Q a w :=
  wp_region_quiet (C := fun w' => ∃ x, w' = f x) hm hB (hall _ ⟨rfl, rfl, rfl, Nat.le_refl _, fun _ _ => rfl⟩) (by simpa using h)

/-- A callee's contract in such a walk. -/
theorem belQ {P : Program} {F : FuncId} {args : Array Value} {w : World} {ι : Type} {f : ι → World} (hb : ∀ x, Below w.heap.size w (f x)) (hall : ∀ w', Below w.heap.size w w' → ∃ x, w' = f x) {x : ι} {v : Value}
    (h : Calls P F args (f x) fun e w' => e = .returned v ∧ Below (f x).heap.size (f x) w') : Calls P F args (f x) fun e w'' => e = .returned v ∧ ∃ y, w'' = f y :=
  h.mono fun _ _ ⟨he, k⟩ => ⟨he, hall _ ((hb x).trans (k.mono (hb x).size))⟩
theorem belS {P : Program} {F : FuncId} {args : Array Value} {ι : Type} {f : ι → World} {x : ι} {v : Value}
    (h : Calls P F args (f x) fun e w' => e = .returned v ∧ w' = f x) : Calls P F args (f x) fun e w'' => e = .returned v ∧ ∃ y, w'' = f y :=
  h.mono fun _ _ ⟨he, k⟩ => ⟨he, x, k⟩
theorem belN {P : Program} {F : FuncId} {args : Array Value} {w : World} {ι : Type} {f : ι → World} (hb : ∀ x, Below w.heap.size w (f x)) (hall : ∀ w', Below w.heap.size w w' → ∃ x, w' = f x) {x : ι} {v : Value}
    (h : Calls P F args (f x) fun e w' => e = .returned v ∧ ∃ n, w' = (f x).drewN n) : Calls P F args (f x) fun e w'' => e = .returned v ∧ ∃ y, w'' = f y :=
  h.mono fun _ _ ⟨he, n, k⟩ => ⟨he, hall _ (by rw [k]; exact (hb x).trans (bel0d' n))⟩

end Go.Proofs.Ytndhiecakojjgaf

namespace Go.Proofs.Ytndhiecakojjgaf
open Go.RowKit

theorem belA1 {P : Program} {F : FuncId} {args : Array Value} {w : World} {ι : Type} {f : ι → World} (hb : ∀ x, Below w.heap.size w (f x)) (hall : ∀ w', Below w.heap.size w w' → ∃ x, w' = f x) {x : ι} {v : Value} {o0 : Obj}
    (h : Calls P F args (f x) fun e w' => e = .returned v ∧ w' = ((f x).alloc o0)) : Calls P F args (f x) fun e w'' => e = .returned v ∧ ∃ y, w'' = f y :=
  belQ hb hall (h.mono fun _ _ ⟨he, k⟩ => ⟨he, by rw [k]; repeat (first | exact Below.refl _ _ | refine Below.alloc ?_ (by simp; try omega) _)⟩)

theorem belA2 {P : Program} {F : FuncId} {args : Array Value} {w : World} {ι : Type} {f : ι → World} (hb : ∀ x, Below w.heap.size w (f x)) (hall : ∀ w', Below w.heap.size w w' → ∃ x, w' = f x) {x : ι} {v : Value} {o0 o1 : Obj}
    (h : Calls P F args (f x) fun e w' => e = .returned v ∧ w' = (((f x).alloc o0).alloc o1)) : Calls P F args (f x) fun e w'' => e = .returned v ∧ ∃ y, w'' = f y :=
  belQ hb hall (h.mono fun _ _ ⟨he, k⟩ => ⟨he, by rw [k]; repeat (first | exact Below.refl _ _ | refine Below.alloc ?_ (by simp; try omega) _)⟩)

theorem belA3 {P : Program} {F : FuncId} {args : Array Value} {w : World} {ι : Type} {f : ι → World} (hb : ∀ x, Below w.heap.size w (f x)) (hall : ∀ w', Below w.heap.size w w' → ∃ x, w' = f x) {x : ι} {v : Value} {o0 o1 o2 : Obj}
    (h : Calls P F args (f x) fun e w' => e = .returned v ∧ w' = ((((f x).alloc o0).alloc o1).alloc o2)) : Calls P F args (f x) fun e w'' => e = .returned v ∧ ∃ y, w'' = f y :=
  belQ hb hall (h.mono fun _ _ ⟨he, k⟩ => ⟨he, by rw [k]; repeat (first | exact Below.refl _ _ | refine Below.alloc ?_ (by simp; try omega) _)⟩)

theorem belAl {W X : World} (h : Below W.heap.size W X) (o : Obj) : Below W.heap.size W (X.alloc o) := h.alloc h.size o
theorem belG {P : Program} {F : FuncId} {args : Array Value} {W X : World} {ι : Type} {f : ι → World} (hall : ∀ w', Below W.heap.size W w' → ∃ x, w' = f x) {v : Value} (hX : Below W.heap.size W X)
    (h : Calls P F args X fun e w' => e = .returned v ∧ Below X.heap.size X w') : Calls P F args X fun e w'' => e = .returned v ∧ ∃ y, w'' = f y :=
  h.mono fun _ _ ⟨he, k⟩ => ⟨he, hall _ (hX.trans (k.mono hX.size))⟩

theorem thB_four (oi oh oc os ti th tc tf tk ts near wi : Int) : thB oi oh oc os ti th tc tf tk ts near wi = (tiB ti th tc tf tk ts && (avB oi oh oc os && inB near 0 10000 && inB wi 1 300) && !(oi == ti) && decide (tiN ti th tc tf tk ts ≤ wi) && decide (((dfN oh oc th tc (tiN ti th tc tf tk ts)).natAbs : Int) < near)) := by
  unfold thB
  cases tiB ti th tc tf tk ts <;> cases avB oi oh oc os <;> cases (oi == ti) <;> cases inB near 0 10000 <;> simp
theorem dfN_is (oh oc th tc n : Int) : oh + n * oc - (th + n * tc) = dfN oh oc th tc n := by unfold dfN; omega

end Go.Proofs.Ytndhiecakojjgaf

namespace Go.Proofs.Ytndhiecakojjgaf
open Go.RowKit

theorem al_no {gs : List Int} {h c m : Int} (hv : alOk gs h c m = false) : alR gs h c m = -1 ∧ alB gs h c m = false := by simp [alR, alB, hv]
theorem al_here {gs : List Int} {h c m : Int} {k : Nat} (hv : alOk gs h c m = true) (hk : k < gs.length) (e : alF gs h c m = k) : alR gs h c m = k ∧ alB gs h c m = true := by
  have : alB gs h c m = true := by simp [alB, hv, e, hk]
  simp [alR, this, e]
theorem al_none {gs : List Int} {h c m : Int} (e : alF gs h c m = gs.length) : alR gs h c m = -1 ∧ alB gs h c m = false := by
  have : alB gs h c m = false := by simp [alB, e]
  simp [alR, this]

theorem l1All_is {r : Bool} (ad : Option Addr) (len cap : Nat) (zs : List Int) (a b : Int) (w : World) (hr : Row w ad len zs) (hc : allB zs a b = r) :
    Calls Try.prog 37 #[.slice ad len cap, .int .i64 a, .int .i64 b] w fun e w' => e = .returned (.bool r) ∧ ∃ n, w' = w.drewN n := by rw [← hc]; exact l1All_any ad len cap zs a b w hr
theorem allWithin_is {r : Bool} (ad : Option Addr) (len cap : Nat) (zs : List Int) (a b : Int) (w : World) (hr : Row w ad len zs) (hc : allB zs a b = r) :
    Calls Try.prog 65 #[.slice ad len cap, .int .i64 a, .int .i64 b] w fun e w' => e = .returned (.bool r) ∧ ∃ n, w' = w.drewN n := by rw [← hc]; exact allWithin_any ad len cap zs a b w hr

set_option maxRecDepth 20000 in
set_option maxHeartbeats 1000000 in
theorem specAlert_is {n : Int} {b : Bool} (ad : Option Addr) (len cap : Nat) (gs : List Int) (h c m : Int) (w : World) (hr : Row w ad len gs) (hn : alR gs h c m = n) (hb : alB gs h c m = b) :
    Calls Try.prog 11 #[.slice ad len cap, .int .i64 h, .int .i64 c, .int .i64 m] w fun e w' => e = .returned (.tuple #[.int .i64 n, .bool b]) ∧ Below w.heap.size w w' := by
  have hz := hr.len_eq
  have hs := hr.small
  have HR := hide hr
  clear hr
  subst hz
  obtain ⟨ι, fW, _, hb, hall⟩ := belClass w
  have HB := hide hb
  have HA := hide hall
  clear hb hall
  obtain ⟨x0, h0⟩ := (unhide HA) w (Below.refl _ _)
  rcases five (decide (gs.length ≤ 200)) (allB gs (-1000) 60000) (inB h (-1000) 60000) (inB c (-200) 200) (inB m 0 5000) with ⟨q1, hv⟩ | ⟨q1, q2, hv⟩ | ⟨q1, q2, q3, hv⟩ | ⟨q1, q2, q3, q4, hv⟩ | ⟨q1, q2, q3, q4, q5, hv⟩ | ⟨q1, q2, q3, q4, q5, hv⟩
  iterate 5
    · have HN := hide ((al_no (show alOk gs h c m = _ from hv)).1.symm.trans hn)
      have HV := hide ((al_no (show alOk gs h c m = _ from hv)).2.symm.trans hb)
      clear hv hn hb
      try (have l1 : (gs.length : Int) ≤ 200 := by simp only [decide_eq_true_eq] at q1; omega)
      try (have l2 : ¬ gs.length ≤ 200 := by simpa only [decide_eq_false_iff_not] using q1)
      try (have l3 : (200 : Int) < (gs.length : Int) := by omega)
      go_enter Try.func11, Try.ntmps11
      rw [h0]
      have H0 := hide h0
      clear h0
      go_wp2_with (first | (go_at_call 37; refine (belN (unhide HB) (unhide HA) (l1All_is _ _ _ gs _ _ _ ((unhide HR).below (unhide HB _)) (by exact q2))).mono ?_; rintro e _ ⟨rfl, y, rfl⟩) | (go_at_call 38; refine (belS (l1In_is _ _ _ _ (by first | exact q3 | exact q4 | exact q5))).mono ?_; rintro e _ ⟨rfl, y, rfl⟩))
      repeat (refine wp_region_bel (fun w' h => (unhide HA) w' ((unhide HB _).trans (h.mono (unhide HB _).size))) (by kernel_rfl) (by kernel_rfl) ?_; (repeat (go_big_quiet_step (first | (go_at_call 37; exact belN (unhide HB) (unhide HA) (l1All_is _ _ _ gs _ _ _ ((unhide HR).below (unhide HB _)) (by exact q2))) | (go_at_call 38; exact belS (l1In_is _ _ _ _ (by first | exact q3 | exact q4 | exact q5)))))); refine wpQuiet_nil ?_; rintro _ ⟨y, rfl⟩; (first | go_wp2_with (first | (go_at_call 37; refine (belN (unhide HB) (unhide HA) (l1All_is _ _ _ gs _ _ _ ((unhide HR).below (unhide HB _)) (by exact q2))).mono ?_; rintro e _ ⟨rfl, y, rfl⟩) | (go_at_call 38; refine (belS (l1In_is _ _ _ _ (by first | exact q3 | exact q4 | exact q5))).mono ?_; rintro e _ ⟨rfl, y, rfl⟩)) | go_wp2))
      go_ret2
      exact ⟨ret_ib (unhide HN) (unhide HV), (by first | (rw [← unhide H0]; exact unhide HB _) | (rw [← unhide H0]; exact Below.refl _ _))⟩
  have HO := hide (show alOk gs h c m = true from hv)
  have l1 : (gs.length : Int) ≤ 200 := by simp only [decide_eq_true_eq] at q1; omega
  have b3 := in_facts q3
  have b4 := in_facts q4
  have b5 := in_facts q5
  have HNN := hide hn
  have HBB := hide hb
  clear hv hn hb
  go_enter Try.func11, Try.ntmps11
  rw [h0]
  have H0 := hide h0
  clear h0
  go_wp2_with (first | (go_at_call 37; refine (belN (unhide HB) (unhide HA) (l1All_is _ _ _ gs _ _ _ ((unhide HR).below (unhide HB _)) (by exact q2))).mono ?_; rintro e _ ⟨rfl, y, rfl⟩) | (go_at_call 38; refine (belS (l1In_is _ _ _ _ (by first | exact q3 | exact q4 | exact q5))).mono ?_; rintro e _ ⟨rfl, y, rfl⟩))
  repeat (refine wp_region_bel (fun w' h => (unhide HA) w' ((unhide HB _).trans (h.mono (unhide HB _).size))) (by kernel_rfl) (by kernel_rfl) ?_; (repeat (go_big_quiet_step (first | (go_at_call 37; exact belN (unhide HB) (unhide HA) (l1All_is _ _ _ gs _ _ _ ((unhide HR).below (unhide HB _)) (by exact q2))) | (go_at_call 38; exact belS (l1In_is _ _ _ _ (by first | exact q3 | exact q4 | exact q5)))))); refine wpQuiet_nil ?_; rintro _ ⟨y, rfl⟩; (first | go_wp2_with (first | (go_at_call 37; refine (belN (unhide HB) (unhide HA) (l1All_is _ _ _ gs _ _ _ ((unhide HR).below (unhide HB _)) (by exact q2))).mono ?_; rintro e _ ⟨rfl, y, rfl⟩) | (go_at_call 38; refine (belS (l1In_is _ _ _ _ (by first | exact q3 | exact q4 | exact q5))).mono ?_; rintro e _ ⟨rfl, y, rfl⟩)) | go_wp2))
  have HAL := hide q2
  clear q2
  go_loopw [10] (fun i wr => ∃ (k : Nat) (x : ι), k ≤ gs.length ∧ i = .int .i64 k ∧ Hid (∀ j : Nat, j < k → ¬ h + (j : Int) * c - nth gs j < m) ∧ wr = fW x) (fun i _ => gs.length - (intOf i).toNat)
  case atStart => exact ⟨0, _, Nat.zero_le _, rfl, hide (fun j hj => by omega), rfl⟩
  case round =>
    obtain ⟨k, x, hk, rfl, HN, rfl⟩ := hrel
    by_cases hlt : k < gs.length
    · rcases (unhide HR).open_ with ⟨h0, _⟩ | ⟨bb, off, rfl, _, hc⟩
      · omega
      have m0 : ∀ x, (fW x).cell? ⟨bb, off + k, none⟩ = some (.int .i64 (nth gs k)) := fun x => ((unhide HB x).cell (block_lt_of_cell (hc k hlt))).trans (hc k hlt)
      clear hc
      have g1 := alAll_at (unhide HAL) hlt
      have g2 := mulBd (s := (k : Int)) (d := c) (A := 200) (B := 200) (by omega) (by omega) (by omega) (by omega) (by omega) (by omega)
      have k0 : (0 : Int) ≤ (k : Int) := by omega
      have k1 : (k : Int) < (gs.length : Int) := by omega
      by_cases hq : h + (k : Int) * c - nth gs k < m
      · have HE := hide (alF_here hlt hq (unhide HN))
        have hq2 : decide (h + (k : Int) * c - nth gs k < m) = true := decide_eq_true hq
        go_wp2_with (fail)
        repeat (refine wp_region_bel (fun w' h => (unhide HA) w' ((unhide HB _).trans (h.mono (unhide HB _).size))) (by kernel_rfl) (by kernel_rfl) ?_; (repeat (go_big_quiet_step (fail))); refine wpQuiet_nil ?_; rintro _ ⟨y, rfl⟩; (first | go_wp2_with (fail) | go_wp2))
        go_ret2
        exact ⟨ret_ib ((al_here (unhide HO) hlt (unhide HE)).1.symm.trans (unhide HNN)) ((al_here (unhide HO) hlt (unhide HE)).2.symm.trans (unhide HBB)), (by first | (rw [← unhide H0]; exact unhide HB _) | (rw [← unhide H0]; exact Below.refl _ _))⟩
      · have HQ := hide hq
        have hq2 : decide (h + (k : Int) * c - nth gs k < m) = false := decide_eq_false hq
        go_wp2_with (fail)
        repeat (refine wp_region_bel (fun w' h => (unhide HA) w' ((unhide HB _).trans (h.mono (unhide HB _).size))) (by kernel_rfl) (by kernel_rfl) ?_; (repeat (go_big_quiet_step (fail))); refine wpQuiet_nil ?_; rintro _ ⟨y, rfl⟩; (first | go_wp2_with (fail) | go_wp2))
        go_roundw
        case rel => exact ⟨k + 1, _, by omega, by go_num, hide (fun j hj => by rcases Nat.lt_succ_iff_lt_or_eq.1 hj with g | g; (have := unhide HN j g; omega); subst g; have := unhide HQ; omega), rfl⟩
        case measure => simp [intOf]; omega
    · have HE := hide (al_none (alF_none (fun j hj => unhide HN j (by omega))))
      have k1 : ¬ (k : Int) < (gs.length : Int) := by omega
      go_wp2_with (fail)
      go_ret2
      exact ⟨ret_ib ((unhide HE).1.symm.trans (unhide HNN)) ((unhide HE).2.symm.trans (unhide HBB)), (by first | (rw [← unhide H0]; exact unhide HB _) | (rw [← unhide H0]; exact Below.refl _ _))⟩

set_option maxRecDepth 20000 in
set_option maxHeartbeats 1000000 in
theorem groundOk_is {r : Bool} (ad : Option Addr) (len cap : Nat) (gs : List Int) (w : World) (hr : Row w ad len gs) (hc : (decide (gs.length ≤ 200) && allB gs (-1000) 60000) = r) :
    Calls Try.prog 34 #[.slice ad len cap] w fun e w' => e = .returned (.bool r) ∧ Below w.heap.size w w' := by
  have hz := hr.len_eq
  have hs := hr.small
  have HR := hide hr
  clear hr
  subst hz
  obtain ⟨ι, fW, _, hb, hall⟩ := belClass w
  have HB := hide hb
  have HA := hide hall
  clear hb hall
  obtain ⟨x0, h0⟩ := (unhide HA) w (Below.refl _ _)
  rcases two (decide (gs.length ≤ 200)) (allB gs (-1000) 60000) with ⟨q1, hv⟩ | ⟨q1, q2, hv⟩ | ⟨q1, q2, hv⟩
  all_goals
    have HV := hide (hv.symm.trans hc)
    clear hv hc
    try (have l1 : (gs.length : Int) ≤ 200 := by simp only [decide_eq_true_eq] at q1; omega)
    try (have l2 : ¬ gs.length ≤ 200 := by simpa only [decide_eq_false_iff_not] using q1)
    try (have l3 : ¬ (gs.length : Int) ≤ 200 := by omega)
    go_enter Try.func34, Try.ntmps34
    rw [h0]
    have H0 := hide h0
    clear h0
    go_wp2_with (first | (go_at_call 65; refine (belN (unhide HB) (unhide HA) (allWithin_is _ _ _ gs _ _ _ ((unhide HR).below (unhide HB _)) (by exact q2))).mono ?_; rintro e _ ⟨rfl, y, rfl⟩))
    repeat (refine wp_region_bel (fun w' h => (unhide HA) w' ((unhide HB _).trans (h.mono (unhide HB _).size))) (by kernel_rfl) (by kernel_rfl) ?_; (repeat (go_big_quiet_step (first | (go_at_call 65; exact belN (unhide HB) (unhide HA) (allWithin_is _ _ _ gs _ _ _ ((unhide HR).below (unhide HB _)) (by exact q2)))))); refine wpQuiet_nil ?_; rintro _ ⟨y, rfl⟩; (first | go_wp2_with (first | (go_at_call 65; refine (belN (unhide HB) (unhide HA) (allWithin_is _ _ _ gs _ _ _ ((unhide HR).below (unhide HB _)) (by exact q2))).mono ?_; rintro e _ ⟨rfl, y, rfl⟩)) | go_wp2))
    go_ret
    exact ⟨ret_bool (unhide HV), (by first | (rw [← unhide H0]; exact unhide HB _) | (rw [← unhide H0]; exact Below.refl _ _))⟩

set_option maxRecDepth 20000 in
set_option maxHeartbeats 1000000 in
theorem implAlert_is {n : Int} {b : Bool} (ad : Option Addr) (len cap : Nat) (gs : List Int) (h c m : Int) (w : World) (hr : Row w ad len gs) (hn : alR gs h c m = n) (hb : alB gs h c m = b) :
    Calls Try.prog 10 #[.slice ad len cap, .int .i64 h, .int .i64 c, .int .i64 m] w fun e w' => e = .returned (.tuple #[.int .i64 n, .bool b]) ∧ Below w.heap.size w w' := by
  have hz := hr.len_eq
  have hs := hr.small
  have HR := hide hr
  clear hr
  subst hz
  obtain ⟨ι, fW, _, hb, hall⟩ := belClass w
  have HB := hide hb
  have HA := hide hall
  clear hb hall
  obtain ⟨x0, h0⟩ := (unhide HA) w (Below.refl _ _)
  rcases four (decide (gs.length ≤ 200) && allB gs (-1000) 60000) (inB h (-1000) 60000) (inB c (-200) 200) (inB m 0 5000) with ⟨q1, hv⟩ | ⟨q1, q2, hv⟩ | ⟨q1, q2, q3, hv⟩ | ⟨q1, q2, q3, q4, hv⟩ | ⟨q1, q2, q3, q4, hv⟩
  iterate 4
    · have HN := hide ((al_no (show alOk gs h c m = _ from hv)).1.symm.trans hn)
      have HV := hide ((al_no (show alOk gs h c m = _ from hv)).2.symm.trans hb)
      clear hv hn hb
      go_enter Try.func10, Try.ntmps10
      rw [h0]
      have H0 := hide h0
      clear h0
      go_wp2_with (first | (go_at_call 34; refine (belQ (unhide HB) (unhide HA) (groundOk_is _ _ _ gs _ ((unhide HR).below (unhide HB _)) (by exact q1))).mono ?_; rintro e _ ⟨rfl, y, rfl⟩) | (go_at_call 35; refine (belS (within_is _ _ _ _ (by first | exact q2 | exact q3 | exact q4))).mono ?_; rintro e _ ⟨rfl, y, rfl⟩))
      repeat (refine wp_region_bel (fun w' h => (unhide HA) w' ((unhide HB _).trans (h.mono (unhide HB _).size))) (by kernel_rfl) (by kernel_rfl) ?_; (repeat (go_big_quiet_step (first | (go_at_call 34; exact belQ (unhide HB) (unhide HA) (groundOk_is _ _ _ gs _ ((unhide HR).below (unhide HB _)) (by exact q1))) | (go_at_call 35; exact belS (within_is _ _ _ _ (by first | exact q2 | exact q3 | exact q4)))))); refine wpQuiet_nil ?_; rintro _ ⟨y, rfl⟩; (first | go_wp2_with (first | (go_at_call 34; refine (belQ (unhide HB) (unhide HA) (groundOk_is _ _ _ gs _ ((unhide HR).below (unhide HB _)) (by exact q1))).mono ?_; rintro e _ ⟨rfl, y, rfl⟩) | (go_at_call 35; refine (belS (within_is _ _ _ _ (by first | exact q2 | exact q3 | exact q4))).mono ?_; rintro e _ ⟨rfl, y, rfl⟩)) | go_wp2))
      go_ret2
      exact ⟨ret_ib (unhide HN) (unhide HV), (by first | (rw [← unhide H0]; exact unhide HB _) | (rw [← unhide H0]; exact Below.refl _ _))⟩
  have HO := hide (show alOk gs h c m = true from hv)
  have l0 := (alOk_facts (show alOk gs h c m = true from hv)).1
  have l1 : (gs.length : Int) ≤ 200 := by omega
  have HAL := hide (alOk_facts (show alOk gs h c m = true from hv)).2.1
  have b3 := in_facts q2
  have b4 := in_facts q3
  have b5 := in_facts q4
  have HNN := hide hn
  have HBB := hide hb
  clear hv hn hb l0
  go_enter Try.func10, Try.ntmps10
  rw [h0]
  have H0 := hide h0
  clear h0
  go_wp2_with (first | (go_at_call 34; refine (belQ (unhide HB) (unhide HA) (groundOk_is _ _ _ gs _ ((unhide HR).below (unhide HB _)) (by exact q1))).mono ?_; rintro e _ ⟨rfl, y, rfl⟩) | (go_at_call 35; refine (belS (within_is _ _ _ _ (by first | exact q2 | exact q3 | exact q4))).mono ?_; rintro e _ ⟨rfl, y, rfl⟩))
  have HX : Hid (∀ z, Below (fW x0).heap.size (fW x0) (fW z)) := hide (fun z => by have := unhide HB z; rw [unhide H0] at this; exact this)
  obtain ⟨V, hV⟩ : ∃ V, V = (fW y).alloc (Obj.cells #[.int .i64 0, .int .i64 h, .int .i64 c, .int .i64 0] 73) := ⟨_, rfl⟩
  rw [← hV]
  have K0 : Hid (Blk V (fW y).heap.size [.int .i64 0, .int .i64 h, .int .i64 c, .int .i64 0]) := hide (by rw [hV]; exact Blk.new _ _)
  have B0 : Hid (Below (fW x0).heap.size (fW x0) V) := hide (by rw [hV]; exact belAl (unhide HX y) _)
  have HR : Hid (Row V ad gs.length gs) := hide (by rw [hV]; exact (unhide HR).below (belAl (unhide HB y) _))
  obtain ⟨P, hP⟩ : ∃ P, P = (fW y).heap.size := ⟨_, rfl⟩
  rw [← hP] at K0 ⊢
  clear hP hV HX HA HB H0
  obtain ⟨ι, fW, _, hb, hall⟩ := belClass V
  have HB := hide hb
  have HA := hide hall
  have c00 : ∀ x, (fW x).cell? ⟨P, 0, none⟩ = some (.int .i64 0) := fun x => ((unhide K0).below (hb x)).c 0 (by simp)
  have c01 : ∀ x, (fW x).cell? ⟨P, 1, none⟩ = some (.int .i64 h) := fun x => ((unhide K0).below (hb x)).c 1 (by simp)
  have c02 : ∀ x, (fW x).cell? ⟨P, 2, none⟩ = some (.int .i64 c) := fun x => ((unhide K0).below (hb x)).c 2 (by simp)
  have c03 : ∀ x, (fW x).cell? ⟨P, 3, none⟩ = some (.int .i64 0) := fun x => ((unhide K0).below (hb x)).c 3 (by simp)
  clear hb hall
  obtain ⟨x1, h0⟩ := (unhide HA) V (Below.refl _ _)
  rw [h0]
  clear h0
  go_loopw [36] (fun i wr => ∃ (k : Nat) (x : ι), k ≤ gs.length ∧ i = .int .i64 k ∧ Hid (∀ j : Nat, j < k → ¬ h + (j : Int) * c - nth gs j < m) ∧ wr = fW x) (fun i _ => gs.length - (intOf i).toNat)
  case atStart => exact ⟨0, _, Nat.zero_le _, rfl, hide (fun j hj => by omega), rfl⟩
  case round =>
    obtain ⟨k, x, hk, rfl, HN, rfl⟩ := hrel
    by_cases hlt : k < gs.length
    · rcases (unhide HR).open_ with ⟨h0, _⟩ | ⟨bb, off, rfl, _, hc⟩
      · omega
      have m0 : ∀ x, (fW x).cell? ⟨bb, off + k, none⟩ = some (.int .i64 (nth gs k)) := fun x => ((unhide HB x).cell (block_lt_of_cell (hc k hlt))).trans (hc k hlt)
      clear hc
      have g1 := alAll_at (unhide HAL) hlt
      have g2 := mulBd (s := (k : Int)) (d := c) (A := 200) (B := 200) (by omega) (by omega) (by omega) (by omega) (by omega) (by omega)
      have k0 : (0 : Int) ≤ (k : Int) := by omega
      have k1 : (k : Int) < (gs.length : Int) := by omega
      by_cases hq : h + (k : Int) * c - nth gs k < m
      · have HE := hide (alF_here hlt hq (unhide HN))
        have hq2 : decide (h + (k : Int) * c - nth gs k < m) = true := decide_eq_true hq
        go_wp2_with (first | (go_at_call 36; refine (belA1 (unhide HB) (unhide HA) (heightIn_al _ _ _ _ _ _ (by omega) (by omega) (by omega) rfl)).mono ?_; rintro e _ ⟨rfl, y, rfl⟩))
        repeat (refine wp_region_bel (fun w' h => (unhide HA) w' ((unhide HB _).trans (h.mono (unhide HB _).size))) (by kernel_rfl) (by kernel_rfl) ?_; (repeat (go_big_quiet_step (first | (go_at_call 36; exact belA1 (unhide HB) (unhide HA) (heightIn_al _ _ _ _ _ _ (by omega) (by omega) (by omega) rfl))))); refine wpQuiet_nil ?_; rintro _ ⟨y, rfl⟩; (first | go_wp2_with (first | (go_at_call 36; refine (belA1 (unhide HB) (unhide HA) (heightIn_al _ _ _ _ _ _ (by omega) (by omega) (by omega) rfl)).mono ?_; rintro e _ ⟨rfl, y, rfl⟩)) | go_wp2))
        go_ret2
        exact ⟨ret_ib ((al_here (unhide HO) hlt (unhide HE)).1.symm.trans (unhide HNN)) ((al_here (unhide HO) hlt (unhide HE)).2.symm.trans (unhide HBB)), (unhide B0).trans ((unhide HB _).mono (unhide B0).size)⟩
      · have HQ := hide hq
        have hq2 : decide (h + (k : Int) * c - nth gs k < m) = false := decide_eq_false hq
        go_wp2_with (first | (go_at_call 36; refine (belA1 (unhide HB) (unhide HA) (heightIn_al _ _ _ _ _ _ (by omega) (by omega) (by omega) rfl)).mono ?_; rintro e _ ⟨rfl, y, rfl⟩))
        repeat (refine wp_region_bel (fun w' h => (unhide HA) w' ((unhide HB _).trans (h.mono (unhide HB _).size))) (by kernel_rfl) (by kernel_rfl) ?_; (repeat (go_big_quiet_step (first | (go_at_call 36; exact belA1 (unhide HB) (unhide HA) (heightIn_al _ _ _ _ _ _ (by omega) (by omega) (by omega) rfl))))); refine wpQuiet_nil ?_; rintro _ ⟨y, rfl⟩; (first | go_wp2_with (first | (go_at_call 36; refine (belA1 (unhide HB) (unhide HA) (heightIn_al _ _ _ _ _ _ (by omega) (by omega) (by omega) rfl)).mono ?_; rintro e _ ⟨rfl, y, rfl⟩)) | go_wp2))
        go_roundw
        case rel => exact ⟨k + 1, _, by omega, by go_num, hide (fun j hj => by rcases Nat.lt_succ_iff_lt_or_eq.1 hj with g | g; (have := unhide HN j g; omega); subst g; have := unhide HQ; omega), rfl⟩
        case measure => simp [intOf]; omega
    · have HE := hide (al_none (alF_none (fun j hj => unhide HN j (by omega))))
      have k1 : ¬ (k : Int) < (gs.length : Int) := by omega
      go_wp2_with (first | (go_at_call 36; refine (belA1 (unhide HB) (unhide HA) (heightIn_al _ _ _ _ _ _ (by omega) (by omega) (by omega) rfl)).mono ?_; rintro e _ ⟨rfl, y, rfl⟩))
      go_ret2
      exact ⟨ret_ib ((unhide HE).1.symm.trans (unhide HNN)) ((unhide HE).2.symm.trans (unhide HBB)), (unhide B0).trans ((unhide HB _).mono (unhide B0).size)⟩
theorem specAlert_any (ad : Option Addr) (len cap : Nat) (gs : List Int) (h c m : Int) (w : World) (hr : Row w ad len gs) : Calls Try.prog 11 #[.slice ad len cap, .int .i64 h, .int .i64 c, .int .i64 m] w fun e w' => e = .returned (.tuple #[.int .i64 (alR gs h c m), .bool (alB gs h c m)]) ∧ Below w.heap.size w w' := specAlert_is ad len cap gs h c m w hr rfl rfl
theorem implAlert_any (ad : Option Addr) (len cap : Nat) (gs : List Int) (h c m : Int) (w : World) (hr : Row w ad len gs) : Calls Try.prog 10 #[.slice ad len cap, .int .i64 h, .int .i64 c, .int .i64 m] w fun e w' => e = .returned (.tuple #[.int .i64 (alR gs h c m), .bool (alB gs h c m)]) ∧ Below w.heap.size w w' := implAlert_is ad len cap gs h c m w hr rfl rfl

end Go.Proofs.Ytndhiecakojjgaf

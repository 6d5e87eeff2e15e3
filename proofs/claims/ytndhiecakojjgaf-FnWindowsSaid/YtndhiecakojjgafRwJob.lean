/-
  Jobs, and a job that comes, in the program: plain answers; what is written is the job's own.
-/
import Derived.Test.YtndhiecakojjgafRj1
import Derived.Test.YtndhiecakojjgafPq1
namespace Go.Proofs.Ytndhiecakojjgaf
open Go.RowKit

theorem RowE.jb3 {w : World} {a : Option Addr} {len : Nat} {js : List Jb} (h : RowE 3 jbC w a len js) : (len = 0 ∧ js = []) ∨ ∃ b off, a = some ⟨b, off, none⟩ ∧ 0 < len ∧ ∀ i, i < len → w.cell? ⟨b, off + i * 3, none⟩ = some (.int .i64 (elAt js i).a0) ∧ w.cell? ⟨b, off + i * 3 + 1, none⟩ = some (.int .i64 (elAt js i).a1) ∧ w.cell? ⟨b, off + i * 3 + 2, none⟩ = some (.int .i64 (elAt js i).a2) := by
  rcases h.open_ with k | ⟨b, off, ha, h0, hc⟩
  · exact .inl k
  · exact .inr ⟨b, off, ha, h0, fun i hi => ⟨hc i hi 0 (by omega), hc i hi 1 (by omega), hc i hi 2 (by omega)⟩⟩
theorem jbAll_no {pa : Int} {js : List Jb} {k : Nat} (hk : k < js.length) (h : jbB pa (elAt js k) = false) : jbAll pa js = false := by
  refine decide_eq_false fun q => ?_
  have := q k hk
  rw [h] at this
  cases this
theorem jbAll_yes {pa : Int} {js : List Jb} (h : ∀ k, k < js.length → jbB pa (elAt js k) = true) : jbAll pa js = true := decide_eq_true h
theorem set_elAt {α : Type} [Inhabited α] (L : List α) (k : Nat) : L.set k (elAt L k) = L := by
  by_cases h : k < L.length
  · have e : elAt L k = L[k] := by simp [elAt, h]
    rw [e, List.set_getElem_self]
  · rw [List.set_eq_of_length_le (by omega)]

set_option maxRecDepth 20000 in
set_option maxHeartbeats 2000000 in
theorem jobOk_is {b : Bool} (fr pa : Int) (da : Option Addr) (dn dc : Nat) (z0 z1 z2 : Int) (w : World) (hp : 1 ≤ pa ∧ pa ≤ 10) (hc : jbB pa ⟨z0, z1, z2⟩ = b) :
    Calls Try.prog 73 #[.agg #[.int .i64 fr, .int .i64 pa, .slice da dn dc], .agg #[.int .i64 z0, .int .i64 z1, .int .i64 z2]] w fun e w' => e = .returned (.bool b) ∧ Below w.heap.size w w' := by
  rcases three (inB z0 0 (pa - 1)) (inB z1 1 100000) (inB z2 1 100000) with ⟨q1, hv⟩ | ⟨q1, q2, hv⟩ | ⟨q1, q2, q3, hv⟩ | ⟨q1, q2, q3, hv⟩
  all_goals
    have HE := hide (hv.symm.trans hc)
    clear hv hc
    go_enter Try.func73, Try.ntmps73
    go_wp2_with fail
    obtain ⟨W, hW⟩ : ∃ W, W = ((w.alloc (Obj.cells #[.int .i64 fr, .int .i64 pa, .slice da dn dc] 53)).alloc (Obj.cells #[.int .i64 z0, .int .i64 z1, .int .i64 z2] 108)) := ⟨_, rfl⟩
    rw [← hW]
    have K0 : Hid (Blk W (w.heap.size) [.int .i64 fr, .int .i64 pa, .slice da dn dc]) := hide (by rw [hW]; exact blkAt2_0)
    have K1 : Hid (Blk W (w.heap.size + 1) [.int .i64 z0, .int .i64 z1, .int .i64 z2]) := hide (by rw [hW]; exact blkAt2_1)
    have B0 : Hid (Below w.heap.size w W) := hide (by rw [hW]; exact (by repeat (first | exact Below.refl _ _ | refine Below.alloc ?_ (by simp; try omega) _ | refine Below.setCell ?_ (by simp; try omega) _ | refine taDr ?_ _)))
    clear hW
    obtain ⟨ι, fW, _, hb, hall⟩ := belClass W
    have HB := hide hb
    have HA := hide hall
    have c00 : ∀ x, (fW x).cell? ⟨w.heap.size, 0, none⟩ = some (.int .i64 fr) := fun x => ((unhide K0).below (hb x)).c 0 (by simp)
    have c01 : ∀ x, (fW x).cell? ⟨w.heap.size, 1, none⟩ = some (.int .i64 pa) := fun x => ((unhide K0).below (hb x)).c 1 (by simp)
    have c02 : ∀ x, (fW x).cell? ⟨w.heap.size, 2, none⟩ = some (.slice da dn dc) := fun x => ((unhide K0).below (hb x)).c 2 (by simp)
    have c10 : ∀ x, (fW x).cell? ⟨w.heap.size + 1, 0, none⟩ = some (.int .i64 z0) := fun x => ((unhide K1).below (hb x)).c 0 (by simp)
    have c11 : ∀ x, (fW x).cell? ⟨w.heap.size + 1, 1, none⟩ = some (.int .i64 z1) := fun x => ((unhide K1).below (hb x)).c 1 (by simp)
    have c12 : ∀ x, (fW x).cell? ⟨w.heap.size + 1, 2, none⟩ = some (.int .i64 z2) := fun x => ((unhide K1).below (hb x)).c 2 (by simp)
    clear hb hall
    obtain ⟨x0, h0⟩ := (unhide HA) W (Below.refl _ _)
    rw [h0]
    clear h0
    go_wp2_with (first | (go_at_call 51; refine (belQ (unhide HB) (unhide HA) (hasPart_is _ _ _ _ _ _ _ hp (by exact q1))).mono ?_; rintro e _ ⟨rfl, y, rfl⟩) | (go_at_call 35; refine (belS (within_is _ _ _ _ (by first | exact q2 | exact q3))).mono ?_; rintro e _ ⟨rfl, y, rfl⟩))
    repeat (refine wp_region_bel (fun w' h => (unhide HA) w' ((unhide HB _).trans (h.mono (unhide HB _).size))) (by kernel_rfl) (by kernel_rfl) ?_; (repeat (go_big_quiet_step (first | (go_at_call 51; exact belQ (unhide HB) (unhide HA) (hasPart_is _ _ _ _ _ _ _ hp (by exact q1))) | (go_at_call 35; exact belS (within_is _ _ _ _ (by first | exact q2 | exact q3)))))); refine wpQuiet_nil ?_; rintro _ ⟨y, rfl⟩; (first | go_wp2_with (first | (go_at_call 51; refine (belQ (unhide HB) (unhide HA) (hasPart_is _ _ _ _ _ _ _ hp (by exact q1))).mono ?_; rintro e _ ⟨rfl, y, rfl⟩) | (go_at_call 35; refine (belS (within_is _ _ _ _ (by first | exact q2 | exact q3))).mono ?_; rintro e _ ⟨rfl, y, rfl⟩)) | go_wp2))
    go_ret
    exact ⟨ret_bool (unhide HE), (unhide B0).trans ((unhide HB _).mono (unhide B0).size)⟩

set_option maxRecDepth 20000 in
set_option maxHeartbeats 2000000 in
theorem jobsOk_is {b : Bool} (fr pa : Int) (da : Option Addr) (dn dc : Nat) (ja : Option Addr) (jn jc : Nat) (js : List Jb) (w : World) (hp : 1 ≤ pa ∧ pa ≤ 10) (hr : RowE 3 jbC w ja jn js) (hc : (decide (js.length ≤ 20) && jbAll pa js) = b) :
    Calls Try.prog 60 #[.agg #[.int .i64 fr, .int .i64 pa, .slice da dn dc], .slice ja jn jc] w fun e w' => e = .returned (.bool b) ∧ Below w.heap.size w w' := by
  have hz := hr.len_eq
  have hs := hr.small
  have HR := hide hr
  clear hr
  subst hz
  cases hl : decide (js.length ≤ 20) with
  | false =>
    have HE : Hid (false = b) := hide (by rw [← hc, hl, Bool.false_and])
    have l1 : ¬ js.length ≤ 20 := of_decide_eq_false hl
    have l2 : (20 : Int) < (js.length : Int) := by omega
    clear hc hl
    go_enter Try.func60, Try.ntmps60
    go_wp2_with fail
    go_ret
    exact ⟨ret_bool (unhide HE), (by repeat (first | exact Below.refl _ _ | refine Below.alloc ?_ (by simp; try omega) _ | refine Below.setCell ?_ (by simp; try omega) _ | refine taDr ?_ _))⟩
  | true =>
    have HE : Hid (jbAll pa js = b) := hide (by rw [← hc, hl, Bool.true_and])
    have l1 : js.length ≤ 20 := of_decide_eq_true hl
    have l2 : ¬ (20 : Int) < (js.length : Int) := by omega
    clear hc hl
    obtain ⟨W, hW⟩ : ∃ W, W = w.alloc (Obj.cells #[.int .i64 fr, .int .i64 pa, .slice da dn dc] 53) := ⟨_, rfl⟩
    have K0 : Hid (Blk W w.heap.size [.int .i64 fr, .int .i64 pa, .slice da dn dc]) := hide (by rw [hW]; exact Blk.new _ _)
    have B0 : Hid (Below w.heap.size w W) := hide (by rw [hW]; exact bel1 _)
    have HW := hide hW
    clear hW
    go_enter Try.func60, Try.ntmps60
    go_upto_region 1 with fail
    rw [← unhide HW]
    clear HW
    go_wp2_with fail
    go_loopw [12] (fun s12 wr => ∃ (k : Nat), k ≤ js.length ∧ s12 = .int .i64 (k : Int) ∧ Hid (∀ j, j < k → jbB pa (elAt js j) = true) ∧ Hid (Blk wr w.heap.size [.int .i64 fr, .int .i64 pa, .slice da dn dc]) ∧ Hid (Below w.heap.size w wr)) (fun s12 _ => js.length - (intOf s12).toNat)
    case atStart => exact ⟨0, Nat.zero_le _, rfl, hide (fun j hj => by omega), K0, B0⟩
    case round =>
      clear K0 B0
      obtain ⟨k, hk, rfl, HJ, KB0, BB⟩ := hrel
      by_cases hlt : k < js.length
      · rcases ((unhide HR).below (unhide BB)).jb3 with ⟨z0, _⟩ | ⟨bb, off, rfl, _, hcs⟩
        · omega
        have m0 := (hcs k hlt).1
        have m1 := (hcs k hlt).2.1
        have m2 := (hcs k hlt).2.2
        obtain ⟨x0, hx0⟩ : ∃ z, (elAt js k).a0 = z := ⟨_, rfl⟩
        obtain ⟨x1, hx1⟩ : ∃ z, (elAt js k).a1 = z := ⟨_, rfl⟩
        obtain ⟨x2, hx2⟩ : ∃ z, (elAt js k).a2 = z := ⟨_, rfl⟩
        have hxx : elAt js k = ⟨x0, x1, x2⟩ := by rw [← hx0, ← hx1, ← hx2]
        rw [hx0] at m0
        rw [hx1] at m1
        rw [hx2] at m2
        have k0 : (0 : Int) ≤ (k : Int) := by omega
        have k1 : (k : Int) < (js.length : Int) := by omega
        obtain ⟨V, hV⟩ : ∃ V, V = wr.alloc (Obj.cells #[.int .i64 x0, .int .i64 x1, .int .i64 x2] 108) := ⟨_, rfl⟩
        have bV : Below wr.heap.size wr V := by rw [hV]; exact bel1 _
        have K0 := hide ((unhide KB0).below bV)
        have BV := hide ((unhide BB).trans (bV.mono (unhide BB).size))
        have K1 : Hid (Blk V wr.heap.size [.int .i64 x0, .int .i64 x1, .int .i64 x2]) := hide (by rw [hV]; exact Blk.new _ _)
        obtain ⟨X, hX⟩ : ∃ X, wr.heap.size = X := ⟨_, rfl⟩
        rw [hX] at K1
        have HV := hide hV
        have HX := hide hX
        have HXX := hide hxx
        clear hcs hV hX bV hx0 hx1 hx2 hxx
        go_upto_region 6 with fail
        rw [← unhide HV, unhide HX]
        clear HV HX m0 m1 m2
        obtain ⟨ι, fW, _, hb, hall⟩ := belClass V
        have HB := hide hb
        have HA := hide hall
        have c00 : ∀ x, (fW x).cell? ⟨w.heap.size, 0, none⟩ = some (.int .i64 fr) := fun x => ((unhide K0).below (hb x)).c 0 (by simp)
        have c01 : ∀ x, (fW x).cell? ⟨w.heap.size, 1, none⟩ = some (.int .i64 pa) := fun x => ((unhide K0).below (hb x)).c 1 (by simp)
        have c02 : ∀ x, (fW x).cell? ⟨w.heap.size, 2, none⟩ = some (.slice da dn dc) := fun x => ((unhide K0).below (hb x)).c 2 (by simp)
        have c10 : ∀ x, (fW x).cell? ⟨X, 0, none⟩ = some (.int .i64 x0) := fun x => ((unhide K1).below (hb x)).c 0 (by simp)
        have c11 : ∀ x, (fW x).cell? ⟨X, 1, none⟩ = some (.int .i64 x1) := fun x => ((unhide K1).below (hb x)).c 1 (by simp)
        have c12 : ∀ x, (fW x).cell? ⟨X, 2, none⟩ = some (.int .i64 x2) := fun x => ((unhide K1).below (hb x)).c 2 (by simp)
        clear hb hall
        obtain ⟨y0, h0⟩ := (unhide HA) V (Below.refl _ _)
        rw [h0]
        clear h0
        cases q5 : jbB pa ⟨x0, x1, x2⟩ with
        | false =>
          have HC := hide ((jbAll_no hlt (by rw [unhide HXX]; exact q5)).symm.trans (unhide HE))
          go_wp2_with (first | (go_at_call 73; refine (belQ (unhide HB) (unhide HA) (jobOk_is _ _ _ _ _ _ _ _ _ hp (by exact q5))).mono ?_; rintro e _ ⟨rfl, y, rfl⟩))
          go_ret
          exact ⟨ret_bool (unhide HC), (unhide BV).trans ((unhide HB _).mono (unhide BV).size)⟩
        | true =>
          go_wp2_with (first | (go_at_call 73; refine (belQ (unhide HB) (unhide HA) (jobOk_is _ _ _ _ _ _ _ _ _ hp (by exact q5))).mono ?_; rintro e _ ⟨rfl, y, rfl⟩))
          go_roundw
          case rel => exact ⟨k + 1, by omega, by go_num, hide (fun j hj => by rcases Nat.lt_succ_iff_lt_or_eq.1 hj with h | h; exact unhide HJ j h; subst h; rw [unhide HXX]; exact q5), hide ((unhide K0).below (unhide HB _)), hide ((unhide BV).trans ((unhide HB _).mono (unhide BV).size))⟩
          case measure => simp [intOf]; omega
      · have hkl : k = js.length := by omega
        have k1 : ¬ (k : Int) < (js.length : Int) := by omega
        have HC := hide ((jbAll_yes (fun j hj => unhide HJ j (by omega))).symm.trans (unhide HE))
        clear hkl
        go_wp2_with fail
        go_ret
        exact ⟨ret_bool (unhide HC), unhide BB⟩

set_option maxRecDepth 20000 in
set_option maxHeartbeats 2000000 in
theorem comes_is (base g n cp k : Nat) (L : List Jw) (t : Int) (w : World) (ho : OwnE 6 jwC w base 121 (.slice (some ⟨g, 0, none⟩) n cp) L) (hn : L.length = n) (hk : k < n) (ht : 0 ≤ t ∧ t ≤ 5000) (hx : (1 ≤ (elAt L k).a1 ∧ (elAt L k).a1 ≤ 100000) ∧ 0 ≤ (elAt L k).a5 ∧ (elAt L k).a5 ≤ 5000) :
    Calls Try.prog 74 #[.pointer (some ⟨g, k * 6, none⟩), .int .i64 t] w fun e w' => e = .returned (.tuple #[]) ∧ OwnE 6 jwC w' base 121 (.slice (some ⟨g, 0, none⟩) n cp) (L.set k (cmX t (elAt L k))) ∧ w.grownBy w' (some g) := by
  obtain ⟨x0, hx0⟩ : ∃ z, (elAt L k).a0 = z := ⟨_, rfl⟩
  obtain ⟨x1, hx1⟩ : ∃ z, (elAt L k).a1 = z := ⟨_, rfl⟩
  obtain ⟨x2, hx2⟩ : ∃ z, (elAt L k).a2 = z := ⟨_, rfl⟩
  obtain ⟨x3, hx3⟩ : ∃ z, (elAt L k).a3 = z := ⟨_, rfl⟩
  obtain ⟨x4, hx4⟩ : ∃ z, (elAt L k).a4 = z := ⟨_, rfl⟩
  obtain ⟨x5, hx5⟩ : ∃ z, (elAt L k).a5 = z := ⟨_, rfl⟩
  have m0 : w.cell? ⟨g, k * 6, none⟩ = some (.int .i64 x0) := by rw [← hx0]; exact (ho.here hn k hk 0 (by omega)).1
  have f0 : w.frozen? ⟨g, k * 6, none⟩ = false := (ho.here hn k hk 0 (by omega)).2
  have m1 : w.cell? ⟨g, k * 6 + 1, none⟩ = some (.int .i64 x1) := by rw [← hx1]; exact (ho.here hn k hk 1 (by omega)).1
  have f1 : w.frozen? ⟨g, k * 6 + 1, none⟩ = false := (ho.here hn k hk 1 (by omega)).2
  have m2 : w.cell? ⟨g, k * 6 + 2, none⟩ = some (.int .i64 x2) := by rw [← hx2]; exact (ho.here hn k hk 2 (by omega)).1
  have f2 : w.frozen? ⟨g, k * 6 + 2, none⟩ = false := (ho.here hn k hk 2 (by omega)).2
  have m3 : w.cell? ⟨g, k * 6 + 3, none⟩ = some (.int .i64 x3) := by rw [← hx3]; exact (ho.here hn k hk 3 (by omega)).1
  have f3 : w.frozen? ⟨g, k * 6 + 3, none⟩ = false := (ho.here hn k hk 3 (by omega)).2
  have m4 : w.cell? ⟨g, k * 6 + 4, none⟩ = some (.int .i64 x4) := by rw [← hx4]; exact (ho.here hn k hk 4 (by omega)).1
  have f4 : w.frozen? ⟨g, k * 6 + 4, none⟩ = false := (ho.here hn k hk 4 (by omega)).2
  have m5 : w.cell? ⟨g, k * 6 + 5, none⟩ = some (.int .i64 x5) := by rw [← hx5]; exact (ho.here hn k hk 5 (by omega)).1
  have f5 : w.frozen? ⟨g, k * 6 + 5, none⟩ = false := (ho.here hn k hk 5 (by omega)).2
  have hxx : elAt L k = ⟨x0, x1, x2, x3, x4, x5⟩ := by rw [← hx0, ← hx1, ← hx2, ← hx3, ← hx4, ← hx5]
  rw [hxx] at hx ⊢
  have hx1' : 1 ≤ x1 ∧ x1 ≤ 100000 := hx.1
  have hx5' : 0 ≤ x5 ∧ x5 ≤ 5000 := hx.2
  have HXX := hide hxx
  have HO := hide ho
  clear hx hx0 hx1 hx2 hx3 hx4 hx5 hxx
  have hn0 : ¬ x1 = 0 := by omega
  have htm : t.tmod x1 = t % x1 := Int.tmod_eq_emod_of_nonneg ht.1
  obtain ⟨r, hr⟩ : ∃ r, t % x1 = r := ⟨_, rfl⟩
  rw [hr] at htm
  by_cases q : r = 0
  · have qe : (r != 0) = false := by simp [q]
    by_cases q2 : 0 < x3
    · have HC : Hid (cmX t ⟨x0, x1, x2, x3, x4, x5⟩ = ⟨x0, x1, x2, x2, t, x5 + 1⟩) := hide (by unfold cmX; simp only [hr, q, if_true, if_pos q2])
      rw [unhide HC]
      have O1 := (unhide HO).setOne hn k hk 5 (by omega) (.int .i64 (x5 + 1)) ⟨x0, x1, x2, x3, x4, x5 + 1⟩ (fun p hp => by rw [unhide HXX]; match p, hp with | 0, _ => rfl | 1, _ => rfl | 2, _ => rfl | 3, _ => rfl | 4, _ => rfl | 5, _ => rfl)
      have O2 := O1.setMore hn hk 3 (by omega) (.int .i64 x2) ⟨x0, x1, x2, x2, x4, x5 + 1⟩ (fun p hp => by match p, hp with | 0, _ => rfl | 1, _ => rfl | 2, _ => rfl | 3, _ => rfl | 4, _ => rfl | 5, _ => rfl)
      have O3 := hide (O2.setMore hn hk 4 (by omega) (.int .i64 t) ⟨x0, x1, x2, x2, t, x5 + 1⟩ (fun p hp => by match p, hp with | 0, _ => rfl | 1, _ => rfl | 2, _ => rfl | 3, _ => rfl | 4, _ => rfl | 5, _ => rfl))
      have G3 := hide (grown_set (grown_set (grown_set (grown_refl w (some g)) (k * 6 + 5) (.int .i64 (x5 + 1))) (k * 6 + 3) (.int .i64 x2)) (k * 6 + 4) (.int .i64 t))
      clear O1 O2 hr q
      go_enter Try.func74, Try.ntmps74
      go_wp2_with fail
      go_end0
      exact ⟨rfl, unhide O3, unhide G3⟩
    · have HC : Hid (cmX t ⟨x0, x1, x2, x3, x4, x5⟩ = ⟨x0, x1, x2, x2, t, x5⟩) := hide (by unfold cmX; simp only [hr, q, if_true, if_neg q2])
      rw [unhide HC]
      have O2 := (unhide HO).setOne hn k hk 3 (by omega) (.int .i64 x2) ⟨x0, x1, x2, x2, x4, x5⟩ (fun p hp => by rw [unhide HXX]; match p, hp with | 0, _ => rfl | 1, _ => rfl | 2, _ => rfl | 3, _ => rfl | 4, _ => rfl | 5, _ => rfl)
      have O3 := hide (O2.setMore hn hk 4 (by omega) (.int .i64 t) ⟨x0, x1, x2, x2, t, x5⟩ (fun p hp => by match p, hp with | 0, _ => rfl | 1, _ => rfl | 2, _ => rfl | 3, _ => rfl | 4, _ => rfl | 5, _ => rfl))
      have G3 := hide (grown_set (grown_set (grown_refl w (some g)) (k * 6 + 3) (.int .i64 x2)) (k * 6 + 4) (.int .i64 t))
      clear O2 hr q
      go_enter Try.func74, Try.ntmps74
      go_wp2_with fail
      go_end0
      exact ⟨rfl, unhide O3, unhide G3⟩
  · have qe : (r != 0) = true := by simp [q]
    have HC : Hid (L.set k (cmX t ⟨x0, x1, x2, x3, x4, x5⟩) = L) := hide (by unfold cmX; simp only [hr, if_neg q]; rw [← unhide HXX]; exact set_elAt L k)
    rw [unhide HC]
    clear hr q
    go_enter Try.func74, Try.ntmps74
    go_wp2_with fail
    exact bodyPost_ret (results_none rfl _ _ _) rfl ⟨rfl, unhide HO, grown_refl _ _⟩

end Go.Proofs.Ytndhiecakojjgaf

/-
  What Inertial answers in the model and in the program: the plain drift, at every argument; nothing that was there is written.
-/
import Derived.Test.YtidgkkldhnckeatInPure
import Derived.Test.YtidgkkldhnckeatNavBlend
namespace Go.Proofs.Ytidgkkldhnckeat
open Go.RowKit

/-- The drift's block and the answer's, on the way. -/
structure Inr (w wr : World) (d : Dt) : Prop where
  bd : Blk wr w.heap.size [.int .i64 d.a0, .int .i64 d.a1, .int .i64 d.a2, .int .i64 d.a3]
  br : Blk wr (w.heap.size + 1) [.int .i64 0, .int .i64 0, .int .i64 0, .int .i64 0]
  bel : Below w.heap.size w wr
theorem Inr.below {w wr w' : World} {d : Dt} (h : Inr w wr d) (b : Below wr.heap.size wr w') : Inr w w' d :=
  ⟨h.bd.below b, h.br.below b, h.bel.trans (b.mono h.bel.size)⟩
theorem Inr.put {w wr : World} {d : Dt} (h : Inr w wr d) (x y u v : Int) :
    Inr w ((((wr.setCell ⟨w.heap.size, 0, none⟩ (.int .i64 x)).setCell ⟨w.heap.size, 1, none⟩ (.int .i64 y)).setCell ⟨w.heap.size, 2, none⟩ (.int .i64 u)).setCell ⟨w.heap.size, 3, none⟩ (.int .i64 v)) ⟨x, y, u, v⟩ := by
  refine ⟨?_, ?_, (((h.bel.setCell (Nat.le_refl _) _).setCell (Nat.le_refl _) _).setCell (Nat.le_refl _) _).setCell (Nat.le_refl _) _⟩
  · simpa using (((h.bd.set 0 (by simp) (.int .i64 x)).set 1 (by simp) (.int .i64 y)).set 2 (by simp) (.int .i64 u)).set 3 (by simp) (.int .i64 v)
  · exact (((h.br.other (by simp) _).other (by simp) _).other (by simp) _).other (by simp) _
theorem Inr.zero {w wr : World} {d : Dt} (h : Inr w wr d) :
    Blk ((((wr.setCell ⟨w.heap.size + 1, 0, none⟩ (.int .i64 0)).setCell ⟨w.heap.size + 1, 1, none⟩ (.int .i64 0)).setCell ⟨w.heap.size + 1, 2, none⟩ (.int .i64 0)).setCell ⟨w.heap.size + 1, 3, none⟩ (.int .i64 0)) (w.heap.size + 1) [.int .i64 0, .int .i64 0, .int .i64 0, .int .i64 0] := by
  simpa using (((h.br.set 0 (by simp) (.int .i64 0)).set 1 (by simp) (.int .i64 0)).set 2 (by simp) (.int .i64 0)).set 3 (by simp) (.int .i64 0)
theorem Inr.told {w wr : World} {d : Dt} (h : Inr w wr d) (x y u v : Int) :
    Blk ((((wr.setCell ⟨w.heap.size + 1, 0, none⟩ (.int .i64 x)).setCell ⟨w.heap.size + 1, 1, none⟩ (.int .i64 y)).setCell ⟨w.heap.size + 1, 2, none⟩ (.int .i64 u)).setCell ⟨w.heap.size + 1, 3, none⟩ (.int .i64 v)) (w.heap.size + 1) [.int .i64 x, .int .i64 y, .int .i64 u, .int .i64 v] := by
  simpa using (((h.br.set 0 (by simp) (.int .i64 x)).set 1 (by simp) (.int .i64 y)).set 2 (by simp) (.int .i64 u)).set 3 (by simp) (.int .i64 v)
theorem Inr.out {w wr : World} {d : Dt} (h : Inr w wr d) (a b c e : Value) :
    Below w.heap.size w ((((wr.setCell ⟨w.heap.size + 1, 0, none⟩ a).setCell ⟨w.heap.size + 1, 1, none⟩ b).setCell ⟨w.heap.size + 1, 2, none⟩ c).setCell ⟨w.heap.size + 1, 3, none⟩ e) :=
  (((h.bel.setCell (Nat.le_succ _) _).setCell (Nat.le_succ _) _).setCell (Nat.le_succ _) _).setCell (Nat.le_succ _) _
theorem inr_new (w : World) (x y u v : Int) (T : TypeId) : Inr w ((w.alloc (Obj.cells #[.int .i64 x, .int .i64 y, .int .i64 u, .int .i64 v] T)).alloc (Obj.cells #[.int .i64 0, .int .i64 0, .int .i64 0, .int .i64 0] T)) ⟨x, y, u, v⟩ :=
  ⟨blkAt2_0, blkAt2_1, bel2 _ _⟩

set_option maxHeartbeats 4000000 in
theorem behind_any (x y u v a b : Int) (w : World) (q1 : dtB x y u v = true) (q2 : puB a b = true) :
    Calls Try.prog 48 #[.agg #[.int .i64 x, .int .i64 y, .int .i64 u, .int .i64 v], .agg #[.int .i64 a, .int .i64 b]] w fun e w' => e = .returned (.agg #[.int .i64 (x + (u + a)), .int .i64 (y + (v + b)), .int .i64 (u + a), .int .i64 (v + b)]) ∧ Below w.heap.size w w' := by
  have f1 := dtB_facts q1
  have f2 := puB_facts q2
  go_enter Try.func48, Try.ntmps48
  go_wp2
  refine bodyPost_ret (v := .agg #[.int .i64 (x + (u + a)), .int .i64 (y + (v + b)), .int .i64 (u + a), .int .i64 (v + b)]) (by simp [results, Try.results48, go_sem]) rfl ⟨rfl, ?_⟩
  exact (by repeat (first | exact Below.refl _ _ | refine Below.setCell ?_ (by simp; try omega) _ | refine Below.alloc ?_ (by simp; try omega) _ | refine navDr ?_ _))


set_option maxRecDepth 20000 in
set_option maxHeartbeats 8000000 in
theorem specInertial_any (x y u v : Int) (ad : Option Addr) (len cap : Nat) (ps : List Pu) (w : World) (hr : RowE 2 puC w ad len ps) :
    Calls Try.prog 22 #[.agg #[.int .i64 x, .int .i64 y, .int .i64 u, .int .i64 v], .slice ad len cap] w fun e w' => e = .returned (.tuple #[.agg #[.int .i64 (inR ⟨x, y, u, v⟩ ps).a0, .int .i64 (inR ⟨x, y, u, v⟩ ps).a1, .int .i64 (inR ⟨x, y, u, v⟩ ps).a2, .int .i64 (inR ⟨x, y, u, v⟩ ps).a3], .bool (inOk ⟨x, y, u, v⟩ ps)]) ∧ Below w.heap.size w w' := by
  have hz := hr.len_eq
  have hs := hr.small
  have R0 := hide hr
  clear hr
  subst hz
  have K0 := hide (inr_new w x y u v 47)
  cases q1 : dtB x y u v
  · have HO : Hid (inOk ⟨x, y, u, v⟩ ps = false) := hide (inOk_first q1)
    go_enter Try.func22, Try.ntmps22
    go_wp2_with (go_at_call 43; refine (l11Drift_al _ _ _ _ _ (by exact q1)).mono ?_; rintro e w1 ⟨rfl, hw⟩; have b1 := plBel hw; have K1 := hide ((unhide K0).below b1); clear b1 hw; have cd0 : w1.cell? ⟨w.heap.size, 0, none⟩ = some (.int .i64 x) := (by have h := (unhide K1).bd.c 0 (by simp); simpa using h); have fd0 : w1.frozen? ⟨w.heap.size, 0, none⟩ = false := (unhide K1).bd.f 0 (by simp); have cd1 : w1.cell? ⟨w.heap.size, 1, none⟩ = some (.int .i64 y) := (by have h := (unhide K1).bd.c 1 (by simp); simpa using h); have fd1 : w1.frozen? ⟨w.heap.size, 1, none⟩ = false := (unhide K1).bd.f 1 (by simp); have cd2 : w1.cell? ⟨w.heap.size, 2, none⟩ = some (.int .i64 u) := (by have h := (unhide K1).bd.c 2 (by simp); simpa using h); have fd2 : w1.frozen? ⟨w.heap.size, 2, none⟩ = false := (unhide K1).bd.f 2 (by simp); have cd3 : w1.cell? ⟨w.heap.size, 3, none⟩ = some (.int .i64 v) := (by have h := (unhide K1).bd.c 3 (by simp); simpa using h); have fd3 : w1.frozen? ⟨w.heap.size, 3, none⟩ = false := (unhide K1).bd.f 3 (by simp); have cr0 : w1.cell? ⟨w.heap.size + 1, 0, none⟩ = some (.int .i64 0) := (by have h := (unhide K1).br.c 0 (by simp); simpa using h); have fr0 : w1.frozen? ⟨w.heap.size + 1, 0, none⟩ = false := (unhide K1).br.f 0 (by simp); have cr1 : w1.cell? ⟨w.heap.size + 1, 1, none⟩ = some (.int .i64 0) := (by have h := (unhide K1).br.c 1 (by simp); simpa using h); have fr1 : w1.frozen? ⟨w.heap.size + 1, 1, none⟩ = false := (unhide K1).br.f 1 (by simp); have cr2 : w1.cell? ⟨w.heap.size + 1, 2, none⟩ = some (.int .i64 0) := (by have h := (unhide K1).br.c 2 (by simp); simpa using h); have fr2 : w1.frozen? ⟨w.heap.size + 1, 2, none⟩ = false := (unhide K1).br.f 2 (by simp); have cr3 : w1.cell? ⟨w.heap.size + 1, 3, none⟩ = some (.int .i64 0) := (by have h := (unhide K1).br.c 3 (by simp); simpa using h); have fr3 : w1.frozen? ⟨w.heap.size + 1, 3, none⟩ = false := (unhide K1).br.f 3 (by simp))
    refine bodyPost_ret (results_cellB (x := .bool false) (vs := [.int .i64 0, .int .i64 0, .int .i64 0, .int .i64 0]) rfl Try.isAgg47 Try.sizeOf47 rfl (unhide K1).zero rfl) rfl ⟨by rw [unhide HO]; rw [inR_no (unhide HO)], (unhide K1).out _ _ _ _⟩
  by_cases hl : ps.length ≤ 300
  case neg =>
    have HO : Hid (inOk ⟨x, y, u, v⟩ ps = false) := hide (inOk_many hl)
    go_enter Try.func22, Try.ntmps22
    go_wp2_with (go_at_call 43; refine (l11Drift_al _ _ _ _ _ (by exact q1)).mono ?_; rintro e w1 ⟨rfl, hw⟩; have b1 := plBel hw; have K1 := hide ((unhide K0).below b1); clear b1 hw; have cd0 : w1.cell? ⟨w.heap.size, 0, none⟩ = some (.int .i64 x) := (by have h := (unhide K1).bd.c 0 (by simp); simpa using h); have fd0 : w1.frozen? ⟨w.heap.size, 0, none⟩ = false := (unhide K1).bd.f 0 (by simp); have cd1 : w1.cell? ⟨w.heap.size, 1, none⟩ = some (.int .i64 y) := (by have h := (unhide K1).bd.c 1 (by simp); simpa using h); have fd1 : w1.frozen? ⟨w.heap.size, 1, none⟩ = false := (unhide K1).bd.f 1 (by simp); have cd2 : w1.cell? ⟨w.heap.size, 2, none⟩ = some (.int .i64 u) := (by have h := (unhide K1).bd.c 2 (by simp); simpa using h); have fd2 : w1.frozen? ⟨w.heap.size, 2, none⟩ = false := (unhide K1).bd.f 2 (by simp); have cd3 : w1.cell? ⟨w.heap.size, 3, none⟩ = some (.int .i64 v) := (by have h := (unhide K1).bd.c 3 (by simp); simpa using h); have fd3 : w1.frozen? ⟨w.heap.size, 3, none⟩ = false := (unhide K1).bd.f 3 (by simp); have cr0 : w1.cell? ⟨w.heap.size + 1, 0, none⟩ = some (.int .i64 0) := (by have h := (unhide K1).br.c 0 (by simp); simpa using h); have fr0 : w1.frozen? ⟨w.heap.size + 1, 0, none⟩ = false := (unhide K1).br.f 0 (by simp); have cr1 : w1.cell? ⟨w.heap.size + 1, 1, none⟩ = some (.int .i64 0) := (by have h := (unhide K1).br.c 1 (by simp); simpa using h); have fr1 : w1.frozen? ⟨w.heap.size + 1, 1, none⟩ = false := (unhide K1).br.f 1 (by simp); have cr2 : w1.cell? ⟨w.heap.size + 1, 2, none⟩ = some (.int .i64 0) := (by have h := (unhide K1).br.c 2 (by simp); simpa using h); have fr2 : w1.frozen? ⟨w.heap.size + 1, 2, none⟩ = false := (unhide K1).br.f 2 (by simp); have cr3 : w1.cell? ⟨w.heap.size + 1, 3, none⟩ = some (.int .i64 0) := (by have h := (unhide K1).br.c 3 (by simp); simpa using h); have fr3 : w1.frozen? ⟨w.heap.size + 1, 3, none⟩ = false := (unhide K1).br.f 3 (by simp))
    refine bodyPost_ret (results_cellB (x := .bool false) (vs := [.int .i64 0, .int .i64 0, .int .i64 0, .int .i64 0]) rfl Try.isAgg47 Try.sizeOf47 rfl (unhide K1).zero rfl) rfl ⟨by rw [unhide HO]; rw [inR_no (unhide HO)], (unhide K1).out _ _ _ _⟩
  have Q1 := hide q1
  go_enter Try.func22, Try.ntmps22
  go_wp2_with (go_at_call 43; refine (l11Drift_al _ _ _ _ _ (by exact q1)).mono ?_; rintro e w1 ⟨rfl, hw⟩; have b1 := plBel hw; have K1 := hide ((unhide K0).below b1); clear b1 hw)
  clear q1
  go_loopw [6] (fun i wr => ∃ k : Nat, k ≤ ps.length ∧ i = .int .i64 k ∧ Hid (Inr w wr (inAt ⟨x, y, u, v⟩ ps k)) ∧ Hid (dtD (inAt ⟨x, y, u, v⟩ ps k) = true) ∧ Hid (∀ j, j < k → inOne ⟨x, y, u, v⟩ ps j = true)) (fun i _ => ps.length - (intOf i).toNat)
  case atStart => exact ⟨0, Nat.zero_le _, rfl, K1, Q1, hide (fun j hj => absurd hj (Nat.not_lt_zero _))⟩
  case round =>
    obtain ⟨k, hk, rfl, K, QD, QA⟩ := hrel
    obtain ⟨E, hE⟩ : ∃ E, inAt ⟨x, y, u, v⟩ ps k = E := ⟨_, rfl⟩
    obtain ⟨x1, y1, u1, v1⟩ := E
    rw [hE] at K QD
    have HE := hide hE
    have fd : dtB x1 y1 u1 v1 = true := unhide QD
    have fb := dtB_facts fd
    clear hE QD
    have cd0 : wr.cell? ⟨w.heap.size, 0, none⟩ = some (.int .i64 x1) := (by have h := (unhide K).bd.c 0 (by simp); simpa using h)
    have fd0 : wr.frozen? ⟨w.heap.size, 0, none⟩ = false := (unhide K).bd.f 0 (by simp)
    have cd1 : wr.cell? ⟨w.heap.size, 1, none⟩ = some (.int .i64 y1) := (by have h := (unhide K).bd.c 1 (by simp); simpa using h)
    have fd1 : wr.frozen? ⟨w.heap.size, 1, none⟩ = false := (unhide K).bd.f 1 (by simp)
    have cd2 : wr.cell? ⟨w.heap.size, 2, none⟩ = some (.int .i64 u1) := (by have h := (unhide K).bd.c 2 (by simp); simpa using h)
    have fd2 : wr.frozen? ⟨w.heap.size, 2, none⟩ = false := (unhide K).bd.f 2 (by simp)
    have cd3 : wr.cell? ⟨w.heap.size, 3, none⟩ = some (.int .i64 v1) := (by have h := (unhide K).bd.c 3 (by simp); simpa using h)
    have fd3 : wr.frozen? ⟨w.heap.size, 3, none⟩ = false := (unhide K).bd.f 3 (by simp)
    have cr0 : wr.cell? ⟨w.heap.size + 1, 0, none⟩ = some (.int .i64 0) := (by have h := (unhide K).br.c 0 (by simp); simpa using h)
    have fr0 : wr.frozen? ⟨w.heap.size + 1, 0, none⟩ = false := (unhide K).br.f 0 (by simp)
    have cr1 : wr.cell? ⟨w.heap.size + 1, 1, none⟩ = some (.int .i64 0) := (by have h := (unhide K).br.c 1 (by simp); simpa using h)
    have fr1 : wr.frozen? ⟨w.heap.size + 1, 1, none⟩ = false := (unhide K).br.f 1 (by simp)
    have cr2 : wr.cell? ⟨w.heap.size + 1, 2, none⟩ = some (.int .i64 0) := (by have h := (unhide K).br.c 2 (by simp); simpa using h)
    have fr2 : wr.frozen? ⟨w.heap.size + 1, 2, none⟩ = false := (unhide K).br.f 2 (by simp)
    have cr3 : wr.cell? ⟨w.heap.size + 1, 3, none⟩ = some (.int .i64 0) := (by have h := (unhide K).br.c 3 (by simp); simpa using h)
    have fr3 : wr.frozen? ⟨w.heap.size + 1, 3, none⟩ = false := (unhide K).br.f 3 (by simp)
    by_cases hlt : k < ps.length
    case neg =>
      have ek : k = ps.length := by omega
      have HO : Hid (inOk ⟨x, y, u, v⟩ ps = true) := hide (inOk_yes (unhide Q1) hl (fun j hj => unhide QA j (by omega)))
      have HV : Hid (inR ⟨x, y, u, v⟩ ps = ⟨x1, y1, u1, v1⟩) := hide (by rw [inR_yes (unhide HO), ← ek]; exact unhide HE)
      clear ek
      go_wp2
      refine bodyPost_ret (results_cellB (x := .bool true) (vs := [.int .i64 x1, .int .i64 y1, .int .i64 u1, .int .i64 v1]) rfl Try.isAgg47 Try.sizeOf47 rfl ((unhide K).told x1 y1 u1 v1) rfl) rfl ⟨by rw [unhide HO, unhide HV], (unhide K).out _ _ _ _⟩
    have HL := hide hlt
    have hr := (unhide R0).below (unhide K).bel
    rcases hr.open_ with ⟨h0, _⟩ | ⟨bb, off, rfl, _, hc⟩
    · omega
    obtain ⟨E2, hE2⟩ : ∃ E2, elAt ps k = E2 := ⟨_, rfl⟩
    obtain ⟨a, b⟩ := E2
    have HE2 := hide hE2
    have ca : wr.cell? ⟨bb, off + k * 2, none⟩ = some (.int .i64 a) := by have h := hc k hlt 0 (by omega); rw [hE2] at h; exact h
    have cb : wr.cell? ⟨bb, off + k * 2 + 1, none⟩ = some (.int .i64 b) := by have h := hc k hlt 1 (by omega); rw [hE2] at h; exact h
    clear hc hr hE2
    rcases two (inB a (-1000) 1000) (inB b (-1000) 1000) with ⟨q2, hv⟩ | ⟨q2, q3, hv⟩ | ⟨q2, q3, hv⟩
    iterate 2
      · have HO : Hid (inOk ⟨x, y, u, v⟩ ps = false) := hide (inOk_at hlt (inOne_push (unhide HE2) hv))
        clear hv
        go_wp2_with (go_at_call 44; refine (l1In_is _ _ _ _ (by first | exact q2 | exact q3)).mono ?_; rintro e w' ⟨rfl, hw⟩; subst w')
        refine bodyPost_ret (results_cellB (x := .bool false) (vs := [.int .i64 0, .int .i64 0, .int .i64 0, .int .i64 0]) rfl Try.isAgg47 Try.sizeOf47 rfl (unhide K).zero rfl) rfl ⟨by rw [unhide HO]; rw [inR_no (unhide HO)], (unhide K).out _ _ _ _⟩
    have fp : puB a b = true := hv
    have fpb := puB_facts fp
    clear hv
    cases q5 : dtB (x1 + (u1 + a)) (y1 + (v1 + b)) (u1 + a) (v1 + b)
    · have HO : Hid (inOk ⟨x, y, u, v⟩ ps = false) := hide (inOk_at hlt (inOne_is (unhide HE2) (unhide HE) fp false q5))
      go_wp2_with (go_at_call 44; refine (l1In_is _ _ _ _ (by first | exact q2 | exact q3)).mono ?_; rintro e w' ⟨rfl, hw⟩; subst w')
      go_quiet (fail)
      go_wp2_with (go_at_call 43; refine (l11Drift_al _ _ _ _ _ (by exact q5)).mono ?_; rintro e w3 ⟨rfl, hw⟩; have b1 := plBel hw; have K3 := hide ((((unhide K).below (bel0d _)).put _ _ _ _).below b1); clear b1 hw cd0 fd0 cd1 fd1 cd2 fd2 cd3 fd3 cr0 fr0 cr1 fr1 cr2 fr2 cr3 fr3; have cd0 : w3.cell? ⟨w.heap.size, 0, none⟩ = some (.int .i64 (x1 + (u1 + a))) := (by have h := (unhide K3).bd.c 0 (by simp); simpa using h); have fd0 : w3.frozen? ⟨w.heap.size, 0, none⟩ = false := (unhide K3).bd.f 0 (by simp); have cd1 : w3.cell? ⟨w.heap.size, 1, none⟩ = some (.int .i64 (y1 + (v1 + b))) := (by have h := (unhide K3).bd.c 1 (by simp); simpa using h); have fd1 : w3.frozen? ⟨w.heap.size, 1, none⟩ = false := (unhide K3).bd.f 1 (by simp); have cd2 : w3.cell? ⟨w.heap.size, 2, none⟩ = some (.int .i64 (u1 + a)) := (by have h := (unhide K3).bd.c 2 (by simp); simpa using h); have fd2 : w3.frozen? ⟨w.heap.size, 2, none⟩ = false := (unhide K3).bd.f 2 (by simp); have cd3 : w3.cell? ⟨w.heap.size, 3, none⟩ = some (.int .i64 (v1 + b)) := (by have h := (unhide K3).bd.c 3 (by simp); simpa using h); have fd3 : w3.frozen? ⟨w.heap.size, 3, none⟩ = false := (unhide K3).bd.f 3 (by simp); have cr0 : w3.cell? ⟨w.heap.size + 1, 0, none⟩ = some (.int .i64 0) := (by have h := (unhide K3).br.c 0 (by simp); simpa using h); have fr0 : w3.frozen? ⟨w.heap.size + 1, 0, none⟩ = false := (unhide K3).br.f 0 (by simp); have cr1 : w3.cell? ⟨w.heap.size + 1, 1, none⟩ = some (.int .i64 0) := (by have h := (unhide K3).br.c 1 (by simp); simpa using h); have fr1 : w3.frozen? ⟨w.heap.size + 1, 1, none⟩ = false := (unhide K3).br.f 1 (by simp); have cr2 : w3.cell? ⟨w.heap.size + 1, 2, none⟩ = some (.int .i64 0) := (by have h := (unhide K3).br.c 2 (by simp); simpa using h); have fr2 : w3.frozen? ⟨w.heap.size + 1, 2, none⟩ = false := (unhide K3).br.f 2 (by simp); have cr3 : w3.cell? ⟨w.heap.size + 1, 3, none⟩ = some (.int .i64 0) := (by have h := (unhide K3).br.c 3 (by simp); simpa using h); have fr3 : w3.frozen? ⟨w.heap.size + 1, 3, none⟩ = false := (unhide K3).br.f 3 (by simp))
      refine bodyPost_ret (results_cellB (x := .bool false) (vs := [.int .i64 0, .int .i64 0, .int .i64 0, .int .i64 0]) rfl Try.isAgg47 Try.sizeOf47 rfl (unhide K3).zero rfl) rfl ⟨by rw [unhide HO]; rw [inR_no (unhide HO)], (unhide K3).out _ _ _ _⟩
    · have HN := hide (inAt_next (unhide HE2) (unhide HE))
      have HQ := hide (inOne_is (unhide HE2) (unhide HE) fp true q5)
      go_wp2_with (go_at_call 44; refine (l1In_is _ _ _ _ (by first | exact q2 | exact q3)).mono ?_; rintro e w' ⟨rfl, hw⟩; subst w')
      go_quiet (fail)
      go_wp2_with (go_at_call 43; refine (l11Drift_al _ _ _ _ _ (by exact q5)).mono ?_; rintro e w3 ⟨rfl, hw⟩; have b1 := plBel hw; have K3 := hide ((((unhide K).below (bel0d _)).put _ _ _ _).below b1); clear b1 hw cd0 fd0 cd1 fd1 cd2 fd2 cd3 fd3 cr0 fr0 cr1 fr1 cr2 fr2 cr3 fr3)
      go_roundw
      case rel => exact ⟨k + 1, by omega, by go_num, by rw [unhide HN]; exact K3, by rw [unhide HN]; exact q5, hide (fun i hi => by rcases Nat.lt_succ_iff_lt_or_eq.1 hi with h | h; exact unhide QA i h; subst h; exact unhide HQ)⟩
      case measure => simp [intOf]; omega


set_option maxRecDepth 20000 in
set_option maxHeartbeats 8000000 in
theorem implInertial_any (x y u v : Int) (ad : Option Addr) (len cap : Nat) (ps : List Pu) (w : World) (hr : RowE 2 puC w ad len ps) :
    Calls Try.prog 25 #[.agg #[.int .i64 x, .int .i64 y, .int .i64 u, .int .i64 v], .slice ad len cap] w fun e w' => e = .returned (.tuple #[.agg #[.int .i64 (inR ⟨x, y, u, v⟩ ps).a0, .int .i64 (inR ⟨x, y, u, v⟩ ps).a1, .int .i64 (inR ⟨x, y, u, v⟩ ps).a2, .int .i64 (inR ⟨x, y, u, v⟩ ps).a3], .bool (inOk ⟨x, y, u, v⟩ ps)]) ∧ Below w.heap.size w w' := by
  have hz := hr.len_eq
  have hs := hr.small
  have R0 := hide hr
  clear hr
  subst hz
  have K0 := hide (inr_new w x y u v 47)
  cases q1 : dtB x y u v
  · have HO : Hid (inOk ⟨x, y, u, v⟩ ps = false) := hide (inOk_first q1)
    go_enter Try.func25, Try.ntmps25
    go_wp2_with (go_at_call 46; refine (driftOk_al _ _ _ _ _ (by exact q1)).mono ?_; rintro e w1 ⟨rfl, hw⟩; have b1 := drBel hw; have K1 := hide ((unhide K0).below b1); clear b1 hw; have cd0 : w1.cell? ⟨w.heap.size, 0, none⟩ = some (.int .i64 x) := (by have h := (unhide K1).bd.c 0 (by simp); simpa using h); have fd0 : w1.frozen? ⟨w.heap.size, 0, none⟩ = false := (unhide K1).bd.f 0 (by simp); have cd1 : w1.cell? ⟨w.heap.size, 1, none⟩ = some (.int .i64 y) := (by have h := (unhide K1).bd.c 1 (by simp); simpa using h); have fd1 : w1.frozen? ⟨w.heap.size, 1, none⟩ = false := (unhide K1).bd.f 1 (by simp); have cd2 : w1.cell? ⟨w.heap.size, 2, none⟩ = some (.int .i64 u) := (by have h := (unhide K1).bd.c 2 (by simp); simpa using h); have fd2 : w1.frozen? ⟨w.heap.size, 2, none⟩ = false := (unhide K1).bd.f 2 (by simp); have cd3 : w1.cell? ⟨w.heap.size, 3, none⟩ = some (.int .i64 v) := (by have h := (unhide K1).bd.c 3 (by simp); simpa using h); have fd3 : w1.frozen? ⟨w.heap.size, 3, none⟩ = false := (unhide K1).bd.f 3 (by simp); have cr0 : w1.cell? ⟨w.heap.size + 1, 0, none⟩ = some (.int .i64 0) := (by have h := (unhide K1).br.c 0 (by simp); simpa using h); have fr0 : w1.frozen? ⟨w.heap.size + 1, 0, none⟩ = false := (unhide K1).br.f 0 (by simp); have cr1 : w1.cell? ⟨w.heap.size + 1, 1, none⟩ = some (.int .i64 0) := (by have h := (unhide K1).br.c 1 (by simp); simpa using h); have fr1 : w1.frozen? ⟨w.heap.size + 1, 1, none⟩ = false := (unhide K1).br.f 1 (by simp); have cr2 : w1.cell? ⟨w.heap.size + 1, 2, none⟩ = some (.int .i64 0) := (by have h := (unhide K1).br.c 2 (by simp); simpa using h); have fr2 : w1.frozen? ⟨w.heap.size + 1, 2, none⟩ = false := (unhide K1).br.f 2 (by simp); have cr3 : w1.cell? ⟨w.heap.size + 1, 3, none⟩ = some (.int .i64 0) := (by have h := (unhide K1).br.c 3 (by simp); simpa using h); have fr3 : w1.frozen? ⟨w.heap.size + 1, 3, none⟩ = false := (unhide K1).br.f 3 (by simp))
    refine bodyPost_ret (results_cellB (x := .bool false) (vs := [.int .i64 0, .int .i64 0, .int .i64 0, .int .i64 0]) rfl Try.isAgg47 Try.sizeOf47 rfl (unhide K1).zero rfl) rfl ⟨by rw [unhide HO]; rw [inR_no (unhide HO)], (unhide K1).out _ _ _ _⟩
  by_cases hl : ps.length ≤ 300
  case neg =>
    have HO : Hid (inOk ⟨x, y, u, v⟩ ps = false) := hide (inOk_many hl)
    go_enter Try.func25, Try.ntmps25
    go_wp2_with (go_at_call 46; refine (driftOk_al _ _ _ _ _ (by exact q1)).mono ?_; rintro e w1 ⟨rfl, hw⟩; have b1 := drBel hw; have K1 := hide ((unhide K0).below b1); clear b1 hw; have cd0 : w1.cell? ⟨w.heap.size, 0, none⟩ = some (.int .i64 x) := (by have h := (unhide K1).bd.c 0 (by simp); simpa using h); have fd0 : w1.frozen? ⟨w.heap.size, 0, none⟩ = false := (unhide K1).bd.f 0 (by simp); have cd1 : w1.cell? ⟨w.heap.size, 1, none⟩ = some (.int .i64 y) := (by have h := (unhide K1).bd.c 1 (by simp); simpa using h); have fd1 : w1.frozen? ⟨w.heap.size, 1, none⟩ = false := (unhide K1).bd.f 1 (by simp); have cd2 : w1.cell? ⟨w.heap.size, 2, none⟩ = some (.int .i64 u) := (by have h := (unhide K1).bd.c 2 (by simp); simpa using h); have fd2 : w1.frozen? ⟨w.heap.size, 2, none⟩ = false := (unhide K1).bd.f 2 (by simp); have cd3 : w1.cell? ⟨w.heap.size, 3, none⟩ = some (.int .i64 v) := (by have h := (unhide K1).bd.c 3 (by simp); simpa using h); have fd3 : w1.frozen? ⟨w.heap.size, 3, none⟩ = false := (unhide K1).bd.f 3 (by simp); have cr0 : w1.cell? ⟨w.heap.size + 1, 0, none⟩ = some (.int .i64 0) := (by have h := (unhide K1).br.c 0 (by simp); simpa using h); have fr0 : w1.frozen? ⟨w.heap.size + 1, 0, none⟩ = false := (unhide K1).br.f 0 (by simp); have cr1 : w1.cell? ⟨w.heap.size + 1, 1, none⟩ = some (.int .i64 0) := (by have h := (unhide K1).br.c 1 (by simp); simpa using h); have fr1 : w1.frozen? ⟨w.heap.size + 1, 1, none⟩ = false := (unhide K1).br.f 1 (by simp); have cr2 : w1.cell? ⟨w.heap.size + 1, 2, none⟩ = some (.int .i64 0) := (by have h := (unhide K1).br.c 2 (by simp); simpa using h); have fr2 : w1.frozen? ⟨w.heap.size + 1, 2, none⟩ = false := (unhide K1).br.f 2 (by simp); have cr3 : w1.cell? ⟨w.heap.size + 1, 3, none⟩ = some (.int .i64 0) := (by have h := (unhide K1).br.c 3 (by simp); simpa using h); have fr3 : w1.frozen? ⟨w.heap.size + 1, 3, none⟩ = false := (unhide K1).br.f 3 (by simp))
    refine bodyPost_ret (results_cellB (x := .bool false) (vs := [.int .i64 0, .int .i64 0, .int .i64 0, .int .i64 0]) rfl Try.isAgg47 Try.sizeOf47 rfl (unhide K1).zero rfl) rfl ⟨by rw [unhide HO]; rw [inR_no (unhide HO)], (unhide K1).out _ _ _ _⟩
  have Q1 := hide q1
  go_enter Try.func25, Try.ntmps25
  go_wp2_with (go_at_call 46; refine (driftOk_al _ _ _ _ _ (by exact q1)).mono ?_; rintro e w1 ⟨rfl, hw⟩; have b1 := drBel hw; have K1 := hide ((unhide K0).below b1); clear b1 hw)
  clear q1
  go_loopw [19] (fun i wr => ∃ k : Nat, k ≤ ps.length ∧ i = .int .i64 k ∧ Hid (Inr w wr (inAt ⟨x, y, u, v⟩ ps k)) ∧ Hid (dtD (inAt ⟨x, y, u, v⟩ ps k) = true) ∧ Hid (∀ j, j < k → inOne ⟨x, y, u, v⟩ ps j = true)) (fun i _ => ps.length - (intOf i).toNat)
  case atStart => exact ⟨0, Nat.zero_le _, rfl, K1, Q1, hide (fun j hj => absurd hj (Nat.not_lt_zero _))⟩
  case round =>
    obtain ⟨k, hk, rfl, K, QD, QA⟩ := hrel
    obtain ⟨E, hE⟩ : ∃ E, inAt ⟨x, y, u, v⟩ ps k = E := ⟨_, rfl⟩
    obtain ⟨x1, y1, u1, v1⟩ := E
    rw [hE] at K QD
    have HE := hide hE
    have fd : dtB x1 y1 u1 v1 = true := unhide QD
    have fb := dtB_facts fd
    clear hE QD
    have cd0 : wr.cell? ⟨w.heap.size, 0, none⟩ = some (.int .i64 x1) := (by have h := (unhide K).bd.c 0 (by simp); simpa using h)
    have fd0 : wr.frozen? ⟨w.heap.size, 0, none⟩ = false := (unhide K).bd.f 0 (by simp)
    have cd1 : wr.cell? ⟨w.heap.size, 1, none⟩ = some (.int .i64 y1) := (by have h := (unhide K).bd.c 1 (by simp); simpa using h)
    have fd1 : wr.frozen? ⟨w.heap.size, 1, none⟩ = false := (unhide K).bd.f 1 (by simp)
    have cd2 : wr.cell? ⟨w.heap.size, 2, none⟩ = some (.int .i64 u1) := (by have h := (unhide K).bd.c 2 (by simp); simpa using h)
    have fd2 : wr.frozen? ⟨w.heap.size, 2, none⟩ = false := (unhide K).bd.f 2 (by simp)
    have cd3 : wr.cell? ⟨w.heap.size, 3, none⟩ = some (.int .i64 v1) := (by have h := (unhide K).bd.c 3 (by simp); simpa using h)
    have fd3 : wr.frozen? ⟨w.heap.size, 3, none⟩ = false := (unhide K).bd.f 3 (by simp)
    have cr0 : wr.cell? ⟨w.heap.size + 1, 0, none⟩ = some (.int .i64 0) := (by have h := (unhide K).br.c 0 (by simp); simpa using h)
    have fr0 : wr.frozen? ⟨w.heap.size + 1, 0, none⟩ = false := (unhide K).br.f 0 (by simp)
    have cr1 : wr.cell? ⟨w.heap.size + 1, 1, none⟩ = some (.int .i64 0) := (by have h := (unhide K).br.c 1 (by simp); simpa using h)
    have fr1 : wr.frozen? ⟨w.heap.size + 1, 1, none⟩ = false := (unhide K).br.f 1 (by simp)
    have cr2 : wr.cell? ⟨w.heap.size + 1, 2, none⟩ = some (.int .i64 0) := (by have h := (unhide K).br.c 2 (by simp); simpa using h)
    have fr2 : wr.frozen? ⟨w.heap.size + 1, 2, none⟩ = false := (unhide K).br.f 2 (by simp)
    have cr3 : wr.cell? ⟨w.heap.size + 1, 3, none⟩ = some (.int .i64 0) := (by have h := (unhide K).br.c 3 (by simp); simpa using h)
    have fr3 : wr.frozen? ⟨w.heap.size + 1, 3, none⟩ = false := (unhide K).br.f 3 (by simp)
    by_cases hlt : k < ps.length
    case neg =>
      have ek : k = ps.length := by omega
      have HO : Hid (inOk ⟨x, y, u, v⟩ ps = true) := hide (inOk_yes (unhide Q1) hl (fun j hj => unhide QA j (by omega)))
      have HV : Hid (inR ⟨x, y, u, v⟩ ps = ⟨x1, y1, u1, v1⟩) := hide (by rw [inR_yes (unhide HO), ← ek]; exact unhide HE)
      clear ek
      go_wp2
      refine bodyPost_ret (results_cellB (x := .bool true) (vs := [.int .i64 x1, .int .i64 y1, .int .i64 u1, .int .i64 v1]) rfl Try.isAgg47 Try.sizeOf47 rfl ((unhide K).told x1 y1 u1 v1) rfl) rfl ⟨by rw [unhide HO, unhide HV], (unhide K).out _ _ _ _⟩
    have HL := hide hlt
    have hr := (unhide R0).below (unhide K).bel
    rcases hr.open_ with ⟨h0, _⟩ | ⟨bb, off, rfl, _, hc⟩
    · omega
    obtain ⟨E2, hE2⟩ : ∃ E2, elAt ps k = E2 := ⟨_, rfl⟩
    obtain ⟨a, b⟩ := E2
    have HE2 := hide hE2
    have ca : wr.cell? ⟨bb, off + k * 2, none⟩ = some (.int .i64 a) := by have h := hc k hlt 0 (by omega); rw [hE2] at h; exact h
    have cb : wr.cell? ⟨bb, off + k * 2 + 1, none⟩ = some (.int .i64 b) := by have h := hc k hlt 1 (by omega); rw [hE2] at h; exact h
    clear hc hr hE2
    cases q2 : puB a b
    · have HO : Hid (inOk ⟨x, y, u, v⟩ ps = false) := hide (inOk_at hlt (inOne_push (unhide HE2) q2))
      go_wp2_with (go_at_call 47; refine (pushOk_al _ _ _ (by exact q2)).mono ?_; rintro e w2 ⟨rfl, hw⟩; have b1 := plBel hw; have K2 := hide (((unhide K).below (bel1 (Obj.cells #[.int .i64 a, .int .i64 b] 73))).below b1); clear b1 hw cd0 fd0 cd1 fd1 cd2 fd2 cd3 fd3 cr0 fr0 cr1 fr1 cr2 fr2 cr3 fr3; have cd0 : w2.cell? ⟨w.heap.size, 0, none⟩ = some (.int .i64 x1) := (by have h := (unhide K2).bd.c 0 (by simp); simpa using h); have fd0 : w2.frozen? ⟨w.heap.size, 0, none⟩ = false := (unhide K2).bd.f 0 (by simp); have cd1 : w2.cell? ⟨w.heap.size, 1, none⟩ = some (.int .i64 y1) := (by have h := (unhide K2).bd.c 1 (by simp); simpa using h); have fd1 : w2.frozen? ⟨w.heap.size, 1, none⟩ = false := (unhide K2).bd.f 1 (by simp); have cd2 : w2.cell? ⟨w.heap.size, 2, none⟩ = some (.int .i64 u1) := (by have h := (unhide K2).bd.c 2 (by simp); simpa using h); have fd2 : w2.frozen? ⟨w.heap.size, 2, none⟩ = false := (unhide K2).bd.f 2 (by simp); have cd3 : w2.cell? ⟨w.heap.size, 3, none⟩ = some (.int .i64 v1) := (by have h := (unhide K2).bd.c 3 (by simp); simpa using h); have fd3 : w2.frozen? ⟨w.heap.size, 3, none⟩ = false := (unhide K2).bd.f 3 (by simp); have cr0 : w2.cell? ⟨w.heap.size + 1, 0, none⟩ = some (.int .i64 0) := (by have h := (unhide K2).br.c 0 (by simp); simpa using h); have fr0 : w2.frozen? ⟨w.heap.size + 1, 0, none⟩ = false := (unhide K2).br.f 0 (by simp); have cr1 : w2.cell? ⟨w.heap.size + 1, 1, none⟩ = some (.int .i64 0) := (by have h := (unhide K2).br.c 1 (by simp); simpa using h); have fr1 : w2.frozen? ⟨w.heap.size + 1, 1, none⟩ = false := (unhide K2).br.f 1 (by simp); have cr2 : w2.cell? ⟨w.heap.size + 1, 2, none⟩ = some (.int .i64 0) := (by have h := (unhide K2).br.c 2 (by simp); simpa using h); have fr2 : w2.frozen? ⟨w.heap.size + 1, 2, none⟩ = false := (unhide K2).br.f 2 (by simp); have cr3 : w2.cell? ⟨w.heap.size + 1, 3, none⟩ = some (.int .i64 0) := (by have h := (unhide K2).br.c 3 (by simp); simpa using h); have fr3 : w2.frozen? ⟨w.heap.size + 1, 3, none⟩ = false := (unhide K2).br.f 3 (by simp))
      refine bodyPost_ret (results_cellB (x := .bool false) (vs := [.int .i64 0, .int .i64 0, .int .i64 0, .int .i64 0]) rfl Try.isAgg47 Try.sizeOf47 rfl (unhide K2).zero rfl) rfl ⟨by rw [unhide HO]; rw [inR_no (unhide HO)], (unhide K2).out _ _ _ _⟩
    have fpb := puB_facts q2
    cases q5 : dtB (x1 + (u1 + a)) (y1 + (v1 + b)) (u1 + a) (v1 + b)
    · have HO : Hid (inOk ⟨x, y, u, v⟩ ps = false) := hide (inOk_at hlt (inOne_is (unhide HE2) (unhide HE) q2 false q5))
      go_wp2_with (first | (go_at_call 47; refine (pushOk_al _ _ _ (by exact q2)).mono ?_; rintro e w2 ⟨rfl, hw⟩; have b1 := plBel hw; have K2 := hide (((unhide K).below (bel1 (Obj.cells #[.int .i64 a, .int .i64 b] 73))).below b1); have cp0 : w2.cell? ⟨wr.heap.size, 0, none⟩ = some (.int .i64 a) := (b1.cell (by simp)).trans (by simp [go_sem]); have cp1 : w2.cell? ⟨wr.heap.size, 1, none⟩ = some (.int .i64 b) := (b1.cell (by simp)).trans (by simp [go_sem]); clear b1 hw cd0 fd0 cd1 fd1 cd2 fd2 cd3 fd3 cr0 fr0 cr1 fr1 cr2 fr2 cr3 fr3; have cd0 : w2.cell? ⟨w.heap.size, 0, none⟩ = some (.int .i64 x1) := (by have h := (unhide K2).bd.c 0 (by simp); simpa using h); have fd0 : w2.frozen? ⟨w.heap.size, 0, none⟩ = false := (unhide K2).bd.f 0 (by simp); have cd1 : w2.cell? ⟨w.heap.size, 1, none⟩ = some (.int .i64 y1) := (by have h := (unhide K2).bd.c 1 (by simp); simpa using h); have fd1 : w2.frozen? ⟨w.heap.size, 1, none⟩ = false := (unhide K2).bd.f 1 (by simp); have cd2 : w2.cell? ⟨w.heap.size, 2, none⟩ = some (.int .i64 u1) := (by have h := (unhide K2).bd.c 2 (by simp); simpa using h); have fd2 : w2.frozen? ⟨w.heap.size, 2, none⟩ = false := (unhide K2).bd.f 2 (by simp); have cd3 : w2.cell? ⟨w.heap.size, 3, none⟩ = some (.int .i64 v1) := (by have h := (unhide K2).bd.c 3 (by simp); simpa using h); have fd3 : w2.frozen? ⟨w.heap.size, 3, none⟩ = false := (unhide K2).bd.f 3 (by simp); have cr0 : w2.cell? ⟨w.heap.size + 1, 0, none⟩ = some (.int .i64 0) := (by have h := (unhide K2).br.c 0 (by simp); simpa using h); have fr0 : w2.frozen? ⟨w.heap.size + 1, 0, none⟩ = false := (unhide K2).br.f 0 (by simp); have cr1 : w2.cell? ⟨w.heap.size + 1, 1, none⟩ = some (.int .i64 0) := (by have h := (unhide K2).br.c 1 (by simp); simpa using h); have fr1 : w2.frozen? ⟨w.heap.size + 1, 1, none⟩ = false := (unhide K2).br.f 1 (by simp); have cr2 : w2.cell? ⟨w.heap.size + 1, 2, none⟩ = some (.int .i64 0) := (by have h := (unhide K2).br.c 2 (by simp); simpa using h); have fr2 : w2.frozen? ⟨w.heap.size + 1, 2, none⟩ = false := (unhide K2).br.f 2 (by simp); have cr3 : w2.cell? ⟨w.heap.size + 1, 3, none⟩ = some (.int .i64 0) := (by have h := (unhide K2).br.c 3 (by simp); simpa using h); have fr3 : w2.frozen? ⟨w.heap.size + 1, 3, none⟩ = false := (unhide K2).br.f 3 (by simp)) | (go_at_call 48; refine (behind_any _ _ _ _ _ _ _ fd q2).mono ?_; rintro e w4 ⟨rfl, b1⟩; have K4 := hide ((unhide K2).below b1); clear b1 cd0 fd0 cd1 fd1 cd2 fd2 cd3 fd3 cr0 fr0 cr1 fr1 cr2 fr2 cr3 fr3; have cd0 : w4.cell? ⟨w.heap.size, 0, none⟩ = some (.int .i64 x1) := (by have h := (unhide K4).bd.c 0 (by simp); simpa using h); have fd0 : w4.frozen? ⟨w.heap.size, 0, none⟩ = false := (unhide K4).bd.f 0 (by simp); have cd1 : w4.cell? ⟨w.heap.size, 1, none⟩ = some (.int .i64 y1) := (by have h := (unhide K4).bd.c 1 (by simp); simpa using h); have fd1 : w4.frozen? ⟨w.heap.size, 1, none⟩ = false := (unhide K4).bd.f 1 (by simp); have cd2 : w4.cell? ⟨w.heap.size, 2, none⟩ = some (.int .i64 u1) := (by have h := (unhide K4).bd.c 2 (by simp); simpa using h); have fd2 : w4.frozen? ⟨w.heap.size, 2, none⟩ = false := (unhide K4).bd.f 2 (by simp); have cd3 : w4.cell? ⟨w.heap.size, 3, none⟩ = some (.int .i64 v1) := (by have h := (unhide K4).bd.c 3 (by simp); simpa using h); have fd3 : w4.frozen? ⟨w.heap.size, 3, none⟩ = false := (unhide K4).bd.f 3 (by simp); have cr0 : w4.cell? ⟨w.heap.size + 1, 0, none⟩ = some (.int .i64 0) := (by have h := (unhide K4).br.c 0 (by simp); simpa using h); have fr0 : w4.frozen? ⟨w.heap.size + 1, 0, none⟩ = false := (unhide K4).br.f 0 (by simp); have cr1 : w4.cell? ⟨w.heap.size + 1, 1, none⟩ = some (.int .i64 0) := (by have h := (unhide K4).br.c 1 (by simp); simpa using h); have fr1 : w4.frozen? ⟨w.heap.size + 1, 1, none⟩ = false := (unhide K4).br.f 1 (by simp); have cr2 : w4.cell? ⟨w.heap.size + 1, 2, none⟩ = some (.int .i64 0) := (by have h := (unhide K4).br.c 2 (by simp); simpa using h); have fr2 : w4.frozen? ⟨w.heap.size + 1, 2, none⟩ = false := (unhide K4).br.f 2 (by simp); have cr3 : w4.cell? ⟨w.heap.size + 1, 3, none⟩ = some (.int .i64 0) := (by have h := (unhide K4).br.c 3 (by simp); simpa using h); have fr3 : w4.frozen? ⟨w.heap.size + 1, 3, none⟩ = false := (unhide K4).br.f 3 (by simp)) | (go_at_call 46; refine (driftOk_al _ _ _ _ _ (by exact q5)).mono ?_; rintro e w5 ⟨rfl, hw⟩; have b1 := drBel hw; have K3 := hide (((unhide K4).put _ _ _ _).below b1); clear b1 hw cd0 fd0 cd1 fd1 cd2 fd2 cd3 fd3 cr0 fr0 cr1 fr1 cr2 fr2 cr3 fr3; have cd0 : w5.cell? ⟨w.heap.size, 0, none⟩ = some (.int .i64 (x1 + (u1 + a))) := (by have h := (unhide K3).bd.c 0 (by simp); simpa using h); have fd0 : w5.frozen? ⟨w.heap.size, 0, none⟩ = false := (unhide K3).bd.f 0 (by simp); have cd1 : w5.cell? ⟨w.heap.size, 1, none⟩ = some (.int .i64 (y1 + (v1 + b))) := (by have h := (unhide K3).bd.c 1 (by simp); simpa using h); have fd1 : w5.frozen? ⟨w.heap.size, 1, none⟩ = false := (unhide K3).bd.f 1 (by simp); have cd2 : w5.cell? ⟨w.heap.size, 2, none⟩ = some (.int .i64 (u1 + a)) := (by have h := (unhide K3).bd.c 2 (by simp); simpa using h); have fd2 : w5.frozen? ⟨w.heap.size, 2, none⟩ = false := (unhide K3).bd.f 2 (by simp); have cd3 : w5.cell? ⟨w.heap.size, 3, none⟩ = some (.int .i64 (v1 + b)) := (by have h := (unhide K3).bd.c 3 (by simp); simpa using h); have fd3 : w5.frozen? ⟨w.heap.size, 3, none⟩ = false := (unhide K3).bd.f 3 (by simp); have cr0 : w5.cell? ⟨w.heap.size + 1, 0, none⟩ = some (.int .i64 0) := (by have h := (unhide K3).br.c 0 (by simp); simpa using h); have fr0 : w5.frozen? ⟨w.heap.size + 1, 0, none⟩ = false := (unhide K3).br.f 0 (by simp); have cr1 : w5.cell? ⟨w.heap.size + 1, 1, none⟩ = some (.int .i64 0) := (by have h := (unhide K3).br.c 1 (by simp); simpa using h); have fr1 : w5.frozen? ⟨w.heap.size + 1, 1, none⟩ = false := (unhide K3).br.f 1 (by simp); have cr2 : w5.cell? ⟨w.heap.size + 1, 2, none⟩ = some (.int .i64 0) := (by have h := (unhide K3).br.c 2 (by simp); simpa using h); have fr2 : w5.frozen? ⟨w.heap.size + 1, 2, none⟩ = false := (unhide K3).br.f 2 (by simp); have cr3 : w5.cell? ⟨w.heap.size + 1, 3, none⟩ = some (.int .i64 0) := (by have h := (unhide K3).br.c 3 (by simp); simpa using h); have fr3 : w5.frozen? ⟨w.heap.size + 1, 3, none⟩ = false := (unhide K3).br.f 3 (by simp)))
      refine bodyPost_ret (results_cellB (x := .bool false) (vs := [.int .i64 0, .int .i64 0, .int .i64 0, .int .i64 0]) rfl Try.isAgg47 Try.sizeOf47 rfl (unhide K3).zero rfl) rfl ⟨by rw [unhide HO]; rw [inR_no (unhide HO)], (unhide K3).out _ _ _ _⟩
    · have HN := hide (inAt_next (unhide HE2) (unhide HE))
      have HQ := hide (inOne_is (unhide HE2) (unhide HE) q2 true q5)
      go_wp2_with (first | (go_at_call 47; refine (pushOk_al _ _ _ (by exact q2)).mono ?_; rintro e w2 ⟨rfl, hw⟩; have b1 := plBel hw; have K2 := hide (((unhide K).below (bel1 (Obj.cells #[.int .i64 a, .int .i64 b] 73))).below b1); have cp0 : w2.cell? ⟨wr.heap.size, 0, none⟩ = some (.int .i64 a) := (b1.cell (by simp)).trans (by simp [go_sem]); have cp1 : w2.cell? ⟨wr.heap.size, 1, none⟩ = some (.int .i64 b) := (b1.cell (by simp)).trans (by simp [go_sem]); clear b1 hw cd0 fd0 cd1 fd1 cd2 fd2 cd3 fd3 cr0 fr0 cr1 fr1 cr2 fr2 cr3 fr3; have cd0 : w2.cell? ⟨w.heap.size, 0, none⟩ = some (.int .i64 x1) := (by have h := (unhide K2).bd.c 0 (by simp); simpa using h); have fd0 : w2.frozen? ⟨w.heap.size, 0, none⟩ = false := (unhide K2).bd.f 0 (by simp); have cd1 : w2.cell? ⟨w.heap.size, 1, none⟩ = some (.int .i64 y1) := (by have h := (unhide K2).bd.c 1 (by simp); simpa using h); have fd1 : w2.frozen? ⟨w.heap.size, 1, none⟩ = false := (unhide K2).bd.f 1 (by simp); have cd2 : w2.cell? ⟨w.heap.size, 2, none⟩ = some (.int .i64 u1) := (by have h := (unhide K2).bd.c 2 (by simp); simpa using h); have fd2 : w2.frozen? ⟨w.heap.size, 2, none⟩ = false := (unhide K2).bd.f 2 (by simp); have cd3 : w2.cell? ⟨w.heap.size, 3, none⟩ = some (.int .i64 v1) := (by have h := (unhide K2).bd.c 3 (by simp); simpa using h); have fd3 : w2.frozen? ⟨w.heap.size, 3, none⟩ = false := (unhide K2).bd.f 3 (by simp); have cr0 : w2.cell? ⟨w.heap.size + 1, 0, none⟩ = some (.int .i64 0) := (by have h := (unhide K2).br.c 0 (by simp); simpa using h); have fr0 : w2.frozen? ⟨w.heap.size + 1, 0, none⟩ = false := (unhide K2).br.f 0 (by simp); have cr1 : w2.cell? ⟨w.heap.size + 1, 1, none⟩ = some (.int .i64 0) := (by have h := (unhide K2).br.c 1 (by simp); simpa using h); have fr1 : w2.frozen? ⟨w.heap.size + 1, 1, none⟩ = false := (unhide K2).br.f 1 (by simp); have cr2 : w2.cell? ⟨w.heap.size + 1, 2, none⟩ = some (.int .i64 0) := (by have h := (unhide K2).br.c 2 (by simp); simpa using h); have fr2 : w2.frozen? ⟨w.heap.size + 1, 2, none⟩ = false := (unhide K2).br.f 2 (by simp); have cr3 : w2.cell? ⟨w.heap.size + 1, 3, none⟩ = some (.int .i64 0) := (by have h := (unhide K2).br.c 3 (by simp); simpa using h); have fr3 : w2.frozen? ⟨w.heap.size + 1, 3, none⟩ = false := (unhide K2).br.f 3 (by simp)) | (go_at_call 48; refine (behind_any _ _ _ _ _ _ _ fd q2).mono ?_; rintro e w4 ⟨rfl, b1⟩; have K4 := hide ((unhide K2).below b1); clear b1 cd0 fd0 cd1 fd1 cd2 fd2 cd3 fd3 cr0 fr0 cr1 fr1 cr2 fr2 cr3 fr3; have cd0 : w4.cell? ⟨w.heap.size, 0, none⟩ = some (.int .i64 x1) := (by have h := (unhide K4).bd.c 0 (by simp); simpa using h); have fd0 : w4.frozen? ⟨w.heap.size, 0, none⟩ = false := (unhide K4).bd.f 0 (by simp); have cd1 : w4.cell? ⟨w.heap.size, 1, none⟩ = some (.int .i64 y1) := (by have h := (unhide K4).bd.c 1 (by simp); simpa using h); have fd1 : w4.frozen? ⟨w.heap.size, 1, none⟩ = false := (unhide K4).bd.f 1 (by simp); have cd2 : w4.cell? ⟨w.heap.size, 2, none⟩ = some (.int .i64 u1) := (by have h := (unhide K4).bd.c 2 (by simp); simpa using h); have fd2 : w4.frozen? ⟨w.heap.size, 2, none⟩ = false := (unhide K4).bd.f 2 (by simp); have cd3 : w4.cell? ⟨w.heap.size, 3, none⟩ = some (.int .i64 v1) := (by have h := (unhide K4).bd.c 3 (by simp); simpa using h); have fd3 : w4.frozen? ⟨w.heap.size, 3, none⟩ = false := (unhide K4).bd.f 3 (by simp); have cr0 : w4.cell? ⟨w.heap.size + 1, 0, none⟩ = some (.int .i64 0) := (by have h := (unhide K4).br.c 0 (by simp); simpa using h); have fr0 : w4.frozen? ⟨w.heap.size + 1, 0, none⟩ = false := (unhide K4).br.f 0 (by simp); have cr1 : w4.cell? ⟨w.heap.size + 1, 1, none⟩ = some (.int .i64 0) := (by have h := (unhide K4).br.c 1 (by simp); simpa using h); have fr1 : w4.frozen? ⟨w.heap.size + 1, 1, none⟩ = false := (unhide K4).br.f 1 (by simp); have cr2 : w4.cell? ⟨w.heap.size + 1, 2, none⟩ = some (.int .i64 0) := (by have h := (unhide K4).br.c 2 (by simp); simpa using h); have fr2 : w4.frozen? ⟨w.heap.size + 1, 2, none⟩ = false := (unhide K4).br.f 2 (by simp); have cr3 : w4.cell? ⟨w.heap.size + 1, 3, none⟩ = some (.int .i64 0) := (by have h := (unhide K4).br.c 3 (by simp); simpa using h); have fr3 : w4.frozen? ⟨w.heap.size + 1, 3, none⟩ = false := (unhide K4).br.f 3 (by simp)) | (go_at_call 46; refine (driftOk_al _ _ _ _ _ (by exact q5)).mono ?_; rintro e w5 ⟨rfl, hw⟩; have b1 := drBel hw; have K3 := hide (((unhide K4).put _ _ _ _).below b1); clear b1 hw cd0 fd0 cd1 fd1 cd2 fd2 cd3 fd3 cr0 fr0 cr1 fr1 cr2 fr2 cr3 fr3))
      go_roundw
      case rel => exact ⟨k + 1, by omega, by go_num, by rw [unhide HN]; exact K3, by rw [unhide HN]; exact q5, hide (fun i hi => by rcases Nat.lt_succ_iff_lt_or_eq.1 hi with h | h; exact unhide QA i h; subst h; exact unhide HQ)⟩
      case measure => simp [intOf]; omega


end Go.Proofs.Ytidgkkldhnckeat

/-
  Nearest of the model and of the program: the plain answer, at every argument; nothing that was there is written.
-/
import Derived.Test.YtbaocifpifbldaeTaNpu
import Derived.Test.YtbaocifpifbldaeTaSadv
namespace Go.Proofs.Ytbaocifpifbldae
open Go.RowKit


set_option maxRecDepth 20000 in
set_option maxHeartbeats 2000000 in
theorem implNearest_is {n : Int} {b : Bool} (oi oh oc os near wi : Int) (ad : Option Addr) (len cap : Nat) (ps : List Tc) (w : World) (hr : RowE 6 tcC w ad len ps) (hn : nrI oi oh oc os near wi ps = n) (hb : nrB oi oh oc os near wi ps = b) :
    Calls Try.prog 37 #[.agg #[.int .i64 oi, .int .i64 oh, .int .i64 oc, .int .i64 os], .slice ad len cap, .int .i64 near, .int .i64 wi] w fun e w' => e = .returned (.tuple #[.int .i64 n, .bool b]) ∧ Below w.heap.size w w' := by
  have hz := hr.len_eq
  have hs := hr.small
  have HOP := hide hr.open_
  have HNN := hide hn
  have HBB := hide hb
  clear hr hn hb
  subst hz
  by_cases hl : ps.length ≤ 20
  · have l1 : (ps.length : Int) ≤ 20 := by omega
    go_enter Try.func37, Try.ntmps37
    go_wp2_with fail
    obtain ⟨W, hW⟩ : ∃ W, W = (w.alloc (Obj.cells #[.int .i64 oi, .int .i64 oh, .int .i64 oc, .int .i64 os] 76)) := ⟨_, rfl⟩
    rw [← hW]
    have K0 : Hid (Blk W (w.heap.size) [.int .i64 oi, .int .i64 oh, .int .i64 oc, .int .i64 os]) := hide (by rw [hW]; exact Blk.new _ _)
    have B0 : Hid (Below w.heap.size w W) := hide (by rw [hW]; exact (by repeat (first | exact Below.refl _ _ | refine Below.alloc ?_ (by simp; try omega) _ | refine Below.setCell ?_ (by simp; try omega) _ | refine taDr ?_ _)))
    clear hW
    obtain ⟨ι, fW, _, hb, hall⟩ := belClass W
    have HB := hide hb
    have HA := hide hall
    have c00 : ∀ x, (fW x).cell? ⟨w.heap.size, 0, none⟩ = some (.int .i64 oi) := fun x => ((unhide K0).below (hb x)).c 0 (by simp)
    have c01 : ∀ x, (fW x).cell? ⟨w.heap.size, 1, none⟩ = some (.int .i64 oh) := fun x => ((unhide K0).below (hb x)).c 1 (by simp)
    have c02 : ∀ x, (fW x).cell? ⟨w.heap.size, 2, none⟩ = some (.int .i64 oc) := fun x => ((unhide K0).below (hb x)).c 2 (by simp)
    have c03 : ∀ x, (fW x).cell? ⟨w.heap.size, 3, none⟩ = some (.int .i64 os) := fun x => ((unhide K0).below (hb x)).c 3 (by simp)
    clear hb hall
    obtain ⟨x0, h0⟩ := (unhide HA) W (Below.refl _ _)
    rw [h0]
    clear h0
    go_wp2_with (first | (go_at_call 75; refine (belQ (unhide HB) (unhide HA) (watcherOf_al _ _ _ _ _ _ _)).mono ?_; rintro e _ ⟨rfl, y, rfl⟩))
    obtain ⟨V, hV⟩ : ∃ V, V = (fW y).alloc (Obj.cells #[.int .i64 oi, .int .i64 oh, .int .i64 oc, .int .i64 os, .int .i64 near, .int .i64 wi] 145) := ⟨_, rfl⟩
    rw [← hV]
    have K0 : Hid (Blk V (fW y).heap.size [.int .i64 oi, .int .i64 oh, .int .i64 oc, .int .i64 os, .int .i64 near, .int .i64 wi]) := hide (by rw [hV]; exact Blk.new _ _)
    have B0 : Hid (Below w.heap.size w V) := hide (by rw [hV]; exact (unhide B0).trans ((belAl (unhide HB y) _).mono (unhide B0).size))
    obtain ⟨P, hP⟩ : ∃ P, P = (fW y).heap.size := ⟨_, rfl⟩
    rw [← hP] at K0 ⊢
    clear hP hV HA HB c00 c01 c02 c03
    obtain ⟨ι, fW, _, hb, hall⟩ := belClass V
    have HB := hide hb
    have HA := hide hall
    have c00 : ∀ x, (fW x).cell? ⟨P, 0, none⟩ = some (.int .i64 oi) := fun x => ((unhide K0).below (hb x)).c 0 (by simp)
    have c01 : ∀ x, (fW x).cell? ⟨P, 1, none⟩ = some (.int .i64 oh) := fun x => ((unhide K0).below (hb x)).c 1 (by simp)
    have c02 : ∀ x, (fW x).cell? ⟨P, 2, none⟩ = some (.int .i64 oc) := fun x => ((unhide K0).below (hb x)).c 2 (by simp)
    have c03 : ∀ x, (fW x).cell? ⟨P, 3, none⟩ = some (.int .i64 os) := fun x => ((unhide K0).below (hb x)).c 3 (by simp)
    have c04 : ∀ x, (fW x).cell? ⟨P, 4, none⟩ = some (.int .i64 near) := fun x => ((unhide K0).below (hb x)).c 4 (by simp)
    have c05 : ∀ x, (fW x).cell? ⟨P, 5, none⟩ = some (.int .i64 wi) := fun x => ((unhide K0).below (hb x)).c 5 (by simp)
    clear hb hall
    obtain ⟨x1, h0⟩ := (unhide HA) V (Below.refl _ _)
    rw [h0]
    clear h0
    go_loopw [11, 12, 28] (fun s11 s12 s28 wr => ∃ (k : Nat) (B T : Int) (x : ι), k ≤ ps.length ∧ s11 = .int .i64 B ∧ s12 = .int .i64 T ∧ s28 = .int .i64 k ∧ (-1 ≤ B ∧ B < 20) ∧ (0 ≤ T ∧ T ≤ 301) ∧ Hid ((nrS oi oh oc os near wi ps k).1 = B) ∧ Hid ((nrS oi oh oc os near wi ps k).2 = T) ∧ wr = fW x) (fun _ _ s28 _ => ps.length - (intOf s28).toNat)
    case atStart => exact ⟨0, -1, 301, _, Nat.zero_le _, rfl, rfl, rfl, by omega, by omega, hide rfl, hide rfl, rfl⟩
    case round =>
      obtain ⟨k, B, T, x, hk, rfl, rfl, rfl, hB, hT, HS1, HS2, rfl⟩ := hrel
      by_cases hlt : k < ps.length
      · rcases (unhide HOP) with ⟨h0, _⟩ | ⟨bb, off, rfl, _, hcs⟩
        · omega
        obtain ⟨ti, e0⟩ : ∃ z, (elAt ps k).a0 = z := ⟨_, rfl⟩
        obtain ⟨th, e1⟩ : ∃ z, (elAt ps k).a1 = z := ⟨_, rfl⟩
        obtain ⟨tc, e2⟩ : ∃ z, (elAt ps k).a2 = z := ⟨_, rfl⟩
        obtain ⟨tf, e3⟩ : ∃ z, (elAt ps k).a3 = z := ⟨_, rfl⟩
        obtain ⟨tk, e4⟩ : ∃ z, (elAt ps k).a4 = z := ⟨_, rfl⟩
        obtain ⟨ts, e5⟩ : ∃ z, (elAt ps k).a5 = z := ⟨_, rfl⟩
        have m0 : ∀ x, (fW x).cell? ⟨bb, off + k * 6, none⟩ = some (.int .i64 ti) := fun x => (((unhide B0).trans ((unhide HB x).mono (unhide B0).size)).cell (block_lt_of_cell (hcs k hlt 0 (by omega)))).trans ((hcs k hlt 0 (by omega)).trans (by rw [← e0]; rfl))
        have m1 : ∀ x, (fW x).cell? ⟨bb, off + k * 6 + 1, none⟩ = some (.int .i64 th) := fun x => (((unhide B0).trans ((unhide HB x).mono (unhide B0).size)).cell (block_lt_of_cell (hcs k hlt 1 (by omega)))).trans ((hcs k hlt 1 (by omega)).trans (by rw [← e1]; rfl))
        have m2 : ∀ x, (fW x).cell? ⟨bb, off + k * 6 + 2, none⟩ = some (.int .i64 tc) := fun x => (((unhide B0).trans ((unhide HB x).mono (unhide B0).size)).cell (block_lt_of_cell (hcs k hlt 2 (by omega)))).trans ((hcs k hlt 2 (by omega)).trans (by rw [← e2]; rfl))
        have m3 : ∀ x, (fW x).cell? ⟨bb, off + k * 6 + 3, none⟩ = some (.int .i64 tf) := fun x => (((unhide B0).trans ((unhide HB x).mono (unhide B0).size)).cell (block_lt_of_cell (hcs k hlt 3 (by omega)))).trans ((hcs k hlt 3 (by omega)).trans (by rw [← e3]; rfl))
        have m4 : ∀ x, (fW x).cell? ⟨bb, off + k * 6 + 4, none⟩ = some (.int .i64 tk) := fun x => (((unhide B0).trans ((unhide HB x).mono (unhide B0).size)).cell (block_lt_of_cell (hcs k hlt 4 (by omega)))).trans ((hcs k hlt 4 (by omega)).trans (by rw [← e4]; rfl))
        have m5 : ∀ x, (fW x).cell? ⟨bb, off + k * 6 + 5, none⟩ = some (.int .i64 ts) := fun x => (((unhide B0).trans ((unhide HB x).mono (unhide B0).size)).cell (block_lt_of_cell (hcs k hlt 5 (by omega)))).trans ((hcs k hlt 5 (by omega)).trans (by rw [← e5]; rfl))
        obtain ⟨nn, hnn⟩ : ∃ z, nrN ps k = z := ⟨_, rfl⟩
        obtain ⟨tb, htb⟩ : ∃ z, nrT oi oh oc os near wi ps k = z := ⟨_, rfl⟩
        have HN : Hid (tiN ti th tc tf tk ts = nn) := hide (by rw [← e0, ← e1, ← e2, ← e3, ← e4, ← e5]; exact hnn)
        have HT : Hid (thB oi oh oc os ti th tc tf tk ts near wi = tb) := hide (by rw [← e0, ← e1, ← e2, ← e3, ← e4, ← e5]; exact htb)
        obtain ⟨t2, ht2⟩ : ∃ z, tiB ti th tc tf tk ts = z := ⟨_, rfl⟩
        have HI := hide ht2
        have HNK := hide hnn
        have HTK := hide htb
        clear hcs e0 e1 e2 e3 e4 e5 hnn htb ht2
        have n1 : (0 : Int) ≤ (k : Int) := by omega
        have n2 : (k : Int) < (ps.length : Int) := by omega
        cases tb with
        | false =>
          have HS := hide (nrS_no (Or.inl (unhide HTK)))
          go_wp2_with (go_at_call 82; refine (belG (unhide HA) (by repeat (first | exact unhide HB _ | refine belAl ?_ _)) (seenOf_al _ _ _ _ _ _ _)).mono ?_; rintro e _ ⟨rfl, y, rfl⟩)
          obtain ⟨V2, hV2⟩ : ∃ V, V = (fW y).alloc (Obj.cells #[.int .i64 ti, .int .i64 th, .int .i64 tc, .int .i64 ts, .int .i64 tf, .int .i64 tk] 149) := ⟨_, rfl⟩
          rw [← hV2]
          have K1 : Hid (Blk V2 (fW y).heap.size [.int .i64 ti, .int .i64 th, .int .i64 tc, .int .i64 ts, .int .i64 tf, .int .i64 tk]) := hide (by rw [hV2]; exact Blk.new _ _)
          have K0 : Hid (Blk V2 P [.int .i64 oi, .int .i64 oh, .int .i64 oc, .int .i64 os, .int .i64 near, .int .i64 wi]) := hide (by rw [hV2]; exact ((unhide K0).below (unhide HB y)).alloc _)
          have BV : Hid (Below V.heap.size V V2) := hide (by rw [hV2]; exact belAl (unhide HB y) _)
          obtain ⟨Q, hQ⟩ : ∃ P, P = (fW y).heap.size := ⟨_, rfl⟩
          rw [← hQ] at K1 ⊢
          clear hQ hV2 m0 m1 m2 m3 m4 m5 c00 c01 c02 c03 c04 c05
          obtain ⟨ι2, fQ, _, hb, hall⟩ := belClass V2
          have HB2 := hide hb
          have HA2 := hide hall
          have c00 : ∀ x, (fQ x).cell? ⟨P, 0, none⟩ = some (.int .i64 oi) := fun x => ((unhide K0).below (hb x)).c 0 (by simp)
          have c01 : ∀ x, (fQ x).cell? ⟨P, 1, none⟩ = some (.int .i64 oh) := fun x => ((unhide K0).below (hb x)).c 1 (by simp)
          have c02 : ∀ x, (fQ x).cell? ⟨P, 2, none⟩ = some (.int .i64 oc) := fun x => ((unhide K0).below (hb x)).c 2 (by simp)
          have c03 : ∀ x, (fQ x).cell? ⟨P, 3, none⟩ = some (.int .i64 os) := fun x => ((unhide K0).below (hb x)).c 3 (by simp)
          have c04 : ∀ x, (fQ x).cell? ⟨P, 4, none⟩ = some (.int .i64 near) := fun x => ((unhide K0).below (hb x)).c 4 (by simp)
          have c05 : ∀ x, (fQ x).cell? ⟨P, 5, none⟩ = some (.int .i64 wi) := fun x => ((unhide K0).below (hb x)).c 5 (by simp)
          have c10 : ∀ x, (fQ x).cell? ⟨Q, 0, none⟩ = some (.int .i64 ti) := fun x => ((unhide K1).below (hb x)).c 0 (by simp)
          have c11 : ∀ x, (fQ x).cell? ⟨Q, 1, none⟩ = some (.int .i64 th) := fun x => ((unhide K1).below (hb x)).c 1 (by simp)
          have c12 : ∀ x, (fQ x).cell? ⟨Q, 2, none⟩ = some (.int .i64 tc) := fun x => ((unhide K1).below (hb x)).c 2 (by simp)
          have c13 : ∀ x, (fQ x).cell? ⟨Q, 3, none⟩ = some (.int .i64 ts) := fun x => ((unhide K1).below (hb x)).c 3 (by simp)
          have c14 : ∀ x, (fQ x).cell? ⟨Q, 4, none⟩ = some (.int .i64 tf) := fun x => ((unhide K1).below (hb x)).c 4 (by simp)
          have c15 : ∀ x, (fQ x).cell? ⟨Q, 5, none⟩ = some (.int .i64 tk) := fun x => ((unhide K1).below (hb x)).c 5 (by simp)
          clear hb hall
          have HX : Hid (∀ z, ∃ x, fQ z = fW x) := hide (fun z => (unhide HA) _ ((unhide BV).trans ((unhide HB2 z).mono (unhide BV).size)))
          obtain ⟨x2, h0⟩ := (unhide HA2) V2 (Below.refl _ _)
          rw [h0]
          clear h0
          go_wp2_with (first | (go_at_call 83; refine (belA3 (unhide HB2) (unhide HA2) (ticks_al _ _ _ _ _ _ _ (unhide HN) (unhide HI))).mono ?_; rintro e _ ⟨rfl, y, rfl⟩) | (go_at_call 81; refine (belQ (unhide HB2) (unhide HA2) (threatenedBy_is _ _ _ _ _ _ _ _ _ _ _ _ _ (unhide HT))).mono ?_; rintro e _ ⟨rfl, y, rfl⟩))
          go_roundw
          case rel => exact ⟨k + 1, B, T, (unhide HX _).choose, by omega, rfl, rfl, by go_num, hB, hT, hide (by rw [unhide HS]; exact unhide HS1), hide (by rw [unhide HS]; exact unhide HS2), (unhide HX _).choose_spec⟩
          case measure => simp [intOf]; omega
        | true =>
          have nb := nrT_le (unhide HTK)
          rw [unhide HNK] at nb
          by_cases hq : nn < T
          · have HS := hide (nrS_yes (unhide HTK) (by rw [unhide HNK, unhide HS2]; exact hq))
            have j2 : decide (nn < T) = true := decide_eq_true hq
            go_wp2_with (go_at_call 82; refine (belG (unhide HA) (by repeat (first | exact unhide HB _ | refine belAl ?_ _)) (seenOf_al _ _ _ _ _ _ _)).mono ?_; rintro e _ ⟨rfl, y, rfl⟩)
            obtain ⟨V2, hV2⟩ : ∃ V, V = (fW y).alloc (Obj.cells #[.int .i64 ti, .int .i64 th, .int .i64 tc, .int .i64 ts, .int .i64 tf, .int .i64 tk] 149) := ⟨_, rfl⟩
            rw [← hV2]
            have K1 : Hid (Blk V2 (fW y).heap.size [.int .i64 ti, .int .i64 th, .int .i64 tc, .int .i64 ts, .int .i64 tf, .int .i64 tk]) := hide (by rw [hV2]; exact Blk.new _ _)
            have K0 : Hid (Blk V2 P [.int .i64 oi, .int .i64 oh, .int .i64 oc, .int .i64 os, .int .i64 near, .int .i64 wi]) := hide (by rw [hV2]; exact ((unhide K0).below (unhide HB y)).alloc _)
            have BV : Hid (Below V.heap.size V V2) := hide (by rw [hV2]; exact belAl (unhide HB y) _)
            obtain ⟨Q, hQ⟩ : ∃ P, P = (fW y).heap.size := ⟨_, rfl⟩
            rw [← hQ] at K1 ⊢
            clear hQ hV2 m0 m1 m2 m3 m4 m5 c00 c01 c02 c03 c04 c05
            obtain ⟨ι2, fQ, _, hb, hall⟩ := belClass V2
            have HB2 := hide hb
            have HA2 := hide hall
            have c00 : ∀ x, (fQ x).cell? ⟨P, 0, none⟩ = some (.int .i64 oi) := fun x => ((unhide K0).below (hb x)).c 0 (by simp)
            have c01 : ∀ x, (fQ x).cell? ⟨P, 1, none⟩ = some (.int .i64 oh) := fun x => ((unhide K0).below (hb x)).c 1 (by simp)
            have c02 : ∀ x, (fQ x).cell? ⟨P, 2, none⟩ = some (.int .i64 oc) := fun x => ((unhide K0).below (hb x)).c 2 (by simp)
            have c03 : ∀ x, (fQ x).cell? ⟨P, 3, none⟩ = some (.int .i64 os) := fun x => ((unhide K0).below (hb x)).c 3 (by simp)
            have c04 : ∀ x, (fQ x).cell? ⟨P, 4, none⟩ = some (.int .i64 near) := fun x => ((unhide K0).below (hb x)).c 4 (by simp)
            have c05 : ∀ x, (fQ x).cell? ⟨P, 5, none⟩ = some (.int .i64 wi) := fun x => ((unhide K0).below (hb x)).c 5 (by simp)
            have c10 : ∀ x, (fQ x).cell? ⟨Q, 0, none⟩ = some (.int .i64 ti) := fun x => ((unhide K1).below (hb x)).c 0 (by simp)
            have c11 : ∀ x, (fQ x).cell? ⟨Q, 1, none⟩ = some (.int .i64 th) := fun x => ((unhide K1).below (hb x)).c 1 (by simp)
            have c12 : ∀ x, (fQ x).cell? ⟨Q, 2, none⟩ = some (.int .i64 tc) := fun x => ((unhide K1).below (hb x)).c 2 (by simp)
            have c13 : ∀ x, (fQ x).cell? ⟨Q, 3, none⟩ = some (.int .i64 ts) := fun x => ((unhide K1).below (hb x)).c 3 (by simp)
            have c14 : ∀ x, (fQ x).cell? ⟨Q, 4, none⟩ = some (.int .i64 tf) := fun x => ((unhide K1).below (hb x)).c 4 (by simp)
            have c15 : ∀ x, (fQ x).cell? ⟨Q, 5, none⟩ = some (.int .i64 tk) := fun x => ((unhide K1).below (hb x)).c 5 (by simp)
            clear hb hall
            have HX : Hid (∀ z, ∃ x, fQ z = fW x) := hide (fun z => (unhide HA) _ ((unhide BV).trans ((unhide HB2 z).mono (unhide BV).size)))
            obtain ⟨x2, h0⟩ := (unhide HA2) V2 (Below.refl _ _)
            rw [h0]
            clear h0
            go_wp2_with (first | (go_at_call 83; refine (belA3 (unhide HB2) (unhide HA2) (ticks_al _ _ _ _ _ _ _ (unhide HN) (unhide HI))).mono ?_; rintro e _ ⟨rfl, y, rfl⟩) | (go_at_call 81; refine (belQ (unhide HB2) (unhide HA2) (threatenedBy_is _ _ _ _ _ _ _ _ _ _ _ _ _ (unhide HT))).mono ?_; rintro e _ ⟨rfl, y, rfl⟩))
            go_roundw
            case rel => exact ⟨k + 1, k, nn, (unhide HX _).choose, by omega, rfl, rfl, by go_num, by omega, by omega, hide (by rw [unhide HS]), hide (by rw [unhide HS]; exact unhide HNK), (unhide HX _).choose_spec⟩
            case measure => simp [intOf]; omega
          · have HS := hide (nrS_no (Or.inr (by rw [unhide HNK, unhide HS2]; exact hq)))
            have j2 : decide (nn < T) = false := decide_eq_false hq
            go_wp2_with (go_at_call 82; refine (belG (unhide HA) (by repeat (first | exact unhide HB _ | refine belAl ?_ _)) (seenOf_al _ _ _ _ _ _ _)).mono ?_; rintro e _ ⟨rfl, y, rfl⟩)
            obtain ⟨V2, hV2⟩ : ∃ V, V = (fW y).alloc (Obj.cells #[.int .i64 ti, .int .i64 th, .int .i64 tc, .int .i64 ts, .int .i64 tf, .int .i64 tk] 149) := ⟨_, rfl⟩
            rw [← hV2]
            have K1 : Hid (Blk V2 (fW y).heap.size [.int .i64 ti, .int .i64 th, .int .i64 tc, .int .i64 ts, .int .i64 tf, .int .i64 tk]) := hide (by rw [hV2]; exact Blk.new _ _)
            have K0 : Hid (Blk V2 P [.int .i64 oi, .int .i64 oh, .int .i64 oc, .int .i64 os, .int .i64 near, .int .i64 wi]) := hide (by rw [hV2]; exact ((unhide K0).below (unhide HB y)).alloc _)
            have BV : Hid (Below V.heap.size V V2) := hide (by rw [hV2]; exact belAl (unhide HB y) _)
            obtain ⟨Q, hQ⟩ : ∃ P, P = (fW y).heap.size := ⟨_, rfl⟩
            rw [← hQ] at K1 ⊢
            clear hQ hV2 m0 m1 m2 m3 m4 m5 c00 c01 c02 c03 c04 c05
            obtain ⟨ι2, fQ, _, hb, hall⟩ := belClass V2
            have HB2 := hide hb
            have HA2 := hide hall
            have c00 : ∀ x, (fQ x).cell? ⟨P, 0, none⟩ = some (.int .i64 oi) := fun x => ((unhide K0).below (hb x)).c 0 (by simp)
            have c01 : ∀ x, (fQ x).cell? ⟨P, 1, none⟩ = some (.int .i64 oh) := fun x => ((unhide K0).below (hb x)).c 1 (by simp)
            have c02 : ∀ x, (fQ x).cell? ⟨P, 2, none⟩ = some (.int .i64 oc) := fun x => ((unhide K0).below (hb x)).c 2 (by simp)
            have c03 : ∀ x, (fQ x).cell? ⟨P, 3, none⟩ = some (.int .i64 os) := fun x => ((unhide K0).below (hb x)).c 3 (by simp)
            have c04 : ∀ x, (fQ x).cell? ⟨P, 4, none⟩ = some (.int .i64 near) := fun x => ((unhide K0).below (hb x)).c 4 (by simp)
            have c05 : ∀ x, (fQ x).cell? ⟨P, 5, none⟩ = some (.int .i64 wi) := fun x => ((unhide K0).below (hb x)).c 5 (by simp)
            have c10 : ∀ x, (fQ x).cell? ⟨Q, 0, none⟩ = some (.int .i64 ti) := fun x => ((unhide K1).below (hb x)).c 0 (by simp)
            have c11 : ∀ x, (fQ x).cell? ⟨Q, 1, none⟩ = some (.int .i64 th) := fun x => ((unhide K1).below (hb x)).c 1 (by simp)
            have c12 : ∀ x, (fQ x).cell? ⟨Q, 2, none⟩ = some (.int .i64 tc) := fun x => ((unhide K1).below (hb x)).c 2 (by simp)
            have c13 : ∀ x, (fQ x).cell? ⟨Q, 3, none⟩ = some (.int .i64 ts) := fun x => ((unhide K1).below (hb x)).c 3 (by simp)
            have c14 : ∀ x, (fQ x).cell? ⟨Q, 4, none⟩ = some (.int .i64 tf) := fun x => ((unhide K1).below (hb x)).c 4 (by simp)
            have c15 : ∀ x, (fQ x).cell? ⟨Q, 5, none⟩ = some (.int .i64 tk) := fun x => ((unhide K1).below (hb x)).c 5 (by simp)
            clear hb hall
            have HX : Hid (∀ z, ∃ x, fQ z = fW x) := hide (fun z => (unhide HA) _ ((unhide BV).trans ((unhide HB2 z).mono (unhide BV).size)))
            obtain ⟨x2, h0⟩ := (unhide HA2) V2 (Below.refl _ _)
            rw [h0]
            clear h0
            go_wp2_with (first | (go_at_call 83; refine (belA3 (unhide HB2) (unhide HA2) (ticks_al _ _ _ _ _ _ _ (unhide HN) (unhide HI))).mono ?_; rintro e _ ⟨rfl, y, rfl⟩) | (go_at_call 81; refine (belQ (unhide HB2) (unhide HA2) (threatenedBy_is _ _ _ _ _ _ _ _ _ _ _ _ _ (unhide HT))).mono ?_; rintro e _ ⟨rfl, y, rfl⟩))
            go_roundw
            case rel => exact ⟨k + 1, B, T, (unhide HX _).choose, by omega, rfl, rfl, by go_num, hB, hT, hide (by rw [unhide HS]; exact unhide HS1), hide (by rw [unhide HS]; exact unhide HS2), (unhide HX _).choose_spec⟩
            case measure => simp [intOf]; omega
      · have hkl : k = ps.length := by omega
        have HE1 : Hid (nrI oi oh oc os near wi ps = B) := hide (by rw [nrI, if_pos hl, ← hkl]; exact unhide HS1)
        have HE2 : Hid (nrB oi oh oc os near wi ps = decide (0 ≤ B)) := hide (by rw [nrB, unhide HE1])
        have k1 : ¬ (k : Int) < (ps.length : Int) := by omega
        clear hkl
        go_wp2_with fail
        go_ret2
        exact ⟨ret_ib ((unhide HE1).symm.trans (unhide HNN)) (by rw [← unhide HBB, unhide HE2]), (unhide B0).trans ((unhide HB _).mono (unhide B0).size)⟩
  · have l1 : ¬ (ps.length : Int) ≤ 20 := by omega
    have l2 : (20 : Int) < (ps.length : Int) := by omega
    have HE1 : Hid (nrI oi oh oc os near wi ps = -1) := hide (by rw [nrI, if_neg hl])
    have HE2 : Hid (nrB oi oh oc os near wi ps = false) := hide (by rw [nrB, unhide HE1]; rfl)
    go_enter Try.func37, Try.ntmps37
    go_wp2_with fail
    obtain ⟨W, hW⟩ : ∃ W, W = (w.alloc (Obj.cells #[.int .i64 oi, .int .i64 oh, .int .i64 oc, .int .i64 os] 76)) := ⟨_, rfl⟩
    rw [← hW]
    have K0 : Hid (Blk W (w.heap.size) [.int .i64 oi, .int .i64 oh, .int .i64 oc, .int .i64 os]) := hide (by rw [hW]; exact Blk.new _ _)
    have B0 : Hid (Below w.heap.size w W) := hide (by rw [hW]; exact (by repeat (first | exact Below.refl _ _ | refine Below.alloc ?_ (by simp; try omega) _ | refine Below.setCell ?_ (by simp; try omega) _ | refine taDr ?_ _)))
    clear hW
    obtain ⟨ι, fW, _, hb, hall⟩ := belClass W
    have HB := hide hb
    have HA := hide hall
    have c00 : ∀ x, (fW x).cell? ⟨w.heap.size, 0, none⟩ = some (.int .i64 oi) := fun x => ((unhide K0).below (hb x)).c 0 (by simp)
    have c01 : ∀ x, (fW x).cell? ⟨w.heap.size, 1, none⟩ = some (.int .i64 oh) := fun x => ((unhide K0).below (hb x)).c 1 (by simp)
    have c02 : ∀ x, (fW x).cell? ⟨w.heap.size, 2, none⟩ = some (.int .i64 oc) := fun x => ((unhide K0).below (hb x)).c 2 (by simp)
    have c03 : ∀ x, (fW x).cell? ⟨w.heap.size, 3, none⟩ = some (.int .i64 os) := fun x => ((unhide K0).below (hb x)).c 3 (by simp)
    clear hb hall
    obtain ⟨x0, h0⟩ := (unhide HA) W (Below.refl _ _)
    rw [h0]
    clear h0
    go_wp2_with (first | (go_at_call 75; refine (belQ (unhide HB) (unhide HA) (watcherOf_al _ _ _ _ _ _ _)).mono ?_; rintro e _ ⟨rfl, y, rfl⟩))
    go_ret2
    exact ⟨ret_ib ((unhide HE1).symm.trans (unhide HNN)) ((unhide HE2).symm.trans (unhide HBB)), (unhide B0).trans ((belAl (unhide HB _) _).mono (unhide B0).size)⟩
theorem implNearest_any (oi oh oc os : Int) (ad : Option Addr) (len cap : Nat) (ps : List Tc) (near wi : Int) (w : World) (hr : RowE 6 tcC w ad len ps) : Calls Try.prog 37 #[.agg #[.int .i64 oi, .int .i64 oh, .int .i64 oc, .int .i64 os], .slice ad len cap, .int .i64 near, .int .i64 wi] w fun e w' => e = .returned (.tuple #[.int .i64 (nrI oi oh oc os near wi ps), .bool (nrB oi oh oc os near wi ps)]) ∧ Below w.heap.size w w' := implNearest_is oi oh oc os near wi ad len cap ps w hr rfl rfl

end Go.Proofs.Ytbaocifpifbldae

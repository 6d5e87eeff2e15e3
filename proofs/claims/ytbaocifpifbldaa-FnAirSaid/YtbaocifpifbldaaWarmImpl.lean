/-
  What Warm answers in the program: the model's number and flag at every air and height; nothing that was there is written.
-/
import Derived.Test.YtbaocifpifbldaaWarm
namespace Go.Proofs.Ytbaocifpifbldaa
open Go.RowKit

set_option maxHeartbeats 1000000 in
theorem implWarm_no (b : Int) (a1 a2 : Option Addr) (l1 c1 l2 c2 : Nat) (xs ys : List Int) (h : Int) (w : World) (h1 : Row w a1 l1 xs) (h2 : Row w a2 l2 ys) (hno : airB b xs ys = false) :
    Calls Try.prog 22 #[.agg #[.int .i64 b, .slice a1 l1 c1, .slice a2 l2 c2], .int .i64 h] w fun e w' => e = .returned (.tuple #[.int .i64 0, .bool false]) ∧ Below w.heap.size w w' := by
  have H1 := hide (h1.alloc (.cells #[.int .i64 b, .slice a1 l1 c1, .slice a2 l2 c2] 43))
  have H2 := hide (h2.alloc (.cells #[.int .i64 b, .slice a1 l1 c1, .slice a2 l2 c2] 43))
  clear h1 h2
  go_enter Try.func22, Try.ntmps22
  go_wp2_with fail
  refine (implAirOk_any _ _ _ _ _ _ _ xs ys _ (unhide H1) (unhide H2)).mono ?_
  rintro e w1 ⟨rfl, b1⟩
  go_wp2_with fail
  go_ret2
  exact ⟨rfl, (bel1 _).trans (b1.mono (by simp))⟩

set_option maxHeartbeats 1000000 in
theorem implWarm_out (b : Int) (a1 a2 : Option Addr) (l1 c1 l2 c2 : Nat) (xs ys : List Int) (h : Int) (w : World) (h1 : Row w a1 l1 xs) (h2 : Row w a2 l2 ys) (hyes : airB b xs ys = true) (hno : inB h 0 (nth ys (l2 - 1)) = false) :
    Calls Try.prog 22 #[.agg #[.int .i64 b, .slice a1 l1 c1, .slice a2 l2 c2], .int .i64 h] w fun e w' => e = .returned (.tuple #[.int .i64 0, .bool false]) ∧ Below w.heap.size w w' := by
  have F := airB_facts hyes
  have hn := F.many
  have H1 := hide (h1.alloc (.cells #[.int .i64 b, .slice a1 l1 c1, .slice a2 l2 c2] 43))
  have H2 := hide (h2.alloc (.cells #[.int .i64 b, .slice a1 l1 c1, .slice a2 l2 c2] 43))
  have hl2 := h2.len_eq
  subst hl2
  clear h1 h2
  go_enter Try.func22, Try.ntmps22
  go_wp2_with fail
  refine (implAirOk_any _ _ _ _ _ _ _ xs ys _ (unhide H1) (unhide H2)).mono ?_
  rintro e w1 ⟨rfl, b1⟩
  have x2 := b1.cell (p := ⟨w.heap.size, 2, none⟩) (by simp)
  have B1 := hide ((bel1 _).trans (b1.mono (by simp)))
  rcases ((unhide H2).below b1).open_ with ⟨h0, _⟩ | ⟨bb, off, rfl, _, hc⟩
  · omega
  have hcell := hc (ys.length - 1) (by omega)
  clear b1 hc
  go_wp2_with (go_at_call 52; refine (within_any _ _ _ _).mono ?_; rintro e w' ⟨rfl, hw⟩; subst w')
  go_ret2
  exact ⟨rfl, unhide B1⟩

set_option maxHeartbeats 1000000 in
theorem implWarm_yes (b : Int) (a1 a2 : Option Addr) (l1 c1 l2 c2 : Nat) (xs ys : List Int) (h : Int) (w : World) (h1 : Row w a1 l1 xs) (h2 : Row w a2 l2 ys) (hyes : airB b xs ys = true) (hin : inB h 0 (nth ys (l2 - 1)) = true) :
    Calls Try.prog 22 #[.agg #[.int .i64 b, .slice a1 l1 c1, .slice a2 l2 c2], .int .i64 h] w fun e w' => e = .returned (.tuple #[.int .i64 (warmT b xs ys h l2), .bool true]) ∧ Below w.heap.size w w' := by
  have F := airB_facts hyes
  have hn := F.many
  have hbase := F.base
  have hlen := F.len
  have H1 := hide (h1.alloc (.cells #[.int .i64 b, .slice a1 l1 c1, .slice a2 l2 c2] 43))
  have H2 := hide (h2.alloc (.cells #[.int .i64 b, .slice a1 l1 c1, .slice a2 l2 c2] 43))
  have hl2 := h2.len_eq
  have hl1 := h1.len_eq
  subst hl2
  subst hl1
  clear h1 h2
  have hh : 0 ≤ h ∧ h ≤ 1000 := by have := F.tops (ys.length - 1) (by omega); simp only [inB, decide_eq_true_eq] at hin; omega
  obtain ⟨hh0, hh1⟩ := hh
  have HF := hide F
  have HL := hide hlen
  clear F hlen
  go_enter Try.func22, Try.ntmps22
  go_wp2_with fail
  refine (implAirOk_any _ _ _ _ _ _ _ xs ys _ (unhide H1) (unhide H2)).mono ?_
  rintro e w1 ⟨rfl, b1⟩
  have hs1 : w.heap.size < w1.heap.size := by have := b1.size; simp at this; omega
  have x0 := b1.cell (p := ⟨w.heap.size, 0, none⟩) (by simp)
  have x1 := b1.cell (p := ⟨w.heap.size, 1, none⟩) (by simp)
  have x2 := b1.cell (p := ⟨w.heap.size, 2, none⟩) (by simp)
  have B1 := hide ((bel1 _).trans (b1.mono (by simp)))
  have hml := unhide HL
  rcases ((unhide H1).below b1).open_ with ⟨h0, _⟩ | ⟨bb1, off1, rfl, _, hc1⟩
  · omega
  rcases ((unhide H2).below b1).open_ with ⟨h0, _⟩ | ⟨bb, off, rfl, _, hc⟩
  · omega
  have hcell := hc (ys.length - 1) (by omega)
  have HC := hide hc
  have HC1 := hide hc1
  clear b1 hc hc1 hml
  go_wp2_with (go_at_call 52; refine (within_any _ _ _ _).mono ?_; rintro e w' ⟨rfl, hw⟩; subst w')
  clear hcell hin
  go_loopw [6, 7, 31] (fun t f i wr => ∃ k : Nat, k ≤ ys.length ∧ i = .int .i64 k ∧ t = .int .i64 (warmT b xs ys h k) ∧ f = .int .i64 (warmF b xs ys h k) ∧ Below w1.heap.size w1 wr) (fun _ _ i _ => ys.length - (intOf i).toNat)
  case atStart => exact ⟨0, by omega, rfl, rfl, rfl, Below.refl _ _⟩
  case round =>
    obtain ⟨k, hk, rfl, rfl, rfl, hb⟩ := hrel
    have x1 := (hb.cell (p := ⟨w.heap.size, 1, none⟩) hs1).trans x1
    have x2 := (hb.cell (p := ⟨w.heap.size, 2, none⟩) hs1).trans x2
    have HB := hide hb
    clear hb
    have hbd := warm_bd (unhide HF) h hh0 hh1 k hk
    by_cases hlt : k < ys.length
    · by_cases hf : warmF b xs ys h k < h
      · have hcy := ((unhide HB).cell (block_lt_of_cell ((unhide HC) k hlt))).trans ((unhide HC) k hlt)
        have hcx := ((unhide HB).cell (block_lt_of_cell ((unhide HC1) k (by have := unhide HL; omega)))).trans ((unhide HC1) k (by have := unhide HL; omega))
        have hpr := warm_prod (unhide HF) h hh0 hh1 k hlt
        have htop := (unhide HF).tops k hlt
        have hi0 : (0 : Int) ≤ (k : Int) := by omega
        have hi1 : (k : Int) < (ys.length : Int) := by omega
        have hi2 : (k : Int) < (xs.length : Int) := by have := unhide HL; omega
        have hmin : min h (nth ys k) = if h < nth ys k then h else nth ys k := by split <;> omega
        rw [hmin] at hpr
        have hg := warm_go hf
        rw [hmin] at hg
        have HG := hide hg
        clear hg hmin
        go_wp2
        go_roundw
        case rel => exact ⟨k + 1, by omega, by go_num, by rw [(unhide HG).1], by rw [(unhide HG).2], (unhide HB)⟩
        case measure => simp [intOf]; omega
      · have hcy := ((unhide HB).cell (block_lt_of_cell ((unhide HC) k hlt))).trans ((unhide HC) k hlt)
        have HE := hide (warm_end (b := b) (ss := xs) (ts := ys) (h := h) (k := k) (by omega) ys.length hk)
        go_wp2
        go_ret2
        exact ⟨ret_pair (unhide HE).1.symm, (unhide B1).trans ((unhide HB).mono (by omega))⟩
    · have hkk : k = ys.length := by omega
      subst hkk
      go_wp2
      go_ret2
      exact ⟨rfl, (unhide B1).trans ((unhide HB).mono (by omega))⟩

/-- What Warm answers: a number and a flag. -/
def warmAns (b : Int) (ss ts : List Int) (h : Int) : Int := if airB b ss ts && inB h 0 (nth ts (ts.length - 1)) then warmT b ss ts h ts.length else 0
def warmFlag (b : Int) (ss ts : List Int) (h : Int) : Bool := airB b ss ts && inB h 0 (nth ts (ts.length - 1))

theorem implWarm_any (b : Int) (a1 a2 : Option Addr) (l1 c1 l2 c2 : Nat) (xs ys : List Int) (h : Int) (w : World) (h1 : Row w a1 l1 xs) (h2 : Row w a2 l2 ys) :
    Calls Try.prog 22 #[.agg #[.int .i64 b, .slice a1 l1 c1, .slice a2 l2 c2], .int .i64 h] w fun e w' => e = .returned (.tuple #[.int .i64 (warmAns b xs ys h), .bool (warmFlag b xs ys h)]) ∧ Below w.heap.size w w' := by
  have hl2 := h2.len_eq
  cases ha : airB b xs ys
  · have e1 : warmAns b xs ys h = 0 := by simp [warmAns, ha]
    have e2 : warmFlag b xs ys h = false := by simp [warmFlag, ha]
    rw [e1, e2]
    exact implWarm_no b a1 a2 l1 c1 l2 c2 xs ys h w h1 h2 ha
  · cases hi : inB h 0 (nth ys (ys.length - 1))
    · have e1 : warmAns b xs ys h = 0 := by simp [warmAns, hi]
      have e2 : warmFlag b xs ys h = false := by simp [warmFlag, hi]
      rw [e1, e2]
      exact implWarm_out b a1 a2 l1 c1 l2 c2 xs ys h w h1 h2 ha (by rw [← hl2]; exact hi)
    · have e1 : warmAns b xs ys h = warmT b xs ys h l2 := by rw [← hl2]; simp [warmAns, ha, hi]
      have e2 : warmFlag b xs ys h = true := by simp [warmFlag, ha, hi]
      rw [e1, e2]
      exact implWarm_yes b a1 a2 l1 c1 l2 c2 xs ys h w h1 h2 ha (by rw [← hl2]; exact hi)

end Go.Proofs.Ytbaocifpifbldaa

/-
  A slice of rules read as a list; the law's size of it. No condition.
-/
import Derived.Test.YtbaocifpifbldawGreatWrPure
import Derived.Test.YtbaocifpifbldawGreatSmall
import Derived.Test.YtbaocifpifbldawGreatMake
import Derived.Test.YtbaocifpifbldawGreatBlk
import Derived.Test.YtbaocifpifbldawGreatBel
namespace Go.Proofs.YtbaocifpifbldawGreat
open Go.RowKit

/-- The cells of the rule at a place of a block. -/
structure WrAt (w : World) (b o : Nat) (qa : Option Addr) (ql qc : Nat) (p : Wr) : Prop where
  c0 : w.cell? ⟨b, o, none⟩ = some (.string p.n)
  c1 : w.cell? ⟨b, o + 1, none⟩ = some (.int .i64 p.r)
  c2 : w.cell? ⟨b, o + 2, none⟩ = some (.slice qa ql qc)
  c3 : w.cell? ⟨b, o + 3, none⟩ = some (.bool p.l)
  c4 : w.cell? ⟨b, o + 4, none⟩ = some (.string p.d)
theorem WrAt.below {w w' : World} {b o : Nat} {qa : Option Addr} {ql qc : Nat} {p : Wr} (h : WrAt w b o qa ql qc p) (k : Below w.heap.size w w') : WrAt w' b o qa ql qc p :=
  ⟨(k.cell (block_lt_of_cell h.c0)).trans h.c0, (k.cell (block_lt_of_cell h.c1)).trans h.c1, (k.cell (block_lt_of_cell h.c2)).trans h.c2, (k.cell (block_lt_of_cell h.c3)).trans h.c3, (k.cell (block_lt_of_cell h.c4)).trans h.c4⟩
/-- Texts that can be told the length of. -/
def wrFit (p : Wr) : Prop := p.n.size ≤ 9223372036854775807 ∧ p.d.size ≤ 9223372036854775807
structure RowW (w : World) (a : Option Addr) (len : Nat) (rs : List Wr) : Prop where
  len_eq : rs.length = len
  small : len ≤ 9223372036854775807
  cells : ∀ i, i < len → ∃ b off qa ql qc, a = some ⟨b, off, none⟩ ∧ WrAt w b (off + i * 5) qa ql qc (elAt rs i) ∧ Row w qa ql (elAt rs i).q ∧ ql ≤ qc ∧ wrFit (elAt rs i)
theorem RowW.open_ {w : World} {a : Option Addr} {len : Nat} {rs : List Wr} (h : RowW w a len rs) :
    (len = 0 ∧ rs = []) ∨ ∃ b off, a = some ⟨b, off, none⟩ ∧ 0 < len ∧ ∀ i, i < len → ∃ qa ql qc, WrAt w b (off + i * 5) qa ql qc (elAt rs i) ∧ Row w qa ql (elAt rs i).q ∧ ql ≤ qc ∧ wrFit (elAt rs i) := by
  by_cases h0 : len = 0
  · exact .inl ⟨h0, List.length_eq_zero_iff.1 (by rw [h.len_eq, h0])⟩
  · obtain ⟨b, off, _, _, _, ha, _⟩ := h.cells 0 (by omega)
    refine .inr ⟨b, off, ha, by omega, fun i hi => ?_⟩
    obtain ⟨b', off', qa, ql, qc, ha', hc⟩ := h.cells i hi
    rw [ha] at ha'
    simp only [Option.some.injEq, Addr.mk.injEq] at ha'
    obtain ⟨rfl, rfl, _⟩ := ha'
    exact ⟨qa, ql, qc, hc⟩
theorem RowW.below {w w' : World} {a : Option Addr} {len : Nat} {rs : List Wr} (h : RowW w a len rs) (k : Below w.heap.size w w') : RowW w' a len rs := by
  refine ⟨h.len_eq, h.small, fun i hi => ?_⟩
  obtain ⟨b, off, qa, ql, qc, ha, hc, hr, hl⟩ := h.cells i hi
  exact ⟨b, off, qa, ql, qc, ha, hc.below k, hr.below k, hl⟩
theorem RowW.alloc {w : World} {a : Option Addr} {len : Nat} {rs : List Wr} (h : RowW w a len rs) (o : Obj) : RowW (w.alloc o) a len rs := h.below (bel1 o)
theorem RowW.drewN {w : World} {a : Option Addr} {len : Nat} {rs : List Wr} (h : RowW w a len rs) (n : Nat) : RowW (w.drewN n) a len rs := h.below (bel0d n)

set_option maxRecDepth 20000 in
set_option maxHeartbeats 1000000 in
theorem szWarnRule_any (qa : Option Addr) (ql qc : Nat) (p : Wr) (left : Int) (w : World) (hf : wrFit p) (hr : Row w qa ql p.q) (h0 : 0 ≤ left) (h1 : left ≤ 1048576) :
    Calls Tryz.prog 20 #[.agg #[.string p.n, .int .i64 p.r, .slice qa ql qc, .bool p.l, .string p.d], .int .i64 left] w fun e w' => (∃ r : Int, e = .returned (.int .i64 r) ∧ (r < 0 ∨ (0 ≤ r ∧ r + p.n.size + ql + p.d.size = left))) ∧ Below w.heap.size w w' := by
  have hs := hr.small
  have f1 := hf.1
  have f2 := hf.2
  clear hf hr
  by_cases g1 : (p.n.size : Int) ≤ left
  · by_cases g2 : (ql : Int) ≤ left - p.n.size
    · by_cases g3 : (p.d.size : Int) ≤ left - p.n.size - ql
      all_goals
        go_enter Tryz.func20, Tryz.ntmps20
        go_wp2_with (go_at_call 41; refine (szIntS_yes _ _ _ _ _ (by omega) (by omega)).mono ?_; rintro e w' ⟨rfl, hw⟩; subst w')
        go_ret
        first
          | exact ⟨⟨_, rfl, .inr (by omega)⟩, bel1 _⟩
          | exact ⟨⟨_, rfl, .inl (by omega)⟩, bel1 _⟩
    · go_enter Tryz.func20, Tryz.ntmps20
      go_wp2_with (go_at_call 41; refine (szIntS_no _ _ _ _ _ (by omega) (by omega) (by omega) (by omega)).mono ?_; rintro e w' ⟨rfl, hw⟩; subst w')
      go_ret
      exact ⟨⟨_, rfl, .inl (by omega)⟩, bel1 _⟩
  · go_enter Tryz.func20, Tryz.ntmps20
    go_wp2_with fail
    go_ret
    exact ⟨⟨_, rfl, .inl (by omega)⟩, bel1 _⟩

set_option maxRecDepth 20000 in
set_option maxHeartbeats 1000000 in
theorem szWarnRuleS_any (ad : Option Addr) (len cap : Nat) (rs : List Wr) (left : Int) (w : World) (hr : RowW w ad len rs) (h0 : 0 ≤ left) (h1 : left ≤ 1048576) :
    Calls Tryz.prog 4 #[.slice ad len cap, .int .i64 left] w fun e w' => (∃ r : Int, e = .returned (.int .i64 r) ∧ (r < 0 ∨ (0 ≤ r ∧ r ≤ left ∧ len ≤ 1048576 ∧ wrTot rs len ≤ 1048576 ∧ ∀ i, i < len → (elAt rs i).q.length ≤ 1048576 ∧ (elAt rs i).n.size ≤ 1048576 ∧ (elAt rs i).d.size ≤ 1048576))) ∧ Below w.heap.size w w' := by
  have hz := hr.len_eq
  have hs := hr.small
  have HO := hide hr.open_
  clear hr
  subst hz
  by_cases hlt : left < rs.length
  · go_enter Tryz.func4, Tryz.ntmps4
    go_wp2
    go_ret
    exact ⟨⟨_, rfl, .inl (by omega)⟩, Below.refl _ _⟩
  · go_enter Tryz.func4, Tryz.ntmps4
    go_wp2_with fail
    go_loopw [1, 5] (fun l i wr => ∃ (k : Nat) (q : Int), k ≤ rs.length ∧ i = .int .i64 k ∧ l = .int .i64 q ∧ 0 ≤ q ∧ q ≤ left ∧ Hid (q + wrTot rs k ≤ 1048576) ∧ Hid (∀ j, j < k → (elAt rs j).q.length ≤ 1048576 ∧ (elAt rs j).n.size ≤ 1048576 ∧ (elAt rs j).d.size ≤ 1048576) ∧ Hid (Below w.heap.size w wr)) (fun _ i _ => rs.length - (intOf i).toNat)
    case atStart => exact ⟨0, left - rs.length, by omega, rfl, rfl, by omega, by omega, hide (by unfold wrTot; omega), hide (fun j hj => by omega), hide (Below.refl _ _)⟩
    case round =>
      obtain ⟨k, q, hk, rfl, rfl, hq0, hq1, htot, hall, HB⟩ := hrel
      have hq2 : q ≤ 1048576 := by omega
      by_cases hk2 : k < rs.length
      · rcases (unhide HO) with ⟨h0, _⟩ | ⟨bb, off, rfl, _, hc⟩
        · omega
        obtain ⟨qa, ql, qc, hat, hrow, _, hfit⟩ := hc k hk2
        have hat := hat.below (unhide HB)
        have m0 := hat.c0
        have m1 := hat.c1
        have m2 := hat.c2
        have m3 := hat.c3
        have m4 := hat.c4
        have HLL := hide hrow.len_eq
        have k0 : (0 : Int) ≤ (k : Int) := by omega
        have k1 : (k : Int) < (rs.length : Int) := by omega
        have HC := hide (szWarnRule_any qa ql qc (elAt rs k) q wr hfit (hrow.below (unhide HB)) hq0 hq2)
        clear hc hrow hat hfit
        go_wp2_with (go_at_call 20; refine (unhide HC).mono ?_; rintro e w' ⟨⟨r, rfl, hr⟩, b2⟩; have B2 := hide ((unhide HB).trans (b2.mono (unhide HB).size)); have HRR := hide hr; clear b2)
        all_goals
          have hr := unhide HRR
          first
            | (go_ret; exact ⟨⟨_, rfl, .inl (by omega)⟩, unhide B2⟩)
            | (go_roundw
               case rel => exact ⟨k + 1, r, by omega, by go_num, rfl, by omega, by omega, hide (by have := unhide htot; have e := unhide HLL; show r + ((wrTot rs k + (elAt rs k).q.length : Nat) : Int) ≤ 1048576; omega), hide (fun j hj => by rcases Nat.lt_succ_iff_lt_or_eq.1 hj with h | h; exact (unhide hall) j h; subst h; rw [unhide HLL]; omega), B2⟩
               case measure => simp [intOf]; omega)
      · have HK : Hid (k = rs.length) := hide (by omega)
        go_wp2_with fail
        go_ret
        exact ⟨⟨_, rfl, .inr ⟨by omega, by omega, by omega, by have := unhide htot; rw [← unhide HK]; omega, fun i hi => (unhide hall) i (by omega)⟩⟩, unhide HB⟩

set_option maxRecDepth 20000 in
set_option maxHeartbeats 1000000 in
theorem eqWarnRule_same (qa qb : Option Addr) (ql qc ql2 qc2 : Nat) (p : Wr) (w : World) (hr : Row w qa ql p.q) (hr2 : Row w qb ql2 p.q) :
    Calls Tryz.prog 38 #[.agg #[.string p.n, .int .i64 p.r, .slice qa ql qc, .bool p.l, .string p.d], .agg #[.string p.n, .int .i64 p.r, .slice qb ql2 qc2, .bool p.l, .string p.d]] w fun e w' => e = .returned (.bool true) ∧ Below w.heap.size w w' := by
  have b0 := bel2 (w := w) (Obj.cells #[.string p.n, .int .i64 p.r, .slice qa ql qc, .bool p.l, .string p.d] 51) (Obj.cells #[.string p.n, .int .i64 p.r, .slice qb ql2 qc2, .bool p.l, .string p.d] 51)
  have HR := hide (hr.below b0)
  have HR2 := hide (hr2.below b0)
  have e1 : (p.r != p.r) = false := by simp
  clear hr hr2 b0
  go_enter Tryz.func38, Tryz.ntmps38
  go_wp2_with fail
  refine (eqIntS_any _ _ _ _ _ _ p.q p.q _ (unhide HR) (unhide HR2)).mono ?_
  rintro e w' ⟨rfl, n, rfl⟩
  rw [eqB_refl]
  obtain ⟨W, hW⟩ : ∃ W, W = (((w.alloc (Obj.cells #[.string p.n, .int .i64 p.r, .slice qa ql qc, .bool p.l, .string p.d] 51)).alloc (Obj.cells #[.string p.n, .int .i64 p.r, .slice qb ql2 qc2, .bool p.l, .string p.d] 51))).drewN n := ⟨_, rfl⟩
  have HW : Hid (Below w.heap.size w W) := hide (by rw [hW]; exact (bel2 _ _).trans (bel0d' n))
  go_wp2_with fail
  go_ret
  exact ⟨rfl, by rw [← hW]; exact unhide HW⟩

set_option maxRecDepth 20000 in
set_option maxHeartbeats 1000000 in
theorem eqWarnRuleS_same (ad bd : Option Addr) (len cap len2 cap2 : Nat) (rs : List Wr) (w : World) (hr : RowW w ad len rs) (hr2 : RowW w bd len2 rs) :
    Calls Tryz.prog 14 #[.slice ad len cap, .slice bd len2 cap2] w fun e w' => e = .returned (.bool true) ∧ Below w.heap.size w w' := by
  have hz := hr.len_eq
  have hs := hr.small
  have HO := hide hr.open_
  have hz2 := hr2.len_eq
  have HO2 := hide hr2.open_
  clear hr hr2
  subst hz
  subst hz2
  have hb : ((rs.length : Int) != (rs.length : Int)) = false := by simp
  go_enter Tryz.func14, Tryz.ntmps14
  go_wp2_with fail
  go_loopw [5] (fun i wr => ∃ k : Nat, k ≤ rs.length ∧ i = .int .i64 k ∧ Hid (Below w.heap.size w wr)) (fun i _ => rs.length - (intOf i).toNat)
  case atStart => exact ⟨0, Nat.zero_le _, rfl, hide (Below.refl _ _)⟩
  case round =>
    obtain ⟨k, hk, rfl, HB⟩ := hrel
    by_cases hlt : k < rs.length
    · rcases (unhide HO) with ⟨h0, _⟩ | ⟨bb, off, rfl, _, hc⟩
      · simp [h0] at hlt
      rcases (unhide HO2) with ⟨h0, _⟩ | ⟨bb2, off2, rfl, _, hc2⟩
      · simp [h0] at hlt
      obtain ⟨qa, ql, qc, hat, hrow, _, _⟩ := hc k hlt
      obtain ⟨qb, ql2, qc2, hat2, hrow2, _, _⟩ := hc2 k hlt
      have hat := hat.below (unhide HB)
      have hat2 := hat2.below (unhide HB)
      obtain ⟨ι, f, _, hbf, hall⟩ := belClass wr
      have HF := hide hbf
      have HA := hide hall
      have m0 := fun x => (hat.below (hbf x)).c0
      have m1 := fun x => (hat.below (hbf x)).c1
      have m2 := fun x => (hat.below (hbf x)).c2
      have m3 := fun x => (hat.below (hbf x)).c3
      have m4 := fun x => (hat.below (hbf x)).c4
      have n0 := fun x => (hat2.below (hbf x)).c0
      have n1 := fun x => (hat2.below (hbf x)).c1
      have n2 := fun x => (hat2.below (hbf x)).c2
      have n3 := fun x => (hat2.below (hbf x)).c3
      have n4 := fun x => (hat2.below (hbf x)).c4
      have k0 : (0 : Int) ≤ (k : Int) := by omega
      have k1 : (k : Int) < (rs.length : Int) := by omega
      have HC : Hid (∀ x, Calls Tryz.prog 38 #[.agg #[.string (elAt rs k).n, .int .i64 (elAt rs k).r, .slice qa ql qc, .bool (elAt rs k).l, .string (elAt rs k).d], .agg #[.string (elAt rs k).n, .int .i64 (elAt rs k).r, .slice qb ql2 qc2, .bool (elAt rs k).l, .string (elAt rs k).d]] (f x) fun e w' => e = .returned (.bool true) ∧ Below (f x).heap.size (f x) w') := hide (fun x => eqWarnRule_same qa qb ql qc ql2 qc2 (elAt rs k) (f x) ((hrow.below (unhide HB)).below (hbf x)) ((hrow2.below (unhide HB)).below (hbf x)))
      clear hc hrow hat hc2 hrow2 hat2 hbf hall
      go_wp2_with fail
      refine wp_region_bel (unhide HA) (by kernel_rfl) (by kernel_rfl) ?_
      repeat (go_big_quiet_step ((go_at_call 38; exact belQ (unhide HF) (unhide HA) (unhide HC _))))
      refine wpQuiet_nil ?_
      rintro _ ⟨x3, rfl⟩
      have HB3 := hide ((unhide HB).trans ((unhide HF x3).mono (unhide HB).size))
      go_wp2_with fail
      go_roundw
      case rel => exact ⟨k + 1, by omega, by go_num, HB3⟩
      case measure => simp [intOf]; omega
    · have hl' : ¬ (k : Int) < (rs.length : Int) := by omega
      go_wp2_with fail
      go_ret
      exact ⟨rfl, unhide HB⟩

end Go.Proofs.YtbaocifpifbldawGreat

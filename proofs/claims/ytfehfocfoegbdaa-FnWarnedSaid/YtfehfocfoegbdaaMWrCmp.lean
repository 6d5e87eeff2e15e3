/-
  Rules in the order in which they are told: the louder first, then by name: what the program's louderFirst answers, and that it is an order. Only new blocks are made.
  What the program's bookOf answers: the book of the rules by name, and whether they are so. Nothing that was there is written.
-/
import Derived.Test.YtfehfocfoegbdaaWbBook
import Derived.Test.YtfehfocfoegbdaaMMake
import Derived.Deep.RegionHeld3

namespace Go.Proofs.Ytfehfocfoegbdaa
open Go.RowKit

/-- -1, 0 or 1. -/
def cI (a b : Int) : Int := if a < b then -1 else if b < a then 1 else 0
def cS (x y : ByteArray) : Int := if sLt x y = true then -1 else if sLt y x = true then 1 else 0
/-- The louder first, of equal ones by name. -/
def cL (p p' : Wr) : Int := if cI p'.r p.r = 0 then cS p.n p'.n else cI p'.r p.r
set_option maxHeartbeats 1000000 in
theorem nanI_any (x : Int) (w : World) : Calls Try.prog 68 #[.int .i64 x] w fun e w' => e = .returned (.bool false) ∧ w' = w := by
  have h : (x != x) = false := by simp
  go_enter Try.func68, Try.ntmps68
  go_wp2_with fail
  go_ret
  exact ⟨rfl, rfl⟩
set_option maxHeartbeats 1000000 in
theorem nanS_any (x : ByteArray) (w : World) : Calls Try.prog 69 #[.string x] w fun e w' => e = .returned (.bool false) ∧ w' = w := by
  have h : (x.toList != x.toList) = false := by simp
  have h2 : (x.toList == x.toList) = true := by simp
  go_enter Try.func69, Try.ntmps69
  go_wp2_with fail
  go_ret
  exact ⟨rfl, rfl⟩
set_option maxHeartbeats 1000000 in
theorem cmpI_any (a b : Int) (w : World) : Calls Try.prog 51 #[.int .i64 a, .int .i64 b] w fun e w' => e = .returned (.int .i64 (cI a b)) ∧ w' = w := by
  by_cases h1 : a < b
  · have HE : Hid (cI a b = -1) := hide (by unfold cI; rw [if_pos h1])
    go_enter Try.func51, Try.ntmps51
    go_wp2_with (go_at_call 68; refine (nanI_any _ _).mono ?_; rintro e w' ⟨rfl, hw⟩; subst w')
    go_ret
    exact ⟨ret_int (unhide HE).symm, rfl⟩
  · by_cases h2 : b < a
    · have HE : Hid (cI a b = 1) := hide (by unfold cI; rw [if_neg h1, if_pos h2])
      go_enter Try.func51, Try.ntmps51
      go_wp2_with (go_at_call 68; refine (nanI_any _ _).mono ?_; rintro e w' ⟨rfl, hw⟩; subst w')
      go_ret
      exact ⟨ret_int (unhide HE).symm, rfl⟩
    · have HE : Hid (cI a b = 0) := hide (by unfold cI; rw [if_neg h1, if_neg h2])
      go_enter Try.func51, Try.ntmps51
      go_wp2_with (go_at_call 68; refine (nanI_any _ _).mono ?_; rintro e w' ⟨rfl, hw⟩; subst w')
      go_ret
      exact ⟨ret_int (unhide HE).symm, rfl⟩
set_option maxHeartbeats 1000000 in
theorem cmpS_any (a b : ByteArray) (w : World) : Calls Try.prog 52 #[.string a, .string b] w fun e w' => e = .returned (.int .i64 (cS a b)) ∧ w' = w := by
  have HD : Hid (sLt a b = Op.bytesLess a.toList b.toList) := hide rfl
  have HD2 : Hid (sLt b a = Op.bytesLess b.toList a.toList) := hide rfl
  cases h1 : Op.bytesLess a.toList b.toList with
  | true =>
    have HE : Hid (cS a b = -1) := hide (by unfold cS; rw [unhide HD, h1, if_pos rfl])
    go_enter Try.func52, Try.ntmps52
    go_wp2_with (go_at_call 69; refine (nanS_any _ _).mono ?_; rintro e w' ⟨rfl, hw⟩; subst w')
    go_ret
    exact ⟨ret_int (unhide HE).symm, rfl⟩
  | false =>
    have HOR : Hid ((Op.bytesLess a.toList b.toList || a.toList == b.toList) = !Op.bytesLess b.toList a.toList) := hide (sLt_or b a)
    rw [h1] at HOR
    cases h2 : Op.bytesLess b.toList a.toList with
    | true =>
      rw [h2] at HOR
      have h3 : (a.toList == b.toList) = false := by have := unhide HOR; simpa using this
      have HE : Hid (cS a b = 1) := hide (by unfold cS; rw [unhide HD, h1, unhide HD2, h2]; rfl)
      go_enter Try.func52, Try.ntmps52
      go_wp2_with (go_at_call 69; refine (nanS_any _ _).mono ?_; rintro e w' ⟨rfl, hw⟩; subst w')
      go_ret
      exact ⟨ret_int (unhide HE).symm, rfl⟩
    | false =>
      rw [h2] at HOR
      have h3 : (a.toList == b.toList) = true := by have := unhide HOR; simpa using this
      have HE : Hid (cS a b = 0) := hide (by unfold cS; rw [unhide HD, h1, unhide HD2, h2]; rfl)
      go_enter Try.func52, Try.ntmps52
      go_wp2_with (go_at_call 69; refine (nanS_any _ _).mono ?_; rintro e w' ⟨rfl, hw⟩; subst w')
      go_ret
      exact ⟨ret_int (unhide HE).symm, rfl⟩
set_option maxHeartbeats 1000000 in
theorem or_any (a b : Int) (B : Nat) (w : World) (hb : Blk w B [.int .i64 a, .int .i64 b]) : Calls Try.prog 50 #[.slice (some ⟨B, 0, none⟩) 2 2] w fun e w' => e = .returned (.int .i64 (if a = 0 then b else a)) ∧ w' = w := by
  have c0 : w.cell? ⟨B, 0, none⟩ = some (.int .i64 a) := hb.c 0 (by simp)
  have c1 : w.cell? ⟨B, 1, none⟩ = some (.int .i64 b) := hb.c 1 (by simp)
  clear hb
  obtain ⟨R, hR⟩ : ∃ R, (if a = 0 then b else a) = R := ⟨_, rfl⟩
  have HR := hide hR
  rw [hR]
  clear hR
  go_enter Try.func50, Try.ntmps50
  go_wp2_with fail
  go_loopw [8] (fun s8 wr => ∃ i : Nat, i ≤ 2 ∧ s8 = .int .i64 (i : Int) ∧ Hid ((1 ≤ i → a = 0) ∧ (2 ≤ i → b = 0)) ∧ wr = w) (fun s8 _ => 2 - (intOf s8).toNat)
  case atStart => exact ⟨0, by omega, rfl, hide ⟨fun h => by omega, fun h => by omega⟩, rfl⟩
  case round =>
    obtain ⟨i, hi, rfl, HI, hwr⟩ := hrel
    subst wr
    rcases (show i = 0 ∨ i = 1 ∨ i = 2 from by omega) with rfl | rfl | rfl
    · by_cases h : a = 0
      · have h2 : (a != 0) = false := by simp [h]
        have HA := hide h
        clear h
        go_wp2_with fail
        go_roundw
        case rel => exact ⟨1, by omega, by go_num, hide ⟨fun _ => unhide HA, fun h => by omega⟩, by first | rfl | trivial⟩
        case measure => simp [intOf]
      · have h2 : (a != 0) = true := by simp [h]
        have HE : Hid (R = a) := hide (by rw [← unhide HR, if_neg h])
        clear h
        go_wp2_with fail
        go_ret
        exact ⟨ret_int (unhide HE).symm, rfl⟩
    · have HA := hide ((unhide HI).1 (by omega))
      have HE : Hid (R = b) := hide (by rw [← unhide HR, if_pos (unhide HA)])
      by_cases h : b = 0
      · have h2 : (b != 0) = false := by simp [h]
        have HB := hide h
        clear h
        go_wp2_with fail
        go_roundw
        case rel => exact ⟨2, by omega, by go_num, hide ⟨fun _ => unhide HA, fun _ => unhide HB⟩, by first | rfl | trivial⟩
        case measure => simp [intOf]
      · have h2 : (b != 0) = true := by simp [h]
        clear h
        go_wp2_with fail
        go_ret
        exact ⟨ret_int (unhide HE).symm, rfl⟩
    · have HE : Hid (R = 0) := hide (by rw [← unhide HR, if_pos ((unhide HI).1 (by omega))]; exact (unhide HI).2 (by omega))
      go_wp2_with fail
      go_ret
      exact ⟨ret_int (unhide HE).symm, rfl⟩

end Go.Proofs.Ytfehfocfoegbdaa

namespace Go.Proofs.Ytfehfocfoegbdaa
open Go.RowKit Go.Maps Go.WideMaps

/-- The book so far: the block, its content, what has been there. -/
structure Bok (w wr : World) (k : Nat) (rs : List Wr) (qs : Nat → Option Addr × Nat × Nat) : Prop where
  m : MapIs wr w.heap.size k (bkF rs qs k)
  b : Below w.heap.size w wr
theorem Bok.below {w wr w' : World} {k : Nat} {rs : List Wr} {qs : Nat → Option Addr × Nat × Nat} (h : Bok w wr k rs qs) (b : Below wr.heap.size wr w') : Bok w w' k rs qs := ⟨h.m.below b, h.b.trans (b.mono h.b.size)⟩
theorem isSo_is {c : Bool} (qa : Option Addr) (ql qc : Nat) (x : ByteArray) (r : Int) (q : List Int) (l : Bool) (d : ByteArray) (w : World) (hf : wrFit ⟨x, r, q, l, d⟩) (hr : Row w qa ql q) (hc : wrSo ⟨x, r, q, l, d⟩ = c) :
    Calls Try.prog 32 #[.agg #[.string x, .int .i64 r, .slice qa ql qc, .bool l, .string d]] w fun e w' => e = .returned (.bool c) ∧ Below w.heap.size w w' := by
  subst hc; exact isSo_any qa ql qc ⟨x, r, q, l, d⟩ w hf hr
set_option maxRecDepth 20000 in
set_option maxHeartbeats 2000000 in
theorem bookOf_any (ad : Option Addr) (len cap : Nat) (rs : List Wr) (qs : Nat → Option Addr × Nat × Nat) (w : World) (hr : RowV w ad len rs qs) :
    Calls Try.prog 16 #[.slice ad len cap] w fun e w' => ∃ n F, e = .returned (.tuple #[.map (some w.heap.size), .bool (wrB rs)]) ∧ MapIs w' w.heap.size n F ∧ n ≤ 30 ∧ (wrB rs = true → F = bkA rs qs) ∧ Rls F ∧ Below w.heap.size w w' := by
  have hmm := @run_makeMap Try.prog
  have hz := hr.len_eq
  have hs := hr.small
  have HR := hide hr
  have HO := hide hr.open_
  have HFI := hide hr.fit
  have K0 : Hid (Bok w (w.alloc (.map #[] 0)) 0 rs qs) := hide ⟨MapIs.made w, bel1 _⟩
  clear hr
  subst hz
  by_cases hl : 30 < rs.length
  · have hl2 : (30 : Int) < (rs.length : Int) := by omega
    have HE := hide (wrB_long (rs := rs) (by omega))
    go_enter Try.func16, Try.ntmps16
    go_wp2_with fail
    go_ret2
    exact ⟨0, _, by rw [unhide HE]; rfl, (unhide K0).m, by omega, fun h => (by rw [unhide HE] at h; cases h), bkF_rls rs qs 0, (unhide K0).b⟩
  have hl2 : ¬ (30 : Int) < (rs.length : Int) := by omega
  have hl30 : rs.length ≤ 30 := by omega
  clear hl
  go_enter Try.func16, Try.ntmps16
  go_wp2_with fail
  refine (namesOf_any _ _ _ rs _ ((unhide HR).row.alloc _) hl30).mono ?_
  rintro e w1 ⟨g1, c1, rfl, o1, b1⟩
  have O1 := hide o1
  have K1 := hide ((unhide K0).below b1)
  clear o1 b1 K0 hmm
  cases hri : riseS (wrN rs) with
  | false =>
    have HE := hide (wrB_rise hri)
    have HRI := hide hri
    clear hri
    go_wp2_with (go_at_call 31; refine (ascS_any _ _ _ (wrN rs) _ (unhide O1).row).mono ?_; rintro e w2 ⟨rfl, n2, hw⟩; subst w2; rw [unhide HRI])
    go_ret2
    have k2 := (unhide K1).below (bel0d n2)
    exact ⟨0, _, by rw [unhide HE]; rfl, k2.m, by omega, fun h => (by rw [unhide HE] at h; cases h), bkF_rls rs qs 0, k2.b⟩
  | true =>
  have HRI := hide hri
  clear hri
  go_wp2_with (go_at_call 31; refine (ascS_any _ _ _ (wrN rs) _ (unhide O1).row).mono ?_; rintro e w2 ⟨rfl, n2, hw⟩; subst w2; rw [unhide HRI]; have K2 := hide ((unhide K1).below (bel0d n2)))
  obtain ⟨w2, hw2⟩ : ∃ W, W = w1.drewN n2 := ⟨_, rfl⟩
  rw [← hw2] at K2 ⊢
  clear hw2 K1 O1
  go_loopw [20] (fun s20 wr => ∃ i : Nat, i ≤ rs.length ∧ s20 = .int .i64 (i : Int) ∧ Hid (Bok w wr i rs qs) ∧ Hid (∀ j, j < i → wrSo (elAt rs j) = true)) (fun s20 _ => rs.length - (intOf s20).toNat)
  case atStart => exact ⟨0, Nat.zero_le _, rfl, K2, hide (fun j hj => by omega)⟩
  case round =>
    clear K2
    obtain ⟨i, hi, rfl, HK, HN⟩ := hrel
    by_cases hlt : i < rs.length
    · rcases (unhide HO) with ⟨h0, _⟩ | ⟨bb, off, rfl, _, hc⟩
      · omega
      have hat := (hc i hlt).below (unhide HK).b
      have hrow := ((unhide HR).rows i hlt).below (unhide HK).b
      have hfit := unhide HFI i hlt
      have m0 := hat.c0
      have m1 := hat.c1
      have m2 := hat.c2
      have m3 := hat.c3
      have m4 := hat.c4
      have k0 : (0 : Int) ≤ (i : Int) := by omega
      have k1 : (i : Int) < (rs.length : Int) := by omega
      have HS : Hid (bkF rs qs (i + 1) = putF (bkF rs qs i) (elAt rs i).n (wrV (elAt rs i) (qs i))) := hide rfl
      have HLT := hide hlt
      obtain ⟨⟨x, r, q, l, d⟩, hp⟩ : ∃ p, elAt rs i = p := ⟨_, rfl⟩
      obtain ⟨⟨qa, ql, qc⟩, hq⟩ : ∃ q, qs i = q := ⟨_, rfl⟩
      rw [hp] at m0 m1 m3 m4 HS hrow hfit
      rw [hq] at m2 HS hrow
      unfold wrV at HS
      simp only at m0 m1 m2 m3 m4 HS hrow hfit
      have HP := hide hp
      obtain ⟨V, hV⟩ : ∃ V, V = wr.alloc (Obj.cells #[.string x, .int .i64 r, .slice qa ql qc, .bool l, .string d] 48) := ⟨_, rfl⟩
      have KV : Hid (Bok w V i rs qs) := hide (by rw [hV]; exact (unhide HK).below (bel1 _))
      have BV : Blk V wr.heap.size [.string x, .int .i64 r, .slice qa ql qc, .bool l, .string d] := by rw [hV]; exact Blk.new _ _
      have RV : Row V qa ql q := by rw [hV]; exact hrow.alloc _
      have HV := hide hV
      have HX := hide hfit.1
      cases hso : wrSo ⟨x, r, q, l, d⟩ with
      | false =>
        have HE := hide (wrB_so (rs := rs) hlt (by rw [hp]; exact hso))
        have HC := hide (isSo_is qa ql qc x r q l d V hfit RV hso)
        clear hc hat hrow hfit hp hq hV BV RV hso
        go_wp2_with fail
        rw [← unhide HV]
        refine (unhide HC).mono ?_
        rintro e w3 ⟨rfl, b3⟩
        have K3 := hide ((unhide KV).below b3)
        clear b3
        go_wp2_with fail
        go_ret2
        exact ⟨i, _, by rw [unhide HE]; rfl, (unhide K3).m, by omega, fun h => (by rw [unhide HE] at h; cases h), bkF_rls rs qs i, (unhide K3).b⟩
      | true =>
        have HSO : Hid (wrSo (elAt rs i) = true) := hide (by rw [hp]; exact hso)
        have HC := hide (isSo_is qa ql qc x r q l d V hfit RV hso)
        have HBV := hide BV
        clear hc hat hrow hfit hp hq hV BV RV hso
        go_wp2_with fail
        rw [← unhide HV]
        refine (unhide HC).mono ?_
        rintro e w3 ⟨rfl, b3⟩
        have K3 := hide ((unhide KV).below b3)
        have b4 := (unhide HBV).below b3
        have e0 : w3.cell? ⟨wr.heap.size, 0, none⟩ = some (.string x) := b4.c 0 (by simp)
        have e1 : w3.cell? ⟨wr.heap.size, 1, none⟩ = some (.int .i64 r) := b4.c 1 (by simp)
        have e2 : w3.cell? ⟨wr.heap.size, 2, none⟩ = some (.slice qa ql qc) := b4.c 2 (by simp)
        have e3 : w3.cell? ⟨wr.heap.size, 3, none⟩ = some (.bool l) := b4.c 3 (by simp)
        have e4 : w3.cell? ⟨wr.heap.size, 4, none⟩ = some (.string d) := b4.c 4 (by simp)
        obtain ⟨w5, hup, hm5, ht5⟩ := (unhide K3).m.store Try.underlying50 (by omega) (unhide HX) (.agg #[.string x, .int .i64 r, .slice qa ql qc, .bool l, .string d])
        have K5 : Hid (Bok w w5 (i + 1) rs qs) := hide ⟨by rw [unhide HS]; exact hm5, (unhide K3).b.trans (mapTurned_below ht5 (Nat.le_refl _) (unhide K3).b.size)⟩
        clear b3 b4 hm5 ht5
        go_wp2_with fail
        go_roundw
        case rel => exact ⟨i + 1, by omega, by go_num, K5, hide (fun j hj => by rcases Nat.lt_succ_iff_lt_or_eq.1 hj with h | h; exact unhide HN j h; subst h; exact unhide HSO)⟩
        case measure => simp [intOf]; omega
    · have k1 : ¬ (i : Int) < (rs.length : Int) := by omega
      have hie : i = rs.length := by omega
      have HM : Hid (MapIs wr w.heap.size rs.length (bkA rs qs)) := hide (by rw [← bkF_all (unhide HRI), ← hie]; exact (unhide HK).m)
      have HA : Hid (∀ j, j < rs.length → wrSo (elAt rs j) = true) := hide (by rw [← hie]; exact unhide HN)
      have HB := hide (unhide HK).b
      clear hie
      go_wp2_with (go_at_call 33; refine (needs_any _ _ rs qs _ (unhide HM) (unhide HFI) (unhide HRI)).mono ?_; rintro e w3 ⟨rfl, b3⟩; have M3 := hide ((unhide HM).below b3); have B3 := hide ((unhide HB).trans (b3.mono (unhide HB).size)); clear b3)
      go_ret2
      have he : ndA rs = wrB rs := by
        cases g : ndA rs with
        | true => exact (wrB_yes hl30 (unhide HRI) (unhide HA) (fun j hj => of_decide_eq_true g j hj)).symm
        | false =>
          cases g2 : wrB rs with
          | false => rfl
          | true =>
            have : ndA rs = true := ndA_yes (fun j hj => by
              cases g3 : ndB rs j with
              | true => rfl
              | false => rw [wrB_nd hj g3] at g2; cases g2)
            rw [this] at g; cases g
      exact ⟨rs.length, _, by rw [he]; rfl, unhide M3, hl30, fun _ => rfl, bkA_rls rs qs, unhide B3⟩

end Go.Proofs.Ytfehfocfoegbdaa

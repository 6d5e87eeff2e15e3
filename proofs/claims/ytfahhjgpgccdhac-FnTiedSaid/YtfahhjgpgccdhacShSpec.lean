/-
  What the model's Shed answers: the places of those that are not fed. At every net; nothing that was there is written.
-/
import Derived.Test.YtfahhjgpgccdhacShFacts
import Derived.Test.YtfahhjgpgccdhacIsleSpec
import Derived.Test.YtfahhjgpgccdhacThen
import Derived.Deep.Quiet
import Derived.Deep.RegionHeld3
namespace Go.Proofs.Ytfahhjgpgccdhac
open Go.RowKit

/-- The marks, and the list of the places that are not marked. -/
structure ShD (w wr : World) (F : List Bool) (W : List Int) (gf n g k c : Nat) : Prop where
  f : OwnE 1 boC wr (w.heap.size + 1) 4 (.slice (some ⟨gf, 0, none⟩) n n) F
  lf : F.length = n
  o : OwnI wr (w.heap.size + 1) (.slice (some ⟨g, 0, none⟩) k c) W
  lo : W.length = k
  d : g ≠ gf
  b : Below w.heap.size w wr
theorem ShD.push {w wr w' : World} {F : List Bool} {W : List Int} {gf n g k c g2 c2 : Nat} {x : Int} (h : ShD w wr F W gf n g k c) (ho : OwnI w' (w.heap.size + 1) (.slice (some ⟨g2, 0, none⟩) (k + 1) c2) (W ++ [x])) (hg : wr.grownBy w' (some g)) (ha : (Value.slice (some ⟨g, 0, none⟩) k c).ownBlock = some g2 ∨ wr.heap.size < g2) : ShD w w' F (W ++ [x]) gf n g2 (k + 1) c2 := by
  have hl := h.o.lies g rfl
  have hf := h.f.lies gf rfl
  refine ⟨h.f.far hg (fun q hq e => by simp [Value.ownBlock] at hq; simp at e; have := h.d; omega), h.lf, ho, by simp [h.lo], ?_, h.b.grown hg h.b.size (fun q hq => by cases hq; omega)⟩
  rcases ha with ha | ha
  · simp [Value.ownBlock] at ha; rw [← ha]; exact h.d
  · omega

set_option maxRecDepth 20000 in
set_option maxHeartbeats 4000000 in
theorem specShed_yes (N : Nat) (a1 a2 a3 : Option Addr) (l1 c1 l2 c2 l3 c3 : Nat) (ss : List Sr) (ts : List Ti) (us : List Us) (w : World) (hr : NetIn w a1 a2 a3 l1 l2 l3 ss ts us) (hok : netB (N : Int) ss ts us = true) :
    Calls Try.prog 70 #[.agg #[.int .i64 (N : Int), .slice a1 l1 c1, .slice a2 l2 c2, .slice a3 l3 c3]] w fun e w' => ∃ a c, e = .returned (.tuple #[.slice a (shR N ss ts us).length c, .bool true]) ∧ OwnI w' w.heap.size (.slice a (shR N ss ts us).length c) (shR N ss ts us) ∧ Below w.heap.size w w' := by
  obtain ⟨⟨hN1, hN8⟩, ⟨hs6, ht16, hu40⟩, hsr, hti, hus⟩ := net_facts hok
  have R := hide hr
  have Z1 := hr.r1.len_eq
  have Z2 := hr.r2.len_eq
  have Z3 := hr.r3.len_eq
  have q1 : l1 ≤ 6 := by omega
  have q2 : l2 ≤ 16 := by omega
  have q3 : l3 ≤ 40 := by omega
  have HZ1 := hide Z1
  have HZ3 := hide Z3
  have HSR := hide hsr
  have HUS := hide hus
  obtain ⟨pv, hpv⟩ : ∃ pv : List Value, pv = [.int .i64 (N : Int), .slice a1 l1 c1, .slice a2 l2 c2, .slice a3 l3 c3] := ⟨_, rfl⟩
  have KP : Hid (Blk (w.alloc (Obj.cells #[.int .i64 (N : Int), .slice a1 l1 c1, .slice a2 l2 c2, .slice a3 l3 c3] 44)) w.heap.size pv) := hide (by rw [hpv]; exact Blk.new (w := w) [.int .i64 (N : Int), .slice a1 l1 c1, .slice a2 l2 c2, .slice a3 l3 c3] 44)
  have HPV := hide hpv
  clear hpv
  have HB := hide (bel1 (w := w) (Obj.cells #[.int .i64 (N : Int), .slice a1 l1 c1, .slice a2 l2 c2, .slice a3 l3 c3] 44))
  have HOKN := hide hok
  clear hr Z1 Z2 Z3 hsr hus hok hs6 ht16 hu40
  go_enter Try.func70, Try.ntmps70
  go_wp2_with fail
  refine (specIslands_any (N : Int) a1 a2 a3 l1 c1 l2 c2 l3 c3 ss ts us _ ((unhide R).below (unhide HB))).mono ?_
  rintro e w1 ⟨ai, ci, rfl, oi, his', b1⟩
  have his := his' (unhide HOKN)
  rw [isleL_yes (unhide HOKN), Int.toNat_natCast] at oi his ⊢
  rw [unhide HOKN]
  clear his'
  obtain ⟨is, hisL⟩ : ∃ is, isleR N ts = is := ⟨_, rfl⟩
  rw [hisL] at oi his ⊢
  rw [his.len] at oi ⊢
  have HISL := hide hisL
  have HIS := hide his
  rcases oi.form with ⟨_, h0⟩ | ⟨gi, ci', hv, _⟩
  · rw [h0] at his; have := his.len; simp at this; omega
  simp only [Value.slice.injEq] at hv
  obtain ⟨rfl, hvn, rfl⟩ := hv
  clear hvn
  have OI : Hid (OwnI w1 (w.heap.size + 1) (.slice (some ⟨gi, 0, none⟩) N ci) is) := hide (by simpa using oi)
  have HB := hide ((unhide HB).trans (b1.mono (unhide HB).size))
  have KP := hide ((unhide KP).below b1)
  have sz1 : w.heap.size + 1 ≤ w1.heap.size := (unhide KP).lt
  obtain ⟨gl, hgl⟩ : ∃ g, w1.heap.size = g := ⟨_, rfl⟩
  have m0 : w1.cell? ⟨w.heap.size, 0, none⟩ = some (.int .i64 (N : Int)) := (by have h := unhide KP; rw [unhide HPV] at h; exact h.c 0 (by simp))
  obtain ⟨i0, hii, hz0, hz1, hz2⟩ := info_parts info_int1
  clear oi his b1 hisL hti
  go_wp2_with (at_make; refine wpList_make_full _ rfl (.tmp 23) (.tmp 23) 46 rfl (w.heap.size + 1) 3 i0 (.int .i64 0) 1 Try.underlying46 hii hz0 hz1 .i64 .i64 _ _ N rfl rfl rfl rfl (by rw [hz2]; omega) (by unfold maxLen; omega) (by omega) ?_; intro w2 hown hgrow; have b2 : Below w1.heap.size w1 w2 := (Below.refl _ _).grown hgrow (Nat.le_refl _) (fun k hk => by cases hk); have SA0 : Hid (ShA w w2 pv is (srcL is ss N 0) N gi ci gl N) := hide ⟨(unhide KP).below b2, (unhide OI).below b2, by have h := ownI_made hown; rw [hgl] at h; exact h, (unhide HIS).len, by simp [srcL], by have := (unhide OI).lies gi rfl; omega, (unhide HB).trans (b2.mono (unhide HB).size)⟩; clear b2 hown hgrow)
  try rw [hgl]
  clear hii hz0 hz1 hz2 m0 hgl OI KP HB
  clear i0
  go_loopw [7] (fun i wr => ∃ k : Nat, i = .int .i64 (k : Int) ∧ k ≤ l1 ∧ Hid (ShA w wr pv is (srcL is ss N k) N gi ci gl N)) (fun i _ => l1 - (intOf i).toNat)
  case atStart => exact ⟨0, rfl, Nat.zero_le _, SA0⟩
  case round =>
    clear SA0
    obtain ⟨k, rfl, hk, SA⟩ := hrel
    have m1 : wr.cell? ⟨w.heap.size, 1, none⟩ = some (.slice a1 l1 c1) := (by have h := (unhide SA).p; rw [unhide HPV] at h; exact h.c 1 (by simp))
    by_cases hlt : k < l1
    · have hlt2 : (k : Int) < (l1 : Int) := by omega
      have hi0 : (0 : Int) ≤ (k : Int) := by omega
      obtain ⟨⟨f0, f1⟩, f2, f3⟩ := (unhide HSR) k (by rw [unhide HZ1]; exact hlt)
      rcases (unhide R).r1.open_ with ⟨h0, _⟩ | ⟨bb, off, hbb, _, hc⟩
      · omega
      have e0 : w.cell? ⟨bb, off + k * 3, none⟩ = some (.int .i64 (elAt ss k).a0) := hc k hlt 0 (by omega)
      have e1 : w.cell? ⟨bb, off + k * 3 + 1, none⟩ = some (.int .i64 (elAt ss k).a1) := hc k hlt 1 (by omega)
      have e2 : w.cell? ⟨bb, off + k * 3 + 2, none⟩ = some (.bool (elAt ss k).a2) := hc k hlt 2 (by omega)
      have e0 := ((unhide SA).b.cell (block_lt_of_cell e0)).trans e0
      have e1 := ((unhide SA).b.cell (block_lt_of_cell e1)).trans e1
      have e2 := ((unhide SA).b.cell (block_lt_of_cell e2)).trans e2
      subst hbb
      clear hc
      obtain ⟨A, hA⟩ : ∃ A : Nat, (elAt ss k).a0 = A := ⟨(elAt ss k).a0.toNat, by omega⟩
      obtain ⟨P, hP⟩ : ∃ P, (elAt ss k).a1 = P := ⟨_, rfl⟩
      rw [hA] at e0 f0 f1
      rw [hP] at e1 f2 f3
      cases hw : (elAt ss k).a2 with
      | false =>
        rw [hw] at e2
        have NX : Hid (ShA w wr pv is (srcL is ss N (k + 1)) N gi ci gl N) := hide (by rw [srcL, hw]; exact (unhide SA))
        clear hA hP hw
        go_wp2_with fail
        go_roundw
        case rel => exact ⟨k + 1, by go_num, by omega, NX⟩
        case measure => simp [intOf]; omega
      | true =>
        rw [hw] at e2
        obtain ⟨J, hJ⟩ : ∃ J : Nat, isAt is (A : Int) = J := ⟨_, rfl⟩
        have hJN : J < N := by rw [← hJ]; exact isAt_lt (unhide HIS) hN1 _
        have hJv : nth is A = (J : Int) := by
          have h := (unhide HIS).low A (by omega)
          rw [← hJ]; unfold isAt; simp; omega
        obtain ⟨X, hX⟩ : ∃ X, nth (srcL is ss N k) J = X := ⟨_, rfl⟩
        have hXb : 0 ≤ X ∧ X ≤ 600000 := by
          have h := srcL_bd is ss N (isAt_lt (unhide HIS) hN1) k (fun j hj => ((unhide HSR) j (by rw [unhide HZ1]; omega)).2) J
          rw [hX] at h; omega
        have SV := unhide SA
        obtain ⟨ι, f, _, hbf, hall⟩ := belClass wr
        have v0 : ∀ x, (f x).cell? ⟨bb, off + k * 3, none⟩ = some (.int .i64 (A : Int)) := fun x => ((hbf x).cell (block_lt_of_cell e0)).trans e0
        have v1 : ∀ x, (f x).cell? ⟨bb, off + k * 3 + 1, none⟩ = some (.int .i64 P) := fun x => ((hbf x).cell (block_lt_of_cell e1)).trans e1
        have v5 : ∀ x, (f x).cell? ⟨w.heap.size, 1, none⟩ = some (.slice (some ⟨bb, off, none⟩) l1 c1) := fun x => ((hbf x).cell (block_lt_of_cell m1)).trans m1
        have v2 : ∀ x, (f x).cell? ⟨gi, A, none⟩ = some (.int .i64 (J : Int)) := fun x => by rw [← hJv]; exact ((SV.below (hbf x)).at A (by omega)).1
        have v3 : ∀ x, (f x).cell? ⟨gl, J, none⟩ = some (.int .i64 X) := fun x => by rw [← hX]; exact ((SV.below (hbf x)).at J hJN).2.1
        have v4 : ∀ x, (f x).frozen? ⟨gl, J, none⟩ = false := fun x => ((SV.below (hbf x)).at J hJN).2.2
        have NX : Hid (∀ x, ShA w ((f x).setCell ⟨gl, J, none⟩ (.int .i64 (X + P))) pv is (srcL is ss N (k + 1)) N gi ci gl N) := hide (fun x => by
          have e : srcL is ss N (k + 1) = (srcL is ss N k).set J (X + P) := by rw [srcL, if_pos hw, hA, hJ, hX, hP]
          rw [e]
          exact (SV.below (hbf x)).set J hJN _ (by omega))
        have hA0 : (0 : Int) ≤ (A : Int) := by omega
        have hAN : (A : Int) < (N : Int) := by omega
        have hJ0 : (0 : Int) ≤ (J : Int) := by omega
        have hJN2 : (J : Int) < (N : Int) := by omega
        have HA := hide hall
        clear hA hP hw hJ hJv hX SV hbf hall
        go_wp2_with fail
        refine wp_region_then (unhide HA) (by kernel_rfl) (by kernel_rfl) (by kernel_rfl) ?_
        dsimp only [swapLast, lastOf]
        repeat (go_big_quiet_step (fail))
        refine wpQuiet_nil ?_
        rintro _ ⟨y, rfl⟩
        go_simp
        go_wp2_with fail
        go_roundw
        case rel => exact ⟨k + 1, by go_num, by omega, hide (unhide NX y)⟩
        case measure => simp [intOf]; omega
    · obtain rfl : l1 = k := by omega
      have hlt2 : ¬ (l1 : Int) < (l1 : Int) := by omega
      obtain ⟨S, hS⟩ : ∃ S : Nat → ShSt, ∀ r, S r = outr is us ⟨srcL is ss N ss.length, List.replicate us.length false, []⟩ r := ⟨_, fun _ => rfl⟩
      have OK : ∀ r, ShOk N us.length (r * us.length) (S r) := fun r => by
        rw [hS r]
        refine ShOk.outr ⟨srcL_len _ _ _ _, by simp, Nat.le_refl _, fun i => ?_, fun i => by unfold nth; simp⟩ (isAt_lt (unhide HIS) hN1) (fun i hi => by have := (unhide HUS) i hi; omega) (by rw [unhide HZ3]; exact q3) r
        have h := srcL_bd is ss N (isAt_lt (unhide HIS) hN1) ss.length (fun j hj => ((unhide HSR) j hj).2) i
        have := unhide HZ1
        simp only; omega
      have HS := hide hS
      have HOK := hide OK
      obtain ⟨gf, hgf⟩ : ∃ g, wr.heap.size = g := ⟨_, rfl⟩
      have m3 : wr.cell? ⟨w.heap.size, 3, none⟩ = some (.slice a3 l3 c3) := (by have h := (unhide SA).p; rw [unhide HPV] at h; exact h.c 3 (by simp))
      have szr : w.heap.size + 1 ≤ wr.heap.size := (unhide SA).p.lt
      obtain ⟨i0, hii, hz0, hz1, hz2⟩ := info_parts infoBo
      clear hS OK hlt
      go_wp2_with (at_make; refine wpList_make_full _ rfl (.tmp 70) (.tmp 70) 124 rfl (w.heap.size + 1) 4 i0 (.bool false) 1 Try.underlying124 hii hz0 hz1 .i64 .i64 _ _ l3 rfl rfl rfl rfl (by rw [hz2]; omega) (by unfold maxLen; omega) (by omega) ?_; intro w2 hown hgrow; have b2 : Below wr.heap.size wr w2 := (Below.refl _ _).grown hgrow (Nat.le_refl _) (fun k hk => by cases hk); have SC0 : Hid (ShC w w2 pv is (S 0).L (S 0).F N gi ci gl N gf l3 l3) := hide (by rw [unhide HS 0, outr]; have e := unhide HZ1; have e3 := unhide HZ3; have h := ownB_made hown; rw [hgf] at h; refine ⟨by rw [e]; exact (unhide SA).below b2, by rw [e3]; exact h, by simp [e3], ?_⟩; have h1 := (unhide SA).i.lies gi rfl; have h2 := (unhide SA).l.lies gl rfl; omega); clear b2 hown hgrow)
      try rw [hgf]
      clear hii hz0 hz1 hz2 m3 m1 hgf SA hlt2 szr
      clear i0
      go_loopw [9] (fun rv wr => ∃ r : Nat, rv = .int .i64 (r : Int) ∧ r ≤ 10 ∧ Hid (ShC w wr pv is (S r).L (S r).F N gi ci gl N gf l3 l3)) (fun rv _ => 10 - (intOf rv).toNat)
      case atStart => exact ⟨0, rfl, by omega, SC0⟩
      case round =>
        clear SC0
        obtain ⟨r, rfl, hr10, SB⟩ := hrel
        by_cases hrl : r < 10
        · have hr2 : (r : Int) ≤ 9 := by omega
          go_wp2_with fail
          go_loopw [10] (fun iv wr => ∃ i : Nat, iv = .int .i64 (i : Int) ∧ i ≤ l3 ∧ Hid (ShC w wr pv is (inn is us r (S r) i).L (inn is us r (S r) i).F N gi ci gl N gf l3 l3)) (fun iv _ => l3 - (intOf iv).toNat)
          case atStart => exact ⟨0, rfl, Nat.zero_le _, SB⟩
          case round =>
            clear SB
            obtain ⟨i, rfl, hil, SB⟩ := hrel
            have m3 : wr.cell? ⟨w.heap.size, 3, none⟩ = some (.slice a3 l3 c3) := (by have h := (unhide SB).p; rw [unhide HPV] at h; exact h.c 3 (by simp))
            by_cases hlt : i < l3
            · have hlt2 : (i : Int) < (l3 : Int) := by omega
              have hi0 : (0 : Int) ≤ (i : Int) := by omega
              obtain ⟨⟨f0, f1⟩, ⟨f2, f3⟩, f4, f5⟩ := (unhide HUS) i (by rw [unhide HZ3]; exact hlt)
              have SI := ShOk.inn (is := is) (r := r) ((unhide HOK) r) (isAt_lt (unhide HIS) hN1) (fun i hi => by have := (unhide HUS) i hi; omega) (by rw [unhide HZ3]; exact q3) i (by rw [unhide HZ3]; omega)
              rcases (unhide R).r3.open_ with ⟨h0, _⟩ | ⟨bb, off, hbb, _, hc⟩
              · omega
              have e0 : w.cell? ⟨bb, off + i * 3, none⟩ = some (.int .i64 (elAt us i).a0) := hc i hlt 0 (by omega)
              have e1 : w.cell? ⟨bb, off + i * 3 + 1, none⟩ = some (.int .i64 (elAt us i).a1) := hc i hlt 1 (by omega)
              have e2 : w.cell? ⟨bb, off + i * 3 + 2, none⟩ = some (.int .i64 (elAt us i).a2) := hc i hlt 2 (by omega)
              have e0 := ((unhide SB).b.cell (block_lt_of_cell e0)).trans e0
              have e1 := ((unhide SB).b.cell (block_lt_of_cell e1)).trans e1
              have e2 := ((unhide SB).b.cell (block_lt_of_cell e2)).trans e2
              subst hbb
              clear hc
              obtain ⟨A, hA⟩ : ∃ A : Nat, (elAt us i).a0 = A := ⟨(elAt us i).a0.toNat, by omega⟩
              obtain ⟨P, hP⟩ : ∃ P, (elAt us i).a1 = P := ⟨_, rfl⟩
              obtain ⟨Q, hQ⟩ : ∃ Q, (elAt us i).a2 = Q := ⟨_, rfl⟩
              obtain ⟨M, hM⟩ : ∃ M, inn is us r (S r) i = M := ⟨_, rfl⟩
              have hMI : inn is us r (S r) (i + 1) = stp is us r i M := by rw [inn, hM]
              rw [hM] at SI
              have SBM : Hid (ShC w wr pv is M.L M.F N gi ci gl N gf l3 l3) := hide (by have h := unhide SB; rw [hM] at h; exact h)
              rw [hA] at e0 f0 f1
              rw [hP] at e1 f2 f3
              rw [hQ] at e2 f4 f5
              obtain ⟨J, hJ⟩ : ∃ J : Nat, isAt is (A : Int) = J := ⟨_, rfl⟩
              have hJN : J < N := by rw [← hJ]; exact isAt_lt (unhide HIS) hN1 _
              have hJv : nth is A = (J : Int) := by
                have h := (unhide HIS).low A (by omega)
                rw [← hJ]; unfold isAt; simp; omega
              obtain ⟨X, hX⟩ : ∃ X, nth M.L J = X := ⟨_, rfl⟩
              have hXb : 0 ≤ X ∧ X ≤ 600000 := by rw [← hX]; exact SI.bL J
              have HST : Hid (stp is us r i M = if Q = (r : Int) then (if P ≤ X then ⟨M.L.set J (X - P), M.F.set i true, M.W⟩ else ⟨M.L, M.F, M.W ++ [(i : Int)]⟩) else M) := hide (by unfold stp; rw [hQ, hA, hP, hJ, hX])
              obtain ⟨V, hV⟩ : ∃ V, V = wr.alloc (Obj.cells #[.int .i64 (A : Int), .int .i64 P, .int .i64 Q] 83) := ⟨_, rfl⟩
              have SV : ShC w V pv is M.L M.F N gi ci gl N gf l3 l3 := by rw [hV]; exact (unhide SBM).below (bel1 _)
              obtain ⟨E, hE⟩ : ∃ E, wr.heap.size = E := ⟨_, rfl⟩
              have KE : Blk V E [.int .i64 (A : Int), .int .i64 P, .int .i64 Q] := by rw [hV, ← hE]; exact Blk.new _ _
              have u0 : V.cell? ⟨E, 0, none⟩ = some (.int .i64 (A : Int)) := KE.c 0 (by simp)
              have u1 : V.cell? ⟨E, 1, none⟩ = some (.int .i64 P) := KE.c 1 (by simp)
              have u4 : V.cell? ⟨E, 2, none⟩ = some (.int .i64 Q) := KE.c 2 (by simp)
              have u2 : V.cell? ⟨gi, A, none⟩ = some (.int .i64 (J : Int)) := by rw [← hJv]; exact (SV.at A (by omega)).1
              have u3 : V.cell? ⟨gl, J, none⟩ = some (.int .i64 X) := by rw [← hX]; exact (SV.at J hJN).2.1
              have hA0 : (0 : Int) ≤ (A : Int) := by omega
              have hAN : (A : Int) < (N : Int) := by omega
              have hJ0 : (0 : Int) ≤ (J : Int) := by omega
              have hJN2 : (J : Int) < (N : Int) := by omega
              have HV := hide hV
              have HEE := hide hE
              have HSV := hide SV
              have HKE := hide KE
              have HMI := hide hMI
              have HX := hide hX
              have HJv := hide hJv
              clear hA hP hQ hM hMI SI hJ hJv hX SV KE hV hE SB SBM
              by_cases hqr : Q = (r : Int)
              · have HQR := hide hqr
                have hqb : (Q == (r : Int)) = true := by simp [hqr]
                clear hqr
                by_cases hpx : P ≤ X
                · go_wp2_with fail
                  rw [← unhide HV, unhide HEE]
                  clear HV
                  go_quiet (fail)
                  generalize hU : World.drewN V nq = U
                  have SU : ShC w U pv is M.L M.F N gi ci gl N gf l3 l3 := by rw [← hU]; exact (unhide HSV).below (bel0d _)
                  have KU : Blk U E [.int .i64 (A : Int), .int .i64 P, .int .i64 Q] := by rw [← hU]; exact (unhide HKE).below (bel0d _)
                  obtain ⟨ι, f, _, hbf, hall⟩ := belClass U
                  have v0 : ∀ x, (f x).cell? ⟨E, 0, none⟩ = some (.int .i64 (A : Int)) := fun x => (KU.below (hbf x)).c 0 (by simp)
                  have v1 : ∀ x, (f x).cell? ⟨E, 1, none⟩ = some (.int .i64 P) := fun x => (KU.below (hbf x)).c 1 (by simp)
                  have v2 : ∀ x, (f x).cell? ⟨gi, A, none⟩ = some (.int .i64 (J : Int)) := fun x => by rw [← unhide HJv]; exact ((SU.below (hbf x)).at A (by omega)).1
                  have v3 : ∀ x, (f x).cell? ⟨gl, J, none⟩ = some (.int .i64 X) := fun x => by rw [← unhide HX]; exact ((SU.below (hbf x)).at J hJN).2.1
                  have v4 : ∀ x, (f x).frozen? ⟨gl, J, none⟩ = false := fun x => ((SU.below (hbf x)).at J hJN).2.2
                  have NX : Hid (∀ x, ShC w ((f x).setCell ⟨gl, J, none⟩ (.int .i64 (X - P))) pv is (M.L.set J (X - P)) M.F N gi ci gl N gf l3 l3) := hide (fun x => (SU.below (hbf x)).set J hJN _ (by omega))
                  have HA := hide hall
                  clear SU KU hbf hall hU u0 u1 u2 u3 u4 HKE HSV
                  go_wp2_with fail
                  refine wp_region_then (unhide HA) (by kernel_rfl) (by kernel_rfl) (by kernel_rfl) ?_
                  dsimp only [swapLast, lastOf]
                  repeat (go_big_quiet_step (fail))
                  refine wpQuiet_nil ?_
                  rintro _ ⟨y, rfl⟩
                  go_simp
                  have NY := hide (unhide NX y)
                  generalize World.setCell (f y) _ _ = U2 at NY ⊢
                  have z0 : U2.cell? ⟨gf, i, none⟩ = some (.bool (elAt M.F i)) := ((unhide NY).at_ i hlt).1
                  have z1 : U2.frozen? ⟨gf, i, none⟩ = false := ((unhide NY).at_ i hlt).2
                  have NZ : Hid (ShC w (U2.setCell ⟨gf, i, none⟩ (.bool true)) pv is (inn is us r (S r) (i + 1)).L (inn is us r (S r) (i + 1)).F N gi ci gl N gf l3 l3) := hide (by
                    rw [unhide HMI, unhide HST, if_pos (unhide HQR), if_pos hpx]
                    exact (unhide NY).mark i hlt true)
                  clear v0 v1 v2 v3 v4 NX HA NY
                  go_wp2_with fail
                  go_roundw
                  case rel => exact ⟨i + 1, by go_num, by omega, NZ⟩
                  case measure => simp [intOf]; omega
                · go_wp2_with fail
                  rw [← unhide HV, unhide HEE]
                  clear HV
                  go_quiet (fail)
                  have NZ : Hid (ShC w (V.drewN nq) pv is (inn is us r (S r) (i + 1)).L (inn is us r (S r) (i + 1)).F N gi ci gl N gf l3 l3) := hide (by
                    rw [unhide HMI, unhide HST, if_pos (unhide HQR), if_neg (by omega)]
                    exact (unhide HSV).below (bel0d _))
                  go_wp2_with fail
                  go_roundw
                  case rel => exact ⟨i + 1, by go_num, by omega, NZ⟩
                  case measure => simp [intOf]; omega
              · have hqb : (Q == (r : Int)) = false := by simp [hqr]
                go_wp2_with fail
                rw [← unhide HV, unhide HEE]
                clear HV
                go_quiet (fail)
                have NZ : Hid (ShC w (V.drewN nq) pv is (inn is us r (S r) (i + 1)).L (inn is us r (S r) (i + 1)).F N gi ci gl N gf l3 l3) := hide (by
                  rw [unhide HMI, unhide HST, if_neg hqr]
                  exact (unhide HSV).below (bel0d _))
                go_wp2_with fail
                go_roundw
                case rel => exact ⟨i + 1, by go_num, by omega, NZ⟩
                case measure => simp [intOf]; omega
            · obtain rfl : l3 = i := by omega
              have hlt2 : ¬ (l3 : Int) < (l3 : Int) := by omega
              have NX : Hid (ShC w wr pv is (S (r + 1)).L (S (r + 1)).F N gi ci gl N gf l3 l3) := hide (by
                rw [unhide HS (r + 1), outr, ← unhide HS r, unhide HZ3]; exact unhide SB)
              clear SB
              go_wp2_with fail
              go_roundw
              case rel => exact ⟨r + 1, by go_num, by omega, NX⟩
              case measure => simp [intOf]; omega
        · have HR := hide (show r = 10 by omega)
          have hr2 : ¬ (r : Int) ≤ 9 := by omega
          have FIN : Hid (shR N ss ts us = unK (S r).F l3) := hide (by
            unfold shR shS
            rw [unhide HISL, unhide HS r, unhide HZ3, unhide HR])
          obtain ⟨g0, hg0⟩ : ∃ g, wr.heap.size = g := ⟨_, rfl⟩
          have SD0 : Hid (ShD w (wr.alloc (Obj.cells #[] 3)) (S r).F (unK (S r).F 0) gf l3 g0 0 0) := hide (by
            rw [← hg0]
            refine ⟨(unhide SB).f.below (bel1 _), (unhide SB).lf, OwnI.mono (ownI_none (w := wr) (w1 := wr) (Nat.le_refl _)) (by have := (unhide SB).p.lt; omega), rfl, ?_, (unhide SB).b.trans ((bel1 _).mono (unhide SB).b.size)⟩
            have := (unhide SB).f.lies gf rfl; omega)
          clear SB
          go_wp2_with fail
          try rw [hg0]
          clear hg0
          go_loopw [12, 13] (fun ov iv wr => ∃ (i g k c : Nat), iv = .int .i64 (i : Int) ∧ i ≤ l3 ∧ ov = .slice (some ⟨g, 0, none⟩) k c ∧ Hid (ShD w wr (S r).F (unK (S r).F i) gf l3 g k c)) (fun _ iv _ => l3 - (intOf iv).toNat)
          case atStart => exact ⟨0, g0, 0, 0, rfl, Nat.zero_le _, rfl, SD0⟩
          case round =>
            clear SD0
            obtain ⟨i, g, k, c, rfl, hil, rfl, SD⟩ := hrel
            by_cases hlt : i < l3
            · have hlt2 : (i : Int) < (l3 : Int) := by omega
              have hi0 : (0 : Int) ≤ (i : Int) := by omega
              have hk40 : k ≤ 40 := by
                have h1 := unK_len (S r).F i; have h2 := (unhide SD).lo
                omega
              have z0 : wr.cell? ⟨gf, i, none⟩ = some (.bool (elAt (S r).F i)) := ((unhide SD).f.here1 (unhide SD).lf i hlt).1
              cases hf : elAt (S r).F i with
              | true =>
                rw [hf] at z0
                have NX : Hid (ShD w wr (S r).F (unK (S r).F (i + 1)) gf l3 g k c) := hide (by rw [unK, if_pos hf]; exact unhide SD)
                clear SD hf
                go_wp2_with fail
                go_roundw
                case rel => exact ⟨i + 1, g, k, c, by go_num, by omega, rfl, NX⟩
                case measure => simp [intOf]; omega
              | false =>
                rw [hf] at z0
                have HU : Hid (unK (S r).F (i + 1) = unK (S r).F i ++ [(i : Int)]) := hide (by rw [unK, if_neg (by rw [hf]; simp)])
                have sU : w.heap.size + 1 ≤ wr.heap.size := by have := (unhide SD).f.lies gf rfl; omega
                have OU := hide (unhide SD).o
                have LU := hide (unhide SD).lo
                clear hf
                go_wp2_with (at_builtin; refine wpList_app_lies rfl (.tmp 138) (.tmp 140) rfl (n := k) (i : Int) (unhide OU) (unhide LU) rfl rfl rfl sU (by omega) (by omega) ?_; intro g9 c9 w9 o9 gr9 at9; have NX : Hid (ShD w w9 (S r).F (unK (S r).F (i + 1)) gf l3 g9 (k + 1) c9) := hide (by rw [unhide HU]; exact (unhide SD).push o9 gr9 at9); clear o9 gr9 at9)
                go_roundw
                case rel => exact ⟨i + 1, g9, k + 1, c9, by go_num, by omega, rfl, NX⟩
                case measure => simp [intOf]; omega
            · obtain rfl : l3 = i := by omega
              have hlt2 : ¬ (l3 : Int) < (l3 : Int) := by omega
              go_wp2_with fail
              go_ret2
              refine ⟨some ⟨g, 0, none⟩, c, ?_, ?_, (unhide SD).b⟩
              · rw [unhide FIN, (unhide SD).lo]; rfl
              · rw [unhide FIN, (unhide SD).lo]; exact (unhide SD).o.mono (Nat.le_succ _)

set_option maxRecDepth 20000 in
set_option maxHeartbeats 3000000 in
theorem specShed_any (n : Int) (a1 a2 a3 : Option Addr) (l1 c1 l2 c2 l3 c3 : Nat) (ss : List Sr) (ts : List Ti) (us : List Us) (w : World) (hr : NetIn w a1 a2 a3 l1 l2 l3 ss ts us) :
    Calls Try.prog 70 #[.agg #[.int .i64 n, .slice a1 l1 c1, .slice a2 l2 c2, .slice a3 l3 c3]] w fun x w' => ∃ a c, x = .returned (.tuple #[.slice a (shL n ss ts us).length c, .bool (netB n ss ts us)]) ∧ OwnI w' w.heap.size (.slice a (shL n ss ts us).length c) (shL n ss ts us) ∧ (netB n ss ts us = true → True) ∧ Below w.heap.size w w' := by
  cases hk : netB n ss ts us with
  | false =>
    have HL : Hid (shL n ss ts us = []) := hide (by simp [shL, hk])
    rw [unhide HL]
    have R := hide hr
    have HB := hide (bel1 (w := w) (Obj.cells #[.int .i64 n, .slice a1 l1 c1, .slice a2 l2 c2, .slice a3 l3 c3] 44))
    clear hr
    go_enter Try.func70, Try.ntmps70
    go_wp2_with fail
    refine (specIslands_any n a1 a2 a3 l1 c1 l2 c2 l3 c3 ss ts us _ ((unhide R).below (unhide HB))).mono ?_
    rintro e w1 ⟨ai, ci, rfl, oi, _, b1⟩
    rw [hk]
    have HB := hide ((unhide HB).trans (b1.mono (unhide HB).size))
    clear b1 R HL oi
    go_wp2_with fail
    go_ret2
    exact ⟨_, _, rfl, ownI_none (w := w) (unhide HB).size, fun _ => trivial, (unhide HB).trans ((bel1 _).mono (unhide HB).size)⟩
  | true =>
    obtain ⟨N, rfl⟩ : ∃ N : Nat, n = (N : Int) := ⟨n.toNat, by have := in_facts (netB_parts hk).1; omega⟩
    have HL : Hid (shL (N : Int) ss ts us = shR N ss ts us) := hide (by simp [shL, hk])
    rw [unhide HL]
    exact (specShed_yes N a1 a2 a3 l1 c1 l2 c2 l3 c3 ss ts us w hr hk).mono fun _ _ ⟨a, c, x, y, z⟩ => ⟨a, c, x, y, fun _ => trivial, z⟩

end Go.Proofs.Ytfahhjgpgccdhac

/-
  What the program's shed answers: the places of those that are not fed. At a net that is so; nothing that was there is written.
-/
import Derived.Test.YtfahhjgpgccdhacShFacts
import Derived.Test.YtfahhjgpgccdhacIsleIm2
import Derived.Test.YtfahhjgpgccdhacSortI
import Derived.Test.YtfahhjgpgccdhacThen
import Derived.Deep.Quiet
namespace Go.Proofs.Ytfahhjgpgccdhac
open Go.RowKit

set_option maxRecDepth 20000 in
set_option maxHeartbeats 4000000 in
theorem shed_any (N : Nat) (a1 a2 a3 : Option Addr) (l1 c1 l2 c2 l3 c3 : Nat) (ss : List Sr) (ts : List Ti) (us : List Us) (w : World) (hr : NetIn w a1 a2 a3 l1 l2 l3 ss ts us) (hok : netB (N : Int) ss ts us = true) :
    Calls Try.prog 54 #[.agg #[.int .i64 (N : Int), .slice a1 l1 c1, .slice a2 l2 c2, .slice a3 l3 c3]] w fun e w' => ∃ g c, e = .returned (.slice (some ⟨g, 0, none⟩) (shR N ss ts us).length c) ∧ OwnI w' w.heap.size (.slice (some ⟨g, 0, none⟩) (shR N ss ts us).length c) (shR N ss ts us) ∧ Below w.heap.size w w' := by
  obtain ⟨⟨hN1, hN8⟩, ⟨hs6, ht16, hu40⟩, hsr, hti, hus⟩ := net_facts hok
  have R := hide hr
  have Z1 := hr.r1.len_eq
  have Z2 := hr.r2.len_eq
  have Z3 := hr.r3.len_eq
  have q1 : l1 ≤ 6 := by omega
  have q2 : l2 ≤ 16 := by omega
  have q3 : l3 ≤ 40 := by omega
  have HZ1 := hide Z1
  have HZ3 := hide Z3
  have HSR := hide hsr
  have HUS := hide hus
  obtain ⟨pv, hpv⟩ : ∃ pv : List Value, pv = [.int .i64 (N : Int), .slice a1 l1 c1, .slice a2 l2 c2, .slice a3 l3 c3] := ⟨_, rfl⟩
  have KP : Hid (Blk (w.alloc (Obj.cells #[.int .i64 (N : Int), .slice a1 l1 c1, .slice a2 l2 c2, .slice a3 l3 c3] 44)) w.heap.size pv) := hide (by rw [hpv]; exact Blk.new (w := w) [.int .i64 (N : Int), .slice a1 l1 c1, .slice a2 l2 c2, .slice a3 l3 c3] 44)
  have HPV := hide hpv
  clear hpv
  have HB := hide (bel1 (w := w) (Obj.cells #[.int .i64 (N : Int), .slice a1 l1 c1, .slice a2 l2 c2, .slice a3 l3 c3] 44))
  clear hr Z1 Z2 Z3 hsr hus hok hs6 ht16 hu40
  go_enter Try.func54, Try.ntmps54
  go_wp2_with fail
  refine (islands_any N a1 a2 a3 l1 c1 l2 c2 l3 c3 ts _ ((unhide R).below (unhide HB)).r2 hN1 hN8 q2 hti).mono ?_
  rintro e w1 ⟨ai, ci, rfl, oi, his, b1⟩
  obtain ⟨is, hisL⟩ : ∃ is, isleR N ts = is := ⟨_, rfl⟩
  rw [hisL] at oi his
  have HISL := hide hisL
  have HIS := hide his
  rcases oi.form with ⟨_, h0⟩ | ⟨gi, ci', hv, _⟩
  · rw [h0] at his; have := his.len; simp at this; omega
  simp only [Value.slice.injEq] at hv
  obtain ⟨rfl, hvn, rfl⟩ := hv
  clear hvn
  have OI : Hid (OwnI w1 (w.heap.size + 1) (.slice (some ⟨gi, 0, none⟩) N ci) is) := hide (by simpa using oi)
  have HB := hide ((unhide HB).trans (b1.mono (unhide HB).size))
  have KP := hide ((unhide KP).below b1)
  have sz1 : w.heap.size + 1 ≤ w1.heap.size := (unhide KP).lt
  obtain ⟨gl, hgl⟩ : ∃ g, w1.heap.size = g := ⟨_, rfl⟩
  have m0 : w1.cell? ⟨w.heap.size, 0, none⟩ = some (.int .i64 (N : Int)) := (by have h := unhide KP; rw [unhide HPV] at h; exact h.c 0 (by simp))
  obtain ⟨i0, hii, hz0, hz1, hz2⟩ := info_parts info_int1
  clear oi his b1 hisL hti
  go_wp2_with (at_make; refine wpList_make_full _ rfl (.tmp 15) (.tmp 15) 46 rfl (w.heap.size + 1) 3 i0 (.int .i64 0) 1 Try.underlying46 hii hz0 hz1 .i64 .i64 _ _ N rfl rfl rfl rfl (by rw [hz2]; omega) (by unfold maxLen; omega) (by omega) ?_; intro w2 hown hgrow; have b2 : Below w1.heap.size w1 w2 := (Below.refl _ _).grown hgrow (Nat.le_refl _) (fun k hk => by cases hk); have SA0 : Hid (ShA w w2 pv is (srcL is ss N 0) N gi ci gl N) := hide ⟨(unhide KP).below b2, (unhide OI).below b2, by have h := ownI_made hown; rw [hgl] at h; exact h, (unhide HIS).len, by simp [srcL], by have := (unhide OI).lies gi rfl; omega, (unhide HB).trans (b2.mono (unhide HB).size)⟩; have m1 : w2.cell? ⟨w.heap.size, 1, none⟩ = some (.slice a1 l1 c1) := (by have h := (unhide SA0).p; rw [unhide HPV] at h; exact h.c 1 (by simp)); clear b2 hown hgrow)
  try rw [hgl]
  clear hii hz0 hz1 hz2 m0 m1 hgl OI KP HB
  clear i0
  go_loopw [20] (fun i wr => ∃ k : Nat, i = .int .i64 (k : Int) ∧ k ≤ l1 ∧ Hid (ShA w wr pv is (srcL is ss N k) N gi ci gl N)) (fun i _ => l1 - (intOf i).toNat)
  case atStart => exact ⟨0, rfl, Nat.zero_le _, SA0⟩
  case round =>
    clear SA0
    obtain ⟨k, rfl, hk, SA⟩ := hrel
    by_cases hlt : k < l1
    · have hlt2 : (k : Int) < (l1 : Int) := by omega
      have hi0 : (0 : Int) ≤ (k : Int) := by omega
      obtain ⟨⟨f0, f1⟩, f2, f3⟩ := (unhide HSR) k (by rw [unhide HZ1]; exact hlt)
      rcases (unhide R).r1.open_ with ⟨h0, _⟩ | ⟨bb, off, hbb, _, hc⟩
      · omega
      have e0 : w.cell? ⟨bb, off + k * 3, none⟩ = some (.int .i64 (elAt ss k).a0) := hc k hlt 0 (by omega)
      have e1 : w.cell? ⟨bb, off + k * 3 + 1, none⟩ = some (.int .i64 (elAt ss k).a1) := hc k hlt 1 (by omega)
      have e2 : w.cell? ⟨bb, off + k * 3 + 2, none⟩ = some (.bool (elAt ss k).a2) := hc k hlt 2 (by omega)
      have e0 := ((unhide SA).b.cell (block_lt_of_cell e0)).trans e0
      have e1 := ((unhide SA).b.cell (block_lt_of_cell e1)).trans e1
      have e2 := ((unhide SA).b.cell (block_lt_of_cell e2)).trans e2
      subst hbb
      clear hc
      obtain ⟨A, hA⟩ : ∃ A : Nat, (elAt ss k).a0 = A := ⟨(elAt ss k).a0.toNat, by omega⟩
      obtain ⟨P, hP⟩ : ∃ P, (elAt ss k).a1 = P := ⟨_, rfl⟩
      rw [hA] at e0 f0 f1
      rw [hP] at e1 f2 f3
      cases hw : (elAt ss k).a2 with
      | false =>
        rw [hw] at e2
        have NX : Hid (ShA w (wr.alloc (Obj.cells #[.int .i64 (A : Int), .int .i64 P, .bool false] 95)) pv is (srcL is ss N (k + 1)) N gi ci gl N) := hide (by rw [srcL, hw]; exact (unhide SA).below (bel1 _))
        clear hA hP hw
        go_wp2_with fail
        go_roundw
        case rel => exact ⟨k + 1, by go_num, by omega, NX⟩
        case measure => simp [intOf]; omega
      | true =>
        rw [hw] at e2
        obtain ⟨J, hJ⟩ : ∃ J : Nat, isAt is (A : Int) = J := ⟨_, rfl⟩
        have hJN : J < N := by rw [← hJ]; exact isAt_lt (unhide HIS) hN1 _
        have hJv : nth is A = (J : Int) := by
          have h := (unhide HIS).low A (by omega)
          rw [← hJ]; unfold isAt; simp; omega
        obtain ⟨X, hX⟩ : ∃ X, nth (srcL is ss N k) J = X := ⟨_, rfl⟩
        have hXb : 0 ≤ X ∧ X ≤ 600000 := by
          have h := srcL_bd is ss N (isAt_lt (unhide HIS) hN1) k (fun j hj => ((unhide HSR) j (by rw [unhide HZ1]; omega)).2) J
          rw [hX] at h; omega
        obtain ⟨V, hV⟩ : ∃ V, V = wr.alloc (Obj.cells #[.int .i64 (A : Int), .int .i64 P, .bool true] 95) := ⟨_, rfl⟩
        have SV : ShA w V pv is (srcL is ss N k) N gi ci gl N := by rw [hV]; exact (unhide SA).below (bel1 _)
        obtain ⟨E, hE⟩ : ∃ E, wr.heap.size = E := ⟨_, rfl⟩
        have KE : Blk V E [.int .i64 (A : Int), .int .i64 P, .bool true] := by rw [hV, ← hE]; exact Blk.new _ _
        obtain ⟨ι, f, _, hbf, hall⟩ := belClass V
        have v0 : ∀ x, (f x).cell? ⟨E, 0, none⟩ = some (.int .i64 (A : Int)) := fun x => (KE.below (hbf x)).c 0 (by simp)
        have v1 : ∀ x, (f x).cell? ⟨E, 1, none⟩ = some (.int .i64 P) := fun x => (KE.below (hbf x)).c 1 (by simp)
        have v2 : ∀ x, (f x).cell? ⟨gi, A, none⟩ = some (.int .i64 (J : Int)) := fun x => by rw [← hJv]; exact ((SV.below (hbf x)).at A (by omega)).1
        have v3 : ∀ x, (f x).cell? ⟨gl, J, none⟩ = some (.int .i64 X) := fun x => by rw [← hX]; exact ((SV.below (hbf x)).at J hJN).2.1
        have v4 : ∀ x, (f x).frozen? ⟨gl, J, none⟩ = false := fun x => ((SV.below (hbf x)).at J hJN).2.2
        have NX : Hid (∀ x, ShA w ((f x).setCell ⟨gl, J, none⟩ (.int .i64 (X + P))) pv is (srcL is ss N (k + 1)) N gi ci gl N) := hide (fun x => by
          have e : srcL is ss N (k + 1) = (srcL is ss N k).set J (X + P) := by rw [srcL, if_pos hw, hA, hJ, hX, hP]
          rw [e]
          exact (SV.below (hbf x)).set J hJN _ (by omega))
        have hA0 : (0 : Int) ≤ (A : Int) := by omega
        have hAN : (A : Int) < (N : Int) := by omega
        have hJ0 : (0 : Int) ≤ (J : Int) := by omega
        have hJN2 : (J : Int) < (N : Int) := by omega
        have HV := hide hV
        have HEE := hide hE
        have HA := hide hall
        clear hA hP hw hJ hJv hX SV KE hbf hall hV hE
        go_wp2_with fail
        rw [← unhide HV, unhide HEE]
        refine wp_region_then (unhide HA) (by kernel_rfl) (by kernel_rfl) (by kernel_rfl) ?_
        dsimp only [swapLast, lastOf]
        repeat (go_big_quiet_step (fail))
        refine wpQuiet_nil ?_
        rintro _ ⟨y, rfl⟩
        go_simp
        go_wp2_with fail
        go_roundw
        case rel => exact ⟨k + 1, by go_num, by omega, hide (unhide NX y)⟩
        case measure => simp [intOf]; omega
    · obtain rfl : l1 = k := by omega
      have hlt2 : ¬ (l1 : Int) < (l1 : Int) := by omega
      obtain ⟨S, hS⟩ : ∃ S : Nat → ShSt, ∀ r, S r = outr is us ⟨srcL is ss N ss.length, List.replicate us.length false, []⟩ r := ⟨_, fun _ => rfl⟩
      have OK : ∀ r, ShOk N us.length (r * us.length) (S r) := fun r => by
        rw [hS r]
        refine ShOk.outr ⟨srcL_len _ _ _ _, by simp, Nat.le_refl _, fun i => ?_, fun i => by unfold nth; simp⟩ (isAt_lt (unhide HIS) hN1) (fun i hi => by have := (unhide HUS) i hi; omega) (by rw [unhide HZ3]; exact q3) r
        have h := srcL_bd is ss N (isAt_lt (unhide HIS) hN1) ss.length (fun j hj => ((unhide HSR) j hj).2) i
        have := unhide HZ1
        simp only; omega
      have HS := hide hS
      have HOK := hide OK
      obtain ⟨gw0, hgw0⟩ : ∃ g, wr.heap.size = g := ⟨_, rfl⟩
      have SB0 : Hid (ShB w (wr.alloc (Obj.cells #[] 3)) pv is (S 0).L (S 0).W N gi ci gl N gw0 0 0) := hide (by
        rw [hS 0, outr, ← hgw0]
        have e := unhide HZ1
        refine ⟨by rw [e]; exact (unhide SA).below (bel1 _), ?_, rfl, ?_⟩
        · have h := ownI_none (w := wr) (w1 := wr) (Nat.le_refl _)
          exact OwnI.mono h (by have := (unhide SA).p.lt; omega)
        · have h1 := (unhide SA).i.lies gi rfl
          have h2 := (unhide SA).l.lies gl rfl
          omega)
      clear hS OK SA hlt hlt2
      go_wp2_with fail
      try rw [hgw0]
      clear hgw0
      go_loopw [7, 40] (fun ov rv wr => ∃ (r gw kk cw : Nat), rv = .int .i64 (r : Int) ∧ r ≤ 10 ∧ ov = .slice (some ⟨gw, 0, none⟩) kk cw ∧ Hid (ShB w wr pv is (S r).L (S r).W N gi ci gl N gw kk cw)) (fun _ rv _ => 10 - (intOf rv).toNat)
      case atStart => exact ⟨0, gw0, 0, 0, rfl, by omega, rfl, SB0⟩
      case round =>
        clear SB0
        obtain ⟨r, gw, kk, cw, rfl, hr10, rfl, SB⟩ := hrel
        by_cases hrl : r < 10
        · have hr2 : (r : Int) < 10 := by omega
          have m3 : wr.cell? ⟨w.heap.size, 3, none⟩ = some (.slice a3 l3 c3) := (by have h := (unhide SB).p; rw [unhide HPV] at h; exact h.c 3 (by simp))
          go_wp2_with fail
          clear m3
          go_loopw [7, 46] (fun ov iv wr => ∃ (i gw kk cw : Nat), iv = .int .i64 (i : Int) ∧ i ≤ l3 ∧ ov = .slice (some ⟨gw, 0, none⟩) kk cw ∧ Hid (ShB w wr pv is (inn is us r (S r) i).L (inn is us r (S r) i).W N gi ci gl N gw kk cw)) (fun _ iv _ => l3 - (intOf iv).toNat)
          case atStart => exact ⟨0, gw, kk, cw, rfl, Nat.zero_le _, rfl, SB⟩
          case round =>
            clear SB
            obtain ⟨i, gw, kk, cw, rfl, hil, rfl, SB⟩ := hrel
            by_cases hlt : i < l3
            · have hlt2 : (i : Int) < (l3 : Int) := by omega
              have hi0 : (0 : Int) ≤ (i : Int) := by omega
              obtain ⟨⟨f0, f1⟩, ⟨f2, f3⟩, f4, f5⟩ := (unhide HUS) i (by rw [unhide HZ3]; exact hlt)
              have SI := ShOk.inn (is := is) (r := r) ((unhide HOK) r) (isAt_lt (unhide HIS) hN1) (fun i hi => by have := (unhide HUS) i hi; omega) (by rw [unhide HZ3]; exact q3) i (by rw [unhide HZ3]; omega)
              rcases (unhide R).r3.open_ with ⟨h0, _⟩ | ⟨bb, off, hbb, _, hc⟩
              · omega
              have e0 : w.cell? ⟨bb, off + i * 3, none⟩ = some (.int .i64 (elAt us i).a0) := hc i hlt 0 (by omega)
              have e1 : w.cell? ⟨bb, off + i * 3 + 1, none⟩ = some (.int .i64 (elAt us i).a1) := hc i hlt 1 (by omega)
              have e2 : w.cell? ⟨bb, off + i * 3 + 2, none⟩ = some (.int .i64 (elAt us i).a2) := hc i hlt 2 (by omega)
              have e0 := ((unhide SB).b.cell (block_lt_of_cell e0)).trans e0
              have e1 := ((unhide SB).b.cell (block_lt_of_cell e1)).trans e1
              have e2 := ((unhide SB).b.cell (block_lt_of_cell e2)).trans e2
              subst hbb
              clear hc
              obtain ⟨A, hA⟩ : ∃ A : Nat, (elAt us i).a0 = A := ⟨(elAt us i).a0.toNat, by omega⟩
              obtain ⟨P, hP⟩ : ∃ P, (elAt us i).a1 = P := ⟨_, rfl⟩
              obtain ⟨Q, hQ⟩ : ∃ Q, (elAt us i).a2 = Q := ⟨_, rfl⟩
              obtain ⟨M, hM⟩ : ∃ M, inn is us r (S r) i = M := ⟨_, rfl⟩
              have hMI : inn is us r (S r) (i + 1) = stp is us r i M := by rw [inn, hM]
              rw [hM] at SI
              have SBM : Hid (ShB w wr pv is M.L M.W N gi ci gl N gw kk cw) := hide (by have h := unhide SB; rw [hM] at h; exact h)
              rw [hA] at e0 f0 f1
              rw [hP] at e1 f2 f3
              rw [hQ] at e2 f4 f5
              have hkk : kk ≤ 400 := by
                have h1 := SI.lW; have h2 := (unhide SBM).lo; have h3 := unhide HZ3
                rw [h3] at h1
                have : r * l3 ≤ 9 * 40 := Nat.mul_le_mul (by omega) q3
                omega
              by_cases hqr : Q = (r : Int)
              · have HST : Hid (stp is us r i M = if P ≤ nth M.L (isAt is (A : Int)) then ⟨M.L.set (isAt is (A : Int)) (nth M.L (isAt is (A : Int)) - P), M.F.set i true, M.W⟩ else ⟨M.L, M.F, M.W ++ [(i : Int)]⟩) := hide (by unfold stp; rw [hQ, if_pos hqr, hA, hP])
                obtain ⟨J, hJ⟩ : ∃ J : Nat, isAt is (A : Int) = J := ⟨_, rfl⟩
                rw [hJ] at HST
                have hJN : J < N := by rw [← hJ]; exact isAt_lt (unhide HIS) hN1 _
                have hJv : nth is A = (J : Int) := by
                  have h := (unhide HIS).low A (by omega)
                  rw [← hJ]; unfold isAt; simp; omega
                obtain ⟨X, hX⟩ : ∃ X, nth M.L J = X := ⟨_, rfl⟩
                rw [hX] at HST
                have hXb : 0 ≤ X ∧ X ≤ 600000 := by rw [← hX]; exact SI.bL J
                obtain ⟨V, hV⟩ : ∃ V, V = wr.alloc (Obj.cells #[.int .i64 (A : Int), .int .i64 P, .int .i64 Q] 83) := ⟨_, rfl⟩
                have SV : ShB w V pv is M.L M.W N gi ci gl N gw kk cw := by rw [hV]; exact (unhide SBM).below (bel1 _)
                obtain ⟨E, hE⟩ : ∃ E, wr.heap.size = E := ⟨_, rfl⟩
                have KE : Blk V E [.int .i64 (A : Int), .int .i64 P, .int .i64 Q] := by rw [hV, ← hE]; exact Blk.new _ _
                have u1 : V.cell? ⟨E, 1, none⟩ = some (.int .i64 P) := KE.c 1 (by simp)
                have u2 : V.cell? ⟨gi, A, none⟩ = some (.int .i64 (J : Int)) := by rw [← hJv]; exact (SV.at A (by omega)).1
                have u3 : V.cell? ⟨gl, J, none⟩ = some (.int .i64 X) := by rw [← hX]; exact (SV.at J hJN).2.1
                have u2' : (wr.alloc (Obj.cells #[.int .i64 (A : Int), .int .i64 P, .int .i64 Q] 83)).cell? ⟨gi, A, none⟩ = some (.int .i64 (J : Int)) := by rw [← hV]; exact u2
                have hA0 : (0 : Int) ≤ (A : Int) := by omega
                have hAN : (A : Int) < (N : Int) := by omega
                have hJ0 : (0 : Int) ≤ (J : Int) := by omega
                have hJN2 : (J : Int) < (N : Int) := by omega
                have hqb : (Q != (r : Int)) = false := by simp [hqr]
                have HV := hide hV
                have HEE := hide hE
                have HSV := hide SV
                have HKE := hide KE
                have HMI := hide hMI
                have HX := hide hX
                clear hA hP hQ hM hMI SI hJ hJv hX SV KE hV hE SB SBM hqr
                go_wp2_with fail
                rw [← unhide HV, unhide HEE]
                clear u2' HV
                by_cases hpx : P ≤ X
                · go_quiet (fail)
                  generalize hU : World.drewN V nq = U
                  have SU : ShB w U pv is M.L M.W N gi ci gl N gw kk cw := by rw [← hU]; exact (unhide HSV).below (bel0d _)
                  have KU : Blk U E [.int .i64 (A : Int), .int .i64 P, .int .i64 Q] := by rw [← hU]; exact (unhide HKE).below (bel0d _)
                  obtain ⟨ι, f, _, hbf, hall⟩ := belClass U
                  have v1 : ∀ x, (f x).cell? ⟨E, 1, none⟩ = some (.int .i64 P) := fun x => (KU.below (hbf x)).c 1 (by simp)
                  have v3 : ∀ x, (f x).cell? ⟨gl, J, none⟩ = some (.int .i64 X) := fun x => by rw [← unhide HX]; exact ((SU.below (hbf x)).at J hJN).2.1
                  have v4 : ∀ x, (f x).frozen? ⟨gl, J, none⟩ = false := fun x => ((SU.below (hbf x)).at J hJN).2.2
                  have NX : Hid (∀ x, ShB w ((f x).setCell ⟨gl, J, none⟩ (.int .i64 (X - P))) pv is (inn is us r (S r) (i + 1)).L (inn is us r (S r) (i + 1)).W N gi ci gl N gw kk cw) := hide (fun x => by
                    rw [unhide HMI, unhide HST, if_pos hpx]
                    exact (SU.below (hbf x)).set J hJN _ (by omega))
                  have HA := hide hall
                  clear SU KU hbf hall hU u1 u2 u3 HKE HSV
                  go_wp2_with fail
                  refine wp_region_then (unhide HA) (by kernel_rfl) (by kernel_rfl) (by kernel_rfl) ?_
                  dsimp only [swapLast, lastOf]
                  repeat (go_big_quiet_step (fail))
                  refine wpQuiet_nil ?_
                  rintro _ ⟨y, rfl⟩
                  go_simp
                  go_wp2_with fail
                  go_roundw
                  case rel => exact ⟨i + 1, gw, kk, cw, by go_num, by omega, rfl, hide (unhide NX y)⟩
                  case measure => simp [intOf]; omega
                · go_quiet (fail)
                  generalize hU : World.drewN V nq = U
                  have SU : Hid (ShB w U pv is M.L M.W N gi ci gl N gw kk cw) := hide (by rw [← hU]; exact (unhide HSV).below (bel0d _))
                  have sU : w.heap.size + 1 ≤ U.heap.size := (unhide SU).p.lt
                  have OU := hide (unhide SU).o
                  have LU := hide (unhide SU).lo
                  clear hU u1 u2 u3 HKE HSV
                  go_wp2_with (at_builtin; refine wpList_app_lies rfl (.tmp 67) (.tmp 69) rfl (n := kk) (i : Int) (unhide OU) (unhide LU) rfl rfl rfl sU (by omega) (by omega) ?_; intro g9 c9 w9 o9 gr9 at9; have NX : Hid (ShB w w9 pv is (inn is us r (S r) (i + 1)).L (inn is us r (S r) (i + 1)).W N gi ci gl N g9 (kk + 1) c9) := hide (by rw [unhide HMI, unhide HST, if_neg hpx]; exact (unhide SU).push o9 gr9 at9); clear o9 gr9 at9)
                  go_roundw
                  case rel => exact ⟨i + 1, g9, kk + 1, c9, by go_num, by omega, rfl, NX⟩
                  case measure => simp [intOf]; omega
              · have NX : Hid (ShB w (wr.alloc (Obj.cells #[.int .i64 (A : Int), .int .i64 P, .int .i64 Q] 83)) pv is (inn is us r (S r) (i + 1)).L (inn is us r (S r) (i + 1)).W N gi ci gl N gw kk cw) := hide (by
                  rw [hMI]; unfold stp; rw [hQ, if_neg hqr]; exact (unhide SBM).below (bel1 _))
                have hqb : (Q != (r : Int)) = true := by simp [hqr]
                clear hA hP hQ hM hMI SI SB SBM hqr
                go_wp2_with fail
                go_roundw
                case rel => exact ⟨i + 1, gw, kk, cw, by go_num, by omega, rfl, NX⟩
                case measure => simp [intOf]; omega
            · obtain rfl : l3 = i := by omega
              have hlt2 : ¬ (l3 : Int) < (l3 : Int) := by omega
              have NX : Hid (ShB w wr pv is (S (r + 1)).L (S (r + 1)).W N gi ci gl N gw kk cw) := hide (by
                rw [unhide HS (r + 1), outr, ← unhide HS r, unhide HZ3]; exact unhide SB)
              clear SB
              go_wp2_with fail
              go_roundw
              case rel => exact ⟨r + 1, gw, kk, cw, by go_num, by omega, rfl, NX⟩
              case measure => simp [intOf]; omega
        · obtain rfl : r = 10 := by omega
          have hkk : kk ≤ 400 := by
            have h1 := ((unhide HOK) 10).lW; have h2 := (unhide SB).lo; have h3 := unhide HZ3
            rw [h3] at h1
            omega
          have OS := hide (unhide SB).o
          have LS := hide (unhide SB).lo
          have FIN : Hid (shR N ss ts us = srt (S 10).W) := hide (by
            have h := unk_done (is := is) (L := srcL is ss N ss.length) (us := us) (fun i hi => by have := (unhide HUS) i hi; omega)
            unfold shR shS
            rw [unhide HISL, h, unhide HS 10])
          go_wp2_with fail
          refine (sortInts_own (w.heap.size + 1) gw cw kk (S 10).W _ (unhide OS) (unhide LS) (by omega)).mono ?_
          rintro e w5 ⟨rfl, o5, g5⟩
          have O5 := hide (o5.mono (Nat.le_succ w.heap.size))
          have B5 : Hid (Below w.heap.size w w5) := hide ((unhide SB).b.grown g5 (unhide SB).b.size (fun q hq => by cases hq; have := (unhide OS).lies gw rfl; omega))
          clear o5 g5
          go_wp2_with fail
          go_ret
          refine ⟨gw, cw, ?_, ?_, unhide B5⟩
          · rw [unhide FIN, srt_len, unhide LS]; rfl
          · rw [unhide FIN, srt_len, unhide LS]; exact unhide O5

set_option maxRecDepth 20000 in
set_option maxHeartbeats 3000000 in
theorem implShed_any (n : Int) (a1 a2 a3 : Option Addr) (l1 c1 l2 c2 l3 c3 : Nat) (ss : List Sr) (ts : List Ti) (us : List Us) (w : World) (hr : NetIn w a1 a2 a3 l1 l2 l3 ss ts us) :
    Calls Try.prog 38 #[.agg #[.int .i64 n, .slice a1 l1 c1, .slice a2 l2 c2, .slice a3 l3 c3]] w fun x w' => ∃ a c, x = .returned (.tuple #[.slice a (shL n ss ts us).length c, .bool (netB n ss ts us)]) ∧ OwnI w' w.heap.size (.slice a (shL n ss ts us).length c) (shL n ss ts us) ∧ (netB n ss ts us = true → True) ∧ Below w.heap.size w w' := by
  have R := hide hr
  have KP := hide (Blk.new (w := w) [.int .i64 n, .slice a1 l1 c1, .slice a2 l2 c2, .slice a3 l3 c3] 44)
  have HB := hide (bel1 (w := w) (Obj.cells #[.int .i64 n, .slice a1 l1 c1, .slice a2 l2 c2, .slice a3 l3 c3] 44))
  clear hr
  cases hk : netB n ss ts us with
  | false =>
    have HL : Hid (shL n ss ts us = []) := hide (by simp [shL, hk])
    rw [unhide HL]
    go_enter Try.func38, Try.ntmps38
    go_wp2_with fail
    refine (implNetOk_is n a1 a2 a3 l1 c1 l2 c2 l3 c3 ss ts us _ ((unhide R).below (unhide HB)) hk).mono ?_
    rintro e w1 ⟨rfl, b1⟩
    have HB := hide ((unhide HB).trans (b1.mono (unhide HB).size))
    clear b1 KP R HL
    go_wp2_with fail
    go_ret2
    exact ⟨_, _, rfl, ownI_none (w := w) (unhide HB).size, fun _ => trivial, (unhide HB).trans ((bel1 _).mono (unhide HB).size)⟩
  | true =>
    obtain ⟨N, rfl⟩ : ∃ N : Nat, n = (N : Int) := ⟨n.toNat, by have := in_facts (netB_parts hk).1; omega⟩
    have HL : Hid (shL (N : Int) ss ts us = shR N ss ts us) := hide (by simp [shL, hk])
    rw [unhide HL]
    go_enter Try.func38, Try.ntmps38
    go_wp2_with fail
    refine (implNetOk_is (N : Int) a1 a2 a3 l1 c1 l2 c2 l3 c3 ss ts us _ ((unhide R).below (unhide HB)) hk).mono ?_
    rintro e w1 ⟨rfl, b1⟩
    have HB := hide ((unhide HB).trans (b1.mono (unhide HB).size))
    have m0 : w1.cell? ⟨w.heap.size, 0, none⟩ = some (.int .i64 (N : Int)) := ((unhide KP).below b1).c 0 (by simp)
    have m1 : w1.cell? ⟨w.heap.size, 1, none⟩ = some (.slice a1 l1 c1) := ((unhide KP).below b1).c 1 (by simp)
    have m2 : w1.cell? ⟨w.heap.size, 2, none⟩ = some (.slice a2 l2 c2) := ((unhide KP).below b1).c 2 (by simp)
    have m3 : w1.cell? ⟨w.heap.size, 3, none⟩ = some (.slice a3 l3 c3) := ((unhide KP).below b1).c 3 (by simp)
    clear b1 KP HL
    go_wp2_with fail
    refine (shed_any N a1 a2 a3 l1 c1 l2 c2 l3 c3 ss ts us _ ((unhide R).below (unhide HB)) hk).mono ?_
    rintro e w2 ⟨g, c, rfl, o2, b2⟩
    have O2 := hide (o2.mono (unhide HB).size)
    have HB := hide ((unhide HB).trans (b2.mono (unhide HB).size))
    clear o2 b2 m0 m1 m2 m3
    go_wp2_with fail
    go_ret2
    exact ⟨_, c, rfl, unhide O2, fun _ => trivial, unhide HB⟩

end Go.Proofs.Ytfahhjgpgccdhac

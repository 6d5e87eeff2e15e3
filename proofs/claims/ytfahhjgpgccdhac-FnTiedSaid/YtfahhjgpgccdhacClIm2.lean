/-
  What the program's closing answers: the first list of just so many ties that suffices. At a net that is so; nothing that was there is written.
-/
import Derived.Test.YtfahhjgpgccdhacClImpl
namespace Go.Proofs.Ytfahhjgpgccdhac
open Go.RowKit

theorem closing_0 (N : Nat) (a1 a2 a3 : Option Addr) (l1 c1 l2 c2 l3 c3 : Nat) (ss : List Sr) (ts : List Ti) (us : List Us) (w : World) (hr : NetIn w a1 a2 a3 l1 l2 l3 ss ts us) (hok : netB (N : Int) ss ts us = true) (I : Int) :
    Calls Try.prog 34 #[.agg #[.int .i64 (N : Int), .slice a1 l1 c1, .slice a2 l2 c2, .slice a3 l3 c3], .int .i64 I, .int .i64 0] w fun e w' => ∃ g c, e = .returned (.tuple #[.slice (some ⟨g, 0, none⟩) 0 c, .bool (wellB N ss us ts)]) ∧ OwnI w' w.heap.size (.slice (some ⟨g, 0, none⟩) 0 c) [] ∧ Below w.heap.size w w' := by
  have R := hide hr
  have HOK := hide hok
  have HB := hide (bel2 (w := w) (Obj.cells #[.int .i64 (N : Int), .slice a1 l1 c1, .slice a2 l2 c2, .slice a3 l3 c3] 44) (Obj.cells #[] 3))
  have O1 : Hid (OwnI ((w.alloc (Obj.cells #[.int .i64 (N : Int), .slice a1 l1 c1, .slice a2 l2 c2, .slice a3 l3 c3] 44)).alloc (Obj.cells #[] 3)) w.heap.size (.slice (some ⟨w.heap.size + 1, 0, none⟩) 0 0) []) := hide (by simpa using ownI_none (w := w) (w1 := w.alloc (Obj.cells #[.int .i64 (N : Int), .slice a1 l1 c1, .slice a2 l2 c2, .slice a3 l3 c3] 44)) (by simp))
  clear hr hok
  go_enter Try.func34, Try.ntmps34
  go_wp2_with fail
  refine (feeds_any N a1 a2 a3 l1 c1 l2 c2 l3 c3 ss ts us _ ((unhide R).below (unhide HB)) (unhide HOK)).mono ?_
  rintro e w1 ⟨rfl, b1⟩
  have O2 := hide ((unhide O1).below b1)
  have HB1 := hide ((unhide HB).trans (b1.mono (unhide HB).size))
  clear b1 R O1 HB
  go_wp2_with fail
  go_ret2
  exact ⟨_, _, rfl, unhide O2, unhide HB1⟩

set_option maxRecDepth 20000 in
set_option maxHeartbeats 4000000 in
theorem closing_is (N : Nat) (a1 a3 : Option Addr) (l1 c1 l3 c3 : Nat) (ss : List Sr) (us : List Us) : ∀ (m i : Nat) (a2 : Option Addr) (l2 c2 : Nat) (ts : List Ti) (w : World) (I M : Int), I = (i : Int) → M = (m : Int) → NetIn w a1 a2 a3 l1 l2 l3 ss ts us → netB (N : Int) ss ts us = true → i ≤ l2 → m ≤ 3 →
    Calls Try.prog 34 #[.agg #[.int .i64 (N : Int), .slice a1 l1 c1, .slice a2 l2 c2, .slice a3 l3 c3], .int .i64 I, .int .i64 M] w fun e w' => ∃ g c, e = .returned (.tuple #[.slice (some ⟨g, 0, none⟩) ((clR (wellB N ss us) m i ts).getD []).length c, .bool (clR (wellB N ss us) m i ts).isSome]) ∧ OwnI w' w.heap.size (.slice (some ⟨g, 0, none⟩) ((clR (wellB N ss us) m i ts).getD []).length c) ((clR (wellB N ss us) m i ts).getD []) ∧ Below w.heap.size w w' := by
  intro m
  induction m with
  | zero =>
    intro i a2 l2 c2 ts w I M hI hM hr hok _ _
    subst hM
    rw [clR_zero.1, clR_zero.2]
    exact closing_0 N a1 a2 a3 l1 c1 l2 c2 l3 c3 ss ts us w hr hok I
  | succ m ih =>
    intro i a2 l2 c2 ts w I M hI hM hr hok hi hm
    have IH := hide ih
    obtain ⟨G, hG⟩ : ∃ G, (fun j => clR (wellB N ss us) m (j + 1) (shutT ts j)) = G := ⟨_, rfl⟩
    have HG : Hid (∀ j, G j = clR (wellB N ss us) m (j + 1) (shutT ts j)) := hide (fun j => by rw [← hG])
    obtain ⟨Z, hZ⟩ : ∃ Z, clIn G ts (ts.length - i) i = Z := ⟨_, rfl⟩
    rw [clR, hG, hZ]
    have HZ := hide hZ
    have Z2 := hide hr.r2.len_eq
    have hM0 : ¬ M = 0 := by omega
    have hM2 : (M == 0) = false := by simp [hM0]
    have hM1 : M - 1 = (m : Int) := by omega
    have hMb : 1 ≤ M ∧ M ≤ 3 := by omega
    have HM1 := hide hM1
    have q2 : l2 ≤ 16 := by have := (net_facts hok).2.1.2.1; have := hr.r2.len_eq; omega
    have HI := hide hI
    have hIb : 0 ≤ I ∧ I ≤ 16 := by omega
    have R := hide hr
    have HOK := hide hok
    have HB := hide (bel1 (w := w) (Obj.cells #[.int .i64 (N : Int), .slice a1 l1 c1, .slice a2 l2 c2, .slice a3 l3 c3] 44))
    have KP : Hid (Blk (w.alloc (Obj.cells #[.int .i64 (N : Int), .slice a1 l1 c1, .slice a2 l2 c2, .slice a3 l3 c3] 44)) w.heap.size [.int .i64 (N : Int), .slice a1 l1 c1, .slice a2 l2 c2, .slice a3 l3 c3]) := hide (Blk.new (w := w) [.int .i64 (N : Int), .slice a1 l1 c1, .slice a2 l2 c2, .slice a3 l3 c3] 44)
    clear ih hG hZ hM hM1 hI hr hok
    go_enter Try.func34, Try.ntmps34
    go_wp2_with fail
    go_loopw [8] (fun p wr => ∃ k : Nat, p = .int .i64 (k : Int) ∧ i ≤ k ∧ k ≤ l2 ∧ Hid (Blk wr w.heap.size [.int .i64 (N : Int), .slice a1 l1 c1, .slice a2 l2 c2, .slice a3 l3 c3]) ∧ Hid (Below w.heap.size w wr) ∧ Hid (clIn G ts (ts.length - k) k = Z)) (fun p _ => l2 - (intOf p).toNat)
    case atStart => exact ⟨i, by rw [unhide HI], Nat.le_refl _, hi, KP, HB, HZ⟩
    case round =>
      clear KP HB HZ
      obtain ⟨k, rfl, hik, hk, KP, HB, HZ⟩ := hrel
      have p2 : wr.cell? ⟨w.heap.size, 2, none⟩ = some (.slice a2 l2 c2) := (unhide KP).c 2 (by simp)
      by_cases hkl : k < l2
      · have hkl2 : (k : Int) < (l2 : Int) := by omega
        have hk0 : (0 : Int) ≤ (k : Int) := by omega
        have hkt : k < ts.length := by rw [unhide Z2]; exact hkl
        have HKT := hide hkt
        have p0 : wr.cell? ⟨w.heap.size, 0, none⟩ = some (.int .i64 (N : Int)) := (unhide KP).c 0 (by simp)
        have p1 : wr.cell? ⟨w.heap.size, 1, none⟩ = some (.slice a1 l1 c1) := (unhide KP).c 1 (by simp)
        have p3 : wr.cell? ⟨w.heap.size, 3, none⟩ = some (.slice a3 l3 c3) := (unhide KP).c 3 (by simp)
        obtain ⟨bb, off, hbb, hc⟩ := ((unhide R).below (unhide HB)).r2.at_ k hkl
        have e2 : wr.cell? ⟨bb, off + k * 3 + 2, none⟩ = some (.bool (elAt ts k).a2) := hc 2 (by omega)
        have HBB := hide hbb
        rw [hbb] at p2
        clear hbb hc hkt
        cases hcl : (elAt ts k).a2 with
        | true =>
          rw [hcl] at e2
          have HZ1 : Hid (clIn G ts (ts.length - (k + 1)) (k + 1) = Z) := hide (by rw [← clIn_shut (unhide HKT) hcl]; exact unhide HZ)
          clear hcl
          go_wp2_with fail
          go_roundw
          case rel => exact ⟨k + 1, by go_num, by omega, by omega, KP, HB, HZ1⟩
          case measure => simp [intOf]; omega
        | false =>
          rw [hcl] at e2
          have HCL := hide hcl
          clear hcl
          go_wp2_with fail
          refine (withClosed_is N a1 _ a3 l1 c1 l2 c2 l3 c3 ss ts us _ (by have h := (unhide R).below (unhide HB); rw [unhide HBB] at h; exact h) k _ rfl hkl q2).mono ?_
          rintro e w1 ⟨g1, d1, rfl, o1, b1⟩
          have N1 : Hid (NetIn w1 a1 (some ⟨g1, 0, none⟩) a3 l1 l2 l3 ss (shutT ts k) us) := hide (by
            have h := ((unhide R).below (unhide HB)).below b1
            exact ⟨h.r1, o1.row, h.r3⟩)
          have KP1 := hide ((unhide KP).below b1)
          have HB1 := hide ((unhide HB).trans (b1.mono (unhide HB).size))
          clear o1 b1
          go_wp2_with fail
          refine ((unhide IH) (k + 1) (some ⟨g1, 0, none⟩) l2 d1 (shutT ts k) w1 _ _ (by first | rfl | push_cast; rfl | omega) (by first | exact unhide HM1 | (have := unhide HM1; omega)) (unhide N1) (netB_shut (unhide HOK) (unhide HKT)) hkl (by omega)).mono ?_
          rintro e w2 ⟨g2, d2, rfl, o2, b2⟩
          have KP2 := hide ((unhide KP1).below b2)
          have HB2 := hide ((unhide HB1).trans (b2.mono (unhide HB1).size))
          have hw2 : w.heap.size ≤ w2.heap.size := (unhide HB2).size
          have hw1 : w.heap.size ≤ w1.heap.size := (unhide HB1).size
          cases hg : clR (wellB N ss us) m (k + 1) (shutT ts k) with
          | none =>
            rw [hg] at o2
            have HZ1 : Hid (clIn G ts (ts.length - (k + 1)) (k + 1) = Z) := hide (by rw [← clIn_on (unhide HKT) (unhide HCL) (by rw [unhide HG]; exact hg)]; exact unhide HZ)
            clear o2 b2 hg p0 p1 p2 p3 e2
            simp only [Option.isSome_none, Option.getD_none, List.length_nil]
            go_wp2_with fail
            go_roundw
            case rel => exact ⟨k + 1, by go_num, by omega, by omega, KP2, HB2, HZ1⟩
            case measure => simp [intOf]; omega
          | some l =>
            rw [hg] at o2
            simp only [Option.getD_some] at o2
            have HZ1 : Hid (Z = some ((k : Int) :: l)) := hide (by rw [← unhide HZ]; exact clIn_at (unhide HKT) (unhide HCL) (by rw [unhide HG]; exact hg))
            have hll : l.length ≤ 3 := by have := clR_len _ _ _ _ hg; omega
            clear hg b2 p0 p1 p2 p3 e2
            obtain ⟨n, hn⟩ : ∃ n, l.length = n := ⟨_, rfl⟩
            have hn3 : n ≤ 3 := by omega
            have HN := hide hn
            dsimp only [Option.isSome, Option.getD]
            have OF := hide o2.fit
            have HC : Hid (∀ j, j < n → (w2.alloc (Obj.cells #[.int .i64 (k : Int)] 3)).cell? ((⟨g2, 0, none⟩ : Addr).add j) = some (.int .i64 (nth l j))) := hide (fun j hj => by
              rw [addr_addT, Nat.zero_add]
              exact ((o2.below (bel1 _)).here j (by omega)).1)
            rw [hn] at o2 ⊢
            have G1 : Hid (OwnI (w2.alloc (Obj.cells #[.int .i64 (k : Int)] 3)) w.heap.size (.slice (some ⟨w2.heap.size, 0, none⟩) 1 1) [(k : Int)]) := hide (ownI_one (w := w2) (k : Int) hw2 (by omega))
            have HB3 := hide ((unhide HB2).trans ((bel1 (w := w2) (Obj.cells #[.int .i64 (k : Int)] 3)).mono hw2))
            clear o2 hn hll
            go_wp2_with (at_builtin; refine wpList_app_ints rfl _ _ rfl (unhide G1) rfl ⟨g2, 0, none⟩ n d2 l rfl (unhide HN) (unhide HC) (unhide OF) (by simp; omega) (by simp; omega) ?_; intro v9 w9 o9 gr9 n9)
            have HB9 := hide ((unhide HB3).grown gr9 (by simp; omega) (fun q hq => by have e3 := Option.some.inj (show some w2.heap.size = some q from hq); omega))
            rcases o9.form with ⟨e, _⟩ | ⟨g9, d9, e, _, _, _, _⟩
            · exact absurd (n9 e) (by simp)
            subst e
            have O9 := hide o9
            clear o9 gr9 n9
            go_ret2
            refine ⟨g9, d9, ?_, ?_, unhide HB9⟩
            · rw [unhide HZ1]; rfl
            · rw [unhide HZ1]; exact unhide O9
      · obtain rfl : k = l2 := by omega
        have hkl2 : ¬ (k : Int) < (k : Int) := by omega
        have HZ1 : Hid (Z = none) := hide (by rw [← unhide HZ]; exact clIn_end (by rw [unhide Z2]; exact Nat.le_refl _))
        have HB2 := hide ((unhide HB).trans ((bel1 (w := wr) (Obj.cells #[] 3)).mono (unhide HB).size))
        have O2 := hide (ownI_none (w := w) (w1 := wr) (unhide HB).size)
        go_wp2_with fail
        go_ret2
        refine ⟨wr.heap.size, 0, ?_, ?_, by first | exact unhide HB2 | exact ⟨fun _ => trivial, unhide HB2⟩⟩
        · rw [unhide HZ1]; rfl
        · rw [unhide HZ1]; exact unhide O2

set_option maxRecDepth 20000 in
set_option maxHeartbeats 4000000 in
theorem implCloseFor_any (n : Int) (a1 a2 a3 : Option Addr) (l1 c1 l2 c2 l3 c3 : Nat) (ss : List Sr) (ts : List Ti) (us : List Us) (most : Int) (w : World) (hr : NetIn w a1 a2 a3 l1 l2 l3 ss ts us) :
    Calls Try.prog 14 #[.agg #[.int .i64 n, .slice a1 l1 c1, .slice a2 l2 c2, .slice a3 l3 c3], .int .i64 most] w fun x w' => ∃ a c, x = .returned (.tuple #[.slice a (clL n ss ts us most).length c, .bool (clB n ss ts us most)]) ∧ OwnI w' w.heap.size (.slice a (clL n ss ts us most).length c) (clL n ss ts us most) ∧ (netB n ss ts us = true → True) ∧ Below w.heap.size w w' := by
  have R := hide hr
  have KP := hide (Blk.new (w := w) [.int .i64 n, .slice a1 l1 c1, .slice a2 l2 c2, .slice a3 l3 c3] 44)
  have HB := hide (bel1 (w := w) (Obj.cells #[.int .i64 n, .slice a1 l1 c1, .slice a2 l2 c2, .slice a3 l3 c3] 44))
  clear hr
  cases hc : clOk n ss ts us most with
  | false =>
    have HL : Hid (clL n ss ts us most = []) := hide (by rw [clL, clF_no hc]; rfl)
    have HL2 : Hid (clB n ss ts us most = false) := hide (by rw [clB, clF_no hc]; rfl)
    rw [unhide HL, unhide HL2]
    cases hk : netB n ss ts us with
    | false =>
      clear hc
      go_enter Try.func14, Try.ntmps14
      go_wp2_with fail
      refine (implNetOk_is n a1 a2 a3 l1 c1 l2 c2 l3 c3 ss ts us _ ((unhide R).below (unhide HB)) hk).mono ?_
      rintro e w1 ⟨rfl, b1⟩
      have HB := hide ((unhide HB).trans (b1.mono (unhide HB).size))
      clear b1 KP R HL
      go_wp2_with fail
      go_ret2
      exact ⟨_, _, rfl, ownI_none (w := w) (unhide HB).size, fun _ => trivial, (unhide HB).trans ((bel1 _).mono (unhide HB).size)⟩
    | true =>
      have hi : inB most 0 3 = false := by simpa [clOk, hk] using hc
      clear hc
      go_enter Try.func14, Try.ntmps14
      go_wp2_with fail
      refine (implNetOk_is n a1 a2 a3 l1 c1 l2 c2 l3 c3 ss ts us _ ((unhide R).below (unhide HB)) hk).mono ?_
      rintro e w1 ⟨rfl, b1⟩
      have HB := hide ((unhide HB).trans (b1.mono (unhide HB).size))
      clear b1 KP R HL
      go_wp2_with (go_at_call 21; refine (within_is _ _ _ _ hi).mono ?_; rintro e w' ⟨rfl, hw⟩; subst w')
      go_ret2
      exact ⟨_, _, rfl, ownI_none (w := w) (unhide HB).size, fun _ => trivial, (unhide HB).trans ((bel1 _).mono (unhide HB).size)⟩
  | true =>
    obtain ⟨hk, hi⟩ : netB n ss ts us = true ∧ inB most 0 3 = true := by simpa [clOk] using hc
    obtain ⟨N, rfl⟩ : ∃ N : Nat, n = (N : Int) := ⟨n.toNat, by have := in_facts (netB_parts hk).1; omega⟩
    obtain ⟨K, hK⟩ : ∃ K : Nat, most = (K : Int) := ⟨most.toNat, by have := in_facts hi; omega⟩
    have hmb := in_facts hi
    obtain ⟨Z, hZ⟩ : ∃ Z, clUp (fun m => clR (wellB N ss us) m 0 ts) (K + 1 - 0) 0 = Z := ⟨_, rfl⟩
    have hF : clF (N : Int) ss ts us most = Z := by rw [clF_yes hc, clT, hK]; simpa using hZ
    rw [clL, clB, hF]
    have HZ := hide hZ
    have HK := hide hK
    have HKb : Hid (K ≤ 3) := hide (by omega)
    have HOK := hide hk
    clear hc hZ hF hK
    go_enter Try.func14, Try.ntmps14
    go_wp2_with fail
    refine (implNetOk_is (N : Int) a1 a2 a3 l1 c1 l2 c2 l3 c3 ss ts us _ ((unhide R).below (unhide HB)) (unhide HOK)).mono ?_
    rintro e w1 ⟨rfl, b1⟩
    have KP1 := hide ((unhide KP).below b1)
    have HB1 := hide ((unhide HB).trans (b1.mono (unhide HB).size))
    clear b1 KP HB
    go_wp2_with (go_at_call 21; refine (within_is _ _ _ _ hi).mono ?_; rintro e w' ⟨rfl, hw⟩; subst w')
    go_loopw [20] (fun p wr => ∃ k : Nat, p = .int .i64 (k : Int) ∧ k ≤ 4 ∧ Hid (k ≤ K + 1) ∧ Hid (Blk wr w.heap.size [.int .i64 (N : Int), .slice a1 l1 c1, .slice a2 l2 c2, .slice a3 l3 c3]) ∧ Hid (Below w.heap.size w wr) ∧ Hid (clUp (fun m => clR (wellB N ss us) m 0 ts) (K + 1 - k) k = Z)) (fun p _ => 4 - (intOf p).toNat)
    case atStart => exact ⟨0, rfl, by omega, hide (by omega), KP1, HB1, HZ⟩
    case round =>
      clear KP1 HB1 HZ
      obtain ⟨k, rfl, hk4, HKK, KP, HB, HZ⟩ := hrel
      by_cases hlt : k < K + 1
      · have hlt2 : (k : Int) < most + 1 := by have := unhide HK; omega
        have hk3 : k ≤ 3 := by have := unhide HKb; omega
        have HLT := hide hlt
        clear hlt
        have p0 : wr.cell? ⟨w.heap.size, 0, none⟩ = some (.int .i64 (N : Int)) := (unhide KP).c 0 (by simp)
        have p1 : wr.cell? ⟨w.heap.size, 1, none⟩ = some (.slice a1 l1 c1) := (unhide KP).c 1 (by simp)
        have p2 : wr.cell? ⟨w.heap.size, 2, none⟩ = some (.slice a2 l2 c2) := (unhide KP).c 2 (by simp)
        have p3 : wr.cell? ⟨w.heap.size, 3, none⟩ = some (.slice a3 l3 c3) := (unhide KP).c 3 (by simp)
        go_wp2_with fail
        refine (closing_is N a1 a3 l1 c1 l3 c3 ss us k 0 a2 l2 c2 ts _ 0 _ rfl rfl ((unhide R).below (unhide HB)) (unhide HOK) (Nat.zero_le _) (by omega)).mono ?_
        rintro e w2 ⟨g2, d2, rfl, o2, b2⟩
        have KP2 := hide ((unhide KP).below b2)
        have HB3 := hide ((unhide HB).trans (b2.mono (unhide HB).size))
        cases hg : clR (wellB N ss us) k 0 ts with
        | none =>
          have HZ1 : Hid (clUp (fun m => clR (wellB N ss us) m 0 ts) (K + 1 - (k + 1)) (k + 1) = Z) := hide (by rw [← clUp_on (unhide HLT) hg]; exact unhide HZ)
          rw [hg] at o2
          clear o2 b2 hg p0 p1 p2 p3
          simp only [Option.isSome_none, Option.getD_none, List.length_nil]
          go_wp2_with fail
          go_roundw
          case rel => exact ⟨k + 1, by go_num, by omega, hide (by have := unhide HLT; omega), KP2, HB3, HZ1⟩
          case measure => simp [intOf]; omega
        | some l =>
          have HZ1 : Hid (Z = some l) := hide (by rw [← unhide HZ]; exact clUp_at (unhide HLT) hg)
          rw [hg] at o2
          have O2 := hide (o2.mono (unhide HB).size)
          clear hg b2 o2 p0 p1 p2 p3
          simp only [Option.isSome_some, Option.getD_some]
          go_wp2_with fail
          go_ret2
          refine ⟨some ⟨g2, 0, none⟩, d2, ?_, ?_, by first | exact unhide HB3 | exact ⟨fun _ => trivial, unhide HB3⟩⟩
          · rw [unhide HZ1]; rfl
          · rw [unhide HZ1]; exact unhide O2
      · have hlt2 : ¬ (k : Int) < most + 1 := by have := unhide HK; omega
        have HZ1 : Hid (Z = none) := hide (by rw [← unhide HZ]; exact clUp_end (by omega))
        have HB2 := hide ((unhide HB).trans ((bel1 (w := wr) (Obj.cells #[] 3)).mono (unhide HB).size))
        have O2 := hide (ownI_none (w := w) (w1 := wr) (unhide HB).size)
        clear hlt
        go_wp2_with fail
        go_ret2
        refine ⟨some ⟨wr.heap.size, 0, none⟩, 0, ?_, ?_, by first | exact unhide HB2 | exact ⟨fun _ => trivial, unhide HB2⟩⟩
        · rw [unhide HZ1]; rfl
        · rw [unhide HZ1]; exact unhide O2

end Go.Proofs.Ytfahhjgpgccdhac

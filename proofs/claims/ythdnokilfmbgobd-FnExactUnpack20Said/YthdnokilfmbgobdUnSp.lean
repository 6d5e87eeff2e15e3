/-
  What the model's Unpack20 answers: rows, a code and a place. At bytes of at most 1048576; the rows own their memory, nothing that was there is written.
-/
import Derived.Test.YthdnokilfmbgobdUnHd
import Derived.Test.YthdnokilfmbgobdRrGr
import Derived.Test.YthdnokilfmbgobdAppI
import Derived.Test.YthdnokilfmbgobdUnRo
namespace Go.Proofs.Ythdnokilfmbgobd
open Go Go.RowKit

def UnE (bs : List Int) (w : World) (e : Ending) (w' : World) : Prop := ∃ g c us, e = .returned (.tuple #[.slice (some ⟨g, 0, none⟩) (unLs bs).length c, .int .i64 (unCo bs), .int .i64 (unPl bs)]) ∧ OwnRT w' w.heap.size (.slice (some ⟨g, 0, none⟩) (unLs bs).length c) us (unLs bs) ∧ Below w.heap.size w w'
/-- What is answered where a code is told: no rows. -/
theorem unNone {bs : List Int} {w W w' : World} {cc pp : Int} (hW : W = w.alloc (Obj.cells #[] 32)) (b : Below W.heap.size W w') (h : unCo bs = cc ∧ unPl bs = pp ∧ unLs bs = []) :
    UnE bs w (.returned (.tuple #[.slice (some ⟨w.heap.size, 0, none⟩) 0 0, .int .i64 cc, .int .i64 pp])) w' := by
  refine ⟨w.heap.size, 0, [], by rw [h.1, h.2.1, h.2.2]; rfl, ?_, ?_⟩
  · rw [h.2.2]
    refine ⟨OwnRr.below (w := W) ?_ b, rfl⟩
    rw [hW]; exact ownRr_none (Nat.le_refl _)
  · have b0 : Below w.heap.size w W := by rw [hW]; exact bel1 _
    exact b0.trans (b.mono b0.size)
theorem ahU_zero (wd k : Nat) (z : List (List Int)) : nth (ahU wd z 0) k = 0 := by
  show nth (List.replicate wd 0) k = 0
  unfold nth
  by_cases h : k < wd
  · simp [h]
  · have : (List.replicate wd (0 : Int))[k]? = none := by simp; omega
    simp [this]
theorem ahU_some {wd p k : Nat} {z : List (List Int)} (hz : ∀ r ∈ z, r.length = wd ∧ ∀ x ∈ r, -30000 ≤ x ∧ x ≤ 30000) (hp : p < z.length) (hk : k < wd) : -30000 ≤ nth (nthS z p) k ∧ nth (nthS z p) k ≤ 30000 ∧ (nthS z p).length = wd := by
  have e : nthS z p = z[p] := by simp [nthS, hp]
  have q := hz z[p] (List.getElem_mem hp)
  have hkl : k < (z[p]).length := by rw [q.1]; exact hk
  rw [e, show nth z[p] k = (z[p])[k] by simp [nth, hkl]]
  have := q.2 _ (List.getElem_mem hkl)
  exact ⟨this.1, this.2, q.1⟩

set_option maxRecDepth 20000 in
set_option maxHeartbeats 8000000 in
theorem specUnpack20_un (ba : Option Addr) (n bc : Nat) (bs : List Int) (w : World) (hr : RowE 1 byC w ba n bs) (hb : ∀ i, i < n → 0 ≤ elAt bs i ∧ elAt bs i ≤ 255) (hsm : n ≤ 1048576) :
    Calls Try.prog 7 #[.slice ba n bc] w fun e w' => UnE bs w e w' := by
  obtain ⟨W, hW⟩ : ∃ W, W = w.alloc (Obj.cells #[] 32) := ⟨_, rfl⟩
  have BW : Hid (Below w.heap.size w W) := hide (by rw [hW]; exact bel1 _)
  have HR := hide (hr.below (unhide BW))
  have HL := hide hr.len_eq
  have HBY := hide hb
  have HW := hide hW
  have POST : Hid (∀ (w' : World) (cc pp : Int), Below W.heap.size W w' → (unCo bs = cc ∧ unPl bs = pp ∧ unLs bs = []) → UnE bs w (.returned (.tuple #[.slice (some ⟨w.heap.size, 0, none⟩) 0 0, .int .i64 cc, .int .i64 pp])) w') := hide (fun w' cc pp b h => unNone hW b h)
  clear hr hb hW
  by_cases h1 : n < 1
  · have i1 : (n : Int) < 1 := by omega
    have HU := hide (un_h1 (hd_a (bs := bs) (by rw [unhide HL]; exact h1)))
    go_enter Try.func7, Try.ntmps7
    go_wp2_with fail
    rw [← unhide HW]
    refine bodyPost_ret (v := .tuple #[.slice (some ⟨w.heap.size, 0, none⟩) 0 0, .int .i64 1, .int .i64 (n : Int)]) (by simp [results, Try.results7, go_sem]) rfl ?_
    exact (unhide POST) _ 1 (n : Int) (Below.refl _ _) ⟨(unhide HU).1, by rw [(unhide HU).2.1, unhide HL], (unhide HU).2.2⟩
  have i1 : ¬ (n : Int) < 1 := by omega
  obtain ⟨bb, bo, rfl, _⟩ := (unhide HR).at_ 0 (by omega)
  have CEL : Hid (∀ i, i < n → W.cell? ⟨bb, bo + i, none⟩ = some (.int .u8 (elAt bs i))) := hide (fun i hi => by
    obtain ⟨b, off, ha, hc⟩ := (unhide HR).at_ i hi
    simp only [Option.some.injEq, Addr.mk.injEq, and_true] at ha
    obtain ⟨rfl, rfl⟩ := ha
    have := hc 0 (by omega)
    rw [Nat.mul_one, Nat.add_zero] at this
    exact this)
  have b0 := (unhide HBY) 0 (by omega)
  have x0 := (unhide CEL) 0 (by omega)
  rw [Nat.add_zero] at x0
  have j0 : (0 : Int) < (n : Int) := by omega
  obtain ⟨v0, hv0⟩ : ∃ v0, v0 = elAt bs 0 := ⟨_, rfl⟩
  rw [← hv0] at b0 x0
  have HV0 := hide hv0
  clear hv0
  go_enter Try.func7, Try.ntmps7
  rw [unhide HW] at x0
  by_cases h8 : 8 < v0
  · have HU := hide (un_h2 (hd_b (bs := bs) (by rw [unhide HL]; omega) (by have := unhide HV0; omega)).1)
    have HA0 := hide (hd_b (bs := bs) (by rw [unhide HL]; omega) (by have := unhide HV0; omega)).2
    go_wp2_with fail
    rw [← unhide HW]
    refine bodyPost_ret (v := .tuple #[.slice (some ⟨w.heap.size, 0, none⟩) 0 0, .int .i64 2, .int .i64 0]) (by simp [results, Try.results7, go_sem]) rfl ?_
    exact (unhide POST) _ 2 0 (Below.refl _ _) ⟨(unhide HU).1, by have q := (unhide HU).2.1; rw [unhide HA0] at q; exact q, (unhide HU).2.2⟩
  by_cases h2 : n < 2
  · have i2 : (n : Int) < 2 := by omega
    have HU := hide (un_h1 (hd_c (bs := bs) (by rw [unhide HL]; omega) (by have := unhide HV0; omega)))
    go_wp2_with fail
    rw [← unhide HW]
    refine bodyPost_ret (v := .tuple #[.slice (some ⟨w.heap.size, 0, none⟩) 0 0, .int .i64 1, .int .i64 (n : Int)]) (by simp [results, Try.results7, go_sem]) rfl ?_
    exact (unhide POST) _ 1 (n : Int) (Below.refl _ _) ⟨(unhide HU).1, by rw [(unhide HU).2.1, unhide HL], (unhide HU).2.2⟩
  have i2 : ¬ (n : Int) < 2 := by omega
  go_wp2_with fail
  rw [← unhide HW]
  rw [← unhide HW] at x0
  obtain ⟨ι, fW, _, hcb, hcl⟩ := belClass W
  have HB := hide hcb
  have HA := hide hcl
  have z0 : ∀ x, (fW x).cell? ⟨bb, bo, none⟩ = some (.int .u8 v0) := fun x => ((hcb x).cell (block_lt_of_cell x0)).trans x0
  have x1 := (unhide CEL) 1 (by omega)
  have b1 := (unhide HBY) 1 (by omega)
  obtain ⟨v1, hv1⟩ : ∃ v1, v1 = elAt bs 1 := ⟨_, rfl⟩
  rw [← hv1] at b1 x1
  have HV1 := hide hv1
  have z1 : ∀ x, (fW x).cell? ⟨bb, bo + 1, none⟩ = some (.int .u8 v1) := fun x => ((hcb x).cell (block_lt_of_cell x1)).trans x1
  have j1 : (1 : Int) < (n : Int) := by omega
  obtain ⟨y0, hy0⟩ := hcl W (Below.refl _ _)
  rw [hy0]
  clear hcb hcl hy0 hv1 x0 x1
  have h2n : Hid (2 ≤ bs.length) := hide (by rw [unhide HL]; omega)
  by_cases h200 : 200 < v1
  · have HD := hide (hd_d (bs := bs) (unhide h2n) (by have := unhide HV0; omega) (.inl (by have := unhide HV1; omega)))
    have HU := hide (un_h2 (unhide HD).1)
    repeat (refine wp_region_bel (fun w' h => (unhide HA) w' ((unhide HB _).trans (h.mono (unhide HB _).size))) (by kernel_rfl) (by kernel_rfl) ?_; (repeat (go_big_quiet_step (fail))); refine wpQuiet_nil ?_; rintro _ ⟨y, rfl⟩; (first | go_wp2_with fail | go_wp2))
    refine bodyPost_ret (v := .tuple #[.slice (some ⟨w.heap.size, 0, none⟩) 0 0, .int .i64 2, .int .i64 1]) (by simp [results, Try.results7, go_sem]) rfl ?_
    exact (unhide POST) _ 2 1 (unhide HB y) ⟨(unhide HU).1, by have q := (unhide HU).2.1; rw [(unhide HD).2] at q; exact q, (unhide HU).2.2⟩
  obtain ⟨p0, hp0⟩ : ∃ p0, (v0 == 0) = p0 := ⟨_, rfl⟩
  obtain ⟨p1, hp1⟩ : ∃ p1, (v1 == 0) = p1 := ⟨_, rfl⟩
  have HP0 := hide hp0
  have HP1 := hide hp1
  by_cases hpp : p0 = p1
  case neg =>
    have hz : (p0 != p1) = true := by simpa using hpp
    have HD := hide (hd_d (bs := bs) (unhide h2n) (by have := unhide HV0; omega) (.inr (by rw [← unhide HV0, ← unhide HV1, unhide HP0, unhide HP1]; exact hz)))
    have HU := hide (un_h2 (unhide HD).1)
    cases p0 <;> cases p1
    · exact absurd rfl hpp
    · repeat (refine wp_region_bel (fun w' h => (unhide HA) w' ((unhide HB _).trans (h.mono (unhide HB _).size))) (by kernel_rfl) (by kernel_rfl) ?_; (repeat (go_big_quiet_step (fail))); refine wpQuiet_nil ?_; rintro _ ⟨y, rfl⟩; (first | go_wp2_with fail | go_wp2))
      refine bodyPost_ret (v := .tuple #[.slice (some ⟨w.heap.size, 0, none⟩) 0 0, .int .i64 2, .int .i64 1]) (by simp [results, Try.results7, go_sem]) rfl ?_
      exact (unhide POST) _ 2 1 (unhide HB y) ⟨(unhide HU).1, by have q := (unhide HU).2.1; rw [(unhide HD).2] at q; exact q, (unhide HU).2.2⟩
    · repeat (refine wp_region_bel (fun w' h => (unhide HA) w' ((unhide HB _).trans (h.mono (unhide HB _).size))) (by kernel_rfl) (by kernel_rfl) ?_; (repeat (go_big_quiet_step (fail))); refine wpQuiet_nil ?_; rintro _ ⟨y, rfl⟩; (first | go_wp2_with fail | go_wp2))
      refine bodyPost_ret (v := .tuple #[.slice (some ⟨w.heap.size, 0, none⟩) 0 0, .int .i64 2, .int .i64 1]) (by simp [results, Try.results7, go_sem]) rfl ?_
      exact (unhide POST) _ 2 1 (unhide HB y) ⟨(unhide HU).1, by have q := (unhide HU).2.1; rw [(unhide HD).2] at q; exact q, (unhide HU).2.2⟩
    · exact absurd rfl hpp
  subst hpp
  have HH := hide (hd_e (bs := bs) (unhide h2n) (by have := unhide HV0; omega) (by have := unhide HV1; omega) (by rw [← unhide HV0, ← unhide HV1, unhide HP0, unhide HP1]; simp))
  have hok := hd_ok (bs := bs) (fun i hi => (unhide HBY) i (by rw [← unhide HL]; exact hi)) (unhide HH)
  repeat (refine wp_region_bel (fun w' h => (unhide HA) w' ((unhide HB _).trans (h.mono (unhide HB _).size))) (by kernel_rfl) (by kernel_rfl) ?_; (repeat (go_big_quiet_step (fail))); refine wpQuiet_nil ?_; rintro _ ⟨y, rfl⟩; (first | go_wp2_with fail | go_wp2))
  obtain ⟨N, hN⟩ : ∃ N, hdW bs = N := ⟨_, rfl⟩
  obtain ⟨M, hM⟩ : ∃ M, hdM bs = M := ⟨_, rfl⟩
  rw [hN, hM] at hok
  have e0 : v0 = (N : Int) := by rw [unhide HV0]; exact hok.2.1
  have e1 : v1 = (M : Int) := by rw [unhide HV1]; exact hok.2.2.1
  have hN8 : N ≤ 8 := hok.2.2.2.1
  have hM200 : M ≤ 200 := hok.2.2.2.2.1
  have HT : Hid (unT bs = unRec bs N M) := hide (by rw [← hN, ← hM]; rfl)
  subst e0
  subst e1
  clear hok hN hM h200 h8 b0 b1 z0 z1 HV0 HV1 hp0 hp1 HP0 HP1
  have BY : Hid (Below W.heap.size W (fW y)) := hide (unhide HB y)
  obtain ⟨V, hV⟩ : ∃ V, V = fW y := ⟨_, rfl⟩
  rw [← hV] at BY ⊢
  clear hV HA HB
  have RG0 : Hid (RrG W (V.alloc (Obj.cells #[] 32)) V.heap.size 0 0 [] []) := hide ⟨ownRr_none (unhide BY).size, rfl, rfl⟩
  have BW0 : Hid (Below W.heap.size W (V.alloc (Obj.cells #[] 32))) := hide ((unhide BY).alloc (unhide BY).size _)
  go_loopw [9, 10, 11] (fun o q i wr => ∃ (k t g c : Nat) (us : List Rx) (z : List (List Int)), k ≤ M ∧ i = .int .i64 k ∧ o = .slice (some ⟨g, 0, none⟩) k c ∧ q = .int .i64 t ∧ unRec bs N k = ⟨0, t, z⟩ ∧ RrG W wr g k c us z ∧ Below W.heap.size W wr) (fun _ _ i _ => M - (intOf i).toNat)
  case atStart => exact ⟨0, 2, _, _, [], [], Nat.zero_le _, rfl, rfl, rfl, rfl, unhide RG0, unhide BW0⟩
  case round =>
    clear RG0 BW0 BY
    obtain ⟨k, t, g, c, us, z, hk, rfl, rfl, rfl, hre, hrg, hbl⟩ := hrel
    have HRE := hide hre
    have RG := hide hrg
    have BL := hide hbl
    have hok := unRec_ok (bs := bs) (wd := N) (unhide h2n) k (by rw [hre])
    rw [hre] at hok
    have OK : Hid (z.length = k ∧ t ≤ bs.length ∧ ∀ r ∈ z, r.length = N ∧ ∀ x ∈ r, -30000 ≤ x ∧ x ≤ 30000) := hide hok
    have htn : t ≤ n := by rw [← unhide HL]; exact hok.2.1
    clear hre hrg hbl hok
    by_cases hlt : k < M
    · have i3 : (k : Int) < (M : Int) := by omega
      go_wp2_with fail
      obtain ⟨B, hB⟩ : ∃ B, B = wr.heap.size := ⟨_, rfl⟩
      have RGL : Hid (RrLies W.heap.size B (.slice (some ⟨g, 0, none⟩) k c) us) := hide (by rw [hB]; exact (unhide RG).o.lies)
      have hWB : W.heap.size ≤ B := by rw [hB]; exact (unhide BL).size
      have RG0 := hide ((unhide RG).below (bel1 (w := wr) (Obj.cells #[] 3)))
      have BL0 := hide ((unhide BL).alloc (unhide BL).size (Obj.cells #[] 3))
      have O0 : Hid (OwnI (wr.alloc (Obj.cells #[] 3)) B (.slice (some ⟨wr.heap.size, 0, none⟩) 0 0) []) := hide (by rw [hB]; exact ownI_none (Nat.le_refl _))
      clear hB RG BL
      go_loopw [10, 12, 13] (fun q o i wr => ∃ (j s g2 d : Nat) (zz : List Int), j ≤ N ∧ i = .int .i64 j ∧ o = .slice (some ⟨g2, 0, none⟩) j d ∧ q = .int .i64 s ∧ unRow bs (ahU N z k) t j = ⟨0, s, zz⟩ ∧ OwnI wr B (.slice (some ⟨g2, 0, none⟩) j d) zz ∧ RrG W wr g k c us z ∧ Below W.heap.size W wr ∧ B ≤ wr.heap.size) (fun _ _ i _ => N - (intOf i).toNat)
      case atStart => exact ⟨0, t, _, _, [], Nat.zero_le _, rfl, rfl, rfl, rfl, unhide O0, unhide RG0, unhide BL0, by rw [show B = B from rfl]; exact Nat.le_of_lt ((unhide O0).lies _ rfl |>.1 |> fun h => Nat.lt_of_le_of_lt h (by simp))⟩
      case round =>
        clear RG0 BL0 O0
        obtain ⟨j, s, g2, d, zz, hj, rfl, rfl, rfl, hun, ho2, hrg, hbl, hBs⟩ := hrel
        have HUN := hide hun
        have O2 := hide ho2
        have RG := hide hrg
        have BL := hide hbl
        have hok2 := unRow_ok (bs := bs) (ah := ahU N z k) (t0 := t) (unhide OK).2.1 j (by rw [hun])
        rw [hun] at hok2
        have hsn : s ≤ n := by rw [← unhide HL]; exact hok2.2.2.1
        have HZL : Hid (zz.length = j) := hide hok2.1
        clear hun ho2 hrg hbl hok2
        by_cases hlj : j < N
        · have i4 : (j : Int) < (N : Int) := by omega
          have i40 : (0 : Int) ≤ (j : Int) := by omega
          have STOP : Hid (∀ cc tt yy, unSt bs (ahU N z k) j ⟨0, s, zz⟩ = ⟨cc, tt, yy⟩ → cc ≠ 0 → unT bs = ⟨cc, tt, z⟩) := hide (fun cc tt yy e hc => by
            have e1 : unRow bs (ahU N z k) t (j + 1) = ⟨cc, tt, yy⟩ := by rw [unRow, unhide HUN]; exact e
            have e2 : unRow bs (ahU N z k) t N = ⟨cc, tt, yy⟩ := by rw [unRow_stop (k := j + 1) (by rw [e1]; exact hc) N (by omega), e1]
            have e3 := unRec_no (unhide HRE) (by rw [e2]; exact hc)
            rw [e2] at e3
            rw [unhide HT, unRec_stop (k := k + 1) (by rw [e3]; exact hc) M (by omega), e3])
          obtain ⟨ι, fW, _, hcb, hcl⟩ := belClass wr
          have HB := hide hcb
          have HA := hide hcl
          obtain ⟨y0, hy0⟩ := hcl wr (Below.refl _ _)
          rw [hy0]
          have CL2 : Hid (∀ i x, i < n → (fW x).cell? ⟨bb, bo + i, none⟩ = some (.int .u8 (elAt bs i))) := hide (fun i x hi => (((unhide BL).trans ((hcb x).mono (unhide BL).size)).cell (block_lt_of_cell ((unhide CEL) i hi))).trans ((unhide CEL) i hi))
          have BLX : Hid (∀ x, Below W.heap.size W (fW x)) := hide (fun x => (unhide BL).trans ((hcb x).mono (unhide BL).size))
          clear hcb hcl hy0
          by_cases hA : n ≤ s
          · have k1 : (n : Int) ≤ (s : Int) := by omega
            go_wp2_with fail
            have HST := hide ((unhide STOP) 1 _ _ (unSt_code (nx_short (by rw [unhide HL]; exact hA)) (by omega)) (by omega))
            have HUC := hide (un_code (unhide HH) (unhide HST) (by omega))
            refine bodyPost_ret (v := .tuple #[.slice (some ⟨w.heap.size, 0, none⟩) 0 0, .int .i64 1, .int .i64 (n : Int)]) (by simp [results, Try.results7, go_sem]) rfl ?_
            exact (unhide POST) _ _ _ ((unhide BLX) y0) ⟨(unhide HUC).1, by rw [(unhide HUC).2.1]; rw [if_pos rfl, unhide HL], (unhide HUC).2.2⟩
          have k1 : ¬ (n : Int) ≤ (s : Int) := by omega
          have k2 : (s : Int) < (n : Int) := by omega
          have k3 : (0 : Int) ≤ (s : Int) := by omega
          have xs : ∀ x, (fW x).cell? ⟨bb, bo + s, none⟩ = some (.int .u8 (elAt bs s)) := fun x => (unhide CL2) s x (by omega)
          have bs0 := (unhide HBY) s (by omega)
          obtain ⟨v, hv⟩ : ∃ v, v = elAt bs s := ⟨_, rfl⟩
          rw [← hv] at xs bs0
          have HV := hide hv
          have HSB : Hid (sbB bs s = inB (v - 100) (-100) 100) := hide (by rw [hv]; rfl)
          clear hv
          by_cases h255 : v = 255
          · have d1 : (v == 255) = true := by rw [h255]; rfl
            have HS : Hid (sbB bs s = false) := hide (by rw [unhide HSB, h255]; rfl)
            have H255 : Hid (elAt bs s = 255) := hide (by rw [← unhide HV]; exact h255)
            have HVV := hide h255
            clear h255
            by_cases h4 : n < s + 4
            · have k4 : (n : Int) < (s : Int) + 4 := by omega
              go_wp2_with fail
              have HST := hide ((unhide STOP) 1 _ _ (unSt_code (nx_short4 (by rw [unhide HL]; omega) (unhide HS) (unhide H255) (by rw [unhide HL]; exact h4)) (by omega)) (by omega))
              have HUC := hide (un_code (unhide HH) (unhide HST) (by omega))
              refine bodyPost_ret (v := .tuple #[.slice (some ⟨w.heap.size, 0, none⟩) 0 0, .int .i64 1, .int .i64 (n : Int)]) (by simp [results, Try.results7, go_sem]) rfl ?_
              exact (unhide POST) _ _ _ ((unhide BLX) y0) ⟨(unhide HUC).1, by rw [(unhide HUC).2.1]; rw [if_pos rfl, unhide HL], (unhide HUC).2.2⟩
            have k4 : ¬ (n : Int) < (s : Int) + 4 := by omega
            obtain ⟨s1, hs1⟩ : ∃ s1, s + 1 = s1 := ⟨_, rfl⟩
            have xs1 : ∀ x, (fW x).cell? ⟨bb, bo + s1, none⟩ = some (.int .u8 (elAt bs s1)) := fun x => (unhide CL2) s1 x (by omega)
            have bv1 := (unhide HBY) s1 (by omega)
            obtain ⟨v1, hv1⟩ : ∃ v1, v1 = elAt bs s1 := ⟨_, rfl⟩
            rw [← hv1] at xs1 bv1
            have ks1 : (s : Int) + 1 = (s1 : Int) := by omega
            have kw1 : IntKind.i64.wrap (s1 : Int) = (s1 : Int) := by rw [IntKind.wrap_i64]; omega
            have kl1 : (s1 : Int) < (n : Int) := by omega
            have kz1 : (0 : Int) ≤ (s1 : Int) := by omega
            obtain ⟨s2, hs2⟩ : ∃ s2, s + 2 = s2 := ⟨_, rfl⟩
            have xs2 : ∀ x, (fW x).cell? ⟨bb, bo + s2, none⟩ = some (.int .u8 (elAt bs s2)) := fun x => (unhide CL2) s2 x (by omega)
            have bv2 := (unhide HBY) s2 (by omega)
            obtain ⟨v2, hv2⟩ : ∃ v2, v2 = elAt bs s2 := ⟨_, rfl⟩
            rw [← hv2] at xs2 bv2
            have ks2 : (s : Int) + 2 = (s2 : Int) := by omega
            have kw2 : IntKind.i64.wrap (s2 : Int) = (s2 : Int) := by rw [IntKind.wrap_i64]; omega
            have kl2 : (s2 : Int) < (n : Int) := by omega
            have kz2 : (0 : Int) ≤ (s2 : Int) := by omega
            obtain ⟨s3, hs3⟩ : ∃ s3, s + 3 = s3 := ⟨_, rfl⟩
            have xs3 : ∀ x, (fW x).cell? ⟨bb, bo + s3, none⟩ = some (.int .u8 (elAt bs s3)) := fun x => (unhide CL2) s3 x (by omega)
            have bv3 := (unhide HBY) s3 (by omega)
            obtain ⟨v3, hv3⟩ : ∃ v3, v3 = elAt bs s3 := ⟨_, rfl⟩
            rw [← hv3] at xs3 bv3
            have ks3 : (s : Int) + 3 = (s3 : Int) := by omega
            have kw3 : IntKind.i64.wrap (s3 : Int) = (s3 : Int) := by rw [IntKind.wrap_i64]; omega
            have kl3 : (s3 : Int) < (n : Int) := by omega
            have kz3 : (0 : Int) ≤ (s3 : Int) := by omega
            obtain ⟨lg, hlg⟩ : ∃ lg, lg = v1 * 65536 + v2 * 256 + v3 - 60000 := ⟨_, rfl⟩
            have HLG : Hid (lgV bs s = lg) := hide (by rw [hlg, hv1, hv2, hv3, ← hs1, ← hs2, ← hs3]; rfl)
            have HB4 : Hid (ch4B bs s = (!inB lg (-100) 100 && inB lg (-60000) 60000)) := hide (by unfold ch4B; rw [unhide HLG])
            have HLGE := hide hlg
            have h4n : Hid (s + 4 ≤ bs.length) := hide (by rw [unhide HL]; omega)
            have hlgb : -60000 ≤ lg ∧ lg ≤ 17000000 := by omega
            clear hv1 hv2 hv3 hs1 hs2 hs3 hlg
            cases gq1 : inB lg (-100) 100
            case true =>
              go_wp2_with fail
              repeat (refine wp_region_bel (fun w' h => (unhide HA) w' ((unhide HB _).trans (h.mono (unhide HB _).size))) (by kernel_rfl) (by kernel_rfl) ?_; (repeat (go_big_quiet_step (fail))); refine wpQuiet_nil ?_; rintro _ ⟨y, rfl⟩; (first | go_wp2_with fail | go_wp2))
              rw [show v1 * 65536 + v2 * 256 + v3 - 60000 = lg from (unhide HLGE).symm]
              refine (l1In_is _ _ _ _ gq1).mono ?_
              rintro e w9 ⟨rfl, hw9⟩
              subst w9
              go_wp2_with fail
              have HST := hide ((unhide STOP) 2 _ _ (unSt_code (nx_bad (unhide HS) (unhide H255) (unhide h4n) (by rw [unhide HB4, gq1]; rfl)) (by omega)) (by omega))
              have HUC := hide (un_code (unhide HH) (unhide HST) (by omega))
              refine bodyPost_ret (v := .tuple #[.slice (some ⟨w.heap.size, 0, none⟩) 0 0, .int .i64 2, .int .i64 (s : Int)]) (by simp [results, Try.results7, go_sem]) rfl ?_
              exact (unhide POST) _ _ _ ((unhide BLX) y) ⟨(unhide HUC).1, by rw [(unhide HUC).2.1]; rw [if_neg (by omega)], (unhide HUC).2.2⟩
            cases gq2 : inB lg (-60000) 60000
            case false =>
              go_wp2_with fail
              repeat (refine wp_region_bel (fun w' h => (unhide HA) w' ((unhide HB _).trans (h.mono (unhide HB _).size))) (by kernel_rfl) (by kernel_rfl) ?_; (repeat (go_big_quiet_step (fail))); refine wpQuiet_nil ?_; rintro _ ⟨y, rfl⟩; (first | go_wp2_with fail | go_wp2))
              rw [show v1 * 65536 + v2 * 256 + v3 - 60000 = lg from (unhide HLGE).symm]
              refine (l1In_is _ _ _ _ gq1).mono ?_
              rintro e w9 ⟨rfl, hw9⟩
              subst w9
              go_wp2_with fail
              refine (l1In_is _ _ _ _ gq2).mono ?_
              rintro e w9 ⟨rfl, hw9⟩
              subst w9
              go_wp2_with fail
              have HST := hide ((unhide STOP) 2 _ _ (unSt_code (nx_bad (unhide HS) (unhide H255) (unhide h4n) (by rw [unhide HB4, gq1, gq2]; rfl)) (by omega)) (by omega))
              have HUC := hide (un_code (unhide HH) (unhide HST) (by omega))
              refine bodyPost_ret (v := .tuple #[.slice (some ⟨w.heap.size, 0, none⟩) 0 0, .int .i64 2, .int .i64 (s : Int)]) (by simp [results, Try.results7, go_sem]) rfl ?_
              exact (unhide POST) _ _ _ ((unhide BLX) y) ⟨(unhide HUC).1, by rw [(unhide HUC).2.1]; rw [if_neg (by omega)], (unhide HUC).2.2⟩
            have NL := hide (nx_long (bs := bs) (t := s) (unhide HS) (unhide H255) (unhide h4n) (by rw [unhide HB4, gq1, gq2]; rfl))
            have HNC := hide (unhide NL).1
            have HNV : Hid (nxV bs s = lg) := hide (by rw [(unhide NL).2.1, unhide HLG])
            have HNS := hide (unhide NL).2.2
            have hlg2 := in_facts gq2
            by_cases hk0 : k = 0
            · have d5 : ¬ (0 : Int) < (k : Int) := by omega
              have d6 : decide ((0 : Int) < (k : Int)) = false := by simp; omega
              have d7 : decide (0 < k) = false := by simp; omega
              have HAH : Hid (nth (ahU N z k) j = 0) := hide (by rw [hk0]; exact ahU_zero N j z)
              clear hk0
              have HVAL : Hid (nth (ahU N z k) j + nxV bs s = lg) := hide (by rw [unhide HAH, unhide HNV, Int.zero_add])
              cases hq : inB (lg) (-30000) 30000
              · skip
                go_wp2_with fail
                repeat (refine wp_region_bel (fun w' h => (unhide HA) w' ((unhide HB _).trans (h.mono (unhide HB _).size))) (by kernel_rfl) (by kernel_rfl) ?_; (repeat (go_big_quiet_step (fail))); refine wpQuiet_nil ?_; rintro _ ⟨y, rfl⟩; (first | go_wp2_with fail | go_wp2))
                rw [show v1 * 65536 + v2 * 256 + v3 - 60000 = lg from (unhide HLGE).symm]
                refine (l1In_is _ _ _ _ gq1).mono ?_
                rintro e w9 ⟨rfl, hw9⟩
                subst w9
                go_wp2_with fail
                refine (l1In_is _ _ _ _ gq2).mono ?_
                rintro e w9 ⟨rfl, hw9⟩
                subst w9
                go_wp2_with fail
                refine (l1In_is _ _ _ _ hq).mono ?_
                rintro e w9 ⟨rfl, hw9⟩
                subst w9
                go_wp2_with fail
                have HST := hide ((unhide STOP) 3 _ _ (unSt_val (unhide HNC) (by rw [unhide HVAL]; exact hq)) (by omega))
                have HUC := hide (un_code (unhide HH) (unhide HST) (by omega))
                refine bodyPost_ret (v := .tuple #[.slice (some ⟨w.heap.size, 0, none⟩) 0 0, .int .i64 3, .int .i64 (s : Int)]) (by simp [results, Try.results7, go_sem]) rfl ?_
                exact (unhide POST) _ _ _ ((unhide BLX) y) ⟨(unhide HUC).1, by rw [(unhide HUC).2.1]; rw [if_neg (by omega)], (unhide HUC).2.2⟩
              · skip
                go_wp2_with fail
                repeat (refine wp_region_bel (fun w' h => (unhide HA) w' ((unhide HB _).trans (h.mono (unhide HB _).size))) (by kernel_rfl) (by kernel_rfl) ?_; (repeat (go_big_quiet_step (fail))); refine wpQuiet_nil ?_; rintro _ ⟨y, rfl⟩; (first | go_wp2_with fail | go_wp2))
                rw [show v1 * 65536 + v2 * 256 + v3 - 60000 = lg from (unhide HLGE).symm]
                refine (l1In_is _ _ _ _ gq1).mono ?_
                rintro e w9 ⟨rfl, hw9⟩
                subst w9
                go_wp2_with fail
                refine (l1In_is _ _ _ _ gq2).mono ?_
                rintro e w9 ⟨rfl, hw9⟩
                subst w9
                go_wp2_with fail
                refine (l1In_is _ _ _ _ hq).mono ?_
                rintro e w9 ⟨rfl, hw9⟩
                subst w9
                have hqb := in_facts hq
                have HNX : Hid (unRow bs (ahU N z k) t (j + 1) = ⟨0, s + 4, zz ++ [lg]⟩) := hide (by rw [unRow, unhide HUN, unSt_yes (unhide HNC) (by rw [unhide HVAL]; exact hq), unhide HVAL, unhide HNS])
                clear hq
                have O3 := hide ((unhide O2).below ((unhide HB) y))
                have RG3 := hide ((unhide RG).below ((unhide HB) y))
                have BL3 := hide ((unhide BLX) y)
                have hB3 : B ≤ (fW y).heap.size := Nat.le_trans hBs ((unhide HB) y).size
                go_wp2_with (at_builtin; refine wpList_app_int rfl _ _ rfl (lg) (unhide O3) (unhide HZL) rfl rfl rfl hB3 (by omega) (by omega) ?_; intro g9 c9 w9 o9 gr9)
                have gr9' : (fW y).grownBy w9 (some g2) := gr9
                have hg2 := ((unhide O2).lies g2 rfl).1
                have O9 := hide o9
                have RG9 := hide ((unhide RG3).far (unhide RGL) gr9' (.inr hg2))
                have BL9 := hide ((unhide BL3).grown gr9' (unhide BL3).size (fun q hq => by cases hq; omega))
                have hB9 : B ≤ w9.heap.size := Nat.le_trans hB3 gr9'.size
                clear o9 gr9 gr9' 
                go_roundw
                case rel => exact ⟨j + 1, s + 4, g9, c9, _, by omega, by go_num, rfl, by go_num, unhide HNX, unhide O9, unhide RG9, unhide BL9, hB9⟩
                case measure => simp [intOf]; omega
            · have d5 : (0 : Int) < (k : Int) := by omega
              have d6 : decide ((0 : Int) < (k : Int)) = true := by simp; omega
              have d7 : decide (0 < k) = true := by simp; omega
              obtain ⟨p, hp⟩ : ∃ p, k = p + 1 := ⟨k - 1, by omega⟩
              have hpk : p < us.length := by rw [(unhide RG).l]; omega
              have hpz : p < z.length := by rw [(unhide OK).1]; omega
              have asome := ahU_some (unhide OK).2.2 hpz hlj
              have hzp : nthS z p = (elAt us p).zs := by rw [← (unhide RG).z]; exact rxZ_at hpk
              have zc := (unhide RG).o.out.here (unhide RG).l p (by omega) 0 (by omega)
              rw [Nat.mul_one, Nat.add_zero] at zc
              have zc2 : ∀ x, (fW x).cell? ⟨g, p, none⟩ = some (.slice (elAt us p).a (elAt us p).n (elAt us p).c) := fun x => (((unhide HB) x).cell (block_lt_of_cell zc.1)).trans zc.1
              have od := (unhide RG).o.dat p hpk
              have rd : Row wr (elAt us p).a (elAt us p).n (elAt us p).zs := OwnI.row od
              have hnp : (elAt us p).n = N := by rw [← rd.len_eq, ← hzp]; exact asome.2.2
              obtain ⟨pa, hpa⟩ : ∃ pa, pa = (elAt us p).a := ⟨_, rfl⟩
              obtain ⟨pc, hpc⟩ : ∃ pc, pc = (elAt us p).c := ⟨_, rfl⟩
              rw [hnp, ← hpa, ← hpc] at zc2
              rw [hnp, ← hpa] at rd
              rcases rd.open_ with ⟨h0, _⟩ | ⟨b5, o5, rfl, _, hc5⟩
              · omega
              have x5 : ∀ x, (fW x).cell? ⟨b5, o5 + j, none⟩ = some (.int .i64 (nth (nthS z p) j)) := fun x => by rw [hzp]; exact (((unhide HB) x).cell (block_lt_of_cell (hc5 j hlj))).trans (hc5 j hlj)
              obtain ⟨u, hu⟩ : ∃ u, u = nth (nthS z p) j := ⟨_, rfl⟩
              rw [← hu] at x5 asome
              have HAH : Hid (nth (ahU N z k) j = u) := hide (by rw [hp, hu]; rfl)
              have e6 : (k : Int) - 1 = (p : Int) := by omega
              have e7 : IntKind.i64.wrap (p : Int) = (p : Int) := by rw [IntKind.wrap_i64]; omega
              have e8 : (0 : Int) ≤ (p : Int) := by omega
              have e9 : (p : Int) < (k : Int) := by omega
              clear hk0 hp hpk hpz hzp zc od rd hnp hpa hpc hc5 hu
              have HVAL : Hid (nth (ahU N z k) j + nxV bs s = lg + u) := hide (by rw [unhide HAH, unhide HNV, Int.add_comm])
              cases hq : inB (lg + u) (-30000) 30000
              · skip
                go_wp2_with fail
                repeat (refine wp_region_bel (fun w' h => (unhide HA) w' ((unhide HB _).trans (h.mono (unhide HB _).size))) (by kernel_rfl) (by kernel_rfl) ?_; (repeat (go_big_quiet_step (fail))); refine wpQuiet_nil ?_; rintro _ ⟨y, rfl⟩; (first | go_wp2_with fail | go_wp2))
                rw [show v1 * 65536 + v2 * 256 + v3 - 60000 = lg from (unhide HLGE).symm]
                refine (l1In_is _ _ _ _ gq1).mono ?_
                rintro e w9 ⟨rfl, hw9⟩
                subst w9
                go_wp2_with fail
                refine (l1In_is _ _ _ _ gq2).mono ?_
                rintro e w9 ⟨rfl, hw9⟩
                subst w9
                go_wp2_with fail
                refine (l1In_is _ _ _ _ hq).mono ?_
                rintro e w9 ⟨rfl, hw9⟩
                subst w9
                go_wp2_with fail
                have HST := hide ((unhide STOP) 3 _ _ (unSt_val (unhide HNC) (by rw [unhide HVAL]; exact hq)) (by omega))
                have HUC := hide (un_code (unhide HH) (unhide HST) (by omega))
                refine bodyPost_ret (v := .tuple #[.slice (some ⟨w.heap.size, 0, none⟩) 0 0, .int .i64 3, .int .i64 (s : Int)]) (by simp [results, Try.results7, go_sem]) rfl ?_
                exact (unhide POST) _ _ _ ((unhide BLX) y) ⟨(unhide HUC).1, by rw [(unhide HUC).2.1]; rw [if_neg (by omega)], (unhide HUC).2.2⟩
              · skip
                go_wp2_with fail
                repeat (refine wp_region_bel (fun w' h => (unhide HA) w' ((unhide HB _).trans (h.mono (unhide HB _).size))) (by kernel_rfl) (by kernel_rfl) ?_; (repeat (go_big_quiet_step (fail))); refine wpQuiet_nil ?_; rintro _ ⟨y, rfl⟩; (first | go_wp2_with fail | go_wp2))
                rw [show v1 * 65536 + v2 * 256 + v3 - 60000 = lg from (unhide HLGE).symm]
                refine (l1In_is _ _ _ _ gq1).mono ?_
                rintro e w9 ⟨rfl, hw9⟩
                subst w9
                go_wp2_with fail
                refine (l1In_is _ _ _ _ gq2).mono ?_
                rintro e w9 ⟨rfl, hw9⟩
                subst w9
                go_wp2_with fail
                refine (l1In_is _ _ _ _ hq).mono ?_
                rintro e w9 ⟨rfl, hw9⟩
                subst w9
                have hqb := in_facts hq
                have HNX : Hid (unRow bs (ahU N z k) t (j + 1) = ⟨0, s + 4, zz ++ [lg + u]⟩) := hide (by rw [unRow, unhide HUN, unSt_yes (unhide HNC) (by rw [unhide HVAL]; exact hq), unhide HVAL, unhide HNS])
                clear hq
                have O3 := hide ((unhide O2).below ((unhide HB) y))
                have RG3 := hide ((unhide RG).below ((unhide HB) y))
                have BL3 := hide ((unhide BLX) y)
                have hB3 : B ≤ (fW y).heap.size := Nat.le_trans hBs ((unhide HB) y).size
                go_wp2_with (at_builtin; refine wpList_app_int rfl _ _ rfl (lg + u) (unhide O3) (unhide HZL) rfl rfl rfl hB3 (by omega) (by omega) ?_; intro g9 c9 w9 o9 gr9)
                have gr9' : (fW y).grownBy w9 (some g2) := gr9
                have hg2 := ((unhide O2).lies g2 rfl).1
                have O9 := hide o9
                have RG9 := hide ((unhide RG3).far (unhide RGL) gr9' (.inr hg2))
                have BL9 := hide ((unhide BL3).grown gr9' (unhide BL3).size (fun q hq => by cases hq; omega))
                have hB9 : B ≤ w9.heap.size := Nat.le_trans hB3 gr9'.size
                clear o9 gr9 gr9' 
                go_roundw
                case rel => exact ⟨j + 1, s + 4, g9, c9, _, by omega, by go_num, rfl, by go_num, unhide HNX, unhide O9, unhide RG9, unhide BL9, hB9⟩
                case measure => simp [intOf]; omega
          · have d1 : (v == 255) = false := by rw [beq_eq_false_iff_ne]; exact h255
            by_cases h200 : 200 < v
            · have HS : Hid (sbB bs s = false) := hide (by rw [unhide HSB]; simp [inB]; omega)
              go_wp2_with fail
              have HST := hide ((unhide STOP) 2 _ _ (unSt_code (nx_byte (by rw [unhide HL]; omega) (unhide HS) (by rw [← unhide HV]; exact h255)) (by omega)) (by omega))
              have HUC := hide (un_code (unhide HH) (unhide HST) (by omega))
              refine bodyPost_ret (v := .tuple #[.slice (some ⟨w.heap.size, 0, none⟩) 0 0, .int .i64 2, .int .i64 (s : Int)]) (by simp [results, Try.results7, go_sem]) rfl ?_
              exact (unhide POST) _ _ _ ((unhide BLX) y0) ⟨(unhide HUC).1, by rw [(unhide HUC).2.1]; rw [if_neg (by omega)], (unhide HUC).2.2⟩
            have HS : Hid (sbB bs s = true) := hide (by rw [unhide HSB]; simp [inB]; omega)
            have NL := hide (nx_small (bs := bs) (t := s) (by rw [unhide HL]; omega) (unhide HS))
            have HNC := hide (unhide NL).1
            have HNV : Hid (nxV bs s = v - 100) := hide (by rw [(unhide NL).2.1, ← unhide HV])
            have HNS := hide (unhide NL).2.2
            by_cases hk0 : k = 0
            · have d5 : ¬ (0 : Int) < (k : Int) := by omega
              have d6 : decide ((0 : Int) < (k : Int)) = false := by simp; omega
              have d7 : decide (0 < k) = false := by simp; omega
              have HAH : Hid (nth (ahU N z k) j = 0) := hide (by rw [hk0]; exact ahU_zero N j z)
              clear hk0
              have HVAL : Hid (nth (ahU N z k) j + nxV bs s = (v - 100)) := hide (by rw [unhide HAH, unhide HNV, Int.zero_add])
              cases hq : inB ((v - 100)) (-30000) 30000
              · skip
                go_wp2_with fail
                refine (l1In_is _ _ _ _ hq).mono ?_
                rintro e w9 ⟨rfl, hw9⟩
                subst w9
                go_wp2_with fail
                have HST := hide ((unhide STOP) 3 _ _ (unSt_val (unhide HNC) (by rw [unhide HVAL]; exact hq)) (by omega))
                have HUC := hide (un_code (unhide HH) (unhide HST) (by omega))
                refine bodyPost_ret (v := .tuple #[.slice (some ⟨w.heap.size, 0, none⟩) 0 0, .int .i64 3, .int .i64 (s : Int)]) (by simp [results, Try.results7, go_sem]) rfl ?_
                exact (unhide POST) _ _ _ ((unhide BLX) y0) ⟨(unhide HUC).1, by rw [(unhide HUC).2.1]; rw [if_neg (by omega)], (unhide HUC).2.2⟩
              · skip
                go_wp2_with fail
                refine (l1In_is _ _ _ _ hq).mono ?_
                rintro e w9 ⟨rfl, hw9⟩
                subst w9
                have hqb := in_facts hq
                have HNX : Hid (unRow bs (ahU N z k) t (j + 1) = ⟨0, s + 1, zz ++ [(v - 100)]⟩) := hide (by rw [unRow, unhide HUN, unSt_yes (unhide HNC) (by rw [unhide HVAL]; exact hq), unhide HVAL, unhide HNS])
                clear hq
                have O3 := hide ((unhide O2).below ((unhide HB) y0))
                have RG3 := hide ((unhide RG).below ((unhide HB) y0))
                have BL3 := hide ((unhide BLX) y0)
                have hB3 : B ≤ (fW y0).heap.size := Nat.le_trans hBs ((unhide HB) y0).size
                go_wp2_with (at_builtin; refine wpList_app_int rfl _ _ rfl ((v - 100)) (unhide O3) (unhide HZL) rfl rfl rfl hB3 (by omega) (by omega) ?_; intro g9 c9 w9 o9 gr9)
                have gr9' : (fW y0).grownBy w9 (some g2) := gr9
                have hg2 := ((unhide O2).lies g2 rfl).1
                have O9 := hide o9
                have RG9 := hide ((unhide RG3).far (unhide RGL) gr9' (.inr hg2))
                have BL9 := hide ((unhide BL3).grown gr9' (unhide BL3).size (fun q hq => by cases hq; omega))
                have hB9 : B ≤ w9.heap.size := Nat.le_trans hB3 gr9'.size
                clear o9 gr9 gr9' 
                go_roundw
                case rel => exact ⟨j + 1, s + 1, g9, c9, _, by omega, by go_num, rfl, by go_num, unhide HNX, unhide O9, unhide RG9, unhide BL9, hB9⟩
                case measure => simp [intOf]; omega
            · have d5 : (0 : Int) < (k : Int) := by omega
              have d6 : decide ((0 : Int) < (k : Int)) = true := by simp; omega
              have d7 : decide (0 < k) = true := by simp; omega
              obtain ⟨p, hp⟩ : ∃ p, k = p + 1 := ⟨k - 1, by omega⟩
              have hpk : p < us.length := by rw [(unhide RG).l]; omega
              have hpz : p < z.length := by rw [(unhide OK).1]; omega
              have asome := ahU_some (unhide OK).2.2 hpz hlj
              have hzp : nthS z p = (elAt us p).zs := by rw [← (unhide RG).z]; exact rxZ_at hpk
              have zc := (unhide RG).o.out.here (unhide RG).l p (by omega) 0 (by omega)
              rw [Nat.mul_one, Nat.add_zero] at zc
              have zc2 : ∀ x, (fW x).cell? ⟨g, p, none⟩ = some (.slice (elAt us p).a (elAt us p).n (elAt us p).c) := fun x => (((unhide HB) x).cell (block_lt_of_cell zc.1)).trans zc.1
              have od := (unhide RG).o.dat p hpk
              have rd : Row wr (elAt us p).a (elAt us p).n (elAt us p).zs := OwnI.row od
              have hnp : (elAt us p).n = N := by rw [← rd.len_eq, ← hzp]; exact asome.2.2
              obtain ⟨pa, hpa⟩ : ∃ pa, pa = (elAt us p).a := ⟨_, rfl⟩
              obtain ⟨pc, hpc⟩ : ∃ pc, pc = (elAt us p).c := ⟨_, rfl⟩
              rw [hnp, ← hpa, ← hpc] at zc2
              rw [hnp, ← hpa] at rd
              rcases rd.open_ with ⟨h0, _⟩ | ⟨b5, o5, rfl, _, hc5⟩
              · omega
              have x5 : ∀ x, (fW x).cell? ⟨b5, o5 + j, none⟩ = some (.int .i64 (nth (nthS z p) j)) := fun x => by rw [hzp]; exact (((unhide HB) x).cell (block_lt_of_cell (hc5 j hlj))).trans (hc5 j hlj)
              obtain ⟨u, hu⟩ : ∃ u, u = nth (nthS z p) j := ⟨_, rfl⟩
              rw [← hu] at x5 asome
              have HAH : Hid (nth (ahU N z k) j = u) := hide (by rw [hp, hu]; rfl)
              have e6 : (k : Int) - 1 = (p : Int) := by omega
              have e7 : IntKind.i64.wrap (p : Int) = (p : Int) := by rw [IntKind.wrap_i64]; omega
              have e8 : (0 : Int) ≤ (p : Int) := by omega
              have e9 : (p : Int) < (k : Int) := by omega
              clear hk0 hp hpk hpz hzp zc od rd hnp hpa hpc hc5 hu
              have HVAL : Hid (nth (ahU N z k) j + nxV bs s = (v - 100) + u) := hide (by rw [unhide HAH, unhide HNV, Int.add_comm])
              cases hq : inB ((v - 100) + u) (-30000) 30000
              · skip
                go_wp2_with fail
                refine (l1In_is _ _ _ _ hq).mono ?_
                rintro e w9 ⟨rfl, hw9⟩
                subst w9
                go_wp2_with fail
                have HST := hide ((unhide STOP) 3 _ _ (unSt_val (unhide HNC) (by rw [unhide HVAL]; exact hq)) (by omega))
                have HUC := hide (un_code (unhide HH) (unhide HST) (by omega))
                refine bodyPost_ret (v := .tuple #[.slice (some ⟨w.heap.size, 0, none⟩) 0 0, .int .i64 3, .int .i64 (s : Int)]) (by simp [results, Try.results7, go_sem]) rfl ?_
                exact (unhide POST) _ _ _ ((unhide BLX) y0) ⟨(unhide HUC).1, by rw [(unhide HUC).2.1]; rw [if_neg (by omega)], (unhide HUC).2.2⟩
              · skip
                go_wp2_with fail
                refine (l1In_is _ _ _ _ hq).mono ?_
                rintro e w9 ⟨rfl, hw9⟩
                subst w9
                have hqb := in_facts hq
                have HNX : Hid (unRow bs (ahU N z k) t (j + 1) = ⟨0, s + 1, zz ++ [(v - 100) + u]⟩) := hide (by rw [unRow, unhide HUN, unSt_yes (unhide HNC) (by rw [unhide HVAL]; exact hq), unhide HVAL, unhide HNS])
                clear hq
                have O3 := hide ((unhide O2).below ((unhide HB) y0))
                have RG3 := hide ((unhide RG).below ((unhide HB) y0))
                have BL3 := hide ((unhide BLX) y0)
                have hB3 : B ≤ (fW y0).heap.size := Nat.le_trans hBs ((unhide HB) y0).size
                go_wp2_with (at_builtin; refine wpList_app_int rfl _ _ rfl ((v - 100) + u) (unhide O3) (unhide HZL) rfl rfl rfl hB3 (by omega) (by omega) ?_; intro g9 c9 w9 o9 gr9)
                have gr9' : (fW y0).grownBy w9 (some g2) := gr9
                have hg2 := ((unhide O2).lies g2 rfl).1
                have O9 := hide o9
                have RG9 := hide ((unhide RG3).far (unhide RGL) gr9' (.inr hg2))
                have BL9 := hide ((unhide BL3).grown gr9' (unhide BL3).size (fun q hq => by cases hq; omega))
                have hB9 : B ≤ w9.heap.size := Nat.le_trans hB3 gr9'.size
                clear o9 gr9 gr9' 
                go_roundw
                case rel => exact ⟨j + 1, s + 1, g9, c9, _, by omega, by go_num, rfl, by go_num, unhide HNX, unhide O9, unhide RG9, unhide BL9, hB9⟩
                case measure => simp [intOf]; omega
        · have i4 : ¬ (j : Int) < (N : Int) := by omega
          have hjN : j = N := by omega
          have HUF : Hid (unRow bs (ahU N z k) t N = ⟨0, s, zz⟩) := hide (by have q := unhide HUN; rw [hjN] at q; exact q)
          have HN : Hid (unRec bs N (k + 1) = ⟨0, s, z ++ [zz]⟩) := hide (by rw [unRec_yes (unhide HRE) (by rw [unhide HUF]), unhide HUF])
          clear hjN
          go_wp2_with (at_builtin; refine wpList_app_elG (K := 1) (cells := rxC) rfl _ _ 23 32 rfl Try.underlying23 infoRx rfl (by decide) (by decide) (⟨some ⟨g2, 0, none⟩, j, d, zz⟩ : Rx) [.slice (some ⟨g2, 0, none⟩) j d] rfl (fun q hq => by match q, hq with | 0, _ => rfl) (fun u hu => by simp at hu; rcases hu with rfl; rfl) (unhide RG).o.out (unhide RG).l rfl rfl rfl (unhide BL).size (by omega) ?_; intro g9 c9 w9 o9 gr9 hg9)
          have gr9' : wr.grownBy w9 (some g) := gr9
          have gl := (unhide RGL).1 g rfl
          have RG9 := hide ((unhide RG).push (unhide RGL) (x := ⟨some ⟨g2, 0, none⟩, j, d, zz⟩) (unhide O2) hWB o9 gr9 hg9)
          have BL9 := hide ((unhide BL).grown gr9' (unhide BL).size (fun q hq => by cases hq; exact gl.1))
          clear o9 gr9 gr9' hg9 gl
          go_roundw
          case rel => exact ⟨k + 1, s, g9, c9, _, _, by omega, by go_num, rfl, rfl, unhide HN, unhide RG9, unhide BL9⟩
          case measure => simp [intOf]; omega
    · have i3 : ¬ (k : Int) < (M : Int) := by omega
      have HTT : Hid (unT bs = ⟨0, t, z⟩) := hide (by rw [unhide HT, ← unhide HRE, show k = M by omega])
      by_cases ht : t < n
      · have t1 : (t : Int) < (n : Int) := by omega
        have HUC := hide (un_more (unhide HH) (unhide HTT) (by rw [unhide HL]; exact ht))
        go_wp2_with fail
        refine bodyPost_ret (v := .tuple #[.slice (some ⟨w.heap.size, 0, none⟩) 0 0, .int .i64 4, .int .i64 (t : Int)]) (by simp [results, Try.results7, go_sem]) rfl ?_
        exact (unhide POST) _ _ _ (unhide BL) (unhide HUC)
      · have t1 : ¬ (t : Int) < (n : Int) := by omega
        have HUC := hide (un_well (unhide HH) (unhide HTT) (by rw [unhide HL]; exact ht))
        go_wp2_with fail
        refine bodyPost_ret (v := .tuple #[.slice (some ⟨g, 0, none⟩) k c, .int .i64 0, .int .i64 0]) (by simp [results, Try.results7, go_sem]) rfl ?_
        refine ⟨g, c, us, ?_, ?_, (unhide BW).trans ((unhide BL).mono (unhide BW).size)⟩
        · rw [(unhide HUC).1, (unhide HUC).2.1, (unhide HUC).2.2, (unhide OK).1]
        · rw [(unhide HUC).2.2, (unhide OK).1]; exact ⟨(unhide RG).o.mono (unhide BW).size, (unhide RG).z⟩
theorem specUnpack20_any (ba : Option Addr) (n bc : Nat) (bs : List Int) (w : World) (hr : RowE 1 byC w ba n bs) (hb : ∀ i, i < n → 0 ≤ elAt bs i ∧ elAt bs i ≤ 255) (hsm : n ≤ 1048576) :
    Calls Try.prog 7 #[.slice ba n bc] w fun e w' => ∃ g c us, e = .returned (.tuple #[.slice (some ⟨g, 0, none⟩) (unLs bs).length c, .int .i64 (unCo bs), .int .i64 (unPl bs)]) ∧ OwnRT w' w.heap.size (.slice (some ⟨g, 0, none⟩) (unLs bs).length c) us (unLs bs) ∧ Below w.heap.size w w' := specUnpack20_un ba n bc bs w hr hb hsm

end Go.Proofs.Ythdnokilfmbgobd

/-
  What the model's Share answers: the plain answer, at every plan and partition; nothing that was there is written.
-/
import Derived.Test.YtndhiecakojjgazShSpec
import Derived.Test.YtndhiecakojjgazPpOwn
import Derived.Test.YtndhiecakojjgazAppEl
import Derived.Test.YtndhiecakojjgazApFar
import Derived.Test.YtndhiecakojjgazMinMax
namespace Go.Proofs.Ytndhiecakojjgaz
open Go.RowKit


set_option maxRecDepth 20000 in
set_option maxHeartbeats 4000000 in
theorem specShare_yes {n g : Int} {b : Bool} (fr pa : Int) (da : Option Addr) (dn dc : Nat) (ws : List Wn) (p : Int) (w : World) (hr : RowE 3 wnC w da dn ws) (hv : shB fr pa ws p = true) (hn : shR fr pa ws p = n) (hg : shQ fr pa ws p = g) (hb : shB fr pa ws p = b) :
    Calls Try.prog 22 #[.agg #[.int .i64 fr, .int .i64 pa, .slice da dn dc], .int .i64 p] w fun e w' => e = .returned (.tuple #[.int .i64 n, .int .i64 g, .bool b]) ∧ Below w.heap.size w w' := by
  have hz := hr.len_eq
  have hs := hr.small
  have HR := hide hr
  clear hr
  subst hz
  obtain ⟨W, hW⟩ : ∃ W, W = w.alloc (Obj.cells #[.int .i64 fr, .int .i64 pa, .slice da ws.length dc] 35) := ⟨_, rfl⟩
  have K0 : Hid (Blk W w.heap.size [.int .i64 fr, .int .i64 pa, .slice da ws.length dc]) := hide (by rw [hW]; exact Blk.new _ _)
  have B0 : Hid (Below w.heap.size w W) := hide (by rw [hW]; exact bel1 _)
  have S0 : Hid (w.heap.size + 1 ≤ W.heap.size) := hide (by rw [hW]; simp)
  have HW := hide hW
  clear hW
  have hq : ppB fr pa ws = true ∧ inB p 0 (pa - 1) = true := by simpa [shB] using hv
  obtain ⟨q1, q2⟩ := hq
  have HE := hide (hv.symm.trans hb)
  have HV := hide hv
  have HNN := hide hn
  have HGG := hide hg
  have f0 := ppB_facts q1
  have f1 := f0.1
  have f2 := f0.2.1
  have l1 := f0.2.2.1
  have HPP := hide q1
  have HIN := hide (ppB_in q1)
  clear hb hn hg hv f0
  go_enter Try.func22, Try.ntmps22
  go_upto_region 1 with fail
  rw [← unhide HW]
  clear HW
  have p0 : W.cell? ⟨w.heap.size, 0, none⟩ = some (.int .i64 fr) := (unhide K0).c 0 (by simp)
  have p1 : W.cell? ⟨w.heap.size, 1, none⟩ = some (.int .i64 pa) := (unhide K0).c 1 (by simp)
  have p2 : W.cell? ⟨w.heap.size, 2, none⟩ = some (.slice da ws.length dc) := (unhide K0).c 2 (by simp)
  go_upto_region 3 with (first | (go_at_call 16; refine (specPlanOk_is _ _ _ _ _ ws _ ((unhide HR).below (unhide B0)) (by exact q1)).mono ?_; rintro e W1 ⟨rfl, b1⟩; have p1' : W1.cell? ⟨w.heap.size, 1, none⟩ = some (.int .i64 pa) := ((unhide K0).below b1).c 1 (by simp); have KJ : Hid (ShW w (W1.alloc (Obj.cells #[] 60)) [.int .i64 fr, .int .i64 pa, .slice da ws.length dc] W1.heap.size 0 0 (shM ws p 0)) := hide ⟨wnE_none (Nat.le_trans (unhide S0) b1.size), rfl, ((unhide K0).below b1).alloc _, ((unhide B0).trans (b1.mono (unhide B0).size)).alloc ((unhide B0).trans (b1.mono (unhide B0).size)).size _, by have q := Nat.le_trans (unhide S0) b1.size; simp; omega⟩; clear b1) | (go_at_call 40; refine (l1In_is _ _ _ _ (by exact q2)).mono ?_; rintro e w' ⟨rfl, hw⟩; subst w'))
  clear p0 p1 p2 p1'
  go_wp2_with fail
  go_loopw [7, 8, 9] (fun s7 s8 s9 wr => ∃ (k m g cp : Nat) (S : Int), k ≤ ws.length ∧ m ≤ k ∧ (0 ≤ S ∧ S ≤ 10000 * (k : Int)) ∧ s7 = .slice (some ⟨g, 0, none⟩) m cp ∧ s8 = .int .i64 S ∧ s9 = .int .i64 (k : Int) ∧ Hid (shS ws p k = S) ∧ Hid (ShW w wr [.int .i64 fr, .int .i64 pa, .slice da ws.length dc] g m cp (shM ws p k))) (fun _ _ s9 _ => ws.length - (intOf s9).toNat)
  case atStart => exact ⟨0, 0, _, 0, 0, Nat.zero_le _, Nat.le_refl _, by omega, rfl, rfl, rfl, hide rfl, KJ⟩
  case round =>
    clear KJ
    obtain ⟨k, m, g1, cp, S, hk, hm, hS, rfl, rfl, rfl, HS, HK⟩ := hrel
    by_cases hlt : k < ws.length
    · have hall := ppB_all (unhide HPP) hlt
      rcases ((unhide HR).below (unhide HK).bel).wn3 with ⟨z0, _⟩ | ⟨bb, off, rfl, _, hcs⟩
      · omega
      have m0 := (hcs k hlt).1
      have m1 := (hcs k hlt).2.1
      have m2 := (hcs k hlt).2.2
      have k0 : (0 : Int) ≤ (k : Int) := by omega
      have k1 : (k : Int) < (ws.length : Int) := by omega
      have p2 : wr.cell? ⟨w.heap.size, 2, none⟩ = some (.slice (some ⟨bb, off, none⟩) ws.length dc) := (unhide HK).blk.c 2 (by simp)
      by_cases hq : (elAt ws k).a0 = p
      · have HQ := hide hq
        have q5 : ((elAt ws k).a0 == p) = true := by simpa using hq
        clear hcs hq
        go_upto_region 10 with (at_builtin; (refine wpList_app_elG (K := 3) (cells := wnC) rfl _ _ 33 60 rfl Try.underlying33 infoWn rfl (by decide) (by decide) (elAt ws k) [.int .i64 (elAt ws k).a0, .int .i64 (elAt ws k).a1, .int .i64 (elAt ws k).a2] rfl (fun q hq => by match q, hq with | 0, _ => rfl | 1, _ => rfl | 2, _ => rfl) (fun u hu => by simp at hu; rcases hu with rfl | rfl | rfl <;> rfl) (unhide HK).o (unhide HK).l rfl (by simp) rfl (unhide HK).sz (by omega) ?_; intro g' c' w9 o9 gr9 _; have K9 := hide ((unhide HK).app o9 gr9); clear o9 gr9))
        rcases ((unhide HR).below (unhide K9).bel).wn3 with ⟨z0, _⟩ | ⟨bb2, off2, e2, _, hcs2⟩
        · omega
        obtain ⟨rfl, rfl⟩ : bb = bb2 ∧ off = off2 := by simpa using e2
        have n2 := (hcs2 k hlt).2.2
        have p3 : w9.cell? ⟨w.heap.size, 2, none⟩ = some (.slice (some ⟨bb, off, none⟩) ws.length dc) := (unhide K9).blk.c 2 (by simp)
        obtain ⟨x2, hx2⟩ : ∃ z, (elAt ws k).a2 = z := ⟨_, rfl⟩
        rw [hx2] at n2 hall
        have HX2 := hide hx2
        clear hcs2 e2 m0 m1 m2 p2 hx2
        go_wp2_with fail
        go_roundw
        case rel => exact ⟨k + 1, m + 1, g', c', S + x2, by omega, by omega, by omega, rfl, rfl, by go_num, hide (by simp only [shS]; rw [if_pos (unhide HQ), unhide HS, unhide HX2]), by simp only [shM]; rw [if_pos (unhide HQ)]; exact K9⟩
        case measure => simp [intOf]; omega
      · have HQ := hide hq
        have q5 : ((elAt ws k).a0 == p) = false := by simpa using hq
        clear hcs
        go_wp2_with fail
        go_roundw
        case rel => exact ⟨k + 1, m, g1, cp, S, by omega, by omega, by omega, rfl, rfl, by go_num, hide (by simp only [shS]; rw [if_neg (unhide HQ)]; exact unhide HS), by simp only [shM]; rw [if_neg (unhide HQ)]; exact HK⟩
        case measure => simp [intOf]; omega
    · have hkl : k = ws.length := by omega
      have k1 : ¬ (k : Int) < (ws.length : Int) := by omega
      rw [hkl] at HK HS
      clear hkl
      have p0 : wr.cell? ⟨w.heap.size, 0, none⟩ = some (.int .i64 fr) := (unhide HK).blk.c 0 (by simp)
      have p2 : wr.cell? ⟨w.heap.size, 2, none⟩ = some (.slice da ws.length dc) := (unhide HK).blk.c 2 (by simp)
      by_cases hm0 : m = 0
      · subst hm0
        have HN := hide (show 0 = n from by rw [← unhide HNN, shR, if_pos (unhide HV), shS_none _ (unhide HK).l])
        have HG := hide (show fr = g from by rw [← unhide HGG, sh_none (unhide HV) (unhide HK).l])
        go_upto_region 12 with fail
        go_quiet (fail)
        go_wp2_with fail
        go_ret3
        exact ⟨ret_sh (unhide HN) (unhide HG) (unhide HE), ((unhide HK).below (bel0d _)).bel⟩
      · obtain ⟨M, hM⟩ : ∃ M, M = shM ws p ws.length := ⟨_, rfl⟩
        rw [← hM] at HK
        have hMl : M.length = m := (unhide HK).l
        have HNZ : Hid (shS ws p ws.length = n ∧ shG fr M m = g) := hide (by
          have q := sh_yes (unhide HV) (by rw [← hM, hMl]; exact hm0)
          rw [← hM, hMl] at q
          exact ⟨q.1.symm.trans (unhide HNN), q.2.symm.trans (unhide HGG)⟩)
        have HIM : Hid (∀ i, i < M.length → WnIn (elAt M i)) := hide (by rw [hM]; exact shM_in p _ (unhide HIN) _ (Nat.le_refl _))
        have HML := hide hMl
        have HM := hide hM
        clear hMl hM
        obtain ⟨ι, fW, _, hb, hall2⟩ := belClass wr
        have HB := hide hb
        have HA := hide hall2
        clear hb hall2
        obtain ⟨x0, h0⟩ := (unhide HA) wr (Below.refl _ _)
        have cx : Hid (∀ x j q, j < m → q < 3 → (fW x).cell? ⟨g1, j * 3 + q, none⟩ = some (wnC (elAt M j) q)) := hide (fun x j q hj hq => ((unhide HK).below (unhide HB x)).at_ hj q hq)
        have BX : Hid (∀ x, Below w.heap.size w (fW x)) := hide (fun x => ((unhide HK).below (unhide HB x)).bel)
        have p0x : ∀ x, (fW x).cell? ⟨w.heap.size, 0, none⟩ = some (.int .i64 fr) := fun x => ((unhide HK).below (unhide HB x)).blk.c 0 (by simp)
        have p2x : ∀ x, (fW x).cell? ⟨w.heap.size, 2, none⟩ = some (.slice da ws.length dc) := fun x => ((unhide HK).below (unhide HB x)).blk.c 2 (by simp)
        rw [h0]
        clear h0 p0 p2
        have e1 : ¬ (m : Int) = 0 := by omega
        have e2 : ((m : Int) == 0) = false := by simpa using e1
        go_wp2_with fail
        clear p2x
        go_loopw [10, 11] (fun s10 s11 v => ∃ (i : Nat) (G : Int) (x : ι), i ≤ m ∧ (0 ≤ G ∧ G ≤ 200000) ∧ s10 = .int .i64 G ∧ s11 = .int .i64 (i : Int) ∧ Hid (shG fr M i = G) ∧ v = fW x) (fun _ s11 _ => m - (intOf s11).toNat)
        case atStart => exact ⟨0, 0, _, Nat.zero_le _, by omega, rfl, rfl, hide rfl, rfl⟩
        case round =>
          obtain ⟨i, G, x, hi, hG, rfl, rfl, HGi, rfl⟩ := hrel
          by_cases hlt2 : i < m
          · have i0 : (0 : Int) ≤ (i : Int) := by omega
            have i1 : (i : Int) < (m : Int) := by omega
            have i2 : (0 : Int) < (m : Int) := by omega
            have b0 := unhide HIM 0 (by rw [unhide HML]; omega)
            have bi := unhide HIM i (by rw [unhide HML]; omega)
            simp only [WnIn] at b0 bi
            have c0 : ∀ x, (fW x).cell? ⟨g1, 1, none⟩ = some (.int .i64 (elAt M 0).a1) := fun x => by have q := unhide cx x 0 1 (by omega) (by omega); rw [Nat.zero_mul, Nat.zero_add] at q; exact q
            have c1 : ∀ x, (fW x).cell? ⟨g1, i * 3 + 1, none⟩ = some (.int .i64 (elAt M i).a1) := fun x => unhide cx x i 1 hlt2 (by omega)
            have c2 : ∀ x, (fW x).cell? ⟨g1, i * 3 + 2, none⟩ = some (.int .i64 (elAt M i).a2) := fun x => unhide cx x i 2 hlt2 (by omega)
            obtain ⟨j, hj⟩ : ∃ j, i + 1 = j := ⟨_, rfl⟩
            have hsum : (i : Int) + 1 = (j : Int) := by omega
            have hwr : IntKind.i64.wrap (j : Int) = (j : Int) := by rw [IntKind.wrap_i64]; omega
            by_cases hl3 : j < m
            · have bj := unhide HIM j (by rw [unhide HML]; omega)
              simp only [WnIn] at bj
              have j0 : (0 : Int) ≤ (j : Int) := by omega
              have j1 : (j : Int) < (m : Int) := by omega
              have c3 : ∀ x, (fW x).cell? ⟨g1, j * 3 + 1, none⟩ = some (.int .i64 (elAt M j).a1) := fun x => unhide cx x j 1 hl3 (by omega)
              have HNX : Hid (shN fr M i = (elAt M j).a1) := hide (by rw [shN, unhide HML, hj, if_pos hl3])
              have HJ := hide hj
              clear hj
              go_wp2_with fail
              repeat (refine wp_region_bel (fun w' h => (unhide HA) w' ((unhide HB _).trans (h.mono (unhide HB _).size))) (by kernel_rfl) (by kernel_rfl) ?_; (repeat (go_big_quiet_step (first | (go_at_call 37; exact belS (mxs_is _ _ _ rfl))))); refine wpQuiet_nil ?_; rintro _ ⟨y, rfl⟩; (first | go_wp2_with fail | go_wp2))
              go_roundw
              case rel => exact ⟨i + 1, max G ((elAt M j).a1 - (elAt M i).a1 - (elAt M i).a2), _, by omega, by omega, rfl, by go_num, hide (by simp only [shG]; rw [unhide HGi, unhide HNX]), rfl⟩
              case measure => simp [intOf]; omega
            · have j1 : ¬ (j : Int) < (m : Int) := by omega
              have HNX : Hid (shN fr M i = (elAt M 0).a1 + fr) := hide (by rw [shN, unhide HML, hj, if_neg hl3])
              have HJ := hide hj
              clear hj
              go_wp2_with fail
              repeat (refine wp_region_bel (fun w' h => (unhide HA) w' ((unhide HB _).trans (h.mono (unhide HB _).size))) (by kernel_rfl) (by kernel_rfl) ?_; (repeat (go_big_quiet_step (first | (go_at_call 37; exact belS (mxs_is _ _ _ rfl))))); refine wpQuiet_nil ?_; rintro _ ⟨y, rfl⟩; (first | go_wp2_with fail | go_wp2))
              go_roundw
              case rel => exact ⟨i + 1, max G ((elAt M 0).a1 + fr - (elAt M i).a1 - (elAt M i).a2), _, by omega, by omega, rfl, by go_num, hide (by simp only [shG]; rw [unhide HGi, unhide HNX]), rfl⟩
              case measure => simp [intOf]; omega
          · have i1 : ¬ (i : Int) < (m : Int) := by omega
            have him : i = m := by omega
            rw [him] at HGi
            clear him
            go_wp2_with fail
            go_ret3
            exact ⟨ret_sh ((unhide HS).symm.trans (unhide HNZ).1) ((unhide HGi).symm.trans (unhide HNZ).2) (unhide HE), unhide BX _⟩

theorem specShare_is {n g : Int} {b : Bool} (fr pa : Int) (da : Option Addr) (dn dc : Nat) (ws : List Wn) (p : Int) (w : World) (hr : RowE 3 wnC w da dn ws) (hn : shR fr pa ws p = n) (hg : shQ fr pa ws p = g) (hb : shB fr pa ws p = b) :
    Calls Try.prog 22 #[.agg #[.int .i64 fr, .int .i64 pa, .slice da dn dc], .int .i64 p] w fun e w' => e = .returned (.tuple #[.int .i64 n, .int .i64 g, .bool b]) ∧ Below w.heap.size w w' := by
  cases h : shB fr pa ws p with
  | false => exact specShare_no fr pa da dn dc ws p w hr h hn hg hb
  | true => exact specShare_yes fr pa da dn dc ws p w hr h hn hg hb

end Go.Proofs.Ytndhiecakojjgaz

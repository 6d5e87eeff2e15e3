/-
  slices.Delete of one load out of a list that a call has made: the list without it, in the same memory. At lists of at most 1000.
-/
import Derived.Test.YtemodlgmjgdjpaaGreatDoorMCpSpc
namespace Go.Proofs.YtemodlgmjgdjpaaGreatDoor
open Go Go.RowKit

set_option maxRecDepth 100000 in
set_option maxHeartbeats 4000000 in
theorem del_mid (base g n m cp k j : Nat) (us : List Lx) (w : World) (h : OwnLd w base (.slice (some ⟨g, 0, none⟩) n cp) us) (hn : us.length = n) (hnm : n = m + 1) (hj : j = k + 1) (hs : n ≤ 1000) (hk : k < m) :
    Calls Tryz.prog 55 #[.slice (some ⟨g, 0, none⟩) n cp, .int .i64 (k : Int), .int .i64 (j : Int)] w fun e w' => e = .returned (.slice (some ⟨g, 0, none⟩) m cp) ∧ OwnLd w' base (.slice (some ⟨g, 0, none⟩) m cp) (dlL us k) ∧ w.grownBy w' (some g) := by
  obtain ⟨cs, cur, hbg, hgw, hg, hnc, hcm, hcz, hcl, hcur, hcell, hcs, h1c⟩ := ownLx_open h.out hn
  obtain ⟨i0, hi0, hz0, hzs, hzb⟩ := info_parts infoLx
  have hcz2 : cur.toList.length = cp * 6 := by simpa using hcz
  obtain ⟨R2, hR2⟩ : ∃ R2 : Array Value, R2 = (seg cur.toList (k * 6) (cs.drop (j * 6))).toArray := ⟨_, rfl⟩
  have hdl : (cs.drop (j * 6)).length = (n - j) * 6 := by rw [List.length_drop, hcl]; omega
  have hkm : k + (n - j) = m := by omega
  have happ : ∀ ty c, (Builtin.append_ #[24, 24] ty #[.slice (some ⟨g, 0, none⟩) k cp, .slice (some ⟨g, j * 6, none⟩) (n - j) c]).run Tryz.prog w.drew = .ok (.slice (some ⟨g, 0, none⟩) m cp) (w.drew.setRow g R2) := fun ty c => by
    have := run_append_room (P := Tryz.prog) w.drew 24 ty 32 i0 Tryz.underlying24 hi0 g k cp cur hg ⟨g, j * 6, none⟩ (n - j) c (cs.drop (j * 6)) (by rw [hzs]; exact hdl) (fun p u hp => by
      rw [List.getElem?_drop] at hp
      rw [addr_addR]
      exact hcell _ u hp) (fun v hv => h1c v (List.mem_of_mem_drop hv)) (by omega) (by rw [hzs, hdl, hcz]; omega)
    rw [hkm, hzs] at this
    rw [hR2]
    exact this
  have hs2 : R2.toList.length = cp * 6 := by rw [hR2]; simp only; rw [seg_len (by rw [hcz2, hdl]; omega)]; exact hcz2
  have hs3 : R2.size = cp * 6 := by simpa using hs2
  have hg2 : (w.drew.setRow g R2).heap[g]? = some (.cells R2 32 (0, 0)) := setRow_heap w.drew g cur R2 _ _ hg
  obtain ⟨R3, hR3⟩ : ∃ R3 : Array Value, R3 = (seg R2.toList (m * 6) [.string ⟨#[]⟩, .int .i64 0, .int .i64 0, .int .i64 0, .int .i64 0, .slice none 0 0]).toArray := ⟨_, rfl⟩
  have hclr : ∀ ty c, (Builtin.clear_ #[24] ty #[.slice (some ⟨g, m * 6, none⟩) 1 c]).run Tryz.prog (w.drew.setRow g R2) = .ok (.tuple #[]) ((w.drew.setRow g R2).setRow g R3) := fun ty c => by
    rw [hR3]; exact clear_one (w.drew.setRow g R2) g (m * 6) c R2 ty hg2 (by rw [hs3]; omega)
  have hR3l : R3.size = cp * 6 := by
    rw [hR3]; simp only [List.size_toArray]; rw [seg_len (by rw [hs2]; simp; omega)]; exact hs2
  have hcells : ∀ i, i < m → ∀ q, q < 6 → R3.toList[i * 6 + q]? = some (lxC (elAt (dlL us k) i) q) := fun i hi q hq => by
    rw [hR3]; simp only
    rw [seg_out (by rw [hs2]; simp; omega) (.inl (by omega)), dlL_at (by omega) (by omega), hR2]
    simp only
    by_cases c : i < k
    · rw [if_pos c, seg_out (by rw [hcz2, hdl]; omega) (.inl (by omega)), hcur _ (by omega)]
      exact hcs i (by omega) q hq
    · rw [if_neg c, seg_in (by rw [hcz2, hdl]; omega) (by omega) (by rw [hdl]; omega), List.getElem?_drop, show j * 6 + (i * 6 + q - k * 6) = (i + 1) * 6 + q by omega]
      exact hcs (i + 1) (by omega) q hq
  have hfin : OwnLd ((w.drew.setRow g R2).setRow g R3) base (.slice (some ⟨g, 0, none⟩) m cp) (dlL us k) ∧ w.grownBy ((w.drew.setRow g R2).setRow g R3) (some g) := by
    have gr : w.grownBy ((w.drew.setRow g R2).setRow g R3) (some g) := grown_heap rfl rfl rfl (by simp) (fun j hj hne => by rw [setRow_at hne, setRow_at hne]; rfl)
    have hh : ((w.drew.setRow g R2).setRow g R3).heap[g]? = some (.cells R3 32 (0, 0)) := setRow_heap (w.drew.setRow g R2) g R2 R3 _ _ hg2
    have hlen : (dlL us k).length = m := by rw [dlL_len (by omega)]; omega
    refine ⟨h.pick (ownE_row hh hbg hlen (by omega) hcm hR3l hcells) (fun i => if i < k then i else i + 1) (fun i hi => ⟨by split <;> omega, dlL_at (by omega) (by omega)⟩) (fun i i2 h1 h2 => by split <;> split <;> omega) (fun i hi => (h.dat i hi).far gr (fun q hq e => h.apt i hi q hq (by rw [e]; rfl))) (fun i hi q hq e => h.apt i hi q hq (by rw [e]; rfl)), gr⟩
  have HF := hide hfin
  have hk0 : (0 : Int) ≤ (k : Int) := by omega
  have hj0 : (0 : Int) ≤ (j : Int) := by omega
  have hkj : (k : Int) ≤ (j : Int) := by omega
  have hjn : (j : Int) ≤ (n : Int) := by omega
  have hkjn : k ≤ j := by omega
  have hjnn : j ≤ n := by omega
  have hkc : k ≤ cp := by omega
  have hki : (k : Int) ≤ (cp : Int) := by omega
  have hjc : j ≤ cp := by omega
  have hm0 : (0 : Int) ≤ (m : Int) := by omega
  have hmn2 : (m : Int) ≤ (n : Int) := by omega
  have hmnn : m ≤ n := by omega
  have hncI : (n : Int) ≤ (cp : Int) := by omega
  have hmc : ¬ (cp = m) := by omega
  have hckk : ¬ (cp = k) := by omega
  have hnk : ¬ (n = k) := by omega
  have hn1 : n - m = 1 := by omega
  have hne1 : ((k : Int) == (j : Int)) = false := by simp only [beq_eq_false_iff_ne]; omega
  have hne2 : ¬ ((k : Int) = (j : Int)) := by omega
  have hne3 : ¬ (k = j) := by omega
  have hne4 : decide (k = j) = false := by simp only [decide_eq_false_iff_not]; omega
  have hcj : ¬ (cp = j) := by omega
  have hcmx : cp ≤ 9223372036854775807 := by unfold maxLen at hcm; omega
  clear hfin hcells hR3l hs2 hs3 hg2 hdl hR2 hR3 hkm hnm hk hcur hcell hcs h1c hcl hcz hcz2 hcm hg h hgw hbg hn hj hi0 hz0 hzs hzb
  go_enter Tryz.func55, Tryz.ntmps55
  go_wp2_with fail
  go_region_law (refine step_append_run rfl (.tmp 22) (.tmp 25) 24 rfl (.slice (some ⟨g, 0, none⟩) k cp) (.slice (some ⟨g, j * 6, none⟩) (n - j) (cp - j)) (by simp [Act.eval, Act.put]) (by simp [Act.eval, Act.put]) (happ 24 (cp - j)) ?_)
  go_wp2_with fail
  go_ret
  exact ⟨rfl, unhide HF⟩
set_option maxRecDepth 100000 in
set_option maxHeartbeats 4000000 in
theorem del_end (base g n m cp k j : Nat) (us : List Lx) (w : World) (h : OwnLd w base (.slice (some ⟨g, 0, none⟩) n cp) us) (hn : us.length = n) (hnm : n = m + 1) (hj : j = k + 1) (hs : n ≤ 1000) (hk : k = m) :
    Calls Tryz.prog 55 #[.slice (some ⟨g, 0, none⟩) n cp, .int .i64 (k : Int), .int .i64 (j : Int)] w fun e w' => e = .returned (.slice (some ⟨g, 0, none⟩) m cp) ∧ OwnLd w' base (.slice (some ⟨g, 0, none⟩) m cp) (dlL us k) ∧ w.grownBy w' (some g) := by
  subst hk
  obtain ⟨cs, cur, hbg, hgw, hg, hnc, hcm, hcz, hcl, hcur, hcell, hcs, h1c⟩ := ownLx_open h.out hn
  obtain ⟨i0, hi0, hz0, hzs, hzb⟩ := info_parts infoLx
  have hcz2 : cur.toList.length = cp * 6 := by simpa using hcz
  have hR2 : cur = cur := rfl
  have happ : ∀ ty xa c, (Builtin.append_ #[24, 24] ty #[.slice (some ⟨g, 0, none⟩) k cp, .slice xa 0 c]).run Tryz.prog w.drew = .ok (.slice (some ⟨g, 0, none⟩) k cp) w.drew := fun ty xa c => run_append_nothing (P := Tryz.prog) w.drew 24 24 ty 32 i0 Tryz.underlying24 hi0 (some ⟨g, 0, none⟩) k cp (by omega) (.slice xa 0 c) ⟨.inl ⟨_, Tryz.underlying24⟩, fun w' => by simp [Builtin.lenOf], by cases xa <;> simp [Builtin.firstCells, loadCells, loadCellsFrom], by cases xa <;> simp [Builtin.firstCells, loadCells, loadCellsFrom], by simp, fun u hu => by cases hu⟩
  obtain ⟨R3, hR3⟩ : ∃ R3 : Array Value, R3 = (seg cur.toList (k * 6) [.string ⟨#[]⟩, .int .i64 0, .int .i64 0, .int .i64 0, .int .i64 0, .slice none 0 0]).toArray := ⟨_, rfl⟩
  have hclr : ∀ ty c, (Builtin.clear_ #[24] ty #[.slice (some ⟨g, k * 6, none⟩) 1 c]).run Tryz.prog w.drew = .ok (.tuple #[]) (w.drew.setRow g R3) := fun ty c => by
    rw [hR3]; exact clear_one w.drew g (k * 6) c cur ty hg (by rw [hcz]; omega)
  have hR3l : R3.size = cp * 6 := by
    rw [hR3]; simp only [List.size_toArray]; rw [seg_len (by rw [hcz2]; simp; omega)]; exact hcz2
  have hR3a : ∀ p, p < k * 6 → R3.toList[p]? = cs[p]? := fun p hp => by
    rw [hR3]; simp only; rw [seg_out (by rw [hcz2]; simp; omega) (.inl hp)]; exact hcur p (by omega)
  have hcells : ∀ i, i < k → ∀ q, q < 6 → R3.toList[i * 6 + q]? = some (lxC (elAt (dlL us k) i) q) := fun i hi q hq => by
    rw [hR3a _ (by omega), dlL_at (by omega) (by omega), if_pos (by omega)]
    exact hcs i (by omega) q hq
  have hfin : OwnLd (w.drew.setRow g R3) base (.slice (some ⟨g, 0, none⟩) k cp) (dlL us k) ∧ w.grownBy (w.drew.setRow g R3) (some g) := by
    have gr : w.grownBy (w.drew.setRow g R3) (some g) := grown_heap rfl rfl rfl (by simp) (fun j hj hne => setRow_at hne)
    have hh : (w.drew.setRow g R3).heap[g]? = some (.cells R3 32 (0, 0)) := setRow_heap w.drew g cur R3 _ _ hg
    have hlen : (dlL us k).length = k := by rw [dlL_len (by omega)]; omega
    refine ⟨h.pick (ownE_row hh hbg hlen (by omega) hcm hR3l hcells) (fun i => if i < k then i else i + 1) (fun i hi => ⟨by split <;> omega, dlL_at (by omega) (by omega)⟩) (fun i i2 h1 h2 => by split <;> split <;> omega) (fun i hi => (h.dat i hi).far gr (fun q hq e => h.apt i hi q hq (by rw [e]; rfl))) (fun i hi q hq e => h.apt i hi q hq (by rw [e]; rfl)), gr⟩
  have HF := hide hfin
  have hk0 : (0 : Int) ≤ (k : Int) := by omega
  have hj0 : (0 : Int) ≤ (j : Int) := by omega
  have hkj : (k : Int) ≤ (j : Int) := by omega
  have hjn : (j : Int) ≤ (n : Int) := by omega
  have hkjn : k ≤ j := by omega
  have hjnn : j ≤ n := by omega
  have hkc : k ≤ cp := by omega
  have hki : (k : Int) ≤ (cp : Int) := by omega
  have hjc : j ≤ cp := by omega
  have hm0 : (0 : Int) ≤ (k : Int) := by omega
  have hmn2 : (k : Int) ≤ (n : Int) := by omega
  have hmnn : k ≤ n := by omega
  have hncI : (n : Int) ≤ (cp : Int) := by omega
  have hmc : ¬ (cp = k) := by omega
  have hckk : ¬ (cp = k) := by omega
  have hnk : ¬ (n = k) := by omega
  have hn1 : n - k = 1 := by omega
  have hne1 : ((k : Int) == (j : Int)) = false := by simp only [beq_eq_false_iff_ne]; omega
  have hne2 : ¬ ((k : Int) = (j : Int)) := by omega
  have hne3 : ¬ (k = j) := by omega
  have hne4 : decide (k = j) = false := by simp only [decide_eq_false_iff_not]; omega
  have hnj : n - j = 0 := by omega
  have hjn2 : j = n := by omega
  have hcmx : cp ≤ 9223372036854775807 := by unfold maxLen at hcm; omega
  clear hfin hcells hR3l hR3 hR3a hR2 hnm hcur hcell hcs h1c hcl hcz hcz2 hcm hg h hgw hbg hn hj hi0 hz0 hzs hzb
  rcases Nat.lt_or_ge n cp with hcn | hcn
  · have hcn2 : ¬ (cp = n) := by omega
    go_enter Tryz.func55, Tryz.ntmps55
    go_wp2_with fail
    go_region_law (refine step_append_run rfl (.tmp 22) (.tmp 25) 24 rfl (.slice (some ⟨g, 0, none⟩) k cp) (.slice (some ⟨g, n * 6, none⟩) 0 (cp - n)) (by simp [Act.eval, Act.put]) (by simp [Act.eval, Act.put]) (happ 24 _ _) ?_)
    go_wp2_with fail
    go_ret
    exact ⟨rfl, unhide HF⟩
  · obtain rfl : cp = n := by omega
    go_enter Tryz.func55, Tryz.ntmps55
    go_wp2_with fail
    go_region_law (refine step_append_run rfl (.tmp 22) (.tmp 25) 24 rfl (.slice (some ⟨g, 0, none⟩) k cp) (.slice (some ⟨g, 0, none⟩) 0 0) (by simp [Act.eval, Act.put]) (by simp [Act.eval, Act.put]) (happ 24 _ _) ?_)
    go_wp2_with fail
    go_ret
    exact ⟨rfl, unhide HF⟩
theorem del_any (base g n m cp k j : Nat) (us : List Lx) (w : World) (h : OwnLd w base (.slice (some ⟨g, 0, none⟩) n cp) us) (hn : us.length = n) (hnm : n = m + 1) (hj : j = k + 1) (hs : n ≤ 1000) (hk : k < n) :
    Calls Tryz.prog 55 #[.slice (some ⟨g, 0, none⟩) n cp, .int .i64 (k : Int), .int .i64 (j : Int)] w fun e w' => e = .returned (.slice (some ⟨g, 0, none⟩) m cp) ∧ OwnLd w' base (.slice (some ⟨g, 0, none⟩) m cp) (dlL us k) ∧ w.grownBy w' (some g) := by
  by_cases e : k = m
  · exact del_end base g n m cp k j us w h hn hnm hj hs e
  · exact del_mid base g n m cp k j us w h hn hnm hj hs (by omega)

end Go.Proofs.YtemodlgmjgdjpaaGreatDoor

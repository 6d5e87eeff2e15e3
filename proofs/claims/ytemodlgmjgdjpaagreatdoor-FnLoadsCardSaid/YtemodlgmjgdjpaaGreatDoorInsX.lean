/-
  slices.Insert of one load into a list of loads that the program owns: the list with the load in its place, in memory of its own. At lists of at most 1000.
-/
import Derived.Test.YtemodlgmjgdjpaaGreatDoorInsPure
import Derived.Test.YtemodlgmjgdjpaaGreatDoorMLdSpec
import Derived.Test.YtemodlgmjgdjpaaGreatDoorMDlImp
namespace Go.Proofs.YtemodlgmjgdjpaaGreatDoor
open Go.RowKit

theorem sizeLx18 : (Tryz.prog.info? 32).map (·.size) = some 6 := by kernel_rfl
theorem sizeOfLx18 : ∀ w, (Go.sizeOf 32).run Tryz.prog w = .ok 6 w := fun w => by kernel_rfl
theorem lxCell1 (x : Lx) (q : Nat) : (lxC x q).oneCell' = true := by
  match q with
  | 0 => rfl
  | 1 => rfl
  | 2 => rfl
  | 3 => rfl
  | 4 => rfl
  | _ + 5 => rfl
set_option maxRecDepth 100000 in
set_option maxHeartbeats 4000000 in
theorem insX_end (base g n cp vb : Nat) (ws : List Lx) (x : Lx) (w : World) (ho : OwnE 6 lxC w base 32 (.slice (some ⟨g, 0, none⟩) n cp) ws) (hn : ws.length = n) (hs : n ≤ 900) (hb : base ≤ w.heap.size) (hv : w.heap[vb]? = some (.cells #[.string x.p, .int .i64 x.nb, .int .i64 x.le, .int .i64 x.mo, .int .i64 x.ne, .slice x.d.a x.d.n x.d.c] 32 (0, 0))) :
    Calls Tryz.prog 43 #[.slice (some ⟨g, 0, none⟩) n cp, .int .i64 (n : Int), .slice (some ⟨vb, 0, none⟩) 1 1] w fun e w' => ∃ g' cp', e = .returned (.slice (some ⟨g', 0, none⟩) (n + 1) cp') ∧ OwnE 6 lxC w' base 32 (.slice (some ⟨g', 0, none⟩) (n + 1) cp') (insL ws n x) ∧ w.grownBy w' (some g) := by
  have hx : RowE 6 lxC w (some ⟨vb, 0, none⟩) 1 [x] := ⟨rfl, by omega, fun i hi => ⟨vb, 0, rfl, fun q hq => by
    obtain rfl : i = 0 := by omega
    match q, hq with
    | 0, _ => simp [World.cell?, hv, lxC, elAt]
    | 1, _ => simp [World.cell?, hv, lxC, elAt]
    | 2, _ => simp [World.cell?, hv, lxC, elAt]
    | 3, _ => simp [World.cell?, hv, lxC, elAt]
    | 4, _ => simp [World.cell?, hv, lxC, elAt]
    | 5, _ => simp [World.cell?, hv, lxC, slV, elAt]⟩⟩
  have hcap : n ≤ cp ∧ cp ≤ 9223372036854775807 := by
    rcases ho.form with ⟨e, _⟩ | ⟨g2, c2, e, _, _, hc, hm⟩
    · cases e
    · simp only [Value.slice.injEq] at e
      obtain ⟨_, _, rfl⟩ := e
      unfold maxLen at hm
      omega
  have HO := hide ho
  have HX := hide hx
  have HN := hide hn
  have HI : Hid (insL ws n x = ws ++ [x]) := hide (by rw [insL, ← hn, List.take_length, List.drop_length]; simp)
  clear ho hx hn hv
  go_enter Tryz.func43, Tryz.ntmps43
  go_wp2_with (at_builtin; (refine wpList_app_els (K := 6) (cells := lxC) (by kernel_rfl) _ _ 24 32 rfl Tryz.underlying24 infoLx rfl (by decide) (by decide) lxCell1 (unhide HO) rfl vb 0 1 1 [x] rfl (unhide HX) (by rw [unhide HN]; omega) hb ?_; intro v9 w9 o9 gr9 nn9))
  all_goals
    go_ret
    rw [unhide HI]
    rcases o9.form with ⟨e, _⟩ | ⟨g2, c2, e, _⟩
    · have := nn9 e
      cases this
    · subst e
      have el : (ws ++ [x]).length = n + 1 := by simp [unhide HN]
      rw [el] at o9 ⊢
      exact ⟨g2, c2, rfl, o9, gr9⟩
theorem insX_open {base g n cp : Nat} {ws : List Lx} {w : World} (ho : OwnE 6 lxC w base 32 (.slice (some ⟨g, 0, none⟩) n cp) ws) (hn : ws.length = n) :
    ∃ (cs : List Value) (cur : Array Value), base ≤ g ∧ g < w.heap.size ∧ w.heap[g]? = some (.cells cur 32 (0, 0)) ∧ n ≤ cp ∧ cp ≤ maxLen ∧ cur.size = cp * 6 ∧ cs.length = n * 6 ∧ (∀ j, j < n * 6 → cur.toList[j]? = cs[j]?) ∧ (∀ j v, cs[j]? = some v → w.cell? ⟨g, j, none⟩ = some v) ∧ (∀ j, j < ws.length → ∀ q, q < 6 → cs[j * 6 + q]? = some (lxC (elAt ws j) q)) ∧ (∀ v ∈ cs, v.oneCell' = true) := by
  subst hn
  obtain ⟨cs, ho2, hcs⟩ := ho.own
  have h1 := ho2.1
  rcases ho2.2 with ⟨e, _⟩ | ⟨g2, c2, cur, e, hb, hg, hc, hm, hz, ht⟩
  · cases e
  simp only [Value.slice.injEq, Option.some.injEq, Addr.mk.injEq, and_true, true_and] at e
  obtain ⟨rfl, rfl⟩ := e
  refine ⟨cs, cur, hb, ?_, hg, hc, hm, hz, h1, fun j hj => ?_, fun j v hj => ?_, hcs, fun v hv => ?_⟩
  · rcases Nat.lt_or_ge g w.heap.size with hlt | hge
    · exact hlt
    · rw [Array.getElem?_eq_none hge] at hg; cases hg
  · rw [← ht, List.getElem?_take, if_pos hj]
  · have hj' : j < ws.length * 6 := by
      rcases Nat.lt_or_ge j (ws.length * 6) with h | h
      · exact h
      · rw [List.getElem?_eq_none (by omega)] at hj; cases hj
    rw [ho2.cellAt j hj']; exact hj
  · obtain ⟨p, hp, rfl⟩ := List.getElem_of_mem hv
    have e := hcs (p / 6) (by omega) (p % 6) (by omega)
    rw [show p / 6 * 6 + p % 6 = p by omega, List.getElem?_eq_getElem hp] at e
    simp only [Option.some.injEq] at e
    rw [e]; exact lxCell1 _ _
set_option maxRecDepth 100000 in
set_option maxHeartbeats 4000000 in
theorem insX_grow (base g n cp vb k : Nat) (ws : List Lx) (x : Lx) (w : World) (ho : OwnE 6 lxC w base 32 (.slice (some ⟨g, 0, none⟩) n cp) ws) (hn : ws.length = n) (hs : n ≤ 900) (hb : base ≤ w.heap.size) (hk : k < n) (hroom : cp < n + 1) (hv : w.heap[vb]? = some (.cells #[.string x.p, .int .i64 x.nb, .int .i64 x.le, .int .i64 x.mo, .int .i64 x.ne, .slice x.d.a x.d.n x.d.c] 32 (0, 0))) :
    Calls Tryz.prog 43 #[.slice (some ⟨g, 0, none⟩) n cp, .int .i64 (k : Int), .slice (some ⟨vb, 0, none⟩) 1 1] w fun e w' => ∃ g' cp', e = .returned (.slice (some ⟨g', 0, none⟩) (n + 1) cp') ∧ OwnE 6 lxC w' base 32 (.slice (some ⟨g', 0, none⟩) (n + 1) cp') (insL ws k x) ∧ w.grownBy w' (some g) := by
  obtain ⟨cs, cur, _, hgw, hg, hnc, hcm, hcz, hcl, hcur, hcell, hcs, h1c⟩ := insX_open ho hn
  obtain ⟨i0, hi0, hz0, hzs, hzb⟩ := info_parts infoLx
  obtain ⟨N, hN⟩ : ∃ N, N = w.heap.size := ⟨_, rfl⟩
  have hold : (Builtin.firstCells i0.size k (.slice (some ⟨g, 0, none⟩) k cp)).run Tryz.prog w.drew = .ok (cs.take (k * 6)).toArray w.drew := by
    rw [hzs]
    exact run_firstCells_some w.drew 6 k ⟨g, 0, none⟩ k cp (cs.take (k * 6)) (by rw [List.length_take]; omega) (fun j v hj => by
      rw [addr_addR, Nat.zero_add]
      rw [List.getElem?_take] at hj
      split at hj
      · exact hcell j v hj
      · cases hj)
  have hkk : (n : Int) + 1 - (k : Int) = ((n + 1 - k : Nat) : Int) := by omega
  have hik : k + (n + 1 - k) = n + 1 := by omega
  obtain ⟨G, hG⟩ : ∃ G, G = grownCap w (n + 1) cp 32 := ⟨_, rfl⟩
  obtain ⟨ROW, hROW⟩ : ∃ ROW : Array Value, ROW = (cs.take (k * 6)).toArray ++ Builtin.zeroCells (Value.agg #[.string ⟨#[]⟩, .int .i64 0, .int .i64 0, .int .i64 0, .int .i64 0, .slice none 0 0]).cells (n + 1 - k) ++ Builtin.zeroCells (Value.agg #[.string ⟨#[]⟩, .int .i64 0, .int .i64 0, .int .i64 0, .int .i64 0, .slice none 0 0]).cells (G - (n + 1)) := ⟨_, rfl⟩
  have hrz : ∀ ty, (Builtin.append_ #[24, 3] ty #[.slice (some ⟨g, 0, none⟩) k cp, .int .i64 ((n : Int) + 1 - (k : Int))]).run Tryz.prog w = .ok (.slice (some ⟨N, 0, none⟩) (n + 1) G) (w.drew.alloc (.cells ROW 32)) := fun ty => by
    have h := Lib.run_append_grow_zeros w 24 3 ty 32 i0 _ .i64 .i64 Tryz.underlying24 Tryz.underlying3 hi0 hz0 (some ⟨g, 0, none⟩) k cp (cs.take (k * 6)) hold (n + 1 - k) (by omega) (by omega) (by omega) (by omega) (by rw [hzb]; omega) (by rw [hzb, hik]; exact growslice_fits hroom (by omega))
    rw [hik, ← hG, ← hROW, ← hN] at h
    rw [hkk]
    exact h
  have hGn : n + 1 ≤ G := by rw [hG]; exact grownCap_ge w _ _ _
  have hGm : G ≤ maxLen := by rw [hG]; exact grownCap_le_maxLen w (n + 1) cp _ (by unfold maxLen; omega)
  have hG63 : G ≤ 9223372036854775807 := by unfold maxLen at hGm; omega
  have hRl : ROW.size = G * 6 := by
    rw [hROW]
    simp [Builtin.zeroCells, Value.cells]
    omega
  have hRt : ∀ p, p < k * 6 → ROW.toList[p]? = cs[p]? := fun p hp => by
    rw [hROW]
    simp only [Array.toList_append, List.append_assoc]
    rw [List.getElem?_append_left (by rw [List.length_take]; omega), List.getElem?_take, if_pos hp]
  obtain ⟨W1, hW1⟩ : ∃ W1, W1 = w.drew.alloc (.cells ROW 32) := ⟨_, rfl⟩
  have hWN : W1.heap[N]? = some (.cells ROW 32 (0, 0)) := by
    rw [hW1, hN]
    show (w.heap.push _)[w.heap.size]? = _
    simp
  have hWo : ∀ j, j < N → W1.heap[j]? = w.heap[j]? := fun j hj => by
    rw [hW1]
    show (w.heap.push _)[j]? = _
    rw [Array.getElem?_push, if_neg (by omega)]
  have hvN : vb < N := by
    rcases Nat.lt_or_ge vb w.heap.size with hlt | hge
    · omega
    · rw [Array.getElem?_eq_none hge] at hv; cases hv
  obtain ⟨vs, hvs⟩ : ∃ vs : List Value, vs = [.string x.p, .int .i64 x.nb, .int .i64 x.le, .int .i64 x.mo, .int .i64 x.ne, .slice x.d.a x.d.n x.d.c] := ⟨_, rfl⟩
  have hvl : vs.length = 6 := by rw [hvs]; rfl
  have hv1 : ∀ v ∈ vs, v.oneCell' = true := by rw [hvs]; intro v hv; simp at hv; rcases hv with rfl | rfl | rfl | rfl | rfl | rfl <;> rfl
  have hvx : ∀ q, q < 6 → vs[q]? = some (lxC x q) := fun q hq => by
    rw [hvs]
    match q, hq with
    | 0, _ => rfl
    | 1, _ => rfl
    | 2, _ => rfl
    | 3, _ => rfl
    | 4, _ => rfl
    | 5, _ => rfl
  obtain ⟨R2, hR2⟩ : ∃ R2 : Array Value, R2 = (seg ROW.toList (k * 6) vs).toArray := ⟨_, rfl⟩
  obtain ⟨R3, hR3⟩ : ∃ R3 : Array Value, R3 = (seg R2.toList ((k + 1) * 6) (cs.drop (k * 6))).toArray := ⟨_, rfl⟩
  have hdl : (cs.drop (k * 6)).length = (n - k) * 6 := by rw [List.length_drop, hcl]; omega
  have hRl2 : ROW.toList.length = G * 6 := by simpa using hRl
  have hs2 : R2.toList.length = G * 6 := by rw [hR2]; simp only; rw [seg_len (by omega)]; exact hRl2
  have hs3 : R2.size = G * 6 := by simpa using hs2
  have hcpA : ∀ (W : World), W.heap = W1.heap → ∀ ty dc, (Builtin.copy_ #[24, 24] ty #[.slice (some ⟨N, k * 6, none⟩) (n + 1 - k) dc, .slice (some ⟨vb, 0, none⟩) 1 1]).run Tryz.prog W = .ok (goInt (Nat.min 1 (n + 1 - k))) (W.setRow N R2) := fun W hW ty dc => by
    rw [hR2]
    refine run_copy_rowK W _ _ ty 32 N (k * 6) (n + 1 - k) dc ⟨vb, 0, none⟩ 1 1 ROW 32 vs Tryz.underlying24 sizeLx18 (by rw [hW]; exact hWN) (by rw [hvl]; simp only [Nat.min_def]; split <;> omega) (fun j v hj => ?_) (by omega) hv1
    rw [addr_addR, Nat.zero_add]
    have e : W.heap[vb]? = some (.cells vs.toArray 32 (0, 0)) := by rw [hW, hWo vb hvN, hv, hvs]
    simp [World.cell?, e, hj]
  have hcpB : ∀ (W : World), W.heap = (W1.setRow N R2).heap → ∀ ty dc sc, (Builtin.copy_ #[24, 24] ty #[.slice (some ⟨N, (k + 1) * 6, none⟩) (n + 1 - (k + 1)) dc, .slice (some ⟨g, k * 6, none⟩) (n - k) sc]).run Tryz.prog W = .ok (goInt (Nat.min (n - k) (n + 1 - (k + 1)))) (W.setRow N R3) := fun W hW ty dc sc => by
    rw [hR3]
    refine run_copy_rowK W _ _ ty 32 N ((k + 1) * 6) (n + 1 - (k + 1)) dc ⟨g, k * 6, none⟩ (n - k) sc R2 32 (cs.drop (k * 6)) Tryz.underlying24 sizeLx18 (by rw [hW]; exact setRow_heap W1 N ROW R2 _ _ hWN) (by rw [hdl]; simp only [Nat.min_def]; split <;> omega) (fun j v hj => ?_) (by rw [hdl, hs3]; omega) (fun v hv => h1c v (List.mem_of_mem_drop hv))
    rw [List.getElem?_drop] at hj
    have e := hcell _ v hj
    rw [addr_addR]
    rw [← e]
    refine World.cell?_of_block (a := ⟨g, k * 6 + j, none⟩) ?_
    show W.heap[g]? = w.heap[g]?
    rw [hW, setRow_at (by omega), hWo g (by omega)]
  have hfin : ∀ (W : World), W.heap = ((W1.setRow N R2).setRow N R3).heap → W.os = w.os → W.tape = w.tape → W.output = w.output → OwnE 6 lxC W base 32 (.slice (some ⟨N, 0, none⟩) (n + 1) G) (insL ws k x) ∧ w.grownBy W (some g) := fun W hW o1 o2 o3 => by
    have hsz : W.heap.size = w.heap.size + 1 := by
      rw [hW]
      unfold World.setRow
      simp only [Array.size_modify]
      rw [hW1]
      show (w.heap.push _).size = _
      simp
    refine ⟨ownE_row (cur := R3) ?_ (by omega) (by rw [insL_len (by omega), hn]) hGn hGm ?_ ?_, grown_heap o1 o2 o3 (by omega) (fun j hj hne => ?_)⟩
    · rw [hW]
      exact setRow_heap (W1.setRow N R2) N R2 R3 _ _ (setRow_heap W1 N ROW R2 _ _ hWN)
    · rw [hR3]
      simp only [List.size_toArray]
      rw [seg_len (by rw [hs2, hdl]; omega)]
      exact hs2
    · have q1 : (k + 1) * 6 + (cs.drop (k * 6)).length ≤ R2.toList.length := by rw [hs2, hdl]; omega
      have q2 : k * 6 + vs.length ≤ ROW.toList.length := by rw [hRl2, hvl]; omega
      have r := ins_cells (L := R3.toList) (k := k) (x := x) (ps := ws) (K := 6) (cells := lxC) (by omega) hcs hvx
        (fun p hp => by rw [hR3]; simp only; rw [seg_out q1 (.inl (by omega)), hR2]; simp only; rw [seg_out q2 (.inl (by omega))]; exact hRt p hp)
        (fun p hp1 hp2 => by rw [hR3]; simp only; rw [seg_out q1 (.inl (by omega)), hR2]; simp only; rw [seg_in q2 hp1 (by omega)])
        (fun p hp1 hp2 => by
          rw [hn] at hp2
          rw [hR3]; simp only
          rw [seg_in q1 (by omega) (by omega), List.getElem?_drop]
          congr 1
          omega)
      rw [hn] at r
      exact r
    · rw [hW, setRow_at (by omega), setRow_at (by omega), hWo j (by omega)]
  have HF := hide hfin
  have hk0 : (0 : Int) ≤ (k : Int) := by omega
  have hkn : (k : Int) ≤ (n : Int) := by omega
  have hkn2 : k ≤ n := by omega
  have hz2 : ¬ ((k : Int) = (n : Int)) := by omega
  have hz3 : (cp : Int) < (n : Int) + 1 := by omega
  have hw1 : IntKind.i64.wrap ((k : Int) + 1) = (k : Int) + 1 := by rw [IntKind.wrap_i64]; omega
  have hb1 : (0 : Int) ≤ (k : Int) + 1 := by omega
  have htn : ((k : Int) + 1).toNat = k + 1 := by omega
  have hGi : ¬ (G = k) := by omega
  have hGim : ¬ (G = k + 1) := by omega
  have hci : ¬ (cp = k) := by omega
  have hc63 : cp ≤ 9223372036854775807 := by omega
  subst hW1
  have hE1 : ((w.alloc (.cells ROW 32)).drew).heap = (w.drew.alloc (.cells ROW 32)).heap := rfl
  have hF1 : (((w.alloc (.cells ROW 32)).drew.setRow N R2).drew).heap = ((w.drew.alloc (.cells ROW 32)).setRow N R2).heap := rfl
  clear hfin hkk hik hold hROW hRl hRt hWN hWo hs2 hs3 hdl hRl2 hR2 hR3 hcur hcell hcs h1c hcl hcz hcm hg hv hvN hvx hv1 hvl hvs hi0 hz0 hzs hzb ho hn hGm hG hgw hN
  go_enter Tryz.func43, Tryz.ntmps43
  go_wp2_with (first
    | (at_builtin; refine Lib.wpList_append_run _ rfl _ _ _ _ rfl _ _ rfl rfl _ _ (hrz _) ?_)
    | (at_builtin; refine wpList_copy_runI _ rfl _ _ 24 24 rfl _ _ rfl rfl (hcpA _ hE1 _ _) ?_))
  go_region_law (refine step_copy_runI rfl _ _ 24 24 rfl (.slice (some ⟨N, (k + 1) * 6, none⟩) (n + 1 - (k + 1)) (G - (k + 1))) (.slice (some ⟨g, k * 6, none⟩) (n - k) (cp - k)) (by simp [Act.eval, Act.put]) (by simp [Act.eval, Act.put]) (hcpB _ hF1 3 (G - (k + 1)) (cp - k)) ?_)
  go_wp2
  go_ret
  exact ⟨N, G, rfl, unhide HF _ rfl rfl rfl rfl⟩
set_option maxRecDepth 100000 in
set_option maxHeartbeats 4000000 in
theorem insX_shift (base g n cp vb k : Nat) (ws : List Lx) (x : Lx) (w : World) (ho : OwnE 6 lxC w base 32 (.slice (some ⟨g, 0, none⟩) n cp) ws) (hn : ws.length = n) (hs : n ≤ 900) (hk : k < n) (hroom : n + 1 ≤ cp) (hvb : vb ≠ g) (hv : w.heap[vb]? = some (.cells #[.string x.p, .int .i64 x.nb, .int .i64 x.le, .int .i64 x.mo, .int .i64 x.ne, .slice x.d.a x.d.n x.d.c] 32 (0, 0))) :
    Calls Tryz.prog 43 #[.slice (some ⟨g, 0, none⟩) n cp, .int .i64 (k : Int), .slice (some ⟨vb, 0, none⟩) 1 1] w fun e w' => ∃ g' cp', e = .returned (.slice (some ⟨g', 0, none⟩) (n + 1) cp') ∧ OwnE 6 lxC w' base 32 (.slice (some ⟨g', 0, none⟩) (n + 1) cp') (insL ws k x) ∧ w.grownBy w' (some g) := by
  obtain ⟨cs, cur, hbg, hgw, hg, hnc, hcm, hcz, hcl, hcur, hcell, hcs, h1c⟩ := insX_open ho hn
  have hc63 : cp ≤ 9223372036854775807 := by unfold maxLen at hcm; omega
  obtain ⟨vs, hvs⟩ : ∃ vs : List Value, vs = [.string x.p, .int .i64 x.nb, .int .i64 x.le, .int .i64 x.mo, .int .i64 x.ne, .slice x.d.a x.d.n x.d.c] := ⟨_, rfl⟩
  have hvl : vs.length = 6 := by rw [hvs]; rfl
  have hv1 : ∀ v ∈ vs, v.oneCell' = true := by rw [hvs]; intro v hv; simp at hv; rcases hv with rfl | rfl | rfl | rfl | rfl | rfl <;> rfl
  have hvx : ∀ q, q < 6 → vs[q]? = some (lxC x q) := fun q hq => by
    rw [hvs]
    match q, hq with
    | 0, _ => rfl
    | 1, _ => rfl
    | 2, _ => rfl
    | 3, _ => rfl
    | 4, _ => rfl
    | 5, _ => rfl
  have hv2 : w.heap[vb]? = some (.cells vs.toArray 32 (0, 0)) := by rw [hv, hvs]
  obtain ⟨R2, hR2⟩ : ∃ R2 : Array Value, R2 = (seg cur.toList ((k + 1) * 6) (cs.drop (k * 6))).toArray := ⟨_, rfl⟩
  obtain ⟨R3, hR3⟩ : ∃ R3 : Array Value, R3 = (seg R2.toList (k * 6) vs).toArray := ⟨_, rfl⟩
  have hdl : (cs.drop (k * 6)).length = (n - k) * 6 := by rw [List.length_drop, hcl]; omega
  have hcz2 : cur.toList.length = cp * 6 := by simpa using hcz
  have hs2 : R2.toList.length = cp * 6 := by rw [hR2]; simp only; rw [seg_len (by omega)]; exact hcz2
  have hs3 : R2.size = cp * 6 := by simpa using hs2
  have hov : ∀ lb cb, (callFunc 79 #[.slice (some ⟨vb, 0, none⟩) 1 1, .slice (some ⟨g, (k + 1) * 6, none⟩) lb cb]).run Tryz.prog w = .ok (.value (.bool false)) w := fun lb cb => by
    rw [run_callFunc_extern Tryz.func79 (by kernel_rfl) (by kernel_rfl) (by kernel_rfl) (e := Extern.SlicesOverlaps.overlaps #[24, 24] #[4]) (by kernel_rfl),
      Lib.run_overlaps_apart w 24 4 32 Tryz.underlying24 6 sizeOfLx18 ⟨vb, 0, none⟩ ⟨g, (k + 1) * 6, none⟩ 1 1 lb cb hvb 32 32 6 (cp * 6) (by simp [World.shape?, hv]) (by simp [World.shape?, hg, hcz]) (by omega) (by simp [World.frozen?, hv]) (by simp [World.frozen?, hv])]
    rfl
  have hcp1 : ∀ ty dc sc, (Builtin.copy_ #[24, 24] ty #[.slice (some ⟨g, (k + 1) * 6, none⟩) (n + 1 - (k + 1)) dc, .slice (some ⟨g, k * 6, none⟩) (n + 1 - k) sc]).run Tryz.prog w.drew = .ok (goInt (Nat.min (n + 1 - k) (n + 1 - (k + 1)))) (w.drew.setRow g R2) := fun ty dc sc => by
    rw [hR2]
    refine run_copy_rowK w.drew _ _ ty 32 g ((k + 1) * 6) (n + 1 - (k + 1)) dc ⟨g, k * 6, none⟩ (n + 1 - k) sc cur 32 (cs.drop (k * 6)) Tryz.underlying24 sizeLx18 hg (by rw [hdl]; simp only [Nat.min_def]; split <;> omega) (fun j v hj => ?_) (by rw [hdl, hcz]; omega) (fun v hv => h1c v (List.mem_of_mem_drop hv))
    rw [List.getElem?_drop] at hj
    rw [addr_addR]
    exact hcell _ v hj
  have hcp2 : ∀ (W : World), W.heap = (w.setRow g R2).heap → ∀ ty dc, (Builtin.copy_ #[24, 24] ty #[.slice (some ⟨g, k * 6, none⟩) (n + 1 - k) dc, .slice (some ⟨vb, 0, none⟩) 1 1]).run Tryz.prog W = .ok (goInt (Nat.min 1 (n + 1 - k))) (W.setRow g R3) := fun W hW ty dc => by
    rw [hR3]
    refine run_copy_rowK W _ _ ty 32 g (k * 6) (n + 1 - k) dc ⟨vb, 0, none⟩ 1 1 R2 32 vs Tryz.underlying24 sizeLx18 (by rw [hW]; exact setRow_heap w g cur R2 _ _ hg) (by rw [hvl]; simp only [Nat.min_def]; split <;> omega) (fun j v hj => ?_) (by rw [hs3, hvl]; omega) hv1
    rw [addr_addR, Nat.zero_add]
    have e : W.heap[vb]? = some (.cells vs.toArray 32 (0, 0)) := by rw [hW, setRow_at hvb]; exact hv2
    simp [World.cell?, e, hj]
  have hfin : ∀ (W : World), W.heap = ((w.setRow g R2).setRow g R3).heap → W.os = w.os → W.tape = w.tape → W.output = w.output → OwnE 6 lxC W base 32 (.slice (some ⟨g, 0, none⟩) (n + 1) cp) (insL ws k x) ∧ w.grownBy W (some g) := fun W hW o1 o2 o3 => by
    have hsz : W.heap.size = w.heap.size := by
      rw [hW]
      unfold World.setRow
      simp only [Array.size_modify]
    refine ⟨ownE_row (cur := R3) ?_ hbg (by rw [insL_len (by omega), hn]) hroom hcm ?_ ?_, grown_heap o1 o2 o3 (by omega) (fun j hj hne => ?_)⟩
    · rw [hW]
      exact setRow_heap (w.setRow g R2) g R2 R3 _ _ (setRow_heap w g cur R2 _ _ hg)
    · rw [hR3]
      simp only [List.size_toArray]
      rw [seg_len (by rw [hs2, hvl]; omega)]
      exact hs2
    · have q1 : (k + 1) * 6 + (cs.drop (k * 6)).length ≤ cur.toList.length := by rw [hcz2, hdl]; omega
      have q2 : k * 6 + vs.length ≤ R2.toList.length := by rw [hs2, hvl]; omega
      have r := ins_cells (L := R3.toList) (k := k) (x := x) (ps := ws) (K := 6) (cells := lxC) (by omega) hcs hvx
        (fun p hp => by rw [hR3]; simp only; rw [seg_out q2 (.inl (by omega)), hR2]; simp only; rw [seg_out q1 (.inl (by omega))]; exact hcur p (by omega))
        (fun p hp1 hp2 => by rw [hR3]; simp only; rw [seg_in q2 hp1 (by omega)])
        (fun p hp1 hp2 => by
          rw [hn] at hp2
          rw [hR3]; simp only
          rw [seg_out q2 (.inr (by omega)), hR2]; simp only
          rw [seg_in q1 (by omega) (by omega), List.getElem?_drop]
          congr 1
          omega)
      rw [hn] at r
      exact r
    · rw [hW, setRow_at hne, setRow_at hne]
  have HF := hide hfin
  have hk0 : (0 : Int) ≤ (k : Int) := by omega
  have hkn : (k : Int) ≤ (n : Int) := by omega
  have hkn2 : k ≤ n := by omega
  have hz2 : ¬ ((k : Int) = (n : Int)) := by omega
  have hz3 : ¬ (cp : Int) < (n : Int) + 1 := by omega
  have hw1 : IntKind.i64.wrap ((k : Int) + 1) = (k : Int) + 1 := by rw [IntKind.wrap_i64]; omega
  have hw2 : IntKind.i64.wrap ((n : Int) + 1) = (n : Int) + 1 := by rw [IntKind.wrap_i64]; omega
  have hb1 : (0 : Int) ≤ (k : Int) + 1 := by omega
  have htn : ((k : Int) + 1).toNat = k + 1 := by omega
  have htn2 : ((n : Int) + 1).toNat = n + 1 := by omega
  have hn1 : n + 1 ≤ cp := hroom
  have hb3 : (k : Int) ≤ (n : Int) + 1 := by omega
  have hGim : ¬ (cp = k + 1) := by omega
  have hci : ¬ (cp = k) := by omega
  have hE1 : (w.drew.setRow g R2).heap = (w.setRow g R2).heap := rfl
  clear hfin hs2 hs3 hdl hcz2 hR2 hR3 hcur hcell hcs h1c hcl hcz hcm hg hv hv2 hvx hv1 hvl hvs ho hn hgw hbg
  go_enter Tryz.func43, Tryz.ntmps43
  go_wp2_with (simp only [hov])
  go_region_law (refine step_copy_runI rfl _ _ 24 24 rfl (.slice (some ⟨g, (k + 1) * 6, none⟩) (n + 1 - (k + 1)) (cp - (k + 1))) (.slice (some ⟨g, k * 6, none⟩) (n + 1 - k) (cp - k)) (by simp [Act.eval, Act.put]) (by simp [Act.eval, Act.put]) (hcp1 3 (cp - (k + 1)) (cp - k)) ?_)
  go_wp2_with (at_builtin; refine wpList_copy_runI _ rfl _ _ 24 24 rfl _ _ rfl rfl (hcp2 _ hE1 _ _) ?_)
  go_ret
  exact ⟨g, cp, rfl, unhide HF _ rfl rfl rfl rfl⟩
theorem insX_is (base g n cp vb k : Nat) (ws : List Lx) (x : Lx) (w : World) (ho : OwnE 6 lxC w base 32 (.slice (some ⟨g, 0, none⟩) n cp) ws) (hn : ws.length = n) (hs : n ≤ 900) (hb : base ≤ w.heap.size) (hk : k ≤ n) (hvb : vb ≠ g) (hv : w.heap[vb]? = some (.cells #[.string x.p, .int .i64 x.nb, .int .i64 x.le, .int .i64 x.mo, .int .i64 x.ne, .slice x.d.a x.d.n x.d.c] 32 (0, 0))) :
    Calls Tryz.prog 43 #[.slice (some ⟨g, 0, none⟩) n cp, .int .i64 (k : Int), .slice (some ⟨vb, 0, none⟩) 1 1] w fun e w' => ∃ g' cp', e = .returned (.slice (some ⟨g', 0, none⟩) (n + 1) cp') ∧ OwnE 6 lxC w' base 32 (.slice (some ⟨g', 0, none⟩) (n + 1) cp') (insL ws k x) ∧ w.grownBy w' (some g) := by
  by_cases e : k = n
  · subst e
    exact insX_end base g k cp vb ws x w ho hn hs hb hv
  · by_cases e2 : cp < n + 1
    · exact insX_grow base g n cp vb k ws x w ho hn hs hb (by omega) e2 hv
    · exact insX_shift base g n cp vb k ws x w ho hn hs (by omega) (by omega) hvb hv

end Go.Proofs.YtemodlgmjgdjpaaGreatDoor

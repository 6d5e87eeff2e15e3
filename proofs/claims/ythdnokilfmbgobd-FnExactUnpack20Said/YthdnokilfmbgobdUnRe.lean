/-
  A record as the program's reader tells it, and a code. Nothing is written but the reader's own memory; the rows own their memory.
-/
import Derived.Test.YthdnokilfmbgobdUnHd
import Derived.Test.YthdnokilfmbgobdUnRo
import Derived.Test.YthdnokilfmbgobdRrGr
import Derived.Test.YthdnokilfmbgobdMadeI
namespace Go.Proofs.Ythdnokilfmbgobd
open Go Go.RowKit

/-- What reading a record leaves: the rows, the code, and where the reader stands. -/
def ReE (bs : List Int) (U bb bo n bc : Nat) (w : World) (e : Ending) (w' : World) : Prop :=
  w.grownBy w' (some U) ∧ ∃ g c us t, e = .returned (.tuple #[.slice (some ⟨g, 0, none⟩) (unLs bs).length c, .int .i64 (unCo bs)]) ∧ OwnRT w' w.heap.size (.slice (some ⟨g, 0, none⟩) (unLs bs).length c) us (unLs bs) ∧ Un w' U bb bo n bc t bs ∧ unPl bs = (if unCo bs = 0 then 0 else if unCo bs = 1 then (n : Int) else (t : Int))
theorem reE_none {bs : List Int} {U bb bo n bc t : Nat} {w w1 : World} {cc : Int} (gr : w.grownBy w1 (some U)) (u : Un w1 U bb bo n bc t bs) (hc : unCo bs = cc) (h0 : cc ≠ 0) (hl : unLs bs = []) (hp : unPl bs = (if cc = 1 then (n : Int) else (t : Int))) :
    ReE bs U bb bo n bc w (.returned (.tuple #[.slice (some ⟨w1.heap.size, 0, none⟩) 0 0, .int .i64 cc])) (w1.alloc (Obj.cells #[] 32)) := by
  refine ⟨grown_on gr (bel_grown (bel1 _) _), w1.heap.size, 0, [], t, by rw [hl, hc]; rfl, ?_, u.below (bel1 _), by rw [hc, if_neg h0]; exact hp⟩
  rw [hl]; exact ⟨ownRr_none gr.size, rfl⟩
theorem ahU_in {wd i : Nat} {z : List (List Int)} (hz : ∀ r ∈ z, r.length = wd ∧ ∀ x ∈ r, -30000 ≤ x ∧ x ≤ 30000) (hi : i ≤ z.length) {k : Nat} (hk : k < wd) : -30000 ≤ nth (ahU wd z i) k ∧ nth (ahU wd z i) k ≤ 30000 := by
  cases i with
  | zero => simp [ahU, nth, hk]
  | succ j =>
    have hj : j < z.length := by omega
    have e : nthS z j = z[j] := by simp [nthS, hj]
    have q := hz z[j] (List.getElem_mem hj)
    have hkl : k < (z[j]).length := by rw [q.1]; exact hk
    show -30000 ≤ nth (nthS z j) k ∧ nth (nthS z j) k ≤ 30000
    rw [e, show nth z[j] k = (z[j])[k] by simp [nth, hkl]]
    exact q.2 _ (List.getElem_mem hkl)
theorem ahU_last {wd i : Nat} {z : List (List Int)} {r : List Int} (h : z.length = i) : ahU wd (z ++ [r]) (i + 1) = r := by
  subst h; simp [ahU, nthS]

set_option maxRecDepth 20000 in
set_option maxHeartbeats 4000000 in
theorem readRecord_any (U bb bo n bc : Nat) (bs : List Int) (w : World) (h : Un w U bb bo n bc 0 bs) :
    Calls Try.prog 27 #[.pointer (some ⟨U, 0, none⟩)] w fun e w' => ReE bs U bb bo n bc w e w' := by
  have H := hide h
  have HLB := hide h.r.len_eq
  have HUW : Hid (U < w.heap.size) := hide h.k.lt
  have HBY : Hid (∀ i, i < bs.length → 0 ≤ elAt bs i ∧ elAt bs i ≤ 255) := hide (fun i hi => h.byt i (by rw [← h.r.len_eq]; exact hi))
  have hsm := h.sm
  clear h
  go_enter Try.func27, Try.ntmps27
  go_wp2_with fail
  refine (readHead_any _ _ _ _ _ bs _ (unhide H)).mono ?_
  rintro e w1 ⟨g1, he⟩
  have G1 := hide g1
  clear g1
  rcases he with ⟨hh, rfl, u1⟩ | ⟨hh, x, y, t, rfl, u1⟩ | ⟨hh, x, y, rfl, u1⟩
  case inr.inl =>
    have U1 := hide u1
    have HH := hide (un_h1 hh)
    clear u1 hh
    go_wp2_with fail
    refine bodyPost_ret (v := .tuple #[.slice (some ⟨w1.heap.size, 0, none⟩) 0 0, .int .i64 1]) (by simp [results, Try.results27, go_sem]) rfl ?_
    exact reE_none (unhide G1) (unhide U1) (unhide HH).1 (by omega) (unhide HH).2.2 (by rw [(unhide HH).2.1, if_pos rfl, unhide HLB])
  case inr.inr =>
    have U1 := hide u1
    have HH := hide (un_h2 hh)
    clear u1 hh
    go_wp2_with fail
    refine bodyPost_ret (v := .tuple #[.slice (some ⟨w1.heap.size, 0, none⟩) 0 0, .int .i64 2]) (by simp [results, Try.results27, go_sem]) rfl ?_
    exact reE_none (unhide G1) (unhide U1) (unhide HH).1 (by omega) (unhide HH).2.2 (by rw [(unhide HH).2.1, if_neg (by omega)])
  have U1 := hide u1
  have HH := hide hh
  have HK := hide (hd_ok (unhide HBY) hh)
  obtain ⟨N, hN⟩ : ∃ N, hdW bs = N := ⟨_, rfl⟩
  obtain ⟨M, hM⟩ : ∃ M, hdM bs = M := ⟨_, rfl⟩
  have hN8 : N ≤ 8 := by rw [← hN]; exact (unhide HK).2.2.2.1
  have hM200 : M ≤ 200 := by rw [← hM]; exact (unhide HK).2.2.2.2.1
  have H2L := hide (unhide HK).1
  have HT : Hid (unT bs = unRec bs N M) := hide (by rw [← hN, ← hM]; rfl)
  rw [hN, hM]
  clear u1 hh hN hM HK
  have hmk := fun W => madeI_run (L := N) (by omega) W
  go_wp2_with fail
  obtain ⟨V, hV⟩ : ∃ V, V = w1.alloc (Obj.cells #[] 32) := ⟨_, rfl⟩
  have hsV : V.heap.size = w1.heap.size + 1 := by rw [hV]; simp
  have RG : Hid (RrG w V w1.heap.size 0 0 [] []) := hide (by rw [hV]; exact ⟨ownRr_none (unhide G1).size, rfl, rfl⟩)
  have UV : Hid (Un V U bb bo n bc 2 bs) := hide (by rw [hV]; exact (unhide U1).below (bel1 _))
  have GV : Hid (w.grownBy V (some U)) := hide (by rw [hV]; exact grown_on (unhide G1) (bel_grown (bel1 _) _))
  rw [show w1.heap.size + 1 = V.heap.size from hsV.symm, ← hV]
  have RG2 := hide ((unhide RG).below (bel1 (w := V) (.cells (madeCells #[.int .i64 0] N) 3)))
  have UV2 := hide ((unhide UV).below (bel1 (w := V) (.cells (madeCells #[.int .i64 0] N) 3)))
  have GV2 := hide (grown_on (unhide GV) (bel_grown (bel1 (w := V) (.cells (madeCells #[.int .i64 0] N) 3)) (some U)))
  have AH0 : Hid (Row (V.alloc (.cells (madeCells #[.int .i64 0] N) 3)) (some ⟨V.heap.size, 0, none⟩) N (ahU N [] 0)) := hide (madeI_row V (by omega))
  have AL0 : Hid (∀ b o, some (⟨V.heap.size, 0, none⟩ : Addr) = some ⟨b, o, none⟩ → b ≠ U) := hide (fun b o e => by have := congrArg (fun x => x.map (·.block)) e; simp at this; have := (unhide GV).size; have := unhide HUW; omega)
  clear hV hsV RG UV GV U1 G1 hmk
  go_loopw [7, 8, 25] (fun o q i wr => ∃ (k t g c : Nat) (us : List Rx) (z : List (List Int)) (a : Option Addr) (d : Nat), k ≤ M ∧ i = .int .i64 k ∧ o = .slice (some ⟨g, 0, none⟩) k c ∧ q = .slice a N d ∧ unRec bs N k = ⟨0, t, z⟩ ∧ RrG w wr g k c us z ∧ Un wr U bb bo n bc t bs ∧ w.grownBy wr (some U) ∧ Row wr a N (ahU N z k) ∧ (∀ b o, a = some ⟨b, o, none⟩ → b ≠ U)) (fun _ _ i _ => M - (intOf i).toNat)
  case atStart => exact ⟨0, 2, _, _, [], [], _, _, Nat.zero_le _, rfl, rfl, rfl, rfl, unhide RG2, unhide UV2, unhide GV2, unhide AH0, unhide AL0⟩
  case round =>
    clear RG2 UV2 GV2 AH0 AL0
    obtain ⟨k, t, g, c, us, z, a, d, hk, rfl, rfl, rfl, hre, hrg, hu, hgr, hah, hal⟩ := hrel
    have HRE := hide hre
    have RG := hide hrg
    have UN := hide hu
    have GR := hide hgr
    have AH := hide hah
    have AL := hide hal
    clear hre hrg hu hgr hah hal
    by_cases hlt : k < M
    · have i1 : (k : Int) < (M : Int) := by omega
      have OK := hide (unRec_ok (bs := bs) (wd := N) (unhide H2L) k (by rw [unhide HRE]))
      have hok := unhide OK
      rw [unhide HRE] at hok
      have HIN : Hid (∀ j, j < N → -30000 ≤ nth (ahU N z k) j ∧ nth (ahU N z k) j ≤ 30000) := hide (fun j hj => ahU_in hok.2.2 (by have : z.length = k := hok.1; omega) hj)
      have HZK : Hid (z.length = k) := hide hok.1
      clear hok OK
      go_wp2_with fail
      refine (readRow_any _ _ _ _ _ _ bs _ _ _ (ahU N z k) _ (unhide UN) (unhide AH) (unhide AL) (unhide HIN) hN8).mono ?_
      rintro e w2 ⟨g2, he⟩
      have GR2 := hide (grown_on (unhide GR) g2)
      have RGL : Hid (RrLies w.heap.size wr.heap.size (.slice (some ⟨g, 0, none⟩) k c) us) := hide (unhide RG).o.lies
      have RG2 := hide ((unhide RG).far (unhide RGL) g2 (.inl (unhide HUW)))
      clear g2
      rcases he with ⟨hc, r, rc, rfl, o2, u2⟩ | ⟨hc, ra, rc, rfl, u2⟩
      · obtain ⟨t2, ht2⟩ : ∃ t2, (unRow bs (ahU N z k) t N).t = t2 := ⟨_, rfl⟩
        obtain ⟨z2, hz2⟩ : ∃ z2, (unRow bs (ahU N z k) t N).z = z2 := ⟨_, rfl⟩
        have HN : Hid (unRec bs N (k + 1) = ⟨0, t2, z ++ [z2]⟩) := hide (by rw [unRec_yes (unhide HRE) hc, ht2, hz2])
        rw [ht2] at u2
        rw [hz2] at o2
        have U2 := hide u2
        have O2 := hide o2
        have hwl : w.heap.size ≤ wr.heap.size := (unhide GR).size
        clear u2 o2 hc ht2 hz2
        go_wp2_with (at_builtin; refine wpList_app_elG (K := 1) (cells := rxC) rfl _ _ 23 32 rfl Try.underlying23 infoRx rfl (by decide) (by decide) (⟨some ⟨r, 0, none⟩, N, rc, z2⟩ : Rx) [.slice (some ⟨r, 0, none⟩) N rc] rfl (fun q hq => by match q, hq with | 0, _ => rfl) (fun u hu => by simp at hu; rcases hu with rfl; rfl) (unhide RG2).o.out (unhide RG2).l rfl rfl rfl (unhide GR2).size (by omega) ?_; intro g9 c9 w9 o9 gr9 hg9)
        have gr9' : w2.grownBy w9 (some g) := gr9
        have gl := (unhide RGL).1 g rfl
        have RG9 := hide ((unhide RG2).push (unhide RGL) (x := ⟨some ⟨r, 0, none⟩, N, rc, z2⟩) (unhide O2) hwl o9 gr9 hg9)
        have AH9 : Hid (Row w9 (some ⟨r, 0, none⟩) N z2) := hide (OwnI.row ((unhide RG2).row (unhide RGL) (unhide O2) gr9))
        have rl := (unhide O2).lies r rfl
        have U9 := hide ((unhide U2).far gr9' (fun e => by have := Option.some.inj e; have := unhide HUW; omega) (fun e => by
          have e := Option.some.inj e
          have hb := (unhide H).cell (i := 0) (by have := unhide H2L; have := unhide HLB; omega)
          have := block_lt_of_cell hb
          simp only at this
          omega))
        have GR9 := hide (grown_new (unhide GR2) gr9' gl.1)
        have AL9 : Hid (∀ b o, some (⟨r, 0, none⟩ : Addr) = some ⟨b, o, none⟩ → b ≠ U) := hide (fun b o e => by have := congrArg (fun x => x.map (·.block)) e; simp at this; have := unhide HUW; omega)
        have AHL : Hid (ahU N (z ++ [z2]) (k + 1) = z2) := hide (ahU_last (unhide HZK))
        clear o9 gr9 gr9' hg9 gl rl
        go_roundw
        case rel => exact ⟨k + 1, t2, g9, c9, _, _, _, _, by omega, by go_num, rfl, rfl, unhide HN, unhide RG9, unhide U9, unhide GR9, by rw [unhide AHL]; exact unhide AH9, unhide AL9⟩
        case measure => simp [intOf]; omega
      · obtain ⟨cc, hcc⟩ : ∃ cc, (unRow bs (ahU N z k) t N).c = cc := ⟨_, rfl⟩
        obtain ⟨t2, ht2⟩ : ∃ t2, (unRow bs (ahU N z k) t N).t = t2 := ⟨_, rfl⟩
        have HN : Hid (unT bs = ⟨cc, t2, z⟩) := hide (by
          have e1 := unRec_no (unhide HRE) hc
          rw [hcc, ht2] at e1
          rw [unhide HT, unRec_stop (k := k + 1) (by rw [e1, ← hcc]; exact hc) M (by omega), e1])
        rw [hcc] at hc ⊢
        rw [ht2] at u2
        have HCC := hide hc
        have U2 := hide u2
        have n0 : ((cc : Int) != 0) = true := by simp; omega
        have HUC := hide (un_code (unhide HH) (unhide HN) hc)
        clear hcc ht2 hc u2
        go_wp2_with fail
        refine bodyPost_ret (v := .tuple #[.slice (some ⟨w2.heap.size, 0, none⟩) 0 0, .int .i64 (cc : Int)]) (by simp [results, Try.results27, go_sem]) rfl ?_
        exact reE_none (unhide GR2) (unhide U2) (unhide HUC).1 (by have := unhide HCC; omega) (unhide HUC).2.2 (by
          rw [(unhide HUC).2.1, unhide HLB]
          by_cases q : cc = 1
          · rw [if_pos q, if_pos (by omega)]
          · rw [if_neg q, if_neg (by omega)])
    · have i1 : ¬ (k : Int) < (M : Int) := by omega
      have HTT : Hid (unT bs = ⟨0, t, z⟩) := hide (by rw [unhide HT, ← unhide HRE, show k = M by omega])
      obtain ⟨ι, fW, _, hcb, hcl⟩ := belClass wr
      have HB := hide hcb
      have HA := hide hcl
      have c0 : ∀ x, (fW x).cell? ⟨U, 0, none⟩ = some (.slice (some ⟨bb, bo, none⟩) n bc) := fun x => ((unhide UN).k.below (hcb x)).c 0 (by simp)
      have c1 : ∀ x, (fW x).cell? ⟨U, 1, none⟩ = some (.int .i64 (t : Int)) := fun x => ((unhide UN).k.below (hcb x)).c 1 (by simp)
      obtain ⟨y0, hy0⟩ := hcl wr (Below.refl _ _)
      have htn := (unhide UN).le
      rw [hy0]
      clear hcb hcl hy0
      by_cases ht : t < n
      · have t1 : (t : Int) < (n : Int) := by omega
        have HUC := hide (un_more (unhide HH) (unhide HTT) (by rw [unhide HLB]; exact ht))
        go_wp2_with fail
        repeat (refine wp_region_bel (fun w' h => (unhide HA) w' ((unhide HB _).trans (h.mono (unhide HB _).size))) (by kernel_rfl) (by kernel_rfl) ?_; (repeat (go_big_quiet_step (fail))); refine wpQuiet_nil ?_; rintro _ ⟨y, rfl⟩; (first | go_wp2_with fail | go_wp2))
        refine bodyPost_ret (v := .tuple #[.slice (some ⟨(fW y).heap.size, 0, none⟩) 0 0, .int .i64 4]) (by simp [results, Try.results27, go_sem]) rfl ?_
        exact reE_none (grown_on (unhide GR) (bel_grown (unhide HB y) _)) ((unhide UN).below (unhide HB y)) (unhide HUC).1 (by omega) (unhide HUC).2.2 (by rw [(unhide HUC).2.1, if_neg (by omega)])
      · have t1 : ¬ (t : Int) < (n : Int) := by omega
        have HUC := hide (un_well (unhide HH) (unhide HTT) (by rw [unhide HLB]; exact ht))
        have HKL : Hid (z.length = k) := hide (by rw [← (unhide RG).z, rxZ, List.length_map, (unhide RG).l])
        go_wp2_with fail
        repeat (refine wp_region_bel (fun w' h => (unhide HA) w' ((unhide HB _).trans (h.mono (unhide HB _).size))) (by kernel_rfl) (by kernel_rfl) ?_; (repeat (go_big_quiet_step (fail))); refine wpQuiet_nil ?_; rintro _ ⟨y, rfl⟩; (first | go_wp2_with fail | go_wp2))
        refine bodyPost_ret (v := .tuple #[.slice (some ⟨g, 0, none⟩) k c, .int .i64 0]) (by simp [results, Try.results27, go_sem]) rfl ?_
        refine ⟨grown_on (unhide GR) (bel_grown (unhide HB y) _), g, c, us, t, ?_, ?_, (unhide UN).below (unhide HB y), ?_⟩
        · rw [(unhide HUC).1, (unhide HUC).2.2, unhide HKL]
        · rw [(unhide HUC).2.2, unhide HKL]; exact ⟨(unhide RG).o.below (unhide HB y), (unhide RG).z⟩
        · rw [(unhide HUC).1, if_pos rfl, (unhide HUC).2.1]

end Go.Proofs.Ythdnokilfmbgobd

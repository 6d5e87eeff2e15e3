/-
  A deed as it is drawn: its name is short. At every cursor; nothing that was there is written but the cursor.
-/
import Derived.Test.YtfnnfldfnjnlfagDwIs
namespace Go.Proofs.Ytfnnfldfnjnlfag
open Go Go.RowKit

theorem fit_lits {zs : List ByteArray} (h : ∀ x ∈ zs, x.size ≤ 100) (i : Nat) : fitT (elAt zs i) := by
  unfold elAt fitT
  rcases Nat.lt_or_ge i zs.length with hi | hi
  · rw [List.getElem?_eq_getElem hi]
    have := h _ (List.getElem_mem hi)
    show zs[i].size ≤ _
    omega
  · rw [List.getElem?_eq_none hi]; show (default : ByteArray).size ≤ _; decide
def n6D : List ByteArray := [⟨#[101, 110, 103, 105, 110, 101]⟩, ⟨#[102, 114, 97, 109, 101]⟩, ⟨#[103, 101, 97, 114]⟩, ⟨#[119, 105, 110, 103]⟩, ⟨#[108, 97, 109, 112]⟩, ⟨#[115, 101, 97, 116]⟩]
def n3D : List ByteArray := [⟨#[]⟩, ⟨#[97, 32, 98]⟩, ⟨#[110, 111, 110, 101]⟩]
theorem n6_fit (i : Nat) : fitT (elAt n6D i) := fit_lits (by decide) i
theorem n3_fit (i : Nat) : fitT (elAt n3D i) := fit_lits (by decide) i
theorem row_litD (w : World) (zs : List Int) (hn : zs.length ≤ 100) (hf : ∀ i : Nat, -9223372036854775808 ≤ nth zs i ∧ nth zs i ≤ 9223372036854775807) : Row (w.alloc (Obj.cells (zs.map (Value.int .i64)).toArray 3)) (some ⟨w.heap.size, 0, none⟩) zs.length zs := by
  refine ⟨rfl, by omega, fun i hi => ⟨_, _, rfl, ?_⟩, hf⟩
  rw [Nat.zero_add]
  have := (Blk.new (w := w) (zs.map (Value.int .i64)) 3).c i (by simpa using hi)
  rw [this]
  simp [nth, hi]
set_option maxRecDepth 20000 in
set_option maxHeartbeats 4000000 in
theorem drDeed {w : World} {C : Nat} {a : Option Addr} {len cap : Nat} (W : World) (h : Dr w C a len cap W) (hin : ∀ b off, a = some ⟨b, off, none⟩ → b < w.heap.size) :
    Calls Try.prog 32 #[.pointer (some ⟨C, 0, none⟩)] W fun e w' => ∃ d : De, e = .returned (.agg #[.int .i64 d.k, .string d.n, .int .i64 d.i, .int .i64 d.m]) ∧ fitT d.n ∧ Dr w C a len cap w' ∧ W.grownBy w' (some C) := by
  have hC : W.heap.size ≠ C := Nat.ne_of_gt h.lt
  obtain ⟨V0, hV0⟩ : ∃ V, V = W.alloc (Obj.cells #[.int .i64 0, .string ⟨#[]⟩, .int .i64 0, .int .i64 0] 42) := ⟨_, rfl⟩
  have b0 : Below W.heap.size W V0 := by rw [hV0]; exact bel1 _
  have K0 : Hid (Dk w C a len cap W V0) := hide ((Dk.start h hin).below b0)
  have R0 : Hid (Blk V0 W.heap.size [.int .i64 0, .string ⟨#[]⟩, .int .i64 0, .int .i64 0]) := hide (by rw [hV0]; exact Blk.new _ _)
  have HW := hide hV0
  clear hV0 b0 h hin
  go_enter Try.func32, Try.ntmps32
  go_upto_region 1 with fail
  rw [← unhide HW]
  clear HW
  go_wp2_with fail
  refine (drBelow 5 _ (unhide K0).d (by omega)).mono ?_
  rintro e w1 ⟨x0, rfl, h0, d, gr⟩
  have K1 := hide ((unhide K0).call gr d)
  have R1 := hide ((unhide R0).apart gr (fun e => hC (Option.some.inj e)))
  obtain ⟨k, hk⟩ : ∃ k, 1 + x0 = k := ⟨_, rfl⟩
  clear d gr K0 R0
  go_wp2_with fail
  obtain ⟨V1, hV1⟩ : ∃ V, V = w1.alloc (Obj.cells #[.string ⟨#[101, 110, 103, 105, 110, 101]⟩, .string ⟨#[102, 114, 97, 109, 101]⟩, .string ⟨#[103, 101, 97, 114]⟩, .string ⟨#[119, 105, 110, 103]⟩, .string ⟨#[108, 97, 109, 112]⟩, .string ⟨#[115, 101, 97, 116]⟩] 9) := ⟨_, rfl⟩
  have N1 : Hid (Blk V1 w1.heap.size (n6D.map Value.string)) := hide (by rw [hV1]; exact Blk.new (w := w1) (n6D.map Value.string) _)
  have b1 : Below w1.heap.size w1 V1 := by rw [hV1]; exact bel1 _
  have K2 := hide ((unhide K1).below b1)
  have R2 := hide ((unhide R1).below b1)
  have hN : w1.heap.size ≠ C := by have := (unhide K1).d.lt; omega
  rw [← hV1]
  clear hV1 b1 K1 R1
  refine (drPick w1.heap.size 6 6 n6D _ (unhide K2).d (unhide N1) rfl hN (by omega)).mono ?_
  rintro e w2 ⟨j, hj, rfl, d, gr⟩
  have K3 := hide ((unhide K2).call gr d)
  have R3 := hide ((unhide R2).apart gr (fun e => hC (Option.some.inj e)))
  obtain ⟨n, hn⟩ : ∃ n, elAt n6D j = n := ⟨_, rfl⟩
  have FN : Hid (fitT n) := hide (by rw [← hn]; exact n6_fit j)
  rw [hn]
  clear d gr K2 R2 N1 hn hj
  go_wp2_with fail
  refine (drBelow 12 _ (unhide K3).d (by omega)).mono ?_
  rintro e w3 ⟨x1, rfl, h1, d, gr⟩
  have K4 := hide ((unhide K3).call gr d)
  have R4 := hide ((unhide R3).apart gr (fun e => hC (Option.some.inj e)))
  obtain ⟨i, hi⟩ : ∃ i, 1 + x1 = i := ⟨_, rfl⟩
  clear d gr K3 R3
  go_wp2_with fail
  refine (drBelow 15 _ (unhide K4).d (by omega)).mono ?_
  rintro e w4 ⟨x2, rfl, h2, d, gr⟩
  have K5 := hide ((unhide K4).call gr d)
  have R5 := hide ((unhide R4).apart gr (fun e => hC (Option.some.inj e)))
  obtain ⟨m, hm⟩ : ∃ m, 1 + x2 = m := ⟨_, rfl⟩
  clear d gr K4 R4 hk hi
  obtain ⟨V5, hV5⟩ : ∃ V, V = w4.alloc (Obj.cells #[.int .i64 k, .string n, .int .i64 i, .int .i64 m] 42) := ⟨_, rfl⟩
  have TB : Hid (Blk V5 w4.heap.size [.int .i64 k, .string n, .int .i64 i, .int .i64 m]) := hide (by rw [hV5]; exact Blk.new _ _)
  have b5 : Below w4.heap.size w4 V5 := by rw [hV5]; exact bel1 _
  have K6 := hide ((unhide K5).below b5)
  have R6 := hide ((unhide R5).below b5)
  have hT : w4.heap.size ≠ C := by have := (unhide K5).d.lt; omega
  have hTR : w4.heap.size ≠ W.heap.size := by have := (unhide R5).lt; omega
  have hT0 : W.heap.size ≤ w4.heap.size := (unhide K5).g.size
  obtain ⟨P, hP⟩ : ∃ P, w4.heap.size = P := ⟨_, rfl⟩
  have HV5 := hide hV5
  clear hV5 b5 K5 R5
  go_wp2_with fail
  rw [← unhide HV5]
  rw [hP] at TB hT hTR hT0
  clear HV5 hP hm h0 h1 h2
  refine (drOnce 3 _ (unhide K6).d (by omega)).mono ?_
  rintro e w7 ⟨b, rfl, d, gr⟩
  have K8 := hide ((unhide K6).call gr d)
  have R8 := hide ((unhide R6).apart gr (fun e => hC (Option.some.inj e)))
  have TB8 := hide ((unhide TB).apart gr (fun e => hT (Option.some.inj e)))
  clear d gr K6 R6 TB
  cases b
  · go_upto_region 4 with fail
    go_wp2_with fail
    refine (drBelow 40 _ (unhide K8).d (by omega)).mono ?_
    rintro e w9 ⟨x, rfl, hx, d, gr⟩
    have K11 := hide ((unhide K8).call gr d)
    have R11 := hide ((unhide R8).apart gr (fun e => hC (Option.some.inj e)))
    have TB11 := hide ((unhide TB8).apart gr (fun e => hT (Option.some.inj e)))
    clear d gr K8 R8 TB8
    have hG : w9.heap.size ≠ C := by have := (unhide K11).d.lt; omega
    have hGP : w9.heap.size ≠ P := by have := (unhide TB11).lt; omega
    rcases (show x = 0 ∨ x = 1 ∨ x = 2 ∨ x = 3 ∨ (x ≠ 0 ∧ x ≠ 1 ∧ x ≠ 2 ∧ x ≠ 3) by omega) with rfl | rfl | rfl | rfl | ⟨n0, n1, n2, n3⟩
    · go_wp2_with fail
      obtain ⟨Va, hVa⟩ : ∃ V, V = w9.alloc (Obj.cells #[.int .i64 0, .int .i64 6] 3) := ⟨_, rfl⟩
      have ba : Below w9.heap.size w9 Va := by rw [hVa]; exact bel1 _
      have Ka := hide ((unhide K11).below ba)
      have Ra := hide ((unhide R11).below ba)
      have Ta := hide ((unhide TB11).below ba)
      have Na : Hid (Row Va (some ⟨w9.heap.size, 0, none⟩) 2 [0, 6]) := hide (by rw [hVa]; exact row_litD w9 [0, 6] (by simp) (fun j => by rcases j with _ | _ | j <;> simp [nth]))
      rw [← hVa]
      clear hVa ba K11 R11 TB11
      refine (drPickInt w9.heap.size 2 2 [0, 6] _ (unhide Ka).d (unhide Na) hG (by omega)).mono ?_
      rintro e w10 ⟨j, hj, rfl, d, gr⟩
      obtain ⟨v, hv⟩ : ∃ v, nth [0, 6] j = v := ⟨_, rfl⟩
      rw [hv]
      have Kb := hide ((unhide Ka).call gr d)
      have Rb := hide ((unhide Ra).apart gr (fun e => hC (Option.some.inj e)))
      have Tb := hide ((unhide Ta).apart gr (fun e => hT (Option.some.inj e)))
      clear d gr Ka Ra Ta Na hv hj
      have tc0 : w10.cell? ⟨P, 0, none⟩ = some (.int .i64 k) := (unhide Tb).c 0 (by simp)
      have tf0 : w10.frozen? ⟨P, 0, none⟩ = false := (unhide Tb).f 0 (by simp)
      go_upto_region 13 with fail
      obtain ⟨Vc, hVs⟩ : ∃ V, V = w10.setCell ⟨P, 0, none⟩ (.int .i64 v) := ⟨_, rfl⟩
      have Kc : Hid (Dk w C a len cap W Vc) := hide (by rw [hVs]; exact (unhide Kb).own (grown_set (grown_refl w10 (some P)) 0 _) hT0)
      have Rc : Hid (Blk Vc W.heap.size [.int .i64 0, .string ⟨#[]⟩, .int .i64 0, .int .i64 0]) := hide (by rw [hVs]; exact (unhide Rb).other (by simpa using hTR) _)
      have Tc : Hid (Blk Vc P [.int .i64 v, .string n, .int .i64 i, .int .i64 m]) := hide (by rw [hVs]; have k := (unhide Tb).set 0 (by simp) (.int .i64 v); simpa using k)
      rw [← hVs]
      clear hVs Kb Rb Tb
      clear tc0 tf0
      go_wp2_with (first
        | ((with_reducible show wpList _ _ _ (⟨_, .load 42 _, _, _, _, none⟩ :: _) _ _); refine at_loadAgg (vs := [.int .i64 v, .string n, .int .i64 i, .int .i64 m]) Try.isAgg42 Try.sizeOf42 rfl (unhide Tc) ?_)
        | ((with_reducible show wpList _ _ _ (⟨none, .store 42 _ _, _, _, _, none⟩ :: _) _ _); refine at_storeAgg (us := [.int .i64 0, .string ⟨#[]⟩, .int .i64 0, .int .i64 0]) (vs := [.int .i64 v, .string n, .int .i64 i, .int .i64 m]) Try.sizeOf42 rfl rfl (unhide Rc) rfl (fun v hv => by simp at hv; rcases hv with rfl | rfl | rfl | rfl <;> rfl) ?_; intro wz k9 g9; have K9 := hide k9; have G9 := hide g9; clear k9 g9))
      have KZ := (unhide Kc).own (unhide G9) (Nat.le_refl _)
      exact bodyPost_ret (results_cell (vs := [.int .i64 v, .string n, .int .i64 i, .int .i64 m]) rfl Try.isAgg42 Try.sizeOf42 rfl (unhide K9)) rfl ⟨⟨v, n, i, m⟩, rfl, unhide FN, KZ.d, KZ.gr⟩
    · go_wp2_with fail
      obtain ⟨Va, hVa⟩ : ∃ V, V = w9.alloc (Obj.cells #[.string ⟨#[]⟩, .string ⟨#[97, 32, 98]⟩, .string ⟨#[110, 111, 110, 101]⟩] 9) := ⟨_, rfl⟩
      have ba : Below w9.heap.size w9 Va := by rw [hVa]; exact bel1 _
      have Ka := hide ((unhide K11).below ba)
      have Ra := hide ((unhide R11).below ba)
      have Ta := hide ((unhide TB11).below ba)
      have Na : Hid (Blk Va w9.heap.size (n3D.map Value.string)) := hide (by rw [hVa]; exact Blk.new (w := w9) (n3D.map Value.string) _)
      rw [← hVa]
      clear hVa ba K11 R11 TB11
      refine (drPick w9.heap.size 3 3 n3D _ (unhide Ka).d (unhide Na) rfl hG (by omega)).mono ?_
      rintro e w10 ⟨j, hj, rfl, d, gr⟩
      obtain ⟨v, hv⟩ : ∃ v, elAt n3D j = v := ⟨_, rfl⟩
      have FV : Hid (fitT v) := hide (by rw [← hv]; exact n3_fit j)
      rw [hv]
      have Kb := hide ((unhide Ka).call gr d)
      have Rb := hide ((unhide Ra).apart gr (fun e => hC (Option.some.inj e)))
      have Tb := hide ((unhide Ta).apart gr (fun e => hT (Option.some.inj e)))
      clear d gr Ka Ra Ta Na hv hj
      have tc1 : w10.cell? ⟨P, 1, none⟩ = some (.string n) := (unhide Tb).c 1 (by simp)
      have tf1 : w10.frozen? ⟨P, 1, none⟩ = false := (unhide Tb).f 1 (by simp)
      go_upto_region 13 with fail
      obtain ⟨Vc, hVs⟩ : ∃ V, V = w10.setCell ⟨P, 1, none⟩ (.string v) := ⟨_, rfl⟩
      have Kc : Hid (Dk w C a len cap W Vc) := hide (by rw [hVs]; exact (unhide Kb).own (grown_set (grown_refl w10 (some P)) 1 _) hT0)
      have Rc : Hid (Blk Vc W.heap.size [.int .i64 0, .string ⟨#[]⟩, .int .i64 0, .int .i64 0]) := hide (by rw [hVs]; exact (unhide Rb).other (by simpa using hTR) _)
      have Tc : Hid (Blk Vc P [.int .i64 k, .string v, .int .i64 i, .int .i64 m]) := hide (by rw [hVs]; have k := (unhide Tb).set 1 (by simp) (.string v); simpa using k)
      rw [← hVs]
      clear hVs Kb Rb Tb
      clear tc1 tf1
      go_wp2_with (first
        | ((with_reducible show wpList _ _ _ (⟨_, .load 42 _, _, _, _, none⟩ :: _) _ _); refine at_loadAgg (vs := [.int .i64 k, .string v, .int .i64 i, .int .i64 m]) Try.isAgg42 Try.sizeOf42 rfl (unhide Tc) ?_)
        | ((with_reducible show wpList _ _ _ (⟨none, .store 42 _ _, _, _, _, none⟩ :: _) _ _); refine at_storeAgg (us := [.int .i64 0, .string ⟨#[]⟩, .int .i64 0, .int .i64 0]) (vs := [.int .i64 k, .string v, .int .i64 i, .int .i64 m]) Try.sizeOf42 rfl rfl (unhide Rc) rfl (fun v hv => by simp at hv; rcases hv with rfl | rfl | rfl | rfl <;> rfl) ?_; intro wz k9 g9; have K9 := hide k9; have G9 := hide g9; clear k9 g9))
      have KZ := (unhide Kc).own (unhide G9) (Nat.le_refl _)
      exact bodyPost_ret (results_cell (vs := [.int .i64 k, .string v, .int .i64 i, .int .i64 m]) rfl Try.isAgg42 Try.sizeOf42 rfl (unhide K9)) rfl ⟨⟨k, v, i, m⟩, rfl, unhide FV, KZ.d, KZ.gr⟩
    · go_wp2_with fail
      obtain ⟨Va, hVa⟩ : ∃ V, V = w9.alloc (Obj.cells #[.int .i64 0, .int .i64 (-1), .int .i64 1000000, .int .i64 1000001] 3) := ⟨_, rfl⟩
      have ba : Below w9.heap.size w9 Va := by rw [hVa]; exact bel1 _
      have Ka := hide ((unhide K11).below ba)
      have Ra := hide ((unhide R11).below ba)
      have Ta := hide ((unhide TB11).below ba)
      have Na : Hid (Row Va (some ⟨w9.heap.size, 0, none⟩) 4 [0, -1, 1000000, 1000001]) := hide (by rw [hVa]; exact row_litD w9 [0, -1, 1000000, 1000001] (by simp) (fun j => by rcases j with _ | _ | _ | _ | j <;> simp [nth]))
      rw [← hVa]
      clear hVa ba K11 R11 TB11
      refine (drPickInt w9.heap.size 4 4 [0, -1, 1000000, 1000001] _ (unhide Ka).d (unhide Na) hG (by omega)).mono ?_
      rintro e w10 ⟨j, hj, rfl, d, gr⟩
      obtain ⟨v, hv⟩ : ∃ v, nth [0, -1, 1000000, 1000001] j = v := ⟨_, rfl⟩
      rw [hv]
      have Kb := hide ((unhide Ka).call gr d)
      have Rb := hide ((unhide Ra).apart gr (fun e => hC (Option.some.inj e)))
      have Tb := hide ((unhide Ta).apart gr (fun e => hT (Option.some.inj e)))
      clear d gr Ka Ra Ta Na hv hj
      have tc2 : w10.cell? ⟨P, 2, none⟩ = some (.int .i64 i) := (unhide Tb).c 2 (by simp)
      have tf2 : w10.frozen? ⟨P, 2, none⟩ = false := (unhide Tb).f 2 (by simp)
      go_upto_region 13 with fail
      obtain ⟨Vc, hVs⟩ : ∃ V, V = w10.setCell ⟨P, 2, none⟩ (.int .i64 v) := ⟨_, rfl⟩
      have Kc : Hid (Dk w C a len cap W Vc) := hide (by rw [hVs]; exact (unhide Kb).own (grown_set (grown_refl w10 (some P)) 2 _) hT0)
      have Rc : Hid (Blk Vc W.heap.size [.int .i64 0, .string ⟨#[]⟩, .int .i64 0, .int .i64 0]) := hide (by rw [hVs]; exact (unhide Rb).other (by simpa using hTR) _)
      have Tc : Hid (Blk Vc P [.int .i64 k, .string n, .int .i64 v, .int .i64 m]) := hide (by rw [hVs]; have k := (unhide Tb).set 2 (by simp) (.int .i64 v); simpa using k)
      rw [← hVs]
      clear hVs Kb Rb Tb
      clear tc2 tf2
      go_wp2_with (first
        | ((with_reducible show wpList _ _ _ (⟨_, .load 42 _, _, _, _, none⟩ :: _) _ _); refine at_loadAgg (vs := [.int .i64 k, .string n, .int .i64 v, .int .i64 m]) Try.isAgg42 Try.sizeOf42 rfl (unhide Tc) ?_)
        | ((with_reducible show wpList _ _ _ (⟨none, .store 42 _ _, _, _, _, none⟩ :: _) _ _); refine at_storeAgg (us := [.int .i64 0, .string ⟨#[]⟩, .int .i64 0, .int .i64 0]) (vs := [.int .i64 k, .string n, .int .i64 v, .int .i64 m]) Try.sizeOf42 rfl rfl (unhide Rc) rfl (fun v hv => by simp at hv; rcases hv with rfl | rfl | rfl | rfl <;> rfl) ?_; intro wz k9 g9; have K9 := hide k9; have G9 := hide g9; clear k9 g9))
      have KZ := (unhide Kc).own (unhide G9) (Nat.le_refl _)
      exact bodyPost_ret (results_cell (vs := [.int .i64 k, .string n, .int .i64 v, .int .i64 m]) rfl Try.isAgg42 Try.sizeOf42 rfl (unhide K9)) rfl ⟨⟨k, n, v, m⟩, rfl, unhide FN, KZ.d, KZ.gr⟩
    · go_wp2_with fail
      obtain ⟨Va, hVa⟩ : ∃ V, V = w9.alloc (Obj.cells #[.int .i64 0, .int .i64 100, .int .i64 101, .int .i64 9223372036854775807] 3) := ⟨_, rfl⟩
      have ba : Below w9.heap.size w9 Va := by rw [hVa]; exact bel1 _
      have Ka := hide ((unhide K11).below ba)
      have Ra := hide ((unhide R11).below ba)
      have Ta := hide ((unhide TB11).below ba)
      have Na : Hid (Row Va (some ⟨w9.heap.size, 0, none⟩) 4 [0, 100, 101, 9223372036854775807]) := hide (by rw [hVa]; exact row_litD w9 [0, 100, 101, 9223372036854775807] (by simp) (fun j => by rcases j with _ | _ | _ | _ | j <;> simp [nth]))
      rw [← hVa]
      clear hVa ba K11 R11 TB11
      refine (drPickInt w9.heap.size 4 4 [0, 100, 101, 9223372036854775807] _ (unhide Ka).d (unhide Na) hG (by omega)).mono ?_
      rintro e w10 ⟨j, hj, rfl, d, gr⟩
      obtain ⟨v, hv⟩ : ∃ v, nth [0, 100, 101, 9223372036854775807] j = v := ⟨_, rfl⟩
      rw [hv]
      have Kb := hide ((unhide Ka).call gr d)
      have Rb := hide ((unhide Ra).apart gr (fun e => hC (Option.some.inj e)))
      have Tb := hide ((unhide Ta).apart gr (fun e => hT (Option.some.inj e)))
      clear d gr Ka Ra Ta Na hv hj
      have tc3 : w10.cell? ⟨P, 3, none⟩ = some (.int .i64 m) := (unhide Tb).c 3 (by simp)
      have tf3 : w10.frozen? ⟨P, 3, none⟩ = false := (unhide Tb).f 3 (by simp)
      go_upto_region 13 with fail
      obtain ⟨Vc, hVs⟩ : ∃ V, V = w10.setCell ⟨P, 3, none⟩ (.int .i64 v) := ⟨_, rfl⟩
      have Kc : Hid (Dk w C a len cap W Vc) := hide (by rw [hVs]; exact (unhide Kb).own (grown_set (grown_refl w10 (some P)) 3 _) hT0)
      have Rc : Hid (Blk Vc W.heap.size [.int .i64 0, .string ⟨#[]⟩, .int .i64 0, .int .i64 0]) := hide (by rw [hVs]; exact (unhide Rb).other (by simpa using hTR) _)
      have Tc : Hid (Blk Vc P [.int .i64 k, .string n, .int .i64 i, .int .i64 v]) := hide (by rw [hVs]; have k := (unhide Tb).set 3 (by simp) (.int .i64 v); simpa using k)
      rw [← hVs]
      clear hVs Kb Rb Tb
      clear tc3 tf3
      go_wp2_with (first
        | ((with_reducible show wpList _ _ _ (⟨_, .load 42 _, _, _, _, none⟩ :: _) _ _); refine at_loadAgg (vs := [.int .i64 k, .string n, .int .i64 i, .int .i64 v]) Try.isAgg42 Try.sizeOf42 rfl (unhide Tc) ?_)
        | ((with_reducible show wpList _ _ _ (⟨none, .store 42 _ _, _, _, _, none⟩ :: _) _ _); refine at_storeAgg (us := [.int .i64 0, .string ⟨#[]⟩, .int .i64 0, .int .i64 0]) (vs := [.int .i64 k, .string n, .int .i64 i, .int .i64 v]) Try.sizeOf42 rfl rfl (unhide Rc) rfl (fun v hv => by simp at hv; rcases hv with rfl | rfl | rfl | rfl <;> rfl) ?_; intro wz k9 g9; have K9 := hide k9; have G9 := hide g9; clear k9 g9))
      have KZ := (unhide Kc).own (unhide G9) (Nat.le_refl _)
      exact bodyPost_ret (results_cell (vs := [.int .i64 k, .string n, .int .i64 i, .int .i64 v]) rfl Try.isAgg42 Try.sizeOf42 rfl (unhide K9)) rfl ⟨⟨k, n, i, v⟩, rfl, unhide FN, KZ.d, KZ.gr⟩
    · have e0 : (x == 0) = false := by rw [beq_eq_false_iff_ne]; exact n0
      have e1 : (x == 1) = false := by rw [beq_eq_false_iff_ne]; exact n1
      have e2 : (x == 2) = false := by rw [beq_eq_false_iff_ne]; exact n2
      have e3 : (x == 3) = false := by rw [beq_eq_false_iff_ne]; exact n3
      clear n0 n1 n2 n3
      go_upto_region 13 with fail
      go_wp2_with (first
        | ((with_reducible show wpList _ _ _ (⟨_, .load 42 _, _, _, _, none⟩ :: _) _ _); refine at_loadAgg (vs := [.int .i64 k, .string n, .int .i64 i, .int .i64 m]) Try.isAgg42 Try.sizeOf42 rfl (unhide TB11) ?_)
        | ((with_reducible show wpList _ _ _ (⟨none, .store 42 _ _, _, _, _, none⟩ :: _) _ _); refine at_storeAgg (us := [.int .i64 0, .string ⟨#[]⟩, .int .i64 0, .int .i64 0]) (vs := [.int .i64 k, .string n, .int .i64 i, .int .i64 m]) Try.sizeOf42 rfl rfl (unhide R11) rfl (fun v hv => by simp at hv; rcases hv with rfl | rfl | rfl | rfl <;> rfl) ?_; intro wz k9 g9; have K9 := hide k9; have G9 := hide g9; clear k9 g9))
      have KZ := (unhide K11).own (unhide G9) (Nat.le_refl _)
      exact bodyPost_ret (results_cell (vs := [.int .i64 k, .string n, .int .i64 i, .int .i64 m]) rfl Try.isAgg42 Try.sizeOf42 rfl (unhide K9)) rfl ⟨⟨k, n, i, m⟩, rfl, unhide FN, KZ.d, KZ.gr⟩
  · have tc0 : w7.cell? ⟨P, 0, none⟩ = some (.int .i64 k) := (unhide TB8).c 0 (by simp)
    have tf0 : w7.frozen? ⟨P, 0, none⟩ = false := (unhide TB8).f 0 (by simp)
    go_upto_region 4 with fail
    obtain ⟨V9, hVs⟩ : ∃ V, V = w7.setCell ⟨P, 0, none⟩ (.int .i64 1) := ⟨_, rfl⟩
    have K9 : Hid (Dk w C a len cap W V9) := hide (by rw [hVs]; exact (unhide K8).own (grown_set (grown_refl w7 (some P)) 0 _) hT0)
    have R9 : Hid (Blk V9 W.heap.size [.int .i64 0, .string ⟨#[]⟩, .int .i64 0, .int .i64 0]) := hide (by rw [hVs]; exact (unhide R8).other (by simpa using hTR) _)
    have TB9 : Hid (Blk V9 P [.int .i64 1, .string n, .int .i64 i, .int .i64 m]) := hide (by rw [hVs]; have k := (unhide TB8).set 0 (by simp) (.int .i64 1); simpa using k)
    rw [← hVs]
    clear hVs K8 R8 TB8
    clear tc0 tf0
    go_upto_region 4 with fail
    go_wp2_with fail
    refine (drBelow 40 _ (unhide K9).d (by omega)).mono ?_
    rintro e w9 ⟨x, rfl, hx, d, gr⟩
    have K11 := hide ((unhide K9).call gr d)
    have R11 := hide ((unhide R9).apart gr (fun e => hC (Option.some.inj e)))
    have TB11 := hide ((unhide TB9).apart gr (fun e => hT (Option.some.inj e)))
    clear d gr K9 R9 TB9
    have hG : w9.heap.size ≠ C := by have := (unhide K11).d.lt; omega
    have hGP : w9.heap.size ≠ P := by have := (unhide TB11).lt; omega
    rcases (show x = 0 ∨ x = 1 ∨ x = 2 ∨ x = 3 ∨ (x ≠ 0 ∧ x ≠ 1 ∧ x ≠ 2 ∧ x ≠ 3) by omega) with rfl | rfl | rfl | rfl | ⟨n0, n1, n2, n3⟩
    · go_wp2_with fail
      obtain ⟨Va, hVa⟩ : ∃ V, V = w9.alloc (Obj.cells #[.int .i64 0, .int .i64 6] 3) := ⟨_, rfl⟩
      have ba : Below w9.heap.size w9 Va := by rw [hVa]; exact bel1 _
      have Ka := hide ((unhide K11).below ba)
      have Ra := hide ((unhide R11).below ba)
      have Ta := hide ((unhide TB11).below ba)
      have Na : Hid (Row Va (some ⟨w9.heap.size, 0, none⟩) 2 [0, 6]) := hide (by rw [hVa]; exact row_litD w9 [0, 6] (by simp) (fun j => by rcases j with _ | _ | j <;> simp [nth]))
      rw [← hVa]
      clear hVa ba K11 R11 TB11
      refine (drPickInt w9.heap.size 2 2 [0, 6] _ (unhide Ka).d (unhide Na) hG (by omega)).mono ?_
      rintro e w10 ⟨j, hj, rfl, d, gr⟩
      obtain ⟨v, hv⟩ : ∃ v, nth [0, 6] j = v := ⟨_, rfl⟩
      rw [hv]
      have Kb := hide ((unhide Ka).call gr d)
      have Rb := hide ((unhide Ra).apart gr (fun e => hC (Option.some.inj e)))
      have Tb := hide ((unhide Ta).apart gr (fun e => hT (Option.some.inj e)))
      clear d gr Ka Ra Ta Na hv hj
      have tc0 : w10.cell? ⟨P, 0, none⟩ = some (.int .i64 1) := (unhide Tb).c 0 (by simp)
      have tf0 : w10.frozen? ⟨P, 0, none⟩ = false := (unhide Tb).f 0 (by simp)
      go_upto_region 13 with fail
      obtain ⟨Vc, hVs⟩ : ∃ V, V = w10.setCell ⟨P, 0, none⟩ (.int .i64 v) := ⟨_, rfl⟩
      have Kc : Hid (Dk w C a len cap W Vc) := hide (by rw [hVs]; exact (unhide Kb).own (grown_set (grown_refl w10 (some P)) 0 _) hT0)
      have Rc : Hid (Blk Vc W.heap.size [.int .i64 0, .string ⟨#[]⟩, .int .i64 0, .int .i64 0]) := hide (by rw [hVs]; exact (unhide Rb).other (by simpa using hTR) _)
      have Tc : Hid (Blk Vc P [.int .i64 v, .string n, .int .i64 i, .int .i64 m]) := hide (by rw [hVs]; have k := (unhide Tb).set 0 (by simp) (.int .i64 v); simpa using k)
      rw [← hVs]
      clear hVs Kb Rb Tb
      clear tc0 tf0
      go_wp2_with (first
        | ((with_reducible show wpList _ _ _ (⟨_, .load 42 _, _, _, _, none⟩ :: _) _ _); refine at_loadAgg (vs := [.int .i64 v, .string n, .int .i64 i, .int .i64 m]) Try.isAgg42 Try.sizeOf42 rfl (unhide Tc) ?_)
        | ((with_reducible show wpList _ _ _ (⟨none, .store 42 _ _, _, _, _, none⟩ :: _) _ _); refine at_storeAgg (us := [.int .i64 0, .string ⟨#[]⟩, .int .i64 0, .int .i64 0]) (vs := [.int .i64 v, .string n, .int .i64 i, .int .i64 m]) Try.sizeOf42 rfl rfl (unhide Rc) rfl (fun v hv => by simp at hv; rcases hv with rfl | rfl | rfl | rfl <;> rfl) ?_; intro wz k9 g9; have K9 := hide k9; have G9 := hide g9; clear k9 g9))
      have KZ := (unhide Kc).own (unhide G9) (Nat.le_refl _)
      exact bodyPost_ret (results_cell (vs := [.int .i64 v, .string n, .int .i64 i, .int .i64 m]) rfl Try.isAgg42 Try.sizeOf42 rfl (unhide K9)) rfl ⟨⟨v, n, i, m⟩, rfl, unhide FN, KZ.d, KZ.gr⟩
    · go_wp2_with fail
      obtain ⟨Va, hVa⟩ : ∃ V, V = w9.alloc (Obj.cells #[.string ⟨#[]⟩, .string ⟨#[97, 32, 98]⟩, .string ⟨#[110, 111, 110, 101]⟩] 9) := ⟨_, rfl⟩
      have ba : Below w9.heap.size w9 Va := by rw [hVa]; exact bel1 _
      have Ka := hide ((unhide K11).below ba)
      have Ra := hide ((unhide R11).below ba)
      have Ta := hide ((unhide TB11).below ba)
      have Na : Hid (Blk Va w9.heap.size (n3D.map Value.string)) := hide (by rw [hVa]; exact Blk.new (w := w9) (n3D.map Value.string) _)
      rw [← hVa]
      clear hVa ba K11 R11 TB11
      refine (drPick w9.heap.size 3 3 n3D _ (unhide Ka).d (unhide Na) rfl hG (by omega)).mono ?_
      rintro e w10 ⟨j, hj, rfl, d, gr⟩
      obtain ⟨v, hv⟩ : ∃ v, elAt n3D j = v := ⟨_, rfl⟩
      have FV : Hid (fitT v) := hide (by rw [← hv]; exact n3_fit j)
      rw [hv]
      have Kb := hide ((unhide Ka).call gr d)
      have Rb := hide ((unhide Ra).apart gr (fun e => hC (Option.some.inj e)))
      have Tb := hide ((unhide Ta).apart gr (fun e => hT (Option.some.inj e)))
      clear d gr Ka Ra Ta Na hv hj
      have tc1 : w10.cell? ⟨P, 1, none⟩ = some (.string n) := (unhide Tb).c 1 (by simp)
      have tf1 : w10.frozen? ⟨P, 1, none⟩ = false := (unhide Tb).f 1 (by simp)
      go_upto_region 13 with fail
      obtain ⟨Vc, hVs⟩ : ∃ V, V = w10.setCell ⟨P, 1, none⟩ (.string v) := ⟨_, rfl⟩
      have Kc : Hid (Dk w C a len cap W Vc) := hide (by rw [hVs]; exact (unhide Kb).own (grown_set (grown_refl w10 (some P)) 1 _) hT0)
      have Rc : Hid (Blk Vc W.heap.size [.int .i64 0, .string ⟨#[]⟩, .int .i64 0, .int .i64 0]) := hide (by rw [hVs]; exact (unhide Rb).other (by simpa using hTR) _)
      have Tc : Hid (Blk Vc P [.int .i64 1, .string v, .int .i64 i, .int .i64 m]) := hide (by rw [hVs]; have k := (unhide Tb).set 1 (by simp) (.string v); simpa using k)
      rw [← hVs]
      clear hVs Kb Rb Tb
      clear tc1 tf1
      go_wp2_with (first
        | ((with_reducible show wpList _ _ _ (⟨_, .load 42 _, _, _, _, none⟩ :: _) _ _); refine at_loadAgg (vs := [.int .i64 1, .string v, .int .i64 i, .int .i64 m]) Try.isAgg42 Try.sizeOf42 rfl (unhide Tc) ?_)
        | ((with_reducible show wpList _ _ _ (⟨none, .store 42 _ _, _, _, _, none⟩ :: _) _ _); refine at_storeAgg (us := [.int .i64 0, .string ⟨#[]⟩, .int .i64 0, .int .i64 0]) (vs := [.int .i64 1, .string v, .int .i64 i, .int .i64 m]) Try.sizeOf42 rfl rfl (unhide Rc) rfl (fun v hv => by simp at hv; rcases hv with rfl | rfl | rfl | rfl <;> rfl) ?_; intro wz k9 g9; have K9 := hide k9; have G9 := hide g9; clear k9 g9))
      have KZ := (unhide Kc).own (unhide G9) (Nat.le_refl _)
      exact bodyPost_ret (results_cell (vs := [.int .i64 1, .string v, .int .i64 i, .int .i64 m]) rfl Try.isAgg42 Try.sizeOf42 rfl (unhide K9)) rfl ⟨⟨1, v, i, m⟩, rfl, unhide FV, KZ.d, KZ.gr⟩
    · go_wp2_with fail
      obtain ⟨Va, hVa⟩ : ∃ V, V = w9.alloc (Obj.cells #[.int .i64 0, .int .i64 (-1), .int .i64 1000000, .int .i64 1000001] 3) := ⟨_, rfl⟩
      have ba : Below w9.heap.size w9 Va := by rw [hVa]; exact bel1 _
      have Ka := hide ((unhide K11).below ba)
      have Ra := hide ((unhide R11).below ba)
      have Ta := hide ((unhide TB11).below ba)
      have Na : Hid (Row Va (some ⟨w9.heap.size, 0, none⟩) 4 [0, -1, 1000000, 1000001]) := hide (by rw [hVa]; exact row_litD w9 [0, -1, 1000000, 1000001] (by simp) (fun j => by rcases j with _ | _ | _ | _ | j <;> simp [nth]))
      rw [← hVa]
      clear hVa ba K11 R11 TB11
      refine (drPickInt w9.heap.size 4 4 [0, -1, 1000000, 1000001] _ (unhide Ka).d (unhide Na) hG (by omega)).mono ?_
      rintro e w10 ⟨j, hj, rfl, d, gr⟩
      obtain ⟨v, hv⟩ : ∃ v, nth [0, -1, 1000000, 1000001] j = v := ⟨_, rfl⟩
      rw [hv]
      have Kb := hide ((unhide Ka).call gr d)
      have Rb := hide ((unhide Ra).apart gr (fun e => hC (Option.some.inj e)))
      have Tb := hide ((unhide Ta).apart gr (fun e => hT (Option.some.inj e)))
      clear d gr Ka Ra Ta Na hv hj
      have tc2 : w10.cell? ⟨P, 2, none⟩ = some (.int .i64 i) := (unhide Tb).c 2 (by simp)
      have tf2 : w10.frozen? ⟨P, 2, none⟩ = false := (unhide Tb).f 2 (by simp)
      go_upto_region 13 with fail
      obtain ⟨Vc, hVs⟩ : ∃ V, V = w10.setCell ⟨P, 2, none⟩ (.int .i64 v) := ⟨_, rfl⟩
      have Kc : Hid (Dk w C a len cap W Vc) := hide (by rw [hVs]; exact (unhide Kb).own (grown_set (grown_refl w10 (some P)) 2 _) hT0)
      have Rc : Hid (Blk Vc W.heap.size [.int .i64 0, .string ⟨#[]⟩, .int .i64 0, .int .i64 0]) := hide (by rw [hVs]; exact (unhide Rb).other (by simpa using hTR) _)
      have Tc : Hid (Blk Vc P [.int .i64 1, .string n, .int .i64 v, .int .i64 m]) := hide (by rw [hVs]; have k := (unhide Tb).set 2 (by simp) (.int .i64 v); simpa using k)
      rw [← hVs]
      clear hVs Kb Rb Tb
      clear tc2 tf2
      go_wp2_with (first
        | ((with_reducible show wpList _ _ _ (⟨_, .load 42 _, _, _, _, none⟩ :: _) _ _); refine at_loadAgg (vs := [.int .i64 1, .string n, .int .i64 v, .int .i64 m]) Try.isAgg42 Try.sizeOf42 rfl (unhide Tc) ?_)
        | ((with_reducible show wpList _ _ _ (⟨none, .store 42 _ _, _, _, _, none⟩ :: _) _ _); refine at_storeAgg (us := [.int .i64 0, .string ⟨#[]⟩, .int .i64 0, .int .i64 0]) (vs := [.int .i64 1, .string n, .int .i64 v, .int .i64 m]) Try.sizeOf42 rfl rfl (unhide Rc) rfl (fun v hv => by simp at hv; rcases hv with rfl | rfl | rfl | rfl <;> rfl) ?_; intro wz k9 g9; have K9 := hide k9; have G9 := hide g9; clear k9 g9))
      have KZ := (unhide Kc).own (unhide G9) (Nat.le_refl _)
      exact bodyPost_ret (results_cell (vs := [.int .i64 1, .string n, .int .i64 v, .int .i64 m]) rfl Try.isAgg42 Try.sizeOf42 rfl (unhide K9)) rfl ⟨⟨1, n, v, m⟩, rfl, unhide FN, KZ.d, KZ.gr⟩
    · go_wp2_with fail
      obtain ⟨Va, hVa⟩ : ∃ V, V = w9.alloc (Obj.cells #[.int .i64 0, .int .i64 100, .int .i64 101, .int .i64 9223372036854775807] 3) := ⟨_, rfl⟩
      have ba : Below w9.heap.size w9 Va := by rw [hVa]; exact bel1 _
      have Ka := hide ((unhide K11).below ba)
      have Ra := hide ((unhide R11).below ba)
      have Ta := hide ((unhide TB11).below ba)
      have Na : Hid (Row Va (some ⟨w9.heap.size, 0, none⟩) 4 [0, 100, 101, 9223372036854775807]) := hide (by rw [hVa]; exact row_litD w9 [0, 100, 101, 9223372036854775807] (by simp) (fun j => by rcases j with _ | _ | _ | _ | j <;> simp [nth]))
      rw [← hVa]
      clear hVa ba K11 R11 TB11
      refine (drPickInt w9.heap.size 4 4 [0, 100, 101, 9223372036854775807] _ (unhide Ka).d (unhide Na) hG (by omega)).mono ?_
      rintro e w10 ⟨j, hj, rfl, d, gr⟩
      obtain ⟨v, hv⟩ : ∃ v, nth [0, 100, 101, 9223372036854775807] j = v := ⟨_, rfl⟩
      rw [hv]
      have Kb := hide ((unhide Ka).call gr d)
      have Rb := hide ((unhide Ra).apart gr (fun e => hC (Option.some.inj e)))
      have Tb := hide ((unhide Ta).apart gr (fun e => hT (Option.some.inj e)))
      clear d gr Ka Ra Ta Na hv hj
      have tc3 : w10.cell? ⟨P, 3, none⟩ = some (.int .i64 m) := (unhide Tb).c 3 (by simp)
      have tf3 : w10.frozen? ⟨P, 3, none⟩ = false := (unhide Tb).f 3 (by simp)
      go_upto_region 13 with fail
      obtain ⟨Vc, hVs⟩ : ∃ V, V = w10.setCell ⟨P, 3, none⟩ (.int .i64 v) := ⟨_, rfl⟩
      have Kc : Hid (Dk w C a len cap W Vc) := hide (by rw [hVs]; exact (unhide Kb).own (grown_set (grown_refl w10 (some P)) 3 _) hT0)
      have Rc : Hid (Blk Vc W.heap.size [.int .i64 0, .string ⟨#[]⟩, .int .i64 0, .int .i64 0]) := hide (by rw [hVs]; exact (unhide Rb).other (by simpa using hTR) _)
      have Tc : Hid (Blk Vc P [.int .i64 1, .string n, .int .i64 i, .int .i64 v]) := hide (by rw [hVs]; have k := (unhide Tb).set 3 (by simp) (.int .i64 v); simpa using k)
      rw [← hVs]
      clear hVs Kb Rb Tb
      clear tc3 tf3
      go_wp2_with (first
        | ((with_reducible show wpList _ _ _ (⟨_, .load 42 _, _, _, _, none⟩ :: _) _ _); refine at_loadAgg (vs := [.int .i64 1, .string n, .int .i64 i, .int .i64 v]) Try.isAgg42 Try.sizeOf42 rfl (unhide Tc) ?_)
        | ((with_reducible show wpList _ _ _ (⟨none, .store 42 _ _, _, _, _, none⟩ :: _) _ _); refine at_storeAgg (us := [.int .i64 0, .string ⟨#[]⟩, .int .i64 0, .int .i64 0]) (vs := [.int .i64 1, .string n, .int .i64 i, .int .i64 v]) Try.sizeOf42 rfl rfl (unhide Rc) rfl (fun v hv => by simp at hv; rcases hv with rfl | rfl | rfl | rfl <;> rfl) ?_; intro wz k9 g9; have K9 := hide k9; have G9 := hide g9; clear k9 g9))
      have KZ := (unhide Kc).own (unhide G9) (Nat.le_refl _)
      exact bodyPost_ret (results_cell (vs := [.int .i64 1, .string n, .int .i64 i, .int .i64 v]) rfl Try.isAgg42 Try.sizeOf42 rfl (unhide K9)) rfl ⟨⟨1, n, i, v⟩, rfl, unhide FN, KZ.d, KZ.gr⟩
    · have e0 : (x == 0) = false := by rw [beq_eq_false_iff_ne]; exact n0
      have e1 : (x == 1) = false := by rw [beq_eq_false_iff_ne]; exact n1
      have e2 : (x == 2) = false := by rw [beq_eq_false_iff_ne]; exact n2
      have e3 : (x == 3) = false := by rw [beq_eq_false_iff_ne]; exact n3
      clear n0 n1 n2 n3
      go_upto_region 13 with fail
      go_wp2_with (first
        | ((with_reducible show wpList _ _ _ (⟨_, .load 42 _, _, _, _, none⟩ :: _) _ _); refine at_loadAgg (vs := [.int .i64 1, .string n, .int .i64 i, .int .i64 m]) Try.isAgg42 Try.sizeOf42 rfl (unhide TB11) ?_)
        | ((with_reducible show wpList _ _ _ (⟨none, .store 42 _ _, _, _, _, none⟩ :: _) _ _); refine at_storeAgg (us := [.int .i64 0, .string ⟨#[]⟩, .int .i64 0, .int .i64 0]) (vs := [.int .i64 1, .string n, .int .i64 i, .int .i64 m]) Try.sizeOf42 rfl rfl (unhide R11) rfl (fun v hv => by simp at hv; rcases hv with rfl | rfl | rfl | rfl <;> rfl) ?_; intro wz k9 g9; have K9 := hide k9; have G9 := hide g9; clear k9 g9))
      have KZ := (unhide K11).own (unhide G9) (Nat.le_refl _)
      exact bodyPost_ret (results_cell (vs := [.int .i64 1, .string n, .int .i64 i, .int .i64 m]) rfl Try.isAgg42 Try.sizeOf42 rfl (unhide K9)) rfl ⟨⟨1, n, i, m⟩, rfl, unhide FN, KZ.d, KZ.gr⟩

end Go.Proofs.Ytfnnfldfnjnlfag

/-
  A drawn list of floats: some list of its own; nothing but the cursor's block has turned. No condition.
-/
import Derived.Test.YtdamnfiaciacmaaFdIs
import Derived.Test.YtdamnfiaciacmaaAppEl
namespace Go.Proofs.Ytdamnfiaciacmaa
open Go Go.RowKit

theorem Dk.ownR {w : World} {C : Nat} {a : Option Addr} {len cap : Nat} {W0 W W' : World} {row : Option Nat} (h : Dk w C a len cap W0 W) (gr : W.grownBy W' row) (hr : ∀ q, row = some q → W0.heap.size ≤ q) : Dk w C a len cap W0 W' :=
  ⟨h.d.own gr (fun k hk => by have e := hr k hk; have := h.lo; omega) h.inn, h.g.growN gr (fun q hq => .inr (hr q hq)), h.inn, h.lo⟩

set_option maxRecDepth 20000 in
set_option maxHeartbeats 4000000 in
theorem l5DrawList_any {w : World} {C : Nat} {a : Option Addr} {len cap : Nat} {W0 : World} (W : World) (h : Dk w C a len cap W0 W) :
    Calls Try.prog 16 #[.pointer (some ⟨C, 0, none⟩), .int .i64 400] W fun e w' => ∃ (b : Option Addr) (n c : Nat) (es : List Nat), e = .returned (.slice b n c) ∧ OwnE 1 flC w' W.heap.size 24 (.slice b n c) es ∧ n ≤ 500 ∧ Dk w C a len cap W0 w' ∧ W.grownBy w' (some C) := by
  have H0 := hide h
  have hCW : C < W.heap.size := h.d.lt
  have K0 : Hid (Dk w C a len cap W W) := hide (Dk.start h.d h.inn)
  clear h
  go_enter Try.func16, Try.ntmps16
  go_wp2_with fail
  refine (dkBelow 14 _ (unhide K0) (by omega)).mono ?_
  rintro e w1 ⟨n0, rfl, hn0, k1, _⟩
  have K1 := hide k1
  clear k1 K0
  go_wp2_with fail
  refine (dkOnce 40 _ (unhide K1) (by omega)).mono ?_
  rintro e w2 ⟨b0, rfl, k2, _⟩
  have K2 := hide k2
  have hsz : W.heap.size ≤ w2.heap.size := k2.gr.size
  clear k2 K1
  cases b0
  · obtain ⟨n, rfl⟩ : ∃ n : Nat, n0 = (n : Int) := ⟨n0.toNat, by omega⟩
    have hn : n ≤ 401 := by omega
    clear hn0
    have O0 : Hid (OwnE 1 flC (w2.alloc (Obj.cells #[] 24)) W.heap.size 24 (.slice (some ⟨w2.heap.size, 0, none⟩) 0 0) ([] : List Nat)) := hide (ownE_none (w := W) (w1 := w2) hsz)
    have KA : Hid (Dk w C a len cap W (w2.alloc (Obj.cells #[] 24))) := hide ((unhide K2).below (bel1 _))
    go_wp2
    go_loopw [6, 7] (fun out i wr => ∃ (k : Nat) (b : Option Addr) (c : Nat) (Z : List Nat), k ≤ n ∧ out = .slice b k c ∧ i = .int .i64 (k : Int) ∧ Z.length = k ∧ OwnE 1 flC wr W.heap.size 24 (.slice b k c) Z ∧ Dk w C a len cap W wr) (fun _ i _ => n - (intOf i).toNat)
    case atStart => exact ⟨0, _, _, [], Nat.zero_le _, rfl, rfl, rfl, unhide O0, unhide KA⟩
    case round =>
      clear K2 O0 KA hsz
      obtain ⟨k, b, c, Z, hk, rfl, rfl, hzl, o3, k3⟩ := hrel
      have HZ := hide hzl
      have O3 := hide o3
      have K3 := hide k3
      clear hzl o3 k3
      by_cases hlt : k < n
      · have i1 : (k : Int) < (n : Int) := by omega
        go_wp2_with fail
        refine (l5Draw_g _ (unhide K3)).mono ?_
        rintro e w5 ⟨z, rfl, kk, gr⟩
        have K5 := hide kk
        have O5 := hide ((unhide O3).far gr (fun q hq e => by have h1 := ((unhide O3).lies q hq).1; have h2 := Option.some.inj e; omega))
        clear kk gr K3 O3
        go_wp2_with fail
        refine (dkOnce 6 _ (unhide K5) (by omega)).mono ?_
        rintro e w6 ⟨b1, rfl, kk, gr⟩
        have K6 := hide kk
        have hs6 : W.heap.size ≤ w6.heap.size := kk.gr.size
        have O6 := hide ((unhide O5).far gr (fun q hq e => by have h1 := ((unhide O5).lies q hq).1; have h2 := Option.some.inj e; omega))
        clear kk gr K5 O5
        cases b1
        · go_wp2_with (at_builtin; refine wpList_app_elG (K := 1) (cells := flC) rfl _ _ 29 24 rfl Try.underlying29 infoFl rfl (by decide) (by decide) (z : Nat) [.float .f64 z] rfl (fun q hq => by match q, hq with | 0, _ => rfl) (fun u hu => by simp at hu; rcases hu with rfl; rfl) (unhide O6) (unhide HZ) rfl rfl rfl hs6 (by omega) ?_; intro g9 c9 w9 o9 gr9 hg9)
          have K9 := (unhide K6).ownR gr9 (fun q hq => ((unhide O6).lies q hq).1)
          have K9 := hide K9
          have O9 := hide o9
          clear gr9 hg9 o9
          go_roundw
          case rel => exact ⟨k + 1, _, c9, Z ++ [z], by omega, rfl, by go_num, by simp [unhide HZ], unhide O9, unhide K9⟩
          case measure => simp [intOf]; omega
        · go_wp2_with fail
          refine (l5NaN_any _).mono ?_
          rintro e w7 ⟨z7, rfl, _, n7, hw7⟩
          have K7 : Hid (Dk w C a len cap W w7) := hide (by rw [hw7]; exact (unhide K6).drewN _)
          have O7 : Hid (OwnE 1 flC w7 W.heap.size 24 (.slice b k c) Z) := hide (by rw [hw7]; exact (unhide O6).drewN _)
          have hs7 : W.heap.size ≤ w7.heap.size := (unhide K7).gr.size
          clear hw7 K6 O6
          go_wp2_with (at_builtin; refine wpList_app_elG (K := 1) (cells := flC) rfl _ _ 29 24 rfl Try.underlying29 infoFl rfl (by decide) (by decide) (z7 : Nat) [.float .f64 z7] rfl (fun q hq => by match q, hq with | 0, _ => rfl) (fun u hu => by simp at hu; rcases hu with rfl; rfl) (unhide O7) (unhide HZ) rfl rfl rfl hs7 (by omega) ?_; intro g9 c9 w9 o9 gr9 hg9)
          have K9 := (unhide K7).ownR gr9 (fun q hq => ((unhide O7).lies q hq).1)
          have K9 := hide K9
          have O9 := hide o9
          clear gr9 hg9 o9
          go_roundw
          case rel => exact ⟨k + 1, _, c9, Z ++ [z7], by omega, rfl, by go_num, by simp [unhide HZ], unhide O9, unhide K9⟩
          case measure => simp [intOf]; omega
      · have i1 : ¬ (k : Int) < (n : Int) := by omega
        go_wp2
        go_ret
        exact ⟨b, k, c, rfl, ⟨Z, unhide O3⟩, by omega, (unhide H0).call (unhide K3).gr (unhide K3).d, (unhide K3).gr⟩
  · go_wp2_with fail
    refine (dkBelow 2 _ (unhide K2) (by omega)).mono ?_
    rintro e w3 ⟨m0, rfl, hm0, k3, _⟩
    have K2 := hide k3
    have hsz : W.heap.size ≤ w3.heap.size := k3.gr.size
    obtain ⟨n, hN⟩ : ∃ n : Nat, 400 + m0 = (n : Int) := ⟨(400 + m0).toNat, by omega⟩
    have hn : n ≤ 401 := by omega
    clear k3 hn0 hm0
    have O0 : Hid (OwnE 1 flC (w3.alloc (Obj.cells #[] 24)) W.heap.size 24 (.slice (some ⟨w3.heap.size, 0, none⟩) 0 0) ([] : List Nat)) := hide (ownE_none (w := W) (w1 := w3) hsz)
    have KA : Hid (Dk w C a len cap W (w3.alloc (Obj.cells #[] 24))) := hide ((unhide K2).below (bel1 _))
    go_wp2
    go_loopw [6, 7] (fun out i wr => ∃ (k : Nat) (b : Option Addr) (c : Nat) (Z : List Nat), k ≤ n ∧ out = .slice b k c ∧ i = .int .i64 (k : Int) ∧ Z.length = k ∧ OwnE 1 flC wr W.heap.size 24 (.slice b k c) Z ∧ Dk w C a len cap W wr) (fun _ i _ => n - (intOf i).toNat)
    case atStart => exact ⟨0, _, _, [], Nat.zero_le _, rfl, rfl, rfl, unhide O0, unhide KA⟩
    case round =>
      clear K2 O0 KA hsz
      obtain ⟨k, b, c, Z, hk, rfl, rfl, hzl, o3, k3⟩ := hrel
      have HZ := hide hzl
      have O3 := hide o3
      have K3 := hide k3
      clear hzl o3 k3
      by_cases hlt : k < n
      · have i1 : (k : Int) < (n : Int) := by omega
        go_wp2_with fail
        refine (l5Draw_g _ (unhide K3)).mono ?_
        rintro e w5 ⟨z, rfl, kk, gr⟩
        have K5 := hide kk
        have O5 := hide ((unhide O3).far gr (fun q hq e => by have h1 := ((unhide O3).lies q hq).1; have h2 := Option.some.inj e; omega))
        clear kk gr K3 O3
        go_wp2_with fail
        refine (dkOnce 6 _ (unhide K5) (by omega)).mono ?_
        rintro e w6 ⟨b1, rfl, kk, gr⟩
        have K6 := hide kk
        have hs6 : W.heap.size ≤ w6.heap.size := kk.gr.size
        have O6 := hide ((unhide O5).far gr (fun q hq e => by have h1 := ((unhide O5).lies q hq).1; have h2 := Option.some.inj e; omega))
        clear kk gr K5 O5
        cases b1
        · go_wp2_with (at_builtin; refine wpList_app_elG (K := 1) (cells := flC) rfl _ _ 29 24 rfl Try.underlying29 infoFl rfl (by decide) (by decide) (z : Nat) [.float .f64 z] rfl (fun q hq => by match q, hq with | 0, _ => rfl) (fun u hu => by simp at hu; rcases hu with rfl; rfl) (unhide O6) (unhide HZ) rfl rfl rfl hs6 (by omega) ?_; intro g9 c9 w9 o9 gr9 hg9)
          have K9 := (unhide K6).ownR gr9 (fun q hq => ((unhide O6).lies q hq).1)
          have K9 := hide K9
          have O9 := hide o9
          clear gr9 hg9 o9
          go_roundw
          case rel => exact ⟨k + 1, _, c9, Z ++ [z], by omega, rfl, by go_num, by simp [unhide HZ], unhide O9, unhide K9⟩
          case measure => simp [intOf]; omega
        · go_wp2_with fail
          refine (l5NaN_any _).mono ?_
          rintro e w7 ⟨z7, rfl, _, n7, hw7⟩
          have K7 : Hid (Dk w C a len cap W w7) := hide (by rw [hw7]; exact (unhide K6).drewN _)
          have O7 : Hid (OwnE 1 flC w7 W.heap.size 24 (.slice b k c) Z) := hide (by rw [hw7]; exact (unhide O6).drewN _)
          have hs7 : W.heap.size ≤ w7.heap.size := (unhide K7).gr.size
          clear hw7 K6 O6
          go_wp2_with (at_builtin; refine wpList_app_elG (K := 1) (cells := flC) rfl _ _ 29 24 rfl Try.underlying29 infoFl rfl (by decide) (by decide) (z7 : Nat) [.float .f64 z7] rfl (fun q hq => by match q, hq with | 0, _ => rfl) (fun u hu => by simp at hu; rcases hu with rfl; rfl) (unhide O7) (unhide HZ) rfl rfl rfl hs7 (by omega) ?_; intro g9 c9 w9 o9 gr9 hg9)
          have K9 := (unhide K7).ownR gr9 (fun q hq => ((unhide O7).lies q hq).1)
          have K9 := hide K9
          have O9 := hide o9
          clear gr9 hg9 o9
          go_roundw
          case rel => exact ⟨k + 1, _, c9, Z ++ [z7], by omega, rfl, by go_num, by simp [unhide HZ], unhide O9, unhide K9⟩
          case measure => simp [intOf]; omega
      · have i1 : ¬ (k : Int) < (n : Int) := by omega
        go_wp2
        go_ret
        exact ⟨b, k, c, rfl, ⟨Z, unhide O3⟩, by omega, (unhide H0).call (unhide K3).gr (unhide K3).d, (unhide K3).gr⟩

end Go.Proofs.Ytdamnfiaciacmaa

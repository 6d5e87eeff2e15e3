/-
  What the model's l7Draw answers: a net that is so. At every cursor; nothing that was there is written but the cursor.
-/
import Derived.Test.YtfahhjgpgccdhacLists
import Derived.Deep.Cut
import Derived.Deep.CutRange
import Derived.Deep.RegionLaw
namespace Go.Proofs.Ytfahhjgpgccdhac
open Go.RowKit

set_option maxRecDepth 20000 in
set_option maxHeartbeats 8000000 in
theorem l7Draw_any {w : World} {C : Nat} {a : Option Addr} {len cap : Nat} (W : World) (hd : Dr w C a len cap W) (hin : ∀ b off, a = some ⟨b, off, none⟩ → b < w.heap.size) :
    Calls Try.prog 31 #[.pointer (some ⟨C, 0, none⟩)] W fun e w' => NetDrawn w (C + 1) e w' := by
  have DD := hide (hd.below (bel1 (Obj.cells #[.int .i64 0, .slice none 0 0, .slice none 0 0, .slice none 0 0] 44)))
  have RR := hide (Blk.new (w := W) [.int .i64 0, .slice none 0 0, .slice none 0 0, .slice none 0 0] 44)
  have HIN := hide hin
  have hCW := hd.lt
  obtain ⟨R, hR⟩ : ∃ R, W.heap.size = R := ⟨_, rfl⟩
  rw [hR] at RR hCW
  have HR := hide hR
  clear hd hin hR
  go_enter Try.func31, Try.ntmps31
  go_wp2_with fail
  rw [unhide HR]
  refine (drBelow 5 _ (unhide DD) (by omega)).mono ?_
  rintro x w1 ⟨x1, rfl, hx1, d, gr⟩
  obtain ⟨N, hN⟩ : ∃ N, 1 + x1 = N := ⟨_, rfl⟩
  have hNb : 1 ≤ N ∧ N ≤ 5 := by omega
  obtain ⟨B, hB⟩ : ∃ B, w1.heap.size = B := ⟨_, rfl⟩
  have R1 := (unhide RR).apart gr (fun e => by have := Option.some.inj e; omega)
  have hRB : R < B := by rw [← hB]; exact R1.lt
  obtain ⟨V, hV⟩ : ∃ V, V = w1.alloc (Obj.cells #[.int .i64 (1 + x1), .slice none 0 0, .slice none 0 0, .slice none 0 0] 44) := ⟨_, rfl⟩
  have S1 : Hid (Nt w C R B a len cap V N (.slice none 0 0) (.slice none 0 0) (.slice none 0 0) [] [] []) := hide (by
    have bV : Below w1.heap.size w1 V := by rw [hV]; exact bel1 _
    refine ⟨d.below bV, unhide HIN, ⟨hCW, hRB⟩, R1.below bV, ?_, ownE_nl _ _ _, ownE_nl _ _ _, ownE_nl _ _ _, by simp [Value.ownBlock], by simp [Value.ownBlock], by simp [Value.ownBlock]⟩
    rw [hV, ← hB, ← hN]; exact Blk.new _ _)
  have HV := hide hV
  have HB := hide hB
  clear d gr R1 DD RR hV hB hN
  go_wp2_with fail
  rw [← unhide HV, unhide HB]
  clear HV HB
  refine (drBelow 4 _ (unhide S1).d (by omega)).mono ?_
  rintro x wa ⟨ka, rfl, hka, d, gr⟩
  have SS : Hid (Nt w C R B a len cap wa N (.slice none 0 0) (.slice none 0 0) (.slice none 0 0) [] [] []) := hide ((unhide S1).call gr d)
  obtain ⟨kk, rfl⟩ : ∃ kk : Nat, ka = (kk : Int) := ⟨ka.toNat, by omega⟩
  clear d gr S1
  go_wp2_with fail
  go_loopw [4] (fun c wr => ∃ (k : Nat) (V1 : Value) (ss : List Sr), c = .int .i64 (k : Int) ∧ ss.length + k ≤ 3 ∧ Hid (∀ j, j < ss.length → srB N (elAt ss j) = true) ∧ Hid (Nt w C R B a len cap wr N V1 (.slice none 0 0) (.slice none 0 0) ss [] [])) (fun c _ => (intOf c).toNat)
  case atStart => exact ⟨kk, _, [], rfl, by simp; omega, hide (fun j hj => by simp at hj), SS⟩
  case round =>
    clear SS hka
    obtain ⟨k, V1, ss, rfl, hk, HE1, HS⟩ := hrel
    have p0 : wr.cell? ⟨B, 0, none⟩ = some (.int .i64 N) := (unhide HS).p.c 0 (by simp)
    have p1 : wr.cell? ⟨B, 1, none⟩ = some V1 := (unhide HS).p.c 1 (by simp)
    by_cases hk0 : 0 < k
    · obtain ⟨j, hj⟩ : ∃ j, k = j + 1 := ⟨k - 1, by omega⟩
      have hsub : (k : Int) - 1 = (j : Int) := by omega
      have hwr : IntKind.i64.wrap (j : Int) = (j : Int) := by rw [IntKind.wrap_i64]; omega
      have hkp : (0 : Int) < (k : Int) := by omega
      obtain ⟨n, hn⟩ : ∃ n, ss.length = n := ⟨_, rfl⟩
      have HN := hide hn
      have HJ := hide hj
      rw [hn] at hk
      have hnb : n ≤ 1000 := by omega
      clear hn hj
      go_wp2_with fail
      go_region_law (first
        | ((fail_if_success have := D1); go_simp; go_wp2_with (go_at_call 46; refine (drBelow (w := w) (a := a) (len := len) (cap := cap) _ _ (by first | exact (unhide HS).d | exact ((unhide HS).below (bel0d 1)).d) (by omega)).mono ?_; rintro e u1 ⟨xb, rfl, hxb, d, gr⟩; have D1 : Hid (Nt w C R B a len cap u1 N V1 (.slice none 0 0) (.slice none 0 0) ss [] []) := hide (Nt.call (by first | exact unhide HS | exact (unhide HS).below (bel0d 1)) gr d); have p1a : u1.cell? ⟨B, 1, none⟩ = some V1 := (unhide D1).p.c 1 (by simp); have p1b : ∀ o, (u1.alloc o).cell? ⟨B, 1, none⟩ = some V1 := (fun o => ((unhide D1).p.alloc o).c 1 (by simp)); have p1c : u1.cell? ⟨B, 0, none⟩ = some (.int .i64 N) := (unhide D1).p.c 0 (by simp); clear d gr))
        | ((fail_if_success (fail_if_success have := D1)); (fail_if_success have := D2); go_simp; go_wp2_with (go_at_call 46; refine (drBelow (w := w) (a := a) (len := len) (cap := cap) _ _ (by first | exact (unhide D1).d | exact ((unhide D1).below (bel0d 1)).d) (by omega)).mono ?_; rintro e u2 ⟨xp, rfl, hxp, d, gr⟩; have D2 : Hid (Nt w C R B a len cap u2 N V1 (.slice none 0 0) (.slice none 0 0) ss [] []) := hide (Nt.call (by first | exact unhide D1 | exact (unhide D1).below (bel0d 1)) gr d); have p2a : u2.cell? ⟨B, 1, none⟩ = some V1 := (unhide D2).p.c 1 (by simp); have p2b : ∀ o, (u2.alloc o).cell? ⟨B, 1, none⟩ = some V1 := (fun o => ((unhide D2).p.alloc o).c 1 (by simp)); have p2c : u2.cell? ⟨B, 0, none⟩ = some (.int .i64 N) := (unhide D2).p.c 0 (by simp); clear d gr))
        | ((fail_if_success (fail_if_success have := D2)); (fail_if_success have := D3); go_simp; go_wp2_with (go_at_call 47; refine (drOnce (w := w) (a := a) (len := len) (cap := cap) _ _ (by first | exact (unhide D2).d | exact ((unhide D2).below (bel0d 1)).d) (by omega)).mono ?_; rintro e u3 ⟨xw, rfl, d, gr⟩; have D3 : Hid (Nt w C R B a len cap u3 N V1 (.slice none 0 0) (.slice none 0 0) ss [] []) := hide (Nt.call (by first | exact unhide D2 | exact (unhide D2).below (bel0d 1)) gr d); have p3a : u3.cell? ⟨B, 1, none⟩ = some V1 := (unhide D3).p.c 1 (by simp); have p3b : ∀ o, (u3.alloc o).cell? ⟨B, 1, none⟩ = some V1 := (fun o => ((unhide D3).p.alloc o).c 1 (by simp)); have p3c : u3.cell? ⟨B, 0, none⟩ = some (.int .i64 N) := (unhide D3).p.c 0 (by simp); clear d gr))
        | (refine step_app_sr rfl (.tmp 19) (.tmp 30) rfl (n := n) (unhide D3).o1 (unhide HN) (by simp [Act.eval]) rfl (by simp [Act.eval]) (unhide D3).here (by omega) ?_; intro g9 c9 w9 o9 gr9 at9; have p9 : w9.cell? ⟨B, 1, none⟩ = some V1 := ((unhide D3).p.apart gr9 (fun e => by have := ((unhide D3).o1.lies B e.symm).1; omega)).c 1 (by simp); have f9 : w9.frozen? ⟨B, 1, none⟩ = false := ((unhide D3).p.apart gr9 (fun e => by have := ((unhide D3).o1.lies B e.symm).1; omega)).f 1 (by simp)))
      all_goals
        go_wp2_with fail
        go_roundw
        case rel => exact ⟨j, _, ss ++ [⟨xb, xp, !xw⟩], rfl, by have := unhide HJ; have := unhide HN; simp; omega, hide (every_app (unhide HE1) (by simp [srB, inB]; omega)), hide ((unhide D3).push1 o9 gr9 at9)⟩
        case measure => simp [intOf]; have := unhide HJ; omega
    · have hkn : ¬ (0 : Int) < (k : Int) := by omega
      have hss : ss.length ≤ 6 := by omega
      obtain ⟨U1, rfl⟩ : ∃ U1, U1 = wr := ⟨_, rfl⟩
      have S2 := HS
      clear HS
      go_wp2_with fail
      refine (drBelow 6 _ (unhide S2).d (by omega)).mono ?_
      rintro x wa ⟨ka, rfl, hka, d, gr⟩
      have SS : Hid (Nt w C R B a len cap wa N V1 (.slice none 0 0) (.slice none 0 0) ss [] []) := hide ((unhide S2).call gr d)
      obtain ⟨kk, rfl⟩ : ∃ kk : Nat, ka = (kk : Int) := ⟨ka.toNat, by omega⟩
      clear d gr S2
      go_wp2_with fail
      go_loopw [5] (fun c wr => ∃ (k : Nat) (V2 : Value) (ts : List Ti), c = .int .i64 (k : Int) ∧ ts.length + k ≤ 5 ∧ Hid (∀ j, j < ts.length → tiB N (elAt ts j) = true) ∧ Hid (Nt w C R B a len cap wr N V1 V2 (.slice none 0 0) ss ts [])) (fun c _ => (intOf c).toNat)
      case atStart => exact ⟨kk, _, [], rfl, by simp; omega, hide (fun j hj => by simp at hj), SS⟩
      case round =>
        clear SS hka
        obtain ⟨k, V2, ts, rfl, hk, HE2, HS⟩ := hrel
        have p0 : wr.cell? ⟨B, 0, none⟩ = some (.int .i64 N) := (unhide HS).p.c 0 (by simp)
        have p1 : wr.cell? ⟨B, 2, none⟩ = some V2 := (unhide HS).p.c 2 (by simp)
        by_cases hk0 : 0 < k ∧ 1 < N
        · obtain ⟨j, hj⟩ : ∃ j, k = j + 1 := ⟨k - 1, by omega⟩
          have hsub : (k : Int) - 1 = (j : Int) := by omega
          have hwr : IntKind.i64.wrap (j : Int) = (j : Int) := by rw [IntKind.wrap_i64]; omega
          have hkp : (0 : Int) < (k : Int) := by omega
          obtain ⟨n, hn⟩ : ∃ n, ts.length = n := ⟨_, rfl⟩
          have HN := hide hn
          have HJ := hide hj
          rw [hn] at hk
          have hnb : n ≤ 1000 := by omega
          clear hn hj
          go_wp2_with fail
          refine (drBelow N _ (unhide HS).d (by omega)).mono ?_
          rintro x wb ⟨xa, rfl, hxa, d, gr⟩
          have HS := hide ((unhide HS).call gr d)
          have p0 : wb.cell? ⟨B, 0, none⟩ = some (.int .i64 N) := (unhide HS).p.c 0 (by simp)
          have p1 : wb.cell? ⟨B, 2, none⟩ = some V2 := (unhide HS).p.c 2 (by simp)
          have hN0 : ¬ N = 0 := by omega
          have hNm : ¬ N = -1 := by omega
          have HW1 : Hid (IntKind.i64.wrap (N - 1) = N - 1) := hide (by rw [IntKind.wrap_i64]; omega)
          clear d gr
          go_wp2_with fail
          go_region_law (first
            | ((fail_if_success have := D1); go_simp; go_wp2_with (go_at_call 46; refine (drBelow (w := w) (a := a) (len := len) (cap := cap) _ _ (by first | exact (unhide HS).d | exact ((unhide HS).below (bel0d 1)).d) (by first | omega | (rw [unhide HW1]; omega))).mono ?_; rintro e u1 ⟨xy, rfl, hxy, d, gr⟩; have D1 : Hid (Nt w C R B a len cap u1 N V1 V2 (.slice none 0 0) ss ts []) := hide (Nt.call (by first | exact unhide HS | exact (unhide HS).below (bel0d 1)) gr d); have p1a : u1.cell? ⟨B, 2, none⟩ = some V2 := (unhide D1).p.c 2 (by simp); have p1b : ∀ o, (u1.alloc o).cell? ⟨B, 2, none⟩ = some V2 := (fun o => ((unhide D1).p.alloc o).c 2 (by simp)); have p1c : u1.cell? ⟨B, 0, none⟩ = some (.int .i64 N) := (unhide D1).p.c 0 (by simp); clear d gr))
            | ((fail_if_success (fail_if_success have := D1)); (fail_if_success have := D2); go_simp; go_wp2_with (go_at_call 47; refine (drOnce (w := w) (a := a) (len := len) (cap := cap) _ _ (by first | exact (unhide D1).d | exact ((unhide D1).below (bel0d 1)).d) (by omega)).mono ?_; rintro e u2 ⟨xc, rfl, d, gr⟩; have D2 : Hid (Nt w C R B a len cap u2 N V1 V2 (.slice none 0 0) ss ts []) := hide (Nt.call (by first | exact unhide D1 | exact (unhide D1).below (bel0d 1)) gr d); have p2a : u2.cell? ⟨B, 2, none⟩ = some V2 := (unhide D2).p.c 2 (by simp); have p2b : ∀ o, (u2.alloc o).cell? ⟨B, 2, none⟩ = some V2 := (fun o => ((unhide D2).p.alloc o).c 2 (by simp)); have p2c : u2.cell? ⟨B, 0, none⟩ = some (.int .i64 N) := (unhide D2).p.c 0 (by simp); clear d gr))
            | (refine step_app_ti rfl (.tmp 49) (.tmp 65) rfl (n := n) (unhide D2).o2 (unhide HN) (by simp [Act.eval]) rfl (by simp [Act.eval]) (unhide D2).here (by omega) ?_; intro g9 c9 w9 o9 gr9 at9; have p9 : w9.cell? ⟨B, 2, none⟩ = some V2 := ((unhide D2).p.apart gr9 (fun e => by have := ((unhide D2).o2.lies B e.symm).1; omega)).c 2 (by simp); have f9 : w9.frozen? ⟨B, 2, none⟩ = false := ((unhide D2).p.apart gr9 (fun e => by have := ((unhide D2).o2.lies B e.symm).1; omega)).f 2 (by simp)))
          all_goals
            go_wp2_with fail
            go_roundw
            case rel => exact ⟨j, _, ts ++ [⟨xa, _, xc⟩], rfl, by have := unhide HJ; have := unhide HN; simp; omega, hide (every_app (unhide HE2) (good_tie (by omega) (by omega) hxa (by first | rfl | exact unhide HW1) hxy)), hide ((unhide D2).push2 o9 gr9 at9)⟩
            case measure => simp [intOf]; have := unhide HJ; omega
        · rcases (show (¬ (0 : Int) < (k : Int)) ∨ ((0 : Int) < (k : Int) ∧ ¬ 1 < N) by omega) with t1 | ⟨t1, t2⟩
          all_goals
            have hts : ts.length ≤ 16 := by omega
            obtain ⟨U2, rfl⟩ : ∃ U2, U2 = wr := ⟨_, rfl⟩
            have S3 := HS
            clear HS
            go_wp2_with fail
            refine (drBelow 8 _ (unhide S3).d (by omega)).mono ?_
            rintro x wa ⟨ka, rfl, hka, d, gr⟩
            have SS : Hid (Nt w C R B a len cap wa N V1 V2 (.slice none 0 0) ss ts []) := hide ((unhide S3).call gr d)
            obtain ⟨kk, rfl⟩ : ∃ kk : Nat, ka = (kk : Int) := ⟨ka.toNat, by omega⟩
            clear d gr S3
            go_wp2_with fail
            go_loopw [7] (fun c wr => ∃ (k : Nat) (V3 : Value) (us : List Us), c = .int .i64 (k : Int) ∧ us.length + k ≤ 7 ∧ Hid (∀ j, j < us.length → usB N (elAt us j) = true) ∧ Hid (Nt w C R B a len cap wr N V1 V2 V3 ss ts us)) (fun c _ => (intOf c).toNat)
            case atStart => exact ⟨kk, _, [], rfl, by simp; omega, hide (fun j hj => by simp at hj), SS⟩
            case round =>
              clear SS hka
              obtain ⟨k, V3, us, rfl, hk, HE3, HS⟩ := hrel
              have p0 : wr.cell? ⟨B, 0, none⟩ = some (.int .i64 N) := (unhide HS).p.c 0 (by simp)
              have p1 : wr.cell? ⟨B, 3, none⟩ = some V3 := (unhide HS).p.c 3 (by simp)
              by_cases hk0 : 0 < k
              · obtain ⟨j, hj⟩ : ∃ j, k = j + 1 := ⟨k - 1, by omega⟩
                have hsub : (k : Int) - 1 = (j : Int) := by omega
                have hwr : IntKind.i64.wrap (j : Int) = (j : Int) := by rw [IntKind.wrap_i64]; omega
                have hkp : (0 : Int) < (k : Int) := by omega
                obtain ⟨n, hn⟩ : ∃ n, us.length = n := ⟨_, rfl⟩
                have HN := hide hn
                have HJ := hide hj
                rw [hn] at hk
                have hnb : n ≤ 1000 := by omega
                clear hn hj
                go_wp2_with fail
                go_region_law (first
                  | ((fail_if_success have := D1); go_simp; go_wp2_with (go_at_call 46; refine (drBelow (w := w) (a := a) (len := len) (cap := cap) _ _ (by first | exact (unhide HS).d | exact ((unhide HS).below (bel0d 1)).d) (by omega)).mono ?_; rintro e u1 ⟨xb, rfl, hxb, d, gr⟩; have D1 : Hid (Nt w C R B a len cap u1 N V1 V2 V3 ss ts us) := hide (Nt.call (by first | exact unhide HS | exact (unhide HS).below (bel0d 1)) gr d); have p1a : u1.cell? ⟨B, 3, none⟩ = some V3 := (unhide D1).p.c 3 (by simp); have p1b : ∀ o, (u1.alloc o).cell? ⟨B, 3, none⟩ = some V3 := (fun o => ((unhide D1).p.alloc o).c 3 (by simp)); have p1c : u1.cell? ⟨B, 0, none⟩ = some (.int .i64 N) := (unhide D1).p.c 0 (by simp); clear d gr))
                  | ((fail_if_success (fail_if_success have := D1)); (fail_if_success have := D2); go_simp; go_wp2_with (go_at_call 46; refine (drBelow (w := w) (a := a) (len := len) (cap := cap) _ _ (by first | exact (unhide D1).d | exact ((unhide D1).below (bel0d 1)).d) (by omega)).mono ?_; rintro e u2 ⟨xp, rfl, hxp, d, gr⟩; have D2 : Hid (Nt w C R B a len cap u2 N V1 V2 V3 ss ts us) := hide (Nt.call (by first | exact unhide D1 | exact (unhide D1).below (bel0d 1)) gr d); have p2a : u2.cell? ⟨B, 3, none⟩ = some V3 := (unhide D2).p.c 3 (by simp); have p2b : ∀ o, (u2.alloc o).cell? ⟨B, 3, none⟩ = some V3 := (fun o => ((unhide D2).p.alloc o).c 3 (by simp)); have p2c : u2.cell? ⟨B, 0, none⟩ = some (.int .i64 N) := (unhide D2).p.c 0 (by simp); clear d gr))
                  | ((fail_if_success (fail_if_success have := D2)); (fail_if_success have := D3); go_simp; go_wp2_with (go_at_call 46; refine (drBelow (w := w) (a := a) (len := len) (cap := cap) _ _ (by first | exact (unhide D2).d | exact ((unhide D2).below (bel0d 1)).d) (by omega)).mono ?_; rintro e u3 ⟨xr, rfl, hxr, d, gr⟩; have D3 : Hid (Nt w C R B a len cap u3 N V1 V2 V3 ss ts us) := hide (Nt.call (by first | exact unhide D2 | exact (unhide D2).below (bel0d 1)) gr d); have p3a : u3.cell? ⟨B, 3, none⟩ = some V3 := (unhide D3).p.c 3 (by simp); have p3b : ∀ o, (u3.alloc o).cell? ⟨B, 3, none⟩ = some V3 := (fun o => ((unhide D3).p.alloc o).c 3 (by simp)); have p3c : u3.cell? ⟨B, 0, none⟩ = some (.int .i64 N) := (unhide D3).p.c 0 (by simp); clear d gr))
                  | (refine step_app_us rfl (.tmp 75) (.tmp 86) rfl (n := n) (unhide D3).o3 (unhide HN) (by simp [Act.eval]) rfl (by simp [Act.eval]) (unhide D3).here (by omega) ?_; intro g9 c9 w9 o9 gr9 at9; have p9 : w9.cell? ⟨B, 3, none⟩ = some V3 := ((unhide D3).p.apart gr9 (fun e => by have := ((unhide D3).o3.lies B e.symm).1; omega)).c 3 (by simp); have f9 : w9.frozen? ⟨B, 3, none⟩ = false := ((unhide D3).p.apart gr9 (fun e => by have := ((unhide D3).o3.lies B e.symm).1; omega)).f 3 (by simp)))
                all_goals
                  go_wp2_with fail
                  go_roundw
                  case rel => exact ⟨j, _, us ++ [⟨xb, _, xr⟩], rfl, by have := unhide HJ; have := unhide HN; simp; omega, hide (every_app (unhide HE3) (by first | exact good_use hxb hxp hxr | (simp [usB, inB]; omega))), hide ((unhide D3).push3 o9 gr9 at9)⟩
                  case measure => simp [intOf]; have := unhide HJ; omega
              · have hkn : ¬ (0 : Int) < (k : Int) := by omega
                have hus : us.length ≤ 40 := by omega
                obtain ⟨b1, e1, hV1, r1⟩ := (unhide HS).o1.rowAny
                obtain ⟨b2, e2, hV2, r2⟩ := (unhide HS).o2.rowAny
                obtain ⟨b3, e3, hV3, r3⟩ := (unhide HS).o3.rowAny
                have BB : Hid (Below w.heap.size w wr) := hide (unhide HS).d.bel
                have HP : Hid (Blk wr B [.int .i64 N, V1, V2, V3]) := hide (unhide HS).p
                have HRR : Hid (Blk wr R [.int .i64 0, .slice none 0 0, .slice none 0 0, .slice none 0 0]) := hide (unhide HS).r
                have hRw : w.heap.size ≤ R := by have := (unhide HS).d.ge; have := (unhide HS).cb; omega
                have NB : Hid (netB N ss ts us = true) := hide (netB_yes (by simp [inB]; omega) (ssB_yes hss (unhide HE1)) (tsB_yes hts (unhide HE2)) (unB_yes hus (unhide HE3)))
                clear r1 r2 r3
                go_wp2_with (first
                  | ((with_reducible show wpList _ _ _ (⟨_, .load 44 _, _, _, _, none⟩ :: _) _ _); refine at_loadAgg (vs := [.int .i64 N, V1, V2, V3]) Try.isAgg44 Try.sizeOf44 rfl (unhide HP) ?_)
                  | ((with_reducible show wpList _ _ _ (⟨none, .store 44 _ _, _, _, _, none⟩ :: _) _ _); refine at_storeAgg (us := [.int .i64 0, .slice none 0 0, .slice none 0 0, .slice none 0 0]) (vs := [.int .i64 N, V1, V2, V3]) Try.sizeOf44 rfl rfl (unhide HRR) rfl (by rw [hV1, hV2, hV3]; simp [Value.oneCell']) ?_; intro w9 kk9 gg9))
                have bE : Hid (Below w.heap.size w w9) := hide ((unhide BB).grown gg9 (unhide BB).size (fun q hq => by cases hq; exact hRw))
                have nE : Hid (NtO w9 (C + 1) b1 b2 b3 ss.length e1 ts.length e2 us.length e3 ss ts us) := hide (by
                  have h := unhide HS
                  have cb := h.cb
                  have f1 := h.o1.far gg9 (fun g hg e => by have := Option.some.inj e; have := (h.o1.lies g hg).1; omega)
                  have f2 := h.o2.far gg9 (fun g hg e => by have := Option.some.inj e; have := (h.o2.lies g hg).1; omega)
                  have f3 := h.o3.far gg9 (fun g hg e => by have := Option.some.inj e; have := (h.o3.lies g hg).1; omega)
                  rw [hV1] at f1; rw [hV2] at f2; rw [hV3] at f3
                  exact ⟨f1.mono (by omega), f2.mono (by omega), f3.mono (by omega)⟩)
                exact bodyPost_ret (results_cell (vs := [.int .i64 N, V1, V2, V3]) rfl Try.isAgg44 Try.sizeOf44 rfl kk9) rfl ⟨N, b1, b2, b3, ss.length, e1, ts.length, e2, us.length, e3, ss, ts, us, by rw [hV1, hV2, hV3], unhide nE, unhide NB, unhide bE⟩

set_option maxRecDepth 20000 in
set_option maxHeartbeats 2000000 in
theorem drawNet_any (a : Option Addr) (len cap : Nat) (w : World) (hb : Bytes w a len) (hin : ∀ b off, a = some ⟨b, off, none⟩ → b < w.heap.size) :
    Calls Try.prog 13 #[.slice a len cap] w fun e w' => NetDrawn w w.heap.size e w' := by
  have HZ := hide (bel1 (w := w) (Obj.cells #[.int .i64 0, .slice none 0 0, .slice none 0 0, .slice none 0 0] 44))
  have HK := hide (Blk.new (w := w) [.int .i64 0, .slice none 0 0, .slice none 0 0, .slice none 0 0] 44)
  have HY := hide (hb.below (unhide HZ))
  have HIN := hide hin
  clear hb hin
  go_enter Try.func13, Try.ntmps13
  go_wp2_with fail
  refine (drNew a len cap _ (unhide HY) (fun b off e => by have := (unhide HIN) b off e; simp; omega)).mono ?_
  rintro x w1 ⟨rfl, d, b⟩
  obtain ⟨C, hC⟩ : ∃ C, (w.alloc (Obj.cells #[.int .i64 0, .slice none 0 0, .slice none 0 0, .slice none 0 0] 44)).heap.size = C := ⟨_, rfl⟩
  have HC1 : Hid (C = w.heap.size + 1) := hide (by rw [← hC]; simp)
  rw [hC] at d ⊢
  have DD := hide d
  clear d b HK hC
  go_wp2_with fail
  refine (l7Draw_any w1 (unhide DD) (fun b off e => by have := (unhide HIN) b off e; simp; omega)).mono ?_
  rintro x w2 ⟨N, a1, a2, a3, l1, c1, l2, c2, l3, c3, ss, ts, us, rfl, ni, hok, b2⟩
  have B2 := hide ((unhide HZ).trans (b2.mono (unhide HZ).size))
  have HK2 : Hid (Blk w2 w.heap.size [.int .i64 0, .slice none 0 0, .slice none 0 0, .slice none 0 0]) := hide ((Blk.new (w := w) [.int .i64 0, .slice none 0 0, .slice none 0 0, .slice none 0 0] 44).below b2)
  have NO := hide ni
  have HOK := hide hok
  clear b2 ni hok DD HY
  go_wp2_with ((with_reducible show wpList _ _ _ (⟨none, .store 44 _ _, _, _, _, none⟩ :: _) _ _); refine at_storeAgg (us := [.int .i64 0, .slice none 0 0, .slice none 0 0, .slice none 0 0]) (vs := [.int .i64 N, .slice a1 l1 c1, .slice a2 l2 c2, .slice a3 l3 c3]) Try.sizeOf44 rfl rfl (unhide HK2) rfl (by simp [Value.oneCell']) ?_; intro w9 kk9 gg9)
  have bE := hide ((unhide B2).grown gg9 (unhide B2).size (fun q hq => by cases hq; exact Nat.le_refl _))
  have nE := hide (((unhide NO).far gg9 (by have := unhide HC1; omega)).mono (show w.heap.size ≤ C + 1 by have := unhide HC1; omega))
  exact bodyPost_ret (results_cell (vs := [.int .i64 N, .slice a1 l1 c1, .slice a2 l2 c2, .slice a3 l3 c3]) rfl Try.isAgg44 Try.sizeOf44 rfl kk9) rfl ⟨N, a1, a2, a3, l1, c1, l2, c2, l3, c3, ss, ts, us, rfl, unhide nE, unhide HOK, unhide bE⟩

end Go.Proofs.Ytfahhjgpgccdhac

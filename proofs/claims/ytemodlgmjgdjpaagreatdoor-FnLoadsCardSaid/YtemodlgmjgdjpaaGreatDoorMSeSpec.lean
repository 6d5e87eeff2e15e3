/-
  What the model's Seal answers: a plain answer, at every argument; nothing that was there is written.
  What the program's Seal answers: a plain answer, at every argument; nothing that was there is written.
-/
import Derived.Test.YtemodlgmjgdjpaaGreatDoorMLdSpec
import Derived.Test.YtemodlgmjgdjpaaGreatDoorMKeeps
import Derived.Test.YtemodlgmjgdjpaaGreatDoorMSortI
import Derived.Test.YtemodlgmjgdjpaaGreatDoorMOnly
import Derived.LoopN

namespace Go.Proofs.YtemodlgmjgdjpaaGreatDoor
open Go Go.RowKit

/-- A list of numbers in the making, the load in a block of its own. -/
structure SeS (w : World) (P : List Value) (wr : World) (v : Value) (zs : List Int) : Prop where
  own : OwnI wr (w.heap.size + 1) v zs
  blk : Blk wr w.heap.size P
  bel : Below w.heap.size w wr
theorem SeS.app {w wr w9 : World} {P : List Value} {v v9 : Value} {zs zs9 : List Int} (h : SeS w P wr v zs) (o9 : OwnI w9 (w.heap.size + 1) v9 zs9) (gr : wr.grownBy w9 v.ownBlock) : SeS w P w9 v9 zs9 :=
  ⟨o9, h.blk.apart gr (fun e => by have := (h.own.lies _ e.symm).1; omega), h.bel.grown gr h.bel.size (fun q hq => by have := (h.own.lies q hq).1; omega)⟩
theorem SeS.below {w wr w9 : World} {P : List Value} {v : Value} {zs : List Int} (h : SeS w P wr v zs) (k : Below wr.heap.size wr w9) : SeS w P w9 v zs :=
  ⟨h.own.below k, h.blk.below k, h.bel.trans (k.mono h.bel.size)⟩
theorem lit_cells (w : World) (ys : List Int) (T : TypeId) : ∀ j, j < ys.length → (w.alloc (Obj.cells (ys.map (Value.int .i64)).toArray T)).cell? ((⟨w.heap.size, 0, none⟩ : Addr).add j) = some (.int .i64 (nth ys j)) := by
  intro j hj
  rw [addr_addR, (Blk.new (w := w) (ys.map (Value.int .i64)) T).c (0 + j) (by simpa using hj)]
  simp [nth, hj]
theorem elAt_int (zs : List Int) (i : Nat) : elAt zs i = nth zs i := rfl
/-- What a seal is answered as. -/
def seR (x : Lc) : Int := if ldB x = true then seO x else 0
theorem ldL_bd {x : Lc} (h : ldB x = true) (hz : ∀ i, i < x.zs.length → 0 ≤ elAt x.zs i ∧ elAt x.zs i ≤ 255) {k : Nat} (hk : k < (ldL x).length) : 0 ≤ nth (ldL x) k ∧ nth (ldL x) k ≤ 1000000 :=
  ldL_pos h hz _ (by rw [show nth (ldL x) k = (ldL x)[k] by simp [nth, hk]]; exact List.getElem_mem hk)

set_option maxRecDepth 20000 in
set_option maxHeartbeats 4000000 in
theorem specSeal_any (p : ByteArray) (nb le mo ne : Int) (a1 : Option Addr) (l1 c1 : Nat) (zs : List Int) (w : World) (hr : LdIn w a1 l1 zs) (hby : ∀ i, i < l1 → 0 ≤ elAt zs i ∧ elAt zs i ≤ 255) (hs : p.size ≤ 9223372036854775807) :
    Calls Tryz.prog 58 #[.agg #[.string p, .int .i64 nb, .int .i64 le, .int .i64 mo, .int .i64 ne, .slice a1 l1 c1]] w fun e w' => e = .returned (.tuple #[.int .i64 (seR ⟨p, nb, le, mo, ne, zs⟩), .bool (ldB ⟨p, nb, le, mo, ne, zs⟩)]) ∧ Below w.heap.size w w' := by
  have hz := hr.r1.len_eq
  have hsm := hr.r1.small
  have HR := hide hr
  have HBY := hide hby
  have HZ := hide hz
  clear hr hby
  obtain ⟨W, hW⟩ : ∃ W, W = (w.alloc (Obj.cells #[.string p, .int .i64 nb, .int .i64 le, .int .i64 mo, .int .i64 ne, .slice a1 l1 c1] 32)) := ⟨_, rfl⟩
  have K0 : Hid (Blk W w.heap.size [.string p, .int .i64 nb, .int .i64 le, .int .i64 mo, .int .i64 ne, .slice a1 l1 c1]) := hide (by rw [hW]; exact Blk.new _ _)
  have B0 : Hid (Below w.heap.size w W) := hide (by rw [hW]; exact bel1 _)
  have hWs : W.heap.size = w.heap.size + 1 := by rw [hW]; simp
  have HW := hide hW
  clear hW
  cases q : ldB ⟨p, nb, le, mo, ne, zs⟩ with
  | false =>
    have HE : Hid (seR ⟨p, nb, le, mo, ne, zs⟩ = 0) := hide (by rw [seR, q]; rfl)
    clear hWs
    go_enter Tryz.func58, Tryz.ntmps58
    go_wp2_with fail
    rw [← unhide HW]
    clear HW
    refine (specLoadOk_is p nb le mo ne a1 l1 c1 zs W hs hsm hz q).mono ?_
    rintro e w1 ⟨rfl, b1⟩
    have B1 := hide ((unhide B0).trans (b1.mono (unhide B0).size))
    clear b1 K0 B0
    go_wp2_with fail
    rw [unhide HE]
    refine bodyPost_ret (v := .tuple #[.int .i64 0, .bool false]) (by simp [results, Tryz.results58, go_sem]) rfl ⟨rfl, unhide B1⟩
  | true =>
    have HE : Hid (seR ⟨p, nb, le, mo, ne, zs⟩ = seO ⟨p, nb, le, mo, ne, zs⟩) := hide (by rw [seR, q]; rfl)
    have HQ := hide q
    obtain ⟨_, f1, f2, f3, f4, f5⟩ := ldB_facts q
    have f1 : p.size ≤ 20 := f1.2
    have f5 : zs.length ≤ 400 := f5
    have f2 : 1 ≤ nb ∧ nb ≤ 1000000 := f2
    have f3 : 1 ≤ le ∧ le ≤ mo ∧ mo ≤ 1000000 := f3
    have f4 : 0 ≤ ne ∧ ne ≤ 1000000 := f4
    have hl400 : l1 ≤ 400 := by omega
    go_enter Tryz.func58, Tryz.ntmps58
    go_wp2_with fail
    rw [← unhide HW]
    clear HW
    refine (specLoadOk_is p nb le mo ne a1 l1 c1 zs W hs hsm hz q).mono ?_
    rintro e w1 ⟨rfl, b1⟩
    have hw1 : w.heap.size + 1 ≤ w1.heap.size := by have := b1.size; omega
    have S0 : Hid (SeS w [.string p, .int .i64 nb, .int .i64 le, .int .i64 mo, .int .i64 ne, .slice a1 l1 c1] (w1.alloc (Obj.cells #[] 3)) (.slice (some ⟨w1.heap.size, 0, none⟩) 0 0) (txL p 0)) := hide ⟨by
      have := ownI_none (w := W) (w1 := w1) b1.size
      rw [hWs] at this; exact this, ((unhide K0).below b1).alloc _, ((unhide B0).trans (b1.mono (unhide B0).size)).trans ((bel1 _).mono (by omega))⟩
    clear b1 K0 B0 hWs hz q f5
    go_wp2_with fail
    go_loopw [4, 5] (fun v i wr => ∃ k g c : Nat, v = .slice (some ⟨g, 0, none⟩) k c ∧ i = .int .i64 k ∧ k ≤ p.size ∧ Hid (SeS w [.string p, .int .i64 nb, .int .i64 le, .int .i64 mo, .int .i64 ne, .slice a1 l1 c1] wr (.slice (some ⟨g, 0, none⟩) k c) (txL p k))) (fun _ i _ => p.size - (intOf i).toNat)
    case atStart => exact ⟨0, _, 0, rfl, rfl, Nat.zero_le _, S0⟩
    case round =>
      clear S0
      obtain ⟨k, g, c, rfl, rfl, hk, SS⟩ := hrel
      have c0 : wr.cell? ⟨w.heap.size, 0, none⟩ = some (.string p) := (unhide SS).blk.c 0 (by simp)
      have sW : w.heap.size + 1 ≤ wr.heap.size := (unhide SS).blk.lt
      have HL := hide (txL_len p k)
      by_cases hlt : k < p.size
      · have hi1 : (k : Int) < (p.size : Int) := by omega
        have hi0 : (0 : Int) ≤ (k : Int) := by omega
        have hby := byAt_is hlt
        have hbd := byAt_bd p k
        go_wp2_with (at_builtin; refine wpList_app_int rfl _ _ rfl (n := k) (byAt p k) (unhide SS).own (unhide HL) rfl rfl rfl sW (by omega) (by omega) ?_; intro g9 c9 w9 o9 gr9)
        have NX : Hid (SeS w [.string p, .int .i64 nb, .int .i64 le, .int .i64 mo, .int .i64 ne, .slice a1 l1 c1] w9 (.slice (some ⟨g9, 0, none⟩) (k + 1) c9) (txL p (k + 1))) := hide (by rw [txL_succ]; exact (unhide SS).app o9 gr9)
        clear o9 gr9
        go_roundw
        case rel => exact ⟨k + 1, g9, c9, rfl, by go_num, by omega, NX⟩
        case measure => simp [intOf]; omega
      · have hi1 : ¬ (k : Int) < (p.size : Int) := by omega
        have hkk : Hid (k = p.size) := hide (by omega)
        have c1' : wr.cell? ⟨w.heap.size, 1, none⟩ = some (.int .i64 nb) := (unhide SS).blk.c 1 (by simp)
        have c2' : wr.cell? ⟨w.heap.size, 2, none⟩ = some (.int .i64 le) := (unhide SS).blk.c 2 (by simp)
        have c3' : wr.cell? ⟨w.heap.size, 3, none⟩ = some (.int .i64 mo) := (unhide SS).blk.c 3 (by simp)
        have c4' : wr.cell? ⟨w.heap.size, 4, none⟩ = some (.int .i64 ne) := (unhide SS).blk.c 4 (by simp)
        have c5' : wr.cell? ⟨w.heap.size, 5, none⟩ = some (.slice a1 l1 c1) := (unhide SS).blk.c 5 (by simp)
        have SA := hide ((unhide SS).below (bel1 (Obj.cells #[.int .i64 nb, .int .i64 le, .int .i64 mo, .int .i64 ne, .int .i64 (l1 : Int)] 3)))
        have HC := hide (lit_cells wr [nb, le, mo, ne, (l1 : Int)] 3)
        have HF : Hid (∀ i : Nat, -9223372036854775808 ≤ nth [nb, le, mo, ne, (l1 : Int)] i ∧ nth [nb, le, mo, ne, (l1 : Int)] i ≤ 9223372036854775807) := hide (fun i => by
          match i with
          | 0 => simp [nth]; omega
          | 1 => simp [nth]; omega
          | 2 => simp [nth]; omega
          | 3 => simp [nth]; omega
          | 4 => simp [nth]; omega
          | i + 5 => simp [nth])
        go_wp2_with (at_builtin; refine wpList_app_ints rfl _ _ rfl (unhide SA).own rfl ⟨wr.heap.size, 0, none⟩ 5 5 [nb, le, mo, ne, (l1 : Int)] rfl rfl (unhide HC) (unhide HF) (by rw [unhide HL]; omega) (by simp; omega) ?_; intro v9 w9 o9 gr9 n9)
        have S9 := hide ((unhide SA).app o9 gr9)
        rcases o9.form with ⟨e, _⟩ | ⟨g9, c9, e, _⟩
        · exact absurd (n9 e) (by simp)
        subst e
        have hm9 : (txL p k ++ [nb, le, mo, ne, (l1 : Int)]).length = p.size + 5 := by rw [List.length_append, unhide HL, unhide hkk]; rfl
        rw [hm9] at S9 ⊢
        have HM9 := hide hm9
        have S9 : Hid (SeS w [.string p, .int .i64 nb, .int .i64 le, .int .i64 mo, .int .i64 ne, .slice a1 l1 c1] w9 (.slice (some ⟨g9, 0, none⟩) (p.size + 5) c9) (txL p p.size ++ ldN ⟨p, nb, le, mo, ne, zs⟩ ++ zs.take 0)) := hide (by
          have := unhide S9
          rw [unhide hkk] at this
          rw [List.take_zero, List.append_nil]
          unfold ldN
          rw [unhide HZ]
          exact this)
        clear SA HC HF o9 gr9 n9 c0 c1' c2' c3' c4' c5' SS HL hkk hi1 hlt hm9 HM9 sW hk
        obtain ⟨m0, hm0⟩ : ∃ m, m = p.size + 5 := ⟨_, rfl⟩
        rw [← hm0] at S9 ⊢
        have HM0 : Hid (m0 = p.size + 5 + 0) := hide (by omega)
        have hm0b : m0 ≤ 25 := by omega
        clear hm0
        go_wp2_with fail
        go_loopw [4, 6] (fun v i wr => ∃ k g c m : Nat, v = .slice (some ⟨g, 0, none⟩) m c ∧ i = .int .i64 k ∧ k ≤ l1 ∧ m ≤ 425 ∧ Hid (m = p.size + 5 + k) ∧ Hid (SeS w [.string p, .int .i64 nb, .int .i64 le, .int .i64 mo, .int .i64 ne, .slice a1 l1 c1] wr (.slice (some ⟨g, 0, none⟩) m c) (txL p p.size ++ ldN ⟨p, nb, le, mo, ne, zs⟩ ++ zs.take k))) (fun _ i _ => l1 - (intOf i).toNat)
        case atStart => exact ⟨0, _, _, _, rfl, rfl, Nat.zero_le _, by omega, HM0, S9⟩
        case round =>
          clear S9 HM0 hm0b
          obtain ⟨j, g2, c2, m, rfl, rfl, hj, hmb, HM, SS⟩ := hrel
          have c5 : wr.cell? ⟨w.heap.size, 5, none⟩ = some (.slice a1 l1 c1) := (unhide SS).blk.c 5 (by simp)
          have sW : w.heap.size + 1 ≤ wr.heap.size := (unhide SS).blk.lt
          have HL : Hid ((txL p p.size ++ ldN ⟨p, nb, le, mo, ne, zs⟩ ++ zs.take j).length = m) := hide (by
            have := unhide HZ
            rw [List.length_append, List.length_append, txL_len, List.length_take, unhide HM, Nat.min_eq_left (by omega)]; rfl)
          by_cases hlt : j < l1
          · have hi1 : (j : Int) < (l1 : Int) := by omega
            have hi0 : (0 : Int) ≤ (j : Int) := by omega
            have hbb := (unhide HBY) j hlt
            rcases (unhide HR).r1.open1 with ⟨h0, _⟩ | ⟨bb, off, rfl, _, hc⟩
            · omega
            have hcw : w.cell? ⟨bb, off + j, none⟩ = some (.int .u8 (elAt zs j)) := hc j hlt
            have hcell := ((unhide SS).bel.cell (p := ⟨bb, off + j, none⟩) (block_lt_of_cell hcw)).trans hcw
            clear hc hcw
            obtain ⟨Y, hY⟩ : ∃ y, elAt zs j = y := ⟨_, rfl⟩
            have HY := hide hY
            rw [hY] at hbb hcell
            clear hY
            go_wp2_with (at_builtin; refine wpList_app_int rfl _ _ rfl (n := m) Y (unhide SS).own (unhide HL) rfl rfl rfl sW (by omega) (by omega) ?_; intro g9 c9 w9 o9 gr9)
            have NX : Hid (SeS w [.string p, .int .i64 nb, .int .i64 le, .int .i64 mo, .int .i64 ne, .slice (some ⟨bb, off, none⟩) l1 c1] w9 (.slice (some ⟨g9, 0, none⟩) (m + 1) c9) (txL p p.size ++ ldN ⟨p, nb, le, mo, ne, zs⟩ ++ zs.take (j + 1))) := hide (by
              have hzj : j < zs.length := by have := unhide HZ; omega
              rw [List.take_add_one, show zs[j]? = some (elAt zs j) by simp [elAt, hzj], unhide HY, ← List.append_assoc]
              exact (unhide SS).app o9 gr9)
            have NM : Hid (m + 1 = p.size + 5 + (j + 1)) := hide (by have := unhide HM; omega)
            have nmb : m + 1 ≤ 425 := by have := unhide HM; omega
            clear o9 gr9
            go_roundw
            case rel => exact ⟨j + 1, g9, c9, m + 1, rfl, by go_num, by omega, nmb, NM, NX⟩
            case measure => simp [intOf]; omega
          · have hi1 : ¬ (j : Int) < (l1 : Int) := by omega
            have hjj : j = zs.length := by have := unhide HZ; omega
            have SF : Hid (SeS w [.string p, .int .i64 nb, .int .i64 le, .int .i64 mo, .int .i64 ne, .slice a1 l1 c1] wr (.slice (some ⟨g2, 0, none⟩) m c2) (ldL ⟨p, nb, le, mo, ne, zs⟩)) := hide (by
              have := unhide SS
              rw [hjj, List.take_length] at this
              exact this)
            have HLm : Hid ((ldL ⟨p, nb, le, mo, ne, zs⟩).length = m) := hide (by have := unhide HL; rw [hjj, List.take_length] at this; exact this)
            clear SS HL hjj
            go_wp2_with fail
            go_loopw [7, 8] (fun x i wq => ∃ k : Nat, x = .int .i64 (seF 7 ((ldL ⟨p, nb, le, mo, ne, zs⟩).take k)) ∧ i = .int .i64 k ∧ k ≤ m ∧ wq = wr) (fun _ i _ => m - (intOf i).toNat)
            case atStart => exact ⟨0, rfl, rfl, Nat.zero_le _, rfl⟩
            case round =>
              obtain ⟨k, rfl, rfl, hk, hwq⟩ := hrel
              subst hwq
              have hxb := seF_bd (x := 7) (by omega) ((ldL ⟨p, nb, le, mo, ne, zs⟩).take k)
              by_cases hlt : k < m
              · have hkl : k < (ldL ⟨p, nb, le, mo, ne, zs⟩).length := by rw [unhide HLm]; exact hlt
                have hnb := ldL_bd (unhide HQ) (fun i hi => (unhide HBY) i (by have := unhide HZ; have : i < zs.length := hi; omega)) hkl
                have hst := seF_take (x := 7) hkl
                rw [elAt_int] at hst
                have hc3 : wr.cell? ⟨g2, k, none⟩ = some (.int .i64 (nth (ldL ⟨p, nb, le, mo, ne, zs⟩) k)) := by
                  have h := (unhide SF).own
                  rw [← unhide HLm] at h
                  exact (h.here k hkl).1
                obtain ⟨N, hN⟩ : ∃ n, nth (ldL ⟨p, nb, le, mo, ne, zs⟩) k = n := ⟨_, rfl⟩
                obtain ⟨F, hF⟩ : ∃ f, seF 7 ((ldL ⟨p, nb, le, mo, ne, zs⟩).take k) = f := ⟨_, rfl⟩
                rw [hN] at hnb hst hc3
                rw [hF] at hst hxb ⊢
                have hib : (k : Int) < (m : Int) := by omega
                have hi0 : (0 : Int) ≤ (k : Int) := by omega
                have HST := hide (hst.trans (seS.eq_1 F N))
                clear hst hN hF hkl
                go_wp2_with fail
                go_roundw
                case rel => exact ⟨k + 1, by rw [unhide HST], by go_num, by omega, by first | rfl | trivial⟩
                case measure => simp [intOf]; omega
              · have hib : ¬ (k : Int) < (m : Int) := by omega
                have hkm : k = (ldL ⟨p, nb, le, mo, ne, zs⟩).length := by rw [unhide HLm]; omega
                have HS : Hid (seF 7 ((ldL ⟨p, nb, le, mo, ne, zs⟩).take k) = seR ⟨p, nb, le, mo, ne, zs⟩) := hide (by rw [unhide HE, hkm, List.take_length]; rfl)
                clear hkm
                go_wp2_with fail
                rw [← unhide HS]
                refine bodyPost_ret (v := .tuple #[.int .i64 _, .bool true]) (by simp [results, Tryz.results58, go_sem]) rfl ⟨rfl, (unhide SF).bel⟩

end Go.Proofs.YtemodlgmjgdjpaaGreatDoor

namespace Go.Proofs.YtemodlgmjgdjpaaGreatDoor
open Go Go.RowKit

set_option maxHeartbeats 2000000 in
theorem sealedWith_is (x n : Int) (w : World) (hx : 0 ≤ x ∧ x < 1000003) (hn : 0 ≤ n ∧ n ≤ 1000000) :
    Calls Tryz.prog 73 #[.int .i64 x, .int .i64 n] w fun e w' => e = .returned (.int .i64 (seS x n)) ∧ w' = w := by
  have HE := hide (seS_tmod hx.1 hn.1)
  have h1 : 0 ≤ x * 31 + n := by omega
  have HS := hide (seS.eq_1 x n)
  go_enter Tryz.func73, Tryz.ntmps73
  go_wp2
  go_ret
  exact ⟨ret_int (unhide HS).symm, rfl⟩
theorem ix5_0 (a b c d e : Int) (w : World) : (Instr.index 101 (.agg #[.int .i64 a, .int .i64 b, .int .i64 c, .int .i64 d, .int .i64 e]) (.int .i64 0)).run Tryz.prog w = .ok (.int .i64 a) w := by kernel_rfl
theorem ix5_1 (a b c d e : Int) (w : World) : (Instr.index 101 (.agg #[.int .i64 a, .int .i64 b, .int .i64 c, .int .i64 d, .int .i64 e]) (.int .i64 1)).run Tryz.prog w = .ok (.int .i64 b) w := by kernel_rfl
theorem ix5_2 (a b c d e : Int) (w : World) : (Instr.index 101 (.agg #[.int .i64 a, .int .i64 b, .int .i64 c, .int .i64 d, .int .i64 e]) (.int .i64 2)).run Tryz.prog w = .ok (.int .i64 c) w := by kernel_rfl
theorem ix5_3 (a b c d e : Int) (w : World) : (Instr.index 101 (.agg #[.int .i64 a, .int .i64 b, .int .i64 c, .int .i64 d, .int .i64 e]) (.int .i64 3)).run Tryz.prog w = .ok (.int .i64 d) w := by kernel_rfl
theorem ix5_4 (a b c d e : Int) (w : World) : (Instr.index 101 (.agg #[.int .i64 a, .int .i64 b, .int .i64 c, .int .i64 d, .int .i64 e]) (.int .i64 4)).run Tryz.prog w = .ok (.int .i64 e) w := by kernel_rfl
set_option maxRecDepth 20000 in
set_option maxHeartbeats 4000000 in
theorem seal_is (p : ByteArray) (nb le mo ne : Int) (a1 : Option Addr) (l1 c1 : Nat) (zs : List Int) (w : World) (hr : LdIn w a1 l1 zs) (hby : ∀ i, i < l1 → 0 ≤ elAt zs i ∧ elAt zs i ≤ 255) (hq : ldB ⟨p, nb, le, mo, ne, zs⟩ = true) :
    Calls Tryz.prog 37 #[.agg #[.string p, .int .i64 nb, .int .i64 le, .int .i64 mo, .int .i64 ne, .slice a1 l1 c1]] w fun e w' => e = .returned (.int .i64 (seO ⟨p, nb, le, mo, ne, zs⟩)) ∧ Below w.heap.size w w' := by
  have hz := hr.r1.len_eq
  have hsm := hr.r1.small
  have HR := hide hr
  have HBY := hide hby
  have HZ := hide hz
  obtain ⟨_, f1, f2, f3, f4, f5⟩ := ldB_facts hq
  have f1 : p.size ≤ 20 := f1.2
  have f5 : zs.length ≤ 400 := f5
  have f2 : 1 ≤ nb ∧ nb ≤ 1000000 := f2
  have f3 : 1 ≤ le ∧ le ≤ mo ∧ mo ≤ 1000000 := f3
  have f4 : 0 ≤ ne ∧ ne ≤ 1000000 := f4
  have hl400 : l1 ≤ 400 := by omega
  have hl0 : (0 : Int) ≤ (l1 : Int) := by omega
  have hl4 : (l1 : Int) ≤ 400 := by omega
  have HO : Hid (seO ⟨p, nb, le, mo, ne, zs⟩ = seF (seS (seS (seS (seS (seS (seF 7 (txL p p.size)) nb) le) mo) ne) (l1 : Int)) zs) := hide (by rw [seO_parts, ldN, ← hz]; rfl)
  obtain ⟨W, hW⟩ : ∃ W, W = (w.alloc (Obj.cells #[.string p, .int .i64 nb, .int .i64 le, .int .i64 mo, .int .i64 ne, .slice a1 l1 c1] 32)) := ⟨_, rfl⟩
  have K0 : Hid (Blk W w.heap.size [.string p, .int .i64 nb, .int .i64 le, .int .i64 mo, .int .i64 ne, .slice a1 l1 c1]) := hide (by rw [hW]; exact Blk.new _ _)
  have B0 : Hid (Below w.heap.size w W) := hide (by rw [hW]; exact bel1 _)
  have HW := hide hW
  clear hr hby hW hz f5 hq
  have c0 : W.cell? ⟨w.heap.size, 0, none⟩ = some (.string p) := (unhide K0).c 0 (by simp)
  have c1' : W.cell? ⟨w.heap.size, 1, none⟩ = some (.int .i64 nb) := (unhide K0).c 1 (by simp)
  have c2' : W.cell? ⟨w.heap.size, 2, none⟩ = some (.int .i64 le) := (unhide K0).c 2 (by simp)
  have c3' : W.cell? ⟨w.heap.size, 3, none⟩ = some (.int .i64 mo) := (unhide K0).c 3 (by simp)
  have c4' : W.cell? ⟨w.heap.size, 4, none⟩ = some (.int .i64 ne) := (unhide K0).c 4 (by simp)
  have c5' : W.cell? ⟨w.heap.size, 5, none⟩ = some (.slice a1 l1 c1) := (unhide K0).c 5 (by simp)
  go_enter Tryz.func37, Tryz.ntmps37
  go_wp2_with fail
  rw [← unhide HW]
  clear HW
  go_wp2_with fail
  go_loopw [3, 12] (fun x i wr => ∃ k : Nat, x = .int .i64 (seF 7 (txL p k)) ∧ i = .int .i64 k ∧ k ≤ p.size ∧ wr = W) (fun _ i _ => p.size - (intOf i).toNat)
  case atStart => exact ⟨0, rfl, rfl, Nat.zero_le _, rfl⟩
  case round =>
    obtain ⟨k, rfl, rfl, hk, hwr⟩ := hrel
    subst hwr
    have hxb := seF_bd (x := 7) (by omega) (txL p k)
    by_cases hlt : k < p.size
    · have hi1 : (k : Int) < (p.size : Int) := by omega
      have hi0 : (0 : Int) ≤ (k : Int) := by omega
      have hby := byAt_is hlt
      have hbd := byAt_bd p k
      have HST : Hid (seF 7 (txL p (k + 1)) = seS (seF 7 (txL p k)) (byAt p k)) := hide (by rw [txL_succ, seF_one])
      go_wp2_with (go_at_call 73; refine (sealedWith_is _ _ _ (by exact hxb) (by omega)).mono ?_; rintro e w' ⟨rfl, hw⟩; subst w')
      go_roundw
      case rel => exact ⟨k + 1, by rw [unhide HST], by go_num, by omega, by first | rfl | trivial⟩
      case measure => simp [intOf]; omega
    · have hi1 : ¬ (k : Int) < (p.size : Int) := by omega
      obtain rfl : k = p.size := by omega
      obtain ⟨X0, hX0⟩ : ∃ x, seF 7 (txL p p.size) = x := ⟨_, rfl⟩
      have b0 : 0 ≤ X0 ∧ X0 < 1000003 := by rw [← hX0]; exact hxb
      have b1 := seS_bd X0 nb
      have b2 := seS_bd (seS X0 nb) le
      have b3 := seS_bd (seS (seS X0 nb) le) mo
      have b4 := seS_bd (seS (seS (seS X0 nb) le) mo) ne
      have b5 := seS_bd (seS (seS (seS (seS X0 nb) le) mo) ne) (l1 : Int)
      rw [hX0] at HO ⊢
      clear hX0 hxb hi1 hk
      have i0 := ix5_0 nb le mo ne (l1 : Int)
      have i1 := ix5_1 nb le mo ne (l1 : Int)
      have i2 := ix5_2 nb le mo ne (l1 : Int)
      have i3 := ix5_3 nb le mo ne (l1 : Int)
      have i4 := ix5_4 nb le mo ne (l1 : Int)
      go_wp2_with fail
      refine wp_loop_rounds 6 ?_
      rw [rounds_succ]
      go_wp2_with (go_at_call 73; refine (sealedWith_is _ _ _ (by exact b0) (by omega)).mono ?_; rintro e w' ⟨rfl, hw⟩; subst w')
      rw [rounds_succ]
      go_wp2_with (go_at_call 73; refine (sealedWith_is _ _ _ (by exact b1) (by omega)).mono ?_; rintro e w' ⟨rfl, hw⟩; subst w')
      rw [rounds_succ]
      go_wp2_with (go_at_call 73; refine (sealedWith_is _ _ _ (by exact b2) (by omega)).mono ?_; rintro e w' ⟨rfl, hw⟩; subst w')
      rw [rounds_succ]
      go_wp2_with (go_at_call 73; refine (sealedWith_is _ _ _ (by exact b3) (by omega)).mono ?_; rintro e w' ⟨rfl, hw⟩; subst w')
      rw [rounds_succ]
      go_wp2_with (go_at_call 73; refine (sealedWith_is _ _ _ (by exact b4) (by omega)).mono ?_; rintro e w' ⟨rfl, hw⟩; subst w')
      obtain ⟨X, hX⟩ : ∃ x, seS (seS (seS (seS (seS X0 nb) le) mo) ne) (l1 : Int) = x := ⟨_, rfl⟩
      rw [hX] at HO b5 ⊢
      clear hX b0 b1 b2 b3 b4 i0 i1 i2 i3 i4
      rw [rounds_succ]
      go_wp2_with fail
      go_loopw [3, 47] (fun x i wq => ∃ k : Nat, x = .int .i64 (seF X (zs.take k)) ∧ i = .int .i64 k ∧ k ≤ l1 ∧ wq = wr) (fun _ i _ => l1 - (intOf i).toNat)
      case atStart => exact ⟨0, rfl, rfl, Nat.zero_le _, rfl⟩
      case round =>
        obtain ⟨k, rfl, rfl, hk, hwq⟩ := hrel
        subst hwq
        have hxb := seF_bd b5 (zs.take k)
        by_cases hlt : k < l1
        · have hi1 : (k : Int) < (l1 : Int) := by omega
          have hi0 : (0 : Int) ≤ (k : Int) := by omega
          have hbb := (unhide HBY) k hlt
          rcases (unhide HR).r1.open1 with ⟨h0, _⟩ | ⟨bb, off, rfl, _, hc⟩
          · omega
          have hcw : w.cell? ⟨bb, off + k, none⟩ = some (.int .u8 (elAt zs k)) := hc k hlt
          have hcell := ((unhide B0).cell (p := ⟨bb, off + k, none⟩) (block_lt_of_cell hcw)).trans hcw
          have hzk : k < zs.length := by have := unhide HZ; omega
          have HST := hide (seF_take (x := X) hzk)
          clear hc hcw
          obtain ⟨Y, hY⟩ : ∃ y, elAt zs k = y := ⟨_, rfl⟩
          rw [hY] at hbb hcell HST
          clear hY hzk
          go_wp2_with (go_at_call 73; refine (sealedWith_is _ _ _ (by exact hxb) (by omega)).mono ?_; rintro e w' ⟨rfl, hw⟩; subst w')
          go_roundw
          case rel => exact ⟨k + 1, by rw [unhide HST], by go_num, by omega, by first | rfl | trivial⟩
          case measure => simp [intOf]; omega
        · have hi1 : ¬ (k : Int) < (l1 : Int) := by omega
          have hkz : k = zs.length := by have := unhide HZ; omega
          have HS : Hid (seF X (zs.take k) = seO ⟨p, nb, le, mo, ne, zs⟩) := hide (by rw [unhide HO, hkz, List.take_length])
          clear hkz
          go_wp2_with fail
          go_ret
          exact ⟨ret_int (unhide HS), unhide B0⟩
set_option maxRecDepth 20000 in
set_option maxHeartbeats 4000000 in
theorem implSeal_any (p : ByteArray) (nb le mo ne : Int) (a1 : Option Addr) (l1 c1 : Nat) (zs : List Int) (w : World) (hr : LdIn w a1 l1 zs) (hby : ∀ i, i < l1 → 0 ≤ elAt zs i ∧ elAt zs i ≤ 255) (hs : p.size ≤ 9223372036854775807) :
    Calls Tryz.prog 8 #[.agg #[.string p, .int .i64 nb, .int .i64 le, .int .i64 mo, .int .i64 ne, .slice a1 l1 c1]] w fun e w' => e = .returned (.tuple #[.int .i64 (seR ⟨p, nb, le, mo, ne, zs⟩), .bool (ldB ⟨p, nb, le, mo, ne, zs⟩)]) ∧ Below w.heap.size w w' := by
  have hz := hr.r1.len_eq
  have hsm := hr.r1.small
  have HR := hide hr
  have HBY := hide hby
  clear hr hby
  obtain ⟨W, hW⟩ : ∃ W, W = (w.alloc (Obj.cells #[.string p, .int .i64 nb, .int .i64 le, .int .i64 mo, .int .i64 ne, .slice a1 l1 c1] 32)) := ⟨_, rfl⟩
  have K0 : Hid (Blk W w.heap.size [.string p, .int .i64 nb, .int .i64 le, .int .i64 mo, .int .i64 ne, .slice a1 l1 c1]) := hide (by rw [hW]; exact Blk.new _ _)
  have B0 : Hid (Below w.heap.size w W) := hide (by rw [hW]; exact bel1 _)
  have HW := hide hW
  clear hW
  cases q : ldB ⟨p, nb, le, mo, ne, zs⟩ with
  | false =>
    have HE : Hid (seR ⟨p, nb, le, mo, ne, zs⟩ = 0) := hide (by rw [seR, q]; rfl)
    go_enter Tryz.func8, Tryz.ntmps8
    go_wp2_with fail
    rw [← unhide HW]
    clear HW
    refine (implLoadOk_is p nb le mo ne a1 l1 c1 zs W hs hsm hz q).mono ?_
    rintro e w1 ⟨rfl, b1⟩
    have B1 := hide ((unhide B0).trans (b1.mono (unhide B0).size))
    clear b1 K0 B0
    go_wp2_with fail
    rw [unhide HE]
    refine bodyPost_ret (v := .tuple #[.int .i64 0, .bool false]) (by simp [results, Tryz.results8, go_sem]) rfl ⟨rfl, unhide B1⟩
  | true =>
    have HE : Hid (seR ⟨p, nb, le, mo, ne, zs⟩ = seO ⟨p, nb, le, mo, ne, zs⟩) := hide (by rw [seR, q]; rfl)
    have HQ := hide q
    go_enter Tryz.func8, Tryz.ntmps8
    go_wp2_with fail
    rw [← unhide HW]
    clear HW
    refine (implLoadOk_is p nb le mo ne a1 l1 c1 zs W hs hsm hz q).mono ?_
    rintro e w1 ⟨rfl, b1⟩
    have B1 := hide ((unhide B0).trans (b1.mono (unhide B0).size))
    have K1 := hide ((unhide K0).below b1)
    have d0 : w1.cell? ⟨w.heap.size, 0, none⟩ = some (.string p) := (unhide K1).c 0 (by simp)
    have d1 : w1.cell? ⟨w.heap.size, 1, none⟩ = some (.int .i64 nb) := (unhide K1).c 1 (by simp)
    have d2 : w1.cell? ⟨w.heap.size, 2, none⟩ = some (.int .i64 le) := (unhide K1).c 2 (by simp)
    have d3 : w1.cell? ⟨w.heap.size, 3, none⟩ = some (.int .i64 mo) := (unhide K1).c 3 (by simp)
    have d4 : w1.cell? ⟨w.heap.size, 4, none⟩ = some (.int .i64 ne) := (unhide K1).c 4 (by simp)
    have d5 : w1.cell? ⟨w.heap.size, 5, none⟩ = some (.slice a1 l1 c1) := (unhide K1).c 5 (by simp)
    clear b1 K0 B0
    go_wp2_with (go_at_call 37; refine (seal_is p nb le mo ne a1 l1 c1 zs w1 ((unhide HR).below (unhide B1)) (unhide HBY) (unhide HQ)).mono ?_; rintro e w2 ⟨rfl, b2⟩; have B2 := hide ((unhide B1).trans (b2.mono (unhide B1).size)))
    rw [unhide HE]
    refine bodyPost_ret (v := .tuple #[.int .i64 _, .bool true]) (by simp [results, Tryz.results8, go_sem]) rfl ⟨rfl, unhide B2⟩

end Go.Proofs.YtemodlgmjgdjpaaGreatDoor

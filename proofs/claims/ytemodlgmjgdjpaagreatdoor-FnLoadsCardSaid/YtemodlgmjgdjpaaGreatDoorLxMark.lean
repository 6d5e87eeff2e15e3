/-
  The law's marks in a list of loads and in what is aboard, and what it finds of them. At lists of at most 1048576 loads of at most 1048576 bytes; only the list's own memory is written.
-/
import Derived.Test.YtemodlgmjgdjpaaGreatDoorMCpPure
import Derived.Test.YtemodlgmjgdjpaaGreatDoorMMarkText
import Derived.Test.YtemodlgmjgdjpaaGreatDoorMRowBy
import Derived.Test.YtemodlgmjgdjpaaGreatDoorMOnly
import Derived.Laws.Cover1
import Derived.LoopN
namespace Go.Proofs.YtemodlgmjgdjpaaGreatDoor
open Go Go.RowKit

set_option maxRecDepth 20000 in
set_option maxHeartbeats 2000000 in
theorem markText_big (k : Int) (w : World) (h1 : 1 ≤ k) (h2 : k ≤ 10000000000000) :
    Calls Tryz.prog 69 #[.int .i64 k] w fun e w' => e = .returned (.string (mkT k)) ∧ Below w.heap.size w w' := by
  go_enter Tryz.func69, Tryz.ntmps69
  go_wp2_with fail
  go_loopw [0, 3] (fun kv ov wr => ∃ (q : Int) (out : ByteArray) (f : Nat), kv = .int .i64 q ∧ ov = .string out ∧ (0 ≤ q ∧ q ≤ k) ∧ ((out.size : Int) + q ≤ k) ∧ Hid (q ≤ (f : Int)) ∧ Hid (digs f q out = digs k.toNat k ⟨#[]⟩) ∧ Below w.heap.size w wr) (fun kv _ _ => (intOf kv).toNat)
  case atStart => exact ⟨k, ⟨#[]⟩, k.toNat, rfl, rfl, by omega, by show (0 : Int) + k ≤ k; omega, hide (by omega), hide rfl, Below.refl _ _⟩
  case round =>
    obtain ⟨q, out, f, rfl, rfl, hq, hsz, HF, HD, hbel⟩ := hrel
    by_cases h0 : 0 < q
    · obtain ⟨f', hf', e'⟩ := digs_more h0 (unhide HF) out
      have HF' := hide hf'
      have HD' := hide (e'.symm.trans (unhide HD))
      have hrun := run_one_byte wr (48 + q % 10) (by omega) (by omega)
      have HB := hide (hbel.alloc hbel.size (Obj.cells #[.int .u8 (48 + q % 10)] 5))
      clear hf' e' hbel
      go_wp2_with fail
      go_roundw
      case rel =>
        refine ⟨q / 10, _, f', rfl, rfl, by omega, ?_, HF', HD', unhide HB⟩
        rw [ByteArray.size_append]
        show (((1 : Nat) + out.size : Nat) : Int) + q / 10 ≤ k
        omega
      case measure => simp [intOf]; omega
    · have HE : Hid (mkT k = (⟨#[109]⟩ : ByteArray) ++ out) := hide (by unfold mkT; rw [← unhide HD, digs_end f h0])
      have HB := hide hbel
      have hsz1 : (⟨#[109]⟩ : ByteArray).size + out.size ≤ 9223372036854775807 := by
        show 1 + out.size ≤ _
        omega
      clear hbel
      go_wp2_with fail
      go_ret
      exact ⟨by rw [unhide HE]; rfl, unhide HB⟩

set_option maxHeartbeats 1000000 in
theorem markByteS_big (base : Nat) (a : Option Addr) (len c : Nat) (ps : List Int) (k : Int) (w : World) (ho : OwnE 1 byC w base 5 (.slice a len c) ps) (hl : ps.length = len) (h1 : len ≤ 1048576) (hk0 : 0 ≤ k) (hk1 : k ≤ 10000000000000) :
    Calls Tryz.prog 67 #[.slice a len c, .int .i64 k] w fun e w' => e = .returned (.int .i64 (k + len)) ∧ OwnE 1 byC w' base 5 (.slice a len c) (markBy ps k len) ∧ w.grownBy w' (Value.slice a len c).ownBlock := by
  subst hl
  go_enter Tryz.func67, Tryz.ntmps67
  go_wp2
  go_loopw [1, 5] (fun kk i wr => ∃ j : Nat, j ≤ ps.length ∧ i = .int .i64 j ∧ kk = .int .i64 (k + j) ∧ OwnE 1 byC wr base 5 (.slice a ps.length c) (markBy ps k j) ∧ w.grownBy wr (Value.slice a ps.length c).ownBlock) (fun _ i _ => ps.length - (intOf i).toNat)
  case atStart => exact ⟨0, Nat.zero_le _, rfl, by simp, ho, grown_refl _ _⟩
  case round =>
    obtain ⟨j, hj, rfl, rfl, how, hgr⟩ := hrel
    have hml := markBy_len ps k j
    by_cases hlt : j < ps.length
    · rcases how.form with ⟨_, h0⟩ | ⟨g, c', hv, hg1, hg2, hc1, _⟩
      · rw [h0] at hml; simp at hml; omega
      simp only [Value.slice.injEq] at hv
      obtain ⟨rfl, hx, rfl⟩ := hv
      clear hx hc1
      have n0 : wr.cell? ⟨g, j, none⟩ = some (.int .u8 (elAt (markBy ps k j) j)) := (how.here1 hml j hlt).1
      have z0 : wr.frozen? ⟨g, j, none⟩ = false := (how.here1 hml j hlt).2
      have O3 : Hid (OwnE 1 byC (wr.setCell ⟨g, j, none⟩ (.int .u8 (markY (k + j)))) base 5 (.slice (some ⟨g, 0, none⟩) ps.length c) (markBy ps k (j + 1))) := hide (how.set1 hml j hlt _ _ rfl)
      have G3 : Hid (w.grownBy (wr.setCell ⟨g, j, none⟩ (.int .u8 (markY (k + j)))) (Value.slice (some ⟨g, 0, none⟩) ps.length c).ownBlock) := hide (grown_set hgr _ _)
      have hi1 : (j : Int) < (ps.length : Int) := by omega
      have ht : IntKind.u8.wrap (k + (j : Int)) = markY (k + j) := rfl
      clear how hgr hml
      go_wp2
      go_roundw
      case rel => exact ⟨j + 1, by omega, by go_num, by go_num, unhide O3, unhide G3⟩
      case measure => simp [intOf]; omega
    · have hkk : j = ps.length := by omega
      subst hkk
      have O := hide how
      have G := hide hgr
      clear how hgr hml
      go_wp2
      go_ret
      exact ⟨rfl, unhide O, unhide G⟩
set_option maxHeartbeats 1000000 in
theorem heldByteS_big (base : Nat) (a : Option Addr) (len c : Nat) (ps : List Int) (k : Int) (w : World) (ho : OwnE 1 byC w base 5 (.slice a len c) (markBy ps k len)) (hl : ps.length = len) (h1 : len ≤ 1048576) (hk0 : 0 ≤ k) (hk1 : k ≤ 10000000000000) :
    Calls Tryz.prog 89 #[.slice a len c, .int .i64 k] w fun e w' => e = .returned (.int .i64 (k + len)) ∧ w' = w := by
  subst hl
  have HO := hide (OwnE.row ho).open1
  clear ho
  go_enter Tryz.func89, Tryz.ntmps89
  go_wp2
  go_loopw [1, 5] (fun kk i wr => ∃ j : Nat, j ≤ ps.length ∧ i = .int .i64 j ∧ kk = .int .i64 (k + j) ∧ wr = w) (fun _ i _ => ps.length - (intOf i).toNat)
  case atStart => exact ⟨0, Nat.zero_le _, rfl, by simp, rfl⟩
  case round =>
    obtain ⟨j, hj, rfl, rfl, hwr⟩ := hrel
    subst wr
    by_cases hlt : j < ps.length
    · rcases (unhide HO) with ⟨h0, _⟩ | ⟨bb, off, rfl, _, hc⟩
      · rw [h0] at hlt; simp at hlt
      have ca : w.cell? ⟨bb, off + j, none⟩ = some (.int .u8 (elAt (markBy ps k ps.length) j)) := hc j hlt
      rw [markBy_at ps k ps.length (Nat.le_refl _) j hlt] at ca
      have hi1 : (j : Int) < (ps.length : Int) := by omega
      have ht : IntKind.u8.wrap (k + (j : Int)) = markY (k + j) := rfl
      have q0 : (markY (k + (j : Int)) != markY (k + (j : Int))) = false := by simp
      clear hc
      go_wp2
      go_roundw
      case rel => exact ⟨j + 1, by omega, by go_num, by go_num, by first | rfl | trivial⟩
      case measure => simp [intOf]; omega
    · have hkk : j = ps.length := by omega
      subst hkk
      go_wp2
      go_ret
      exact ⟨rfl, rfl⟩
/-- The first k lengths together; the mark at a load. -/
def totX (us : List Lx) : Nat → Nat
  | 0 => 0
  | k + 1 => totX us k + (elAt us k).d.zs.length
def kX (us : List Lx) (k0 : Int) (j : Nat) : Int := k0 + 5 * (j : Int) + (totX us j : Int)
theorem kX_succ (us : List Lx) (k0 : Int) (j : Nat) : kX us k0 (j + 1) = kX us k0 j + 5 + ((elAt us j).d.zs.length : Int) := by
  show k0 + 5 * ((j + 1 : Nat) : Int) + ((totX us j + (elAt us j).d.zs.length : Nat) : Int) = k0 + 5 * (j : Int) + (totX us j : Int) + 5 + ((elAt us j).d.zs.length : Int)
  omega
theorem kX_zero (us : List Lx) (k0 : Int) : kX us k0 0 = k0 := by simp [kX, totX]
theorem kX_bd {us : List Lx} {k0 : Int} (hd : ∀ i, i < us.length → (elAt us i).d.zs.length ≤ 1048576) : ∀ j, j ≤ us.length → k0 ≤ kX us k0 j ∧ kX us k0 j ≤ k0 + 1048581 * (j : Int)
  | 0, _ => by rw [kX_zero]; omega
  | j + 1, h => by
    have := kX_bd (k0 := k0) hd j (by omega)
    have := hd j (by omega)
    rw [kX_succ]; omega
def mkX (e : Lx) (k : Int) : Lx := ⟨mkT k, k + 1, k + 2, k + 3, k + 4, { e.d with zs := markBy e.d.zs (k + 5) e.d.n }⟩
/-- After j rounds of the marking. -/
def markX (us : List Lx) (k0 : Int) : Nat → List Lx
  | 0 => us
  | j + 1 => (markX us k0 j).set j (mkX (elAt us j) (kX us k0 j))
theorem markX_len (us : List Lx) (k0 : Int) (j : Nat) : (markX us k0 j).length = us.length := by
  induction j with
  | zero => rfl
  | succ j ih => simp [markX, ih]
theorem markX_at (us : List Lx) (k0 : Int) : ∀ j, j ≤ us.length → ∀ i, elAt (markX us k0 j) i = if i < j then mkX (elAt us i) (kX us k0 i) else elAt us i
  | 0, _, i => by simp [markX]
  | j + 1, h, i => by
    rw [markX, elAt_set _ _ _ _ (by rw [markX_len]; omega)]
    by_cases e : i = j
    · subst e; simp
    · rw [if_neg e, markX_at us k0 j (by omega) i]
      by_cases c : i < j
      · rw [if_pos c, if_pos (by omega)]
      · rw [if_neg c, if_neg (by omega)]
theorem OwnLd.mark1 {w : World} {base g n c j : Nat} {us : List Lx} (h : OwnLd w base (.slice (some ⟨g, 0, none⟩) n c) us) (hn : us.length = n) (hj : j < n) (T : ByteArray) (k1 k2 k3 k4 : Int) :
    OwnLd (((((w.setCell ⟨g, j * 6, none⟩ (.string T)).setCell ⟨g, j * 6 + 1, none⟩ (.int .i64 k1)).setCell ⟨g, j * 6 + 2, none⟩ (.int .i64 k2)).setCell ⟨g, j * 6 + 3, none⟩ (.int .i64 k3)).setCell ⟨g, j * 6 + 4, none⟩ (.int .i64 k4)) base (.slice (some ⟨g, 0, none⟩) n c) (us.set j ⟨T, k1, k2, k3, k4, (elAt us j).d⟩) := by
  have o0 := h.out.setOne hn j hj 0 (by omega) (.string T) ⟨T, (elAt us j).nb, (elAt us j).le, (elAt us j).mo, (elAt us j).ne, (elAt us j).d⟩ (fun p hp => by match p, hp with | 0, _ => rfl | 1, _ => rfl | 2, _ => rfl | 3, _ => rfl | 4, _ => rfl | 5, _ => rfl)
  have o1 := o0.setMore hn hj 1 (by omega) (.int .i64 k1) ⟨T, k1, (elAt us j).le, (elAt us j).mo, (elAt us j).ne, (elAt us j).d⟩ (fun p hp => by match p, hp with | 0, _ => rfl | 1, _ => rfl | 2, _ => rfl | 3, _ => rfl | 4, _ => rfl | 5, _ => rfl)
  have o2 := o1.setMore hn hj 2 (by omega) (.int .i64 k2) ⟨T, k1, k2, (elAt us j).mo, (elAt us j).ne, (elAt us j).d⟩ (fun p hp => by match p, hp with | 0, _ => rfl | 1, _ => rfl | 2, _ => rfl | 3, _ => rfl | 4, _ => rfl | 5, _ => rfl)
  have o3 := o2.setMore hn hj 3 (by omega) (.int .i64 k3) ⟨T, k1, k2, k3, (elAt us j).ne, (elAt us j).d⟩ (fun p hp => by match p, hp with | 0, _ => rfl | 1, _ => rfl | 2, _ => rfl | 3, _ => rfl | 4, _ => rfl | 5, _ => rfl)
  have o4 := o3.setMore hn hj 4 (by omega) (.int .i64 k4) ⟨T, k1, k2, k3, k4, (elAt us j).d⟩ (fun p hp => by match p, hp with | 0, _ => rfl | 1, _ => rfl | 2, _ => rfl | 3, _ => rfl | 4, _ => rfl | 5, _ => rfl)
  have ed : ∀ i, (elAt (us.set j ⟨T, k1, k2, k3, k4, (elAt us j).d⟩) i).d = (elAt us i).d := fun i => by
    rw [elAt_set _ _ _ _ (by omega)]
    split
    · rename_i e; subst e; rfl
    · rfl
  refine ⟨o4, fun i hi => ?_, fun i hi q hq => ?_, fun i i2 hij hi2 q hq => ?_⟩
  · rw [List.length_set] at hi
    rw [ed]
    have hne : (slV (elAt us i).d).ownBlock ≠ some g := fun e => h.apt i hi g e rfl
    exact (((((h.dat i hi).set_other _ hne).set_other _ hne).set_other _ hne).set_other _ hne).set_other _ hne
  · rw [List.length_set] at hi
    rw [ed] at hq
    exact h.apt i hi q hq
  · rw [List.length_set] at hi2
    rw [ed] at hq ⊢
    exact h.par i i2 hij hi2 q hq
theorem OwnLd.mark2 {w w' : World} {base j : Nat} {v : Value} {us : List Lx} {zs : List Int} (h : OwnLd w base v us) (hj : j < us.length) (o : OwnE 1 byC w' base 5 (slV (elAt us j).d) zs) (gr : w.grownBy w' (slV (elAt us j).d).ownBlock) :
    OwnLd w' base v (us.set j { elAt us j with d := { (elAt us j).d with zs := zs } }) := by
  have ev : ∀ i, slV (elAt (us.set j { elAt us j with d := { (elAt us j).d with zs := zs } }) i).d = slV (elAt us i).d := fun i => by
    rw [elAt_set _ _ _ _ hj]
    split
    · rename_i e; subst e; rfl
    · rfl
  refine ⟨?_, fun i hi => ?_, fun i hi q hq => ?_, fun i i2 hij hi2 q hq => ?_⟩
  · have o2 := h.out.far gr (fun q hq e => h.apt j hj q e.symm hq)
    obtain ⟨xs, h1, h2⟩ := o2.own
    refine ⟨⟨xs, by rw [List.length_set]; exact h1, fun i hi p hp => ?_⟩⟩
    rw [List.length_set] at hi
    have := h2 i hi p hp
    rw [this, elAt_set _ _ _ _ hj]
    split
    · rename_i e; subst e
      match p, hp with
      | 0, _ => rfl
      | 1, _ => rfl
      | 2, _ => rfl
      | 3, _ => rfl
      | 4, _ => rfl
      | 5, _ => rfl
    · rfl
  · rw [List.length_set] at hi
    rw [ev]
    by_cases e : i = j
    · subst e
      rw [elAt_set _ _ _ _ hj, if_pos rfl]; exact o
    · rw [elAt_set _ _ _ _ hj, if_neg e]
      refine (h.dat i hi).far gr (fun q hq e2 => ?_)
      rcases Nat.lt_or_gt_of_ne e with c | c
      · exact h.par i j c hj q hq e2.symm
      · exact h.par j i c hi q e2.symm hq
  · rw [List.length_set] at hi
    rw [ev] at hq
    exact h.apt i hi q hq
  · rw [List.length_set] at hi2
    rw [ev] at hq ⊢
    exact h.par i i2 hij hi2 q hq
theorem grown_five (w : World) (g a b c d e : Nat) (v1 v2 v3 v4 v5 : Value) : w.grownBy (((((w.setCell ⟨g, a, none⟩ v1).setCell ⟨g, b, none⟩ v2).setCell ⟨g, c, none⟩ v3).setCell ⟨g, d, none⟩ v4).setCell ⟨g, e, none⟩ v5) (some g) := grown_set (grown_set (grown_set (grown_set (grown_set (grown_refl w (some g)) a v1) b v2) c v3) d v4) e v5

set_option maxRecDepth 20000 in
set_option maxHeartbeats 4000000 in
theorem markLoad18S_own (base g len c : Nat) (us : List Lx) (k0 : Int) (w : World) (h : OwnLd w base (.slice (some ⟨g, 0, none⟩) len c) us) (hl : us.length = len) (h1 : len ≤ 1048576) (hd : ∀ i, i < us.length → (elAt us i).d.zs.length ≤ 1048576) (hk0 : 1 ≤ k0) (hk1 : k0 ≤ 2000000000000) (b u : Nat) (hb : LxLies b u (.slice (some ⟨g, 0, none⟩) len c) us) :
    Calls Tryz.prog 30 #[.slice (some ⟨g, 0, none⟩) len c, .int .i64 k0] w fun e w' => e = .returned (.int .i64 (kX us k0 len)) ∧ OwnLd w' base (.slice (some ⟨g, 0, none⟩) len c) (markX us k0 len) ∧ Only b u w w' := by
  subst hl
  have H0 := hide h
  have HD := hide hd
  have HL := hide hb
  clear h hd hb
  go_enter Tryz.func30, Tryz.ntmps30
  go_wp2_with fail
  go_loopw [1, 5] (fun kk i wr => ∃ j : Nat, j ≤ us.length ∧ i = .int .i64 j ∧ kk = .int .i64 (kX us k0 j) ∧ Hid (OwnLd wr base (.slice (some ⟨g, 0, none⟩) us.length c) (markX us k0 j)) ∧ Hid (Only b u w wr)) (fun _ i _ => us.length - (intOf i).toNat)
  case atStart => exact ⟨0, Nat.zero_le _, rfl, by rw [kX_zero], H0, hide (Only.refl _ _ _)⟩
  case round =>
    clear H0
    obtain ⟨j, hj, rfl, rfl, HW, HY⟩ := hrel
    have hkb := kX_bd (k0 := k0) (unhide HD) j hj
    by_cases hlt : j < us.length
    · obtain ⟨K, hK⟩ : ∃ z, kX us k0 j = z := ⟨_, rfl⟩
      rw [hK] at hkb ⊢
      have HK := hide hK
      have hdd := (unhide HD) j hlt
      have hi1 : (j : Int) < (us.length : Int) := by omega
      have hi0 : (0 : Int) ≤ (j : Int) := by omega
      have hKb : 1 ≤ K ∧ K ≤ 4000000000000 := by omega
      clear hK
      go_wp2_with fail
      refine (markText_big K wr (by omega) (by omega)).mono ?_
      rintro e w2 ⟨rfl, b2⟩
      have HW2 := hide ((unhide HW).below b2)
      have HY2 : Hid (Only b u w w2) := hide ((unhide HY).trans (Only.of_below b2))
      clear b2 HW HY
      have hel := markX_at us k0 j hj j
      rw [if_neg (by omega)] at hel
      have hml := markX_len us k0 j
      have hm1 := (unhide HW2).mark1 hml hlt (mkT K) (K + 1) (K + 1 + 1) (K + 1 + 1 + 1) (K + 1 + 1 + 1 + 1)
      rw [hel] at hm1
      have zz := fun q hq => (unhide HW2).out.here hml j hlt q hq
      rw [hel] at zz
      have c0 : w2.cell? ⟨g, j * 6, none⟩ = some (.string (elAt us j).p) := (zz 0 (by omega)).1
      have f0 : w2.frozen? ⟨g, j * 6, none⟩ = false := (zz 0 (by omega)).2
      have c1 : w2.cell? ⟨g, j * 6 + 1, none⟩ = some (.int .i64 (elAt us j).nb) := (zz 1 (by omega)).1
      have f1 : w2.frozen? ⟨g, j * 6 + 1, none⟩ = false := (zz 1 (by omega)).2
      have c2 : w2.cell? ⟨g, j * 6 + 2, none⟩ = some (.int .i64 (elAt us j).le) := (zz 2 (by omega)).1
      have f2 : w2.frozen? ⟨g, j * 6 + 2, none⟩ = false := (zz 2 (by omega)).2
      have c3 : w2.cell? ⟨g, j * 6 + 3, none⟩ = some (.int .i64 (elAt us j).mo) := (zz 3 (by omega)).1
      have f3 : w2.frozen? ⟨g, j * 6 + 3, none⟩ = false := (zz 3 (by omega)).2
      have c4 : w2.cell? ⟨g, j * 6 + 4, none⟩ = some (.int .i64 (elAt us j).ne) := (zz 4 (by omega)).1
      have f4 : w2.frozen? ⟨g, j * 6 + 4, none⟩ = false := (zz 4 (by omega)).2
      obtain ⟨V, hV⟩ : ∃ V, V = ((((w2.setCell ⟨g, j * 6, none⟩ (.string (mkT K))).setCell ⟨g, j * 6 + 1, none⟩ (.int .i64 (K + 1))).setCell ⟨g, j * 6 + 2, none⟩ (.int .i64 (K + 1 + 1))).setCell ⟨g, j * 6 + 3, none⟩ (.int .i64 (K + 1 + 1 + 1))).setCell ⟨g, j * 6 + 4, none⟩ (.int .i64 (K + 1 + 1 + 1 + 1)) := ⟨_, rfl⟩
      have HYV : Hid (Only b u w V) := hide ((unhide HY2).trans (by rw [hV]; exact Only.of_row (grown_five ..) (fun q hq => by cases hq; exact (unhide HL).1 g rfl)))
      rw [← hV] at hm1
      have HM1 := hide hm1
      have z5 := hm1.out.here (by simp [hml]) j hlt 5 (by omega)
      rw [elAt_set _ _ _ _ (by omega), if_pos rfl] at z5
      have c5 : V.cell? ⟨g, j * 6 + 5, none⟩ = some (.slice (elAt us j).d.a (elAt us j).d.n (elAt us j).d.c) := z5.1
      rw [hV] at c5
      have hod := hm1.dat j (by simp [hml]; omega)
      rw [elAt_set _ _ _ _ (by omega), if_pos rfl] at hod
      have HOD := hide hod
      have hnn : (elAt us j).d.zs.length = (elAt us j).d.n := (OwnE.row (a := (elAt us j).d.a) (len := (elAt us j).d.n) (cap := (elAt us j).d.c) hod).len_eq
      have HNN := hide hnn
      have hn32 : (elAt us j).d.n ≤ 1048576 := by omega
      have HVV := hide hV
      clear hm1 zz z5 hod hel hml hdd hV hnn HW2 HY2
      go_wp2_with fail
      rw [← unhide HVV]
      refine (markByteS_big base _ _ _ (elAt us j).d.zs (K + 1 + 1 + 1 + 1 + 1) _ (unhide HOD) (unhide HNN) (by omega) (by omega) (by omega)).mono ?_
      rintro e w' ⟨rfl, o9, gr9⟩
      have NX : Hid (OwnLd w' base (.slice (some ⟨g, 0, none⟩) us.length c) (markX us k0 (j + 1))) := hide (by
        have hml := markX_len us k0 j
        have e1 : elAt ((markX us k0 j).set j ⟨mkT K, K + 1, K + 1 + 1, K + 1 + 1 + 1, K + 1 + 1 + 1 + 1, (elAt us j).d⟩) j = ⟨mkT K, K + 1, K + 1 + 1, K + 1 + 1 + 1, K + 1 + 1 + 1 + 1, (elAt us j).d⟩ := by rw [elAt_set _ _ _ _ (by omega), if_pos rfl]
        have := (unhide HM1).mark2 (j := j) (zs := markBy (elAt us j).d.zs (K + 1 + 1 + 1 + 1 + 1) (elAt us j).d.n) (by simp [hml]; omega) (by rw [e1]; exact o9) (by rw [e1]; exact gr9)
        rw [e1, List.set_set] at this
        rw [markX, mkX, unhide HK, show K + 2 = K + 1 + 1 by omega, show K + 3 = K + 1 + 1 + 1 by omega, show K + 4 = K + 1 + 1 + 1 + 1 by omega, show K + 5 = K + 1 + 1 + 1 + 1 + 1 by omega]
        exact this)
      have NY : Hid (Only b u w w') := hide ((unhide HYV).trans (Only.of_row gr9 (fun q hq => (unhide HL).2 j hlt q hq)))
      clear o9 gr9
      go_wp2_with fail
      go_roundw
      case rel => exact ⟨j + 1, by omega, by go_num, by rw [kX_succ, unhide HK, unhide HNN]; congr 1; omega, NX, NY⟩
      case measure => simp [intOf]; omega
    · have hjj : Hid (j = us.length) := hide (by omega)
      have hi1 : ¬ (j : Int) < (us.length : Int) := by omega
      go_wp2_with fail
      go_ret
      exact ⟨ret_int (by rw [unhide hjj]), by have := unhide HW; rw [unhide hjj] at this; exact this, unhide HY⟩
theorem markLoad18S_nil (a : Option Addr) (c : Nat) (k0 : Int) (w : World) :
    Calls Tryz.prog 30 #[.slice a 0 c, .int .i64 k0] w fun e w' => e = .returned (.int .i64 k0) ∧ w' = w := by
  go_enter Tryz.func30, Tryz.ntmps30
  go_wp2_with fail
  refine wp_loop_rounds 1 ?_
  rw [rounds_succ]
  go_wp2_with fail
  go_ret
  exact ⟨rfl, rfl⟩
set_option maxRecDepth 20000 in
set_option maxHeartbeats 4000000 in
theorem heldLoad18S_own (base g len c : Nat) (us : List Lx) (k0 : Int) (w : World) (h : OwnLd w base (.slice (some ⟨g, 0, none⟩) len c) (markX us k0 len)) (hl : us.length = len) (h1 : len ≤ 1048576) (hd : ∀ i, i < us.length → (elAt us i).d.zs.length ≤ 1048576) (hn : ∀ i, i < us.length → (elAt us i).d.zs.length = (elAt us i).d.n) (hk0 : 1 ≤ k0) (hk1 : k0 ≤ 2000000000000) :
    Calls Tryz.prog 68 #[.slice (some ⟨g, 0, none⟩) len c, .int .i64 k0] w fun e w' => e = .returned (.int .i64 (kX us k0 len)) ∧ Below w.heap.size w w' := by
  subst hl
  have HW := hide h
  have HD := hide hd
  have HNN := hide hn
  clear h hd hn
  go_enter Tryz.func68, Tryz.ntmps68
  go_wp2_with fail
  go_loopw [1, 5] (fun kk i wr => ∃ j : Nat, j ≤ us.length ∧ i = .int .i64 j ∧ kk = .int .i64 (kX us k0 j) ∧ Hid (Below w.heap.size w wr)) (fun _ i _ => us.length - (intOf i).toNat)
  case atStart => exact ⟨0, Nat.zero_le _, rfl, by rw [kX_zero], hide (Below.refl _ _)⟩
  case round =>
    obtain ⟨j, hj, rfl, rfl, BW⟩ := hrel
    have hkb := kX_bd (k0 := k0) (unhide HD) j hj
    by_cases hlt : j < us.length
    · obtain ⟨K, hK⟩ : ∃ z, kX us k0 j = z := ⟨_, rfl⟩
      rw [hK] at hkb ⊢
      have hel := markX_at us k0 us.length (Nat.le_refl _) j
      rw [if_pos hlt, hK] at hel
      have hml := markX_len us k0 us.length
      obtain ⟨ι, f, _, hbf, hall⟩ := belClass wr
      have HF := hide hbf
      have HA := hide hall
      have OF : Hid (∀ y, OwnLd (f y) base (.slice (some ⟨g, 0, none⟩) us.length c) (markX us k0 us.length)) := hide (fun y => ((unhide HW).below (unhide BW)).below (hbf y))
      have zz := fun y q hq => ((unhide OF) y).out.here hml j hlt q hq
      rw [hel] at zz
      have c0 : ∀ y, (f y).cell? ⟨g, j * 6, none⟩ = some (.string (mkT K)) := fun y => (zz y 0 (by omega)).1
      have c1 : ∀ y, (f y).cell? ⟨g, j * 6 + 1, none⟩ = some (.int .i64 (K + 1)) := fun y => (zz y 1 (by omega)).1
      have c2 : ∀ y, (f y).cell? ⟨g, j * 6 + 2, none⟩ = some (.int .i64 (K + 1 + 1)) := fun y => (zz y 2 (by omega)).1.trans (by show some (Value.int .i64 (K + 2)) = _; rw [show K + 2 = K + 1 + 1 by omega])
      have c3 : ∀ y, (f y).cell? ⟨g, j * 6 + 3, none⟩ = some (.int .i64 (K + 1 + 1 + 1)) := fun y => (zz y 3 (by omega)).1.trans (by show some (Value.int .i64 (K + 3)) = _; rw [show K + 3 = K + 1 + 1 + 1 by omega])
      have c4 : ∀ y, (f y).cell? ⟨g, j * 6 + 4, none⟩ = some (.int .i64 (K + 1 + 1 + 1 + 1)) := fun y => (zz y 4 (by omega)).1.trans (by show some (Value.int .i64 (K + 4)) = _; rw [show K + 4 = K + 1 + 1 + 1 + 1 by omega])
      have c5 : ∀ y, (f y).cell? ⟨g, j * 6 + 5, none⟩ = some (.slice (elAt us j).d.a (elAt us j).d.n (elAt us j).d.c) := fun y => (zz y 5 (by omega)).1
      have HOD : Hid (∀ y, OwnE 1 byC (f y) base 5 (.slice (elAt us j).d.a (elAt us j).d.n (elAt us j).d.c) (markBy (elAt us j).d.zs (K + 1 + 1 + 1 + 1 + 1) (elAt us j).d.n)) := hide (fun y => by
        have zd := ((unhide OF) y).dat j (by omega)
        rw [hel] at zd
        rw [show K + 1 + 1 + 1 + 1 + 1 = K + 5 by omega]; exact zd)
      have hnn := (unhide HNN) j hlt
      have hdd := (unhide HD) j hlt
      have hn32 : (elAt us j).d.n ≤ 1048576 := by omega
      have HN2 := hide hnn
      have hi1 : (j : Int) < (us.length : Int) := by omega
      have hi0 : (0 : Int) ≤ (j : Int) := by omega
      have q1 : (K + 1 != K + 1) = false := by simp
      have q2 : (K + 1 + 1 != K + 1 + 1) = false := by simp
      have q3 : (K + 1 + 1 + 1 != K + 1 + 1 + 1) = false := by simp
      have q4 : (K + 1 + 1 + 1 + 1 != K + 1 + 1 + 1 + 1) = false := by simp
      have q5 : ¬ K + 1 + 1 + 1 + 1 + 1 + ((elAt us j).d.n : Int) < 0 := by omega
      have HK := hide hK
      have hKb : 1 ≤ K ∧ K ≤ 4000000000000 := by omega
      have HBF : Hid (∀ y, Below w.heap.size w (f y)) := hide (fun y => (unhide BW).trans ((hbf y).mono (unhide BW).size))
      obtain ⟨x0, hx0⟩ := hall wr (Below.refl _ _)
      have HX0 := hide hx0
      clear zz hel hml hnn hdd hK hbf hall OF hx0
      go_wp2_with fail
      rw [unhide HX0]
      clear HX0
      refine wp_region_bel (fun w' h => (unhide HA) w' ((unhide HF _).trans (h.mono (unhide HF _).size))) (by kernel_rfl) (by kernel_rfl) ?_
      repeat (go_big_quiet_step (first | (go_at_call 69; exact belQ (unhide HF) (unhide HA) (markText_big _ _ (by omega) (by omega)))))
      refine wpQuiet_nil ?_
      rintro _ ⟨y, rfl⟩
      go_wp2_with (go_at_call 89; refine (heldByteS_big base _ _ _ (elAt us j).d.zs (K + 1 + 1 + 1 + 1 + 1) _ ((unhide HOD) _) (unhide HN2) (by omega) (by omega) (by omega)).mono ?_; rintro e w' ⟨rfl, hw⟩; subst w')
      go_roundw
      case rel => exact ⟨j + 1, by omega, by go_num, by rw [kX_succ, unhide HK, unhide HN2]; congr 1; omega, hide ((unhide HBF) _)⟩
      case measure => simp [intOf]; omega
    · have hjj : Hid (j = us.length) := hide (by omega)
      have hi1 : ¬ (j : Int) < (us.length : Int) := by omega
      go_wp2_with fail
      go_ret
      exact ⟨ret_int (by rw [unhide hjj]), unhide BW⟩
theorem heldLoad18S_nil (a : Option Addr) (c : Nat) (k0 : Int) (w : World) :
    Calls Tryz.prog 68 #[.slice a 0 c, .int .i64 k0] w fun e w' => e = .returned (.int .i64 k0) ∧ w' = w := by
  go_enter Tryz.func68, Tryz.ntmps68
  go_wp2_with fail
  refine wp_loop_rounds 1 ?_
  rw [rounds_succ]
  go_wp2_with fail
  go_ret
  exact ⟨rfl, rfl⟩

end Go.Proofs.YtemodlgmjgdjpaaGreatDoor

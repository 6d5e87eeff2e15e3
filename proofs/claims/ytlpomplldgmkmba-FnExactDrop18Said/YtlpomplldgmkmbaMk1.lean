/-
  The law's marks in a list of loads and in what is aboard, and what it finds of them. At lists of at most 1048576 loads of at most 1048576 bytes; only the list's own memory is written.
  What is aboard, in memory of its own between two numbers; the law's marks in it and what it finds of them. At lists of at most 1048576 loads of at most 1048576 bytes.
-/
import Derived.Test.YtlpomplldgmkmbaCp1
import Derived.Test.YtlpomplldgmkmbaMarkText
import Derived.Test.YtlpomplldgmkmbaRowBy
import Derived.Test.YtlpomplldgmkmbaOnly
import Derived.Laws.Cover1
import Derived.LoopN

namespace Go.Proofs.Ytlpomplldgmkmba
open Go Go.RowKit

set_option maxRecDepth 20000 in
set_option maxHeartbeats 2000000 in
theorem markText_big (k : Int) (w : World) (h1 : 1 ≤ k) (h2 : k ≤ 10000000000000) :
    Calls Try.prog 88 #[.int .i64 k] w fun e w' => e = .returned (.string (mkT k)) ∧ Below w.heap.size w w' := by
  go_enter Try.func88, Try.ntmps88
  go_wp2_with fail
  go_loopw [0, 3] (fun kv ov wr => ∃ (q : Int) (out : ByteArray) (f : Nat), kv = .int .i64 q ∧ ov = .string out ∧ (0 ≤ q ∧ q ≤ k) ∧ ((out.size : Int) + q ≤ k) ∧ Hid (q ≤ (f : Int)) ∧ Hid (digs f q out = digs k.toNat k ⟨#[]⟩) ∧ Below w.heap.size w wr) (fun kv _ _ => (intOf kv).toNat)
  case atStart => exact ⟨k, ⟨#[]⟩, k.toNat, rfl, rfl, by omega, by show (0 : Int) + k ≤ k; omega, hide (by omega), hide rfl, Below.refl _ _⟩
  case round =>
    obtain ⟨q, out, f, rfl, rfl, hq, hsz, HF, HD, hbel⟩ := hrel
    by_cases h0 : 0 < q
    · obtain ⟨f', hf', e'⟩ := digs_more h0 (unhide HF) out
      have HF' := hide hf'
      have HD' := hide (e'.symm.trans (unhide HD))
      have hrun := run_one_byte wr (48 + q % 10) (by omega) (by omega)
      have HB := hide (hbel.alloc hbel.size (Obj.cells #[.int .u8 (48 + q % 10)] 5))
      clear hf' e' hbel
      go_wp2_with fail
      go_roundw
      case rel =>
        refine ⟨q / 10, _, f', rfl, rfl, by omega, ?_, HF', HD', unhide HB⟩
        rw [ByteArray.size_append]
        show (((1 : Nat) + out.size : Nat) : Int) + q / 10 ≤ k
        omega
      case measure => simp [intOf]; omega
    · have HE : Hid (mkT k = (⟨#[109]⟩ : ByteArray) ++ out) := hide (by unfold mkT; rw [← unhide HD, digs_end f h0])
      have HB := hide hbel
      have hsz1 : (⟨#[109]⟩ : ByteArray).size + out.size ≤ 9223372036854775807 := by
        show 1 + out.size ≤ _
        omega
      clear hbel
      go_wp2_with fail
      go_ret
      exact ⟨by rw [unhide HE]; rfl, unhide HB⟩

set_option maxHeartbeats 1000000 in
theorem markByteS_big (base : Nat) (a : Option Addr) (len c : Nat) (ps : List Int) (k : Int) (w : World) (ho : OwnE 1 byC w base 5 (.slice a len c) ps) (hl : ps.length = len) (h1 : len ≤ 1048576) (hk0 : 0 ≤ k) (hk1 : k ≤ 10000000000000) :
    Calls Try.prog 89 #[.slice a len c, .int .i64 k] w fun e w' => e = .returned (.int .i64 (k + len)) ∧ OwnE 1 byC w' base 5 (.slice a len c) (markBy ps k len) ∧ w.grownBy w' (Value.slice a len c).ownBlock := by
  subst hl
  go_enter Try.func89, Try.ntmps89
  go_wp2
  go_loopw [1, 5] (fun kk i wr => ∃ j : Nat, j ≤ ps.length ∧ i = .int .i64 j ∧ kk = .int .i64 (k + j) ∧ OwnE 1 byC wr base 5 (.slice a ps.length c) (markBy ps k j) ∧ w.grownBy wr (Value.slice a ps.length c).ownBlock) (fun _ i _ => ps.length - (intOf i).toNat)
  case atStart => exact ⟨0, Nat.zero_le _, rfl, by simp, ho, grown_refl _ _⟩
  case round =>
    obtain ⟨j, hj, rfl, rfl, how, hgr⟩ := hrel
    have hml := markBy_len ps k j
    by_cases hlt : j < ps.length
    · rcases how.form with ⟨_, h0⟩ | ⟨g, c', hv, hg1, hg2, hc1, _⟩
      · rw [h0] at hml; simp at hml; omega
      simp only [Value.slice.injEq] at hv
      obtain ⟨rfl, hx, rfl⟩ := hv
      clear hx hc1
      have n0 : wr.cell? ⟨g, j, none⟩ = some (.int .u8 (elAt (markBy ps k j) j)) := (how.here1 hml j hlt).1
      have z0 : wr.frozen? ⟨g, j, none⟩ = false := (how.here1 hml j hlt).2
      have O3 : Hid (OwnE 1 byC (wr.setCell ⟨g, j, none⟩ (.int .u8 (markY (k + j)))) base 5 (.slice (some ⟨g, 0, none⟩) ps.length c) (markBy ps k (j + 1))) := hide (how.set1 hml j hlt _ _ rfl)
      have G3 : Hid (w.grownBy (wr.setCell ⟨g, j, none⟩ (.int .u8 (markY (k + j)))) (Value.slice (some ⟨g, 0, none⟩) ps.length c).ownBlock) := hide (grown_set hgr _ _)
      have hi1 : (j : Int) < (ps.length : Int) := by omega
      have ht : IntKind.u8.wrap (k + (j : Int)) = markY (k + j) := rfl
      clear how hgr hml
      go_wp2
      go_roundw
      case rel => exact ⟨j + 1, by omega, by go_num, by go_num, unhide O3, unhide G3⟩
      case measure => simp [intOf]; omega
    · have hkk : j = ps.length := by omega
      subst hkk
      have O := hide how
      have G := hide hgr
      clear how hgr hml
      go_wp2
      go_ret
      exact ⟨rfl, unhide O, unhide G⟩
set_option maxHeartbeats 1000000 in
theorem heldByteS_big (base : Nat) (a : Option Addr) (len c : Nat) (ps : List Int) (k : Int) (w : World) (ho : OwnE 1 byC w base 5 (.slice a len c) (markBy ps k len)) (hl : ps.length = len) (h1 : len ≤ 1048576) (hk0 : 0 ≤ k) (hk1 : k ≤ 10000000000000) :
    Calls Try.prog 90 #[.slice a len c, .int .i64 k] w fun e w' => e = .returned (.int .i64 (k + len)) ∧ w' = w := by
  subst hl
  have HO := hide (OwnE.row ho).open1
  clear ho
  go_enter Try.func90, Try.ntmps90
  go_wp2
  go_loopw [1, 5] (fun kk i wr => ∃ j : Nat, j ≤ ps.length ∧ i = .int .i64 j ∧ kk = .int .i64 (k + j) ∧ wr = w) (fun _ i _ => ps.length - (intOf i).toNat)
  case atStart => exact ⟨0, Nat.zero_le _, rfl, by simp, rfl⟩
  case round =>
    obtain ⟨j, hj, rfl, rfl, hwr⟩ := hrel
    subst wr
    by_cases hlt : j < ps.length
    · rcases (unhide HO) with ⟨h0, _⟩ | ⟨bb, off, rfl, _, hc⟩
      · rw [h0] at hlt; simp at hlt
      have ca : w.cell? ⟨bb, off + j, none⟩ = some (.int .u8 (elAt (markBy ps k ps.length) j)) := hc j hlt
      rw [markBy_at ps k ps.length (Nat.le_refl _) j hlt] at ca
      have hi1 : (j : Int) < (ps.length : Int) := by omega
      have ht : IntKind.u8.wrap (k + (j : Int)) = markY (k + j) := rfl
      have q0 : (markY (k + (j : Int)) != markY (k + (j : Int))) = false := by simp
      clear hc
      go_wp2
      go_roundw
      case rel => exact ⟨j + 1, by omega, by go_num, by go_num, by first | rfl | trivial⟩
      case measure => simp [intOf]; omega
    · have hkk : j = ps.length := by omega
      subst hkk
      go_wp2
      go_ret
      exact ⟨rfl, rfl⟩
/-- The first k lengths together; the mark at a load. -/
def totX (us : List Lx) : Nat → Nat
  | 0 => 0
  | k + 1 => totX us k + (elAt us k).d.zs.length
def kX (us : List Lx) (k0 : Int) (j : Nat) : Int := k0 + 5 * (j : Int) + (totX us j : Int)
theorem kX_succ (us : List Lx) (k0 : Int) (j : Nat) : kX us k0 (j + 1) = kX us k0 j + 5 + ((elAt us j).d.zs.length : Int) := by
  show k0 + 5 * ((j + 1 : Nat) : Int) + ((totX us j + (elAt us j).d.zs.length : Nat) : Int) = k0 + 5 * (j : Int) + (totX us j : Int) + 5 + ((elAt us j).d.zs.length : Int)
  omega
theorem kX_zero (us : List Lx) (k0 : Int) : kX us k0 0 = k0 := by simp [kX, totX]
theorem kX_bd {us : List Lx} {k0 : Int} (hd : ∀ i, i < us.length → (elAt us i).d.zs.length ≤ 1048576) : ∀ j, j ≤ us.length → k0 ≤ kX us k0 j ∧ kX us k0 j ≤ k0 + 1048581 * (j : Int)
  | 0, _ => by rw [kX_zero]; omega
  | j + 1, h => by
    have := kX_bd (k0 := k0) hd j (by omega)
    have := hd j (by omega)
    rw [kX_succ]; omega
def mkX (e : Lx) (k : Int) : Lx := ⟨mkT k, k + 1, k + 2, k + 3, k + 4, { e.d with zs := markBy e.d.zs (k + 5) e.d.n }⟩
/-- After j rounds of the marking. -/
def markX (us : List Lx) (k0 : Int) : Nat → List Lx
  | 0 => us
  | j + 1 => (markX us k0 j).set j (mkX (elAt us j) (kX us k0 j))
theorem markX_len (us : List Lx) (k0 : Int) (j : Nat) : (markX us k0 j).length = us.length := by
  induction j with
  | zero => rfl
  | succ j ih => simp [markX, ih]
theorem markX_at (us : List Lx) (k0 : Int) : ∀ j, j ≤ us.length → ∀ i, elAt (markX us k0 j) i = if i < j then mkX (elAt us i) (kX us k0 i) else elAt us i
  | 0, _, i => by simp [markX]
  | j + 1, h, i => by
    rw [markX, elAt_set _ _ _ _ (by rw [markX_len]; omega)]
    by_cases e : i = j
    · subst e; simp
    · rw [if_neg e, markX_at us k0 j (by omega) i]
      by_cases c : i < j
      · rw [if_pos c, if_pos (by omega)]
      · rw [if_neg c, if_neg (by omega)]
theorem OwnLd.mark1 {w : World} {base g n c j : Nat} {us : List Lx} (h : OwnLd w base (.slice (some ⟨g, 0, none⟩) n c) us) (hn : us.length = n) (hj : j < n) (T : ByteArray) (k1 k2 k3 k4 : Int) :
    OwnLd (((((w.setCell ⟨g, j * 6, none⟩ (.string T)).setCell ⟨g, j * 6 + 1, none⟩ (.int .i64 k1)).setCell ⟨g, j * 6 + 2, none⟩ (.int .i64 k2)).setCell ⟨g, j * 6 + 3, none⟩ (.int .i64 k3)).setCell ⟨g, j * 6 + 4, none⟩ (.int .i64 k4)) base (.slice (some ⟨g, 0, none⟩) n c) (us.set j ⟨T, k1, k2, k3, k4, (elAt us j).d⟩) := by
  have o0 := h.out.setOne hn j hj 0 (by omega) (.string T) ⟨T, (elAt us j).nb, (elAt us j).le, (elAt us j).mo, (elAt us j).ne, (elAt us j).d⟩ (fun p hp => by match p, hp with | 0, _ => rfl | 1, _ => rfl | 2, _ => rfl | 3, _ => rfl | 4, _ => rfl | 5, _ => rfl)
  have o1 := o0.setMore hn hj 1 (by omega) (.int .i64 k1) ⟨T, k1, (elAt us j).le, (elAt us j).mo, (elAt us j).ne, (elAt us j).d⟩ (fun p hp => by match p, hp with | 0, _ => rfl | 1, _ => rfl | 2, _ => rfl | 3, _ => rfl | 4, _ => rfl | 5, _ => rfl)
  have o2 := o1.setMore hn hj 2 (by omega) (.int .i64 k2) ⟨T, k1, k2, (elAt us j).mo, (elAt us j).ne, (elAt us j).d⟩ (fun p hp => by match p, hp with | 0, _ => rfl | 1, _ => rfl | 2, _ => rfl | 3, _ => rfl | 4, _ => rfl | 5, _ => rfl)
  have o3 := o2.setMore hn hj 3 (by omega) (.int .i64 k3) ⟨T, k1, k2, k3, (elAt us j).ne, (elAt us j).d⟩ (fun p hp => by match p, hp with | 0, _ => rfl | 1, _ => rfl | 2, _ => rfl | 3, _ => rfl | 4, _ => rfl | 5, _ => rfl)
  have o4 := o3.setMore hn hj 4 (by omega) (.int .i64 k4) ⟨T, k1, k2, k3, k4, (elAt us j).d⟩ (fun p hp => by match p, hp with | 0, _ => rfl | 1, _ => rfl | 2, _ => rfl | 3, _ => rfl | 4, _ => rfl | 5, _ => rfl)
  have ed : ∀ i, (elAt (us.set j ⟨T, k1, k2, k3, k4, (elAt us j).d⟩) i).d = (elAt us i).d := fun i => by
    rw [elAt_set _ _ _ _ (by omega)]
    split
    · rename_i e; subst e; rfl
    · rfl
  refine ⟨o4, fun i hi => ?_, fun i hi q hq => ?_, fun i i2 hij hi2 q hq => ?_⟩
  · rw [List.length_set] at hi
    rw [ed]
    have hne : (slV (elAt us i).d).ownBlock ≠ some g := fun e => h.apt i hi g e rfl
    exact (((((h.dat i hi).set_other _ hne).set_other _ hne).set_other _ hne).set_other _ hne).set_other _ hne
  · rw [List.length_set] at hi
    rw [ed] at hq
    exact h.apt i hi q hq
  · rw [List.length_set] at hi2
    rw [ed] at hq ⊢
    exact h.par i i2 hij hi2 q hq
theorem OwnLd.mark2 {w w' : World} {base j : Nat} {v : Value} {us : List Lx} {zs : List Int} (h : OwnLd w base v us) (hj : j < us.length) (o : OwnE 1 byC w' base 5 (slV (elAt us j).d) zs) (gr : w.grownBy w' (slV (elAt us j).d).ownBlock) :
    OwnLd w' base v (us.set j { elAt us j with d := { (elAt us j).d with zs := zs } }) := by
  have ev : ∀ i, slV (elAt (us.set j { elAt us j with d := { (elAt us j).d with zs := zs } }) i).d = slV (elAt us i).d := fun i => by
    rw [elAt_set _ _ _ _ hj]
    split
    · rename_i e; subst e; rfl
    · rfl
  refine ⟨?_, fun i hi => ?_, fun i hi q hq => ?_, fun i i2 hij hi2 q hq => ?_⟩
  · have o2 := h.out.far gr (fun q hq e => h.apt j hj q e.symm hq)
    obtain ⟨xs, h1, h2⟩ := o2.own
    refine ⟨⟨xs, by rw [List.length_set]; exact h1, fun i hi p hp => ?_⟩⟩
    rw [List.length_set] at hi
    have := h2 i hi p hp
    rw [this, elAt_set _ _ _ _ hj]
    split
    · rename_i e; subst e
      match p, hp with
      | 0, _ => rfl
      | 1, _ => rfl
      | 2, _ => rfl
      | 3, _ => rfl
      | 4, _ => rfl
      | 5, _ => rfl
    · rfl
  · rw [List.length_set] at hi
    rw [ev]
    by_cases e : i = j
    · subst e
      rw [elAt_set _ _ _ _ hj, if_pos rfl]; exact o
    · rw [elAt_set _ _ _ _ hj, if_neg e]
      refine (h.dat i hi).far gr (fun q hq e2 => ?_)
      rcases Nat.lt_or_gt_of_ne e with c | c
      · exact h.par i j c hj q hq e2.symm
      · exact h.par j i c hi q e2.symm hq
  · rw [List.length_set] at hi
    rw [ev] at hq
    exact h.apt i hi q hq
  · rw [List.length_set] at hi2
    rw [ev] at hq ⊢
    exact h.par i i2 hij hi2 q hq
theorem grown_five (w : World) (g a b c d e : Nat) (v1 v2 v3 v4 v5 : Value) : w.grownBy (((((w.setCell ⟨g, a, none⟩ v1).setCell ⟨g, b, none⟩ v2).setCell ⟨g, c, none⟩ v3).setCell ⟨g, d, none⟩ v4).setCell ⟨g, e, none⟩ v5) (some g) := grown_set (grown_set (grown_set (grown_set (grown_set (grown_refl w (some g)) a v1) b v2) c v3) d v4) e v5

set_option maxRecDepth 20000 in
set_option maxHeartbeats 4000000 in
theorem markLoad18S_own (base g len c : Nat) (us : List Lx) (k0 : Int) (w : World) (h : OwnLd w base (.slice (some ⟨g, 0, none⟩) len c) us) (hl : us.length = len) (h1 : len ≤ 1048576) (hd : ∀ i, i < us.length → (elAt us i).d.zs.length ≤ 1048576) (hk0 : 1 ≤ k0) (hk1 : k0 ≤ 1000000000) (b u : Nat) (hb : LxLies b u (.slice (some ⟨g, 0, none⟩) len c) us) :
    Calls Try.prog 68 #[.slice (some ⟨g, 0, none⟩) len c, .int .i64 k0] w fun e w' => e = .returned (.int .i64 (kX us k0 len)) ∧ OwnLd w' base (.slice (some ⟨g, 0, none⟩) len c) (markX us k0 len) ∧ Only b u w w' := by
  subst hl
  have H0 := hide h
  have HD := hide hd
  have HL := hide hb
  clear h hd hb
  go_enter Try.func68, Try.ntmps68
  go_wp2_with fail
  go_loopw [1, 5] (fun kk i wr => ∃ j : Nat, j ≤ us.length ∧ i = .int .i64 j ∧ kk = .int .i64 (kX us k0 j) ∧ Hid (OwnLd wr base (.slice (some ⟨g, 0, none⟩) us.length c) (markX us k0 j)) ∧ Hid (Only b u w wr)) (fun _ i _ => us.length - (intOf i).toNat)
  case atStart => exact ⟨0, Nat.zero_le _, rfl, by rw [kX_zero], H0, hide (Only.refl _ _ _)⟩
  case round =>
    clear H0
    obtain ⟨j, hj, rfl, rfl, HW, HY⟩ := hrel
    have hkb := kX_bd (k0 := k0) (unhide HD) j hj
    by_cases hlt : j < us.length
    · obtain ⟨K, hK⟩ : ∃ z, kX us k0 j = z := ⟨_, rfl⟩
      rw [hK] at hkb ⊢
      have HK := hide hK
      have hdd := (unhide HD) j hlt
      have hi1 : (j : Int) < (us.length : Int) := by omega
      have hi0 : (0 : Int) ≤ (j : Int) := by omega
      have hKb : 1 ≤ K ∧ K ≤ 2000000000000 := by omega
      clear hK
      go_wp2_with fail
      refine (markText_big K wr (by omega) (by omega)).mono ?_
      rintro e w2 ⟨rfl, b2⟩
      have HW2 := hide ((unhide HW).below b2)
      have HY2 : Hid (Only b u w w2) := hide ((unhide HY).trans (Only.of_below b2))
      clear b2 HW HY
      have hel := markX_at us k0 j hj j
      rw [if_neg (by omega)] at hel
      have hml := markX_len us k0 j
      have hm1 := (unhide HW2).mark1 hml hlt (mkT K) (K + 1) (K + 1 + 1) (K + 1 + 1 + 1) (K + 1 + 1 + 1 + 1)
      rw [hel] at hm1
      have zz := fun q hq => (unhide HW2).out.here hml j hlt q hq
      rw [hel] at zz
      have c0 : w2.cell? ⟨g, j * 6, none⟩ = some (.string (elAt us j).p) := (zz 0 (by omega)).1
      have f0 : w2.frozen? ⟨g, j * 6, none⟩ = false := (zz 0 (by omega)).2
      have c1 : w2.cell? ⟨g, j * 6 + 1, none⟩ = some (.int .i64 (elAt us j).nb) := (zz 1 (by omega)).1
      have f1 : w2.frozen? ⟨g, j * 6 + 1, none⟩ = false := (zz 1 (by omega)).2
      have c2 : w2.cell? ⟨g, j * 6 + 2, none⟩ = some (.int .i64 (elAt us j).le) := (zz 2 (by omega)).1
      have f2 : w2.frozen? ⟨g, j * 6 + 2, none⟩ = false := (zz 2 (by omega)).2
      have c3 : w2.cell? ⟨g, j * 6 + 3, none⟩ = some (.int .i64 (elAt us j).mo) := (zz 3 (by omega)).1
      have f3 : w2.frozen? ⟨g, j * 6 + 3, none⟩ = false := (zz 3 (by omega)).2
      have c4 : w2.cell? ⟨g, j * 6 + 4, none⟩ = some (.int .i64 (elAt us j).ne) := (zz 4 (by omega)).1
      have f4 : w2.frozen? ⟨g, j * 6 + 4, none⟩ = false := (zz 4 (by omega)).2
      obtain ⟨V, hV⟩ : ∃ V, V = ((((w2.setCell ⟨g, j * 6, none⟩ (.string (mkT K))).setCell ⟨g, j * 6 + 1, none⟩ (.int .i64 (K + 1))).setCell ⟨g, j * 6 + 2, none⟩ (.int .i64 (K + 1 + 1))).setCell ⟨g, j * 6 + 3, none⟩ (.int .i64 (K + 1 + 1 + 1))).setCell ⟨g, j * 6 + 4, none⟩ (.int .i64 (K + 1 + 1 + 1 + 1)) := ⟨_, rfl⟩
      have HYV : Hid (Only b u w V) := hide ((unhide HY2).trans (by rw [hV]; exact Only.of_row (grown_five ..) (fun q hq => by cases hq; exact (unhide HL).1 g rfl)))
      rw [← hV] at hm1
      have HM1 := hide hm1
      have z5 := hm1.out.here (by simp [hml]) j hlt 5 (by omega)
      rw [elAt_set _ _ _ _ (by omega), if_pos rfl] at z5
      have c5 : V.cell? ⟨g, j * 6 + 5, none⟩ = some (.slice (elAt us j).d.a (elAt us j).d.n (elAt us j).d.c) := z5.1
      rw [hV] at c5
      have hod := hm1.dat j (by simp [hml]; omega)
      rw [elAt_set _ _ _ _ (by omega), if_pos rfl] at hod
      have HOD := hide hod
      have hnn : (elAt us j).d.zs.length = (elAt us j).d.n := (OwnE.row (a := (elAt us j).d.a) (len := (elAt us j).d.n) (cap := (elAt us j).d.c) hod).len_eq
      have HNN := hide hnn
      have hn32 : (elAt us j).d.n ≤ 1048576 := by omega
      have HVV := hide hV
      clear hm1 zz z5 hod hel hml hdd hV hnn HW2 HY2
      go_wp2_with fail
      rw [← unhide HVV]
      refine (markByteS_big base _ _ _ (elAt us j).d.zs (K + 1 + 1 + 1 + 1 + 1) _ (unhide HOD) (unhide HNN) (by omega) (by omega) (by omega)).mono ?_
      rintro e w' ⟨rfl, o9, gr9⟩
      have NX : Hid (OwnLd w' base (.slice (some ⟨g, 0, none⟩) us.length c) (markX us k0 (j + 1))) := hide (by
        have hml := markX_len us k0 j
        have e1 : elAt ((markX us k0 j).set j ⟨mkT K, K + 1, K + 1 + 1, K + 1 + 1 + 1, K + 1 + 1 + 1 + 1, (elAt us j).d⟩) j = ⟨mkT K, K + 1, K + 1 + 1, K + 1 + 1 + 1, K + 1 + 1 + 1 + 1, (elAt us j).d⟩ := by rw [elAt_set _ _ _ _ (by omega), if_pos rfl]
        have := (unhide HM1).mark2 (j := j) (zs := markBy (elAt us j).d.zs (K + 1 + 1 + 1 + 1 + 1) (elAt us j).d.n) (by simp [hml]; omega) (by rw [e1]; exact o9) (by rw [e1]; exact gr9)
        rw [e1, List.set_set] at this
        rw [markX, mkX, unhide HK, show K + 2 = K + 1 + 1 by omega, show K + 3 = K + 1 + 1 + 1 by omega, show K + 4 = K + 1 + 1 + 1 + 1 by omega, show K + 5 = K + 1 + 1 + 1 + 1 + 1 by omega]
        exact this)
      have NY : Hid (Only b u w w') := hide ((unhide HYV).trans (Only.of_row gr9 (fun q hq => (unhide HL).2 j hlt q hq)))
      clear o9 gr9
      go_wp2_with fail
      go_roundw
      case rel => exact ⟨j + 1, by omega, by go_num, by rw [kX_succ, unhide HK, unhide HNN]; congr 1; omega, NX, NY⟩
      case measure => simp [intOf]; omega
    · have hjj : Hid (j = us.length) := hide (by omega)
      have hi1 : ¬ (j : Int) < (us.length : Int) := by omega
      go_wp2_with fail
      go_ret
      exact ⟨ret_int (by rw [unhide hjj]), by have := unhide HW; rw [unhide hjj] at this; exact this, unhide HY⟩
theorem markLoad18S_nil (a : Option Addr) (c : Nat) (k0 : Int) (w : World) :
    Calls Try.prog 68 #[.slice a 0 c, .int .i64 k0] w fun e w' => e = .returned (.int .i64 k0) ∧ w' = w := by
  go_enter Try.func68, Try.ntmps68
  go_wp2_with fail
  refine wp_loop_rounds 1 ?_
  rw [rounds_succ]
  go_wp2_with fail
  go_ret
  exact ⟨rfl, rfl⟩
set_option maxRecDepth 20000 in
set_option maxHeartbeats 4000000 in
theorem heldLoad18S_own (base g len c : Nat) (us : List Lx) (k0 : Int) (w : World) (h : OwnLd w base (.slice (some ⟨g, 0, none⟩) len c) (markX us k0 len)) (hl : us.length = len) (h1 : len ≤ 1048576) (hd : ∀ i, i < us.length → (elAt us i).d.zs.length ≤ 1048576) (hn : ∀ i, i < us.length → (elAt us i).d.zs.length = (elAt us i).d.n) (hk0 : 1 ≤ k0) (hk1 : k0 ≤ 1000000000) :
    Calls Try.prog 69 #[.slice (some ⟨g, 0, none⟩) len c, .int .i64 k0] w fun e w' => e = .returned (.int .i64 (kX us k0 len)) ∧ Below w.heap.size w w' := by
  subst hl
  have HW := hide h
  have HD := hide hd
  have HNN := hide hn
  clear h hd hn
  go_enter Try.func69, Try.ntmps69
  go_wp2_with fail
  go_loopw [1, 5] (fun kk i wr => ∃ j : Nat, j ≤ us.length ∧ i = .int .i64 j ∧ kk = .int .i64 (kX us k0 j) ∧ Hid (Below w.heap.size w wr)) (fun _ i _ => us.length - (intOf i).toNat)
  case atStart => exact ⟨0, Nat.zero_le _, rfl, by rw [kX_zero], hide (Below.refl _ _)⟩
  case round =>
    obtain ⟨j, hj, rfl, rfl, BW⟩ := hrel
    have hkb := kX_bd (k0 := k0) (unhide HD) j hj
    by_cases hlt : j < us.length
    · obtain ⟨K, hK⟩ : ∃ z, kX us k0 j = z := ⟨_, rfl⟩
      rw [hK] at hkb ⊢
      have hel := markX_at us k0 us.length (Nat.le_refl _) j
      rw [if_pos hlt, hK] at hel
      have hml := markX_len us k0 us.length
      obtain ⟨ι, f, _, hbf, hall⟩ := belClass wr
      have HF := hide hbf
      have HA := hide hall
      have OF : Hid (∀ y, OwnLd (f y) base (.slice (some ⟨g, 0, none⟩) us.length c) (markX us k0 us.length)) := hide (fun y => ((unhide HW).below (unhide BW)).below (hbf y))
      have zz := fun y q hq => ((unhide OF) y).out.here hml j hlt q hq
      rw [hel] at zz
      have c0 : ∀ y, (f y).cell? ⟨g, j * 6, none⟩ = some (.string (mkT K)) := fun y => (zz y 0 (by omega)).1
      have c1 : ∀ y, (f y).cell? ⟨g, j * 6 + 1, none⟩ = some (.int .i64 (K + 1)) := fun y => (zz y 1 (by omega)).1
      have c2 : ∀ y, (f y).cell? ⟨g, j * 6 + 2, none⟩ = some (.int .i64 (K + 1 + 1)) := fun y => (zz y 2 (by omega)).1.trans (by show some (Value.int .i64 (K + 2)) = _; rw [show K + 2 = K + 1 + 1 by omega])
      have c3 : ∀ y, (f y).cell? ⟨g, j * 6 + 3, none⟩ = some (.int .i64 (K + 1 + 1 + 1)) := fun y => (zz y 3 (by omega)).1.trans (by show some (Value.int .i64 (K + 3)) = _; rw [show K + 3 = K + 1 + 1 + 1 by omega])
      have c4 : ∀ y, (f y).cell? ⟨g, j * 6 + 4, none⟩ = some (.int .i64 (K + 1 + 1 + 1 + 1)) := fun y => (zz y 4 (by omega)).1.trans (by show some (Value.int .i64 (K + 4)) = _; rw [show K + 4 = K + 1 + 1 + 1 + 1 by omega])
      have c5 : ∀ y, (f y).cell? ⟨g, j * 6 + 5, none⟩ = some (.slice (elAt us j).d.a (elAt us j).d.n (elAt us j).d.c) := fun y => (zz y 5 (by omega)).1
      have HOD : Hid (∀ y, OwnE 1 byC (f y) base 5 (.slice (elAt us j).d.a (elAt us j).d.n (elAt us j).d.c) (markBy (elAt us j).d.zs (K + 1 + 1 + 1 + 1 + 1) (elAt us j).d.n)) := hide (fun y => by
        have zd := ((unhide OF) y).dat j (by omega)
        rw [hel] at zd
        rw [show K + 1 + 1 + 1 + 1 + 1 = K + 5 by omega]; exact zd)
      have hnn := (unhide HNN) j hlt
      have hdd := (unhide HD) j hlt
      have hn32 : (elAt us j).d.n ≤ 1048576 := by omega
      have HN2 := hide hnn
      have hi1 : (j : Int) < (us.length : Int) := by omega
      have hi0 : (0 : Int) ≤ (j : Int) := by omega
      have q1 : (K + 1 != K + 1) = false := by simp
      have q2 : (K + 1 + 1 != K + 1 + 1) = false := by simp
      have q3 : (K + 1 + 1 + 1 != K + 1 + 1 + 1) = false := by simp
      have q4 : (K + 1 + 1 + 1 + 1 != K + 1 + 1 + 1 + 1) = false := by simp
      have q5 : ¬ K + 1 + 1 + 1 + 1 + 1 + ((elAt us j).d.n : Int) < 0 := by omega
      have HK := hide hK
      have hKb : 1 ≤ K ∧ K ≤ 2000000000000 := by omega
      have HBF : Hid (∀ y, Below w.heap.size w (f y)) := hide (fun y => (unhide BW).trans ((hbf y).mono (unhide BW).size))
      obtain ⟨x0, hx0⟩ := hall wr (Below.refl _ _)
      have HX0 := hide hx0
      clear zz hel hml hnn hdd hK hbf hall OF hx0
      go_wp2_with fail
      rw [unhide HX0]
      clear HX0
      refine wp_region_bel (fun w' h => (unhide HA) w' ((unhide HF _).trans (h.mono (unhide HF _).size))) (by kernel_rfl) (by kernel_rfl) ?_
      repeat (go_big_quiet_step (first | (go_at_call 88; exact belQ (unhide HF) (unhide HA) (markText_big _ _ (by omega) (by omega)))))
      refine wpQuiet_nil ?_
      rintro _ ⟨y, rfl⟩
      go_wp2_with (go_at_call 90; refine (heldByteS_big base _ _ _ (elAt us j).d.zs (K + 1 + 1 + 1 + 1 + 1) _ ((unhide HOD) _) (unhide HN2) (by omega) (by omega) (by omega)).mono ?_; rintro e w' ⟨rfl, hw⟩; subst w')
      go_roundw
      case rel => exact ⟨j + 1, by omega, by go_num, by rw [kX_succ, unhide HK, unhide HN2]; congr 1; omega, hide ((unhide HBF) _)⟩
      case measure => simp [intOf]; omega
    · have hjj : Hid (j = us.length) := hide (by omega)
      have hi1 : ¬ (j : Int) < (us.length : Int) := by omega
      go_wp2_with fail
      go_ret
      exact ⟨ret_int (by rw [unhide hjj]), unhide BW⟩
theorem heldLoad18S_nil (a : Option Addr) (c : Nat) (k0 : Int) (w : World) :
    Calls Try.prog 69 #[.slice a 0 c, .int .i64 k0] w fun e w' => e = .returned (.int .i64 k0) ∧ w' = w := by
  go_enter Try.func69, Try.ntmps69
  go_wp2_with fail
  refine wp_loop_rounds 1 ?_
  rw [rounds_succ]
  go_wp2_with fail
  go_ret
  exact ⟨rfl, rfl⟩

end Go.Proofs.Ytlpomplldgmkmba

namespace Go.Proofs.Ytlpomplldgmkmba
open Go Go.RowKit

/-- Its lists, made by a call, in blocks from b on and below u. -/
structure AbIs (w : World) (b u : Nat) (a : Option Addr) (l c : Nat) (z : List Lc) : Prop where
  ex : ∃ us : List Lx, us.map lxW = z ∧ OwnLd w b (.slice a l c) us ∧ LxLies b u (.slice a l c) us
  ok : LzOk z
theorem AbOwn.is {w : World} {base : Nat} {a : Option Addr} {l c : Nat} {z : List Lc} (h : AbOwn w base a l c z) : AbIs w base w.heap.size a l c z := by
  obtain ⟨us, e, hu⟩ := h.o1.ex
  exact ⟨⟨us, e, hu, hu.lies⟩, h.o1.ok⟩
theorem AbIs.below {w w' : World} {b u : Nat} {a : Option Addr} {l c : Nat} {z : List Lc} (h : AbIs w b u a l c z) (k : Below w.heap.size w w') : AbIs w' b u a l c z := by
  obtain ⟨us, e, hu, hl⟩ := h.ex
  exact ⟨⟨us, e, hu.below k, hl⟩, h.ok⟩
theorem AbIs.only {w w' : World} {b u lo hi : Nat} {a : Option Addr} {l c : Nat} {z : List Lc} (h : AbIs w b u a l c z) (k : Only lo hi w w') (hs : u ≤ lo ∨ hi ≤ b) : AbIs w' b u a l c z := by
  obtain ⟨us, e, hu, hl⟩ := h.ex
  exact ⟨⟨us, e, hu.only k hl hs, hl⟩, h.ok⟩
theorem AbIs.read {w : World} {b u : Nat} {a : Option Addr} {l c : Nat} {z : List Lc} (h : AbIs w b u a l c z) : AbIn w a l z := by
  obtain ⟨us, e, hu, _⟩ := h.ex
  exact ⟨(OwnLT.mk ⟨us, e, hu⟩ h.ok).row⟩
/-- The same, marked from k on. -/
structure AbMk (w : World) (b u : Nat) (a : Option Addr) (l c : Nat) (z : List Lc) (k : Int) : Prop where
  ex : ∃ us : List Lx, us.map lxW = z ∧ OwnLd w b (.slice a l c) (markX us k l) ∧ LxLies b u (.slice a l c) us ∧ us.length = l ∧ ∀ i, i < us.length → (elAt us i).d.zs.length = (elAt us i).d.n
theorem lies_mark {b u : Nat} {v : Value} {us : List Lx} {k : Int} {l : Nat} (hl : l ≤ us.length) (h : LxLies b u v us) : LxLies b u v (markX us k l) := by
  refine ⟨h.1, fun i hi q hq => h.2 i (by rw [markX_len] at hi; exact hi) q ?_⟩
  rw [markX_at us k l hl] at hq
  split at hq
  · exact hq
  · exact hq
theorem AbMk.below {w w' : World} {b u : Nat} {a : Option Addr} {l c : Nat} {z : List Lc} {k : Int} (h : AbMk w b u a l c z k) (kb : Below w.heap.size w w') : AbMk w' b u a l c z k := by
  obtain ⟨us, e, hu, hl, h1, h2⟩ := h.ex
  exact ⟨⟨us, e, hu.below kb, hl, h1, h2⟩⟩
theorem AbMk.only {w w' : World} {b u lo hi : Nat} {a : Option Addr} {l c : Nat} {z : List Lc} {k : Int} (h : AbMk w b u a l c z k) (on : Only lo hi w w') (hs : u ≤ lo ∨ hi ≤ b) : AbMk w' b u a l c z k := by
  obtain ⟨us, e, hu, hl, h1, h2⟩ := h.ex
  exact ⟨⟨us, e, hu.only on (lies_mark (by omega) hl) hs, hl, h1, h2⟩⟩
/-- How many marks there are. -/
def totZ (z : List Lc) : Nat → Nat
  | 0 => 0
  | k + 1 => totZ z k + (elAt z k).zs.length
def kZ (z : List Lc) (k : Int) : Int := k + 5 * (z.length : Int) + (totZ z z.length : Int)
theorem tot_map {us : List Lx} {z : List Lc} (h : us.map lxW = z) : ∀ j, j ≤ us.length → totX us j = totZ z j
  | 0, _ => rfl
  | j + 1, hj => by
    rw [totX, totZ, tot_map h j (by omega), elAt_lx h (by omega)]; rfl
theorem kX_map {us : List Lx} {z : List Lc} (h : us.map lxW = z) (k : Int) : kX us k us.length = kZ z k := by
  have hl : z.length = us.length := by rw [← h]; simp
  rw [kX, kZ, hl, tot_map h _ (Nat.le_refl _)]
theorem lz_us {us : List Lx} {z : List Lc} (h : us.map lxW = z) (hz : LzB z) : ∀ i, i < us.length → (elAt us i).d.zs.length ≤ 1048576 := by
  intro i hi
  have hl : z.length = us.length := by rw [← h]; simp
  have := hz.2 i (by omega)
  rw [elAt_lx h hi] at this
  exact this
theorem totZ_bd {z : List Lc} (hz : LzB z) : ∀ j, j ≤ z.length → totZ z j ≤ 1048576 * j
  | 0, _ => by simp [totZ]
  | j + 1, hj => by
    have := totZ_bd hz j (by omega)
    have := hz.2 j (by omega)
    rw [totZ]; omega
theorem kZ_bd {z : List Lc} (hz : LzB z) (k : Int) : k ≤ kZ z k ∧ kZ z k ≤ k + 1099516870656 := by
  have h1 := totZ_bd hz _ (Nat.le_refl _)
  have h2 := hz.1
  unfold kZ
  omega
set_option maxHeartbeats 2000000 in
theorem markAboard_own (i0 : Int) (a : Option Addr) (l c : Nat) (z : List Lc) (k : Int) (w : World) (b u : Nat) (h : AbIs w b u a l c z) (hz : LzB z) (hk0 : 1 ≤ k) (hk1 : k ≤ 1000000000) :
    Calls Try.prog 29 #[.agg #[.int .i64 i0, .slice a l c], .int .i64 k] w fun e w' => e = .returned (.int .i64 (kZ z k)) ∧ AbMk w' b u a l c z k ∧ Only b u w w' := by
  obtain ⟨W, hW⟩ : ∃ W, W = w.alloc (Obj.cells #[.int .i64 i0, .slice a l c] 57) := ⟨_, rfl⟩
  have bW : Below w.heap.size w W := by rw [hW]; exact bel1 _
  obtain ⟨us, e, hu1, hl⟩ := (h.below bW).ex
  have hul : us.length = l := ownLd_len hu1
  have hdn : ∀ i, i < us.length → (elAt us i).d.zs.length = (elAt us i).d.n := fun i hi => (OwnE.row (a := (elAt us i).d.a) (len := (elAt us i).d.n) (cap := (elAt us i).d.c) (hu1.dat i hi)).len_eq
  have OW : Hid (Only b u w W) := hide (Only.of_below bW)
  have C : Hid (Calls Try.prog 68 #[.slice a l c, .int .i64 k] W fun e w' => e = .returned (.int .i64 (kZ z k)) ∧ AbMk w' b u a l c z k ∧ Only b u W w') := hide (by
    rcases hu1.out.form with ⟨e0, e1⟩ | ⟨g, cap, e0, _⟩
    · simp only [Value.slice.injEq] at e0
      obtain ⟨rfl, rfl, rfl⟩ := e0
      subst e1
      refine (markLoad18S_nil none 0 k W).mono ?_
      rintro e2 w' ⟨rfl, rfl⟩
      have hk := kX_map e k
      refine ⟨by rw [← hk]; simp [kX, totX], ⟨⟨[], e, hu1, hl, hul, hdn⟩⟩, Only.refl _ _ _⟩
    · simp only [Value.slice.injEq] at e0
      obtain ⟨rfl, _, rfl⟩ := e0
      refine (markLoad18S_own b g l c us k W hu1 hul (by have := hz.1; have hl2 : z.length = us.length := (by rw [← e]; simp); omega) (lz_us e hz) hk0 hk1 b u hl).mono ?_
      rintro e2 w' ⟨rfl, o2, on⟩
      have hk := kX_map e k
      rw [hul] at hk
      exact ⟨by rw [hk], ⟨⟨us, e, o2, hl, hul, hdn⟩⟩, on⟩)
  have HW := hide hW
  clear h hu1 hl hul hdn hW bW
  go_enter Try.func29, Try.ntmps29
  go_wp2_with fail
  rw [← unhide HW]
  clear HW
  refine (unhide C).mono ?_
  rintro e w2 ⟨rfl, m2, on⟩
  have M2 := hide m2
  have ON := hide on
  clear m2 on C
  go_wp2_with fail
  go_ret
  exact ⟨rfl, unhide M2, (unhide OW).trans (unhide ON)⟩
set_option maxHeartbeats 2000000 in
theorem heldAboard_any (i0 : Int) (a : Option Addr) (l c : Nat) (z : List Lc) (k : Int) (w : World) (b u : Nat) (h : AbMk w b u a l c z k) (hz : LzB z) (hk0 : 1 ≤ k) (hk1 : k ≤ 1000000000) :
    Calls Try.prog 30 #[.agg #[.int .i64 i0, .slice a l c], .int .i64 k] w fun e w' => e = .returned (.int .i64 (kZ z k)) ∧ Below w.heap.size w w' := by
  obtain ⟨W, hW⟩ : ∃ W, W = w.alloc (Obj.cells #[.int .i64 i0, .slice a l c] 57) := ⟨_, rfl⟩
  have bW : Below w.heap.size w W := by rw [hW]; exact bel1 _
  obtain ⟨us, e, hu1, hl, hul, hdn⟩ := (h.below bW).ex
  have BW := hide bW
  have C : Hid (Calls Try.prog 69 #[.slice a l c, .int .i64 k] W fun e w' => e = .returned (.int .i64 (kZ z k)) ∧ Below W.heap.size W w') := hide (by
    rcases hu1.out.form with ⟨e0, e1⟩ | ⟨g, cap, e0, _⟩
    · simp only [Value.slice.injEq] at e0
      obtain ⟨rfl, rfl, rfl⟩ := e0
      refine (heldLoad18S_nil none 0 k W).mono ?_
      rintro e2 w' ⟨rfl, rfl⟩
      have hk := kX_map e k
      rw [hul] at hk
      refine ⟨by rw [← hk]; simp [kX, totX], Below.refl _ _⟩
    · simp only [Value.slice.injEq] at e0
      obtain ⟨rfl, _, rfl⟩ := e0
      refine (heldLoad18S_own b g l c us k W hu1 hul (by have := hz.1; have hl2 : z.length = us.length := (by rw [← e]; simp); omega) (lz_us e hz) hdn hk0 hk1).mono ?_
      rintro e2 w' ⟨rfl, b2⟩
      have hk := kX_map e k
      rw [hul] at hk
      exact ⟨by rw [hk], b2⟩)
  have nk : ¬ kZ z k < 0 := by have := kZ_bd hz k; omega
  have HW := hide hW
  clear h hu1 hl hul hdn hW bW
  go_enter Try.func30, Try.ntmps30
  go_wp2_with fail
  rw [← unhide HW]
  clear HW
  refine (unhide C).mono ?_
  rintro e w2 ⟨rfl, b2⟩
  have B2 := hide ((unhide BW).trans (b2.mono (unhide BW).size))
  clear b2 C
  go_wp2_with fail
  go_ret
  exact ⟨rfl, unhide B2⟩

end Go.Proofs.Ytlpomplldgmkmba

/-
  The drawing functions told exactly: a number below n, one of a list, a rising list. At every state of the cursor; only its own block and new ones are written.
-/
import Derived.Test.YtikhfacgoglcfaaTbCur
import Derived.Test.YtikhfacgoglcfaaDrRise
namespace Go.Proofs.Ytikhfacgoglcfaa
open Go.RowKit
attribute [local irreducible] byS

theorem DrX.grown {w : World} {C : Nat} {a : Option Addr} {len cap : Nat} {bs : Nat → Nat} {S : Nat × Nat} {W : World} (h : DrX w C a len cap bs S W) : C < W.heap.size := h.d.lt
theorem byS_lt (bs : Nat → Nat) (len : Nat) (S : Nat × Nat) : (byS bs len S).1 ≤ 255 := by
  by_cases h : S.1 < len
  · rw [byS_more bs h]
    show (outN (gnx S.2) + bs S.1) % 256 ≤ 255
    omega
  · rw [byS_end bs h]
    exact outN_lt _
set_option maxHeartbeats 1000000 in
theorem l1Below_x {w : World} {C : Nat} {a : Option Addr} {len cap : Nat} {bs : Nat → Nat} {S : Nat × Nat} (n : Nat) (W : World) (D : DrX w C a len cap bs S W) (hn : 1 ≤ n ∧ n ≤ 256) :
    Calls Try.prog 13 #[.pointer (some ⟨C, 0, none⟩), .int .i64 (n : Int)] W fun e w' => e = .returned (.int .i64 ((blG (byS bs len) n S).1 : Int)) ∧ DrX w C a len cap bs (blG (byS bs len) n S).2 w' ∧ W.grownBy w' (some C) := by
  have hn0 : ¬ (n : Int) ≤ 0 := by omega
  have hn1 : (n : Int) ≤ 256 := by omega
  have hn2 : (0 : Int) < (n : Int) := by omega
  have HD := hide D
  clear D
  go_enter Try.func13, Try.ntmps13
  go_wp2_with fail
  refine (l1Byte_x W (unhide HD)).mono ?_
  rintro e w1 ⟨rfl, d1, g1⟩
  have hx := byS_lt bs len S
  obtain ⟨x, hX⟩ : ∃ x, (byS bs len S).1 = x := ⟨_, rfl⟩
  have HX := hide hX
  rw [hX] at hx ⊢
  have D1 := hide d1
  have G1 := hide g1
  clear d1 g1 hX
  go_wp2_with fail
  go_ret
  have e1 : (blG (byS bs len) n S).1 = x % n := by unfold blG; rw [unhide HX]
  rw [e1]
  exact ⟨by simp, unhide D1, unhide G1⟩
theorem l1Below_x1 {w : World} {C : Nat} {a : Option Addr} {len cap : Nat} {bs : Nat → Nat} {S : Nat × Nat} {N : Int} (n : Nat) (W : World) (D : DrX w C a len cap bs S W) (hN : N = (n : Int)) (hn : 1 ≤ n ∧ n ≤ 256) :
    Calls Try.prog 13 #[.pointer (some ⟨C, 0, none⟩), .int .i64 N] W fun e w' => e = .returned (.int .i64 ((blG (byS bs len) n S).1 : Int)) ∧ DrX w C a len cap bs (blG (byS bs len) n S).2 w' ∧ W.grownBy w' (some C) := by
  subst hN
  exact l1Below_x n W D hn
set_option maxHeartbeats 1000000 in
theorem l1PickInt_x {w : World} {C : Nat} {a : Option Addr} {len cap : Nat} {bs : Nat → Nat} {S : Nat × Nat} (g n c : Nat) (zs : List Int) (W : World) (D : DrX w C a len cap bs S W) (hr : Row W (some ⟨g, 0, none⟩) n zs) (hg : g ≠ C) (hn : 1 ≤ n ∧ n ≤ 100) :
    Calls Try.prog 23 #[.pointer (some ⟨C, 0, none⟩), .slice (some ⟨g, 0, none⟩) n c] W fun e w' => e = .returned (.int .i64 (nth zs (blG (byS bs len) n S).1)) ∧ DrX w C a len cap bs (blG (byS bs len) n S).2 w' ∧ W.grownBy w' (some C) := by
  have HR := hide hr
  have HD := hide D
  clear hr D
  go_enter Try.func23, Try.ntmps23
  go_wp2_with fail
  refine (l1Below_x n W (unhide HD) (by omega)).mono ?_
  rintro e w1 ⟨rfl, d1, g1⟩
  have hil : (blG (byS bs len) n S).1 < n := bl_lt _ _ (by omega)
  obtain ⟨i, hi⟩ : ∃ i, (blG (byS bs len) n S).1 = i := ⟨_, rfl⟩
  rw [hi] at hil ⊢
  have hrow := (unhide HR).far1 g1 (by simp [hg])
  obtain ⟨b, off, ha, hcell⟩ := hrow.cells i hil
  simp only [Option.some.injEq, Addr.mk.injEq, and_true] at ha
  obtain ⟨rfl, rfl⟩ := ha
  have hcell : w1.cell? ⟨g, i, none⟩ = some (.int .i64 (nth zs i)) := by simpa using hcell
  have hi1 : (i : Int) < (n : Int) := by omega
  have D1 := hide d1
  have G1 := hide g1
  have HI := hide hi
  clear d1 g1 hrow hi
  go_wp2
  go_ret
  rw [unhide HI]
  exact ⟨rfl, unhide D1, unhide G1⟩

/-- A rising list told exactly. -/
def RiseX (w : World) (C : Nat) (a : Option Addr) (len cap : Nat) (bs : Nat → Nat) (W : World) (n st : Nat) (low : Int) (S : Nat × Nat) (e : Ending) (w' : World) : Prop :=
  ∃ (g c : Nat), e = .returned (.slice (some ⟨g, 0, none⟩) n c) ∧ OwnI w' W.heap.size (.slice (some ⟨g, 0, none⟩) n c) (riG (byS bs len) st n low S).1 ∧ DrX w C a len cap bs (riG (byS bs len) st n low S).2 w' ∧ Kp C W.heap.size W w'
theorem riG_len {σ : Type} (b : σ → Nat × σ) (st : Nat) : ∀ (k : Nat) (x : Int) (s : σ), (riG b st k x s).1.length = k
  | 0, _, _ => rfl
  | k + 1, x, s => by rw [riG_succ]; show (riG b st k _ _).1.length + 1 = k + 1; rw [riG_len b st k]
theorem ysG_len {σ : Type} (b : σ → Nat × σ) : ∀ (k : Nat) (s : σ), (ysG b k s).1.length = k
  | 0, _ => rfl
  | k + 1, s => by rw [ysG_succ]; show (ysG b k _).1.length + 1 = k + 1; rw [ysG_len b k]
/-- Where the loop stands: k places told, m still to come. -/
structure RiAt (b : Nat × Nat → Nat × (Nat × Nat)) (st n : Nat) (low : Int) (S0 : Nat × Nat) (k : Nat) (zs : List Int) (X : Int) (S : Nat × Nat) : Prop where
  le : k ≤ n
  len : zs.length = k
  rest : zs ++ (riG b st (n - k) X S).1 = (riG b st n low S0).1 ∧ (riG b st (n - k) X S).2 = (riG b st n low S0).2
  bd : low ≤ X ∧ X ≤ low + k * 300
theorem RiAt.next {b : Nat × Nat → Nat × (Nat × Nat)} {st n : Nat} {low : Int} {S0 : Nat × Nat} {k : Nat} {zs : List Int} {X : Int} {S : Nat × Nat} (h : RiAt b st n low S0 k zs X S) (hk : k < n) (hst : 0 < st ∧ st ≤ 256) :
    RiAt b st n low S0 (k + 1) (zs ++ [X]) (X + 1 + ((blG b st S).1 : Int)) (blG b st S).2 := by
  obtain ⟨r1, r2⟩ := h.rest
  have hl := bl_lt b S hst.1
  have hb := h.bd
  rw [show n - k = (n - (k + 1)) + 1 by omega, riG_succ] at r1 r2
  exact ⟨by omega, by rw [List.length_append, h.len]; rfl, ⟨by rw [List.append_assoc]; exact r1, r2⟩, by omega⟩
theorem RiAt.done {b : Nat × Nat → Nat × (Nat × Nat)} {st n : Nat} {low : Int} {S0 : Nat × Nat} {zs : List Int} {X : Int} {S : Nat × Nat} (h : RiAt b st n low S0 n zs X S) : zs = (riG b st n low S0).1 ∧ S = (riG b st n low S0).2 := by
  obtain ⟨r1, r2⟩ := h.rest
  rw [Nat.sub_self, riG_zero] at r1 r2
  exact ⟨by rw [← r1]; simp, r2⟩

set_option maxRecDepth 20000 in
set_option maxHeartbeats 3000000 in
theorem l1DrawRise_x {w : World} {C : Nat} {a : Option Addr} {len cap : Nat} {bs : Nat → Nat} {S : Nat × Nat} (n st : Nat) (low : Int) (W : World) (h : DrX w C a len cap bs S W) (hin : ∀ b off, a = some ⟨b, off, none⟩ → b < w.heap.size) (hn : n ≤ 100) (hst : 0 < st ∧ st ≤ 256) (hlow : -10000 ≤ low ∧ low ≤ 10000) :
    Calls Try.prog 22 #[.pointer (some ⟨C, 0, none⟩), .int .i64 (n : Int), .int .i64 low, .int .i64 (st : Int)] W fun e w' => RiseX w C a len cap bs W n st low S e w' := by
  obtain ⟨V, hV⟩ : ∃ V, V = W.alloc (Obj.cells #[] 3) := ⟨_, rfl⟩
  have bV : Below W.heap.size W V := by rw [hV]; exact bel1 _
  have DD : Hid (DrX w C a len cap bs S V) := hide (h.below bV)
  have OO : Hid (OwnI V W.heap.size (.slice (some ⟨W.heap.size, 0, none⟩) 0 0) []) := hide (by rw [hV]; exact ownI_none (Nat.le_refl _))
  have KK : Hid (Kp C W.heap.size W V) := hide (Kp.of_below bV (Nat.le_refl _))
  have hCW := h.d.lt
  have HIN := hide hin
  have HV := hide hV
  have R0 : Hid (RiAt (byS bs len) st n low S 0 [] low S) := hide ⟨Nat.zero_le _, rfl, ⟨rfl, rfl⟩, by omega⟩
  have HST := hide hst
  clear h hV bV hin hst
  go_enter Try.func22, Try.ntmps22
  go_wp2_with fail
  rw [← unhide HV]
  clear HV
  go_loopw [9, 10, 11] (fun o x i wr => ∃ (k g c : Nat) (zs : List Int) (X : Int) (T : Nat × Nat), o = .slice (some ⟨g, 0, none⟩) k c ∧ x = .int .i64 X ∧ i = .int .i64 (k : Int) ∧ k ≤ n ∧ Hid (RiAt (byS bs len) st n low S k zs X T) ∧ Hid (OwnI wr W.heap.size (.slice (some ⟨g, 0, none⟩) k c) zs) ∧ Hid (DrX w C a len cap bs T wr) ∧ Hid (Kp C W.heap.size W wr)) (fun _ _ i _ => n - (intOf i).toNat)
  case atStart => exact ⟨0, _, 0, [], low, S, rfl, rfl, rfl, Nat.zero_le _, R0, OO, DD, KK⟩
  case round =>
    clear R0 OO DD KK
    obtain ⟨k, g, c, zs, X, T, rfl, rfl, rfl, hk, RR, OO, DD, KK⟩ := hrel
    by_cases hlt : k < n
    · have hlt2 : (k : Int) < (n : Int) := by omega
      have bX : -20000 ≤ X ∧ X ≤ 200000 := by
        have h1 := (unhide RR).bd
        omega
      have HL : Hid (zs.length = k) := hide (unhide RR).len
      have sW : W.heap.size ≤ wr.heap.size := (unhide KK).size
      go_wp2_with (first
        | (at_builtin; refine wpList_app_int rfl _ _ rfl (n := k) X (unhide OO) (unhide HL) rfl rfl rfl sW (by omega) (by omega) ?_; intro g9 c9 w9 o9 gr9; have D9 : Hid (DrX w C a len cap bs T w9) := hide ((unhide DD).own gr9 (fun q hq => by have := ((unhide OO).lies q hq).1; omega) (unhide HIN)); have K9 : Hid (Kp C W.heap.size W w9) := hide ⟨gr9.os.trans (unhide KK).os, gr9.tape.trans (unhide KK).tape, gr9.output.trans (unhide KK).output, Nat.le_trans (unhide KK).size gr9.size, fun q hq hne => (gr9.block q (by omega) (fun e => by have := ((unhide OO).lies q e.symm).1; omega)).trans ((unhide KK).block q hq hne)⟩; have O9 := hide o9; clear o9 gr9))
      refine (l1Below_x st _ (unhide D9) (unhide HST)).mono ?_
      rintro e w2 ⟨rfl, d2, g2⟩
      have D2 := hide d2
      have O2 := hide ((unhide O9).far g2 (fun q hq e => by have := Option.some.inj e; have := ((unhide O9).lies q hq).1; omega))
      have K2 : Hid (Kp C W.heap.size W w2) := hide ((unhide K9).trans (Kp.of_row g2 (unhide K9).size))
      have R2 := hide ((unhide RR).next hlt (unhide HST))
      have hbl := bl_lt (byS bs len) T (unhide HST).1
      have hst2 := (unhide HST).2
      obtain ⟨y, hy⟩ : ∃ y, (blG (byS bs len) st T).1 = y := ⟨_, rfl⟩
      rw [hy] at R2 hbl ⊢
      have hy2 : (0 : Int) ≤ (y : Int) ∧ (y : Int) ≤ 256 := by omega
      clear d2 g2 RR OO DD KK D9 O9 K9 hy hbl hst2
      go_wp2_with fail
      go_roundw
      case rel => exact ⟨k + 1, g9, c9, zs ++ [X], X + 1 + (y : Int), (blG (byS bs len) st T).2, rfl, rfl, by go_num, by omega, R2, O2, D2, K2⟩
      case measure => simp [intOf]; omega
    · obtain rfl : k = n := by omega
      have hlt2 : ¬ (k : Int) < (k : Int) := by omega
      go_wp2_with fail
      go_ret
      obtain ⟨e1, e2⟩ := (unhide RR).done
      refine ⟨g, c, rfl, ?_, ?_, unhide KK⟩
      · rw [← e1]; exact unhide OO
      · rw [← e2]; exact unhide DD

end Go.Proofs.Ytikhfacgoglcfaa

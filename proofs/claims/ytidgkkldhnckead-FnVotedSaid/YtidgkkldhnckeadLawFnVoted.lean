/-
  The law FnVoted returns true at every list of bytes and writes nothing that was there: the walk. No condition.
-/
import Derived.Test.YtidgkkldhnckeadAtFun
import Derived.Test.YtidgkkldhnckeadVdFacts
import Derived.Test.YtidgkkldhnckeadVtVote
import Derived.Test.YtidgkkldhnckeadVtVotes
import Derived.Test.YtidgkkldhnckeadFreshIs
import Derived.Test.YtidgkkldhnckeadVoOk
import Derived.Test.YtidgkkldhnckeadVtTwo
namespace Go.Proofs.Ytidgkkldhnckead
open Go.RowKit

structure Vd (w U W : World) (h : Int) (a1 a2 : Option Addr) (c1 c2 : Nat) (bs : List Bool) (os : List Int) : Prop where
  p : Blk W U.heap.size [.int .i64 10, .int .i64 h, .slice a1 3 c1, .slice a2 3 c2]
  o : VoIn W a1 a2 3 3 bs os
  bel : Below w.heap.size w W
theorem Vd.below {w U W W' : World} {h : Int} {a1 a2 : Option Addr} {c1 c2 : Nat} {bs : List Bool} {os : List Int} (v : Vd w U W h a1 a2 c1 c2 bs os) (k : Below W.heap.size W W') : Vd w U W' h a1 a2 c1 c2 bs os :=
  ⟨v.p.below k, v.o.below k, v.bel.trans (k.mono v.bel.size)⟩
theorem vl3_at {α : Type} [Inhabited α] {L L1 L2 : Nat} (hL : L < 3) (h1 : L1 = (L + 1) % 3) (h2 : L2 = (L + 2) % 3) (u v w : α) : elAt (vl3 L u v w) L = u ∧ elAt (vl3 L u v w) L1 = v ∧ elAt (vl3 L u v w) L2 = w := by
  subst h1; subst h2
  rcases three_of hL with rfl | rfl | rfl <;> simp [vl3, elAt]
theorem three_at {W : World} {Q : Nat} {x : Int} (b : Blk W Q [.int .i64 x, .int .i64 x, .int .i64 x]) {i : Nat} (h : i < 3) : W.cell? ⟨Q, i, none⟩ = some (.int .i64 x) ∧ W.frozen? ⟨Q, i, none⟩ = false := by
  rcases three_of h with rfl | rfl | rfl
  · exact ⟨b.c 0 (by simp), b.f 0 (by simp)⟩
  · exact ⟨b.c 1 (by simp), b.f 1 (by simp)⟩
  · exact ⟨b.c 2 (by simp), b.f 2 (by simp)⟩
theorem row_three {W : World} {Q : Nat} {a b c : Int} (h : Blk W Q [.int .i64 a, .int .i64 b, .int .i64 c]) (ha : -5000 ≤ a ∧ a ≤ 5000) (hb : -5000 ≤ b ∧ b ≤ 5000) (hc : -5000 ≤ c ∧ c ≤ 5000) : Row W (some ⟨Q, 0, none⟩) 3 [a, b, c] := by
  refine ⟨rfl, by omega, fun i hi => ⟨Q, 0, rfl, ?_⟩, fun i => ?_⟩
  · rcases three_of hi with rfl | rfl | rfl
    · exact h.c 0 (by simp)
    · exact h.c 1 (by simp)
    · exact h.c 2 (by simp)
  · match i with
    | 0 => simp only [nth, List.getElem?_cons_zero, Option.getD_some]; omega
    | 1 => simp only [nth, List.getElem?_cons_succ, List.getElem?_cons_zero, Option.getD_some]; omega
    | 2 => simp only [nth, List.getElem?_cons_succ, List.getElem?_cons_zero, Option.getD_some]; omega
    | n + 3 => simp [nth]
/-- What the three lanes say, once two of them have been written. -/
theorem row_vl3 {W : World} {Q L L1 : Nat} {x p z : Int} (hL : L < 3) (h1 : L1 = (L + 1) % 3) (b : Blk W Q [.int .i64 x, .int .i64 x, .int .i64 x]) (hx : -1000 ≤ x ∧ x ≤ 1000) (hp : -1000 ≤ p ∧ p ≤ 1000) (hz : -5000 ≤ z ∧ z ≤ 5000) :
    Row ((W.setCell ⟨Q, L1, none⟩ (.int .i64 (x + p))).setCell ⟨Q, L, none⟩ (.int .i64 z)) (some ⟨Q, 0, none⟩) 3 (vl3 L z (x + p) x) := by
  subst h1
  rcases three_of hL with rfl | rfl | rfl
  · exact row_three (a := z) (b := x + p) (c := x) (by simpa using (b.set 1 (by simp) (.int .i64 (x + p))).set 0 (by simp) (.int .i64 z)) (by omega) (by omega) (by omega)
  · exact row_three (a := x) (b := z) (c := x + p) (by simpa using (b.set 2 (by simp) (.int .i64 (x + p))).set 1 (by simp) (.int .i64 z)) (by omega) (by omega) (by omega)
  · exact row_three (a := x + p) (b := x) (c := z) (by simpa using (b.set 0 (by simp) (.int .i64 (x + p))).set 2 (by simp) (.int .i64 z)) (by omega) (by omega) (by omega)
theorem row_vl3b {W : World} {Q L L1 : Nat} {x p y z : Int} (hL : L < 3) (h1 : L1 = (L + 1) % 3) (b : Blk W Q [.int .i64 x, .int .i64 x, .int .i64 x]) (hx : -1000 ≤ x ∧ x ≤ 1000) (hp : -1000 ≤ p ∧ p ≤ 1000) (hz : -5000 ≤ z ∧ z ≤ 5000) :
    Row (((W.setCell ⟨Q, L1, none⟩ (.int .i64 (x + p))).setCell ⟨Q, L, none⟩ (.int .i64 y)).setCell ⟨Q, L, none⟩ (.int .i64 z)) (some ⟨Q, 0, none⟩) 3 (vl3 L z (x + p) x) := by
  subst h1
  rcases three_of hL with rfl | rfl | rfl
  · exact row_three (a := z) (b := x + p) (c := x) (by simpa using ((b.set 1 (by simp) (.int .i64 (x + p))).set 0 (by simp) (.int .i64 y)).set 0 (by simp) (.int .i64 z)) (by omega) (by omega) (by omega)
  · exact row_three (a := x) (b := z) (c := x + p) (by simpa using ((b.set 2 (by simp) (.int .i64 (x + p))).set 1 (by simp) (.int .i64 y)).set 1 (by simp) (.int .i64 z)) (by omega) (by omega) (by omega)
  · exact row_three (a := x + p) (b := x) (c := z) (by simpa using ((b.set 0 (by simp) (.int .i64 (x + p))).set 2 (by simp) (.int .i64 y)).set 2 (by simp) (.int .i64 z)) (by omega) (by omega) (by omega)
/-- The voter told anew. -/
theorem Vd.next {w U W : World} {h : Int} {a1 a2 g1 g2 : Option Addr} {c1 c2 d1 d2 base : Nat} {bs bs' : List Bool} {os os' : List Int} (v : Vd w U W h a1 a2 c1 c2 bs os) (o : VoOwn W base g1 g2 3 d1 3 d2 bs' os') (hb : U.heap.size < base) (hU : w.heap.size ≤ U.heap.size) :
    Vd w U ((((W.setCell ⟨U.heap.size, 0, none⟩ (.int .i64 10)).setCell ⟨U.heap.size, 1, none⟩ (.int .i64 h)).setCell ⟨U.heap.size, 2, none⟩ (.slice g1 3 d1)).setCell ⟨U.heap.size, 3, none⟩ (.slice g2 3 d2)) h g1 g2 d1 d2 bs' os' := by
  have n1 : (Value.slice g1 3 d1).ownBlock ≠ some U.heap.size := fun e => by have := o.o1.lies _ e; omega
  have n2 : (Value.slice g2 3 d2).ownBlock ≠ some U.heap.size := fun e => by have := o.o2.lies _ e; omega
  refine ⟨?_, ((((o.set_other _ n1 n2).set_other _ n1 n2).set_other _ n1 n2).set_other _ n1 n2).read, (((v.bel.setCell (by simpa using hU) _).setCell (by simpa using hU) _).setCell (by simpa using hU) _).setCell (by simpa using hU) _⟩
  simpa using (((v.p.set 0 (by simp) (.int .i64 10)).set 1 (by simp) (.int .i64 h)).set 2 (by simp) (.slice g1 3 d1)).set 3 (by simp) (.slice g2 3 d2)
/-- The liar's value written into three that are the same. -/
theorem set_vl3 {L : Nat} (hL : L < 3) {u v : Value} : ([v, v, v] : List Value).set L u = vl3 L u v v := by
  rcases three_of hL with rfl | rfl | rfl <;> rfl
/-- What the three lanes say, once the liar's is written. -/
theorem row_one {W : World} {Q L : Nat} {x : Int} (hL : L < 3) (b : Blk W Q (vl3 L (.int .i64 (x + 1000)) (.int .i64 x) (.int .i64 x))) (hx : -1000 ≤ x ∧ x ≤ 1000) :
    Row W (some ⟨Q, 0, none⟩) 3 (vl3 L (x + 1000) x x) := by
  rcases three_of hL with rfl | rfl | rfl
  · exact row_three (a := x + 1000) (b := x) (c := x) (by simpa [vl3] using b) (by omega) (by omega) (by omega)
  · exact row_three (a := x) (b := x + 1000) (c := x) (by simpa [vl3] using b) (by omega) (by omega) (by omega)
  · exact row_three (a := x) (b := x) (c := x + 1000) (by simpa [vl3] using b) (by omega) (by omega) (by omega)
/-- The next lane's cell of such a block. -/
theorem one_at {W : World} {Q L L1 : Nat} {x y : Int} (hL : L < 3) (h1 : L1 = (L + 1) % 3) (b : Blk W Q (vl3 L (.int .i64 y) (.int .i64 x) (.int .i64 x))) : W.cell? ⟨Q, L1, none⟩ = some (.int .i64 x) ∧ W.frozen? ⟨Q, L1, none⟩ = false := by
  subst h1
  rcases three_of hL with rfl | rfl | rfl
  · exact ⟨b.c 1 (by simp [vl3]), b.f 1 (by simp [vl3])⟩
  · exact ⟨b.c 2 (by simp [vl3]), b.f 2 (by simp [vl3])⟩
  · exact ⟨b.c 0 (by simp [vl3]), b.f 0 (by simp [vl3])⟩
/-- And what it says when that lane's is written too. -/
theorem row_two {W : World} {Q L L1 : Nat} {x : Int} (hL : L < 3) (h1 : L1 = (L + 1) % 3) (b : Blk W Q (vl3 L (.int .i64 (x + 1000)) (.int .i64 x) (.int .i64 x))) (hx : -1000 ≤ x ∧ x ≤ 1000) :
    Row (W.setCell ⟨Q, L1, none⟩ (.int .i64 (x + 11))) (some ⟨Q, 0, none⟩) 3 (vl3 L (x + 1000) (x + 11) x) := by
  subst h1
  rcases three_of hL with rfl | rfl | rfl
  · exact row_three (a := x + 1000) (b := x + 11) (c := x) (by simpa [vl3] using b.set 1 (by simp [vl3]) (.int .i64 (x + 11))) (by omega) (by omega) (by omega)
  · exact row_three (a := x) (b := x + 1000) (c := x + 11) (by simpa [vl3] using b.set 2 (by simp [vl3]) (.int .i64 (x + 11))) (by omega) (by omega) (by omega)
  · exact row_three (a := x + 11) (b := x) (c := x + 1000) (by simpa [vl3] using b.set 0 (by simp [vl3]) (.int .i64 (x + 11))) (by omega) (by omega) (by omega)

/-- One row of three values. -/
theorem rowS_one {W : World} {M : Nat} {x : Int} (hM : W.heap.size = M) (hx : -1000 ≤ x ∧ x ≤ 1000) : RowS ((W.alloc (Obj.cells #[.int .i64 x, .int .i64 x, .int .i64 x] 3)).alloc (Obj.cells #[.slice (some ⟨M, 0, none⟩) 3 3] 26)) (some ⟨M + 1, 0, none⟩) 1 [[x, x, x]] := by
  subst hM
  have b0 := blkAt2_0 (w := W) (v1 := [.int .i64 x, .int .i64 x, .int .i64 x]) (v2 := [.slice (some ⟨W.heap.size, 0, none⟩) 3 3]) (T1 := 3) (T2 := 26)
  have b1 := blkAt2_1 (w := W) (v1 := [.int .i64 x, .int .i64 x, .int .i64 x]) (v2 := [.slice (some ⟨W.heap.size, 0, none⟩) 3 3]) (T1 := 3) (T2 := 26)
  refine ⟨rfl, by omega, fun i hi => ?_⟩
  obtain rfl : i = 0 := by omega
  exact ⟨W.heap.size + 1, 0, some ⟨W.heap.size, 0, none⟩, 3, 3, rfl, b1.c 0 (by simp), row_three b0 (by omega) (by omega) (by omega), by omega⟩

set_option maxRecDepth 20000 in
set_option maxHeartbeats 1000000 in
theorem lawFnVoted_big (a : Option Addr) (len cap : Nat) (w : World) (h : (1048576 : Int) < len) :
    Calls Try.prog 3 #[.slice a len cap] w fun e w' => e = .returned (.bool true) ∧ Below w.heap.size w w' := by
  have hd : decide ((1048576 : Int) < len) = true := by simpa using h
  go_enter Try.func3, Try.ntmps3
  go_wp2_with fail
  refine (big_any a len cap _).mono ?_
  rintro e w' ⟨rfl, hw⟩
  subst w'
  rw [hd]
  go_wp2
  go_ret
  exact ⟨rfl, Below.refl _ _⟩

set_option maxRecDepth 20000 in
set_option maxHeartbeats 8000000 in
theorem lawFnVoted_small (a : Option Addr) (len cap : Nat) (w : World) (h9 : ¬ (1048576 : Int) < len) (hb : Bytes w a len) (_hin : ∀ b off, a = some ⟨b, off, none⟩ → b < w.heap.size) :
    Calls Try.prog 3 #[.slice a len cap] w fun e w' => e = .returned (.bool true) ∧ Below w.heap.size w w' := by
  have hd0 : decide ((1048576 : Int) < len) = false := by simpa using h9
  obtain ⟨f, hf, hat⟩ := at_fun a len cap w hb (by omega)
  have HAT := hide hat
  have HF := hide hf
  have g0 := hf 0
  have g1 := hf 1
  have g2 := hf 2
  have g3 := hf 3
  obtain ⟨h, hh⟩ : ∃ h, 1 + (f 0).tmod 5 = h := ⟨_, rfl⟩
  have hhe : 1 + f 0 % 5 = h := by rw [← hh, Int.tmod_eq_emod_of_nonneg (by omega)]
  have bh : 1 ≤ h ∧ h ≤ 5 := by omega
  obtain ⟨x, hx⟩ : ∃ x, f 1 - 128 = x := ⟨_, rfl⟩
  have bx : -128 ≤ x ∧ x ≤ 127 := by omega
  obtain ⟨L, hL⟩ : ∃ L : Nat, (f 2).tmod 3 = (L : Int) := ⟨((f 2).tmod 3).toNat, by rw [Int.tmod_eq_emod_of_nonneg (by omega)]; omega⟩
  have hLe : f 2 % 3 = (L : Int) := by rw [← hL, Int.tmod_eq_emod_of_nonneg (by omega)]
  have bL : L < 3 := by omega
  obtain ⟨L1, hL1⟩ : ∃ L1 : Nat, L1 = (L + 1) % 3 := ⟨_, rfl⟩
  obtain ⟨L2, hL2⟩ : ∃ L2 : Nat, L2 = (L + 2) % 3 := ⟨_, rfl⟩
  have eL1 : ((L : Int) + 1) % 3 = (L1 : Int) := by omega
  have eL1t : ((L : Int) + 1).tmod 3 = (L1 : Int) := by rw [Int.tmod_eq_emod_of_nonneg (by omega)]; exact eL1
  have eL2 : ((L : Int) + 2) % 3 = (L2 : Int) := by omega
  have eL2t : ((L : Int) + 2).tmod 3 = (L2 : Int) := by rw [Int.tmod_eq_emod_of_nonneg (by omega)]; exact eL2
  have bL1 : L1 < 3 := by omega
  have bL2 : L2 < 3 := by omega
  have iL : (L : Int) < 3 := by omega
  have iL1 : (L1 : Int) < 3 := by omega
  have iL2 : (L2 : Int) < 3 := by omega
  have jL : (0 : Int) ≤ (L : Int) := by omega
  have jL1 : (0 : Int) ≤ (L1 : Int) := by omega
  have jL2 : (0 : Int) ≤ (L2 : Int) := by omega
  have HL1 := hide hL1
  have HL2 := hide hL2
  have HLL := hide bL
  have nL1 : ¬ L = L1 := by omega
  have nL2 : ¬ L1 = L := by omega
  have HNE := hide nL1
  have fo : freOk 3 10 h = true := by unfold freOk; rw [in_y (by omega), in_y (by omega), in_y (by omega)]; rfl
  have HFR : Hid (freN 3 10 h = 10 ∧ freH 3 10 h = h ∧ freB 3 10 h = vl3 L false false false ∧ freO 3 10 h = vl3 L 0 0 0) := hide (by
    unfold freN freH freB freO
    rw [if_pos fo, if_pos fo, if_pos fo, if_pos fo]
    refine ⟨rfl, rfl, ?_, ?_⟩
    · rcases three_of bL with rfl | rfl | rfl <;> rfl
    · rcases three_of bL with rfl | rfl | rfl <;> rfl)
  have HFO := hide fo
  clear hat hf hb h9 fo hL1 hL2
  go_enter Try.func3, Try.ntmps3
  go_wp2_with fail
  refine (big_any a len cap _).mono ?_
  rintro e w' ⟨rfl, hw⟩
  subst w'
  rw [hd0]
  go_wp2_with fail
  refine ((unhide HAT) 0 _ rfl (by omega) _ (Below.refl _ _)).mono ?_
  rintro e w' ⟨rfl, hw⟩
  subst w'
  go_wp2_with fail
  refine (implFresh_any 3 10 h _).mono ?_
  rintro e U ⟨a1, c1, a2, c2, rfl, vo, bU⟩
  rw [(unhide HFR).1, (unhide HFR).2.1, (unhide HFR).2.2.1, (unhide HFR).2.2.2, unhide HFO, vl3_len, vl3_len]
  rw [(unhide HFR).2.2.1, (unhide HFR).2.2.2, vl3_len, vl3_len] at vo
  have V0 : Hid (Vd w U (U.alloc (Obj.cells #[.int .i64 10, .int .i64 h, .slice a1 3 c1, .slice a2 3 c2] 28)) h a1 a2 c1 c2 (vl3 L false false false) (vl3 L 0 0 0)) := hide ⟨Blk.new _ _, vo.read.below (bel1 _), bU.trans ((bel1 _).mono bU.size)⟩
  have HWU : Hid (w.heap.size ≤ U.heap.size) := hide bU.size
  clear vo bU HFR HFO
  go_wp2_with fail
  refine (implVoterOk_any _ _ _ _ _ _ _ _ _ _ _ (unhide V0).o).mono ?_
  rintro e w1 ⟨rfl, b1⟩
  rw [vd_ok bh (by omega) (by omega) (by omega)]
  have V1 := hide ((unhide V0).below b1)
  clear b1 V0
  have q0 : w1.cell? ⟨U.heap.size, 0, none⟩ = some (.int .i64 10) := (unhide V1).p.c 0 (by simp)
  have q1 : w1.cell? ⟨U.heap.size, 1, none⟩ = some (.int .i64 h) := (unhide V1).p.c 1 (by simp)
  have q2 : w1.cell? ⟨U.heap.size, 2, none⟩ = some (.slice a1 3 c1) := (unhide V1).p.c 2 (by simp)
  have q3 : w1.cell? ⟨U.heap.size, 3, none⟩ = some (.slice a2 3 c2) := (unhide V1).p.c 3 (by simp)
  go_wp2_with fail
  refine ((unhide HAT) 1 _ rfl (by omega) _ (unhide V1).bel).mono ?_
  rintro e w' ⟨rfl, hw⟩
  subst w'
  go_wp2_with fail
  refine ((unhide HAT) 2 _ rfl (by omega) _ (unhide V1).bel).mono ?_
  rintro e w' ⟨rfl, hw⟩
  subst w'
  go_wp2_with fail
  clear q0 q1 q2 q3
  obtain ⟨H, hH⟩ : ∃ H : Nat, h = (H : Int) := ⟨h.toNat, by omega⟩
  have HH := hide hH
  clear hH
  go_loopw [8] (fun i wr => ∃ (r : Nat) (a1 a2 : Option Addr) (c1 c2 : Nat), r ≤ H ∧ i = .int .i64 (r : Int) ∧ Hid (Vd w U wr h a1 a2 c1 c2 (vl3 L ((r : Int) == h) false false) (vl3 L (r : Int) 0 0))) (fun i _ => H - (intOf i).toNat)
  case atStart => exact ⟨0, a1, a2, c1, c2, Nat.zero_le _, rfl, by rw [show (((0 : Nat) : Int) == h) = false by simp; omega]; exact V1⟩
  case round =>
    clear V1
    obtain ⟨r, a1, a2, c1, c2, hr, rfl, VR⟩ := hrel
    by_cases hlt : r < H
    · have hlt2 : (r : Int) < h := by have := unhide HH; omega
      rw [show ((r : Int) == h) = false by simp; omega] at VR
      have b4 := (unhide HF) (r + 4)
      have b10 := (unhide HF) (r + 10)
      obtain ⟨P, hP⟩ : ∃ P, (f (r + 4)).tmod 6 = P := ⟨_, rfl⟩
      have hPe : f (r + 4) % 6 = P := by rw [← hP, Int.tmod_eq_emod_of_nonneg (by omega)]
      have bP : 0 ≤ P ∧ P ≤ 5 := by omega
      obtain ⟨F, hF⟩ : ∃ F, f (r + 10) = F := ⟨_, rfl⟩
      rw [hF] at b10
      obtain ⟨E, hE⟩ : ∃ E, (f 3).tmod 2 = E := ⟨_, rfl⟩
      have hEe : f 3 % 2 = E := by rw [← hE, Int.tmod_eq_emod_of_nonneg (by omega)]
      have bE : E = 0 ∨ E = 1 := by omega
      obtain ⟨V1, hV1⟩ : ∃ V, V = (wr.alloc (Obj.cells #[.int .i64 x, .int .i64 x, .int .i64 x] 3)) := ⟨_, rfl⟩
      have bV : Below wr.heap.size wr V1 := by rw [hV1]; exact bel1 _
      have BQ0 : Hid (Blk V1 wr.heap.size [.int .i64 x, .int .i64 x, .int .i64 x]) := hide (by rw [hV1]; exact Blk.new _ _)
      obtain ⟨Q, hQ⟩ : ∃ Q, wr.heap.size = Q := ⟨_, rfl⟩
      have hUQ : U.heap.size < Q := by rw [← hQ]; exact (unhide VR).p.lt
      rw [hQ] at BQ0
      have BV := hide bV
      have HQ := hide hQ
      have nQ1 : ¬ Q = U.heap.size := by omega
      have nQ2 : ¬ U.heap.size = Q := by omega
      have k1 := three_at (unhide BQ0) (unhide HLL)
      have k2 := three_at (unhide BQ0) (i := L1) (by omega)
      have t1 := k1.1
      have t2 := k1.2
      have t3 := k2.1
      have t4 := k2.2
      have VV := hide ((unhide VR).below bV)
      have HV1 := hide hV1
      have sB : ∀ (i : Nat) (v : Value) (W : World), Below wr.heap.size wr W → Below wr.heap.size wr (W.setCell ⟨Q, i, none⟩ v) := fun i v W hb => hb.setCell (by simp; omega) v
      have HSB := hide sB
      have HWB : Hid (∀ W, Below wr.heap.size wr W → Below w.heap.size w W) := hide (fun W hb => (unhide VR).bel.trans (hb.mono (unhide VR).bel.size))
      clear bV hV1 hQ k1 k2 sB
      have q0 : V1.cell? ⟨U.heap.size, 0, none⟩ = some (.int .i64 10) := (unhide VV).p.c 0 (by simp)
      have q1 : V1.cell? ⟨U.heap.size, 1, none⟩ = some (.int .i64 h) := (unhide VV).p.c 1 (by simp)
      have q2 : V1.cell? ⟨U.heap.size, 2, none⟩ = some (.slice a1 3 c1) := (unhide VV).p.c 2 (by simp)
      have q3 : V1.cell? ⟨U.heap.size, 3, none⟩ = some (.slice a2 3 c2) := (unhide VV).p.c 3 (by simp)
      go_wp2_with fail
      rw [← unhide HV1, unhide HQ]
      refine ((unhide HAT) (r + 4) _ (by omega) (by omega) _ ((unhide HWB) _ (unhide BV))).mono ?_
      rintro e w' ⟨rfl, hw⟩
      subst w'
      go_wp2_with fail
      refine ((unhide HAT) (r + 10) _ (by omega) (by omega) _ ((unhide HWB) _ ((unhide HSB) _ _ _ (unhide BV)))).mono ?_
      rintro e w' ⟨rfl, hw⟩
      subst w'
      rw [hF]
      go_wp2_with fail
      refine ((unhide HAT) 3 _ rfl (by omega) _ ((unhide HWB) _ ((unhide HSB) _ _ _ ((unhide HSB) _ _ _ (unhide BV))))).mono ?_
      rintro e w' ⟨rfl, hw⟩
      subst w'
      rcases bE with rfl | rfl
      · have RD := hide (vd_round (unhide HLL) (h := h) (r := (r : Int)) (x := x) (p := P) (z := x - 100 - F) bh (by omega) (by omega) bP (by omega))
        go_wp2_with fail
        refine ((unhide HAT) (r + 10) _ (by omega) (by omega) _ ((unhide HWB) _ ((unhide HSB) _ _ _ ((unhide HSB) _ _ _ (unhide BV))))).mono ?_
        rintro e w' ⟨rfl, hw⟩
        subst w'
        rw [hF]
        go_wp2_with fail
        refine (implVote_any _ _ _ _ _ _ _ _ _ _ _ _ _ (vl3 L (x - 100 - F) (x + P) x) _ ((unhide VR).below ((unhide HSB) L (.int .i64 (x - 100 - F)) _ ((unhide HSB) L (.int .i64 (x + 100 + F)) _ ((unhide HSB) L1 (.int .i64 (x + P)) _ (unhide BV))))).o (row_vl3b (unhide HLL) (unhide HL1) (unhide BQ0) (by omega) (by omega) (by omega)) (by omega) (by omega)).mono ?_
        rintro e w5 ⟨g1, d1, g2, d2, rfl, vo, b6⟩
        rw [(unhide RD).code, (unhide RD).val, (unhide RD).out, (unhide RD).odd, vl3_len, vl3_len]
        rw [(unhide RD).out, (unhide RD).odd, vl3_len, vl3_len] at vo
        obtain ⟨mv, hmv⟩ : ∃ mv, vdM x P ((x - 100 - F)) = mv := ⟨_, rfl⟩
        have bmv : x ≤ mv ∧ mv ≤ x + 5 := by rw [← hmv]; unfold vdM; split <;> omega
        rw [hmv]
        have V5 : Hid (Vd w U w5 h a1 a2 c1 c2 (vl3 L false false false) (vl3 L (r : Int) 0 0)) := hide (((unhide VR).below ((unhide HSB) L (.int .i64 (x - 100 - F)) _ ((unhide HSB) L (.int .i64 (x + 100 + F)) _ ((unhide HSB) L1 (.int .i64 (x + P)) _ (unhide BV))))).below b6)
        have VO := hide vo
        have HB : Hid (U.heap.size < (((V1.setCell ⟨Q, L1, none⟩ (.int .i64 (x + P))).setCell ⟨Q, L, none⟩ (.int .i64 (x + 100 + F))).setCell ⟨Q, L, none⟩ (.int .i64 (x - 100 - F))).heap.size) := hide (((unhide VR).below ((unhide HSB) L (.int .i64 (x - 100 - F)) _ ((unhide HSB) L (.int .i64 (x + 100 + F)) _ ((unhide HSB) L1 (.int .i64 (x + P)) _ (unhide BV))))).p.lt)
        clear vo b6 hmv RD
        obtain ⟨W6, hW6⟩ : ∃ W6, W6 = w5.alloc (Obj.cells #[.int .i64 10, .int .i64 h, .slice g1 3 d1, .slice g2 3 d2] 28) := ⟨_, rfl⟩
        have b66 : Below w5.heap.size w5 W6 := by rw [hW6]; exact bel1 _
        have V6 := hide ((unhide V5).below b66)
        have O6 := hide ((unhide VO).below b66)
        have N6 : Hid (Blk W6 w5.heap.size [.int .i64 10, .int .i64 h, .slice g1 3 d1, .slice g2 3 d2]) := hide (by rw [hW6]; exact Blk.new _ _)
        have HW6 := hide hW6
        clear b66 hW6 V5 VO VR
        have nm1 : ¬ mv < x := by omega
        have nm2 : ¬ x + 6 < mv := by omega
        go_wp2_with fail
        rw [← unhide HW6]
        refine (implVoterOk_any _ _ _ _ _ _ _ _ _ _ _ (unhide O6).read).mono ?_
        rintro e w7 ⟨rfl, b7⟩
        rw [vd_ok bh (by omega) (by omega) (by omega)]
        obtain ⟨NB, hNB⟩ : ∃ NB, w5.heap.size = NB := ⟨_, rfl⟩
        rw [hNB] at N6 ⊢
        have V7 := hide ((unhide V6).below b7)
        have O7 := hide ((unhide O6).below b7)
        have N7 := hide ((unhide N6).below b7)
        clear b7 V6 O6 N6 HW6 hNB nm1 nm2
        rcases (unhide O7).read.r1.open1 with ⟨h0, _⟩ | ⟨bb, oo, rfl, _, hcc⟩
        · omega
        have ea := vl3_at (unhide HLL) (unhide HL1) (unhide HL2) ((r : Int) + 1 == h) false false
        have s0 : w7.cell? ⟨bb, oo + L, none⟩ = some (.bool ((r : Int) + 1 == h)) := by have h := hcc L (unhide HLL); rw [ea.1] at h; exact h
        have s1 : w7.cell? ⟨bb, oo + L1, none⟩ = some (.bool false) := by have h := hcc L1 (by omega); rw [ea.2.1] at h; exact h
        have s2 : w7.cell? ⟨bb, oo + L2, none⟩ = some (.bool false) := by have h := hcc L2 (by omega); rw [ea.2.2] at h; exact h
        have m0 : w7.cell? ⟨NB, 0, none⟩ = some (.int .i64 10) := (unhide N7).c 0 (by simp)
        have m1 : w7.cell? ⟨NB, 1, none⟩ = some (.int .i64 h) := (unhide N7).c 1 (by simp)
        have m2 : w7.cell? ⟨NB, 2, none⟩ = some (.slice (some ⟨bb, oo, none⟩) 3 d1) := (unhide N7).c 2 (by simp)
        have m3 : w7.cell? ⟨NB, 3, none⟩ = some (.slice g2 3 d2) := (unhide N7).c 3 (by simp)
        have p0 : w7.cell? ⟨U.heap.size, 0, none⟩ = some (.int .i64 10) := (unhide V7).p.c 0 (by simp)
        have p1 : w7.cell? ⟨U.heap.size, 1, none⟩ = some (.int .i64 h) := (unhide V7).p.c 1 (by simp)
        have p2 : w7.cell? ⟨U.heap.size, 2, none⟩ = some (.slice a1 3 c1) := (unhide V7).p.c 2 (by simp)
        have p3 : w7.cell? ⟨U.heap.size, 3, none⟩ = some (.slice a2 3 c2) := (unhide V7).p.c 3 (by simp)
        have z0 : w7.frozen? ⟨U.heap.size, 0, none⟩ = false := (unhide V7).p.f 0 (by simp)
        have z1 : w7.frozen? ⟨U.heap.size, 1, none⟩ = false := (unhide V7).p.f 1 (by simp)
        have z2 : w7.frozen? ⟨U.heap.size, 2, none⟩ = false := (unhide V7).p.f 2 (by simp)
        have z3 : w7.frozen? ⟨U.heap.size, 3, none⟩ = false := (unhide V7).p.f 3 (by simp)
        have V8 := hide ((unhide V7).next (unhide O7) (unhide HB) (unhide HWU))
        clear hcc ea O7 N7 V7 HB
        have hcase : ((r : Int) + 1 == h) = ((r : Int) == h - 1) := by
          exact Bool.eq_iff_iff.2 (by simp only [beq_iff_eq]; omega)
        have e9 : ((((r : Int) == h - 1)) != ((r : Int) == h - 1)) = false := by simp
        rw [hcase] at s0
        go_wp2_with fail
        go_roundw
        case rel => exact ⟨r + 1, _, _, _, _, by omega, by go_num, by rw [show ((r + 1 : Nat) : Int) = (r : Int) + 1 by omega]; exact V8⟩
        case measure => simp [intOf]; omega
      · have RD := hide (vd_round (unhide HLL) (h := h) (r := (r : Int)) (x := x) (p := P) (z := x + 100 + F) bh (by omega) (by omega) bP (by omega))
        go_wp2_with fail
        refine (implVote_any _ _ _ _ _ _ _ _ _ _ _ _ _ (vl3 L (x + 100 + F) (x + P) x) _ ((unhide VR).below ((unhide HSB) L (.int .i64 (x + 100 + F)) _ ((unhide HSB) L1 (.int .i64 (x + P)) _ (unhide BV)))).o (row_vl3 (unhide HLL) (unhide HL1) (unhide BQ0) (by omega) (by omega) (by omega)) (by omega) (by omega)).mono ?_
        rintro e w5 ⟨g1, d1, g2, d2, rfl, vo, b6⟩
        rw [(unhide RD).code, (unhide RD).val, (unhide RD).out, (unhide RD).odd, vl3_len, vl3_len]
        rw [(unhide RD).out, (unhide RD).odd, vl3_len, vl3_len] at vo
        obtain ⟨mv, hmv⟩ : ∃ mv, vdM x P ((x + 100 + F)) = mv := ⟨_, rfl⟩
        have bmv : x ≤ mv ∧ mv ≤ x + 5 := by rw [← hmv]; unfold vdM; split <;> omega
        rw [hmv]
        have V5 : Hid (Vd w U w5 h a1 a2 c1 c2 (vl3 L false false false) (vl3 L (r : Int) 0 0)) := hide (((unhide VR).below ((unhide HSB) L (.int .i64 (x + 100 + F)) _ ((unhide HSB) L1 (.int .i64 (x + P)) _ (unhide BV)))).below b6)
        have VO := hide vo
        have HB : Hid (U.heap.size < ((V1.setCell ⟨Q, L1, none⟩ (.int .i64 (x + P))).setCell ⟨Q, L, none⟩ (.int .i64 (x + 100 + F))).heap.size) := hide (((unhide VR).below ((unhide HSB) L (.int .i64 (x + 100 + F)) _ ((unhide HSB) L1 (.int .i64 (x + P)) _ (unhide BV)))).p.lt)
        clear vo b6 hmv RD
        obtain ⟨W6, hW6⟩ : ∃ W6, W6 = w5.alloc (Obj.cells #[.int .i64 10, .int .i64 h, .slice g1 3 d1, .slice g2 3 d2] 28) := ⟨_, rfl⟩
        have b66 : Below w5.heap.size w5 W6 := by rw [hW6]; exact bel1 _
        have V6 := hide ((unhide V5).below b66)
        have O6 := hide ((unhide VO).below b66)
        have N6 : Hid (Blk W6 w5.heap.size [.int .i64 10, .int .i64 h, .slice g1 3 d1, .slice g2 3 d2]) := hide (by rw [hW6]; exact Blk.new _ _)
        have HW6 := hide hW6
        clear b66 hW6 V5 VO VR
        have nm1 : ¬ mv < x := by omega
        have nm2 : ¬ x + 6 < mv := by omega
        go_wp2_with fail
        rw [← unhide HW6]
        refine (implVoterOk_any _ _ _ _ _ _ _ _ _ _ _ (unhide O6).read).mono ?_
        rintro e w7 ⟨rfl, b7⟩
        rw [vd_ok bh (by omega) (by omega) (by omega)]
        obtain ⟨NB, hNB⟩ : ∃ NB, w5.heap.size = NB := ⟨_, rfl⟩
        rw [hNB] at N6 ⊢
        have V7 := hide ((unhide V6).below b7)
        have O7 := hide ((unhide O6).below b7)
        have N7 := hide ((unhide N6).below b7)
        clear b7 V6 O6 N6 HW6 hNB nm1 nm2
        rcases (unhide O7).read.r1.open1 with ⟨h0, _⟩ | ⟨bb, oo, rfl, _, hcc⟩
        · omega
        have ea := vl3_at (unhide HLL) (unhide HL1) (unhide HL2) ((r : Int) + 1 == h) false false
        have s0 : w7.cell? ⟨bb, oo + L, none⟩ = some (.bool ((r : Int) + 1 == h)) := by have h := hcc L (unhide HLL); rw [ea.1] at h; exact h
        have s1 : w7.cell? ⟨bb, oo + L1, none⟩ = some (.bool false) := by have h := hcc L1 (by omega); rw [ea.2.1] at h; exact h
        have s2 : w7.cell? ⟨bb, oo + L2, none⟩ = some (.bool false) := by have h := hcc L2 (by omega); rw [ea.2.2] at h; exact h
        have m0 : w7.cell? ⟨NB, 0, none⟩ = some (.int .i64 10) := (unhide N7).c 0 (by simp)
        have m1 : w7.cell? ⟨NB, 1, none⟩ = some (.int .i64 h) := (unhide N7).c 1 (by simp)
        have m2 : w7.cell? ⟨NB, 2, none⟩ = some (.slice (some ⟨bb, oo, none⟩) 3 d1) := (unhide N7).c 2 (by simp)
        have m3 : w7.cell? ⟨NB, 3, none⟩ = some (.slice g2 3 d2) := (unhide N7).c 3 (by simp)
        have p0 : w7.cell? ⟨U.heap.size, 0, none⟩ = some (.int .i64 10) := (unhide V7).p.c 0 (by simp)
        have p1 : w7.cell? ⟨U.heap.size, 1, none⟩ = some (.int .i64 h) := (unhide V7).p.c 1 (by simp)
        have p2 : w7.cell? ⟨U.heap.size, 2, none⟩ = some (.slice a1 3 c1) := (unhide V7).p.c 2 (by simp)
        have p3 : w7.cell? ⟨U.heap.size, 3, none⟩ = some (.slice a2 3 c2) := (unhide V7).p.c 3 (by simp)
        have z0 : w7.frozen? ⟨U.heap.size, 0, none⟩ = false := (unhide V7).p.f 0 (by simp)
        have z1 : w7.frozen? ⟨U.heap.size, 1, none⟩ = false := (unhide V7).p.f 1 (by simp)
        have z2 : w7.frozen? ⟨U.heap.size, 2, none⟩ = false := (unhide V7).p.f 2 (by simp)
        have z3 : w7.frozen? ⟨U.heap.size, 3, none⟩ = false := (unhide V7).p.f 3 (by simp)
        have V8 := hide ((unhide V7).next (unhide O7) (unhide HB) (unhide HWU))
        clear hcc ea O7 N7 V7 HB
        have hcase : ((r : Int) + 1 == h) = ((r : Int) == h - 1) := by
          exact Bool.eq_iff_iff.2 (by simp only [beq_iff_eq]; omega)
        have e9 : ((((r : Int) == h - 1)) != ((r : Int) == h - 1)) = false := by simp
        rw [hcase] at s0
        go_wp2_with fail
        go_roundw
        case rel => exact ⟨r + 1, _, _, _, _, by omega, by go_num, by rw [show ((r + 1 : Nat) : Int) = (r : Int) + 1 by omega]; exact V8⟩
        case measure => simp [intOf]; omega
    · have hrH : (r : Int) = h := by have := unhide HH; omega
      have nlt : ¬ (r : Int) < h := by omega
      rw [show ((r : Int) == h) = true by simp; omega, hrH] at VR
      clear hrH
      have hUQ : U.heap.size < wr.heap.size := (unhide VR).p.lt
      have nQ1 : ¬ wr.heap.size = U.heap.size := by omega
      have nQ2 : ¬ U.heap.size = wr.heap.size := by omega
      have q0 : wr.cell? ⟨U.heap.size, 0, none⟩ = some (.int .i64 10) := (unhide VR).p.c 0 (by simp)
      have q1 : wr.cell? ⟨U.heap.size, 1, none⟩ = some (.int .i64 h) := (unhide VR).p.c 1 (by simp)
      have q2 : wr.cell? ⟨U.heap.size, 2, none⟩ = some (.slice a1 3 c1) := (unhide VR).p.c 2 (by simp)
      have q3 : wr.cell? ⟨U.heap.size, 3, none⟩ = some (.slice a2 3 c2) := (unhide VR).p.c 3 (by simp)
      have ED := hide (vd_end (unhide HLL) (h := h) (x := x) bh (by omega))
      go_wp2_with fail
      obtain ⟨V1, hV1⟩ : ∃ V, V = (wr.alloc (Obj.cells (([.int .i64 x, .int .i64 x, .int .i64 x] : List Value).set L (.int .i64 (x + 1000))).toArray 3)) := ⟨_, rfl⟩
      have bV : Below wr.heap.size wr V1 := by rw [hV1]; exact bel1 _
      have BS : Hid (Blk V1 wr.heap.size (vl3 L (.int .i64 (x + 1000)) (.int .i64 x) (.int .i64 x))) := hide (by rw [hV1, ← set_vl3 (unhide HLL)]; exact Blk.new _ _)
      rw [← hV1]
      obtain ⟨Q, hQ⟩ : ∃ Q, wr.heap.size = Q := ⟨_, rfl⟩
      rw [hQ] at BS ⊢
      have VS := hide ((unhide VR).below bV)
      have BV := hide bV
      have RW : Hid (Row V1 (some ⟨Q, 0, none⟩) 3 (vl3 L (x + 1000) x x)) := hide (row_one (unhide HLL) (unhide BS) (by omega))
      have HQ := hide hQ
      rw [hQ] at hUQ nQ1 nQ2
      clear bV hV1 hQ q0 q1 q2 q3
      refine (implVote_any _ _ _ _ _ _ _ _ _ _ _ _ _ (vl3 L (x + 1000) x x) _ (unhide VS).o (unhide RW) (by omega) (by omega)).mono ?_
      rintro e w5 ⟨g1, d1, g2, d2, rfl, vo, b6⟩
      rw [(unhide ED).code, (unhide ED).val, (unhide ED).out, vl3_len]
      rw [(unhide ED).out, vl3_len] at vo
      have HQN : Hid (Q < V1.heap.size) := hide ((unhide BS).lt)
      have B5 : Hid (Below wr.heap.size wr w5) := hide ((unhide BV).trans (b6.mono (unhide BV).size))
      have V5 := hide ((unhide VS).below b6)
      have BS5 := hide ((unhide BS).below b6)
      have VO := hide vo
      have HB : Hid (V1.heap.size ≤ w5.heap.size) := hide b6.size
      obtain ⟨LO, hLO⟩ : ∃ LO, (votOdd 10 h (vl3 L true false false) (vl3 L h 0 0) (vl3 L (x + 1000) x x)) = LO := ⟨_, rfl⟩
      rw [hLO] at VO ⊢
      clear vo b6 hLO VS RW BS BV
      have m1 : ¬ U.heap.size = w5.heap.size := by have := unhide HB; have := unhide HQN; omega
      have m2 : ¬ Q = w5.heap.size := by have := unhide HB; have := unhide HQN; omega
      have m3 : ¬ w5.heap.size = Q := by omega
      have k1 := one_at (unhide HLL) (unhide HL1) (unhide BS5)
      have k2 := one_at (unhide HLL) (unhide HL1) ((unhide BS5).alloc (Obj.cells #[.int .i64 10, .int .i64 h, .slice g1 3 d1, .slice g2 LO.length d2] 28))
      have t3 := k1.1
      have t4 := k1.2
      have t5 := k2.1
      have t6 := k2.2
      clear k1 k2
      have B6 : Hid (Below wr.heap.size wr (w5.alloc (Obj.cells #[.int .i64 10, .int .i64 h, .slice g1 3 d1, .slice g2 LO.length d2] 28))) := hide ((unhide B5).trans ((bel1 _).mono (unhide B5).size))
      have B7 : Hid (Below wr.heap.size wr ((w5.alloc (Obj.cells #[.int .i64 10, .int .i64 h, .slice g1 3 d1, .slice g2 LO.length d2] 28)).setCell ⟨Q, L1, none⟩ (.int .i64 (x + 11)))) := hide ((unhide B6).setCell (by have := unhide HQ; simp; omega) _)
      have V6 := hide ((unhide VR).below (unhide B6))
      have V7 := hide ((unhide VR).below (unhide B7))
      have q0 : (w5.alloc (Obj.cells #[.int .i64 10, .int .i64 h, .slice g1 3 d1, .slice g2 LO.length d2] 28)).cell? ⟨U.heap.size, 0, none⟩ = some (.int .i64 10) := (unhide V6).p.c 0 (by simp)
      have q1 : (w5.alloc (Obj.cells #[.int .i64 10, .int .i64 h, .slice g1 3 d1, .slice g2 LO.length d2] 28)).cell? ⟨U.heap.size, 1, none⟩ = some (.int .i64 h) := (unhide V6).p.c 1 (by simp)
      have q2 : (w5.alloc (Obj.cells #[.int .i64 10, .int .i64 h, .slice g1 3 d1, .slice g2 LO.length d2] 28)).cell? ⟨U.heap.size, 2, none⟩ = some (.slice a1 3 c1) := (unhide V6).p.c 2 (by simp)
      have q3 : (w5.alloc (Obj.cells #[.int .i64 10, .int .i64 h, .slice g1 3 d1, .slice g2 LO.length d2] 28)).cell? ⟨U.heap.size, 3, none⟩ = some (.slice a2 3 c2) := (unhide V6).p.c 3 (by simp)
      have r0 : ((w5.alloc (Obj.cells #[.int .i64 10, .int .i64 h, .slice g1 3 d1, .slice g2 LO.length d2] 28)).setCell ⟨Q, L1, none⟩ (.int .i64 (x + 11))).cell? ⟨U.heap.size, 0, none⟩ = some (.int .i64 10) := (unhide V7).p.c 0 (by simp)
      have r1 : ((w5.alloc (Obj.cells #[.int .i64 10, .int .i64 h, .slice g1 3 d1, .slice g2 LO.length d2] 28)).setCell ⟨Q, L1, none⟩ (.int .i64 (x + 11))).cell? ⟨U.heap.size, 1, none⟩ = some (.int .i64 h) := (unhide V7).p.c 1 (by simp)
      have r2 : ((w5.alloc (Obj.cells #[.int .i64 10, .int .i64 h, .slice g1 3 d1, .slice g2 LO.length d2] 28)).setCell ⟨Q, L1, none⟩ (.int .i64 (x + 11))).cell? ⟨U.heap.size, 2, none⟩ = some (.slice a1 3 c1) := (unhide V7).p.c 2 (by simp)
      have r3 : ((w5.alloc (Obj.cells #[.int .i64 10, .int .i64 h, .slice g1 3 d1, .slice g2 LO.length d2] 28)).setCell ⟨Q, L1, none⟩ (.int .i64 (x + 11))).cell? ⟨U.heap.size, 3, none⟩ = some (.slice a2 3 c2) := (unhide V7).p.c 3 (by simp)
      go_wp2_with fail
      clear q0 q1 q2 q3 r0 r1 r2 r3 t3 t4 t5 t6
      obtain ⟨NB, hNB⟩ : ∃ NB, w5.heap.size = NB := ⟨_, rfl⟩
      obtain ⟨W7, hW7⟩ : ∃ W7, W7 = ((w5.alloc (Obj.cells #[.int .i64 10, .int .i64 h, .slice g1 3 d1, .slice g2 LO.length d2] 28)).setCell ⟨Q, L1, none⟩ (.int .i64 (x + 11))) := ⟨_, rfl⟩
      have s7 : W7.heap.size = NB + 1 := by rw [hW7, ← hNB]; simp
      have A7 : Hid (Blk W7 NB [.int .i64 10, .int .i64 h, .slice g1 3 d1, .slice g2 LO.length d2]) := hide (by rw [hW7, ← hNB]; exact (Blk.new _ _).other m2 _)
      have R7 : Hid (Row W7 (some ⟨Q, 0, none⟩) 3 (vl3 L (x + 1000) (x + 11) x)) := hide (by rw [hW7]; exact row_two (unhide HLL) (unhide HL1) ((unhide BS5).alloc _) (by omega))
      have O7 : Hid (VoOwn W7 V1.heap.size g1 g2 3 d1 LO.length d2 (vl3 L true false false) LO) := hide (by
        rw [hW7]
        exact ((unhide VO).below (bel1 _)).set_other _ (fun e => by have := (unhide VO).o1.lies _ e; have := unhide HQN; omega) (fun e => by have := (unhide VO).o2.lies _ e; have := unhide HQN; omega))
      rw [← hW7] at V7
      rw [← hW7, hNB]
      clear hW7 B5 B6 B7 V5 V6 BS5 VO HB HQN m1 m2 m3 hNB
      obtain ⟨W8, hW8⟩ : ∃ W8, W8 = (W7.alloc (Obj.cells #[.int .i64 x, .int .i64 x, .int .i64 x] 3)).alloc (Obj.cells #[.slice (some ⟨NB + 1, 0, none⟩) 3 3] 26) := ⟨_, rfl⟩
      have b8 : Below W7.heap.size W7 W8 := by rw [hW8]; exact bel2 _ _
      have RS : Hid (RowS W8 (some ⟨NB + 1 + 1, 0, none⟩) 1 [[x, x, x]]) := hide (by rw [hW8]; exact rowS_one s7 (by omega))
      rw [← hW8]
      have V8 := hide ((unhide V7).below b8)
      have A8 := hide ((unhide A7).below b8)
      have R8 := hide ((unhide R7).below b8)
      have O8 := hide ((unhide O7).below b8)
      clear b8 hW8 V7 A7 R7 O7 s7
      refine (implVotes_any _ _ _ _ _ _ _ _ _ _ _ _ _ [[x, x, x]] _ (unhide V8).o (unhide RS) (by omega) (by omega)).mono ?_
      rintro e w9 ⟨z1, e1, z2, e2, g, c, rfl, _, ow, _, b9⟩
      rw [(unhide ED).many, (unhide ED).vals, show ([x] : List Int).length = 1 from rfl] at ow
      rw [(unhide ED).many, (unhide ED).vals, show ([x] : List Int).length = 1 from rfl]
      generalize (vsAt 10 h (vl3 L true false false) (vl3 L h 0 0) [[x, x, x]] 1).1.length = M1
      generalize (vsAt 10 h (vl3 L true false false) (vl3 L h 0 0) [[x, x, x]] 1).2.length = M2
      have V10 : Hid (Vd w U (w9.alloc (Obj.cells #[.int .i64 10, .int .i64 h, .slice z1 M1 e1, .slice z2 M2 e2] 28)) h a1 a2 c1 c2 (vl3 L true false false) (vl3 L h 0 0)) := hide (((unhide V8).below b9).below (bel1 _))
      have A10 : Hid (Blk (w9.alloc (Obj.cells #[.int .i64 10, .int .i64 h, .slice z1 M1 e1, .slice z2 M2 e2] 28)) NB _) := hide (((unhide A8).below b9).below (bel1 _))
      have R10 : Hid (Row (w9.alloc (Obj.cells #[.int .i64 10, .int .i64 h, .slice z1 M1 e1, .slice z2 M2 e2] 28)) _ _ _) := hide (((unhide R8).below b9).below (bel1 _))
      have O10 : Hid (VoOwn (w9.alloc (Obj.cells #[.int .i64 10, .int .i64 h, .slice z1 M1 e1, .slice z2 M2 e2] 28)) _ _ _ _ _ _ _ _ _) := hide (((unhide O8).below b9).below (bel1 _))
      have X10 : Hid (Row (w9.alloc (Obj.cells #[.int .i64 10, .int .i64 h, .slice z1 M1 e1, .slice z2 M2 e2] 28)) (some ⟨g, 0, none⟩) 1 [x]) := hide (ow.row.below (bel1 _))
      have N10 : Hid (Blk (w9.alloc (Obj.cells #[.int .i64 10, .int .i64 h, .slice z1 M1 e1, .slice z2 M2 e2] 28)) w9.heap.size [.int .i64 10, .int .i64 h, .slice z1 M1 e1, .slice z2 M2 e2]) := hide (Blk.new _ _)
      clear b9 ow V8 A8 R8 O8 RS
      rcases (unhide O10).read.r1.open1 with ⟨h0, _⟩ | ⟨bb, oo, rfl, _, hcc⟩
      · omega
      have ea := vl3_at (unhide HLL) (unhide HL1) (unhide HL2) true false false
      have s0 : (w9.alloc (Obj.cells #[.int .i64 10, .int .i64 h, .slice z1 M1 e1, .slice z2 M2 e2] 28)).cell? ⟨bb, oo + L, none⟩ = some (.bool true) := by have h := hcc L (unhide HLL); rw [ea.1] at h; exact h
      have y2 : (w9.alloc (Obj.cells #[.int .i64 10, .int .i64 h, .slice z1 M1 e1, .slice z2 M2 e2] 28)).cell? ⟨NB, 2, none⟩ = some (.slice (some ⟨bb, oo, none⟩) 3 d1) := (unhide A10).c 2 (by simp)
      have q0 : (w9.alloc (Obj.cells #[.int .i64 10, .int .i64 h, .slice z1 M1 e1, .slice z2 M2 e2] 28)).cell? ⟨U.heap.size, 0, none⟩ = some (.int .i64 10) := (unhide V10).p.c 0 (by simp)
      have q1 : (w9.alloc (Obj.cells #[.int .i64 10, .int .i64 h, .slice z1 M1 e1, .slice z2 M2 e2] 28)).cell? ⟨U.heap.size, 1, none⟩ = some (.int .i64 h) := (unhide V10).p.c 1 (by simp)
      have q2 : (w9.alloc (Obj.cells #[.int .i64 10, .int .i64 h, .slice z1 M1 e1, .slice z2 M2 e2] 28)).cell? ⟨U.heap.size, 2, none⟩ = some (.slice a1 3 c1) := (unhide V10).p.c 2 (by simp)
      have q3 : (w9.alloc (Obj.cells #[.int .i64 10, .int .i64 h, .slice z1 M1 e1, .slice z2 M2 e2] 28)).cell? ⟨U.heap.size, 3, none⟩ = some (.slice a2 3 c2) := (unhide V10).p.c 3 (by simp)
      clear hcc ea O10 A10
      go_wp2_with fail
      obtain ⟨W10, hW10⟩ : ∃ W, W = (w9.alloc (Obj.cells #[.int .i64 10, .int .i64 h, .slice z1 M1 e1, .slice z2 M2 e2] 28)) := ⟨_, rfl⟩
      rw [← hW10] at V10 R10 X10 N10
      rw [← hW10]
      obtain ⟨N9, hN9⟩ : ∃ N, w9.heap.size = N := ⟨_, rfl⟩
      rw [hN9] at N10
      rw [hN9]
      clear s0 y2 q0 q1 q2 q3 hW10 hN9
      refine (implTwoAlike_any _ _ _ _ _ _ _ _ _ _ _ _ _ (vl3 L (x + 1000) (x + 11) x) _ (unhide V10).o (unhide R10)).mono ?_
      rintro e w11 ⟨rfl, b11⟩
      rw [(unhide ED).two]
      have be := ((unhide V10).below b11).bel
      have n1 : w11.cell? ⟨N9, 1, none⟩ = some (.int .i64 h) := ((unhide N10).below b11).c 1 (by simp)
      have v0 : w11.cell? ⟨g, 0, none⟩ = some (.int .i64 x) := by
        rcases ((unhide X10).below b11).open_ with ⟨h0, _⟩ | ⟨b', o', he, _, hc⟩
        · omega
        · simp only [Option.some.injEq, Addr.mk.injEq] at he
          obtain ⟨rfl, rfl, _⟩ := he
          exact hc 0 (by omega)
      have BE := hide be
      clear V10 R10 X10 N10 b11 be
      go_wp2_with fail
      go_ret
      exact ⟨rfl, unhide BE⟩

theorem lawFnVoted (a : Option Addr) (len cap : Nat) (w : World) (hb : Bytes w a len) (hin : ∀ b off, a = some ⟨b, off, none⟩ → b < w.heap.size) :
    Calls Try.prog 3 #[.slice a len cap] w fun e w' => e = .returned (.bool true) ∧ Below w.heap.size w w' := by
  by_cases h : (1048576 : Int) < len
  · exact lawFnVoted_big a len cap w h
  · exact lawFnVoted_small a len cap w h hb hin

end Go.Proofs.Ytidgkkldhnckead

/-
  The law FnBattery returns true at every list of bytes and writes nothing that was there: the walk. No condition.
-/
import Derived.Test.YtdeodlinjilehacAtFix
import Derived.Test.YtdeodlinjilehacMarkI
import Derived.Test.YtdeodlinjilehacLastImpl
import Derived.Test.YtdeodlinjilehacPumpImpl
import Derived.Test.YtdeodlinjilehacBatFacts
import Derived.Deep.RegionHeld3
import Derived.Deep.CutRange
namespace Go.Proofs.Ytdeodlinjilehac
open Go.RowKit

/-- What a loop holds on to: a block of three numbers, and that nothing that was there has turned. -/
theorem kept3_call {w W w3 : World} {p : Nat} {a b c : Value}
    (h : W.cell? ⟨p, 0, none⟩ = some a ∧ W.cell? ⟨p, 1, none⟩ = some b ∧ W.cell? ⟨p, 2, none⟩ = some c ∧ Below w.heap.size w W) (b3 : Below W.heap.size W w3) :
    w3.cell? ⟨p, 0, none⟩ = some a ∧ w3.cell? ⟨p, 1, none⟩ = some b ∧ w3.cell? ⟨p, 2, none⟩ = some c ∧ Below w.heap.size w w3 := by
  obtain ⟨h0, h1, h2, hb⟩ := h
  exact ⟨(b3.cell (block_lt_of_cell h0)).trans h0, (b3.cell (block_lt_of_cell h1)).trans h1, (b3.cell (block_lt_of_cell h2)).trans h2, hb.trans (b3.mono hb.size)⟩
theorem kept3_bel {w W : World} {p : Nat} {a b c : Value}
    (h : W.cell? ⟨p, 0, none⟩ = some a ∧ W.cell? ⟨p, 1, none⟩ = some b ∧ W.cell? ⟨p, 2, none⟩ = some c ∧ Below w.heap.size w W) : Below w.heap.size w W := h.2.2.2
theorem fresh3_new {V w3 : World} {u0 u1 u2 : Value} {T : TypeId} (b3 : Below (V.alloc (Obj.cells #[u0, u1, u2] T)).heap.size (V.alloc (Obj.cells #[u0, u1, u2] T)) w3) :
    w3.cell? ⟨V.heap.size, 0, none⟩ = some u0 ∧ w3.cell? ⟨V.heap.size, 1, none⟩ = some u1 ∧ w3.cell? ⟨V.heap.size, 2, none⟩ = some u2 ∧ w3.frozen? ⟨V.heap.size, 0, none⟩ = false ∧ w3.frozen? ⟨V.heap.size, 1, none⟩ = false ∧ w3.frozen? ⟨V.heap.size, 2, none⟩ = false ∧ V.heap.size < w3.heap.size := by
  have hl : V.heap.size < (V.alloc (Obj.cells #[u0, u1, u2] T)).heap.size := by simp
  exact ⟨(b3.cell (p := ⟨V.heap.size, 0, none⟩) hl).trans (by simp [go_sem]), (b3.cell (p := ⟨V.heap.size, 1, none⟩) hl).trans (by simp [go_sem]), (b3.cell (p := ⟨V.heap.size, 2, none⟩) hl).trans (by simp [go_sem]), (b3.frozen (p := ⟨V.heap.size, 0, none⟩) hl).trans (by simp [go_sem]), (b3.frozen (p := ⟨V.heap.size, 1, none⟩) hl).trans (by simp [go_sem]), (b3.frozen (p := ⟨V.heap.size, 2, none⟩) hl).trans (by simp [go_sem]), Nat.lt_of_lt_of_le hl b3.size⟩
theorem fresh3_newD {V w3 : World} {u0 u1 u2 : Value} {T : TypeId} (b3 : Below (V.alloc (Obj.cells #[u0, u1, u2] T)).drew.heap.size (V.alloc (Obj.cells #[u0, u1, u2] T)).drew w3) :
    w3.cell? ⟨V.heap.size, 0, none⟩ = some u0 ∧ w3.cell? ⟨V.heap.size, 1, none⟩ = some u1 ∧ w3.cell? ⟨V.heap.size, 2, none⟩ = some u2 ∧ w3.frozen? ⟨V.heap.size, 0, none⟩ = false ∧ w3.frozen? ⟨V.heap.size, 1, none⟩ = false ∧ w3.frozen? ⟨V.heap.size, 2, none⟩ = false ∧ V.heap.size < w3.heap.size :=
  fresh3_new (T := T) ((bel0d' 1).trans b3)
theorem fresh3_still {V w3 : World} {S : Nat} {u0 u1 u2 : Value} (h : V.cell? ⟨S, 0, none⟩ = some u0 ∧ V.cell? ⟨S, 1, none⟩ = some u1 ∧ V.cell? ⟨S, 2, none⟩ = some u2 ∧ V.frozen? ⟨S, 0, none⟩ = false ∧ V.frozen? ⟨S, 1, none⟩ = false ∧ V.frozen? ⟨S, 2, none⟩ = false ∧ S < V.heap.size) (b3 : Below V.heap.size V w3) :
    w3.cell? ⟨S, 0, none⟩ = some u0 ∧ w3.cell? ⟨S, 1, none⟩ = some u1 ∧ w3.cell? ⟨S, 2, none⟩ = some u2 ∧ w3.frozen? ⟨S, 0, none⟩ = false ∧ w3.frozen? ⟨S, 1, none⟩ = false ∧ w3.frozen? ⟨S, 2, none⟩ = false ∧ S < w3.heap.size := by
  obtain ⟨h0, h1, h2, f0, f1, f2, hl⟩ := h
  exact ⟨(b3.cell (p := ⟨S, 0, none⟩) hl).trans h0, (b3.cell (p := ⟨S, 1, none⟩) hl).trans h1, (b3.cell (p := ⟨S, 2, none⟩) hl).trans h2, (b3.frozen (p := ⟨S, 0, none⟩) hl).trans f0, (b3.frozen (p := ⟨S, 1, none⟩) hl).trans f1, (b3.frozen (p := ⟨S, 2, none⟩) hl).trans f2, Nat.lt_of_lt_of_le hl b3.size⟩
theorem bat_al (w : World) : ∀ (W : World) (o : Obj), Below w.heap.size w W → Below w.heap.size w (W.alloc o) := fun _ o h => h.alloc h.size o
theorem bat_dr (w : World) : ∀ W : World, Below w.heap.size w W → Below w.heap.size w W.drew := fun _ h => h.trans ⟨rfl, rfl, rfl, Nat.le_refl _, fun _ _ => rfl⟩
theorem bat_st3 (w : World) : ∀ (W : World) (p o0 o1 o2 : Nat) (v0 v1 v2 : Value), w.heap.size ≤ p → Below w.heap.size w W → Below w.heap.size w (((W.setCell ⟨p, o0, none⟩ v0).setCell ⟨p, o1, none⟩ v1).setCell ⟨p, o2, none⟩ v2) := fun _ _ _ _ _ v0 v1 v2 hp h => ((h.setCell hp v0).setCell hp v1).setCell hp v2

set_option maxRecDepth 20000 in
set_option maxHeartbeats 1000000 in
theorem lawFnBattery_big (a : Option Addr) (len cap : Nat) (w : World) (h : (1048576 : Int) < len) :
    Calls Try.prog 5 #[.slice a len cap] w fun e w' => e = .returned (.bool true) ∧ Below w.heap.size w w' := by
  have hd : decide ((1048576 : Int) < len) = true := by simpa using h
  go_enter Try.func5, Try.ntmps5
  go_wp2_with fail
  refine (big_any a len cap _).mono ?_
  rintro e w' ⟨rfl, hw⟩
  subst w'
  rw [hd]
  go_wp2
  go_ret
  exact ⟨rfl, Below.refl _ _⟩

/-- Two lists that grow in step. -/
structure Twin (W wr : World) (k : Nat) (g1 c1 g2 c2 : Nat) (D L : List Int) : Prop where
  dl : D.length = k
  ll : L.length = k
  bel : Below W.heap.size W wr
  d : OwnI wr W.heap.size (.slice (some ⟨g1, 0, none⟩) k c1) D
  l : OwnI wr W.heap.size (.slice (some ⟨g2, 0, none⟩) k c2) L
  ne : g1 ≠ g2
  say : ∀ j, j < k → (-8 ≤ nth D j ∧ nth D j ≤ 31) ∧ (nth D j - 4 ≤ nth L j ∧ nth L j ≤ nth D j)

set_option maxRecDepth 20000 in
set_option maxHeartbeats 4000000 in
theorem lawFnBattery_small (a : Option Addr) (len cap : Nat) (w : World) (h : ¬ (1048576 : Int) < len) (hb : Bytes w a len) :
    Calls Try.prog 5 #[.slice a len cap] w fun e w' => e = .returned (.bool true) ∧ Below w.heap.size w w' := by
  have hd0 : decide ((1048576 : Int) < len) = false := by simpa using h
  have HY := hide hb
  have HL : Hid (len ≤ 1048576) := hide (by omega)
  obtain ⟨x0, hx0, hat0⟩ := at_fix a len cap 0 w hb (by omega) (by omega)
  obtain ⟨x1, hx1, hat1⟩ := at_fix a len cap 1 w hb (by omega) (by omega)
  obtain ⟨x2, hx2, hat2⟩ := at_fix a len cap 2 w hb (by omega) (by omega)
  obtain ⟨x7, hx7, hat7⟩ := at_fix a len cap 70 w hb (by omega) (by omega)
  have HAT2 := hide hat2
  have HAT7 : Hid (∀ W : World, Below w.heap.size w W → Calls Try.prog 7 #[.slice a len cap, .int .i64 70] W fun e w' => e = .returned (.int .i64 x7) ∧ Below W.heap.size W w') := hide fun W hW => (hat7 W hW).mono fun _ _ hh => ⟨hh.1, by rw [hh.2]; exact Below.refl _ _⟩
  obtain ⟨n0, hn0⟩ : ∃ n0 : Nat, x2 % 30 = n0 := ⟨(x2 % 30).toNat, by omega⟩
  have h30 : n0 ≤ 29 := by omega
  have HN0 := hide hn0
  have hl4 : 0 ≤ x1 % 4 ∧ x1 % 4 ≤ 3 := by omega
  have hk7 : 0 ≤ x7.tmod 100 ∧ x7.tmod 100 ≤ 99 := by rw [Int.tmod_eq_emod_of_nonneg hx7.1]; omega
  obtain ⟨W1, hW1⟩ : ∃ W1, W1 = w.alloc (Obj.cells #[.int .i64 x0, .int .i64 255, .int .i64 (x1 % 4)] 41) := ⟨_, rfl⟩
  have BW : Hid (Below w.heap.size w W1) := hide (by rw [hW1]; exact bel1 _)
  have KW : Hid (Blk W1 w.heap.size [.int .i64 x0, .int .i64 255, .int .i64 (x1 % 4)]) := hide (by rw [hW1]; exact Blk.new _ _)
  have hsW : W1.heap.size = w.heap.size + 1 := by rw [hW1]; simp
  have T0 : Hid (Twin W1 ((W1.alloc (Obj.cells #[] 3)).alloc (Obj.cells #[] 3)) 0 (w.heap.size + 1) 0 (w.heap.size + 1 + 1) 0 [] []) := hide (by
    refine ⟨rfl, rfl, bel2 _ _, ?_, ?_, by omega, fun j hj => by omega⟩
    · rw [← hsW]; exact (ownI_none (Nat.le_refl _)).below (bel1 _)
    · have := ownI_none (w := W1) (w1 := W1.alloc (Obj.cells #[] 3)) (by simp)
      simpa [hsW] using this)
  have HW1 := hide hW1
  have HAT0 := hide hat0
  have HAT1 := hide hat1
  clear hb h hat0 hat1 hat2 hat7 hn0 hW1 hsW
  go_enter Try.func5, Try.ntmps5
  go_wp2_with fail
  refine (big_any a len cap _).mono ?_
  rintro e w' ⟨rfl, hw⟩
  subst w'
  rw [hd0]
  clear hd0
  go_wp2_with fail
  refine (unhide HAT0 _ (Below.refl _ _)).mono ?_
  rintro e w' ⟨rfl, hw⟩
  subst w'
  go_wp2_with fail
  refine (unhide HAT1 _ (Below.refl _ _)).mono ?_
  rintro e w' ⟨rfl, hw⟩
  subst w'
  clear HAT0 HAT1
  go_wp2_with fail
  rw [← unhide HW1]
  clear HW1
  go_loopw [4, 5, 6] (fun dv lv i wr => ∃ (k g1 c1 g2 c2 : Nat) (D L : List Int), dv = .slice (some ⟨g1, 0, none⟩) k c1 ∧ lv = .slice (some ⟨g2, 0, none⟩) k c2 ∧ i = .int .i64 (k : Int) ∧ k ≤ n0 ∧ Hid (Twin W1 wr k g1 c1 g2 c2 D L)) (fun _ _ i _ => n0 - (intOf i).toNat)
  case atStart => exact ⟨0, _, _, _, _, [], [], rfl, rfl, rfl, Nat.zero_le _, T0⟩
  case round =>
    clear T0
    obtain ⟨k, g1, c1, g2, c2, D, L, rfl, rfl, rfl, hkn, TW⟩ := hrel
    have KK : Hid (Below w.heap.size w wr) := hide ((unhide BW).trans ((unhide TW).bel.mono (unhide BW).size))
    have YY := hide ((unhide HY).below (unhide KK))
    go_wp2_with fail
    refine (unhide HAT2 _ (unhide KK)).mono ?_
    rintro e w' ⟨rfl, hw⟩
    subst w'
    by_cases hj : k < n0
    · have hj1 : (k : Int) < x2 % 30 := by rw [unhide HN0]; omega
      go_wp2_with fail
      refine (at_any a len cap (k + 3) wr (unhide YY) (unhide HL) (by omega)).mono ?_
      rintro e w' ⟨xa, rfl, hxa, hw⟩
      subst w'
      have hxa2 : 0 ≤ xa % 40 ∧ xa % 40 ≤ 39 := by omega
      obtain ⟨vs, hown, hvx⟩ := (unhide TW).d.own
      rw [(unhide TW).dl] at hown hvx
      have hsz : W1.heap.size ≤ wr.heap.size := (unhide TW).bel.size
      have hbA := bel1 (w := wr) (Obj.cells #[Value.int IntKind.i64 (xa % 40 - 8)] 3)
      have hownA := ownsRow_below hown hbA
      have hnews := World.news_of_block (heap_alloc_new wr (Obj.cells #[Value.int IntKind.i64 (xa % 40 - 8)] 3))
      have HVX := hide hvx
      have HVL := hide hown.1
      obtain ⟨i0, hii, hz0, hz1, hz2⟩ := info_parts info_int1
      clear hown hvx
      go_wp2_with (at_builtin; refine wpList_append_lies _ rfl _ _ 42 rfl W1.heap.size 3 i0 (.int .i64 0) 1 8 Try.underlying42 hii hz0 hz1 hz2 rfl (by decide) (.slice (some ⟨g1, 0, none⟩) k c1) k vs rfl hownA ⟨wr.heap.size, 0, none⟩ 1 1 [.int .i64 (xa % 40 - 8)] rfl rfl hnews (by simp [Value.oneCell']) (by decide) (by unfold maxLen; omega) (by omega) (by simp; omega) _ rfl ?_; intro g3 c3 w9 hown9 hgrow hat hlt9)
      have hb9 : Below W1.heap.size W1 w9 := ((unhide TW).bel.trans (hbA.mono hsz)).grown hgrow (by simp; omega) (fun j hj => ((unhide TW).d.lies j hj).1)
      have OD : Hid (OwnI w9 W1.heap.size (.slice (some ⟨g3, 0, none⟩) (k + 1) c3) (D ++ [xa % 40 - 8])) := hide (ownI_app (by rw [(unhide TW).dl]; exact hown9) (by rw [(unhide TW).dl]; exact unhide HVL) (by rw [(unhide TW).dl]; exact unhide HVX) (unhide TW).d.fit (by omega))
      have hg2 : g2 < wr.heap.size := ((unhide TW).l.lies g2 rfl).2
      have OL : Hid (OwnI w9 W1.heap.size (.slice (some ⟨g2, 0, none⟩) k c2) L) := hide (((unhide TW).l.below hbA).far hgrow (fun g hg e => by
        have hne := (unhide TW).ne
        simp only [Value.ownBlock, Option.some.injEq] at hg e
        omega))
      have HNE : Hid (g3 ≠ g2) := hide (by
        have hne := (unhide TW).ne
        have hs9 := hb9.size
        simp only [Value.ownBlock, Option.some.injEq, World.alloc] at hat
        simp at hat
        omega)
      have B9 := hide hb9
      have K9 : Hid (Below w.heap.size w w9) := hide ((unhide BW).trans (hb9.mono (unhide BW).size))
      have Y9 := hide ((unhide HY).below (unhide K9))
      have hs9 : W1.heap.size ≤ w9.heap.size := hb9.size
      clear hown9 hgrow hat hlt9 hb9 hg2 hownA hnews hbA HVX HVL KK YY hii hz0 hz1 hz2
      clear i0
      go_wp2_with fail
      refine (at_any a len cap (k + 40) w9 (unhide Y9) (unhide HL) (by omega)).mono ?_
      rintro e w' ⟨xb, rfl, hxb, hw⟩
      subst w'
      have hxb2 : 0 ≤ xb % 5 ∧ xb % 5 ≤ 4 := by omega
      obtain ⟨us, hown, hvx⟩ := (unhide OL).own
      rw [(unhide TW).ll] at hown hvx
      have hbA := bel1 (w := w9) (Obj.cells #[Value.int IntKind.i64 (xa % 40 - 8 - xb % 5)] 3)
      have hownA := ownsRow_below hown hbA
      have hnews := World.news_of_block (heap_alloc_new w9 (Obj.cells #[Value.int IntKind.i64 (xa % 40 - 8 - xb % 5)] 3))
      have HVX := hide hvx
      have HVL := hide hown.1
      obtain ⟨i0, hii, hz0, hz1, hz2⟩ := info_parts info_int1
      clear hown hvx
      go_wp2_with (at_builtin; refine wpList_append_lies _ rfl _ _ 42 rfl W1.heap.size 3 i0 (.int .i64 0) 1 8 Try.underlying42 hii hz0 hz1 hz2 rfl (by decide) (.slice (some ⟨g2, 0, none⟩) k c2) k us rfl hownA ⟨w9.heap.size, 0, none⟩ 1 1 [.int .i64 (xa % 40 - 8 - xb % 5)] rfl rfl hnews (by simp [Value.oneCell']) (by decide) (by unfold maxLen; omega) (by omega) (by simp; omega) _ rfl ?_; intro g4 c4 w10 hown9 hgrow hat hlt9)
      have hb10 : Below W1.heap.size W1 w10 := ((unhide B9).trans (hbA.mono hs9)).grown hgrow (by simp; omega) (fun j hj => ((unhide OL).lies j hj).1)
      have hg3 : g3 < w9.heap.size := ((unhide OD).lies g3 rfl).2
      have OL2 : OwnI w10 W1.heap.size (.slice (some ⟨g4, 0, none⟩) (k + 1) c4) (L ++ [xa % 40 - 8 - xb % 5]) := ownI_app (by rw [(unhide TW).ll]; exact hown9) (by rw [(unhide TW).ll]; exact unhide HVL) (by rw [(unhide TW).ll]; exact unhide HVX) (unhide OL).fit (by omega)
      have OD2 : OwnI w10 W1.heap.size (.slice (some ⟨g3, 0, none⟩) (k + 1) c3) (D ++ [xa % 40 - 8]) := ((unhide OD).below hbA).far hgrow (fun g hg e => by
        have hne := unhide HNE
        simp only [Value.ownBlock, Option.some.injEq] at hg e
        omega)
      refine ⟨⟨k + 1, g3, c3, g4, c4, D ++ [xa % 40 - 8], L ++ [xa % 40 - 8 - xb % 5], rfl, rfl, by go_num, by omega, hide ⟨?_, ?_, hb10, OD2, OL2, ?_, ?_⟩⟩, by simp [intOf]; omega⟩
      · rw [List.length_append, (unhide TW).dl]; rfl
      · rw [List.length_append, (unhide TW).ll]; rfl
      · have hne := unhide HNE
        simp only [Value.ownBlock, Option.some.injEq] at hat
        simp at hat
        omega
      · intro j hj
        obtain ⟨d1, d2⟩ := nth_app D (xa % 40 - 8)
        obtain ⟨l1, l2⟩ := nth_app L (xa % 40 - 8 - xb % 5)
        rw [(unhide TW).dl] at d1 d2
        rw [(unhide TW).ll] at l1 l2
        by_cases e : j < k
        · rw [d1 j e, l1 j e]; exact (unhide TW).say j e
        · obtain rfl : j = k := by omega
          rw [d2, l2]; omega
    · have hj1 : ¬ (k : Int) < x2 % 30 := by rw [unhide HN0]; omega
      have hk29 : (k : Int) ≤ 29 := by omega
      have HK := hide (show k ≤ 300 by omega)
      have SAY := hide (bat_say (x := x0) (l := x1 % 4) hx0 hl4 (by rw [(unhide TW).dl]; exact unhide HK) (by rw [(unhide TW).ll, (unhide TW).dl]) (by rw [(unhide TW).dl]; exact (unhide TW).say))
      have RD := hide (unhide TW).d.row
      have RL := hide (unhide TW).l.row
      have KB := (unhide KW).below (unhide TW).bel
      have e0 : wr.cell? ⟨w.heap.size, 0, none⟩ = some (.int .i64 x0) := KB.c 0 (by simp)
      have e1 : wr.cell? ⟨w.heap.size, 1, none⟩ = some (.int .i64 255) := KB.c 1 (by simp)
      have e2 : wr.cell? ⟨w.heap.size, 2, none⟩ = some (.int .i64 (x1 % 4)) := KB.c 2 (by simp)
      have KB := hide KB
      have HLEN := hide (unhide TW).dl
      clear hj hkn h30 HN0 TW YY HAT2
      go_wp2_with fail
      refine (implLasts_any x0 255 (x1 % 4) _ _ _ D _ (unhide RD)).mono ?_
      rintro e w2 ⟨rfl, b2⟩
      rw [(unhide SAY).ok]
      have K2 := hide ((unhide KK).trans (b2.mono (unhide KK).size))
      have RL2 := hide ((unhide RL).below b2)
      have KB2 := (unhide KB).below b2
      have e0 : w2.cell? ⟨w.heap.size, 0, none⟩ = some (.int .i64 x0) := KB2.c 0 (by simp)
      have e1 : w2.cell? ⟨w.heap.size, 1, none⟩ = some (.int .i64 255) := KB2.c 1 (by simp)
      have e2 : w2.cell? ⟨w.heap.size, 2, none⟩ = some (.int .i64 (x1 % 4)) := KB2.c 2 (by simp)
      have KB2 := hide KB2
      clear b2 KK RL RD KB
      go_wp2_with fail
      refine (implLasts_any x0 255 (x1 % 4) _ _ _ L _ (unhide RL2)).mono ?_
      rintro e w3 ⟨rfl, b3⟩
      rw [(unhide SAY).fine]
      have K3 := hide ((unhide K2).trans (b3.mono (unhide K2).size))
      have KB3 := (unhide KB2).below b3
      have e1 : w3.cell? ⟨w.heap.size, 1, none⟩ = some (.int .i64 255) := KB3.c 1 (by simp)
      clear b3 K2 RL2 KB2 KB3
      have q1 := (unhide SAY).le
      have q2 := (unhide SAY).pos
      have q3 := (unhide SAY).len
      have q4 := (unhide SAY).cpos
      have q5 := (unhide SAY).most
      have q6 := (unhide SAY).mpos
      have q7 := (unhide SAY).more
      rw [unhide HLEN] at q3
      clear SAY
      generalize (lastT x0 255 (x1 % 4) D).1 = N at *
      generalize (lastT x0 255 (x1 % 4) D).2 = C at *
      generalize (lastT x0 255 (x1 % 4) L).1 = M at *
      generalize (lastT x0 255 (x1 % 4) L).2 = R at *
      have r1 : ¬ M < N := by omega
      have r2 : ¬ N < 0 := by omega
      have r3 : ¬ (k : Int) < N := by omega
      have r4 : ¬ C < 0 := by omega
      have r5 : ¬ 255 < C := by omega
      have r6 : ¬ R < 0 := by omega
      have hpart : (N = M ∧ ¬ R < C) ∨ ¬ N = M := by
        by_cases e : N = M
        · exact .inl ⟨e, by have := q7 e; omega⟩
        · exact .inr e
      clear q1 q2 q3 q4 q5 q6 q7
      obtain ⟨W4, hW4⟩ : ∃ W4, W4 = w3.alloc (Obj.cells #[.int .i64 0, .int .i64 900, .int .i64 0] 45) := ⟨_, rfl⟩
      have K4 : Hid (Below w.heap.size w W4) := hide (by rw [hW4]; exact (unhide K3).trans ((bel1 (w := w3) _).mono (unhide K3).size))
      have P4 : Hid (Blk W4 w3.heap.size [.int .i64 0, .int .i64 900, .int .i64 0]) := hide (by rw [hW4]; exact Blk.new _ _)
      have hP : w.heap.size ≤ w3.heap.size := (unhide K3).size
      have HW4 := hide hW4
      clear hW4 K3
      generalize hBp : w3.heap.size = Bp at *
      have HBP := hide hBp
      clear hBp
      clear hx0 hx1 hx2 hl4 BW KW HL HY
      rcases hpart with ⟨hp1, hp2⟩ | hp1
      · subst hp1
        go_wp2_with fail
        rw [← unhide HW4, unhide HBP]
        clear HW4 HBP e1 r1 r2 r3 r4 r5 r6 hp2
        go_loopw [15] (fun i wr => ∃ (j : Nat) (s p : Int), i = .int .i64 (j : Int) ∧ j ≤ 10 ∧ (s = 0 ∨ s = 1) ∧ (900 ≤ p ∧ p ≤ 5000) ∧ Blk wr Bp [.int .i64 s, .int .i64 p, .int .i64 0] ∧ Below w.heap.size w wr) (fun i _ => 10 - (intOf i).toNat)
        case atStart => exact ⟨0, 0, 900, rfl, by omega, .inl rfl, by omega, unhide P4, unhide K4⟩
        case round =>
          clear P4 K4
          obtain ⟨j, s, p, rfl, hj10, hs, hp, hblk, bb⟩ := hrel
          have c0 : wr.cell? ⟨Bp, 0, none⟩ = some (.int .i64 s) := hblk.c 0 (by simp)
          have c1 : wr.cell? ⟨Bp, 1, none⟩ = some (.int .i64 p) := hblk.c 1 (by simp)
          have c2 : wr.cell? ⟨Bp, 2, none⟩ = some (.int .i64 0) := hblk.c 2 (by simp)
          have HBK := hide hblk
          have HBW := hide bb
          have bb := Below.refl wr.heap.size wr
          have n0' := World.new_ne wr _ c0
          have hA := bat_al wr
          have hD := bat_dr wr
          have hS := bat_st3 wr
          clear hblk
          by_cases hj : j < 10
          · have hj1 : (j : Int) < 10 := by omega
            obtain ⟨hpb, q, hpt, hq1, hq2, hq3⟩ := pump_up hs hp hk7
            have HPB := hide hpb
            have HPT := hide hpt
            have HS := hide hs
            clear hpb hpt hs
            go_wp2_with fail
            go_cut [16, 17] from 117 to 143 (fun s16 s17 wc => ∃ S, s16 = .pointer (some ⟨S, 0, none⟩) ∧ s17 = .bool true ∧ wc.cell? ⟨S, 0, none⟩ = some (.int .i64 1) ∧ wc.cell? ⟨S, 1, none⟩ = some (.int .i64 q) ∧ wc.cell? ⟨S, 2, none⟩ = some (.int .i64 0) ∧ wc.cell? ⟨Bp, 0, none⟩ = some (.int .i64 s) ∧ wc.cell? ⟨Bp, 1, none⟩ = some (.int .i64 p) ∧ wc.cell? ⟨Bp, 2, none⟩ = some (.int .i64 0) ∧ Below wr.heap.size wr wc)
            case first =>
              go_region_held3 (fun w' => w'.cell? ⟨Bp, 0, none⟩ = some (.int .i64 s) ∧ w'.cell? ⟨Bp, 1, none⟩ = some (.int .i64 p) ∧ w'.cell? ⟨Bp, 2, none⟩ = some (.int .i64 0) ∧ Below wr.heap.size wr w') (go_keep)
                ((first
                | (go_at_call 7; refine (unhide HAT7 _ ((unhide HBW).trans ((kept3_bel (by assumption)).mono (unhide HBW).size))).mono ?_; rintro e w5 ⟨rfl, b5⟩; have H5 := kept3_call (by assumption) b5; (first | (have hs5 := fresh3_still ⟨s0, s1, s2, g0, g1, g2, ls⟩ b5; obtain ⟨s0, s1, s2, g0, g1, g2, ls⟩ := hs5) | (have hs5 := fresh3_new b5; obtain ⟨s0, s1, s2, g0, g1, g2, ls⟩ := hs5) | (have hs5 := fresh3_newD b5; obtain ⟨s0, s1, s2, g0, g1, g2, ls⟩ := hs5) | skip); obtain ⟨c0, c1, c2, bb⟩ := H5; have hz3 := bb.size; have n0' := World.new_ne w5 _ c0; clear b5)
                | (go_at_call 13; refine (implPump_any _ _ _ _ _ _).mono ?_; rintro e w5 ⟨rfl, b5⟩; rw [unhide HPB, unhide HPT]; have H5 := kept3_call (by assumption) b5; (first | (have hs5 := fresh3_still ⟨s0, s1, s2, g0, g1, g2, ls⟩ b5; obtain ⟨s0, s1, s2, g0, g1, g2, ls⟩ := hs5) | (have hs5 := fresh3_new b5; obtain ⟨s0, s1, s2, g0, g1, g2, ls⟩ := hs5) | (have hs5 := fresh3_newD b5; obtain ⟨s0, s1, s2, g0, g1, g2, ls⟩ := hs5) | skip); obtain ⟨c0, c1, c2, bb⟩ := H5; have hz3 := bb.size; have n0' := World.new_ne w5 _ c0; clear b5)))
              all_goals (
                go_wp2
                go_meet
                case rel => exact ⟨_, rfl, rfl, by simp [go_sem, *], by simp [go_sem, *], by simp [go_sem, *], by assumption⟩)
            case rest =>
              obtain ⟨S, rfl, rfl, t0, t1, t2, c0, c1, c2, bb⟩ := hcut
              have hq' : ¬ q < p := by omega
              have HB5 := hide ((unhide HBW).trans (bb.mono (unhide HBW).size))
              have hk5 := (unhide HBK).below bb
              have z0 : wc.frozen? ⟨Bp, 0, none⟩ = false := hk5.f 0 (by simp)
              have z1 : wc.frozen? ⟨Bp, 1, none⟩ = false := hk5.f 1 (by simp)
              have z2 : wc.frozen? ⟨Bp, 2, none⟩ = false := hk5.f 2 (by simp)
              have HK5 := hide hk5
              have HK6 := hide ((((unhide HK5).set 0 (by simp) (.int .i64 1)).set 1 (by simp) (.int .i64 q)).set 2 (by simp) (.int .i64 0))
              have HB6 := hide ((((unhide HB5).setCell (p := ⟨Bp, 0, none⟩) hP (.int .i64 1)).setCell (p := ⟨Bp, 1, none⟩) hP (.int .i64 q)).setCell (p := ⟨Bp, 2, none⟩) hP (.int .i64 0))
              clear bb hk5 HK5 HB5 HBK HBW
              go_wp2_with fail
              go_roundw
              case rel => exact ⟨j + 1, 1, q, by go_num, by omega, .inr rfl, ⟨hq2, hq3⟩, unhide HK6, unhide HB6⟩
              case measure => simp [intOf]; omega
          · have hj1 : ¬ (j : Int) < 10 := by omega
            obtain ⟨hpb, q, hpt⟩ := pump_off hs hp
            have HPB := hide hpb
            have HPT := hide hpt
            have HB5 := HBW
            clear hpb hpt hs bb
            go_wp2_with fail
            refine (implPump_any _ _ _ _ _ _).mono ?_
            rintro e w5 ⟨rfl, b5⟩
            rw [unhide HPB, unhide HPT]
            have HB6 := hide ((unhide HB5).trans (b5.mono (unhide HB5).size))
            have K6 := (unhide HBK).below b5
            have d2 : w5.cell? ⟨Bp, 2, none⟩ = some (.int .i64 0) := K6.c 2 (by simp)
            have d2 : (w5.alloc (Obj.cells #[.int .i64 0, .int .i64 q, .int .i64 0] 45)).cell? ⟨Bp, 2, none⟩ = some (.int .i64 0) := ((bel1 (w := w5) _).cell (p := ⟨Bp, 2, none⟩) (block_lt_of_cell d2)).trans d2
            clear b5 K6 HBK HB5 HBW c0 c1 c2
            go_wp2_with fail
            go_ret
            exact ⟨rfl, (unhide HB6).trans ((bel1 (w := w5) _).mono (unhide HB6).size)⟩
      · go_wp2_with fail
        rw [← unhide HW4, unhide HBP]
        clear HW4 HBP e1 r1 r2 r3 r4 r5 r6 hp1
        go_loopw [15] (fun i wr => ∃ (j : Nat) (s p : Int), i = .int .i64 (j : Int) ∧ j ≤ 10 ∧ (s = 0 ∨ s = 1) ∧ (900 ≤ p ∧ p ≤ 5000) ∧ Blk wr Bp [.int .i64 s, .int .i64 p, .int .i64 0] ∧ Below w.heap.size w wr) (fun i _ => 10 - (intOf i).toNat)
        case atStart => exact ⟨0, 0, 900, rfl, by omega, .inl rfl, by omega, unhide P4, unhide K4⟩
        case round =>
          clear P4 K4
          obtain ⟨j, s, p, rfl, hj10, hs, hp, hblk, bb⟩ := hrel
          have c0 : wr.cell? ⟨Bp, 0, none⟩ = some (.int .i64 s) := hblk.c 0 (by simp)
          have c1 : wr.cell? ⟨Bp, 1, none⟩ = some (.int .i64 p) := hblk.c 1 (by simp)
          have c2 : wr.cell? ⟨Bp, 2, none⟩ = some (.int .i64 0) := hblk.c 2 (by simp)
          have HBK := hide hblk
          have HBW := hide bb
          have bb := Below.refl wr.heap.size wr
          have n0' := World.new_ne wr _ c0
          have hA := bat_al wr
          have hD := bat_dr wr
          have hS := bat_st3 wr
          clear hblk
          by_cases hj : j < 10
          · have hj1 : (j : Int) < 10 := by omega
            obtain ⟨hpb, q, hpt, hq1, hq2, hq3⟩ := pump_up hs hp hk7
            have HPB := hide hpb
            have HPT := hide hpt
            have HS := hide hs
            clear hpb hpt hs
            go_wp2_with fail
            go_cut [16, 17] from 117 to 143 (fun s16 s17 wc => ∃ S, s16 = .pointer (some ⟨S, 0, none⟩) ∧ s17 = .bool true ∧ wc.cell? ⟨S, 0, none⟩ = some (.int .i64 1) ∧ wc.cell? ⟨S, 1, none⟩ = some (.int .i64 q) ∧ wc.cell? ⟨S, 2, none⟩ = some (.int .i64 0) ∧ wc.cell? ⟨Bp, 0, none⟩ = some (.int .i64 s) ∧ wc.cell? ⟨Bp, 1, none⟩ = some (.int .i64 p) ∧ wc.cell? ⟨Bp, 2, none⟩ = some (.int .i64 0) ∧ Below wr.heap.size wr wc)
            case first =>
              go_region_held3 (fun w' => w'.cell? ⟨Bp, 0, none⟩ = some (.int .i64 s) ∧ w'.cell? ⟨Bp, 1, none⟩ = some (.int .i64 p) ∧ w'.cell? ⟨Bp, 2, none⟩ = some (.int .i64 0) ∧ Below wr.heap.size wr w') (go_keep)
                ((first
                | (go_at_call 7; refine (unhide HAT7 _ ((unhide HBW).trans ((kept3_bel (by assumption)).mono (unhide HBW).size))).mono ?_; rintro e w5 ⟨rfl, b5⟩; have H5 := kept3_call (by assumption) b5; (first | (have hs5 := fresh3_still ⟨s0, s1, s2, g0, g1, g2, ls⟩ b5; obtain ⟨s0, s1, s2, g0, g1, g2, ls⟩ := hs5) | (have hs5 := fresh3_new b5; obtain ⟨s0, s1, s2, g0, g1, g2, ls⟩ := hs5) | (have hs5 := fresh3_newD b5; obtain ⟨s0, s1, s2, g0, g1, g2, ls⟩ := hs5) | skip); obtain ⟨c0, c1, c2, bb⟩ := H5; have hz3 := bb.size; have n0' := World.new_ne w5 _ c0; clear b5)
                | (go_at_call 13; refine (implPump_any _ _ _ _ _ _).mono ?_; rintro e w5 ⟨rfl, b5⟩; rw [unhide HPB, unhide HPT]; have H5 := kept3_call (by assumption) b5; (first | (have hs5 := fresh3_still ⟨s0, s1, s2, g0, g1, g2, ls⟩ b5; obtain ⟨s0, s1, s2, g0, g1, g2, ls⟩ := hs5) | (have hs5 := fresh3_new b5; obtain ⟨s0, s1, s2, g0, g1, g2, ls⟩ := hs5) | (have hs5 := fresh3_newD b5; obtain ⟨s0, s1, s2, g0, g1, g2, ls⟩ := hs5) | skip); obtain ⟨c0, c1, c2, bb⟩ := H5; have hz3 := bb.size; have n0' := World.new_ne w5 _ c0; clear b5)))
              all_goals (
                go_wp2
                go_meet
                case rel => exact ⟨_, rfl, rfl, by simp [go_sem, *], by simp [go_sem, *], by simp [go_sem, *], by assumption⟩)
            case rest =>
              obtain ⟨S, rfl, rfl, t0, t1, t2, c0, c1, c2, bb⟩ := hcut
              have hq' : ¬ q < p := by omega
              have HB5 := hide ((unhide HBW).trans (bb.mono (unhide HBW).size))
              have hk5 := (unhide HBK).below bb
              have z0 : wc.frozen? ⟨Bp, 0, none⟩ = false := hk5.f 0 (by simp)
              have z1 : wc.frozen? ⟨Bp, 1, none⟩ = false := hk5.f 1 (by simp)
              have z2 : wc.frozen? ⟨Bp, 2, none⟩ = false := hk5.f 2 (by simp)
              have HK5 := hide hk5
              have HK6 := hide ((((unhide HK5).set 0 (by simp) (.int .i64 1)).set 1 (by simp) (.int .i64 q)).set 2 (by simp) (.int .i64 0))
              have HB6 := hide ((((unhide HB5).setCell (p := ⟨Bp, 0, none⟩) hP (.int .i64 1)).setCell (p := ⟨Bp, 1, none⟩) hP (.int .i64 q)).setCell (p := ⟨Bp, 2, none⟩) hP (.int .i64 0))
              clear bb hk5 HK5 HB5 HBK HBW
              go_wp2_with fail
              go_roundw
              case rel => exact ⟨j + 1, 1, q, by go_num, by omega, .inr rfl, ⟨hq2, hq3⟩, unhide HK6, unhide HB6⟩
              case measure => simp [intOf]; omega
          · have hj1 : ¬ (j : Int) < 10 := by omega
            obtain ⟨hpb, q, hpt⟩ := pump_off hs hp
            have HPB := hide hpb
            have HPT := hide hpt
            have HB5 := HBW
            clear hpb hpt hs bb
            go_wp2_with fail
            refine (implPump_any _ _ _ _ _ _).mono ?_
            rintro e w5 ⟨rfl, b5⟩
            rw [unhide HPB, unhide HPT]
            have HB6 := hide ((unhide HB5).trans (b5.mono (unhide HB5).size))
            have K6 := (unhide HBK).below b5
            have d2 : w5.cell? ⟨Bp, 2, none⟩ = some (.int .i64 0) := K6.c 2 (by simp)
            have d2 : (w5.alloc (Obj.cells #[.int .i64 0, .int .i64 q, .int .i64 0] 45)).cell? ⟨Bp, 2, none⟩ = some (.int .i64 0) := ((bel1 (w := w5) _).cell (p := ⟨Bp, 2, none⟩) (block_lt_of_cell d2)).trans d2
            clear b5 K6 HBK HB5 HBW c0 c1 c2
            go_wp2_with fail
            go_ret
            exact ⟨rfl, (unhide HB6).trans ((bel1 (w := w5) _).mono (unhide HB6).size)⟩

theorem lawFnBattery (a : Option Addr) (len cap : Nat) (w : World) (hb : Bytes w a len) :
    Calls Try.prog 5 #[.slice a len cap] w fun e w' => e = .returned (.bool true) ∧ Below w.heap.size w w' := by
  by_cases h : (1048576 : Int) < len
  · exact lawFnBattery_big a len cap w h
  · exact lawFnBattery_small a len cap w h hb

end Go.Proofs.Ytdeodlinjilehac

/-
  Parts of a fleet as they are drawn: a text picked of a list, a clock, a task, a deed. At every cursor; nothing that was there is written but the cursor.
-/
import Derived.Test.YtfnnfldfnjnlfagMDraw
import Derived.Test.YtfnnfldfnjnlfagMWhole
import Derived.Test.YtfnnfldfnjnlfagMWrOrd
import Derived.Deep.Cut
namespace Go.Proofs.Ytfnnfldfnjnlfag
open Go Go.RowKit

/-- A function that draws, at work: the cursor; nothing that was there at its entry but the cursor has turned. -/
structure Dk (w : World) (C : Nat) (a : Option Addr) (len cap : Nat) (W0 W : World) : Prop where
  d : Dr w C a len cap W
  g : Aps (· = C) W0 W
  inn : ∀ b off, a = some ⟨b, off, none⟩ → b < w.heap.size
  lo : C < W0.heap.size
theorem Dk.start {w : World} {C : Nat} {a : Option Addr} {len cap : Nat} {W : World} (h : Dr w C a len cap W) (hin : ∀ b off, a = some ⟨b, off, none⟩ → b < w.heap.size) : Dk w C a len cap W W := ⟨h, Aps.refl _ _, hin, h.lt⟩
theorem Dk.below {w : World} {C : Nat} {a : Option Addr} {len cap : Nat} {W0 W W' : World} (h : Dk w C a len cap W0 W) (b : Below W.heap.size W W') : Dk w C a len cap W0 W' := ⟨h.d.below b, h.g.trans (Aps.of_below b), h.inn, h.lo⟩
theorem Dk.call {w : World} {C : Nat} {a : Option Addr} {len cap : Nat} {W0 W W' : World} (h : Dk w C a len cap W0 W) (gr : W.grownBy W' (some C)) (d : Dr w C a len cap W') : Dk w C a len cap W0 W' := ⟨d, h.g.grow gr (fun _ hq => (Option.some.inj hq).symm), h.inn, h.lo⟩
theorem Dk.own {w : World} {C : Nat} {a : Option Addr} {len cap : Nat} {W0 W W' : World} {B : Nat} (h : Dk w C a len cap W0 W) (gr : W.grownBy W' (some B)) (hB : W0.heap.size ≤ B) : Dk w C a len cap W0 W' :=
  ⟨h.d.own gr (fun k hk => by have e := Option.some.inj hk; have := h.lo; omega) h.inn, h.g.growN gr (fun _ hq => .inr (by have e := Option.some.inj hq; omega)), h.inn, h.lo⟩
theorem Dk.gr {w : World} {C : Nat} {a : Option Addr} {len cap : Nat} {W0 W : World} (h : Dk w C a len cap W0 W) : W0.grownBy W (some C) :=
  ⟨h.g.os, h.g.tape, h.g.output, h.g.size, fun k hk e => h.g.block k hk (fun e2 => e (by rw [e2]))⟩
set_option maxHeartbeats 1000000 in
/-- A text is picked of a list that was written out. -/
theorem drPick {w : World} {C : Nat} {a : Option Addr} {len cap : Nat} (g n c : Nat) (zs : List ByteArray) (W : World) (h : Dr w C a len cap W) (hr : Blk W g (zs.map Value.string)) (hz : zs.length = n) (hg : g ≠ C) (hn : 1 ≤ n ∧ n ≤ 100) :
    Calls Try.prog 80 #[.pointer (some ⟨C, 0, none⟩), .slice (some ⟨g, 0, none⟩) n c] W fun e w' => ∃ i : Nat, i < n ∧ e = .returned (.string (elAt zs i)) ∧ Dr w C a len cap w' ∧ W.grownBy w' (some C) := by
  have HD := hide h
  have HR := hide hr
  have HZ := hide hz
  clear h hr hz
  go_enter Try.func80, Try.ntmps80
  go_wp2_with fail
  refine (drBelow (n : Int) _ (unhide HD) (by omega)).mono ?_
  rintro e w1 ⟨x, rfl, hx, d, gr⟩
  obtain ⟨i, hi⟩ : ∃ i : Nat, x = (i : Int) := ⟨x.toNat, by omega⟩
  subst hi
  have hin : i < n := by omega
  have R1 := (unhide HR).apart gr (fun e => hg (Option.some.inj e))
  have y : w1.cell? ⟨g, i, none⟩ = some (.string (elAt zs i)) := by
    rw [R1.c i (by simpa [unhide HZ] using hin)]
    simp [elAt, show i < zs.length by rw [unhide HZ]; exact hin]
  have i0 : (0 : Int) ≤ (i : Int) := by omega
  have i1 : (i : Int) < (n : Int) := by omega
  have D1 := hide d
  have GR := hide gr
  obtain ⟨s, hs⟩ : ∃ s, elAt zs i = s := ⟨_, rfl⟩
  rw [hs] at y
  have HS := hide hs
  clear d gr R1 hs
  go_wp2_with fail
  go_ret
  exact ⟨i, hin, by rw [unhide HS]; kernel_rfl, unhide D1, unhide GR⟩
set_option maxHeartbeats 1000000 in
theorem drClock {w : World} {C : Nat} {a : Option Addr} {len cap : Nat} (n : Int) (W : World) (h : Dr w C a len cap W) (hin : ∀ b off, a = some ⟨b, off, none⟩ → b < w.heap.size) (hn : 1 ≤ n ∧ n ≤ 1000000) :
    Calls Try.prog 108 #[.pointer (some ⟨C, 0, none⟩), .int .i64 n] W fun e w' => ∃ x0 x1 x2 : Int, e = .returned (.agg #[.int .i64 x0, .int .i64 x1, .int .i64 x2]) ∧ ((0 ≤ x0 ∧ x0 < n) ∧ (0 ≤ x1 ∧ x1 < n) ∧ (0 ≤ x2 ∧ x2 < n)) ∧ Dr w C a len cap w' ∧ W.grownBy w' (some C) := by
  have hC : W.heap.size ≠ C := Nat.ne_of_gt h.lt
  obtain ⟨V0, hV0⟩ : ∃ V, V = W.alloc (Obj.cells #[.int .i64 0, .int .i64 0, .int .i64 0] 28) := ⟨_, rfl⟩
  have b0 : Below W.heap.size W V0 := by rw [hV0]; exact bel1 _
  have K0 : Hid (Dk w C a len cap W V0) := hide ((Dk.start h hin).below b0)
  have R0 : Hid (Blk V0 W.heap.size [.int .i64 0, .int .i64 0, .int .i64 0]) := hide (by rw [hV0]; exact Blk.new _ _)
  have HW := hide hV0
  clear hV0 b0 h hin
  go_enter Try.func108, Try.ntmps108
  go_upto_region 1 with fail
  rw [← unhide HW]
  clear HW
  go_wp2_with fail
  refine (drBelow n _ (unhide K0).d hn).mono ?_
  rintro e w1 ⟨x0, rfl, h0, d, gr⟩
  have K1 := hide ((unhide K0).call gr d)
  have R1 := hide ((unhide R0).apart gr (fun e => hC (Option.some.inj e)))
  clear d gr K0 R0
  go_wp2_with fail
  refine (drBelow n _ (unhide K1).d hn).mono ?_
  rintro e w2 ⟨x1, rfl, h1, d, gr⟩
  have K2 := hide ((unhide K1).call gr d)
  have R2 := hide ((unhide R1).apart gr (fun e => hC (Option.some.inj e)))
  clear d gr K1 R1
  go_wp2_with fail
  refine (drBelow n _ (unhide K2).d hn).mono ?_
  rintro e w3 ⟨x2, rfl, h2, d, gr⟩
  have K3 := hide ((unhide K2).call gr d)
  have R3 := hide ((unhide R2).apart gr (fun e => hC (Option.some.inj e)))
  clear d gr K2 R2
  go_wp2_with (((with_reducible show wpList _ _ _ (⟨none, .store 28 _ _, _, _, _, none⟩ :: _) _ _); refine at_storeAgg (us := [.int .i64 0, .int .i64 0, .int .i64 0]) (vs := [.int .i64 x0, .int .i64 x1, .int .i64 x2]) Try.sizeOf28 rfl rfl (unhide R3) rfl (fun v hv => by simp at hv; rcases hv with rfl | rfl | rfl <;> rfl) ?_; intro w4 k9 g9; have K9 := hide k9; have G9 := hide g9; clear k9 g9))
  have K4 := (unhide K3).own (unhide G9) (Nat.le_refl _)
  exact bodyPost_ret (results_cell (vs := [.int .i64 x0, .int .i64 x1, .int .i64 x2]) rfl Try.isAgg28 Try.sizeOf28 rfl (unhide K9)) rfl ⟨x0, x1, x2, rfl, ⟨h0, h1, h2⟩, K4.d, K4.gr⟩
/-- A task as it is drawn. -/
def TkD (nm : ByteArray) (n : Int) (t : Ts) : Prop := t.nm = nm ∧ (0 ≤ t.h ∧ t.h ≤ 149) ∧ (0 ≤ t.c ∧ t.c ≤ 89) ∧ (0 ≤ t.d ∧ t.d ≤ 200) ∧ (0 < t.h ∨ 0 < t.d) ∧ (0 ≤ t.dh ∧ t.dh < n) ∧ (0 ≤ t.dc ∧ t.dc < n) ∧ (0 ≤ t.dd ∧ t.dd < n)
theorem mul_two {x y n : Int} (hx : 0 ≤ x ∧ x < n) (hy : 0 ≤ y ∧ y < 2) : 0 ≤ x * y ∧ x * y < n := by
  rcases (show y = 0 ∨ y = 1 by omega) with rfl | rfl <;> omega
set_option maxRecDepth 20000 in
set_option maxHeartbeats 4000000 in
theorem drTask {w : World} {C : Nat} {a : Option Addr} {len cap : Nat} (nm : ByteArray) (n : Int) (W : World) (h : Dr w C a len cap W) (hin : ∀ b off, a = some ⟨b, off, none⟩ → b < w.heap.size) (hn : 1 ≤ n ∧ n ≤ 1000000) :
    Calls Try.prog 79 #[.pointer (some ⟨C, 0, none⟩), .string nm, .int .i64 n] W fun e w' => ∃ t : Ts, e = .returned (.agg #[.string t.nm, .int .i64 t.h, .int .i64 t.c, .int .i64 t.d, .int .i64 t.dh, .int .i64 t.dc, .int .i64 t.dd]) ∧ TkD nm n t ∧ Dr w C a len cap w' ∧ W.grownBy w' (some C) := by
  have hC : W.heap.size ≠ C := Nat.ne_of_gt h.lt
  have hin' := hin
  obtain ⟨V0, hV0⟩ : ∃ V, V = W.alloc (Obj.cells #[.string ⟨#[]⟩, .int .i64 0, .int .i64 0, .int .i64 0, .int .i64 0, .int .i64 0, .int .i64 0] 44) := ⟨_, rfl⟩
  have b0 : Below W.heap.size W V0 := by rw [hV0]; exact bel1 _
  have K0 : Hid (Dk w C a len cap W V0) := hide ((Dk.start h hin).below b0)
  have R0 : Hid (Blk V0 W.heap.size [.string ⟨#[]⟩, .int .i64 0, .int .i64 0, .int .i64 0, .int .i64 0, .int .i64 0, .int .i64 0]) := hide (by rw [hV0]; exact Blk.new _ _)
  have HW := hide hV0
  have HIN := hide hin
  clear hV0 b0 h hin hin'
  go_enter Try.func79, Try.ntmps79
  go_upto_region 1 with fail
  rw [← unhide HW]
  clear HW
  go_wp2_with fail
  refine (drBelow 150 _ (unhide K0).d (by omega)).mono ?_
  rintro e w1 ⟨x0, rfl, h0, d, gr⟩
  have K1 := hide ((unhide K0).call gr d)
  have R1 := hide ((unhide R0).apart gr (fun e => hC (Option.some.inj e)))
  clear d gr K0 R0
  go_wp2_with fail
  refine (drBelow 2 _ (unhide K1).d (by omega)).mono ?_
  rintro e w2 ⟨x1, rfl, h1, d, gr⟩
  have K2 := hide ((unhide K1).call gr d)
  have R2 := hide ((unhide R1).apart gr (fun e => hC (Option.some.inj e)))
  clear d gr K1 R1
  obtain ⟨p, hp⟩ : ∃ p, x0 * x1 = p := ⟨_, rfl⟩
  have hpb : 0 ≤ p ∧ p < 150 := by rw [← hp]; exact mul_two h0 h1
  have HP := hide hp
  have hw1 : IntKind.i64.wrap (x0 * x1) = p := by rw [hp, IntKind.wrap_i64]; omega
  clear hp
  go_wp2_with fail
  refine (drBelow 90 _ (unhide K2).d (by omega)).mono ?_
  rintro e w3 ⟨x2, rfl, h2, d, gr⟩
  have K3 := hide ((unhide K2).call gr d)
  have R3 := hide ((unhide R2).apart gr (fun e => hC (Option.some.inj e)))
  clear d gr K2 R2
  go_wp2_with fail
  refine (drBelow 2 _ (unhide K3).d (by omega)).mono ?_
  rintro e w4 ⟨x3, rfl, h3, d, gr⟩
  have K4 := hide ((unhide K3).call gr d)
  have R4 := hide ((unhide R3).apart gr (fun e => hC (Option.some.inj e)))
  clear d gr K3 R3
  obtain ⟨q, hq⟩ : ∃ q, x2 * x3 = q := ⟨_, rfl⟩
  have hqb : 0 ≤ q ∧ q < 90 := by rw [← hq]; exact mul_two h2 h3
  have HQ := hide hq
  have hw2 : IntKind.i64.wrap (x2 * x3) = q := by rw [hq, IntKind.wrap_i64]; omega
  clear hq
  go_wp2_with fail
  refine (drBelow 200 _ (unhide K4).d (by omega)).mono ?_
  rintro e w5 ⟨x4, rfl, h4, d, gr⟩
  have K5 := hide ((unhide K4).call gr d)
  have R5 := hide ((unhide R4).apart gr (fun e => hC (Option.some.inj e)))
  clear d gr K4 R4
  go_wp2_with fail
  refine (drClock n _ (unhide K5).d (unhide HIN) hn).mono ?_
  rintro e w6 ⟨y0, y1, y2, rfl, hy, d, gr⟩
  have K6 := hide ((unhide K5).call gr d)
  have R6 := hide ((unhide R5).apart gr (fun e => hC (Option.some.inj e)))
  obtain ⟨D, hD⟩ : ∃ D, 1 + x4 = D := ⟨_, rfl⟩
  have hDb : 1 ≤ D ∧ D ≤ 200 := by omega
  rw [hD]
  have HD := hide hD
  clear d gr K5 R5 hD hw1 hw2
  obtain ⟨V6, hV6⟩ : ∃ V, V = w6.alloc (Obj.cells #[.string nm, .int .i64 p, .int .i64 q, .int .i64 D, .int .i64 y0, .int .i64 y1, .int .i64 y2] 44) := ⟨_, rfl⟩
  have TB6 : Hid (Blk V6 w6.heap.size [.string nm, .int .i64 p, .int .i64 q, .int .i64 D, .int .i64 y0, .int .i64 y1, .int .i64 y2]) := hide (by rw [hV6]; exact Blk.new _ _)
  have b7 : Below w6.heap.size w6 V6 := by rw [hV6]; exact bel1 _
  have K7 := hide ((unhide K6).below b7)
  have R7 := hide ((unhide R6).below b7)
  have hT : w6.heap.size ≠ C := by have := (unhide K6).d.lt; omega
  have hTR : w6.heap.size ≠ W.heap.size := by have := (unhide R6).lt; omega
  have hT0 : W.heap.size ≤ w6.heap.size := (unhide K6).g.size
  have t1 : V6.cell? ⟨w6.heap.size, 1, none⟩ = some (.int .i64 p) := (unhide TB6).c 1 (by simp)
  have HV6 := hide hV6
  clear hV6 b7 K6 R6
  go_upto_region 2 with fail
  rw [← unhide HV6]
  clear HV6
  by_cases hp0 : 0 < p
  · have hp1 : decide (0 < p) = true := by simpa using hp0
    go_wp2_with fail
    refine (drOnce 2 _ (unhide K7).d (by omega)).mono ?_
    rintro e w7 ⟨b, rfl, d, gr⟩
    have K8 := hide ((unhide K7).call gr d)
    have R8 := hide ((unhide R7).apart gr (fun e => hC (Option.some.inj e)))
    have TB8 := hide ((unhide TB6).apart gr (fun e => hT (Option.some.inj e)))
    clear d gr K7 R7 TB6 t1
    cases b
    · go_upto_region 4 with fail
      go_wp2_with (first
        | ((with_reducible show wpList _ _ _ (⟨_, .load 44 _, _, _, _, none⟩ :: _) _ _); refine at_loadAgg (vs := [.string nm, .int .i64 p, .int .i64 q, .int .i64 D, .int .i64 y0, .int .i64 y1, .int .i64 y2]) Try.isAgg44 Try.sizeOf44 rfl (unhide TB8) ?_)
        | ((with_reducible show wpList _ _ _ (⟨none, .store 44 _ _, _, _, _, none⟩ :: _) _ _); refine at_storeAgg (us := [.string ⟨#[]⟩, .int .i64 0, .int .i64 0, .int .i64 0, .int .i64 0, .int .i64 0, .int .i64 0]) (vs := [.string nm, .int .i64 p, .int .i64 q, .int .i64 D, .int .i64 y0, .int .i64 y1, .int .i64 y2]) Try.sizeOf44 rfl rfl (unhide R8) rfl (fun v hv => by simp at hv; rcases hv with rfl | rfl | rfl | rfl | rfl | rfl | rfl <;> rfl) ?_; intro wz k9 g9; have K9 := hide k9; have G9 := hide g9; clear k9 g9))
      have KZ := (unhide K8).own (unhide G9) (Nat.le_refl _)
      exact bodyPost_ret (results_cell (vs := [.string nm, .int .i64 p, .int .i64 q, .int .i64 D, .int .i64 y0, .int .i64 y1, .int .i64 y2]) rfl Try.isAgg44 Try.sizeOf44 rfl (unhide K9)) rfl ⟨⟨nm, p, q, D, y0, y1, y2⟩, rfl, ⟨rfl, (show 0 ≤ p ∧ p ≤ 149 by omega), (show 0 ≤ q ∧ q ≤ 89 by omega), (show 0 ≤ D ∧ D ≤ 200 by omega), .inr (show 0 < D by omega), hy.1, hy.2.1, hy.2.2⟩, KZ.d, KZ.gr⟩
    · have t3 : w7.cell? ⟨w6.heap.size, 3, none⟩ = some (.int .i64 D) := (unhide TB8).c 3 (by simp)
      have f3 : w7.frozen? ⟨w6.heap.size, 3, none⟩ = false := (unhide TB8).f 3 (by simp)
      go_upto_region 4 with fail
      obtain ⟨V8, hV8⟩ : ∃ V, V = w7.setCell ⟨w6.heap.size, 3, none⟩ (.int .i64 0) := ⟨_, rfl⟩
      have K9 : Hid (Dk w C a len cap W V8) := hide (by rw [hV8]; exact (unhide K8).own (grown_set (grown_refl w7 (some w6.heap.size)) 3 _) hT0)
      have R9 : Hid (Blk V8 W.heap.size [.string ⟨#[]⟩, .int .i64 0, .int .i64 0, .int .i64 0, .int .i64 0, .int .i64 0, .int .i64 0]) := hide (by rw [hV8]; exact (unhide R8).other (by simpa using hTR) _)
      have TB9 : Hid (Blk V8 w6.heap.size [.string nm, .int .i64 p, .int .i64 q, .int .i64 0, .int .i64 y0, .int .i64 y1, .int .i64 y2]) := hide (by rw [hV8]; have k := (unhide TB8).set 3 (by simp) (.int .i64 0); simpa using k)
      rw [← hV8]
      clear hV8 t3 f3 K8 R8 TB8
      go_wp2_with (first
        | ((with_reducible show wpList _ _ _ (⟨_, .load 44 _, _, _, _, none⟩ :: _) _ _); refine at_loadAgg (vs := [.string nm, .int .i64 p, .int .i64 q, .int .i64 0, .int .i64 y0, .int .i64 y1, .int .i64 y2]) Try.isAgg44 Try.sizeOf44 rfl (unhide TB9) ?_)
        | ((with_reducible show wpList _ _ _ (⟨none, .store 44 _ _, _, _, _, none⟩ :: _) _ _); refine at_storeAgg (us := [.string ⟨#[]⟩, .int .i64 0, .int .i64 0, .int .i64 0, .int .i64 0, .int .i64 0, .int .i64 0]) (vs := [.string nm, .int .i64 p, .int .i64 q, .int .i64 0, .int .i64 y0, .int .i64 y1, .int .i64 y2]) Try.sizeOf44 rfl rfl (unhide R9) rfl (fun v hv => by simp at hv; rcases hv with rfl | rfl | rfl | rfl | rfl | rfl | rfl <;> rfl) ?_; intro wz k9 g9; have K10 := hide k9; have G9 := hide g9; clear k9 g9))
      have KZ := (unhide K9).own (unhide G9) (Nat.le_refl _)
      exact bodyPost_ret (results_cell (vs := [.string nm, .int .i64 p, .int .i64 q, .int .i64 0, .int .i64 y0, .int .i64 y1, .int .i64 y2]) rfl Try.isAgg44 Try.sizeOf44 rfl (unhide K10)) rfl ⟨⟨nm, p, q, 0, y0, y1, y2⟩, rfl, ⟨rfl, (show 0 ≤ p ∧ p ≤ 149 by omega), (show 0 ≤ q ∧ q ≤ 89 by omega), ⟨Int.le_refl _, show (0 : Int) ≤ 200 by omega⟩, .inl (show 0 < p by omega), hy.1, hy.2.1, hy.2.2⟩, KZ.d, KZ.gr⟩
  · have hp1 : decide (0 < p) = false := by simpa using hp0
    go_upto_region 4 with fail
    go_wp2_with (first
      | ((with_reducible show wpList _ _ _ (⟨_, .load 44 _, _, _, _, none⟩ :: _) _ _); refine at_loadAgg (vs := [.string nm, .int .i64 p, .int .i64 q, .int .i64 D, .int .i64 y0, .int .i64 y1, .int .i64 y2]) Try.isAgg44 Try.sizeOf44 rfl (unhide TB6) ?_)
      | ((with_reducible show wpList _ _ _ (⟨none, .store 44 _ _, _, _, _, none⟩ :: _) _ _); refine at_storeAgg (us := [.string ⟨#[]⟩, .int .i64 0, .int .i64 0, .int .i64 0, .int .i64 0, .int .i64 0, .int .i64 0]) (vs := [.string nm, .int .i64 p, .int .i64 q, .int .i64 D, .int .i64 y0, .int .i64 y1, .int .i64 y2]) Try.sizeOf44 rfl rfl (unhide R7) rfl (fun v hv => by simp at hv; rcases hv with rfl | rfl | rfl | rfl | rfl | rfl | rfl <;> rfl) ?_; intro wz k9 g9; have K9 := hide k9; have G9 := hide g9; clear k9 g9))
    have KZ := (unhide K7).own (unhide G9) (Nat.le_refl _)
    exact bodyPost_ret (results_cell (vs := [.string nm, .int .i64 p, .int .i64 q, .int .i64 D, .int .i64 y0, .int .i64 y1, .int .i64 y2]) rfl Try.isAgg44 Try.sizeOf44 rfl (unhide K9)) rfl ⟨⟨nm, p, q, D, y0, y1, y2⟩, rfl, ⟨rfl, (show 0 ≤ p ∧ p ≤ 149 by omega), (show 0 ≤ q ∧ q ≤ 89 by omega), (show 0 ≤ D ∧ D ≤ 200 by omega), .inr (show 0 < D by omega), hy.1, hy.2.1, hy.2.2⟩, KZ.d, KZ.gr⟩

end Go.Proofs.Ytfnnfldfnjnlfag

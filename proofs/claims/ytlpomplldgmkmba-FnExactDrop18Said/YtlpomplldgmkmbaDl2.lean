/-
  The model's Drop18: the plain answer, in memory of its own; nothing that was there is written. At lists of at most 1048576.
  What stays aboard is no more than what was there. No program here.
-/
import Derived.Test.YtlpomplldgmkmbaAi2
import Derived.Test.YtlpomplldgmkmbaSp1
import Derived.Test.YtlpomplldgmkmbaRegInv

namespace Go.Proofs.Ytlpomplldgmkmba
open Go Go.RowKit

theorem rowE_take {w : World} {a : Option Addr} {len : Nat} {us : List Lx} (h : RowE 6 lxC w a len us) (k : Nat) (hk : k ≤ len) : RowE 6 lxC w a k (us.take k) := by
  have hz := h.len_eq
  have hs := h.small
  refine ⟨by rw [List.length_take]; omega, by omega, fun i hi => ?_⟩
  obtain ⟨b, off, ha, hc⟩ := h.at_ i (by omega)
  exact ⟨b, off, ha, fun q hq => by rw [hc q hq, show elAt (us.take k) i = elAt us i by simp [elAt, hi]]⟩
theorem rowE_drop {w : World} {g len : Nat} {us : List Lx} (h : RowE 6 lxC w (some ⟨g, 0, none⟩) len us) (k : Nat) (hk : k ≤ len) : RowE 6 lxC w (some ⟨g, k * 6, none⟩) (len - k) (us.drop k) := by
  have hz := h.len_eq
  have hs := h.small
  refine ⟨by rw [List.length_drop]; omega, by omega, fun i hi => ⟨g, k * 6, rfl, fun q hq => ?_⟩⟩
  obtain ⟨b, off, ha, hc⟩ := h.at_ (k + i) (by omega)
  simp only [Option.some.injEq, Addr.mk.injEq, and_true] at ha
  obtain ⟨rfl, rfl⟩ := ha
  have := hc q hq
  rw [show elAt (us.drop k) i = elAt us (k + i) by simp [elAt, List.getElem?_drop], ← this]
  congr 2; omega
theorem rowE_zero {w : World} {a : Option Addr} {us : List Lx} (h : us = []) : RowE 6 lxC w a 0 us := ⟨by rw [h]; rfl, by omega, fun i hi => by omega⟩
structure DrR (w : World) (w5 : World) (B6 : Nat) (g : Nat) (n : Nat) (c : Nat) (k : Nat) (m : Nat) (d : Nat) (CX : Nat) (base : Nat) (s : Int) (XA : Option Addr) (us : List Lx) (t0 t1 t2 t3 t4 t5 t6 t7 t8 t9 t10 t11 t12 t13 : Bool) (v0 v1 v2 v3 v4 v5 v6 v7 v8 v9 v10 v11 v12 : Value) (W : World) : Prop where
  bel : Below w.heap.size w W
  siz : w5.heap.size ≤ W.heap.size
  k1 : Blk W (w.heap.size + 1) [.int .i64 0, .slice none 0 0]
  k6 : Blk W B6 (bif t13 then [.int .i64 s, v11] else [.int .i64 s, .slice (some ⟨g, 0, none⟩) n c])
  own : OwnLd W base (.slice (some ⟨g, 0, none⟩) n c) us
  e0 : t0 = true → t5 = false → ∃ H, v0 = .slice (some ⟨H, 0, none⟩) 0 0 ∧ OwnE 6 lxC W w5.heap.size 44 v0 []
  e1 : t1 = true → v1 = .pointer (some ⟨B6, 1, none⟩)
  e2 : t2 = true → v2 = .slice (some ⟨g, 0, none⟩) n c
  e3 : t3 = true → v3 = .int .i64 (k : Int)
  e4 : t4 = true → v4 = .slice (some ⟨g, 0, none⟩) k c
  e5 : t5 = true → t11 = false → ∃ H cap, v5 = .slice (some ⟨H, 0, none⟩) k cap ∧ OwnE 6 lxC W w5.heap.size 44 v5 (us.take k)
  e6 : t6 = true → v6 = .pointer (some ⟨B6, 1, none⟩)
  e7 : t7 = true → v7 = .slice (some ⟨g, 0, none⟩) n c
  e8 : t8 = true → v8 = .int .i64 (k : Int)
  e9 : t9 = true → v9 = .int .i64 ((k : Int) + 1)
  e10 : t10 = true → v10 = .slice XA d CX
  e11 : t11 = true → ∃ H cap, v11 = .slice (some ⟨H, 0, none⟩) m cap ∧ OwnE 6 lxC W w5.heap.size 44 v11 (dlL us k)
  e12 : t12 = true → v12 = .pointer (some ⟨B6, 1, none⟩)
  n5 : t5 = true → t0 = true
  n11 : t11 = true → t5 = true
  n13 : t13 = true → t11 = true ∧ t2 = true ∧ t7 = true
theorem DrR.below {w : World} {w5 : World} {B6 : Nat} {g : Nat} {n : Nat} {c : Nat} {k : Nat} {m : Nat} {d : Nat} {CX : Nat} {base : Nat} {s : Int} {XA : Option Addr} {us : List Lx} {t0 t1 t2 t3 t4 t5 t6 t7 t8 t9 t10 t11 t12 t13 : Bool} {v0 v1 v2 v3 v4 v5 v6 v7 v8 v9 v10 v11 v12 : Value} {W W' : World} (K : DrR w w5 B6 g n c k m d CX base s XA us t0 t1 t2 t3 t4 t5 t6 t7 t8 t9 t10 t11 t12 t13 v0 v1 v2 v3 v4 v5 v6 v7 v8 v9 v10 v11 v12 W) (kb : Below W.heap.size W W') : DrR w w5 B6 g n c k m d CX base s XA us t0 t1 t2 t3 t4 t5 t6 t7 t8 t9 t10 t11 t12 t13 v0 v1 v2 v3 v4 v5 v6 v7 v8 v9 v10 v11 v12 W' :=
  ⟨K.bel.trans (kb.mono K.bel.size), Nat.le_trans K.siz kb.size, K.k1.below kb, K.k6.below kb, K.own.below kb, fun h1 h2 => by obtain ⟨H, x1, x2⟩ := K.e0 h1 h2; exact ⟨H, x1, x2.below kb⟩, K.e1, K.e2, K.e3, K.e4, fun h1 h2 => by obtain ⟨H, cap, x1, x2⟩ := K.e5 h1 h2; exact ⟨H, cap, x1, x2.below kb⟩, K.e6, K.e7, K.e8, K.e9, K.e10, fun h1 => by obtain ⟨H, cap, x1, x2⟩ := K.e11 h1; exact ⟨H, cap, x1, x2.below kb⟩, K.e12, K.n5, K.n11, K.n13⟩
def DrRJ (w : World) (w5 : World) (B6 : Nat) (g : Nat) (n : Nat) (c : Nat) (k : Nat) (m : Nat) (d : Nat) (CX : Nat) (base : Nat) (s : Int) (XA : Option Addr) (us : List Lx) (S : Nat) (A0 : Act) (l : Nat → Bool) (a : Act) (V : World) : Prop := ∃ (v0 v1 v2 v3 v4 v5 v6 v7 v8 v9 v10 v11 v12 : Value), a = (((((((((((((A0.put (some (S + 0)) v0).put (some (S + 1)) v1).put (some (S + 2)) v2).put (some (S + 3)) v3).put (some (S + 4)) v4).put (some (S + 5)) v5).put (some (S + 6)) v6).put (some (S + 7)) v7).put (some (S + 8)) v8).put (some (S + 9)) v9).put (some (S + 10)) v10).put (some (S + 11)) v11).put (some (S + 12)) v12) ∧ DrR w w5 B6 g n c k m d CX base s XA us (l 0) (l 1) (l 2) (l 3) (l 4) (l 5) (l 6) (l 7) (l 8) (l 9) (l 10) (l 11) (l 12) (l 13) v0 v1 v2 v3 v4 v5 v6 v7 v8 v9 v10 v11 v12 V
theorem DrRJ.mk {w : World} {w5 : World} {B6 : Nat} {g : Nat} {n : Nat} {c : Nat} {k : Nat} {m : Nat} {d : Nat} {CX : Nat} {base : Nat} {s : Int} {XA : Option Addr} {us : List Lx} {S : Nat} {A0 : Act} {l : Nat → Bool} {a : Act} {V : World} {v0 v1 v2 v3 v4 v5 v6 v7 v8 v9 v10 v11 v12 : Value} (K : DrR w w5 B6 g n c k m d CX base s XA us (l 0) (l 1) (l 2) (l 3) (l 4) (l 5) (l 6) (l 7) (l 8) (l 9) (l 10) (l 11) (l 12) (l 13) v0 v1 v2 v3 v4 v5 v6 v7 v8 v9 v10 v11 v12 V) (h : a = (((((((((((((A0.put (some (S + 0)) v0).put (some (S + 1)) v1).put (some (S + 2)) v2).put (some (S + 3)) v3).put (some (S + 4)) v4).put (some (S + 5)) v5).put (some (S + 6)) v6).put (some (S + 7)) v7).put (some (S + 8)) v8).put (some (S + 9)) v9).put (some (S + 10)) v10).put (some (S + 11)) v11).put (some (S + 12)) v12)) : DrRJ w w5 B6 g n c k m d CX base s XA us S A0 l a V := ⟨v0, v1, v2, v3, v4, v5, v6, v7, v8, v9, v10, v11, v12, h, K⟩
theorem OwnLd.far_out {w w' : World} {base b u H : Nat} {v : Value} {us : List Lx} (h : OwnLd w base v us) (hl : LxLies b u v us) (hS : u ≤ H) (gr : w.grownBy w' (some H)) : OwnLd w' base v us :=
  ⟨h.out.far gr (fun q hq e => by have := (hl.1 q hq).2; have := Option.some.inj e; omega), fun i hi => (h.dat i hi).far gr (fun q hq e => by have := (hl.2 i hi q hq).2; have := Option.some.inj e; omega), h.apt, h.par⟩
set_option maxRecDepth 20000 in
set_option maxHeartbeats 16000000 in
theorem specDrop18_any (s : Int) (a1 : Option Addr) (l1 c1 : Nat) (zs : List Lc) (n : Int) (w : World) (hr : AbIn w a1 l1 zs) (hlz : LzB zs) :
    Calls Try.prog 27 #[.agg #[.int .i64 s, .slice a1 l1 c1], .int .i64 n] w fun e w' => ∃ a9 c9, e = .returned (.tuple #[.agg #[.int .i64 s, .slice a9 (drL s zs n).length c9], .bool (drB s zs n)]) ∧ AbOwn w' w.heap.size a9 (drL s zs n).length c9 (drL s zs n) ∧ Below w.heap.size w w' := by
  have HT := hide hr.r1
  have HZL := hide hr.r1.len_eq
  have hsm := hr.r1.small
  have HLZ := hide hlz
  clear hr hlz
  obtain ⟨W, hW⟩ : ∃ W, W = (w.alloc (Obj.cells #[.int .i64 s, .slice a1 l1 c1] 57)).alloc (Obj.cells #[.int .i64 0, .slice none 0 0] 57) := ⟨_, rfl⟩
  have K0 : Hid (Blk W w.heap.size [.int .i64 s, .slice a1 l1 c1]) := hide (by rw [hW]; exact (Blk.new _ _).alloc _)
  have K1 : Hid (Blk W (w.heap.size + 1) [.int .i64 0, .slice none 0 0]) := hide (by
    rw [hW]
    have := Blk.new (w := (w.alloc (Obj.cells #[.int .i64 s, .slice a1 l1 c1] 57))) [.int .i64 0, .slice none 0 0] 57
    simpa using this)
  have B0 : Hid (Below w.heap.size w W) := hide (by rw [hW]; exact bel2 _ _)
  have hWs : Hid (W.heap.size = w.heap.size + 2) := hide (by rw [hW]; simp)
  have a0 : W.cell? ⟨w.heap.size, 0, none⟩ = some (.int .i64 s) := (unhide K0).c 0 (by simp)
  have a1' : W.cell? ⟨w.heap.size, 1, none⟩ = some (.slice a1 l1 c1) := (unhide K0).c 1 (by simp)
  rw [hW] at a0 a1'
  have HW := hide hW
  clear hW
  go_enter Try.func27, Try.ntmps27
  go_wp2_with fail
  rw [← unhide HW]
  clear HW a0 a1'
  refine (l18Copy_any s a1 l1 c1 zs W ((unhide HT).below (unhide B0)) (unhide HLZ)).mono ?_
  rintro e w2 ⟨⟨a9, c9, rfl, ow⟩, b2⟩
  have ow := ow.mono (base' := w.heap.size + 2) (by have := unhide hWs; omega)
  obtain ⟨us, hus, ho⟩ := ow.ex
  have HOK := hide ow.ok
  have HUS := hide hus
  have HLI : Hid (LxLies (w.heap.size + 2) w2.heap.size (.slice a9 l1 c9) us) := hide ho.lies
  have HUL : Hid (us.length = l1) := hide (ownLd_len ho)
  have ow := hide ho
  clear ho hus
  have hw2 : w.heap.size + 2 ≤ w2.heap.size := by have := b2.size; have := unhide hWs; omega
  have K0 := hide ((unhide K0).below b2)
  have K1 := hide ((unhide K1).below b2)
  have B2 := hide ((unhide B0).trans (b2.mono (unhide B0).size))
  clear b2 B0 hWs
  obtain ⟨V, hV⟩ : ∃ V, V = w2.alloc (Obj.cells #[.int .i64 s, .slice a9 l1 c9] 57) := ⟨_, rfl⟩
  have bV : Below w2.heap.size w2 V := by rw [hV]; exact bel1 _
  have K6 : Hid (Blk V w2.heap.size [.int .i64 s, .slice a9 l1 c9]) := hide (by rw [hV]; exact Blk.new _ _)
  have K0 := hide ((unhide K0).below bV)
  have K1 := hide ((unhide K1).below bV)
  have BV := hide ((unhide B2).trans (bV.mono (unhide B2).size))
  have OV := hide ((unhide ow).below bV)
  obtain ⟨ι, f, _, hbf, hall⟩ := belClass V
  have HF := hide hbf
  have HAL := hide hall
  have HBF : Hid (∀ y, Below w.heap.size w (f y)) := hide (fun y => (unhide BV).trans ((hbf y).mono (unhide BV).size))
  have b0 : ∀ y, (f y).cell? ⟨w.heap.size, 0, none⟩ = some (.int .i64 s) := fun y => ((unhide K0).below (hbf y)).c 0 (by simp)
  have b1 : ∀ y, (f y).cell? ⟨w.heap.size, 1, none⟩ = some (.slice a1 l1 c1) := fun y => ((unhide K0).below (hbf y)).c 1 (by simp)
  have p0 : ∀ y, (f y).cell? ⟨w2.heap.size, 0, none⟩ = some (.int .i64 s) := fun y => ((unhide K6).below (hbf y)).c 0 (by simp)
  have p1 : ∀ y, (f y).cell? ⟨w2.heap.size, 1, none⟩ = some (.slice a9 l1 c9) := fun y => ((unhide K6).below (hbf y)).c 1 (by simp)
  have KF1 : Hid (∀ y, Blk (f y) (w.heap.size + 1) [.int .i64 0, .slice none 0 0]) := hide (fun y => (unhide K1).below (hbf y))
  have KF6 : Hid (∀ y, Blk (f y) w2.heap.size [.int .i64 s, .slice a9 l1 c9]) := hide (fun y => (unhide K6).below (hbf y))
  have OF : Hid (∀ y, OwnLd (f y) (w.heap.size + 2) (.slice a9 l1 c9) us) := hide (fun y => (unhide OV).below (hbf y))
  have CA : Hid (∀ y, Calls Try.prog 23 #[.agg #[.int .i64 s, .slice a1 l1 c1]] (f y) fun e w' => e = .returned (.bool (abB s zs)) ∧ Below (f y).heap.size (f y) w') := hide (fun y => specAboardOk_any s _ _ _ zs (f y) ⟨(unhide HT).below ((unhide HBF) y)⟩)
  have CF : Hid (∀ y, Calls Try.prog 55 #[.agg #[.int .i64 s, .slice a1 l1 c1], .int .i64 n] (f y) fun e w' => e = .returned (.int .i64 (fnF zs n)) ∧ Below (f y).heap.size (f y) w') := hide (fun y => l18Find_any s _ _ _ zs n (f y) ((unhide HT).below ((unhide HBF) y)))
  have CN : Hid (∀ y, Calls Try.prog 63 #[.agg #[.int .i64 s, .slice a1 l1 c1], .int .i64 n] (f y) fun e w' => e = .returned (.bool (neB zs n)) ∧ Below (f y).heap.size (f y) w') := hide (fun y => l18Needed_any s _ _ _ zs n (f y) ((unhide HT).below ((unhide HBF) y)))
  obtain ⟨x0, hx0⟩ := (unhide HAL) V (Below.refl _ _)
  have HX0 : Hid (w2.alloc (Obj.cells #[.int .i64 s, .slice a9 l1 c9] 57) = f x0) := hide (hV.symm.trans hx0)
  have b0w := b0 x0
  have b1w := b1 x0
  rw [← hx0, hV] at b0w b1w
  clear hbf hall hV hx0 bV K0 K1 K6 BV OV ow B2 HT
  have HB3 : Hid (drB s zs n = (abB s zs && decide (0 ≤ fnF zs n) && !neB zs n)) := hide rfl
  cases qa : abB s zs with
  | false =>
    rw [qa] at CA HB3
    have HDB : Hid (drB s zs n = false) := hide (by rw [unhide HB3]; rfl)
    have HDL : Hid (drL s zs n = zs) := hide (by rw [drL, unhide HDB]; simp)
    go_wp2_with fail
    rw [unhide HX0]
    clear HX0 b0w b1w
    go_wp2_with (first | (go_at_call 55; refine (belQ (unhide HF) (unhide HAL) (unhide CF _)).mono ?_; rintro e _ ⟨rfl, y, rfl⟩) | (go_at_call 23; refine (belQ (unhide HF) (unhide HAL) (unhide CA _)).mono ?_; rintro e _ ⟨rfl, y1, rfl⟩) | (go_at_call 63; refine (belQ (unhide HF) (unhide HAL) (unhide CN _)).mono ?_; rintro e _ ⟨rfl, y2, rfl⟩) | ((with_reducible show wpList _ _ _ (⟨none, .store 57 _ _, _, _, _, none⟩ :: _) _ _); refine at_storeAgg (us := [.int .i64 0, .slice none 0 0]) (vs := [.int .i64 s, .slice a9 l1 c9]) Try.sizeOf57 rfl rfl ((unhide KF1) _) rfl (by intro v hv; simp at hv; rcases hv with rfl | rfl <;> rfl) ?_; intro w5 kk gg))
    have BE : Below w.heap.size w w5 := ((unhide HBF) _).grown gg ((unhide HBF) _).size (fun q hq => by cases hq; omega)
    have OE := ((unhide OF) _).far gg (fun q hq e => by have := Option.some.inj e; omega)
    exact bodyPost_ret (results_cellB (vs := [.int .i64 s, .slice a9 l1 c9]) (x := .bool false) rfl Try.isAgg57 Try.sizeOf57 rfl kk rfl) rfl ⟨a9, c9, by rw [unhide HDL, unhide HDB, unhide HZL], ⟨by rw [unhide HDL, unhide HZL]; exact cp_ok (unhide HUS) (unhide HOK) (OE.mono (by omega))⟩, BE⟩
  | true =>
    rw [qa] at CA HB3
    rcases fnF_cases zs n with ⟨hF, _⟩ | ⟨k, hk, hF, _, _⟩
    · rw [hF] at CF HB3
      have HDB : Hid (drB s zs n = false) := hide (by rw [unhide HB3]; rfl)
      have HDL : Hid (drL s zs n = zs) := hide (by rw [drL, unhide HDB]; simp)
      clear hF
      go_wp2_with fail
      rw [unhide HX0]
      clear HX0 b0w b1w
      go_wp2_with (first | (go_at_call 55; refine (belQ (unhide HF) (unhide HAL) (unhide CF _)).mono ?_; rintro e _ ⟨rfl, y, rfl⟩) | (go_at_call 23; refine (belQ (unhide HF) (unhide HAL) (unhide CA _)).mono ?_; rintro e _ ⟨rfl, y1, rfl⟩) | (go_at_call 63; refine (belQ (unhide HF) (unhide HAL) (unhide CN _)).mono ?_; rintro e _ ⟨rfl, y2, rfl⟩) | ((with_reducible show wpList _ _ _ (⟨none, .store 57 _ _, _, _, _, none⟩ :: _) _ _); refine at_storeAgg (us := [.int .i64 0, .slice none 0 0]) (vs := [.int .i64 s, .slice a9 l1 c9]) Try.sizeOf57 rfl rfl ((unhide KF1) _) rfl (by intro v hv; simp at hv; rcases hv with rfl | rfl <;> rfl) ?_; intro w5 kk gg))
      have BE : Below w.heap.size w w5 := ((unhide HBF) _).grown gg ((unhide HBF) _).size (fun q hq => by cases hq; omega)
      have OE := ((unhide OF) _).far gg (fun q hq e => by have := Option.some.inj e; omega)
      exact bodyPost_ret (results_cellB (vs := [.int .i64 s, .slice a9 l1 c9]) (x := .bool false) rfl Try.isAgg57 Try.sizeOf57 rfl kk rfl) rfl ⟨a9, c9, by rw [unhide HDL, unhide HDB, unhide HZL], ⟨by rw [unhide HDL, unhide HZL]; exact cp_ok (unhide HUS) (unhide HOK) (OE.mono (by omega))⟩, BE⟩
    · have HFK := hide hF
      rw [hF] at CF HB3
      clear hF
      have n1 : ((k : Int) == -1) = false := by simp only [beq_eq_false_iff_ne]; omega
      have n2 : decide ((k : Int) = -1) = false := by simp only [decide_eq_false_iff_not]; omega
      have n3 : ¬ ((k : Int) < 0) := by omega
      have n4 : decide ((k : Int) < 0) = false := by simp only [decide_eq_false_iff_not]; omega
      cases qn : neB zs n with
      | true =>
        rw [qn] at CN HB3
        have HDB : Hid (drB s zs n = false) := hide (by rw [unhide HB3]; simp)
        have HDL : Hid (drL s zs n = zs) := hide (by rw [drL, unhide HDB]; simp)
        clear hk
        go_wp2_with fail
        rw [unhide HX0]
        clear HX0 b0w b1w
        go_wp2_with (first | (go_at_call 55; refine (belQ (unhide HF) (unhide HAL) (unhide CF _)).mono ?_; rintro e _ ⟨rfl, y, rfl⟩) | (go_at_call 23; refine (belQ (unhide HF) (unhide HAL) (unhide CA _)).mono ?_; rintro e _ ⟨rfl, y1, rfl⟩) | (go_at_call 63; refine (belQ (unhide HF) (unhide HAL) (unhide CN _)).mono ?_; rintro e _ ⟨rfl, y2, rfl⟩) | ((with_reducible show wpList _ _ _ (⟨none, .store 57 _ _, _, _, _, none⟩ :: _) _ _); refine at_storeAgg (us := [.int .i64 0, .slice none 0 0]) (vs := [.int .i64 s, .slice a9 l1 c9]) Try.sizeOf57 rfl rfl ((unhide KF1) _) rfl (by intro v hv; simp at hv; rcases hv with rfl | rfl <;> rfl) ?_; intro w5 kk gg))
        have BE : Below w.heap.size w w5 := ((unhide HBF) _).grown gg ((unhide HBF) _).size (fun q hq => by cases hq; omega)
        have OE := ((unhide OF) _).far gg (fun q hq e => by have := Option.some.inj e; omega)
        exact bodyPost_ret (results_cellB (vs := [.int .i64 s, .slice a9 l1 c9]) (x := .bool false) rfl Try.isAgg57 Try.sizeOf57 rfl kk rfl) rfl ⟨a9, c9, by rw [unhide HDL, unhide HDB, unhide HZL], ⟨by rw [unhide HDL, unhide HZL]; exact cp_ok (unhide HUS) (unhide HOK) (OE.mono (by omega))⟩, BE⟩
      | false =>
        rw [qn] at CN HB3
        have HDB : Hid (drB s zs n = true) := hide (by rw [unhide HB3]; simp)
        have HDL : Hid (drL s zs n = zs.take k ++ zs.drop (k + 1)) := hide (by rw [drL, unhide HDB, unhide HFK]; simp)
        obtain ⟨m, hm⟩ : ∃ m, l1 = m + 1 := ⟨l1 - 1, by have := unhide HZL; omega⟩
        obtain ⟨d, hd0⟩ : ∃ d, d = l1 - (k + 1) := ⟨_, rfl⟩
        have h30 : l1 ≤ 30 := by have := (abB_facts qa).2.2; have := unhide HZL; omega
        have hkl : k < l1 := by have := unhide HZL; omega
        have HDL2 : Hid (k + d ≤ 1100000 ∧ us.length = l1) := hide ⟨by omega, unhide HUL⟩
        have HKN : Hid (k ≤ us.length ∧ us.length ≤ 30) := hide (by have := unhide HUL; omega)
        have HDM : Hid ((dlL us k).length = m) := hide (by rw [dlL_len (by have := unhide HUL; omega), unhide HUL]; omega)
        have HML : Hid ((zs.take k ++ zs.drop (k + 1)).length = m) := hide (by have := dlL_len hk; rw [dlL, unhide HZL] at this; rw [this]; omega)
        have HKB := hide hk
        obtain ⟨g, e9⟩ : ∃ g, a9 = some ⟨g, 0, none⟩ := by
          rcases (unhide OF x0).out.form with ⟨e, e2⟩ | ⟨g, cap, e, _⟩
          · have := unhide HUL; rw [e2] at this; simp at this; omega
          · simp only [Value.slice.injEq] at e; exact ⟨g, e.1⟩
        subst e9
        have hlc : l1 ≤ c9 := by
          rcases (unhide OF x0).out.form with ⟨e, _⟩ | ⟨g2, cap, e, _, _, h1, _⟩
          · cases e
          · simp only [Value.slice.injEq] at e
            have := unhide HUL; omega
        have hcm : c9 ≤ 9223372036854775807 := by
          rcases (unhide OF x0).out.form with ⟨e, _⟩ | ⟨g2, cap, e, _, _, _, h1⟩
          · cases e
          · simp only [Value.slice.injEq] at e
            unfold maxLen at h1; omega
        obtain ⟨XA, hXA⟩ : ∃ XA, (if c9 = k + 1 then some (⟨g, 0, none⟩ : Addr) else some ⟨g, (k + 1) * 6, none⟩) = XA := ⟨_, rfl⟩
        have HRF : Hid (∀ W, RowE 6 lxC W (some ⟨g, 0, none⟩) l1 us → RowE 6 lxC W (some ⟨g, 0, none⟩) k (us.take k)) := hide (fun W h => rowE_take h k (by omega))
        have HRD : Hid (∀ W, RowE 6 lxC W (some ⟨g, 0, none⟩) l1 us → RowE 6 lxC W XA d (us.drop (k + 1))) := hide (fun W h => by
          rw [← hXA, hd0]
          split
          · have h0 : l1 - (k + 1) = 0 := by omega
            rw [h0]
            exact rowE_zero (by rw [List.drop_of_length_le (by have := unhide HUL; omega)])
          · exact rowE_drop h (k + 1) (by omega))
        have HDE := hide hd0
        have hk0 : (0 : Int) ≤ (k : Int) := by omega
        have hki : (k : Int) ≤ (c9 : Int) := by omega
        have hkc : k ≤ c9 := by omega
        have hkl1 : k ≤ l1 := by omega
        have hk1a : (0 : Int) ≤ (k : Int) + 1 := by omega
        have hk1b : (k : Int) + 1 ≤ (l1 : Int) := by omega
        have hk1c : k + 1 ≤ l1 := by omega
        have htn : ((k : Int) + 1).toNat = k + 1 := by omega
        have hkw : (k : Int) + 1 ≤ 31 := by omega
        have hd1 : l1 - (k + 1) = d := hd0.symm
        clear hk hm qa hd0
        go_wp2_with fail
        rw [unhide HX0]
        clear HX0 b0w b1w
        go_wp2_with (first | (go_at_call 55; refine (belQ (unhide HF) (unhide HAL) (unhide CF _)).mono ?_; rintro e _ ⟨rfl, y, rfl⟩) | (go_at_call 23; refine (belQ (unhide HF) (unhide HAL) (unhide CA _)).mono ?_; rintro e _ ⟨rfl, y1, rfl⟩) | (go_at_call 63; refine (belQ (unhide HF) (unhide HAL) (unhide CN _)).mono ?_; rintro e _ ⟨rfl, y2, rfl⟩))
        obtain ⟨w5, hw5⟩ : ∃ w5, w5 = f y2 := ⟨_, rfl⟩
        rw [← hw5]
        have BW5 : Hid (Below w.heap.size w w5) := hide (by rw [hw5]; exact (unhide HBF) _)
        have ZK1 : Hid (Blk w5 (w.heap.size + 1) [.int .i64 0, .slice none 0 0]) := hide (by rw [hw5]; exact (unhide KF1) _)
        have ZK6 : Hid (Blk w5 w2.heap.size [.int .i64 s, .slice (some ⟨g, 0, none⟩) l1 c9]) := hide (by rw [hw5]; exact (unhide KF6) _)
        have ZOW : Hid (OwnLd w5 (w.heap.size + 2) (.slice (some ⟨g, 0, none⟩) l1 c9) us) := hide (by rw [hw5]; exact (unhide OF) _)
        have HB6 : Hid (w2.heap.size < w5.heap.size) := hide (unhide ZK6).lt
        have HWB : Hid (w.heap.size + 1 < w2.heap.size) := hide (by omega)
        obtain ⟨CX, hCX⟩ : ∃ CX, c9 - (k + 1) = CX := ⟨_, rfl⟩
        have HST : Hid (DrR w w5 w2.heap.size g l1 c9 k m d CX (w.heap.size + 2) s XA us false false false false false false false false false false false false false false undef undef undef undef undef undef undef undef undef undef undef undef undef (w5.drewN 1)) := hide ⟨((unhide BW5).trans ((bel0d' 1).mono (unhide BW5).size)), (by simp), ((unhide ZK1).below (bel0d' 1)), ((unhide ZK6).below (bel0d' 1)), ((unhide ZOW).below (bel0d' 1)), (fun h => by cases h), (fun h => by cases h), (fun h => by cases h), (fun h => by cases h), (fun h => by cases h), (fun h => by cases h), (fun h => by cases h), (fun h => by cases h), (fun h => by cases h), (fun h => by cases h), (fun h => by cases h), (fun h => by cases h), (fun h => by cases h), (fun h => by cases h), (fun h => by cases h), (fun h => by cases h)⟩
        clear b0 b1 p0 p1 KF1 KF6 OF CA CF CN hw5 HBF
        refine wp_region_flagsA (by kernel_rfl) (by kernel_rfl) (DrRJ w w5 w2.heap.size g l1 c9 k m d CX (w.heap.size + 2) s XA us 26) ?_ ?_ ?_
        · exact DrRJ.mk (v0 := undef) (v1 := undef) (v2 := undef) (v3 := undef) (v4 := undef) (v5 := undef) (v6 := undef) (v7 := undef) (v8 := undef) (v9 := undef) (v10 := undef) (v11 := undef) (v12 := undef) (unhide HST) (by kernel_rfl)
        rotate_left 1
        · rintro l a V i o ho hl hd ⟨v0, v1, v2, v3, v4, v5, v6, v7, v8, v9, v10, v11, v12, rfl, K⟩
          have hi : i < 14 := (Array.getElem?_eq_some_iff.1 ho).1
          rcases (show i = 0 ∨ i = 1 ∨ i = 2 ∨ i = 3 ∨ i = 4 ∨ i = 5 ∨ i = 6 ∨ i = 7 ∨ i = 8 ∨ i = 9 ∨ i = 10 ∨ i = 11 ∨ i = 12 ∨ i = 13 from by omega) with rfl | rfl | rfl | rfl | rfl | rfl | rfl | rfl | rfl | rfl | rfl | rfl | rfl | rfl
          · simp at ho
            subst ho
            have nz : l 5 = false := by cases c : l 5; rfl; have := K.n5 c; rw [hl] at this; cases this
            have K2 := K.below (bel1 (Obj.cells #[] 44))
            have HK : Hid (DrR w w5 w2.heap.size g l1 c9 k m d CX (w.heap.size + 2) s XA us true (l 1) (l 2) (l 3) (l 4) (l 5) (l 6) (l 7) (l 8) (l 9) (l 10) (l 11) (l 12) (l 13) (.slice (some ⟨V.heap.size, 0, none⟩) 0 0) v1 v2 v3 v4 v5 v6 v7 v8 v9 v10 v11 v12 (V.alloc (Obj.cells #[] 44))) := hide ⟨(K2.bel), (K2.siz), (K2.k1), (K2.k6), (K2.own), (fun _ _ => ⟨_, rfl, ownE_none K.siz⟩), (K2.e1), (K2.e2), (K2.e3), (K2.e4), (K2.e5), (K2.e6), (K2.e7), (K2.e8), (K2.e9), (K2.e10), (K2.e11), (K2.e12), (fun _ => rfl), (K2.n11), (K2.n13)⟩
            clear K K2 hd hl nz
            go_wp2_with fail
            exact ⟨rfl, DrRJ.mk (unhide HK) (by kernel_rfl)⟩
          · simp at ho
            subst ho
            have HK : Hid (DrR w w5 w2.heap.size g l1 c9 k m d CX (w.heap.size + 2) s XA us (l 0) true (l 2) (l 3) (l 4) (l 5) (l 6) (l 7) (l 8) (l 9) (l 10) (l 11) (l 12) (l 13) v0 (.pointer (some ⟨w2.heap.size, 1, none⟩)) v2 v3 v4 v5 v6 v7 v8 v9 v10 v11 v12 V) := hide ⟨(K.bel), (K.siz), (K.k1), (K.k6), (K.own), (K.e0), (fun _ => rfl), (K.e2), (K.e3), (K.e4), (K.e5), (K.e6), (K.e7), (K.e8), (K.e9), (K.e10), (K.e11), (K.e12), (K.n5), (K.n11), (K.n13)⟩
            clear K hd hl
            go_wp2_with fail
            exact ⟨rfl, DrRJ.mk (unhide HK) (by kernel_rfl)⟩
          · simp at ho
            subst ho
            have d1 : l 1 = true := hd ⟨1, .data⟩ (by simp) rfl
            have x1 := K.e1 d1
            subst x1
            have z13 : l 13 = false := by cases c : l 13; rfl; have := K.n13 c; rw [hl] at this; cases this.2.1
            have cb := K.k6
            rw [z13] at cb
            have yy : V.cell? ⟨w2.heap.size, 1, none⟩ = some (.slice (some ⟨g, 0, none⟩) l1 c9) := cb.c 1 (by simp)
            have HK : Hid (DrR w w5 w2.heap.size g l1 c9 k m d CX (w.heap.size + 2) s XA us (l 0) (l 1) true (l 3) (l 4) (l 5) (l 6) (l 7) (l 8) (l 9) (l 10) (l 11) (l 12) (l 13) v0 (.pointer (some ⟨w2.heap.size, 1, none⟩)) (.slice (some ⟨g, 0, none⟩) l1 c9) v3 v4 v5 v6 v7 v8 v9 v10 v11 v12 V) := hide ⟨(K.bel), (K.siz), (K.k1), (K.k6), (K.own), (K.e0), (K.e1), (fun _ => rfl), (K.e3), (K.e4), (K.e5), (K.e6), (K.e7), (K.e8), (K.e9), (K.e10), (K.e11), (K.e12), (K.n5), (K.n11), (fun h => by cases z13.symm.trans h)⟩
            clear K hd hl cb z13
            go_wp2_with fail
            exact ⟨rfl, DrRJ.mk (unhide HK) (by kernel_rfl)⟩
          · simp at ho
            subst ho
            have HK : Hid (DrR w w5 w2.heap.size g l1 c9 k m d CX (w.heap.size + 2) s XA us (l 0) (l 1) (l 2) true (l 4) (l 5) (l 6) (l 7) (l 8) (l 9) (l 10) (l 11) (l 12) (l 13) v0 v1 v2 (.int .i64 (k : Int)) v4 v5 v6 v7 v8 v9 v10 v11 v12 V) := hide ⟨(K.bel), (K.siz), (K.k1), (K.k6), (K.own), (K.e0), (K.e1), (K.e2), (fun _ => rfl), (K.e4), (K.e5), (K.e6), (K.e7), (K.e8), (K.e9), (K.e10), (K.e11), (K.e12), (K.n5), (K.n11), (K.n13)⟩
            clear K hd hl
            go_wp2_with fail
            exact ⟨rfl, DrRJ.mk (unhide HK) (by kernel_rfl)⟩
          · simp at ho
            subst ho
            have d2 : l 2 = true := hd ⟨2, .data⟩ (by simp) rfl
            have x2 := K.e2 d2
            subst x2
            have d3 : l 3 = true := hd ⟨3, .data⟩ (by simp) rfl
            have x3 := K.e3 d3
            subst x3
            have HK : Hid (DrR w w5 w2.heap.size g l1 c9 k m d CX (w.heap.size + 2) s XA us (l 0) (l 1) (l 2) (l 3) true (l 5) (l 6) (l 7) (l 8) (l 9) (l 10) (l 11) (l 12) (l 13) v0 v1 (.slice (some ⟨g, 0, none⟩) l1 c9) (.int .i64 (k : Int)) (.slice (some ⟨g, 0, none⟩) k c9) v5 v6 v7 v8 v9 v10 v11 v12 V) := hide ⟨(K.bel), (K.siz), (K.k1), (K.k6), (K.own), (K.e0), (K.e1), (K.e2), (K.e3), (fun _ => rfl), (K.e5), (K.e6), (K.e7), (K.e8), (K.e9), (K.e10), (K.e11), (K.e12), (K.n5), (K.n11), (K.n13)⟩
            clear K hd hl
            go_wp2_with fail
            exact ⟨rfl, DrRJ.mk (unhide HK) (by kernel_rfl)⟩
          · simp at ho
            subst ho
            have d0 : l 0 = true := hd ⟨0, .data⟩ (by simp) rfl
            have d4 : l 4 = true := hd ⟨4, .data⟩ (by simp) rfl
            have x4 := K.e4 d4
            subst x4
            obtain ⟨H, x0, y0⟩ := K.e0 d0 hl
            have hH : w5.heap.size ≤ H := (y0.lies H (by rw [x0]; rfl)).1
            have Y := hide y0
            have HV : Hid (w5.heap.size ≤ V.heap.size) := hide K.siz
            subst x0
            have HK0 := hide K
            have HL := hide hl
            clear K hd y0 hl
            go_wp2_with (at_builtin; refine wpList_app_elsM (K := 6) (cells := lxC) (by kernel_rfl) _ _ 55 44 rfl Try.underlying55 infoLx rfl (by decide) (by decide) lxC_one (unhide Y) (by kernel_rfl) (some ⟨g, 0, none⟩) k c9 (us.take k) (by kernel_rfl) ((unhide HRF) V (unhide HK0).own.out.row) (by simp; have := unhide HKN; omega) (unhide HV) ?_; intro v9 w9 o9 gr9 nn9)
            have o9 : OwnE 6 lxC w9 w5.heap.size 44 v9 (us.take k) := o9; have hl9 : (us.take k).length = k := (by rw [List.length_take]; have := unhide HKN; omega)
            rcases o9.form with ⟨e9, _⟩ | ⟨H9, cap9, e9, _⟩
            · exact absurd (nn9 e9) (by simp)
            rw [hl9] at e9
            subst e9
            have HK : Hid (DrR w w5 w2.heap.size g l1 c9 k m d CX (w.heap.size + 2) s XA us (l 0) (l 1) (l 2) (l 3) (l 4) true (l 6) (l 7) (l 8) (l 9) (l 10) (l 11) (l 12) (l 13) (.slice (some ⟨H, 0, none⟩) 0 0) v1 v2 v3 (.slice (some ⟨g, 0, none⟩) k c9) (.slice (some ⟨H9, 0, none⟩) k cap9) v6 v7 v8 v9 v10 v11 v12 w9) := hide ⟨((unhide HK0).bel.grown gr9 (unhide HK0).bel.size (fun q hq => by have hq : H = q := Option.some.inj hq; have := unhide HWB; have := unhide HB6; omega)), (Nat.le_trans (unhide HV) gr9.size), ((unhide HK0).k1.apart gr9 (fun e => by have e : w.heap.size + 1 = H := Option.some.inj e; have := unhide HWB; have := unhide HB6; omega)), ((unhide HK0).k6.apart gr9 (fun e => by have e : w2.heap.size = H := Option.some.inj e; have := unhide HB6; omega)), ((unhide HK0).own.far_out (H := H) (unhide HLI) (by have := unhide HB6; omega) gr9), (fun _ h => by cases h), ((unhide HK0).e1), ((unhide HK0).e2), ((unhide HK0).e3), ((unhide HK0).e4), (fun _ _ => ⟨H9, cap9, rfl, o9⟩), ((unhide HK0).e6), ((unhide HK0).e7), ((unhide HK0).e8), ((unhide HK0).e9), ((unhide HK0).e10), (fun h => by have := (unhide HK0).n11 h; rw [unhide HL] at this; cases this), ((unhide HK0).e12), (fun _ => d0), (fun _ => rfl), ((unhide HK0).n13)⟩
            exact ⟨rfl, DrRJ.mk (unhide HK) (by kernel_rfl)⟩
          · simp at ho
            subst ho
            have HK : Hid (DrR w w5 w2.heap.size g l1 c9 k m d CX (w.heap.size + 2) s XA us (l 0) (l 1) (l 2) (l 3) (l 4) (l 5) true (l 7) (l 8) (l 9) (l 10) (l 11) (l 12) (l 13) v0 v1 v2 v3 v4 v5 (.pointer (some ⟨w2.heap.size, 1, none⟩)) v7 v8 v9 v10 v11 v12 V) := hide ⟨(K.bel), (K.siz), (K.k1), (K.k6), (K.own), (K.e0), (K.e1), (K.e2), (K.e3), (K.e4), (K.e5), (fun _ => rfl), (K.e7), (K.e8), (K.e9), (K.e10), (K.e11), (K.e12), (K.n5), (K.n11), (K.n13)⟩
            clear K hd hl
            go_wp2_with fail
            exact ⟨rfl, DrRJ.mk (unhide HK) (by kernel_rfl)⟩
          · simp at ho
            subst ho
            have d6 : l 6 = true := hd ⟨6, .data⟩ (by simp) rfl
            have x6 := K.e6 d6
            subst x6
            have z13 : l 13 = false := by cases c : l 13; rfl; have := K.n13 c; rw [hl] at this; cases this.2.2
            have cb := K.k6
            rw [z13] at cb
            have yy : V.cell? ⟨w2.heap.size, 1, none⟩ = some (.slice (some ⟨g, 0, none⟩) l1 c9) := cb.c 1 (by simp)
            have HK : Hid (DrR w w5 w2.heap.size g l1 c9 k m d CX (w.heap.size + 2) s XA us (l 0) (l 1) (l 2) (l 3) (l 4) (l 5) (l 6) true (l 8) (l 9) (l 10) (l 11) (l 12) (l 13) v0 v1 v2 v3 v4 v5 (.pointer (some ⟨w2.heap.size, 1, none⟩)) (.slice (some ⟨g, 0, none⟩) l1 c9) v8 v9 v10 v11 v12 V) := hide ⟨(K.bel), (K.siz), (K.k1), (K.k6), (K.own), (K.e0), (K.e1), (K.e2), (K.e3), (K.e4), (K.e5), (K.e6), (fun _ => rfl), (K.e8), (K.e9), (K.e10), (K.e11), (K.e12), (K.n5), (K.n11), (fun h => by cases z13.symm.trans h)⟩
            clear K hd hl cb z13
            go_wp2_with fail
            exact ⟨rfl, DrRJ.mk (unhide HK) (by kernel_rfl)⟩
          · simp at ho
            subst ho
            have HK : Hid (DrR w w5 w2.heap.size g l1 c9 k m d CX (w.heap.size + 2) s XA us (l 0) (l 1) (l 2) (l 3) (l 4) (l 5) (l 6) (l 7) true (l 9) (l 10) (l 11) (l 12) (l 13) v0 v1 v2 v3 v4 v5 v6 v7 (.int .i64 (k : Int)) v9 v10 v11 v12 V) := hide ⟨(K.bel), (K.siz), (K.k1), (K.k6), (K.own), (K.e0), (K.e1), (K.e2), (K.e3), (K.e4), (K.e5), (K.e6), (K.e7), (fun _ => rfl), (K.e9), (K.e10), (K.e11), (K.e12), (K.n5), (K.n11), (K.n13)⟩
            clear K hd hl
            go_wp2_with fail
            exact ⟨rfl, DrRJ.mk (unhide HK) (by kernel_rfl)⟩
          · simp at ho
            subst ho
            have d8 : l 8 = true := hd ⟨8, .data⟩ (by simp) rfl
            have x8 := K.e8 d8
            subst x8
            have HK : Hid (DrR w w5 w2.heap.size g l1 c9 k m d CX (w.heap.size + 2) s XA us (l 0) (l 1) (l 2) (l 3) (l 4) (l 5) (l 6) (l 7) (l 8) true (l 10) (l 11) (l 12) (l 13) v0 v1 v2 v3 v4 v5 v6 v7 (.int .i64 (k : Int)) (.int .i64 ((k : Int) + 1)) v10 v11 v12 V) := hide ⟨(K.bel), (K.siz), (K.k1), (K.k6), (K.own), (K.e0), (K.e1), (K.e2), (K.e3), (K.e4), (K.e5), (K.e6), (K.e7), (K.e8), (fun _ => rfl), (K.e10), (K.e11), (K.e12), (K.n5), (K.n11), (K.n13)⟩
            clear K hd hl
            go_wp2_with fail
            exact ⟨rfl, DrRJ.mk (unhide HK) (by kernel_rfl)⟩
          · simp at ho
            subst ho
            have d7 : l 7 = true := hd ⟨7, .data⟩ (by simp) rfl
            have x7 := K.e7 d7
            subst x7
            have d9 : l 9 = true := hd ⟨9, .data⟩ (by simp) rfl
            have x9 := K.e9 d9
            subst x9
            have HK : Hid (DrR w w5 w2.heap.size g l1 c9 k m d CX (w.heap.size + 2) s XA us (l 0) (l 1) (l 2) (l 3) (l 4) (l 5) (l 6) (l 7) (l 8) (l 9) true (l 11) (l 12) (l 13) v0 v1 v2 v3 v4 v5 v6 (.slice (some ⟨g, 0, none⟩) l1 c9) v8 (.int .i64 ((k : Int) + 1)) (.slice XA d CX) v11 v12 V) := hide ⟨(K.bel), (K.siz), (K.k1), (K.k6), (K.own), (K.e0), (K.e1), (K.e2), (K.e3), (K.e4), (K.e5), (K.e6), (K.e7), (K.e8), (K.e9), (fun _ => rfl), (K.e11), (K.e12), (K.n5), (K.n11), (K.n13)⟩
            clear K hd hl
            go_wp2_with fail
            exact ⟨rfl, DrRJ.mk (unhide HK) (by kernel_rfl)⟩
          · simp at ho
            subst ho
            have d5 : l 5 = true := hd ⟨5, .data⟩ (by simp) rfl
            have d10 : l 10 = true := hd ⟨10, .data⟩ (by simp) rfl
            have x10 := K.e10 d10
            subst x10
            obtain ⟨H, cap, x5, y5⟩ := K.e5 d5 hl
            have hH : w5.heap.size ≤ H := (y5.lies H (by rw [x5]; rfl)).1
            have Y := hide y5
            have HV : Hid (w5.heap.size ≤ V.heap.size) := hide K.siz
            subst x5
            have HK0 := hide K
            have HL := hide hl
            clear K hd y5 hl
            go_wp2_with (at_builtin; refine wpList_app_elsM (K := 6) (cells := lxC) (by kernel_rfl) _ _ 55 44 rfl Try.underlying55 infoLx rfl (by decide) (by decide) lxC_one (unhide Y) (by kernel_rfl) XA d CX (us.drop (k + 1)) (by kernel_rfl) ((unhide HRD) V (unhide HK0).own.out.row) (by have := unhide HDL2; rw [List.length_take]; omega) (unhide HV) ?_; intro v9 w9 o9 gr9 nn9)
            have o9 : OwnE 6 lxC w9 w5.heap.size 44 v9 (dlL us k) := o9; have hl9 : (dlL us k).length = m := unhide HDM
            rcases o9.form with ⟨e9, _⟩ | ⟨H9, cap9, e9, _⟩
            · exact absurd (nn9 e9) (by simp)
            rw [hl9] at e9
            subst e9
            have HK : Hid (DrR w w5 w2.heap.size g l1 c9 k m d CX (w.heap.size + 2) s XA us (l 0) (l 1) (l 2) (l 3) (l 4) (l 5) (l 6) (l 7) (l 8) (l 9) (l 10) true (l 12) (l 13) v0 v1 v2 v3 v4 (.slice (some ⟨H, 0, none⟩) k cap) v6 v7 v8 v9 (.slice XA d CX) (.slice (some ⟨H9, 0, none⟩) m cap9) v12 w9) := hide ⟨((unhide HK0).bel.grown gr9 (unhide HK0).bel.size (fun q hq => by have hq : H = q := Option.some.inj hq; have := unhide HWB; have := unhide HB6; omega)), (Nat.le_trans (unhide HV) gr9.size), ((unhide HK0).k1.apart gr9 (fun e => by have e : w.heap.size + 1 = H := Option.some.inj e; have := unhide HWB; have := unhide HB6; omega)), (by have z13 : l 13 = false := (by cases c : l 13; rfl; have := ((unhide HK0).n13 c).1; rw [unhide HL] at this; cases this); have h6 := (unhide HK0).k6; rw [z13] at h6 ⊢; exact h6.apart gr9 (fun e => by have e : w2.heap.size = H := Option.some.inj e; have := unhide HB6; omega)), ((unhide HK0).own.far_out (H := H) (unhide HLI) (by have := unhide HB6; omega) gr9), (fun h1 h2 => by have := d5.symm.trans h2; cases this), ((unhide HK0).e1), ((unhide HK0).e2), ((unhide HK0).e3), ((unhide HK0).e4), (fun _ h => by cases h), ((unhide HK0).e6), ((unhide HK0).e7), ((unhide HK0).e8), ((unhide HK0).e9), ((unhide HK0).e10), (fun _ => ⟨H9, cap9, rfl, o9⟩), ((unhide HK0).e12), ((unhide HK0).n5), (fun _ => d5), (fun h => by have := ((unhide HK0).n13 h).1; rw [unhide HL] at this; cases this)⟩
            exact ⟨rfl, DrRJ.mk (unhide HK) (by kernel_rfl)⟩
          · simp at ho
            subst ho
            have HK : Hid (DrR w w5 w2.heap.size g l1 c9 k m d CX (w.heap.size + 2) s XA us (l 0) (l 1) (l 2) (l 3) (l 4) (l 5) (l 6) (l 7) (l 8) (l 9) (l 10) (l 11) true (l 13) v0 v1 v2 v3 v4 v5 v6 v7 v8 v9 v10 v11 (.pointer (some ⟨w2.heap.size, 1, none⟩)) V) := hide ⟨(K.bel), (K.siz), (K.k1), (K.k6), (K.own), (K.e0), (K.e1), (K.e2), (K.e3), (K.e4), (K.e5), (K.e6), (K.e7), (K.e8), (K.e9), (K.e10), (K.e11), (fun _ => rfl), (K.n5), (K.n11), (K.n13)⟩
            clear K hd hl
            go_wp2_with fail
            exact ⟨rfl, DrRJ.mk (unhide HK) (by kernel_rfl)⟩
          · simp at ho
            subst ho
            have d11 : l 11 = true := hd ⟨11, .data⟩ (by simp) rfl
            have d12 : l 12 = true := hd ⟨12, .data⟩ (by simp) rfl
            have x12 := K.e12 d12
            subst x12
            have p2 : l 2 = true := hd ⟨2, .phase⟩ (by simp) rfl
            have p7 : l 7 = true := hd ⟨7, .phase⟩ (by simp) rfl
            obtain ⟨H, cap, x11, y11⟩ := K.e11 d11
            have h6 := K.k6
            rw [hl] at h6
            have yy : V.cell? ⟨w2.heap.size, 1, none⟩ = some (.slice (some ⟨g, 0, none⟩) l1 c9) := h6.c 1 (by simp)
            have zz : V.frozen? ⟨w2.heap.size, 1, none⟩ = false := h6.f 1 (by simp)
            have hH : w5.heap.size ≤ H := (y11.lies H (by rw [x11]; rfl)).1
            subst x11
            have HK : Hid (DrR w w5 w2.heap.size g l1 c9 k m d CX (w.heap.size + 2) s XA us (l 0) (l 1) (l 2) (l 3) (l 4) (l 5) (l 6) (l 7) (l 8) (l 9) (l 10) (l 11) (l 12) true v0 v1 v2 v3 v4 v5 v6 v7 v8 v9 v10 (.slice (some ⟨H, 0, none⟩) m cap) (.pointer (some ⟨w2.heap.size, 1, none⟩)) (V.setCell ⟨w2.heap.size, 1, none⟩ (.slice (some ⟨H, 0, none⟩) m cap))) := hide ⟨(K.bel.setCell (by have := unhide HWB; show w.heap.size ≤ w2.heap.size; omega) _), (by have := K.siz; simpa [World.setCell] using this), (K.k1.other (by have := unhide HWB; simp; omega) _), (h6.set 1 (by simp) _), (K.own.set_out (unhide HLI) (Nat.le_refl _) _), (fun _ h => by have := (K.n11 d11).symm.trans h; cases this), (K.e1), (K.e2), (K.e3), (K.e4), (fun _ h => by have := d11.symm.trans h; cases this), (K.e6), (K.e7), (K.e8), (K.e9), (K.e10), (fun _ => ⟨H, cap, rfl, y11.set_other _ (fun e => by have e : H = w2.heap.size := Option.some.inj e; have := unhide HB6; omega)⟩), (K.e12), (K.n5), (K.n11), (fun _ => ⟨d11, p2, p7⟩)⟩
            clear K hd hl h6 y11
            go_wp2_with fail
            exact ⟨rfl, DrRJ.mk (unhide HK) (by kernel_rfl)⟩
        rintro l a V hall ⟨v0, v1, v2, v3, v4, v5, v6, v7, v8, v9, v10, v11, v12, rfl, K⟩
        obtain ⟨H, cap, x11, y11⟩ := K.e11 (hall 11 (by simp))
        have h6 := K.k6
        rw [hall 13 (by simp), x11] at h6
        have h6 : Blk V w2.heap.size [.int .i64 s, .slice (some ⟨H, 0, none⟩) m cap] := h6
        have hH := (y11.lies H (by rw [x11]; rfl)).1
        have OE9 : Hid (OwnLd V (w.heap.size + 2) (.slice (some ⟨H, 0, none⟩) m cap) (dlL us k)) := hide (K.own.pick (by rw [x11] at y11; exact y11.mono (by have := unhide HWB; have := unhide HB6; omega)) (fun i => if i < k then i else i + 1) (fun i hi => by
            have hul := unhide HUL
            have hdl := dlL_len (us := us) (k := k) (by omega)
            exact ⟨by split <;> omega, dlL_at (by omega) (by omega)⟩) (fun i j h1 h2 => by split <;> split <;> omega) (fun i hi => K.own.dat i hi) (fun i hi q hq e => by have := ((unhide HLI).2 i hi q hq).2; have := unhide HB6; omega))
        have BE9 := hide K.bel
        have KE := hide K.k1
        have z0' : V.cell? ⟨w2.heap.size, 0, none⟩ = some (.int .i64 s) := h6.c 0 (by simp)
        have z1' : V.cell? ⟨w2.heap.size, 1, none⟩ = some (.slice (some ⟨H, 0, none⟩) m cap) := h6.c 1 (by simp)
        clear K h6 y11 hall x11
        go_wp2_with (((with_reducible show wpList _ _ _ (⟨none, .store 57 _ _, _, _, _, none⟩ :: _) _ _); refine at_storeAgg (us := [.int .i64 0, .slice none 0 0]) (vs := [.int .i64 s, .slice (some ⟨H, 0, none⟩) m cap]) Try.sizeOf57 rfl rfl (unhide KE) rfl (by intro v hv; simp at hv; rcases hv with rfl | rfl <;> rfl) ?_; intro w5' kk gg))
        have BE : Below w.heap.size w w5' := (unhide BE9).grown gg (unhide BE9).size (fun q hq => by cases hq; omega)
        have OE := (unhide OE9).far gg (fun q hq e => by have := Option.some.inj e; omega)
        exact bodyPost_ret (results_cellB (vs := [.int .i64 s, .slice (some ⟨H, 0, none⟩) m cap]) (x := .bool true) rfl Try.isAgg57 Try.sizeOf57 rfl kk rfl) rfl ⟨some ⟨H, 0, none⟩, cap, by rw [unhide HDL, unhide HDB, unhide HML], ⟨by rw [unhide HDL, unhide HML]; exact cp_ok (dlL_map (unhide HUS) k) (lzok_del (unhide HOK) (unhide HKB)) (OE.mono (by omega))⟩, BE⟩

end Go.Proofs.Ytlpomplldgmkmba

namespace Go.Proofs.Ytlpomplldgmkmba
open Go Go.RowKit

theorem drL_lz {s : Int} {zs : List Lc} {n : Int} (h : LzB zs) : LzB (drL s zs n) := by
  unfold drL
  split
  · rename_i hb
    have hb2 : 0 ≤ fnF zs n := by
      unfold drB at hb
      simp only [Bool.and_eq_true, decide_eq_true_eq] at hb
      exact hb.1.2
    rcases fnF_cases zs n with ⟨hF, _⟩ | ⟨k, hk, hF, _, _⟩
    · omega
    · rw [hF, Int.toNat_natCast]
      have hl := dlL_len (us := zs) hk
      refine ⟨by show (dlL zs k).length ≤ 1048576; have := h.1; omega, fun i hi => ?_⟩
      have hi2 : i < zs.length - 1 := by have hi3 : i < (dlL zs k).length := hi; omega
      have := dlL_at hk hi2
      show (elAt (dlL zs k) i).zs.length ≤ 1048576
      rw [this]
      refine h.2 _ ?_
      split <;> omega
  · exact h

end Go.Proofs.Ytlpomplldgmkmba

/-
  What the model's Get16 answers of a frame that is well: its word, the bytes in memory of their own. Nothing that was there is written. (Its last region draws its order: by an invariant.)
-/
import Derived.Test.YtnhcmokkankcmayBuGet
import Derived.Test.YtnhcmokkankcmayRegInv
namespace Go.Proofs.Ytnhcmokkankcmay
open Go.RowKit

structure GwR (w : World) (bb off len cap N K : Nat) (zs : List Int) (t0 t1 t2 t3 t4 t5 t6 t7 t8 t9 t10 t11 t12 t13 t14 t15 t16 : Bool) (v0 v1 v2 v3 v4 v5 v6 v7 v8 v9 v10 v11 v12 v13 v14 v15 : Value) (W : World) : Prop where
  bel : Below w.heap.size w W
  k0 : Blk W w.heap.size (bif t15 then [.int .i64 (elAt zs 0), .int .i64 (elAt zs 1), v13] else [.int .i64 0, .int .i64 0, .slice none 0 0])
  e0 : t0 = true → v0 = .slice (some ⟨bb, off, none⟩) len cap
  e1 : t1 = true → v1 = .pointer (some ⟨bb, off, none⟩)
  e2 : t2 = true → v2 = .int .u8 (elAt zs 0)
  e3 : t3 = true → v3 = .int .i64 (elAt zs 0)
  e4 : t4 = true → v4 = .slice (some ⟨bb, off, none⟩) len cap
  e5 : t5 = true → v5 = .pointer (some ⟨bb, off + 1, none⟩)
  e6 : t6 = true → v6 = .int .u8 (elAt zs 1)
  e7 : t7 = true → v7 = .int .i64 (elAt zs 1)
  e8 : t8 = true → t13 = false → ∃ g, v8 = .slice (some ⟨g, 0, none⟩) 0 0 ∧ OwnE 1 byC W w.heap.size 5 v8 [] ∧ g ≠ w.heap.size
  e9 : t9 = true → v9 = .slice (some ⟨bb, off, none⟩) len cap
  e10 : t10 = true → v10 = .int .i64 (len : Int)
  e11 : t11 = true → v11 = .int .i64 (N : Int)
  e12 : t12 = true → v12 = .slice (some ⟨bb, off + 3, none⟩) K (cap - 3)
  e13 : t13 = true → ∃ g c, v13 = .slice (some ⟨g, 0, none⟩) K c ∧ OwnE 1 byC W w.heap.size 5 v13 ((zs.drop 3).take K) ∧ g ≠ w.heap.size
  e14 : t14 = true → v14 = .agg #[.int .i64 (elAt zs 0), .int .i64 (elAt zs 1), v13]
  e16 : t16 = true → v15 = .int .i64 0
  n14 : t14 = true → t13 = true
  n15 : t15 = true → t14 = true
def GwRJ (w : World) (bb off len cap N K : Nat) (zs : List Int) (A0 : Act) (l : Nat → Bool) (b : Act) (V : World) : Prop := ∃ (v0 v1 v2 v3 v4 v5 v6 v7 v8 v9 v10 v11 v12 v13 v14 v15 : Value), b = ((((((((((((((((A0.put (some 55) v0).put (some 56) v1).put (some 57) v2).put (some 58) v3).put (some 59) v4).put (some 60) v5).put (some 61) v6).put (some 62) v7).put (some 63) v8).put (some 64) v9).put (some 65) v10).put (some 66) v11).put (some 67) v12).put (some 68) v13).put (some 69) v14).put (some 3) v15) ∧ GwR w bb off len cap N K zs (l 0) (l 1) (l 2) (l 3) (l 4) (l 5) (l 6) (l 7) (l 8) (l 9) (l 10) (l 11) (l 12) (l 13) (l 14) (l 15) (l 16) v0 v1 v2 v3 v4 v5 v6 v7 v8 v9 v10 v11 v12 v13 v14 v15 V
theorem GwRJ.mk {w : World} {bb off len cap N K : Nat} {zs : List Int} {A0 : Act} {l : Nat → Bool} {b : Act} {V : World} {v0 v1 v2 v3 v4 v5 v6 v7 v8 v9 v10 v11 v12 v13 v14 v15 : Value} (K_ : GwR w bb off len cap N K zs (l 0) (l 1) (l 2) (l 3) (l 4) (l 5) (l 6) (l 7) (l 8) (l 9) (l 10) (l 11) (l 12) (l 13) (l 14) (l 15) (l 16) v0 v1 v2 v3 v4 v5 v6 v7 v8 v9 v10 v11 v12 v13 v14 v15 V) (h : b = ((((((((((((((((A0.put (some 55) v0).put (some 56) v1).put (some 57) v2).put (some 58) v3).put (some 59) v4).put (some 60) v5).put (some 61) v6).put (some 62) v7).put (some 63) v8).put (some 64) v9).put (some 65) v10).put (some 66) v11).put (some 67) v12).put (some 68) v13).put (some 69) v14).put (some 3) v15)) : GwRJ w bb off len cap N K zs A0 l b V := ⟨v0, v1, v2, v3, v4, v5, v6, v7, v8, v9, v10, v11, v12, v13, v14, v15, h, K_⟩

set_option maxRecDepth 20000 in
set_option maxHeartbeats 1000000 in
theorem specGet16_well (ad : Option Addr) (len cap : Nat) (zs : List Int) (w : World) (hr : RowE 1 byC w ad len zs) (hz : ∀ i, i < len → 0 ≤ elAt zs i ∧ elAt zs i ≤ 255) (hcap : len ≤ cap) (h0 : ¬ len < 4) (h2 : ¬ 32 < elAt zs 2) (h3 : ¬ (len : Int) < elAt zs 2 + 4) (h4 : ¬ elAt zs 2 + 4 < (len : Int)) (h5 : ¬ elAt zs 0 = 0) (h : elAt zs (len - 1) = smB (zs.take (len - 1))) :
    Calls Try.prog 20 #[.slice ad len cap] w fun e w' => ∃ p q, e = .returned (.tuple #[.agg #[.int .i64 (gtL zs), .int .i64 (gtS zs), .slice p (gtD zs).length q], .int .i64 (gtC zs)]) ∧ OwnE 1 byC w' w.heap.size 5 (.slice p (gtD zs).length q) (gtD zs) ∧ Below w.heap.size w w' := by
  have hlen := hr.len_eq
  have hs := hr.small
  have HR := hide hr
  clear hr
  subst hlen
  have HE : Hid (gtC zs = 0) := hide (by unfold gtC; rw [if_neg h0, if_neg h2, if_neg h3, if_neg h4, if_neg h5, if_neg (fun k => k h)])
  have HG : Hid (gtL zs = elAt zs 0 ∧ gtS zs = elAt zs 1 ∧ gtD zs = (zs.drop 3).take (zs.length - 4)) := hide (by simp [gtL, gtS, gtD, unhide HE])
  rw [(unhide HG).1, (unhide HG).2.1, (unhide HG).2.2, unhide HE]
  obtain ⟨K, hK⟩ : ∃ K, zs.length - 4 = K := ⟨_, rfl⟩
  rw [hK]
  have HKL := hide hK
  clear hK
  obtain ⟨N, hNN⟩ : ∃ N, zs.length - 1 = N := ⟨_, rfl⟩
  rw [hNN] at h
  have hN0 : (0 : Int) ≤ (N : Int) := by omega
  have hN1 : (N : Int) < (zs.length : Int) := by omega
  have hsub : (zs.length : Int) - 1 = (N : Int) := by omega
  have hNc : (N : Int) ≤ (cap : Int) := by omega
  have bN := hz N (by omega)
  obtain ⟨sm, hsm⟩ : ∃ z, smB (zs.take N) = z := ⟨_, rfl⟩
  rw [hsm] at h
  have HSM := hide hsm
  have HNN := hide hNN
  have HRT := hide (rowE_takeB (unhide HR) N (by omega))
  clear hsm hNN
  have h1 : ¬ (zs.length : Int) < 4 := by omega
  have b0 := hz 0 (by omega)
  have b1 := hz 1 (by omega)
  have b2 := hz 2 (by omega)
  rcases (unhide HR).open1 with ⟨q0, _⟩ | ⟨bb, off, rfl, _, hc⟩
  · omega
  have m0 : (w.alloc (Obj.cells #[.int .i64 0, .int .i64 0, .slice none 0 0] 27)).cell? ⟨bb, off, none⟩ = some (.int .u8 (elAt zs 0)) := ((bel1 _).cell (block_lt_of_cell (hc 0 (by omega)))).trans (hc 0 (by omega))
  have m1 : (w.alloc (Obj.cells #[.int .i64 0, .int .i64 0, .slice none 0 0] 27)).cell? ⟨bb, off + 1, none⟩ = some (.int .u8 (elAt zs 1)) := ((bel1 _).cell (block_lt_of_cell (hc 1 (by omega)))).trans (hc 1 (by omega))
  have m2 : (w.alloc (Obj.cells #[.int .i64 0, .int .i64 0, .slice none 0 0] 27)).cell? ⟨bb, off + 2, none⟩ = some (.int .u8 (elAt zs 2)) := ((bel1 _).cell (block_lt_of_cell (hc 2 (by omega)))).trans (hc 2 (by omega))
  have m3 : (w.alloc (Obj.cells #[.int .i64 0, .int .i64 0, .slice none 0 0] 27)).cell? ⟨bb, off + N, none⟩ = some (.int .u8 (elAt zs N)) := ((bel1 _).cell (block_lt_of_cell (hc N (by omega)))).trans (hc N (by omega))
  have HC0 : Hid (w.cell? ⟨bb, off, none⟩ = some (.int .u8 (elAt zs 0))) := hide (hc 0 (by omega))
  have HC1 : Hid (w.cell? ⟨bb, off + 1, none⟩ = some (.int .u8 (elAt zs 1))) := hide (hc 1 (by omega))
  clear hc
  have h7 : (elAt zs N != sm) = false := by simpa using h
  go_enter Try.func20, Try.ntmps20
  go_wp2_with fail
  obtain ⟨V, hV⟩ : ∃ V, V = (w.alloc (Obj.cells #[.int .i64 0, .int .i64 0, .slice none 0 0] 27)) := ⟨_, rfl⟩
  rw [← hV]
  have B0 : Hid (Below w.heap.size w V) := hide (by rw [hV]; exact bel1 _)
  have K0 : Hid (Blk V w.heap.size [.int .i64 0, .int .i64 0, .slice none 0 0]) := hide (by rw [hV]; exact Blk.new _ _)
  rw [← hV] at m0 m1 m2 m3
  clear hV
  obtain ⟨ι, fW, _, hb, hall⟩ := belClass V
  have HB := hide hb
  have HA := hide hall
  have c00 : ∀ x, (fW x).cell? ⟨w.heap.size, 0, none⟩ = some (.int .i64 0) := fun x => ((unhide K0).below (hb x)).c 0 (by simp)
  have c01 : ∀ x, (fW x).cell? ⟨w.heap.size, 1, none⟩ = some (.int .i64 0) := fun x => ((unhide K0).below (hb x)).c 1 (by simp)
  have c02 : ∀ x, (fW x).cell? ⟨w.heap.size, 2, none⟩ = some (.slice none 0 0) := fun x => ((unhide K0).below (hb x)).c 2 (by simp)
  have z0 : ∀ x, (fW x).frozen? ⟨w.heap.size, 0, none⟩ = false := fun x => ((unhide K0).below (hb x)).f 0 (by simp)
  have z1 : ∀ x, (fW x).frozen? ⟨w.heap.size, 1, none⟩ = false := fun x => ((unhide K0).below (hb x)).f 1 (by simp)
  have z2 : ∀ x, (fW x).frozen? ⟨w.heap.size, 2, none⟩ = false := fun x => ((unhide K0).below (hb x)).f 2 (by simp)
  have n0 : ∀ x, (fW x).cell? ⟨bb, off, none⟩ = some (.int .u8 (elAt zs 0)) := fun x => ((hb x).cell (block_lt_of_cell m0)).trans m0
  have n1 : ∀ x, (fW x).cell? ⟨bb, off + 1, none⟩ = some (.int .u8 (elAt zs 1)) := fun x => ((hb x).cell (block_lt_of_cell m1)).trans m1
  have n2 : ∀ x, (fW x).cell? ⟨bb, off + 2, none⟩ = some (.int .u8 (elAt zs 2)) := fun x => ((hb x).cell (block_lt_of_cell m2)).trans m2
  have n3 : ∀ x, (fW x).cell? ⟨bb, off + N, none⟩ = some (.int .u8 (elAt zs N)) := fun x => ((hb x).cell (block_lt_of_cell m3)).trans m3
  have HRT : Hid (∀ x, RowE 1 byC (fW x) (some ⟨bb, off, none⟩) N (zs.take N)) := hide (fun x => (unhide HRT).below ((unhide B0).trans ((hb x).mono (unhide B0).size)))
  clear hb hall m0 m1 m2 m3
  obtain ⟨x0, h0⟩ := (unhide HA) V (Below.refl _ _)
  rw [h0]
  clear h0
  repeat (refine wp_region_bel (fun w' h => (unhide HA) w' ((unhide HB _).trans (h.mono (unhide HB _).size))) (by kernel_rfl) (by kernel_rfl) ?_; (repeat (go_big_quiet_step (first | (go_at_call 42; exact belN (unhide HB) (unhide HA) (l16Sum_is _ _ _ (zs.take N) _ (unhide HRT _) (unhide HSM)))))); refine wpQuiet_nil ?_; rintro _ ⟨y, rfl⟩; (first | go_wp2_with (first | (go_at_call 42; refine (belN (unhide HB) (unhide HA) (l16Sum_is _ _ _ (zs.take N) _ (unhide HRT _) (unhide HSM))).mono ?_; rintro e _ ⟨rfl, y, rfl⟩)) | go_wp2))
  have hK := unhide HKL
  have hK2 : N = K + 3 := by have := unhide HNN; omega
  have hk4 : 3 + K ≤ zs.length := by omega
  have hkk : (N : Int) - 3 = (K : Int) := by omega
  have hcc : ((cap : Int) - 3).toNat = cap - 3 := by omega
  have hc3 : (3 : Int) ≤ (N : Int) := by omega
  have hNK : N - 3 = K := by omega
  have hc4 : ¬ cap = 3 := by omega
  have BV := hide ((unhide B0).trans ((unhide HB y).mono (unhide B0).size))
  have KV := hide ((unhide K0).below (unhide HB y))
  clear hK hK2
  refine wp_region_flagsA (by kernel_rfl) (by kernel_rfl) (GwRJ w bb off zs.length cap N K zs) ?_ ?_ ?_
  · exact GwRJ.mk (v0 := undef) (v1 := undef) (v2 := undef) (v3 := undef) (v4 := undef) (v5 := undef) (v6 := undef) (v7 := undef) (v8 := undef) (v9 := undef) (v10 := undef) (v11 := undef) (v12 := undef) (v13 := undef) (v14 := undef) (v15 := .int .i64 0) ⟨(unhide BV).trans (bel0d' 1), (unhide KV).drewN 1, (fun h => by cases h), (fun h => by cases h), (fun h => by cases h), (fun h => by cases h), (fun h => by cases h), (fun h => by cases h), (fun h => by cases h), (fun h => by cases h), (fun h => by cases h), (fun h => by cases h), (fun h => by cases h), (fun h => by cases h), (fun h => by cases h), (fun h => by cases h), (fun h => by cases h), (fun h => by cases h), (fun h => by cases h), (fun h => by cases h)⟩ (by kernel_rfl)
  rotate_left 1
  · rintro l b V i o ho hl hd ⟨v0, v1, v2, v3, v4, v5, v6, v7, v8, v9, v10, v11, v12, v13, v14, v15, rfl, Q⟩
    have hi : i < 17 := (Array.getElem?_eq_some_iff.1 ho).1
    rcases (show i = 0 ∨ i = 1 ∨ i = 2 ∨ i = 3 ∨ i = 4 ∨ i = 5 ∨ i = 6 ∨ i = 7 ∨ i = 8 ∨ i = 9 ∨ i = 10 ∨ i = 11 ∨ i = 12 ∨ i = 13 ∨ i = 14 ∨ i = 15 ∨ i = 16 from by omega) with rfl | rfl | rfl | rfl | rfl | rfl | rfl | rfl | rfl | rfl | rfl | rfl | rfl | rfl | rfl | rfl | rfl
    · simp at ho
      subst ho
      have HK : Hid (GwR w bb off zs.length cap N K zs true (l 1) (l 2) (l 3) (l 4) (l 5) (l 6) (l 7) (l 8) (l 9) (l 10) (l 11) (l 12) (l 13) (l 14) (l 15) (l 16) (.slice (some ⟨bb, off, none⟩) zs.length cap) v1 v2 v3 v4 v5 v6 v7 v8 v9 v10 v11 v12 v13 v14 v15 V) := hide ⟨(Q.bel), (Q.k0), (fun _ => rfl), (Q.e1), (Q.e2), (Q.e3), (Q.e4), (Q.e5), (Q.e6), (Q.e7), (Q.e8), (Q.e9), (Q.e10), (Q.e11), (Q.e12), (Q.e13), (Q.e14), (Q.e16), (Q.n14), (Q.n15)⟩
      clear Q hd hl
      go_wp2_with fail
      exact ⟨rfl, GwRJ.mk (unhide HK) (by kernel_rfl)⟩
    · simp at ho
      subst ho
      have e0 := Q.e0 (hd ⟨0, .data⟩ (by simp) rfl)
      subst e0
      have HK : Hid (GwR w bb off zs.length cap N K zs (l 0) true (l 2) (l 3) (l 4) (l 5) (l 6) (l 7) (l 8) (l 9) (l 10) (l 11) (l 12) (l 13) (l 14) (l 15) (l 16) (.slice (some ⟨bb, off, none⟩) zs.length cap) (.pointer (some ⟨bb, off, none⟩)) v2 v3 v4 v5 v6 v7 v8 v9 v10 v11 v12 v13 v14 v15 V) := hide ⟨(Q.bel), (Q.k0), (Q.e0), (fun _ => rfl), (Q.e2), (Q.e3), (Q.e4), (Q.e5), (Q.e6), (Q.e7), (Q.e8), (Q.e9), (Q.e10), (Q.e11), (Q.e12), (Q.e13), (Q.e14), (Q.e16), (Q.n14), (Q.n15)⟩
      clear Q hd hl
      go_wp2_with fail
      exact ⟨rfl, GwRJ.mk (unhide HK) (by kernel_rfl)⟩
    · simp at ho
      subst ho
      have e1 := Q.e1 (hd ⟨1, .data⟩ (by simp) rfl)
      subst e1
      have yy := (Q.bel.cell (block_lt_of_cell (unhide HC0))).trans (unhide HC0)
      have HK : Hid (GwR w bb off zs.length cap N K zs (l 0) (l 1) true (l 3) (l 4) (l 5) (l 6) (l 7) (l 8) (l 9) (l 10) (l 11) (l 12) (l 13) (l 14) (l 15) (l 16) v0 (.pointer (some ⟨bb, off, none⟩)) (.int .u8 (elAt zs 0)) v3 v4 v5 v6 v7 v8 v9 v10 v11 v12 v13 v14 v15 V) := hide ⟨(Q.bel), (Q.k0), (Q.e0), (Q.e1), (fun _ => rfl), (Q.e3), (Q.e4), (Q.e5), (Q.e6), (Q.e7), (Q.e8), (Q.e9), (Q.e10), (Q.e11), (Q.e12), (Q.e13), (Q.e14), (Q.e16), (Q.n14), (Q.n15)⟩
      clear Q hd hl
      go_wp2_with fail
      exact ⟨rfl, GwRJ.mk (unhide HK) (by kernel_rfl)⟩
    · simp at ho
      subst ho
      have e2 := Q.e2 (hd ⟨2, .data⟩ (by simp) rfl)
      subst e2
      have HK : Hid (GwR w bb off zs.length cap N K zs (l 0) (l 1) (l 2) true (l 4) (l 5) (l 6) (l 7) (l 8) (l 9) (l 10) (l 11) (l 12) (l 13) (l 14) (l 15) (l 16) v0 v1 (.int .u8 (elAt zs 0)) (.int .i64 (elAt zs 0)) v4 v5 v6 v7 v8 v9 v10 v11 v12 v13 v14 v15 V) := hide ⟨(Q.bel), (Q.k0), (Q.e0), (Q.e1), (Q.e2), (fun _ => rfl), (Q.e4), (Q.e5), (Q.e6), (Q.e7), (Q.e8), (Q.e9), (Q.e10), (Q.e11), (Q.e12), (Q.e13), (Q.e14), (Q.e16), (Q.n14), (Q.n15)⟩
      clear Q hd hl
      go_wp2_with fail
      exact ⟨rfl, GwRJ.mk (unhide HK) (by kernel_rfl)⟩
    · simp at ho
      subst ho
      have HK : Hid (GwR w bb off zs.length cap N K zs (l 0) (l 1) (l 2) (l 3) true (l 5) (l 6) (l 7) (l 8) (l 9) (l 10) (l 11) (l 12) (l 13) (l 14) (l 15) (l 16) v0 v1 v2 v3 (.slice (some ⟨bb, off, none⟩) zs.length cap) v5 v6 v7 v8 v9 v10 v11 v12 v13 v14 v15 V) := hide ⟨(Q.bel), (Q.k0), (Q.e0), (Q.e1), (Q.e2), (Q.e3), (fun _ => rfl), (Q.e5), (Q.e6), (Q.e7), (Q.e8), (Q.e9), (Q.e10), (Q.e11), (Q.e12), (Q.e13), (Q.e14), (Q.e16), (Q.n14), (Q.n15)⟩
      clear Q hd hl
      go_wp2_with fail
      exact ⟨rfl, GwRJ.mk (unhide HK) (by kernel_rfl)⟩
    · simp at ho
      subst ho
      have e4 := Q.e4 (hd ⟨4, .data⟩ (by simp) rfl)
      subst e4
      have HK : Hid (GwR w bb off zs.length cap N K zs (l 0) (l 1) (l 2) (l 3) (l 4) true (l 6) (l 7) (l 8) (l 9) (l 10) (l 11) (l 12) (l 13) (l 14) (l 15) (l 16) v0 v1 v2 v3 (.slice (some ⟨bb, off, none⟩) zs.length cap) (.pointer (some ⟨bb, off + 1, none⟩)) v6 v7 v8 v9 v10 v11 v12 v13 v14 v15 V) := hide ⟨(Q.bel), (Q.k0), (Q.e0), (Q.e1), (Q.e2), (Q.e3), (Q.e4), (fun _ => rfl), (Q.e6), (Q.e7), (Q.e8), (Q.e9), (Q.e10), (Q.e11), (Q.e12), (Q.e13), (Q.e14), (Q.e16), (Q.n14), (Q.n15)⟩
      clear Q hd hl
      go_wp2_with fail
      exact ⟨rfl, GwRJ.mk (unhide HK) (by kernel_rfl)⟩
    · simp at ho
      subst ho
      have e5 := Q.e5 (hd ⟨5, .data⟩ (by simp) rfl)
      subst e5
      have yy := (Q.bel.cell (block_lt_of_cell (unhide HC1))).trans (unhide HC1)
      have HK : Hid (GwR w bb off zs.length cap N K zs (l 0) (l 1) (l 2) (l 3) (l 4) (l 5) true (l 7) (l 8) (l 9) (l 10) (l 11) (l 12) (l 13) (l 14) (l 15) (l 16) v0 v1 v2 v3 v4 (.pointer (some ⟨bb, off + 1, none⟩)) (.int .u8 (elAt zs 1)) v7 v8 v9 v10 v11 v12 v13 v14 v15 V) := hide ⟨(Q.bel), (Q.k0), (Q.e0), (Q.e1), (Q.e2), (Q.e3), (Q.e4), (Q.e5), (fun _ => rfl), (Q.e7), (Q.e8), (Q.e9), (Q.e10), (Q.e11), (Q.e12), (Q.e13), (Q.e14), (Q.e16), (Q.n14), (Q.n15)⟩
      clear Q hd hl
      go_wp2_with fail
      exact ⟨rfl, GwRJ.mk (unhide HK) (by kernel_rfl)⟩
    · simp at ho
      subst ho
      have e6 := Q.e6 (hd ⟨6, .data⟩ (by simp) rfl)
      subst e6
      have HK : Hid (GwR w bb off zs.length cap N K zs (l 0) (l 1) (l 2) (l 3) (l 4) (l 5) (l 6) true (l 8) (l 9) (l 10) (l 11) (l 12) (l 13) (l 14) (l 15) (l 16) v0 v1 v2 v3 v4 v5 (.int .u8 (elAt zs 1)) (.int .i64 (elAt zs 1)) v8 v9 v10 v11 v12 v13 v14 v15 V) := hide ⟨(Q.bel), (Q.k0), (Q.e0), (Q.e1), (Q.e2), (Q.e3), (Q.e4), (Q.e5), (Q.e6), (fun _ => rfl), (Q.e8), (Q.e9), (Q.e10), (Q.e11), (Q.e12), (Q.e13), (Q.e14), (Q.e16), (Q.n14), (Q.n15)⟩
      clear Q hd hl
      go_wp2_with fail
      exact ⟨rfl, GwRJ.mk (unhide HK) (by kernel_rfl)⟩
    · simp at ho
      subst ho
      have k9 : Below V.heap.size V (V.alloc (Obj.cells #[] 5)) := bel1 _
      have HK : Hid (GwR w bb off zs.length cap N K zs (l 0) (l 1) (l 2) (l 3) (l 4) (l 5) (l 6) (l 7) true (l 9) (l 10) (l 11) (l 12) (l 13) (l 14) (l 15) (l 16) v0 v1 v2 v3 v4 v5 v6 v7 (.slice (some ⟨V.heap.size, 0, none⟩) 0 0) v9 v10 v11 v12 v13 v14 v15 (V.alloc (Obj.cells #[] 5))) := hide ⟨(Q.bel.trans (k9.mono Q.bel.size)), (Q.k0.below k9), (Q.e0), (Q.e1), (Q.e2), (Q.e3), (Q.e4), (Q.e5), (Q.e6), (Q.e7), (fun _ _ => ⟨_, rfl, byE_lit V [] Q.bel.size (by simp), by have := Q.k0.lt; omega⟩), (Q.e9), (Q.e10), (Q.e11), (Q.e12), (fun h => by obtain ⟨g, c, x1, x2, x3⟩ := Q.e13 h; exact ⟨g, c, x1, x2.below k9, x3⟩), (Q.e14), (Q.e16), (Q.n14), (Q.n15)⟩
      clear Q hd hl k9
      go_wp2_with fail
      exact ⟨rfl, GwRJ.mk (unhide HK) (by kernel_rfl)⟩
    · simp at ho
      subst ho
      have HK : Hid (GwR w bb off zs.length cap N K zs (l 0) (l 1) (l 2) (l 3) (l 4) (l 5) (l 6) (l 7) (l 8) true (l 10) (l 11) (l 12) (l 13) (l 14) (l 15) (l 16) v0 v1 v2 v3 v4 v5 v6 v7 v8 (.slice (some ⟨bb, off, none⟩) zs.length cap) v10 v11 v12 v13 v14 v15 V) := hide ⟨(Q.bel), (Q.k0), (Q.e0), (Q.e1), (Q.e2), (Q.e3), (Q.e4), (Q.e5), (Q.e6), (Q.e7), (Q.e8), (fun _ => rfl), (Q.e10), (Q.e11), (Q.e12), (Q.e13), (Q.e14), (Q.e16), (Q.n14), (Q.n15)⟩
      clear Q hd hl
      go_wp2_with fail
      exact ⟨rfl, GwRJ.mk (unhide HK) (by kernel_rfl)⟩
    · simp at ho
      subst ho
      have HK : Hid (GwR w bb off zs.length cap N K zs (l 0) (l 1) (l 2) (l 3) (l 4) (l 5) (l 6) (l 7) (l 8) (l 9) true (l 11) (l 12) (l 13) (l 14) (l 15) (l 16) v0 v1 v2 v3 v4 v5 v6 v7 v8 v9 (.int .i64 (zs.length : Int)) v11 v12 v13 v14 v15 V) := hide ⟨(Q.bel), (Q.k0), (Q.e0), (Q.e1), (Q.e2), (Q.e3), (Q.e4), (Q.e5), (Q.e6), (Q.e7), (Q.e8), (Q.e9), (fun _ => rfl), (Q.e11), (Q.e12), (Q.e13), (Q.e14), (Q.e16), (Q.n14), (Q.n15)⟩
      clear Q hd hl
      go_wp2_with fail
      exact ⟨rfl, GwRJ.mk (unhide HK) (by kernel_rfl)⟩
    · simp at ho
      subst ho
      have e10 := Q.e10 (hd ⟨10, .data⟩ (by simp) rfl)
      subst e10
      have HK : Hid (GwR w bb off zs.length cap N K zs (l 0) (l 1) (l 2) (l 3) (l 4) (l 5) (l 6) (l 7) (l 8) (l 9) (l 10) true (l 12) (l 13) (l 14) (l 15) (l 16) v0 v1 v2 v3 v4 v5 v6 v7 v8 v9 (.int .i64 (zs.length : Int)) (.int .i64 (N : Int)) v12 v13 v14 v15 V) := hide ⟨(Q.bel), (Q.k0), (Q.e0), (Q.e1), (Q.e2), (Q.e3), (Q.e4), (Q.e5), (Q.e6), (Q.e7), (Q.e8), (Q.e9), (Q.e10), (fun _ => rfl), (Q.e12), (Q.e13), (Q.e14), (Q.e16), (Q.n14), (Q.n15)⟩
      clear Q hd hl
      go_wp2_with fail
      exact ⟨rfl, GwRJ.mk (unhide HK) (by kernel_rfl)⟩
    · simp at ho
      subst ho
      have e9 := Q.e9 (hd ⟨9, .data⟩ (by simp) rfl)
      subst e9
      have e11 := Q.e11 (hd ⟨11, .data⟩ (by simp) rfl)
      subst e11
      have HK : Hid (GwR w bb off zs.length cap N K zs (l 0) (l 1) (l 2) (l 3) (l 4) (l 5) (l 6) (l 7) (l 8) (l 9) (l 10) (l 11) true (l 13) (l 14) (l 15) (l 16) v0 v1 v2 v3 v4 v5 v6 v7 v8 (.slice (some ⟨bb, off, none⟩) zs.length cap) v10 (.int .i64 (N : Int)) (.slice (some ⟨bb, off + 3, none⟩) K (cap - 3)) v13 v14 v15 V) := hide ⟨(Q.bel), (Q.k0), (Q.e0), (Q.e1), (Q.e2), (Q.e3), (Q.e4), (Q.e5), (Q.e6), (Q.e7), (Q.e8), (Q.e9), (Q.e10), (Q.e11), (fun _ => rfl), (Q.e13), (Q.e14), (Q.e16), (Q.n14), (Q.n15)⟩
      clear Q hd hl
      go_wp2_with fail
      exact ⟨rfl, GwRJ.mk (unhide HK) (by kernel_rfl)⟩
    · simp at ho
      subst ho
      have n15 : l 15 = false := by cases c : l 15; rfl; have := Q.n14 (Q.n15 c); rw [hl] at this; cases this
      have n14 : l 14 = false := by cases c : l 14; rfl; have := Q.n14 c; rw [hl] at this; cases this
      obtain ⟨g8, x8, o8, y8⟩ := Q.e8 (hd ⟨8, .data⟩ (by simp) rfl) hl
      have e12 := Q.e12 (hd ⟨12, .data⟩ (by simp) rfl)
      subst x8
      subst e12
      have HO8 := hide o8
      have HY8 := hide y8
      have HRW := hide (rowE_dropB ((unhide HR).below Q.bel) 3 K (by omega))
      have HBS := hide Q.bel.size
      have HQ := hide Q
      have H15 := hide n15
      have H14 := hide n14
      clear Q hd hl o8 y8 n15 n14
      go_wp2_with (at_builtin; refine wpList_app_by rfl _ _ rfl (unhide HO8) rfl (by kernel_rfl) (some ⟨bb, off + 3, none⟩) K (cap - 3) ((zs.drop 3).take K) (by kernel_rfl) (unhide HRW) (by omega) (unhide HBS) ?_; intro g9 c9 w9 o9 gr hg9; have Q := unhide HQ; have HK : Hid (GwR w bb off zs.length cap N K zs (l 0) (l 1) (l 2) (l 3) (l 4) (l 5) (l 6) (l 7) (l 8) (l 9) (l 10) (l 11) (l 12) true (l 14) (l 15) (l 16) v0 v1 v2 v3 v4 v5 v6 v7 (.slice (some ⟨g8, 0, none⟩) 0 0) v9 v10 v11 (.slice (some ⟨bb, off + 3, none⟩) K (cap - 3)) (.slice (some ⟨g9, 0, none⟩) K c9) v14 v15 w9) := hide ⟨(Q.bel.grown gr Q.bel.size (fun q hq => by cases hq; exact ((unhide HO8).lies g8 rfl).1)), (by have := Q.k0.apart gr (fun e => unhide HY8 (Option.some.inj e).symm); rw [unhide H15] at this ⊢; exact this), (Q.e0), (Q.e1), (Q.e2), (Q.e3), (Q.e4), (Q.e5), (Q.e6), (Q.e7), (fun _ h => by cases h), (Q.e9), (Q.e10), (Q.e11), (Q.e12), (fun _ => ⟨g9, c9, rfl, by rw [Nat.zero_add, List.nil_append] at o9; exact o9, by have := Q.k0.lt; have := unhide HY8; omega⟩), (fun h => by have := (unhide H14).symm.trans h; cases this), (Q.e16), (fun _ => rfl), (Q.n15)⟩; clear Q o9 gr hg9)
      exact ⟨rfl, GwRJ.mk (unhide HK) (by kernel_rfl)⟩
    · simp at ho
      subst ho
      have d13 : l 13 = true := hd ⟨13, .data⟩ (by simp) rfl
      have e3 := Q.e3 (hd ⟨3, .data⟩ (by simp) rfl)
      have e7 := Q.e7 (hd ⟨7, .data⟩ (by simp) rfl)
      obtain ⟨g, c, x1, _⟩ := Q.e13 d13
      have HK : Hid (GwR w bb off zs.length cap N K zs (l 0) (l 1) (l 2) (l 3) (l 4) (l 5) (l 6) (l 7) (l 8) (l 9) (l 10) (l 11) (l 12) (l 13) true (l 15) (l 16) v0 v1 v2 v3 v4 v5 v6 v7 v8 v9 v10 v11 v12 v13 (.agg #[.int .i64 (elAt zs 0), .int .i64 (elAt zs 1), v13]) v15 V) := hide ⟨(Q.bel), (Q.k0), (Q.e0), (Q.e1), (Q.e2), (Q.e3), (Q.e4), (Q.e5), (Q.e6), (Q.e7), (Q.e8), (Q.e9), (Q.e10), (Q.e11), (Q.e12), (Q.e13), (fun _ => rfl), (Q.e16), (fun _ => d13), (fun _ => rfl)⟩
      subst e3
      subst e7
      subst x1
      clear Q hd hl d13
      go_wp2_with fail
      exact ⟨rfl, GwRJ.mk (unhide HK) (by kernel_rfl)⟩
    · simp at ho
      subst ho
      have d14 : l 14 = true := hd ⟨14, .data⟩ (by simp) rfl
      have d13 := Q.n14 d14
      have e14 := Q.e14 d14
      obtain ⟨g, c, x1, x2, x3⟩ := Q.e13 d13
      have k9 := Q.k0
      rw [hl] at k9
      have nb : v13.ownBlock ≠ some w.heap.size := fun e => by rw [x1] at e; exact x3 (Option.some.inj e)
      have yy0 : V.cell? ⟨w.heap.size, 0, none⟩ = some (.int .i64 0) := k9.c 0 (by simp)
      have ff0 : V.frozen? ⟨w.heap.size, 0, none⟩ = false := k9.f 0 (by simp)
      have yy1 : V.cell? ⟨w.heap.size, 1, none⟩ = some (.int .i64 0) := k9.c 1 (by simp)
      have ff1 : V.frozen? ⟨w.heap.size, 1, none⟩ = false := k9.f 1 (by simp)
      have yy2 : V.cell? ⟨w.heap.size, 2, none⟩ = some (.slice none 0 0) := k9.c 2 (by simp)
      have ff2 : V.frozen? ⟨w.heap.size, 2, none⟩ = false := k9.f 2 (by simp)
      have HK : Hid (GwR w bb off zs.length cap N K zs (l 0) (l 1) (l 2) (l 3) (l 4) (l 5) (l 6) (l 7) (l 8) (l 9) (l 10) (l 11) (l 12) (l 13) (l 14) true (l 16) v0 v1 v2 v3 v4 v5 v6 v7 v8 v9 v10 v11 v12 v13 v14 v15 (((V.setCell ⟨w.heap.size, 0, none⟩ (.int .i64 (elAt zs 0))).setCell ⟨w.heap.size, 1, none⟩ (.int .i64 (elAt zs 1))).setCell ⟨w.heap.size, 2, none⟩ v13)) := hide ⟨((((Q.bel.setCell (p := ⟨w.heap.size, 0, none⟩) (Nat.le_refl _) _).setCell (p := ⟨w.heap.size, 1, none⟩) (Nat.le_refl _) _).setCell (p := ⟨w.heap.size, 2, none⟩) (Nat.le_refl _) _)), ((((k9.set 0 (by simp) _).set 1 (by simp) _).set 2 (by simp) _)), (Q.e0), (Q.e1), (Q.e2), (Q.e3), (Q.e4), (Q.e5), (Q.e6), (Q.e7), (fun _ h => by rw [d13] at h; cases h), (Q.e9), (Q.e10), (Q.e11), (Q.e12), (fun _ => ⟨g, c, x1, ((x2.set_other (S := w.heap.size) (o := 0) _ nb).set_other (S := w.heap.size) (o := 1) _ nb).set_other (S := w.heap.size) (o := 2) _ nb, x3⟩), (Q.e14), (Q.e16), (Q.n14), (fun _ => d14)⟩
      subst e14
      subst x1
      clear Q hd hl k9 nb x2 x3 d13 d14
      go_wp2_with fail
      exact ⟨rfl, GwRJ.mk (unhide HK) (by kernel_rfl)⟩
    · simp at ho
      subst ho
      have HK : Hid (GwR w bb off zs.length cap N K zs (l 0) (l 1) (l 2) (l 3) (l 4) (l 5) (l 6) (l 7) (l 8) (l 9) (l 10) (l 11) (l 12) (l 13) (l 14) (l 15) true v0 v1 v2 v3 v4 v5 v6 v7 v8 v9 v10 v11 v12 v13 v14 (.int .i64 0) V) := hide ⟨(Q.bel), (Q.k0), (Q.e0), (Q.e1), (Q.e2), (Q.e3), (Q.e4), (Q.e5), (Q.e6), (Q.e7), (Q.e8), (Q.e9), (Q.e10), (Q.e11), (Q.e12), (Q.e13), (Q.e14), (fun _ => rfl), (Q.n14), (Q.n15)⟩
      clear Q hd hl
      go_wp2_with fail
      exact ⟨rfl, GwRJ.mk (unhide HK) (by kernel_rfl)⟩
  rintro l b V hall ⟨v0, v1, v2, v3, v4, v5, v6, v7, v8, v9, v10, v11, v12, v13, v14, v15, rfl, Q⟩
  obtain ⟨g, c, x1, x2, x3⟩ := Q.e13 (hall 13 (by decide))
  have k9 := Q.k0
  rw [hall 15 (by decide)] at k9
  have e16 := Q.e16 (hall 16 (by decide))
  have BB := hide Q.bel
  subst x1
  subst e16
  have HKK : Hid (Blk V w.heap.size [.int .i64 (elAt zs 0), .int .i64 (elAt zs 1), .slice (some ⟨g, 0, none⟩) K c]) := hide k9
  have HOO := hide x2
  clear Q k9 hall x2 x3
  go_wp2_with fail
  have hdl : ((zs.drop 3).take K).length = K := by simp; omega
  exact bodyPost_ret (results_cellB (vs := [.int .i64 (elAt zs 0), .int .i64 (elAt zs 1), .slice (some ⟨g, 0, none⟩) K c]) (x := .int .i64 0) rfl Try.isAgg27 Try.sizeOf27 (by kernel_rfl) (unhide HKK) (by kernel_rfl)) rfl ⟨some ⟨g, 0, none⟩, c, by rw [hdl], by rw [hdl]; exact unhide HOO, unhide BB⟩

end Go.Proofs.Ytnhcmokkankcmay

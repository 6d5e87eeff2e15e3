/-
  The drawing cursor told exactly: what it tells next is what the plain source tells from its state. At every list of bytes; only its own block is written.
-/
import Derived.Test.YtikhfacgoglcfaaDraw
import Derived.Test.YtikhfacgoglcfaaTbPure
namespace Go.Proofs.Ytikhfacgoglcfaa
open Go.RowKit

/-- The bytes, told one by one. -/
def ByX (W : World) (a : Option Addr) (len : Nat) (bs : Nat → Nat) : Prop := ∀ i, i < len → ∃ b off, a = some ⟨b, off, none⟩ ∧ W.cell? ⟨b, off + i, none⟩ = some (.int .u8 (bs i : Int)) ∧ bs i ≤ 255
theorem byX_of {W : World} {a : Option Addr} {len : Nat} (h : Bytes W a len) : ∃ bs, ByX W a len bs := by
  cases a with
  | none => exact ⟨fun _ => 0, fun i hi => by obtain ⟨b, off, e, _⟩ := h.cells i hi; cases e⟩
  | some p =>
    refine ⟨fun i => match W.cell? ⟨p.block, p.off + i, none⟩ with | some (.int _ x) => x.toNat | _ => 0, fun i hi => ?_⟩
    obtain ⟨b, off, e, x, hc, h1, h2⟩ := h.cells i hi
    obtain rfl := Option.some.inj e
    refine ⟨b, off, rfl, ?_, ?_⟩
    · simp only [hc]
      rw [Int.toNat_of_nonneg h1]
    · simp only [hc]
      omega
theorem ByX.far {w w' : World} {a : Option Addr} {len : Nat} {bs : Nat → Nat} {row : Option Nat} (h : ByX w a len bs) (k : w.grownBy w' row) (hne : ∀ b off, a = some ⟨b, off, none⟩ → some b ≠ row) : ByX w' a len bs := by
  intro i hi
  obtain ⟨b, off, ha, hc, hx⟩ := h i hi
  exact ⟨b, off, ha, (World.cell?_of_block (a := ⟨b, off + i, none⟩) (k.block b (block_lt_of_cell hc) (hne b off ha))).trans hc, hx⟩
theorem ByX.below {w w' : World} {a : Option Addr} {len : Nat} {bs : Nat → Nat} (h : ByX w a len bs) (k : Below w.heap.size w w') : ByX w' a len bs := by
  intro i hi
  obtain ⟨b, off, ha, hc, hx⟩ := h i hi
  exact ⟨b, off, ha, (k.cell (block_lt_of_cell hc)).trans hc, hx⟩
/-- The cursor at the plain state S. -/
structure DrX (w : World) (C : Nat) (a : Option Addr) (len cap : Nat) (bs : Nat → Nat) (S : Nat × Nat) (W : World) : Prop where
  d : Dr w C a len cap W
  x : ByX W a len bs
  i : W.cell? ⟨C, 1, none⟩ = some (.int .i64 (S.1 : Int))
  h : ∃ h : Int, W.cell? ⟨C, 2, none⟩ = some (.int .i64 h) ∧ h % 18446744073709551616 = (S.2 : Int)
  le : S.1 ≤ len
theorem DrX.below {w : World} {C : Nat} {a : Option Addr} {len cap : Nat} {bs : Nat → Nat} {S : Nat × Nat} {W W' : World} (h : DrX w C a len cap bs S W) (b : Below W.heap.size W W') : DrX w C a len cap bs S W' := by
  obtain ⟨z, h1, h2⟩ := h.h
  exact ⟨h.d.below b, h.x.below b, (b.cell (p := ⟨C, 1, none⟩) h.d.lt).trans h.i, ⟨z, (b.cell (p := ⟨C, 2, none⟩) h.d.lt).trans h1, h2⟩, h.le⟩
/-- A list that grows behind the cursor's block leaves the cursor. -/
theorem DrX.own {w : World} {C : Nat} {a : Option Addr} {len cap : Nat} {bs : Nat → Nat} {S : Nat × Nat} {W W' : World} {row : Option Nat} (h : DrX w C a len cap bs S W) (g : W.grownBy W' row) (hr : ∀ k, row = some k → C < k) (hin : ∀ b off, a = some ⟨b, off, none⟩ → b < w.heap.size) : DrX w C a len cap bs S W' := by
  obtain ⟨z, h1, h2⟩ := h.h
  have ge := h.d.ge
  have hC : some C ≠ row := fun e => by have := hr C e.symm; omega
  have hb := g.block C h.d.lt hC
  exact ⟨h.d.own g hr hin, h.x.far g (fun b off e e2 => by have k1 := hr b e2.symm; have k2 := hin b off e; omega), (World.cell?_of_block (a := ⟨C, 1, none⟩) hb).trans h.i, ⟨z, (World.cell?_of_block (a := ⟨C, 2, none⟩) hb).trans h1, h2⟩, h.le⟩
theorem DrX.start {w : World} {C : Nat} {a : Option Addr} {len cap : Nat} {bs : Nat → Nat} {W : World} (d : Dr w C a len cap W) (x : ByX W a len bs) : ∃ S, DrX w C a len cap bs S W := by
  obtain ⟨i, hi, k1⟩ := d.cur.c1
  obtain ⟨h, k2⟩ := d.cur.c2
  exact ⟨(i, (h % 18446744073709551616).toNat), d, x, k1, ⟨h, k2, by show _ = ((h % 18446744073709551616).toNat : Int); omega⟩, hi⟩
theorem DrX.lt {w : World} {C : Nat} {a : Option Addr} {len cap : Nat} {bs : Nat → Nat} {S : Nat × Nat} {W : World} (h : DrX w C a len cap bs S W) : S.2 < 18446744073709551616 := by
  obtain ⟨z, _, h2⟩ := h.h
  omega

theorem next_mod {h : Int} {n : Nat} (e : h % 18446744073709551616 = (n : Int)) : wrap64 (wrap64 (h * 6364136223846793005) + 1442695040888963407) % 18446744073709551616 = (gnx n : Int) := by
  rw [gnx_is]
  unfold wrap64
  omega
theorem out_of {H : Int} {m : Nat} (e : H % 18446744073709551616 = (m : Int)) : bits .and .i64 (bits .xor .i64 (H / 8589934592) (H / 35184372088832)) 255 = (outN m : Int) := by
  have h2 : (BitVec.ofInt 64 (255 : Int)).toNat = 255 := by decide
  have hw : ∀ x : Int, (IntKind.i64.wrap x) % 18446744073709551616 = x % 18446744073709551616 := fun x => by rw [IntKind.wrap_i64]; omega
  have ht : ∀ x : Int, (BitVec.ofInt 64 x).toNat = (x % 18446744073709551616).toNat := fun x => by rw [BitVec.toNat_ofInt]; rfl
  show IntKind.i64.wrap ((BitVec.ofInt 64 (IntKind.i64.wrap ((BitVec.ofInt 64 (H / 8589934592) ^^^ BitVec.ofInt 64 (H / 35184372088832)).toNat : Int)) &&& BitVec.ofInt 64 255).toNat : Int) = _
  rw [BitVec.toNat_and, h2, ht, hw]
  have hx := (BitVec.ofInt 64 (H / 8589934592) ^^^ BitVec.ofInt 64 (H / 35184372088832)).isLt
  rw [show (((BitVec.ofInt 64 (H / 8589934592) ^^^ BitVec.ofInt 64 (H / 35184372088832)).toNat : Int) % 18446744073709551616).toNat = (BitVec.ofInt 64 (H / 8589934592) ^^^ BitVec.ofInt 64 (H / 35184372088832)).toNat by omega]
  rw [BitVec.toNat_xor, ht, ht]
  rw [show (255 : Nat) = 2 ^ 8 - 1 from rfl, Nat.and_two_pow_sub_one_eq_mod, Nat.xor_mod_two_pow]
  have e1 : (H / 8589934592 % 18446744073709551616).toNat % 2 ^ 8 = m / 8589934592 % 2 ^ 8 := by
    show (H / 8589934592 % 18446744073709551616).toNat % 256 = m / 8589934592 % 256
    omega
  have e3 : (H / 35184372088832 % 18446744073709551616).toNat % 2 ^ 8 = m / 35184372088832 % 2 ^ 8 := by
    show (H / 35184372088832 % 18446744073709551616).toNat % 256 = m / 35184372088832 % 256
    omega
  rw [e1, e3, ← Nat.xor_mod_two_pow]
  unfold outN
  show IntKind.i64.wrap ((((m / 8589934592) ^^^ (m / 35184372088832)) % 256 : Nat) : Int) = ((((m / 8589934592) ^^^ (m / 35184372088832)) % 256 : Nat) : Int)
  generalize (m / 8589934592) ^^^ (m / 35184372088832) = q
  rw [IntKind.wrap_i64]
  omega
theorem sum_of (x y : Nat) (hx : x ≤ 255) (hy : y ≤ 255) : bits .and .i64 ((x : Int) + (y : Int)) 255 = (((x + y) % 256 : Nat) : Int) := by
  have h2 : (BitVec.ofInt 64 (255 : Int)).toNat = 255 := by decide
  have ht : (BitVec.ofInt 64 ((x : Int) + (y : Int))).toNat = x + y := by rw [BitVec.toNat_ofInt]; show (((x : Int) + (y : Int)) % 18446744073709551616).toNat = _; omega
  show IntKind.i64.wrap ((BitVec.ofInt 64 ((x : Int) + (y : Int)) &&& BitVec.ofInt 64 255).toNat : Int) = _
  rw [BitVec.toNat_and, h2, ht, show (255 : Nat) = 2 ^ 8 - 1 from rfl, Nat.and_two_pow_sub_one_eq_mod, IntKind.wrap_i64]
  show ((((x + y) % 256 : Nat) : Int) + _) % _ - _ = _
  omega
theorem outN_lt (m : Nat) : outN m ≤ 255 := by
  unfold outN
  omega
attribute [local irreducible] gnx outN
theorem byS_more (bs : Nat → Nat) {len : Nat} {S : Nat × Nat} (h : S.1 < len) : byS bs len S = ((outN (gnx S.2) + bs S.1) % 256, (S.1 + 1, gnx S.2)) := by
  unfold byS byQ
  rw [if_pos h]
theorem byS_end (bs : Nat → Nat) {len : Nat} {S : Nat × Nat} (h : ¬ S.1 < len) : byS bs len S = (outN (gnx S.2), (S.1, gnx S.2)) := by
  unfold byS byQ
  rw [if_neg h]
attribute [local irreducible] byS

set_option maxHeartbeats 2000000 in
theorem l1Byte_x {w : World} {C : Nat} {a : Option Addr} {len cap : Nat} {bs : Nat → Nat} {S : Nat × Nat} (W : World) (D : DrX w C a len cap bs S W) :
    Calls Try.prog 27 #[.pointer (some ⟨C, 0, none⟩)] W fun e w' => e = .returned (.int .i64 ((byS bs len S).1 : Int)) ∧ DrX w C a len cap bs (byS bs len S).2 w' ∧ W.grownBy w' (some C) := by
  obtain ⟨h, k2, he⟩ := D.h
  have k1 := D.i
  have k0 := D.d.cur.c0
  have z1 := D.d.cur.f1
  have z2 := D.d.cur.f2
  have hlt := D.d.cur.lt
  have hsm := D.d.byt.small
  have hle := D.le
  have HX := hide D.x
  have HD := hide D.d
  have hne := D.d.ne
  obtain ⟨i, hi⟩ : ∃ i, S.1 = i := ⟨_, rfl⟩
  rw [hi] at k1 hle
  have HE := hide he
  clear he D
  go_enter Try.func27, Try.ntmps27
  go_wp2_with fail
  have he2 := next_mod (unhide HE)
  generalize wrap64 (wrap64 (h * 6364136223846793005) + 1442695040888963407) = H at *
  have HE2 := hide he2
  clear he2 HE
  obtain ⟨w1, hw1⟩ : ∃ w1, w1 = W.setCell ⟨C, 2, none⟩ (.int .i64 H) := ⟨_, rfl⟩
  have j0 : w1.cell? ⟨C, 0, none⟩ = some (.slice a len cap) := by rw [hw1, World.cell?_setCell_other _ _ _ _ (by simp)]; exact k0
  have j1 : w1.cell? ⟨C, 1, none⟩ = some (.int .i64 i) := by rw [hw1, World.cell?_setCell_other _ _ _ _ (by simp)]; exact k1
  have j2 : w1.cell? ⟨C, 2, none⟩ = some (.int .i64 H) := by rw [hw1]; exact World.cell?_setCell_same _ _ _ k2
  have y1 : w1.frozen? ⟨C, 1, none⟩ = false := by rw [hw1]; simp [z1]
  have y2 : w1.frozen? ⟨C, 2, none⟩ = false := by rw [hw1]; simp [z2]
  have g1 : W.grownBy w1 (some C) := by rw [hw1]; exact grown_set (grown_refl W (some C)) _ _
  have hlt1 : C < w1.heap.size := by rw [hw1]; simpa [World.setCell] using hlt
  rw [← hw1]
  clear hw1 k0 k1 k2 z1 z2 hlt
  go_quiet (fail)
  rw [out_of (unhide HE2)]
  have HO := hide (outN_lt (gnx S.2))
  obtain ⟨X, hX⟩ : ∃ X, outN (gnx S.2) = X := ⟨_, rfl⟩
  rw [hX] at HO ⊢
  have HXX := hide hX
  clear hX
  obtain ⟨w2, hw2⟩ : ∃ w2, w2 = w1.drewN nq := ⟨_, rfl⟩
  have j0 : w2.cell? ⟨C, 0, none⟩ = some (.slice a len cap) := by rw [hw2]; exact j0
  have j1 : w2.cell? ⟨C, 1, none⟩ = some (.int .i64 i) := by rw [hw2]; exact j1
  have j2 : w2.cell? ⟨C, 2, none⟩ = some (.int .i64 H) := by rw [hw2]; exact j2
  have y1 : w2.frozen? ⟨C, 1, none⟩ = false := by rw [hw2]; exact y1
  have y2 : w2.frozen? ⟨C, 2, none⟩ = false := by rw [hw2]; exact y2
  have g2 : W.grownBy w2 (some C) := by rw [hw2]; exact grown_drewN g1 _
  have hlt2 : C < w2.heap.size := by rw [hw2]; exact hlt1
  rw [← hw2]
  clear hw2 g1 hlt1
  by_cases hil : i < len
  · have hi1 : (i : Int) < (len : Int) := by omega
    have hi0 : (0 : Int) ≤ (i : Int) := by omega
    obtain ⟨b, off, rfl, hcell, hx2⟩ := (unhide HX) i hil
    have hbC := hne b off rfl
    have hcell2 : w2.cell? ⟨b, off + i, none⟩ = some (.int .u8 (bs i : Int)) := (World.cell?_of_block (a := ⟨b, off + i, none⟩) (g2.block b (block_lt_of_cell hcell) (by simp [hbC]))).trans hcell
    obtain ⟨y, hy⟩ : ∃ y, bs i = y := ⟨_, rfl⟩
    rw [hy] at hcell2 hx2
    have HY := hide hy
    have hu : (y : Int) ≤ 255 := by omega
    have hu0 : (0 : Int) ≤ (y : Int) := by omega
    have HU := hide hx2
    have hX0 : (0 : Int) ≤ (X : Int) ∧ (X : Int) ≤ 255 := by have := unhide HO; omega
    clear hcell hne hy hx2
    have G2 := hide g2
    clear g2
    go_wp2_with fail
    go_quiet (fail)
    go_wp2_with fail
    go_quiet (fail)
    rw [sum_of X y (unhide HO) (unhide HU)]
    go_wp2
    go_ret
    have hS := byS_more bs (show S.1 < len by rw [hi]; exact hil)
    rw [hS, unhide HXX, hi, unhide HY]
    have key : ∀ n, DrX w C (some ⟨b, off, none⟩) len cap bs (i + 1, gnx S.2) ((w2.drewN n).setCell ⟨C, 1, none⟩ (.int .i64 ((i : Int) + 1))) ∧ W.grownBy ((w2.drewN n).setCell ⟨C, 1, none⟩ (.int .i64 ((i : Int) + 1))) (some C) := fun n => by
      have gg := grown_set (grown_drewN (unhide G2) n) 1 (.int .i64 ((i : Int) + 1))
      have c1 : ((w2.drewN n).setCell ⟨C, 1, none⟩ (.int .i64 ((i : Int) + 1))).cell? ⟨C, 1, none⟩ = some (.int .i64 ((i : Int) + 1)) := World.cell?_setCell_same _ _ _ (u := .int .i64 i) j1
      have c2 : ((w2.drewN n).setCell ⟨C, 1, none⟩ (.int .i64 ((i : Int) + 1))).cell? ⟨C, 2, none⟩ = some (.int .i64 H) := (World.cell?_setCell_other _ _ _ _ (by simp)).trans j2
      have cc : Cur ((w2.drewN n).setCell ⟨C, 1, none⟩ (.int .i64 ((i : Int) + 1))) C (some ⟨b, off, none⟩) len cap := ⟨(World.cell?_setCell_other _ _ _ _ (by simp)).trans j0, ⟨i + 1, by omega, c1⟩, ⟨H, c2⟩, by simpa using y1, by simpa using y2, by simpa [World.setCell] using hlt2⟩
      exact ⟨⟨(unhide HD).step cc gg, (unhide HX).far gg (fun b' off' e => by have := (unhide HD).ne b' off' e; simp [this]), c1, ⟨H, c2, unhide HE2⟩, by show i + 1 ≤ len; omega⟩, gg⟩
    exact ⟨rfl, (key _).1, (key _).2⟩
  · have hi1 : ¬ (i : Int) < (len : Int) := by omega
    have G2 := hide g2
    clear g2 hne
    go_wp2_with fail
    go_quiet (fail)
    go_wp2
    go_ret
    have hS := byS_end bs (show ¬ S.1 < len by rw [hi]; exact hil)
    rw [hS, unhide HXX, hi]
    have gg := grown_drewN (unhide G2) nq
    have cc : Cur (w2.drewN nq) C a len cap := ⟨j0, ⟨i, hle, j1⟩, ⟨H, j2⟩, y1, y2, hlt2⟩
    exact ⟨rfl, ⟨(unhide HD).step cc gg, (unhide HX).far gg (fun b' off' e => by have := (unhide HD).ne b' off' e; simp [this]), j1, ⟨H, j2, unhide HE2⟩, hle⟩, gg⟩

end Go.Proofs.Ytikhfacgoglcfaa

/-
  A word that is drawn: some link, some sequence, some bytes, in new memory. Nothing that was there is written.
-/
import Derived.Test.YtnhcmokkankcmafDraw
import Derived.Test.YtnhcmokkankcmafAppEl
import Derived.Test.YtnhcmokkankcmafRowBy
import Derived.Test.YtnhcmokkankcmafRegInv
import Derived.Test.YtnhcmokkankcmafApFar
import Derived.Test.YtnhcmokkankcmafBuGet
import Derived.Deep.Cut
import Derived.Laws.OwnMore
namespace Go.Proofs.Ytnhcmokkankcmaf
open Go Go.RowKit

/-- The word that is being drawn: the cursor, the result's block, the word's block, its bytes. -/
structure Dw (w W : World) (C R X : Nat) (a : Option Addr) (len cap : Nat) (l s : Int) (v : Value) (ds : List Int) : Prop where
  dr : Dr w C a len cap W
  res : Blk W R [.int .i64 0, .int .i64 0, .slice none 0 0]
  box : Blk W X [.int .i64 l, .int .i64 s, v]
  own : OwnE 1 byC W (X + 1) 5 v ds
  byt : ∀ i, i < ds.length → 0 ≤ elAt ds i ∧ elAt ds i ≤ 255
  ord : C < R ∧ R < X
theorem Dw.below {w W W' : World} {C R X : Nat} {a : Option Addr} {len cap : Nat} {l s : Int} {v : Value} {ds : List Int} (h : Dw w W C R X a len cap l s v ds) (k : Below W.heap.size W W') : Dw w W' C R X a len cap l s v ds :=
  ⟨h.dr.below k, h.res.below k, h.box.below k, h.own.below k, h.byt, h.ord⟩
theorem Dw.step {w W W' : World} {C R X : Nat} {a : Option Addr} {len cap : Nat} {l s : Int} {v : Value} {ds : List Int} (h : Dw w W C R X a len cap l s v ds) (d : Dr w C a len cap W') (g : W.grownBy W' (some C)) : Dw w W' C R X a len cap l s v ds := by
  have ho := h.ord
  exact ⟨d, h.res.apart g (fun e => by have := Option.some.inj e; omega), h.box.apart g (fun e => by have := Option.some.inj e; omega), h.own.far g (fun q hq e => by have := (h.own.lies q hq).1; have := Option.some.inj e; omega), h.byt, ho⟩
theorem Dw.put {w W : World} {C R X : Nat} {a : Option Addr} {len cap : Nat} {l s : Int} {v : Value} {ds : List Int} (h : Dw w W C R X a len cap l s v ds) (hin : ∀ b off, a = some ⟨b, off, none⟩ → b < w.heap.size) (i : Nat) (hi : i < 3) (u : Value) :
    Dr w C a len cap (W.setCell ⟨X, i, none⟩ u) ∧ Blk (W.setCell ⟨X, i, none⟩ u) R [.int .i64 0, .int .i64 0, .slice none 0 0] ∧ Blk (W.setCell ⟨X, i, none⟩ u) X ([.int .i64 l, .int .i64 s, v].set i u) ∧ OwnE 1 byC (W.setCell ⟨X, i, none⟩ u) (X + 1) 5 v ds := by
  have ho := h.ord
  have g : W.grownBy (W.setCell ⟨X, i, none⟩ u) (some X) := grown_set (grown_refl W (some X)) i u
  exact ⟨h.dr.own g (fun k hk => by cases hk; omega) hin, h.res.other (by show X ≠ R; omega) _, h.box.set i (by simpa using hi) u, h.own.set_other u (fun e => by have := (h.own.lies X e).1; omega)⟩
theorem Dw.setL {w W : World} {C R X : Nat} {a : Option Addr} {len cap : Nat} {l s : Int} {v : Value} {ds : List Int} (h : Dw w W C R X a len cap l s v ds) (hin : ∀ b off, a = some ⟨b, off, none⟩ → b < w.heap.size) (m : Int) : Dw w (W.setCell ⟨X, 0, none⟩ (.int .i64 m)) C R X a len cap m s v ds :=
  let p := h.put hin 0 (by omega) (.int .i64 m); ⟨p.1, p.2.1, p.2.2.1, p.2.2.2, h.byt, h.ord⟩
theorem Dw.setS {w W : World} {C R X : Nat} {a : Option Addr} {len cap : Nat} {l s : Int} {v : Value} {ds : List Int} (h : Dw w W C R X a len cap l s v ds) (hin : ∀ b off, a = some ⟨b, off, none⟩ → b < w.heap.size) (m : Int) : Dw w (W.setCell ⟨X, 1, none⟩ (.int .i64 m)) C R X a len cap l m v ds :=
  let p := h.put hin 1 (by omega) (.int .i64 m); ⟨p.1, p.2.1, p.2.2.1, p.2.2.2, h.byt, h.ord⟩
theorem row_put {w : World} {p : Option Addr} {n S o : Nat} {ds : List Int} (h : RowE 1 byC w p n ds) (hne : ∀ b off, p = some ⟨b, off, none⟩ → b ≠ S) (u : Value) : RowE 1 byC (w.setCell ⟨S, o, none⟩ u) p n ds := by
  refine ⟨h.len_eq, h.small, fun i hi => ?_⟩
  obtain ⟨b, off, e, hc⟩ := h.at_ i hi
  refine ⟨b, off, e, fun q hq => ?_⟩
  rw [← hc q hq]
  exact World.cell?_setCell_other w _ _ _ (by intro k; simp only [Addr.mk.injEq] at k; exact hne b off e k.1.symm)
theorem drByte {w : World} {C : Nat} {a : Option Addr} {len cap : Nat} (W : World) (h : Dr w C a len cap W) :
    Calls Try.prog 34 #[.pointer (some ⟨C, 0, none⟩)] W fun e w' => ∃ x : Int, e = .returned (.int .i64 x) ∧ (0 ≤ x ∧ x ≤ 255) ∧ Dr w C a len cap w' ∧ W.grownBy w' (some C) := by
  refine (l1Byte_any C a len cap W h.cur h.byt h.ne).mono ?_
  rintro e w' ⟨x, rfl, hx, hc, g⟩
  exact ⟨x, rfl, hx, h.step hc g, g⟩
theorem byt_app {ds : List Int} {x : Int} (h : ∀ i, i < ds.length → 0 ≤ elAt ds i ∧ elAt ds i ≤ 255) (hx : 0 ≤ x ∧ x ≤ 255) : ∀ i, i < (ds ++ [x]).length → 0 ≤ elAt (ds ++ [x]) i ∧ elAt (ds ++ [x]) i ≤ 255 := by
  intro i hi
  by_cases e : i < ds.length
  · rw [(elAt_app ds x).1 i e]; exact h i e
  · obtain rfl : i = ds.length := by simp at hi; omega
    rw [(elAt_app ds x).2]; exact hx
/-- One byte more, lying in a block: what append gives, and where. -/
theorem wpList_app_b1 {ops : Array Oper} {rest : List Oper} {o : Oper} {a : Act} {Q : Exit → Act → World → Prop} {w : World} (hgd : o.guard = none) (s xo : Operand) (ho : o.op = .call { callee := .builtin .append, args := #[s, xo], argTypes := #[22, 22] })
    {base n q : Nat} {v : Value} {ds : List Int} (x : Int) (hO : OwnE 1 byC w base 5 v ds) (hn : ds.length = n) (hs : a.eval s = v) (hx : a.eval xo = .slice (some ⟨q, 0, none⟩) 1 1) (hq : w.cell? ⟨q, 0, none⟩ = some (.int .u8 x)) (hb : base ≤ w.heap.size) (hsm : n ≤ 1000)
    (h : ∀ g cap w', OwnE 1 byC w' base 5 (.slice (some ⟨g, 0, none⟩) (n + 1) cap) (ds ++ [x]) → w.grownBy w' v.ownBlock → wpList Try.prog ops Q rest (a.put o.dst (.slice (some ⟨g, 0, none⟩) (n + 1) cap)) w') : wpList Try.prog ops Q (o :: rest) a w := by
  subst hn
  obtain ⟨vs, hown, hvx⟩ := hO.own
  obtain ⟨i0, hii, hz0, hz1, hz2⟩ := info_parts infoBy
  refine wpList_append_lies _ hgd s xo 22 ho base 5 i0 (.int .u8 0) 1 1 Try.underlying22 hii hz0 hz1 hz2 rfl (by decide) v ds.length vs hs hown ⟨q, 0, none⟩ 1 1 [.int .u8 x] hx rfl (fun j u hj => ?_) (fun u hu => by simp at hu; subst hu; rfl) (by decide) (by unfold maxLen; omega) (by omega) hb _ rfl ?_
  · have hj0 : j = 0 := by
      rcases Nat.eq_zero_or_pos j with k | k
      · exact k
      · rw [List.getElem?_eq_none (by simp; omega)] at hj; cases hj
    subst hj0
    simp at hj
    subst hj
    rw [addr_addR]
    simpa using hq
  · intro g cap w' h1 h2 _ _
    have hu : ∀ j, j < 1 → [Value.int .u8 x][j]? = some (byC x j) := fun j hj => by
      obtain rfl : j = 0 := by omega
      rfl
    exact h g cap w' (ownE_app h1 hown.1 hvx hu) h2
structure DwR (w : World) (C R X : Nat) (a : Option Addr) (len cap : Nat) (lk sq : Int) (v : Value) (n : Nat) (ds : List Int) (t0 t1 t2 t3 t4 t5 t6 t7 t8 : Bool) (v0 v1 v2 v3 v4 v5 v6 v7 : Value) (W : World) : Prop where
  dr : Dr w C a len cap W
  res : Blk W R [.int .i64 0, .int .i64 0, .slice none 0 0]
  box : Blk W X [.int .i64 lk, .int .i64 sq, (bif t8 then v6 else v)]
  own : t6 = false → OwnE 1 byC W (X + 1) 5 v ds
  e0 : t0 = true → v0 = .pointer (some ⟨X, 2, none⟩)
  e1 : t1 = true → v1 = v
  e2 : t2 = true → v2 = .pointer (some ⟨C, 0, none⟩)
  e3 : t3 = true → ∃ x : Int, (0 ≤ x ∧ x ≤ 255) ∧ v3 = .int .i64 x
  e4 : t4 = true → ∃ x : Int, (0 ≤ x ∧ x ≤ 255) ∧ v4 = .int .u8 x
  e5 : t5 = true → t6 = false → ∃ (q : Nat) (x : Int), (0 ≤ x ∧ x ≤ 255) ∧ v5 = .slice (some ⟨q, 0, none⟩) 1 1 ∧ Blk W q [.int .u8 x] ∧ X < q ∧ v.ownBlock ≠ some q
  e6 : t6 = true → ∃ (g c : Nat) (x : Int), (0 ≤ x ∧ x ≤ 255) ∧ v6 = .slice (some ⟨g, 0, none⟩) (n + 1) c ∧ OwnE 1 byC W (X + 1) 5 v6 (ds ++ [x])
  e7 : t7 = true → v7 = .pointer (some ⟨X, 2, none⟩)
  n8 : t8 = true → t6 = true
  n1 : t6 = true → t1 = true
  n5 : t6 = true → t5 = true
  n3 : t5 = true → t3 = true
  n4 : t4 = true → t3 = true
def DwRJ (w : World) (C R X : Nat) (a : Option Addr) (len cap : Nat) (lk sq : Int) (v : Value) (n : Nat) (ds : List Int) (A0 : Act) (l : Nat → Bool) (b : Act) (V : World) : Prop := ∃ (v0 v1 v2 v3 v4 v5 v6 v7 : Value), b = ((((((((A0.put (some 23) v0).put (some 24) v1).put (some 25) v2).put (some 26) v3).put (some 27) v4).put (some 28) v5).put (some 29) v6).put (some 30) v7) ∧ DwR w C R X a len cap lk sq v n ds (l 0) (l 1) (l 2) (l 3) (l 4) (l 5) (l 6) (l 7) (l 8) v0 v1 v2 v3 v4 v5 v6 v7 V
theorem DwRJ.mk {w : World} {C R X : Nat} {a : Option Addr} {len cap : Nat} {lk sq : Int} {v : Value} {n : Nat} {ds : List Int} {A0 : Act} {l : Nat → Bool} {b : Act} {V : World} {v0 v1 v2 v3 v4 v5 v6 v7 : Value} (K : DwR w C R X a len cap lk sq v n ds (l 0) (l 1) (l 2) (l 3) (l 4) (l 5) (l 6) (l 7) (l 8) v0 v1 v2 v3 v4 v5 v6 v7 V) (h : b = ((((((((A0.put (some 23) v0).put (some 24) v1).put (some 25) v2).put (some 26) v3).put (some 27) v4).put (some 28) v5).put (some 29) v6).put (some 30) v7)) : DwRJ w C R X a len cap lk sq v n ds A0 l b V := ⟨v0, v1, v2, v3, v4, v5, v6, v7, h, K⟩

set_option maxRecDepth 20000 in
set_option maxHeartbeats 4000000 in
theorem drawWord_any (C : Nat) (a : Option Addr) (len cap : Nat) (w W : World) (h : Dr w C a len cap W) (hin : ∀ b off, a = some ⟨b, off, none⟩ → b < w.heap.size) :
    Calls Try.prog 31 #[.pointer (some ⟨C, 0, none⟩)] W fun e w' => ∃ (l s : Int) (p : Option Addr) (n q : Nat) (ds : List Int), e = .returned (.agg #[.int .i64 l, .int .i64 s, .slice p n q]) ∧ RowE 1 byC w' p n ds ∧ (∀ i, i < ds.length → 0 ≤ elAt ds i ∧ elAt ds i ≤ 255) ∧ (∀ b off, p = some ⟨b, off, none⟩ → W.heap.size ≤ b) ∧ Below w.heap.size w w' := by
  have HIN := hide hin
  have HR0 := hide h
  clear h hin
  go_enter Try.func31, Try.ntmps31
  go_wp2_with fail
  obtain ⟨W1, hW1⟩ : ∃ V, V = W.alloc (Obj.cells #[.int .i64 0, .int .i64 0, .slice none 0 0] 30) := ⟨_, rfl⟩
  have D1 : Hid (Dr w C a len cap W1) := hide ((unhide HR0).below (by rw [hW1]; exact bel1 _))
  have KR : Hid (Blk W1 W.heap.size [.int .i64 0, .int .i64 0, .slice none 0 0]) := hide (by rw [hW1]; exact Blk.new _ _)
  have hCR : C < W.heap.size := (unhide HR0).lt
  obtain ⟨R, hR⟩ : ∃ R, W.heap.size = R := ⟨_, rfl⟩
  rw [← hW1, hR]
  rw [hR] at KR hCR
  have HRW := hide hR
  clear hW1 HR0 hR
  refine (drBelow 3 _ (unhide D1) (by omega)).mono ?_
  rintro e W2 ⟨x1, rfl, hx1, d2, g2⟩
  have D2 := hide d2
  have KR := hide ((unhide KR).apart g2 (fun e => by have := Option.some.inj e; omega))
  clear d2 g2 D1
  go_wp2_with fail
  refine (drBelow 12 _ (unhide D2) (by omega)).mono ?_
  rintro e W3 ⟨x2, rfl, hx2, d3, g3⟩
  have D3 := hide d3
  have KR := hide ((unhide KR).apart g3 (fun e => by have := Option.some.inj e; omega))
  clear d3 g3 D2
  obtain ⟨W4, hW4⟩ : ∃ V, V = W3.alloc (Obj.cells #[.int .i64 (1 + x1), .int .i64 x2, .slice none 0 0] 30) := ⟨_, rfl⟩
  have bb4 : Below W3.heap.size W3 W4 := by rw [hW4]; exact bel1 _
  have HD0 : Hid (Dw w W4 C R W3.heap.size a len cap (1 + x1) x2 (.slice none 0 0) []) := hide ⟨(unhide D3).below bb4, (unhide KR).below bb4, by rw [hW4]; exact Blk.new _ _, ownE_nl _ _ _, (fun i hi => by simp at hi), hCR, (unhide KR).lt⟩
  obtain ⟨X, hX⟩ : ∃ X, W3.heap.size = X := ⟨_, rfl⟩
  rw [hX] at HD0
  have HW4 := hide hW4
  have HX := hide hX
  clear hW4 hX bb4 D3 KR
  go_wp2_with fail
  rw [← unhide HW4, unhide HX]
  clear HW4 HX
  refine (drOnce 3 _ (unhide HD0).dr (by omega)).mono ?_
  rintro e W5 ⟨on, rfl, d5, g5⟩
  have HD1 := hide ((unhide HD0).step d5 g5)
  clear d5 g5 HD0
  cases on with
  | true =>
    go_wp2_with fail
    refine (drBelow 6 _ (unhide HD1).dr (by omega)).mono ?_
    rintro e W6 ⟨x3, rfl, hx3, d6, g6⟩
    have HD2 := hide ((unhide HD1).step d6 g6)
    have HD3 := hide ((unhide HD2).setS (unhide HIN) (250 + x3))
    obtain ⟨W7, hW7⟩ : ∃ V, V = W6.setCell ⟨X, 1, none⟩ (.int .i64 (250 + x3)) := ⟨_, rfl⟩
    rw [← hW7] at HD3
    have HW7 := hide hW7
    have y0 : W6.cell? ⟨X, 0, none⟩ = some (.int .i64 (1 + x1)) := (unhide HD2).box.c 0 (by simp)
    have yf0 : W6.frozen? ⟨X, 0, none⟩ = false := (unhide HD2).box.f 0 (by simp)
    have y1 : W6.cell? ⟨X, 1, none⟩ = some (.int .i64 x2) := (unhide HD2).box.c 1 (by simp)
    have yf1 : W6.frozen? ⟨X, 1, none⟩ = false := (unhide HD2).box.f 1 (by simp)
    have y2 : W6.cell? ⟨X, 2, none⟩ = some (.slice none 0 0) := (unhide HD2).box.c 2 (by simp)
    have yf2 : W6.frozen? ⟨X, 2, none⟩ = false := (unhide HD2).box.f 2 (by simp)
    clear d6 g6 HD1 hW7
    go_upto_region 4 with fail
    rw [← unhide HW7]
    clear y0 y1 y2 yf0 yf1 yf2 HW7 HD2
    obtain ⟨lk, sq, HDL⟩ : ∃ lk sq, Hid (Dw w W7 C R X a len cap lk sq (.slice none 0 0) []) := ⟨_, _, HD3⟩
    clear HD3
    go_wp2_with fail
    refine (drBelow 6 _ (unhide HDL).dr (by omega)).mono ?_
    rintro e W8 ⟨x4, rfl, hx4, d8, g8⟩
    have HD8 := hide ((unhide HDL).step d8 g8)
    clear d8 g8 HDL
    obtain ⟨m0, rfl⟩ : ∃ m : Nat, x4 = (m : Int) := ⟨x4.toNat, by omega⟩
    go_wp2_with fail
    go_loopw [4] (fun s4 wr => ∃ (m : Nat) (p : Option Addr) (n q : Nat) (ds : List Int), s4 = .int .i64 (m : Int) ∧ m ≤ 5 ∧ n + m ≤ 5 ∧ Hid (ds.length = n) ∧ Hid (Dw w wr C R X a len cap lk sq (.slice p n q) ds)) (fun s4 _ => (intOf s4).toNat)
    case atStart => exact ⟨m0, none, 0, 0, [], rfl, by omega, by omega, hide rfl, HD8⟩
    case round =>
      clear HD8
      obtain ⟨m, p, n, q, ds, rfl, hm, hnm, HNL, HD⟩ := hrel
      by_cases hp : 0 < m
      · have j1 : (0 : Int) < (m : Int) := by omega
        have HOR := hide (unhide HD).ord
        have hn9 : n ≤ 1000 := by omega
        go_upto_region 7 with fail
        refine wp_region_flagsA (by kernel_rfl) (by kernel_rfl) (DwRJ w C R X a len cap lk sq (.slice p n q) n ds) ?_ ?_ ?_
        · exact DwRJ.mk (v0 := u23) (v1 := u24) (v2 := u25) (v3 := u26) (v4 := u27) (v5 := u28) (v6 := u29) (v7 := u30) ⟨(unhide HD).dr.below (bel0d 1), (unhide HD).res.drewN 1, (unhide HD).box.drewN 1, fun _ => (unhide HD).own.below (bel0d 1), (fun h => by cases h), (fun h => by cases h), (fun h => by cases h), (fun h => by cases h), (fun h => by cases h), (fun h => by cases h), (fun h => by cases h), (fun h => by cases h), (fun h => by cases h), (fun h => by cases h), (fun h => by cases h), (fun h => by cases h), (fun h => by cases h)⟩ (by kernel_rfl)
        rotate_left 1
        · rintro l b V i o ho hl hd ⟨v0, v1, v2, v3, v4, v5, v6, v7, rfl, K⟩
          have hi : i < 9 := (Array.getElem?_eq_some_iff.1 ho).1
          rcases (show i = 0 ∨ i = 1 ∨ i = 2 ∨ i = 3 ∨ i = 4 ∨ i = 5 ∨ i = 6 ∨ i = 7 ∨ i = 8 from by omega) with rfl | rfl | rfl | rfl | rfl | rfl | rfl | rfl | rfl
          · simp at ho
            subst ho
            have HK : Hid (DwR w C R X a len cap lk sq (.slice p n q) n ds true (l 1) (l 2) (l 3) (l 4) (l 5) (l 6) (l 7) (l 8) (.pointer (some ⟨X, 2, none⟩)) v1 v2 v3 v4 v5 v6 v7 V) := hide ⟨(K.dr), (K.res), (K.box), (K.own), (fun _ => rfl), (K.e1), (K.e2), (K.e3), (K.e4), (K.e5), (K.e6), (K.e7), (K.n8), (K.n1), (K.n5), (K.n3), (K.n4)⟩
            clear K hd hl
            go_wp2_with fail
            exact ⟨rfl, DwRJ.mk (unhide HK) (by kernel_rfl)⟩
          · simp at ho
            subst ho
            have x0 := K.e0 (hd ⟨0, .data⟩ (by simp) rfl)
            subst x0
            have n6 : l 6 = false := by cases c6 : l 6; rfl; exact absurd (K.n1 c6) (by rw [hl]; simp)
            have n8 : l 8 = false := by cases c6 : l 8; rfl; exact absurd (K.n8 c6) (by rw [n6]; simp)
            have yy : V.cell? ⟨X, 2, none⟩ = some (.slice p n q) := by have := K.box.c 2 (by simp); rw [n8] at this; exact this
            have HK : Hid (DwR w C R X a len cap lk sq (.slice p n q) n ds (l 0) true (l 2) (l 3) (l 4) (l 5) (l 6) (l 7) (l 8) (.pointer (some ⟨X, 2, none⟩)) (.slice p n q) v2 v3 v4 v5 v6 v7 V) := hide ⟨(K.dr), (K.res), (K.box), (K.own), (K.e0), (fun _ => rfl), (K.e2), (K.e3), (K.e4), (K.e5), (K.e6), (K.e7), (K.n8), (fun _ => rfl), (K.n5), (K.n3), (K.n4)⟩
            clear K hd hl n6 n8
            go_wp2_with fail
            exact ⟨rfl, DwRJ.mk (unhide HK) (by kernel_rfl)⟩
          · simp at ho
            subst ho
            have HK : Hid (DwR w C R X a len cap lk sq (.slice p n q) n ds (l 0) (l 1) true (l 3) (l 4) (l 5) (l 6) (l 7) (l 8) v0 v1 (.pointer (some ⟨C, 0, none⟩)) v3 v4 v5 v6 v7 V) := hide ⟨(K.dr), (K.res), (K.box), (K.own), (K.e0), (K.e1), (fun _ => rfl), (K.e3), (K.e4), (K.e5), (K.e6), (K.e7), (K.n8), (K.n1), (K.n5), (K.n3), (K.n4)⟩
            clear K hd hl
            go_wp2_with fail
            exact ⟨rfl, DwRJ.mk (unhide HK) (by kernel_rfl)⟩
          · simp at ho
            subst ho
            have x2 := K.e2 (hd ⟨2, .data⟩ (by simp) rfl)
            subst x2
            have n5 : l 5 = false := by cases c6 : l 5; rfl; exact absurd (K.n3 c6) (by rw [hl]; simp)
            have n6 : l 6 = false := by cases c6 : l 6; rfl; exact absurd (K.n5 c6) (by rw [n5]; simp)
            have H6 := hide n6
            have H5 := hide n5
            have HK0 := hide K
            have hX := unhide HOR
            clear K hd hl n5 n6
            go_wp2_with (go_at_call 34; refine (drByte _ (unhide HK0).dr).mono ?_; rintro e V2 ⟨x, rfl, hx, d9, g9⟩; have K := unhide HK0; have HK : Hid (DwR w C R X a len cap lk sq (.slice p n q) n ds (l 0) (l 1) (l 2) true (l 4) (l 5) (l 6) (l 7) (l 8) v0 v1 (.pointer (some ⟨C, 0, none⟩)) (.int .i64 x) v4 v5 v6 v7 V2) := hide ⟨(d9), (K.res.apart g9 (fun e => by have := Option.some.inj e; omega)), (K.box.apart g9 (fun e => by have := Option.some.inj e; omega)), (fun h => (K.own h).far g9 (fun q hq e => by have := ((K.own h).lies q hq).1; have := Option.some.inj e; omega)), (K.e0), (K.e1), (K.e2), (fun _ => ⟨x, hx, rfl⟩), (K.e4), (fun h _ => by cases (unhide H5).symm.trans h), (fun h => by cases (unhide H6).symm.trans h), (K.e7), (K.n8), (K.n1), (K.n5), (fun _ => rfl), (fun _ => rfl)⟩; clear K d9 g9)
            exact ⟨rfl, DwRJ.mk (unhide HK) (by kernel_rfl)⟩
          · simp at ho
            subst ho
            have d3 : l 3 = true := hd ⟨3, .data⟩ (by simp) rfl
            obtain ⟨x, hx, x3⟩ := K.e3 d3
            subst x3
            have hm : x % 256 = x := by omega
            have HK : Hid (DwR w C R X a len cap lk sq (.slice p n q) n ds (l 0) (l 1) (l 2) (l 3) true (l 5) (l 6) (l 7) (l 8) v0 v1 v2 (.int .i64 x) (.int .u8 x) v5 v6 v7 V) := hide ⟨(K.dr), (K.res), (K.box), (K.own), (K.e0), (K.e1), (K.e2), (K.e3), (fun _ => ⟨x, hx, rfl⟩), (K.e5), (K.e6), (K.e7), (K.n8), (K.n1), (K.n5), (K.n3), (fun _ => d3)⟩
            clear K hd hl d3
            go_wp2_with fail
            exact ⟨rfl, DwRJ.mk (unhide HK) (by kernel_rfl)⟩
          · simp at ho
            subst ho
            obtain ⟨x, hx, x4⟩ := K.e4 (hd ⟨4, .data⟩ (by simp) rfl)
            subst x4
            have n6 : l 6 = false := by cases c6 : l 6; rfl; exact absurd (K.n5 c6) (by rw [hl]; simp)
            have d3 : l 3 = true := K.n4 (hd ⟨4, .data⟩ (by simp) rfl)
            have k9 := bel1 (w := V) (Obj.cells #[.int .u8 x] 5)
            have HK : Hid (DwR w C R X a len cap lk sq (.slice p n q) n ds (l 0) (l 1) (l 2) (l 3) (l 4) true (l 6) (l 7) (l 8) v0 v1 v2 v3 (.int .u8 x) (.slice (some ⟨V.heap.size, 0, none⟩) 1 1) v6 v7 (V.alloc (Obj.cells #[.int .u8 x] 5))) := hide ⟨(K.dr.below k9), (K.res.below k9), (K.box.below k9), (fun h => (K.own h).below k9), (K.e0), (K.e1), (K.e2), (K.e3), (K.e4), (fun _ _ => ⟨_, x, hx, rfl, Blk.new [.int .u8 x] 5, K.box.lt, fun e => by have := ((K.own n6).lies _ e).2; omega⟩), (fun h => by obtain ⟨g, c, x, a1, a2, a3⟩ := K.e6 h; exact ⟨g, c, x, a1, a2, a3.below k9⟩), (K.e7), (K.n8), (K.n1), (fun _ => rfl), (fun _ => d3), (K.n4)⟩
            clear K hd hl n6 d3 k9
            go_wp2_with fail
            exact ⟨rfl, DwRJ.mk (unhide HK) (by kernel_rfl)⟩
          · simp at ho
            subst ho
            have d1 : l 1 = true := hd ⟨1, .data⟩ (by simp) rfl
            have d5 : l 5 = true := hd ⟨5, .data⟩ (by simp) rfl
            have x1 := K.e1 d1
            obtain ⟨qq, x, hx, x5, kq, lq, nq⟩ := K.e5 d5 hl
            have n8 : l 8 = false := by cases c6 : l 8; rfl; exact absurd (K.n8 c6) (by rw [hl]; simp)
            have OD := K.own hl
            subst x1
            subst x5
            have HK0 := hide K
            have HOD := hide OD
            have HQ := hide kq
            have H8 := hide n8
            have H1 := hide d1
            have H5 := hide d5
            have hX := unhide HOR
            have hXs := K.box.lt
            have HBX : Hid (Blk V X [.int .i64 lk, .int .i64 sq, .slice p n q]) := hide (by have := K.box; rw [n8] at this; exact this)
            clear K hd hl OD kq n8 d1 d5
            go_wp2_with (at_builtin; refine wpList_app_b1 rfl _ _ rfl x (unhide HOD) (unhide HNL) (by kernel_rfl) (by kernel_rfl) ((unhide HQ).c 0 (by simp)) (by omega) hn9 ?_; intro g9 c9 w9 o9 gr9; have K := unhide HK0; have HK : Hid (DwR w C R X a len cap lk sq (.slice p n q) n ds (l 0) (l 1) (l 2) (l 3) (l 4) (l 5) true (l 7) (l 8) v0 (.slice p n q) v2 v3 v4 (.slice (some ⟨qq, 0, none⟩) 1 1) (.slice (some ⟨g9, 0, none⟩) (n + 1) c9) v7 w9) := hide ⟨(K.dr.own gr9 (fun k hk => by have := ((unhide HOD).lies k hk).1; omega) (unhide HIN)), (K.res.apart gr9 (fun e => by have := ((unhide HOD).lies _ e.symm).1; omega)), (by have := (unhide HBX).apart gr9 (fun e => by have := ((unhide HOD).lies _ e.symm).1; omega); rw [unhide H8]; exact this), (fun h => by cases h), (K.e0), (K.e1), (K.e2), (K.e3), (K.e4), (fun _ h => by cases h), (fun _ => ⟨g9, c9, x, hx, rfl, o9⟩), (K.e7), (fun _ => rfl), (fun _ => unhide H1), (fun _ => unhide H5), (K.n3), (K.n4)⟩; clear K o9 gr9)
            exact ⟨rfl, DwRJ.mk (unhide HK) (by kernel_rfl)⟩
          · simp at ho
            subst ho
            have HK : Hid (DwR w C R X a len cap lk sq (.slice p n q) n ds (l 0) (l 1) (l 2) (l 3) (l 4) (l 5) (l 6) true (l 8) v0 v1 v2 v3 v4 v5 v6 (.pointer (some ⟨X, 2, none⟩)) V) := hide ⟨(K.dr), (K.res), (K.box), (K.own), (K.e0), (K.e1), (K.e2), (K.e3), (K.e4), (K.e5), (K.e6), (fun _ => rfl), (K.n8), (K.n1), (K.n5), (K.n3), (K.n4)⟩
            clear K hd hl
            go_wp2_with fail
            exact ⟨rfl, DwRJ.mk (unhide HK) (by kernel_rfl)⟩
          · simp at ho
            subst ho
            have d6 : l 6 = true := hd ⟨6, .data⟩ (by simp) rfl
            obtain ⟨g9, c9, x, hx, x6, o6⟩ := K.e6 d6
            have x7 := K.e7 (hd ⟨7, .data⟩ (by simp) rfl)
            subst x7
            have B8 := K.box
            rw [hl] at B8
            have yy : V.cell? ⟨X, 2, none⟩ = some (.slice p n q) := B8.c 2 (by simp)
            have ff : V.frozen? ⟨X, 2, none⟩ = false := B8.f 2 (by simp)
            have hX := unhide HOR
            have gS : V.grownBy (V.setCell ⟨X, 2, none⟩ v6) (some X) := grown_set (grown_refl V (some X)) 2 v6
            have HK : Hid (DwR w C R X a len cap lk sq (.slice p n q) n ds (l 0) (l 1) (l 2) (l 3) (l 4) (l 5) (l 6) (l 7) true v0 v1 v2 v3 v4 v5 v6 (.pointer (some ⟨X, 2, none⟩)) (V.setCell ⟨X, 2, none⟩ v6)) := hide ⟨(K.dr.own gS (fun k hk => by cases hk; omega) (unhide HIN)), (K.res.other (by show X ≠ R; omega) _), (B8.set 2 (by simp) v6), (fun h => by cases d6.symm.trans h), (K.e0), (K.e1), (K.e2), (K.e3), (K.e4), (fun _ h => by cases d6.symm.trans h), (fun _ => ⟨g9, c9, x, hx, x6, o6.set_other _ (fun e => by have := (o6.lies X e).1; omega)⟩), (K.e7), (fun _ => d6), (K.n1), (K.n5), (K.n3), (K.n4)⟩
            subst x6
            clear K hd hl B8 gS o6 d6
            go_wp2_with fail
            exact ⟨rfl, DwRJ.mk (unhide HK) (by kernel_rfl)⟩
        rintro l b V hall ⟨v0, v1, v2, v3, v4, v5, v6, v7, rfl, K⟩
        obtain ⟨g9, c9, x, hx, x6, o6⟩ := K.e6 (hall 6 (by decide))
        have B8 := K.box
        rw [hall 8 (by decide)] at B8
        subst x6
        have H9 : Hid (Dw w V C R X a len cap lk sq (.slice (some ⟨g9, 0, none⟩) (n + 1) c9) (ds ++ [x])) := hide ⟨K.dr, K.res, B8, o6, byt_app (unhide HD).byt hx, (unhide HD).ord⟩
        clear K hall B8 o6
        go_wp2_with fail
        go_roundw
        case rel => exact ⟨m - 1, some ⟨g9, 0, none⟩, n + 1, c9, ds ++ [x], by rw [show ((m - 1 : Nat) : Int) = (m : Int) - 1 by omega], by omega, by omega, hide (by simp [unhide HNL]), H9⟩
        case measure => simp [intOf]; omega
      · have j1 : ¬ (0 : Int) < (m : Int) := by omega
        go_wp2_with fail
        refine (drBelow 40 _ (unhide HD).dr (by omega)).mono ?_
        rintro e W9 ⟨x5, rfl, hx5, d9, g9⟩
        have HD9 := hide ((unhide HD).step d9 g9)
        clear d9 g9 HD
        rcases (show x5 = 0 ∨ x5 = 1 ∨ x5 = 2 ∨ 2 < x5 from by omega) with rfl | rfl | rfl | h5
        · obtain ⟨V6, hV6⟩ : ∃ V, V = W9.alloc (Obj.cells #[.int .i64 0, .int .i64 255, .int .i64 256] 3) := ⟨_, rfl⟩
          have HV : Hid (Dw w V6 C R X a len cap lk sq (.slice p n q) ds) := hide ((unhide HD9).below (by rw [hV6]; exact bel1 _))
          have RL : Hid (Row V6 (some ⟨W9.heap.size, 0, none⟩) 3 [0, 255, 256]) := hide (by rw [hV6]; exact row_lit W9 [0, 255, 256] 3 (by decide) (by decide))
          have gne : W9.heap.size ≠ C := by have := (unhide HD9).dr.lt; omega
          have HV6 := hide hV6
          clear hV6
          go_wp2_with fail
          rw [← unhide HV6]
          refine (drPickInt _ 3 3 [0, 255, 256] _ (unhide HV).dr (unhide RL) gne (by omega)).mono ?_
          rintro e WP ⟨ii, hii, rfl, dp, gp⟩
          have HP := hide ((unhide HV).step dp gp)
          obtain ⟨vv, hvv⟩ : ∃ z, nth [0, 255, 256] ii = z := ⟨_, rfl⟩
          rw [hvv]
          have HDF := hide ((unhide HP).setL (unhide HIN) vv)
          obtain ⟨WF, hWF⟩ : ∃ V, V = WP.setCell ⟨X, 0, none⟩ (.int .i64 vv) := ⟨_, rfl⟩
          rw [← hWF] at HDF
          have HWF := hide hWF
          have y0 : WP.cell? ⟨X, 0, none⟩ = some (.int .i64 lk) := (unhide HP).box.c 0 (by simp)
          have yf0 : WP.frozen? ⟨X, 0, none⟩ = false := (unhide HP).box.f 0 (by simp)
          have y1 : WP.cell? ⟨X, 1, none⟩ = some (.int .i64 sq) := (unhide HP).box.c 1 (by simp)
          have yf1 : WP.frozen? ⟨X, 1, none⟩ = false := (unhide HP).box.f 1 (by simp)
          have y2 : WP.cell? ⟨X, 2, none⟩ = some (.slice p n q) := (unhide HP).box.c 2 (by simp)
          have yf2 : WP.frozen? ⟨X, 2, none⟩ = false := (unhide HP).box.f 2 (by simp)
          clear dp gp hvv hWF HV RL HV6 gne
          go_upto_region 15 with fail
          rw [← unhide HWF]
          clear y0 y1 y2 yf0 yf1 yf2
          clear HWF HP
          have y0 : WF.cell? ⟨X, 0, none⟩ = some (.int .i64 vv) := (unhide HDF).box.c 0 (by simp)
          have y1 : WF.cell? ⟨X, 1, none⟩ = some (.int .i64 sq) := (unhide HDF).box.c 1 (by simp)
          have y2 : WF.cell? ⟨X, 2, none⟩ = some (.slice p n q) := (unhide HDF).box.c 2 (by simp)
          have z0 : WF.cell? ⟨R, 0, none⟩ = some (.int .i64 0) := (unhide HDF).res.c 0 (by simp)
          have zf0 : WF.frozen? ⟨R, 0, none⟩ = false := (unhide HDF).res.f 0 (by simp)
          have z1 : WF.cell? ⟨R, 1, none⟩ = some (.int .i64 0) := (unhide HDF).res.c 1 (by simp)
          have zf1 : WF.frozen? ⟨R, 1, none⟩ = false := (unhide HDF).res.f 1 (by simp)
          have z2 : WF.cell? ⟨R, 2, none⟩ = some (.slice none 0 0) := (unhide HDF).res.c 2 (by simp)
          have zf2 : WF.frozen? ⟨R, 2, none⟩ = false := (unhide HDF).res.f 2 (by simp)
          go_wp2_with fail
          have hor := (unhide HDF).ord
          have hge := (unhide HDF).dr.ge
          exact bodyPost_ret (results_cell (vs := [.int .i64 vv, .int .i64 sq, .slice p n q]) rfl Try.isAgg30 Try.sizeOf30 rfl ((((unhide HDF).res.set 0 (by simp) _).set 1 (by simp) _).set 2 (by simp) _)) rfl ⟨vv, sq, p, n, q, ds, rfl, OwnE.row ((((unhide HDF).own.set_other _ (fun e => by have := ((unhide HDF).own.lies R e).1; omega)).set_other _ (fun e => by have := ((unhide HDF).own.lies R e).1; omega)).set_other _ (fun e => by have := ((unhide HDF).own.lies R e).1; omega)), (unhide HDF).byt, (fun b off e => by have h7 := ((unhide HDF).own.lies b (by rw [e]; rfl)).1; have h8 := unhide HRW; omega), (((unhide HDF).dr.bel.setCell (p := ⟨R, 0, none⟩) (by show w.heap.size ≤ R; omega) _).setCell (p := ⟨R, 1, none⟩) (by show w.heap.size ≤ R; omega) _).setCell (p := ⟨R, 2, none⟩) (by show w.heap.size ≤ R; omega) _⟩
        · obtain ⟨V6, hV6⟩ : ∃ V, V = W9.alloc (Obj.cells #[.int .i64 (-1), .int .i64 255, .int .i64 256] 3) := ⟨_, rfl⟩
          have HV : Hid (Dw w V6 C R X a len cap lk sq (.slice p n q) ds) := hide ((unhide HD9).below (by rw [hV6]; exact bel1 _))
          have RL : Hid (Row V6 (some ⟨W9.heap.size, 0, none⟩) 3 [-1, 255, 256]) := hide (by rw [hV6]; exact row_lit W9 [-1, 255, 256] 3 (by decide) (by decide))
          have gne : W9.heap.size ≠ C := by have := (unhide HD9).dr.lt; omega
          have HV6 := hide hV6
          clear hV6
          go_wp2_with fail
          rw [← unhide HV6]
          refine (drPickInt _ 3 3 [-1, 255, 256] _ (unhide HV).dr (unhide RL) gne (by omega)).mono ?_
          rintro e WP ⟨ii, hii, rfl, dp, gp⟩
          have HP := hide ((unhide HV).step dp gp)
          obtain ⟨vv, hvv⟩ : ∃ z, nth [-1, 255, 256] ii = z := ⟨_, rfl⟩
          rw [hvv]
          have HDF := hide ((unhide HP).setS (unhide HIN) vv)
          obtain ⟨WF, hWF⟩ : ∃ V, V = WP.setCell ⟨X, 1, none⟩ (.int .i64 vv) := ⟨_, rfl⟩
          rw [← hWF] at HDF
          have HWF := hide hWF
          have y0 : WP.cell? ⟨X, 0, none⟩ = some (.int .i64 lk) := (unhide HP).box.c 0 (by simp)
          have yf0 : WP.frozen? ⟨X, 0, none⟩ = false := (unhide HP).box.f 0 (by simp)
          have y1 : WP.cell? ⟨X, 1, none⟩ = some (.int .i64 sq) := (unhide HP).box.c 1 (by simp)
          have yf1 : WP.frozen? ⟨X, 1, none⟩ = false := (unhide HP).box.f 1 (by simp)
          have y2 : WP.cell? ⟨X, 2, none⟩ = some (.slice p n q) := (unhide HP).box.c 2 (by simp)
          have yf2 : WP.frozen? ⟨X, 2, none⟩ = false := (unhide HP).box.f 2 (by simp)
          clear dp gp hvv hWF HV RL HV6 gne
          go_upto_region 15 with fail
          rw [← unhide HWF]
          clear y0 y1 y2 yf0 yf1 yf2
          clear HWF HP
          have y0 : WF.cell? ⟨X, 0, none⟩ = some (.int .i64 lk) := (unhide HDF).box.c 0 (by simp)
          have y1 : WF.cell? ⟨X, 1, none⟩ = some (.int .i64 vv) := (unhide HDF).box.c 1 (by simp)
          have y2 : WF.cell? ⟨X, 2, none⟩ = some (.slice p n q) := (unhide HDF).box.c 2 (by simp)
          have z0 : WF.cell? ⟨R, 0, none⟩ = some (.int .i64 0) := (unhide HDF).res.c 0 (by simp)
          have zf0 : WF.frozen? ⟨R, 0, none⟩ = false := (unhide HDF).res.f 0 (by simp)
          have z1 : WF.cell? ⟨R, 1, none⟩ = some (.int .i64 0) := (unhide HDF).res.c 1 (by simp)
          have zf1 : WF.frozen? ⟨R, 1, none⟩ = false := (unhide HDF).res.f 1 (by simp)
          have z2 : WF.cell? ⟨R, 2, none⟩ = some (.slice none 0 0) := (unhide HDF).res.c 2 (by simp)
          have zf2 : WF.frozen? ⟨R, 2, none⟩ = false := (unhide HDF).res.f 2 (by simp)
          go_wp2_with fail
          have hor := (unhide HDF).ord
          have hge := (unhide HDF).dr.ge
          exact bodyPost_ret (results_cell (vs := [.int .i64 lk, .int .i64 vv, .slice p n q]) rfl Try.isAgg30 Try.sizeOf30 rfl ((((unhide HDF).res.set 0 (by simp) _).set 1 (by simp) _).set 2 (by simp) _)) rfl ⟨lk, vv, p, n, q, ds, rfl, OwnE.row ((((unhide HDF).own.set_other _ (fun e => by have := ((unhide HDF).own.lies R e).1; omega)).set_other _ (fun e => by have := ((unhide HDF).own.lies R e).1; omega)).set_other _ (fun e => by have := ((unhide HDF).own.lies R e).1; omega)), (unhide HDF).byt, (fun b off e => by have h7 := ((unhide HDF).own.lies b (by rw [e]; rfl)).1; have h8 := unhide HRW; omega), (((unhide HDF).dr.bel.setCell (p := ⟨R, 0, none⟩) (by show w.heap.size ≤ R; omega) _).setCell (p := ⟨R, 1, none⟩) (by show w.heap.size ≤ R; omega) _).setCell (p := ⟨R, 2, none⟩) (by show w.heap.size ≤ R; omega) _⟩
        · go_wp2_with fail
          refine (drBelow 2 _ (unhide HD9).dr (by omega)).mono ?_
          rintro e WB ⟨x6, rfl, hx6, db, gb⟩
          have HDB := hide ((unhide HD9).step db gb)
          obtain ⟨m6, rfl⟩ : ∃ m : Nat, x6 = (m : Int) := ⟨x6.toNat, by omega⟩
          have hm6 : m6 ≤ 1 := by omega
          have hN : (32 : Int) + (m6 : Int) = ((32 + m6 : Nat) : Int) := by omega
          obtain ⟨N, hNN⟩ : ∃ N : Nat, 32 + m6 = N := ⟨_, rfl⟩
          rw [hNN] at hN
          have hN33 : N ≤ 33 := by omega
          obtain ⟨i0, hi0, hz0, hz1, hz2⟩ := info_parts infoBy
          have hXB := (unhide HDB).box.lt
          clear db gb hNN
          go_upto_region 15 with (at_make; refine wpList_make_full _ rfl (.tmp 49) (.tmp 49) 22 rfl (X + 1) 5 i0 (.int .u8 0) 1 Try.underlying22 hi0 hz0 hz1 .i64 .i64 _ _ N rfl rfl rfl rfl (by rw [hz2]; omega) (by unfold maxLen; omega) (by omega) ?_; intro WM hown hgrow; have HM : Hid (OwnE 1 byC WM (X + 1) 5 (.slice (some ⟨WB.heap.size, 0, none⟩) N N) (List.replicate N 0)) := hide ⟨⟨_, by rw [List.length_replicate]; exact hown, fun j hj k hk => by rw [List.length_replicate] at hj; obtain rfl : k = 0 := (by omega); rw [show (Value.int IntKind.u8 0).cells = #[Value.int IntKind.u8 0] from rfl, toList_madeCells_one]; simp [elAt, byC, hj]⟩⟩; have bM : Below WB.heap.size WB WM := (Below.refl _ _).grown hgrow (Nat.le_refl _) (fun k hk => by cases hk); have HDM := hide ((unhide HDB).below bM); clear hown hgrow bM; have y2 := (unhide HDM).box.c 2 (by simp); have yf2 := (unhide HDM).box.f 2 (by simp))
          obtain ⟨WF, hWF⟩ : ∃ V, V = WM.setCell ⟨X, 2, none⟩ (.slice (some ⟨WB.heap.size, 0, none⟩) N N) := ⟨_, rfl⟩
          have HDF : Hid (Dw w WF C R X a len cap lk sq (.slice (some ⟨WB.heap.size, 0, none⟩) N N) (List.replicate N 0)) := hide (by
            rw [hWF]
            have pp := (unhide HDM).put (unhide HIN) 2 (by omega) (.slice (some ⟨WB.heap.size, 0, none⟩) N N)
            exact ⟨pp.1, pp.2.1, pp.2.2.1, (unhide HM).set_other _ (fun e => by have := ((unhide HM).lies X e).1; omega), fun i hi => by simp at hi; simp [elAt, hi], (unhide HDM).ord⟩)
          rw [← hWF]
          clear hWF y2 yf2 HDM HM HDB HD9
          have y0 : WF.cell? ⟨X, 0, none⟩ = some (.int .i64 lk) := (unhide HDF).box.c 0 (by simp)
          have y1 : WF.cell? ⟨X, 1, none⟩ = some (.int .i64 sq) := (unhide HDF).box.c 1 (by simp)
          have y2 : WF.cell? ⟨X, 2, none⟩ = some (.slice (some ⟨WB.heap.size, 0, none⟩) N N) := (unhide HDF).box.c 2 (by simp)
          have z0 : WF.cell? ⟨R, 0, none⟩ = some (.int .i64 0) := (unhide HDF).res.c 0 (by simp)
          have zf0 : WF.frozen? ⟨R, 0, none⟩ = false := (unhide HDF).res.f 0 (by simp)
          have z1 : WF.cell? ⟨R, 1, none⟩ = some (.int .i64 0) := (unhide HDF).res.c 1 (by simp)
          have zf1 : WF.frozen? ⟨R, 1, none⟩ = false := (unhide HDF).res.f 1 (by simp)
          have z2 : WF.cell? ⟨R, 2, none⟩ = some (.slice none 0 0) := (unhide HDF).res.c 2 (by simp)
          have zf2 : WF.frozen? ⟨R, 2, none⟩ = false := (unhide HDF).res.f 2 (by simp)
          go_wp2_with fail
          have hor := (unhide HDF).ord
          have hge := (unhide HDF).dr.ge
          exact bodyPost_ret (results_cell (vs := [.int .i64 lk, .int .i64 sq, .slice (some ⟨WB.heap.size, 0, none⟩) N N]) rfl Try.isAgg30 Try.sizeOf30 rfl ((((unhide HDF).res.set 0 (by simp) _).set 1 (by simp) _).set 2 (by simp) _)) rfl ⟨lk, sq, (some ⟨WB.heap.size, 0, none⟩), N, N, (List.replicate N 0), rfl, OwnE.row ((((unhide HDF).own.set_other _ (fun e => by have := ((unhide HDF).own.lies R e).1; omega)).set_other _ (fun e => by have := ((unhide HDF).own.lies R e).1; omega)).set_other _ (fun e => by have := ((unhide HDF).own.lies R e).1; omega)), (unhide HDF).byt, (fun b off e => by have h7 := ((unhide HDF).own.lies b (by rw [e]; rfl)).1; have h8 := unhide HRW; omega), (((unhide HDF).dr.bel.setCell (p := ⟨R, 0, none⟩) (by show w.heap.size ≤ R; omega) _).setCell (p := ⟨R, 1, none⟩) (by show w.heap.size ≤ R; omega) _).setCell (p := ⟨R, 2, none⟩) (by show w.heap.size ≤ R; omega) _⟩
        · have e0 : (x5 == 0) = false := by simp; omega
          have e1 : (x5 == 1) = false := by simp; omega
          have e2 : (x5 == 2) = false := by simp; omega
          have f0 : ¬ x5 = 0 := by omega
          have f1 : ¬ x5 = 1 := by omega
          have f2 : ¬ x5 = 2 := by omega
          have HDF := HD9
          go_upto_region 15 with fail
          have y0 : W9.cell? ⟨X, 0, none⟩ = some (.int .i64 lk) := (unhide HDF).box.c 0 (by simp)
          have y1 : W9.cell? ⟨X, 1, none⟩ = some (.int .i64 sq) := (unhide HDF).box.c 1 (by simp)
          have y2 : W9.cell? ⟨X, 2, none⟩ = some (.slice p n q) := (unhide HDF).box.c 2 (by simp)
          have z0 : W9.cell? ⟨R, 0, none⟩ = some (.int .i64 0) := (unhide HDF).res.c 0 (by simp)
          have zf0 : W9.frozen? ⟨R, 0, none⟩ = false := (unhide HDF).res.f 0 (by simp)
          have z1 : W9.cell? ⟨R, 1, none⟩ = some (.int .i64 0) := (unhide HDF).res.c 1 (by simp)
          have zf1 : W9.frozen? ⟨R, 1, none⟩ = false := (unhide HDF).res.f 1 (by simp)
          have z2 : W9.cell? ⟨R, 2, none⟩ = some (.slice none 0 0) := (unhide HDF).res.c 2 (by simp)
          have zf2 : W9.frozen? ⟨R, 2, none⟩ = false := (unhide HDF).res.f 2 (by simp)
          go_wp2_with fail
          have hor := (unhide HDF).ord
          have hge := (unhide HDF).dr.ge
          exact bodyPost_ret (results_cell (vs := [.int .i64 lk, .int .i64 sq, .slice p n q]) rfl Try.isAgg30 Try.sizeOf30 rfl ((((unhide HDF).res.set 0 (by simp) _).set 1 (by simp) _).set 2 (by simp) _)) rfl ⟨lk, sq, p, n, q, ds, rfl, OwnE.row ((((unhide HDF).own.set_other _ (fun e => by have := ((unhide HDF).own.lies R e).1; omega)).set_other _ (fun e => by have := ((unhide HDF).own.lies R e).1; omega)).set_other _ (fun e => by have := ((unhide HDF).own.lies R e).1; omega)), (unhide HDF).byt, (fun b off e => by have h7 := ((unhide HDF).own.lies b (by rw [e]; rfl)).1; have h8 := unhide HRW; omega), (((unhide HDF).dr.bel.setCell (p := ⟨R, 0, none⟩) (by show w.heap.size ≤ R; omega) _).setCell (p := ⟨R, 1, none⟩) (by show w.heap.size ≤ R; omega) _).setCell (p := ⟨R, 2, none⟩) (by show w.heap.size ≤ R; omega) _⟩
  | false =>
    obtain ⟨lk, sq, HDL⟩ : ∃ lk sq, Hid (Dw w W5 C R X a len cap lk sq (.slice none 0 0) []) := ⟨_, _, HD1⟩
    clear HD1
    go_wp2_with fail
    refine (drBelow 6 _ (unhide HDL).dr (by omega)).mono ?_
    rintro e W8 ⟨x4, rfl, hx4, d8, g8⟩
    have HD8 := hide ((unhide HDL).step d8 g8)
    clear d8 g8 HDL
    obtain ⟨m0, rfl⟩ : ∃ m : Nat, x4 = (m : Int) := ⟨x4.toNat, by omega⟩
    go_wp2_with fail
    go_loopw [4] (fun s4 wr => ∃ (m : Nat) (p : Option Addr) (n q : Nat) (ds : List Int), s4 = .int .i64 (m : Int) ∧ m ≤ 5 ∧ n + m ≤ 5 ∧ Hid (ds.length = n) ∧ Hid (Dw w wr C R X a len cap lk sq (.slice p n q) ds)) (fun s4 _ => (intOf s4).toNat)
    case atStart => exact ⟨m0, none, 0, 0, [], rfl, by omega, by omega, hide rfl, HD8⟩
    case round =>
      clear HD8
      obtain ⟨m, p, n, q, ds, rfl, hm, hnm, HNL, HD⟩ := hrel
      by_cases hp : 0 < m
      · have j1 : (0 : Int) < (m : Int) := by omega
        have HOR := hide (unhide HD).ord
        have hn9 : n ≤ 1000 := by omega
        go_upto_region 7 with fail
        refine wp_region_flagsA (by kernel_rfl) (by kernel_rfl) (DwRJ w C R X a len cap lk sq (.slice p n q) n ds) ?_ ?_ ?_
        · exact DwRJ.mk (v0 := u23) (v1 := u24) (v2 := u25) (v3 := u26) (v4 := u27) (v5 := u28) (v6 := u29) (v7 := u30) ⟨(unhide HD).dr.below (bel0d 1), (unhide HD).res.drewN 1, (unhide HD).box.drewN 1, fun _ => (unhide HD).own.below (bel0d 1), (fun h => by cases h), (fun h => by cases h), (fun h => by cases h), (fun h => by cases h), (fun h => by cases h), (fun h => by cases h), (fun h => by cases h), (fun h => by cases h), (fun h => by cases h), (fun h => by cases h), (fun h => by cases h), (fun h => by cases h), (fun h => by cases h)⟩ (by kernel_rfl)
        rotate_left 1
        · rintro l b V i o ho hl hd ⟨v0, v1, v2, v3, v4, v5, v6, v7, rfl, K⟩
          have hi : i < 9 := (Array.getElem?_eq_some_iff.1 ho).1
          rcases (show i = 0 ∨ i = 1 ∨ i = 2 ∨ i = 3 ∨ i = 4 ∨ i = 5 ∨ i = 6 ∨ i = 7 ∨ i = 8 from by omega) with rfl | rfl | rfl | rfl | rfl | rfl | rfl | rfl | rfl
          · simp at ho
            subst ho
            have HK : Hid (DwR w C R X a len cap lk sq (.slice p n q) n ds true (l 1) (l 2) (l 3) (l 4) (l 5) (l 6) (l 7) (l 8) (.pointer (some ⟨X, 2, none⟩)) v1 v2 v3 v4 v5 v6 v7 V) := hide ⟨(K.dr), (K.res), (K.box), (K.own), (fun _ => rfl), (K.e1), (K.e2), (K.e3), (K.e4), (K.e5), (K.e6), (K.e7), (K.n8), (K.n1), (K.n5), (K.n3), (K.n4)⟩
            clear K hd hl
            go_wp2_with fail
            exact ⟨rfl, DwRJ.mk (unhide HK) (by kernel_rfl)⟩
          · simp at ho
            subst ho
            have x0 := K.e0 (hd ⟨0, .data⟩ (by simp) rfl)
            subst x0
            have n6 : l 6 = false := by cases c6 : l 6; rfl; exact absurd (K.n1 c6) (by rw [hl]; simp)
            have n8 : l 8 = false := by cases c6 : l 8; rfl; exact absurd (K.n8 c6) (by rw [n6]; simp)
            have yy : V.cell? ⟨X, 2, none⟩ = some (.slice p n q) := by have := K.box.c 2 (by simp); rw [n8] at this; exact this
            have HK : Hid (DwR w C R X a len cap lk sq (.slice p n q) n ds (l 0) true (l 2) (l 3) (l 4) (l 5) (l 6) (l 7) (l 8) (.pointer (some ⟨X, 2, none⟩)) (.slice p n q) v2 v3 v4 v5 v6 v7 V) := hide ⟨(K.dr), (K.res), (K.box), (K.own), (K.e0), (fun _ => rfl), (K.e2), (K.e3), (K.e4), (K.e5), (K.e6), (K.e7), (K.n8), (fun _ => rfl), (K.n5), (K.n3), (K.n4)⟩
            clear K hd hl n6 n8
            go_wp2_with fail
            exact ⟨rfl, DwRJ.mk (unhide HK) (by kernel_rfl)⟩
          · simp at ho
            subst ho
            have HK : Hid (DwR w C R X a len cap lk sq (.slice p n q) n ds (l 0) (l 1) true (l 3) (l 4) (l 5) (l 6) (l 7) (l 8) v0 v1 (.pointer (some ⟨C, 0, none⟩)) v3 v4 v5 v6 v7 V) := hide ⟨(K.dr), (K.res), (K.box), (K.own), (K.e0), (K.e1), (fun _ => rfl), (K.e3), (K.e4), (K.e5), (K.e6), (K.e7), (K.n8), (K.n1), (K.n5), (K.n3), (K.n4)⟩
            clear K hd hl
            go_wp2_with fail
            exact ⟨rfl, DwRJ.mk (unhide HK) (by kernel_rfl)⟩
          · simp at ho
            subst ho
            have x2 := K.e2 (hd ⟨2, .data⟩ (by simp) rfl)
            subst x2
            have n5 : l 5 = false := by cases c6 : l 5; rfl; exact absurd (K.n3 c6) (by rw [hl]; simp)
            have n6 : l 6 = false := by cases c6 : l 6; rfl; exact absurd (K.n5 c6) (by rw [n5]; simp)
            have H6 := hide n6
            have H5 := hide n5
            have HK0 := hide K
            have hX := unhide HOR
            clear K hd hl n5 n6
            go_wp2_with (go_at_call 34; refine (drByte _ (unhide HK0).dr).mono ?_; rintro e V2 ⟨x, rfl, hx, d9, g9⟩; have K := unhide HK0; have HK : Hid (DwR w C R X a len cap lk sq (.slice p n q) n ds (l 0) (l 1) (l 2) true (l 4) (l 5) (l 6) (l 7) (l 8) v0 v1 (.pointer (some ⟨C, 0, none⟩)) (.int .i64 x) v4 v5 v6 v7 V2) := hide ⟨(d9), (K.res.apart g9 (fun e => by have := Option.some.inj e; omega)), (K.box.apart g9 (fun e => by have := Option.some.inj e; omega)), (fun h => (K.own h).far g9 (fun q hq e => by have := ((K.own h).lies q hq).1; have := Option.some.inj e; omega)), (K.e0), (K.e1), (K.e2), (fun _ => ⟨x, hx, rfl⟩), (K.e4), (fun h _ => by cases (unhide H5).symm.trans h), (fun h => by cases (unhide H6).symm.trans h), (K.e7), (K.n8), (K.n1), (K.n5), (fun _ => rfl), (fun _ => rfl)⟩; clear K d9 g9)
            exact ⟨rfl, DwRJ.mk (unhide HK) (by kernel_rfl)⟩
          · simp at ho
            subst ho
            have d3 : l 3 = true := hd ⟨3, .data⟩ (by simp) rfl
            obtain ⟨x, hx, x3⟩ := K.e3 d3
            subst x3
            have hm : x % 256 = x := by omega
            have HK : Hid (DwR w C R X a len cap lk sq (.slice p n q) n ds (l 0) (l 1) (l 2) (l 3) true (l 5) (l 6) (l 7) (l 8) v0 v1 v2 (.int .i64 x) (.int .u8 x) v5 v6 v7 V) := hide ⟨(K.dr), (K.res), (K.box), (K.own), (K.e0), (K.e1), (K.e2), (K.e3), (fun _ => ⟨x, hx, rfl⟩), (K.e5), (K.e6), (K.e7), (K.n8), (K.n1), (K.n5), (K.n3), (fun _ => d3)⟩
            clear K hd hl d3
            go_wp2_with fail
            exact ⟨rfl, DwRJ.mk (unhide HK) (by kernel_rfl)⟩
          · simp at ho
            subst ho
            obtain ⟨x, hx, x4⟩ := K.e4 (hd ⟨4, .data⟩ (by simp) rfl)
            subst x4
            have n6 : l 6 = false := by cases c6 : l 6; rfl; exact absurd (K.n5 c6) (by rw [hl]; simp)
            have d3 : l 3 = true := K.n4 (hd ⟨4, .data⟩ (by simp) rfl)
            have k9 := bel1 (w := V) (Obj.cells #[.int .u8 x] 5)
            have HK : Hid (DwR w C R X a len cap lk sq (.slice p n q) n ds (l 0) (l 1) (l 2) (l 3) (l 4) true (l 6) (l 7) (l 8) v0 v1 v2 v3 (.int .u8 x) (.slice (some ⟨V.heap.size, 0, none⟩) 1 1) v6 v7 (V.alloc (Obj.cells #[.int .u8 x] 5))) := hide ⟨(K.dr.below k9), (K.res.below k9), (K.box.below k9), (fun h => (K.own h).below k9), (K.e0), (K.e1), (K.e2), (K.e3), (K.e4), (fun _ _ => ⟨_, x, hx, rfl, Blk.new [.int .u8 x] 5, K.box.lt, fun e => by have := ((K.own n6).lies _ e).2; omega⟩), (fun h => by obtain ⟨g, c, x, a1, a2, a3⟩ := K.e6 h; exact ⟨g, c, x, a1, a2, a3.below k9⟩), (K.e7), (K.n8), (K.n1), (fun _ => rfl), (fun _ => d3), (K.n4)⟩
            clear K hd hl n6 d3 k9
            go_wp2_with fail
            exact ⟨rfl, DwRJ.mk (unhide HK) (by kernel_rfl)⟩
          · simp at ho
            subst ho
            have d1 : l 1 = true := hd ⟨1, .data⟩ (by simp) rfl
            have d5 : l 5 = true := hd ⟨5, .data⟩ (by simp) rfl
            have x1 := K.e1 d1
            obtain ⟨qq, x, hx, x5, kq, lq, nq⟩ := K.e5 d5 hl
            have n8 : l 8 = false := by cases c6 : l 8; rfl; exact absurd (K.n8 c6) (by rw [hl]; simp)
            have OD := K.own hl
            subst x1
            subst x5
            have HK0 := hide K
            have HOD := hide OD
            have HQ := hide kq
            have H8 := hide n8
            have H1 := hide d1
            have H5 := hide d5
            have hX := unhide HOR
            have hXs := K.box.lt
            have HBX : Hid (Blk V X [.int .i64 lk, .int .i64 sq, .slice p n q]) := hide (by have := K.box; rw [n8] at this; exact this)
            clear K hd hl OD kq n8 d1 d5
            go_wp2_with (at_builtin; refine wpList_app_b1 rfl _ _ rfl x (unhide HOD) (unhide HNL) (by kernel_rfl) (by kernel_rfl) ((unhide HQ).c 0 (by simp)) (by omega) hn9 ?_; intro g9 c9 w9 o9 gr9; have K := unhide HK0; have HK : Hid (DwR w C R X a len cap lk sq (.slice p n q) n ds (l 0) (l 1) (l 2) (l 3) (l 4) (l 5) true (l 7) (l 8) v0 (.slice p n q) v2 v3 v4 (.slice (some ⟨qq, 0, none⟩) 1 1) (.slice (some ⟨g9, 0, none⟩) (n + 1) c9) v7 w9) := hide ⟨(K.dr.own gr9 (fun k hk => by have := ((unhide HOD).lies k hk).1; omega) (unhide HIN)), (K.res.apart gr9 (fun e => by have := ((unhide HOD).lies _ e.symm).1; omega)), (by have := (unhide HBX).apart gr9 (fun e => by have := ((unhide HOD).lies _ e.symm).1; omega); rw [unhide H8]; exact this), (fun h => by cases h), (K.e0), (K.e1), (K.e2), (K.e3), (K.e4), (fun _ h => by cases h), (fun _ => ⟨g9, c9, x, hx, rfl, o9⟩), (K.e7), (fun _ => rfl), (fun _ => unhide H1), (fun _ => unhide H5), (K.n3), (K.n4)⟩; clear K o9 gr9)
            exact ⟨rfl, DwRJ.mk (unhide HK) (by kernel_rfl)⟩
          · simp at ho
            subst ho
            have HK : Hid (DwR w C R X a len cap lk sq (.slice p n q) n ds (l 0) (l 1) (l 2) (l 3) (l 4) (l 5) (l 6) true (l 8) v0 v1 v2 v3 v4 v5 v6 (.pointer (some ⟨X, 2, none⟩)) V) := hide ⟨(K.dr), (K.res), (K.box), (K.own), (K.e0), (K.e1), (K.e2), (K.e3), (K.e4), (K.e5), (K.e6), (fun _ => rfl), (K.n8), (K.n1), (K.n5), (K.n3), (K.n4)⟩
            clear K hd hl
            go_wp2_with fail
            exact ⟨rfl, DwRJ.mk (unhide HK) (by kernel_rfl)⟩
          · simp at ho
            subst ho
            have d6 : l 6 = true := hd ⟨6, .data⟩ (by simp) rfl
            obtain ⟨g9, c9, x, hx, x6, o6⟩ := K.e6 d6
            have x7 := K.e7 (hd ⟨7, .data⟩ (by simp) rfl)
            subst x7
            have B8 := K.box
            rw [hl] at B8
            have yy : V.cell? ⟨X, 2, none⟩ = some (.slice p n q) := B8.c 2 (by simp)
            have ff : V.frozen? ⟨X, 2, none⟩ = false := B8.f 2 (by simp)
            have hX := unhide HOR
            have gS : V.grownBy (V.setCell ⟨X, 2, none⟩ v6) (some X) := grown_set (grown_refl V (some X)) 2 v6
            have HK : Hid (DwR w C R X a len cap lk sq (.slice p n q) n ds (l 0) (l 1) (l 2) (l 3) (l 4) (l 5) (l 6) (l 7) true v0 v1 v2 v3 v4 v5 v6 (.pointer (some ⟨X, 2, none⟩)) (V.setCell ⟨X, 2, none⟩ v6)) := hide ⟨(K.dr.own gS (fun k hk => by cases hk; omega) (unhide HIN)), (K.res.other (by show X ≠ R; omega) _), (B8.set 2 (by simp) v6), (fun h => by cases d6.symm.trans h), (K.e0), (K.e1), (K.e2), (K.e3), (K.e4), (fun _ h => by cases d6.symm.trans h), (fun _ => ⟨g9, c9, x, hx, x6, o6.set_other _ (fun e => by have := (o6.lies X e).1; omega)⟩), (K.e7), (fun _ => d6), (K.n1), (K.n5), (K.n3), (K.n4)⟩
            subst x6
            clear K hd hl B8 gS o6 d6
            go_wp2_with fail
            exact ⟨rfl, DwRJ.mk (unhide HK) (by kernel_rfl)⟩
        rintro l b V hall ⟨v0, v1, v2, v3, v4, v5, v6, v7, rfl, K⟩
        obtain ⟨g9, c9, x, hx, x6, o6⟩ := K.e6 (hall 6 (by decide))
        have B8 := K.box
        rw [hall 8 (by decide)] at B8
        subst x6
        have H9 : Hid (Dw w V C R X a len cap lk sq (.slice (some ⟨g9, 0, none⟩) (n + 1) c9) (ds ++ [x])) := hide ⟨K.dr, K.res, B8, o6, byt_app (unhide HD).byt hx, (unhide HD).ord⟩
        clear K hall B8 o6
        go_wp2_with fail
        go_roundw
        case rel => exact ⟨m - 1, some ⟨g9, 0, none⟩, n + 1, c9, ds ++ [x], by rw [show ((m - 1 : Nat) : Int) = (m : Int) - 1 by omega], by omega, by omega, hide (by simp [unhide HNL]), H9⟩
        case measure => simp [intOf]; omega
      · have j1 : ¬ (0 : Int) < (m : Int) := by omega
        go_wp2_with fail
        refine (drBelow 40 _ (unhide HD).dr (by omega)).mono ?_
        rintro e W9 ⟨x5, rfl, hx5, d9, g9⟩
        have HD9 := hide ((unhide HD).step d9 g9)
        clear d9 g9 HD
        rcases (show x5 = 0 ∨ x5 = 1 ∨ x5 = 2 ∨ 2 < x5 from by omega) with rfl | rfl | rfl | h5
        · obtain ⟨V6, hV6⟩ : ∃ V, V = W9.alloc (Obj.cells #[.int .i64 0, .int .i64 255, .int .i64 256] 3) := ⟨_, rfl⟩
          have HV : Hid (Dw w V6 C R X a len cap lk sq (.slice p n q) ds) := hide ((unhide HD9).below (by rw [hV6]; exact bel1 _))
          have RL : Hid (Row V6 (some ⟨W9.heap.size, 0, none⟩) 3 [0, 255, 256]) := hide (by rw [hV6]; exact row_lit W9 [0, 255, 256] 3 (by decide) (by decide))
          have gne : W9.heap.size ≠ C := by have := (unhide HD9).dr.lt; omega
          have HV6 := hide hV6
          clear hV6
          go_wp2_with fail
          rw [← unhide HV6]
          refine (drPickInt _ 3 3 [0, 255, 256] _ (unhide HV).dr (unhide RL) gne (by omega)).mono ?_
          rintro e WP ⟨ii, hii, rfl, dp, gp⟩
          have HP := hide ((unhide HV).step dp gp)
          obtain ⟨vv, hvv⟩ : ∃ z, nth [0, 255, 256] ii = z := ⟨_, rfl⟩
          rw [hvv]
          have HDF := hide ((unhide HP).setL (unhide HIN) vv)
          obtain ⟨WF, hWF⟩ : ∃ V, V = WP.setCell ⟨X, 0, none⟩ (.int .i64 vv) := ⟨_, rfl⟩
          rw [← hWF] at HDF
          have HWF := hide hWF
          have y0 : WP.cell? ⟨X, 0, none⟩ = some (.int .i64 lk) := (unhide HP).box.c 0 (by simp)
          have yf0 : WP.frozen? ⟨X, 0, none⟩ = false := (unhide HP).box.f 0 (by simp)
          have y1 : WP.cell? ⟨X, 1, none⟩ = some (.int .i64 sq) := (unhide HP).box.c 1 (by simp)
          have yf1 : WP.frozen? ⟨X, 1, none⟩ = false := (unhide HP).box.f 1 (by simp)
          have y2 : WP.cell? ⟨X, 2, none⟩ = some (.slice p n q) := (unhide HP).box.c 2 (by simp)
          have yf2 : WP.frozen? ⟨X, 2, none⟩ = false := (unhide HP).box.f 2 (by simp)
          clear dp gp hvv hWF HV RL HV6 gne
          go_upto_region 15 with fail
          rw [← unhide HWF]
          clear y0 y1 y2 yf0 yf1 yf2
          clear HWF HP
          have y0 : WF.cell? ⟨X, 0, none⟩ = some (.int .i64 vv) := (unhide HDF).box.c 0 (by simp)
          have y1 : WF.cell? ⟨X, 1, none⟩ = some (.int .i64 sq) := (unhide HDF).box.c 1 (by simp)
          have y2 : WF.cell? ⟨X, 2, none⟩ = some (.slice p n q) := (unhide HDF).box.c 2 (by simp)
          have z0 : WF.cell? ⟨R, 0, none⟩ = some (.int .i64 0) := (unhide HDF).res.c 0 (by simp)
          have zf0 : WF.frozen? ⟨R, 0, none⟩ = false := (unhide HDF).res.f 0 (by simp)
          have z1 : WF.cell? ⟨R, 1, none⟩ = some (.int .i64 0) := (unhide HDF).res.c 1 (by simp)
          have zf1 : WF.frozen? ⟨R, 1, none⟩ = false := (unhide HDF).res.f 1 (by simp)
          have z2 : WF.cell? ⟨R, 2, none⟩ = some (.slice none 0 0) := (unhide HDF).res.c 2 (by simp)
          have zf2 : WF.frozen? ⟨R, 2, none⟩ = false := (unhide HDF).res.f 2 (by simp)
          go_wp2_with fail
          have hor := (unhide HDF).ord
          have hge := (unhide HDF).dr.ge
          exact bodyPost_ret (results_cell (vs := [.int .i64 vv, .int .i64 sq, .slice p n q]) rfl Try.isAgg30 Try.sizeOf30 rfl ((((unhide HDF).res.set 0 (by simp) _).set 1 (by simp) _).set 2 (by simp) _)) rfl ⟨vv, sq, p, n, q, ds, rfl, OwnE.row ((((unhide HDF).own.set_other _ (fun e => by have := ((unhide HDF).own.lies R e).1; omega)).set_other _ (fun e => by have := ((unhide HDF).own.lies R e).1; omega)).set_other _ (fun e => by have := ((unhide HDF).own.lies R e).1; omega)), (unhide HDF).byt, (fun b off e => by have h7 := ((unhide HDF).own.lies b (by rw [e]; rfl)).1; have h8 := unhide HRW; omega), (((unhide HDF).dr.bel.setCell (p := ⟨R, 0, none⟩) (by show w.heap.size ≤ R; omega) _).setCell (p := ⟨R, 1, none⟩) (by show w.heap.size ≤ R; omega) _).setCell (p := ⟨R, 2, none⟩) (by show w.heap.size ≤ R; omega) _⟩
        · obtain ⟨V6, hV6⟩ : ∃ V, V = W9.alloc (Obj.cells #[.int .i64 (-1), .int .i64 255, .int .i64 256] 3) := ⟨_, rfl⟩
          have HV : Hid (Dw w V6 C R X a len cap lk sq (.slice p n q) ds) := hide ((unhide HD9).below (by rw [hV6]; exact bel1 _))
          have RL : Hid (Row V6 (some ⟨W9.heap.size, 0, none⟩) 3 [-1, 255, 256]) := hide (by rw [hV6]; exact row_lit W9 [-1, 255, 256] 3 (by decide) (by decide))
          have gne : W9.heap.size ≠ C := by have := (unhide HD9).dr.lt; omega
          have HV6 := hide hV6
          clear hV6
          go_wp2_with fail
          rw [← unhide HV6]
          refine (drPickInt _ 3 3 [-1, 255, 256] _ (unhide HV).dr (unhide RL) gne (by omega)).mono ?_
          rintro e WP ⟨ii, hii, rfl, dp, gp⟩
          have HP := hide ((unhide HV).step dp gp)
          obtain ⟨vv, hvv⟩ : ∃ z, nth [-1, 255, 256] ii = z := ⟨_, rfl⟩
          rw [hvv]
          have HDF := hide ((unhide HP).setS (unhide HIN) vv)
          obtain ⟨WF, hWF⟩ : ∃ V, V = WP.setCell ⟨X, 1, none⟩ (.int .i64 vv) := ⟨_, rfl⟩
          rw [← hWF] at HDF
          have HWF := hide hWF
          have y0 : WP.cell? ⟨X, 0, none⟩ = some (.int .i64 lk) := (unhide HP).box.c 0 (by simp)
          have yf0 : WP.frozen? ⟨X, 0, none⟩ = false := (unhide HP).box.f 0 (by simp)
          have y1 : WP.cell? ⟨X, 1, none⟩ = some (.int .i64 sq) := (unhide HP).box.c 1 (by simp)
          have yf1 : WP.frozen? ⟨X, 1, none⟩ = false := (unhide HP).box.f 1 (by simp)
          have y2 : WP.cell? ⟨X, 2, none⟩ = some (.slice p n q) := (unhide HP).box.c 2 (by simp)
          have yf2 : WP.frozen? ⟨X, 2, none⟩ = false := (unhide HP).box.f 2 (by simp)
          clear dp gp hvv hWF HV RL HV6 gne
          go_upto_region 15 with fail
          rw [← unhide HWF]
          clear y0 y1 y2 yf0 yf1 yf2
          clear HWF HP
          have y0 : WF.cell? ⟨X, 0, none⟩ = some (.int .i64 lk) := (unhide HDF).box.c 0 (by simp)
          have y1 : WF.cell? ⟨X, 1, none⟩ = some (.int .i64 vv) := (unhide HDF).box.c 1 (by simp)
          have y2 : WF.cell? ⟨X, 2, none⟩ = some (.slice p n q) := (unhide HDF).box.c 2 (by simp)
          have z0 : WF.cell? ⟨R, 0, none⟩ = some (.int .i64 0) := (unhide HDF).res.c 0 (by simp)
          have zf0 : WF.frozen? ⟨R, 0, none⟩ = false := (unhide HDF).res.f 0 (by simp)
          have z1 : WF.cell? ⟨R, 1, none⟩ = some (.int .i64 0) := (unhide HDF).res.c 1 (by simp)
          have zf1 : WF.frozen? ⟨R, 1, none⟩ = false := (unhide HDF).res.f 1 (by simp)
          have z2 : WF.cell? ⟨R, 2, none⟩ = some (.slice none 0 0) := (unhide HDF).res.c 2 (by simp)
          have zf2 : WF.frozen? ⟨R, 2, none⟩ = false := (unhide HDF).res.f 2 (by simp)
          go_wp2_with fail
          have hor := (unhide HDF).ord
          have hge := (unhide HDF).dr.ge
          exact bodyPost_ret (results_cell (vs := [.int .i64 lk, .int .i64 vv, .slice p n q]) rfl Try.isAgg30 Try.sizeOf30 rfl ((((unhide HDF).res.set 0 (by simp) _).set 1 (by simp) _).set 2 (by simp) _)) rfl ⟨lk, vv, p, n, q, ds, rfl, OwnE.row ((((unhide HDF).own.set_other _ (fun e => by have := ((unhide HDF).own.lies R e).1; omega)).set_other _ (fun e => by have := ((unhide HDF).own.lies R e).1; omega)).set_other _ (fun e => by have := ((unhide HDF).own.lies R e).1; omega)), (unhide HDF).byt, (fun b off e => by have h7 := ((unhide HDF).own.lies b (by rw [e]; rfl)).1; have h8 := unhide HRW; omega), (((unhide HDF).dr.bel.setCell (p := ⟨R, 0, none⟩) (by show w.heap.size ≤ R; omega) _).setCell (p := ⟨R, 1, none⟩) (by show w.heap.size ≤ R; omega) _).setCell (p := ⟨R, 2, none⟩) (by show w.heap.size ≤ R; omega) _⟩
        · go_wp2_with fail
          refine (drBelow 2 _ (unhide HD9).dr (by omega)).mono ?_
          rintro e WB ⟨x6, rfl, hx6, db, gb⟩
          have HDB := hide ((unhide HD9).step db gb)
          obtain ⟨m6, rfl⟩ : ∃ m : Nat, x6 = (m : Int) := ⟨x6.toNat, by omega⟩
          have hm6 : m6 ≤ 1 := by omega
          have hN : (32 : Int) + (m6 : Int) = ((32 + m6 : Nat) : Int) := by omega
          obtain ⟨N, hNN⟩ : ∃ N : Nat, 32 + m6 = N := ⟨_, rfl⟩
          rw [hNN] at hN
          have hN33 : N ≤ 33 := by omega
          obtain ⟨i0, hi0, hz0, hz1, hz2⟩ := info_parts infoBy
          have hXB := (unhide HDB).box.lt
          clear db gb hNN
          go_upto_region 15 with (at_make; refine wpList_make_full _ rfl (.tmp 49) (.tmp 49) 22 rfl (X + 1) 5 i0 (.int .u8 0) 1 Try.underlying22 hi0 hz0 hz1 .i64 .i64 _ _ N rfl rfl rfl rfl (by rw [hz2]; omega) (by unfold maxLen; omega) (by omega) ?_; intro WM hown hgrow; have HM : Hid (OwnE 1 byC WM (X + 1) 5 (.slice (some ⟨WB.heap.size, 0, none⟩) N N) (List.replicate N 0)) := hide ⟨⟨_, by rw [List.length_replicate]; exact hown, fun j hj k hk => by rw [List.length_replicate] at hj; obtain rfl : k = 0 := (by omega); rw [show (Value.int IntKind.u8 0).cells = #[Value.int IntKind.u8 0] from rfl, toList_madeCells_one]; simp [elAt, byC, hj]⟩⟩; have bM : Below WB.heap.size WB WM := (Below.refl _ _).grown hgrow (Nat.le_refl _) (fun k hk => by cases hk); have HDM := hide ((unhide HDB).below bM); clear hown hgrow bM; have y2 := (unhide HDM).box.c 2 (by simp); have yf2 := (unhide HDM).box.f 2 (by simp))
          obtain ⟨WF, hWF⟩ : ∃ V, V = WM.setCell ⟨X, 2, none⟩ (.slice (some ⟨WB.heap.size, 0, none⟩) N N) := ⟨_, rfl⟩
          have HDF : Hid (Dw w WF C R X a len cap lk sq (.slice (some ⟨WB.heap.size, 0, none⟩) N N) (List.replicate N 0)) := hide (by
            rw [hWF]
            have pp := (unhide HDM).put (unhide HIN) 2 (by omega) (.slice (some ⟨WB.heap.size, 0, none⟩) N N)
            exact ⟨pp.1, pp.2.1, pp.2.2.1, (unhide HM).set_other _ (fun e => by have := ((unhide HM).lies X e).1; omega), fun i hi => by simp at hi; simp [elAt, hi], (unhide HDM).ord⟩)
          rw [← hWF]
          clear hWF y2 yf2 HDM HM HDB HD9
          have y0 : WF.cell? ⟨X, 0, none⟩ = some (.int .i64 lk) := (unhide HDF).box.c 0 (by simp)
          have y1 : WF.cell? ⟨X, 1, none⟩ = some (.int .i64 sq) := (unhide HDF).box.c 1 (by simp)
          have y2 : WF.cell? ⟨X, 2, none⟩ = some (.slice (some ⟨WB.heap.size, 0, none⟩) N N) := (unhide HDF).box.c 2 (by simp)
          have z0 : WF.cell? ⟨R, 0, none⟩ = some (.int .i64 0) := (unhide HDF).res.c 0 (by simp)
          have zf0 : WF.frozen? ⟨R, 0, none⟩ = false := (unhide HDF).res.f 0 (by simp)
          have z1 : WF.cell? ⟨R, 1, none⟩ = some (.int .i64 0) := (unhide HDF).res.c 1 (by simp)
          have zf1 : WF.frozen? ⟨R, 1, none⟩ = false := (unhide HDF).res.f 1 (by simp)
          have z2 : WF.cell? ⟨R, 2, none⟩ = some (.slice none 0 0) := (unhide HDF).res.c 2 (by simp)
          have zf2 : WF.frozen? ⟨R, 2, none⟩ = false := (unhide HDF).res.f 2 (by simp)
          go_wp2_with fail
          have hor := (unhide HDF).ord
          have hge := (unhide HDF).dr.ge
          exact bodyPost_ret (results_cell (vs := [.int .i64 lk, .int .i64 sq, .slice (some ⟨WB.heap.size, 0, none⟩) N N]) rfl Try.isAgg30 Try.sizeOf30 rfl ((((unhide HDF).res.set 0 (by simp) _).set 1 (by simp) _).set 2 (by simp) _)) rfl ⟨lk, sq, (some ⟨WB.heap.size, 0, none⟩), N, N, (List.replicate N 0), rfl, OwnE.row ((((unhide HDF).own.set_other _ (fun e => by have := ((unhide HDF).own.lies R e).1; omega)).set_other _ (fun e => by have := ((unhide HDF).own.lies R e).1; omega)).set_other _ (fun e => by have := ((unhide HDF).own.lies R e).1; omega)), (unhide HDF).byt, (fun b off e => by have h7 := ((unhide HDF).own.lies b (by rw [e]; rfl)).1; have h8 := unhide HRW; omega), (((unhide HDF).dr.bel.setCell (p := ⟨R, 0, none⟩) (by show w.heap.size ≤ R; omega) _).setCell (p := ⟨R, 1, none⟩) (by show w.heap.size ≤ R; omega) _).setCell (p := ⟨R, 2, none⟩) (by show w.heap.size ≤ R; omega) _⟩
        · have e0 : (x5 == 0) = false := by simp; omega
          have e1 : (x5 == 1) = false := by simp; omega
          have e2 : (x5 == 2) = false := by simp; omega
          have f0 : ¬ x5 = 0 := by omega
          have f1 : ¬ x5 = 1 := by omega
          have f2 : ¬ x5 = 2 := by omega
          have HDF := HD9
          go_upto_region 15 with fail
          have y0 : W9.cell? ⟨X, 0, none⟩ = some (.int .i64 lk) := (unhide HDF).box.c 0 (by simp)
          have y1 : W9.cell? ⟨X, 1, none⟩ = some (.int .i64 sq) := (unhide HDF).box.c 1 (by simp)
          have y2 : W9.cell? ⟨X, 2, none⟩ = some (.slice p n q) := (unhide HDF).box.c 2 (by simp)
          have z0 : W9.cell? ⟨R, 0, none⟩ = some (.int .i64 0) := (unhide HDF).res.c 0 (by simp)
          have zf0 : W9.frozen? ⟨R, 0, none⟩ = false := (unhide HDF).res.f 0 (by simp)
          have z1 : W9.cell? ⟨R, 1, none⟩ = some (.int .i64 0) := (unhide HDF).res.c 1 (by simp)
          have zf1 : W9.frozen? ⟨R, 1, none⟩ = false := (unhide HDF).res.f 1 (by simp)
          have z2 : W9.cell? ⟨R, 2, none⟩ = some (.slice none 0 0) := (unhide HDF).res.c 2 (by simp)
          have zf2 : W9.frozen? ⟨R, 2, none⟩ = false := (unhide HDF).res.f 2 (by simp)
          go_wp2_with fail
          have hor := (unhide HDF).ord
          have hge := (unhide HDF).dr.ge
          exact bodyPost_ret (results_cell (vs := [.int .i64 lk, .int .i64 sq, .slice p n q]) rfl Try.isAgg30 Try.sizeOf30 rfl ((((unhide HDF).res.set 0 (by simp) _).set 1 (by simp) _).set 2 (by simp) _)) rfl ⟨lk, sq, p, n, q, ds, rfl, OwnE.row ((((unhide HDF).own.set_other _ (fun e => by have := ((unhide HDF).own.lies R e).1; omega)).set_other _ (fun e => by have := ((unhide HDF).own.lies R e).1; omega)).set_other _ (fun e => by have := ((unhide HDF).own.lies R e).1; omega)), (unhide HDF).byt, (fun b off e => by have h7 := ((unhide HDF).own.lies b (by rw [e]; rfl)).1; have h8 := unhide HRW; omega), (((unhide HDF).dr.bel.setCell (p := ⟨R, 0, none⟩) (by show w.heap.size ≤ R; omega) _).setCell (p := ⟨R, 1, none⟩) (by show w.heap.size ≤ R; omega) _).setCell (p := ⟨R, 2, none⟩) (by show w.heap.size ≤ R; omega) _⟩

set_option maxRecDepth 20000 in
set_option maxHeartbeats 1000000 in
theorem drawPut16_any (a : Option Addr) (len cap : Nat) (w : World) (hb : Bytes w a len) (hin : ∀ b off, a = some ⟨b, off, none⟩ → b < w.heap.size) :
    Calls Try.prog 11 #[.slice a len cap] w fun e w' => ∃ (l s : Int) (p : Option Addr) (n q : Nat) (ds : List Int), e = .returned (.agg #[.int .i64 l, .int .i64 s, .slice p n q]) ∧ RowE 1 byC w' p n ds ∧ (∀ i, i < ds.length → 0 ≤ elAt ds i ∧ elAt ds i ≤ 255) ∧ Below w.heap.size w w' := by
  obtain ⟨W, hW⟩ : ∃ V, V = w.alloc (Obj.cells #[.int .i64 0, .int .i64 0, .slice none 0 0] 30) := ⟨_, rfl⟩
  have bW : Below w.heap.size w W := by rw [hW]; exact bel1 _
  have HB := hide (hb.below bW)
  have KR : Hid (Blk W w.heap.size [.int .i64 0, .int .i64 0, .slice none 0 0]) := hide (by rw [hW]; exact Blk.new _ _)
  have HI : Hid (∀ b off, a = some ⟨b, off, none⟩ → b < W.heap.size) := hide (fun b off e => Nat.lt_of_lt_of_le (hin b off e) bW.size)
  have BW := hide bW
  have HW := hide hW
  clear hW bW hb hin
  go_enter Try.func11, Try.ntmps11
  go_wp2_with fail
  rw [← unhide HW]
  refine (drNew a len cap W (unhide HB) (unhide HI)).mono ?_
  rintro e W1 ⟨rfl, d1, b1⟩
  have HD := hide d1
  have HW1S : Hid (w.heap.size < W1.heap.size) := hide (Nat.lt_of_lt_of_le (unhide KR).lt b1.size)
  clear b1 d1
  go_wp2_with fail
  refine (drawWord_any _ a len cap W W1 (unhide HD) (unhide HI)).mono ?_
  rintro e W2 ⟨l, s, p, n, q, ds, rfl, rw2, hby, hnew, b2⟩
  have KR := hide ((unhide KR).below b2)
  have RW := hide rw2
  have hWs := (unhide KR).lt
  have HNE : Hid (∀ b off, p = some ⟨b, off, none⟩ → b ≠ w.heap.size) := hide (fun b off e => by have := hnew b off e; have := unhide HW1S; omega)
  have BY := hide hby
  have B2 := hide ((unhide BW).trans (b2.mono (unhide BW).size))
  have z0 : W2.cell? ⟨w.heap.size, 0, none⟩ = some (.int .i64 0) := (unhide KR).c 0 (by simp)
  have zf0 : W2.frozen? ⟨w.heap.size, 0, none⟩ = false := (unhide KR).f 0 (by simp)
  have z1 : W2.cell? ⟨w.heap.size, 1, none⟩ = some (.int .i64 0) := (unhide KR).c 1 (by simp)
  have zf1 : W2.frozen? ⟨w.heap.size, 1, none⟩ = false := (unhide KR).f 1 (by simp)
  have z2 : W2.cell? ⟨w.heap.size, 2, none⟩ = some (.slice none 0 0) := (unhide KR).c 2 (by simp)
  have zf2 : W2.frozen? ⟨w.heap.size, 2, none⟩ = false := (unhide KR).f 2 (by simp)
  clear rw2 hby b2 HD hnew hWs
  go_wp2_with fail
  exact bodyPost_ret (results_cell (vs := [.int .i64 l, .int .i64 s, .slice p n q]) rfl Try.isAgg30 Try.sizeOf30 rfl ((((unhide KR).set 0 (by simp) _).set 1 (by simp) _).set 2 (by simp) _)) rfl ⟨l, s, p, n, q, ds, rfl, row_put (row_put (row_put (unhide RW) (unhide HNE) _) (unhide HNE) _) (unhide HNE) _, unhide BY, (((unhide B2).setCell (p := ⟨w.heap.size, 0, none⟩) (Nat.le_refl _) _).setCell (p := ⟨w.heap.size, 1, none⟩) (Nat.le_refl _) _).setCell (p := ⟨w.heap.size, 2, none⟩) (Nat.le_refl _) _⟩

end Go.Proofs.Ytnhcmokkankcmaf

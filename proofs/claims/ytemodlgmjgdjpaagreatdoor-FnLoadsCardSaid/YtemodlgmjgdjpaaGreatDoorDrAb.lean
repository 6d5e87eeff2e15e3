/-
  What is aboard, drawn: a serial and loads, each taken; it is as it should be. At every cursor; nothing that was there is written but the cursor.
-/
import Derived.Test.YtemodlgmjgdjpaaGreatDoorDrLd
import Derived.Test.YtemodlgmjgdjpaaGreatDoorMDlImp
import Derived.Test.YtemodlgmjgdjpaaGreatDoorTkJn
import Derived.Deep.RegionHeld3
namespace Go.Proofs.YtemodlgmjgdjpaaGreatDoor
open Go Go.RowKit

theorem OwnLT.far {w w' : World} {base : Nat} {v : Value} {zs : List Lc} {row : Option Nat} (h : OwnLT w base v zs) (k : w.grownBy w' row) (hne : ∀ g, base ≤ g → some g ≠ row) : OwnLT w' base v zs := by
  obtain ⟨us, e, hu⟩ := h.ex
  exact ⟨⟨us, e, hu.far k hne⟩, h.ok⟩
theorem ownE_cap {α : Type} [Inhabited α] {K : Nat} {cells : α → Nat → Value} {w : World} {base : Nat} {T : TypeId} {a : Option Addr} {n c : Nat} {ps : List α} (h : OwnE K cells w base T (.slice a n c) ps) : ps.length = n ∧ n ≤ c := by
  obtain ⟨a', cap', e, hc, _⟩ := h.slice
  simp only [Value.slice.injEq] at e
  omega
theorem name_size {p : ByteArray} (h : nameB p = true) : p.size ≤ 9223372036854775807 := by
  have : inB p.size 1 20 = true := by rw [nameB, Bool.and_eq_true] at h; exact h.1
  simp [inB] at this
  omega
theorem ld_name {x : Lc} (h : ldB x = true) : nameB x.p = true := (ldB_facts h).1
theorem ld_ne {p : ByteArray} {nb le mo ne : Int} {zs : List Int} {m : Int} (h : ldB ⟨p, nb, le, mo, ne, zs⟩ = true) (hm : 1 ≤ m ∧ m ≤ 1000000) : ldB ⟨p, nb, le, mo, m, zs⟩ = true := by
  simp only [ldB, Bool.and_eq_true] at h ⊢
  obtain ⟨⟨⟨⟨⟨h1, h2⟩, h3⟩, h4⟩, h5⟩, h6⟩ := h
  exact ⟨⟨⟨⟨⟨h1, h2⟩, h3⟩, h4⟩, by simp [inB]; omega⟩, h6⟩
/-- What is being drawn: the cursor, the result's block, the Aboard's block, its loads. -/
structure Ql (w W0 W : World) (C R X : Nat) (a : Option Addr) (len cap : Nat) (s : Int) (a1 : Option Addr) (l1 c1 : Nat) (zs : List Lc) : Prop where
  dr : Dk w C a len cap W0 W
  res : Blk W R [.int .i64 0, .slice none 0 0]
  box : Blk W X [.int .i64 s, .slice a1 l1 c1]
  own : OwnLT W (X + 1) (.slice a1 l1 c1) zs
  ab : abB s zs = true
  lz : LzB zs
  ord : C < R ∧ R < X ∧ W0.heap.size ≤ R
theorem Ql.below {w W0 W : World} {C R X : Nat} {a : Option Addr} {len cap : Nat} {s : Int} {a1 : Option Addr} {l1 c1 : Nat} {zs : List Lc} {W' : World} (h : Ql w W0 W C R X a len cap s a1 l1 c1 zs) (k : Below W.heap.size W W') : Ql w W0 W' C R X a len cap s a1 l1 c1 zs :=
  ⟨h.dr.below k, h.res.below k, h.box.below k, h.own.below k, h.ab, h.lz, h.ord⟩
theorem Ql.step {w W0 W : World} {C R X : Nat} {a : Option Addr} {len cap : Nat} {s : Int} {a1 : Option Addr} {l1 c1 : Nat} {zs : List Lc} {W' : World} (h : Ql w W0 W C R X a len cap s a1 l1 c1 zs) (d : Dr w C a len cap W') (g : W.grownBy W' (some C)) : Ql w W0 W' C R X a len cap s a1 l1 c1 zs := by
  have ho := h.ord
  exact ⟨h.dr.call g d, h.res.apart g (fun e => by have := Option.some.inj e; omega), h.box.apart g (fun e => by have := Option.some.inj e; omega), h.own.far g (fun q hq e => by have := Option.some.inj e; omega), h.ab, h.lz, ho⟩
theorem Ql.other {w W0 W : World} {C R X : Nat} {a : Option Addr} {len cap : Nat} {s : Int} {a1 : Option Addr} {l1 c1 : Nat} {zs : List Lc} (h : Ql w W0 W C R X a len cap s a1 l1 c1 zs) {B i : Nat} (u : Value) (hB : X < B) (hown : OwnLT (W.setCell ⟨B, i, none⟩ u) (X + 1) (.slice a1 l1 c1) zs) : Ql w W0 (W.setCell ⟨B, i, none⟩ u) C R X a len cap s a1 l1 c1 zs := by
  have ho := h.ord
  exact ⟨h.dr.ownR (grown_set (grown_refl W (some B)) i u) (fun k hk => by cases hk; omega), h.res.other (by show B ≠ R; omega) _, h.box.other (by show B ≠ X; omega) _, hown, h.ab, h.lz, ho⟩
/-- What l18Draw answers. -/
structure DabE (w : World) (C : Nat) (a : Option Addr) (len cap : Nat) (W : World) (e : Ending) (w' : World) : Prop where
  ex : ∃ (s : Int) (a1 : Option Addr) (l1 c1 : Nat) (zs : List Lc), e = .returned (.agg #[.int .i64 s, .slice a1 l1 c1]) ∧ abB s zs = true ∧ LzB zs ∧ OwnLT w' W.heap.size (.slice a1 l1 c1) zs ∧ Dk w C a len cap W w'
structure QlR (w : World) (W0 : World) (C : Nat) (R : Nat) (X : Nat) (a : Option Addr) (len : Nat) (cap : Nat) (s : Int) (gl : Nat) (l1 : Nat) (c1 : Nat) (zs : List Lc) (x : Lx) (us : List Lx) (B : Nat) (base : Nat) (t0 t1 t2 t3 t4 t5 t6 t7 t8 t9 t10 t11 : Bool) (v0 v1 v2 v3 v4 v5 v6 v7 v8 v9 v10 : Value) (W : World) : Prop where
  q : Ql w W0 W C R X a len cap s (some ⟨gl, 0, none⟩) l1 c1 zs
  kl : t11 = false → Blk W B [.string x.p, .int .i64 x.nb, .int .i64 x.le, .int .i64 x.mo, .int .i64 x.ne, .slice x.d.a x.d.n x.d.c]
  od : OwnE 1 byC W base 5 (.slice x.d.a x.d.n x.d.c) x.d.zs
  hu : OwnLd W (X + 1) (.slice (some ⟨gl, 0, none⟩) l1 c1) us
  e0 : t0 = true → v0 = .pointer (some ⟨X, 1, none⟩)
  e1 : t1 = true → v1 = .slice (some ⟨gl, 0, none⟩) l1 c1
  e2 : t2 = true → v2 = .pointer (some ⟨C, 0, none⟩)
  e3 : t3 = true → v3 = .pointer (some ⟨X, 1, none⟩)
  e4 : t4 = true → v4 = .slice (some ⟨gl, 0, none⟩) l1 c1
  e5 : t5 = true → v5 = .int .i64 (l1 : Int)
  e6 : t6 = true → ∃ i : Nat, i < l1 ∧ v6 = .int .i64 (i : Int)
  e7 : t7 = true → ∃ i : Nat, i < l1 ∧ v7 = .pointer (some ⟨gl, i * 6, none⟩)
  e8 : t8 = true → ∃ i : Nat, i < l1 ∧ v8 = .pointer (some ⟨gl, i * 6 + 1, none⟩)
  e9 : t9 = true → ∃ i : Nat, i < l1 ∧ v9 = .int .i64 (elAt us i).nb
  e10 : t10 = true → v10 = .pointer (some ⟨B, 4, none⟩)
  e11 : t11 = true → ∃ i : Nat, i < l1 ∧ Blk W B [.string x.p, .int .i64 x.nb, .int .i64 x.le, .int .i64 x.mo, .int .i64 (elAt us i).nb, .slice x.d.a x.d.n x.d.c]
def QlRJ (w : World) (W0 : World) (C : Nat) (R : Nat) (X : Nat) (a : Option Addr) (len : Nat) (cap : Nat) (s : Int) (gl : Nat) (l1 : Nat) (c1 : Nat) (zs : List Lc) (x : Lx) (us : List Lx) (B : Nat) (base : Nat) (A0 : Act) (l : Nat → Bool) (b : Act) (V : World) : Prop := ∃ (v0 v1 v2 v3 v4 v5 v6 v7 v8 v9 v10 : Value), b = (((((((((((A0.put (some 28) v0).put (some 29) v1).put (some 30) v2).put (some 31) v3).put (some 32) v4).put (some 33) v5).put (some 34) v6).put (some 35) v7).put (some 36) v8).put (some 37) v9).put (some 38) v10) ∧ QlR w W0 C R X a len cap s gl l1 c1 zs x us B base (l 0) (l 1) (l 2) (l 3) (l 4) (l 5) (l 6) (l 7) (l 8) (l 9) (l 10) (l 11) v0 v1 v2 v3 v4 v5 v6 v7 v8 v9 v10 V
theorem QlRJ.mk {w : World} {W0 : World} {C : Nat} {R : Nat} {X : Nat} {a : Option Addr} {len : Nat} {cap : Nat} {s : Int} {gl : Nat} {l1 : Nat} {c1 : Nat} {zs : List Lc} {x : Lx} {us : List Lx} {B : Nat} {base : Nat} {A0 : Act} {l : Nat → Bool} {b : Act} {V : World} {v0 v1 v2 v3 v4 v5 v6 v7 v8 v9 v10 : Value} (K : QlR w W0 C R X a len cap s gl l1 c1 zs x us B base (l 0) (l 1) (l 2) (l 3) (l 4) (l 5) (l 6) (l 7) (l 8) (l 9) (l 10) (l 11) v0 v1 v2 v3 v4 v5 v6 v7 v8 v9 v10 V) (h : b = (((((((((((A0.put (some 28) v0).put (some 29) v1).put (some 30) v2).put (some 31) v3).put (some 32) v4).put (some 33) v5).put (some 34) v6).put (some 35) v7).put (some 36) v8).put (some 37) v9).put (some 38) v10)) : QlRJ w W0 C R X a len cap s gl l1 c1 zs x us B base A0 l b V := ⟨v0, v1, v2, v3, v4, v5, v6, v7, v8, v9, v10, h, K⟩

set_option maxRecDepth 20000 in
set_option maxHeartbeats 8000000 in
theorem drawAb_any (C : Nat) (a : Option Addr) (len cap : Nat) (w W : World) (h : Dr w C a len cap W) (hin : ∀ b off, a = some ⟨b, off, none⟩ → b < w.heap.size) :
    Calls Tryz.prog 34 #[.pointer (some ⟨C, 0, none⟩)] W fun e w' => DabE w C a len cap W e w' := by
  have HIN := hide hin
  have HR0 := hide h
  clear h hin
  go_enter Tryz.func34, Tryz.ntmps34
  go_wp2_with fail
  obtain ⟨W1, hW1⟩ : ∃ V, V = W.alloc (Obj.cells #[.int .i64 0, .slice none 0 0] 26) := ⟨_, rfl⟩
  have D1 : Hid (Dk w C a len cap W W1) := hide ((Dk.start (unhide HR0) (unhide HIN)).below (by rw [hW1]; exact bel1 _))
  have KR : Hid (Blk W1 W.heap.size [.int .i64 0, .slice none 0 0]) := hide (by rw [hW1]; exact Blk.new _ _)
  have hCR : C < W.heap.size := (unhide HR0).lt
  obtain ⟨R, hR⟩ : ∃ R, W.heap.size = R := ⟨_, rfl⟩
  rw [← hW1, hR]
  rw [hR] at KR hCR
  have HRW := hide hR
  clear hW1 HR0 hR
  refine (drBelow 6 _ (unhide D1).d (by omega)).mono ?_
  rintro e W2 ⟨x1, rfl, hx1, d2, g2⟩
  have D2 := hide ((unhide D1).call g2 d2)
  have KR := hide ((unhide KR).apart g2 (fun e => by have := Option.some.inj e; omega))
  clear d2 g2 D1
  obtain ⟨W3, hW3⟩ : ∃ V, V = W2.alloc (Obj.cells #[.int .i64 (4 + x1), .slice none 0 0] 26) := ⟨_, rfl⟩
  have bb : Below W2.heap.size W2 W3 := by rw [hW3]; exact bel1 _
  have HQ0 : Hid (Ql w W W3 C R W2.heap.size a len cap (4 + x1) none 0 0 []) := hide ⟨(unhide D2).below bb, (unhide KR).below bb, by rw [hW3]; exact Blk.new _ _, ⟨⟨[], rfl, ⟨ownE_nil _ _ _, fun i hi => by simp at hi, fun i hi => by simp at hi, fun i j _ hj => by simp at hj⟩⟩, fun i hi => by simp at hi⟩, ab_iff.2 ⟨by omega, by simp, List.Pairwise.nil, fun x hx => by simp at hx⟩, ⟨by simp, fun i hi => by simp at hi⟩, ⟨hCR, (unhide KR).lt, by have := unhide HRW; omega⟩⟩
  obtain ⟨X, hX⟩ : ∃ X, W2.heap.size = X := ⟨_, rfl⟩
  rw [hX] at HQ0
  obtain ⟨s, hs⟩ : ∃ s, 4 + x1 = s := ⟨_, rfl⟩
  rw [hs] at HQ0 hW3
  have HW3 := hide hW3
  have HX := hide hX
  clear hW3 hX bb D2 KR
  go_wp2_with fail
  rw [← unhide HW3, unhide HX]
  clear HW3 HX hs
  refine (drBelow 10 _ (unhide HQ0).dr.d (by omega)).mono ?_
  rintro e W4 ⟨x2, rfl, hx2, d4, g4⟩
  have HQ1 := hide ((unhide HQ0).step d4 g4)
  clear d4 g4 HQ0
  obtain ⟨m0, rfl⟩ : ∃ m : Nat, x2 = (m : Int) := ⟨x2.toNat, by omega⟩
  go_wp2_with fail
  go_loopw [4] (fun s4 wr => ∃ (m : Nat) (a1 : Option Addr) (l1 c1 : Nat) (zs : List Lc), s4 = .int .i64 (m : Int) ∧ m ≤ 9 ∧ Hid (Ql w W wr C R X a len cap s a1 l1 c1 zs)) (fun s4 _ => (intOf s4).toNat)
  case atStart => exact ⟨m0, none, 0, 0, [], rfl, by omega, HQ1⟩
  case round =>
    clear HQ1
    obtain ⟨m, a1, l1, c1, zs, rfl, hm, HQ⟩ := hrel
    by_cases hp : 0 < m
    · have j1 : (0 : Int) < (m : Int) := by omega
      go_wp2_with fail
      obtain ⟨us, hus, hu⟩ := (unhide HQ).own.ex
      have HUS := hide hus
      have HU0 := hide hu
      have HLI := hide hu.lies
      have hor0 := (unhide HQ).ord
      clear hus hu
      refine (drawLoad_any C a len cap w wr (unhide HQ).dr.d (unhide HIN)).mono ?_
      rintro e V1 ⟨x, rfl, ⟨hld, hl5⟩, od, hby, dk⟩
      have HLD0 := hide hld
      have HL5 := hide hl5
      have HBY := hide hby
      have HCP := hide (ownE_cap od)
      obtain ⟨V2, hV2⟩ : ∃ V, V = V1.alloc (Obj.cells #[.string x.p, .int .i64 x.nb, .int .i64 x.le, .int .i64 x.mo, .int .i64 x.ne, .slice x.d.a x.d.n x.d.c] 32) := ⟨_, rfl⟩
      have b2 : Below V1.heap.size V1 V2 := by rw [hV2]; exact bel1 _
      have HQ2 := hide (((unhide HQ).step dk.d dk.gr).below b2)
      have KL0 : Hid (Blk V2 V1.heap.size [.string x.p, .int .i64 x.nb, .int .i64 x.le, .int .i64 x.mo, .int .i64 x.ne, .slice x.d.a x.d.n x.d.c]) := hide (by rw [hV2]; exact Blk.new _ _)
      have HU2 := hide (((unhide HU0).far dk.gr (fun q hq e => by have := Option.some.inj e; omega)).below b2)
      have HXB : Hid (X < wr.heap.size ∧ wr.heap.size ≤ V1.heap.size) := hide ⟨(unhide HQ).box.lt, dk.gr.size⟩
      have OD2 := hide (od.below b2)
      have HXV : Hid (∀ q, (Value.slice x.d.a x.d.n x.d.c).ownBlock = some q → q < V1.heap.size) := hide (fun q hq => (od.lies q hq).2)
      obtain ⟨B, hB⟩ : ∃ B, V1.heap.size = B := ⟨_, rfl⟩
      have HV2 := hide hV2
      have HB := hide hB
      rw [hB] at KL0 HXB HXV
      have zq : zs.length = l1 := by have := (unhide HQ).own.row.len_eq; exact this
      have HZQ := hide zq
      clear hld hl5 hby od dk hV2 hB b2 HQ zq hor0 HU0
      have yX0 : V2.cell? ⟨X, 0, none⟩ = some (.int .i64 s) := (unhide HQ2).box.c 0 (by simp)
      have yX1 : V2.cell? ⟨X, 1, none⟩ = some (.slice a1 l1 c1) := (unhide HQ2).box.c 1 (by simp)
      have hBB := unhide HB
      have hVV := unhide HV2
      rw [hVV] at yX0 yX1
      clear hBB hVV
      by_cases hl : 0 < l1
      · have j2 : (0 : Int) < (l1 : Int) := by omega
        go_wp2_with fail
        rw [← unhide HV2, unhide HB]
        clear yX0 yX1
        refine (drOnce 3 _ (unhide HQ2).dr.d (by omega)).mono ?_
        rintro e V3 ⟨on, rfl, d3, g3⟩
        have HQ3 := hide ((unhide HQ2).step d3 g3)
        have hor := (unhide HQ2).ord
        have KL3 := hide ((unhide KL0).apart g3 (fun e => by have := Option.some.inj e; have := unhide HXB; omega))
        have OD3 := hide ((unhide OD2).far g3 (fun q hq e => by have := ((unhide OD2).lies q hq).1; have := Option.some.inj e; have := unhide HXB; omega))
        have HU3 := hide ((unhide HU2).far g3 (fun q hq e => by have := Option.some.inj e; omega))
        clear d3 g3 HQ2 KL0 OD2 hor HU2
        cases on with
        | true =>
          have yX0 : V3.cell? ⟨X, 0, none⟩ = some (.int .i64 s) := (unhide HQ3).box.c 0 (by simp)
          have yX1 : V3.cell? ⟨X, 1, none⟩ = some (.slice a1 l1 c1) := (unhide HQ3).box.c 1 (by simp)
          have HL30 : Hid (1 ≤ l1 ∧ l1 ≤ 30) := hide ⟨by omega, by have := (abB_facts (unhide HQ3).ab).2.2; have := unhide HZQ; omega⟩
          go_upto_region 7 with fail
          obtain ⟨gl, hgl⟩ : ∃ gl, a1 = some ⟨gl, 0, none⟩ := by
            rcases (unhide HU3).out.form with ⟨e0, _⟩ | ⟨g, cap, e0, _⟩
            · simp only [Value.slice.injEq] at e0; omega
            · simp only [Value.slice.injEq] at e0; exact ⟨g, e0.1⟩
          subst hgl
          have HUL : Hid (us.length = l1) := hide (by have := unhide HZQ; have e := unhide HUS; rw [← e] at this; simpa using this)
          have HOR := hide (unhide HQ3).ord
          clear yX0 yX1
          refine wp_region_flagsA (by kernel_rfl) (by kernel_rfl) (QlRJ w W C R X a len cap s gl l1 c1 zs x us B wr.heap.size) ?_ ?_ ?_
          · exact QlRJ.mk (v0 := u28) (v1 := u29) (v2 := u30) (v3 := u31) (v4 := u32) (v5 := u33) (v6 := u34) (v7 := u35) (v8 := u36) (v9 := u37) (v10 := u38) ⟨(unhide HQ3).below (bel0d 1), (fun _ => (unhide KL3).below (bel0d 1)), (unhide OD3).below (bel0d 1), (unhide HU3).below (bel0d 1), (fun h => by cases h), (fun h => by cases h), (fun h => by cases h), (fun h => by cases h), (fun h => by cases h), (fun h => by cases h), (fun h => by cases h), (fun h => by cases h), (fun h => by cases h), (fun h => by cases h), (fun h => by cases h), (fun h => by cases h)⟩ (by kernel_rfl)
          rotate_left 1
          · rintro l b V i0 o ho hl hd ⟨v0, v1, v2, v3, v4, v5, v6, v7, v8, v9, v10, rfl, K⟩
            have hi : i0 < 12 := (Array.getElem?_eq_some_iff.1 ho).1
            rcases (show i0 = 0 ∨ i0 = 1 ∨ i0 = 2 ∨ i0 = 3 ∨ i0 = 4 ∨ i0 = 5 ∨ i0 = 6 ∨ i0 = 7 ∨ i0 = 8 ∨ i0 = 9 ∨ i0 = 10 ∨ i0 = 11 from by omega) with rfl | rfl | rfl | rfl | rfl | rfl | rfl | rfl | rfl | rfl | rfl | rfl
            · simp at ho
              subst ho
              have HK : Hid (QlR w W C R X a len cap s gl l1 c1 zs x us B wr.heap.size true (l 1) (l 2) (l 3) (l 4) (l 5) (l 6) (l 7) (l 8) (l 9) (l 10) (l 11) (.pointer (some ⟨X, 1, none⟩)) v1 v2 v3 v4 v5 v6 v7 v8 v9 v10 V) := hide ⟨(K.q), (K.kl), (K.od), (K.hu), (fun _ => rfl), (K.e1), (K.e2), (K.e3), (K.e4), (K.e5), (K.e6), (K.e7), (K.e8), (K.e9), (K.e10), (K.e11)⟩
              clear K hd hl
              go_wp2_with fail
              exact ⟨rfl, QlRJ.mk (unhide HK) (by kernel_rfl)⟩
            · simp at ho
              subst ho
              have d0 : l 0 = true := hd ⟨0, .data⟩ (by simp) rfl
              have x0 := K.e0 d0
              subst x0
              have yy1 : V.cell? ⟨X, 1, none⟩ = some (.slice (some ⟨gl, 0, none⟩) l1 c1) := K.q.box.c 1 (by simp)
              have HK : Hid (QlR w W C R X a len cap s gl l1 c1 zs x us B wr.heap.size (l 0) true (l 2) (l 3) (l 4) (l 5) (l 6) (l 7) (l 8) (l 9) (l 10) (l 11) (.pointer (some ⟨X, 1, none⟩)) (.slice (some ⟨gl, 0, none⟩) l1 c1) v2 v3 v4 v5 v6 v7 v8 v9 v10 V) := hide ⟨(K.q), (K.kl), (K.od), (K.hu), (K.e0), (fun _ => rfl), (K.e2), (K.e3), (K.e4), (K.e5), (K.e6), (K.e7), (K.e8), (K.e9), (K.e10), (K.e11)⟩
              clear K hd hl
              go_wp2_with fail
              exact ⟨rfl, QlRJ.mk (unhide HK) (by kernel_rfl)⟩
            · simp at ho
              subst ho
              have HK : Hid (QlR w W C R X a len cap s gl l1 c1 zs x us B wr.heap.size (l 0) (l 1) true (l 3) (l 4) (l 5) (l 6) (l 7) (l 8) (l 9) (l 10) (l 11) v0 v1 (.pointer (some ⟨C, 0, none⟩)) v3 v4 v5 v6 v7 v8 v9 v10 V) := hide ⟨(K.q), (K.kl), (K.od), (K.hu), (K.e0), (K.e1), (fun _ => rfl), (K.e3), (K.e4), (K.e5), (K.e6), (K.e7), (K.e8), (K.e9), (K.e10), (K.e11)⟩
              clear K hd hl
              go_wp2_with fail
              exact ⟨rfl, QlRJ.mk (unhide HK) (by kernel_rfl)⟩
            · simp at ho
              subst ho
              have HK : Hid (QlR w W C R X a len cap s gl l1 c1 zs x us B wr.heap.size (l 0) (l 1) (l 2) true (l 4) (l 5) (l 6) (l 7) (l 8) (l 9) (l 10) (l 11) v0 v1 v2 (.pointer (some ⟨X, 1, none⟩)) v4 v5 v6 v7 v8 v9 v10 V) := hide ⟨(K.q), (K.kl), (K.od), (K.hu), (K.e0), (K.e1), (K.e2), (fun _ => rfl), (K.e4), (K.e5), (K.e6), (K.e7), (K.e8), (K.e9), (K.e10), (K.e11)⟩
              clear K hd hl
              go_wp2_with fail
              exact ⟨rfl, QlRJ.mk (unhide HK) (by kernel_rfl)⟩
            · simp at ho
              subst ho
              have d3 : l 3 = true := hd ⟨3, .data⟩ (by simp) rfl
              have x3 := K.e3 d3
              subst x3
              have yy1 : V.cell? ⟨X, 1, none⟩ = some (.slice (some ⟨gl, 0, none⟩) l1 c1) := K.q.box.c 1 (by simp)
              have HK : Hid (QlR w W C R X a len cap s gl l1 c1 zs x us B wr.heap.size (l 0) (l 1) (l 2) (l 3) true (l 5) (l 6) (l 7) (l 8) (l 9) (l 10) (l 11) v0 v1 v2 (.pointer (some ⟨X, 1, none⟩)) (.slice (some ⟨gl, 0, none⟩) l1 c1) v5 v6 v7 v8 v9 v10 V) := hide ⟨(K.q), (K.kl), (K.od), (K.hu), (K.e0), (K.e1), (K.e2), (K.e3), (fun _ => rfl), (K.e5), (K.e6), (K.e7), (K.e8), (K.e9), (K.e10), (K.e11)⟩
              clear K hd hl
              go_wp2_with fail
              exact ⟨rfl, QlRJ.mk (unhide HK) (by kernel_rfl)⟩
            · simp at ho
              subst ho
              have d4 : l 4 = true := hd ⟨4, .data⟩ (by simp) rfl
              have x4 := K.e4 d4
              subst x4
              have HK : Hid (QlR w W C R X a len cap s gl l1 c1 zs x us B wr.heap.size (l 0) (l 1) (l 2) (l 3) (l 4) true (l 6) (l 7) (l 8) (l 9) (l 10) (l 11) v0 v1 v2 v3 (.slice (some ⟨gl, 0, none⟩) l1 c1) (.int .i64 (l1 : Int)) v6 v7 v8 v9 v10 V) := hide ⟨(K.q), (K.kl), (K.od), (K.hu), (K.e0), (K.e1), (K.e2), (K.e3), (K.e4), (fun _ => rfl), (K.e6), (K.e7), (K.e8), (K.e9), (K.e10), (K.e11)⟩
              clear K hd hl
              go_wp2_with fail
              exact ⟨rfl, QlRJ.mk (unhide HK) (by kernel_rfl)⟩
            · simp at ho
              subst ho
              have d2 : l 2 = true := hd ⟨2, .data⟩ (by simp) rfl
              have d5 : l 5 = true := hd ⟨5, .data⟩ (by simp) rfl
              have x2 := K.e2 d2
              subst x2
              have x5 := K.e5 d5
              subst x5
              have HK0 := hide K
              clear K hd hl d2 d5
              go_wp2_with (go_at_call 35; refine (drBelow (l1 : Int) _ (unhide HK0).q.dr.d (by have := unhide HL30; omega)).mono ?_; rintro e V4 ⟨z4, rfl, hz4, d4, g4⟩; obtain ⟨i, hi4⟩ : ∃ i : Nat, z4 = (i : Int) := ⟨z4.toNat, by omega⟩; subst hi4; have hi9 : i < l1 := (by omega); have K := unhide HK0; have HK : Hid (QlR w W C R X a len cap s gl l1 c1 zs x us B wr.heap.size (l 0) (l 1) (l 2) (l 3) (l 4) (l 5) true (l 7) (l 8) (l 9) (l 10) (l 11) v0 v1 (.pointer (some ⟨C, 0, none⟩)) v3 v4 (.int .i64 (l1 : Int)) (.int .i64 (i : Int)) v7 v8 v9 v10 V4) := hide ⟨(K.q.step d4 g4), (fun h => (K.kl h).apart g4 (fun e => by have := Option.some.inj e; have := unhide HXB; have := unhide HOR; omega)), (K.od.far g4 (fun q hq e => by have := (K.od.lies q hq).1; have := Option.some.inj e; have := unhide HXB; have := unhide HOR; omega)), (K.hu.far g4 (fun q hq e => by have := Option.some.inj e; have := unhide HOR; omega)), (K.e0), (K.e1), (K.e2), (K.e3), (K.e4), (K.e5), (fun _ => ⟨i, hi9, rfl⟩), (K.e7), (K.e8), (K.e9), (K.e10), (fun h => by obtain ⟨j, hj, hb⟩ := K.e11 h; exact ⟨j, hj, hb.apart g4 (fun e => by have := Option.some.inj e; have := unhide HXB; have := unhide HOR; omega)⟩)⟩; clear K d4 g4)
              exact ⟨rfl, QlRJ.mk (unhide HK) (by kernel_rfl)⟩
            · simp at ho
              subst ho
              have d1 : l 1 = true := hd ⟨1, .data⟩ (by simp) rfl
              have d6 : l 6 = true := hd ⟨6, .data⟩ (by simp) rfl
              have x1 := K.e1 d1
              subst x1
              obtain ⟨i, hi9, x6⟩ := K.e6 d6
              subst x6
              have i0 : (0 : Int) ≤ (i : Int) := by omega
              have i1 : (i : Int) < (l1 : Int) := by omega
              have HK : Hid (QlR w W C R X a len cap s gl l1 c1 zs x us B wr.heap.size (l 0) (l 1) (l 2) (l 3) (l 4) (l 5) (l 6) true (l 8) (l 9) (l 10) (l 11) v0 (.slice (some ⟨gl, 0, none⟩) l1 c1) v2 v3 v4 v5 (.int .i64 (i : Int)) (.pointer (some ⟨gl, i * 6, none⟩)) v8 v9 v10 V) := hide ⟨(K.q), (K.kl), (K.od), (K.hu), (K.e0), (K.e1), (K.e2), (K.e3), (K.e4), (K.e5), (K.e6), (fun _ => ⟨i, hi9, rfl⟩), (K.e8), (K.e9), (K.e10), (K.e11)⟩
              clear K hd hl d1 d6
              go_wp2_with fail
              exact ⟨rfl, QlRJ.mk (unhide HK) (by kernel_rfl)⟩
            · simp at ho
              subst ho
              have d7 : l 7 = true := hd ⟨7, .data⟩ (by simp) rfl
              obtain ⟨i, hi9, x7⟩ := K.e7 d7
              subst x7
              have HK : Hid (QlR w W C R X a len cap s gl l1 c1 zs x us B wr.heap.size (l 0) (l 1) (l 2) (l 3) (l 4) (l 5) (l 6) (l 7) true (l 9) (l 10) (l 11) v0 v1 v2 v3 v4 v5 v6 (.pointer (some ⟨gl, i * 6, none⟩)) (.pointer (some ⟨gl, i * 6 + 1, none⟩)) v9 v10 V) := hide ⟨(K.q), (K.kl), (K.od), (K.hu), (K.e0), (K.e1), (K.e2), (K.e3), (K.e4), (K.e5), (K.e6), (K.e7), (fun _ => ⟨i, hi9, rfl⟩), (K.e9), (K.e10), (K.e11)⟩
              clear K hd hl d7
              go_wp2_with fail
              exact ⟨rfl, QlRJ.mk (unhide HK) (by kernel_rfl)⟩
            · simp at ho
              subst ho
              have d8 : l 8 = true := hd ⟨8, .data⟩ (by simp) rfl
              obtain ⟨i, hi9, x8⟩ := K.e8 d8
              subst x8
              obtain ⟨n4, hn4⟩ : ∃ z, (elAt us i).nb = z := ⟨_, rfl⟩
              have yy : V.cell? ⟨gl, i * 6 + 1, none⟩ = some (.int .i64 n4) := by rw [← hn4]; exact (K.hu.out.here (unhide HUL) i hi9 1 (by omega)).1
              have HK : Hid (QlR w W C R X a len cap s gl l1 c1 zs x us B wr.heap.size (l 0) (l 1) (l 2) (l 3) (l 4) (l 5) (l 6) (l 7) (l 8) true (l 10) (l 11) v0 v1 v2 v3 v4 v5 v6 v7 (.pointer (some ⟨gl, i * 6 + 1, none⟩)) (.int .i64 n4) v10 V) := hide ⟨(K.q), (K.kl), (K.od), (K.hu), (K.e0), (K.e1), (K.e2), (K.e3), (K.e4), (K.e5), (K.e6), (K.e7), (K.e8), (fun _ => ⟨i, hi9, by rw [hn4]⟩), (K.e10), (K.e11)⟩
              clear K hd hl d8 hn4
              go_wp2_with fail
              exact ⟨rfl, QlRJ.mk (unhide HK) (by kernel_rfl)⟩
            · simp at ho
              subst ho
              have HK : Hid (QlR w W C R X a len cap s gl l1 c1 zs x us B wr.heap.size (l 0) (l 1) (l 2) (l 3) (l 4) (l 5) (l 6) (l 7) (l 8) (l 9) true (l 11) v0 v1 v2 v3 v4 v5 v6 v7 v8 v9 (.pointer (some ⟨B, 4, none⟩)) V) := hide ⟨(K.q), (K.kl), (K.od), (K.hu), (K.e0), (K.e1), (K.e2), (K.e3), (K.e4), (K.e5), (K.e6), (K.e7), (K.e8), (K.e9), (fun _ => rfl), (K.e11)⟩
              clear K hd hl
              go_wp2_with fail
              exact ⟨rfl, QlRJ.mk (unhide HK) (by kernel_rfl)⟩
            · simp at ho
              subst ho
              have d9 : l 9 = true := hd ⟨9, .data⟩ (by simp) rfl
              have d10 : l 10 = true := hd ⟨10, .data⟩ (by simp) rfl
              obtain ⟨i, hi9, x9⟩ := K.e9 d9
              obtain ⟨n4, hn4⟩ : ∃ z, (elAt us i).nb = z := ⟨_, rfl⟩
              rw [hn4] at x9
              subst x9
              have x10 := K.e10 d10
              subst x10
              have kl := K.kl hl
              have yy : V.cell? ⟨B, 4, none⟩ = some (.int .i64 x.ne) := kl.c 4 (by simp)
              have ff : V.frozen? ⟨B, 4, none⟩ = false := kl.f 4 (by simp)
              have hu2 := K.hu.far_out (unhide HLI) (show wr.heap.size ≤ B from (unhide HXB).2) (grown_set (grown_refl V (some B)) 4 (.int .i64 n4))
              have HK : Hid (QlR w W C R X a len cap s gl l1 c1 zs x us B wr.heap.size (l 0) (l 1) (l 2) (l 3) (l 4) (l 5) (l 6) (l 7) (l 8) (l 9) (l 10) true v0 v1 v2 v3 v4 v5 v6 v7 v8 (.int .i64 n4) (.pointer (some ⟨B, 4, none⟩)) (V.setCell ⟨B, 4, none⟩ (.int .i64 n4))) := hide ⟨(K.q.other (.int .i64 n4) (by have := unhide HXB; omega) ⟨⟨us, unhide HUS, hu2⟩, K.q.own.ok⟩), (fun h => by cases h), (K.od.set_other _ (fun e => by have := unhide HXV _ e; omega)), (hu2), (K.e0), (K.e1), (K.e2), (K.e3), (K.e4), (K.e5), (K.e6), (K.e7), (K.e8), (fun _ => ⟨i, hi9, by rw [hn4]⟩), (K.e10), (fun _ => ⟨i, hi9, by rw [hn4]; exact kl.set 4 (by simp) _⟩)⟩
              clear K hd hl d9 d10 kl hu2 hn4
              go_wp2_with fail
              exact ⟨rfl, QlRJ.mk (unhide HK) (by kernel_rfl)⟩
          rintro l b V5 hall ⟨v0, v1, v2, v3, v4, v5, v6, v7, v8, v9, v10, rfl, K⟩
          obtain ⟨i, hi9, kl5⟩ := K.e11 (hall 11 (by decide))
          have HQ5 := hide K.q
          have OD5 := hide K.od
          have hnb : 1 ≤ (elAt us i).nb ∧ (elAt us i).nb ≤ 1000000 := by
            have e := unhide HUS
            have hz := unhide HZQ
            have hul := unhide HUL
            have h1 := (abI_facts ((abB_facts K.q.ab).1 i (by omega))).1
            rw [elAt_lx e (by omega)] at h1
            have h2 := (ldB_facts h1).2.2.1
            exact h2
          obtain ⟨ne, KL, HLD⟩ : ∃ ne, Hid (Blk V5 B [.string x.p, .int .i64 x.nb, .int .i64 x.le, .int .i64 x.mo, .int .i64 ne, .slice x.d.a x.d.n x.d.c]) ∧ Hid (ldB ⟨x.p, x.nb, x.le, x.mo, ne, x.d.zs⟩ = true) := ⟨_, hide kl5, hide (ld_ne (unhide HLD0) hnb)⟩
          clear K hall kl5 hnb HQ3 KL3 OD3 HU3
          have yB0 : V5.cell? ⟨B, 0, none⟩ = some (.string x.p) := (unhide KL).c 0 (by simp)
          have yB1 : V5.cell? ⟨B, 1, none⟩ = some (.int .i64 x.nb) := (unhide KL).c 1 (by simp)
          have yB2 : V5.cell? ⟨B, 2, none⟩ = some (.int .i64 x.le) := (unhide KL).c 2 (by simp)
          have yB3 : V5.cell? ⟨B, 3, none⟩ = some (.int .i64 x.mo) := (unhide KL).c 3 (by simp)
          have yB4 : V5.cell? ⟨B, 4, none⟩ = some (.int .i64 ne) := (unhide KL).c 4 (by simp)
          have yB5 : V5.cell? ⟨B, 5, none⟩ = some (.slice x.d.a x.d.n x.d.c) := (unhide KL).c 5 (by simp)
          go_wp2_with fail
          refine (specSeal_any x.p x.nb x.le x.mo ne x.d.a x.d.n x.d.c x.d.zs V5 ⟨OwnE.row (unhide OD5)⟩ (fun i hi => (unhide HBY) i (by have := (unhide HCP).1; omega)) (name_size (ld_name (unhide HLD)))).mono ?_
          rintro e V8 ⟨rfl, b8⟩
          have HQ8 := hide ((unhide HQ5).below b8)
          have KL8 := hide ((unhide KL).below b8)
          have OD8 := hide ((unhide OD5).below b8)
          clear b8 HQ5 KL OD5 yB0 yB1 yB2 yB3 yB4 yB5
          have yB0 : V8.cell? ⟨B, 0, none⟩ = some (.string x.p) := (unhide KL8).c 0 (by simp)
          have yB1 : V8.cell? ⟨B, 1, none⟩ = some (.int .i64 x.nb) := (unhide KL8).c 1 (by simp)
          have yB2 : V8.cell? ⟨B, 2, none⟩ = some (.int .i64 x.le) := (unhide KL8).c 2 (by simp)
          have yB3 : V8.cell? ⟨B, 3, none⟩ = some (.int .i64 x.mo) := (unhide KL8).c 3 (by simp)
          have yB4 : V8.cell? ⟨B, 4, none⟩ = some (.int .i64 ne) := (unhide KL8).c 4 (by simp)
          have yB5 : V8.cell? ⟨B, 5, none⟩ = some (.slice x.d.a x.d.n x.d.c) := (unhide KL8).c 5 (by simp)
          have yX0 : V8.cell? ⟨X, 0, none⟩ = some (.int .i64 s) := (unhide HQ8).box.c 0 (by simp)
          have yX1 : V8.cell? ⟨X, 1, none⟩ = some (.slice (some ⟨gl, 0, none⟩) l1 c1) := (unhide HQ8).box.c 1 (by simp)
          obtain ⟨sl, hsl⟩ : ∃ z, seR ⟨x.p, x.nb, x.le, x.mo, ne, x.d.zs⟩ = z := ⟨_, rfl⟩
          obtain ⟨lb, hlb⟩ : ∃ z, ldB ⟨x.p, x.nb, x.le, x.mo, ne, x.d.zs⟩ = z := ⟨_, rfl⟩
          rw [hsl, hlb]
          clear hsl hlb
          go_wp2_with fail
          refine (specTakeL_any s (some ⟨gl, 0, none⟩) l1 c1 zs x.p x.nb x.le x.mo ne x.d.a x.d.n x.d.c x.d.zs sl V8 ⟨(unhide HQ8).own.row⟩ ⟨OwnE.row (unhide OD8)⟩ (unhide HCP).2 (unhide HQ8).lz (by have := (unhide HCP).1; have := unhide HL5; omega) (name_size (ld_name (unhide HLD))) (fun i hi => (unhide HBY) i (by have := (unhide HCP).1; omega))).mono ?_
          rintro e V9 ⟨a9, c9, rfl, oa, b9⟩
          have HQ9 := hide ((unhide HQ8).below b9)
          have HX8 : Hid (X < V8.heap.size) := hide (unhide HQ8).box.lt
          have HAB2 := hide (ab_take (l := ⟨x.p, x.nb, x.le, x.mo, ne, x.d.zs⟩) (sl := sl) (unhide HQ9).ab)
          have HLZ2 := hide (tkL_lz (s := s) (l := ⟨x.p, x.nb, x.le, x.mo, ne, x.d.zs⟩) (sl := sl) (unhide HQ9).lz (by have := unhide HL5; show x.d.zs.length ≤ 1048576; omega))
          obtain ⟨zs2, hz2⟩ : ∃ z, tkL s zs ⟨x.p, x.nb, x.le, x.mo, ne, x.d.zs⟩ sl = z := ⟨_, rfl⟩
          obtain ⟨tc, htc⟩ : ∃ z, tkC s zs ⟨x.p, x.nb, x.le, x.mo, ne, x.d.zs⟩ sl = z := ⟨_, rfl⟩
          obtain ⟨l9, hl9⟩ : ∃ z, zs2.length = z := ⟨_, rfl⟩
          rw [hz2] at oa HAB2 HLZ2 ⊢
          rw [htc]
          rw [hl9] at oa ⊢
          have OA := hide oa
          clear hz2 htc hl9 b9 oa HQ8 KL8 OD8 yB0 yB1 yB2 yB3 yB4 yB5 yX0 yX1
          go_wp2_with ((with_reducible show wpList _ _ _ (⟨none, .store 26 _ _, _, _, _, none⟩ :: _) _ _); refine at_storeAgg (us := [.int .i64 s, .slice (some ⟨gl, 0, none⟩) l1 c1]) (vs := [.int .i64 s, .slice a9 l9 c9]) Tryz.sizeOf26 rfl rfl (unhide HQ9).box rfl (by intro v hv; simp at hv; rcases hv with rfl | rfl <;> rfl) ?_; intro w6 kk gg)
          have hor := (unhide HQ9).ord
          have HQN : Hid (Ql w W w6 C R X a len cap s a9 l9 c9 zs2) := hide ⟨(unhide HQ9).dr.own gg (by omega), (unhide HQ9).res.apart gg (fun e => by have := Option.some.inj e; omega), kk, ((unhide OA).o1.far gg (fun q hq e => by have := Option.some.inj e; have := unhide HX8; omega)).mono (by have := unhide HX8; omega), unhide HAB2, unhide HLZ2, hor⟩
          clear kk gg hor HQ9 OA HX8
          refine ⟨⟨m - 1, a9, l9, c9, zs2, ?_, by omega, HQN⟩, ?_⟩
          · rw [show ((m - 1 : Nat) : Int) = (m : Int) - 1 by omega]
          · simp [intOf]; omega
        | false =>
          obtain ⟨ne, KL, HLD⟩ : ∃ ne, Hid (Blk V3 B [.string x.p, .int .i64 x.nb, .int .i64 x.le, .int .i64 x.mo, .int .i64 ne, .slice x.d.a x.d.n x.d.c]) ∧ Hid (ldB ⟨x.p, x.nb, x.le, x.mo, ne, x.d.zs⟩ = true) := ⟨_, KL3, HLD0⟩
          have yB0 : V3.cell? ⟨B, 0, none⟩ = some (.string x.p) := (unhide KL).c 0 (by simp)
          have yB1 : V3.cell? ⟨B, 1, none⟩ = some (.int .i64 x.nb) := (unhide KL).c 1 (by simp)
          have yB2 : V3.cell? ⟨B, 2, none⟩ = some (.int .i64 x.le) := (unhide KL).c 2 (by simp)
          have yB3 : V3.cell? ⟨B, 3, none⟩ = some (.int .i64 x.mo) := (unhide KL).c 3 (by simp)
          have yB4 : V3.cell? ⟨B, 4, none⟩ = some (.int .i64 ne) := (unhide KL).c 4 (by simp)
          have yB5 : V3.cell? ⟨B, 5, none⟩ = some (.slice x.d.a x.d.n x.d.c) := (unhide KL).c 5 (by simp)
          go_wp2_with fail
          refine (specSeal_any x.p x.nb x.le x.mo ne x.d.a x.d.n x.d.c x.d.zs V3 ⟨OwnE.row (unhide OD3)⟩ (fun i hi => (unhide HBY) i (by have := (unhide HCP).1; omega)) (name_size (ld_name (unhide HLD)))).mono ?_
          rintro e V8 ⟨rfl, b8⟩
          have HQ8 := hide ((unhide HQ3).below b8)
          have KL8 := hide ((unhide KL).below b8)
          have OD8 := hide ((unhide OD3).below b8)
          clear b8 HQ3 KL OD3 yB0 yB1 yB2 yB3 yB4 yB5
          have yB0 : V8.cell? ⟨B, 0, none⟩ = some (.string x.p) := (unhide KL8).c 0 (by simp)
          have yB1 : V8.cell? ⟨B, 1, none⟩ = some (.int .i64 x.nb) := (unhide KL8).c 1 (by simp)
          have yB2 : V8.cell? ⟨B, 2, none⟩ = some (.int .i64 x.le) := (unhide KL8).c 2 (by simp)
          have yB3 : V8.cell? ⟨B, 3, none⟩ = some (.int .i64 x.mo) := (unhide KL8).c 3 (by simp)
          have yB4 : V8.cell? ⟨B, 4, none⟩ = some (.int .i64 ne) := (unhide KL8).c 4 (by simp)
          have yB5 : V8.cell? ⟨B, 5, none⟩ = some (.slice x.d.a x.d.n x.d.c) := (unhide KL8).c 5 (by simp)
          have yX0 : V8.cell? ⟨X, 0, none⟩ = some (.int .i64 s) := (unhide HQ8).box.c 0 (by simp)
          have yX1 : V8.cell? ⟨X, 1, none⟩ = some (.slice a1 l1 c1) := (unhide HQ8).box.c 1 (by simp)
          obtain ⟨sl, hsl⟩ : ∃ z, seR ⟨x.p, x.nb, x.le, x.mo, ne, x.d.zs⟩ = z := ⟨_, rfl⟩
          obtain ⟨lb, hlb⟩ : ∃ z, ldB ⟨x.p, x.nb, x.le, x.mo, ne, x.d.zs⟩ = z := ⟨_, rfl⟩
          rw [hsl, hlb]
          clear hsl hlb
          go_wp2_with fail
          refine (specTakeL_any s a1 l1 c1 zs x.p x.nb x.le x.mo ne x.d.a x.d.n x.d.c x.d.zs sl V8 ⟨(unhide HQ8).own.row⟩ ⟨OwnE.row (unhide OD8)⟩ (unhide HCP).2 (unhide HQ8).lz (by have := (unhide HCP).1; have := unhide HL5; omega) (name_size (ld_name (unhide HLD))) (fun i hi => (unhide HBY) i (by have := (unhide HCP).1; omega))).mono ?_
          rintro e V9 ⟨a9, c9, rfl, oa, b9⟩
          have HQ9 := hide ((unhide HQ8).below b9)
          have HX8 : Hid (X < V8.heap.size) := hide (unhide HQ8).box.lt
          have HAB2 := hide (ab_take (l := ⟨x.p, x.nb, x.le, x.mo, ne, x.d.zs⟩) (sl := sl) (unhide HQ9).ab)
          have HLZ2 := hide (tkL_lz (s := s) (l := ⟨x.p, x.nb, x.le, x.mo, ne, x.d.zs⟩) (sl := sl) (unhide HQ9).lz (by have := unhide HL5; show x.d.zs.length ≤ 1048576; omega))
          obtain ⟨zs2, hz2⟩ : ∃ z, tkL s zs ⟨x.p, x.nb, x.le, x.mo, ne, x.d.zs⟩ sl = z := ⟨_, rfl⟩
          obtain ⟨tc, htc⟩ : ∃ z, tkC s zs ⟨x.p, x.nb, x.le, x.mo, ne, x.d.zs⟩ sl = z := ⟨_, rfl⟩
          obtain ⟨l9, hl9⟩ : ∃ z, zs2.length = z := ⟨_, rfl⟩
          rw [hz2] at oa HAB2 HLZ2 ⊢
          rw [htc]
          rw [hl9] at oa ⊢
          have OA := hide oa
          clear hz2 htc hl9 b9 oa HQ8 KL8 OD8 yB0 yB1 yB2 yB3 yB4 yB5 yX0 yX1
          go_wp2_with ((with_reducible show wpList _ _ _ (⟨none, .store 26 _ _, _, _, _, none⟩ :: _) _ _); refine at_storeAgg (us := [.int .i64 s, .slice a1 l1 c1]) (vs := [.int .i64 s, .slice a9 l9 c9]) Tryz.sizeOf26 rfl rfl (unhide HQ9).box rfl (by intro v hv; simp at hv; rcases hv with rfl | rfl <;> rfl) ?_; intro w6 kk gg)
          have hor := (unhide HQ9).ord
          have HQN : Hid (Ql w W w6 C R X a len cap s a9 l9 c9 zs2) := hide ⟨(unhide HQ9).dr.own gg (by omega), (unhide HQ9).res.apart gg (fun e => by have := Option.some.inj e; omega), kk, ((unhide OA).o1.far gg (fun q hq e => by have := Option.some.inj e; have := unhide HX8; omega)).mono (by have := unhide HX8; omega), unhide HAB2, unhide HLZ2, hor⟩
          clear kk gg hor HQ9 OA HX8
          refine ⟨⟨m - 1, a9, l9, c9, zs2, ?_, by omega, HQN⟩, ?_⟩
          · rw [show ((m - 1 : Nat) : Int) = (m : Int) - 1 by omega]
          · simp [intOf]; omega
      · have j2 : ¬ (0 : Int) < (l1 : Int) := by omega
        go_upto_region 8 with fail
        rw [← unhide HV2, unhide HB]
        clear yX0 yX1
        obtain ⟨ne, KL, HLD⟩ : ∃ ne, Hid (Blk V2 B [.string x.p, .int .i64 x.nb, .int .i64 x.le, .int .i64 x.mo, .int .i64 ne, .slice x.d.a x.d.n x.d.c]) ∧ Hid (ldB ⟨x.p, x.nb, x.le, x.mo, ne, x.d.zs⟩ = true) := ⟨_, KL0, HLD0⟩
        have yB0 : V2.cell? ⟨B, 0, none⟩ = some (.string x.p) := (unhide KL).c 0 (by simp)
        have yB1 : V2.cell? ⟨B, 1, none⟩ = some (.int .i64 x.nb) := (unhide KL).c 1 (by simp)
        have yB2 : V2.cell? ⟨B, 2, none⟩ = some (.int .i64 x.le) := (unhide KL).c 2 (by simp)
        have yB3 : V2.cell? ⟨B, 3, none⟩ = some (.int .i64 x.mo) := (unhide KL).c 3 (by simp)
        have yB4 : V2.cell? ⟨B, 4, none⟩ = some (.int .i64 ne) := (unhide KL).c 4 (by simp)
        have yB5 : V2.cell? ⟨B, 5, none⟩ = some (.slice x.d.a x.d.n x.d.c) := (unhide KL).c 5 (by simp)
        go_wp2_with fail
        refine (specSeal_any x.p x.nb x.le x.mo ne x.d.a x.d.n x.d.c x.d.zs V2 ⟨OwnE.row (unhide OD2)⟩ (fun i hi => (unhide HBY) i (by have := (unhide HCP).1; omega)) (name_size (ld_name (unhide HLD)))).mono ?_
        rintro e V8 ⟨rfl, b8⟩
        have HQ8 := hide ((unhide HQ2).below b8)
        have KL8 := hide ((unhide KL).below b8)
        have OD8 := hide ((unhide OD2).below b8)
        clear b8 HQ2 KL OD2 yB0 yB1 yB2 yB3 yB4 yB5
        have yB0 : V8.cell? ⟨B, 0, none⟩ = some (.string x.p) := (unhide KL8).c 0 (by simp)
        have yB1 : V8.cell? ⟨B, 1, none⟩ = some (.int .i64 x.nb) := (unhide KL8).c 1 (by simp)
        have yB2 : V8.cell? ⟨B, 2, none⟩ = some (.int .i64 x.le) := (unhide KL8).c 2 (by simp)
        have yB3 : V8.cell? ⟨B, 3, none⟩ = some (.int .i64 x.mo) := (unhide KL8).c 3 (by simp)
        have yB4 : V8.cell? ⟨B, 4, none⟩ = some (.int .i64 ne) := (unhide KL8).c 4 (by simp)
        have yB5 : V8.cell? ⟨B, 5, none⟩ = some (.slice x.d.a x.d.n x.d.c) := (unhide KL8).c 5 (by simp)
        have yX0 : V8.cell? ⟨X, 0, none⟩ = some (.int .i64 s) := (unhide HQ8).box.c 0 (by simp)
        have yX1 : V8.cell? ⟨X, 1, none⟩ = some (.slice a1 l1 c1) := (unhide HQ8).box.c 1 (by simp)
        obtain ⟨sl, hsl⟩ : ∃ z, seR ⟨x.p, x.nb, x.le, x.mo, ne, x.d.zs⟩ = z := ⟨_, rfl⟩
        obtain ⟨lb, hlb⟩ : ∃ z, ldB ⟨x.p, x.nb, x.le, x.mo, ne, x.d.zs⟩ = z := ⟨_, rfl⟩
        rw [hsl, hlb]
        clear hsl hlb
        go_wp2_with fail
        refine (specTakeL_any s a1 l1 c1 zs x.p x.nb x.le x.mo ne x.d.a x.d.n x.d.c x.d.zs sl V8 ⟨(unhide HQ8).own.row⟩ ⟨OwnE.row (unhide OD8)⟩ (unhide HCP).2 (unhide HQ8).lz (by have := (unhide HCP).1; have := unhide HL5; omega) (name_size (ld_name (unhide HLD))) (fun i hi => (unhide HBY) i (by have := (unhide HCP).1; omega))).mono ?_
        rintro e V9 ⟨a9, c9, rfl, oa, b9⟩
        have HQ9 := hide ((unhide HQ8).below b9)
        have HX8 : Hid (X < V8.heap.size) := hide (unhide HQ8).box.lt
        have HAB2 := hide (ab_take (l := ⟨x.p, x.nb, x.le, x.mo, ne, x.d.zs⟩) (sl := sl) (unhide HQ9).ab)
        have HLZ2 := hide (tkL_lz (s := s) (l := ⟨x.p, x.nb, x.le, x.mo, ne, x.d.zs⟩) (sl := sl) (unhide HQ9).lz (by have := unhide HL5; show x.d.zs.length ≤ 1048576; omega))
        obtain ⟨zs2, hz2⟩ : ∃ z, tkL s zs ⟨x.p, x.nb, x.le, x.mo, ne, x.d.zs⟩ sl = z := ⟨_, rfl⟩
        obtain ⟨tc, htc⟩ : ∃ z, tkC s zs ⟨x.p, x.nb, x.le, x.mo, ne, x.d.zs⟩ sl = z := ⟨_, rfl⟩
        obtain ⟨l9, hl9⟩ : ∃ z, zs2.length = z := ⟨_, rfl⟩
        rw [hz2] at oa HAB2 HLZ2 ⊢
        rw [htc]
        rw [hl9] at oa ⊢
        have OA := hide oa
        clear hz2 htc hl9 b9 oa HQ8 KL8 OD8 yB0 yB1 yB2 yB3 yB4 yB5 yX0 yX1
        go_wp2_with ((with_reducible show wpList _ _ _ (⟨none, .store 26 _ _, _, _, _, none⟩ :: _) _ _); refine at_storeAgg (us := [.int .i64 s, .slice a1 l1 c1]) (vs := [.int .i64 s, .slice a9 l9 c9]) Tryz.sizeOf26 rfl rfl (unhide HQ9).box rfl (by intro v hv; simp at hv; rcases hv with rfl | rfl <;> rfl) ?_; intro w6 kk gg)
        have hor := (unhide HQ9).ord
        have HQN : Hid (Ql w W w6 C R X a len cap s a9 l9 c9 zs2) := hide ⟨(unhide HQ9).dr.own gg (by omega), (unhide HQ9).res.apart gg (fun e => by have := Option.some.inj e; omega), kk, ((unhide OA).o1.far gg (fun q hq e => by have := Option.some.inj e; have := unhide HX8; omega)).mono (by have := unhide HX8; omega), unhide HAB2, unhide HLZ2, hor⟩
        clear kk gg hor HQ9 OA HX8
        refine ⟨⟨m - 1, a9, l9, c9, zs2, ?_, by omega, HQN⟩, ?_⟩
        · rw [show ((m - 1 : Nat) : Int) = (m : Int) - 1 by omega]
        · simp [intOf]; omega
    · have j1 : ¬ (0 : Int) < (m : Int) := by omega
      have yX0 : wr.cell? ⟨X, 0, none⟩ = some (.int .i64 s) := (unhide HQ).box.c 0 (by simp)
      have yX1 : wr.cell? ⟨X, 1, none⟩ = some (.slice a1 l1 c1) := (unhide HQ).box.c 1 (by simp)
      go_wp2_with ((with_reducible show wpList _ _ _ (⟨none, .store 26 _ _, _, _, _, none⟩ :: _) _ _); refine at_storeAgg (us := [.int .i64 0, .slice none 0 0]) (vs := [.int .i64 s, .slice a1 l1 c1]) Tryz.sizeOf26 rfl rfl (unhide HQ).res rfl (by intro v hv; simp at hv; rcases hv with rfl | rfl <;> rfl) ?_; intro w5 kk gg)
      have hor := (unhide HQ).ord
      have DF : Dk w C a len cap W w5 := (unhide HQ).dr.own gg hor.2.2
      have OF := (unhide HQ).own.far gg (fun q hq e => by have := Option.some.inj e; omega)
      exact bodyPost_ret (results_cell (vs := [.int .i64 s, .slice a1 l1 c1]) rfl Tryz.isAgg26 Tryz.sizeOf26 rfl kk) rfl ⟨s, a1, l1, c1, zs, rfl, (unhide HQ).ab, (unhide HQ).lz, OF.mono (by have := unhide HRW; omega), DF⟩

end Go.Proofs.YtemodlgmjgdjpaaGreatDoor

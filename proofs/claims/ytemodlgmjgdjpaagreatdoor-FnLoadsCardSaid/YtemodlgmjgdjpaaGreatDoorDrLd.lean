/-
  A load that is drawn: a name, numbers, bytes in new memory; it is as a load should be. At every cursor; nothing that was there is written but the cursor.
-/
import Derived.Test.YtemodlgmjgdjpaaGreatDoorMKeeps
import Derived.Test.YtemodlgmjgdjpaaGreatDoorMRowBy
import Derived.Test.YtemodlgmjgdjpaaGreatDoorRegInv
import Derived.Test.YtemodlgmjgdjpaaGreatDoorMOnly
import Derived.Test.YtemodlgmjgdjpaaGreatDoorMBase
import Derived.Test.YtemodlgmjgdjpaaGreatDoorMLxOwn
import Derived.Deep.Cut
import Derived.Laws.OwnMore
namespace Go.Proofs.YtemodlgmjgdjpaaGreatDoor
open Go Go.RowKit

theorem Dk.ownR {w : World} {C : Nat} {a : Option Addr} {len cap : Nat} {W0 W W' : World} {row : Option Nat} (h : Dk w C a len cap W0 W) (gr : W.grownBy W' row) (hB : ∀ k, row = some k → W0.heap.size ≤ k) : Dk w C a len cap W0 W' :=
  ⟨h.d.own gr (fun k hk => by have := hB k hk; have := h.lo; omega) h.inn, h.g.growN gr (fun _ hq => .inr (hB _ hq)), h.inn, h.lo⟩
/-- The load that is being drawn: the cursor, the result's block, the load's block, its bytes. -/
structure Qd (w W0 W : World) (C R X : Nat) (a : Option Addr) (len cap : Nat) (pp : ByteArray) (nb le mo ne : Int) (v : Value) (ds : List Int) : Prop where
  dr : Dk w C a len cap W0 W
  res : Blk W R [.string ⟨#[]⟩, .int .i64 0, .int .i64 0, .int .i64 0, .int .i64 0, .slice none 0 0]
  box : Blk W X [.string pp, .int .i64 nb, .int .i64 le, .int .i64 mo, .int .i64 ne, v]
  own : OwnE 1 byC W (X + 1) 5 v ds
  byt : ∀ i, i < ds.length → 0 ≤ elAt ds i ∧ elAt ds i ≤ 255
  ord : C < R ∧ R < X ∧ W0.heap.size ≤ R
theorem Qd.below {w W0 W : World} {C R X : Nat} {a : Option Addr} {len cap : Nat} {pp : ByteArray} {nb le mo ne : Int} {v : Value} {ds : List Int} {W' : World} (h : Qd w W0 W C R X a len cap pp nb le mo ne v ds) (k : Below W.heap.size W W') : Qd w W0 W' C R X a len cap pp nb le mo ne v ds :=
  ⟨h.dr.below k, h.res.below k, h.box.below k, h.own.below k, h.byt, h.ord⟩
theorem Qd.step {w W0 W : World} {C R X : Nat} {a : Option Addr} {len cap : Nat} {pp : ByteArray} {nb le mo ne : Int} {v : Value} {ds : List Int} {W' : World} (h : Qd w W0 W C R X a len cap pp nb le mo ne v ds) (d : Dr w C a len cap W') (g : W.grownBy W' (some C)) : Qd w W0 W' C R X a len cap pp nb le mo ne v ds := by
  have ho := h.ord
  exact ⟨h.dr.call g d, h.res.apart g (fun e => by have := Option.some.inj e; omega), h.box.apart g (fun e => by have := Option.some.inj e; omega), h.own.far g (fun q hq e => by have := (h.own.lies q hq).1; have := Option.some.inj e; omega), h.byt, ho⟩
theorem Qd.put {w W0 W : World} {C R X : Nat} {a : Option Addr} {len cap : Nat} {pp : ByteArray} {nb le mo ne : Int} {v : Value} {ds : List Int} (h : Qd w W0 W C R X a len cap pp nb le mo ne v ds) (i : Nat) (hi : i < 6) (u : Value) :
    Dk w C a len cap W0 (W.setCell ⟨X, i, none⟩ u) ∧ Blk (W.setCell ⟨X, i, none⟩ u) R [.string ⟨#[]⟩, .int .i64 0, .int .i64 0, .int .i64 0, .int .i64 0, .slice none 0 0] ∧ Blk (W.setCell ⟨X, i, none⟩ u) X ([.string pp, .int .i64 nb, .int .i64 le, .int .i64 mo, .int .i64 ne, v].set i u) ∧ OwnE 1 byC (W.setCell ⟨X, i, none⟩ u) (X + 1) 5 v ds := by
  have ho := h.ord
  have g : W.grownBy (W.setCell ⟨X, i, none⟩ u) (some X) := grown_set (grown_refl W (some X)) i u
  exact ⟨h.dr.ownR g (fun k hk => by cases hk; omega), h.res.other (by show X ≠ R; omega) _, h.box.set i (by simpa using hi) u, h.own.set_other u (fun e => by have := (h.own.lies X e).1; omega)⟩
theorem Qd.setL {w W0 W : World} {C R X : Nat} {a : Option Addr} {len cap : Nat} {pp : ByteArray} {nb le mo ne : Int} {v : Value} {ds : List Int} (h : Qd w W0 W C R X a len cap pp nb le mo ne v ds) (m : Int) : Qd w W0 (W.setCell ⟨X, 2, none⟩ (.int .i64 m)) C R X a len cap pp nb m mo ne v ds :=
  let p := h.put 2 (by omega) (.int .i64 m); ⟨p.1, p.2.1, p.2.2.1, p.2.2.2, h.byt, h.ord⟩
theorem Qd.setN {w W0 W : World} {C R X : Nat} {a : Option Addr} {len cap : Nat} {pp : ByteArray} {nb le mo ne : Int} {v : Value} {ds : List Int} (h : Qd w W0 W C R X a len cap pp nb le mo ne v ds) (m : Int) : Qd w W0 (W.setCell ⟨X, 4, none⟩ (.int .i64 m)) C R X a len cap pp nb le mo m v ds :=
  let p := h.put 4 (by omega) (.int .i64 m); ⟨p.1, p.2.1, p.2.2.1, p.2.2.2, h.byt, h.ord⟩
theorem drByte {w : World} {C : Nat} {a : Option Addr} {len cap : Nat} (W : World) (h : Dr w C a len cap W) :
    Calls Tryz.prog 71 #[.pointer (some ⟨C, 0, none⟩)] W fun e w' => ∃ x : Int, e = .returned (.int .i64 x) ∧ (0 ≤ x ∧ x ≤ 255) ∧ Dr w C a len cap w' ∧ W.grownBy w' (some C) := by
  refine (l1Byte_any C a len cap W h.cur h.byt h.ne).mono ?_
  rintro e w' ⟨x, rfl, hx, hc, g⟩
  exact ⟨x, rfl, hx, h.step hc g, g⟩
theorem byt_app {ds : List Int} {x : Int} (h : ∀ i, i < ds.length → 0 ≤ elAt ds i ∧ elAt ds i ≤ 255) (hx : 0 ≤ x ∧ x ≤ 255) : ∀ i, i < (ds ++ [x]).length → 0 ≤ elAt (ds ++ [x]) i ∧ elAt (ds ++ [x]) i ≤ 255 := by
  intro i hi
  by_cases e : i < ds.length
  · rw [(elAt_app ds x).1 i e]; exact h i e
  · obtain rfl : i = ds.length := by simp at hi; omega
    rw [(elAt_app ds x).2]; exact hx
/-- One byte more, lying in a block: what append gives, and where. -/
theorem wpList_app_b1 {ops : Array Oper} {rest : List Oper} {o : Oper} {a : Act} {Q : Exit → Act → World → Prop} {w : World} (hgd : o.guard = none) (s xo : Operand) (ho : o.op = .call { callee := .builtin .append, args := #[s, xo], argTypes := #[22, 22] })
    {base n q : Nat} {v : Value} {ds : List Int} (x : Int) (hO : OwnE 1 byC w base 5 v ds) (hn : ds.length = n) (hs : a.eval s = v) (hx : a.eval xo = .slice (some ⟨q, 0, none⟩) 1 1) (hq : w.cell? ⟨q, 0, none⟩ = some (.int .u8 x)) (hb : base ≤ w.heap.size) (hsm : n ≤ 1000)
    (h : ∀ g cap w', OwnE 1 byC w' base 5 (.slice (some ⟨g, 0, none⟩) (n + 1) cap) (ds ++ [x]) → w.grownBy w' v.ownBlock → wpList Tryz.prog ops Q rest (a.put o.dst (.slice (some ⟨g, 0, none⟩) (n + 1) cap)) w') : wpList Tryz.prog ops Q (o :: rest) a w := by
  subst hn
  obtain ⟨vs, hown, hvx⟩ := hO.own
  obtain ⟨i0, hii, hz0, hz1, hz2⟩ := info_parts infoBy
  refine wpList_append_lies _ hgd s xo 22 ho base 5 i0 (.int .u8 0) 1 1 Tryz.underlying22 hii hz0 hz1 hz2 rfl (by decide) v ds.length vs hs hown ⟨q, 0, none⟩ 1 1 [.int .u8 x] hx rfl (fun j u hj => ?_) (fun u hu => by simp at hu; subst hu; rfl) (by decide) (by unfold maxLen; omega) (by omega) hb _ rfl ?_
  · have hj0 : j = 0 := by
      rcases Nat.eq_zero_or_pos j with k | k
      · exact k
      · rw [List.getElem?_eq_none (by simp; omega)] at hj; cases hj
    subst hj0
    simp at hj
    subst hj
    rw [addr_addR]
    simpa using hq
  · intro g cap w' h1 h2 _ _
    have hu : ∀ j, j < 1 → [Value.int .u8 x][j]? = some (byC x j) := fun j hj => by
      obtain rfl : j = 0 := by omega
      rfl
    exact h g cap w' (ownE_app h1 hown.1 hvx hu) h2
structure QdR (w W0 : World) (C R X : Nat) (a : Option Addr) (len cap : Nat) (pp : ByteArray) (nb le mo ne : Int) (v : Value) (n : Nat) (ds : List Int) (t0 t1 t2 t3 t4 t5 t6 t7 t8 : Bool) (v0 v1 v2 v3 v4 v5 v6 v7 : Value) (W : World) : Prop where
  dr : Dk w C a len cap W0 W
  res : Blk W R [.string ⟨#[]⟩, .int .i64 0, .int .i64 0, .int .i64 0, .int .i64 0, .slice none 0 0]
  box : Blk W X [.string pp, .int .i64 nb, .int .i64 le, .int .i64 mo, .int .i64 ne, (bif t8 then v6 else v)]
  own : t6 = false → OwnE 1 byC W (X + 1) 5 v ds
  e0 : t0 = true → v0 = .pointer (some ⟨X, 5, none⟩)
  e1 : t1 = true → v1 = v
  e2 : t2 = true → v2 = .pointer (some ⟨C, 0, none⟩)
  e3 : t3 = true → ∃ x : Int, (0 ≤ x ∧ x ≤ 255) ∧ v3 = .int .i64 x
  e4 : t4 = true → ∃ x : Int, (0 ≤ x ∧ x ≤ 255) ∧ v4 = .int .u8 x
  e5 : t5 = true → t6 = false → ∃ (q : Nat) (x : Int), (0 ≤ x ∧ x ≤ 255) ∧ v5 = .slice (some ⟨q, 0, none⟩) 1 1 ∧ Blk W q [.int .u8 x] ∧ X < q ∧ v.ownBlock ≠ some q
  e6 : t6 = true → ∃ (g c : Nat) (x : Int), (0 ≤ x ∧ x ≤ 255) ∧ v6 = .slice (some ⟨g, 0, none⟩) (n + 1) c ∧ OwnE 1 byC W (X + 1) 5 v6 (ds ++ [x])
  e7 : t7 = true → v7 = .pointer (some ⟨X, 5, none⟩)
  n8 : t8 = true → t6 = true
  n1 : t6 = true → t1 = true
  n5 : t6 = true → t5 = true
  n3 : t5 = true → t3 = true
  n4 : t4 = true → t3 = true
def QdRJ (w W0 : World) (C R X : Nat) (a : Option Addr) (len cap : Nat) (pp : ByteArray) (nb le mo ne : Int) (v : Value) (n : Nat) (ds : List Int) (A0 : Act) (l : Nat → Bool) (b : Act) (V : World) : Prop := ∃ (v0 v1 v2 v3 v4 v5 v6 v7 : Value), b = ((((((((A0.put (some 39) v0).put (some 40) v1).put (some 41) v2).put (some 42) v3).put (some 43) v4).put (some 44) v5).put (some 45) v6).put (some 46) v7) ∧ QdR w W0 C R X a len cap pp nb le mo ne v n ds (l 0) (l 1) (l 2) (l 3) (l 4) (l 5) (l 6) (l 7) (l 8) v0 v1 v2 v3 v4 v5 v6 v7 V
theorem QdRJ.mk {w W0 : World} {C R X : Nat} {a : Option Addr} {len cap : Nat} {pp : ByteArray} {nb le mo ne : Int} {v : Value} {n : Nat} {ds : List Int} {A0 : Act} {l : Nat → Bool} {b : Act} {V : World} {v0 v1 v2 v3 v4 v5 v6 v7 : Value} (K : QdR w W0 C R X a len cap pp nb le mo ne v n ds (l 0) (l 1) (l 2) (l 3) (l 4) (l 5) (l 6) (l 7) (l 8) v0 v1 v2 v3 v4 v5 v6 v7 V) (h : b = ((((((((A0.put (some 39) v0).put (some 40) v1).put (some 41) v2).put (some 42) v3).put (some 43) v4).put (some 44) v5).put (some 45) v6).put (some 46) v7)) : QdRJ w W0 C R X a len cap pp nb le mo ne v n ds A0 l b V := ⟨v0, v1, v2, v3, v4, v5, v6, v7, h, K⟩
set_option maxHeartbeats 1000000 in
/-- A text is picked of a list that was written out. -/
theorem drPick {w : World} {C : Nat} {a : Option Addr} {len cap : Nat} (g n c : Nat) (zs : List ByteArray) (W : World) (h : Dr w C a len cap W) (hr : Blk W g (zs.map Value.string)) (hz : zs.length = n) (hg : g ≠ C) (hn : 1 ≤ n ∧ n ≤ 100) :
    Calls Tryz.prog 90 #[.pointer (some ⟨C, 0, none⟩), .slice (some ⟨g, 0, none⟩) n c] W fun e w' => ∃ i : Nat, i < n ∧ e = .returned (.string (elAt zs i)) ∧ Dr w C a len cap w' ∧ W.grownBy w' (some C) := by
  have HD := hide h
  have HR := hide hr
  have HZ := hide hz
  clear h hr hz
  go_enter Tryz.func90, Tryz.ntmps90
  go_wp2_with fail
  refine (drBelow (n : Int) _ (unhide HD) (by omega)).mono ?_
  rintro e w1 ⟨x, rfl, hx, d, gr⟩
  obtain ⟨i, hi⟩ : ∃ i : Nat, x = (i : Int) := ⟨x.toNat, by omega⟩
  subst hi
  have hin : i < n := by omega
  have R1 := (unhide HR).apart gr (fun e => hg (Option.some.inj e))
  have y : w1.cell? ⟨g, i, none⟩ = some (.string (elAt zs i)) := by
    rw [R1.c i (by simpa [unhide HZ] using hin)]
    simp [elAt, show i < zs.length by rw [unhide HZ]; exact hin]
  have i0 : (0 : Int) ≤ (i : Int) := by omega
  have i1 : (i : Int) < (n : Int) := by omega
  have D1 := hide d
  have GR := hide gr
  obtain ⟨s, hs⟩ : ∃ s, elAt zs i = s := ⟨_, rfl⟩
  rw [hs] at y
  have HS := hide hs
  clear d gr R1 hs
  go_wp2_with fail
  go_ret
  exact ⟨i, hin, by rw [unhide HS]; kernel_rfl, unhide D1, unhide GR⟩
theorem grownB {w w' : World} (h : Below w.heap.size w w') (row : Option Nat) : w.grownBy w' row := ⟨h.os, h.tape, h.output, h.size, fun k hk _ => h.block k hk⟩
theorem name6 : ∀ i, i < 6 → nameB (elAt ([⟨#[112, 117, 109, 112]⟩, ⟨#[102, 97, 110]⟩, ⟨#[103, 101, 97, 114]⟩, ⟨#[114, 105, 98, 45, 52]⟩, ⟨#[116, 121, 114, 101]⟩, ⟨#[118, 97, 108, 118, 101]⟩] : List ByteArray) i) = true := by decide +kernel
set_option maxHeartbeats 1000000 in
theorem drName {w : World} {C : Nat} {a : Option Addr} {len cap : Nat} (W : World) (h : Dr w C a len cap W) :
    Calls Tryz.prog 72 #[.pointer (some ⟨C, 0, none⟩)] W fun e w' => ∃ pp : ByteArray, e = .returned (.string pp) ∧ nameB pp = true ∧ Dr w C a len cap w' ∧ W.grownBy w' (some C) := by
  obtain ⟨V, hV⟩ : ∃ V, V = W.alloc (Obj.cells #[.string ⟨#[112, 117, 109, 112]⟩, .string ⟨#[102, 97, 110]⟩, .string ⟨#[103, 101, 97, 114]⟩, .string ⟨#[114, 105, 98, 45, 52]⟩, .string ⟨#[116, 121, 114, 101]⟩, .string ⟨#[118, 97, 108, 118, 101]⟩] 9) := ⟨_, rfl⟩
  have bV : Below W.heap.size W V := by rw [hV]; exact bel1 _
  have HK : Hid (Blk V W.heap.size [.string ⟨#[112, 117, 109, 112]⟩, .string ⟨#[102, 97, 110]⟩, .string ⟨#[103, 101, 97, 114]⟩, .string ⟨#[114, 105, 98, 45, 52]⟩, .string ⟨#[116, 121, 114, 101]⟩, .string ⟨#[118, 97, 108, 118, 101]⟩]) := hide (by rw [hV]; exact Blk.new _ _)
  have HD := hide (h.below bV)
  have BV := hide bV
  have HLT : Hid (C < W.heap.size) := hide h.lt
  have HV := hide hV
  clear h hV bV
  go_enter Tryz.func72, Tryz.ntmps72
  go_wp2_with fail
  rw [← unhide HV]
  refine (drPick W.heap.size 6 6 [⟨#[112, 117, 109, 112]⟩, ⟨#[102, 97, 110]⟩, ⟨#[103, 101, 97, 114]⟩, ⟨#[114, 105, 98, 45, 52]⟩, ⟨#[116, 121, 114, 101]⟩, ⟨#[118, 97, 108, 118, 101]⟩] V (unhide HD) (unhide HK) rfl (by have := unhide HLT; omega) (by omega)).mono ?_
  rintro e w1 ⟨i, hi, rfl, d, g⟩
  have hn := name6 i hi
  obtain ⟨pp, hpp⟩ : ∃ z, elAt ([⟨#[112, 117, 109, 112]⟩, ⟨#[102, 97, 110]⟩, ⟨#[103, 101, 97, 114]⟩, ⟨#[114, 105, 98, 45, 52]⟩, ⟨#[116, 121, 114, 101]⟩, ⟨#[118, 97, 108, 118, 101]⟩] : List ByteArray) i = z := ⟨_, rfl⟩
  rw [hpp] at hn ⊢
  have HN := hide hn
  have D := hide d
  have G := hide (grown_trans (grownB (unhide BV) (some C)) g)
  clear hpp hn d g
  go_wp2_with fail
  go_ret
  exact ⟨pp, rfl, unhide HN, unhide D, unhide G⟩

theorem ld_of {pp : ByteArray} {nb le mo ne : Int} {s : Sl} (h1 : nameB pp = true) (h2 : 1 ≤ nb ∧ nb ≤ 20) (h3 : 1 ≤ le ∧ le ≤ mo) (h4 : mo ≤ 15) (h5 : 0 ≤ ne ∧ ne ≤ 20) (h6 : s.zs.length ≤ 5) : ldB (lxW ⟨pp, nb, le, mo, ne, s⟩) = true ∧ s.zs.length ≤ 5 := by
  refine ⟨?_, h6⟩
  have e2 : inB nb 1 1000000 = true := by simp [inB]; omega
  have e3 : inB le 1 mo = true := by simp [inB]; omega
  have e5 : inB ne 0 1000000 = true := by simp [inB]; omega
  have e : ldB (lxW ⟨pp, nb, le, mo, ne, s⟩) = (nameB pp && inB nb 1 1000000 && inB le 1 mo && decide (mo ≤ 1000000) && inB ne 0 1000000 && decide (s.zs.length ≤ 400)) := rfl
  rw [e, h1, e2, e3, e5, decide_eq_true (by omega), decide_eq_true (by omega)]
  rfl
set_option maxRecDepth 20000 in
set_option maxHeartbeats 8000000 in
theorem drawLoad_any (C : Nat) (a : Option Addr) (len cap : Nat) (w W : World) (h : Dr w C a len cap W) (hin : ∀ b off, a = some ⟨b, off, none⟩ → b < w.heap.size) :
    Calls Tryz.prog 36 #[.pointer (some ⟨C, 0, none⟩)] W fun e w' => ∃ x : Lx, e = .returned (.agg #[.string x.p, .int .i64 x.nb, .int .i64 x.le, .int .i64 x.mo, .int .i64 x.ne, .slice x.d.a x.d.n x.d.c]) ∧ (ldB (lxW x) = true ∧ x.d.zs.length ≤ 5) ∧ OwnE 1 byC w' W.heap.size 5 (.slice x.d.a x.d.n x.d.c) x.d.zs ∧ (∀ i, i < x.d.zs.length → 0 ≤ elAt x.d.zs i ∧ elAt x.d.zs i ≤ 255) ∧ Dk w C a len cap W w' := by
  have HIN := hide hin
  have HR0 := hide h
  clear h hin
  go_enter Tryz.func36, Tryz.ntmps36
  go_wp2_with fail
  obtain ⟨W1, hW1⟩ : ∃ V, V = W.alloc (Obj.cells #[.string ⟨#[]⟩, .int .i64 0, .int .i64 0, .int .i64 0, .int .i64 0, .slice none 0 0] 32) := ⟨_, rfl⟩
  have D1 : Hid (Dk w C a len cap W W1) := hide ((Dk.start (unhide HR0) (unhide HIN)).below (by rw [hW1]; exact bel1 _))
  have KR : Hid (Blk W1 W.heap.size [.string ⟨#[]⟩, .int .i64 0, .int .i64 0, .int .i64 0, .int .i64 0, .slice none 0 0]) := hide (by rw [hW1]; exact Blk.new _ _)
  have hCR : C < W.heap.size := (unhide HR0).lt
  obtain ⟨R, hR⟩ : ∃ R, W.heap.size = R := ⟨_, rfl⟩
  rw [← hW1, hR]
  rw [hR] at KR hCR
  have HRW := hide hR
  clear hW1 HR0 hR
  refine (drName _ (unhide D1).d).mono ?_
  rintro e W2 ⟨pp, rfl, hpp, d2, g2⟩
  have HPP := hide hpp
  have D2 := hide ((unhide D1).call g2 d2)
  have KR := hide ((unhide KR).apart g2 (fun e => by have := Option.some.inj e; omega))
  clear d2 g2 D1 hpp
  go_wp2_with fail
  refine (drBelow 20 _ (unhide D2).d (by omega)).mono ?_
  rintro e W3 ⟨x1, rfl, hx1, d3, g3⟩
  have D3 := hide ((unhide D2).call g3 d3)
  have KR := hide ((unhide KR).apart g3 (fun e => by have := Option.some.inj e; omega))
  clear d3 g3 D2
  go_wp2_with fail
  refine (drBelow 8 _ (unhide D3).d (by omega)).mono ?_
  rintro e W4 ⟨x2, rfl, hx2, d4, g4⟩
  have D4 := hide ((unhide D3).call g4 d4)
  have KR := hide ((unhide KR).apart g4 (fun e => by have := Option.some.inj e; omega))
  clear d4 g4 D3
  go_wp2_with fail
  refine (drBelow 10 _ (unhide D4).d (by omega)).mono ?_
  rintro e W5 ⟨x3, rfl, hx3, d5, g5⟩
  have D5 := hide ((unhide D4).call g5 d5)
  have KR := hide ((unhide KR).apart g5 (fun e => by have := Option.some.inj e; omega))
  clear d5 g5 D4
  obtain ⟨W6, hW6⟩ : ∃ V, V = W5.alloc (Obj.cells #[.string pp, .int .i64 (1 + x1), .int .i64 (1 + x2), .int .i64 (6 + x3), .int .i64 0, .slice none 0 0] 32) := ⟨_, rfl⟩
  have bb6 : Below W5.heap.size W5 W6 := by rw [hW6]; exact bel1 _
  have HD0 : Hid (Qd w W W6 C R W5.heap.size a len cap pp (1 + x1) (1 + x2) (6 + x3) 0 (.slice none 0 0) []) := hide ⟨(unhide D5).below bb6, (unhide KR).below bb6, by rw [hW6]; exact Blk.new _ _, ownE_nil _ _ _, (fun i hi => by simp at hi), ⟨hCR, (unhide KR).lt, by have := unhide HRW; omega⟩⟩
  obtain ⟨X, hX⟩ : ∃ X, W5.heap.size = X := ⟨_, rfl⟩
  rw [hX] at HD0
  have HW6 := hide hW6
  have HX := hide hX
  have yX0 : W6.cell? ⟨X, 0, none⟩ = some (.string pp) := (unhide HD0).box.c 0 (by simp)
  have yX1 : W6.cell? ⟨X, 1, none⟩ = some (.int .i64 (1 + x1)) := (unhide HD0).box.c 1 (by simp)
  have yX2 : W6.cell? ⟨X, 2, none⟩ = some (.int .i64 (1 + x2)) := (unhide HD0).box.c 2 (by simp)
  have yX3 : W6.cell? ⟨X, 3, none⟩ = some (.int .i64 (6 + x3)) := (unhide HD0).box.c 3 (by simp)
  have yX4 : W6.cell? ⟨X, 4, none⟩ = some (.int .i64 0) := (unhide HD0).box.c 4 (by simp)
  have yX5 : W6.cell? ⟨X, 5, none⟩ = some (.slice none 0 0) := (unhide HD0).box.c 5 (by simp)
  have hX2 := hX
  rw [← hX2] at yX0 yX1 yX2 yX3 yX4 yX5
  rw [hW6] at yX0 yX1 yX2 yX3 yX4 yX5
  clear hW6 hX bb6 D5 KR hX2
  by_cases hb : 6 + x3 < 1 + x2
  · go_upto_region 3 with fail
    rw [← unhide HW6, unhide HX]
    clear yX0 yX1 yX2 yX3 yX4 yX5 HW6 HX
    have yX0 : W6.cell? ⟨X, 0, none⟩ = some (.string pp) := (unhide HD0).box.c 0 (by simp)
    have fX0 : W6.frozen? ⟨X, 0, none⟩ = false := (unhide HD0).box.f 0 (by simp)
    have yX1 : W6.cell? ⟨X, 1, none⟩ = some (.int .i64 (1 + x1)) := (unhide HD0).box.c 1 (by simp)
    have fX1 : W6.frozen? ⟨X, 1, none⟩ = false := (unhide HD0).box.f 1 (by simp)
    have yX2 : W6.cell? ⟨X, 2, none⟩ = some (.int .i64 (1 + x2)) := (unhide HD0).box.c 2 (by simp)
    have fX2 : W6.frozen? ⟨X, 2, none⟩ = false := (unhide HD0).box.f 2 (by simp)
    have yX3 : W6.cell? ⟨X, 3, none⟩ = some (.int .i64 (6 + x3)) := (unhide HD0).box.c 3 (by simp)
    have fX3 : W6.frozen? ⟨X, 3, none⟩ = false := (unhide HD0).box.f 3 (by simp)
    have yX4 : W6.cell? ⟨X, 4, none⟩ = some (.int .i64 0) := (unhide HD0).box.c 4 (by simp)
    have fX4 : W6.frozen? ⟨X, 4, none⟩ = false := (unhide HD0).box.f 4 (by simp)
    have yX5 : W6.cell? ⟨X, 5, none⟩ = some (.slice none 0 0) := (unhide HD0).box.c 5 (by simp)
    have fX5 : W6.frozen? ⟨X, 5, none⟩ = false := (unhide HD0).box.f 5 (by simp)
    have HD1 := hide ((unhide HD0).setL 1)
    obtain ⟨W7, hW7⟩ : ∃ V, V = W6.setCell ⟨X, 2, none⟩ (.int .i64 1) := ⟨_, rfl⟩
    rw [← hW7] at HD1
    have HW7 := hide hW7
    clear hW7
    go_upto_region 4 with fail
    rw [← unhide HW7]
    clear yX0 yX1 yX2 yX3 yX4 yX5 fX0 fX1 fX2 fX3 fX4 fX5
    clear HW7 HD0
    go_wp2_with fail
    refine (drOnce 3 _ (unhide HD1).dr.d (by omega)).mono ?_
    rintro e W8 ⟨on, rfl, d8, g8⟩
    have HD2 := hide ((unhide HD1).step d8 g8)
    clear d8 g8 HD1
    cases on with
    | true =>
      go_wp2_with fail
      refine (drBelow 20 _ (unhide HD2).dr.d (by omega)).mono ?_
      rintro e W9 ⟨x4, rfl, hx4, d9, g9⟩
      have HD3 := hide ((unhide HD2).step d9 g9)
      have HD4 := hide ((unhide HD3).setN (1 + x4))
      obtain ⟨WA, hWA⟩ : ∃ V, V = W9.setCell ⟨X, 4, none⟩ (.int .i64 (1 + x4)) := ⟨_, rfl⟩
      rw [← hWA] at HD4
      have HWA := hide hWA
      have yX0 : W9.cell? ⟨X, 0, none⟩ = some (.string pp) := (unhide HD3).box.c 0 (by simp)
      have fX0 : W9.frozen? ⟨X, 0, none⟩ = false := (unhide HD3).box.f 0 (by simp)
      have yX1 : W9.cell? ⟨X, 1, none⟩ = some (.int .i64 (1 + x1)) := (unhide HD3).box.c 1 (by simp)
      have fX1 : W9.frozen? ⟨X, 1, none⟩ = false := (unhide HD3).box.f 1 (by simp)
      have yX2 : W9.cell? ⟨X, 2, none⟩ = some (.int .i64 1) := (unhide HD3).box.c 2 (by simp)
      have fX2 : W9.frozen? ⟨X, 2, none⟩ = false := (unhide HD3).box.f 2 (by simp)
      have yX3 : W9.cell? ⟨X, 3, none⟩ = some (.int .i64 (6 + x3)) := (unhide HD3).box.c 3 (by simp)
      have fX3 : W9.frozen? ⟨X, 3, none⟩ = false := (unhide HD3).box.f 3 (by simp)
      have yX4 : W9.cell? ⟨X, 4, none⟩ = some (.int .i64 0) := (unhide HD3).box.c 4 (by simp)
      have fX4 : W9.frozen? ⟨X, 4, none⟩ = false := (unhide HD3).box.f 4 (by simp)
      have yX5 : W9.cell? ⟨X, 5, none⟩ = some (.slice none 0 0) := (unhide HD3).box.c 5 (by simp)
      have fX5 : W9.frozen? ⟨X, 5, none⟩ = false := (unhide HD3).box.f 5 (by simp)
      clear d9 g9 HD2 hWA
      go_upto_region 6 with fail
      rw [← unhide HWA]
      clear yX0 yX1 yX2 yX3 yX4 yX5 fX0 fX1 fX2 fX3 fX4 fX5
      clear HWA HD3
      obtain ⟨nb, le, mo, ne, HDL, HFA⟩ : ∃ nb le mo ne, Hid (Qd w W WA C R X a len cap pp nb le mo ne (.slice none 0 0) []) ∧ Hid (nameB pp = true ∧ (1 ≤ nb ∧ nb ≤ 20) ∧ (1 ≤ le ∧ le ≤ mo) ∧ mo ≤ 15 ∧ (0 ≤ ne ∧ ne ≤ 20)) := ⟨_, _, _, _, HD4, hide ⟨unhide HPP, by omega, by omega, by omega, by omega⟩⟩
      clear HD4
      go_wp2_with fail
      refine (drBelow 6 _ (unhide HDL).dr.d (by omega)).mono ?_
      rintro e WB ⟨x6, rfl, hx6, dB, gB⟩
      have HD8 := hide ((unhide HDL).step dB gB)
      clear dB gB HDL
      obtain ⟨m0, rfl⟩ : ∃ m : Nat, x6 = (m : Int) := ⟨x6.toNat, by omega⟩
      go_wp2_with fail
      go_loopw [4] (fun s4 wr => ∃ (m : Nat) (p : Option Addr) (n q : Nat) (ds : List Int), s4 = .int .i64 (m : Int) ∧ m ≤ 5 ∧ n + m ≤ 5 ∧ Hid (ds.length = n) ∧ Hid (Qd w W wr C R X a len cap pp nb le mo ne (.slice p n q) ds)) (fun s4 _ => (intOf s4).toNat)
      case atStart => exact ⟨m0, none, 0, 0, [], rfl, by omega, by omega, hide rfl, HD8⟩
      case round =>
        clear HD8
        obtain ⟨m, p, n, q, ds, rfl, hm, hnm, HNL, HD⟩ := hrel
        by_cases hp : 0 < m
        · have j1 : (0 : Int) < (m : Int) := by omega
          have HOR := hide (unhide HD).ord
          have hn9 : n ≤ 1000 := by omega
          go_upto_region 9 with fail
          refine wp_region_flagsA (by kernel_rfl) (by kernel_rfl) (QdRJ w W C R X a len cap pp nb le mo ne (.slice p n q) n ds) ?_ ?_ ?_
          · exact QdRJ.mk (v0 := u39) (v1 := u40) (v2 := u41) (v3 := u42) (v4 := u43) (v5 := u44) (v6 := u45) (v7 := u46) ⟨(unhide HD).dr.below (bel0d 1), (unhide HD).res.drewN 1, (unhide HD).box.drewN 1, fun _ => (unhide HD).own.below (bel0d 1), (fun h => by cases h), (fun h => by cases h), (fun h => by cases h), (fun h => by cases h), (fun h => by cases h), (fun h => by cases h), (fun h => by cases h), (fun h => by cases h), (fun h => by cases h), (fun h => by cases h), (fun h => by cases h), (fun h => by cases h), (fun h => by cases h)⟩ (by kernel_rfl)
          rotate_left 1
          · rintro l b V i o ho hl hd ⟨v0, v1, v2, v3, v4, v5, v6, v7, rfl, K⟩
            have hi : i < 9 := (Array.getElem?_eq_some_iff.1 ho).1
            rcases (show i = 0 ∨ i = 1 ∨ i = 2 ∨ i = 3 ∨ i = 4 ∨ i = 5 ∨ i = 6 ∨ i = 7 ∨ i = 8 from by omega) with rfl | rfl | rfl | rfl | rfl | rfl | rfl | rfl | rfl
            · simp at ho
              subst ho
              have HK : Hid (QdR w W C R X a len cap pp nb le mo ne (.slice p n q) n ds true (l 1) (l 2) (l 3) (l 4) (l 5) (l 6) (l 7) (l 8) (.pointer (some ⟨X, 5, none⟩)) v1 v2 v3 v4 v5 v6 v7 V) := hide ⟨(K.dr), (K.res), (K.box), (K.own), (fun _ => rfl), (K.e1), (K.e2), (K.e3), (K.e4), (K.e5), (K.e6), (K.e7), (K.n8), (K.n1), (K.n5), (K.n3), (K.n4)⟩
              clear K hd hl
              go_wp2_with fail
              exact ⟨rfl, QdRJ.mk (unhide HK) (by kernel_rfl)⟩
            · simp at ho
              subst ho
              have x0 := K.e0 (hd ⟨0, .data⟩ (by simp) rfl)
              subst x0
              have n6 : l 6 = false := by cases c6 : l 6; rfl; exact absurd (K.n1 c6) (by rw [hl]; simp)
              have n8 : l 8 = false := by cases c6 : l 8; rfl; exact absurd (K.n8 c6) (by rw [n6]; simp)
              have yy : V.cell? ⟨X, 5, none⟩ = some (.slice p n q) := by have := K.box.c 5 (by simp); rw [n8] at this; exact this
              have HK : Hid (QdR w W C R X a len cap pp nb le mo ne (.slice p n q) n ds (l 0) true (l 2) (l 3) (l 4) (l 5) (l 6) (l 7) (l 8) (.pointer (some ⟨X, 5, none⟩)) (.slice p n q) v2 v3 v4 v5 v6 v7 V) := hide ⟨(K.dr), (K.res), (K.box), (K.own), (K.e0), (fun _ => rfl), (K.e2), (K.e3), (K.e4), (K.e5), (K.e6), (K.e7), (K.n8), (fun _ => rfl), (K.n5), (K.n3), (K.n4)⟩
              clear K hd hl n6 n8
              go_wp2_with fail
              exact ⟨rfl, QdRJ.mk (unhide HK) (by kernel_rfl)⟩
            · simp at ho
              subst ho
              have HK : Hid (QdR w W C R X a len cap pp nb le mo ne (.slice p n q) n ds (l 0) (l 1) true (l 3) (l 4) (l 5) (l 6) (l 7) (l 8) v0 v1 (.pointer (some ⟨C, 0, none⟩)) v3 v4 v5 v6 v7 V) := hide ⟨(K.dr), (K.res), (K.box), (K.own), (K.e0), (K.e1), (fun _ => rfl), (K.e3), (K.e4), (K.e5), (K.e6), (K.e7), (K.n8), (K.n1), (K.n5), (K.n3), (K.n4)⟩
              clear K hd hl
              go_wp2_with fail
              exact ⟨rfl, QdRJ.mk (unhide HK) (by kernel_rfl)⟩
            · simp at ho
              subst ho
              have x2 := K.e2 (hd ⟨2, .data⟩ (by simp) rfl)
              subst x2
              have n5 : l 5 = false := by cases c6 : l 5; rfl; exact absurd (K.n3 c6) (by rw [hl]; simp)
              have n6 : l 6 = false := by cases c6 : l 6; rfl; exact absurd (K.n5 c6) (by rw [n5]; simp)
              have H6 := hide n6
              have H5 := hide n5
              have HK0 := hide K
              have hX := unhide HOR
              clear K hd hl n5 n6
              go_wp2_with (go_at_call 71; refine (drByte _ (unhide HK0).dr.d).mono ?_; rintro e V2 ⟨x, rfl, hx, d9, g9⟩; have K := unhide HK0; have HK : Hid (QdR w W C R X a len cap pp nb le mo ne (.slice p n q) n ds (l 0) (l 1) (l 2) true (l 4) (l 5) (l 6) (l 7) (l 8) v0 v1 (.pointer (some ⟨C, 0, none⟩)) (.int .i64 x) v4 v5 v6 v7 V2) := hide ⟨(K.dr.call g9 d9), (K.res.apart g9 (fun e => by have := Option.some.inj e; omega)), (K.box.apart g9 (fun e => by have := Option.some.inj e; omega)), (fun h => (K.own h).far g9 (fun q hq e => by have := ((K.own h).lies q hq).1; have := Option.some.inj e; omega)), (K.e0), (K.e1), (K.e2), (fun _ => ⟨x, hx, rfl⟩), (K.e4), (fun h _ => by cases (unhide H5).symm.trans h), (fun h => by cases (unhide H6).symm.trans h), (K.e7), (K.n8), (K.n1), (K.n5), (fun _ => rfl), (fun _ => rfl)⟩; clear K d9 g9)
              exact ⟨rfl, QdRJ.mk (unhide HK) (by kernel_rfl)⟩
            · simp at ho
              subst ho
              have d3 : l 3 = true := hd ⟨3, .data⟩ (by simp) rfl
              obtain ⟨x, hx, x3⟩ := K.e3 d3
              subst x3
              have hm : x % 256 = x := by omega
              have HK : Hid (QdR w W C R X a len cap pp nb le mo ne (.slice p n q) n ds (l 0) (l 1) (l 2) (l 3) true (l 5) (l 6) (l 7) (l 8) v0 v1 v2 (.int .i64 x) (.int .u8 x) v5 v6 v7 V) := hide ⟨(K.dr), (K.res), (K.box), (K.own), (K.e0), (K.e1), (K.e2), (K.e3), (fun _ => ⟨x, hx, rfl⟩), (K.e5), (K.e6), (K.e7), (K.n8), (K.n1), (K.n5), (K.n3), (fun _ => d3)⟩
              clear K hd hl d3
              go_wp2_with fail
              exact ⟨rfl, QdRJ.mk (unhide HK) (by kernel_rfl)⟩
            · simp at ho
              subst ho
              obtain ⟨x, hx, x4⟩ := K.e4 (hd ⟨4, .data⟩ (by simp) rfl)
              subst x4
              have n6 : l 6 = false := by cases c6 : l 6; rfl; exact absurd (K.n5 c6) (by rw [hl]; simp)
              have d3 : l 3 = true := K.n4 (hd ⟨4, .data⟩ (by simp) rfl)
              have k9 := bel1 (w := V) (Obj.cells #[.int .u8 x] 5)
              have HK : Hid (QdR w W C R X a len cap pp nb le mo ne (.slice p n q) n ds (l 0) (l 1) (l 2) (l 3) (l 4) true (l 6) (l 7) (l 8) v0 v1 v2 v3 (.int .u8 x) (.slice (some ⟨V.heap.size, 0, none⟩) 1 1) v6 v7 (V.alloc (Obj.cells #[.int .u8 x] 5))) := hide ⟨(K.dr.below k9), (K.res.below k9), (K.box.below k9), (fun h => (K.own h).below k9), (K.e0), (K.e1), (K.e2), (K.e3), (K.e4), (fun _ _ => ⟨_, x, hx, rfl, Blk.new [.int .u8 x] 5, K.box.lt, fun e => by have := ((K.own n6).lies _ e).2; omega⟩), (fun h => by obtain ⟨g, c, x, a1, a2, a3⟩ := K.e6 h; exact ⟨g, c, x, a1, a2, a3.below k9⟩), (K.e7), (K.n8), (K.n1), (fun _ => rfl), (fun _ => d3), (K.n4)⟩
              clear K hd hl n6 d3 k9
              go_wp2_with fail
              exact ⟨rfl, QdRJ.mk (unhide HK) (by kernel_rfl)⟩
            · simp at ho
              subst ho
              have d1 : l 1 = true := hd ⟨1, .data⟩ (by simp) rfl
              have d5 : l 5 = true := hd ⟨5, .data⟩ (by simp) rfl
              have x1 := K.e1 d1
              obtain ⟨qq, x, hx, x5, kq, lq, nq⟩ := K.e5 d5 hl
              have n8 : l 8 = false := by cases c6 : l 8; rfl; exact absurd (K.n8 c6) (by rw [hl]; simp)
              have OD := K.own hl
              subst x1
              subst x5
              have HK0 := hide K
              have HOD := hide OD
              have HQ := hide kq
              have H8 := hide n8
              have H1 := hide d1
              have H5 := hide d5
              have hX := unhide HOR
              have hXs := K.box.lt
              have HBX : Hid (Blk V X [.string pp, .int .i64 nb, .int .i64 le, .int .i64 mo, .int .i64 ne, .slice p n q]) := hide (by have := K.box; rw [n8] at this; exact this)
              clear K hd hl OD kq n8 d1 d5
              go_wp2_with (at_builtin; refine wpList_app_b1 rfl _ _ rfl x (unhide HOD) (unhide HNL) (by kernel_rfl) (by kernel_rfl) ((unhide HQ).c 0 (by simp)) (by omega) hn9 ?_; intro g9 c9 w9 o9 gr9; have K := unhide HK0; have HK : Hid (QdR w W C R X a len cap pp nb le mo ne (.slice p n q) n ds (l 0) (l 1) (l 2) (l 3) (l 4) (l 5) true (l 7) (l 8) v0 (.slice p n q) v2 v3 v4 (.slice (some ⟨qq, 0, none⟩) 1 1) (.slice (some ⟨g9, 0, none⟩) (n + 1) c9) v7 w9) := hide ⟨(K.dr.ownR gr9 (fun k hk => by have := ((unhide HOD).lies k hk).1; omega)), (K.res.apart gr9 (fun e => by have := ((unhide HOD).lies _ e.symm).1; omega)), (by have := (unhide HBX).apart gr9 (fun e => by have := ((unhide HOD).lies _ e.symm).1; omega); rw [unhide H8]; exact this), (fun h => by cases h), (K.e0), (K.e1), (K.e2), (K.e3), (K.e4), (fun _ h => by cases h), (fun _ => ⟨g9, c9, x, hx, rfl, o9⟩), (K.e7), (fun _ => rfl), (fun _ => unhide H1), (fun _ => unhide H5), (K.n3), (K.n4)⟩; clear K o9 gr9)
              exact ⟨rfl, QdRJ.mk (unhide HK) (by kernel_rfl)⟩
            · simp at ho
              subst ho
              have HK : Hid (QdR w W C R X a len cap pp nb le mo ne (.slice p n q) n ds (l 0) (l 1) (l 2) (l 3) (l 4) (l 5) (l 6) true (l 8) v0 v1 v2 v3 v4 v5 v6 (.pointer (some ⟨X, 5, none⟩)) V) := hide ⟨(K.dr), (K.res), (K.box), (K.own), (K.e0), (K.e1), (K.e2), (K.e3), (K.e4), (K.e5), (K.e6), (fun _ => rfl), (K.n8), (K.n1), (K.n5), (K.n3), (K.n4)⟩
              clear K hd hl
              go_wp2_with fail
              exact ⟨rfl, QdRJ.mk (unhide HK) (by kernel_rfl)⟩
            · simp at ho
              subst ho
              have d6 : l 6 = true := hd ⟨6, .data⟩ (by simp) rfl
              obtain ⟨g9, c9, x, hx, x6, o6⟩ := K.e6 d6
              have x7 := K.e7 (hd ⟨7, .data⟩ (by simp) rfl)
              subst x7
              have B8 := K.box
              rw [hl] at B8
              have yy : V.cell? ⟨X, 5, none⟩ = some (.slice p n q) := B8.c 5 (by simp)
              have ff : V.frozen? ⟨X, 5, none⟩ = false := B8.f 5 (by simp)
              have hX := unhide HOR
              have gS : V.grownBy (V.setCell ⟨X, 5, none⟩ v6) (some X) := grown_set (grown_refl V (some X)) 5 v6
              have HK : Hid (QdR w W C R X a len cap pp nb le mo ne (.slice p n q) n ds (l 0) (l 1) (l 2) (l 3) (l 4) (l 5) (l 6) (l 7) true v0 v1 v2 v3 v4 v5 v6 (.pointer (some ⟨X, 5, none⟩)) (V.setCell ⟨X, 5, none⟩ v6)) := hide ⟨(K.dr.ownR gS (fun k hk => by cases hk; omega)), (K.res.other (by show X ≠ R; omega) _), (B8.set 5 (by simp) v6), (fun h => by cases d6.symm.trans h), (K.e0), (K.e1), (K.e2), (K.e3), (K.e4), (fun _ h => by cases d6.symm.trans h), (fun _ => ⟨g9, c9, x, hx, x6, o6.set_other _ (fun e => by have := (o6.lies X e).1; omega)⟩), (K.e7), (fun _ => d6), (K.n1), (K.n5), (K.n3), (K.n4)⟩
              subst x6
              clear K hd hl B8 gS o6 d6
              go_wp2_with fail
              exact ⟨rfl, QdRJ.mk (unhide HK) (by kernel_rfl)⟩
          rintro l b V hall ⟨v0, v1, v2, v3, v4, v5, v6, v7, rfl, K⟩
          obtain ⟨g9, c9, x, hx, x6, o6⟩ := K.e6 (hall 6 (by decide))
          have B8 := K.box
          rw [hall 8 (by decide)] at B8
          subst x6
          have H9 : Hid (Qd w W V C R X a len cap pp nb le mo ne (.slice (some ⟨g9, 0, none⟩) (n + 1) c9) (ds ++ [x])) := hide ⟨K.dr, K.res, B8, o6, byt_app (unhide HD).byt hx, (unhide HD).ord⟩
          clear K hall B8 o6
          go_wp2_with fail
          go_roundw
          case rel => exact ⟨m - 1, some ⟨g9, 0, none⟩, n + 1, c9, ds ++ [x], by rw [show ((m - 1 : Nat) : Int) = (m : Int) - 1 by omega], by omega, by omega, hide (by simp [unhide HNL]), H9⟩
          case measure => simp [intOf]; omega
        · have j1 : ¬ (0 : Int) < (m : Int) := by omega
          have yX0 : wr.cell? ⟨X, 0, none⟩ = some (.string pp) := (unhide HD).box.c 0 (by simp)
          have yX1 : wr.cell? ⟨X, 1, none⟩ = some (.int .i64 nb) := (unhide HD).box.c 1 (by simp)
          have yX2 : wr.cell? ⟨X, 2, none⟩ = some (.int .i64 le) := (unhide HD).box.c 2 (by simp)
          have yX3 : wr.cell? ⟨X, 3, none⟩ = some (.int .i64 mo) := (unhide HD).box.c 3 (by simp)
          have yX4 : wr.cell? ⟨X, 4, none⟩ = some (.int .i64 ne) := (unhide HD).box.c 4 (by simp)
          have yX5 : wr.cell? ⟨X, 5, none⟩ = some (.slice p n q) := (unhide HD).box.c 5 (by simp)
          go_wp2_with ((with_reducible show wpList _ _ _ (⟨none, .store 32 _ _, _, _, _, none⟩ :: _) _ _); refine at_storeAgg (us := [.string ⟨#[]⟩, .int .i64 0, .int .i64 0, .int .i64 0, .int .i64 0, .slice none 0 0]) (vs := [.string pp, .int .i64 nb, .int .i64 le, .int .i64 mo, .int .i64 ne, .slice p n q]) Tryz.sizeOf32 rfl rfl (unhide HD).res rfl (by intro v hv; simp at hv; rcases hv with rfl | rfl | rfl | rfl | rfl | rfl <;> rfl) ?_; intro w5 kk gg)
          have hor := (unhide HD).ord
          have DF : Dk w C a len cap W w5 := (unhide HD).dr.own gg hor.2.2
          have OF := (unhide HD).own.far gg (fun q hq e => by have := ((unhide HD).own.lies q hq).1; have := Option.some.inj e; omega)
          have hf := unhide HFA
          have hln := unhide HNL
          exact bodyPost_ret (results_cell (vs := [.string pp, .int .i64 nb, .int .i64 le, .int .i64 mo, .int .i64 ne, .slice p n q]) rfl Tryz.isAgg32 Tryz.sizeOf32 rfl kk) rfl ⟨⟨pp, nb, le, mo, ne, ⟨p, n, q, ds⟩⟩, rfl, ld_of hf.1 hf.2.1 hf.2.2.1 hf.2.2.2.1 hf.2.2.2.2 (by show ds.length ≤ 5; omega), OF.mono (by omega), (unhide HD).byt, DF⟩
    | false =>
      obtain ⟨nb, le, mo, ne, HDL, HFA⟩ : ∃ nb le mo ne, Hid (Qd w W W8 C R X a len cap pp nb le mo ne (.slice none 0 0) []) ∧ Hid (nameB pp = true ∧ (1 ≤ nb ∧ nb ≤ 20) ∧ (1 ≤ le ∧ le ≤ mo) ∧ mo ≤ 15 ∧ (0 ≤ ne ∧ ne ≤ 20)) := ⟨_, _, _, _, HD2, hide ⟨unhide HPP, by omega, by omega, by omega, by omega⟩⟩
      clear HD2
      go_wp2_with fail
      refine (drBelow 6 _ (unhide HDL).dr.d (by omega)).mono ?_
      rintro e WB ⟨x6, rfl, hx6, dB, gB⟩
      have HD8 := hide ((unhide HDL).step dB gB)
      clear dB gB HDL
      obtain ⟨m0, rfl⟩ : ∃ m : Nat, x6 = (m : Int) := ⟨x6.toNat, by omega⟩
      go_wp2_with fail
      go_loopw [4] (fun s4 wr => ∃ (m : Nat) (p : Option Addr) (n q : Nat) (ds : List Int), s4 = .int .i64 (m : Int) ∧ m ≤ 5 ∧ n + m ≤ 5 ∧ Hid (ds.length = n) ∧ Hid (Qd w W wr C R X a len cap pp nb le mo ne (.slice p n q) ds)) (fun s4 _ => (intOf s4).toNat)
      case atStart => exact ⟨m0, none, 0, 0, [], rfl, by omega, by omega, hide rfl, HD8⟩
      case round =>
        clear HD8
        obtain ⟨m, p, n, q, ds, rfl, hm, hnm, HNL, HD⟩ := hrel
        by_cases hp : 0 < m
        · have j1 : (0 : Int) < (m : Int) := by omega
          have HOR := hide (unhide HD).ord
          have hn9 : n ≤ 1000 := by omega
          go_upto_region 9 with fail
          refine wp_region_flagsA (by kernel_rfl) (by kernel_rfl) (QdRJ w W C R X a len cap pp nb le mo ne (.slice p n q) n ds) ?_ ?_ ?_
          · exact QdRJ.mk (v0 := u39) (v1 := u40) (v2 := u41) (v3 := u42) (v4 := u43) (v5 := u44) (v6 := u45) (v7 := u46) ⟨(unhide HD).dr.below (bel0d 1), (unhide HD).res.drewN 1, (unhide HD).box.drewN 1, fun _ => (unhide HD).own.below (bel0d 1), (fun h => by cases h), (fun h => by cases h), (fun h => by cases h), (fun h => by cases h), (fun h => by cases h), (fun h => by cases h), (fun h => by cases h), (fun h => by cases h), (fun h => by cases h), (fun h => by cases h), (fun h => by cases h), (fun h => by cases h), (fun h => by cases h)⟩ (by kernel_rfl)
          rotate_left 1
          · rintro l b V i o ho hl hd ⟨v0, v1, v2, v3, v4, v5, v6, v7, rfl, K⟩
            have hi : i < 9 := (Array.getElem?_eq_some_iff.1 ho).1
            rcases (show i = 0 ∨ i = 1 ∨ i = 2 ∨ i = 3 ∨ i = 4 ∨ i = 5 ∨ i = 6 ∨ i = 7 ∨ i = 8 from by omega) with rfl | rfl | rfl | rfl | rfl | rfl | rfl | rfl | rfl
            · simp at ho
              subst ho
              have HK : Hid (QdR w W C R X a len cap pp nb le mo ne (.slice p n q) n ds true (l 1) (l 2) (l 3) (l 4) (l 5) (l 6) (l 7) (l 8) (.pointer (some ⟨X, 5, none⟩)) v1 v2 v3 v4 v5 v6 v7 V) := hide ⟨(K.dr), (K.res), (K.box), (K.own), (fun _ => rfl), (K.e1), (K.e2), (K.e3), (K.e4), (K.e5), (K.e6), (K.e7), (K.n8), (K.n1), (K.n5), (K.n3), (K.n4)⟩
              clear K hd hl
              go_wp2_with fail
              exact ⟨rfl, QdRJ.mk (unhide HK) (by kernel_rfl)⟩
            · simp at ho
              subst ho
              have x0 := K.e0 (hd ⟨0, .data⟩ (by simp) rfl)
              subst x0
              have n6 : l 6 = false := by cases c6 : l 6; rfl; exact absurd (K.n1 c6) (by rw [hl]; simp)
              have n8 : l 8 = false := by cases c6 : l 8; rfl; exact absurd (K.n8 c6) (by rw [n6]; simp)
              have yy : V.cell? ⟨X, 5, none⟩ = some (.slice p n q) := by have := K.box.c 5 (by simp); rw [n8] at this; exact this
              have HK : Hid (QdR w W C R X a len cap pp nb le mo ne (.slice p n q) n ds (l 0) true (l 2) (l 3) (l 4) (l 5) (l 6) (l 7) (l 8) (.pointer (some ⟨X, 5, none⟩)) (.slice p n q) v2 v3 v4 v5 v6 v7 V) := hide ⟨(K.dr), (K.res), (K.box), (K.own), (K.e0), (fun _ => rfl), (K.e2), (K.e3), (K.e4), (K.e5), (K.e6), (K.e7), (K.n8), (fun _ => rfl), (K.n5), (K.n3), (K.n4)⟩
              clear K hd hl n6 n8
              go_wp2_with fail
              exact ⟨rfl, QdRJ.mk (unhide HK) (by kernel_rfl)⟩
            · simp at ho
              subst ho
              have HK : Hid (QdR w W C R X a len cap pp nb le mo ne (.slice p n q) n ds (l 0) (l 1) true (l 3) (l 4) (l 5) (l 6) (l 7) (l 8) v0 v1 (.pointer (some ⟨C, 0, none⟩)) v3 v4 v5 v6 v7 V) := hide ⟨(K.dr), (K.res), (K.box), (K.own), (K.e0), (K.e1), (fun _ => rfl), (K.e3), (K.e4), (K.e5), (K.e6), (K.e7), (K.n8), (K.n1), (K.n5), (K.n3), (K.n4)⟩
              clear K hd hl
              go_wp2_with fail
              exact ⟨rfl, QdRJ.mk (unhide HK) (by kernel_rfl)⟩
            · simp at ho
              subst ho
              have x2 := K.e2 (hd ⟨2, .data⟩ (by simp) rfl)
              subst x2
              have n5 : l 5 = false := by cases c6 : l 5; rfl; exact absurd (K.n3 c6) (by rw [hl]; simp)
              have n6 : l 6 = false := by cases c6 : l 6; rfl; exact absurd (K.n5 c6) (by rw [n5]; simp)
              have H6 := hide n6
              have H5 := hide n5
              have HK0 := hide K
              have hX := unhide HOR
              clear K hd hl n5 n6
              go_wp2_with (go_at_call 71; refine (drByte _ (unhide HK0).dr.d).mono ?_; rintro e V2 ⟨x, rfl, hx, d9, g9⟩; have K := unhide HK0; have HK : Hid (QdR w W C R X a len cap pp nb le mo ne (.slice p n q) n ds (l 0) (l 1) (l 2) true (l 4) (l 5) (l 6) (l 7) (l 8) v0 v1 (.pointer (some ⟨C, 0, none⟩)) (.int .i64 x) v4 v5 v6 v7 V2) := hide ⟨(K.dr.call g9 d9), (K.res.apart g9 (fun e => by have := Option.some.inj e; omega)), (K.box.apart g9 (fun e => by have := Option.some.inj e; omega)), (fun h => (K.own h).far g9 (fun q hq e => by have := ((K.own h).lies q hq).1; have := Option.some.inj e; omega)), (K.e0), (K.e1), (K.e2), (fun _ => ⟨x, hx, rfl⟩), (K.e4), (fun h _ => by cases (unhide H5).symm.trans h), (fun h => by cases (unhide H6).symm.trans h), (K.e7), (K.n8), (K.n1), (K.n5), (fun _ => rfl), (fun _ => rfl)⟩; clear K d9 g9)
              exact ⟨rfl, QdRJ.mk (unhide HK) (by kernel_rfl)⟩
            · simp at ho
              subst ho
              have d3 : l 3 = true := hd ⟨3, .data⟩ (by simp) rfl
              obtain ⟨x, hx, x3⟩ := K.e3 d3
              subst x3
              have hm : x % 256 = x := by omega
              have HK : Hid (QdR w W C R X a len cap pp nb le mo ne (.slice p n q) n ds (l 0) (l 1) (l 2) (l 3) true (l 5) (l 6) (l 7) (l 8) v0 v1 v2 (.int .i64 x) (.int .u8 x) v5 v6 v7 V) := hide ⟨(K.dr), (K.res), (K.box), (K.own), (K.e0), (K.e1), (K.e2), (K.e3), (fun _ => ⟨x, hx, rfl⟩), (K.e5), (K.e6), (K.e7), (K.n8), (K.n1), (K.n5), (K.n3), (fun _ => d3)⟩
              clear K hd hl d3
              go_wp2_with fail
              exact ⟨rfl, QdRJ.mk (unhide HK) (by kernel_rfl)⟩
            · simp at ho
              subst ho
              obtain ⟨x, hx, x4⟩ := K.e4 (hd ⟨4, .data⟩ (by simp) rfl)
              subst x4
              have n6 : l 6 = false := by cases c6 : l 6; rfl; exact absurd (K.n5 c6) (by rw [hl]; simp)
              have d3 : l 3 = true := K.n4 (hd ⟨4, .data⟩ (by simp) rfl)
              have k9 := bel1 (w := V) (Obj.cells #[.int .u8 x] 5)
              have HK : Hid (QdR w W C R X a len cap pp nb le mo ne (.slice p n q) n ds (l 0) (l 1) (l 2) (l 3) (l 4) true (l 6) (l 7) (l 8) v0 v1 v2 v3 (.int .u8 x) (.slice (some ⟨V.heap.size, 0, none⟩) 1 1) v6 v7 (V.alloc (Obj.cells #[.int .u8 x] 5))) := hide ⟨(K.dr.below k9), (K.res.below k9), (K.box.below k9), (fun h => (K.own h).below k9), (K.e0), (K.e1), (K.e2), (K.e3), (K.e4), (fun _ _ => ⟨_, x, hx, rfl, Blk.new [.int .u8 x] 5, K.box.lt, fun e => by have := ((K.own n6).lies _ e).2; omega⟩), (fun h => by obtain ⟨g, c, x, a1, a2, a3⟩ := K.e6 h; exact ⟨g, c, x, a1, a2, a3.below k9⟩), (K.e7), (K.n8), (K.n1), (fun _ => rfl), (fun _ => d3), (K.n4)⟩
              clear K hd hl n6 d3 k9
              go_wp2_with fail
              exact ⟨rfl, QdRJ.mk (unhide HK) (by kernel_rfl)⟩
            · simp at ho
              subst ho
              have d1 : l 1 = true := hd ⟨1, .data⟩ (by simp) rfl
              have d5 : l 5 = true := hd ⟨5, .data⟩ (by simp) rfl
              have x1 := K.e1 d1
              obtain ⟨qq, x, hx, x5, kq, lq, nq⟩ := K.e5 d5 hl
              have n8 : l 8 = false := by cases c6 : l 8; rfl; exact absurd (K.n8 c6) (by rw [hl]; simp)
              have OD := K.own hl
              subst x1
              subst x5
              have HK0 := hide K
              have HOD := hide OD
              have HQ := hide kq
              have H8 := hide n8
              have H1 := hide d1
              have H5 := hide d5
              have hX := unhide HOR
              have hXs := K.box.lt
              have HBX : Hid (Blk V X [.string pp, .int .i64 nb, .int .i64 le, .int .i64 mo, .int .i64 ne, .slice p n q]) := hide (by have := K.box; rw [n8] at this; exact this)
              clear K hd hl OD kq n8 d1 d5
              go_wp2_with (at_builtin; refine wpList_app_b1 rfl _ _ rfl x (unhide HOD) (unhide HNL) (by kernel_rfl) (by kernel_rfl) ((unhide HQ).c 0 (by simp)) (by omega) hn9 ?_; intro g9 c9 w9 o9 gr9; have K := unhide HK0; have HK : Hid (QdR w W C R X a len cap pp nb le mo ne (.slice p n q) n ds (l 0) (l 1) (l 2) (l 3) (l 4) (l 5) true (l 7) (l 8) v0 (.slice p n q) v2 v3 v4 (.slice (some ⟨qq, 0, none⟩) 1 1) (.slice (some ⟨g9, 0, none⟩) (n + 1) c9) v7 w9) := hide ⟨(K.dr.ownR gr9 (fun k hk => by have := ((unhide HOD).lies k hk).1; omega)), (K.res.apart gr9 (fun e => by have := ((unhide HOD).lies _ e.symm).1; omega)), (by have := (unhide HBX).apart gr9 (fun e => by have := ((unhide HOD).lies _ e.symm).1; omega); rw [unhide H8]; exact this), (fun h => by cases h), (K.e0), (K.e1), (K.e2), (K.e3), (K.e4), (fun _ h => by cases h), (fun _ => ⟨g9, c9, x, hx, rfl, o9⟩), (K.e7), (fun _ => rfl), (fun _ => unhide H1), (fun _ => unhide H5), (K.n3), (K.n4)⟩; clear K o9 gr9)
              exact ⟨rfl, QdRJ.mk (unhide HK) (by kernel_rfl)⟩
            · simp at ho
              subst ho
              have HK : Hid (QdR w W C R X a len cap pp nb le mo ne (.slice p n q) n ds (l 0) (l 1) (l 2) (l 3) (l 4) (l 5) (l 6) true (l 8) v0 v1 v2 v3 v4 v5 v6 (.pointer (some ⟨X, 5, none⟩)) V) := hide ⟨(K.dr), (K.res), (K.box), (K.own), (K.e0), (K.e1), (K.e2), (K.e3), (K.e4), (K.e5), (K.e6), (fun _ => rfl), (K.n8), (K.n1), (K.n5), (K.n3), (K.n4)⟩
              clear K hd hl
              go_wp2_with fail
              exact ⟨rfl, QdRJ.mk (unhide HK) (by kernel_rfl)⟩
            · simp at ho
              subst ho
              have d6 : l 6 = true := hd ⟨6, .data⟩ (by simp) rfl
              obtain ⟨g9, c9, x, hx, x6, o6⟩ := K.e6 d6
              have x7 := K.e7 (hd ⟨7, .data⟩ (by simp) rfl)
              subst x7
              have B8 := K.box
              rw [hl] at B8
              have yy : V.cell? ⟨X, 5, none⟩ = some (.slice p n q) := B8.c 5 (by simp)
              have ff : V.frozen? ⟨X, 5, none⟩ = false := B8.f 5 (by simp)
              have hX := unhide HOR
              have gS : V.grownBy (V.setCell ⟨X, 5, none⟩ v6) (some X) := grown_set (grown_refl V (some X)) 5 v6
              have HK : Hid (QdR w W C R X a len cap pp nb le mo ne (.slice p n q) n ds (l 0) (l 1) (l 2) (l 3) (l 4) (l 5) (l 6) (l 7) true v0 v1 v2 v3 v4 v5 v6 (.pointer (some ⟨X, 5, none⟩)) (V.setCell ⟨X, 5, none⟩ v6)) := hide ⟨(K.dr.ownR gS (fun k hk => by cases hk; omega)), (K.res.other (by show X ≠ R; omega) _), (B8.set 5 (by simp) v6), (fun h => by cases d6.symm.trans h), (K.e0), (K.e1), (K.e2), (K.e3), (K.e4), (fun _ h => by cases d6.symm.trans h), (fun _ => ⟨g9, c9, x, hx, x6, o6.set_other _ (fun e => by have := (o6.lies X e).1; omega)⟩), (K.e7), (fun _ => d6), (K.n1), (K.n5), (K.n3), (K.n4)⟩
              subst x6
              clear K hd hl B8 gS o6 d6
              go_wp2_with fail
              exact ⟨rfl, QdRJ.mk (unhide HK) (by kernel_rfl)⟩
          rintro l b V hall ⟨v0, v1, v2, v3, v4, v5, v6, v7, rfl, K⟩
          obtain ⟨g9, c9, x, hx, x6, o6⟩ := K.e6 (hall 6 (by decide))
          have B8 := K.box
          rw [hall 8 (by decide)] at B8
          subst x6
          have H9 : Hid (Qd w W V C R X a len cap pp nb le mo ne (.slice (some ⟨g9, 0, none⟩) (n + 1) c9) (ds ++ [x])) := hide ⟨K.dr, K.res, B8, o6, byt_app (unhide HD).byt hx, (unhide HD).ord⟩
          clear K hall B8 o6
          go_wp2_with fail
          go_roundw
          case rel => exact ⟨m - 1, some ⟨g9, 0, none⟩, n + 1, c9, ds ++ [x], by rw [show ((m - 1 : Nat) : Int) = (m : Int) - 1 by omega], by omega, by omega, hide (by simp [unhide HNL]), H9⟩
          case measure => simp [intOf]; omega
        · have j1 : ¬ (0 : Int) < (m : Int) := by omega
          have yX0 : wr.cell? ⟨X, 0, none⟩ = some (.string pp) := (unhide HD).box.c 0 (by simp)
          have yX1 : wr.cell? ⟨X, 1, none⟩ = some (.int .i64 nb) := (unhide HD).box.c 1 (by simp)
          have yX2 : wr.cell? ⟨X, 2, none⟩ = some (.int .i64 le) := (unhide HD).box.c 2 (by simp)
          have yX3 : wr.cell? ⟨X, 3, none⟩ = some (.int .i64 mo) := (unhide HD).box.c 3 (by simp)
          have yX4 : wr.cell? ⟨X, 4, none⟩ = some (.int .i64 ne) := (unhide HD).box.c 4 (by simp)
          have yX5 : wr.cell? ⟨X, 5, none⟩ = some (.slice p n q) := (unhide HD).box.c 5 (by simp)
          go_wp2_with ((with_reducible show wpList _ _ _ (⟨none, .store 32 _ _, _, _, _, none⟩ :: _) _ _); refine at_storeAgg (us := [.string ⟨#[]⟩, .int .i64 0, .int .i64 0, .int .i64 0, .int .i64 0, .slice none 0 0]) (vs := [.string pp, .int .i64 nb, .int .i64 le, .int .i64 mo, .int .i64 ne, .slice p n q]) Tryz.sizeOf32 rfl rfl (unhide HD).res rfl (by intro v hv; simp at hv; rcases hv with rfl | rfl | rfl | rfl | rfl | rfl <;> rfl) ?_; intro w5 kk gg)
          have hor := (unhide HD).ord
          have DF : Dk w C a len cap W w5 := (unhide HD).dr.own gg hor.2.2
          have OF := (unhide HD).own.far gg (fun q hq e => by have := ((unhide HD).own.lies q hq).1; have := Option.some.inj e; omega)
          have hf := unhide HFA
          have hln := unhide HNL
          exact bodyPost_ret (results_cell (vs := [.string pp, .int .i64 nb, .int .i64 le, .int .i64 mo, .int .i64 ne, .slice p n q]) rfl Tryz.isAgg32 Tryz.sizeOf32 rfl kk) rfl ⟨⟨pp, nb, le, mo, ne, ⟨p, n, q, ds⟩⟩, rfl, ld_of hf.1 hf.2.1 hf.2.2.1 hf.2.2.2.1 hf.2.2.2.2 (by show ds.length ≤ 5; omega), OF.mono (by omega), (unhide HD).byt, DF⟩
  · go_upto_region 4 with fail
    rw [← unhide HW6, unhide HX]
    clear yX0 yX1 yX2 yX3 yX4 yX5 HW6 HX
    have HD1 := HD0
    clear HD0
    go_wp2_with fail
    refine (drOnce 3 _ (unhide HD1).dr.d (by omega)).mono ?_
    rintro e W8 ⟨on, rfl, d8, g8⟩
    have HD2 := hide ((unhide HD1).step d8 g8)
    clear d8 g8 HD1
    cases on with
    | true =>
      go_wp2_with fail
      refine (drBelow 20 _ (unhide HD2).dr.d (by omega)).mono ?_
      rintro e W9 ⟨x4, rfl, hx4, d9, g9⟩
      have HD3 := hide ((unhide HD2).step d9 g9)
      have HD4 := hide ((unhide HD3).setN (1 + x4))
      obtain ⟨WA, hWA⟩ : ∃ V, V = W9.setCell ⟨X, 4, none⟩ (.int .i64 (1 + x4)) := ⟨_, rfl⟩
      rw [← hWA] at HD4
      have HWA := hide hWA
      have yX0 : W9.cell? ⟨X, 0, none⟩ = some (.string pp) := (unhide HD3).box.c 0 (by simp)
      have fX0 : W9.frozen? ⟨X, 0, none⟩ = false := (unhide HD3).box.f 0 (by simp)
      have yX1 : W9.cell? ⟨X, 1, none⟩ = some (.int .i64 (1 + x1)) := (unhide HD3).box.c 1 (by simp)
      have fX1 : W9.frozen? ⟨X, 1, none⟩ = false := (unhide HD3).box.f 1 (by simp)
      have yX2 : W9.cell? ⟨X, 2, none⟩ = some (.int .i64 (1 + x2)) := (unhide HD3).box.c 2 (by simp)
      have fX2 : W9.frozen? ⟨X, 2, none⟩ = false := (unhide HD3).box.f 2 (by simp)
      have yX3 : W9.cell? ⟨X, 3, none⟩ = some (.int .i64 (6 + x3)) := (unhide HD3).box.c 3 (by simp)
      have fX3 : W9.frozen? ⟨X, 3, none⟩ = false := (unhide HD3).box.f 3 (by simp)
      have yX4 : W9.cell? ⟨X, 4, none⟩ = some (.int .i64 0) := (unhide HD3).box.c 4 (by simp)
      have fX4 : W9.frozen? ⟨X, 4, none⟩ = false := (unhide HD3).box.f 4 (by simp)
      have yX5 : W9.cell? ⟨X, 5, none⟩ = some (.slice none 0 0) := (unhide HD3).box.c 5 (by simp)
      have fX5 : W9.frozen? ⟨X, 5, none⟩ = false := (unhide HD3).box.f 5 (by simp)
      clear d9 g9 HD2 hWA
      go_upto_region 6 with fail
      rw [← unhide HWA]
      clear yX0 yX1 yX2 yX3 yX4 yX5 fX0 fX1 fX2 fX3 fX4 fX5
      clear HWA HD3
      obtain ⟨nb, le, mo, ne, HDL, HFA⟩ : ∃ nb le mo ne, Hid (Qd w W WA C R X a len cap pp nb le mo ne (.slice none 0 0) []) ∧ Hid (nameB pp = true ∧ (1 ≤ nb ∧ nb ≤ 20) ∧ (1 ≤ le ∧ le ≤ mo) ∧ mo ≤ 15 ∧ (0 ≤ ne ∧ ne ≤ 20)) := ⟨_, _, _, _, HD4, hide ⟨unhide HPP, by omega, by omega, by omega, by omega⟩⟩
      clear HD4
      go_wp2_with fail
      refine (drBelow 6 _ (unhide HDL).dr.d (by omega)).mono ?_
      rintro e WB ⟨x6, rfl, hx6, dB, gB⟩
      have HD8 := hide ((unhide HDL).step dB gB)
      clear dB gB HDL
      obtain ⟨m0, rfl⟩ : ∃ m : Nat, x6 = (m : Int) := ⟨x6.toNat, by omega⟩
      go_wp2_with fail
      go_loopw [4] (fun s4 wr => ∃ (m : Nat) (p : Option Addr) (n q : Nat) (ds : List Int), s4 = .int .i64 (m : Int) ∧ m ≤ 5 ∧ n + m ≤ 5 ∧ Hid (ds.length = n) ∧ Hid (Qd w W wr C R X a len cap pp nb le mo ne (.slice p n q) ds)) (fun s4 _ => (intOf s4).toNat)
      case atStart => exact ⟨m0, none, 0, 0, [], rfl, by omega, by omega, hide rfl, HD8⟩
      case round =>
        clear HD8
        obtain ⟨m, p, n, q, ds, rfl, hm, hnm, HNL, HD⟩ := hrel
        by_cases hp : 0 < m
        · have j1 : (0 : Int) < (m : Int) := by omega
          have HOR := hide (unhide HD).ord
          have hn9 : n ≤ 1000 := by omega
          go_upto_region 9 with fail
          refine wp_region_flagsA (by kernel_rfl) (by kernel_rfl) (QdRJ w W C R X a len cap pp nb le mo ne (.slice p n q) n ds) ?_ ?_ ?_
          · exact QdRJ.mk (v0 := u39) (v1 := u40) (v2 := u41) (v3 := u42) (v4 := u43) (v5 := u44) (v6 := u45) (v7 := u46) ⟨(unhide HD).dr.below (bel0d 1), (unhide HD).res.drewN 1, (unhide HD).box.drewN 1, fun _ => (unhide HD).own.below (bel0d 1), (fun h => by cases h), (fun h => by cases h), (fun h => by cases h), (fun h => by cases h), (fun h => by cases h), (fun h => by cases h), (fun h => by cases h), (fun h => by cases h), (fun h => by cases h), (fun h => by cases h), (fun h => by cases h), (fun h => by cases h), (fun h => by cases h)⟩ (by kernel_rfl)
          rotate_left 1
          · rintro l b V i o ho hl hd ⟨v0, v1, v2, v3, v4, v5, v6, v7, rfl, K⟩
            have hi : i < 9 := (Array.getElem?_eq_some_iff.1 ho).1
            rcases (show i = 0 ∨ i = 1 ∨ i = 2 ∨ i = 3 ∨ i = 4 ∨ i = 5 ∨ i = 6 ∨ i = 7 ∨ i = 8 from by omega) with rfl | rfl | rfl | rfl | rfl | rfl | rfl | rfl | rfl
            · simp at ho
              subst ho
              have HK : Hid (QdR w W C R X a len cap pp nb le mo ne (.slice p n q) n ds true (l 1) (l 2) (l 3) (l 4) (l 5) (l 6) (l 7) (l 8) (.pointer (some ⟨X, 5, none⟩)) v1 v2 v3 v4 v5 v6 v7 V) := hide ⟨(K.dr), (K.res), (K.box), (K.own), (fun _ => rfl), (K.e1), (K.e2), (K.e3), (K.e4), (K.e5), (K.e6), (K.e7), (K.n8), (K.n1), (K.n5), (K.n3), (K.n4)⟩
              clear K hd hl
              go_wp2_with fail
              exact ⟨rfl, QdRJ.mk (unhide HK) (by kernel_rfl)⟩
            · simp at ho
              subst ho
              have x0 := K.e0 (hd ⟨0, .data⟩ (by simp) rfl)
              subst x0
              have n6 : l 6 = false := by cases c6 : l 6; rfl; exact absurd (K.n1 c6) (by rw [hl]; simp)
              have n8 : l 8 = false := by cases c6 : l 8; rfl; exact absurd (K.n8 c6) (by rw [n6]; simp)
              have yy : V.cell? ⟨X, 5, none⟩ = some (.slice p n q) := by have := K.box.c 5 (by simp); rw [n8] at this; exact this
              have HK : Hid (QdR w W C R X a len cap pp nb le mo ne (.slice p n q) n ds (l 0) true (l 2) (l 3) (l 4) (l 5) (l 6) (l 7) (l 8) (.pointer (some ⟨X, 5, none⟩)) (.slice p n q) v2 v3 v4 v5 v6 v7 V) := hide ⟨(K.dr), (K.res), (K.box), (K.own), (K.e0), (fun _ => rfl), (K.e2), (K.e3), (K.e4), (K.e5), (K.e6), (K.e7), (K.n8), (fun _ => rfl), (K.n5), (K.n3), (K.n4)⟩
              clear K hd hl n6 n8
              go_wp2_with fail
              exact ⟨rfl, QdRJ.mk (unhide HK) (by kernel_rfl)⟩
            · simp at ho
              subst ho
              have HK : Hid (QdR w W C R X a len cap pp nb le mo ne (.slice p n q) n ds (l 0) (l 1) true (l 3) (l 4) (l 5) (l 6) (l 7) (l 8) v0 v1 (.pointer (some ⟨C, 0, none⟩)) v3 v4 v5 v6 v7 V) := hide ⟨(K.dr), (K.res), (K.box), (K.own), (K.e0), (K.e1), (fun _ => rfl), (K.e3), (K.e4), (K.e5), (K.e6), (K.e7), (K.n8), (K.n1), (K.n5), (K.n3), (K.n4)⟩
              clear K hd hl
              go_wp2_with fail
              exact ⟨rfl, QdRJ.mk (unhide HK) (by kernel_rfl)⟩
            · simp at ho
              subst ho
              have x2 := K.e2 (hd ⟨2, .data⟩ (by simp) rfl)
              subst x2
              have n5 : l 5 = false := by cases c6 : l 5; rfl; exact absurd (K.n3 c6) (by rw [hl]; simp)
              have n6 : l 6 = false := by cases c6 : l 6; rfl; exact absurd (K.n5 c6) (by rw [n5]; simp)
              have H6 := hide n6
              have H5 := hide n5
              have HK0 := hide K
              have hX := unhide HOR
              clear K hd hl n5 n6
              go_wp2_with (go_at_call 71; refine (drByte _ (unhide HK0).dr.d).mono ?_; rintro e V2 ⟨x, rfl, hx, d9, g9⟩; have K := unhide HK0; have HK : Hid (QdR w W C R X a len cap pp nb le mo ne (.slice p n q) n ds (l 0) (l 1) (l 2) true (l 4) (l 5) (l 6) (l 7) (l 8) v0 v1 (.pointer (some ⟨C, 0, none⟩)) (.int .i64 x) v4 v5 v6 v7 V2) := hide ⟨(K.dr.call g9 d9), (K.res.apart g9 (fun e => by have := Option.some.inj e; omega)), (K.box.apart g9 (fun e => by have := Option.some.inj e; omega)), (fun h => (K.own h).far g9 (fun q hq e => by have := ((K.own h).lies q hq).1; have := Option.some.inj e; omega)), (K.e0), (K.e1), (K.e2), (fun _ => ⟨x, hx, rfl⟩), (K.e4), (fun h _ => by cases (unhide H5).symm.trans h), (fun h => by cases (unhide H6).symm.trans h), (K.e7), (K.n8), (K.n1), (K.n5), (fun _ => rfl), (fun _ => rfl)⟩; clear K d9 g9)
              exact ⟨rfl, QdRJ.mk (unhide HK) (by kernel_rfl)⟩
            · simp at ho
              subst ho
              have d3 : l 3 = true := hd ⟨3, .data⟩ (by simp) rfl
              obtain ⟨x, hx, x3⟩ := K.e3 d3
              subst x3
              have hm : x % 256 = x := by omega
              have HK : Hid (QdR w W C R X a len cap pp nb le mo ne (.slice p n q) n ds (l 0) (l 1) (l 2) (l 3) true (l 5) (l 6) (l 7) (l 8) v0 v1 v2 (.int .i64 x) (.int .u8 x) v5 v6 v7 V) := hide ⟨(K.dr), (K.res), (K.box), (K.own), (K.e0), (K.e1), (K.e2), (K.e3), (fun _ => ⟨x, hx, rfl⟩), (K.e5), (K.e6), (K.e7), (K.n8), (K.n1), (K.n5), (K.n3), (fun _ => d3)⟩
              clear K hd hl d3
              go_wp2_with fail
              exact ⟨rfl, QdRJ.mk (unhide HK) (by kernel_rfl)⟩
            · simp at ho
              subst ho
              obtain ⟨x, hx, x4⟩ := K.e4 (hd ⟨4, .data⟩ (by simp) rfl)
              subst x4
              have n6 : l 6 = false := by cases c6 : l 6; rfl; exact absurd (K.n5 c6) (by rw [hl]; simp)
              have d3 : l 3 = true := K.n4 (hd ⟨4, .data⟩ (by simp) rfl)
              have k9 := bel1 (w := V) (Obj.cells #[.int .u8 x] 5)
              have HK : Hid (QdR w W C R X a len cap pp nb le mo ne (.slice p n q) n ds (l 0) (l 1) (l 2) (l 3) (l 4) true (l 6) (l 7) (l 8) v0 v1 v2 v3 (.int .u8 x) (.slice (some ⟨V.heap.size, 0, none⟩) 1 1) v6 v7 (V.alloc (Obj.cells #[.int .u8 x] 5))) := hide ⟨(K.dr.below k9), (K.res.below k9), (K.box.below k9), (fun h => (K.own h).below k9), (K.e0), (K.e1), (K.e2), (K.e3), (K.e4), (fun _ _ => ⟨_, x, hx, rfl, Blk.new [.int .u8 x] 5, K.box.lt, fun e => by have := ((K.own n6).lies _ e).2; omega⟩), (fun h => by obtain ⟨g, c, x, a1, a2, a3⟩ := K.e6 h; exact ⟨g, c, x, a1, a2, a3.below k9⟩), (K.e7), (K.n8), (K.n1), (fun _ => rfl), (fun _ => d3), (K.n4)⟩
              clear K hd hl n6 d3 k9
              go_wp2_with fail
              exact ⟨rfl, QdRJ.mk (unhide HK) (by kernel_rfl)⟩
            · simp at ho
              subst ho
              have d1 : l 1 = true := hd ⟨1, .data⟩ (by simp) rfl
              have d5 : l 5 = true := hd ⟨5, .data⟩ (by simp) rfl
              have x1 := K.e1 d1
              obtain ⟨qq, x, hx, x5, kq, lq, nq⟩ := K.e5 d5 hl
              have n8 : l 8 = false := by cases c6 : l 8; rfl; exact absurd (K.n8 c6) (by rw [hl]; simp)
              have OD := K.own hl
              subst x1
              subst x5
              have HK0 := hide K
              have HOD := hide OD
              have HQ := hide kq
              have H8 := hide n8
              have H1 := hide d1
              have H5 := hide d5
              have hX := unhide HOR
              have hXs := K.box.lt
              have HBX : Hid (Blk V X [.string pp, .int .i64 nb, .int .i64 le, .int .i64 mo, .int .i64 ne, .slice p n q]) := hide (by have := K.box; rw [n8] at this; exact this)
              clear K hd hl OD kq n8 d1 d5
              go_wp2_with (at_builtin; refine wpList_app_b1 rfl _ _ rfl x (unhide HOD) (unhide HNL) (by kernel_rfl) (by kernel_rfl) ((unhide HQ).c 0 (by simp)) (by omega) hn9 ?_; intro g9 c9 w9 o9 gr9; have K := unhide HK0; have HK : Hid (QdR w W C R X a len cap pp nb le mo ne (.slice p n q) n ds (l 0) (l 1) (l 2) (l 3) (l 4) (l 5) true (l 7) (l 8) v0 (.slice p n q) v2 v3 v4 (.slice (some ⟨qq, 0, none⟩) 1 1) (.slice (some ⟨g9, 0, none⟩) (n + 1) c9) v7 w9) := hide ⟨(K.dr.ownR gr9 (fun k hk => by have := ((unhide HOD).lies k hk).1; omega)), (K.res.apart gr9 (fun e => by have := ((unhide HOD).lies _ e.symm).1; omega)), (by have := (unhide HBX).apart gr9 (fun e => by have := ((unhide HOD).lies _ e.symm).1; omega); rw [unhide H8]; exact this), (fun h => by cases h), (K.e0), (K.e1), (K.e2), (K.e3), (K.e4), (fun _ h => by cases h), (fun _ => ⟨g9, c9, x, hx, rfl, o9⟩), (K.e7), (fun _ => rfl), (fun _ => unhide H1), (fun _ => unhide H5), (K.n3), (K.n4)⟩; clear K o9 gr9)
              exact ⟨rfl, QdRJ.mk (unhide HK) (by kernel_rfl)⟩
            · simp at ho
              subst ho
              have HK : Hid (QdR w W C R X a len cap pp nb le mo ne (.slice p n q) n ds (l 0) (l 1) (l 2) (l 3) (l 4) (l 5) (l 6) true (l 8) v0 v1 v2 v3 v4 v5 v6 (.pointer (some ⟨X, 5, none⟩)) V) := hide ⟨(K.dr), (K.res), (K.box), (K.own), (K.e0), (K.e1), (K.e2), (K.e3), (K.e4), (K.e5), (K.e6), (fun _ => rfl), (K.n8), (K.n1), (K.n5), (K.n3), (K.n4)⟩
              clear K hd hl
              go_wp2_with fail
              exact ⟨rfl, QdRJ.mk (unhide HK) (by kernel_rfl)⟩
            · simp at ho
              subst ho
              have d6 : l 6 = true := hd ⟨6, .data⟩ (by simp) rfl
              obtain ⟨g9, c9, x, hx, x6, o6⟩ := K.e6 d6
              have x7 := K.e7 (hd ⟨7, .data⟩ (by simp) rfl)
              subst x7
              have B8 := K.box
              rw [hl] at B8
              have yy : V.cell? ⟨X, 5, none⟩ = some (.slice p n q) := B8.c 5 (by simp)
              have ff : V.frozen? ⟨X, 5, none⟩ = false := B8.f 5 (by simp)
              have hX := unhide HOR
              have gS : V.grownBy (V.setCell ⟨X, 5, none⟩ v6) (some X) := grown_set (grown_refl V (some X)) 5 v6
              have HK : Hid (QdR w W C R X a len cap pp nb le mo ne (.slice p n q) n ds (l 0) (l 1) (l 2) (l 3) (l 4) (l 5) (l 6) (l 7) true v0 v1 v2 v3 v4 v5 v6 (.pointer (some ⟨X, 5, none⟩)) (V.setCell ⟨X, 5, none⟩ v6)) := hide ⟨(K.dr.ownR gS (fun k hk => by cases hk; omega)), (K.res.other (by show X ≠ R; omega) _), (B8.set 5 (by simp) v6), (fun h => by cases d6.symm.trans h), (K.e0), (K.e1), (K.e2), (K.e3), (K.e4), (fun _ h => by cases d6.symm.trans h), (fun _ => ⟨g9, c9, x, hx, x6, o6.set_other _ (fun e => by have := (o6.lies X e).1; omega)⟩), (K.e7), (fun _ => d6), (K.n1), (K.n5), (K.n3), (K.n4)⟩
              subst x6
              clear K hd hl B8 gS o6 d6
              go_wp2_with fail
              exact ⟨rfl, QdRJ.mk (unhide HK) (by kernel_rfl)⟩
          rintro l b V hall ⟨v0, v1, v2, v3, v4, v5, v6, v7, rfl, K⟩
          obtain ⟨g9, c9, x, hx, x6, o6⟩ := K.e6 (hall 6 (by decide))
          have B8 := K.box
          rw [hall 8 (by decide)] at B8
          subst x6
          have H9 : Hid (Qd w W V C R X a len cap pp nb le mo ne (.slice (some ⟨g9, 0, none⟩) (n + 1) c9) (ds ++ [x])) := hide ⟨K.dr, K.res, B8, o6, byt_app (unhide HD).byt hx, (unhide HD).ord⟩
          clear K hall B8 o6
          go_wp2_with fail
          go_roundw
          case rel => exact ⟨m - 1, some ⟨g9, 0, none⟩, n + 1, c9, ds ++ [x], by rw [show ((m - 1 : Nat) : Int) = (m : Int) - 1 by omega], by omega, by omega, hide (by simp [unhide HNL]), H9⟩
          case measure => simp [intOf]; omega
        · have j1 : ¬ (0 : Int) < (m : Int) := by omega
          have yX0 : wr.cell? ⟨X, 0, none⟩ = some (.string pp) := (unhide HD).box.c 0 (by simp)
          have yX1 : wr.cell? ⟨X, 1, none⟩ = some (.int .i64 nb) := (unhide HD).box.c 1 (by simp)
          have yX2 : wr.cell? ⟨X, 2, none⟩ = some (.int .i64 le) := (unhide HD).box.c 2 (by simp)
          have yX3 : wr.cell? ⟨X, 3, none⟩ = some (.int .i64 mo) := (unhide HD).box.c 3 (by simp)
          have yX4 : wr.cell? ⟨X, 4, none⟩ = some (.int .i64 ne) := (unhide HD).box.c 4 (by simp)
          have yX5 : wr.cell? ⟨X, 5, none⟩ = some (.slice p n q) := (unhide HD).box.c 5 (by simp)
          go_wp2_with ((with_reducible show wpList _ _ _ (⟨none, .store 32 _ _, _, _, _, none⟩ :: _) _ _); refine at_storeAgg (us := [.string ⟨#[]⟩, .int .i64 0, .int .i64 0, .int .i64 0, .int .i64 0, .slice none 0 0]) (vs := [.string pp, .int .i64 nb, .int .i64 le, .int .i64 mo, .int .i64 ne, .slice p n q]) Tryz.sizeOf32 rfl rfl (unhide HD).res rfl (by intro v hv; simp at hv; rcases hv with rfl | rfl | rfl | rfl | rfl | rfl <;> rfl) ?_; intro w5 kk gg)
          have hor := (unhide HD).ord
          have DF : Dk w C a len cap W w5 := (unhide HD).dr.own gg hor.2.2
          have OF := (unhide HD).own.far gg (fun q hq e => by have := ((unhide HD).own.lies q hq).1; have := Option.some.inj e; omega)
          have hf := unhide HFA
          have hln := unhide HNL
          exact bodyPost_ret (results_cell (vs := [.string pp, .int .i64 nb, .int .i64 le, .int .i64 mo, .int .i64 ne, .slice p n q]) rfl Tryz.isAgg32 Tryz.sizeOf32 rfl kk) rfl ⟨⟨pp, nb, le, mo, ne, ⟨p, n, q, ds⟩⟩, rfl, ld_of hf.1 hf.2.1 hf.2.2.1 hf.2.2.2.1 hf.2.2.2.2 (by show ds.length ≤ 5; omega), OF.mono (by omega), (unhide HD).byt, DF⟩
    | false =>
      obtain ⟨nb, le, mo, ne, HDL, HFA⟩ : ∃ nb le mo ne, Hid (Qd w W W8 C R X a len cap pp nb le mo ne (.slice none 0 0) []) ∧ Hid (nameB pp = true ∧ (1 ≤ nb ∧ nb ≤ 20) ∧ (1 ≤ le ∧ le ≤ mo) ∧ mo ≤ 15 ∧ (0 ≤ ne ∧ ne ≤ 20)) := ⟨_, _, _, _, HD2, hide ⟨unhide HPP, by omega, by omega, by omega, by omega⟩⟩
      clear HD2
      go_wp2_with fail
      refine (drBelow 6 _ (unhide HDL).dr.d (by omega)).mono ?_
      rintro e WB ⟨x6, rfl, hx6, dB, gB⟩
      have HD8 := hide ((unhide HDL).step dB gB)
      clear dB gB HDL
      obtain ⟨m0, rfl⟩ : ∃ m : Nat, x6 = (m : Int) := ⟨x6.toNat, by omega⟩
      go_wp2_with fail
      go_loopw [4] (fun s4 wr => ∃ (m : Nat) (p : Option Addr) (n q : Nat) (ds : List Int), s4 = .int .i64 (m : Int) ∧ m ≤ 5 ∧ n + m ≤ 5 ∧ Hid (ds.length = n) ∧ Hid (Qd w W wr C R X a len cap pp nb le mo ne (.slice p n q) ds)) (fun s4 _ => (intOf s4).toNat)
      case atStart => exact ⟨m0, none, 0, 0, [], rfl, by omega, by omega, hide rfl, HD8⟩
      case round =>
        clear HD8
        obtain ⟨m, p, n, q, ds, rfl, hm, hnm, HNL, HD⟩ := hrel
        by_cases hp : 0 < m
        · have j1 : (0 : Int) < (m : Int) := by omega
          have HOR := hide (unhide HD).ord
          have hn9 : n ≤ 1000 := by omega
          go_upto_region 9 with fail
          refine wp_region_flagsA (by kernel_rfl) (by kernel_rfl) (QdRJ w W C R X a len cap pp nb le mo ne (.slice p n q) n ds) ?_ ?_ ?_
          · exact QdRJ.mk (v0 := u39) (v1 := u40) (v2 := u41) (v3 := u42) (v4 := u43) (v5 := u44) (v6 := u45) (v7 := u46) ⟨(unhide HD).dr.below (bel0d 1), (unhide HD).res.drewN 1, (unhide HD).box.drewN 1, fun _ => (unhide HD).own.below (bel0d 1), (fun h => by cases h), (fun h => by cases h), (fun h => by cases h), (fun h => by cases h), (fun h => by cases h), (fun h => by cases h), (fun h => by cases h), (fun h => by cases h), (fun h => by cases h), (fun h => by cases h), (fun h => by cases h), (fun h => by cases h), (fun h => by cases h)⟩ (by kernel_rfl)
          rotate_left 1
          · rintro l b V i o ho hl hd ⟨v0, v1, v2, v3, v4, v5, v6, v7, rfl, K⟩
            have hi : i < 9 := (Array.getElem?_eq_some_iff.1 ho).1
            rcases (show i = 0 ∨ i = 1 ∨ i = 2 ∨ i = 3 ∨ i = 4 ∨ i = 5 ∨ i = 6 ∨ i = 7 ∨ i = 8 from by omega) with rfl | rfl | rfl | rfl | rfl | rfl | rfl | rfl | rfl
            · simp at ho
              subst ho
              have HK : Hid (QdR w W C R X a len cap pp nb le mo ne (.slice p n q) n ds true (l 1) (l 2) (l 3) (l 4) (l 5) (l 6) (l 7) (l 8) (.pointer (some ⟨X, 5, none⟩)) v1 v2 v3 v4 v5 v6 v7 V) := hide ⟨(K.dr), (K.res), (K.box), (K.own), (fun _ => rfl), (K.e1), (K.e2), (K.e3), (K.e4), (K.e5), (K.e6), (K.e7), (K.n8), (K.n1), (K.n5), (K.n3), (K.n4)⟩
              clear K hd hl
              go_wp2_with fail
              exact ⟨rfl, QdRJ.mk (unhide HK) (by kernel_rfl)⟩
            · simp at ho
              subst ho
              have x0 := K.e0 (hd ⟨0, .data⟩ (by simp) rfl)
              subst x0
              have n6 : l 6 = false := by cases c6 : l 6; rfl; exact absurd (K.n1 c6) (by rw [hl]; simp)
              have n8 : l 8 = false := by cases c6 : l 8; rfl; exact absurd (K.n8 c6) (by rw [n6]; simp)
              have yy : V.cell? ⟨X, 5, none⟩ = some (.slice p n q) := by have := K.box.c 5 (by simp); rw [n8] at this; exact this
              have HK : Hid (QdR w W C R X a len cap pp nb le mo ne (.slice p n q) n ds (l 0) true (l 2) (l 3) (l 4) (l 5) (l 6) (l 7) (l 8) (.pointer (some ⟨X, 5, none⟩)) (.slice p n q) v2 v3 v4 v5 v6 v7 V) := hide ⟨(K.dr), (K.res), (K.box), (K.own), (K.e0), (fun _ => rfl), (K.e2), (K.e3), (K.e4), (K.e5), (K.e6), (K.e7), (K.n8), (fun _ => rfl), (K.n5), (K.n3), (K.n4)⟩
              clear K hd hl n6 n8
              go_wp2_with fail
              exact ⟨rfl, QdRJ.mk (unhide HK) (by kernel_rfl)⟩
            · simp at ho
              subst ho
              have HK : Hid (QdR w W C R X a len cap pp nb le mo ne (.slice p n q) n ds (l 0) (l 1) true (l 3) (l 4) (l 5) (l 6) (l 7) (l 8) v0 v1 (.pointer (some ⟨C, 0, none⟩)) v3 v4 v5 v6 v7 V) := hide ⟨(K.dr), (K.res), (K.box), (K.own), (K.e0), (K.e1), (fun _ => rfl), (K.e3), (K.e4), (K.e5), (K.e6), (K.e7), (K.n8), (K.n1), (K.n5), (K.n3), (K.n4)⟩
              clear K hd hl
              go_wp2_with fail
              exact ⟨rfl, QdRJ.mk (unhide HK) (by kernel_rfl)⟩
            · simp at ho
              subst ho
              have x2 := K.e2 (hd ⟨2, .data⟩ (by simp) rfl)
              subst x2
              have n5 : l 5 = false := by cases c6 : l 5; rfl; exact absurd (K.n3 c6) (by rw [hl]; simp)
              have n6 : l 6 = false := by cases c6 : l 6; rfl; exact absurd (K.n5 c6) (by rw [n5]; simp)
              have H6 := hide n6
              have H5 := hide n5
              have HK0 := hide K
              have hX := unhide HOR
              clear K hd hl n5 n6
              go_wp2_with (go_at_call 71; refine (drByte _ (unhide HK0).dr.d).mono ?_; rintro e V2 ⟨x, rfl, hx, d9, g9⟩; have K := unhide HK0; have HK : Hid (QdR w W C R X a len cap pp nb le mo ne (.slice p n q) n ds (l 0) (l 1) (l 2) true (l 4) (l 5) (l 6) (l 7) (l 8) v0 v1 (.pointer (some ⟨C, 0, none⟩)) (.int .i64 x) v4 v5 v6 v7 V2) := hide ⟨(K.dr.call g9 d9), (K.res.apart g9 (fun e => by have := Option.some.inj e; omega)), (K.box.apart g9 (fun e => by have := Option.some.inj e; omega)), (fun h => (K.own h).far g9 (fun q hq e => by have := ((K.own h).lies q hq).1; have := Option.some.inj e; omega)), (K.e0), (K.e1), (K.e2), (fun _ => ⟨x, hx, rfl⟩), (K.e4), (fun h _ => by cases (unhide H5).symm.trans h), (fun h => by cases (unhide H6).symm.trans h), (K.e7), (K.n8), (K.n1), (K.n5), (fun _ => rfl), (fun _ => rfl)⟩; clear K d9 g9)
              exact ⟨rfl, QdRJ.mk (unhide HK) (by kernel_rfl)⟩
            · simp at ho
              subst ho
              have d3 : l 3 = true := hd ⟨3, .data⟩ (by simp) rfl
              obtain ⟨x, hx, x3⟩ := K.e3 d3
              subst x3
              have hm : x % 256 = x := by omega
              have HK : Hid (QdR w W C R X a len cap pp nb le mo ne (.slice p n q) n ds (l 0) (l 1) (l 2) (l 3) true (l 5) (l 6) (l 7) (l 8) v0 v1 v2 (.int .i64 x) (.int .u8 x) v5 v6 v7 V) := hide ⟨(K.dr), (K.res), (K.box), (K.own), (K.e0), (K.e1), (K.e2), (K.e3), (fun _ => ⟨x, hx, rfl⟩), (K.e5), (K.e6), (K.e7), (K.n8), (K.n1), (K.n5), (K.n3), (fun _ => d3)⟩
              clear K hd hl d3
              go_wp2_with fail
              exact ⟨rfl, QdRJ.mk (unhide HK) (by kernel_rfl)⟩
            · simp at ho
              subst ho
              obtain ⟨x, hx, x4⟩ := K.e4 (hd ⟨4, .data⟩ (by simp) rfl)
              subst x4
              have n6 : l 6 = false := by cases c6 : l 6; rfl; exact absurd (K.n5 c6) (by rw [hl]; simp)
              have d3 : l 3 = true := K.n4 (hd ⟨4, .data⟩ (by simp) rfl)
              have k9 := bel1 (w := V) (Obj.cells #[.int .u8 x] 5)
              have HK : Hid (QdR w W C R X a len cap pp nb le mo ne (.slice p n q) n ds (l 0) (l 1) (l 2) (l 3) (l 4) true (l 6) (l 7) (l 8) v0 v1 v2 v3 (.int .u8 x) (.slice (some ⟨V.heap.size, 0, none⟩) 1 1) v6 v7 (V.alloc (Obj.cells #[.int .u8 x] 5))) := hide ⟨(K.dr.below k9), (K.res.below k9), (K.box.below k9), (fun h => (K.own h).below k9), (K.e0), (K.e1), (K.e2), (K.e3), (K.e4), (fun _ _ => ⟨_, x, hx, rfl, Blk.new [.int .u8 x] 5, K.box.lt, fun e => by have := ((K.own n6).lies _ e).2; omega⟩), (fun h => by obtain ⟨g, c, x, a1, a2, a3⟩ := K.e6 h; exact ⟨g, c, x, a1, a2, a3.below k9⟩), (K.e7), (K.n8), (K.n1), (fun _ => rfl), (fun _ => d3), (K.n4)⟩
              clear K hd hl n6 d3 k9
              go_wp2_with fail
              exact ⟨rfl, QdRJ.mk (unhide HK) (by kernel_rfl)⟩
            · simp at ho
              subst ho
              have d1 : l 1 = true := hd ⟨1, .data⟩ (by simp) rfl
              have d5 : l 5 = true := hd ⟨5, .data⟩ (by simp) rfl
              have x1 := K.e1 d1
              obtain ⟨qq, x, hx, x5, kq, lq, nq⟩ := K.e5 d5 hl
              have n8 : l 8 = false := by cases c6 : l 8; rfl; exact absurd (K.n8 c6) (by rw [hl]; simp)
              have OD := K.own hl
              subst x1
              subst x5
              have HK0 := hide K
              have HOD := hide OD
              have HQ := hide kq
              have H8 := hide n8
              have H1 := hide d1
              have H5 := hide d5
              have hX := unhide HOR
              have hXs := K.box.lt
              have HBX : Hid (Blk V X [.string pp, .int .i64 nb, .int .i64 le, .int .i64 mo, .int .i64 ne, .slice p n q]) := hide (by have := K.box; rw [n8] at this; exact this)
              clear K hd hl OD kq n8 d1 d5
              go_wp2_with (at_builtin; refine wpList_app_b1 rfl _ _ rfl x (unhide HOD) (unhide HNL) (by kernel_rfl) (by kernel_rfl) ((unhide HQ).c 0 (by simp)) (by omega) hn9 ?_; intro g9 c9 w9 o9 gr9; have K := unhide HK0; have HK : Hid (QdR w W C R X a len cap pp nb le mo ne (.slice p n q) n ds (l 0) (l 1) (l 2) (l 3) (l 4) (l 5) true (l 7) (l 8) v0 (.slice p n q) v2 v3 v4 (.slice (some ⟨qq, 0, none⟩) 1 1) (.slice (some ⟨g9, 0, none⟩) (n + 1) c9) v7 w9) := hide ⟨(K.dr.ownR gr9 (fun k hk => by have := ((unhide HOD).lies k hk).1; omega)), (K.res.apart gr9 (fun e => by have := ((unhide HOD).lies _ e.symm).1; omega)), (by have := (unhide HBX).apart gr9 (fun e => by have := ((unhide HOD).lies _ e.symm).1; omega); rw [unhide H8]; exact this), (fun h => by cases h), (K.e0), (K.e1), (K.e2), (K.e3), (K.e4), (fun _ h => by cases h), (fun _ => ⟨g9, c9, x, hx, rfl, o9⟩), (K.e7), (fun _ => rfl), (fun _ => unhide H1), (fun _ => unhide H5), (K.n3), (K.n4)⟩; clear K o9 gr9)
              exact ⟨rfl, QdRJ.mk (unhide HK) (by kernel_rfl)⟩
            · simp at ho
              subst ho
              have HK : Hid (QdR w W C R X a len cap pp nb le mo ne (.slice p n q) n ds (l 0) (l 1) (l 2) (l 3) (l 4) (l 5) (l 6) true (l 8) v0 v1 v2 v3 v4 v5 v6 (.pointer (some ⟨X, 5, none⟩)) V) := hide ⟨(K.dr), (K.res), (K.box), (K.own), (K.e0), (K.e1), (K.e2), (K.e3), (K.e4), (K.e5), (K.e6), (fun _ => rfl), (K.n8), (K.n1), (K.n5), (K.n3), (K.n4)⟩
              clear K hd hl
              go_wp2_with fail
              exact ⟨rfl, QdRJ.mk (unhide HK) (by kernel_rfl)⟩
            · simp at ho
              subst ho
              have d6 : l 6 = true := hd ⟨6, .data⟩ (by simp) rfl
              obtain ⟨g9, c9, x, hx, x6, o6⟩ := K.e6 d6
              have x7 := K.e7 (hd ⟨7, .data⟩ (by simp) rfl)
              subst x7
              have B8 := K.box
              rw [hl] at B8
              have yy : V.cell? ⟨X, 5, none⟩ = some (.slice p n q) := B8.c 5 (by simp)
              have ff : V.frozen? ⟨X, 5, none⟩ = false := B8.f 5 (by simp)
              have hX := unhide HOR
              have gS : V.grownBy (V.setCell ⟨X, 5, none⟩ v6) (some X) := grown_set (grown_refl V (some X)) 5 v6
              have HK : Hid (QdR w W C R X a len cap pp nb le mo ne (.slice p n q) n ds (l 0) (l 1) (l 2) (l 3) (l 4) (l 5) (l 6) (l 7) true v0 v1 v2 v3 v4 v5 v6 (.pointer (some ⟨X, 5, none⟩)) (V.setCell ⟨X, 5, none⟩ v6)) := hide ⟨(K.dr.ownR gS (fun k hk => by cases hk; omega)), (K.res.other (by show X ≠ R; omega) _), (B8.set 5 (by simp) v6), (fun h => by cases d6.symm.trans h), (K.e0), (K.e1), (K.e2), (K.e3), (K.e4), (fun _ h => by cases d6.symm.trans h), (fun _ => ⟨g9, c9, x, hx, x6, o6.set_other _ (fun e => by have := (o6.lies X e).1; omega)⟩), (K.e7), (fun _ => d6), (K.n1), (K.n5), (K.n3), (K.n4)⟩
              subst x6
              clear K hd hl B8 gS o6 d6
              go_wp2_with fail
              exact ⟨rfl, QdRJ.mk (unhide HK) (by kernel_rfl)⟩
          rintro l b V hall ⟨v0, v1, v2, v3, v4, v5, v6, v7, rfl, K⟩
          obtain ⟨g9, c9, x, hx, x6, o6⟩ := K.e6 (hall 6 (by decide))
          have B8 := K.box
          rw [hall 8 (by decide)] at B8
          subst x6
          have H9 : Hid (Qd w W V C R X a len cap pp nb le mo ne (.slice (some ⟨g9, 0, none⟩) (n + 1) c9) (ds ++ [x])) := hide ⟨K.dr, K.res, B8, o6, byt_app (unhide HD).byt hx, (unhide HD).ord⟩
          clear K hall B8 o6
          go_wp2_with fail
          go_roundw
          case rel => exact ⟨m - 1, some ⟨g9, 0, none⟩, n + 1, c9, ds ++ [x], by rw [show ((m - 1 : Nat) : Int) = (m : Int) - 1 by omega], by omega, by omega, hide (by simp [unhide HNL]), H9⟩
          case measure => simp [intOf]; omega
        · have j1 : ¬ (0 : Int) < (m : Int) := by omega
          have yX0 : wr.cell? ⟨X, 0, none⟩ = some (.string pp) := (unhide HD).box.c 0 (by simp)
          have yX1 : wr.cell? ⟨X, 1, none⟩ = some (.int .i64 nb) := (unhide HD).box.c 1 (by simp)
          have yX2 : wr.cell? ⟨X, 2, none⟩ = some (.int .i64 le) := (unhide HD).box.c 2 (by simp)
          have yX3 : wr.cell? ⟨X, 3, none⟩ = some (.int .i64 mo) := (unhide HD).box.c 3 (by simp)
          have yX4 : wr.cell? ⟨X, 4, none⟩ = some (.int .i64 ne) := (unhide HD).box.c 4 (by simp)
          have yX5 : wr.cell? ⟨X, 5, none⟩ = some (.slice p n q) := (unhide HD).box.c 5 (by simp)
          go_wp2_with ((with_reducible show wpList _ _ _ (⟨none, .store 32 _ _, _, _, _, none⟩ :: _) _ _); refine at_storeAgg (us := [.string ⟨#[]⟩, .int .i64 0, .int .i64 0, .int .i64 0, .int .i64 0, .slice none 0 0]) (vs := [.string pp, .int .i64 nb, .int .i64 le, .int .i64 mo, .int .i64 ne, .slice p n q]) Tryz.sizeOf32 rfl rfl (unhide HD).res rfl (by intro v hv; simp at hv; rcases hv with rfl | rfl | rfl | rfl | rfl | rfl <;> rfl) ?_; intro w5 kk gg)
          have hor := (unhide HD).ord
          have DF : Dk w C a len cap W w5 := (unhide HD).dr.own gg hor.2.2
          have OF := (unhide HD).own.far gg (fun q hq e => by have := ((unhide HD).own.lies q hq).1; have := Option.some.inj e; omega)
          have hf := unhide HFA
          have hln := unhide HNL
          exact bodyPost_ret (results_cell (vs := [.string pp, .int .i64 nb, .int .i64 le, .int .i64 mo, .int .i64 ne, .slice p n q]) rfl Tryz.isAgg32 Tryz.sizeOf32 rfl kk) rfl ⟨⟨pp, nb, le, mo, ne, ⟨p, n, q, ds⟩⟩, rfl, ld_of hf.1 hf.2.1 hf.2.2.1 hf.2.2.2.1 hf.2.2.2.2 (by show ds.length ≤ 5; omega), OF.mono (by omega), (unhide HD).byt, DF⟩

end Go.Proofs.YtemodlgmjgdjpaaGreatDoor

/-
  What is aboard, a serial number and loads, told by what the loads say: the law's size, copy and comparison. Nothing that was there is written.
  What the model's l18Find and l18Needed answer: plain answers, at every argument; nothing that was there is written.
-/
import Derived.Test.YtemodlgmjgdjpaaGreatDoorMLxOwn

namespace Go.Proofs.YtemodlgmjgdjpaaGreatDoor
open Go Go.RowKit

/-- A text with a size, and bytes. -/
def LcOk (x : Lc) : Prop := x.p.size ≤ 9223372036854775807 ∧ ∀ i, i < x.zs.length → 0 ≤ elAt x.zs i ∧ elAt x.zs i ≤ 255
def LzOk (zs : List Lc) : Prop := ∀ i, i < zs.length → LcOk (elAt zs i)
/-- Lists no longer than the law allows. -/
def LzB (zs : List Lc) : Prop := zs.length ≤ 1048576 ∧ ∀ i, i < zs.length → (elAt zs i).zs.length ≤ 1048576
theorem elAt_lx {ls : List Lx} {zs : List Lc} (h : ls.map lxW = zs) {i : Nat} (hi : i < ls.length) : elAt zs i = lxW (elAt ls i) := by
  subst h
  simp [elAt, hi]
/-- A list of loads that can be read, told by what they say. -/
structure LsT (w : World) (a : Option Addr) (len : Nat) (zs : List Lc) : Prop where
  ex : ∃ ls : List Lx, ls.map lxW = zs ∧ LsAll w a len ls
theorem LsT.len_eq {w : World} {a : Option Addr} {len : Nat} {zs : List Lc} (h : LsT w a len zs) : zs.length = len := by
  obtain ⟨ls, rfl, hl⟩ := h.ex
  rw [List.length_map]; exact hl.row.len_eq
theorem LsT.small {w : World} {a : Option Addr} {len : Nat} {zs : List Lc} (h : LsT w a len zs) : len ≤ 9223372036854775807 := by
  obtain ⟨ls, _, hl⟩ := h.ex
  exact hl.row.small
theorem LsT.below {w w' : World} {a : Option Addr} {len : Nat} {zs : List Lc} (h : LsT w a len zs) (k : Below w.heap.size w w') : LsT w' a len zs := by
  obtain ⟨ls, e, hl⟩ := h.ex
  exact ⟨⟨ls, e, hl.below k⟩⟩
theorem LsT.ok {w : World} {a : Option Addr} {len : Nat} {zs : List Lc} (h : LsT w a len zs) : LzOk zs := by
  obtain ⟨ls, e, hl⟩ := h.ex
  intro i hi
  have hz := hl.row.len_eq
  have hi' : i < ls.length := by rw [← e] at hi; simpa using hi
  rw [elAt_lx e hi']
  have := hl.el i (by omega)
  exact ⟨this.sz, fun j hj => this.sl.byt j (by have := this.sl.row.len_eq; have hj : j < (elAt ls i).d.zs.length := hj; omega)⟩
/-- A list of loads that a call has made, told by what they say. -/
structure OwnLT (w : World) (base : Nat) (v : Value) (zs : List Lc) : Prop where
  ex : ∃ us : List Lx, us.map lxW = zs ∧ OwnLd w base v us
  ok : LzOk zs
theorem OwnLT.below {w w' : World} {base : Nat} {v : Value} {zs : List Lc} (h : OwnLT w base v zs) (k : Below w.heap.size w w') : OwnLT w' base v zs := by
  obtain ⟨us, e, hu⟩ := h.ex
  exact ⟨⟨us, e, hu.below k⟩, h.ok⟩
theorem OwnLT.mono {w : World} {base base' : Nat} {v : Value} {zs : List Lc} (h : OwnLT w base v zs) (hb : base' ≤ base) : OwnLT w base' v zs := by
  obtain ⟨us, e, hu⟩ := h.ex
  exact ⟨⟨us, e, hu.mono hb⟩, h.ok⟩
theorem OwnLT.lies {w : World} {base : Nat} {v : Value} {zs : List Lc} (h : OwnLT w base v zs) : ∀ g, v.ownBlock = some g → base ≤ g ∧ g < w.heap.size := by
  obtain ⟨us, e, hu⟩ := h.ex
  exact hu.out.lies
theorem OwnLT.set_low {w : World} {base S o : Nat} {v : Value} {zs : List Lc} (h : OwnLT w base v zs) (hS : S < base) (u : Value) : OwnLT (w.setCell ⟨S, o, none⟩ u) base v zs := by
  obtain ⟨us, e, hu⟩ := h.ex
  exact ⟨⟨us, e, hu.set_low hS u⟩, h.ok⟩
theorem OwnLT.row {w : World} {base : Nat} {a : Option Addr} {len c : Nat} {zs : List Lc} (h : OwnLT w base (.slice a len c) zs) : LsT w a len zs := by
  obtain ⟨us, e, hu⟩ := h.ex
  have hz := hu.out.row.len_eq
  have hzl : zs.length = us.length := by rw [← e]; simp
  refine ⟨⟨us, e, hu.out.row, fun i hi => ?_⟩⟩
  have hi' : i < us.length := by omega
  have hk := h.ok i (by omega)
  rw [elAt_lx e hi'] at hk
  obtain ⟨a2, c2, ev, hc2, _⟩ := (hu.dat i hi').slice
  have hev : Value.slice (elAt us i).d.a (elAt us i).d.n (elAt us i).d.c = .slice a2 (elAt us i).d.zs.length c2 := ev
  simp only [Value.slice.injEq] at hev
  have hrow : RowE 1 byC w (elAt us i).d.a (elAt us i).d.n (elAt us i).d.zs := OwnE.row (cap := (elAt us i).d.c) (hu.dat i hi')
  exact ⟨⟨hrow, by omega, fun j hj => hk.2 j (by have := hrow.len_eq; show j < (elAt us i).d.zs.length; omega)⟩, hk.1⟩
/-- Its lists, read. -/
structure AbIn (w : World) (a1 : Option Addr) (l1 : Nat) (z1 : List Lc) : Prop where
  r1 : LsT w a1 l1 z1
theorem AbIn.below {w w' : World} {a1 : Option Addr} {l1 : Nat} {z1 : List Lc} (h : AbIn w a1 l1 z1) (k : Below w.heap.size w w') : AbIn w' a1 l1 z1 :=
  ⟨h.r1.below k⟩
/-- Its lists that a call has made, each in memory of its own. -/
structure AbOwn (w : World) (base : Nat) (a1 : Option Addr) (l1 c1 : Nat) (z1 : List Lc) : Prop where
  o1 : OwnLT w base (.slice a1 l1 c1) z1
theorem AbOwn.below {w w' : World} {base : Nat} {a1 : Option Addr} {l1 c1 : Nat} {z1 : List Lc} (h : AbOwn w base a1 l1 c1 z1) (k : Below w.heap.size w w') : AbOwn w' base a1 l1 c1 z1 :=
  ⟨h.o1.below k⟩
theorem AbOwn.mono {w : World} {base : Nat} {a1 : Option Addr} {l1 c1 : Nat} {z1 : List Lc} (h : AbOwn w base a1 l1 c1 z1) {base' : Nat} (hb : base' ≤ base) : AbOwn w base' a1 l1 c1 z1 :=
  ⟨h.o1.mono hb⟩
theorem AbOwn.read {w : World} {base : Nat} {a1 : Option Addr} {l1 c1 : Nat} {z1 : List Lc} (h : AbOwn w base a1 l1 c1 z1) : AbIn w a1 l1 z1 :=
  ⟨h.o1.row⟩
/-- Blocks of its lists lie from base on, below a number. -/
def AbLies (base hi : Nat) (a1 : Option Addr) (l1 c1 : Nat) : Prop :=
  (∀ g, (Value.slice a1 l1 c1).ownBlock = some g → base ≤ g ∧ g < hi)
theorem AbOwn.lies {w : World} {base : Nat} {a1 : Option Addr} {l1 c1 : Nat} {z1 : List Lc} (h : AbOwn w base a1 l1 c1 z1) : AbLies base w.heap.size a1 l1 c1 := h.o1.lies

set_option maxHeartbeats 2000000 in
theorem szAboard_any (i0 : Int) (a1 : Option Addr) (l1 c1 : Nat) (z1 : List Lc) (left : Int) (w : World) (hr : AbIn w a1 l1 z1) (hl0 : 0 ≤ left) (hl1 : left ≤ 1048576) :
    Calls Tryz.prog 15 #[.agg #[.int .i64 i0, .slice a1 l1 c1], .int .i64 left] w fun x w' => (∃ r : Int, x = .returned (.int .i64 r) ∧ (r < 0 ∨ (0 ≤ r ∧ r ≤ left ∧ LzB z1))) ∧ Below w.heap.size w w' := by
  obtain ⟨ls, e, hl⟩ := hr.r1.ex
  obtain ⟨W, hW⟩ : ∃ W, W = w.alloc (Obj.cells #[.int .i64 i0, .slice a1 l1 c1] 47) := ⟨_, rfl⟩
  have HB : Hid (Below w.heap.size w W) := hide (by rw [hW]; exact bel1 _)
  have HL := hide (hl.below (unhide HB))
  have HZ := hide hl.row.len_eq
  have HEL := hide hl.el
  have HW := hide hW
  have HE := hide e
  clear hr hl hW e
  go_enter Tryz.func15, Tryz.ntmps15
  go_wp2_with fail
  rw [← unhide HW]
  clear HW
  refine (szLoad18S_any a1 l1 c1 ls left _ (unhide HL) hl0 hl1).mono ?_
  rintro e w2 ⟨⟨r, rfl, hrr⟩, b2⟩
  have B2 := hide ((unhide HB).trans (b2.mono (unhide HB).size))
  clear b2 HB HL
  rcases hrr with hrr | ⟨r0, r1, r2, r3⟩
  · go_wp2_with fail
    go_ret
    exact ⟨⟨-1, rfl, .inl (by omega)⟩, unhide B2⟩
  · have nr : ¬ r < 0 := by omega
    have HF : Hid (LzB z1) := hide (by
      have hz := unhide HZ
      have e := unhide HE
      have hzl : z1.length = ls.length := by rw [← e]; simp
      refine ⟨by omega, fun i hi => ?_⟩
      rw [elAt_lx e (by omega)]
      have h1 := ((unhide HEL) i (by omega)).sl.row.len_eq
      have h2 := (r3 i (by omega)).2
      show (elAt ls i).d.zs.length ≤ 1048576
      omega)
    clear r3
    go_wp2_with fail
    go_ret
    exact ⟨⟨r, rfl, .inr ⟨r0, r1, unhide HF⟩⟩, unhide B2⟩
set_option maxRecDepth 20000 in
set_option maxHeartbeats 4000000 in
theorem toAboard_own (i0 : Int) (a1 : Option Addr) (l1 c1 : Nat) (z1 : List Lc) (w : World) (hr : AbIn w a1 l1 z1) (h1 : LzB z1) :
    Calls Tryz.prog 18 #[.agg #[.int .i64 i0, .slice a1 l1 c1]] w fun x w' => (∃ g1, x = .returned (.agg #[.int .i64 i0, .slice (some ⟨g1, 0, none⟩) l1 l1]) ∧ AbOwn w' w.heap.size (some ⟨g1, 0, none⟩) l1 l1 z1) ∧ Below w.heap.size w w' := by
  have HOK := hide hr.r1.ok
  obtain ⟨ls, e, hl⟩ := hr.r1.ex
  have hz := hl.row.len_eq
  have hzl : z1.length = ls.length := by rw [← e]; simp
  have hlen : l1 ≤ 1048576 := by have := h1.1; omega
  have HALL : Hid (∀ i, i < l1 → (elAt ls i).d.n ≤ 1048576) := hide (fun i hi => by
    have h2 := h1.2 i (by omega)
    rw [elAt_lx e (by omega)] at h2
    have h3 := (hl.el i hi).sl.row.len_eq
    have h2 : (elAt ls i).d.zs.length ≤ 1048576 := h2
    omega)
  obtain ⟨W, hW⟩ : ∃ W, W = ((w.alloc (Obj.cells #[.int .i64 i0, .slice a1 l1 c1] 47)).alloc (Obj.cells #[.int .i64 0, .slice none 0 0] 26)).alloc (Obj.cells #[.int .i64 i0, .slice none 0 0] 26) := ⟨_, rfl⟩
  have KR : Hid (Blk W (w.heap.size + 1) [.int .i64 0, .slice none 0 0]) := hide (by
    rw [hW]
    have := (Blk.new (w := (w.alloc (Obj.cells #[.int .i64 i0, .slice a1 l1 c1] 47))) [.int .i64 0, .slice none 0 0] 26).alloc (Obj.cells #[.int .i64 i0, .slice none 0 0] 26)
    simpa using this)
  have KO : Hid (Blk W (w.heap.size + 1 + 1) [.int .i64 i0, .slice none 0 0]) := hide (by
    rw [hW]
    have := Blk.new (w := ((w.alloc (Obj.cells #[.int .i64 i0, .slice a1 l1 c1] 47)).alloc (Obj.cells #[.int .i64 0, .slice none 0 0] 26))) [.int .i64 i0, .slice none 0 0] 26
    simpa using this)
  have HB : Hid (Below w.heap.size w W) := hide (by rw [hW]; exact bel3 _ _ _)
  have hsz : w.heap.size + 1 + 1 + 1 ≤ W.heap.size := by rw [hW]; simp
  have HL := hide (hl.below (unhide HB))
  have HE := hide e
  have HW := hide hW
  clear hr hW hl e h1 hz hzl
  go_enter Tryz.func18, Tryz.ntmps18
  go_wp2_with fail
  rw [← unhide HW]
  clear HW
  obtain ⟨G1, hG1⟩ : ∃ G, W.heap.size = G := ⟨_, rfl⟩
  refine (toLoad18S_own a1 l1 c1 ls W (unhide HL) hlen (unhide HALL)).mono ?_
  rintro x v1 ⟨rfl, ow, bw⟩
  rw [hG1] at ow ⊢
  have HB := hide ((unhide HB).trans (bw.mono (unhide HB).size))
  have KR := hide ((unhide KR).below bw)
  have KO := hide ((unhide KO).below bw)
  have O1 : Hid (OwnLT v1 G1 (.slice (some ⟨G1, 0, none⟩) l1 l1) z1) := hide ⟨by obtain ⟨us, e1, o1⟩ := ow; exact ⟨us, e1.trans (unhide HE), o1⟩, unhide HOK⟩
  have hsz : w.heap.size + 1 + 1 + 1 ≤ G1 := by omega
  clear ow bw HL HALL
  have y1 : v1.cell? ⟨w.heap.size + 1 + 1, 1, none⟩ = some (.slice none 0 0) := (unhide KO).c 1 (by simp)
  have f1 : v1.frozen? ⟨w.heap.size + 1 + 1, 1, none⟩ = false := (unhide KO).f 1 (by simp)
  obtain ⟨V1, hV1⟩ : ∃ V, V = v1.setCell ⟨w.heap.size + 1 + 1, 1, none⟩ (.slice (some ⟨G1, 0, none⟩) l1 l1) := ⟨_, rfl⟩
  have KO := hide ((unhide KO).set 1 (by simp) (.slice (some ⟨G1, 0, none⟩) l1 l1))
  have KR := hide ((unhide KR).other (p := ⟨w.heap.size + 1 + 1, 1, none⟩) (by simp) (.slice (some ⟨G1, 0, none⟩) l1 l1))
  have O1 := hide ((unhide O1).set_low (S := w.heap.size + 1 + 1) (o := 1) (by omega) (.slice (some ⟨G1, 0, none⟩) l1 l1))
  have HB := hide ((unhide HB).setCell (p := ⟨w.heap.size + 1 + 1, 1, none⟩) (by simp; omega) (.slice (some ⟨G1, 0, none⟩) l1 l1))
  rw [← hV1] at KO KR HB O1
  have hO : Hid (Blk V1 (w.heap.size + 1 + 1) [.int .i64 i0, .slice (some ⟨G1, 0, none⟩) l1 l1]) := KO
  have u0 : V1.cell? ⟨w.heap.size + 1 + 1, 0, none⟩ = some (.int .i64 i0) := (unhide hO).c 0 (by simp)
  have r0 : V1.cell? ⟨w.heap.size + 1, 0, none⟩ = some (.int .i64 0) := (unhide KR).c 0 (by simp)
  have t0 : V1.frozen? ⟨w.heap.size + 1, 0, none⟩ = false := (unhide KR).f 0 (by simp)
  have u1 : V1.cell? ⟨w.heap.size + 1 + 1, 1, none⟩ = some (.slice (some ⟨G1, 0, none⟩) l1 l1) := (unhide hO).c 1 (by simp)
  have r1 : V1.cell? ⟨w.heap.size + 1, 1, none⟩ = some (.slice none 0 0) := (unhide KR).c 1 (by simp)
  have t1 : V1.frozen? ⟨w.heap.size + 1, 1, none⟩ = false := (unhide KR).f 1 (by simp)
  rw [hV1] at u0 u1 r0 r1 t0 t1
  have HB := hide ((unhide HB).setCell (p := ⟨w.heap.size + 1, 0, none⟩) (by simp) (.int .i64 i0))
  have O1 := hide ((unhide O1).set_low (S := w.heap.size + 1) (o := 0) (by omega) (.int .i64 i0))
  have HB := hide ((unhide HB).setCell (p := ⟨w.heap.size + 1, 1, none⟩) (by simp) (.slice (some ⟨G1, 0, none⟩) l1 l1))
  have O1 := hide ((unhide O1).set_low (S := w.heap.size + 1) (o := 1) (by omega) (.slice (some ⟨G1, 0, none⟩) l1 l1))
  rw [hV1] at HB O1
  have HN := hide (AbOwn.mk ((unhide O1).mono (base' := w.heap.size) (by omega)))
  clear O1 KO KR hO hV1
  go_wp2_with fail
  refine bodyPost_ret (v := .agg #[(.int .i64 i0), (.slice (some ⟨G1, 0, none⟩) l1 l1)]) (by simp [results, Tryz.results18, go_sem, *]) rfl ⟨⟨G1, rfl, unhide HN⟩, unhide HB⟩
set_option maxHeartbeats 2000000 in
theorem eqAboard_same (i0 : Int) (a1 : Option Addr) (l1 c1 : Nat) (b1 : Option Addr) (d1 : Nat) (z1 : List Lc) (w : World) (hr : AbIn w a1 l1 z1) (hq : AbIn w b1 l1 z1) :
    Calls Tryz.prog 20 #[.agg #[.int .i64 i0, .slice a1 l1 c1], .agg #[.int .i64 i0, .slice b1 l1 d1]] w fun x w' => x = .returned (.bool true) ∧ Below w.heap.size w w' := by
  obtain ⟨ls, e1, hl⟩ := hr.r1.ex
  obtain ⟨us, e2, hu⟩ := hq.r1.ex
  obtain ⟨W, hW⟩ : ∃ W, W = (w.alloc (Obj.cells #[.int .i64 i0, .slice a1 l1 c1] 26)).alloc (Obj.cells #[.int .i64 i0, .slice b1 l1 d1] 26) := ⟨_, rfl⟩
  have HB : Hid (Below w.heap.size w W) := hide (by rw [hW]; exact bel2 _ _)
  have HA := hide (hl.below (unhide HB)).read
  have HQ := hide (hu.below (unhide HB)).read
  have HE := hide (e1.trans e2.symm)
  have qi0 : (i0 != i0) = false := by simp
  have HW := hide hW
  clear hr hq hW hl hu e1 e2
  go_enter Tryz.func20, Tryz.ntmps20
  go_wp2_with fail
  rw [← unhide HW]
  clear HW
  refine (eqLoad18S_same _ _ _ _ _ _ ls us _ (unhide HA) (unhide HQ) (unhide HE)).mono ?_
  rintro x x1 ⟨rfl, bw⟩
  have HB := hide ((unhide HB).trans (bw.mono (unhide HB).size))
  clear bw HA HQ
  go_wp2_with fail
  go_ret
  exact ⟨rfl, unhide HB⟩

end Go.Proofs.YtemodlgmjgdjpaaGreatDoor

namespace Go.Proofs.YtemodlgmjgdjpaaGreatDoor
open Go Go.RowKit

set_option maxRecDepth 20000 in
set_option maxHeartbeats 2000000 in
theorem l18Find_any (s : Int) (a1 : Option Addr) (l1 c1 : Nat) (zs : List Lc) (n : Int) (w : World) (hr : LsT w a1 l1 zs) :
    Calls Tryz.prog 61 #[.agg #[.int .i64 s, .slice a1 l1 c1], .int .i64 n] w fun e w' => e = .returned (.int .i64 (fnF zs n)) ∧ Below w.heap.size w w' := by
  have hzl := hr.len_eq
  obtain ⟨ls, e, hl⟩ := hr.ex
  have hz := hl.row.len_eq
  have HO := hide hl.row.six
  have hsm := hl.row.small
  have HE := hide e
  obtain ⟨W, hW⟩ : ∃ W, W = w.alloc (Obj.cells #[.int .i64 s, .slice a1 l1 c1] 26) := ⟨_, rfl⟩
  have KB : Hid (Blk W w.heap.size [.int .i64 s, .slice a1 l1 c1]) := hide (by rw [hW]; exact Blk.new _ _)
  have BW : Hid (Below w.heap.size w W) := hide (by rw [hW]; exact bel1 _)
  have HW := hide hW
  have HZL := hide hzl
  clear hr hl e hW hzl
  subst hz
  go_enter Tryz.func61, Tryz.ntmps61
  go_wp2_with fail
  rw [← unhide HW]
  clear HW
  go_loopw [5] (fun i wr => ∃ k : Nat, i = .int .i64 k ∧ k ≤ ls.length ∧ wr = W ∧ Hid (∀ j, j < k → (elAt zs j).nb ≠ n)) (fun i _ => ls.length - (intOf i).toNat)
  case atStart => exact ⟨0, rfl, Nat.zero_le _, rfl, hide (fun j hj => by omega)⟩
  case round =>
    obtain ⟨k, rfl, hk, hwr, AL⟩ := hrel
    subst hwr
    have c1' : wr.cell? ⟨w.heap.size, 1, none⟩ = some (.slice a1 ls.length c1) := (unhide KB).c 1 (by simp)
    by_cases hlt : k < ls.length
    · rcases (unhide HO) with ⟨h0, _⟩ | ⟨bb, off, rfl, _, hc⟩
      · omega
      have q := hc k hlt
      have el := elAt_lx (unhide HE) hlt
      have s1 := ((unhide BW).cell (block_lt_of_cell q.2.1)).trans q.2.1
      have hi1 : (k : Int) < (ls.length : Int) := by omega
      have hi0 : (0 : Int) ≤ (k : Int) := by omega
      have hf : (elAt zs k).nb = (elAt ls k).nb := by rw [el]; rfl
      obtain ⟨X, hX⟩ : ∃ x, (elAt ls k).nb = x := ⟨_, rfl⟩
      rw [hX] at hf s1
      clear hX hc q el
      by_cases e : X = n
      · have HR : Hid (fnF zs n = (k : Int)) := hide (by have := unhide HZL; exact fnF_at (by omega) (hf.trans e) (unhide AL))
        have e1 : (X == n) = true := by simpa using e
        have e2 : decide (X = n) = true := by simpa using e
        clear hf
        go_wp2_with fail
        go_ret
        exact ⟨ret_int (unhide HR).symm, unhide BW⟩
      · have NX : Hid (∀ j, j < k + 1 → (elAt zs j).nb ≠ n) := hide (fun j hj => by
          by_cases e3 : j = k
          · rw [e3, hf]; exact e
          · exact (unhide AL) j (by omega))
        have e1 : (X == n) = false := by simpa using e
        have e2 : decide (X = n) = false := by simpa using e
        clear hf AL
        go_wp2_with fail
        go_roundw
        case rel => exact ⟨k + 1, by go_num, by omega, by first | rfl | trivial, NX⟩
        case measure => simp [intOf]; omega
    · have hi1 : ¬ (k : Int) < (ls.length : Int) := by omega
      have HR : Hid (fnF zs n = -1) := hide (fnF_none (fun j hj => (unhide AL) j (by have := unhide HZL; omega)))
      go_wp2_with fail
      go_ret
      exact ⟨ret_int (unhide HR).symm, unhide BW⟩
set_option maxRecDepth 20000 in
set_option maxHeartbeats 2000000 in
theorem l18Needed_any (s : Int) (a1 : Option Addr) (l1 c1 : Nat) (zs : List Lc) (n : Int) (w : World) (hr : LsT w a1 l1 zs) :
    Calls Tryz.prog 62 #[.agg #[.int .i64 s, .slice a1 l1 c1], .int .i64 n] w fun e w' => e = .returned (.bool (neB zs n)) ∧ Below w.heap.size w w' := by
  have hzl := hr.len_eq
  obtain ⟨ls, e, hl⟩ := hr.ex
  have hz := hl.row.len_eq
  have HO := hide hl.row.six
  have hsm := hl.row.small
  have HE := hide e
  obtain ⟨W, hW⟩ : ∃ W, W = w.alloc (Obj.cells #[.int .i64 s, .slice a1 l1 c1] 26) := ⟨_, rfl⟩
  have KB : Hid (Blk W w.heap.size [.int .i64 s, .slice a1 l1 c1]) := hide (by rw [hW]; exact Blk.new _ _)
  have BW : Hid (Below w.heap.size w W) := hide (by rw [hW]; exact bel1 _)
  have HW := hide hW
  have HZL := hide hzl
  clear hr hl e hW hzl
  subst hz
  go_enter Tryz.func62, Tryz.ntmps62
  go_wp2_with fail
  rw [← unhide HW]
  clear HW
  go_loopw [5] (fun i wr => ∃ k : Nat, i = .int .i64 k ∧ k ≤ ls.length ∧ wr = W ∧ Hid (∀ j, j < k → (elAt zs j).ne ≠ n)) (fun i _ => ls.length - (intOf i).toNat)
  case atStart => exact ⟨0, rfl, Nat.zero_le _, rfl, hide (fun j hj => by omega)⟩
  case round =>
    obtain ⟨k, rfl, hk, hwr, AL⟩ := hrel
    subst hwr
    have c1' : wr.cell? ⟨w.heap.size, 1, none⟩ = some (.slice a1 ls.length c1) := (unhide KB).c 1 (by simp)
    by_cases hlt : k < ls.length
    · rcases (unhide HO) with ⟨h0, _⟩ | ⟨bb, off, rfl, _, hc⟩
      · omega
      have q := hc k hlt
      have el := elAt_lx (unhide HE) hlt
      have s1 := ((unhide BW).cell (block_lt_of_cell q.2.2.2.2.1)).trans q.2.2.2.2.1
      have hi1 : (k : Int) < (ls.length : Int) := by omega
      have hi0 : (0 : Int) ≤ (k : Int) := by omega
      have hf : (elAt zs k).ne = (elAt ls k).ne := by rw [el]; rfl
      obtain ⟨X, hX⟩ : ∃ x, (elAt ls k).ne = x := ⟨_, rfl⟩
      rw [hX] at hf s1
      clear hX hc q el
      by_cases e : X = n
      · have HR : Hid (neB zs n = true) := hide (by have := unhide HZL; exact neB_yes (i := k) (by omega) (hf.trans e))
        have e1 : (X == n) = true := by simpa using e
        have e2 : decide (X = n) = true := by simpa using e
        clear hf
        go_wp2_with fail
        go_ret
        exact ⟨ret_bool (unhide HR).symm, unhide BW⟩
      · have NX : Hid (∀ j, j < k + 1 → (elAt zs j).ne ≠ n) := hide (fun j hj => by
          by_cases e3 : j = k
          · rw [e3, hf]; exact e
          · exact (unhide AL) j (by omega))
        have e1 : (X == n) = false := by simpa using e
        have e2 : decide (X = n) = false := by simpa using e
        clear hf AL
        go_wp2_with fail
        go_roundw
        case rel => exact ⟨k + 1, by go_num, by omega, by first | rfl | trivial, NX⟩
        case measure => simp [intOf]; omega
    · have hi1 : ¬ (k : Int) < (ls.length : Int) := by omega
      have HR : Hid (neB zs n = false) := hide (neB_no (fun j hj => (unhide AL) j (by have := unhide HZL; omega)))
      go_wp2_with fail
      go_ret
      exact ⟨ret_bool (unhide HR).symm, unhide BW⟩

end Go.Proofs.YtemodlgmjgdjpaaGreatDoor

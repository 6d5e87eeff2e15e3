/-
  What the model's DrawMeet answers: two aircraft that are so, of unlike Ids and without a Sense, how far apart they are and how they close. At every list of bytes; nothing that was there is written.
-/
import Derived.Test.YtbaocifpifbldaeDraw
import Derived.Test.YtbaocifpifbldaeApFar
import Derived.Test.YtbaocifpifbldaeOwn2
import Derived.Test.YtbaocifpifbldaeTaPure
import Derived.Test.YtbaocifpifbldaeRegInv
namespace Go.Proofs.Ytbaocifpifbldae
open Go.RowKit

theorem results_ccBB {fn : Func} {p q r s : Tmp} {t : TypeId} {tmps : Array Value} {w : World} {B B2 : Nat} {vs us : List Value} {x y : Value} (h : fn.results = #[.cell p t, .cell q t, .tmp r, .tmp s]) (hA : ∀ w, (isAgg t).run Try.prog w = .ok true w) (hZ : ∀ w, (Go.sizeOf t).run Try.prog w = .ok vs.length w) (hl : us.length = vs.length)
    (hp : tmps.getD p undef = .pointer (some ⟨B, 0, none⟩)) (hb : Blk w B vs) (hq : tmps.getD q undef = .pointer (some ⟨B2, 0, none⟩)) (hb2 : Blk w B2 us) (hr : tmps.getD r undef = x) (hs : tmps.getD s undef = y) : (results fn tmps).run Try.prog w = .ok (.tuple #[.agg vs.toArray, .agg us.toArray, x, y]) w := by
  have h1 := run_loadVar hA hZ hb
  have h2 := run_loadVar hA (fun w => by rw [hl]; exact hZ w) hb2
  have hp' : tmps[p]?.getD undef = .pointer (some ⟨B, 0, none⟩) := by simpa using hp
  have hq' : tmps[q]?.getD undef = .pointer (some ⟨B2, 0, none⟩) := by simpa using hq
  have hr' : tmps[r]?.getD undef = x := by simpa using hr
  have hs' : tmps[s]?.getD undef = y := by simpa using hs
  simp only [results, h]
  simp [hp', hq', hr', hs', asAddr, h1, h2]
theorem setDM {w : World} {C : Nat} {a : Option Addr} {len cap : Nat} {W : World} (h : Dr w C a len cap W) {B i : Nat} {v : Value} (hB : C < B) (hin : ∀ b off, a = some ⟨b, off, none⟩ → b < w.heap.size) : Dr w C a len cap (W.setCell ⟨B, i, none⟩ v) :=
  h.own (grown_set (grown_refl W (some B)) i v) (fun k hk => by have := Option.some.inj hk; omega) hin
theorem Dr.rebase {w w0 : World} {C : Nat} {a : Option Addr} {len cap : Nat} {W : World} (h : Dr w0 C a len cap W) (b : Below w.heap.size w w0) : Dr w C a len cap W :=
  ⟨h.cur, h.byt, b.trans (h.bel.mono b.size), h.ne, Nat.le_trans b.size h.ge, h.lt⟩
def Z4 : List Value := [.int .i64 0, .int .i64 0, .int .i64 0, .int .i64 0]
structure Mt (w : World) (C A B : Nat) (a : Option Addr) (len cap : Nat) (u v : List Value) (W : World) : Prop where
  d : Dr w C a len cap W
  ca : C < A
  cb : C < B
  ab : A ≠ B
  ka : Blk W A u
  kb : Blk W B v
  rc : w.heap.size + 2 ≤ C
  k1 : Blk W w.heap.size Z4
  k2 : Blk W (w.heap.size + 1) Z4
theorem Mt.call {w : World} {C A B : Nat} {a : Option Addr} {len cap : Nat} {u v : List Value} {W W' : World} (h : Mt w C A B a len cap u v W) (k : W.grownBy W' (some C)) (d : Dr w C a len cap W') : Mt w C A B a len cap u v W' :=
  ⟨d, h.ca, h.cb, h.ab, h.ka.apart k (fun e => by have := Option.some.inj e; have := h.ca; omega), h.kb.apart k (fun e => by have := Option.some.inj e; have := h.cb; omega), h.rc, h.k1.apart k (fun e => by have := Option.some.inj e; have := h.rc; omega), h.k2.apart k (fun e => by have := Option.some.inj e; have := h.rc; omega)⟩
theorem Mt.below {w : World} {C A B : Nat} {a : Option Addr} {len cap : Nat} {u v : List Value} {W W' : World} (h : Mt w C A B a len cap u v W) (k : Below W.heap.size W W') : Mt w C A B a len cap u v W' :=
  ⟨h.d.below k, h.ca, h.cb, h.ab, h.ka.below k, h.kb.below k, h.rc, h.k1.below k, h.k2.below k⟩
theorem Mt.setA {w : World} {C A B : Nat} {a : Option Addr} {len cap : Nat} {u v : List Value} {W : World} (h : Mt w C A B a len cap u v W) (hin : ∀ b off, a = some ⟨b, off, none⟩ → b < w.heap.size) (i : Nat) (hi : i < u.length) (x : Value) : Mt w C A B a len cap (u.set i x) v (W.setCell ⟨A, i, none⟩ x) :=
  ⟨setDM h.d h.ca hin, h.ca, h.cb, h.ab, h.ka.set i hi x, h.kb.other (fun e => h.ab e) x, h.rc, h.k1.other (by have := h.rc; have := h.ca; show A ≠ w.heap.size; omega) x, h.k2.other (by have := h.rc; have := h.ca; show A ≠ w.heap.size + 1; omega) x⟩
theorem Mt.setB {w : World} {C A B : Nat} {a : Option Addr} {len cap : Nat} {u v : List Value} {W : World} (h : Mt w C A B a len cap u v W) (hin : ∀ b off, a = some ⟨b, off, none⟩ → b < w.heap.size) (i : Nat) (hi : i < v.length) (x : Value) : Mt w C A B a len cap u (v.set i x) (W.setCell ⟨B, i, none⟩ x) :=
  ⟨setDM h.d h.cb hin, h.ca, h.cb, h.ab, h.ka.other (fun e => h.ab e.symm) x, h.kb.set i hi x, h.rc, h.k1.other (by have := h.rc; have := h.cb; show B ≠ w.heap.size; omega) x, h.k2.other (by have := h.rc; have := h.cb; show B ≠ w.heap.size + 1; omega) x⟩

structure MrR (w : World) (C A B : Nat) (a : Option Addr) (len cap : Nat) (u v : List Value) (t0 t1 t2 t3 t4 t5 t6 t7 t8 t9 t10 : Bool) (v0 v1 v2 v3 v4 v5 v6 v7 v8 : Value) (W : World) : Prop where
  bel : Below w.heap.size w W
  ca : C < A
  cb : C < B
  rc : w.heap.size + 2 ≤ C
  ka : Blk W A u
  kb : Blk W B v
  k1 : Blk W w.heap.size (bif t7 then u else Z4)
  k2 : Blk W (w.heap.size + 1) (bif t8 then v else Z4)
  dr : t5 = false → Dr w C a len cap W
  n5 : t5 = true → t3 = true
  n7 : t7 = true → t5 = true
  e0 : t0 = true → v0 = .agg u.toArray
  e1 : t1 = true → v1 = .agg v.toArray
  e2 : t2 = true → v2 = .pointer (some ⟨C, 0, none⟩)
  e3 : t3 = true → ∃ x : Int, v3 = .int .i64 x ∧ 0 ≤ x ∧ x < 3000
  e4 : t4 = true → v4 = .pointer (some ⟨C, 0, none⟩)
  e5 : t5 = true → ∃ x : Int, v5 = .int .i64 x ∧ 0 ≤ x ∧ x < 100
  e6 : t6 = true → ∃ x : Int, v6 = .int .i64 (1 + x) ∧ 0 ≤ x ∧ x < 100
  e9 : t9 = true → ∃ x : Int, v7 = .int .i64 x ∧ 0 ≤ x ∧ x < 3000
  e10 : t10 = true → ∃ x : Int, v8 = .int .i64 (1 + x) ∧ 0 ≤ x ∧ x < 100
def MrRJ (w : World) (C A B : Nat) (a : Option Addr) (len cap : Nat) (u v : List Value) (A0 : Act) (l : Nat → Bool) (b : Act) (V : World) : Prop := ∃ (v0 v1 v2 v3 v4 v5 v6 v7 v8 : Value), b = (((((((((A0.put (some 47) v0).put (some 48) v1).put (some 49) v2).put (some 50) v3).put (some 51) v4).put (some 52) v5).put (some 53) v6).put (some 4) v7).put (some 5) v8) ∧ MrR w C A B a len cap u v (l 0) (l 1) (l 2) (l 3) (l 4) (l 5) (l 6) (l 7) (l 8) (l 9) (l 10) v0 v1 v2 v3 v4 v5 v6 v7 v8 V
theorem MrRJ.mk {w : World} {C A B : Nat} {a : Option Addr} {len cap : Nat} {u v : List Value} {A0 : Act} {l : Nat → Bool} {b : Act} {V : World} {v0 v1 v2 v3 v4 v5 v6 v7 v8 : Value} (K : MrR w C A B a len cap u v (l 0) (l 1) (l 2) (l 3) (l 4) (l 5) (l 6) (l 7) (l 8) (l 9) (l 10) v0 v1 v2 v3 v4 v5 v6 v7 v8 V) (h : b = (((((((((A0.put (some 47) v0).put (some 48) v1).put (some 49) v2).put (some 50) v3).put (some 51) v4).put (some 52) v5).put (some 53) v6).put (some 4) v7).put (some 5) v8)) : MrRJ w C A B a len cap u v A0 l b V := ⟨v0, v1, v2, v3, v4, v5, v6, v7, v8, h, K⟩

set_option maxRecDepth 20000 in
set_option maxHeartbeats 8000000 in
theorem drawMeet_any (a : Option Addr) (len cap : Nat) (w : World) (hb : Bytes w a len) (hin : ∀ b off, a = some ⟨b, off, none⟩ → b < w.heap.size) :
    Calls Try.prog 31 #[.slice a len cap] w fun x w' => ∃ ai ah ac bi bh bc far cl : Int, x = .returned (.tuple #[.agg #[.int .i64 ai, .int .i64 ah, .int .i64 ac, .int .i64 0], .agg #[.int .i64 bi, .int .i64 bh, .int .i64 bc, .int .i64 0], .int .i64 far, .int .i64 cl]) ∧ (1 ≤ ai ∧ ai ≤ 18) ∧ (1 ≤ bi ∧ bi ≤ 18) ∧ ¬ ai = bi ∧ (1000 ≤ ah ∧ ah ≤ 1590) ∧ (1000 ≤ bh ∧ bh ≤ 1590) ∧ (-20 ≤ ac ∧ ac ≤ 20) ∧ (-20 ≤ bc ∧ bc ≤ 20) ∧ (0 ≤ far ∧ far ≤ 2999) ∧ (1 ≤ cl ∧ cl ≤ 100) ∧ Below w.heap.size w w' := by
  have HIN0 := hide hin
  have HBY := hide hb
  clear hb hin
  go_enter Try.func31, Try.ntmps31
  go_wp2_with fail
  obtain ⟨W0, hW0⟩ : ∃ W, W = (w.alloc (Obj.cells #[.int .i64 0, .int .i64 0, .int .i64 0, .int .i64 0] 76)).alloc (Obj.cells #[.int .i64 0, .int .i64 0, .int .i64 0, .int .i64 0] 76) := ⟨_, rfl⟩
  have B0 : Hid (Below w.heap.size w W0) := hide (by rw [hW0]; exact bel2 _ _)
  have R1 : Hid (Blk W0 w.heap.size [.int .i64 0, .int .i64 0, .int .i64 0, .int .i64 0]) := hide (by rw [hW0]; exact (Blk.new _ _).alloc _)
  have R2 : Hid (Blk W0 (w.heap.size + 1) [.int .i64 0, .int .i64 0, .int .i64 0, .int .i64 0]) := hide (by
    rw [hW0]
    have e : (w.alloc (Obj.cells #[.int .i64 0, .int .i64 0, .int .i64 0, .int .i64 0] 76)).heap.size = w.heap.size + 1 := by simp
    have k2 := Blk.new (w := w.alloc (Obj.cells #[.int .i64 0, .int .i64 0, .int .i64 0, .int .i64 0] 76)) [.int .i64 0, .int .i64 0, .int .i64 0, .int .i64 0] 76
    rw [e] at k2
    exact k2)
  have RS : Hid (w.heap.size + 2 ≤ W0.heap.size) := hide (by rw [hW0]; simp)
  have HIN : Hid (∀ b off, a = some ⟨b, off, none⟩ → b < W0.heap.size) := hide (fun b off e => Nat.lt_of_lt_of_le (unhide HIN0 b off e) (unhide B0).size)
  rw [← hW0]
  clear hW0
  refine (drNew a len cap W0 ((unhide HBY).below (unhide B0)) (unhide HIN)).mono ?_
  rintro x w1 ⟨rfl, d, b⟩
  have K1 := hide ((unhide R1).below b)
  have K2 := hide ((unhide R2).below b)
  have DD := hide (d.rebase (unhide B0))
  clear d b HBY R1 R2 HIN
  have HIN := HIN0
  obtain ⟨C, hC⟩ : ∃ C, W0.heap.size = C := ⟨_, rfl⟩
  have hRC : w.heap.size + 2 ≤ C := by have := unhide RS; omega
  rw [hC] at DD ⊢
  clear hC RS B0 HIN0
  go_wp2_with fail
  refine (drBelow 9 _ (unhide DD) (by omega)).mono ?_
  rintro x w2 ⟨i1, rfl, hi1, d, gr⟩
  have K1 := hide ((unhide K1).apart gr (fun e => by have := Option.some.inj e; omega))
  have K2 := hide ((unhide K2).apart gr (fun e => by have := Option.some.inj e; omega))
  have DD := hide d
  clear d gr
  go_wp2_with fail
  refine (drBelow 60 _ (unhide DD) (by omega)).mono ?_
  rintro x w3 ⟨y1, rfl, hy1, d, gr⟩
  have K1 := hide ((unhide K1).apart gr (fun e => by have := Option.some.inj e; omega))
  have K2 := hide ((unhide K2).apart gr (fun e => by have := Option.some.inj e; omega))
  have DD := hide d
  clear d gr
  go_wp2_with fail
  refine (drBelow 41 _ (unhide DD) (by omega)).mono ?_
  rintro x w4 ⟨c1, rfl, hc1, d, gr⟩
  have K1 := hide ((unhide K1).apart gr (fun e => by have := Option.some.inj e; omega))
  have K2 := hide ((unhide K2).apart gr (fun e => by have := Option.some.inj e; omega))
  have DD := hide d
  clear d gr
  have hcA := (unhide DD).lt
  obtain ⟨V, hV⟩ : ∃ V, V = w4.alloc (Obj.cells #[.int .i64 (1 + i1), .int .i64 (1000 + y1 * 10), .int .i64 (c1 - 20), .int .i64 0] 76) := ⟨_, rfl⟩
  have KA : Hid (Blk V w4.heap.size [.int .i64 (1 + i1), .int .i64 (1000 + y1 * 10), .int .i64 (c1 - 20), .int .i64 0]) := hide (by rw [hV]; exact Blk.new _ _)
  have b9 : Below w4.heap.size w4 V := by rw [hV]; exact bel1 _
  have DD := hide ((unhide DD).below b9)
  have K1 := hide ((unhide K1).below b9)
  have K2 := hide ((unhide K2).below b9)
  clear b9
  have HV := hide hV
  clear hV
  go_wp2_with fail
  rw [← unhide HV]
  clear HV
  obtain ⟨A, hA⟩ : ∃ A, w4.heap.size = A := ⟨_, rfl⟩
  rw [hA] at KA hcA ⊢
  clear hA
  refine (drBelow 9 _ (unhide DD) (by omega)).mono ?_
  rintro x w5 ⟨i2, rfl, hi2, d, gr⟩
  have KA := hide ((unhide KA).apart gr (fun e => by have := Option.some.inj e; omega))
  have K1 := hide ((unhide K1).apart gr (fun e => by have := Option.some.inj e; omega))
  have K2 := hide ((unhide K2).apart gr (fun e => by have := Option.some.inj e; omega))
  have DD := hide d
  clear d gr
  go_wp2_with fail
  refine (drBelow 60 _ (unhide DD) (by omega)).mono ?_
  rintro x w6 ⟨y2, rfl, hy2, d, gr⟩
  have KA := hide ((unhide KA).apart gr (fun e => by have := Option.some.inj e; omega))
  have K1 := hide ((unhide K1).apart gr (fun e => by have := Option.some.inj e; omega))
  have K2 := hide ((unhide K2).apart gr (fun e => by have := Option.some.inj e; omega))
  have DD := hide d
  clear d gr
  go_wp2_with fail
  refine (drBelow 41 _ (unhide DD) (by omega)).mono ?_
  rintro x w7 ⟨c2, rfl, hc2, d, gr⟩
  have KA := hide ((unhide KA).apart gr (fun e => by have := Option.some.inj e; omega))
  have K1 := hide ((unhide K1).apart gr (fun e => by have := Option.some.inj e; omega))
  have K2 := hide ((unhide K2).apart gr (fun e => by have := Option.some.inj e; omega))
  have DD := hide d
  clear d gr
  have hcB := (unhide DD).lt
  have hAB := (unhide KA).lt
  obtain ⟨V2, hV2⟩ : ∃ V, V = w7.alloc (Obj.cells #[.int .i64 (10 + i2), .int .i64 (1000 + y2 * 10), .int .i64 (c2 - 20), .int .i64 0] 76) := ⟨_, rfl⟩
  have KB : Hid (Blk V2 w7.heap.size [.int .i64 (10 + i2), .int .i64 (1000 + y2 * 10), .int .i64 (c2 - 20), .int .i64 0]) := hide (by rw [hV2]; exact Blk.new _ _)
  have b9 : Below w7.heap.size w7 V2 := by rw [hV2]; exact bel1 _
  have DD := hide ((unhide DD).below b9)
  have KA := hide ((unhide KA).below b9)
  have K1 := hide ((unhide K1).below b9)
  have K2 := hide ((unhide K2).below b9)
  have HV2 := hide hV2
  clear hV2 b9
  go_wp2_with fail
  rw [← unhide HV2]
  clear HV2
  obtain ⟨B, hB⟩ : ∃ A, w7.heap.size = A := ⟨_, rfl⟩
  rw [hB] at KB hcB hAB ⊢
  have MM : Hid (Mt w C A B a len cap [.int .i64 (1 + i1), .int .i64 (1000 + y1 * 10), .int .i64 (c1 - 20), .int .i64 0] [.int .i64 (10 + i2), .int .i64 (1000 + y2 * 10), .int .i64 (c2 - 20), .int .i64 0] V2) := hide ⟨unhide DD, hcA, hcB, by omega, unhide KA, unhide KB, hRC, unhide K1, unhide K2⟩
  clear hB DD KA KB K1 K2
  refine (drOnce 2 _ (unhide MM).d (by omega)).mono ?_
  rintro x w8 ⟨yes, rfl, d, gr⟩
  have MM := hide ((unhide MM).call gr d)
  clear d gr
  cases yes with
  | true =>
    have KX : Hid (Blk (w8.alloc (Obj.cells #[.int .i64 (1 + i1), .int .i64 (1000 + y1 * 10), .int .i64 (c1 - 20), .int .i64 0] 76)) w8.heap.size [.int .i64 (1 + i1), .int .i64 (1000 + y1 * 10), .int .i64 (c1 - 20), .int .i64 0]) := hide (Blk.new _ _)
    have M3 := hide ((unhide MM).below (bel1 (Obj.cells #[.int .i64 (1 + i1), .int .i64 (1000 + y1 * 10), .int .i64 (c1 - 20), .int .i64 0] 76)))
    have hx8 := (unhide MM).ka.lt
    have hy8 := (unhide MM).kb.lt
    have ca0 : w8.cell? ⟨A, 0, none⟩ = some (.int .i64 (1 + i1)) := (unhide MM).ka.c 0 (by simp)
    have ca1 : w8.cell? ⟨A, 1, none⟩ = some (.int .i64 (1000 + y1 * 10)) := (unhide MM).ka.c 1 (by simp)
    have ca2 : w8.cell? ⟨A, 2, none⟩ = some (.int .i64 (c1 - 20)) := (unhide MM).ka.c 2 (by simp)
    have ca3 : w8.cell? ⟨A, 3, none⟩ = some (.int .i64 0) := (unhide MM).ka.c 3 (by simp)
    have cb0 : (w8.alloc (Obj.cells #[.int .i64 (1 + i1), .int .i64 (1000 + y1 * 10), .int .i64 (c1 - 20), .int .i64 0] 76)).cell? ⟨B, 0, none⟩ = some (.int .i64 (10 + i2)) := (unhide M3).kb.c 0 (by simp)
    have cb1 : (w8.alloc (Obj.cells #[.int .i64 (1 + i1), .int .i64 (1000 + y1 * 10), .int .i64 (c1 - 20), .int .i64 0] 76)).cell? ⟨B, 1, none⟩ = some (.int .i64 (1000 + y2 * 10)) := (unhide M3).kb.c 1 (by simp)
    have cb2 : (w8.alloc (Obj.cells #[.int .i64 (1 + i1), .int .i64 (1000 + y1 * 10), .int .i64 (c1 - 20), .int .i64 0] 76)).cell? ⟨B, 2, none⟩ = some (.int .i64 (c2 - 20)) := (unhide M3).kb.c 2 (by simp)
    have cb3 : (w8.alloc (Obj.cells #[.int .i64 (1 + i1), .int .i64 (1000 + y1 * 10), .int .i64 (c1 - 20), .int .i64 0] 76)).cell? ⟨B, 3, none⟩ = some (.int .i64 0) := (unhide M3).kb.c 3 (by simp)
    go_wp2_with (first | ((with_reducible show wpList _ _ _ (⟨none, .store 76 (.tmp 7) _, _, _, _, none⟩ :: _) _ _); refine at_storeAgg (us := [.int .i64 (1 + i1), .int .i64 (1000 + y1 * 10), .int .i64 (c1 - 20), .int .i64 0]) (vs := [.int .i64 (10 + i2), .int .i64 (1000 + y2 * 10), .int .i64 (c2 - 20), .int .i64 0]) Try.sizeOf76 rfl rfl (unhide M3).ka rfl (by simp [Value.oneCell']) ?_; intro w9 kk gg; have KX := hide ((unhide KX).apart gg (fun e => by have := Option.some.inj e; omega)); have M9 : Hid (Mt w C A B a len cap [.int .i64 (10 + i2), .int .i64 (1000 + y2 * 10), .int .i64 (c2 - 20), .int .i64 0] [.int .i64 (10 + i2), .int .i64 (1000 + y2 * 10), .int .i64 (c2 - 20), .int .i64 0] w9) := hide ⟨(unhide M3).d.own gg (fun q hq => by cases hq; exact (unhide M3).ca) (unhide HIN), (unhide M3).ca, (unhide M3).cb, (unhide M3).ab, kk, (unhide M3).kb.apart gg (fun e => (unhide M3).ab (Option.some.inj e).symm), (unhide M3).rc, (unhide M3).k1.apart gg (fun e => by have := Option.some.inj e; have := (unhide M3).rc; have := (unhide M3).ca; omega), (unhide M3).k2.apart gg (fun e => by have := Option.some.inj e; have := (unhide M3).rc; have := (unhide M3).ca; omega)⟩; have cx0 : w9.cell? ⟨w8.heap.size, 0, none⟩ = some (.int .i64 (1 + i1)) := (unhide KX).c 0 (by simp); have cx1 : w9.cell? ⟨w8.heap.size, 1, none⟩ = some (.int .i64 (1000 + y1 * 10)) := (unhide KX).c 1 (by simp); have cx2 : w9.cell? ⟨w8.heap.size, 2, none⟩ = some (.int .i64 (c1 - 20)) := (unhide KX).c 2 (by simp); have cx3 : w9.cell? ⟨w8.heap.size, 3, none⟩ = some (.int .i64 0) := (unhide KX).c 3 (by simp); clear kk gg) | ((with_reducible show wpList _ _ _ (⟨none, .store 76 (.tmp 8) _, _, _, _, none⟩ :: _) _ _); refine at_storeAgg (us := [.int .i64 (10 + i2), .int .i64 (1000 + y2 * 10), .int .i64 (c2 - 20), .int .i64 0]) (vs := [.int .i64 (1 + i1), .int .i64 (1000 + y1 * 10), .int .i64 (c1 - 20), .int .i64 0]) Try.sizeOf76 rfl rfl (unhide M9).kb rfl (by simp [Value.oneCell']) ?_; intro w10 kk gg; have MM : Hid (Mt w C A B a len cap [.int .i64 (10 + i2), .int .i64 (1000 + y2 * 10), .int .i64 (c2 - 20), .int .i64 0] [.int .i64 (1 + i1), .int .i64 (1000 + y1 * 10), .int .i64 (c1 - 20), .int .i64 0] w10) := hide ⟨(unhide M9).d.own gg (fun q hq => by cases hq; exact (unhide M9).cb) (unhide HIN), (unhide M9).ca, (unhide M9).cb, (unhide M9).ab, (unhide M9).ka.apart gg (fun e => (unhide M9).ab (Option.some.inj e)), kk, (unhide M9).rc, (unhide M9).k1.apart gg (fun e => by have := Option.some.inj e; have := (unhide M9).rc; have := (unhide M9).cb; omega), (unhide M9).k2.apart gg (fun e => by have := Option.some.inj e; have := (unhide M9).rc; have := (unhide M9).cb; omega)⟩; clear kk gg))
    clear ca0 ca1 ca2 ca3 cb0 cb1 cb2 cb3 cx0 cx1 cx2 cx3 KX M3 M9 hx8 hy8
    refine (drOnce 4 _ (unhide MM).d (by omega)).mono ?_
    rintro x w12 ⟨yes2, rfl, d, gr⟩
    have MM := hide ((unhide MM).call gr d)
    clear d gr
    cases yes2 with
    | false =>
      go_wp2_with fail
      obtain ⟨zai, hzai⟩ : ∃ z, 10 + i2 = z := ⟨_, rfl⟩
      have bzai : 1 ≤ zai ∧ zai ≤ 18 := by omega
      obtain ⟨zah, hzah⟩ : ∃ z, 1000 + y2 * 10 = z := ⟨_, rfl⟩
      have bzah : 1000 ≤ zah ∧ zah ≤ 1590 := by omega
      obtain ⟨zac, hzac⟩ : ∃ z, c2 - 20 = z := ⟨_, rfl⟩
      have bzac : -20 ≤ zac ∧ zac ≤ 20 := by omega
      obtain ⟨zbi, hzbi⟩ : ∃ z, 1 + i1 = z := ⟨_, rfl⟩
      have bzbi : 1 ≤ zbi ∧ zbi ≤ 18 := by omega
      obtain ⟨zbh, hzbh⟩ : ∃ z, 1000 + y1 * 10 = z := ⟨_, rfl⟩
      have bzbh : 1000 ≤ zbh ∧ zbh ≤ 1590 := by omega
      obtain ⟨zbc, hzbc⟩ : ∃ z, c1 - 20 = z := ⟨_, rfl⟩
      have bzbc : -20 ≤ zbc ∧ zbc ≤ 20 := by omega
      have hne : ¬ zai = zbi := by omega
      simp only [hzai, hzah, hzac, hzbi, hzbh, hzbc] at MM ⊢
      clear hzai hzah hzac hzbi hzbh hzbc
      refine wp_region_flagsA (by kernel_rfl) (by kernel_rfl) (MrRJ w C A B a len cap [.int .i64 zai, .int .i64 zah, .int .i64 zac, .int .i64 0] [.int .i64 zbi, .int .i64 zbh, .int .i64 zbc, .int .i64 0]) ?_ ?_ ?_
      · exact MrRJ.mk (v0 := undef) (v1 := undef) (v2 := undef) (v3 := undef) (v4 := undef) (v5 := undef) (v6 := undef) (v7 := .int .i64 0) (v8 := .int .i64 0) ⟨(unhide MM).d.bel.trans (bel0d' 1), (unhide MM).ca, (unhide MM).cb, (unhide MM).rc, (unhide MM).ka.drewN 1, (unhide MM).kb.drewN 1, (unhide MM).k1.drewN 1, (unhide MM).k2.drewN 1, fun _ => (unhide MM).d.below (bel0d 1), (fun h => by cases h), (fun h => by cases h), (fun h => by cases h), (fun h => by cases h), (fun h => by cases h), (fun h => by cases h), (fun h => by cases h), (fun h => by cases h), (fun h => by cases h), (fun h => by cases h), (fun h => by cases h)⟩ (by kernel_rfl)
      rotate_left 1
      · rintro l b V i o ho hl hd ⟨v0, v1, v2, v3, v4, v5, v6, v7, v8, rfl, K⟩
        have hi : i < 11 := (Array.getElem?_eq_some_iff.1 ho).1
        rcases (show i = 0 ∨ i = 1 ∨ i = 2 ∨ i = 3 ∨ i = 4 ∨ i = 5 ∨ i = 6 ∨ i = 7 ∨ i = 8 ∨ i = 9 ∨ i = 10 from by omega) with rfl | rfl | rfl | rfl | rfl | rfl | rfl | rfl | rfl | rfl | rfl
        · simp at ho
          subst ho
          have yy0 : V.cell? ⟨A, 0, none⟩ = some (.int .i64 zai) := K.ka.c 0 (by simp)
          have yy1 : V.cell? ⟨A, 1, none⟩ = some (.int .i64 zah) := K.ka.c 1 (by simp)
          have yy2 : V.cell? ⟨A, 2, none⟩ = some (.int .i64 zac) := K.ka.c 2 (by simp)
          have yy3 : V.cell? ⟨A, 3, none⟩ = some (.int .i64 0) := K.ka.c 3 (by simp)
          have HK : Hid (MrR w C A B a len cap [.int .i64 zai, .int .i64 zah, .int .i64 zac, .int .i64 0] [.int .i64 zbi, .int .i64 zbh, .int .i64 zbc, .int .i64 0] true (l 1) (l 2) (l 3) (l 4) (l 5) (l 6) (l 7) (l 8) (l 9) (l 10) (.agg #[.int .i64 zai, .int .i64 zah, .int .i64 zac, .int .i64 0]) v1 v2 v3 v4 v5 v6 v7 v8 V) := hide ⟨(K.bel), (K.ca), (K.cb), (K.rc), (K.ka), (K.kb), (K.k1), (K.k2), (K.dr), (K.n5), (K.n7), (fun _ => rfl), (K.e1), (K.e2), (K.e3), (K.e4), (K.e5), (K.e6), (K.e9), (K.e10)⟩
          clear K hd hl
          go_wp2_with fail
          exact ⟨rfl, MrRJ.mk (unhide HK) (by kernel_rfl)⟩
        · simp at ho
          subst ho
          have yy0 : V.cell? ⟨B, 0, none⟩ = some (.int .i64 zbi) := K.kb.c 0 (by simp)
          have yy1 : V.cell? ⟨B, 1, none⟩ = some (.int .i64 zbh) := K.kb.c 1 (by simp)
          have yy2 : V.cell? ⟨B, 2, none⟩ = some (.int .i64 zbc) := K.kb.c 2 (by simp)
          have yy3 : V.cell? ⟨B, 3, none⟩ = some (.int .i64 0) := K.kb.c 3 (by simp)
          have HK : Hid (MrR w C A B a len cap [.int .i64 zai, .int .i64 zah, .int .i64 zac, .int .i64 0] [.int .i64 zbi, .int .i64 zbh, .int .i64 zbc, .int .i64 0] (l 0) true (l 2) (l 3) (l 4) (l 5) (l 6) (l 7) (l 8) (l 9) (l 10) v0 (.agg #[.int .i64 zbi, .int .i64 zbh, .int .i64 zbc, .int .i64 0]) v2 v3 v4 v5 v6 v7 v8 V) := hide ⟨(K.bel), (K.ca), (K.cb), (K.rc), (K.ka), (K.kb), (K.k1), (K.k2), (K.dr), (K.n5), (K.n7), (K.e0), (fun _ => rfl), (K.e2), (K.e3), (K.e4), (K.e5), (K.e6), (K.e9), (K.e10)⟩
          clear K hd hl
          go_wp2_with fail
          exact ⟨rfl, MrRJ.mk (unhide HK) (by kernel_rfl)⟩
        · simp at ho
          subst ho
          have HK : Hid (MrR w C A B a len cap [.int .i64 zai, .int .i64 zah, .int .i64 zac, .int .i64 0] [.int .i64 zbi, .int .i64 zbh, .int .i64 zbc, .int .i64 0] (l 0) (l 1) true (l 3) (l 4) (l 5) (l 6) (l 7) (l 8) (l 9) (l 10) v0 v1 (.pointer (some ⟨C, 0, none⟩)) v3 v4 v5 v6 v7 v8 V) := hide ⟨(K.bel), (K.ca), (K.cb), (K.rc), (K.ka), (K.kb), (K.k1), (K.k2), (K.dr), (K.n5), (K.n7), (K.e0), (K.e1), (fun _ => rfl), (K.e3), (K.e4), (K.e5), (K.e6), (K.e9), (K.e10)⟩
          clear K hd hl
          go_wp2_with fail
          exact ⟨rfl, MrRJ.mk (unhide HK) (by kernel_rfl)⟩
        · simp at ho
          subst ho
          have e2 := K.e2 (hd ⟨2, .data⟩ (by simp) rfl)
          have n5 : l 5 = false := by cases c : l 5; rfl; have := K.n5 c; rw [hl] at this; cases this
          have HD := hide (K.dr n5)
          have HK0 := hide K
          have N5 := hide n5
          subst e2
          clear K hd hl n5
          go_wp2_with (go_at_call 40; refine (drBelow 3000 _ (unhide HD) (by omega)).mono ?_; rintro e V2 ⟨xx, rfl, hx, d2, g2⟩; have K := unhide HK0; have HK : Hid (MrR w C A B a len cap [.int .i64 zai, .int .i64 zah, .int .i64 zac, .int .i64 0] [.int .i64 zbi, .int .i64 zbh, .int .i64 zbc, .int .i64 0] (l 0) (l 1) (l 2) true (l 4) (l 5) (l 6) (l 7) (l 8) (l 9) (l 10) v0 v1 (.pointer (some ⟨C, 0, none⟩)) (.int .i64 xx) v4 v5 v6 v7 v8 V2) := hide ⟨(d2.bel), (K.ca), (K.cb), (K.rc), (K.ka.apart g2 (fun e => by have := Option.some.inj e; have := K.ca; have := K.cb; have := K.rc; omega)), (K.kb.apart g2 (fun e => by have := Option.some.inj e; have := K.ca; have := K.cb; have := K.rc; omega)), (K.k1.apart g2 (fun e => by have := Option.some.inj e; have := K.ca; have := K.cb; have := K.rc; omega)), (K.k2.apart g2 (fun e => by have := Option.some.inj e; have := K.ca; have := K.cb; have := K.rc; omega)), (fun _ => d2), (fun _ => rfl), (K.n7), (K.e0), (K.e1), (fun _ => rfl), (fun _ => ⟨xx, rfl, hx.1, hx.2⟩), (K.e4), (K.e5), (K.e6), (K.e9), (K.e10)⟩; clear K d2 g2)
          exact ⟨rfl, MrRJ.mk (unhide HK) (by kernel_rfl)⟩
        · simp at ho
          subst ho
          have HK : Hid (MrR w C A B a len cap [.int .i64 zai, .int .i64 zah, .int .i64 zac, .int .i64 0] [.int .i64 zbi, .int .i64 zbh, .int .i64 zbc, .int .i64 0] (l 0) (l 1) (l 2) (l 3) true (l 5) (l 6) (l 7) (l 8) (l 9) (l 10) v0 v1 v2 v3 (.pointer (some ⟨C, 0, none⟩)) v5 v6 v7 v8 V) := hide ⟨(K.bel), (K.ca), (K.cb), (K.rc), (K.ka), (K.kb), (K.k1), (K.k2), (K.dr), (K.n5), (K.n7), (K.e0), (K.e1), (K.e2), (K.e3), (fun _ => rfl), (K.e5), (K.e6), (K.e9), (K.e10)⟩
          clear K hd hl
          go_wp2_with fail
          exact ⟨rfl, MrRJ.mk (unhide HK) (by kernel_rfl)⟩
        · simp at ho
          subst ho
          have e2 := K.e4 (hd ⟨4, .data⟩ (by simp) rfl)
          have n5 : l 5 = false := hl
          have d3 : l 3 = true := hd ⟨3, .chain⟩ (by simp) rfl
          have HD := hide (K.dr n5)
          have HK0 := hide K
          have D3 := hide d3
          subst e2
          clear K hd hl n5 d3
          go_wp2_with (go_at_call 40; refine (drBelow 100 _ (unhide HD) (by omega)).mono ?_; rintro e V2 ⟨xx, rfl, hx, d2, g2⟩; have K := unhide HK0; have HK : Hid (MrR w C A B a len cap [.int .i64 zai, .int .i64 zah, .int .i64 zac, .int .i64 0] [.int .i64 zbi, .int .i64 zbh, .int .i64 zbc, .int .i64 0] (l 0) (l 1) (l 2) (l 3) (l 4) true (l 6) (l 7) (l 8) (l 9) (l 10) v0 v1 v2 v3 (.pointer (some ⟨C, 0, none⟩)) (.int .i64 xx) v6 v7 v8 V2) := hide ⟨(d2.bel), (K.ca), (K.cb), (K.rc), (K.ka.apart g2 (fun e => by have := Option.some.inj e; have := K.ca; have := K.cb; have := K.rc; omega)), (K.kb.apart g2 (fun e => by have := Option.some.inj e; have := K.ca; have := K.cb; have := K.rc; omega)), (K.k1.apart g2 (fun e => by have := Option.some.inj e; have := K.ca; have := K.cb; have := K.rc; omega)), (K.k2.apart g2 (fun e => by have := Option.some.inj e; have := K.ca; have := K.cb; have := K.rc; omega)), (fun h => by cases h), (fun _ => unhide D3), (fun _ => rfl), (K.e0), (K.e1), (K.e2), (K.e3), (fun _ => rfl), (fun _ => ⟨xx, rfl, hx.1, hx.2⟩), (K.e6), (K.e9), (K.e10)⟩; clear K d2 g2)
          exact ⟨rfl, MrRJ.mk (unhide HK) (by kernel_rfl)⟩
        · simp at ho
          subst ho
          obtain ⟨xx, e5, hx⟩ := K.e5 (hd ⟨5, .data⟩ (by simp) rfl)
          have HK : Hid (MrR w C A B a len cap [.int .i64 zai, .int .i64 zah, .int .i64 zac, .int .i64 0] [.int .i64 zbi, .int .i64 zbh, .int .i64 zbc, .int .i64 0] (l 0) (l 1) (l 2) (l 3) (l 4) (l 5) true (l 7) (l 8) (l 9) (l 10) v0 v1 v2 v3 v4 v5 (.int .i64 (1 + xx)) v7 v8 V) := hide ⟨(K.bel), (K.ca), (K.cb), (K.rc), (K.ka), (K.kb), (K.k1), (K.k2), (K.dr), (K.n5), (K.n7), (K.e0), (K.e1), (K.e2), (K.e3), (K.e4), (K.e5), (fun _ => ⟨xx, rfl, hx⟩), (K.e9), (K.e10)⟩
          clear K hd hl
          subst e5
          go_wp2_with fail
          exact ⟨rfl, MrRJ.mk (unhide HK) (by kernel_rfl)⟩
        · simp at ho
          subst ho
          have e0 := K.e0 (hd ⟨0, .data⟩ (by simp) rfl)
          have k9 := K.k1
          rw [hl] at k9
          have d5 : l 5 = true := hd ⟨5, .chain⟩ (by simp) rfl
          have pa := K.ca
          have pb := K.cb
          have pc := K.rc
          have yy0 : V.cell? ⟨w.heap.size, 0, none⟩ = some (.int .i64 0) := k9.c 0 (by simp [Z4])
          have ff0 : V.frozen? ⟨w.heap.size, 0, none⟩ = false := k9.f 0 (by simp [Z4])
          have yy1 : V.cell? ⟨w.heap.size, 1, none⟩ = some (.int .i64 0) := k9.c 1 (by simp [Z4])
          have ff1 : V.frozen? ⟨w.heap.size, 1, none⟩ = false := k9.f 1 (by simp [Z4])
          have yy2 : V.cell? ⟨w.heap.size, 2, none⟩ = some (.int .i64 0) := k9.c 2 (by simp [Z4])
          have ff2 : V.frozen? ⟨w.heap.size, 2, none⟩ = false := k9.f 2 (by simp [Z4])
          have yy3 : V.cell? ⟨w.heap.size, 3, none⟩ = some (.int .i64 0) := k9.c 3 (by simp [Z4])
          have ff3 : V.frozen? ⟨w.heap.size, 3, none⟩ = false := k9.f 3 (by simp [Z4])
          subst e0
          have HK : Hid (MrR w C A B a len cap [.int .i64 zai, .int .i64 zah, .int .i64 zac, .int .i64 0] [.int .i64 zbi, .int .i64 zbh, .int .i64 zbc, .int .i64 0] (l 0) (l 1) (l 2) (l 3) (l 4) (l 5) (l 6) true (l 8) (l 9) (l 10) (.agg #[.int .i64 zai, .int .i64 zah, .int .i64 zac, .int .i64 0]) v1 v2 v3 v4 v5 v6 v7 v8 ((((V.setCell ⟨w.heap.size, 0, none⟩ (.int .i64 zai)).setCell ⟨w.heap.size, 1, none⟩ (.int .i64 zah)).setCell ⟨w.heap.size, 2, none⟩ (.int .i64 zac)).setCell ⟨w.heap.size, 3, none⟩ (.int .i64 0))) := hide ⟨(((((K.bel.setCell (p := ⟨w.heap.size, 0, none⟩) (by show w.heap.size ≤ w.heap.size; omega) _).setCell (p := ⟨w.heap.size, 1, none⟩) (by show w.heap.size ≤ w.heap.size; omega) _).setCell (p := ⟨w.heap.size, 2, none⟩) (by show w.heap.size ≤ w.heap.size; omega) _).setCell (p := ⟨w.heap.size, 3, none⟩) (by show w.heap.size ≤ w.heap.size; omega) _)), (K.ca), (K.cb), (K.rc), (((((K.ka.other (p := ⟨w.heap.size, 0, none⟩) (by show w.heap.size ≠ A; omega) _).other (p := ⟨w.heap.size, 1, none⟩) (by show w.heap.size ≠ A; omega) _).other (p := ⟨w.heap.size, 2, none⟩) (by show w.heap.size ≠ A; omega) _).other (p := ⟨w.heap.size, 3, none⟩) (by show w.heap.size ≠ A; omega) _)), (((((K.kb.other (p := ⟨w.heap.size, 0, none⟩) (by show w.heap.size ≠ B; omega) _).other (p := ⟨w.heap.size, 1, none⟩) (by show w.heap.size ≠ B; omega) _).other (p := ⟨w.heap.size, 2, none⟩) (by show w.heap.size ≠ B; omega) _).other (p := ⟨w.heap.size, 3, none⟩) (by show w.heap.size ≠ B; omega) _)), (((((k9.set 0 (by simp [Z4]) _).set 1 (by simp [Z4]) _).set 2 (by simp [Z4]) _).set 3 (by simp [Z4]) _)), (((((K.k2.other (p := ⟨w.heap.size, 0, none⟩) (by show w.heap.size ≠ w.heap.size + 1; omega) _).other (p := ⟨w.heap.size, 1, none⟩) (by show w.heap.size ≠ w.heap.size + 1; omega) _).other (p := ⟨w.heap.size, 2, none⟩) (by show w.heap.size ≠ w.heap.size + 1; omega) _).other (p := ⟨w.heap.size, 3, none⟩) (by show w.heap.size ≠ w.heap.size + 1; omega) _)), (fun h => by have := d5.symm.trans h; cases this), (K.n5), (fun _ => d5), (fun _ => rfl), (K.e1), (K.e2), (K.e3), (K.e4), (K.e5), (K.e6), (K.e9), (K.e10)⟩
          clear K hd hl k9 d5 pa pb pc
          go_wp2_with fail
          exact ⟨rfl, MrRJ.mk (unhide HK) (by kernel_rfl)⟩
        · simp at ho
          subst ho
          have e0 := K.e1 (hd ⟨1, .data⟩ (by simp) rfl)
          have k9 := K.k2
          rw [hl] at k9
          have d5 : l 5 = true := K.n7 (hd ⟨7, .chain⟩ (by simp) rfl)
          have pa := K.ca
          have pb := K.cb
          have pc := K.rc
          have yy0 : V.cell? ⟨(w.heap.size + 1), 0, none⟩ = some (.int .i64 0) := k9.c 0 (by simp [Z4])
          have ff0 : V.frozen? ⟨(w.heap.size + 1), 0, none⟩ = false := k9.f 0 (by simp [Z4])
          have yy1 : V.cell? ⟨(w.heap.size + 1), 1, none⟩ = some (.int .i64 0) := k9.c 1 (by simp [Z4])
          have ff1 : V.frozen? ⟨(w.heap.size + 1), 1, none⟩ = false := k9.f 1 (by simp [Z4])
          have yy2 : V.cell? ⟨(w.heap.size + 1), 2, none⟩ = some (.int .i64 0) := k9.c 2 (by simp [Z4])
          have ff2 : V.frozen? ⟨(w.heap.size + 1), 2, none⟩ = false := k9.f 2 (by simp [Z4])
          have yy3 : V.cell? ⟨(w.heap.size + 1), 3, none⟩ = some (.int .i64 0) := k9.c 3 (by simp [Z4])
          have ff3 : V.frozen? ⟨(w.heap.size + 1), 3, none⟩ = false := k9.f 3 (by simp [Z4])
          subst e0
          have HK : Hid (MrR w C A B a len cap [.int .i64 zai, .int .i64 zah, .int .i64 zac, .int .i64 0] [.int .i64 zbi, .int .i64 zbh, .int .i64 zbc, .int .i64 0] (l 0) (l 1) (l 2) (l 3) (l 4) (l 5) (l 6) (l 7) true (l 9) (l 10) v0 (.agg #[.int .i64 zbi, .int .i64 zbh, .int .i64 zbc, .int .i64 0]) v2 v3 v4 v5 v6 v7 v8 ((((V.setCell ⟨(w.heap.size + 1), 0, none⟩ (.int .i64 zbi)).setCell ⟨(w.heap.size + 1), 1, none⟩ (.int .i64 zbh)).setCell ⟨(w.heap.size + 1), 2, none⟩ (.int .i64 zbc)).setCell ⟨(w.heap.size + 1), 3, none⟩ (.int .i64 0))) := hide ⟨(((((K.bel.setCell (p := ⟨(w.heap.size + 1), 0, none⟩) (by show w.heap.size ≤ (w.heap.size + 1); omega) _).setCell (p := ⟨(w.heap.size + 1), 1, none⟩) (by show w.heap.size ≤ (w.heap.size + 1); omega) _).setCell (p := ⟨(w.heap.size + 1), 2, none⟩) (by show w.heap.size ≤ (w.heap.size + 1); omega) _).setCell (p := ⟨(w.heap.size + 1), 3, none⟩) (by show w.heap.size ≤ (w.heap.size + 1); omega) _)), (K.ca), (K.cb), (K.rc), (((((K.ka.other (p := ⟨(w.heap.size + 1), 0, none⟩) (by show (w.heap.size + 1) ≠ A; omega) _).other (p := ⟨(w.heap.size + 1), 1, none⟩) (by show (w.heap.size + 1) ≠ A; omega) _).other (p := ⟨(w.heap.size + 1), 2, none⟩) (by show (w.heap.size + 1) ≠ A; omega) _).other (p := ⟨(w.heap.size + 1), 3, none⟩) (by show (w.heap.size + 1) ≠ A; omega) _)), (((((K.kb.other (p := ⟨(w.heap.size + 1), 0, none⟩) (by show (w.heap.size + 1) ≠ B; omega) _).other (p := ⟨(w.heap.size + 1), 1, none⟩) (by show (w.heap.size + 1) ≠ B; omega) _).other (p := ⟨(w.heap.size + 1), 2, none⟩) (by show (w.heap.size + 1) ≠ B; omega) _).other (p := ⟨(w.heap.size + 1), 3, none⟩) (by show (w.heap.size + 1) ≠ B; omega) _)), (((((K.k1.other (p := ⟨(w.heap.size + 1), 0, none⟩) (by show (w.heap.size + 1) ≠ w.heap.size; omega) _).other (p := ⟨(w.heap.size + 1), 1, none⟩) (by show (w.heap.size + 1) ≠ w.heap.size; omega) _).other (p := ⟨(w.heap.size + 1), 2, none⟩) (by show (w.heap.size + 1) ≠ w.heap.size; omega) _).other (p := ⟨(w.heap.size + 1), 3, none⟩) (by show (w.heap.size + 1) ≠ w.heap.size; omega) _)), (((((k9.set 0 (by simp [Z4]) _).set 1 (by simp [Z4]) _).set 2 (by simp [Z4]) _).set 3 (by simp [Z4]) _)), (fun h => by have := d5.symm.trans h; cases this), (K.n5), (K.n7), (K.e0), (fun _ => rfl), (K.e2), (K.e3), (K.e4), (K.e5), (K.e6), (K.e9), (K.e10)⟩
          clear K hd hl k9 d5 pa pb pc
          go_wp2_with fail
          exact ⟨rfl, MrRJ.mk (unhide HK) (by kernel_rfl)⟩
        · simp at ho
          subst ho
          obtain ⟨xx, e5, hx⟩ := K.e3 (hd ⟨3, .data⟩ (by simp) rfl)
          have HK : Hid (MrR w C A B a len cap [.int .i64 zai, .int .i64 zah, .int .i64 zac, .int .i64 0] [.int .i64 zbi, .int .i64 zbh, .int .i64 zbc, .int .i64 0] (l 0) (l 1) (l 2) (l 3) (l 4) (l 5) (l 6) (l 7) (l 8) true (l 10) v0 v1 v2 v3 v4 v5 v6 (.int .i64 xx) v8 V) := hide ⟨(K.bel), (K.ca), (K.cb), (K.rc), (K.ka), (K.kb), (K.k1), (K.k2), (K.dr), (K.n5), (K.n7), (K.e0), (K.e1), (K.e2), (K.e3), (K.e4), (K.e5), (K.e6), (fun _ => ⟨xx, rfl, hx⟩), (K.e10)⟩
          clear K hd hl
          subst e5
          go_wp2_with fail
          exact ⟨rfl, MrRJ.mk (unhide HK) (by kernel_rfl)⟩
        · simp at ho
          subst ho
          obtain ⟨xx, e5, hx⟩ := K.e6 (hd ⟨6, .data⟩ (by simp) rfl)
          have HK : Hid (MrR w C A B a len cap [.int .i64 zai, .int .i64 zah, .int .i64 zac, .int .i64 0] [.int .i64 zbi, .int .i64 zbh, .int .i64 zbc, .int .i64 0] (l 0) (l 1) (l 2) (l 3) (l 4) (l 5) (l 6) (l 7) (l 8) (l 9) true v0 v1 v2 v3 v4 v5 v6 v7 (.int .i64 (1 + xx)) V) := hide ⟨(K.bel), (K.ca), (K.cb), (K.rc), (K.ka), (K.kb), (K.k1), (K.k2), (K.dr), (K.n5), (K.n7), (K.e0), (K.e1), (K.e2), (K.e3), (K.e4), (K.e5), (K.e6), (K.e9), (fun _ => ⟨xx, rfl, hx⟩)⟩
          clear K hd hl
          subst e5
          go_wp2_with fail
          exact ⟨rfl, MrRJ.mk (unhide HK) (by kernel_rfl)⟩
      rintro l b V hall ⟨v0, v1, v2, v3, v4, v5, v6, v7, v8, rfl, K⟩
      obtain ⟨far, q7, hfar⟩ := K.e9 (hall 9 (by decide))
      obtain ⟨cl, q8, hcl⟩ := K.e10 (hall 10 (by decide))
      have k1 := K.k1
      have k2 := K.k2
      rw [hall 7 (by decide)] at k1
      rw [hall 8 (by decide)] at k2
      have HK1 : Hid (Blk V w.heap.size [.int .i64 zai, .int .i64 zah, .int .i64 zac, .int .i64 0]) := hide k1
      have HK2 : Hid (Blk V (w.heap.size + 1) [.int .i64 zbi, .int .i64 zbh, .int .i64 zbc, .int .i64 0]) := hide k2
      have BB := hide K.bel
      subst q7
      subst q8
      clear K k1 k2 hall
      go_wp2_with fail
      exact bodyPost_ret (results_ccBB (vs := [.int .i64 zai, .int .i64 zah, .int .i64 zac, .int .i64 0]) (us := [.int .i64 zbi, .int .i64 zbh, .int .i64 zbc, .int .i64 0]) (x := .int .i64 far) (y := .int .i64 (1 + cl)) rfl Try.isAgg76 Try.sizeOf76 rfl (by kernel_rfl) (unhide HK1) (by kernel_rfl) (unhide HK2) (by kernel_rfl) (by kernel_rfl)) rfl ⟨_, _, _, _, _, _, _, _, rfl, by omega, by omega, by omega, by omega, by omega, by omega, by omega, by omega, by omega, unhide BB⟩
    | true =>
      have da1 : w12.cell? ⟨A, 1, none⟩ = some (.int .i64 (1000 + y2 * 10)) := (unhide MM).ka.c 1 (by simp)
      have da2 : w12.cell? ⟨A, 2, none⟩ = some (.int .i64 (c2 - 20)) := (unhide MM).ka.c 2 (by simp)
      have db1 : w12.cell? ⟨B, 1, none⟩ = some (.int .i64 (1000 + y1 * 10)) := (unhide MM).kb.c 1 (by simp)
      have db2 : w12.cell? ⟨B, 2, none⟩ = some (.int .i64 (c1 - 20)) := (unhide MM).kb.c 2 (by simp)
      have f1 : w12.frozen? ⟨B, 1, none⟩ = false := (unhide MM).kb.f 1 (by simp)
      have f2 : w12.frozen? ⟨B, 2, none⟩ = false := (unhide MM).kb.f 2 (by simp)
      obtain ⟨V4, hV4⟩ : ∃ V, V = (w12.setCell ⟨B, 1, none⟩ (.int .i64 (1000 + y2 * 10))).setCell ⟨B, 2, none⟩ (.int .i64 (c2 - 20)) := ⟨_, rfl⟩
      have M4 : Hid (Mt w C A B a len cap [.int .i64 (10 + i2), .int .i64 (1000 + y2 * 10), .int .i64 (c2 - 20), .int .i64 0] [.int .i64 (1 + i1), .int .i64 (1000 + y2 * 10), .int .i64 (c2 - 20), .int .i64 0] V4) := hide (by rw [hV4]; exact ((unhide MM).setB (unhide HIN) 1 (by simp) _).setB (unhide HIN) 2 (by simp) _)
      have HV4 := hide hV4
      clear hV4
      have hab := (unhide MM).ab
      have e1 : (w12.setCell ⟨B, 1, none⟩ (.int .i64 (1000 + y2 * 10))).cell? ⟨A, 2, none⟩ = some (.int .i64 (c2 - 20)) := (World.cell?_setCell_other _ _ _ _ (by intro e; simp only [Addr.mk.injEq] at e; exact hab e.1.symm)).trans da2
      clear hab
      go_wp2_with fail
      rw [← unhide HV4]
      clear HV4 da1 da2 db1 db2 f1 f2 e1
      obtain ⟨zai, hzai⟩ : ∃ z, 10 + i2 = z := ⟨_, rfl⟩
      have bzai : 1 ≤ zai ∧ zai ≤ 18 := by omega
      obtain ⟨zah, hzah⟩ : ∃ z, 1000 + y2 * 10 = z := ⟨_, rfl⟩
      have bzah : 1000 ≤ zah ∧ zah ≤ 1590 := by omega
      obtain ⟨zac, hzac⟩ : ∃ z, c2 - 20 = z := ⟨_, rfl⟩
      have bzac : -20 ≤ zac ∧ zac ≤ 20 := by omega
      obtain ⟨zbi, hzbi⟩ : ∃ z, 1 + i1 = z := ⟨_, rfl⟩
      have bzbi : 1 ≤ zbi ∧ zbi ≤ 18 := by omega
      have hne : ¬ zai = zbi := by omega
      simp only [hzai, hzah, hzac, hzbi] at M4 ⊢
      clear hzai hzah hzac hzbi
      refine wp_region_flagsA (by kernel_rfl) (by kernel_rfl) (MrRJ w C A B a len cap [.int .i64 zai, .int .i64 zah, .int .i64 zac, .int .i64 0] [.int .i64 zbi, .int .i64 zah, .int .i64 zac, .int .i64 0]) ?_ ?_ ?_
      · exact MrRJ.mk (v0 := undef) (v1 := undef) (v2 := undef) (v3 := undef) (v4 := undef) (v5 := undef) (v6 := undef) (v7 := .int .i64 0) (v8 := .int .i64 0) ⟨(unhide M4).d.bel.trans (bel0d' 1), (unhide M4).ca, (unhide M4).cb, (unhide M4).rc, (unhide M4).ka.drewN 1, (unhide M4).kb.drewN 1, (unhide M4).k1.drewN 1, (unhide M4).k2.drewN 1, fun _ => (unhide M4).d.below (bel0d 1), (fun h => by cases h), (fun h => by cases h), (fun h => by cases h), (fun h => by cases h), (fun h => by cases h), (fun h => by cases h), (fun h => by cases h), (fun h => by cases h), (fun h => by cases h), (fun h => by cases h), (fun h => by cases h)⟩ (by kernel_rfl)
      rotate_left 1
      · rintro l b V i o ho hl hd ⟨v0, v1, v2, v3, v4, v5, v6, v7, v8, rfl, K⟩
        have hi : i < 11 := (Array.getElem?_eq_some_iff.1 ho).1
        rcases (show i = 0 ∨ i = 1 ∨ i = 2 ∨ i = 3 ∨ i = 4 ∨ i = 5 ∨ i = 6 ∨ i = 7 ∨ i = 8 ∨ i = 9 ∨ i = 10 from by omega) with rfl | rfl | rfl | rfl | rfl | rfl | rfl | rfl | rfl | rfl | rfl
        · simp at ho
          subst ho
          have yy0 : V.cell? ⟨A, 0, none⟩ = some (.int .i64 zai) := K.ka.c 0 (by simp)
          have yy1 : V.cell? ⟨A, 1, none⟩ = some (.int .i64 zah) := K.ka.c 1 (by simp)
          have yy2 : V.cell? ⟨A, 2, none⟩ = some (.int .i64 zac) := K.ka.c 2 (by simp)
          have yy3 : V.cell? ⟨A, 3, none⟩ = some (.int .i64 0) := K.ka.c 3 (by simp)
          have HK : Hid (MrR w C A B a len cap [.int .i64 zai, .int .i64 zah, .int .i64 zac, .int .i64 0] [.int .i64 zbi, .int .i64 zah, .int .i64 zac, .int .i64 0] true (l 1) (l 2) (l 3) (l 4) (l 5) (l 6) (l 7) (l 8) (l 9) (l 10) (.agg #[.int .i64 zai, .int .i64 zah, .int .i64 zac, .int .i64 0]) v1 v2 v3 v4 v5 v6 v7 v8 V) := hide ⟨(K.bel), (K.ca), (K.cb), (K.rc), (K.ka), (K.kb), (K.k1), (K.k2), (K.dr), (K.n5), (K.n7), (fun _ => rfl), (K.e1), (K.e2), (K.e3), (K.e4), (K.e5), (K.e6), (K.e9), (K.e10)⟩
          clear K hd hl
          go_wp2_with fail
          exact ⟨rfl, MrRJ.mk (unhide HK) (by kernel_rfl)⟩
        · simp at ho
          subst ho
          have yy0 : V.cell? ⟨B, 0, none⟩ = some (.int .i64 zbi) := K.kb.c 0 (by simp)
          have yy1 : V.cell? ⟨B, 1, none⟩ = some (.int .i64 zah) := K.kb.c 1 (by simp)
          have yy2 : V.cell? ⟨B, 2, none⟩ = some (.int .i64 zac) := K.kb.c 2 (by simp)
          have yy3 : V.cell? ⟨B, 3, none⟩ = some (.int .i64 0) := K.kb.c 3 (by simp)
          have HK : Hid (MrR w C A B a len cap [.int .i64 zai, .int .i64 zah, .int .i64 zac, .int .i64 0] [.int .i64 zbi, .int .i64 zah, .int .i64 zac, .int .i64 0] (l 0) true (l 2) (l 3) (l 4) (l 5) (l 6) (l 7) (l 8) (l 9) (l 10) v0 (.agg #[.int .i64 zbi, .int .i64 zah, .int .i64 zac, .int .i64 0]) v2 v3 v4 v5 v6 v7 v8 V) := hide ⟨(K.bel), (K.ca), (K.cb), (K.rc), (K.ka), (K.kb), (K.k1), (K.k2), (K.dr), (K.n5), (K.n7), (K.e0), (fun _ => rfl), (K.e2), (K.e3), (K.e4), (K.e5), (K.e6), (K.e9), (K.e10)⟩
          clear K hd hl
          go_wp2_with fail
          exact ⟨rfl, MrRJ.mk (unhide HK) (by kernel_rfl)⟩
        · simp at ho
          subst ho
          have HK : Hid (MrR w C A B a len cap [.int .i64 zai, .int .i64 zah, .int .i64 zac, .int .i64 0] [.int .i64 zbi, .int .i64 zah, .int .i64 zac, .int .i64 0] (l 0) (l 1) true (l 3) (l 4) (l 5) (l 6) (l 7) (l 8) (l 9) (l 10) v0 v1 (.pointer (some ⟨C, 0, none⟩)) v3 v4 v5 v6 v7 v8 V) := hide ⟨(K.bel), (K.ca), (K.cb), (K.rc), (K.ka), (K.kb), (K.k1), (K.k2), (K.dr), (K.n5), (K.n7), (K.e0), (K.e1), (fun _ => rfl), (K.e3), (K.e4), (K.e5), (K.e6), (K.e9), (K.e10)⟩
          clear K hd hl
          go_wp2_with fail
          exact ⟨rfl, MrRJ.mk (unhide HK) (by kernel_rfl)⟩
        · simp at ho
          subst ho
          have e2 := K.e2 (hd ⟨2, .data⟩ (by simp) rfl)
          have n5 : l 5 = false := by cases c : l 5; rfl; have := K.n5 c; rw [hl] at this; cases this
          have HD := hide (K.dr n5)
          have HK0 := hide K
          have N5 := hide n5
          subst e2
          clear K hd hl n5
          go_wp2_with (go_at_call 40; refine (drBelow 3000 _ (unhide HD) (by omega)).mono ?_; rintro e V2 ⟨xx, rfl, hx, d2, g2⟩; have K := unhide HK0; have HK : Hid (MrR w C A B a len cap [.int .i64 zai, .int .i64 zah, .int .i64 zac, .int .i64 0] [.int .i64 zbi, .int .i64 zah, .int .i64 zac, .int .i64 0] (l 0) (l 1) (l 2) true (l 4) (l 5) (l 6) (l 7) (l 8) (l 9) (l 10) v0 v1 (.pointer (some ⟨C, 0, none⟩)) (.int .i64 xx) v4 v5 v6 v7 v8 V2) := hide ⟨(d2.bel), (K.ca), (K.cb), (K.rc), (K.ka.apart g2 (fun e => by have := Option.some.inj e; have := K.ca; have := K.cb; have := K.rc; omega)), (K.kb.apart g2 (fun e => by have := Option.some.inj e; have := K.ca; have := K.cb; have := K.rc; omega)), (K.k1.apart g2 (fun e => by have := Option.some.inj e; have := K.ca; have := K.cb; have := K.rc; omega)), (K.k2.apart g2 (fun e => by have := Option.some.inj e; have := K.ca; have := K.cb; have := K.rc; omega)), (fun _ => d2), (fun _ => rfl), (K.n7), (K.e0), (K.e1), (fun _ => rfl), (fun _ => ⟨xx, rfl, hx.1, hx.2⟩), (K.e4), (K.e5), (K.e6), (K.e9), (K.e10)⟩; clear K d2 g2)
          exact ⟨rfl, MrRJ.mk (unhide HK) (by kernel_rfl)⟩
        · simp at ho
          subst ho
          have HK : Hid (MrR w C A B a len cap [.int .i64 zai, .int .i64 zah, .int .i64 zac, .int .i64 0] [.int .i64 zbi, .int .i64 zah, .int .i64 zac, .int .i64 0] (l 0) (l 1) (l 2) (l 3) true (l 5) (l 6) (l 7) (l 8) (l 9) (l 10) v0 v1 v2 v3 (.pointer (some ⟨C, 0, none⟩)) v5 v6 v7 v8 V) := hide ⟨(K.bel), (K.ca), (K.cb), (K.rc), (K.ka), (K.kb), (K.k1), (K.k2), (K.dr), (K.n5), (K.n7), (K.e0), (K.e1), (K.e2), (K.e3), (fun _ => rfl), (K.e5), (K.e6), (K.e9), (K.e10)⟩
          clear K hd hl
          go_wp2_with fail
          exact ⟨rfl, MrRJ.mk (unhide HK) (by kernel_rfl)⟩
        · simp at ho
          subst ho
          have e2 := K.e4 (hd ⟨4, .data⟩ (by simp) rfl)
          have n5 : l 5 = false := hl
          have d3 : l 3 = true := hd ⟨3, .chain⟩ (by simp) rfl
          have HD := hide (K.dr n5)
          have HK0 := hide K
          have D3 := hide d3
          subst e2
          clear K hd hl n5 d3
          go_wp2_with (go_at_call 40; refine (drBelow 100 _ (unhide HD) (by omega)).mono ?_; rintro e V2 ⟨xx, rfl, hx, d2, g2⟩; have K := unhide HK0; have HK : Hid (MrR w C A B a len cap [.int .i64 zai, .int .i64 zah, .int .i64 zac, .int .i64 0] [.int .i64 zbi, .int .i64 zah, .int .i64 zac, .int .i64 0] (l 0) (l 1) (l 2) (l 3) (l 4) true (l 6) (l 7) (l 8) (l 9) (l 10) v0 v1 v2 v3 (.pointer (some ⟨C, 0, none⟩)) (.int .i64 xx) v6 v7 v8 V2) := hide ⟨(d2.bel), (K.ca), (K.cb), (K.rc), (K.ka.apart g2 (fun e => by have := Option.some.inj e; have := K.ca; have := K.cb; have := K.rc; omega)), (K.kb.apart g2 (fun e => by have := Option.some.inj e; have := K.ca; have := K.cb; have := K.rc; omega)), (K.k1.apart g2 (fun e => by have := Option.some.inj e; have := K.ca; have := K.cb; have := K.rc; omega)), (K.k2.apart g2 (fun e => by have := Option.some.inj e; have := K.ca; have := K.cb; have := K.rc; omega)), (fun h => by cases h), (fun _ => unhide D3), (fun _ => rfl), (K.e0), (K.e1), (K.e2), (K.e3), (fun _ => rfl), (fun _ => ⟨xx, rfl, hx.1, hx.2⟩), (K.e6), (K.e9), (K.e10)⟩; clear K d2 g2)
          exact ⟨rfl, MrRJ.mk (unhide HK) (by kernel_rfl)⟩
        · simp at ho
          subst ho
          obtain ⟨xx, e5, hx⟩ := K.e5 (hd ⟨5, .data⟩ (by simp) rfl)
          have HK : Hid (MrR w C A B a len cap [.int .i64 zai, .int .i64 zah, .int .i64 zac, .int .i64 0] [.int .i64 zbi, .int .i64 zah, .int .i64 zac, .int .i64 0] (l 0) (l 1) (l 2) (l 3) (l 4) (l 5) true (l 7) (l 8) (l 9) (l 10) v0 v1 v2 v3 v4 v5 (.int .i64 (1 + xx)) v7 v8 V) := hide ⟨(K.bel), (K.ca), (K.cb), (K.rc), (K.ka), (K.kb), (K.k1), (K.k2), (K.dr), (K.n5), (K.n7), (K.e0), (K.e1), (K.e2), (K.e3), (K.e4), (K.e5), (fun _ => ⟨xx, rfl, hx⟩), (K.e9), (K.e10)⟩
          clear K hd hl
          subst e5
          go_wp2_with fail
          exact ⟨rfl, MrRJ.mk (unhide HK) (by kernel_rfl)⟩
        · simp at ho
          subst ho
          have e0 := K.e0 (hd ⟨0, .data⟩ (by simp) rfl)
          have k9 := K.k1
          rw [hl] at k9
          have d5 : l 5 = true := hd ⟨5, .chain⟩ (by simp) rfl
          have pa := K.ca
          have pb := K.cb
          have pc := K.rc
          have yy0 : V.cell? ⟨w.heap.size, 0, none⟩ = some (.int .i64 0) := k9.c 0 (by simp [Z4])
          have ff0 : V.frozen? ⟨w.heap.size, 0, none⟩ = false := k9.f 0 (by simp [Z4])
          have yy1 : V.cell? ⟨w.heap.size, 1, none⟩ = some (.int .i64 0) := k9.c 1 (by simp [Z4])
          have ff1 : V.frozen? ⟨w.heap.size, 1, none⟩ = false := k9.f 1 (by simp [Z4])
          have yy2 : V.cell? ⟨w.heap.size, 2, none⟩ = some (.int .i64 0) := k9.c 2 (by simp [Z4])
          have ff2 : V.frozen? ⟨w.heap.size, 2, none⟩ = false := k9.f 2 (by simp [Z4])
          have yy3 : V.cell? ⟨w.heap.size, 3, none⟩ = some (.int .i64 0) := k9.c 3 (by simp [Z4])
          have ff3 : V.frozen? ⟨w.heap.size, 3, none⟩ = false := k9.f 3 (by simp [Z4])
          subst e0
          have HK : Hid (MrR w C A B a len cap [.int .i64 zai, .int .i64 zah, .int .i64 zac, .int .i64 0] [.int .i64 zbi, .int .i64 zah, .int .i64 zac, .int .i64 0] (l 0) (l 1) (l 2) (l 3) (l 4) (l 5) (l 6) true (l 8) (l 9) (l 10) (.agg #[.int .i64 zai, .int .i64 zah, .int .i64 zac, .int .i64 0]) v1 v2 v3 v4 v5 v6 v7 v8 ((((V.setCell ⟨w.heap.size, 0, none⟩ (.int .i64 zai)).setCell ⟨w.heap.size, 1, none⟩ (.int .i64 zah)).setCell ⟨w.heap.size, 2, none⟩ (.int .i64 zac)).setCell ⟨w.heap.size, 3, none⟩ (.int .i64 0))) := hide ⟨(((((K.bel.setCell (p := ⟨w.heap.size, 0, none⟩) (by show w.heap.size ≤ w.heap.size; omega) _).setCell (p := ⟨w.heap.size, 1, none⟩) (by show w.heap.size ≤ w.heap.size; omega) _).setCell (p := ⟨w.heap.size, 2, none⟩) (by show w.heap.size ≤ w.heap.size; omega) _).setCell (p := ⟨w.heap.size, 3, none⟩) (by show w.heap.size ≤ w.heap.size; omega) _)), (K.ca), (K.cb), (K.rc), (((((K.ka.other (p := ⟨w.heap.size, 0, none⟩) (by show w.heap.size ≠ A; omega) _).other (p := ⟨w.heap.size, 1, none⟩) (by show w.heap.size ≠ A; omega) _).other (p := ⟨w.heap.size, 2, none⟩) (by show w.heap.size ≠ A; omega) _).other (p := ⟨w.heap.size, 3, none⟩) (by show w.heap.size ≠ A; omega) _)), (((((K.kb.other (p := ⟨w.heap.size, 0, none⟩) (by show w.heap.size ≠ B; omega) _).other (p := ⟨w.heap.size, 1, none⟩) (by show w.heap.size ≠ B; omega) _).other (p := ⟨w.heap.size, 2, none⟩) (by show w.heap.size ≠ B; omega) _).other (p := ⟨w.heap.size, 3, none⟩) (by show w.heap.size ≠ B; omega) _)), (((((k9.set 0 (by simp [Z4]) _).set 1 (by simp [Z4]) _).set 2 (by simp [Z4]) _).set 3 (by simp [Z4]) _)), (((((K.k2.other (p := ⟨w.heap.size, 0, none⟩) (by show w.heap.size ≠ w.heap.size + 1; omega) _).other (p := ⟨w.heap.size, 1, none⟩) (by show w.heap.size ≠ w.heap.size + 1; omega) _).other (p := ⟨w.heap.size, 2, none⟩) (by show w.heap.size ≠ w.heap.size + 1; omega) _).other (p := ⟨w.heap.size, 3, none⟩) (by show w.heap.size ≠ w.heap.size + 1; omega) _)), (fun h => by have := d5.symm.trans h; cases this), (K.n5), (fun _ => d5), (fun _ => rfl), (K.e1), (K.e2), (K.e3), (K.e4), (K.e5), (K.e6), (K.e9), (K.e10)⟩
          clear K hd hl k9 d5 pa pb pc
          go_wp2_with fail
          exact ⟨rfl, MrRJ.mk (unhide HK) (by kernel_rfl)⟩
        · simp at ho
          subst ho
          have e0 := K.e1 (hd ⟨1, .data⟩ (by simp) rfl)
          have k9 := K.k2
          rw [hl] at k9
          have d5 : l 5 = true := K.n7 (hd ⟨7, .chain⟩ (by simp) rfl)
          have pa := K.ca
          have pb := K.cb
          have pc := K.rc
          have yy0 : V.cell? ⟨(w.heap.size + 1), 0, none⟩ = some (.int .i64 0) := k9.c 0 (by simp [Z4])
          have ff0 : V.frozen? ⟨(w.heap.size + 1), 0, none⟩ = false := k9.f 0 (by simp [Z4])
          have yy1 : V.cell? ⟨(w.heap.size + 1), 1, none⟩ = some (.int .i64 0) := k9.c 1 (by simp [Z4])
          have ff1 : V.frozen? ⟨(w.heap.size + 1), 1, none⟩ = false := k9.f 1 (by simp [Z4])
          have yy2 : V.cell? ⟨(w.heap.size + 1), 2, none⟩ = some (.int .i64 0) := k9.c 2 (by simp [Z4])
          have ff2 : V.frozen? ⟨(w.heap.size + 1), 2, none⟩ = false := k9.f 2 (by simp [Z4])
          have yy3 : V.cell? ⟨(w.heap.size + 1), 3, none⟩ = some (.int .i64 0) := k9.c 3 (by simp [Z4])
          have ff3 : V.frozen? ⟨(w.heap.size + 1), 3, none⟩ = false := k9.f 3 (by simp [Z4])
          subst e0
          have HK : Hid (MrR w C A B a len cap [.int .i64 zai, .int .i64 zah, .int .i64 zac, .int .i64 0] [.int .i64 zbi, .int .i64 zah, .int .i64 zac, .int .i64 0] (l 0) (l 1) (l 2) (l 3) (l 4) (l 5) (l 6) (l 7) true (l 9) (l 10) v0 (.agg #[.int .i64 zbi, .int .i64 zah, .int .i64 zac, .int .i64 0]) v2 v3 v4 v5 v6 v7 v8 ((((V.setCell ⟨(w.heap.size + 1), 0, none⟩ (.int .i64 zbi)).setCell ⟨(w.heap.size + 1), 1, none⟩ (.int .i64 zah)).setCell ⟨(w.heap.size + 1), 2, none⟩ (.int .i64 zac)).setCell ⟨(w.heap.size + 1), 3, none⟩ (.int .i64 0))) := hide ⟨(((((K.bel.setCell (p := ⟨(w.heap.size + 1), 0, none⟩) (by show w.heap.size ≤ (w.heap.size + 1); omega) _).setCell (p := ⟨(w.heap.size + 1), 1, none⟩) (by show w.heap.size ≤ (w.heap.size + 1); omega) _).setCell (p := ⟨(w.heap.size + 1), 2, none⟩) (by show w.heap.size ≤ (w.heap.size + 1); omega) _).setCell (p := ⟨(w.heap.size + 1), 3, none⟩) (by show w.heap.size ≤ (w.heap.size + 1); omega) _)), (K.ca), (K.cb), (K.rc), (((((K.ka.other (p := ⟨(w.heap.size + 1), 0, none⟩) (by show (w.heap.size + 1) ≠ A; omega) _).other (p := ⟨(w.heap.size + 1), 1, none⟩) (by show (w.heap.size + 1) ≠ A; omega) _).other (p := ⟨(w.heap.size + 1), 2, none⟩) (by show (w.heap.size + 1) ≠ A; omega) _).other (p := ⟨(w.heap.size + 1), 3, none⟩) (by show (w.heap.size + 1) ≠ A; omega) _)), (((((K.kb.other (p := ⟨(w.heap.size + 1), 0, none⟩) (by show (w.heap.size + 1) ≠ B; omega) _).other (p := ⟨(w.heap.size + 1), 1, none⟩) (by show (w.heap.size + 1) ≠ B; omega) _).other (p := ⟨(w.heap.size + 1), 2, none⟩) (by show (w.heap.size + 1) ≠ B; omega) _).other (p := ⟨(w.heap.size + 1), 3, none⟩) (by show (w.heap.size + 1) ≠ B; omega) _)), (((((K.k1.other (p := ⟨(w.heap.size + 1), 0, none⟩) (by show (w.heap.size + 1) ≠ w.heap.size; omega) _).other (p := ⟨(w.heap.size + 1), 1, none⟩) (by show (w.heap.size + 1) ≠ w.heap.size; omega) _).other (p := ⟨(w.heap.size + 1), 2, none⟩) (by show (w.heap.size + 1) ≠ w.heap.size; omega) _).other (p := ⟨(w.heap.size + 1), 3, none⟩) (by show (w.heap.size + 1) ≠ w.heap.size; omega) _)), (((((k9.set 0 (by simp [Z4]) _).set 1 (by simp [Z4]) _).set 2 (by simp [Z4]) _).set 3 (by simp [Z4]) _)), (fun h => by have := d5.symm.trans h; cases this), (K.n5), (K.n7), (K.e0), (fun _ => rfl), (K.e2), (K.e3), (K.e4), (K.e5), (K.e6), (K.e9), (K.e10)⟩
          clear K hd hl k9 d5 pa pb pc
          go_wp2_with fail
          exact ⟨rfl, MrRJ.mk (unhide HK) (by kernel_rfl)⟩
        · simp at ho
          subst ho
          obtain ⟨xx, e5, hx⟩ := K.e3 (hd ⟨3, .data⟩ (by simp) rfl)
          have HK : Hid (MrR w C A B a len cap [.int .i64 zai, .int .i64 zah, .int .i64 zac, .int .i64 0] [.int .i64 zbi, .int .i64 zah, .int .i64 zac, .int .i64 0] (l 0) (l 1) (l 2) (l 3) (l 4) (l 5) (l 6) (l 7) (l 8) true (l 10) v0 v1 v2 v3 v4 v5 v6 (.int .i64 xx) v8 V) := hide ⟨(K.bel), (K.ca), (K.cb), (K.rc), (K.ka), (K.kb), (K.k1), (K.k2), (K.dr), (K.n5), (K.n7), (K.e0), (K.e1), (K.e2), (K.e3), (K.e4), (K.e5), (K.e6), (fun _ => ⟨xx, rfl, hx⟩), (K.e10)⟩
          clear K hd hl
          subst e5
          go_wp2_with fail
          exact ⟨rfl, MrRJ.mk (unhide HK) (by kernel_rfl)⟩
        · simp at ho
          subst ho
          obtain ⟨xx, e5, hx⟩ := K.e6 (hd ⟨6, .data⟩ (by simp) rfl)
          have HK : Hid (MrR w C A B a len cap [.int .i64 zai, .int .i64 zah, .int .i64 zac, .int .i64 0] [.int .i64 zbi, .int .i64 zah, .int .i64 zac, .int .i64 0] (l 0) (l 1) (l 2) (l 3) (l 4) (l 5) (l 6) (l 7) (l 8) (l 9) true v0 v1 v2 v3 v4 v5 v6 v7 (.int .i64 (1 + xx)) V) := hide ⟨(K.bel), (K.ca), (K.cb), (K.rc), (K.ka), (K.kb), (K.k1), (K.k2), (K.dr), (K.n5), (K.n7), (K.e0), (K.e1), (K.e2), (K.e3), (K.e4), (K.e5), (K.e6), (K.e9), (fun _ => ⟨xx, rfl, hx⟩)⟩
          clear K hd hl
          subst e5
          go_wp2_with fail
          exact ⟨rfl, MrRJ.mk (unhide HK) (by kernel_rfl)⟩
      rintro l b V hall ⟨v0, v1, v2, v3, v4, v5, v6, v7, v8, rfl, K⟩
      obtain ⟨far, q7, hfar⟩ := K.e9 (hall 9 (by decide))
      obtain ⟨cl, q8, hcl⟩ := K.e10 (hall 10 (by decide))
      have k1 := K.k1
      have k2 := K.k2
      rw [hall 7 (by decide)] at k1
      rw [hall 8 (by decide)] at k2
      have HK1 : Hid (Blk V w.heap.size [.int .i64 zai, .int .i64 zah, .int .i64 zac, .int .i64 0]) := hide k1
      have HK2 : Hid (Blk V (w.heap.size + 1) [.int .i64 zbi, .int .i64 zah, .int .i64 zac, .int .i64 0]) := hide k2
      have BB := hide K.bel
      subst q7
      subst q8
      clear K k1 k2 hall
      go_wp2_with fail
      exact bodyPost_ret (results_ccBB (vs := [.int .i64 zai, .int .i64 zah, .int .i64 zac, .int .i64 0]) (us := [.int .i64 zbi, .int .i64 zah, .int .i64 zac, .int .i64 0]) (x := .int .i64 far) (y := .int .i64 (1 + cl)) rfl Try.isAgg76 Try.sizeOf76 rfl (by kernel_rfl) (unhide HK1) (by kernel_rfl) (unhide HK2) (by kernel_rfl) (by kernel_rfl)) rfl ⟨_, _, _, _, _, _, _, _, rfl, by omega, by omega, by omega, by omega, by omega, by omega, by omega, by omega, by omega, unhide BB⟩
  | false =>
    go_wp2_with fail
    refine (drOnce 4 _ (unhide MM).d (by omega)).mono ?_
    rintro x w12 ⟨yes2, rfl, d, gr⟩
    have MM := hide ((unhide MM).call gr d)
    clear d gr
    cases yes2 with
    | false =>
      go_wp2_with fail
      obtain ⟨zai, hzai⟩ : ∃ z, 1 + i1 = z := ⟨_, rfl⟩
      have bzai : 1 ≤ zai ∧ zai ≤ 18 := by omega
      obtain ⟨zah, hzah⟩ : ∃ z, 1000 + y1 * 10 = z := ⟨_, rfl⟩
      have bzah : 1000 ≤ zah ∧ zah ≤ 1590 := by omega
      obtain ⟨zac, hzac⟩ : ∃ z, c1 - 20 = z := ⟨_, rfl⟩
      have bzac : -20 ≤ zac ∧ zac ≤ 20 := by omega
      obtain ⟨zbi, hzbi⟩ : ∃ z, 10 + i2 = z := ⟨_, rfl⟩
      have bzbi : 1 ≤ zbi ∧ zbi ≤ 18 := by omega
      obtain ⟨zbh, hzbh⟩ : ∃ z, 1000 + y2 * 10 = z := ⟨_, rfl⟩
      have bzbh : 1000 ≤ zbh ∧ zbh ≤ 1590 := by omega
      obtain ⟨zbc, hzbc⟩ : ∃ z, c2 - 20 = z := ⟨_, rfl⟩
      have bzbc : -20 ≤ zbc ∧ zbc ≤ 20 := by omega
      have hne : ¬ zai = zbi := by omega
      simp only [hzai, hzah, hzac, hzbi, hzbh, hzbc] at MM ⊢
      clear hzai hzah hzac hzbi hzbh hzbc
      refine wp_region_flagsA (by kernel_rfl) (by kernel_rfl) (MrRJ w C A B a len cap [.int .i64 zai, .int .i64 zah, .int .i64 zac, .int .i64 0] [.int .i64 zbi, .int .i64 zbh, .int .i64 zbc, .int .i64 0]) ?_ ?_ ?_
      · exact MrRJ.mk (v0 := undef) (v1 := undef) (v2 := undef) (v3 := undef) (v4 := undef) (v5 := undef) (v6 := undef) (v7 := .int .i64 0) (v8 := .int .i64 0) ⟨(unhide MM).d.bel.trans (bel0d' 1), (unhide MM).ca, (unhide MM).cb, (unhide MM).rc, (unhide MM).ka.drewN 1, (unhide MM).kb.drewN 1, (unhide MM).k1.drewN 1, (unhide MM).k2.drewN 1, fun _ => (unhide MM).d.below (bel0d 1), (fun h => by cases h), (fun h => by cases h), (fun h => by cases h), (fun h => by cases h), (fun h => by cases h), (fun h => by cases h), (fun h => by cases h), (fun h => by cases h), (fun h => by cases h), (fun h => by cases h), (fun h => by cases h)⟩ (by kernel_rfl)
      rotate_left 1
      · rintro l b V i o ho hl hd ⟨v0, v1, v2, v3, v4, v5, v6, v7, v8, rfl, K⟩
        have hi : i < 11 := (Array.getElem?_eq_some_iff.1 ho).1
        rcases (show i = 0 ∨ i = 1 ∨ i = 2 ∨ i = 3 ∨ i = 4 ∨ i = 5 ∨ i = 6 ∨ i = 7 ∨ i = 8 ∨ i = 9 ∨ i = 10 from by omega) with rfl | rfl | rfl | rfl | rfl | rfl | rfl | rfl | rfl | rfl | rfl
        · simp at ho
          subst ho
          have yy0 : V.cell? ⟨A, 0, none⟩ = some (.int .i64 zai) := K.ka.c 0 (by simp)
          have yy1 : V.cell? ⟨A, 1, none⟩ = some (.int .i64 zah) := K.ka.c 1 (by simp)
          have yy2 : V.cell? ⟨A, 2, none⟩ = some (.int .i64 zac) := K.ka.c 2 (by simp)
          have yy3 : V.cell? ⟨A, 3, none⟩ = some (.int .i64 0) := K.ka.c 3 (by simp)
          have HK : Hid (MrR w C A B a len cap [.int .i64 zai, .int .i64 zah, .int .i64 zac, .int .i64 0] [.int .i64 zbi, .int .i64 zbh, .int .i64 zbc, .int .i64 0] true (l 1) (l 2) (l 3) (l 4) (l 5) (l 6) (l 7) (l 8) (l 9) (l 10) (.agg #[.int .i64 zai, .int .i64 zah, .int .i64 zac, .int .i64 0]) v1 v2 v3 v4 v5 v6 v7 v8 V) := hide ⟨(K.bel), (K.ca), (K.cb), (K.rc), (K.ka), (K.kb), (K.k1), (K.k2), (K.dr), (K.n5), (K.n7), (fun _ => rfl), (K.e1), (K.e2), (K.e3), (K.e4), (K.e5), (K.e6), (K.e9), (K.e10)⟩
          clear K hd hl
          go_wp2_with fail
          exact ⟨rfl, MrRJ.mk (unhide HK) (by kernel_rfl)⟩
        · simp at ho
          subst ho
          have yy0 : V.cell? ⟨B, 0, none⟩ = some (.int .i64 zbi) := K.kb.c 0 (by simp)
          have yy1 : V.cell? ⟨B, 1, none⟩ = some (.int .i64 zbh) := K.kb.c 1 (by simp)
          have yy2 : V.cell? ⟨B, 2, none⟩ = some (.int .i64 zbc) := K.kb.c 2 (by simp)
          have yy3 : V.cell? ⟨B, 3, none⟩ = some (.int .i64 0) := K.kb.c 3 (by simp)
          have HK : Hid (MrR w C A B a len cap [.int .i64 zai, .int .i64 zah, .int .i64 zac, .int .i64 0] [.int .i64 zbi, .int .i64 zbh, .int .i64 zbc, .int .i64 0] (l 0) true (l 2) (l 3) (l 4) (l 5) (l 6) (l 7) (l 8) (l 9) (l 10) v0 (.agg #[.int .i64 zbi, .int .i64 zbh, .int .i64 zbc, .int .i64 0]) v2 v3 v4 v5 v6 v7 v8 V) := hide ⟨(K.bel), (K.ca), (K.cb), (K.rc), (K.ka), (K.kb), (K.k1), (K.k2), (K.dr), (K.n5), (K.n7), (K.e0), (fun _ => rfl), (K.e2), (K.e3), (K.e4), (K.e5), (K.e6), (K.e9), (K.e10)⟩
          clear K hd hl
          go_wp2_with fail
          exact ⟨rfl, MrRJ.mk (unhide HK) (by kernel_rfl)⟩
        · simp at ho
          subst ho
          have HK : Hid (MrR w C A B a len cap [.int .i64 zai, .int .i64 zah, .int .i64 zac, .int .i64 0] [.int .i64 zbi, .int .i64 zbh, .int .i64 zbc, .int .i64 0] (l 0) (l 1) true (l 3) (l 4) (l 5) (l 6) (l 7) (l 8) (l 9) (l 10) v0 v1 (.pointer (some ⟨C, 0, none⟩)) v3 v4 v5 v6 v7 v8 V) := hide ⟨(K.bel), (K.ca), (K.cb), (K.rc), (K.ka), (K.kb), (K.k1), (K.k2), (K.dr), (K.n5), (K.n7), (K.e0), (K.e1), (fun _ => rfl), (K.e3), (K.e4), (K.e5), (K.e6), (K.e9), (K.e10)⟩
          clear K hd hl
          go_wp2_with fail
          exact ⟨rfl, MrRJ.mk (unhide HK) (by kernel_rfl)⟩
        · simp at ho
          subst ho
          have e2 := K.e2 (hd ⟨2, .data⟩ (by simp) rfl)
          have n5 : l 5 = false := by cases c : l 5; rfl; have := K.n5 c; rw [hl] at this; cases this
          have HD := hide (K.dr n5)
          have HK0 := hide K
          have N5 := hide n5
          subst e2
          clear K hd hl n5
          go_wp2_with (go_at_call 40; refine (drBelow 3000 _ (unhide HD) (by omega)).mono ?_; rintro e V2 ⟨xx, rfl, hx, d2, g2⟩; have K := unhide HK0; have HK : Hid (MrR w C A B a len cap [.int .i64 zai, .int .i64 zah, .int .i64 zac, .int .i64 0] [.int .i64 zbi, .int .i64 zbh, .int .i64 zbc, .int .i64 0] (l 0) (l 1) (l 2) true (l 4) (l 5) (l 6) (l 7) (l 8) (l 9) (l 10) v0 v1 (.pointer (some ⟨C, 0, none⟩)) (.int .i64 xx) v4 v5 v6 v7 v8 V2) := hide ⟨(d2.bel), (K.ca), (K.cb), (K.rc), (K.ka.apart g2 (fun e => by have := Option.some.inj e; have := K.ca; have := K.cb; have := K.rc; omega)), (K.kb.apart g2 (fun e => by have := Option.some.inj e; have := K.ca; have := K.cb; have := K.rc; omega)), (K.k1.apart g2 (fun e => by have := Option.some.inj e; have := K.ca; have := K.cb; have := K.rc; omega)), (K.k2.apart g2 (fun e => by have := Option.some.inj e; have := K.ca; have := K.cb; have := K.rc; omega)), (fun _ => d2), (fun _ => rfl), (K.n7), (K.e0), (K.e1), (fun _ => rfl), (fun _ => ⟨xx, rfl, hx.1, hx.2⟩), (K.e4), (K.e5), (K.e6), (K.e9), (K.e10)⟩; clear K d2 g2)
          exact ⟨rfl, MrRJ.mk (unhide HK) (by kernel_rfl)⟩
        · simp at ho
          subst ho
          have HK : Hid (MrR w C A B a len cap [.int .i64 zai, .int .i64 zah, .int .i64 zac, .int .i64 0] [.int .i64 zbi, .int .i64 zbh, .int .i64 zbc, .int .i64 0] (l 0) (l 1) (l 2) (l 3) true (l 5) (l 6) (l 7) (l 8) (l 9) (l 10) v0 v1 v2 v3 (.pointer (some ⟨C, 0, none⟩)) v5 v6 v7 v8 V) := hide ⟨(K.bel), (K.ca), (K.cb), (K.rc), (K.ka), (K.kb), (K.k1), (K.k2), (K.dr), (K.n5), (K.n7), (K.e0), (K.e1), (K.e2), (K.e3), (fun _ => rfl), (K.e5), (K.e6), (K.e9), (K.e10)⟩
          clear K hd hl
          go_wp2_with fail
          exact ⟨rfl, MrRJ.mk (unhide HK) (by kernel_rfl)⟩
        · simp at ho
          subst ho
          have e2 := K.e4 (hd ⟨4, .data⟩ (by simp) rfl)
          have n5 : l 5 = false := hl
          have d3 : l 3 = true := hd ⟨3, .chain⟩ (by simp) rfl
          have HD := hide (K.dr n5)
          have HK0 := hide K
          have D3 := hide d3
          subst e2
          clear K hd hl n5 d3
          go_wp2_with (go_at_call 40; refine (drBelow 100 _ (unhide HD) (by omega)).mono ?_; rintro e V2 ⟨xx, rfl, hx, d2, g2⟩; have K := unhide HK0; have HK : Hid (MrR w C A B a len cap [.int .i64 zai, .int .i64 zah, .int .i64 zac, .int .i64 0] [.int .i64 zbi, .int .i64 zbh, .int .i64 zbc, .int .i64 0] (l 0) (l 1) (l 2) (l 3) (l 4) true (l 6) (l 7) (l 8) (l 9) (l 10) v0 v1 v2 v3 (.pointer (some ⟨C, 0, none⟩)) (.int .i64 xx) v6 v7 v8 V2) := hide ⟨(d2.bel), (K.ca), (K.cb), (K.rc), (K.ka.apart g2 (fun e => by have := Option.some.inj e; have := K.ca; have := K.cb; have := K.rc; omega)), (K.kb.apart g2 (fun e => by have := Option.some.inj e; have := K.ca; have := K.cb; have := K.rc; omega)), (K.k1.apart g2 (fun e => by have := Option.some.inj e; have := K.ca; have := K.cb; have := K.rc; omega)), (K.k2.apart g2 (fun e => by have := Option.some.inj e; have := K.ca; have := K.cb; have := K.rc; omega)), (fun h => by cases h), (fun _ => unhide D3), (fun _ => rfl), (K.e0), (K.e1), (K.e2), (K.e3), (fun _ => rfl), (fun _ => ⟨xx, rfl, hx.1, hx.2⟩), (K.e6), (K.e9), (K.e10)⟩; clear K d2 g2)
          exact ⟨rfl, MrRJ.mk (unhide HK) (by kernel_rfl)⟩
        · simp at ho
          subst ho
          obtain ⟨xx, e5, hx⟩ := K.e5 (hd ⟨5, .data⟩ (by simp) rfl)
          have HK : Hid (MrR w C A B a len cap [.int .i64 zai, .int .i64 zah, .int .i64 zac, .int .i64 0] [.int .i64 zbi, .int .i64 zbh, .int .i64 zbc, .int .i64 0] (l 0) (l 1) (l 2) (l 3) (l 4) (l 5) true (l 7) (l 8) (l 9) (l 10) v0 v1 v2 v3 v4 v5 (.int .i64 (1 + xx)) v7 v8 V) := hide ⟨(K.bel), (K.ca), (K.cb), (K.rc), (K.ka), (K.kb), (K.k1), (K.k2), (K.dr), (K.n5), (K.n7), (K.e0), (K.e1), (K.e2), (K.e3), (K.e4), (K.e5), (fun _ => ⟨xx, rfl, hx⟩), (K.e9), (K.e10)⟩
          clear K hd hl
          subst e5
          go_wp2_with fail
          exact ⟨rfl, MrRJ.mk (unhide HK) (by kernel_rfl)⟩
        · simp at ho
          subst ho
          have e0 := K.e0 (hd ⟨0, .data⟩ (by simp) rfl)
          have k9 := K.k1
          rw [hl] at k9
          have d5 : l 5 = true := hd ⟨5, .chain⟩ (by simp) rfl
          have pa := K.ca
          have pb := K.cb
          have pc := K.rc
          have yy0 : V.cell? ⟨w.heap.size, 0, none⟩ = some (.int .i64 0) := k9.c 0 (by simp [Z4])
          have ff0 : V.frozen? ⟨w.heap.size, 0, none⟩ = false := k9.f 0 (by simp [Z4])
          have yy1 : V.cell? ⟨w.heap.size, 1, none⟩ = some (.int .i64 0) := k9.c 1 (by simp [Z4])
          have ff1 : V.frozen? ⟨w.heap.size, 1, none⟩ = false := k9.f 1 (by simp [Z4])
          have yy2 : V.cell? ⟨w.heap.size, 2, none⟩ = some (.int .i64 0) := k9.c 2 (by simp [Z4])
          have ff2 : V.frozen? ⟨w.heap.size, 2, none⟩ = false := k9.f 2 (by simp [Z4])
          have yy3 : V.cell? ⟨w.heap.size, 3, none⟩ = some (.int .i64 0) := k9.c 3 (by simp [Z4])
          have ff3 : V.frozen? ⟨w.heap.size, 3, none⟩ = false := k9.f 3 (by simp [Z4])
          subst e0
          have HK : Hid (MrR w C A B a len cap [.int .i64 zai, .int .i64 zah, .int .i64 zac, .int .i64 0] [.int .i64 zbi, .int .i64 zbh, .int .i64 zbc, .int .i64 0] (l 0) (l 1) (l 2) (l 3) (l 4) (l 5) (l 6) true (l 8) (l 9) (l 10) (.agg #[.int .i64 zai, .int .i64 zah, .int .i64 zac, .int .i64 0]) v1 v2 v3 v4 v5 v6 v7 v8 ((((V.setCell ⟨w.heap.size, 0, none⟩ (.int .i64 zai)).setCell ⟨w.heap.size, 1, none⟩ (.int .i64 zah)).setCell ⟨w.heap.size, 2, none⟩ (.int .i64 zac)).setCell ⟨w.heap.size, 3, none⟩ (.int .i64 0))) := hide ⟨(((((K.bel.setCell (p := ⟨w.heap.size, 0, none⟩) (by show w.heap.size ≤ w.heap.size; omega) _).setCell (p := ⟨w.heap.size, 1, none⟩) (by show w.heap.size ≤ w.heap.size; omega) _).setCell (p := ⟨w.heap.size, 2, none⟩) (by show w.heap.size ≤ w.heap.size; omega) _).setCell (p := ⟨w.heap.size, 3, none⟩) (by show w.heap.size ≤ w.heap.size; omega) _)), (K.ca), (K.cb), (K.rc), (((((K.ka.other (p := ⟨w.heap.size, 0, none⟩) (by show w.heap.size ≠ A; omega) _).other (p := ⟨w.heap.size, 1, none⟩) (by show w.heap.size ≠ A; omega) _).other (p := ⟨w.heap.size, 2, none⟩) (by show w.heap.size ≠ A; omega) _).other (p := ⟨w.heap.size, 3, none⟩) (by show w.heap.size ≠ A; omega) _)), (((((K.kb.other (p := ⟨w.heap.size, 0, none⟩) (by show w.heap.size ≠ B; omega) _).other (p := ⟨w.heap.size, 1, none⟩) (by show w.heap.size ≠ B; omega) _).other (p := ⟨w.heap.size, 2, none⟩) (by show w.heap.size ≠ B; omega) _).other (p := ⟨w.heap.size, 3, none⟩) (by show w.heap.size ≠ B; omega) _)), (((((k9.set 0 (by simp [Z4]) _).set 1 (by simp [Z4]) _).set 2 (by simp [Z4]) _).set 3 (by simp [Z4]) _)), (((((K.k2.other (p := ⟨w.heap.size, 0, none⟩) (by show w.heap.size ≠ w.heap.size + 1; omega) _).other (p := ⟨w.heap.size, 1, none⟩) (by show w.heap.size ≠ w.heap.size + 1; omega) _).other (p := ⟨w.heap.size, 2, none⟩) (by show w.heap.size ≠ w.heap.size + 1; omega) _).other (p := ⟨w.heap.size, 3, none⟩) (by show w.heap.size ≠ w.heap.size + 1; omega) _)), (fun h => by have := d5.symm.trans h; cases this), (K.n5), (fun _ => d5), (fun _ => rfl), (K.e1), (K.e2), (K.e3), (K.e4), (K.e5), (K.e6), (K.e9), (K.e10)⟩
          clear K hd hl k9 d5 pa pb pc
          go_wp2_with fail
          exact ⟨rfl, MrRJ.mk (unhide HK) (by kernel_rfl)⟩
        · simp at ho
          subst ho
          have e0 := K.e1 (hd ⟨1, .data⟩ (by simp) rfl)
          have k9 := K.k2
          rw [hl] at k9
          have d5 : l 5 = true := K.n7 (hd ⟨7, .chain⟩ (by simp) rfl)
          have pa := K.ca
          have pb := K.cb
          have pc := K.rc
          have yy0 : V.cell? ⟨(w.heap.size + 1), 0, none⟩ = some (.int .i64 0) := k9.c 0 (by simp [Z4])
          have ff0 : V.frozen? ⟨(w.heap.size + 1), 0, none⟩ = false := k9.f 0 (by simp [Z4])
          have yy1 : V.cell? ⟨(w.heap.size + 1), 1, none⟩ = some (.int .i64 0) := k9.c 1 (by simp [Z4])
          have ff1 : V.frozen? ⟨(w.heap.size + 1), 1, none⟩ = false := k9.f 1 (by simp [Z4])
          have yy2 : V.cell? ⟨(w.heap.size + 1), 2, none⟩ = some (.int .i64 0) := k9.c 2 (by simp [Z4])
          have ff2 : V.frozen? ⟨(w.heap.size + 1), 2, none⟩ = false := k9.f 2 (by simp [Z4])
          have yy3 : V.cell? ⟨(w.heap.size + 1), 3, none⟩ = some (.int .i64 0) := k9.c 3 (by simp [Z4])
          have ff3 : V.frozen? ⟨(w.heap.size + 1), 3, none⟩ = false := k9.f 3 (by simp [Z4])
          subst e0
          have HK : Hid (MrR w C A B a len cap [.int .i64 zai, .int .i64 zah, .int .i64 zac, .int .i64 0] [.int .i64 zbi, .int .i64 zbh, .int .i64 zbc, .int .i64 0] (l 0) (l 1) (l 2) (l 3) (l 4) (l 5) (l 6) (l 7) true (l 9) (l 10) v0 (.agg #[.int .i64 zbi, .int .i64 zbh, .int .i64 zbc, .int .i64 0]) v2 v3 v4 v5 v6 v7 v8 ((((V.setCell ⟨(w.heap.size + 1), 0, none⟩ (.int .i64 zbi)).setCell ⟨(w.heap.size + 1), 1, none⟩ (.int .i64 zbh)).setCell ⟨(w.heap.size + 1), 2, none⟩ (.int .i64 zbc)).setCell ⟨(w.heap.size + 1), 3, none⟩ (.int .i64 0))) := hide ⟨(((((K.bel.setCell (p := ⟨(w.heap.size + 1), 0, none⟩) (by show w.heap.size ≤ (w.heap.size + 1); omega) _).setCell (p := ⟨(w.heap.size + 1), 1, none⟩) (by show w.heap.size ≤ (w.heap.size + 1); omega) _).setCell (p := ⟨(w.heap.size + 1), 2, none⟩) (by show w.heap.size ≤ (w.heap.size + 1); omega) _).setCell (p := ⟨(w.heap.size + 1), 3, none⟩) (by show w.heap.size ≤ (w.heap.size + 1); omega) _)), (K.ca), (K.cb), (K.rc), (((((K.ka.other (p := ⟨(w.heap.size + 1), 0, none⟩) (by show (w.heap.size + 1) ≠ A; omega) _).other (p := ⟨(w.heap.size + 1), 1, none⟩) (by show (w.heap.size + 1) ≠ A; omega) _).other (p := ⟨(w.heap.size + 1), 2, none⟩) (by show (w.heap.size + 1) ≠ A; omega) _).other (p := ⟨(w.heap.size + 1), 3, none⟩) (by show (w.heap.size + 1) ≠ A; omega) _)), (((((K.kb.other (p := ⟨(w.heap.size + 1), 0, none⟩) (by show (w.heap.size + 1) ≠ B; omega) _).other (p := ⟨(w.heap.size + 1), 1, none⟩) (by show (w.heap.size + 1) ≠ B; omega) _).other (p := ⟨(w.heap.size + 1), 2, none⟩) (by show (w.heap.size + 1) ≠ B; omega) _).other (p := ⟨(w.heap.size + 1), 3, none⟩) (by show (w.heap.size + 1) ≠ B; omega) _)), (((((K.k1.other (p := ⟨(w.heap.size + 1), 0, none⟩) (by show (w.heap.size + 1) ≠ w.heap.size; omega) _).other (p := ⟨(w.heap.size + 1), 1, none⟩) (by show (w.heap.size + 1) ≠ w.heap.size; omega) _).other (p := ⟨(w.heap.size + 1), 2, none⟩) (by show (w.heap.size + 1) ≠ w.heap.size; omega) _).other (p := ⟨(w.heap.size + 1), 3, none⟩) (by show (w.heap.size + 1) ≠ w.heap.size; omega) _)), (((((k9.set 0 (by simp [Z4]) _).set 1 (by simp [Z4]) _).set 2 (by simp [Z4]) _).set 3 (by simp [Z4]) _)), (fun h => by have := d5.symm.trans h; cases this), (K.n5), (K.n7), (K.e0), (fun _ => rfl), (K.e2), (K.e3), (K.e4), (K.e5), (K.e6), (K.e9), (K.e10)⟩
          clear K hd hl k9 d5 pa pb pc
          go_wp2_with fail
          exact ⟨rfl, MrRJ.mk (unhide HK) (by kernel_rfl)⟩
        · simp at ho
          subst ho
          obtain ⟨xx, e5, hx⟩ := K.e3 (hd ⟨3, .data⟩ (by simp) rfl)
          have HK : Hid (MrR w C A B a len cap [.int .i64 zai, .int .i64 zah, .int .i64 zac, .int .i64 0] [.int .i64 zbi, .int .i64 zbh, .int .i64 zbc, .int .i64 0] (l 0) (l 1) (l 2) (l 3) (l 4) (l 5) (l 6) (l 7) (l 8) true (l 10) v0 v1 v2 v3 v4 v5 v6 (.int .i64 xx) v8 V) := hide ⟨(K.bel), (K.ca), (K.cb), (K.rc), (K.ka), (K.kb), (K.k1), (K.k2), (K.dr), (K.n5), (K.n7), (K.e0), (K.e1), (K.e2), (K.e3), (K.e4), (K.e5), (K.e6), (fun _ => ⟨xx, rfl, hx⟩), (K.e10)⟩
          clear K hd hl
          subst e5
          go_wp2_with fail
          exact ⟨rfl, MrRJ.mk (unhide HK) (by kernel_rfl)⟩
        · simp at ho
          subst ho
          obtain ⟨xx, e5, hx⟩ := K.e6 (hd ⟨6, .data⟩ (by simp) rfl)
          have HK : Hid (MrR w C A B a len cap [.int .i64 zai, .int .i64 zah, .int .i64 zac, .int .i64 0] [.int .i64 zbi, .int .i64 zbh, .int .i64 zbc, .int .i64 0] (l 0) (l 1) (l 2) (l 3) (l 4) (l 5) (l 6) (l 7) (l 8) (l 9) true v0 v1 v2 v3 v4 v5 v6 v7 (.int .i64 (1 + xx)) V) := hide ⟨(K.bel), (K.ca), (K.cb), (K.rc), (K.ka), (K.kb), (K.k1), (K.k2), (K.dr), (K.n5), (K.n7), (K.e0), (K.e1), (K.e2), (K.e3), (K.e4), (K.e5), (K.e6), (K.e9), (fun _ => ⟨xx, rfl, hx⟩)⟩
          clear K hd hl
          subst e5
          go_wp2_with fail
          exact ⟨rfl, MrRJ.mk (unhide HK) (by kernel_rfl)⟩
      rintro l b V hall ⟨v0, v1, v2, v3, v4, v5, v6, v7, v8, rfl, K⟩
      obtain ⟨far, q7, hfar⟩ := K.e9 (hall 9 (by decide))
      obtain ⟨cl, q8, hcl⟩ := K.e10 (hall 10 (by decide))
      have k1 := K.k1
      have k2 := K.k2
      rw [hall 7 (by decide)] at k1
      rw [hall 8 (by decide)] at k2
      have HK1 : Hid (Blk V w.heap.size [.int .i64 zai, .int .i64 zah, .int .i64 zac, .int .i64 0]) := hide k1
      have HK2 : Hid (Blk V (w.heap.size + 1) [.int .i64 zbi, .int .i64 zbh, .int .i64 zbc, .int .i64 0]) := hide k2
      have BB := hide K.bel
      subst q7
      subst q8
      clear K k1 k2 hall
      go_wp2_with fail
      exact bodyPost_ret (results_ccBB (vs := [.int .i64 zai, .int .i64 zah, .int .i64 zac, .int .i64 0]) (us := [.int .i64 zbi, .int .i64 zbh, .int .i64 zbc, .int .i64 0]) (x := .int .i64 far) (y := .int .i64 (1 + cl)) rfl Try.isAgg76 Try.sizeOf76 rfl (by kernel_rfl) (unhide HK1) (by kernel_rfl) (unhide HK2) (by kernel_rfl) (by kernel_rfl)) rfl ⟨_, _, _, _, _, _, _, _, rfl, by omega, by omega, by omega, by omega, by omega, by omega, by omega, by omega, by omega, unhide BB⟩
    | true =>
      have da1 : w12.cell? ⟨A, 1, none⟩ = some (.int .i64 (1000 + y1 * 10)) := (unhide MM).ka.c 1 (by simp)
      have da2 : w12.cell? ⟨A, 2, none⟩ = some (.int .i64 (c1 - 20)) := (unhide MM).ka.c 2 (by simp)
      have db1 : w12.cell? ⟨B, 1, none⟩ = some (.int .i64 (1000 + y2 * 10)) := (unhide MM).kb.c 1 (by simp)
      have db2 : w12.cell? ⟨B, 2, none⟩ = some (.int .i64 (c2 - 20)) := (unhide MM).kb.c 2 (by simp)
      have f1 : w12.frozen? ⟨B, 1, none⟩ = false := (unhide MM).kb.f 1 (by simp)
      have f2 : w12.frozen? ⟨B, 2, none⟩ = false := (unhide MM).kb.f 2 (by simp)
      obtain ⟨V4, hV4⟩ : ∃ V, V = (w12.setCell ⟨B, 1, none⟩ (.int .i64 (1000 + y1 * 10))).setCell ⟨B, 2, none⟩ (.int .i64 (c1 - 20)) := ⟨_, rfl⟩
      have M4 : Hid (Mt w C A B a len cap [.int .i64 (1 + i1), .int .i64 (1000 + y1 * 10), .int .i64 (c1 - 20), .int .i64 0] [.int .i64 (10 + i2), .int .i64 (1000 + y1 * 10), .int .i64 (c1 - 20), .int .i64 0] V4) := hide (by rw [hV4]; exact ((unhide MM).setB (unhide HIN) 1 (by simp) _).setB (unhide HIN) 2 (by simp) _)
      have HV4 := hide hV4
      clear hV4
      have hab := (unhide MM).ab
      have e1 : (w12.setCell ⟨B, 1, none⟩ (.int .i64 (1000 + y1 * 10))).cell? ⟨A, 2, none⟩ = some (.int .i64 (c1 - 20)) := (World.cell?_setCell_other _ _ _ _ (by intro e; simp only [Addr.mk.injEq] at e; exact hab e.1.symm)).trans da2
      clear hab
      go_wp2_with fail
      rw [← unhide HV4]
      clear HV4 da1 da2 db1 db2 f1 f2 e1
      obtain ⟨zai, hzai⟩ : ∃ z, 1 + i1 = z := ⟨_, rfl⟩
      have bzai : 1 ≤ zai ∧ zai ≤ 18 := by omega
      obtain ⟨zah, hzah⟩ : ∃ z, 1000 + y1 * 10 = z := ⟨_, rfl⟩
      have bzah : 1000 ≤ zah ∧ zah ≤ 1590 := by omega
      obtain ⟨zac, hzac⟩ : ∃ z, c1 - 20 = z := ⟨_, rfl⟩
      have bzac : -20 ≤ zac ∧ zac ≤ 20 := by omega
      obtain ⟨zbi, hzbi⟩ : ∃ z, 10 + i2 = z := ⟨_, rfl⟩
      have bzbi : 1 ≤ zbi ∧ zbi ≤ 18 := by omega
      have hne : ¬ zai = zbi := by omega
      simp only [hzai, hzah, hzac, hzbi] at M4 ⊢
      clear hzai hzah hzac hzbi
      refine wp_region_flagsA (by kernel_rfl) (by kernel_rfl) (MrRJ w C A B a len cap [.int .i64 zai, .int .i64 zah, .int .i64 zac, .int .i64 0] [.int .i64 zbi, .int .i64 zah, .int .i64 zac, .int .i64 0]) ?_ ?_ ?_
      · exact MrRJ.mk (v0 := undef) (v1 := undef) (v2 := undef) (v3 := undef) (v4 := undef) (v5 := undef) (v6 := undef) (v7 := .int .i64 0) (v8 := .int .i64 0) ⟨(unhide M4).d.bel.trans (bel0d' 1), (unhide M4).ca, (unhide M4).cb, (unhide M4).rc, (unhide M4).ka.drewN 1, (unhide M4).kb.drewN 1, (unhide M4).k1.drewN 1, (unhide M4).k2.drewN 1, fun _ => (unhide M4).d.below (bel0d 1), (fun h => by cases h), (fun h => by cases h), (fun h => by cases h), (fun h => by cases h), (fun h => by cases h), (fun h => by cases h), (fun h => by cases h), (fun h => by cases h), (fun h => by cases h), (fun h => by cases h), (fun h => by cases h)⟩ (by kernel_rfl)
      rotate_left 1
      · rintro l b V i o ho hl hd ⟨v0, v1, v2, v3, v4, v5, v6, v7, v8, rfl, K⟩
        have hi : i < 11 := (Array.getElem?_eq_some_iff.1 ho).1
        rcases (show i = 0 ∨ i = 1 ∨ i = 2 ∨ i = 3 ∨ i = 4 ∨ i = 5 ∨ i = 6 ∨ i = 7 ∨ i = 8 ∨ i = 9 ∨ i = 10 from by omega) with rfl | rfl | rfl | rfl | rfl | rfl | rfl | rfl | rfl | rfl | rfl
        · simp at ho
          subst ho
          have yy0 : V.cell? ⟨A, 0, none⟩ = some (.int .i64 zai) := K.ka.c 0 (by simp)
          have yy1 : V.cell? ⟨A, 1, none⟩ = some (.int .i64 zah) := K.ka.c 1 (by simp)
          have yy2 : V.cell? ⟨A, 2, none⟩ = some (.int .i64 zac) := K.ka.c 2 (by simp)
          have yy3 : V.cell? ⟨A, 3, none⟩ = some (.int .i64 0) := K.ka.c 3 (by simp)
          have HK : Hid (MrR w C A B a len cap [.int .i64 zai, .int .i64 zah, .int .i64 zac, .int .i64 0] [.int .i64 zbi, .int .i64 zah, .int .i64 zac, .int .i64 0] true (l 1) (l 2) (l 3) (l 4) (l 5) (l 6) (l 7) (l 8) (l 9) (l 10) (.agg #[.int .i64 zai, .int .i64 zah, .int .i64 zac, .int .i64 0]) v1 v2 v3 v4 v5 v6 v7 v8 V) := hide ⟨(K.bel), (K.ca), (K.cb), (K.rc), (K.ka), (K.kb), (K.k1), (K.k2), (K.dr), (K.n5), (K.n7), (fun _ => rfl), (K.e1), (K.e2), (K.e3), (K.e4), (K.e5), (K.e6), (K.e9), (K.e10)⟩
          clear K hd hl
          go_wp2_with fail
          exact ⟨rfl, MrRJ.mk (unhide HK) (by kernel_rfl)⟩
        · simp at ho
          subst ho
          have yy0 : V.cell? ⟨B, 0, none⟩ = some (.int .i64 zbi) := K.kb.c 0 (by simp)
          have yy1 : V.cell? ⟨B, 1, none⟩ = some (.int .i64 zah) := K.kb.c 1 (by simp)
          have yy2 : V.cell? ⟨B, 2, none⟩ = some (.int .i64 zac) := K.kb.c 2 (by simp)
          have yy3 : V.cell? ⟨B, 3, none⟩ = some (.int .i64 0) := K.kb.c 3 (by simp)
          have HK : Hid (MrR w C A B a len cap [.int .i64 zai, .int .i64 zah, .int .i64 zac, .int .i64 0] [.int .i64 zbi, .int .i64 zah, .int .i64 zac, .int .i64 0] (l 0) true (l 2) (l 3) (l 4) (l 5) (l 6) (l 7) (l 8) (l 9) (l 10) v0 (.agg #[.int .i64 zbi, .int .i64 zah, .int .i64 zac, .int .i64 0]) v2 v3 v4 v5 v6 v7 v8 V) := hide ⟨(K.bel), (K.ca), (K.cb), (K.rc), (K.ka), (K.kb), (K.k1), (K.k2), (K.dr), (K.n5), (K.n7), (K.e0), (fun _ => rfl), (K.e2), (K.e3), (K.e4), (K.e5), (K.e6), (K.e9), (K.e10)⟩
          clear K hd hl
          go_wp2_with fail
          exact ⟨rfl, MrRJ.mk (unhide HK) (by kernel_rfl)⟩
        · simp at ho
          subst ho
          have HK : Hid (MrR w C A B a len cap [.int .i64 zai, .int .i64 zah, .int .i64 zac, .int .i64 0] [.int .i64 zbi, .int .i64 zah, .int .i64 zac, .int .i64 0] (l 0) (l 1) true (l 3) (l 4) (l 5) (l 6) (l 7) (l 8) (l 9) (l 10) v0 v1 (.pointer (some ⟨C, 0, none⟩)) v3 v4 v5 v6 v7 v8 V) := hide ⟨(K.bel), (K.ca), (K.cb), (K.rc), (K.ka), (K.kb), (K.k1), (K.k2), (K.dr), (K.n5), (K.n7), (K.e0), (K.e1), (fun _ => rfl), (K.e3), (K.e4), (K.e5), (K.e6), (K.e9), (K.e10)⟩
          clear K hd hl
          go_wp2_with fail
          exact ⟨rfl, MrRJ.mk (unhide HK) (by kernel_rfl)⟩
        · simp at ho
          subst ho
          have e2 := K.e2 (hd ⟨2, .data⟩ (by simp) rfl)
          have n5 : l 5 = false := by cases c : l 5; rfl; have := K.n5 c; rw [hl] at this; cases this
          have HD := hide (K.dr n5)
          have HK0 := hide K
          have N5 := hide n5
          subst e2
          clear K hd hl n5
          go_wp2_with (go_at_call 40; refine (drBelow 3000 _ (unhide HD) (by omega)).mono ?_; rintro e V2 ⟨xx, rfl, hx, d2, g2⟩; have K := unhide HK0; have HK : Hid (MrR w C A B a len cap [.int .i64 zai, .int .i64 zah, .int .i64 zac, .int .i64 0] [.int .i64 zbi, .int .i64 zah, .int .i64 zac, .int .i64 0] (l 0) (l 1) (l 2) true (l 4) (l 5) (l 6) (l 7) (l 8) (l 9) (l 10) v0 v1 (.pointer (some ⟨C, 0, none⟩)) (.int .i64 xx) v4 v5 v6 v7 v8 V2) := hide ⟨(d2.bel), (K.ca), (K.cb), (K.rc), (K.ka.apart g2 (fun e => by have := Option.some.inj e; have := K.ca; have := K.cb; have := K.rc; omega)), (K.kb.apart g2 (fun e => by have := Option.some.inj e; have := K.ca; have := K.cb; have := K.rc; omega)), (K.k1.apart g2 (fun e => by have := Option.some.inj e; have := K.ca; have := K.cb; have := K.rc; omega)), (K.k2.apart g2 (fun e => by have := Option.some.inj e; have := K.ca; have := K.cb; have := K.rc; omega)), (fun _ => d2), (fun _ => rfl), (K.n7), (K.e0), (K.e1), (fun _ => rfl), (fun _ => ⟨xx, rfl, hx.1, hx.2⟩), (K.e4), (K.e5), (K.e6), (K.e9), (K.e10)⟩; clear K d2 g2)
          exact ⟨rfl, MrRJ.mk (unhide HK) (by kernel_rfl)⟩
        · simp at ho
          subst ho
          have HK : Hid (MrR w C A B a len cap [.int .i64 zai, .int .i64 zah, .int .i64 zac, .int .i64 0] [.int .i64 zbi, .int .i64 zah, .int .i64 zac, .int .i64 0] (l 0) (l 1) (l 2) (l 3) true (l 5) (l 6) (l 7) (l 8) (l 9) (l 10) v0 v1 v2 v3 (.pointer (some ⟨C, 0, none⟩)) v5 v6 v7 v8 V) := hide ⟨(K.bel), (K.ca), (K.cb), (K.rc), (K.ka), (K.kb), (K.k1), (K.k2), (K.dr), (K.n5), (K.n7), (K.e0), (K.e1), (K.e2), (K.e3), (fun _ => rfl), (K.e5), (K.e6), (K.e9), (K.e10)⟩
          clear K hd hl
          go_wp2_with fail
          exact ⟨rfl, MrRJ.mk (unhide HK) (by kernel_rfl)⟩
        · simp at ho
          subst ho
          have e2 := K.e4 (hd ⟨4, .data⟩ (by simp) rfl)
          have n5 : l 5 = false := hl
          have d3 : l 3 = true := hd ⟨3, .chain⟩ (by simp) rfl
          have HD := hide (K.dr n5)
          have HK0 := hide K
          have D3 := hide d3
          subst e2
          clear K hd hl n5 d3
          go_wp2_with (go_at_call 40; refine (drBelow 100 _ (unhide HD) (by omega)).mono ?_; rintro e V2 ⟨xx, rfl, hx, d2, g2⟩; have K := unhide HK0; have HK : Hid (MrR w C A B a len cap [.int .i64 zai, .int .i64 zah, .int .i64 zac, .int .i64 0] [.int .i64 zbi, .int .i64 zah, .int .i64 zac, .int .i64 0] (l 0) (l 1) (l 2) (l 3) (l 4) true (l 6) (l 7) (l 8) (l 9) (l 10) v0 v1 v2 v3 (.pointer (some ⟨C, 0, none⟩)) (.int .i64 xx) v6 v7 v8 V2) := hide ⟨(d2.bel), (K.ca), (K.cb), (K.rc), (K.ka.apart g2 (fun e => by have := Option.some.inj e; have := K.ca; have := K.cb; have := K.rc; omega)), (K.kb.apart g2 (fun e => by have := Option.some.inj e; have := K.ca; have := K.cb; have := K.rc; omega)), (K.k1.apart g2 (fun e => by have := Option.some.inj e; have := K.ca; have := K.cb; have := K.rc; omega)), (K.k2.apart g2 (fun e => by have := Option.some.inj e; have := K.ca; have := K.cb; have := K.rc; omega)), (fun h => by cases h), (fun _ => unhide D3), (fun _ => rfl), (K.e0), (K.e1), (K.e2), (K.e3), (fun _ => rfl), (fun _ => ⟨xx, rfl, hx.1, hx.2⟩), (K.e6), (K.e9), (K.e10)⟩; clear K d2 g2)
          exact ⟨rfl, MrRJ.mk (unhide HK) (by kernel_rfl)⟩
        · simp at ho
          subst ho
          obtain ⟨xx, e5, hx⟩ := K.e5 (hd ⟨5, .data⟩ (by simp) rfl)
          have HK : Hid (MrR w C A B a len cap [.int .i64 zai, .int .i64 zah, .int .i64 zac, .int .i64 0] [.int .i64 zbi, .int .i64 zah, .int .i64 zac, .int .i64 0] (l 0) (l 1) (l 2) (l 3) (l 4) (l 5) true (l 7) (l 8) (l 9) (l 10) v0 v1 v2 v3 v4 v5 (.int .i64 (1 + xx)) v7 v8 V) := hide ⟨(K.bel), (K.ca), (K.cb), (K.rc), (K.ka), (K.kb), (K.k1), (K.k2), (K.dr), (K.n5), (K.n7), (K.e0), (K.e1), (K.e2), (K.e3), (K.e4), (K.e5), (fun _ => ⟨xx, rfl, hx⟩), (K.e9), (K.e10)⟩
          clear K hd hl
          subst e5
          go_wp2_with fail
          exact ⟨rfl, MrRJ.mk (unhide HK) (by kernel_rfl)⟩
        · simp at ho
          subst ho
          have e0 := K.e0 (hd ⟨0, .data⟩ (by simp) rfl)
          have k9 := K.k1
          rw [hl] at k9
          have d5 : l 5 = true := hd ⟨5, .chain⟩ (by simp) rfl
          have pa := K.ca
          have pb := K.cb
          have pc := K.rc
          have yy0 : V.cell? ⟨w.heap.size, 0, none⟩ = some (.int .i64 0) := k9.c 0 (by simp [Z4])
          have ff0 : V.frozen? ⟨w.heap.size, 0, none⟩ = false := k9.f 0 (by simp [Z4])
          have yy1 : V.cell? ⟨w.heap.size, 1, none⟩ = some (.int .i64 0) := k9.c 1 (by simp [Z4])
          have ff1 : V.frozen? ⟨w.heap.size, 1, none⟩ = false := k9.f 1 (by simp [Z4])
          have yy2 : V.cell? ⟨w.heap.size, 2, none⟩ = some (.int .i64 0) := k9.c 2 (by simp [Z4])
          have ff2 : V.frozen? ⟨w.heap.size, 2, none⟩ = false := k9.f 2 (by simp [Z4])
          have yy3 : V.cell? ⟨w.heap.size, 3, none⟩ = some (.int .i64 0) := k9.c 3 (by simp [Z4])
          have ff3 : V.frozen? ⟨w.heap.size, 3, none⟩ = false := k9.f 3 (by simp [Z4])
          subst e0
          have HK : Hid (MrR w C A B a len cap [.int .i64 zai, .int .i64 zah, .int .i64 zac, .int .i64 0] [.int .i64 zbi, .int .i64 zah, .int .i64 zac, .int .i64 0] (l 0) (l 1) (l 2) (l 3) (l 4) (l 5) (l 6) true (l 8) (l 9) (l 10) (.agg #[.int .i64 zai, .int .i64 zah, .int .i64 zac, .int .i64 0]) v1 v2 v3 v4 v5 v6 v7 v8 ((((V.setCell ⟨w.heap.size, 0, none⟩ (.int .i64 zai)).setCell ⟨w.heap.size, 1, none⟩ (.int .i64 zah)).setCell ⟨w.heap.size, 2, none⟩ (.int .i64 zac)).setCell ⟨w.heap.size, 3, none⟩ (.int .i64 0))) := hide ⟨(((((K.bel.setCell (p := ⟨w.heap.size, 0, none⟩) (by show w.heap.size ≤ w.heap.size; omega) _).setCell (p := ⟨w.heap.size, 1, none⟩) (by show w.heap.size ≤ w.heap.size; omega) _).setCell (p := ⟨w.heap.size, 2, none⟩) (by show w.heap.size ≤ w.heap.size; omega) _).setCell (p := ⟨w.heap.size, 3, none⟩) (by show w.heap.size ≤ w.heap.size; omega) _)), (K.ca), (K.cb), (K.rc), (((((K.ka.other (p := ⟨w.heap.size, 0, none⟩) (by show w.heap.size ≠ A; omega) _).other (p := ⟨w.heap.size, 1, none⟩) (by show w.heap.size ≠ A; omega) _).other (p := ⟨w.heap.size, 2, none⟩) (by show w.heap.size ≠ A; omega) _).other (p := ⟨w.heap.size, 3, none⟩) (by show w.heap.size ≠ A; omega) _)), (((((K.kb.other (p := ⟨w.heap.size, 0, none⟩) (by show w.heap.size ≠ B; omega) _).other (p := ⟨w.heap.size, 1, none⟩) (by show w.heap.size ≠ B; omega) _).other (p := ⟨w.heap.size, 2, none⟩) (by show w.heap.size ≠ B; omega) _).other (p := ⟨w.heap.size, 3, none⟩) (by show w.heap.size ≠ B; omega) _)), (((((k9.set 0 (by simp [Z4]) _).set 1 (by simp [Z4]) _).set 2 (by simp [Z4]) _).set 3 (by simp [Z4]) _)), (((((K.k2.other (p := ⟨w.heap.size, 0, none⟩) (by show w.heap.size ≠ w.heap.size + 1; omega) _).other (p := ⟨w.heap.size, 1, none⟩) (by show w.heap.size ≠ w.heap.size + 1; omega) _).other (p := ⟨w.heap.size, 2, none⟩) (by show w.heap.size ≠ w.heap.size + 1; omega) _).other (p := ⟨w.heap.size, 3, none⟩) (by show w.heap.size ≠ w.heap.size + 1; omega) _)), (fun h => by have := d5.symm.trans h; cases this), (K.n5), (fun _ => d5), (fun _ => rfl), (K.e1), (K.e2), (K.e3), (K.e4), (K.e5), (K.e6), (K.e9), (K.e10)⟩
          clear K hd hl k9 d5 pa pb pc
          go_wp2_with fail
          exact ⟨rfl, MrRJ.mk (unhide HK) (by kernel_rfl)⟩
        · simp at ho
          subst ho
          have e0 := K.e1 (hd ⟨1, .data⟩ (by simp) rfl)
          have k9 := K.k2
          rw [hl] at k9
          have d5 : l 5 = true := K.n7 (hd ⟨7, .chain⟩ (by simp) rfl)
          have pa := K.ca
          have pb := K.cb
          have pc := K.rc
          have yy0 : V.cell? ⟨(w.heap.size + 1), 0, none⟩ = some (.int .i64 0) := k9.c 0 (by simp [Z4])
          have ff0 : V.frozen? ⟨(w.heap.size + 1), 0, none⟩ = false := k9.f 0 (by simp [Z4])
          have yy1 : V.cell? ⟨(w.heap.size + 1), 1, none⟩ = some (.int .i64 0) := k9.c 1 (by simp [Z4])
          have ff1 : V.frozen? ⟨(w.heap.size + 1), 1, none⟩ = false := k9.f 1 (by simp [Z4])
          have yy2 : V.cell? ⟨(w.heap.size + 1), 2, none⟩ = some (.int .i64 0) := k9.c 2 (by simp [Z4])
          have ff2 : V.frozen? ⟨(w.heap.size + 1), 2, none⟩ = false := k9.f 2 (by simp [Z4])
          have yy3 : V.cell? ⟨(w.heap.size + 1), 3, none⟩ = some (.int .i64 0) := k9.c 3 (by simp [Z4])
          have ff3 : V.frozen? ⟨(w.heap.size + 1), 3, none⟩ = false := k9.f 3 (by simp [Z4])
          subst e0
          have HK : Hid (MrR w C A B a len cap [.int .i64 zai, .int .i64 zah, .int .i64 zac, .int .i64 0] [.int .i64 zbi, .int .i64 zah, .int .i64 zac, .int .i64 0] (l 0) (l 1) (l 2) (l 3) (l 4) (l 5) (l 6) (l 7) true (l 9) (l 10) v0 (.agg #[.int .i64 zbi, .int .i64 zah, .int .i64 zac, .int .i64 0]) v2 v3 v4 v5 v6 v7 v8 ((((V.setCell ⟨(w.heap.size + 1), 0, none⟩ (.int .i64 zbi)).setCell ⟨(w.heap.size + 1), 1, none⟩ (.int .i64 zah)).setCell ⟨(w.heap.size + 1), 2, none⟩ (.int .i64 zac)).setCell ⟨(w.heap.size + 1), 3, none⟩ (.int .i64 0))) := hide ⟨(((((K.bel.setCell (p := ⟨(w.heap.size + 1), 0, none⟩) (by show w.heap.size ≤ (w.heap.size + 1); omega) _).setCell (p := ⟨(w.heap.size + 1), 1, none⟩) (by show w.heap.size ≤ (w.heap.size + 1); omega) _).setCell (p := ⟨(w.heap.size + 1), 2, none⟩) (by show w.heap.size ≤ (w.heap.size + 1); omega) _).setCell (p := ⟨(w.heap.size + 1), 3, none⟩) (by show w.heap.size ≤ (w.heap.size + 1); omega) _)), (K.ca), (K.cb), (K.rc), (((((K.ka.other (p := ⟨(w.heap.size + 1), 0, none⟩) (by show (w.heap.size + 1) ≠ A; omega) _).other (p := ⟨(w.heap.size + 1), 1, none⟩) (by show (w.heap.size + 1) ≠ A; omega) _).other (p := ⟨(w.heap.size + 1), 2, none⟩) (by show (w.heap.size + 1) ≠ A; omega) _).other (p := ⟨(w.heap.size + 1), 3, none⟩) (by show (w.heap.size + 1) ≠ A; omega) _)), (((((K.kb.other (p := ⟨(w.heap.size + 1), 0, none⟩) (by show (w.heap.size + 1) ≠ B; omega) _).other (p := ⟨(w.heap.size + 1), 1, none⟩) (by show (w.heap.size + 1) ≠ B; omega) _).other (p := ⟨(w.heap.size + 1), 2, none⟩) (by show (w.heap.size + 1) ≠ B; omega) _).other (p := ⟨(w.heap.size + 1), 3, none⟩) (by show (w.heap.size + 1) ≠ B; omega) _)), (((((K.k1.other (p := ⟨(w.heap.size + 1), 0, none⟩) (by show (w.heap.size + 1) ≠ w.heap.size; omega) _).other (p := ⟨(w.heap.size + 1), 1, none⟩) (by show (w.heap.size + 1) ≠ w.heap.size; omega) _).other (p := ⟨(w.heap.size + 1), 2, none⟩) (by show (w.heap.size + 1) ≠ w.heap.size; omega) _).other (p := ⟨(w.heap.size + 1), 3, none⟩) (by show (w.heap.size + 1) ≠ w.heap.size; omega) _)), (((((k9.set 0 (by simp [Z4]) _).set 1 (by simp [Z4]) _).set 2 (by simp [Z4]) _).set 3 (by simp [Z4]) _)), (fun h => by have := d5.symm.trans h; cases this), (K.n5), (K.n7), (K.e0), (fun _ => rfl), (K.e2), (K.e3), (K.e4), (K.e5), (K.e6), (K.e9), (K.e10)⟩
          clear K hd hl k9 d5 pa pb pc
          go_wp2_with fail
          exact ⟨rfl, MrRJ.mk (unhide HK) (by kernel_rfl)⟩
        · simp at ho
          subst ho
          obtain ⟨xx, e5, hx⟩ := K.e3 (hd ⟨3, .data⟩ (by simp) rfl)
          have HK : Hid (MrR w C A B a len cap [.int .i64 zai, .int .i64 zah, .int .i64 zac, .int .i64 0] [.int .i64 zbi, .int .i64 zah, .int .i64 zac, .int .i64 0] (l 0) (l 1) (l 2) (l 3) (l 4) (l 5) (l 6) (l 7) (l 8) true (l 10) v0 v1 v2 v3 v4 v5 v6 (.int .i64 xx) v8 V) := hide ⟨(K.bel), (K.ca), (K.cb), (K.rc), (K.ka), (K.kb), (K.k1), (K.k2), (K.dr), (K.n5), (K.n7), (K.e0), (K.e1), (K.e2), (K.e3), (K.e4), (K.e5), (K.e6), (fun _ => ⟨xx, rfl, hx⟩), (K.e10)⟩
          clear K hd hl
          subst e5
          go_wp2_with fail
          exact ⟨rfl, MrRJ.mk (unhide HK) (by kernel_rfl)⟩
        · simp at ho
          subst ho
          obtain ⟨xx, e5, hx⟩ := K.e6 (hd ⟨6, .data⟩ (by simp) rfl)
          have HK : Hid (MrR w C A B a len cap [.int .i64 zai, .int .i64 zah, .int .i64 zac, .int .i64 0] [.int .i64 zbi, .int .i64 zah, .int .i64 zac, .int .i64 0] (l 0) (l 1) (l 2) (l 3) (l 4) (l 5) (l 6) (l 7) (l 8) (l 9) true v0 v1 v2 v3 v4 v5 v6 v7 (.int .i64 (1 + xx)) V) := hide ⟨(K.bel), (K.ca), (K.cb), (K.rc), (K.ka), (K.kb), (K.k1), (K.k2), (K.dr), (K.n5), (K.n7), (K.e0), (K.e1), (K.e2), (K.e3), (K.e4), (K.e5), (K.e6), (K.e9), (fun _ => ⟨xx, rfl, hx⟩)⟩
          clear K hd hl
          subst e5
          go_wp2_with fail
          exact ⟨rfl, MrRJ.mk (unhide HK) (by kernel_rfl)⟩
      rintro l b V hall ⟨v0, v1, v2, v3, v4, v5, v6, v7, v8, rfl, K⟩
      obtain ⟨far, q7, hfar⟩ := K.e9 (hall 9 (by decide))
      obtain ⟨cl, q8, hcl⟩ := K.e10 (hall 10 (by decide))
      have k1 := K.k1
      have k2 := K.k2
      rw [hall 7 (by decide)] at k1
      rw [hall 8 (by decide)] at k2
      have HK1 : Hid (Blk V w.heap.size [.int .i64 zai, .int .i64 zah, .int .i64 zac, .int .i64 0]) := hide k1
      have HK2 : Hid (Blk V (w.heap.size + 1) [.int .i64 zbi, .int .i64 zah, .int .i64 zac, .int .i64 0]) := hide k2
      have BB := hide K.bel
      subst q7
      subst q8
      clear K k1 k2 hall
      go_wp2_with fail
      exact bodyPost_ret (results_ccBB (vs := [.int .i64 zai, .int .i64 zah, .int .i64 zac, .int .i64 0]) (us := [.int .i64 zbi, .int .i64 zah, .int .i64 zac, .int .i64 0]) (x := .int .i64 far) (y := .int .i64 (1 + cl)) rfl Try.isAgg76 Try.sizeOf76 rfl (by kernel_rfl) (unhide HK1) (by kernel_rfl) (unhide HK2) (by kernel_rfl) (by kernel_rfl)) rfl ⟨_, _, _, _, _, _, _, _, rfl, by omega, by omega, by omega, by omega, by omega, by omega, by omega, by omega, by omega, unhide BB⟩

end Go.Proofs.Ytbaocifpifbldae

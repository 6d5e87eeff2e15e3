/-
  DrawAboard: what is aboard, as it should be, and a list of loads that are as loads should be. At bytes of at most 1048576; nothing that was there is written.
  Effective of both sides, with the readings of both arguments handed in ahead of what the lists hold.
  What is so along the rounds of FnLoads: what is aboard, the load at hand, what is aboard next. No program walk here.
-/
import Derived.Test.YtemodlgmjgdjpaaGreatDoorDrAb
import Derived.Test.YtemodlgmjgdjpaaGreatDoorAbMark
import Derived.Test.YtemodlgmjgdjpaaGreatDoorEfSpc
import Derived.Test.YtemodlgmjgdjpaaGreatDoorMTkIf
import Derived.Test.YtemodlgmjgdjpaaGreatDoorMAppBy
import Derived.Test.YtemodlgmjgdjpaaGreatDoorMToWn

namespace Go.Proofs.YtemodlgmjgdjpaaGreatDoor
open Go Go.RowKit

/-- A load that is as it should be, and short. -/
def LdS (x : Lx) : Prop := (ldB (lxW x) = true ∧ x.d.zs.length ≤ 5) ∧ (∀ i, i < x.d.zs.length → 0 ≤ elAt x.d.zs i ∧ elAt x.d.zs i ≤ 255)
/-- What is drawn so far. -/
structure Qo (w W : World) (C R X : Nat) (a : Option Addr) (len cap : Nat) (s : Int) (a1 : Option Addr) (l1 c1 : Nat) (zs : List Lc) (v : Value) (ls : List Lx) : Prop where
  dr : Dr w C a len cap W
  res : Blk W R [.int .i64 0, .slice none 0 0]
  box : Blk W X [.int .i64 s, .slice a1 l1 c1]
  own : AbIs W (C + 1) X a1 l1 c1 zs
  out : OwnE 6 lxC W (X + 1) 32 v ls
  dat : ∀ i, i < ls.length → OwnE 1 byC W (X + 1) 5 (slV (elAt ls i).d) (elAt ls i).d.zs
  ok : ∀ i, i < ls.length → LdS (elAt ls i)
  ord : R < C ∧ C < X
theorem Qo.below {w W : World} {C R X : Nat} {a : Option Addr} {len cap : Nat} {s : Int} {a1 : Option Addr} {l1 c1 : Nat} {zs : List Lc} {v : Value} {ls : List Lx} {W' : World} (h : Qo w W C R X a len cap s a1 l1 c1 zs v ls) (k : Below W.heap.size W W') : Qo w W' C R X a len cap s a1 l1 c1 zs v ls :=
  ⟨h.dr.below k, h.res.below k, h.box.below k, h.own.below k, h.out.below k, fun i hi => (h.dat i hi).below k, h.ok, h.ord⟩
theorem Qo.step {w W : World} {C R X : Nat} {a : Option Addr} {len cap : Nat} {s : Int} {a1 : Option Addr} {l1 c1 : Nat} {zs : List Lc} {v : Value} {ls : List Lx} {W' : World} (h : Qo w W C R X a len cap s a1 l1 c1 zs v ls) (d : Dr w C a len cap W') (g : W.grownBy W' (some C)) : Qo w W' C R X a len cap s a1 l1 c1 zs v ls := by
  have ho := h.ord
  exact ⟨d, h.res.apart g (fun e => by have := Option.some.inj e; omega), h.box.apart g (fun e => by have := Option.some.inj e; omega),
    h.own.only (Only.of_row (lo := C) (hi := C + 1) g (fun q hq => by have := Option.some.inj hq; omega)) (.inr (Nat.le_refl _)),
    h.out.far g (fun q hq e => by have := (h.out.lies q hq).1; have := Option.some.inj e; omega),
    fun i hi => (h.dat i hi).far g (fun q hq e => by have := ((h.dat i hi).lies q hq).1; have := Option.some.inj e; omega), h.ok, ho⟩
theorem Qo.push {w W : World} {C R X : Nat} {a : Option Addr} {len cap : Nat} {s : Int} {a1 : Option Addr} {l1 c1 : Nat} {zs : List Lc} {v : Value} {ls : List Lx} {W' : World} (h : Qo w W C R X a len cap s a1 l1 c1 zs v ls) (hin : ∀ b off, a = some ⟨b, off, none⟩ → b < w.heap.size) {x : Lx} (hx : LdS x) (hd : OwnE 1 byC W (X + 1) 5 (slV x.d) x.d.zs) {g n c : Nat} (o9 : OwnE 6 lxC W' (X + 1) 32 (.slice (some ⟨g, 0, none⟩) n c) (ls ++ [x])) (gr : W.grownBy W' v.ownBlock) : Qo w W' C R X a len cap s a1 l1 c1 zs (.slice (some ⟨g, 0, none⟩) n c) (ls ++ [x]) := by
  have ho := h.ord
  have hl : ∀ q, v.ownBlock = some q → X + 1 ≤ q ∧ q < W.heap.size := fun q hq => h.out.lies q hq
  refine ⟨h.dr.own gr (fun q hq => by have := hl q hq; omega) hin, h.res.apart gr (fun e => by have := hl _ e.symm; omega), h.box.apart gr (fun e => by have := hl _ e.symm; omega),
    h.own.only (Only.of_row (lo := X + 1) (hi := W.heap.size) gr (fun q hq => hl q hq)) (.inl (by omega)), o9, fun i hi => ?_, fun i hi => ?_, ho⟩
  · by_cases c : i < ls.length
    · rw [(elAt_app ls x).1 i c]
      exact (h.dat i c).far gr (fun q hq e => ownE_types (h.dat i c) h.out (by decide) q hq e.symm)
    · obtain rfl : i = ls.length := by simp at hi; omega
      rw [(elAt_app ls x).2]
      exact hd.far gr (fun q hq e => ownE_types hd h.out (by decide) q hq e.symm)
  · by_cases c : i < ls.length
    · rw [(elAt_app ls x).1 i c]; exact h.ok i c
    · obtain rfl : i = ls.length := by simp at hi; omega
      rw [(elAt_app ls x).2]; exact hx
/-- What DrawAboard answers. -/
structure DaoE (w : World) (e : Ending) (w' : World) : Prop where
  ex : ∃ (s : Int) (a1 : Option Addr) (l1 c1 : Nat) (zs : List Lc) (b1 : Option Addr) (n1 d1 : Nat) (ls : List Lx), e = .returned (.tuple #[.agg #[.int .i64 s, .slice a1 l1 c1], .slice b1 n1 d1]) ∧ abB s zs = true ∧ LzB zs ∧ (∃ lo hi, AbIs w' lo hi a1 l1 c1 zs ∧ hi ≤ w'.heap.size) ∧ RowE 6 lxC w' b1 n1 ls ∧ n1 ≤ 8 ∧ (∀ i, i < n1 → LdS (elAt ls i) ∧ LxIn w' (elAt ls i)) ∧ Below w.heap.size w w'

theorem ownE_empty {α : Type} [Inhabited α] {K : Nat} {cells : α → Nat → Value} (w : World) (T : TypeId) : OwnE K cells (w.alloc (Obj.cells #[] T)) w.heap.size T (.slice (some ⟨w.heap.size, 0, none⟩) 0 0) ([] : List α) :=
  ⟨⟨[], ⟨by simp, .inr ⟨w.heap.size, 0, #[], rfl, Nat.le_refl _, heap_alloc_new _ _, by simp, by unfold maxLen; omega, by simp, by simp⟩⟩, fun j hj => by simp at hj⟩⟩
set_option maxRecDepth 20000 in
set_option maxHeartbeats 8000000 in
theorem drawAboard_any (a : Option Addr) (len cap : Nat) (w : World) (hb : Bytes w a len) (hin : ∀ b off, a = some ⟨b, off, none⟩ → b < w.heap.size) :
    Calls Tryz.prog 7 #[.slice a len cap] w fun e w' => DaoE w e w' := by
  have HIN0 := hide hin
  have HB0 := hide hb
  obtain ⟨W1, hW1⟩ : ∃ V, V = w.alloc (Obj.cells #[.int .i64 0, .slice none 0 0] 26) := ⟨_, rfl⟩
  have bW : Below w.heap.size w W1 := by rw [hW1]; exact bel1 _
  have HB := hide (hb.below bW)
  have KR : Hid (Blk W1 w.heap.size [.int .i64 0, .slice none 0 0]) := hide (by rw [hW1]; exact Blk.new _ _)
  have HIN : Hid (∀ b off, a = some ⟨b, off, none⟩ → b < W1.heap.size) := hide (fun b off e => Nat.lt_of_lt_of_le (hin b off e) bW.size)
  have BW := hide bW
  have HW := hide hW1
  clear hW1 bW hb hin
  go_enter Tryz.func7, Tryz.ntmps7
  go_wp2_with fail
  rw [← unhide HW]
  clear HW
  refine (drNew a len cap W1 (unhide HB) (unhide HIN)).mono ?_
  rintro e W2 ⟨rfl, d1, b1⟩
  have hRC : w.heap.size < W1.heap.size := (unhide KR).lt
  have KR2 := hide ((unhide KR).below b1)
  obtain ⟨C, hC⟩ : ∃ C, W1.heap.size = C := ⟨_, rfl⟩
  rw [hC] at d1 hRC ⊢
  have D1 := hide d1
  have HC := hide hC
  clear b1 d1 hC KR
  go_wp2_with fail
  refine (drawAb_any C a len cap W1 W2 (unhide D1) (unhide HIN)).mono ?_
  rintro e W3 ⟨s, a1, l1, c1, zs, rfl, hab, hlz, hown, dk⟩
  have HAB := hide hab
  have HLZ := hide hlz
  have KR3 := hide ((unhide KR2).apart dk.gr (fun e => by have := Option.some.inj e; omega))
  have hCW2 := (unhide D1).lt
  obtain ⟨W4, hW4⟩ : ∃ V, V = W3.alloc (Obj.cells #[.int .i64 s, .slice a1 l1 c1] 26) := ⟨_, rfl⟩
  obtain ⟨W5, hW5⟩ : ∃ V, V = W4.alloc (Obj.cells #[] 32) := ⟨_, rfl⟩
  have b4 : Below W3.heap.size W3 W4 := by rw [hW4]; exact bel1 _
  have b5 : Below W4.heap.size W4 W5 := by rw [hW5]; exact bel1 _
  have s4 : W4.heap.size = W3.heap.size + 1 := by rw [hW4]; simp
  have HQ0 : Hid (Qo W1 W5 C w.heap.size W3.heap.size a len cap s a1 l1 c1 zs (.slice (some ⟨W4.heap.size, 0, none⟩) 0 0) []) := hide (Qo.below ⟨dk.d.below b4, (unhide KR3).below b4, by rw [hW4]; exact Blk.new _ _, (by obtain ⟨us, e, hu⟩ := hown.ex; exact ⟨⟨us, e, (hu.below b4).mono (by omega), ⟨fun q hq => by have := (hu.lies).1 q hq; omega, fun i hi q hq => by have := (hu.lies).2 i hi q hq; omega⟩⟩, hown.ok⟩), ownE_nil _ _ _, (fun i hi => by simp at hi), (fun i hi => by simp at hi), ⟨hRC, by have := dk.gr.size; omega⟩⟩ b5 |> fun h => ⟨h.dr, h.res, h.box, h.own, by rw [hW5, ← s4]; exact ownE_empty _ _, fun i hi => by simp at hi, fun i hi => by simp at hi, h.ord⟩)
  obtain ⟨X, hX⟩ : ∃ X, W3.heap.size = X := ⟨_, rfl⟩
  rw [s4, hX] at HQ0
  have HW4 := hide hW4
  have HW5 := hide hW5
  have HX := hide hX
  clear hab hlz hown dk hW4 hW5 hX b4 b5 s4 KR2 KR3 D1 hCW2
  go_wp2_with fail
  rw [← unhide HW4, ← unhide HW5, unhide HX]
  clear HW4 HW5 HX
  refine (drBelow 9 _ (unhide HQ0).dr (by omega)).mono ?_
  rintro e W6 ⟨x2, rfl, hx2, d6, g6⟩
  have HQ1 := hide ((unhide HQ0).step d6 g6)
  clear d6 g6 HQ0
  obtain ⟨m0, rfl⟩ : ∃ m : Nat, x2 = (m : Int) := ⟨x2.toNat, by omega⟩
  go_wp2_with fail
  go_loopw [6, 7] (fun t6 t7 wr => ∃ (m g n c : Nat) (ls : List Lx), t6 = .slice (some ⟨g, 0, none⟩) n c ∧ t7 = .int .i64 (m : Int) ∧ m ≤ 8 ∧ n + m ≤ 8 ∧ Hid (ls.length = n) ∧ Hid (Qo W1 wr C w.heap.size X a len cap s a1 l1 c1 zs (.slice (some ⟨g, 0, none⟩) n c) ls)) (fun _ t7 _ => (intOf t7).toNat)
  case atStart => exact ⟨m0, X + 1, 0, 0, [], rfl, rfl, by omega, by omega, hide rfl, HQ1⟩
  case round =>
    clear HQ1
    obtain ⟨m, g, n, c, ls, rfl, rfl, hm, hnm, HL, HQ⟩ := hrel
    by_cases hp : 0 < m
    · have j1 : (0 : Int) < (m : Int) := by omega
      go_wp2_with fail
      refine (drawLoad_any C a len cap W1 wr (unhide HQ).dr (unhide HIN)).mono ?_
      rintro e V1 ⟨x, rfl, hld, od, hby, dk⟩
      have HX1 := (unhide HQ).box.lt
      have HV1 : Hid (X + 1 ≤ V1.heap.size) := hide (by have := dk.gr.size; omega)
      have HQ2 := hide ((unhide HQ).step dk.d dk.gr)
      have HLS : Hid (LdS x) := hide ⟨hld, hby⟩
      have HOD : Hid (OwnE 1 byC V1 (X + 1) 5 (slV x.d) x.d.zs) := hide (od.mono (by omega))
      clear hld od hby dk HX1 HQ
      go_wp2_with (at_builtin; refine wpList_app_elG (K := 6) (cells := lxC) rfl _ _ 24 32 rfl Tryz.underlying24 infoLx rfl (by decide) (by decide) x [.string x.p, .int .i64 x.nb, .int .i64 x.le, .int .i64 x.mo, .int .i64 x.ne, .slice x.d.a x.d.n x.d.c] rfl (fun q hq => lxV_at x q hq) (lxV_one x) (unhide HQ2).out (unhide HL) rfl rfl rfl (unhide HV1) (by omega) ?_; intro g9 c9 w9 o9 gr9 _; have HQ9 := hide ((unhide HQ2).push (unhide HIN) (unhide HLS) (unhide HOD) o9 gr9); clear o9 gr9)
      refine ⟨⟨m - 1, g9, n + 1, c9, ls ++ [x], rfl, ?_, by omega, by omega, hide (by simp [unhide HL]), HQ9⟩, ?_⟩
      · rw [show ((m - 1 : Nat) : Int) = (m : Int) - 1 by omega]
      · simp [intOf]; omega
    · have j1 : ¬ (0 : Int) < (m : Int) := by omega
      have yX0 : wr.cell? ⟨X, 0, none⟩ = some (.int .i64 s) := (unhide HQ).box.c 0 (by simp)
      have yX1 : wr.cell? ⟨X, 1, none⟩ = some (.slice a1 l1 c1) := (unhide HQ).box.c 1 (by simp)
      go_wp2_with ((with_reducible show wpList _ _ _ (⟨none, .store 26 _ _, _, _, _, none⟩ :: _) _ _); refine at_storeAgg (us := [.int .i64 0, .slice none 0 0]) (vs := [.int .i64 s, .slice a1 l1 c1]) Tryz.sizeOf26 rfl rfl (unhide HQ).res rfl (by intro v hv; simp at hv; rcases hv with rfl | rfl <;> rfl) ?_; intro w5 kk gg)
      have hor := (unhide HQ).ord
      have hcw := unhide HC
      have BE : Below w.heap.size w w5 := ((unhide BW).trans ((unhide HQ).dr.bel.mono (unhide BW).size)).grown gg ((unhide BW).trans ((unhide HQ).dr.bel.mono (unhide BW).size)).size (fun q hq => by cases hq; omega)
      have OA : AbIs w5 (C + 1) X a1 l1 c1 zs := (unhide HQ).own.only (Only.of_row (lo := w.heap.size) (hi := w.heap.size + 1) gg (fun q hq => by have := Option.some.inj hq; omega)) (.inr (by omega))
      have OO := (unhide HQ).out.far gg (fun q hq e => by have := ((unhide HQ).out.lies q hq).1; have := Option.some.inj e; omega)
      have OD : ∀ i, i < n → LdS (elAt ls i) ∧ LxIn w5 (elAt ls i) := fun i hi => by
        have hi2 : i < ls.length := by have := unhide HL; omega
        have hk := (unhide HQ).ok i hi2
        have hd := ((unhide HQ).dat i hi2).far gg (fun q hq e => by have := (((unhide HQ).dat i hi2).lies q hq).1; have := Option.some.inj e; omega)
        have hc := ownE_cap (a := (elAt ls i).d.a) (n := (elAt ls i).d.n) (c := (elAt ls i).d.c) hd
        exact ⟨hk, ⟨⟨OwnE.row (a := (elAt ls i).d.a) (len := (elAt ls i).d.n) (cap := (elAt ls i).d.c) hd, hc.2, fun j hj => hk.2 j (by omega)⟩, name_size (ld_name hk.1.1)⟩⟩
      exact bodyPost_ret (results_cellB (vs := [.int .i64 s, .slice a1 l1 c1]) (x := .slice (some ⟨g, 0, none⟩) n c) rfl Tryz.isAgg26 Tryz.sizeOf26 rfl kk rfl) rfl ⟨s, a1, l1, c1, zs, some ⟨g, 0, none⟩, n, c, ls, rfl, unhide HAB, unhide HLZ, ⟨_, _, OA, Nat.le_trans (Nat.le_of_lt (unhide HQ).box.lt) gg.size⟩, OwnE.row OO, by omega, OD, BE⟩

end Go.Proofs.YtemodlgmjgdjpaaGreatDoor

namespace Go.Proofs.YtemodlgmjgdjpaaGreatDoor
open Go Go.RowKit

theorem efL_small (s : Int) (zs ms : List Lc) : (efL s zs ms).length ≤ 1048576 := by
  unfold efL
  split
  · rename_i h
    have h1 := efK_len s zs ms ms.length
    have h2 : ms.length ≤ 30 := by
      simp only [efB, Bool.and_eq_true, decide_eq_true_eq] at h
      exact h.1.2
    omega
  · simp
theorem specEffL_any (s : Int) (a1 : Option Addr) (l1 c1 : Nat) (zs : List Lc) (b1 : Option Addr) (n1 d1 : Nat) (ms : List Lc) (w : World) (hr : AbIn w a1 l1 zs) (hm : LsT w b1 n1 ms) (hlz : LzB zs) (hmz : LzB ms) :
    Calls Tryz.prog 26 #[.agg #[.int .i64 s, .slice a1 l1 c1], .slice b1 n1 d1] w fun e w' => ∃ a9 c9, e = .returned (.tuple #[.slice a9 (efL s zs ms).length c9, .bool (efB s zs ms)]) ∧ OwnI w' w.heap.size (.slice a9 (efL s zs ms).length c9) (efL s zs ms) ∧ Below w.heap.size w w' :=
  (specEffective_any s a1 l1 c1 zs b1 n1 d1 ms w hr hlz hm hmz).mono fun _ _ h => h
theorem implEffL_any (s : Int) (a1 : Option Addr) (l1 c1 : Nat) (zs : List Lc) (b1 : Option Addr) (n1 d1 : Nat) (ms : List Lc) (w : World) (hr : AbIn w a1 l1 zs) (hm : LsT w b1 n1 ms) (hg : ErG w) :
    Calls Tryz.prog 12 #[.agg #[.int .i64 s, .slice a1 l1 c1], .slice b1 n1 d1] w fun e w' => ∃ a9 c9, e = .returned (.tuple #[.slice a9 (efL s zs ms).length c9, .bool (efB s zs ms)]) ∧ OwnI w' w.heap.size (.slice a9 (efL s zs ms).length c9) (efL s zs ms) ∧ Below w.heap.size w w' :=
  (implEffective_any s a1 l1 c1 zs b1 n1 d1 ms w hr hm hg).mono fun _ _ h => h

end Go.Proofs.YtemodlgmjgdjpaaGreatDoor

namespace Go.Proofs.YtemodlgmjgdjpaaGreatDoor
open Go Go.RowKit

structure Lo (V0 W : World) (A : Nat) (s : Int) (a1 : Option Addr) (l1 c1 : Nat) (zs : List Lc) : Prop where
  bel : Below V0.heap.size V0 W
  box : Blk W A [.int .i64 s, .slice a1 l1 c1]
  own : ∃ lo hi, AbIs W lo hi a1 l1 c1 zs ∧ (hi ≤ A ∨ A < lo)
  ab : abB s zs = true
  lz : LzB zs
theorem Lo.below {V0 W : World} {A : Nat} {s : Int} {a1 : Option Addr} {l1 c1 : Nat} {zs : List Lc} {W' : World} (h : Lo V0 W A s a1 l1 c1 zs) (k : Below W.heap.size W W') : Lo V0 W' A s a1 l1 c1 zs := by
  obtain ⟨lo, hi, o1, o2⟩ := h.own
  exact ⟨h.bel.trans (k.mono h.bel.size), h.box.below k, ⟨lo, hi, o1.below k, o2⟩, h.ab, h.lz⟩
theorem Lo.read {V0 W : World} {A : Nat} {s : Int} {a1 : Option Addr} {l1 c1 : Nat} {zs : List Lc} (h : Lo V0 W A s a1 l1 c1 zs) : AbIn W a1 l1 zs := by
  obtain ⟨lo, hi, o1, _⟩ := h.own
  exact o1.read
theorem Lo.len {V0 W : World} {A : Nat} {s : Int} {a1 : Option Addr} {l1 c1 : Nat} {zs : List Lc} (h : Lo V0 W A s a1 l1 c1 zs) : zs.length = l1 := h.read.r1.len_eq
structure Ln (V0 W : World) (A L N : Nat) (s : Int) (a1 : Option Addr) (l1 c1 : Nat) (zs : List Lc) (x : Lx) (a9 : Option Addr) (l9 c9 : Nat) (zs2 : List Lc) : Prop where
  o : Lo V0 W A s a1 l1 c1 zs
  lb : Blk W L [.string x.p, .int .i64 x.nb, .int .i64 x.le, .int .i64 x.mo, .int .i64 x.ne, .slice x.d.a x.d.n x.d.c]
  nb : Blk W N [.int .i64 s, .slice a9 l9 c9]
  n2 : ∃ lo hi, AbIs W lo hi a9 l9 c9 zs2 ∧ A < lo
  ab2 : abB s zs2 = true
  lz2 : LzB zs2
theorem Ln.below {V0 W : World} {A : Nat} {s : Int} {a1 : Option Addr} {l1 c1 : Nat} {zs : List Lc} {L N : Nat} {x : Lx} {a9 : Option Addr} {l9 c9 : Nat} {zs2 : List Lc} {W' : World} (h : Ln V0 W A L N s a1 l1 c1 zs x a9 l9 c9 zs2) (k : Below W.heap.size W W') : Ln V0 W' A L N s a1 l1 c1 zs x a9 l9 c9 zs2 := by
  obtain ⟨lo, hi, o1, o2⟩ := h.n2
  exact ⟨h.o.below k, h.lb.below k, h.nb.below k, ⟨lo, hi, o1.below k, o2⟩, h.ab2, h.lz2⟩
theorem Ln.read {V0 W : World} {A : Nat} {s : Int} {a1 : Option Addr} {l1 c1 : Nat} {zs : List Lc} {L N : Nat} {x : Lx} {a9 : Option Addr} {l9 c9 : Nat} {zs2 : List Lc} (h : Ln V0 W A L N s a1 l1 c1 zs x a9 l9 c9 zs2) : AbIn W a9 l9 zs2 := by
  obtain ⟨lo, hi, o1, _⟩ := h.n2
  exact o1.read
theorem Ln.len {V0 W : World} {A : Nat} {s : Int} {a1 : Option Addr} {l1 c1 : Nat} {zs : List Lc} {L N : Nat} {x : Lx} {a9 : Option Addr} {l9 c9 : Nat} {zs2 : List Lc} (h : Ln V0 W A L N s a1 l1 c1 zs x a9 l9 c9 zs2) : zs2.length = l9 := h.read.r1.len_eq
/-- The next one put in the place of the first. -/
theorem Ln.next {V0 W : World} {A : Nat} {s : Int} {a1 : Option Addr} {l1 c1 : Nat} {zs : List Lc} {L N : Nat} {x : Lx} {a9 : Option Addr} {l9 c9 : Nat} {zs2 : List Lc} {W' : World} (h : Ln V0 W A L N s a1 l1 c1 zs x a9 l9 c9 zs2) (hA : V0.heap.size ≤ A) (kk : Blk W' A [.int .i64 s, .slice a9 l9 c9]) (gg : W.grownBy W' (some A)) : Lo V0 W' A s a9 l9 c9 zs2 := by
  obtain ⟨lo, hi, o1, o2⟩ := h.n2
  exact ⟨h.o.bel.grown gg h.o.bel.size (fun q hq => by have := Option.some.inj hq; omega), kk, ⟨lo, hi, o1.only (Only.of_row (lo := A) (hi := A + 1) gg (fun q hq => by have := Option.some.inj hq; omega)) (.inr (by omega)), .inr o2⟩, h.ab2, h.lz2⟩
theorem lxW_eq {y x : Lx} (h : lxW y = lxW x) : y.p = x.p ∧ y.nb = x.nb ∧ y.ne = x.ne ∧ y.d.zs = x.d.zs := by
  simp only [lxW, Lc.mk.injEq] at h
  exact ⟨h.1, h.2.1, h.2.2.2.2.1, h.2.2.2.2.2⟩
theorem lx_row {w : World} (x : Lx) {W : World} (hW : W = w.alloc (Obj.cells #[.string x.p, .int .i64 x.nb, .int .i64 x.le, .int .i64 x.mo, .int .i64 x.ne, .slice x.d.a x.d.n x.d.c] 32)) (h : LxIn W x) : LsT W (some ⟨w.heap.size, 0, none⟩) 1 [lxW x] := by
  have k : Blk W w.heap.size [.string x.p, .int .i64 x.nb, .int .i64 x.le, .int .i64 x.mo, .int .i64 x.ne, .slice x.d.a x.d.n x.d.c] := by rw [hW]; exact Blk.new _ _
  refine ⟨⟨[x], rfl, ⟨rfl, by omega, fun i hi => ?_⟩, fun i hi => ?_⟩⟩
  · obtain rfl : i = 0 := by simpa using hi
    refine ⟨_, _, rfl, fun q hq => ?_⟩
    rcases (show q = 0 ∨ q = 1 ∨ q = 2 ∨ q = 3 ∨ q = 4 ∨ q = 5 by omega) with rfl | rfl | rfl | rfl | rfl | rfl
    · exact k.c 0 (by simp)
    · exact k.c 1 (by simp)
    · exact k.c 2 (by simp)
    · exact k.c 3 (by simp)
    · exact k.c 4 (by simp)
    · exact k.c 5 (by simp)
  · obtain rfl : i = 0 := by simpa using hi
    exact h

end Go.Proofs.YtemodlgmjgdjpaaGreatDoor

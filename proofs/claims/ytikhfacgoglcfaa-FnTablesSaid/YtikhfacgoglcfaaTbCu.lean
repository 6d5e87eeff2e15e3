/-
  The model's drawing of a curve that is in order and of a place on it. At every list of bytes; nothing that was there is written. It ends because from every state of the generator a curve in order is drawn at last.
-/
import Derived.Test.YtikhfacgoglcfaaTbDraw
import Derived.Test.YtikhfacgoglcfaaHeld
import Derived.Deep.CutRange
import Derived.Deep.RegionHeld3
namespace Go.Proofs.Ytikhfacgoglcfaa
open Go.RowKit
attribute [local irreducible] byS

theorem row_one {w : World} {a : Option Addr} {n m : Nat} {xs ys : List Int} (h : Row w a n xs) (k : Row w a m ys) (e : n = m) : xs = ys := by
  subst e
  apply List.ext_getElem
  · rw [h.len_eq, k.len_eq]
  · intro i h1 h2
    obtain ⟨b, o, ea, hc⟩ := h.cells i (by rw [← h.len_eq]; exact h1)
    obtain ⟨b', o', ea', hc'⟩ := k.cells i (by rw [← k.len_eq]; exact h2)
    rw [ea] at ea'
    simp only [Option.some.injEq, Addr.mk.injEq, and_true] at ea'
    obtain ⟨rfl, rfl⟩ := ea'
    rw [hc] at hc'
    simp only [Option.some.injEq, Value.int.injEq, true_and] at hc'
    unfold nth at hc'
    rw [List.getElem?_eq_getElem h1, List.getElem?_eq_getElem h2] at hc'
    simpa using hc'
theorem OwnI.open_ {w : World} {base : Nat} {v : Value} {zs : List Int} (h : OwnI w base v zs) : ∃ a c, v = .slice a zs.length c ∧ zs.length ≤ c ∧ Row w a zs.length zs ∧ ∀ g off, a = some ⟨g, off, none⟩ → base ≤ g := by
  rcases h.form with ⟨e, e2⟩ | ⟨g, c, e, k1, k2, k3, _⟩
  · subst e; subst e2; exact ⟨none, 0, rfl, Nat.le_refl _, h.row, fun g off e => by cases e⟩
  · subst e; exact ⟨_, c, rfl, by omega, h.row, fun g' off e => by
      simp only [Option.some.injEq, Addr.mk.injEq] at e
      obtain ⟨rfl, _⟩ := e
      exact (h.lies g rfl).1⟩
theorem own_one {w : World} {b1 b2 : Nat} {v : Value} {xs ys : List Int} (h : OwnI w b1 v xs) (k : OwnI w b2 v ys) : xs = ys := by
  obtain ⟨a, c, e, _, r, _⟩ := h.open_
  obtain ⟨a', c', e', _, r', _⟩ := k.open_
  rw [e] at e'
  simp only [Value.slice.injEq] at e'
  obtain ⟨rfl, hl, _⟩ := e'
  exact row_one r r' hl

/-! How often is drawn still. -/
theorem least_of (p : Nat → Bool) : (∃ t, p t = true) → ∃ t, p t = true ∧ ∀ u, u < t → p u = false := by
  intro ⟨t, ht⟩
  induction t using Nat.strongRecOn with
  | ind t ih =>
    by_cases h : ∃ u, u < t ∧ p u = true
    · obtain ⟨u, hu, hp⟩ := h
      exact ih u hu hp
    · refine ⟨t, ht, fun u hu => ?_⟩
      cases hp : p u
      · rfl
      · exact absurd ⟨u, hu, hp⟩ h
open Classical in
noncomputable def tbM (p : Nat → Bool) : Nat := if h : ∃ t, p t = true then Classical.choose (least_of p h) else 0
theorem tbM_is {p : Nat → Bool} (h : ∃ t, p t = true) : p (tbM p) = true ∧ ∀ u, u < tbM p → p u = false := by
  unfold tbM
  rw [dif_pos h]
  exact Classical.choose_spec (least_of p h)
theorem tbM_le {p : Nat → Bool} {t : Nat} (h : p t = true) : tbM p ≤ t := by
  have k := (tbM_is ⟨t, h⟩).2
  rcases Nat.lt_or_ge t (tbM p) with q | q
  · rw [k t q] at h; cases h
  · exact q
theorem tbM_dec {σ : Type} (b : σ → Nat × σ) (S : σ) (h : ∃ t, tryG b t S = true) (ho : okG b S = false) : tbM (fun t => tryG b t (cuG b S).2) < tbM (fun t => tryG b t S) := by
  have k := (tbM_is (p := fun t => tryG b t S) h).1
  generalize tbM (fun t => tryG b t S) = m at *
  cases m with
  | zero => cases k
  | succ u =>
    have k2 : tryG b (u + 1) S = true := k
    rw [tryG_succ, ho, Bool.false_or] at k2
    exact Nat.lt_succ_of_le (tbM_le (p := fun t => tryG b t (cuG b S).2) k2)
/-- What the world says of the cursor's state. -/
def stN (W : World) (C : Nat) : Nat × Nat := ((match W.cell? ⟨C, 1, none⟩ with | some (.int _ i) => i.toNat | _ => 0), (match W.cell? ⟨C, 2, none⟩ with | some (.int _ h) => (h % 18446744073709551616).toNat | _ => 0))
theorem DrX.stN {w : World} {C : Nat} {a : Option Addr} {len cap : Nat} {bs : Nat → Nat} {S : Nat × Nat} {W : World} (h : DrX w C a len cap bs S W) : stN W C = S := by
  obtain ⟨z, h1, h2⟩ := h.h
  unfold Go.Proofs.Ytikhfacgoglcfaa.stN
  rw [h.i, h1]
  simp only [h2, Int.toNat_natCast]
def okW (W : World) (P : Nat) : Prop := ∃ vX vY b1 b2 xs ys, W.cell? ⟨P, 0, none⟩ = some vX ∧ W.cell? ⟨P, 1, none⟩ = some vY ∧ OwnI W b1 vX xs ∧ OwnI W b2 vY ys ∧ curveB xs ys = true
open Classical in
noncomputable def tbMu (bs : Nat → Nat) (len C P : Nat) (W : World) : Nat := if okW W P then 0 else 1 + tbM (fun t => tryG (byS bs len) t (stN W C))

/-- Where the drawing of curves stands. -/
structure Tl (w : World) (R C P : Nat) (a : Option Addr) (len cap : Nat) (bs : Nat → Nat) (S : Nat × Nat) (W : World) (vX vY : Value) (xs ys : List Int) : Prop where
  d : DrX w C a len cap bs S W
  inn : ∀ b off, a = some ⟨b, off, none⟩ → b < w.heap.size
  r : Blk W R [.slice none 0 0, .slice none 0 0]
  p : Blk W P [vX, vY]
  rc : R < C
  cp : C < P
  oX : OwnI W (C + 1) vX xs
  oY : OwnI W (C + 1) vY ys
  nX : vX.ownBlock ≠ some P
  nY : vY.ownBlock ≠ some P
section
variable {w : World} {R C P : Nat} {a : Option Addr} {len cap : Nat} {bs : Nat → Nat} {S S' : Nat × Nat} {W W' : World} {vX vY vX' vY' : Value} {xs ys xs' ys' : List Int}
theorem Tl.below (h : Tl w R C P a len cap bs S W vX vY xs ys) (k : Below W.heap.size W W') : Tl w R C P a len cap bs S W' vX vY xs ys :=
  ⟨h.d.below k, h.inn, h.r.below k, h.p.below k, h.rc, h.cp, h.oX.below k, h.oY.below k, h.nX, h.nY⟩
theorem Tl.next (h : Tl w R C P a len cap bs S W vX vY xs ys) (oX : OwnI W' W.heap.size vX' xs') (oY : OwnI W' W.heap.size vY' ys') (d : DrX w C a len cap bs S' W') (kp : Kp C W.heap.size W W') :
    Tl w R C P a len cap bs S' ((W'.setCell ⟨P, 0, none⟩ vX').setCell ⟨P, 1, none⟩ vY') vX' vY' xs' ys' := by
  have c1 := h.rc
  have c2 := h.cp
  have lp := h.p.lt
  have gr := kp.grown
  have nX : vX'.ownBlock ≠ some P := fun e => by have := (oX.lies P e).1; omega
  have nY : vY'.ownBlock ≠ some P := fun e => by have := (oY.lies P e).1; omega
  have gs : W'.grownBy ((W'.setCell ⟨P, 0, none⟩ vX').setCell ⟨P, 1, none⟩ vY') (some P) := grown_set (grown_set (grown_refl W' (some P)) 0 _) 1 _
  refine ⟨d.own gs (fun q hq => by have := Option.some.inj hq; omega) h.inn, h.inn, ((h.r.apart gr (fun e => by have := Option.some.inj e; omega)).other (by simp; omega) _).other (by simp; omega) _, ?_, c1, c2, ?_, ?_, nX, nY⟩
  · simpa using ((h.p.apart gr (fun e => by have := Option.some.inj e; omega)).set 0 (by simp) vX').set 1 (by simp) vY'
  · exact ((oX.set_other _ nX).set_other _ nX).mono (by omega)
  · exact ((oY.set_other _ nY).set_other _ nY).mono (by omega)
theorem Tl.ok_iff (h : Tl w R C P a len cap bs S W vX vY xs ys) : okW W P ↔ curveB xs ys = true := by
  constructor
  · rintro ⟨x, y, b1, b2, us, vs, h0, h1, o1, o2, hc⟩
    have e0 : some x = some vX := h0.symm.trans (h.p.c 0 (by simp))
    have e1 : some y = some vY := h1.symm.trans (h.p.c 1 (by simp))
    obtain rfl := Option.some.inj e0
    obtain rfl := Option.some.inj e1
    rw [own_one h.oX o1, own_one h.oY o2]
    exact hc
  · intro hc
    exact ⟨vX, vY, _, _, xs, ys, h.p.c 0 (by simp), h.p.c 1 (by simp), h.oX, h.oY, hc⟩
/-- Each curve that is drawn anew brings the end nearer. -/
theorem Tl.dec (h : Tl w R C P a len cap bs S W vX vY xs ys) (hc : curveB xs ys = false) {W2 : World} (k : Tl w R C P a len cap bs (cuG (byS bs len) S).2 W2 vX' vY' (cuG (byS bs len) S).1.1 (cuG (byS bs len) S).1.2) : tbMu bs len C P W2 < tbMu bs len C P W := by
  have n1 : ¬ okW W P := fun q => by rw [h.ok_iff] at q; rw [q] at hc; cases hc
  unfold tbMu
  rw [if_neg n1, h.d.stN, k.d.stN]
  cases ho : okG (byS bs len) S
  · have n2 : ¬ okW W2 P := fun q => by rw [k.ok_iff] at q; unfold okG at ho; rw [q] at ho; cases ho
    rw [if_neg n2]
    have := tbM_dec (byS bs len) S (try_cur bs len (len - S.1) S (Nat.le_refl _) h.d.le h.d.lt) ho
    omega
  · have y2 : okW W2 P := k.ok_iff.2 ho
    rw [if_pos y2]
    omega
end
theorem grown_cell' {w w' : World} {row : Option Nat} (k : w.grownBy w' row) {b : Nat} (o : Nat) (hb : b < w.heap.size) (hne : some b ≠ row) : w'.cell? ⟨b, o, none⟩ = w.cell? ⟨b, o, none⟩ := World.cell?_of_block (a := ⟨b, o, none⟩) (k.block b hb hne)
theorem l1Min_e {c : Int} (a b : Int) (w : World) (h : min a b = c) :
    Calls Try.prog 14 #[.int .i64 a, .int .i64 b] w fun e w' => e = .returned (.int .i64 c) ∧ w' = w := by
  subst h; exact l1Min_any a b w
/-- What is drawn: a curve in order and a place on it. -/
def TcP (w : World) (e : Ending) (w' : World) : Prop := ∃ (gx gy n c1 c2 : Nat) (xs ys : List Int) (x : Int), e = .returned (.tuple #[.agg #[.slice (some ⟨gx, 0, none⟩) n c1, .slice (some ⟨gy, 0, none⟩) n c2], .int .i64 x]) ∧ Row w' (some ⟨gx, 0, none⟩) n xs ∧ Row w' (some ⟨gy, 0, none⟩) n ys ∧ n ≤ c1 ∧ n ≤ c2 ∧ curveB xs ys = true ∧ (nth xs 0 ≤ x ∧ x ≤ nth xs (n - 1)) ∧ Below w.heap.size w w'

set_option maxRecDepth 20000 in
set_option maxHeartbeats 4000000 in
theorem drawCurve_any (a : Option Addr) (len cap : Nat) (w : World) (hb : Bytes w a len) (hin : ∀ b off, a = some ⟨b, off, none⟩ → b < w.heap.size) :
    Calls Try.prog 5 #[.slice a len cap] w fun e w' => TcP w e w' := by
  obtain ⟨w0, hw0⟩ : ∃ w0, w0 = w.alloc (Obj.cells #[.slice none 0 0, .slice none 0 0] 26) := ⟨_, rfl⟩
  obtain ⟨R, hR⟩ : ∃ R, w.heap.size = R := ⟨_, rfl⟩
  have bw0 : Below w.heap.size w w0 := by rw [hw0]; exact bel1 _
  have Z0 : Hid (Blk w0 R [.slice none 0 0, .slice none 0 0]) := hide (by rw [hw0, ← hR]; exact Blk.new _ _)
  have sw0 : w0.heap.size = R + 1 := by rw [hw0, ← hR]; simp
  have HSW := hide sw0
  clear sw0
  have HY := hide (hb.below bw0)
  have HIN : Hid (∀ b off, a = some ⟨b, off, none⟩ → b < w0.heap.size) := hide (fun b off e => Nat.lt_of_lt_of_le (hin b off e) bw0.size)
  have BW0 : Hid (Below w.heap.size w w0 ∧ w.heap.size = R) := hide ⟨bw0, hR⟩
  have HW0 := hide hw0
  have HR := hide hR
  clear hb hin hw0 bw0 hR
  go_enter Try.func5, Try.ntmps5
  go_wp2_with fail
  rw [← unhide HW0, unhide HR]
  clear HW0 HR
  refine (drNew a len cap w0 (unhide HY) (unhide HIN)).mono ?_
  rintro x w1 ⟨rfl, d, bb⟩
  obtain ⟨bs, hbs⟩ := byX_of d.byt
  obtain ⟨S0, dx⟩ := DrX.start d hbs
  obtain ⟨C, hC⟩ : ∃ C, C = R + 1 := ⟨_, rfl⟩
  rw [unhide HSW, ← hC] at dx ⊢
  have hRC : R < C := by omega
  have Z1 := hide ((unhide Z0).below bb)
  have DX := hide dx
  clear d hbs dx bb Z0 HY
  have HRC := hide hRC
  clear hRC hC HSW
  go_wp2_with fail
  refine (l1DrawCurve_x w1 (unhide DX) (unhide HIN)).mono ?_
  rintro e w2 ⟨vX, vY, rfl, oX, oY, d2, kp⟩
  obtain ⟨a1, c1, e1, _, _, _⟩ := oX.open_
  obtain ⟨a2, c2, e2, _, _, _⟩ := oY.open_
  obtain ⟨n1, hn1⟩ : ∃ n1, (cuG (byS bs len) S0).1.1.length = n1 := ⟨_, rfl⟩
  obtain ⟨n2, hn2⟩ : ∃ n2, (cuG (byS bs len) S0).1.2.length = n2 := ⟨_, rfl⟩
  rw [hn1] at e1
  rw [hn2] at e2
  subst e1
  subst e2
  clear hn1 hn2
  obtain ⟨P, hP⟩ : ∃ P, w2.heap.size = P := ⟨_, rfl⟩
  obtain ⟨V, hV⟩ : ∃ V, V = w2.alloc (Obj.cells #[.slice a1 n1 c1, .slice a2 n2 c2] 26) := ⟨_, rfl⟩
  have TT : Hid (Tl w0 R C P a len cap bs (cuG (byS bs len) S0).2 V (.slice a1 n1 c1) (.slice a2 n2 c2) (cuG (byS bs len) S0).1.1 (cuG (byS bs len) S0).1.2) := hide (by
    have bV : Below w2.heap.size w2 V := by rw [hV]; exact bel1 _
    have l1 := (unhide DX).d.lt
    have rc := unhide HRC
    have r1 := (unhide Z1).lt
    have sz := kp.size
    refine ⟨d2.below bV, unhide HIN, (((unhide Z1).apart kp.grown (fun e => by have := Option.some.inj e; omega)).below bV), ?_, rc, by omega, (oX.below bV).mono (by omega), (oY.below bV).mono (by omega), fun e => by have := (oX.lies P e).2; omega, fun e => by have := (oY.lies P e).2; omega⟩
    rw [hV, ← hP]; exact Blk.new [.slice a1 n1 c1, .slice a2 n2 c2] 26)
  have HV := hide hV
  have HP := hide hP
  clear oX oY d2 kp hV hP Z1 DX
  go_wp2_with fail
  rw [← unhide HV, unhide HP]
  clear HV HP
  go_loopw [10] (fun _ wr => ∃ (vX vY : Value) (xs ys : List Int) (S : Nat × Nat), Hid (Tl w0 R C P a len cap bs S wr vX vY xs ys)) (fun _ wr => tbMu bs len C P wr)
  case atStart => exact ⟨_, _, _, _, _, TT⟩
  case round =>
    clear TT
    obtain ⟨vX, vY, xs, ys, S, TT⟩ := hrel
    obtain ⟨a1, c1, e1, hc1, r1, g1⟩ := (unhide TT).oX.open_
    obtain ⟨a2, c2, e2, hc2, r2, g2⟩ := (unhide TT).oY.open_
    have HC := hide (show xs.length ≤ c1 ∧ ys.length ≤ c2 from ⟨hc1, hc2⟩)
    have RX := hide r1
    have RY := hide r2
    have p0 : wr.cell? ⟨P, 0, none⟩ = some vX := by exact (unhide TT).p.c 0 (by simp)
    have p1 : wr.cell? ⟨P, 1, none⟩ = some vY := by exact (unhide TT).p.c 1 (by simp)
    subst e1
    subst e2
    clear r1 r2 g1 g2 hc1 hc2
    cases hc : curveB xs ys
    · go_wp2_with fail
      refine (specCurveOk_is _ _ _ _ _ _ xs ys _ hc (unhide RX) (unhide RY)).mono ?_
      rintro e w3 ⟨rfl, b3⟩
      have T3 := hide ((unhide TT).below b3)
      clear p0 p1
      go_wp2_with fail
      refine (l1DrawCurve_x w3 (unhide T3).d (unhide HIN)).mono ?_
      rintro e w4 ⟨vX', vY', rfl, oX, oY, d4, kp⟩
      obtain ⟨b1, k1, e1, _, _, _⟩ := oX.open_
      obtain ⟨b2, k2, e2, _, _, _⟩ := oY.open_
      obtain ⟨n1, hn1⟩ : ∃ n1, (cuG (byS bs len) S).1.1.length = n1 := ⟨_, rfl⟩
      obtain ⟨n2, hn2⟩ : ∃ n2, (cuG (byS bs len) S).1.2.length = n2 := ⟨_, rfl⟩
      rw [hn1] at e1
      rw [hn2] at e2
      subst e1
      subst e2
      clear hn1 hn2
      have T5 := hide ((unhide T3).next oX oY d4 kp)
      have P4 := ((unhide T3).p.apart kp.grown (fun e => by have := Option.some.inj e; have := (unhide T3).cp; omega))
      have q0 : w4.cell? ⟨P, 0, none⟩ = some (.slice a1 xs.length c1) := P4.c 0 (by simp)
      have q1 : w4.cell? ⟨P, 1, none⟩ = some (.slice a2 ys.length c2) := P4.c 1 (by simp)
      have q2 : w4.frozen? ⟨P, 0, none⟩ = false := P4.f 0 (by simp)
      have q3 : w4.frozen? ⟨P, 1, none⟩ = false := P4.f 1 (by simp)
      have TT2 := hide ((unhide TT).dec hc (unhide T5))
      clear P4 oX oY d4 kp b3 T3 TT hc
      go_wp2_with fail
      go_roundw
      case rel => exact ⟨_, _, _, _, _, T5⟩
      case measure => exact unhide TT2
    · go_wp2_with fail
      refine (specCurveOk_is _ _ _ _ _ _ xs ys _ hc (unhide RX) (unhide RY)).mono ?_
      rintro e w3 ⟨rfl, b3⟩
      have T3 := hide ((unhide TT).below b3)
      clear p0 p1 b3 TT RX RY
      have F := curveB_facts hc
      have hlen := F.len
      have hmany := F.many
      have hends := rise_ends F (xs.length - 1) (by omega)
      have hA := F.xb 0 (by omega)
      have hB := F.xb (xs.length - 1) (by omega)
      rw [← hlen] at T3 HC ⊢
      obtain ⟨j, hj⟩ : ∃ j, xs.length - 1 = j := ⟨_, rfl⟩
      rw [hj] at hends hB
      obtain ⟨n, hn⟩ : ∃ n, xs.length = n := ⟨_, rfl⟩
      obtain ⟨A, hAe⟩ : ∃ A, nth xs 0 = A := ⟨_, rfl⟩
      obtain ⟨B, hBe⟩ : ∃ B, nth xs j = B := ⟨_, rfl⟩
      obtain ⟨gx, c1', ev⟩ : ∃ gx c1', Value.slice a1 xs.length c1 = .slice (some ⟨gx, 0, none⟩) n c1' := by
        rcases (unhide T3).oX.form with ⟨_, e⟩ | ⟨g', c', e, _⟩
        · rw [e] at hmany; simp at hmany
        · exact ⟨g', c', by rw [e, hn]⟩
      rw [ev] at T3 ⊢
      have hc1 : n ≤ c1' := by
        simp only [Value.slice.injEq] at ev
        have := (unhide HC).1; omega
      have X0 := (own_at (unhide T3).oX hn 0 (by omega)).1
      have XL := (own_at (unhide T3).oX hn j (by omega)).1
      rw [hAe] at hA hends X0
      rw [hBe] at hB hends XL
      rw [hn] at T3 HC ⊢
      have p0 : w3.cell? ⟨P, 0, none⟩ = some (.slice (some ⟨gx, 0, none⟩) n c1') := (unhide T3).p.c 0 (by simp)
      have p1 : w3.cell? ⟨P, 1, none⟩ = some (.slice a2 n c2) := (unhide T3).p.c 1 (by simp)
      have hn20 : (2 : Int) ≤ (n : Int) ∧ (n : Int) ≤ 20 := by omega
      have hi0 : (0 : Int) < (n : Int) := by omega
      have hi0n : 0 < n := by omega
      have hsub : (n : Int) - 1 = (j : Int) := by omega
      have hwj : IntKind.i64.wrap (j : Int) = (j : Int) := by rw [IntKind.wrap_i64]; omega
      have hj0 : (0 : Int) ≤ (j : Int) := by omega
      have hj1 : (j : Int) < (n : Int) := by omega
      have hjn : j < n := by omega
      have w1' : IntKind.i64.wrap (B - A) = B - A := by rw [IntKind.wrap_i64]; omega
      have w2' : IntKind.i64.wrap (B - A + 1) = B - A + 1 := by rw [IntKind.wrap_i64]; omega
      obtain ⟨M, hM⟩ : ∃ M, min (B - A + 1) 60000 = M := ⟨_, rfl⟩
      have hMb : 1 ≤ M ∧ M ≤ 60000 ∧ M ≤ B - A + 1 := by omega
      have HM := hide hM
      have HFIN : Hid (curveB xs ys = true ∧ nth xs 0 = A ∧ nth xs (n - 1) = B ∧ xs.length = n ∧ ys.length = n) := hide ⟨hc, hAe, by rw [← hBe]; congr 1; omega, hn, by omega⟩
      have lP := block_lt_of_cell p0
      have lX := block_lt_of_cell X0
      have nP : P ≠ C := by have := (unhide T3).cp; omega
      have nXC : gx ≠ C := by have := ((unhide T3).oX.lies gx rfl).1; omega
      clear F hlen hmany hAe hBe ev hM hc hn hj
      go_wp2_with fail
      go_region_held3 (fun w' => w'.cell? ⟨P, 0, none⟩ = some (.slice (some ⟨gx, 0, none⟩) n c1') ∧ w'.cell? ⟨P, 1, none⟩ = some (.slice a2 n c2) ∧ w'.cell? ⟨gx, 0, none⟩ = some (.int .i64 A) ∧ w'.cell? ⟨gx, j, none⟩ = some (.int .i64 B)) (go_keep)
        (first
          | (go_at_call 14; refine (l1Min_e _ _ _ (unhide HM)).mono ?_; rintro e w' ⟨rfl, hw⟩; subst w')
          | (go_at_call 13; refine (drBelow (w := w0) (a := a) (len := len) (cap := cap) M _ (by first | exact (unhide T3).d.d | exact ((unhide T3).below (bel0d 1)).d.d) (by omega)).mono ?_; rintro e w4 ⟨x, rfl, hx, d4, gr⟩; have D4 := hide d4; have R4 : Hid (Blk w4 R [.slice none 0 0, .slice none 0 0]) := hide (((unhide T3).below (bel0d 1)).r.apart gr (fun e => by have := Option.some.inj e; have := (unhide T3).rc; omega)); have OX : Hid (OwnI w4 (C + 1) (.slice (some ⟨gx, 0, none⟩) n c1') xs) := hide (((unhide T3).below (bel0d 1)).oX.far gr (fun g hg e => by have := Option.some.inj e; have := ((unhide T3).oX.lies g hg).1; omega)); have OY : Hid (OwnI w4 (C + 1) (.slice a2 n c2) ys) := hide (((unhide T3).below (bel0d 1)).oY.far gr (fun g hg e => by have := Option.some.inj e; have := ((unhide T3).oY.lies g hg).1; omega)); have p0 : w4.cell? ⟨P, 0, none⟩ = some (.slice (some ⟨gx, 0, none⟩) n c1') := (grown_cell' gr 0 lP (by simp [nP])).trans p0; have p1 : w4.cell? ⟨P, 1, none⟩ = some (.slice a2 n c2) := (grown_cell' gr 1 lP (by simp [nP])).trans p1; have X0 : w4.cell? ⟨gx, 0, none⟩ = some (.int .i64 A) := (grown_cell' gr 0 lX (by simp [nXC])).trans X0; have XL : w4.cell? ⟨gx, j, none⟩ = some (.int .i64 B) := (grown_cell' gr j lX (by simp [nXC])).trans XL; have w3' : IntKind.i64.wrap (A + x) = A + x := (by rw [IntKind.wrap_i64]; omega); have re0 : w4.cell? ⟨R, 0, none⟩ = some (.slice none 0 0) := (unhide R4).c 0 (by simp); have rf0 : w4.frozen? ⟨R, 0, none⟩ = false := (unhide R4).f 0 (by simp); have re1 : w4.cell? ⟨R, 1, none⟩ = some (.slice none 0 0) := (unhide R4).c 1 (by simp); have rf1 : w4.frozen? ⟨R, 1, none⟩ = false := (unhide R4).f 1 (by simp); have nRP : ¬ R = P := (by have h1 := (unhide T3).rc; have h2 := (unhide T3).cp; omega); have nPR : ¬ P = R := fun e => nRP e.symm; have nRX : ¬ R = gx := (by have h1 := (unhide T3).rc; have h2 := ((unhide T3).oX.lies gx rfl).1; omega); have nXR : ¬ gx = R := fun e => nRX e.symm))
      go_wp2_with fail
      have rlt := (unhide R4).lt
      have h0 := unhide HRC
      have nX : (Value.slice (some ⟨gx, 0, none⟩) n c1').ownBlock ≠ some R := fun e => by have := ((unhide OX).lies R e).1; omega
      have nY : (Value.slice a2 n c2).ownBlock ≠ some R := fun e => by have := ((unhide OY).lies R e).1; omega
      have FF := unhide HFIN
      have BB := unhide BW0
      obtain ⟨gy, ea2⟩ : ∃ gy, a2 = some ⟨gy, 0, none⟩ := by
        rcases (unhide OY).form with ⟨e, _⟩ | ⟨g', c', e, _⟩
        · simp only [Value.slice.injEq] at e; omega
        · simp only [Value.slice.injEq] at e; exact ⟨g', e.1⟩
      subst ea2
      refine bodyPost_ret (results_cellB (vs := [.slice (some ⟨gx, 0, none⟩) n c1', .slice (some ⟨gy, 0, none⟩) n c2]) rfl Try.isAgg26 Try.sizeOf26 rfl (by simpa using ((unhide R4).set 0 (by simp) (.slice (some ⟨gx, 0, none⟩) n c1')).set 1 (by simp) (.slice (some ⟨gy, 0, none⟩) n c2)) rfl) rfl
        ⟨gx, gy, n, c1', c2, xs, ys, A + x, rfl, (((unhide OX).set_other _ nX).set_other _ nX).row, (((unhide OY).set_other _ nY).set_other _ nY).row, hc1, (unhide HC).2, FF.1, ⟨by rw [FF.2.1]; omega, by rw [FF.2.2.1]; omega⟩, ?_⟩
      exact ((BB.1.trans ((unhide D4).bel.mono BB.1.size)).setCell (by show w.heap.size ≤ R; omega) _).setCell (by show w.heap.size ≤ R; omega) _

end Go.Proofs.Ytikhfacgoglcfaa

/-
  What the model's DrawLines draws: words of one link in order, for each whether it is lost on either network, all in new memory. Nothing that was there is written.
-/
import Derived.Test.YticdccdkjepifaaTwFacts
import Derived.Test.YticdccdkjepifaaDrawWd
import Derived.Test.YticdccdkjepifaaRowBo
import Derived.Test.YticdccdkjepifaaMAppI
import Derived.Test.YticdccdkjepifaaWxOwn
import Derived.Test.YticdccdkjepifaaOpenBy
namespace Go.Proofs.Yticdccdkjepifaa
open Go Go.RowKit

theorem own_ty {α β : Type} [Inhabited α] [Inhabited β] {K K' : Nat} {cells : α → Nat → Value} {cells' : β → Nat → Value} {w : World} {base base' : Nat} {T T' : TypeId} {v v' : Value} {ps : List α} {qs : List β} (h : OwnE K cells w base T v ps) (h' : OwnE K' cells' w base' T' v' qs) (hT : T ≠ T') : ∀ g, v.ownBlock = some g → v'.ownBlock ≠ some g := by
  intro g hg hg'
  obtain ⟨xs, ho, _⟩ := h.own
  obtain ⟨ys, ho', _⟩ := h'.own
  rcases ho.2 with ⟨e, _⟩ | ⟨g1, c1, cur1, rfl, _, hb1, _⟩
  · rw [e] at hg; simp [Value.ownBlock] at hg
  rcases ho'.2 with ⟨e, _⟩ | ⟨g2, c2, cur2, rfl, _, hb2, _⟩
  · rw [e] at hg'; simp [Value.ownBlock] at hg'
  have e1 : g1 = g := Option.some.inj hg
  have e2 : g2 = g := Option.some.inj hg'
  rw [e1] at hb1
  rw [e2, hb1] at hb2
  simp only [Option.some.injEq, Obj.cells.injEq] at hb2
  exact hT hb2.2.1
theorem TwL.push {s0 : Int} {k : Nat} {W : List Wc} {x : Wc} (h : TwL s0 k W) (h1 : x.l = 5) (h2 : x.s = (s0 + (k : Int)) % 256) (h3 : x.zs.length = 2) : TwL s0 (k + 1) (W ++ [x]) := by
  have hl := h.len
  have e := elAt_app W x
  have hk : ∀ i, i < k + 1 → i < k ∨ i = W.length := fun i hi => by omega
  refine ⟨by simp [hl], fun i hi => ?_, fun i hi => ?_, fun i hi => ?_⟩
  · rcases hk i hi with c | c
    · rw [e.1 i (by omega)]; exact h.l i c
    · rw [c, e.2]; exact h1
  · rcases hk i hi with c | c
    · rw [e.1 i (by omega)]; exact h.s i c
    · rw [c, e.2, h2, hl]
  · rcases hk i hi with c | c
    · rw [e.1 i (by omega)]; exact h.z i c
    · rw [c, e.2]; exact h3
/-- Lines that are being drawn: the cursor, the words with their bytes, what is lost on either network. -/
structure TwD (w : World) (C : Nat) (a : Option Addr) (len cap : Nat) (gw nw cw ga na ca gb nb cb : Nat) (ws : List Wx) (la lb : List Bool) (W : World) : Prop where
  dr : Dr w C a len cap W
  inn : ∀ b off, a = some ⟨b, off, none⟩ → b < w.heap.size
  o : OwnE 3 wxC W (C + 1) 50 (.slice (some ⟨gw, 0, none⟩) nw cw) ws
  d : ∀ i, i < ws.length → OwnE 1 byC W (C + 1) 5 (slV (elAt ws i).d) (elAt ws i).d.zs
  A : OwnE 1 boC W (C + 1) 4 (.slice (some ⟨ga, 0, none⟩) na ca) la
  B : OwnE 1 boC W (C + 1) 4 (.slice (some ⟨gb, 0, none⟩) nb cb) lb
  ab : ga ≠ gb
theorem TwD.below {w : World} {C : Nat} {a : Option Addr} {len cap : Nat} {gw nw cw ga na ca gb nb cb : Nat} {ws : List Wx} {la lb : List Bool} {W W' : World} (h : TwD w C a len cap gw nw cw ga na ca gb nb cb ws la lb W) (k : Below W.heap.size W W') : TwD w C a len cap gw nw cw ga na ca gb nb cb ws la lb W' := ⟨h.dr.below k, h.inn, h.o.below k, fun i hi => (h.d i hi).below k, h.A.below k, h.B.below k, h.ab⟩
theorem TwD.step {w : World} {C : Nat} {a : Option Addr} {len cap : Nat} {gw nw cw ga na ca gb nb cb : Nat} {ws : List Wx} {la lb : List Bool} {W W' : World} (h : TwD w C a len cap gw nw cw ga na ca gb nb cb ws la lb W) (d : Dr w C a len cap W') (g : W.grownBy W' (some C)) : TwD w C a len cap gw nw cw ga na ca gb nb cb ws la lb W' :=
  ⟨d, h.inn, h.o.far g (fun q hq e => by have := (h.o.lies q hq).1; have := Option.some.inj e; omega), fun i hi => (h.d i hi).far g (fun q hq e => by have := ((h.d i hi).lies q hq).1; have := Option.some.inj e; omega), h.A.far g (fun q hq e => by have := (h.A.lies q hq).1; have := Option.some.inj e; omega), h.B.far g (fun q hq e => by have := (h.B.lies q hq).1; have := Option.some.inj e; omega), h.ab⟩
theorem TwD.pushW {w : World} {C : Nat} {a : Option Addr} {len cap : Nat} {gw nw cw ga na ca gb nb cb : Nat} {ws : List Wx} {la lb : List Bool} {W W' : World} {x : Wx} {g c : Nat} (h : TwD w C a len cap gw nw cw ga na ca gb nb cb ws la lb W) (hx : OwnE 1 byC W (C + 1) 5 (slV x.d) x.d.zs) (o9 : OwnE 3 wxC W' (C + 1) 50 (.slice (some ⟨g, 0, none⟩) (nw + 1) c) (ws ++ [x])) (gr : W.grownBy W' (some gw)) : TwD w C a len cap g (nw + 1) c ga na ca gb nb cb (ws ++ [x]) la lb W' := by
  have hg := (h.o.lies gw rfl).1
  have x1 : ∀ {p : Nat}, some p = some gw → (Value.slice (some ⟨gw, 0, none⟩) nw cw).ownBlock = some p := fun e => by rw [e]; rfl
  refine ⟨h.dr.own gr (fun k hk => by have e : gw = k := Option.some.inj hk; omega) h.inn, h.inn, o9, fun i hi => ?_, h.A.far gr (fun q hq e => own_ty h.A h.o (by decide) q hq (x1 e)), h.B.far gr (fun q hq e => own_ty h.B h.o (by decide) q hq (x1 e)), h.ab⟩
  by_cases c : i < ws.length
  · rw [(elAt_app ws x).1 i c]; exact (h.d i c).far gr (fun q hq e => own_ty (h.d i c) h.o (by decide) q hq (x1 e))
  · obtain rfl : i = ws.length := by simp at hi; omega
    rw [(elAt_app ws x).2]; exact hx.far gr (fun q hq e => own_ty hx h.o (by decide) q hq (x1 e))
theorem TwD.pushA {w : World} {C : Nat} {a : Option Addr} {len cap : Nat} {gw nw cw ga na ca gb nb cb : Nat} {ws : List Wx} {la lb : List Bool} {W W' : World} {x : Bool} {g c : Nat} (h : TwD w C a len cap gw nw cw ga na ca gb nb cb ws la lb W) (o9 : OwnE 1 boC W' (C + 1) 4 (.slice (some ⟨g, 0, none⟩) (na + 1) c) (la ++ [x])) (gr : W.grownBy W' (some ga)) (hg9 : some ga = some g ∨ W.heap.size < g) : TwD w C a len cap gw nw cw g (na + 1) c gb nb cb ws (la ++ [x]) lb W' := by
  have hg := (h.A.lies ga rfl).1
  have hb := (h.B.lies gb rfl).2
  have hab := h.ab
  have x1 : ∀ {p : Nat}, some p = some ga → (Value.slice (some ⟨ga, 0, none⟩) na ca).ownBlock = some p := fun e => by rw [e]; rfl
  refine ⟨h.dr.own gr (fun k hk => by have e : ga = k := Option.some.inj hk; omega) h.inn, h.inn, h.o.far gr (fun q hq e => own_ty h.o h.A (by decide) q hq (x1 e)), fun i hi => (h.d i hi).far gr (fun q hq e => own_ty (h.d i hi) h.A (by decide) q hq (x1 e)), o9, h.B.far gr (fun q hq e => by have e1 : gb = q := Option.some.inj hq; have e2 := Option.some.inj e; omega), ?_⟩
  rcases hg9 with e | e
  · have e : ga = g := Option.some.inj e
    omega
  · omega
theorem TwD.pushB {w : World} {C : Nat} {a : Option Addr} {len cap : Nat} {gw nw cw ga na ca gb nb cb : Nat} {ws : List Wx} {la lb : List Bool} {W W' : World} {x : Bool} {g c : Nat} (h : TwD w C a len cap gw nw cw ga na ca gb nb cb ws la lb W) (o9 : OwnE 1 boC W' (C + 1) 4 (.slice (some ⟨g, 0, none⟩) (nb + 1) c) (lb ++ [x])) (gr : W.grownBy W' (some gb)) (hg9 : some gb = some g ∨ W.heap.size < g) : TwD w C a len cap gw nw cw ga na ca g (nb + 1) c ws la (lb ++ [x]) W' := by
  have hg := (h.B.lies gb rfl).1
  have hb := (h.A.lies ga rfl).2
  have hab := h.ab
  have x1 : ∀ {p : Nat}, some p = some gb → (Value.slice (some ⟨gb, 0, none⟩) nb cb).ownBlock = some p := fun e => by rw [e]; rfl
  refine ⟨h.dr.own gr (fun k hk => by have e : gb = k := Option.some.inj hk; omega) h.inn, h.inn, h.o.far gr (fun q hq e => own_ty h.o h.B (by decide) q hq (x1 e)), fun i hi => (h.d i hi).far gr (fun q hq e => own_ty (h.d i hi) h.B (by decide) q hq (x1 e)), h.A.far gr (fun q hq e => by have e1 : ga = q := Option.some.inj hq; have e2 := Option.some.inj e; omega), o9, ?_⟩
  rcases hg9 with e | e
  · have e : gb = g := Option.some.inj e
    omega
  · omega
/-- What the words are. -/
structure TwW (s0 : Int) (k : Nat) (ws : List Wx) (la lb : List Bool) : Prop where
  t : TwL s0 k (ws.map wxW)
  y : ∀ i, i < k → BytesIn (elAt ws i).d.zs
  cap : ∀ i, i < k → (elAt ws i).d.n = 2 ∧ (elAt ws i).d.c = 2
  lw : ws.length = k
  l1 : la.length = k
  l2 : lb.length = k
def TwR (w : World) (C : Nat) (a : Option Addr) (len cap : Nat) (s0 : Int) (N : Nat) (t6 t7 t8 t9 t10 : Value) (W : World) : Prop := ∃ (k m gw cw ga ca gb cb : Nat) (S : Int) (ws : List Wx) (la lb : List Bool), t6 = .slice (some ⟨gw, 0, none⟩) k cw ∧ t7 = .slice (some ⟨ga, 0, none⟩) k ca ∧ t8 = .slice (some ⟨gb, 0, none⟩) k cb ∧ t9 = .int .i64 S ∧ t10 = .int .i64 (m : Int) ∧ Hid (m + k = N) ∧ m ≤ 19 ∧ k ≤ 19 ∧ (0 ≤ S ∧ S < 256) ∧ Hid (S = (s0 + (k : Int)) % 256) ∧ Hid (TwW s0 k ws la lb) ∧ Hid (TwD w C a len cap gw k cw ga k ca gb k cb ws la lb W)
/-- What DrawLines tells. -/
def TwE (w : World) (e : Ending) (w' : World) : Prop := ∃ (N gw cw ga ca gb cb : Nat) (s0 : Int) (ws : List Wx) (la lb : List Bool), e = .returned (.tuple #[.slice (some ⟨gw, 0, none⟩) N cw, .slice (some ⟨ga, 0, none⟩) N ca, .slice (some ⟨gb, 0, none⟩) N cb]) ∧ N ≤ 19 ∧ 0 ≤ s0 ∧ TwW s0 N ws la lb ∧ WxIn w' (some ⟨gw, 0, none⟩) N ws ∧ RowE 1 boC w' (some ⟨ga, 0, none⟩) N la ∧ RowE 1 boC w' (some ⟨gb, 0, none⟩) N lb ∧ Below w.heap.size w w'
set_option maxRecDepth 20000 in
set_option maxHeartbeats 2000000 in
theorem drawLines_any (a : Option Addr) (len cap : Nat) (w : World) (hb : Bytes w a len) (hin : ∀ b off, a = some ⟨b, off, none⟩ → b < w.heap.size) :
    Calls Try.prog 13 #[.slice a len cap] w fun e w' => TwE w e w' := by
  have DN := hide (drNew a len cap w hb hin)
  have HIN := hide hin
  clear hb hin
  go_enter Try.func13, Try.ntmps13
  go_wp2_with fail
  refine (unhide DN).mono ?_
  rintro e W1 ⟨rfl, d1, _⟩
  obtain ⟨C, hC⟩ : ∃ C, w.heap.size = C := ⟨_, rfl⟩
  rw [hC] at d1 ⊢
  have hlt := d1.lt
  have T0 : Hid (TwD w C a len cap W1.heap.size 0 0 (W1.heap.size + 1) 0 0 (W1.heap.size + 2) 0 0 [] [] [] (((W1.alloc (Obj.cells #[] 50)).alloc (Obj.cells #[] 4)).alloc (Obj.cells #[] 4))) := hide ⟨d1.below (bel3 _ _ _), unhide HIN,
    (((ownE_none (K := 3) (cells := wxC) (w := W1) (w1 := W1) (T := 50) (Nat.le_refl _)).below (bel1 _)).below (bel1 _)).mono (by omega), fun i hi => by simp at hi,
    (by have k := ((ownE_none (K := 1) (cells := boC) (w := W1) (w1 := W1.alloc (Obj.cells #[] 50)) (T := 4) (by simp)).below (bel1 (Obj.cells #[] 4))).mono (base' := C + 1) (by omega); simpa using k),
    (by have k := (ownE_none (K := 1) (cells := boC) (w := W1) (w1 := (W1.alloc (Obj.cells #[] 50)).alloc (Obj.cells #[] 4)) (T := 4) (by simp; omega)).mono (base' := C + 1) (by omega); simpa using k), by omega⟩
  have HCC := hide hC
  clear d1 DN hC hlt
  go_wp2_with fail
  refine (drBelow 256 _ (unhide T0).dr (by omega)).mono ?_
  rintro e W2 ⟨s0, rfl, hs0, d2, g2⟩
  have T1 := hide ((unhide T0).step d2 g2)
  clear d2 g2 T0
  go_wp2_with fail
  refine (drBelow 20 _ (unhide T1).dr (by omega)).mono ?_
  rintro e W3 ⟨n0, rfl, hn0, d3, g3⟩
  have T2 := hide ((unhide T1).step d3 g3)
  clear d3 g3 T1
  obtain ⟨N, rfl⟩ : ∃ N : Nat, n0 = (N : Int) := ⟨n0.toNat, by omega⟩
  have hN : N ≤ 19 := by omega
  have HS0 := hide hs0
  clear hn0
  go_wp2_with fail
  go_loopw [6, 7, 8, 9, 10] (fun t6 t7 t8 t9 t10 wr => TwR w C a len cap s0 N t6 t7 t8 t9 t10 wr) (fun _ _ _ _ t10 _ => (intOf t10).toNat)
  case atStart => exact ⟨0, N, _, _, _, _, _, _, s0, [], [], [], rfl, rfl, rfl, rfl, rfl, hide rfl, hN, by omega, by omega, hide (by omega), hide ⟨⟨rfl, fun i hi => by omega, fun i hi => by omega, fun i hi => by omega⟩, fun i hi => by omega, fun i hi => by omega, rfl, rfl, rfl⟩, T2⟩
  case round =>
    clear T2 hs0
    obtain ⟨k, m, gw, cw, ga, ca, gb, cb, S, ws, la, lb, rfl, rfl, rfl, rfl, rfl, HMK, hm, hk, hS, HS, HW, HT⟩ := hrel
    by_cases hp : 0 < m
    · have j1 : (0 : Int) < (m : Int) := by omega
      have hk2 : k ≤ 18 := by have := unhide HMK; omega
      go_wp2_with fail
      refine (drByte _ (unhide HT).dr).mono ?_
      rintro e W5 ⟨x, rfl, hx, d5, g5⟩
      have T5 := hide ((unhide HT).step d5 g5)
      clear d5 g5 HT
      have hx2 : x % 256 = x := by omega
      have hm2 : (m : Int) % 256 = (m : Int) := by omega
      have hlw := (unhide HW).lw
      have hl1 := (unhide HW).l1
      have hl2 := (unhide HW).l2
      have HLW := hide hlw
      have HL1 := hide hl1
      have HL2 := hide hl2
      clear hlw hl1 hl2
      have hCW := (unhide T5).dr.lt
      obtain ⟨w9x, hw9x⟩ : ∃ x0 : Wx, x0 = ⟨5, S, ⟨some ⟨W5.heap.size, 0, none⟩, 2, 2, [x, (m : Int)]⟩⟩ := ⟨_, rfl⟩
      go_wp2_with (at_builtin; go_loud (refine wpList_app_elG (K := 3) (cells := wxC) rfl _ _ 42 50 rfl Try.underlying42 infoWx rfl (by decide) (by decide) w9x [.int .i64 5, .int .i64 S, .slice (some ⟨W5.heap.size, 0, none⟩) 2 2] rfl (fun q hq => by rw [hw9x]; exact wxV_at (⟨5, S, ⟨some ⟨W5.heap.size, 0, none⟩, 2, 2, [x, (m : Int)]⟩⟩ : Wx) q hq) (fun u hu => wxV_one (⟨5, S, ⟨some ⟨W5.heap.size, 0, none⟩, 2, 2, [x, (m : Int)]⟩⟩ : Wx) u hu) ((unhide T5).o.below (bel1 _)) (unhide HLW) rfl (H := W5.heap.size + 1) (by simp) rfl (by simp; omega) (by omega) ?_; intro g9 c9 w9 o9 gr9 hg9; have T9 := hide (((unhide T5).below (bel1 _)).pushW (x := w9x) (by rw [hw9x]; exact byE_lit (base := C + 1) W5 [x, (m : Int)] (by omega) (by simp)) o9 gr9); clear o9 gr9 hg9 T5))
      refine (drOnce 3 _ (unhide T9).dr (by omega)).mono ?_
      rintro e W6 ⟨p, rfl, d6, g6⟩
      have T6 := hide ((unhide T9).step d6 g6)
      have hC6 := (unhide T6).dr.lt
      clear d6 g6 T9
      go_wp2_with (at_builtin; refine wpList_app_elG (K := 1) (cells := boC) rfl _ _ 43 4 rfl Try.underlying43 infoBo rfl (by decide) (by decide) p [.bool p] rfl (fun q hq => by match q, hq with | 0, _ => rfl) (fun u hu => by simp at hu; rcases hu with rfl; rfl) (unhide T6).A (unhide HL1) rfl rfl rfl (by omega) (by omega) ?_; intro g7 c7 w7 o7 gr7 hg7; have T7 := hide ((unhide T6).pushA o7 gr7 hg7); clear o7 gr7 hg7 T6)
      refine (drOnce 3 _ (unhide T7).dr (by omega)).mono ?_
      rintro e W8 ⟨q, rfl, d8, g8⟩
      have T8 := hide ((unhide T7).step d8 g8)
      have hC8 := (unhide T8).dr.lt
      clear d8 g8 T7
      go_wp2_with (at_builtin; refine wpList_app_elG (K := 1) (cells := boC) rfl _ _ 43 4 rfl Try.underlying43 infoBo rfl (by decide) (by decide) q [.bool q] rfl (fun q hq => by match q, hq with | 0, _ => rfl) (fun u hu => by simp at hu; rcases hu with rfl; rfl) (unhide T8).B (unhide HL2) rfl rfl rfl (by omega) (by omega) ?_; intro gz cz wz oz grz hgz; have TZ := hide ((unhide T8).pushB oz grz hgz); clear oz grz hgz T8)
      have WN : Hid (TwW s0 (k + 1) (ws ++ [w9x]) (la ++ [p]) (lb ++ [q])) := hide (by
        have h := unhide HW
        have e := elAt_app ws w9x
        refine ⟨?_, fun i hi => ?_, fun i hi => ?_, by simp [h.lw], by simp [h.l1], by simp [h.l2]⟩
        · rw [List.map_append]
          exact h.t.push (by rw [hw9x]; rfl) (by rw [hw9x]; exact unhide HS) (by rw [hw9x]; rfl)
        · by_cases c : i < k
          · rw [e.1 i (by have := h.lw; omega)]; exact h.y i c
          · obtain rfl : i = ws.length := by have := h.lw; omega
            rw [e.2, hw9x]
            intro j hj
            have hj : j < 2 := hj
            rcases (show j = 0 ∨ j = 1 from by omega) with rfl | rfl
            · exact hx
            · show 0 ≤ (m : Int) ∧ (m : Int) ≤ 255
              omega
        · by_cases c : i < k
          · rw [e.1 i (by have := h.lw; omega)]; exact h.cap i c
          · obtain rfl : i = ws.length := by have := h.lw; omega
            rw [e.2, hw9x]; exact ⟨rfl, rfl⟩)
      go_roundw
      case rel => exact ⟨k + 1, m - 1, g9, c9, g7, c7, gz, cz, _, _, _, _, rfl, rfl, rfl, rfl, by rw [show ((m - 1 : Nat) : Int) = (m : Int) - 1 by omega], hide (by have := unhide HMK; omega), by omega, by omega, by omega, hide (by have := unhide HS; omega), WN, TZ⟩
      case measure => simp [intOf]; omega
    · have j1 : ¬ (0 : Int) < (m : Int) := by omega
      have hkN : k = N := by have := unhide HMK; omega
      have HK := hide hkN
      clear hkN
      go_wp2_with fail
      go_ret3
      rw [unhide HK] at HW HT ⊢
      exact ⟨N, gw, cw, ga, ca, gb, cb, s0, ws, la, lb, by kernel_rfl, hN, (unhide HS0).1, unhide HW, ⟨(unhide HT).o.row, fun i hi => ((unhide HT).d i (by have := (unhide HW).lw; omega)).row⟩, (unhide HT).A.row, (unhide HT).B.row, (unhide HT).dr.bel⟩

end Go.Proofs.Yticdccdkjepifaa

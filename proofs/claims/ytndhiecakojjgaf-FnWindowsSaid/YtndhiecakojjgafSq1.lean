/-
  What the model's Share answers: the plain answer, at every plan and partition; nothing that was there is written.
  The windows of one partition, in the program: the plain list, in memory of its own; nothing that was there is written.
  What the program's Share answers: the plain answer, at every plan and partition; nothing that was there is written.
-/
import Derived.Test.YtndhiecakojjgafPure1
import Derived.Test.YtndhiecakojjgafPpOwn
import Derived.Test.YtndhiecakojjgafOwn1
import Derived.Test.YtndhiecakojjgafFar1
import Derived.Test.YtndhiecakojjgafSqPure
import Derived.Test.YtndhiecakojjgafPq1

namespace Go.Proofs.Ytndhiecakojjgaf
open Go.RowKit

theorem ret_sh {a b a' b' : Int} {c c' : Bool} (h1 : a = a') (h2 : b = b') (h3 : c = c') : Ending.returned (.tuple #[.int .i64 a, .int .i64 b, .bool c]) = .returned (.tuple #[.int .i64 a', .int .i64 b', .bool c']) := by rw [h1, h2, h3]
theorem mxs_is {c : Int} (x y : Int) (w : World) (h : max x y = c) : Calls Try.prog 66 #[.int .i64 x, .int .i64 y] w fun e w' => e = .returned (.int .i64 c) ∧ w' = w := by subst h; exact l1Max_eq x y w
theorem wnE_none {w1 : World} {B : Nat} (h : B ≤ w1.heap.size) : OwnE 3 wnC (w1.alloc (Obj.cells #[] 91)) B 91 (.slice (some ⟨w1.heap.size, 0, none⟩) 0 0) [] := by
  refine ⟨⟨[], ⟨rfl, .inr ⟨_, _, #[], rfl, h, ?_, Nat.le_refl _, by simp [maxLen], rfl, rfl⟩⟩, fun j hj => by simp at hj⟩⟩
  show (w1.heap.push _)[w1.heap.size]? = _
  simp
/-- A list of windows that grows, behind a plan's own block. -/
structure ShW (w wr : World) (vs : List Value) (g n cp : Nat) (out : List Wn) : Prop where
  o : OwnE 3 wnC wr (w.heap.size + 1) 91 (.slice (some ⟨g, 0, none⟩) n cp) out
  l : out.length = n
  blk : Blk wr w.heap.size vs
  bel : Below w.heap.size w wr
  sz : w.heap.size + 1 ≤ wr.heap.size
theorem ShW.below {w wr w' : World} {vs : List Value} {g n cp : Nat} {out : List Wn} (k : ShW w wr vs g n cp out) (b : Below wr.heap.size wr w') : ShW w w' vs g n cp out :=
  ⟨k.o.below b, k.l, k.blk.below b, k.bel.trans (b.mono k.bel.size), Nat.le_trans k.sz b.size⟩
theorem ShW.app {w wr w' : World} {vs : List Value} {g n cp g' cp' : Nat} {out : List Wn} {z : Wn} (k : ShW w wr vs g n cp out) (o : OwnE 3 wnC w' (w.heap.size + 1) 91 (.slice (some ⟨g', 0, none⟩) (n + 1) cp') (out ++ [z])) (gr : wr.grownBy w' (Value.slice (some ⟨g, 0, none⟩) n cp).ownBlock) : ShW w w' vs g' (n + 1) cp' (out ++ [z]) :=
  ⟨o, by simp [k.l], k.blk.apart gr (by intro e; have q := (k.o.lies _ e.symm).1; omega), k.bel.grown gr k.bel.size (fun q hq => Nat.le_trans (Nat.le_succ _) (k.o.lies q hq).1), Nat.le_trans k.sz gr.size⟩
theorem ShW.at_ {w wr : World} {vs : List Value} {g n cp : Nat} {out : List Wn} (k : ShW w wr vs g n cp out) {j : Nat} (hj : j < n) (q : Nat) (hq : q < 3) : wr.cell? ⟨g, j * 3 + q, none⟩ = some (wnC (elAt out j) q) := (k.o.here k.l j hj q hq).1


end Go.Proofs.Ytndhiecakojjgaf

namespace Go.Proofs.Ytndhiecakojjgaf
open Go.RowKit

set_option maxRecDepth 20000 in
set_option maxHeartbeats 2000000 in
theorem windowsOf_is (fr pa : Int) (da : Option Addr) (dn dc : Nat) (ws : List Wn) (p : Int) (w : World) (hl : ws.length ≤ 40) (hr : RowE 3 wnC w da dn ws) :
    Calls Try.prog 52 #[.agg #[.int .i64 fr, .int .i64 pa, .slice da dn dc], .int .i64 p] w fun e w' => ∃ g m cp : Nat, e = .returned (.slice (some ⟨g, 0, none⟩) m cp) ∧ m = (shM ws p ws.length).length ∧ OwnE 3 wnC w' w.heap.size 91 (.slice (some ⟨g, 0, none⟩) m cp) (shM ws p ws.length) ∧ Below w.heap.size w w' := by
  have hz := hr.len_eq
  have hs := hr.small
  have HR := hide hr
  clear hr
  subst hz
  obtain ⟨W, hW⟩ : ∃ W, W = w.alloc (Obj.cells #[.int .i64 fr, .int .i64 pa, .slice da ws.length dc] 53) := ⟨_, rfl⟩
  have K0 : Hid (Blk W w.heap.size [.int .i64 fr, .int .i64 pa, .slice da ws.length dc]) := hide (by rw [hW]; exact Blk.new _ _)
  have B0 : Hid (Below w.heap.size w W) := hide (by rw [hW]; exact bel1 _)
  have HW := hide hW
  clear hW
  have S0 : Hid (w.heap.size + 1 ≤ W.heap.size) := hide (by rw [unhide HW]; simp)
  have KJ : Hid (ShW w (W.alloc (Obj.cells #[] 91)) [.int .i64 fr, .int .i64 pa, .slice da ws.length dc] W.heap.size 0 0 (shM ws p 0)) := hide ⟨wnE_none (unhide S0), rfl, (unhide K0).alloc _, (unhide B0).alloc (unhide B0).size _, by have q := unhide S0; simp; omega⟩
  go_enter Try.func52, Try.ntmps52
  go_upto_region 1 with fail
  rw [← unhide HW]
  clear HW
  have p2 : (W.alloc (Obj.cells #[] 91)).cell? ⟨w.heap.size, 2, none⟩ = some (.slice da ws.length dc) := (unhide KJ).blk.c 2 (by simp)
  go_wp2_with fail
  clear p2
  go_loopw [5, 12] (fun s5 s12 wr => ∃ (k m g cp : Nat), k ≤ ws.length ∧ m ≤ k ∧ s5 = .slice (some ⟨g, 0, none⟩) m cp ∧ s12 = .int .i64 (k : Int) ∧ Hid (ShW w wr [.int .i64 fr, .int .i64 pa, .slice da ws.length dc] g m cp (shM ws p k))) (fun _ s12 _ => ws.length - (intOf s12).toNat)
  case atStart => exact ⟨0, 0, _, 0, Nat.zero_le _, Nat.le_refl _, rfl, rfl, KJ⟩
  case round =>
    clear KJ K0 B0 S0
    obtain ⟨k, m, g1, cp, hk, hm, rfl, rfl, HK⟩ := hrel
    by_cases hlt : k < ws.length
    · rcases ((unhide HR).below (unhide HK).bel).wn3 with ⟨z0, _⟩ | ⟨bb, off, rfl, _, hcs⟩
      · omega
      have m0 := (hcs k hlt).1
      have m1 := (hcs k hlt).2.1
      have m2 := (hcs k hlt).2.2
      obtain ⟨v0, hv0⟩ : ∃ z, (elAt ws k).a0 = z := ⟨_, rfl⟩
      obtain ⟨v1, hv1⟩ : ∃ z, (elAt ws k).a1 = z := ⟨_, rfl⟩
      obtain ⟨v2, hv2⟩ : ∃ z, (elAt ws k).a2 = z := ⟨_, rfl⟩
      have HXX : Hid (elAt ws k = ⟨v0, v1, v2⟩) := hide (by rw [← hv0, ← hv1, ← hv2])
      have HV0 := hide hv0
      rw [hv0] at m0
      rw [hv1] at m1
      rw [hv2] at m2
      have k0 : (0 : Int) ≤ (k : Int) := by omega
      have k1 : (k : Int) < (ws.length : Int) := by omega
      obtain ⟨V, hV⟩ : ∃ V, V = wr.alloc (Obj.cells #[.int .i64 v0, .int .i64 v1, .int .i64 v2] 91) := ⟨_, rfl⟩
      have KV := hide ((unhide HK).below (by rw [hV]; exact bel1 _ : Below wr.heap.size wr V))
      have KX : Hid (Blk V wr.heap.size [.int .i64 v0, .int .i64 v1, .int .i64 v2]) := hide (by rw [hV]; exact Blk.new _ _)
      obtain ⟨X, hX⟩ : ∃ X, wr.heap.size = X := ⟨_, rfl⟩
      rw [hX] at KX
      have HV := hide hV
      have HX := hide hX
      clear hcs hV hX hv0 hv1 hv2
      go_upto_region 5 with fail
      rw [← unhide HV, unhide HX]
      clear HV HX m0 m1 m2
      have y0 : V.cell? ⟨X, 0, none⟩ = some (.int .i64 v0) := (unhide KX).c 0 (by simp)
      have y1 : V.cell? ⟨X, 1, none⟩ = some (.int .i64 v1) := (unhide KX).c 1 (by simp)
      have y2 : V.cell? ⟨X, 2, none⟩ = some (.int .i64 v2) := (unhide KX).c 2 (by simp)
      by_cases hq : v0 = p
      · have HQ : Hid ((elAt ws k).a0 = p) := hide (by rw [unhide HV0]; exact hq)
        have q5 : (v0 == p) = true := by simpa using hq
        clear hq
        go_wp2_with (at_builtin; (refine wpList_app_elG (K := 3) (cells := wnC) rfl _ _ 51 91 rfl Try.underlying51 infoWn rfl (by decide) (by decide) (Wn.mk v0 v1 v2) [.int .i64 v0, .int .i64 v1, .int .i64 v2] rfl (fun q hq => by match q, hq with | 0, _ => rfl | 1, _ => rfl | 2, _ => rfl) (fun u hu => by simp at hu; rcases hu with rfl | rfl | rfl <;> rfl) (unhide KV).o (unhide KV).l rfl (by simp) rfl (unhide KV).sz (by omega) ?_; intro g' c' w9 o9 gr9 _; have K9 := hide ((unhide KV).app o9 gr9); clear o9 gr9))
        go_roundw
        case rel => exact ⟨k + 1, m + 1, g', c', by omega, by omega, rfl, by go_num, by simp only [shM]; rw [if_pos (unhide HQ), unhide HXX]; exact K9⟩
        case measure => simp [intOf]; omega
      · have HQ : Hid (¬ (elAt ws k).a0 = p) := hide (by rw [unhide HV0]; exact hq)
        have q5 : (v0 == p) = false := by simpa using hq
        go_wp2_with fail
        go_roundw
        case rel => exact ⟨k + 1, m, g1, cp, by omega, by omega, rfl, by go_num, by simp only [shM]; rw [if_neg (unhide HQ)]; exact KV⟩
        case measure => simp [intOf]; omega
    · have hkl : k = ws.length := by omega
      have k1 : ¬ (k : Int) < (ws.length : Int) := by omega
      rw [hkl] at HK
      clear hkl
      go_wp2_with fail
      go_ret
      exact ⟨g1, m, cp, rfl, (unhide HK).l.symm, (unhide HK).o.mono (Nat.le_succ _), (unhide HK).bel⟩

end Go.Proofs.Ytndhiecakojjgaf

namespace Go.Proofs.Ytndhiecakojjgaf
open Go.RowKit

set_option maxRecDepth 20000 in
set_option maxHeartbeats 4000000 in
theorem implShare_is {n g : Int} {b : Bool} (fr pa : Int) (da : Option Addr) (dn dc : Nat) (ws : List Wn) (p : Int) (w : World) (hr : RowE 3 wnC w da dn ws) (hn : shR fr pa ws p = n) (hg : shQ fr pa ws p = g) (hb : shB fr pa ws p = b) :
    Calls Try.prog 25 #[.agg #[.int .i64 fr, .int .i64 pa, .slice da dn dc], .int .i64 p] w fun e w' => e = .returned (.tuple #[.int .i64 n, .int .i64 g, .bool b]) ∧ Below w.heap.size w w' := by
  have hz := hr.len_eq
  have hs := hr.small
  have HR := hide hr
  clear hr
  subst hz
  cases hv : shB fr pa ws p with
  | false =>
    have HE := hide (hv.symm.trans hb)
    have HN := hide ((sh_no hv).1.symm.trans hn)
    have HG := hide ((sh_no hv).2.symm.trans hg)
    rcases two (ppB fr pa ws) (inB p 0 (pa - 1)) with ⟨q1, _⟩ | ⟨q1, q2, _⟩ | ⟨q1, q2, hv2⟩
    · clear hb hn hv hg
      go_enter Try.func25, Try.ntmps25
      go_wp2_with fail
      obtain ⟨W, hW⟩ : ∃ W, W = (w.alloc (Obj.cells #[.int .i64 fr, .int .i64 pa, .slice da ws.length dc] 53)) := ⟨_, rfl⟩
      rw [← hW]
      have K0 : Hid (Blk W (w.heap.size) [.int .i64 fr, .int .i64 pa, .slice da ws.length dc]) := hide (by rw [hW]; exact Blk.new _ _)
      have B0 : Hid (Below w.heap.size w W) := hide (by rw [hW]; exact (by repeat (first | exact Below.refl _ _ | refine Below.alloc ?_ (by simp; try omega) _ | refine Below.setCell ?_ (by simp; try omega) _ | refine taDr ?_ _)))
      clear hW
      obtain ⟨ι, fW, _, hb, hall⟩ := belClass W
      have HB := hide hb
      have HA := hide hall
      have c00 : ∀ x, (fW x).cell? ⟨w.heap.size, 0, none⟩ = some (.int .i64 fr) := fun x => ((unhide K0).below (hb x)).c 0 (by simp)
      have c01 : ∀ x, (fW x).cell? ⟨w.heap.size, 1, none⟩ = some (.int .i64 pa) := fun x => ((unhide K0).below (hb x)).c 1 (by simp)
      have c02 : ∀ x, (fW x).cell? ⟨w.heap.size, 2, none⟩ = some (.slice da ws.length dc) := fun x => ((unhide K0).below (hb x)).c 2 (by simp)
      clear hb hall
      obtain ⟨x0, h0⟩ := (unhide HA) W (Below.refl _ _)
      rw [h0]
      clear h0
      go_wp2_with (first | (go_at_call 28; refine (belQ (unhide HB) (unhide HA) (implPlanOk_is _ _ _ _ _ ws _ ((unhide HR).below ((unhide B0).trans ((unhide HB _).mono (unhide B0).size))) (by exact q1))).mono ?_; rintro e _ ⟨rfl, y, rfl⟩))
      repeat (refine wp_region_bel (fun w' h => (unhide HA) w' ((unhide HB _).trans (h.mono (unhide HB _).size))) (by kernel_rfl) (by kernel_rfl) ?_; (repeat (go_big_quiet_step (first | (go_at_call 28; exact belQ (unhide HB) (unhide HA) (implPlanOk_is _ _ _ _ _ ws _ ((unhide HR).below ((unhide B0).trans ((unhide HB _).mono (unhide B0).size))) (by exact q1)))))); refine wpQuiet_nil ?_; rintro _ ⟨y, rfl⟩; (first | go_wp2_with (first | (go_at_call 28; refine (belQ (unhide HB) (unhide HA) (implPlanOk_is _ _ _ _ _ ws _ ((unhide HR).below ((unhide B0).trans ((unhide HB _).mono (unhide B0).size))) (by exact q1))).mono ?_; rintro e _ ⟨rfl, y, rfl⟩)) | go_wp2))
      go_ret3
      exact ⟨ret_sh (unhide HN) (unhide HG) (unhide HE), (unhide B0).trans ((unhide HB _).mono (unhide B0).size)⟩
    · clear hb hn hv hg
      have f2 := (ppB_facts q1).2.1
      go_enter Try.func25, Try.ntmps25
      go_wp2_with fail
      obtain ⟨W, hW⟩ : ∃ W, W = (w.alloc (Obj.cells #[.int .i64 fr, .int .i64 pa, .slice da ws.length dc] 53)) := ⟨_, rfl⟩
      rw [← hW]
      have K0 : Hid (Blk W (w.heap.size) [.int .i64 fr, .int .i64 pa, .slice da ws.length dc]) := hide (by rw [hW]; exact Blk.new _ _)
      have B0 : Hid (Below w.heap.size w W) := hide (by rw [hW]; exact (by repeat (first | exact Below.refl _ _ | refine Below.alloc ?_ (by simp; try omega) _ | refine Below.setCell ?_ (by simp; try omega) _ | refine taDr ?_ _)))
      clear hW
      obtain ⟨ι, fW, _, hb, hall⟩ := belClass W
      have HB := hide hb
      have HA := hide hall
      have c00 : ∀ x, (fW x).cell? ⟨w.heap.size, 0, none⟩ = some (.int .i64 fr) := fun x => ((unhide K0).below (hb x)).c 0 (by simp)
      have c01 : ∀ x, (fW x).cell? ⟨w.heap.size, 1, none⟩ = some (.int .i64 pa) := fun x => ((unhide K0).below (hb x)).c 1 (by simp)
      have c02 : ∀ x, (fW x).cell? ⟨w.heap.size, 2, none⟩ = some (.slice da ws.length dc) := fun x => ((unhide K0).below (hb x)).c 2 (by simp)
      clear hb hall
      obtain ⟨x0, h0⟩ := (unhide HA) W (Below.refl _ _)
      rw [h0]
      clear h0
      go_wp2_with (first | (go_at_call 28; refine (belQ (unhide HB) (unhide HA) (implPlanOk_is _ _ _ _ _ ws _ ((unhide HR).below ((unhide B0).trans ((unhide HB _).mono (unhide B0).size))) (by exact q1))).mono ?_; rintro e _ ⟨rfl, y, rfl⟩) | (go_at_call 51; refine (belQ (unhide HB) (unhide HA) (hasPart_is _ _ _ _ _ _ _ f2 (by exact q2))).mono ?_; rintro e _ ⟨rfl, y, rfl⟩))
      repeat (refine wp_region_bel (fun w' h => (unhide HA) w' ((unhide HB _).trans (h.mono (unhide HB _).size))) (by kernel_rfl) (by kernel_rfl) ?_; (repeat (go_big_quiet_step (first | (go_at_call 28; exact belQ (unhide HB) (unhide HA) (implPlanOk_is _ _ _ _ _ ws _ ((unhide HR).below ((unhide B0).trans ((unhide HB _).mono (unhide B0).size))) (by exact q1))) | (go_at_call 51; exact belQ (unhide HB) (unhide HA) (hasPart_is _ _ _ _ _ _ _ f2 (by exact q2)))))); refine wpQuiet_nil ?_; rintro _ ⟨y, rfl⟩; (first | go_wp2_with (first | (go_at_call 28; refine (belQ (unhide HB) (unhide HA) (implPlanOk_is _ _ _ _ _ ws _ ((unhide HR).below ((unhide B0).trans ((unhide HB _).mono (unhide B0).size))) (by exact q1))).mono ?_; rintro e _ ⟨rfl, y, rfl⟩) | (go_at_call 51; refine (belQ (unhide HB) (unhide HA) (hasPart_is _ _ _ _ _ _ _ f2 (by exact q2))).mono ?_; rintro e _ ⟨rfl, y, rfl⟩)) | go_wp2))
      go_ret3
      exact ⟨ret_sh (unhide HN) (unhide HG) (unhide HE), (unhide B0).trans ((unhide HB _).mono (unhide B0).size)⟩
    · exfalso
      rw [shB] at hv
      rw [hv2] at hv
      cases hv
  | true =>
    have hq : ppB fr pa ws = true ∧ inB p 0 (pa - 1) = true := by simpa [shB] using hv
    obtain ⟨q1, q2⟩ := hq
    have HE := hide (hv.symm.trans hb)
    have HV := hide hv
    have HNN := hide hn
    have HGG := hide hg
    have f0 := ppB_facts q1
    have f1 := f0.1
    have f2 := f0.2.1
    have l1 := f0.2.2.1
    have HIN := hide (ppB_in q1)
    clear hb hn hg hv f0
    go_enter Try.func25, Try.ntmps25
    go_wp2_with fail
    obtain ⟨W, hW⟩ : ∃ W, W = (w.alloc (Obj.cells #[.int .i64 fr, .int .i64 pa, .slice da ws.length dc] 53)) := ⟨_, rfl⟩
    rw [← hW]
    have K0 : Hid (Blk W (w.heap.size) [.int .i64 fr, .int .i64 pa, .slice da ws.length dc]) := hide (by rw [hW]; exact Blk.new _ _)
    have B0 : Hid (Below w.heap.size w W) := hide (by rw [hW]; exact (by repeat (first | exact Below.refl _ _ | refine Below.alloc ?_ (by simp; try omega) _ | refine Below.setCell ?_ (by simp; try omega) _ | refine taDr ?_ _)))
    clear hW
    obtain ⟨ι, fW, _, hb, hall⟩ := belClass W
    have HB := hide hb
    have HA := hide hall
    have c00 : ∀ x, (fW x).cell? ⟨w.heap.size, 0, none⟩ = some (.int .i64 fr) := fun x => ((unhide K0).below (hb x)).c 0 (by simp)
    have c01 : ∀ x, (fW x).cell? ⟨w.heap.size, 1, none⟩ = some (.int .i64 pa) := fun x => ((unhide K0).below (hb x)).c 1 (by simp)
    have c02 : ∀ x, (fW x).cell? ⟨w.heap.size, 2, none⟩ = some (.slice da ws.length dc) := fun x => ((unhide K0).below (hb x)).c 2 (by simp)
    clear hb hall
    obtain ⟨x0, h0⟩ := (unhide HA) W (Below.refl _ _)
    rw [h0]
    clear h0
    go_upto_region 4 with (first | first | (go_at_call 28; refine (belQ (unhide HB) (unhide HA) (implPlanOk_is _ _ _ _ _ ws _ ((unhide HR).below ((unhide B0).trans ((unhide HB _).mono (unhide B0).size))) (by exact q1))).mono ?_; rintro e _ ⟨rfl, y, rfl⟩) | (go_at_call 51; refine (belQ (unhide HB) (unhide HA) (hasPart_is _ _ _ _ _ _ _ f2 (by exact q2))).mono ?_; rintro e _ ⟨rfl, y, rfl⟩) | (go_at_call 52; refine (windowsOf_is _ _ _ _ _ ws _ _ l1 ((unhide HR).below ((unhide B0).trans ((unhide HB _).mono (unhide B0).size)))).mono ?_; rintro e W2 ⟨g1, m, cp, rfl, hm, ho, b2⟩; have B2 : Hid (Below w.heap.size w W2) := hide (((unhide B0).trans ((unhide HB _).mono (unhide B0).size)).trans (b2.mono ((unhide B0).trans ((unhide HB _).mono (unhide B0).size)).size)); have K2 : Hid (Blk W2 w.heap.size [.int .i64 fr, .int .i64 pa, .slice da ws.length dc]) := hide (((unhide K0).below (unhide HB _)).below b2); have HO := hide ho; have HMM := hide hm; clear b2 ho hm))
    clear c00 c01 c02 K0 B0 HA HB
    have hm := unhide HMM
    clear HMM
    have hml : m ≤ 40 := by rw [hm]; exact Nat.le_trans (shM_len _ _ _) l1
    by_cases hm0 : m = 0
    · subst hm0
      have HN := hide (show 0 = n from by rw [← unhide HNN, shR, if_pos (unhide HV), shS_none _ hm.symm])
      have HG := hide (show fr = g from by rw [← unhide HGG, sh_none (unhide HV) hm.symm])
      have p0 : W2.cell? ⟨w.heap.size, 0, none⟩ = some (.int .i64 fr) := (unhide K2).c 0 (by simp)
      clear hm
      go_upto_region 5 with fail
      go_quiet (fail)
      go_wp2_with fail
      go_ret3
      exact ⟨ret_sh (unhide HN) (unhide HG) (unhide HE), (unhide B2).trans (bel0d' _)⟩
    · obtain ⟨M, hM⟩ : ∃ M, M = shM ws p ws.length := ⟨_, rfl⟩
      rw [← hM] at HO hm
      have HNZ : Hid (sqS M m = n ∧ sqG fr M m = g) := hide (by
        have q := sh_yes (unhide HV) (by rw [← hM, ← hm]; exact hm0)
        have s1 := sqS_is ws p ws.length
        have s2 := sqG_is (fr := fr) (ms := M) (by rw [← hm]; exact hm0)
        rw [← hM, ← hm] at q s1
        rw [← hm] at s2
        exact ⟨s1.trans (q.1.symm.trans (unhide HNN)), s2.trans (q.2.symm.trans (unhide HGG))⟩)
      have HIM : Hid (∀ i, i < m → WnIn (elAt M i)) := hide (by rw [hm, hM]; exact shM_in p _ (unhide HIN) _ (Nat.le_refl _))
      have HML := hide hm.symm
      have HM := hide hM
      clear hm hM
      have HBE : Hid (∀ k, k ≤ m → -100000 ≤ sqE fr M k ∧ sqE fr M k ≤ 110000) := hide (fun k hk => sqE_in f1 (by rw [unhide HML]; exact unhide HIM) k (by rw [unhide HML]; exact hk) (by rw [unhide HML]; exact hm0))
      have HBG : Hid (∀ k, k ≤ m → 0 ≤ sqG fr M k ∧ sqG fr M k ≤ 400000) := hide (fun k hk => sqG_in f1 (by rw [unhide HML]; exact unhide HIM) k (by rw [unhide HML]; exact hk))
      have HBS : Hid (∀ k, k ≤ m → 0 ≤ sqS M k ∧ sqS M k ≤ 10000 * (k : Int)) := hide (fun k hk => sqS_in (by rw [unhide HML]; exact unhide HIM) k (by rw [unhide HML]; exact hk))
      obtain ⟨ι, fW, _, hb, hall⟩ := belClass W2
      have HB := hide hb
      have HA := hide hall
      have cx : Hid (∀ x j q, j < m → q < 3 → (fW x).cell? ⟨g1, j * 3 + q, none⟩ = some (wnC (elAt M j) q)) := hide (fun x j q hj hq => (((unhide HO).below (hb x)).here (unhide HML) j hj q hq).1)
      have BX : Hid (∀ x, Below w.heap.size w (fW x)) := hide (fun x => (unhide B2).trans ((hb x).mono (unhide B2).size))
      have p0 : ∀ x, (fW x).cell? ⟨w.heap.size, 0, none⟩ = some (.int .i64 fr) := fun x => ((unhide K2).below (hb x)).c 0 (by simp)
      obtain ⟨x0, h0⟩ := hall W2 (Below.refl _ _)
      rw [h0]
      clear h0 hb hall
      have e1 : ¬ (m : Int) = 0 := by omega
      have e2 : ((m : Int) == 0) = false := by simpa using e1
      obtain ⟨z, hz⟩ : ∃ z, z + 1 = m := ⟨m - 1, by omega⟩
      have hzm : z < m := by omega
      have z0 : (0 : Int) ≤ (z : Int) := by omega
      have z1 : (z : Int) < (m : Int) := by omega
      have z2 : (m : Int) - 1 = (z : Int) := by omega
      have z3 : IntKind.i64.wrap (z : Int) = (z : Int) := by rw [IntKind.wrap_i64]; omega
      have bz := unhide HIM z hzm
      simp only [WnIn] at bz
      have HE0 : Hid (sqE fr M 0 = (elAt M z).a1 + (elAt M z).a2 - fr) := hide (by rw [sqE, unhide HML, ← hz, Nat.add_sub_cancel])
      have d0 : ∀ x, (fW x).cell? ⟨g1, z * 3, none⟩ = some (.int .i64 (elAt M z).a0) := fun x => unhide cx x z 0 hzm (by omega)
      have d1 : ∀ x, (fW x).cell? ⟨g1, z * 3 + 1, none⟩ = some (.int .i64 (elAt M z).a1) := fun x => unhide cx x z 1 hzm (by omega)
      have d2 : ∀ x, (fW x).cell? ⟨g1, z * 3 + 2, none⟩ = some (.int .i64 (elAt M z).a2) := fun x => unhide cx x z 2 hzm (by omega)
      clear hz
      go_upto_region 6 with fail
      refine wp_region_bel (fun w' h => (unhide HA) w' ((unhide HB _).trans (h.mono (unhide HB _).size))) (by kernel_rfl) (by kernel_rfl) ?_
      (repeat (go_big_quiet_step ((go_at_call 53; exact belQ (unhide HB) (unhide HA) (windowEnd_is _ _ _ _ bz.1 bz.2)))))
      refine wpQuiet_nil ?_
      rintro _ ⟨y, rfl⟩
      go_wp2_with fail
      rw [← unhide HE0]
      clear d0 d1 d2 p0 HE0 bz
      go_loopw [8, 9, 10, 42] (fun s8 s9 s10 s42 v => ∃ (i : Nat) (x : ι), i ≤ m ∧ s8 = .int .i64 (sqE fr M i) ∧ s9 = .int .i64 (sqS M i) ∧ s10 = .int .i64 (sqG fr M i) ∧ s42 = .int .i64 (i : Int) ∧ v = fW x) (fun _ _ _ s42 _ => m - (intOf s42).toNat)
      case atStart => exact ⟨0, _, Nat.zero_le _, rfl, rfl, rfl, rfl, rfl⟩
      case round =>
        obtain ⟨i, x, hi, rfl, rfl, rfl, rfl, rfl⟩ := hrel
        by_cases hlt : i < m
        · have i0 : (0 : Int) ≤ (i : Int) := by omega
          have i1 : (i : Int) < (m : Int) := by omega
          have bi := unhide HIM i hlt
          simp only [WnIn] at bi
          have b1 := unhide HBE i hi
          have b2 := unhide HBG i hi
          have b3 := unhide HBS i hi
          obtain ⟨v0, hv0⟩ : ∃ z, (elAt M i).a0 = z := ⟨_, rfl⟩
          obtain ⟨v1, hv1⟩ : ∃ z, (elAt M i).a1 = z := ⟨_, rfl⟩
          obtain ⟨v2, hv2⟩ : ∃ z, (elAt M i).a2 = z := ⟨_, rfl⟩
          obtain ⟨E, hE⟩ : ∃ z, sqE fr M i = z := ⟨_, rfl⟩
          obtain ⟨G, hG⟩ : ∃ z, sqG fr M i = z := ⟨_, rfl⟩
          obtain ⟨S, hS⟩ : ∃ z, sqS M i = z := ⟨_, rfl⟩
          have m0 : (fW x).cell? ⟨g1, i * 3, none⟩ = some (.int .i64 v0) := by rw [← hv0]; exact unhide cx x i 0 hlt (by omega)
          have m1 : (fW x).cell? ⟨g1, i * 3 + 1, none⟩ = some (.int .i64 v1) := by rw [← hv1]; exact unhide cx x i 1 hlt (by omega)
          have m2 : (fW x).cell? ⟨g1, i * 3 + 2, none⟩ = some (.int .i64 v2) := by rw [← hv2]; exact unhide cx x i 2 hlt (by omega)
          have HS1 : Hid (sqS M (i + 1) = S + v2) := hide (by rw [sqS, hS, hv2])
          have HG1 : Hid (sqG fr M (i + 1) = max G (v1 - E)) := hide (by rw [sqG, hG, hv1, hE])
          have HE1 : Hid (sqE fr M (i + 1) = v1 + v2) := hide (by rw [sqE, hv1, hv2])
          rw [hv1, hv2] at bi
          rw [hE] at b1
          rw [hG] at b2
          rw [hS] at b3
          rw [hE, hG, hS]
          obtain ⟨V, hV⟩ : ∃ V, V = (fW x).alloc (Obj.cells #[.int .i64 v0, .int .i64 v1, .int .i64 v2] 91) := ⟨_, rfl⟩
          have KX : Hid (Blk V (fW x).heap.size [.int .i64 v0, .int .i64 v1, .int .i64 v2]) := hide (by rw [hV]; exact Blk.new _ _)
          have BV : Hid (Below W2.heap.size W2 V) := hide (by rw [hV]; exact belAl (unhide HB x) _)
          obtain ⟨X, hX⟩ : ∃ X, (fW x).heap.size = X := ⟨_, rfl⟩
          rw [hX] at KX
          have HV := hide hV
          have HX := hide hX
          clear hV hX hv0 hv1 hv2 hE hG hS
          go_upto_region 11 with fail
          rw [← unhide HV, unhide HX]
          clear HV HX m0 m1 m2
          obtain ⟨κ, gW, _, hb2, hall2⟩ := belClass V
          have HB2 := hide hb2
          have HA2 := hide hall2
          have y0 : ∀ x, (gW x).cell? ⟨X, 0, none⟩ = some (.int .i64 v0) := fun x => ((unhide KX).below (hb2 x)).c 0 (by simp)
          have y1 : ∀ x, (gW x).cell? ⟨X, 1, none⟩ = some (.int .i64 v1) := fun x => ((unhide KX).below (hb2 x)).c 1 (by simp)
          have y2 : ∀ x, (gW x).cell? ⟨X, 2, none⟩ = some (.int .i64 v2) := fun x => ((unhide KX).below (hb2 x)).c 2 (by simp)
          obtain ⟨u0, h0⟩ := hall2 V (Below.refl _ _)
          rw [h0]
          clear h0 hb2 hall2
          refine wp_region_bel (fun w' h => (unhide HA2) w' ((unhide HB2 _).trans (h.mono (unhide HB2 _).size))) (by kernel_rfl) (by kernel_rfl) ?_
          (repeat (go_big_quiet_step (fail)))
          refine wpQuiet_nil ?_
          rintro _ ⟨y, rfl⟩
          go_wp2_with (go_at_call 53; refine (belQ (unhide HB2) (unhide HA2) (windowEnd_is _ _ _ _ bi.1 bi.2)).mono ?_; rintro e _ ⟨rfl, y, rfl⟩)
          go_roundw
          case rel =>
            obtain ⟨u, hu⟩ := unhide HA _ ((unhide BV).trans ((unhide HB2 y).mono (unhide BV).size))
            exact ⟨i + 1, u, by omega, by rw [unhide HE1], by rw [unhide HS1], by rw [unhide HG1]; congr 1; split <;> omega, by go_num, hu⟩
          case measure => simp [intOf]; omega
        · have i1 : ¬ (i : Int) < (m : Int) := by omega
          have him : i = m := by omega
          rw [him, (unhide HNZ).1, (unhide HNZ).2]
          clear him
          go_wp2_with fail
          go_ret3
          exact ⟨ret_sh rfl rfl (unhide HE), unhide BX _⟩

end Go.Proofs.Ytndhiecakojjgaf

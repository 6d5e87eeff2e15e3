/-
  The law FnSurface returns true at every list of bytes and writes nothing that was there: the walk. No condition.
-/
import Derived.Test.YtbaocifpifbldadAtFun
import Derived.Test.YtbaocifpifbldadDrawLaws
import Derived.Test.YtbaocifpifbldadSurfFacts
import Derived.Test.YtbaocifpifbldadLwImpl
import Derived.Test.YtbaocifpifbldadModTrim
import Derived.Test.YtbaocifpifbldadBel
namespace Go.Proofs.Ytbaocifpifbldad
open Go.RowKit

theorem inYes {x a b : Int} (h : a ≤ x ∧ x ≤ b) : inB x a b = true := by simpa [inB] using h
def szI (x : Int) : Int := if x < 0 then -x else x
set_option maxHeartbeats 400000 in
theorem sizeLaw_is {z : Int} (x : Int) (w : World) (h : -10000 ≤ x ∧ x ≤ 10000) (hz : szI x = z) :
    Calls Try.prog 17 #[.int .i64 x] w fun e w' => e = .returned (.int .i64 z) ∧ w' = w := by
  subst hz
  by_cases hx : x < 0
  all_goals
    have HS : Hid (szI x = if x < 0 then -x else x) := hide rfl
    go_enter Try.func17, Try.ntmps17
    go_wp2
    go_ret
    exact ⟨ret_int (by rw [unhide HS]; split <;> omega), rfl⟩

/-- What is held on to in the loop. -/
structure Sf (U wr : World) (a1 a2 : Option Addr) (l1 c1 l2 c2 : Nat) (xs ys : List Int) (lo hi st k r v ld : Int) : Prop where
  bg : Blk wr U.heap.size [.slice a1 l1 c1, .slice a2 l2 c2]
  bl : Blk wr (U.heap.size + 1) [.int .i64 lo, .int .i64 hi, .int .i64 st]
  bs : Blk wr (U.heap.size + 1 + 1) [.int .i64 k, .int .i64 r, .int .i64 v, .int .i64 ld]
  gi : GaIn wr a1 a2 l1 l2 xs ys
  bel : Below U.heap.size U wr
theorem Sf.below {U wr w' : World} {a1 a2 : Option Addr} {l1 c1 l2 c2 : Nat} {xs ys : List Int} {lo hi st k r v ld : Int} (h : Sf U wr a1 a2 l1 c1 l2 c2 xs ys lo hi st k r v ld) (b : Below wr.heap.size wr w') : Sf U w' a1 a2 l1 c1 l2 c2 xs ys lo hi st k r v ld :=
  ⟨h.bg.below b, h.bl.below b, h.bs.below b, h.gi.below b, h.bel.trans (b.mono h.bel.size)⟩
theorem Sf.more {U wr : World} {a1 a2 : Option Addr} {l1 c1 l2 c2 : Nat} {xs ys : List Int} {lo hi st k r v ld : Int} (h : Sf U wr a1 a2 l1 c1 l2 c2 xs ys lo hi st k r v ld) (hU : GaIn U a1 a2 l1 l2 xs ys) (k2 : Int) : Sf U (wr.setCell ⟨U.heap.size + 1 + 1, 0, none⟩ (.int .i64 k2)) a1 a2 l1 c1 l2 c2 xs ys lo hi st k2 r v ld := by
  have b : Below U.heap.size U (wr.setCell ⟨U.heap.size + 1 + 1, 0, none⟩ (.int .i64 k2)) := h.bel.setCell (by simp; try omega) _
  exact ⟨h.bg.other (by simp; try omega) _, h.bl.other (by simp; try omega) _, by simpa using h.bs.set 0 (by simp) (.int .i64 k2), hU.below b, b⟩

set_option maxRecDepth 20000 in
set_option maxHeartbeats 1000000 in
theorem lawFnSurface_big (a : Option Addr) (len cap : Nat) (w : World) (h : (1048576 : Int) < len) :
    Calls Try.prog 5 #[.slice a len cap] w fun e w' => e = .returned (.bool true) ∧ Below w.heap.size w w' := by
  have hd : decide ((1048576 : Int) < len) = true := by simpa using h
  go_enter Try.func5, Try.ntmps5
  go_wp2_with fail
  refine (big_any a len cap _).mono ?_
  rintro e w' ⟨rfl, hw⟩
  subst w'
  rw [hd]
  go_wp2
  go_ret
  exact ⟨rfl, Below.refl _ _⟩

set_option maxRecDepth 20000 in
set_option maxHeartbeats 8000000 in
theorem lawFnSurface_small (a : Option Addr) (len cap : Nat) (w : World) (h : ¬ (1048576 : Int) < len) (hb : Bytes w a len) (hin : ∀ b off, a = some ⟨b, off, none⟩ → b < w.heap.size) :
    Calls Try.prog 5 #[.slice a len cap] w fun e w' => e = .returned (.bool true) ∧ Below w.heap.size w w' := by
  have hd0 : decide ((1048576 : Int) < len) = false := by simpa using h
  obtain ⟨f, hf, hat⟩ := at_fun a len cap w hb (by omega)
  have HAT := hide hat
  have g1 := hf 1
  have g2 := hf 2
  have g3 := hf 3
  have g4 := hf 4
  have HB := hide hb
  have HIN := hide hin
  clear hat hf hb h hin
  go_enter Try.func5, Try.ntmps5
  go_wp2_with fail
  refine (big_any a len cap _).mono ?_
  rintro e w' ⟨rfl, hw⟩
  subst w'
  rw [hd0]
  go_wp2_with fail
  refine (drawLaws_any a len cap _ (unhide HB) (unhide HIN)).mono ?_
  rintro e U ⟨a1, a2, l1, c1, l2, c2, xs, ys, lo, hi, st, now, rfl, gi, ⟨hc1, hc2⟩, hga, ⟨blo, bhi, bst⟩, bnow, bU⟩
  have BU := hide bU
  have GI := hide gi
  have HGA := hide hga
  have HC1 := hide hc1
  have HC2 := hide hc2
  obtain ⟨k, hk⟩ : ∃ k, f 1 * 4 - 500 = k := ⟨_, rfl⟩
  obtain ⟨r, hr⟩ : ∃ r, f 2 * 4 - 500 = r := ⟨_, rfl⟩
  obtain ⟨v, hv⟩ : ∃ v, f 3 * 3 = v := ⟨_, rfl⟩
  obtain ⟨ld, hld⟩ : ∃ ld, f 4 * 4 - 400 = ld := ⟨_, rfl⟩
  have bk : -500 ≤ k ∧ k ≤ 520 := by omega
  have br : -500 ≤ r ∧ r ≤ 520 := by omega
  have bv : 0 ≤ v ∧ v ≤ 765 := by omega
  have bld : -400 ≤ ld ∧ ld ≤ 620 := by omega
  have HOK : Hid (∀ m kk, 0 ≤ m ∧ m ≤ 2 → (-500 ≤ kk ∧ kk ≤ 521) → lwOk m xs ys kk r ld lo hi st now = true) := hide (fun m kk hm hkk => by
    unfold lwOk stB liB
    rw [inYes (show 0 ≤ m ∧ m ≤ 2 from hm), hga, inYes (show -1000 ≤ kk ∧ kk ≤ 1000 by omega), inYes (show -10000 ≤ r ∧ r ≤ 10000 by omega), inYes (show -1000 ≤ ld ∧ ld ≤ 1000 by omega), inYes (show -10000 ≤ lo ∧ lo ≤ hi by omega), decide_eq_true (show hi ≤ 10000 by omega), inYes (show 1 ≤ st ∧ st ≤ 10000 by omega), inYes (show lo ≤ now ∧ now ≤ hi from bnow)]
    rfl)
  have bA : Below w.heap.size w ((U.alloc (Obj.cells #[.slice a1 l1 c1, .slice a2 l2 c2] 46)).alloc (Obj.cells #[.int .i64 lo, .int .i64 hi, .int .i64 st] 48)) := bU.trans ((bel2 _ _).mono bU.size)
  have BA := hide bA
  clear bU gi hga hc1 hc2 bA HB HIN
  go_wp2_with fail
  refine ((unhide HAT) 1 _ rfl (by omega) _ (unhide BA)).mono ?_
  rintro e w' ⟨rfl, hw⟩
  subst w'
  go_wp2_with fail
  refine ((unhide HAT) 2 _ rfl (by omega) _ (unhide BA)).mono ?_
  rintro e w' ⟨rfl, hw⟩
  subst w'
  go_wp2_with fail
  refine ((unhide HAT) 3 _ rfl (by omega) _ (unhide BA)).mono ?_
  rintro e w' ⟨rfl, hw⟩
  subst w'
  go_wp2_with fail
  refine ((unhide HAT) 4 _ rfl (by omega) _ (unhide BA)).mono ?_
  rintro e w' ⟨rfl, hw⟩
  subst w'
  go_wp2_with fail
  have SF : Hid (Sf U (((U.alloc (Obj.cells #[.slice a1 l1 c1, .slice a2 l2 c2] 46)).alloc (Obj.cells #[.int .i64 lo, .int .i64 hi, .int .i64 st] 48)).alloc (Obj.cells #[.int .i64 k, .int .i64 r, .int .i64 v, .int .i64 ld] 52)) a1 a2 l1 c1 l2 c2 xs ys lo hi st k r v ld) := hide ⟨blkAt3_0, blkAt3_1, blkAt3_2, (unhide GI).below (bel3 _ _ _), bel3 _ _ _⟩
  go_loopw [7] (fun i wr => ∃ (M kk : Int), (M = 0 ∨ M = 1 ∨ M = 2 ∨ M = 3) ∧ i = .int .i64 M ∧ Hid (M ≤ 2 → kk = k) ∧ Hid (Sf U wr a1 a2 l1 c1 l2 c2 xs ys lo hi st kk r v ld)) (fun i _ => 3 - (intOf i).toNat)
  case atStart => exact ⟨0, k, .inl rfl, rfl, hide (fun _ => rfl), SF⟩
  case round =>
    clear SF
    obtain ⟨M, kk, hM, rfl, HK, SF⟩ := hrel
    by_cases hlt : M ≤ 2
    · obtain rfl : kk = k := (unhide HK) hlt
      have hok := (unhide HOK) M kk (by omega) (by omega)
      have hsi := surf_in v hok
      have HL0 : Hid (M = 0 → (250 < ld → lwTold M xs ys kk r v ld lo hi st now ≤ now) ∧ (ld < -100 → now ≤ lwTold M xs ys kk r v ld lo hi st now)) := hide (fun e => by subst e; exact surf_load v hok)
      have HL2 : Hid (M = 2 → lwTold M xs ys kk r v ld lo hi st now ≤ lwTold 2 xs ys (kk + 1) r v ld lo hi st now ∧ (lwCode M xs ys kk r v ld lo hi st now = 0 → lwTold M xs ys kk r v ld lo hi st now = 10 * kk)) := hide (fun e => by subst e; exact surf_more v hok ((unhide HOK) 2 (kk + 1) (by omega) (by omega)))
      have hok2 := surf_in v ((unhide HOK) 2 (kk + 1) (by omega) (by omega))
      obtain ⟨X, hX⟩ : ∃ X, lwTold M xs ys kk r v ld lo hi st now = X := ⟨_, rfl⟩
      obtain ⟨Cc, hCc⟩ : ∃ C, lwCode M xs ys kk r v ld lo hi st now = C := ⟨_, rfl⟩
      obtain ⟨Y, hY⟩ : ∃ Y, lwTold 2 xs ys (kk + 1) r v ld lo hi st now = Y := ⟨_, rfl⟩
      rw [hX] at hsi HL0 HL2
      rw [hCc] at hsi HL2
      rw [hY] at HL2 hok2
      have HX := hide hX
      have HCc := hide hCc
      have HY := hide hY
      obtain ⟨⟨x1, x2⟩, ⟨x3, x4⟩, hcc⟩ := hsi
      have y1 := hok2.1
      clear hX hCc hY hok hok2
      obtain ⟨z, hz⟩ : ∃ z, szI (X - now) = z := ⟨_, rfl⟩
      have hz1 : 0 ≤ z ∧ z ≤ st := by rw [← hz]; unfold szI; split <;> omega
      have HZ := hide hz
      have dx1 : decide (X < lo) = false := by simp; omega
      have dx2 : decide (hi < X) = false := by simp; omega
      have dz : decide (st < z) = false := by simp; omega
      have wxn : IntKind.i64.wrap (X - now) = X - now := by rw [IntKind.wrap_i64]; omega
      clear hz
      have qg0 : wr.cell? ⟨U.heap.size, 0, none⟩ = some (.slice a1 l1 c1) := (unhide SF).bg.c 0 (by simp)
      have qg1 : wr.cell? ⟨U.heap.size, 1, none⟩ = some (.slice a2 l2 c2) := (unhide SF).bg.c 1 (by simp)
      have ql0 : wr.cell? ⟨U.heap.size + 1, 0, none⟩ = some (.int .i64 lo) := (unhide SF).bl.c 0 (by simp)
      have ql1 : wr.cell? ⟨U.heap.size + 1, 1, none⟩ = some (.int .i64 hi) := (unhide SF).bl.c 1 (by simp)
      have ql2 : wr.cell? ⟨U.heap.size + 1, 2, none⟩ = some (.int .i64 st) := (unhide SF).bl.c 2 (by simp)
      have qs0 : wr.cell? ⟨U.heap.size + 1 + 1, 0, none⟩ = some (.int .i64 kk) := (unhide SF).bs.c 0 (by simp)
      have qs1 : wr.cell? ⟨U.heap.size + 1 + 1, 1, none⟩ = some (.int .i64 r) := (unhide SF).bs.c 1 (by simp)
      have qs2 : wr.cell? ⟨U.heap.size + 1 + 1, 2, none⟩ = some (.int .i64 v) := (unhide SF).bs.c 2 (by simp)
      have qs3 : wr.cell? ⟨U.heap.size + 1 + 1, 3, none⟩ = some (.int .i64 ld) := (unhide SF).bs.c 3 (by simp)
      have fqs0 : wr.frozen? ⟨U.heap.size + 1 + 1, 0, none⟩ = false := (unhide SF).bs.f 0 (by simp)
      go_wp2_with fail
      refine (implLaw_any _ _ _ _ _ _ _ _ _ _ _ _ _ _ _ _ _ _ (unhide SF).gi (unhide HC1) (unhide HC2)).mono ?_
      rintro e w2 ⟨rfl, b2⟩
      rw [unhide HX, unhide HCc]
      have S2 := hide ((unhide SF).below b2)
      clear b2 SF qg0 qg1 ql0 ql1 ql2 qs0 qs1 qs2 qs3 fqs0
      have tg0 : w2.cell? ⟨U.heap.size, 0, none⟩ = some (.slice a1 l1 c1) := (unhide S2).bg.c 0 (by simp)
      have tg1 : w2.cell? ⟨U.heap.size, 1, none⟩ = some (.slice a2 l2 c2) := (unhide S2).bg.c 1 (by simp)
      have tl0 : w2.cell? ⟨U.heap.size + 1, 0, none⟩ = some (.int .i64 lo) := (unhide S2).bl.c 0 (by simp)
      have tl1 : w2.cell? ⟨U.heap.size + 1, 1, none⟩ = some (.int .i64 hi) := (unhide S2).bl.c 1 (by simp)
      have tl2 : w2.cell? ⟨U.heap.size + 1, 2, none⟩ = some (.int .i64 st) := (unhide S2).bl.c 2 (by simp)
      have ts0 : w2.cell? ⟨U.heap.size + 1 + 1, 0, none⟩ = some (.int .i64 kk) := (unhide S2).bs.c 0 (by simp)
      have ts1 : w2.cell? ⟨U.heap.size + 1 + 1, 1, none⟩ = some (.int .i64 r) := (unhide S2).bs.c 1 (by simp)
      have ts2 : w2.cell? ⟨U.heap.size + 1 + 1, 2, none⟩ = some (.int .i64 v) := (unhide S2).bs.c 2 (by simp)
      have ts3 : w2.cell? ⟨U.heap.size + 1 + 1, 3, none⟩ = some (.int .i64 ld) := (unhide S2).bs.c 3 (by simp)
      have fts0 : w2.frozen? ⟨U.heap.size + 1 + 1, 0, none⟩ = false := (unhide S2).bs.f 0 (by simp)
      rcases hcc with hcc | hcc
      all_goals
        subst hcc
        go_wp2_with fail
        go_quiet ((go_at_call 17; first | exact Calls.quiet_of_same (sizeLaw_is _ _ (by omega) (unhide HZ)) | exact quietSame (sizeLaw_is _ _ (by omega) (unhide HZ))))
        have hn := (unhide S2).bel
        rcases hM with rfl | rfl | rfl | rfl
        · have h0 := (unhide HL0) rfl
          by_cases hA : 250 < ld
          · have n1 : ¬ now < X := by have := h0.1 hA; omega
            have n2 : ¬ ld < -100 := by omega
            go_wp2_with fail
            go_roundw
            case rel => exact ⟨1, kk, .inr (.inl rfl), by go_num, hide (fun _ => rfl), hide ((unhide S2).below (bel0d _))⟩
            case measure => simp [intOf]
          · by_cases hB : ld < -100
            · have n1 : ¬ X < now := by have := h0.2 hB; omega
              go_wp2_with fail
              go_roundw
              case rel => exact ⟨1, kk, .inr (.inl rfl), by go_num, hide (fun _ => rfl), hide ((unhide S2).below (bel0d _))⟩
              case measure => simp [intOf]
            · go_wp2_with fail
              go_roundw
              case rel => exact ⟨1, kk, .inr (.inl rfl), by go_num, hide (fun _ => rfl), hide ((unhide S2).below (bel0d _))⟩
              case measure => simp [intOf]
        · go_wp2_with fail
          go_roundw
          case rel => exact ⟨2, kk, .inr (.inr (.inl rfl)), by go_num, hide (fun _ => rfl), hide ((unhide S2).below (bel0d _))⟩
          case measure => simp [intOf]
        · have h2 := (unhide HL2) rfl
          have n3 : ¬ Y < X := by omega
          have S3 : ∀ q, Hid (Sf U ((w2.drewN q).setCell ⟨U.heap.size + 1 + 1, 0, none⟩ (.int .i64 (kk + 1))) a1 a2 l1 c1 l2 c2 xs ys lo hi st (kk + 1) r v ld) := fun q => hide (((unhide S2).below (bel0d q)).more (unhide GI) (kk + 1))
          have hx10 : Hid (lwCode 2 xs ys kk r v ld lo hi st now = 0 → X = 10 * kk) := hide (fun e => by first | exact h2.2 trivial | exact absurd ((unhide HCc).symm.trans e) (by decide) | exact h2.2 ((unhide HCc).symm.trans e))
          clear h2
          go_wp2_with fail
          refine (implLaw_any _ _ _ _ _ _ _ _ _ _ _ _ _ _ _ _ _ _ (unhide (S3 _)).gi (unhide HC1) (unhide HC2)).mono ?_
          rintro e w3 ⟨rfl, b3⟩
          rw [unhide HY]
          have S4 := hide ((unhide (S3 _)).below b3)
          have u0 : w3.cell? ⟨U.heap.size + 1 + 1, 0, none⟩ = some (.int .i64 (kk + 1)) := (unhide S4).bs.c 0 (by simp)
          first
            | (have hx11 : (X != 10 * kk) = false := by have := (unhide hx10) (unhide HCc); simp [this])
            | skip
          clear b3 S3 S2
          go_wp2_with fail
          go_roundw
          case rel => exact ⟨3, kk + 1, .inr (.inr (.inr rfl)), by go_num, hide (fun h => by omega), S4⟩
          case measure => simp [intOf]
        · exact absurd hlt (by omega)
    · obtain rfl : M = 3 := by omega
      have hfit := gaFit (unhide HGA)
      have hn0 := hfit.n0
      have hle := hfit.len
      obtain ⟨V, rfl⟩ : ∃ V, V = wr := ⟨_, rfl⟩
      have r1 := (unhide SF).gi.r1
      have r2 := (unhide SF).gi.r2
      have e1 := r1.len_eq
      have e2 := r2.len_eq
      rcases r1.open_ with ⟨h0, _⟩ | ⟨b1, o1, rfl, _, hc1⟩
      · omega
      rcases r2.open_ with ⟨h0, _⟩ | ⟨b2, o2, rfl, _, hc2⟩
      · omega
      have x0 : V.cell? ⟨b1, o1, none⟩ = some (.int .i64 (nth xs 0)) := by have h := hc1 0 (by omega); simpa using h
      have y0 : V.cell? ⟨b2, o2, none⟩ = some (.int .i64 (nth ys 0)) := by have h := hc2 0 (by omega); simpa using h
      have hl1 : 0 < l1 := by omega
      have hl2 : 0 < l2 := by omega
      have HGF : Hid (gaAt xs ys (nth xs 0) = nth ys 0) := hide (gaAt_first (unhide HGA))
      obtain ⟨A, hA⟩ : ∃ A, nth xs 0 = A := ⟨_, rfl⟩
      obtain ⟨B, hB⟩ : ∃ B, nth ys 0 = B := ⟨_, rfl⟩
      rw [hA] at x0 HGF
      rw [hB] at y0 HGF
      have v0 : V.cell? ⟨U.heap.size, 0, none⟩ = some (.slice (some ⟨b1, o1, none⟩) l1 c1) := (unhide SF).bg.c 0 (by simp)
      have v1 : V.cell? ⟨U.heap.size, 1, none⟩ = some (.slice (some ⟨b2, o2, none⟩) l2 c2) := (unhide SF).bg.c 1 (by simp)
      clear hA hB hc1 hc2 r1 r2 e1 e2 hfit hn0 hle HK HOK
      go_wp2_with fail
      obtain ⟨ι, fw, _, hbb, hall⟩ := belClass V
      have HBB := hide hbb
      have HA := hide hall
      have c0 : ∀ x, (fw x).cell? ⟨U.heap.size, 0, none⟩ = some (.slice (some ⟨b1, o1, none⟩) l1 c1) := fun x => ((hbb x).cell (block_lt_of_cell v0)).trans v0
      have c1_ : ∀ x, (fw x).cell? ⟨U.heap.size, 1, none⟩ = some (.slice (some ⟨b2, o2, none⟩) l2 c2) := fun x => ((hbb x).cell (block_lt_of_cell v1)).trans v1
      have c2_ : ∀ x, (fw x).cell? ⟨b1, o1, none⟩ = some (.int .i64 A) := fun x => ((hbb x).cell (block_lt_of_cell x0)).trans x0
      have c3_ : ∀ x, (fw x).cell? ⟨b2, o2, none⟩ = some (.int .i64 B) := fun x => ((hbb x).cell (block_lt_of_cell y0)).trans y0
      have S9 : Hid (∀ x, Sf U (fw x) (some ⟨b1, o1, none⟩) (some ⟨b2, o2, none⟩) l1 c1 l2 c2 xs ys lo hi st kk r v ld) := hide (fun x => (unhide SF).below (hbb x))
      clear hbb hall
      refine wp_region_bel (unhide HA) (by kernel_rfl) (by kernel_rfl) ?_
      repeat (go_big_quiet_step ((go_at_call 22; exact belQ (unhide HBB) (unhide HA) (implGainAt_any _ _ _ _ _ _ xs ys _ _ ((unhide S9) _).gi (unhide HC1) (unhide HC2)))))
      refine wpQuiet_nil ?_
      rintro _ ⟨q, rfl⟩
      rw [unhide HGF]
      have d0 := c0 q
      have d1 := c1_ q
      have d3 := c3_ q
      have SQ := hide ((unhide S9) q)
      clear c0 c1_ c2_ c3_ S9 HBB HA v0 v1 x0 y0 SF
      generalize fw q = Q at *
      go_wp2_with fail
      refine (implModeOf_any 1 true 0 _).mono ?_
      rintro e w4 ⟨rfl, b4⟩
      rw [show modR 1 true 0 = 2 from rfl]
      have SA := hide ((unhide SQ).below b4)
      have t0 := (b4.cell (block_lt_of_cell d0)).trans d0
      have t1 := (b4.cell (block_lt_of_cell d1)).trans d1
      have t3 := (b4.cell (block_lt_of_cell d3)).trans d3
      clear b4 SQ d0 d1 d3
      go_wp2_with fail
      refine (implGainOk_is _ _ _ _ _ _ xs ys _ (unhide SA).gi (unhide HGA)).mono ?_
      rintro e w5 ⟨rfl, b5⟩
      have SB := hide ((unhide SA).below b5)
      have s1 := (b5.cell (block_lt_of_cell t1)).trans t1
      have s3 := (b5.cell (block_lt_of_cell t3)).trans t3
      clear b5 SA t0 t1 t3
      go_wp2_with fail
      refine (implModeOf_any 2 true 0 _).mono ?_
      rintro e w6 ⟨rfl, b6⟩
      rw [show modR 2 true 0 = 0 from rfl]
      have SC := hide ((unhide SB).below b6)
      clear b6 SB
      go_wp2_with fail
      refine (implModeOf_any 3 false 0 _).mono ?_
      rintro e w7 ⟨rfl, b7⟩
      rw [show modR 3 false 0 = 1 from rfl]
      have SD := hide ((unhide SC).below b7)
      clear b7 SC
      go_wp2_with fail
      go_ret
      exact ⟨rfl, (unhide BU).trans ((unhide SD).bel.mono (unhide BU).size)⟩

theorem lawFnSurface (a : Option Addr) (len cap : Nat) (w : World) (hb : Bytes w a len) (hin : ∀ b off, a = some ⟨b, off, none⟩ → b < w.heap.size) :
    Calls Try.prog 5 #[.slice a len cap] w fun e w' => e = .returned (.bool true) ∧ Below w.heap.size w w' := by
  by_cases h : (1048576 : Int) < len
  · exact lawFnSurface_big a len cap w h
  · exact lawFnSurface_small a len cap w h hb hin

end Go.Proofs.Ytbaocifpifbldad

/-
  The law FnTwice returns true at every list of bytes and writes nothing that was there: the walk. No condition.
-/
import Derived.Test.YticdccdkjepifaaTwIs
import Derived.Test.YticdccdkjepifaaMBuImpl
import Derived.Test.YticdccdkjepifaaBuAcI
import Derived.Test.YticdccdkjepifaaBuPutI
import Derived.Test.YticdccdkjepifaaBoAny
import Derived.Test.YticdccdkjepifaaMBoS
import Derived.Test.YticdccdkjepifaaMRowS
import Derived.Test.YticdccdkjepifaaMBel
import Derived.Deep.CutRange
import Derived.Deep.RegionLaw
namespace Go.Proofs.Yticdccdkjepifaa
open Go Go.RowKit

set_option maxRecDepth 20000 in
set_option maxHeartbeats 1000000 in
theorem lawFnTwice_big (a : Option Addr) (len cap : Nat) (w : World) (h : (1048576 : Int) < len) :
    Calls Try.prog 4 #[.slice a len cap] w fun e w' => e = .returned (.bool true) ∧ Below w.heap.size w w' := by
  have hd : decide ((1048576 : Int) < len) = true := by simpa using h
  go_enter Try.func4, Try.ntmps4
  go_wp2_with fail
  refine (big_any a len cap _).mono ?_
  rintro e w' ⟨rfl, hw⟩
  subst w'
  rw [hd]
  go_wp2
  go_ret
  exact ⟨rfl, Below.refl _ _⟩

theorem rcv_apart {wr V w7 : World} {x y z : Int} (hV : V = wr ∨ V = wr.drew) (b : Below V.heap.size V w7) : Blk (w7.alloc (Obj.cells #[.int .i64 x, .int .i64 y, .int .i64 z] 52)) w7.heap.size [.int .i64 x, .int .i64 y, .int .i64 z] ∧ Below wr.heap.size wr (w7.alloc (Obj.cells #[.int .i64 x, .int .i64 y, .int .i64 z] 52)) := by
  have bV : Below wr.heap.size wr V := by
    rcases hV with rfl | rfl
    · exact Below.refl _ _
    · exact bel0d' 1
  have b1 := bV.trans (b.mono bV.size)
  exact ⟨Blk.new [.int .i64 x, .int .i64 y, .int .i64 z] _, b1.alloc b1.size _⟩
theorem rcv_ahead {wr V w7 : World} {x y z : Int} (hV : V = wr.alloc (Obj.cells #[.int .i64 0, .int .i64 0, .int .i64 0] 52) ∨ V = (wr.alloc (Obj.cells #[.int .i64 0, .int .i64 0, .int .i64 0] 52)).drew) (b : Below V.heap.size V w7) : Blk (((w7.setCell ⟨wr.heap.size, 0, none⟩ (.int .i64 x)).setCell ⟨wr.heap.size, 1, none⟩ (.int .i64 y)).setCell ⟨wr.heap.size, 2, none⟩ (.int .i64 z)) wr.heap.size [.int .i64 x, .int .i64 y, .int .i64 z] ∧ Below wr.heap.size wr (((w7.setCell ⟨wr.heap.size, 0, none⟩ (.int .i64 x)).setCell ⟨wr.heap.size, 1, none⟩ (.int .i64 y)).setCell ⟨wr.heap.size, 2, none⟩ (.int .i64 z)) := by
  have hs : V.heap.size = wr.heap.size + 1 := by rcases hV with rfl | rfl <;> simp
  have bV : Below wr.heap.size wr V := by
    rcases hV with rfl | rfl
    · exact bel1 _
    · exact (bel1 (w := wr) _).trans (bel0d' 1)
  have kV : Blk V wr.heap.size [.int .i64 0, .int .i64 0, .int .i64 0] := by
    rcases hV with rfl | rfl
    · exact Blk.new _ _
    · exact (Blk.new (w := wr) [.int .i64 0, .int .i64 0, .int .i64 0] 52).below (bel0d 1)
  have k7 := kV.below b
  have bb := bV.trans (b.mono bV.size)
  exact ⟨by have := ((k7.set 0 (by simp) (.int .i64 x)).set 1 (by simp) (.int .i64 y)).set 2 (by simp) (.int .i64 z); simpa using this, ((bb.setCell (p := ⟨wr.heap.size, 0, none⟩) (Nat.le_refl _) _).setCell (p := ⟨wr.heap.size, 1, none⟩) (Nat.le_refl _) _).setCell (p := ⟨wr.heap.size, 2, none⟩) (Nat.le_refl _) _⟩
set_option maxRecDepth 20000 in
set_option maxHeartbeats 16000000 in
theorem lawFnTwice_small (a : Option Addr) (len cap : Nat) (w : World) (h : ¬ (1048576 : Int) < len) (hb : Bytes w a len) (hin : ∀ b off, a = some ⟨b, off, none⟩ → b < w.heap.size) :
    Calls Try.prog 4 #[.slice a len cap] w fun e w' => e = .returned (.bool true) ∧ Below w.heap.size w w' := by
  have hd0 : decide ((1048576 : Int) < len) = false := by simpa using h
  have DRA := hide (drawLines_any a len cap w hb hin)
  clear hb h hin
  go_enter Try.func4, Try.ntmps4
  go_wp2_with fail
  refine (big_any a len cap _).mono ?_
  rintro e w' ⟨rfl, hw⟩
  subst w'
  rw [hd0]
  go_wp2_with fail
  refine (unhide DRA).mono ?_
  rintro e B ⟨N, gw, cw, ga, ca, gb, cb, s0, ws, la, lb, rfl, hN, hs0, hW, hwi, hla, hlb, b1⟩
  have HW := hide hW
  have HWI := hide hwi
  have HLA := hide hla
  have HLB := hide hlb
  have HB := hide b1
  have HS0 := hide hs0
  have M0 : Hid (TwM B 0 0 B.heap.size 0 (B.heap.size + 1) 0 (B.heap.size + 2) 0 0 [] [] [] (((B.alloc (Obj.cells #[] 22)).alloc (Obj.cells #[] 22)).alloc (Obj.cells #[] 50))) := hide ⟨bel3 _ _ _,
    (((ownE_none (K := 1) (cells := slC) (w := B) (w1 := B) (T := 22) (Nat.le_refl _)).below (bel1 _)).below (bel1 _)),
    (by have k := ((ownE_none (K := 1) (cells := slC) (w := B) (w1 := B.alloc (Obj.cells #[] 22)) (T := 22) (by simp)).below (bel1 (Obj.cells #[] 50))); simpa using k),
    (by have k := (ownE_none (K := 3) (cells := wxC) (w := B) (w1 := (B.alloc (Obj.cells #[] 22)).alloc (Obj.cells #[] 22)) (T := 50) (by simp; omega)); simpa using k), (fun s hs => by simp at hs), (fun s hs => by simp at hs), by omega⟩
  clear DRA hW hwi hla hlb b1 hs0
  go_wp2_with fail
  go_loopw [6, 7, 8, 9, 10, 11] (fun t6 t7 t8 t9 t10 t11 wr => TwQ B ws la lb N t6 t7 t8 t9 t10 t11 wr) (fun _ _ _ _ _ t11 _ => N - (intOf t11).toNat)
  case atStart => exact ⟨0, _, _, _, _, _, 0, _, 0, false, [], [], [], rfl, rfl, rfl, rfl, rfl, rfl, Nat.zero_le _, by omega, hide rfl, hide rfl, hide ⟨rfl, rfl, rfl, rfl, rfl, rfl, Nat.le_refl _, fun x hx => by simp at hx⟩, M0⟩
  case round =>
    clear M0
    obtain ⟨k, gx, cx, gy, cy, gz, nz, cz, G, S, xs, ys, zs, rfl, rfl, rfl, rfl, rfl, rfl, hk, hG, HG, HS, HP, HM⟩ := hrel
    by_cases hlt : k < N
    · have i0 : (0 : Int) ≤ (k : Int) := by omega
      have i1 : (k : Int) < (N : Int) := by omega
      have hnz : nz ≤ 19 := by have := (unhide HP).nz; omega
      have hlw := (unhide HW).lw
      have hok := (unhide HW).t.ok hlt
      rw [elAt_mapW (by omega)] at hok
      have hyt := (unhide HW).y k hlt
      have hcap := (unhide HW).cap k hlt
      have wxd := ((unhide HWI).dat k hlt)
      obtain ⟨p, hp⟩ : ∃ p, elAt la k = p := ⟨_, rfl⟩
      obtain ⟨q, hq⟩ : ∃ q, elAt lb k = q := ⟨_, rfl⟩
      obtain ⟨x, hx⟩ : ∃ x, elAt ws k = x := ⟨_, rfl⟩
      have KW : Hid (B.cell? ⟨gw, k * 3, none⟩ = some (.int .i64 x.l) ∧ B.cell? ⟨gw, k * 3 + 1, none⟩ = some (.int .i64 x.s) ∧ B.cell? ⟨gw, k * 3 + 2, none⟩ = some (.slice x.d.a x.d.n x.d.c)) := hide (by
        rcases (unhide HWI).row.three with ⟨h0, _⟩ | ⟨b, off, e, _, hc⟩
        · omega
        simp only [Option.some.injEq, Addr.mk.injEq, and_true] at e
        obtain ⟨rfl, rfl⟩ := e
        have q := hc k hlt
        rw [hx] at q
        simpa using q)
      have KA : Hid (B.cell? ⟨ga, k, none⟩ = some (.bool p)) := hide (by
        rcases (unhide HLA).open1 with ⟨h0, _⟩ | ⟨b, off, e, _, hc⟩
        · omega
        simp only [Option.some.injEq, Addr.mk.injEq, and_true] at e
        obtain ⟨rfl, rfl⟩ := e
        have q := hc k hlt
        rw [hp] at q
        simpa [boC] using q)
      have KB : Hid (B.cell? ⟨gb, k, none⟩ = some (.bool q)) := hide (by
        rcases (unhide HLB).open1 with ⟨h0, _⟩ | ⟨b, off, e, _, hc⟩
        · omega
        simp only [Option.some.injEq, Addr.mk.injEq, and_true] at e
        obtain ⟨rfl, rfl⟩ := e
        have q9 := hc k hlt
        rw [hq] at q9
        simpa [boC] using q9)
      rw [hx] at hok hyt hcap wxd
      have HOK := hide hok
      have HYT := hide hyt
      have HCAP := hide hcap
      have WXD := hide wxd
      have HPP := hide hp
      have HQQ := hide hq
      have HXX := hide hx
      have HLW := hide hlw
      have HNX : Hid (twG la lb (k + 1) = (bif (p && q) then (bif S then G + 1 else G) else G) ∧ twB la lb (k + 1) = (bif (p && q) then S else true)) := hide (by rw [twG, twB, hp, hq, ← unhide HG, ← unhide HS]; exact ⟨rfl, rfl⟩)
      clear hok hyt hcap wxd hp hq hx hlw
      have c0 : wr.cell? ⟨gw, k * 3, none⟩ = some (.int .i64 x.l) := ((unhide HM).bel.cell (block_lt_of_cell (unhide KW).1)).trans (unhide KW).1
      have c1 : wr.cell? ⟨gw, k * 3 + 1, none⟩ = some (.int .i64 x.s) := ((unhide HM).bel.cell (block_lt_of_cell (unhide KW).2.1)).trans (unhide KW).2.1
      have c2 : wr.cell? ⟨gw, k * 3 + 2, none⟩ = some (.slice x.d.a x.d.n x.d.c) := ((unhide HM).bel.cell (block_lt_of_cell (unhide KW).2.2)).trans (unhide KW).2.2
      go_wp2_with fail
      refine (implPut16_row x.l x.s x.d.a x.d.n x.d.c x.d.zs wr ((unhide WXD).below (unhide HM).bel)).mono ?_
      rintro e W1 ⟨fp, fq, rfl, of, bw⟩
      have hok : wdB x.l x.s x.d.zs.length = true := unhide HOK
      rw [hok]
      have HM1 := hide ((unhide HM).below bw)
      obtain ⟨F, hF⟩ : ∃ F, ptL x.l x.s x.d.zs = F := ⟨_, rfl⟩
      have hFF : twF (wxW x) = F := by rw [← hF, frL_is hok]; rfl
      rw [hF] at of ⊢
      have hFl : F.length = x.d.zs.length + 4 := by rw [← hFF]; exact frL_len _ _ _
      have hFb : ∀ i, i < F.length → 0 ≤ elAt F i ∧ elAt F i ≤ 255 := by rw [← hFF]; exact frL_byte hok (unhide HYT)
      have hle : F.length ≤ fq := by
        obtain ⟨a', cap', e, hle, _⟩ := of.slice
        simp only [Value.slice.injEq] at e
        omega
      obtain ⟨n4, hn4⟩ : ∃ n, F.length = n := ⟨_, rfl⟩
      rw [hn4] at of hle hFb ⊢
      have OF : Hid (FrO B W1 ⟨fp, n4, fq, F⟩) := hide ⟨of.mono (unhide HM).bel.size, hle, hFb⟩
      have HFF := hide hFF
      clear of hle hFb hF hFF hFl hok c0 c1 c2 bw HM hn4
      obtain ⟨V, hV⟩ : ∃ V, V = (W1.alloc (Obj.cells #[] 5)).alloc (Obj.cells #[] 5) := ⟨_, rfl⟩
      have bV : Below W1.heap.size W1 V := by rw [hV]; exact bel2 _ _
      obtain ⟨H1, hH1⟩ : ∃ H, W1.heap.size = H := ⟨_, rfl⟩
      have hB1 := (unhide HM1).bel.size
      have E1 : Hid (FrO B V ⟨some ⟨H1, 0, none⟩, 0, 0, []⟩) := hide ⟨by
        have k9 := (byE_lit (base := B.heap.size) W1 [] hB1 (by simp)).below (bel1 (Obj.cells #[] 5))
        rw [hV, ← hH1]
        exact k9, Nat.le_refl _, fun i hi => by simp at hi⟩
      have E2 : Hid (FrO B V ⟨some ⟨H1 + 1, 0, none⟩, 0, 0, []⟩) := hide ⟨by
        have k9 := byE_lit (base := B.heap.size) (W1.alloc (Obj.cells #[] 5)) [] (by simp; omega) (by simp)
        rw [hV, ← hH1]
        rw [show (W1.alloc (Obj.cells #[] 5)).heap.size = W1.heap.size + 1 by simp] at k9
        exact k9, Nat.le_refl _, fun i hi => by simp at hi⟩
      have OV := hide ((unhide OF).below bV)
      have MV := hide ((unhide HM1).below bV)
      have HV := hide hV
      have HH1 := hide hH1
      have d0 : V.cell? ⟨ga, k, none⟩ = some (.bool p) := ((unhide MV).bel.cell (block_lt_of_cell (unhide KA))).trans (unhide KA)
      have d1 : V.cell? ⟨gb, k, none⟩ = some (.bool q) := ((unhide MV).bel.cell (block_lt_of_cell (unhide KB))).trans (unhide KB)
      clear hV bV hB1 OF HM1
      go_upto_region 14 with fail
      rw [← unhide HV]
      clear HV hH1
      cases p <;> cases q
      · go_upto_region 19 with (at_builtin; go_loud (refine wpList_app_elG (K := 1) (cells := slC) rfl _ _ 46 22 rfl Try.underlying46 infoBs rfl (by decide) (by decide) (⟨fp, n4, fq, F⟩ : Sl) [.slice fp n4 fq] rfl (fun j hj => by match j, hj with | 0, _ => rfl) (fun u hu => by simp at hu; rcases hu with rfl; rfl) (unhide MV).X (unhide HP).lx rfl rfl rfl (by have := (unhide MV).bel.size; omega) (by omega) ?_; intro g9X c9X wa o9 gr9 hg9; have Mwa := hide ((unhide MV).pushX (s := ⟨fp, n4, fq, F⟩) (unhide OV) o9 gr9 hg9); have Fwa := hide ((unhide OV).far (unhide MV).X (by decide) gr9); clear o9 gr9 hg9))
        clear MV
        go_upto_region 20 with (at_builtin; go_loud (refine wpList_app_elG (K := 1) (cells := slC) rfl _ _ 46 22 rfl Try.underlying46 infoBs rfl (by decide) (by decide) (⟨fp, n4, fq, F⟩ : Sl) [.slice fp n4 fq] rfl (fun j hj => by match j, hj with | 0, _ => rfl) (fun u hu => by simp at hu; rcases hu with rfl; rfl) (unhide Mwa).Y (unhide HP).ly rfl rfl rfl (by have := (unhide Mwa).bel.size; omega) (by omega) ?_; intro g9Y c9Y wb o9 gr9 hg9; have Mwb := hide ((unhide Mwa).pushY (s := ⟨fp, n4, fq, F⟩) (unhide Fwa) o9 gr9 hg9); have Fwb := hide (trivial); clear o9 gr9 hg9))
        clear Mwa Fwa Fwb
        have d0 : wb.cell? ⟨ga, k, none⟩ = some (.bool false) := ((unhide Mwb).bel.cell (block_lt_of_cell (unhide KA))).trans (unhide KA)
        have d1 : wb.cell? ⟨gb, k, none⟩ = some (.bool false) := ((unhide Mwb).bel.cell (block_lt_of_cell (unhide KB))).trans (unhide KB)
        have PN := hide ((unhide HP).next (s1 := ⟨fp, n4, fq, F⟩) (s2 := ⟨fp, n4, fq, F⟩) hlt (unhide HLW) (unhide HPP) (unhide HQQ) (by rw [unhide HXX]; exact (unhide HFF).symm) (by rw [unhide HXX]; exact (unhide HFF).symm))
        have c0 : wb.cell? ⟨gw, k * 3, none⟩ = some (.int .i64 x.l) := ((unhide Mwb).bel.cell (block_lt_of_cell (unhide KW).1)).trans (unhide KW).1
        have c1 : wb.cell? ⟨gw, k * 3 + 1, none⟩ = some (.int .i64 x.s) := ((unhide Mwb).bel.cell (block_lt_of_cell (unhide KW).2.1)).trans (unhide KW).2.1
        have c2 : wb.cell? ⟨gw, k * 3 + 2, none⟩ = some (.slice x.d.a x.d.n x.d.c) := ((unhide Mwb).bel.cell (block_lt_of_cell (unhide KW).2.2)).trans (unhide KW).2.2
        go_wp2_with (at_builtin; go_loud (refine wpList_app_elG (K := 3) (cells := wxC) rfl _ _ 42 50 rfl Try.underlying42 infoWx rfl (by decide) (by decide) x [.int .i64 x.l, .int .i64 x.s, .slice x.d.a x.d.n x.d.c] rfl (fun q hq => wxV_at x q hq) (fun u hu => wxV_one x u hu) (unhide Mwb).Z (unhide HP).lz rfl rfl rfl (by have := (unhide Mwb).bel.size; omega) (by omega) ?_; intro g9 c9 w9 o9 gr9 hg9; have MZ := hide ((unhide Mwb).pushZ (x := x) o9 gr9); clear o9 gr9 hg9))
        go_roundw
        case rel => exact ⟨k + 1, g9X, c9X, g9Y, c9Y, g9, nz + 1, c9, _, _, _, _, _, rfl, rfl, rfl, rfl, rfl, by go_num, by omega, hG, hide ((unhide HNX).1.symm), hide ((unhide HNX).2.symm), hide (by have := (unhide PN).2 rfl; rw [unhide HXX] at this; exact this), MZ⟩
        case measure => simp [intOf]; omega
      · go_upto_region 19 with (at_builtin; go_loud (refine wpList_app_elG (K := 1) (cells := slC) rfl _ _ 46 22 rfl Try.underlying46 infoBs rfl (by decide) (by decide) (⟨fp, n4, fq, F⟩ : Sl) [.slice fp n4 fq] rfl (fun j hj => by match j, hj with | 0, _ => rfl) (fun u hu => by simp at hu; rcases hu with rfl; rfl) (unhide MV).X (unhide HP).lx rfl rfl rfl (by have := (unhide MV).bel.size; omega) (by omega) ?_; intro g9X c9X wa o9 gr9 hg9; have Mwa := hide ((unhide MV).pushX (s := ⟨fp, n4, fq, F⟩) (unhide OV) o9 gr9 hg9); have Fwa := hide ((unhide E2).far (unhide MV).X (by decide) gr9); clear o9 gr9 hg9))
        clear MV
        go_upto_region 20 with (at_builtin; go_loud (refine wpList_app_elG (K := 1) (cells := slC) rfl _ _ 46 22 rfl Try.underlying46 infoBs rfl (by decide) (by decide) (⟨some ⟨H1 + 1, 0, none⟩, 0, 0, []⟩ : Sl) [.slice (some ⟨H1 + 1, 0, none⟩) 0 0] rfl (fun j hj => by match j, hj with | 0, _ => rfl) (fun u hu => by simp at hu; rcases hu with rfl; rfl) (unhide Mwa).Y (unhide HP).ly rfl rfl rfl (by have := (unhide Mwa).bel.size; omega) (by omega) ?_; intro g9Y c9Y wb o9 gr9 hg9; have Mwb := hide ((unhide Mwa).pushY (s := ⟨some ⟨H1 + 1, 0, none⟩, 0, 0, []⟩) (unhide Fwa) o9 gr9 hg9); have Fwb := hide (trivial); clear o9 gr9 hg9))
        clear Mwa Fwa Fwb
        have d0 : wb.cell? ⟨ga, k, none⟩ = some (.bool false) := ((unhide Mwb).bel.cell (block_lt_of_cell (unhide KA))).trans (unhide KA)
        have d1 : wb.cell? ⟨gb, k, none⟩ = some (.bool true) := ((unhide Mwb).bel.cell (block_lt_of_cell (unhide KB))).trans (unhide KB)
        have PN := hide ((unhide HP).next (s1 := ⟨fp, n4, fq, F⟩) (s2 := ⟨some ⟨H1 + 1, 0, none⟩, 0, 0, []⟩) hlt (unhide HLW) (unhide HPP) (unhide HQQ) (by rw [unhide HXX]; exact (unhide HFF).symm) (rfl))
        have c0 : wb.cell? ⟨gw, k * 3, none⟩ = some (.int .i64 x.l) := ((unhide Mwb).bel.cell (block_lt_of_cell (unhide KW).1)).trans (unhide KW).1
        have c1 : wb.cell? ⟨gw, k * 3 + 1, none⟩ = some (.int .i64 x.s) := ((unhide Mwb).bel.cell (block_lt_of_cell (unhide KW).2.1)).trans (unhide KW).2.1
        have c2 : wb.cell? ⟨gw, k * 3 + 2, none⟩ = some (.slice x.d.a x.d.n x.d.c) := ((unhide Mwb).bel.cell (block_lt_of_cell (unhide KW).2.2)).trans (unhide KW).2.2
        go_wp2_with (at_builtin; go_loud (refine wpList_app_elG (K := 3) (cells := wxC) rfl _ _ 42 50 rfl Try.underlying42 infoWx rfl (by decide) (by decide) x [.int .i64 x.l, .int .i64 x.s, .slice x.d.a x.d.n x.d.c] rfl (fun q hq => wxV_at x q hq) (fun u hu => wxV_one x u hu) (unhide Mwb).Z (unhide HP).lz rfl rfl rfl (by have := (unhide Mwb).bel.size; omega) (by omega) ?_; intro g9 c9 w9 o9 gr9 hg9; have MZ := hide ((unhide Mwb).pushZ (x := x) o9 gr9); clear o9 gr9 hg9))
        go_roundw
        case rel => exact ⟨k + 1, g9X, c9X, g9Y, c9Y, g9, nz + 1, c9, _, _, _, _, _, rfl, rfl, rfl, rfl, rfl, by go_num, by omega, hG, hide ((unhide HNX).1.symm), hide ((unhide HNX).2.symm), hide (by have := (unhide PN).2 rfl; rw [unhide HXX] at this; exact this), MZ⟩
        case measure => simp [intOf]; omega
      · go_upto_region 19 with (at_builtin; go_loud (refine wpList_app_elG (K := 1) (cells := slC) rfl _ _ 46 22 rfl Try.underlying46 infoBs rfl (by decide) (by decide) (⟨some ⟨H1, 0, none⟩, 0, 0, []⟩ : Sl) [.slice (some ⟨H1, 0, none⟩) 0 0] rfl (fun j hj => by match j, hj with | 0, _ => rfl) (fun u hu => by simp at hu; rcases hu with rfl; rfl) (unhide MV).X (unhide HP).lx rfl rfl rfl (by have := (unhide MV).bel.size; omega) (by omega) ?_; intro g9X c9X wa o9 gr9 hg9; have Mwa := hide ((unhide MV).pushX (s := ⟨some ⟨H1, 0, none⟩, 0, 0, []⟩) (unhide E1) o9 gr9 hg9); have Fwa := hide ((unhide OV).far (unhide MV).X (by decide) gr9); clear o9 gr9 hg9))
        clear MV
        go_upto_region 20 with (at_builtin; go_loud (refine wpList_app_elG (K := 1) (cells := slC) rfl _ _ 46 22 rfl Try.underlying46 infoBs rfl (by decide) (by decide) (⟨fp, n4, fq, F⟩ : Sl) [.slice fp n4 fq] rfl (fun j hj => by match j, hj with | 0, _ => rfl) (fun u hu => by simp at hu; rcases hu with rfl; rfl) (unhide Mwa).Y (unhide HP).ly rfl rfl rfl (by have := (unhide Mwa).bel.size; omega) (by omega) ?_; intro g9Y c9Y wb o9 gr9 hg9; have Mwb := hide ((unhide Mwa).pushY (s := ⟨fp, n4, fq, F⟩) (unhide Fwa) o9 gr9 hg9); have Fwb := hide (trivial); clear o9 gr9 hg9))
        clear Mwa Fwa Fwb
        have d0 : wb.cell? ⟨ga, k, none⟩ = some (.bool true) := ((unhide Mwb).bel.cell (block_lt_of_cell (unhide KA))).trans (unhide KA)
        have d1 : wb.cell? ⟨gb, k, none⟩ = some (.bool false) := ((unhide Mwb).bel.cell (block_lt_of_cell (unhide KB))).trans (unhide KB)
        have PN := hide ((unhide HP).next (s1 := ⟨some ⟨H1, 0, none⟩, 0, 0, []⟩) (s2 := ⟨fp, n4, fq, F⟩) hlt (unhide HLW) (unhide HPP) (unhide HQQ) (rfl) (by rw [unhide HXX]; exact (unhide HFF).symm))
        have c0 : wb.cell? ⟨gw, k * 3, none⟩ = some (.int .i64 x.l) := ((unhide Mwb).bel.cell (block_lt_of_cell (unhide KW).1)).trans (unhide KW).1
        have c1 : wb.cell? ⟨gw, k * 3 + 1, none⟩ = some (.int .i64 x.s) := ((unhide Mwb).bel.cell (block_lt_of_cell (unhide KW).2.1)).trans (unhide KW).2.1
        have c2 : wb.cell? ⟨gw, k * 3 + 2, none⟩ = some (.slice x.d.a x.d.n x.d.c) := ((unhide Mwb).bel.cell (block_lt_of_cell (unhide KW).2.2)).trans (unhide KW).2.2
        go_wp2_with (at_builtin; go_loud (refine wpList_app_elG (K := 3) (cells := wxC) rfl _ _ 42 50 rfl Try.underlying42 infoWx rfl (by decide) (by decide) x [.int .i64 x.l, .int .i64 x.s, .slice x.d.a x.d.n x.d.c] rfl (fun q hq => wxV_at x q hq) (fun u hu => wxV_one x u hu) (unhide Mwb).Z (unhide HP).lz rfl rfl rfl (by have := (unhide Mwb).bel.size; omega) (by omega) ?_; intro g9 c9 w9 o9 gr9 hg9; have MZ := hide ((unhide Mwb).pushZ (x := x) o9 gr9); clear o9 gr9 hg9))
        go_roundw
        case rel => exact ⟨k + 1, g9X, c9X, g9Y, c9Y, g9, nz + 1, c9, _, _, _, _, _, rfl, rfl, rfl, rfl, rfl, by go_num, by omega, hG, hide ((unhide HNX).1.symm), hide ((unhide HNX).2.symm), hide (by have := (unhide PN).2 rfl; rw [unhide HXX] at this; exact this), MZ⟩
        case measure => simp [intOf]; omega
      · go_upto_region 19 with (at_builtin; go_loud (refine wpList_app_elG (K := 1) (cells := slC) rfl _ _ 46 22 rfl Try.underlying46 infoBs rfl (by decide) (by decide) (⟨some ⟨H1, 0, none⟩, 0, 0, []⟩ : Sl) [.slice (some ⟨H1, 0, none⟩) 0 0] rfl (fun j hj => by match j, hj with | 0, _ => rfl) (fun u hu => by simp at hu; rcases hu with rfl; rfl) (unhide MV).X (unhide HP).lx rfl rfl rfl (by have := (unhide MV).bel.size; omega) (by omega) ?_; intro g9X c9X wa o9 gr9 hg9; have Mwa := hide ((unhide MV).pushX (s := ⟨some ⟨H1, 0, none⟩, 0, 0, []⟩) (unhide E1) o9 gr9 hg9); have Fwa := hide ((unhide E2).far (unhide MV).X (by decide) gr9); clear o9 gr9 hg9))
        clear MV
        go_upto_region 20 with (at_builtin; go_loud (refine wpList_app_elG (K := 1) (cells := slC) rfl _ _ 46 22 rfl Try.underlying46 infoBs rfl (by decide) (by decide) (⟨some ⟨H1 + 1, 0, none⟩, 0, 0, []⟩ : Sl) [.slice (some ⟨H1 + 1, 0, none⟩) 0 0] rfl (fun j hj => by match j, hj with | 0, _ => rfl) (fun u hu => by simp at hu; rcases hu with rfl; rfl) (unhide Mwa).Y (unhide HP).ly rfl rfl rfl (by have := (unhide Mwa).bel.size; omega) (by omega) ?_; intro g9Y c9Y wb o9 gr9 hg9; have Mwb := hide ((unhide Mwa).pushY (s := ⟨some ⟨H1 + 1, 0, none⟩, 0, 0, []⟩) (unhide Fwa) o9 gr9 hg9); have Fwb := hide (trivial); clear o9 gr9 hg9))
        clear Mwa Fwa Fwb
        have d0 : wb.cell? ⟨ga, k, none⟩ = some (.bool true) := ((unhide Mwb).bel.cell (block_lt_of_cell (unhide KA))).trans (unhide KA)
        have d1 : wb.cell? ⟨gb, k, none⟩ = some (.bool true) := ((unhide Mwb).bel.cell (block_lt_of_cell (unhide KB))).trans (unhide KB)
        have PN := hide ((unhide HP).next (s1 := ⟨some ⟨H1, 0, none⟩, 0, 0, []⟩) (s2 := ⟨some ⟨H1 + 1, 0, none⟩, 0, 0, []⟩) hlt (unhide HLW) (unhide HPP) (unhide HQQ) (rfl) (rfl))
        cases S
        · go_wp2_with fail
          go_roundw
          case rel => exact ⟨k + 1, g9X, c9X, g9Y, c9Y, gz, nz, cz, _, _, _, _, _, rfl, rfl, rfl, rfl, rfl, by go_num, by omega, by have := twG_bd la lb (k + 1); have e : twG la lb (k + 1) = G := (unhide HNX).1; omega, hide ((unhide HNX).1.symm), hide ((unhide HNX).2.symm), hide ((unhide PN).1 rfl), Mwb⟩
          case measure => simp [intOf]; omega
        · go_wp2_with fail
          go_roundw
          case rel => exact ⟨k + 1, g9X, c9X, g9Y, c9Y, gz, nz, cz, _, _, _, _, _, rfl, rfl, rfl, rfl, rfl, by go_num, by omega, by have := twG_bd la lb (k + 1); have e : twG la lb (k + 1) = G + 1 := (unhide HNX).1; omega, hide ((unhide HNX).1.symm), hide ((unhide HNX).2.symm), hide ((unhide PN).1 rfl), Mwb⟩
          case measure => simp [intOf]; omega
    · have hkN : k = N := by omega
      have i1 : ¬ (k : Int) < (N : Int) := by omega
      subst hkN
      have hlt2 : ¬ (k : Int) < (k : Int) := by omega
      have TI := hide (tw_inv (s0 := s0) la lb (unhide HW).t (unhide HS0) (by omega) k (Nat.le_refl _))
      obtain ⟨R, hR⟩ : ∃ R, boR 5 (-1) 50 (xs.map (·.zs)) (ys.map (·.zs)) = R := ⟨_, rfl⟩
      have hRF : boF 5 50 ⟨-1, 0, []⟩ (inter (twX (ws.map wxW) la k) (twX (ws.map wxW) lb k)) = R := by
        rw [← hR, boR, if_pos ⟨by rw [List.length_map, (unhide HP).lx]; omega, by rw [List.length_map, (unhide HP).ly]; omega⟩, (unhide HP).x, (unhide HP).y]
      rw [hRF] at TI
      have hRt : R.t.length = nz := by rw [(unhide TI).t, ← (unhide HP).z, List.length_map, (unhide HP).lz]
      have hnz : nz ≤ 19 := by have := (unhide HP).nz; omega
      clear hRF i1 hlt
      go_wp2_with fail
      refine (implBoth16_row 5 (-1) 50 (some ⟨gx, 0, none⟩) (some ⟨gy, 0, none⟩) k cx k cy xs ys wr (unhide HM).X.row (unhide HM).Y.row (fun s hs => ((unhide HM).xd s hs).sl) (fun s hs => ((unhide HM).yd s hs).sl)).mono ?_
      rintro e W1 ⟨go, co, rfl, wo, ho, hwo, bw⟩
      rw [hR, hRt] at ho
      rw [hR] at hwo
      rw [hR, hRt]
      have HO1 := hide (ho.mono (unhide HM).bel.size)
      have HM1 := hide ((unhide HM).below bw)
      have HWO : Hid (wo.map wxW = zs.map wxW) := hide (hwo.trans ((unhide TI).t.trans (unhide HP).z.symm))
      obtain ⟨M, hM⟩ : ∃ M, R.m = M := ⟨_, rfl⟩
      obtain ⟨n, hn⟩ : ∃ n, R.n = n := ⟨_, rfl⟩
      rw [hM, hn]
      have HMM := hide hM
      have HNN := hide hn
      have hrv : rvB 5 n 50 = true := by
        rw [← hn]
        cases e : twB la lb k
        · rw [((unhide TI).no e).1]; decide
        · rw [((unhide TI).yes e).1]
          have : 0 ≤ (s0 + (k : Int) - (twT la lb k : Int)) % 256 ∧ (s0 + (k : Int) - (twT la lb k : Int)) % 256 < 256 := ⟨Int.emod_nonneg _ (by omega), Int.emod_lt_of_pos _ (by omega)⟩
          simp only [rvB, Bool.and_eq_true]
          exact ⟨⟨by decide, by rw [inB]; exact decide_eq_true (by omega)⟩, by decide⟩
      obtain ⟨V, hV⟩ : ∃ V, V = W1.alloc (Obj.cells #[.int .i64 5, .int .i64 n, .int .i64 50] 52) := ⟨_, rfl⟩
      obtain ⟨Rb, hRb⟩ : ∃ q, W1.heap.size = q := ⟨_, rfl⟩
      have bV : Below W1.heap.size W1 V := by rw [hV]; exact bel1 _
      have KR : Hid (Blk V Rb [.int .i64 5, .int .i64 n, .int .i64 50]) := hide (by rw [hV, ← hRb]; exact Blk.new _ _)
      have HOV := hide ((unhide HO1).below bV)
      have HMV := hide ((unhide HM1).below bV)
      have r0 : V.cell? ⟨Rb, 0, none⟩ = some (.int .i64 5) := (unhide KR).c 0 (by simp)
      have r1 : V.cell? ⟨Rb, 1, none⟩ = some (.int .i64 n) := (unhide KR).c 1 (by simp)
      have r2 : V.cell? ⟨Rb, 2, none⟩ = some (.int .i64 50) := (unhide KR).c 2 (by simp)
      have HV := hide hV
      have hqn : ((nz : Int) != (nz : Int)) = false := by simp
      clear hV bV bw ho hwo hM hn HO1 HM1 HM hR hRt
      go_upto_region 26 with fail
      rw [← unhide HV]
      clear HV hRb
      go_wp2_with fail
      refine (implReceiverOk_is 5 n 50 V hrv).mono ?_
      rintro e W2 ⟨rfl, b2⟩
      have HO2 := hide ((unhide HOV).below b2)
      have HM2 := hide ((unhide HMV).below b2)
      have KR2 := hide ((unhide KR).below b2)
      clear b2 KR HOV HMV r0 r1 r2 hrv
      go_wp2_with fail
      go_loopw [19] (fun t19 wt => ∃ j : Nat, t19 = .int .i64 (j : Int) ∧ j ≤ nz ∧ Hid (Below W2.heap.size W2 wt)) (fun t19 _ => nz - (intOf t19).toNat)
      case atStart => exact ⟨0, rfl, Nat.zero_le _, hide (Below.refl _ _)⟩
      case round =>
        obtain ⟨j, rfl, hj, HBJ⟩ := hrel
        by_cases hjl : j < nz
        · have j0 : (0 : Int) ≤ (j : Int) := by omega
          have j1 : (j : Int) < (nz : Int) := by omega
          have lz := (unhide HP).lz
          have lo : wo.length = nz := by have q := congrArg List.length (unhide HWO); rw [List.length_map, List.length_map, lz] at q; exact q
          have hsame := wx_same (unhide HWO) (i := j) (by omega)
          obtain ⟨u, hu⟩ : ∃ u, elAt wo j = u := ⟨_, rfl⟩
          obtain ⟨v, hv⟩ : ∃ v, elAt zs j = v := ⟨_, rfl⟩
          rw [hu, hv] at hsame
          have rU : RowE 1 byC wr u.d.a u.d.n u.d.zs := by
            have q := OwnE.row (a := (elAt wo j).d.a) (len := (elAt wo j).d.n) (cap := (elAt wo j).d.c) ((unhide HO2).dat j (by omega))
            rw [hu] at q
            exact q.below (unhide HBJ)
          have rV : RowE 1 byC wr v.d.a v.d.n v.d.zs := by
            obtain ⟨z, hz, e⟩ := (unhide HP).zi v (by rw [← hv]; exact elAt_mem (by omega))
            have q := (unhide HWI).dat z hz
            rw [← e] at q
            exact q.below ((unhide HM2).bel.trans ((unhide HBJ).mono (unhide HM2).bel.size))
          rw [hsame.2.2] at rU
          have KU : wr.cell? ⟨go, j * 3 + 1, none⟩ = some (.int .i64 v.s) ∧ wr.cell? ⟨go, j * 3 + 2, none⟩ = some (.slice u.d.a u.d.n u.d.c) := by
            rcases ((unhide HO2).out.row.below (unhide HBJ)).three with ⟨q0, _⟩ | ⟨b, off, e, _, hc⟩
            · omega
            simp only [Option.some.injEq, Addr.mk.injEq, and_true] at e
            obtain ⟨rfl, rfl⟩ := e
            have q := hc j hjl
            rw [hu, hsame.2.1] at q
            simpa using q.2
          have KV : wr.cell? ⟨gz, j * 3 + 1, none⟩ = some (.int .i64 v.s) ∧ wr.cell? ⟨gz, j * 3 + 2, none⟩ = some (.slice v.d.a v.d.n v.d.c) := by
            rcases ((unhide HM2).Z.row.below (unhide HBJ)).three with ⟨q0, _⟩ | ⟨b, off, e, _, hc⟩
            · omega
            simp only [Option.some.injEq, Addr.mk.injEq, and_true] at e
            obtain ⟨rfl, rfl⟩ := e
            have q := hc j hjl
            rw [hv] at q
            simpa using q.2
          obtain ⟨u1, u2⟩ := KU
          obtain ⟨v1, v2⟩ := KV
          obtain ⟨ι, fW, _, hcb, hcl⟩ := belClass wr
          have HCB := hide hcb
          have HCL := hide hcl
          have fu1 : ∀ x, (fW x).cell? ⟨go, j * 3 + 1, none⟩ = some (.int .i64 v.s) := fun x => ((hcb x).cell (block_lt_of_cell u1)).trans u1
          have fu2 : ∀ x, (fW x).cell? ⟨go, j * 3 + 2, none⟩ = some (.slice u.d.a u.d.n u.d.c) := fun x => ((hcb x).cell (block_lt_of_cell u2)).trans u2
          have fv1 : ∀ x, (fW x).cell? ⟨gz, j * 3 + 1, none⟩ = some (.int .i64 v.s) := fun x => ((hcb x).cell (block_lt_of_cell v1)).trans v1
          have fv2 : ∀ x, (fW x).cell? ⟨gz, j * 3 + 2, none⟩ = some (.slice v.d.a v.d.n v.d.c) := fun x => ((hcb x).cell (block_lt_of_cell v2)).trans v2
          have q1 : ∀ x, (convert 22 9 (.slice u.d.a u.d.n u.d.c)).run Try.prog (fW x) = .ok (.string (byStr v.d.zs)) (fW x) := fun x => conv_str (rU.below (hcb x)) _
          have q2 : ∀ x, (convert 22 9 (.slice v.d.a v.d.n v.d.c)).run Try.prog (fW x) = .ok (.string (byStr v.d.zs)) (fW x) := fun x => conv_str (rV.below (hcb x)) _
          obtain ⟨tx, htx⟩ : ∃ t, byStr v.d.zs = t := ⟨_, rfl⟩
          rw [htx] at q1 q2
          have qs : (v.s != v.s) = false := by simp
          clear u1 u2 v1 v2 rU rV hsame hu hv htx lo lz
          go_wp2_with fail
          obtain ⟨x0, hx0⟩ := hcl wr (Below.refl _ _)
          rw [hx0]
          clear hx0 hcb hcl
          refine wp_region_bel (fun w' h => (unhide HCL) w' ((unhide HCB _).trans (h.mono (unhide HCB _).size))) (by kernel_rfl) (by kernel_rfl) ?_
          (repeat (go_big_quiet_step (fail)))
          refine wpQuiet_nil ?_
          rintro _ ⟨y, rfl⟩
          go_wp2_with fail
          go_roundw
          case rel => exact ⟨j + 1, by go_num, by omega, hide ((unhide HBJ).trans ((unhide HCB y).mono (unhide HBJ).size))⟩
          case measure => simp [intOf]; omega
        · have hjn : j = nz := by omega
          have j1 : ¬ (j : Int) < (nz : Int) := by omega
          go_wp2_with fail
          clear hjn j1 hjl hj
          go_loopw [20, 21] (fun t20 t21 wt => ∃ (j : Nat) (I : Int), t20 = .int .i64 (j : Int) ∧ t21 = .int .i64 I ∧ Hid (I + 1 + (j : Int) = (k : Int)) ∧ (-1 ≤ I ∧ I ≤ 18) ∧ j ≤ k ∧ Hid (∀ i, k - j ≤ i → i < k → (elAt la i && elAt lb i) = true) ∧ Hid (Below W2.heap.size W2 wt)) (fun t20 _ _ => k - (intOf t20).toNat)
          case atStart => exact ⟨0, (k : Int) - 1, rfl, rfl, hide (by omega), by omega, Nat.zero_le _, hide (fun i h1 h2 => by omega), HBJ⟩
          case round =>
            clear HBJ
            obtain ⟨j, I, rfl, rfl, HI, hI, hj, HRUN, HBT⟩ := hrel
            by_cases hI0 : 0 ≤ I
            · obtain ⟨i, rfl⟩ : ∃ i : Nat, I = (i : Int) := ⟨I.toNat, by omega⟩
              have hik : i < k := by have := unhide HI; omega
              have hij : i = k - 1 - j := by have := unhide HI; omega
              have HIJ := hide hij
              have i1 : (i : Int) < (k : Int) := by omega
              obtain ⟨p, hp⟩ : ∃ p, elAt la i = p := ⟨_, rfl⟩
              obtain ⟨q, hq⟩ : ∃ q, elAt lb i = q := ⟨_, rfl⟩
              have c0 : wr.cell? ⟨ga, i, none⟩ = some (.bool p) := by
                rcases ((unhide HLA).below ((unhide HM2).bel.trans ((unhide HBT).mono (unhide HM2).bel.size))).open1 with ⟨h0, _⟩ | ⟨b, off, e, _, hc⟩
                · omega
                simp only [Option.some.injEq, Addr.mk.injEq, and_true] at e
                obtain ⟨rfl, rfl⟩ := e
                have q9 := hc i hik
                rw [hp] at q9
                simpa [boC] using q9
              have c1 : wr.cell? ⟨gb, i, none⟩ = some (.bool q) := by
                rcases ((unhide HLB).below ((unhide HM2).bel.trans ((unhide HBT).mono (unhide HM2).bel.size))).open1 with ⟨h0, _⟩ | ⟨b, off, e, _, hc⟩
                · omega
                simp only [Option.some.injEq, Addr.mk.injEq, and_true] at e
                obtain ⟨rfl, rfl⟩ := e
                have q9 := hc i hik
                rw [hq] at q9
                simpa [boC] using q9
              have HPQ : Hid ((elAt la i && elAt lb i) = (p && q)) := hide (by rw [hp, hq])
              clear hp hq hij
              cases p
              · have hT : twT la lb k = j := twT_run j k hj (unhide HRUN) (.inr (by have e := unhide HPQ; rw [unhide HIJ] at e; exact e))
                go_upto_region 38 with fail
                clear c0 c1 hik i1 hI hI0
                have MW := hide ((unhide HM2).below (unhide HBT))
                have KW2 := hide ((unhide KR2).below (unhide HBT))
                by_cases h0 : nz = 0
                · have hSB : twB la lb k = false := by
                    cases e : twB la lb k
                    · rfl
                    · have q := ((unhide TI).yes e).2.2.1
                      rw [← (unhide HP).z, List.length_map, (unhide HP).lz] at q
                      omega
                  obtain ⟨qn, qm, _⟩ := (unhide TI).no hSB
                  rw [unhide HNN] at qn
                  rw [unhide HMM] at qm
                  have k1 : wr.cell? ⟨Rb, 1, none⟩ = some (.int .i64 (-1)) := by have q := (unhide KW2).c 1 (by simp); rw [qn] at q; exact q
                  rw [h0, qm]
                  clear h0 hSB qn qm
                  go_wp2_with fail
                  go_ret
                  exact ⟨rfl, (unhide HB).trans ((unhide MW).bel.mono (unhide HB).size)⟩
                · have hz0 : ((nz : Int) == 0) = false := by rw [beq_eq_false_iff_ne]; omega
                  obtain ⟨i, hi⟩ : ∃ i, nz = i + 1 := ⟨nz - 1, by omega⟩
                  have hsub : (nz : Int) - 1 = (i : Int) := by omega
                  have hwr : IntKind.i64.wrap (i : Int) = (i : Int) := by simp only [IntKind.wrap_i64]; omega
                  have i0 : (0 : Int) ≤ (i : Int) := by omega
                  have i1 : (i : Int) < (nz : Int) := by omega
                  obtain ⟨v, hv⟩ : ∃ v, elAt zs i = v := ⟨_, rfl⟩
                  have lz := (unhide HP).lz
                  have hSB : twB la lb k = true := by
                    cases e : twB la lb k
                    · have q := ((unhide TI).no e).2.2
                      rw [← (unhide HP).z] at q
                      have q := congrArg List.length q
                      rw [List.length_map, lz] at q
                      have q : nz = 0 := q
                      omega
                    · rfl
                  obtain ⟨qn, qm, ql, qe, qt⟩ := (unhide TI).yes hSB
                  rw [unhide HNN] at qn
                  rw [unhide HMM, ← unhide HG, hT] at qm
                  rw [← (unhide HP).z, List.length_map, lz, show nz - 1 = i by omega, elAt_mapW (by omega), hv, hT] at qe
                  rw [hT] at qn qt
                  have v5 : v.l = 5 := by
                    have q := (unhide HW).t.l (k - 1 - j) (by omega)
                    rw [← qe] at q; exact q
                  have vs : v.s = (s0 + ((k - 1 - j : Nat) : Int)) % 256 := by
                    have q := (unhide HW).t.s (k - 1 - j) (by omega)
                    rw [← qe] at q; exact q
                  have vn : v.d.n = 2 := by
                    obtain ⟨z, hz, e⟩ := (unhide HP).zi v (by rw [← hv]; exact elAt_mem (by omega))
                    rw [e]; exact ((unhide HW).cap z hz).1
                  have hvb : 0 ≤ v.s ∧ v.s < 256 := by rw [vs]; exact ⟨Int.emod_nonneg _ (by omega), Int.emod_lt_of_pos _ (by omega)⟩
                  have hnv : n = (v.s + 1) % 256 := by rw [qn, vs]; omega
                  have nq : (n == (v.s + 1) % 256) = true := by rw [hnv]; simp
                  have mq : (M == G - (j : Int)) = true := by rw [qm]; simp
                  have acf : acB 5 n 50 v.l v.s v.d.n = false := by
                    have c : ¬ acD n v.s < 50 := by rw [acD, if_pos (by omega), hnv]; omega
                    simp [acB, c]
                  have CA : Hid (∀ V, Calls Try.prog 17 #[.agg #[.int .i64 5, .int .i64 n, .int .i64 50], .agg #[.int .i64 v.l, .int .i64 v.s, .slice v.d.a v.d.n v.d.c]] V fun e w' => e = .returned (.tuple #[.agg #[.int .i64 5, .int .i64 n, .int .i64 50], .bool false, .int .i64 0]) ∧ Below V.heap.size V w') := hide (fun V => implAccept_is 5 n 50 v.l v.s v.d.a v.d.n v.d.c V (by omega) (ac_no acf).1 (ac_no acf).2 acf)
                  have KL : wr.cell? ⟨gz, i * 3, none⟩ = some (.int .i64 v.l) ∧ wr.cell? ⟨gz, i * 3 + 1, none⟩ = some (.int .i64 v.s) ∧ wr.cell? ⟨gz, i * 3 + 2, none⟩ = some (.slice v.d.a v.d.n v.d.c) := by
                    rcases (unhide MW).Z.row.three with ⟨q0, _⟩ | ⟨b, off, e, _, hc⟩
                    · omega
                    simp only [Option.some.injEq, Addr.mk.injEq, and_true] at e
                    obtain ⟨rfl, rfl⟩ := e
                    have q := hc i (by omega)
                    rw [hv] at q
                    simpa using q
                  have HNV := hide hnv
                  have HMQ := hide mq
                  have HNQ := hide nq
                  have HVB := hide hvb
                  obtain ⟨l0, l1, l2⟩ := KL
                  have k0 : wr.cell? ⟨Rb, 0, none⟩ = some (.int .i64 5) := (unhide KW2).c 0 (by simp)
                  have k1 : wr.cell? ⟨Rb, 1, none⟩ = some (.int .i64 n) := (unhide KW2).c 1 (by simp)
                  have k2 : wr.cell? ⟨Rb, 2, none⟩ = some (.int .i64 50) := (unhide KW2).c 2 (by simp)
                  have al0 : ∀ o, (wr.alloc o).cell? ⟨gz, i * 3, none⟩ = some (.int .i64 v.l) := fun o => ((bel1 (w := wr) o).cell (block_lt_of_cell l0)).trans l0
                  have al1 : ∀ o, (wr.alloc o).cell? ⟨gz, i * 3 + 1, none⟩ = some (.int .i64 v.s) := fun o => ((bel1 (w := wr) o).cell (block_lt_of_cell l1)).trans l1
                  have al2 : ∀ o, (wr.alloc o).cell? ⟨gz, i * 3 + 2, none⟩ = some (.slice v.d.a v.d.n v.d.c) := fun o => ((bel1 (w := wr) o).cell (block_lt_of_cell l2)).trans l2
                  have ak0 : ∀ o, (wr.alloc o).cell? ⟨Rb, 0, none⟩ = some (.int .i64 5) := fun o => ((bel1 (w := wr) o).cell (block_lt_of_cell k0)).trans k0
                  have ak1 : ∀ o, (wr.alloc o).cell? ⟨Rb, 1, none⟩ = some (.int .i64 n) := fun o => ((bel1 (w := wr) o).cell (block_lt_of_cell k1)).trans k1
                  have ak2 : ∀ o, (wr.alloc o).cell? ⟨Rb, 2, none⟩ = some (.int .i64 50) := fun o => ((bel1 (w := wr) o).cell (block_lt_of_cell k2)).trans k2
                  clear hi hv lz hSB qn qm ql qe qt v5 vs vn hvb hnv nq mq acf h0
                  go_upto_region 40 with fail
                  go_cut [22, 23, 24] from 175 to 187 (fun s22 s23 s24 wc => ∃ Pq : Nat, s22 = .pointer (some ⟨Pq, 0, none⟩) ∧ s23 = .bool false ∧ s24 = .int .i64 0 ∧ Blk wc Pq [.int .i64 5, .int .i64 n, .int .i64 50] ∧ Below wr.heap.size wr wc)
                  case first =>
                    go_region_law ((fail_if_success have := D1); go_simp; go_wp2_with (go_at_call 17; refine ((unhide CA) _).mono ?_; rintro e w8 ⟨rfl, b8⟩; have D1 := trivial; (first | (have nb := (Blk.new (w := wr) [.int .i64 0, .int .i64 0, .int .i64 0] 52).below b8; have y0 : w8.cell? ⟨wr.heap.size, 0, none⟩ = some (.int .i64 0) := nb.c 0 (by simp); have z0 : w8.frozen? ⟨wr.heap.size, 0, none⟩ = false := nb.f 0 (by simp); have y1 : w8.cell? ⟨wr.heap.size, 1, none⟩ = some (.int .i64 0) := nb.c 1 (by simp); have z1 : w8.frozen? ⟨wr.heap.size, 1, none⟩ = false := nb.f 1 (by simp); have y2 : w8.cell? ⟨wr.heap.size, 2, none⟩ = some (.int .i64 0) := nb.c 2 (by simp); have z2 : w8.frozen? ⟨wr.heap.size, 2, none⟩ = false := nb.f 2 (by simp); have NXX := hide (rcv_ahead (wr := wr) (x := 5) (y := n) (z := 50) (.inl rfl) b8); clear nb) | (have nb := ((Blk.new (w := wr) [.int .i64 0, .int .i64 0, .int .i64 0] 52).below (bel0d 1)).below b8; have y0 : w8.cell? ⟨wr.heap.size, 0, none⟩ = some (.int .i64 0) := nb.c 0 (by simp); have z0 : w8.frozen? ⟨wr.heap.size, 0, none⟩ = false := nb.f 0 (by simp); have y1 : w8.cell? ⟨wr.heap.size, 1, none⟩ = some (.int .i64 0) := nb.c 1 (by simp); have z1 : w8.frozen? ⟨wr.heap.size, 1, none⟩ = false := nb.f 1 (by simp); have y2 : w8.cell? ⟨wr.heap.size, 2, none⟩ = some (.int .i64 0) := nb.c 2 (by simp); have z2 : w8.frozen? ⟨wr.heap.size, 2, none⟩ = false := nb.f 2 (by simp); have NXX := hide (rcv_ahead (wr := wr) (x := 5) (y := n) (z := 50) (.inr rfl) b8); clear nb) | (have NXX := hide (rcv_apart (wr := wr) (x := 5) (y := n) (z := 50) (.inl rfl) b8)) | (have NXX := hide (rcv_apart (wr := wr) (x := 5) (y := n) (z := 50) (.inr rfl) b8))); clear b8))
                    all_goals (
                      go_wp2
                      (try go_simp)
                      go_meet
                      case rel => first
                        | exact ⟨wr.heap.size, by kernel_rfl, by kernel_rfl, by kernel_rfl, (unhide NXX).1, (unhide NXX).2⟩
                        | exact ⟨w8.heap.size, by kernel_rfl, by kernel_rfl, by kernel_rfl, (unhide NXX).1, (unhide NXX).2⟩)
                  case rest =>
                    obtain ⟨Pq, rfl, rfl, rfl, kq, bc⟩ := hcut
                    clear al0 al1 al2 ak0 ak1 ak2 CA
                    have cl0 : wc.cell? ⟨gz, i * 3, none⟩ = some (.int .i64 v.l) := (bc.cell (block_lt_of_cell l0)).trans l0
                    have cl1 : wc.cell? ⟨gz, i * 3 + 1, none⟩ = some (.int .i64 v.s) := (bc.cell (block_lt_of_cell l1)).trans l1
                    have cl2 : wc.cell? ⟨gz, i * 3 + 2, none⟩ = some (.slice v.d.a v.d.n v.d.c) := (bc.cell (block_lt_of_cell l2)).trans l2
                    have ck0 : wc.cell? ⟨Rb, 0, none⟩ = some (.int .i64 5) := (bc.cell (block_lt_of_cell k0)).trans k0
                    have ck1 : wc.cell? ⟨Rb, 1, none⟩ = some (.int .i64 n) := (bc.cell (block_lt_of_cell k1)).trans k1
                    have ck2 : wc.cell? ⟨Rb, 2, none⟩ = some (.int .i64 50) := (bc.cell (block_lt_of_cell k2)).trans k2
                    have z0 : wc.cell? ⟨Pq, 0, none⟩ = some (.int .i64 5) := kq.c 0 (by simp)
                    have z1 : wc.cell? ⟨Pq, 1, none⟩ = some (.int .i64 n) := kq.c 1 (by simp)
                    have z2 : wc.cell? ⟨Pq, 2, none⟩ = some (.int .i64 50) := kq.c 2 (by simp)
                    have BC := hide ((unhide MW).bel.trans (bc.mono (unhide MW).bel.size))
                    have nq := unhide HNQ
                    have mq := unhide HMQ
                    have hvb := unhide HVB
                    obtain ⟨ι, fW, _, hcb, hcl⟩ := belClass wc
                    have HCB := hide hcb
                    have HCL := hide hcl
                    have fl0 : ∀ x, (fW x).cell? ⟨gz, i * 3, none⟩ = some (.int .i64 v.l) := fun x => ((hcb x).cell (block_lt_of_cell cl0)).trans cl0
                    have fl1 : ∀ x, (fW x).cell? ⟨gz, i * 3 + 1, none⟩ = some (.int .i64 v.s) := fun x => ((hcb x).cell (block_lt_of_cell cl1)).trans cl1
                    have fl2 : ∀ x, (fW x).cell? ⟨gz, i * 3 + 2, none⟩ = some (.slice v.d.a v.d.n v.d.c) := fun x => ((hcb x).cell (block_lt_of_cell cl2)).trans cl2
                    have fk0 : ∀ x, (fW x).cell? ⟨Rb, 0, none⟩ = some (.int .i64 5) := fun x => ((hcb x).cell (block_lt_of_cell ck0)).trans ck0
                    have fk1 : ∀ x, (fW x).cell? ⟨Rb, 1, none⟩ = some (.int .i64 n) := fun x => ((hcb x).cell (block_lt_of_cell ck1)).trans ck1
                    have fk2 : ∀ x, (fW x).cell? ⟨Rb, 2, none⟩ = some (.int .i64 50) := fun x => ((hcb x).cell (block_lt_of_cell ck2)).trans ck2
                    have fz0 : ∀ x, (fW x).cell? ⟨Pq, 0, none⟩ = some (.int .i64 5) := fun x => ((hcb x).cell (block_lt_of_cell z0)).trans z0
                    have fz1 : ∀ x, (fW x).cell? ⟨Pq, 1, none⟩ = some (.int .i64 n) := fun x => ((hcb x).cell (block_lt_of_cell z1)).trans z1
                    have fz2 : ∀ x, (fW x).cell? ⟨Pq, 2, none⟩ = some (.int .i64 50) := fun x => ((hcb x).cell (block_lt_of_cell z2)).trans z2
                    clear l0 l1 l2 k0 k1 k2 bc kq
                    go_wp2_with fail
                    clear cl0 cl1 cl2 ck0 ck1 ck2 z0 z1 z2
                    obtain ⟨x0, hx0⟩ := hcl wc (Below.refl _ _)
                    rw [hx0]
                    clear hx0 hcb hcl
                    refine wp_region_bel (fun w' h => (unhide HCL) w' ((unhide HCB _).trans (h.mono (unhide HCB _).size))) (by kernel_rfl) (by kernel_rfl) ?_
                    (repeat (go_big_quiet_step (fail)))
                    refine wpQuiet_nil ?_
                    rintro _ ⟨y, rfl⟩
                    go_wp2_with fail
                    go_ret
                    exact ⟨rfl, (unhide HB).trans (((unhide BC).trans ((unhide HCB y).mono (unhide BC).size)).mono (unhide HB).size)⟩
              · cases q
                · have hT : twT la lb k = j := twT_run j k hj (unhide HRUN) (.inr (by have e := unhide HPQ; rw [unhide HIJ] at e; exact e))
                  go_upto_region 38 with fail
                  clear c0 c1 hik i1 hI hI0
                  have MW := hide ((unhide HM2).below (unhide HBT))
                  have KW2 := hide ((unhide KR2).below (unhide HBT))
                  by_cases h0 : nz = 0
                  · have hSB : twB la lb k = false := by
                      cases e : twB la lb k
                      · rfl
                      · have q := ((unhide TI).yes e).2.2.1
                        rw [← (unhide HP).z, List.length_map, (unhide HP).lz] at q
                        omega
                    obtain ⟨qn, qm, _⟩ := (unhide TI).no hSB
                    rw [unhide HNN] at qn
                    rw [unhide HMM] at qm
                    have k1 : wr.cell? ⟨Rb, 1, none⟩ = some (.int .i64 (-1)) := by have q := (unhide KW2).c 1 (by simp); rw [qn] at q; exact q
                    rw [h0, qm]
                    clear h0 hSB qn qm
                    go_wp2_with fail
                    go_ret
                    exact ⟨rfl, (unhide HB).trans ((unhide MW).bel.mono (unhide HB).size)⟩
                  · have hz0 : ((nz : Int) == 0) = false := by rw [beq_eq_false_iff_ne]; omega
                    obtain ⟨i, hi⟩ : ∃ i, nz = i + 1 := ⟨nz - 1, by omega⟩
                    have hsub : (nz : Int) - 1 = (i : Int) := by omega
                    have hwr : IntKind.i64.wrap (i : Int) = (i : Int) := by simp only [IntKind.wrap_i64]; omega
                    have i0 : (0 : Int) ≤ (i : Int) := by omega
                    have i1 : (i : Int) < (nz : Int) := by omega
                    obtain ⟨v, hv⟩ : ∃ v, elAt zs i = v := ⟨_, rfl⟩
                    have lz := (unhide HP).lz
                    have hSB : twB la lb k = true := by
                      cases e : twB la lb k
                      · have q := ((unhide TI).no e).2.2
                        rw [← (unhide HP).z] at q
                        have q := congrArg List.length q
                        rw [List.length_map, lz] at q
                        have q : nz = 0 := q
                        omega
                      · rfl
                    obtain ⟨qn, qm, ql, qe, qt⟩ := (unhide TI).yes hSB
                    rw [unhide HNN] at qn
                    rw [unhide HMM, ← unhide HG, hT] at qm
                    rw [← (unhide HP).z, List.length_map, lz, show nz - 1 = i by omega, elAt_mapW (by omega), hv, hT] at qe
                    rw [hT] at qn qt
                    have v5 : v.l = 5 := by
                      have q := (unhide HW).t.l (k - 1 - j) (by omega)
                      rw [← qe] at q; exact q
                    have vs : v.s = (s0 + ((k - 1 - j : Nat) : Int)) % 256 := by
                      have q := (unhide HW).t.s (k - 1 - j) (by omega)
                      rw [← qe] at q; exact q
                    have vn : v.d.n = 2 := by
                      obtain ⟨z, hz, e⟩ := (unhide HP).zi v (by rw [← hv]; exact elAt_mem (by omega))
                      rw [e]; exact ((unhide HW).cap z hz).1
                    have hvb : 0 ≤ v.s ∧ v.s < 256 := by rw [vs]; exact ⟨Int.emod_nonneg _ (by omega), Int.emod_lt_of_pos _ (by omega)⟩
                    have hnv : n = (v.s + 1) % 256 := by rw [qn, vs]; omega
                    have nq : (n == (v.s + 1) % 256) = true := by rw [hnv]; simp
                    have mq : (M == G - (j : Int)) = true := by rw [qm]; simp
                    have acf : acB 5 n 50 v.l v.s v.d.n = false := by
                      have c : ¬ acD n v.s < 50 := by rw [acD, if_pos (by omega), hnv]; omega
                      simp [acB, c]
                    have CA : Hid (∀ V, Calls Try.prog 17 #[.agg #[.int .i64 5, .int .i64 n, .int .i64 50], .agg #[.int .i64 v.l, .int .i64 v.s, .slice v.d.a v.d.n v.d.c]] V fun e w' => e = .returned (.tuple #[.agg #[.int .i64 5, .int .i64 n, .int .i64 50], .bool false, .int .i64 0]) ∧ Below V.heap.size V w') := hide (fun V => implAccept_is 5 n 50 v.l v.s v.d.a v.d.n v.d.c V (by omega) (ac_no acf).1 (ac_no acf).2 acf)
                    have KL : wr.cell? ⟨gz, i * 3, none⟩ = some (.int .i64 v.l) ∧ wr.cell? ⟨gz, i * 3 + 1, none⟩ = some (.int .i64 v.s) ∧ wr.cell? ⟨gz, i * 3 + 2, none⟩ = some (.slice v.d.a v.d.n v.d.c) := by
                      rcases (unhide MW).Z.row.three with ⟨q0, _⟩ | ⟨b, off, e, _, hc⟩
                      · omega
                      simp only [Option.some.injEq, Addr.mk.injEq, and_true] at e
                      obtain ⟨rfl, rfl⟩ := e
                      have q := hc i (by omega)
                      rw [hv] at q
                      simpa using q
                    have HNV := hide hnv
                    have HMQ := hide mq
                    have HNQ := hide nq
                    have HVB := hide hvb
                    obtain ⟨l0, l1, l2⟩ := KL
                    have k0 : wr.cell? ⟨Rb, 0, none⟩ = some (.int .i64 5) := (unhide KW2).c 0 (by simp)
                    have k1 : wr.cell? ⟨Rb, 1, none⟩ = some (.int .i64 n) := (unhide KW2).c 1 (by simp)
                    have k2 : wr.cell? ⟨Rb, 2, none⟩ = some (.int .i64 50) := (unhide KW2).c 2 (by simp)
                    have al0 : ∀ o, (wr.alloc o).cell? ⟨gz, i * 3, none⟩ = some (.int .i64 v.l) := fun o => ((bel1 (w := wr) o).cell (block_lt_of_cell l0)).trans l0
                    have al1 : ∀ o, (wr.alloc o).cell? ⟨gz, i * 3 + 1, none⟩ = some (.int .i64 v.s) := fun o => ((bel1 (w := wr) o).cell (block_lt_of_cell l1)).trans l1
                    have al2 : ∀ o, (wr.alloc o).cell? ⟨gz, i * 3 + 2, none⟩ = some (.slice v.d.a v.d.n v.d.c) := fun o => ((bel1 (w := wr) o).cell (block_lt_of_cell l2)).trans l2
                    have ak0 : ∀ o, (wr.alloc o).cell? ⟨Rb, 0, none⟩ = some (.int .i64 5) := fun o => ((bel1 (w := wr) o).cell (block_lt_of_cell k0)).trans k0
                    have ak1 : ∀ o, (wr.alloc o).cell? ⟨Rb, 1, none⟩ = some (.int .i64 n) := fun o => ((bel1 (w := wr) o).cell (block_lt_of_cell k1)).trans k1
                    have ak2 : ∀ o, (wr.alloc o).cell? ⟨Rb, 2, none⟩ = some (.int .i64 50) := fun o => ((bel1 (w := wr) o).cell (block_lt_of_cell k2)).trans k2
                    clear hi hv lz hSB qn qm ql qe qt v5 vs vn hvb hnv nq mq acf h0
                    go_upto_region 40 with fail
                    go_cut [22, 23, 24] from 175 to 187 (fun s22 s23 s24 wc => ∃ Pq : Nat, s22 = .pointer (some ⟨Pq, 0, none⟩) ∧ s23 = .bool false ∧ s24 = .int .i64 0 ∧ Blk wc Pq [.int .i64 5, .int .i64 n, .int .i64 50] ∧ Below wr.heap.size wr wc)
                    case first =>
                      go_region_law ((fail_if_success have := D1); go_simp; go_wp2_with (go_at_call 17; refine ((unhide CA) _).mono ?_; rintro e w8 ⟨rfl, b8⟩; have D1 := trivial; (first | (have nb := (Blk.new (w := wr) [.int .i64 0, .int .i64 0, .int .i64 0] 52).below b8; have y0 : w8.cell? ⟨wr.heap.size, 0, none⟩ = some (.int .i64 0) := nb.c 0 (by simp); have z0 : w8.frozen? ⟨wr.heap.size, 0, none⟩ = false := nb.f 0 (by simp); have y1 : w8.cell? ⟨wr.heap.size, 1, none⟩ = some (.int .i64 0) := nb.c 1 (by simp); have z1 : w8.frozen? ⟨wr.heap.size, 1, none⟩ = false := nb.f 1 (by simp); have y2 : w8.cell? ⟨wr.heap.size, 2, none⟩ = some (.int .i64 0) := nb.c 2 (by simp); have z2 : w8.frozen? ⟨wr.heap.size, 2, none⟩ = false := nb.f 2 (by simp); have NXX := hide (rcv_ahead (wr := wr) (x := 5) (y := n) (z := 50) (.inl rfl) b8); clear nb) | (have nb := ((Blk.new (w := wr) [.int .i64 0, .int .i64 0, .int .i64 0] 52).below (bel0d 1)).below b8; have y0 : w8.cell? ⟨wr.heap.size, 0, none⟩ = some (.int .i64 0) := nb.c 0 (by simp); have z0 : w8.frozen? ⟨wr.heap.size, 0, none⟩ = false := nb.f 0 (by simp); have y1 : w8.cell? ⟨wr.heap.size, 1, none⟩ = some (.int .i64 0) := nb.c 1 (by simp); have z1 : w8.frozen? ⟨wr.heap.size, 1, none⟩ = false := nb.f 1 (by simp); have y2 : w8.cell? ⟨wr.heap.size, 2, none⟩ = some (.int .i64 0) := nb.c 2 (by simp); have z2 : w8.frozen? ⟨wr.heap.size, 2, none⟩ = false := nb.f 2 (by simp); have NXX := hide (rcv_ahead (wr := wr) (x := 5) (y := n) (z := 50) (.inr rfl) b8); clear nb) | (have NXX := hide (rcv_apart (wr := wr) (x := 5) (y := n) (z := 50) (.inl rfl) b8)) | (have NXX := hide (rcv_apart (wr := wr) (x := 5) (y := n) (z := 50) (.inr rfl) b8))); clear b8))
                      all_goals (
                        go_wp2
                        (try go_simp)
                        go_meet
                        case rel => first
                          | exact ⟨wr.heap.size, by kernel_rfl, by kernel_rfl, by kernel_rfl, (unhide NXX).1, (unhide NXX).2⟩
                          | exact ⟨w8.heap.size, by kernel_rfl, by kernel_rfl, by kernel_rfl, (unhide NXX).1, (unhide NXX).2⟩)
                    case rest =>
                      obtain ⟨Pq, rfl, rfl, rfl, kq, bc⟩ := hcut
                      clear al0 al1 al2 ak0 ak1 ak2 CA
                      have cl0 : wc.cell? ⟨gz, i * 3, none⟩ = some (.int .i64 v.l) := (bc.cell (block_lt_of_cell l0)).trans l0
                      have cl1 : wc.cell? ⟨gz, i * 3 + 1, none⟩ = some (.int .i64 v.s) := (bc.cell (block_lt_of_cell l1)).trans l1
                      have cl2 : wc.cell? ⟨gz, i * 3 + 2, none⟩ = some (.slice v.d.a v.d.n v.d.c) := (bc.cell (block_lt_of_cell l2)).trans l2
                      have ck0 : wc.cell? ⟨Rb, 0, none⟩ = some (.int .i64 5) := (bc.cell (block_lt_of_cell k0)).trans k0
                      have ck1 : wc.cell? ⟨Rb, 1, none⟩ = some (.int .i64 n) := (bc.cell (block_lt_of_cell k1)).trans k1
                      have ck2 : wc.cell? ⟨Rb, 2, none⟩ = some (.int .i64 50) := (bc.cell (block_lt_of_cell k2)).trans k2
                      have z0 : wc.cell? ⟨Pq, 0, none⟩ = some (.int .i64 5) := kq.c 0 (by simp)
                      have z1 : wc.cell? ⟨Pq, 1, none⟩ = some (.int .i64 n) := kq.c 1 (by simp)
                      have z2 : wc.cell? ⟨Pq, 2, none⟩ = some (.int .i64 50) := kq.c 2 (by simp)
                      have BC := hide ((unhide MW).bel.trans (bc.mono (unhide MW).bel.size))
                      have nq := unhide HNQ
                      have mq := unhide HMQ
                      have hvb := unhide HVB
                      obtain ⟨ι, fW, _, hcb, hcl⟩ := belClass wc
                      have HCB := hide hcb
                      have HCL := hide hcl
                      have fl0 : ∀ x, (fW x).cell? ⟨gz, i * 3, none⟩ = some (.int .i64 v.l) := fun x => ((hcb x).cell (block_lt_of_cell cl0)).trans cl0
                      have fl1 : ∀ x, (fW x).cell? ⟨gz, i * 3 + 1, none⟩ = some (.int .i64 v.s) := fun x => ((hcb x).cell (block_lt_of_cell cl1)).trans cl1
                      have fl2 : ∀ x, (fW x).cell? ⟨gz, i * 3 + 2, none⟩ = some (.slice v.d.a v.d.n v.d.c) := fun x => ((hcb x).cell (block_lt_of_cell cl2)).trans cl2
                      have fk0 : ∀ x, (fW x).cell? ⟨Rb, 0, none⟩ = some (.int .i64 5) := fun x => ((hcb x).cell (block_lt_of_cell ck0)).trans ck0
                      have fk1 : ∀ x, (fW x).cell? ⟨Rb, 1, none⟩ = some (.int .i64 n) := fun x => ((hcb x).cell (block_lt_of_cell ck1)).trans ck1
                      have fk2 : ∀ x, (fW x).cell? ⟨Rb, 2, none⟩ = some (.int .i64 50) := fun x => ((hcb x).cell (block_lt_of_cell ck2)).trans ck2
                      have fz0 : ∀ x, (fW x).cell? ⟨Pq, 0, none⟩ = some (.int .i64 5) := fun x => ((hcb x).cell (block_lt_of_cell z0)).trans z0
                      have fz1 : ∀ x, (fW x).cell? ⟨Pq, 1, none⟩ = some (.int .i64 n) := fun x => ((hcb x).cell (block_lt_of_cell z1)).trans z1
                      have fz2 : ∀ x, (fW x).cell? ⟨Pq, 2, none⟩ = some (.int .i64 50) := fun x => ((hcb x).cell (block_lt_of_cell z2)).trans z2
                      clear l0 l1 l2 k0 k1 k2 bc kq
                      go_wp2_with fail
                      clear cl0 cl1 cl2 ck0 ck1 ck2 z0 z1 z2
                      obtain ⟨x0, hx0⟩ := hcl wc (Below.refl _ _)
                      rw [hx0]
                      clear hx0 hcb hcl
                      refine wp_region_bel (fun w' h => (unhide HCL) w' ((unhide HCB _).trans (h.mono (unhide HCB _).size))) (by kernel_rfl) (by kernel_rfl) ?_
                      (repeat (go_big_quiet_step (fail)))
                      refine wpQuiet_nil ?_
                      rintro _ ⟨y, rfl⟩
                      go_wp2_with fail
                      go_ret
                      exact ⟨rfl, (unhide HB).trans (((unhide BC).trans ((unhide HCB y).mono (unhide BC).size)).mono (unhide HB).size)⟩
                · have HRN : Hid (∀ z, k - (j + 1) ≤ z → z < k → (elAt la z && elAt lb z) = true) := hide (fun z h1 h2 => by
                    by_cases c : k - j ≤ z
                    · exact (unhide HRUN) z c h2
                    · have e : z = i := by have := unhide HIJ; omega
                      rw [e]; exact unhide HPQ)
                  go_wp2_with fail
                  go_roundw
                  case rel => exact ⟨j + 1, (i : Int) - 1, by go_num, rfl, hide (by have := unhide HI; omega), by omega, by have := unhide HI; omega, HRN, HBT⟩
                  case measure => have := unhide HI; simp [intOf]; omega
            · have eI : I = -1 := by omega
              subst eI
              have hT : twT la lb k = j := twT_run j k hj (unhide HRUN) (.inl (by have := unhide HI; omega))
              go_upto_region 38 with fail
              clear hI hI0
              have MW := hide ((unhide HM2).below (unhide HBT))
              have KW2 := hide ((unhide KR2).below (unhide HBT))
              by_cases h0 : nz = 0
              · have hSB : twB la lb k = false := by
                  cases e : twB la lb k
                  · rfl
                  · have q := ((unhide TI).yes e).2.2.1
                    rw [← (unhide HP).z, List.length_map, (unhide HP).lz] at q
                    omega
                obtain ⟨qn, qm, _⟩ := (unhide TI).no hSB
                rw [unhide HNN] at qn
                rw [unhide HMM] at qm
                have k1 : wr.cell? ⟨Rb, 1, none⟩ = some (.int .i64 (-1)) := by have q := (unhide KW2).c 1 (by simp); rw [qn] at q; exact q
                rw [h0, qm]
                clear h0 hSB qn qm
                go_wp2_with fail
                go_ret
                exact ⟨rfl, (unhide HB).trans ((unhide MW).bel.mono (unhide HB).size)⟩
              · have hz0 : ((nz : Int) == 0) = false := by rw [beq_eq_false_iff_ne]; omega
                obtain ⟨i, hi⟩ : ∃ i, nz = i + 1 := ⟨nz - 1, by omega⟩
                have hsub : (nz : Int) - 1 = (i : Int) := by omega
                have hwr : IntKind.i64.wrap (i : Int) = (i : Int) := by simp only [IntKind.wrap_i64]; omega
                have i0 : (0 : Int) ≤ (i : Int) := by omega
                have i1 : (i : Int) < (nz : Int) := by omega
                obtain ⟨v, hv⟩ : ∃ v, elAt zs i = v := ⟨_, rfl⟩
                have lz := (unhide HP).lz
                have hSB : twB la lb k = true := by
                  cases e : twB la lb k
                  · have q := ((unhide TI).no e).2.2
                    rw [← (unhide HP).z] at q
                    have q := congrArg List.length q
                    rw [List.length_map, lz] at q
                    have q : nz = 0 := q
                    omega
                  · rfl
                obtain ⟨qn, qm, ql, qe, qt⟩ := (unhide TI).yes hSB
                rw [unhide HNN] at qn
                rw [unhide HMM, ← unhide HG, hT] at qm
                rw [← (unhide HP).z, List.length_map, lz, show nz - 1 = i by omega, elAt_mapW (by omega), hv, hT] at qe
                rw [hT] at qn qt
                have v5 : v.l = 5 := by
                  have q := (unhide HW).t.l (k - 1 - j) (by omega)
                  rw [← qe] at q; exact q
                have vs : v.s = (s0 + ((k - 1 - j : Nat) : Int)) % 256 := by
                  have q := (unhide HW).t.s (k - 1 - j) (by omega)
                  rw [← qe] at q; exact q
                have vn : v.d.n = 2 := by
                  obtain ⟨z, hz, e⟩ := (unhide HP).zi v (by rw [← hv]; exact elAt_mem (by omega))
                  rw [e]; exact ((unhide HW).cap z hz).1
                have hvb : 0 ≤ v.s ∧ v.s < 256 := by rw [vs]; exact ⟨Int.emod_nonneg _ (by omega), Int.emod_lt_of_pos _ (by omega)⟩
                have hnv : n = (v.s + 1) % 256 := by rw [qn, vs]; omega
                have nq : (n == (v.s + 1) % 256) = true := by rw [hnv]; simp
                have mq : (M == G - (j : Int)) = true := by rw [qm]; simp
                have acf : acB 5 n 50 v.l v.s v.d.n = false := by
                  have c : ¬ acD n v.s < 50 := by rw [acD, if_pos (by omega), hnv]; omega
                  simp [acB, c]
                have CA : Hid (∀ V, Calls Try.prog 17 #[.agg #[.int .i64 5, .int .i64 n, .int .i64 50], .agg #[.int .i64 v.l, .int .i64 v.s, .slice v.d.a v.d.n v.d.c]] V fun e w' => e = .returned (.tuple #[.agg #[.int .i64 5, .int .i64 n, .int .i64 50], .bool false, .int .i64 0]) ∧ Below V.heap.size V w') := hide (fun V => implAccept_is 5 n 50 v.l v.s v.d.a v.d.n v.d.c V (by omega) (ac_no acf).1 (ac_no acf).2 acf)
                have KL : wr.cell? ⟨gz, i * 3, none⟩ = some (.int .i64 v.l) ∧ wr.cell? ⟨gz, i * 3 + 1, none⟩ = some (.int .i64 v.s) ∧ wr.cell? ⟨gz, i * 3 + 2, none⟩ = some (.slice v.d.a v.d.n v.d.c) := by
                  rcases (unhide MW).Z.row.three with ⟨q0, _⟩ | ⟨b, off, e, _, hc⟩
                  · omega
                  simp only [Option.some.injEq, Addr.mk.injEq, and_true] at e
                  obtain ⟨rfl, rfl⟩ := e
                  have q := hc i (by omega)
                  rw [hv] at q
                  simpa using q
                have HNV := hide hnv
                have HMQ := hide mq
                have HNQ := hide nq
                have HVB := hide hvb
                obtain ⟨l0, l1, l2⟩ := KL
                have k0 : wr.cell? ⟨Rb, 0, none⟩ = some (.int .i64 5) := (unhide KW2).c 0 (by simp)
                have k1 : wr.cell? ⟨Rb, 1, none⟩ = some (.int .i64 n) := (unhide KW2).c 1 (by simp)
                have k2 : wr.cell? ⟨Rb, 2, none⟩ = some (.int .i64 50) := (unhide KW2).c 2 (by simp)
                have al0 : ∀ o, (wr.alloc o).cell? ⟨gz, i * 3, none⟩ = some (.int .i64 v.l) := fun o => ((bel1 (w := wr) o).cell (block_lt_of_cell l0)).trans l0
                have al1 : ∀ o, (wr.alloc o).cell? ⟨gz, i * 3 + 1, none⟩ = some (.int .i64 v.s) := fun o => ((bel1 (w := wr) o).cell (block_lt_of_cell l1)).trans l1
                have al2 : ∀ o, (wr.alloc o).cell? ⟨gz, i * 3 + 2, none⟩ = some (.slice v.d.a v.d.n v.d.c) := fun o => ((bel1 (w := wr) o).cell (block_lt_of_cell l2)).trans l2
                have ak0 : ∀ o, (wr.alloc o).cell? ⟨Rb, 0, none⟩ = some (.int .i64 5) := fun o => ((bel1 (w := wr) o).cell (block_lt_of_cell k0)).trans k0
                have ak1 : ∀ o, (wr.alloc o).cell? ⟨Rb, 1, none⟩ = some (.int .i64 n) := fun o => ((bel1 (w := wr) o).cell (block_lt_of_cell k1)).trans k1
                have ak2 : ∀ o, (wr.alloc o).cell? ⟨Rb, 2, none⟩ = some (.int .i64 50) := fun o => ((bel1 (w := wr) o).cell (block_lt_of_cell k2)).trans k2
                clear hi hv lz hSB qn qm ql qe qt v5 vs vn hvb hnv nq mq acf h0
                go_upto_region 40 with fail
                go_cut [22, 23, 24] from 175 to 187 (fun s22 s23 s24 wc => ∃ Pq : Nat, s22 = .pointer (some ⟨Pq, 0, none⟩) ∧ s23 = .bool false ∧ s24 = .int .i64 0 ∧ Blk wc Pq [.int .i64 5, .int .i64 n, .int .i64 50] ∧ Below wr.heap.size wr wc)
                case first =>
                  go_region_law ((fail_if_success have := D1); go_simp; go_wp2_with (go_at_call 17; refine ((unhide CA) _).mono ?_; rintro e w8 ⟨rfl, b8⟩; have D1 := trivial; (first | (have nb := (Blk.new (w := wr) [.int .i64 0, .int .i64 0, .int .i64 0] 52).below b8; have y0 : w8.cell? ⟨wr.heap.size, 0, none⟩ = some (.int .i64 0) := nb.c 0 (by simp); have z0 : w8.frozen? ⟨wr.heap.size, 0, none⟩ = false := nb.f 0 (by simp); have y1 : w8.cell? ⟨wr.heap.size, 1, none⟩ = some (.int .i64 0) := nb.c 1 (by simp); have z1 : w8.frozen? ⟨wr.heap.size, 1, none⟩ = false := nb.f 1 (by simp); have y2 : w8.cell? ⟨wr.heap.size, 2, none⟩ = some (.int .i64 0) := nb.c 2 (by simp); have z2 : w8.frozen? ⟨wr.heap.size, 2, none⟩ = false := nb.f 2 (by simp); have NXX := hide (rcv_ahead (wr := wr) (x := 5) (y := n) (z := 50) (.inl rfl) b8); clear nb) | (have nb := ((Blk.new (w := wr) [.int .i64 0, .int .i64 0, .int .i64 0] 52).below (bel0d 1)).below b8; have y0 : w8.cell? ⟨wr.heap.size, 0, none⟩ = some (.int .i64 0) := nb.c 0 (by simp); have z0 : w8.frozen? ⟨wr.heap.size, 0, none⟩ = false := nb.f 0 (by simp); have y1 : w8.cell? ⟨wr.heap.size, 1, none⟩ = some (.int .i64 0) := nb.c 1 (by simp); have z1 : w8.frozen? ⟨wr.heap.size, 1, none⟩ = false := nb.f 1 (by simp); have y2 : w8.cell? ⟨wr.heap.size, 2, none⟩ = some (.int .i64 0) := nb.c 2 (by simp); have z2 : w8.frozen? ⟨wr.heap.size, 2, none⟩ = false := nb.f 2 (by simp); have NXX := hide (rcv_ahead (wr := wr) (x := 5) (y := n) (z := 50) (.inr rfl) b8); clear nb) | (have NXX := hide (rcv_apart (wr := wr) (x := 5) (y := n) (z := 50) (.inl rfl) b8)) | (have NXX := hide (rcv_apart (wr := wr) (x := 5) (y := n) (z := 50) (.inr rfl) b8))); clear b8))
                  all_goals (
                    go_wp2
                    (try go_simp)
                    go_meet
                    case rel => first
                      | exact ⟨wr.heap.size, by kernel_rfl, by kernel_rfl, by kernel_rfl, (unhide NXX).1, (unhide NXX).2⟩
                      | exact ⟨w8.heap.size, by kernel_rfl, by kernel_rfl, by kernel_rfl, (unhide NXX).1, (unhide NXX).2⟩)
                case rest =>
                  obtain ⟨Pq, rfl, rfl, rfl, kq, bc⟩ := hcut
                  clear al0 al1 al2 ak0 ak1 ak2 CA
                  have cl0 : wc.cell? ⟨gz, i * 3, none⟩ = some (.int .i64 v.l) := (bc.cell (block_lt_of_cell l0)).trans l0
                  have cl1 : wc.cell? ⟨gz, i * 3 + 1, none⟩ = some (.int .i64 v.s) := (bc.cell (block_lt_of_cell l1)).trans l1
                  have cl2 : wc.cell? ⟨gz, i * 3 + 2, none⟩ = some (.slice v.d.a v.d.n v.d.c) := (bc.cell (block_lt_of_cell l2)).trans l2
                  have ck0 : wc.cell? ⟨Rb, 0, none⟩ = some (.int .i64 5) := (bc.cell (block_lt_of_cell k0)).trans k0
                  have ck1 : wc.cell? ⟨Rb, 1, none⟩ = some (.int .i64 n) := (bc.cell (block_lt_of_cell k1)).trans k1
                  have ck2 : wc.cell? ⟨Rb, 2, none⟩ = some (.int .i64 50) := (bc.cell (block_lt_of_cell k2)).trans k2
                  have z0 : wc.cell? ⟨Pq, 0, none⟩ = some (.int .i64 5) := kq.c 0 (by simp)
                  have z1 : wc.cell? ⟨Pq, 1, none⟩ = some (.int .i64 n) := kq.c 1 (by simp)
                  have z2 : wc.cell? ⟨Pq, 2, none⟩ = some (.int .i64 50) := kq.c 2 (by simp)
                  have BC := hide ((unhide MW).bel.trans (bc.mono (unhide MW).bel.size))
                  have nq := unhide HNQ
                  have mq := unhide HMQ
                  have hvb := unhide HVB
                  obtain ⟨ι, fW, _, hcb, hcl⟩ := belClass wc
                  have HCB := hide hcb
                  have HCL := hide hcl
                  have fl0 : ∀ x, (fW x).cell? ⟨gz, i * 3, none⟩ = some (.int .i64 v.l) := fun x => ((hcb x).cell (block_lt_of_cell cl0)).trans cl0
                  have fl1 : ∀ x, (fW x).cell? ⟨gz, i * 3 + 1, none⟩ = some (.int .i64 v.s) := fun x => ((hcb x).cell (block_lt_of_cell cl1)).trans cl1
                  have fl2 : ∀ x, (fW x).cell? ⟨gz, i * 3 + 2, none⟩ = some (.slice v.d.a v.d.n v.d.c) := fun x => ((hcb x).cell (block_lt_of_cell cl2)).trans cl2
                  have fk0 : ∀ x, (fW x).cell? ⟨Rb, 0, none⟩ = some (.int .i64 5) := fun x => ((hcb x).cell (block_lt_of_cell ck0)).trans ck0
                  have fk1 : ∀ x, (fW x).cell? ⟨Rb, 1, none⟩ = some (.int .i64 n) := fun x => ((hcb x).cell (block_lt_of_cell ck1)).trans ck1
                  have fk2 : ∀ x, (fW x).cell? ⟨Rb, 2, none⟩ = some (.int .i64 50) := fun x => ((hcb x).cell (block_lt_of_cell ck2)).trans ck2
                  have fz0 : ∀ x, (fW x).cell? ⟨Pq, 0, none⟩ = some (.int .i64 5) := fun x => ((hcb x).cell (block_lt_of_cell z0)).trans z0
                  have fz1 : ∀ x, (fW x).cell? ⟨Pq, 1, none⟩ = some (.int .i64 n) := fun x => ((hcb x).cell (block_lt_of_cell z1)).trans z1
                  have fz2 : ∀ x, (fW x).cell? ⟨Pq, 2, none⟩ = some (.int .i64 50) := fun x => ((hcb x).cell (block_lt_of_cell z2)).trans z2
                  clear l0 l1 l2 k0 k1 k2 bc kq
                  go_wp2_with fail
                  clear cl0 cl1 cl2 ck0 ck1 ck2 z0 z1 z2
                  obtain ⟨x0, hx0⟩ := hcl wc (Below.refl _ _)
                  rw [hx0]
                  clear hx0 hcb hcl
                  refine wp_region_bel (fun w' h => (unhide HCL) w' ((unhide HCB _).trans (h.mono (unhide HCB _).size))) (by kernel_rfl) (by kernel_rfl) ?_
                  (repeat (go_big_quiet_step (fail)))
                  refine wpQuiet_nil ?_
                  rintro _ ⟨y, rfl⟩
                  go_wp2_with fail
                  go_ret
                  exact ⟨rfl, (unhide HB).trans (((unhide BC).trans ((unhide HCB y).mono (unhide BC).size)).mono (unhide HB).size)⟩
theorem lawFnTwice (a : Option Addr) (len cap : Nat) (w : World) (hb : Bytes w a len) (hin : ∀ b off, a = some ⟨b, off, none⟩ → b < w.heap.size) :
    Calls Try.prog 4 #[.slice a len cap] w fun e w' => e = .returned (.bool true) ∧ Below w.heap.size w w' := by
  by_cases h : (1048576 : Int) < len
  · exact lawFnTwice_big a len cap w h
  · exact lawFnTwice_small a len cap w h hb hin

end Go.Proofs.Yticdccdkjepifaa

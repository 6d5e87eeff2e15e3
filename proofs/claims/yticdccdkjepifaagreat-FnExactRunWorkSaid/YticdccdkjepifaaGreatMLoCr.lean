/-
  What the program's listOk answers of Carrys: the plain answer, whatever 'is so' answers; nothing that was there is written.
  What the program's CarryOk answers: the plain answer, at every list; nothing that was there is written.
  What the program's listOk answers of Tasks: the plain answer, whatever 'is so' answers; nothing that was there is written.
  What the program's listOk answers of Defects: the plain answer, whatever 'is so' answers; nothing that was there is written.
-/
import Derived.Test.YticdccdkjepifaaGreatMWrOrd
import Derived.Test.YticdccdkjepifaaGreatMAscS
import Derived.Test.YticdccdkjepifaaGreatMMarkI
import Derived.Test.YticdccdkjepifaaGreatMBlk
import Derived.Test.YticdccdkjepifaaGreatMStrRow
import Derived.Test.YticdccdkjepifaaGreatMTaAlert

namespace Go.Proofs.YticdccdkjepifaaGreat
open Go Go.RowKit

/-- Keys in the making. -/
structure KyCr (w wr : World) (v : Value) (ts : List ByteArray) : Prop where
  own : OwnE 1 stC wr w.heap.size 9 (v) (ts)
  bel : Below w.heap.size w wr
theorem KyCr.app {w wr w9 : World} {v v9 : Value} {ts ts9 : List ByteArray} (h : KyCr w wr v ts) (o9 : OwnE 1 stC w9 w.heap.size 9 (v9) (ts9)) (gr : wr.grownBy w9 v.ownBlock) : KyCr w w9 v9 ts9 :=
  ⟨o9, h.bel.grown gr h.bel.size (fun q hq => (h.own.lies q hq).1)⟩
theorem KyCr.below {w wr w9 : World} {v : Value} {ts : List ByteArray} (h : KyCr w wr v ts) (k : Below wr.heap.size wr w9) : KyCr w w9 v ts :=
  ⟨h.own.below k, h.bel.trans (k.mono h.bel.size)⟩
theorem infoKyCr : (Tryz.prog.info? 9).map (fun i => (i.zero, i.size, i.bytes)) = some (some (.string ⟨#[]⟩), 1, 16) := by kernel_rfl
set_option maxHeartbeats 400000 in
theorem keyCr_any (x : Cr) (w : World) :
    Calls Tryz.prog 104 #[.agg #[.string x.n, .int .i64 x.m, .int .i64 x.d]] w fun e w' => e = .returned (.string x.n) ∧ Below w.heap.size w w' := by
  go_enter Tryz.func104, Tryz.ntmps104
  go_wp2
  go_ret
  exact ⟨rfl, bel1 _⟩
set_option maxRecDepth 20000 in
set_option maxHeartbeats 2000000 in
theorem listOkCr_any (P : Cr → Bool) (most : Nat) (ad : Option Addr) (len cap : Nat) (ps : List Cr) (w : World) (hm : most ≤ 100) (hr : RowE 3 crC w ad len ps) (hfit : ∀ i, fitT (elAt ps i).n)
    (hso : ∀ (x : Cr) (V : World), fitT x.n → Below w.heap.size w V → Calls Tryz.prog 103 #[.agg #[.string x.n, .int .i64 x.m, .int .i64 x.d]] V fun e w' => e = .returned (.bool (P x)) ∧ Below V.heap.size V w') :
    Calls Tryz.prog 102 #[.slice ad len cap, .int .i64 (most : Int), .func (.func 103) #[] #[], .func (.func 104) #[] #[]] w fun e w' => e = .returned (.bool (listS most P (·.n) ps)) ∧ Below w.heap.size w w' := by
  have hz := hr.len_eq
  have hsm := hr.small
  have HR := hide hr
  have HFIT := hide hfit
  have HSO := hide hso
  clear hr hfit hso
  subst hz
  by_cases hlong : ps.length ≤ most
  case neg =>
    have HE := hide (listS_long (P := P) (key := (·.n)) hlong)
    have h1 : (most : Int) < (ps.length : Int) := by omega
    rw [unhide HE]
    go_enter Tryz.func102, Tryz.ntmps102
    go_wp2_with fail
    go_ret
    exact ⟨rfl, Below.refl _ _⟩
  have h1 : ¬ (most : Int) < (ps.length : Int) := by omega
  have HLM := hide hlong
  have hle : ps.length ≤ 100 := by omega
  clear hlong hm
  have S0 : Hid (KyCr w (w.alloc (Obj.cells #[] 9)) (.slice (some ⟨w.heap.size, 0, none⟩) 0 0) ((ps.take 0).map (·.n))) := hide ⟨ownE_none (K := 1) (cells := stC) (w := w) (w1 := w) (T := 9) (Nat.le_refl _), bel1 _⟩
  go_enter Tryz.func102, Tryz.ntmps102
  go_wp2_with fail
  go_loopw [9, 19] (fun v i wr => ∃ k g c : Nat, v = .slice (some ⟨g, 0, none⟩) k c ∧ i = .int .i64 k ∧ k ≤ ps.length ∧ Hid (KyCr w wr (.slice (some ⟨g, 0, none⟩) k c) ((ps.take k).map (·.n))) ∧ Hid (∀ j, j < k → P (elAt ps j) = true)) (fun _ i _ => ps.length - (intOf i).toNat)
  case atStart => exact ⟨0, _, 0, rfl, rfl, Nat.zero_le _, S0, hide (fun j hj => by omega)⟩
  case round =>
    clear S0
    obtain ⟨k, g, c, rfl, rfl, hk, SS, AL⟩ := hrel
    by_cases hlt : k < ps.length
    · obtain ⟨bb, off, rfl, hc⟩ := (unhide HR).at_ k hlt
      have s0 : w.cell? ⟨bb, off + k * 3, none⟩ = some (.string (elAt ps k).n) := hc 0 (by omega)
      have s0 := ((unhide SS).bel.cell (block_lt_of_cell s0)).trans s0
      have s1 : w.cell? ⟨bb, off + k * 3 + 1, none⟩ = some (.int .i64 (elAt ps k).m) := hc 1 (by omega)
      have s1 := ((unhide SS).bel.cell (block_lt_of_cell s1)).trans s1
      have s2 : w.cell? ⟨bb, off + k * 3 + 2, none⟩ = some (.int .i64 (elAt ps k).d) := hc 2 (by omega)
      have s2 := ((unhide SS).bel.cell (block_lt_of_cell s2)).trans s2
      have hi1 : (k : Int) < (ps.length : Int) := by omega
      have hi0 : (0 : Int) ≤ (k : Int) := by omega
      have HL : Hid (((ps.take k).map (·.n)).length = k) := hide (by rw [List.length_map, List.length_take]; omega)
      have HNX := hide (map_take (f := (·.n)) hlt)
      have HFX := hide (unhide HFIT k)
      obtain ⟨x, hx⟩ : ∃ x, elAt ps k = x := ⟨_, rfl⟩
      rw [hx] at s0 s1 s2 HNX HFX
      have HX := hide hx
      have CF := hide (unhide HSO x (wr.alloc (Obj.cells #[.string x.n, .int .i64 x.m, .int .i64 x.d] 92)) (unhide HFX) ((unhide SS).bel.trans ((bel1 _).mono (unhide SS).bel.size)))
      have SV := hide ((unhide SS).below (bel1 (Obj.cells #[.string x.n, .int .i64 x.m, .int .i64 x.d] 92)))
      have KV : Hid (Blk (wr.alloc (Obj.cells #[.string x.n, .int .i64 x.m, .int .i64 x.d] 92)) wr.heap.size [.string x.n, .int .i64 x.m, .int .i64 x.d]) := hide (Blk.new _ _)
      clear hc hx SS
      cases q1 : P x with
      | false =>
        have HE := hide (listS_el (most := most) (key := (·.n)) hlt (show P (elAt ps k) = false by rw [unhide HX]; exact q1))
        rw [q1] at CF
        clear q1 AL
        go_wp2_with (go_at_call 103; refine (unhide CF).mono ?_; rintro e w2 ⟨rfl, b2⟩; have S2 := hide ((unhide SV).below b2); clear b2)
        go_ret
        exact ⟨ret_bool (unhide HE).symm, (unhide S2).bel⟩
      | true =>
        have NA : Hid (∀ j, j < k + 1 → P (elAt ps j) = true) := hide (fun j hj => by
          by_cases e3 : j = k
          · rw [e3, unhide HX]; exact q1
          · exact (unhide AL) j (by omega))
        rw [q1] at CF
        clear q1 AL
        go_wp2_with (first
          | (go_at_call 103; refine (unhide CF).mono ?_; rintro e w2 ⟨rfl, b2⟩; have S2 := hide ((unhide SV).below b2); have K2 := hide ((unhide KV).below b2); have m0 : w2.cell? ⟨wr.heap.size, 0, none⟩ = some (.string x.n) := (unhide K2).c 0 (by simp); have m1 : w2.cell? ⟨wr.heap.size, 1, none⟩ = some (.int .i64 x.m) := (unhide K2).c 1 (by simp); have m2 : w2.cell? ⟨wr.heap.size, 2, none⟩ = some (.int .i64 x.d) := (unhide K2).c 2 (by simp); clear b2 SV CF KV)
          | (go_at_call 104; refine (keyCr_any x _).mono ?_; rintro e w3 ⟨rfl, b3⟩; have S3 := hide ((unhide S2).below b3); clear b3 S2)
          | (at_builtin; refine wpList_app_elG (K := 1) (cells := stC) rfl _ _ 150 9 rfl Tryz.underlying150 infoKyCr rfl (by decide) (by decide) x.n [.string x.n] rfl (fun q hq => by match q, hq with | 0, _ => rfl) (fun u hu => by simp at hu; rcases hu with rfl; rfl) (unhide S3).own (unhide HL) rfl (by simp) rfl (unhide S3).bel.size (by omega) ?_; intro g9 c9 w9 o9 gr9 _))
        have NX : Hid (KyCr w w9 (.slice (some ⟨g9, 0, none⟩) (k + 1) c9) ((ps.take (k + 1)).map (·.n))) := hide (by rw [unhide HNX]; exact (unhide S3).app o9 gr9)
        clear o9 gr9 S3
        go_roundw
        case rel => exact ⟨k + 1, g9, c9, rfl, by go_num, by omega, NX, NA⟩
        case measure => simp [intOf]; omega
    · have hi1 : ¬ (k : Int) < (ps.length : Int) := by omega
      have hkz : k = ps.length := by omega
      have HE : Hid (listS most P (·.n) ps = _) := hide (listS_all (unhide HLM) (fun i hi => unhide AL i (by omega)))
      have SF : Hid (KyCr w wr (.slice (some ⟨g, 0, none⟩) k c) (ps.map (·.n))) := hide (by have := unhide SS; rwa [hkz, List.take_length, ← hkz] at this)
      clear SS hkz AL
      go_wp2_with (go_at_call 105; refine (ascS_any _ _ _ (ps.map (·.n)) wr (unhide SF).own.row).mono ?_; rintro e w2 ⟨rfl, n2, hw2⟩; have B2 : Hid (Below w.heap.size w w2) := hide (by rw [hw2]; exact (unhide SF).bel.trans ((bel0d n2).mono (unhide SF).bel.size)); clear hw2)
      go_ret
      exact ⟨ret_bool (unhide HE).symm, unhide B2⟩

end Go.Proofs.YticdccdkjepifaaGreat

namespace Go.Proofs.YticdccdkjepifaaGreat
open Go Go.RowKit

set_option maxRecDepth 20000 in
set_option maxHeartbeats 1000000 in
theorem crSo_any (x : Cr) (w : World) (hs : fitT x.n) :
    Calls Tryz.prog 103 #[.agg #[.string x.n, .int .i64 x.m, .int .i64 x.d]] w fun e w' => e = .returned (.bool (crB x)) ∧ Below w.heap.size w w' := by
  rcases three (nameB x.n) (inB x.m 0 10) (inB x.d 0 120) with ⟨q1, hv⟩ | ⟨q1, q2, hv⟩ | ⟨q1, q2, q3, hv⟩ | ⟨q1, q2, q3, hv⟩
  all_goals
    have HE := hide (show crB x = _ from hv)
    rw [unhide HE]
    clear hv
    have CN : Hid (∀ W, Calls Tryz.prog 109 #[.string x.n] W fun e w' => e = .returned (.bool _) ∧ w' = W) := hide (fun W => by have := nameOk_any x.n W hs; rw [q1] at this; exact this)
    go_enter Tryz.func103, Tryz.ntmps103
    go_wp2_with (first | (go_at_call 109; refine (unhide CN _).mono ?_; rintro e w' ⟨rfl, hw⟩; subst w') | (go_at_call 60; refine (within_is _ _ _ _ (by first | exact q2 | exact q3)).mono ?_; rintro e w' ⟨rfl, hw⟩; subst w'))
    go_ret
    exact ⟨rfl, bel1 _⟩
set_option maxHeartbeats 1000000 in
theorem implCarryOk_any (a1 : Option Addr) (l1 c1 : Nat) (cs : List Cr) (w : World) (hr : RowE 3 crC w a1 l1 cs) (hf : ∀ i, fitT (elAt cs i).n) :
    Calls Tryz.prog 75 #[.slice a1 l1 c1] w fun e w' => e = .returned (.bool (caB cs)) ∧ Below w.heap.size w w' := by
  have CL := hide (listOkCr_any crB 20 a1 l1 c1 cs w (by omega) hr hf (fun x V hx _ => crSo_any x V hx))
  go_enter Tryz.func75, Tryz.ntmps75
  go_wp2_with (go_at_call 102; refine (unhide CL).mono ?_; rintro e w2 ⟨rfl, b2⟩; have B2 := hide b2; clear b2)
  go_ret
  exact ⟨rfl, unhide B2⟩

end Go.Proofs.YticdccdkjepifaaGreat

namespace Go.Proofs.YticdccdkjepifaaGreat
open Go Go.RowKit

/-- Keys in the making. -/
structure KyTs (w wr : World) (v : Value) (ts : List ByteArray) : Prop where
  own : OwnE 1 stC wr w.heap.size 9 (v) (ts)
  bel : Below w.heap.size w wr
theorem KyTs.app {w wr w9 : World} {v v9 : Value} {ts ts9 : List ByteArray} (h : KyTs w wr v ts) (o9 : OwnE 1 stC w9 w.heap.size 9 (v9) (ts9)) (gr : wr.grownBy w9 v.ownBlock) : KyTs w w9 v9 ts9 :=
  ⟨o9, h.bel.grown gr h.bel.size (fun q hq => (h.own.lies q hq).1)⟩
theorem KyTs.below {w wr w9 : World} {v : Value} {ts : List ByteArray} (h : KyTs w wr v ts) (k : Below wr.heap.size wr w9) : KyTs w w9 v ts :=
  ⟨h.own.below k, h.bel.trans (k.mono h.bel.size)⟩
theorem infoKyTs : (Tryz.prog.info? 9).map (fun i => (i.zero, i.size, i.bytes)) = some (some (.string ⟨#[]⟩), 1, 16) := by kernel_rfl
set_option maxHeartbeats 400000 in
theorem keyTs_any (x : Ts) (w : World) :
    Calls Tryz.prog 78 #[.agg #[.string x.nm, .int .i64 x.h, .int .i64 x.c, .int .i64 x.d, .int .i64 x.dh, .int .i64 x.dc, .int .i64 x.dd]] w fun e w' => e = .returned (.string x.nm) ∧ Below w.heap.size w w' := by
  go_enter Tryz.func78, Tryz.ntmps78
  go_wp2
  go_ret
  exact ⟨rfl, bel1 _⟩
set_option maxRecDepth 20000 in
set_option maxHeartbeats 2000000 in
theorem listOkTs_any (P : Ts → Bool) (v : Value) (most : Nat) (ad : Option Addr) (len cap : Nat) (ps : List Ts) (w : World) (hm : most ≤ 100) (hr : RowE 7 tsC w ad len ps) (hfit : ∀ i, fitT (elAt ps i).nm)
    (hso : ∀ (x : Ts) (V : World), fitT x.nm → Below w.heap.size w V → Calls Tryz.prog 77 #[v, .agg #[.string x.nm, .int .i64 x.h, .int .i64 x.c, .int .i64 x.d, .int .i64 x.dh, .int .i64 x.dc, .int .i64 x.dd]] V fun e w' => e = .returned (.bool (P x)) ∧ Below V.heap.size V w') :
    Calls Tryz.prog 76 #[.slice ad len cap, .int .i64 (most : Int), .func (.func 77) #[v] #[], .func (.func 78) #[] #[]] w fun e w' => e = .returned (.bool (listS most P (·.nm) ps)) ∧ Below w.heap.size w w' := by
  have hz := hr.len_eq
  have hsm := hr.small
  have HR := hide hr
  have HFIT := hide hfit
  have HSO := hide hso
  clear hr hfit hso
  subst hz
  by_cases hlong : ps.length ≤ most
  case neg =>
    have HE := hide (listS_long (P := P) (key := (·.nm)) hlong)
    have h1 : (most : Int) < (ps.length : Int) := by omega
    rw [unhide HE]
    go_enter Tryz.func76, Tryz.ntmps76
    go_wp2_with fail
    go_ret
    exact ⟨rfl, Below.refl _ _⟩
  have h1 : ¬ (most : Int) < (ps.length : Int) := by omega
  have HLM := hide hlong
  have hle : ps.length ≤ 100 := by omega
  clear hlong hm
  have S0 : Hid (KyTs w (w.alloc (Obj.cells #[] 9)) (.slice (some ⟨w.heap.size, 0, none⟩) 0 0) ((ps.take 0).map (·.nm))) := hide ⟨ownE_none (K := 1) (cells := stC) (w := w) (w1 := w) (T := 9) (Nat.le_refl _), bel1 _⟩
  go_enter Tryz.func76, Tryz.ntmps76
  go_wp2_with fail
  go_loopw [9, 19] (fun v i wr => ∃ k g c : Nat, v = .slice (some ⟨g, 0, none⟩) k c ∧ i = .int .i64 k ∧ k ≤ ps.length ∧ Hid (KyTs w wr (.slice (some ⟨g, 0, none⟩) k c) ((ps.take k).map (·.nm))) ∧ Hid (∀ j, j < k → P (elAt ps j) = true)) (fun _ i _ => ps.length - (intOf i).toNat)
  case atStart => exact ⟨0, _, 0, rfl, rfl, Nat.zero_le _, S0, hide (fun j hj => by omega)⟩
  case round =>
    clear S0
    obtain ⟨k, g, c, rfl, rfl, hk, SS, AL⟩ := hrel
    by_cases hlt : k < ps.length
    · obtain ⟨bb, off, rfl, hc⟩ := (unhide HR).at_ k hlt
      have s0 : w.cell? ⟨bb, off + k * 7, none⟩ = some (.string (elAt ps k).nm) := hc 0 (by omega)
      have s0 := ((unhide SS).bel.cell (block_lt_of_cell s0)).trans s0
      have s1 : w.cell? ⟨bb, off + k * 7 + 1, none⟩ = some (.int .i64 (elAt ps k).h) := hc 1 (by omega)
      have s1 := ((unhide SS).bel.cell (block_lt_of_cell s1)).trans s1
      have s2 : w.cell? ⟨bb, off + k * 7 + 2, none⟩ = some (.int .i64 (elAt ps k).c) := hc 2 (by omega)
      have s2 := ((unhide SS).bel.cell (block_lt_of_cell s2)).trans s2
      have s3 : w.cell? ⟨bb, off + k * 7 + 3, none⟩ = some (.int .i64 (elAt ps k).d) := hc 3 (by omega)
      have s3 := ((unhide SS).bel.cell (block_lt_of_cell s3)).trans s3
      have s4 : w.cell? ⟨bb, off + k * 7 + 4, none⟩ = some (.int .i64 (elAt ps k).dh) := hc 4 (by omega)
      have s4 := ((unhide SS).bel.cell (block_lt_of_cell s4)).trans s4
      have s5 : w.cell? ⟨bb, off + k * 7 + 5, none⟩ = some (.int .i64 (elAt ps k).dc) := hc 5 (by omega)
      have s5 := ((unhide SS).bel.cell (block_lt_of_cell s5)).trans s5
      have s6 : w.cell? ⟨bb, off + k * 7 + 6, none⟩ = some (.int .i64 (elAt ps k).dd) := hc 6 (by omega)
      have s6 := ((unhide SS).bel.cell (block_lt_of_cell s6)).trans s6
      have hi1 : (k : Int) < (ps.length : Int) := by omega
      have hi0 : (0 : Int) ≤ (k : Int) := by omega
      have HL : Hid (((ps.take k).map (·.nm)).length = k) := hide (by rw [List.length_map, List.length_take]; omega)
      have HNX := hide (map_take (f := (·.nm)) hlt)
      have HFX := hide (unhide HFIT k)
      obtain ⟨x, hx⟩ : ∃ x, elAt ps k = x := ⟨_, rfl⟩
      rw [hx] at s0 s1 s2 s3 s4 s5 s6 HNX HFX
      have HX := hide hx
      have CF := hide (unhide HSO x (wr.alloc (Obj.cells #[.string x.nm, .int .i64 x.h, .int .i64 x.c, .int .i64 x.d, .int .i64 x.dh, .int .i64 x.dc, .int .i64 x.dd] 90)) (unhide HFX) ((unhide SS).bel.trans ((bel1 _).mono (unhide SS).bel.size)))
      have SV := hide ((unhide SS).below (bel1 (Obj.cells #[.string x.nm, .int .i64 x.h, .int .i64 x.c, .int .i64 x.d, .int .i64 x.dh, .int .i64 x.dc, .int .i64 x.dd] 90)))
      have KV : Hid (Blk (wr.alloc (Obj.cells #[.string x.nm, .int .i64 x.h, .int .i64 x.c, .int .i64 x.d, .int .i64 x.dh, .int .i64 x.dc, .int .i64 x.dd] 90)) wr.heap.size [.string x.nm, .int .i64 x.h, .int .i64 x.c, .int .i64 x.d, .int .i64 x.dh, .int .i64 x.dc, .int .i64 x.dd]) := hide (Blk.new _ _)
      clear hc hx SS
      cases q1 : P x with
      | false =>
        have HE := hide (listS_el (most := most) (key := (·.nm)) hlt (show P (elAt ps k) = false by rw [unhide HX]; exact q1))
        rw [q1] at CF
        clear q1 AL
        go_wp2_with (go_at_call 77; refine (unhide CF).mono ?_; rintro e w2 ⟨rfl, b2⟩; have S2 := hide ((unhide SV).below b2); clear b2)
        go_ret
        exact ⟨ret_bool (unhide HE).symm, (unhide S2).bel⟩
      | true =>
        have NA : Hid (∀ j, j < k + 1 → P (elAt ps j) = true) := hide (fun j hj => by
          by_cases e3 : j = k
          · rw [e3, unhide HX]; exact q1
          · exact (unhide AL) j (by omega))
        rw [q1] at CF
        clear q1 AL
        go_wp2_with (first
          | (go_at_call 77; refine (unhide CF).mono ?_; rintro e w2 ⟨rfl, b2⟩; have S2 := hide ((unhide SV).below b2); have K2 := hide ((unhide KV).below b2); have m0 : w2.cell? ⟨wr.heap.size, 0, none⟩ = some (.string x.nm) := (unhide K2).c 0 (by simp); have m1 : w2.cell? ⟨wr.heap.size, 1, none⟩ = some (.int .i64 x.h) := (unhide K2).c 1 (by simp); have m2 : w2.cell? ⟨wr.heap.size, 2, none⟩ = some (.int .i64 x.c) := (unhide K2).c 2 (by simp); have m3 : w2.cell? ⟨wr.heap.size, 3, none⟩ = some (.int .i64 x.d) := (unhide K2).c 3 (by simp); have m4 : w2.cell? ⟨wr.heap.size, 4, none⟩ = some (.int .i64 x.dh) := (unhide K2).c 4 (by simp); have m5 : w2.cell? ⟨wr.heap.size, 5, none⟩ = some (.int .i64 x.dc) := (unhide K2).c 5 (by simp); have m6 : w2.cell? ⟨wr.heap.size, 6, none⟩ = some (.int .i64 x.dd) := (unhide K2).c 6 (by simp); clear b2 SV CF KV)
          | (go_at_call 78; refine (keyTs_any x _).mono ?_; rintro e w3 ⟨rfl, b3⟩; have S3 := hide ((unhide S2).below b3); clear b3 S2)
          | (at_builtin; refine wpList_app_elG (K := 1) (cells := stC) rfl _ _ 150 9 rfl Tryz.underlying150 infoKyTs rfl (by decide) (by decide) x.nm [.string x.nm] rfl (fun q hq => by match q, hq with | 0, _ => rfl) (fun u hu => by simp at hu; rcases hu with rfl; rfl) (unhide S3).own (unhide HL) rfl (by simp) rfl (unhide S3).bel.size (by omega) ?_; intro g9 c9 w9 o9 gr9 _))
        have NX : Hid (KyTs w w9 (.slice (some ⟨g9, 0, none⟩) (k + 1) c9) ((ps.take (k + 1)).map (·.nm))) := hide (by rw [unhide HNX]; exact (unhide S3).app o9 gr9)
        clear o9 gr9 S3
        go_roundw
        case rel => exact ⟨k + 1, g9, c9, rfl, by go_num, by omega, NX, NA⟩
        case measure => simp [intOf]; omega
    · have hi1 : ¬ (k : Int) < (ps.length : Int) := by omega
      have hkz : k = ps.length := by omega
      have HE : Hid (listS most P (·.nm) ps = _) := hide (listS_all (unhide HLM) (fun i hi => unhide AL i (by omega)))
      have SF : Hid (KyTs w wr (.slice (some ⟨g, 0, none⟩) k c) (ps.map (·.nm))) := hide (by have := unhide SS; rwa [hkz, List.take_length, ← hkz] at this)
      clear SS hkz AL
      go_wp2_with (go_at_call 105; refine (ascS_any _ _ _ (ps.map (·.nm)) wr (unhide SF).own.row).mono ?_; rintro e w2 ⟨rfl, n2, hw2⟩; have B2 : Hid (Below w.heap.size w w2) := hide (by rw [hw2]; exact (unhide SF).bel.trans ((bel0d n2).mono (unhide SF).bel.size)); clear hw2)
      go_ret
      exact ⟨ret_bool (unhide HE).symm, unhide B2⟩

end Go.Proofs.YticdccdkjepifaaGreat

namespace Go.Proofs.YticdccdkjepifaaGreat
open Go Go.RowKit

/-- Keys in the making. -/
structure KyDf (w wr : World) (v : Value) (ts : List Int) : Prop where
  own : OwnI wr w.heap.size (v) (ts)
  bel : Below w.heap.size w wr
theorem KyDf.app {w wr w9 : World} {v v9 : Value} {ts ts9 : List Int} (h : KyDf w wr v ts) (o9 : OwnI w9 w.heap.size (v9) (ts9)) (gr : wr.grownBy w9 v.ownBlock) : KyDf w w9 v9 ts9 :=
  ⟨o9, h.bel.grown gr h.bel.size (fun q hq => (h.own.lies q hq).1)⟩
theorem KyDf.below {w wr w9 : World} {v : Value} {ts : List Int} (h : KyDf w wr v ts) (k : Below wr.heap.size wr w9) : KyDf w w9 v ts :=
  ⟨h.own.below k, h.bel.trans (k.mono h.bel.size)⟩
set_option maxHeartbeats 400000 in
theorem keyDf_any (x : Df) (w : World) :
    Calls Tryz.prog 81 #[.agg #[.string x.n, .int .i64 x.i, .int .i64 x.s]] w fun e w' => e = .returned (.int .i64 x.i) ∧ Below w.heap.size w w' := by
  go_enter Tryz.func81, Tryz.ntmps81
  go_wp2
  go_ret
  exact ⟨rfl, bel1 _⟩
set_option maxRecDepth 20000 in
set_option maxHeartbeats 2000000 in
theorem listOkDf_any (P : Df → Bool) (v : Value) (most : Nat) (ad : Option Addr) (len cap : Nat) (ps : List Df) (w : World) (hm : most ≤ 100) (hr : RowE 3 dfC w ad len ps) (hfit : ∀ i, fitT (elAt ps i).n)
    (hso : ∀ (x : Df) (V : World), fitT x.n → Below w.heap.size w V → Calls Tryz.prog 80 #[v, .agg #[.string x.n, .int .i64 x.i, .int .i64 x.s]] V fun e w' => e = .returned (.bool (P x)) ∧ Below V.heap.size V w') (hb : ∀ x, P x = true → -9223372036854775808 ≤ x.i ∧ x.i ≤ 9223372036854775807) :
    Calls Tryz.prog 79 #[.slice ad len cap, .int .i64 (most : Int), .func (.func 80) #[v] #[], .func (.func 81) #[] #[]] w fun e w' => e = .returned (.bool (listI most P (·.i) ps)) ∧ Below w.heap.size w w' := by
  have hz := hr.len_eq
  have hsm := hr.small
  have HR := hide hr
  have HFIT := hide hfit
  have HSO := hide hso
  have HBD := hide hb
  clear hb
  clear hr hfit hso
  subst hz
  by_cases hlong : ps.length ≤ most
  case neg =>
    have HE := hide (listI_long (P := P) (key := (·.i)) hlong)
    have h1 : (most : Int) < (ps.length : Int) := by omega
    rw [unhide HE]
    go_enter Tryz.func79, Tryz.ntmps79
    go_wp2_with fail
    go_ret
    exact ⟨rfl, Below.refl _ _⟩
  have h1 : ¬ (most : Int) < (ps.length : Int) := by omega
  have HLM := hide hlong
  have hle : ps.length ≤ 100 := by omega
  clear hlong hm
  have S0 : Hid (KyDf w (w.alloc (Obj.cells #[] 3)) (.slice (some ⟨w.heap.size, 0, none⟩) 0 0) ((ps.take 0).map (·.i))) := hide ⟨ownI_none (w := w) (w1 := w) (Nat.le_refl _), bel1 _⟩
  go_enter Tryz.func79, Tryz.ntmps79
  go_wp2_with fail
  go_loopw [9, 19] (fun v i wr => ∃ k g c : Nat, v = .slice (some ⟨g, 0, none⟩) k c ∧ i = .int .i64 k ∧ k ≤ ps.length ∧ Hid (KyDf w wr (.slice (some ⟨g, 0, none⟩) k c) ((ps.take k).map (·.i))) ∧ Hid (∀ j, j < k → P (elAt ps j) = true)) (fun _ i _ => ps.length - (intOf i).toNat)
  case atStart => exact ⟨0, _, 0, rfl, rfl, Nat.zero_le _, S0, hide (fun j hj => by omega)⟩
  case round =>
    clear S0
    obtain ⟨k, g, c, rfl, rfl, hk, SS, AL⟩ := hrel
    by_cases hlt : k < ps.length
    · obtain ⟨bb, off, rfl, hc⟩ := (unhide HR).at_ k hlt
      have s0 : w.cell? ⟨bb, off + k * 3, none⟩ = some (.string (elAt ps k).n) := hc 0 (by omega)
      have s0 := ((unhide SS).bel.cell (block_lt_of_cell s0)).trans s0
      have s1 : w.cell? ⟨bb, off + k * 3 + 1, none⟩ = some (.int .i64 (elAt ps k).i) := hc 1 (by omega)
      have s1 := ((unhide SS).bel.cell (block_lt_of_cell s1)).trans s1
      have s2 : w.cell? ⟨bb, off + k * 3 + 2, none⟩ = some (.int .i64 (elAt ps k).s) := hc 2 (by omega)
      have s2 := ((unhide SS).bel.cell (block_lt_of_cell s2)).trans s2
      have hi1 : (k : Int) < (ps.length : Int) := by omega
      have hi0 : (0 : Int) ≤ (k : Int) := by omega
      have HL : Hid (((ps.take k).map (·.i)).length = k) := hide (by rw [List.length_map, List.length_take]; omega)
      have HNX := hide (map_take (f := (·.i)) hlt)
      have HFX := hide (unhide HFIT k)
      obtain ⟨x, hx⟩ : ∃ x, elAt ps k = x := ⟨_, rfl⟩
      rw [hx] at s0 s1 s2 HNX HFX
      have HX := hide hx
      have CF := hide (unhide HSO x (wr.alloc (Obj.cells #[.string x.n, .int .i64 x.i, .int .i64 x.s] 94)) (unhide HFX) ((unhide SS).bel.trans ((bel1 _).mono (unhide SS).bel.size)))
      have SV := hide ((unhide SS).below (bel1 (Obj.cells #[.string x.n, .int .i64 x.i, .int .i64 x.s] 94)))
      have KV : Hid (Blk (wr.alloc (Obj.cells #[.string x.n, .int .i64 x.i, .int .i64 x.s] 94)) wr.heap.size [.string x.n, .int .i64 x.i, .int .i64 x.s]) := hide (Blk.new _ _)
      clear hc hx SS
      cases q1 : P x with
      | false =>
        have HE := hide (listI_el (most := most) (key := (·.i)) hlt (show P (elAt ps k) = false by rw [unhide HX]; exact q1))
        rw [q1] at CF
        clear q1 AL
        go_wp2_with (go_at_call 80; refine (unhide CF).mono ?_; rintro e w2 ⟨rfl, b2⟩; have S2 := hide ((unhide SV).below b2); clear b2)
        go_ret
        exact ⟨ret_bool (unhide HE).symm, (unhide S2).bel⟩
      | true =>
        have NA : Hid (∀ j, j < k + 1 → P (elAt ps j) = true) := hide (fun j hj => by
          by_cases e3 : j = k
          · rw [e3, unhide HX]; exact q1
          · exact (unhide AL) j (by omega))
        rw [q1] at CF
        have hbx := unhide HBD x q1
        clear q1 AL
        go_wp2_with (first
          | (go_at_call 80; refine (unhide CF).mono ?_; rintro e w2 ⟨rfl, b2⟩; have S2 := hide ((unhide SV).below b2); have K2 := hide ((unhide KV).below b2); have m0 : w2.cell? ⟨wr.heap.size, 0, none⟩ = some (.string x.n) := (unhide K2).c 0 (by simp); have m1 : w2.cell? ⟨wr.heap.size, 1, none⟩ = some (.int .i64 x.i) := (unhide K2).c 1 (by simp); have m2 : w2.cell? ⟨wr.heap.size, 2, none⟩ = some (.int .i64 x.s) := (unhide K2).c 2 (by simp); clear b2 SV CF KV)
          | (go_at_call 81; refine (keyDf_any x _).mono ?_; rintro e w3 ⟨rfl, b3⟩; have S3 := hide ((unhide S2).below b3); clear b3 S2)
          | (at_builtin; refine wpList_app_int rfl _ _ rfl (n := k) x.i (unhide S3).own (unhide HL) rfl (by simp) rfl (unhide S3).bel.size (by omega) (by omega) ?_; intro g9 c9 w9 o9 gr9))
        have NX : Hid (KyDf w w9 (.slice (some ⟨g9, 0, none⟩) (k + 1) c9) ((ps.take (k + 1)).map (·.i))) := hide (by rw [unhide HNX]; exact (unhide S3).app o9 gr9)
        clear o9 gr9 S3
        go_roundw
        case rel => exact ⟨k + 1, g9, c9, rfl, by go_num, by omega, NX, NA⟩
        case measure => simp [intOf]; omega
    · have hi1 : ¬ (k : Int) < (ps.length : Int) := by omega
      have hkz : k = ps.length := by omega
      have HE : Hid (listI most P (·.i) ps = _) := hide (listI_all (unhide HLM) (fun i hi => unhide AL i (by omega)))
      have SF : Hid (KyDf w wr (.slice (some ⟨g, 0, none⟩) k c) (ps.map (·.i))) := hide (by have := unhide SS; rwa [hkz, List.take_length, ← hkz] at this)
      clear SS hkz AL
      go_wp2_with (go_at_call 108; refine (ascending_any _ _ _ (ps.map (·.i)) wr (unhide SF).own.row).mono ?_; rintro e w2 ⟨rfl, n2, hw2⟩; have B2 : Hid (Below w.heap.size w w2) := hide (by rw [hw2]; exact (unhide SF).bel.trans ((bel0d n2).mono (unhide SF).bel.size)); clear hw2)
      go_ret
      exact ⟨ret_bool (unhide HE).symm, unhide B2⟩

end Go.Proofs.YticdccdkjepifaaGreat

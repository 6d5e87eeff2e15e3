/-
  What the program's Pack20 answers: a record's bytes and true, or nothing and false: where there is no room, packing panics and is recovered. At every list of rows; the answer owns its memory, nothing that was there is written.
-/
import Derived.Test.YtfnnfldfnjnlfahMPkPut
import Derived.Test.YtfnnfldfnjnlfahMAtFix
namespace Go.Proofs.Ytfnnfldfnjnlfah
open Go Go.RowKit

set_option maxRecDepth 20000 in
set_option maxHeartbeats 2000000 in
theorem catch_p (h : Nat) (x y : Value) (w : World) (h0 : Blk w h [x]) (h1 : Blk w (h + 1) [y]) :
    CallsD Try.prog 28 #[.pointer (some ⟨h, 0, none⟩), .pointer (some ⟨h + 1, 0, none⟩)] (.panicking ({ v := noRm, recovered := false } :: [])) w fun e u' w' =>
      e = .returned (.tuple #[]) ∧ u' = .panicking ({ v := noRm, recovered := true } :: []) ∧ w' = (((w.alloc (Obj.cells #[] 65)).alloc (Obj.cells #[] 5)).setCell ⟨h, 0, none⟩ (.slice (some ⟨w.heap.size + 1, 0, none⟩) 0 0)).setCell ⟨h + 1, 0, none⟩ (.bool false) := by
  have c0 : ((w.alloc (Obj.cells #[] 65)).alloc (Obj.cells #[] 5)).cell? ⟨h, 0, none⟩ = some x := ((h0.alloc (Obj.cells #[] 65)).alloc (Obj.cells #[] 5)).c 0 (by simp)
  have f0 : ((w.alloc (Obj.cells #[] 65)).alloc (Obj.cells #[] 5)).frozen? ⟨h, 0, none⟩ = false := ((h0.alloc (Obj.cells #[] 65)).alloc (Obj.cells #[] 5)).f 0 (by simp)
  have k1 := (((h1.alloc (Obj.cells #[] 65)).alloc (Obj.cells #[] 5)).other (p := ⟨h, 0, none⟩) (by simp) (.slice (some ⟨w.heap.size + 1, 0, none⟩) 0 0))
  have c1 : (((w.alloc (Obj.cells #[] 65)).alloc (Obj.cells #[] 5)).setCell ⟨h, 0, none⟩ (.slice (some ⟨w.heap.size + 1, 0, none⟩) 0 0)).cell? ⟨h + 1, 0, none⟩ = some y := k1.c 0 (by simp)
  have f1 : (((w.alloc (Obj.cells #[] 65)).alloc (Obj.cells #[] 5)).setCell ⟨h, 0, none⟩ (.slice (some ⟨w.heap.size + 1, 0, none⟩) 0 0)).frozen? ⟨h + 1, 0, none⟩ = false := k1.f 0 (by simp)
  clear k1 h0 h1
  refine callsD_of_wpS Try.func28 rfl fun c₀ cs hu => ?_
  rw [show #[Value.pointer (some ⟨h, 0, none⟩), Value.pointer (some ⟨h + 1, 0, none⟩)] ++ Array.replicate (Try.f28.ntmps - #[Value.pointer (some ⟨h, 0, none⟩), Value.pointer (some ⟨h + 1, 0, none⟩)].size) undef = #[Value.pointer (some ⟨h, 0, none⟩), Value.pointer (some ⟨h + 1, 0, none⟩), undef, undef, undef, undef, undef, undef, undef, undef, undef] by rw [Try.ntmps28]; rfl]
  apply wpS_seq
  apply wpS_region
  obtain ⟨cs2, hcs2⟩ : ∃ cs2, cs2 = { c₀ with mode := .panicking ({ v := noRm, recovered := true } :: []) } :: cs := ⟨_, rfl⟩
  have hrec : recoverD (c₀ :: cs) = some (noRm, cs2) := by rw [hcs2]; exact recD_yes hu
  change wpOpsS _ _ _ [0, 1, 2, 3, 4, 5, 6, 7] _ _ _
  refine opsS_rec rfl (by kernel_rfl) (w' := w) (by kernel_rfl) hrec ?_
  change wpOpsS _ _ _ [1, 2, 3, 4, 5, 6, 7] ⟨#[Value.pointer (some ⟨h, 0, none⟩), Value.pointer (some ⟨h + 1, 0, none⟩), undef, undef, undef, noRm, undef, undef, undef, undef, undef], []⟩ cs2 (w)
  refine opsS_value rfl (by kernel_rfl) (v := .tuple #[.agg #[], .bool true]) (w' := w) (by kernel_rfl) ?_
  change wpOpsS _ _ _ [2, 3, 4, 5, 6, 7] ⟨#[Value.pointer (some ⟨h, 0, none⟩), Value.pointer (some ⟨h + 1, 0, none⟩), undef, undef, undef, noRm, .tuple #[.agg #[], .bool true], undef, undef, undef, undef], []⟩ cs2 (w)
  refine opsS_value rfl (by kernel_rfl) (v := .tuple #[.agg #[], .bool true]) (w' := w) (by kernel_rfl) ?_
  change wpOpsS _ _ _ [3, 4, 5, 6, 7] ⟨#[Value.pointer (some ⟨h, 0, none⟩), Value.pointer (some ⟨h + 1, 0, none⟩), undef, undef, .tuple #[.agg #[], .bool true], noRm, .tuple #[.agg #[], .bool true], undef, undef, undef, undef], []⟩ cs2 (w)
  refine opsS_value rfl (by kernel_rfl) (v := .agg #[]) (w' := w) (by kernel_rfl) ?_
  change wpOpsS _ _ _ [4, 5, 6, 7] ⟨#[Value.pointer (some ⟨h, 0, none⟩), Value.pointer (some ⟨h + 1, 0, none⟩), undef, undef, .tuple #[.agg #[], .bool true], noRm, .tuple #[.agg #[], .bool true], .agg #[], undef, undef, undef], []⟩ cs2 (w)
  refine opsS_value rfl (by kernel_rfl) (v := .bool true) (w' := w) (by kernel_rfl) ?_
  change wpOpsS _ _ _ [5, 6, 7] ⟨#[Value.pointer (some ⟨h, 0, none⟩), Value.pointer (some ⟨h + 1, 0, none⟩), undef, undef, .tuple #[.agg #[], .bool true], noRm, .tuple #[.agg #[], .bool true], .agg #[], .bool true, undef, undef], []⟩ cs2 (w)
  refine opsS_value rfl (by kernel_rfl) (v := .pointer (some ⟨w.heap.size, 0, none⟩)) (w' := w.alloc (Obj.cells #[] 65)) (by kernel_rfl) ?_
  change wpOpsS _ _ _ [6, 7] ⟨#[Value.pointer (some ⟨h, 0, none⟩), Value.pointer (some ⟨h + 1, 0, none⟩), .pointer (some ⟨w.heap.size, 0, none⟩), undef, .tuple #[.agg #[], .bool true], noRm, .tuple #[.agg #[], .bool true], .agg #[], .bool true, undef, undef], []⟩ cs2 (w.alloc (Obj.cells #[] 65))
  refine opsS_skip rfl (by kernel_rfl) (w' := w.alloc (Obj.cells #[] 65)) (by kernel_rfl) ?_
  change wpOpsS _ _ _ [7] ⟨#[Value.pointer (some ⟨h, 0, none⟩), Value.pointer (some ⟨h + 1, 0, none⟩), .pointer (some ⟨w.heap.size, 0, none⟩), undef, .tuple #[.agg #[], .bool true], noRm, .tuple #[.agg #[], .bool true], .agg #[], .bool true, undef, undef], []⟩ cs2 (w.alloc (Obj.cells #[] 65))
  refine opsS_value rfl (by kernel_rfl) (v := .bool true) (w' := w.alloc (Obj.cells #[] 65)) (by kernel_rfl) ?_
  change wpOpsS _ _ _ [] ⟨#[Value.pointer (some ⟨h, 0, none⟩), Value.pointer (some ⟨h + 1, 0, none⟩), .pointer (some ⟨w.heap.size, 0, none⟩), .bool true, .tuple #[.agg #[], .bool true], noRm, .tuple #[.agg #[], .bool true], .agg #[], .bool true, undef, undef], []⟩ cs2 (w.alloc (Obj.cells #[] 65))
  change Code.wpS Try.prog _ _ ⟨#[Value.pointer (some ⟨h, 0, none⟩), Value.pointer (some ⟨h + 1, 0, none⟩), .pointer (some ⟨w.heap.size, 0, none⟩), .bool true, .tuple #[.agg #[], .bool true], noRm, .tuple #[.agg #[], .bool true], .agg #[], .bool true, undef, undef], []⟩ cs2 (w.alloc (Obj.cells #[] 65))
  refine wpS_of_wp ?_
  have HCS := hide hcs2
  have HU := hide hu
  have HRC := hide hrec
  clear hcs2 hu hrec
  go_wp2_with fail
  exact ⟨rfl, _, unhide HCS, _, results_none rfl _ _ _, rfl, rfl, rfl⟩
set_option maxRecDepth 20000 in
set_option maxHeartbeats 2000000 in
theorem catch_i (h : Nat) (w : World) :
    CallsD Try.prog 28 #[.pointer (some ⟨h, 0, none⟩), .pointer (some ⟨h + 1, 0, none⟩)] .returning w fun e u' w' =>
      e = .returned (.tuple #[]) ∧ u' = .returning ∧ w' = w.alloc (Obj.cells #[] 65) := by
  refine callsD_of_wpS Try.func28 rfl fun c₀ cs hu => ?_
  rw [show #[Value.pointer (some ⟨h, 0, none⟩), Value.pointer (some ⟨h + 1, 0, none⟩)] ++ Array.replicate (Try.f28.ntmps - #[Value.pointer (some ⟨h, 0, none⟩), Value.pointer (some ⟨h + 1, 0, none⟩)].size) undef = #[Value.pointer (some ⟨h, 0, none⟩), Value.pointer (some ⟨h + 1, 0, none⟩), undef, undef, undef, undef, undef, undef, undef, undef, undef] by rw [Try.ntmps28]; rfl]
  apply wpS_seq
  apply wpS_region
  obtain ⟨cs2, hcs2⟩ : ∃ cs2, cs2 = c₀ :: cs := ⟨_, rfl⟩
  have hrec : recoverD cs2 = none := by rw [hcs2]; exact recD_no hu
  rw [← hcs2]
  change wpOpsS _ _ _ [0, 1, 2, 3, 4, 5, 6, 7] _ _ _
  refine opsS_none rfl (by kernel_rfl) (w' := w) (by kernel_rfl) hrec ?_
  change wpOpsS _ _ _ [1, 2, 3, 4, 5, 6, 7] ⟨#[Value.pointer (some ⟨h, 0, none⟩), Value.pointer (some ⟨h + 1, 0, none⟩), undef, undef, undef, Value.nilIface, undef, undef, undef, undef, undef], []⟩ cs2 (w)
  refine opsS_value rfl (by kernel_rfl) (v := .tuple #[.agg #[], .bool false]) (w' := w) (by kernel_rfl) ?_
  change wpOpsS _ _ _ [2, 3, 4, 5, 6, 7] ⟨#[Value.pointer (some ⟨h, 0, none⟩), Value.pointer (some ⟨h + 1, 0, none⟩), undef, undef, undef, Value.nilIface, .tuple #[.agg #[], .bool false], undef, undef, undef, undef], []⟩ cs2 (w)
  refine opsS_value rfl (by kernel_rfl) (v := .tuple #[.agg #[], .bool false]) (w' := w) (by kernel_rfl) ?_
  change wpOpsS _ _ _ [3, 4, 5, 6, 7] ⟨#[Value.pointer (some ⟨h, 0, none⟩), Value.pointer (some ⟨h + 1, 0, none⟩), undef, undef, .tuple #[.agg #[], .bool false], Value.nilIface, .tuple #[.agg #[], .bool false], undef, undef, undef, undef], []⟩ cs2 (w)
  refine opsS_value rfl (by kernel_rfl) (v := .agg #[]) (w' := w) (by kernel_rfl) ?_
  change wpOpsS _ _ _ [4, 5, 6, 7] ⟨#[Value.pointer (some ⟨h, 0, none⟩), Value.pointer (some ⟨h + 1, 0, none⟩), undef, undef, .tuple #[.agg #[], .bool false], Value.nilIface, .tuple #[.agg #[], .bool false], .agg #[], undef, undef, undef], []⟩ cs2 (w)
  refine opsS_value rfl (by kernel_rfl) (v := .bool false) (w' := w) (by kernel_rfl) ?_
  change wpOpsS _ _ _ [5, 6, 7] ⟨#[Value.pointer (some ⟨h, 0, none⟩), Value.pointer (some ⟨h + 1, 0, none⟩), undef, undef, .tuple #[.agg #[], .bool false], Value.nilIface, .tuple #[.agg #[], .bool false], .agg #[], .bool false, undef, undef], []⟩ cs2 (w)
  refine opsS_value rfl (by kernel_rfl) (v := .pointer (some ⟨w.heap.size, 0, none⟩)) (w' := w.alloc (Obj.cells #[] 65)) (by kernel_rfl) ?_
  change wpOpsS _ _ _ [6, 7] ⟨#[Value.pointer (some ⟨h, 0, none⟩), Value.pointer (some ⟨h + 1, 0, none⟩), .pointer (some ⟨w.heap.size, 0, none⟩), undef, .tuple #[.agg #[], .bool false], Value.nilIface, .tuple #[.agg #[], .bool false], .agg #[], .bool false, undef, undef], []⟩ cs2 (w.alloc (Obj.cells #[] 65))
  refine opsS_skip rfl (by kernel_rfl) (w' := w.alloc (Obj.cells #[] 65)) (by kernel_rfl) ?_
  change wpOpsS _ _ _ [7] ⟨#[Value.pointer (some ⟨h, 0, none⟩), Value.pointer (some ⟨h + 1, 0, none⟩), .pointer (some ⟨w.heap.size, 0, none⟩), undef, .tuple #[.agg #[], .bool false], Value.nilIface, .tuple #[.agg #[], .bool false], .agg #[], .bool false, undef, undef], []⟩ cs2 (w.alloc (Obj.cells #[] 65))
  refine opsS_value rfl (by kernel_rfl) (v := .bool false) (w' := w.alloc (Obj.cells #[] 65)) (by kernel_rfl) ?_
  change wpOpsS _ _ _ [] ⟨#[Value.pointer (some ⟨h, 0, none⟩), Value.pointer (some ⟨h + 1, 0, none⟩), .pointer (some ⟨w.heap.size, 0, none⟩), .bool false, .tuple #[.agg #[], .bool false], Value.nilIface, .tuple #[.agg #[], .bool false], .agg #[], .bool false, undef, undef], []⟩ cs2 (w.alloc (Obj.cells #[] 65))
  change Code.wpS Try.prog _ _ ⟨#[Value.pointer (some ⟨h, 0, none⟩), Value.pointer (some ⟨h + 1, 0, none⟩), .pointer (some ⟨w.heap.size, 0, none⟩), .bool false, .tuple #[.agg #[], .bool false], Value.nilIface, .tuple #[.agg #[], .bool false], .agg #[], .bool false, undef, undef], []⟩ cs2 (w.alloc (Obj.cells #[] 65))
  refine wpS_of_wp ?_
  have HCS := hide hcs2
  have HU := hide hu
  have HRC := hide hrec
  clear hcs2 hu hrec
  go_wp2_with fail
  exact ⟨rfl, .returning, (unhide HCS).trans (by rw [← unhide HU]), _, results_none rfl _ _ _, rfl, rfl, rfl⟩

theorem Blk.lowP {w w' : World} {B b : Nat} {vs : List Value} (h : Blk w B vs) (k : Below b w w') (hb : B < b) : Blk w' B vs :=
  ⟨fun i hi => (k.cell (p := ⟨B, i, none⟩) hb).trans (h.c i hi), fun i hi => (k.frozen (p := ⟨B, i, none⟩) hb).trans (h.f i hi), Nat.lt_of_lt_of_le h.lt k.size⟩
theorem pk_new (w : World) : OwnE 1 byC (w.alloc (Obj.cells #[] 5)) w.heap.size 5 (.slice (some ⟨w.heap.size, 0, none⟩) 0 0) [] := byL_lit w [] (Nat.le_refl _) (by simp)
set_option maxRecDepth 20000 in
set_option maxHeartbeats 2000000 in
theorem implPack20_any (ad : Option Addr) (len cap : Nat) (zss : List (List Int)) (w : World) (hr : RowS w ad len zss) :
    Calls Try.prog 10 #[.slice ad len cap] w fun e w' => ∃ a1 c1, e = .returned (.tuple #[.slice a1 (pkL zss).length c1, .bool (pkB zss)]) ∧ OwnE 1 byC w' w.heap.size 5 (.slice a1 (pkL zss).length c1) (pkL zss) ∧ Below w.heap.size w w' := by
  have hmf : ∀ (fn : Fn) (first cap : Array Value) (w : World), (Instr.makeFunc fn first cap).run Try.prog w = .ok (.func fn first cap) w := fun _ _ _ _ => rfl
  have HR := hide hr
  clear hr
  obtain ⟨W, hW⟩ : ∃ W, W = (w.alloc (Obj.cells #[.slice none 0 0] 22)).alloc (Obj.cells #[.bool false] 4) := ⟨_, rfl⟩
  have K0 : Hid (Blk W w.heap.size [.slice none 0 0]) := hide (by rw [hW]; exact blkAt2_0)
  have K1 : Hid (Blk W (w.heap.size + 1) [.bool false]) := hide (by rw [hW]; exact blkAt2_1)
  have BW : Hid (Below w.heap.size w W) := hide (by rw [hW]; exact bel2 _ _)
  have hsz : W.heap.size = w.heap.size + 1 + 1 := by rw [hW]; simp
  have HW := hide hW
  have HSZ := hide hsz
  clear hW hsz
  cases q1 : rcB zss
  · have HE : Hid (pkB zss = false) := hide (by rw [pkB, q1]; rfl)
    rw [pkL_no (unhide HE), unhide HE]
    go_enter_defers Try.func10, Try.ntmps10
    go_wp2_with fail
    rw [← unhide HW]
    refine (implRecordOk_is _ _ _ zss _ ((unhide HR).below (unhide BW)) q1).mono ?_
    rintro e w1 ⟨rfl, b1⟩
    have B1 := hide ((unhide BW).trans (b1.mono (unhide BW).size))
    have hs1 : w.heap.size + 1 + 1 ≤ w1.heap.size := by have := b1.size; have := unhide HSZ; omega
    obtain ⟨V, hV⟩ : ∃ V, V = w1.alloc (Obj.cells #[] 5) := ⟨_, rfl⟩
    have k0 : Blk V w.heap.size [.slice none 0 0] := by rw [hV]; exact ((unhide K0).below b1).alloc _
    have k1 : Blk V (w.heap.size + 1) [.bool false] := by rw [hV]; exact ((unhide K1).below b1).alloc _
    have OV : Hid (OwnE 1 byC V w1.heap.size 5 (.slice (some ⟨w1.heap.size, 0, none⟩) 0 0) []) := hide (by rw [hV]; exact pk_new w1)
    have BV : Hid (Below w.heap.size w V) := hide (by rw [hV]; exact (unhide B1).alloc (unhide B1).size _)
    have c0 : V.cell? ⟨w.heap.size, 0, none⟩ = some (.slice none 0 0) := k0.c 0 (by simp)
    have f0 : V.frozen? ⟨w.heap.size, 0, none⟩ = false := k0.f 0 (by simp)
    have k2 := k1.other (p := ⟨w.heap.size, 0, none⟩) (by simp) (.slice (some ⟨w1.heap.size, 0, none⟩) 0 0)
    have c1 : (V.setCell ⟨w.heap.size, 0, none⟩ (.slice (some ⟨w1.heap.size, 0, none⟩) 0 0)).cell? ⟨w.heap.size + 1, 0, none⟩ = some (.bool false) := k2.c 0 (by simp)
    have f1 : (V.setCell ⟨w.heap.size, 0, none⟩ (.slice (some ⟨w1.heap.size, 0, none⟩) 0 0)).frozen? ⟨w.heap.size + 1, 0, none⟩ = false := k2.f 0 (by simp)
    obtain ⟨U, hU⟩ : ∃ U, U = (V.setCell ⟨w.heap.size, 0, none⟩ (.slice (some ⟨w1.heap.size, 0, none⟩) 0 0)).setCell ⟨w.heap.size + 1, 0, none⟩ (.bool false) := ⟨_, rfl⟩
    have r0 : U.cell? ⟨w.heap.size, 0, none⟩ = some (.slice (some ⟨w1.heap.size, 0, none⟩) 0 0) := by rw [hU]; exact ((k0.set 0 (by simp) _).other (p := ⟨w.heap.size + 1, 0, none⟩) (by simp) _).c 0 (by simp)
    have r1 : U.cell? ⟨w.heap.size + 1, 0, none⟩ = some (.bool false) := by rw [hU]; exact (k2.set 0 (by simp) _).c 0 (by simp)
    have OU : Hid (OwnE 1 byC U w.heap.size 5 (.slice (some ⟨w1.heap.size, 0, none⟩) 0 0) []) := hide (by rw [hU]; exact (((unhide OV).set_other _ (fun e => by have := ((unhide OV).lies _ e).1; omega)).set_other _ (fun e => by have := ((unhide OV).lies _ e).1; omega)).mono (by omega))
    have BU : Hid (Below w.heap.size w U) := hide (by rw [hU]; exact ((unhide BV).setCell (by simp) _).setCell (by simp) _)
    have HV := hide hV
    have HU := hide hU
    rw [hV] at c0 f0 c1 f1
    clear hV hU k0 k1 k2 b1 OV BV
    go_wp2_with fail
    rw [← unhide HV, ← unhide HU]
    exact ⟨.tuple #[.slice (some ⟨w1.heap.size, 0, none⟩) 0 0, .bool false], (by simp [results, Try.results10, go_sem, r0, r1]), _, _, rfl, unhide OU, unhide BU⟩
  go_enter_defers Try.func10, Try.ntmps10
  go_wp2_with fail
  rw [← unhide HW]
  refine (implRecordOk_is _ _ _ zss _ ((unhide HR).below (unhide BW)) q1).mono ?_
  rintro e w1 ⟨rfl, b1⟩
  have B1 := hide ((unhide BW).trans (b1.mono (unhide BW).size))
  have hs1 : w.heap.size + 1 + 1 ≤ w1.heap.size := by have := b1.size; have := unhide HSZ; omega
  have M0 := hide ((unhide K0).below b1)
  have M1 := hide ((unhide K1).below b1)
  have HRO := hide q1
  clear b1 K0 K1 BW q1
  have k3 : Blk (w1.alloc (Obj.cells #[.slice none 0 0] 68)) w1.heap.size [.slice none 0 0] := Blk.new _ _
  have y0 : (w1.alloc (Obj.cells #[.slice none 0 0] 68)).cell? ⟨w1.heap.size, 0, none⟩ = some (.slice none 0 0) := k3.c 0 (by simp)
  have z0 : (w1.alloc (Obj.cells #[.slice none 0 0] 68)).frozen? ⟨w1.heap.size, 0, none⟩ = false := k3.f 0 (by simp)
  obtain ⟨V, hV⟩ : ∃ V, V = w1.alloc (Obj.cells #[.slice none 0 0] 68) := ⟨_, rfl⟩
  have BV : Hid (Below w1.heap.size w1 V) := hide (by rw [hV]; exact bel1 _)
  have PV : Hid (Pk V w1.heap.size none 0 0 []) := hide (by rw [hV]; exact ⟨k3, ownE_nil _ _ _, rfl⟩)
  have HV := hide hV
  clear hV k3
  go_wp2_with fail
  rw [← unhide HV]
  refine (putRecord_any w1.heap.size none 0 _ _ _ zss w _ (unhide HR) ((unhide B1).trans ((unhide BV).mono (unhide B1).size)) (by omega) (unhide PV) (unhide HRO)).mono ?_
  rintro e w2 ⟨he, s2⟩
  have S2 := hide s2
  have m0 := ((unhide M0).below (unhide BV)).lowP s2.b (by omega)
  have m1 := ((unhide M1).below (unhide BV)).lowP s2.b (by omega)
  have B2 := hide ((unhide B1).trans (((unhide BV).trans s2.b).mono (unhide B1).size))
  clear s2 y0 z0
  rcases he with ⟨rfl, hlen, b2, d2, k2⟩ | ⟨rfl, hlen⟩
  · have HE : Hid (pkB zss = true) := hide (by rw [pkB, unhide HRO, show decide ((pkF zss).length ≤ 1500) = true by simpa using hlen]; rfl)
    obtain ⟨n, hn⟩ : ∃ n, n = (pkF zss).length := ⟨_, rfl⟩
    rw [← hn] at k2
    have HNN := hide hn
    have c2 : w2.cell? ⟨w1.heap.size, 0, none⟩ = some (.slice b2 n d2) := k2.p.c 0 (by simp)
    have c0 : w2.cell? ⟨w.heap.size, 0, none⟩ = some (.slice none 0 0) := m0.c 0 (by simp)
    have f0 : w2.frozen? ⟨w.heap.size, 0, none⟩ = false := m0.f 0 (by simp)
    have m2 := m1.other (p := ⟨w.heap.size, 0, none⟩) (by simp) (.slice b2 n d2)
    have c1 : (w2.setCell ⟨w.heap.size, 0, none⟩ (.slice b2 n d2)).cell? ⟨w.heap.size + 1, 0, none⟩ = some (.bool false) := m2.c 0 (by simp)
    have f1 : (w2.setCell ⟨w.heap.size, 0, none⟩ (.slice b2 n d2)).frozen? ⟨w.heap.size + 1, 0, none⟩ = false := m2.f 0 (by simp)
    obtain ⟨U, hU⟩ : ∃ U, U = (w2.setCell ⟨w.heap.size, 0, none⟩ (.slice b2 n d2)).setCell ⟨w.heap.size + 1, 0, none⟩ (.bool true) := ⟨_, rfl⟩
    have u0 : Blk U w.heap.size [.slice b2 n d2] := by rw [hU]; exact (m0.set 0 (by simp) _).other (p := ⟨w.heap.size + 1, 0, none⟩) (by simp) _
    have u1 : Blk U (w.heap.size + 1) [.bool true] := by rw [hU]; exact m2.set 0 (by simp) _
    have r0 : (U.alloc (Obj.cells #[] 65)).cell? ⟨w.heap.size, 0, none⟩ = some (.slice b2 n d2) := (u0.alloc _).c 0 (by simp)
    have r1 : (U.alloc (Obj.cells #[] 65)).cell? ⟨w.heap.size + 1, 0, none⟩ = some (.bool true) := (u1.alloc _).c 0 (by simp)
    have OU : Hid (OwnE 1 byC U w.heap.size 5 (.slice b2 n d2) (pkF zss)) := hide (by rw [hU]; exact ((k2.o.set_other _ (fun e => by have := (k2.o.lies _ e).1; omega)).set_other _ (fun e => by have := (k2.o.lies _ e).1; omega)).mono (by omega))
    have BU : Hid (Below w.heap.size w U) := hide (by rw [hU]; exact ((unhide B2).setCell (by simp) _).setCell (by simp) _)
    have HU := hide hU
    clear hU u0 u1 k2 m0 m1 m2 hn
    go_wp2_with fail
    rw [← unhide HU]
    refine leaves_cons (f := 28) (args := #[.pointer (some ⟨w.heap.size, 0, none⟩), .pointer (some ⟨w.heap.size + 1, 0, none⟩)]) (by simp) (by simp [go_sem]) ?_
    refine (catch_i w.heap.size _).mono ?_
    rintro e u' w'' ⟨rfl, rfl, rfl⟩
    refine ⟨.tuple #[.slice b2 n d2, .bool true], (by simp [results, Try.results10, go_sem, r0, r1]), ?_⟩
    rw [pkL_yes (unhide HE), unhide HE, ← unhide HNN]
    exact ⟨_, _, rfl, (unhide OU).below (bel1 _), (unhide BU).alloc (unhide BU).size _⟩
  · have HE : Hid (pkB zss = false) := hide (by rw [pkB, unhide HRO, show decide ((pkF zss).length ≤ 1500) = false by simpa using hlen]; rfl)
    obtain ⟨V2, hV2⟩ : ∃ V2, V2 = (w2.alloc (Obj.cells #[] 65)).alloc (Obj.cells #[] 5) := ⟨_, rfl⟩
    have hs2 : w.heap.size + 1 < w2.heap.size := m1.lt
    have v0 : Blk V2 w.heap.size [.slice none 0 0] := by rw [hV2]; exact (m0.alloc _).alloc _
    have v1 : Blk V2 (w.heap.size + 1) [.bool false] := by rw [hV2]; exact (m1.alloc _).alloc _
    have OV : Hid (OwnE 1 byC V2 (w2.heap.size + 1) 5 (.slice (some ⟨w2.heap.size + 1, 0, none⟩) 0 0) []) := hide (by rw [hV2]; have := pk_new (w2.alloc (Obj.cells #[] 65)); rw [show (w2.alloc (Obj.cells #[] 65)).heap.size = w2.heap.size + 1 by simp] at this; exact this)
    have BV2 : Hid (Below w.heap.size w V2) := hide (by rw [hV2]; exact ((unhide B2).alloc (unhide B2).size _).alloc (by simp; omega) _)
    obtain ⟨U, hU⟩ : ∃ U, U = (V2.setCell ⟨w.heap.size, 0, none⟩ (.slice (some ⟨w2.heap.size + 1, 0, none⟩) 0 0)).setCell ⟨w.heap.size + 1, 0, none⟩ (.bool false) := ⟨_, rfl⟩
    have r0 : U.cell? ⟨w.heap.size, 0, none⟩ = some (.slice (some ⟨w2.heap.size + 1, 0, none⟩) 0 0) := by rw [hU]; exact ((v0.set 0 (by simp) _).other (p := ⟨w.heap.size + 1, 0, none⟩) (by simp) _).c 0 (by simp)
    have r1 : U.cell? ⟨w.heap.size + 1, 0, none⟩ = some (.bool false) := by rw [hU]; exact ((v1.other (p := ⟨w.heap.size, 0, none⟩) (by simp) _).set 0 (by simp) _).c 0 (by simp)
    have OU : Hid (OwnE 1 byC U w.heap.size 5 (.slice (some ⟨w2.heap.size + 1, 0, none⟩) 0 0) []) := hide (by rw [hU]; exact (((unhide OV).set_other _ (fun e => by have := ((unhide OV).lies _ e).1; omega)).set_other _ (fun e => by have := ((unhide OV).lies _ e).1; omega)).mono (by omega))
    have BU : Hid (Below w.heap.size w U) := hide (by rw [hU]; exact ((unhide BV2).setCell (by simp) _).setCell (by simp) _)
    have HU : Hid (U = (((w2.alloc (Obj.cells #[] 65)).alloc (Obj.cells #[] 5)).setCell ⟨w.heap.size, 0, none⟩ (.slice (some ⟨w2.heap.size + 1, 0, none⟩) 0 0)).setCell ⟨w.heap.size + 1, 0, none⟩ (.bool false)) := hide (by rw [hU, hV2])
    have M0 := hide m0
    have M1 := hide m1
    clear hU hV2 v0 v1 OV BV2 m0 m1
    go_wp2_with fail
    refine leaves_cons (f := 28) (args := #[.pointer (some ⟨w.heap.size, 0, none⟩), .pointer (some ⟨w.heap.size + 1, 0, none⟩)]) (by simp) (by simp [go_sem]) ?_
    refine (catch_p w.heap.size _ _ _ (unhide M0) (unhide M1)).mono ?_
    rintro e u' w'' ⟨rfl, rfl, hw⟩
    rw [← unhide HU] at hw
    subst w''
    refine ⟨.tuple #[.slice (some ⟨w2.heap.size + 1, 0, none⟩) 0 0, .bool false], (by simp [results, Try.results10, go_sem, r0, r1]), ?_⟩
    rw [pkL_no (unhide HE), unhide HE]
    exact ⟨_, _, rfl, unhide OU, unhide BU⟩

end Go.Proofs.Ytfnnfldfnjnlfah

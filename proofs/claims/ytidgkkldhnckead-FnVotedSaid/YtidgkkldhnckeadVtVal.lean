/-
  What the program's inner voter values its lanes at, and how it came. Where all numbers are at most 1000000; nothing that was there is written.
-/
import Derived.Test.YtidgkkldhnckeadVtHeard
import Derived.Test.YtidgkkldhnckeadVtSee
import Derived.Test.YtidgkkldhnckeadFightPure
namespace Go.Proofs.Ytidgkkldhnckead
open Go.RowKit

theorem nth_five {s0 s1 s2 s3 s4 : Int} (h : ∀ x ∈ [s0, s1, s2, s3, s4], -1000000 ≤ x ∧ x ≤ 1000000) : ∀ i, i < ([s0, s1, s2, s3, s4] : List Int).length → -1000000 ≤ nth [s0, s1, s2, s3, s4] i ∧ nth [s0, s1, s2, s3, s4] i ≤ 1000000 := fun _ hi => h _ (nth_in hi)
theorem fit_of {zs : List Int} (h : ∀ i, i < zs.length → -1000000 ≤ nth zs i ∧ nth zs i ≤ 1000000) (i : Nat) : -9223372036854775808 ≤ nth zs i ∧ nth zs i ≤ 9223372036854775807 := by
  by_cases hi : i < zs.length
  · have := h i hi; omega
  · rw [nth_out (by omega)]; omega

set_option maxRecDepth 20000 in
set_option maxHeartbeats 4000000 in
theorem value_any (n h : Int) (o0 : Bool) (d0 s0 : Int) (o1 : Bool) (d1 s1 : Int) (o2 : Bool) (d2 s2 : Int) (o3 : Bool) (d3 s3 : Int) (o4 : Bool) (d4 s4 : Int) (w : World) (hs : ∀ i, i < ([s0, s1, s2, s3, s4] : List Int).length → -1000000 ≤ nth [s0, s1, s2, s3, s4] i ∧ nth [s0, s1, s2, s3, s4] i ≤ 1000000) :
    Calls Try.prog 38 #[.agg #[.int .i64 n, .int .i64 h, .bool o0, .int .i64 d0, .int .i64 s0, .bool o1, .int .i64 d1, .int .i64 s1, .bool o2, .int .i64 d2, .int .i64 s2, .bool o3, .int .i64 d3, .int .i64 s3, .bool o4, .int .i64 d4, .int .i64 s4]] w fun x w' => x = .returned (.tuple #[.int .i64 (valX (heardS [o0, o1, o2, o3, o4] [s0, s1, s2, s3, s4])), .int .i64 (valC (heardS [o0, o1, o2, o3, o4] [s0, s1, s2, s3, s4]))]) ∧ Below w.heap.size w w' := by
  have B0 := hide (bel1 (w := w) (Obj.cells #[.int .i64 n, .int .i64 h, .bool o0, .int .i64 d0, .int .i64 s0, .bool o1, .int .i64 d1, .int .i64 s1, .bool o2, .int .i64 d2, .int .i64 s2, .bool o3, .int .i64 d3, .int .i64 s3, .bool o4, .int .i64 d4, .int .i64 s4] 81))
  have HF := hide (fit_of hs)
  have HH := hide (heardS_all (bs := [o0, o1, o2, o3, o4]) hs)
  have hl5 : (heardS [o0, o1, o2, o3, o4] [s0, s1, s2, s3, s4]).length ≤ 5 := heardS_len [o0, o1, o2, o3, o4] [s0, s1, s2, s3, s4]
  clear hs
  go_enter Try.func38, Try.ntmps38
  go_wp2_with fail
  refine (heard_any n h o0 d0 s0 o1 d1 s1 o2 d2 s2 o3 d3 s3 o4 d4 s4 _ (unhide HF)).mono ?_
  rintro x w1 ⟨g, c, rfl, o, b⟩
  have B1 := hide ((unhide B0).trans (b.mono (unhide B0).size))
  obtain ⟨H, hH⟩ : ∃ H, (heardS [o0, o1, o2, o3, o4] [s0, s1, s2, s3, s4]) = H := ⟨_, rfl⟩
  rw [hH] at o hl5 ⊢
  have HH : Hid (∀ i, i < H.length → -1000000 ≤ nth H i ∧ nth H i ≤ 1000000) := hide (by rw [← hH]; exact unhide HH)
  have HHH := hide hH
  have HO := hide o.row.open_
  clear o b hH
  obtain ⟨m, hm⟩ : ∃ m, H.length = m := ⟨_, rfl⟩
  rw [hm] at HO hl5 ⊢
  have HM := hide hm
  clear hm
  by_cases h0 : m = 0
  · have HX : Hid (valX H = 0 ∧ valC H = 0) := hide (by unfold valX valC; rw [unhide HM, h0]; exact ⟨rfl, rfl⟩)
    subst h0
    go_wp2_with fail
    go_ret2
    rw [unhide HHH]
    exact ⟨ret_ii (unhide HX).1.symm (unhide HX).2.symm, unhide B1⟩
  · rcases (unhide HO) with ⟨h1, _⟩ | ⟨bb, off, e, _, hc⟩
    · omega
    cases e
    rcases (show m = 1 ∨ m = 2 ∨ m = 3 ∨ m = 4 ∨ m = 5 by omega) with hj | hj | hj | hj | hj
    · subst hj
      have c1 : w1.cell? ⟨g, 0, none⟩ = some (.int .i64 (nth H 0)) := hc 0 (by omega)
      have c2 : w1.cell? ⟨g, 0, none⟩ = some (.int .i64 (nth H 0)) := hc 0 (by omega)
      have v1 := (unhide HH) 0 (by rw [unhide HM]; omega)
      have v2 := (unhide HH) 0 (by rw [unhide HM]; omega)
      have HX : Hid (valX H = (nth H 0 + nth H 0) / 2 ∧ valC H = 1) := hide (by unfold valX valC; rw [unhide HM]; exact ⟨rfl, rfl⟩)
      clear hc HO h0 hl5
      go_wp2_with fail
      have hw0 : IntKind.i64.wrap 0 = 0 := rfl
      have hw1 : IntKind.i64.wrap 1 = 1 := rfl
      have hw2 : IntKind.i64.wrap 2 = 2 := rfl
      have hw3 : IntKind.i64.wrap 3 = 3 := rfl
      have hw4 : IntKind.i64.wrap 4 = 4 := rfl
      go_quiet (fail)
      go_wp2_with fail
      go_ret2
      rw [unhide HHH]
      exact ⟨ret_ii (by rw [(unhide HX).1]) (unhide HX).2.symm, (unhide B1).trans (bel0d' _)⟩
    · subst hj
      have c1 : w1.cell? ⟨g, 0, none⟩ = some (.int .i64 (nth H 0)) := hc 0 (by omega)
      have c2 : w1.cell? ⟨g, 1, none⟩ = some (.int .i64 (nth H 1)) := hc 1 (by omega)
      have v1 := (unhide HH) 0 (by rw [unhide HM]; omega)
      have v2 := (unhide HH) 1 (by rw [unhide HM]; omega)
      have HX : Hid (valX H = (nth H 0 + nth H 1) / 2 ∧ valC H = 2) := hide (by unfold valX valC; rw [unhide HM]; exact ⟨rfl, rfl⟩)
      clear hc HO h0 hl5
      go_wp2_with fail
      have hw0 : IntKind.i64.wrap 0 = 0 := rfl
      have hw1 : IntKind.i64.wrap 1 = 1 := rfl
      have hw2 : IntKind.i64.wrap 2 = 2 := rfl
      have hw3 : IntKind.i64.wrap 3 = 3 := rfl
      have hw4 : IntKind.i64.wrap 4 = 4 := rfl
      go_quiet (fail)
      go_wp2_with fail
      go_ret2
      rw [unhide HHH]
      exact ⟨ret_ii (by rw [(unhide HX).1]) (unhide HX).2.symm, (unhide B1).trans (bel0d' _)⟩
    · subst hj
      have c1 : w1.cell? ⟨g, 1, none⟩ = some (.int .i64 (nth H 1)) := hc 1 (by omega)
      have c2 : w1.cell? ⟨g, 1, none⟩ = some (.int .i64 (nth H 1)) := hc 1 (by omega)
      have v1 := (unhide HH) 1 (by rw [unhide HM]; omega)
      have v2 := (unhide HH) 1 (by rw [unhide HM]; omega)
      have HX : Hid (valX H = (nth H 1 + nth H 1) / 2 ∧ valC H = 3) := hide (by unfold valX valC; rw [unhide HM]; exact ⟨rfl, rfl⟩)
      clear hc HO h0 hl5
      go_wp2_with fail
      have hw0 : IntKind.i64.wrap 0 = 0 := rfl
      have hw1 : IntKind.i64.wrap 1 = 1 := rfl
      have hw2 : IntKind.i64.wrap 2 = 2 := rfl
      have hw3 : IntKind.i64.wrap 3 = 3 := rfl
      have hw4 : IntKind.i64.wrap 4 = 4 := rfl
      go_quiet (fail)
      go_wp2_with fail
      go_ret2
      rw [unhide HHH]
      exact ⟨ret_ii (by rw [(unhide HX).1]) (unhide HX).2.symm, (unhide B1).trans (bel0d' _)⟩
    · subst hj
      have c1 : w1.cell? ⟨g, 1, none⟩ = some (.int .i64 (nth H 1)) := hc 1 (by omega)
      have c2 : w1.cell? ⟨g, 2, none⟩ = some (.int .i64 (nth H 2)) := hc 2 (by omega)
      have v1 := (unhide HH) 1 (by rw [unhide HM]; omega)
      have v2 := (unhide HH) 2 (by rw [unhide HM]; omega)
      have HX : Hid (valX H = (nth H 1 + nth H 2) / 2 ∧ valC H = 3) := hide (by unfold valX valC; rw [unhide HM]; exact ⟨rfl, rfl⟩)
      clear hc HO h0 hl5
      go_wp2_with fail
      have hw0 : IntKind.i64.wrap 0 = 0 := rfl
      have hw1 : IntKind.i64.wrap 1 = 1 := rfl
      have hw2 : IntKind.i64.wrap 2 = 2 := rfl
      have hw3 : IntKind.i64.wrap 3 = 3 := rfl
      have hw4 : IntKind.i64.wrap 4 = 4 := rfl
      go_quiet (fail)
      go_wp2_with fail
      go_ret2
      rw [unhide HHH]
      exact ⟨ret_ii (by rw [(unhide HX).1]) (unhide HX).2.symm, (unhide B1).trans (bel0d' _)⟩
    · subst hj
      have c1 : w1.cell? ⟨g, 2, none⟩ = some (.int .i64 (nth H 2)) := hc 2 (by omega)
      have c2 : w1.cell? ⟨g, 2, none⟩ = some (.int .i64 (nth H 2)) := hc 2 (by omega)
      have v1 := (unhide HH) 2 (by rw [unhide HM]; omega)
      have v2 := (unhide HH) 2 (by rw [unhide HM]; omega)
      have HX : Hid (valX H = (nth H 2 + nth H 2) / 2 ∧ valC H = 3) := hide (by unfold valX valC; rw [unhide HM]; exact ⟨rfl, rfl⟩)
      clear hc HO h0 hl5
      go_wp2_with fail
      have hw0 : IntKind.i64.wrap 0 = 0 := rfl
      have hw1 : IntKind.i64.wrap 1 = 1 := rfl
      have hw2 : IntKind.i64.wrap 2 = 2 := rfl
      have hw3 : IntKind.i64.wrap 3 = 3 := rfl
      have hw4 : IntKind.i64.wrap 4 = 4 := rfl
      go_quiet (fail)
      go_wp2_with fail
      go_ret2
      rw [unhide HHH]
      exact ⟨ret_ii (by rw [(unhide HX).1]) (unhide HX).2.symm, (unhide B1).trans (bel0d' _)⟩

end Go.Proofs.Ytidgkkldhnckead

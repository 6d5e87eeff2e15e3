/-
  The closures by which the program looks for a load, the library's IndexFunc and ContainsFunc at them, and placeOfNumber, isNeeded: plain answers; nothing that was there is written.
  The closure of Take18 (is this load of the part of the load that comes), and the first load that it holds of. Nothing that was there is written.
-/
import Derived.Test.YtemodlgmjgdjpaaGreatDoorMWrOrd
import Derived.Test.YtemodlgmjgdjpaaGreatDoorMAbTo

namespace Go.Proofs.YtemodlgmjgdjpaaGreatDoor
open Go Go.RowKit

theorem txl_ne' {x y : ByteArray} (h : ¬ x = y) : (x.toList == y.toList) = false := by
  rw [beq_eq_false_iff_ne]
  intro e
  rw [ByteArray.toList_eq, ByteArray.toList_eq] at e
  exact h (by cases x; cases y; simp only [ByteArray.mk.injEq]; exact Array.toList_inj.1 e)
set_option maxHeartbeats 1000000 in
theorem nb_clo (x : Lx) (n : Int) (g : Nat) (w : World) (hg : Blk w g [.int .i64 n]) :
    Calls Tryz.prog 85 #[.agg #[.string x.p, .int .i64 x.nb, .int .i64 x.le, .int .i64 x.mo, .int .i64 x.ne, .slice x.d.a x.d.n x.d.c], .pointer (some ⟨g, 0, none⟩)] w fun e w' => e = .returned (.bool (qNb n (lxW x))) ∧ Below w.heap.size w w' := by
  have c0 : w.cell? ⟨g, 0, none⟩ = some (.int .i64 n) := hg.c 0 (by simp)
  have hlt := hg.lt
  have c1 := (World.cell?_alloc_lt w (Obj.cells #[.string x.p, .int .i64 x.nb, .int .i64 x.le, .int .i64 x.mo, .int .i64 x.ne, .slice x.d.a x.d.n x.d.c] 32) ⟨g, 0, none⟩ hlt).trans c0
  have HP : Hid (qNb n (lxW x) = decide (x.nb = n)) := hide rfl
  obtain ⟨X, hX⟩ : ∃ z, x.nb = z := ⟨_, rfl⟩
  rw [hX] at HP c1 ⊢
  clear hX c0 hg
  go_enter Tryz.func85, Tryz.ntmps85
  go_wp2
  go_ret
  exact ⟨ret_bool (by rw [unhide HP]; first | rfl | simp), bel1 _⟩
set_option maxRecDepth 20000 in
set_option maxHeartbeats 2000000 in
theorem nb_ix (a1 : Option Addr) (l1 c1 : Nat) (zs : List Lc) (n : Int) (g : Nat) (w : World) (hr : LsT w a1 l1 zs) (hg : Blk w g [.int .i64 n]) :
    Calls Tryz.prog 78 #[.slice a1 l1 c1, .func (.func 85) #[] #[.pointer (some ⟨g, 0, none⟩)]] w fun e w' => e = .returned (.int .i64 (ixF (qNb n) zs)) ∧ Below w.heap.size w w' := by
  have hzl := hr.len_eq
  obtain ⟨ls, e, hl⟩ := hr.ex
  have hz := hl.row.len_eq
  have HO := hide hl.row.six
  have HEL := hide hl.el
  have hsm := hl.row.small
  have HE := hide e
  have HZL := hide hzl
  have HT := hide hr
  subst hz
  clear hr hl e hzl
  have HG := hide hg
  clear hg
  go_enter Tryz.func78, Tryz.ntmps78
  go_wp2_with fail
  go_loopw [8] (fun i wr => ∃ k : Nat, i = .int .i64 k ∧ k ≤ ls.length ∧ Hid (Below w.heap.size w wr) ∧ Hid (∀ j, j < k → qNb n (elAt zs j) = false)) (fun i _ => ls.length - (intOf i).toNat)
  case atStart => exact ⟨0, rfl, Nat.zero_le _, hide (Below.refl _ _), hide (fun j hj => by omega)⟩
  case round =>
    obtain ⟨k, rfl, hk, BW, AL⟩ := hrel
    by_cases hlt : k < ls.length
    · rcases (unhide HO) with ⟨h0, _⟩ | ⟨bb, off, rfl, _, hc⟩
      · omega
      have HC := hide hc
      obtain ⟨x, hx⟩ : ∃ x, elAt ls k = x := ⟨_, rfl⟩
      have el : elAt zs k = lxW x := by rw [← hx]; exact elAt_lx (unhide HE) hlt
      have hin := (unhide HEL) k hlt
      have q := hc k hlt
      rw [hx] at hin q
      have cl := fun {p : Addr} {v : Value} (h : w.cell? p = some v) => ((unhide BW).cell (p := p) (block_lt_of_cell h)).trans h
      have s0 := cl q.1
      have s1 := cl q.2.1
      have s2 := cl q.2.2.1
      have s3 := cl q.2.2.2.1
      have s4 := cl q.2.2.2.2.1
      have s5 := cl q.2.2.2.2.2
      have hi1 : (k : Int) < (ls.length : Int) := by omega
      have hi0 : (0 : Int) ≤ (k : Int) := by omega
      have HIN := hide hin
      have HEK := hide el
      clear q cl hx hc hin el
      cases q1 : qNb n (lxW x) with
      | true =>
        have HR : Hid (ixF (qNb n) zs = (k : Int)) := hide (by have := unhide HZL; exact ixF_at (by omega) (by rw [unhide HEK]; exact q1) (unhide AL))
        have CF : Hid (Calls Tryz.prog 85 #[.agg #[.string x.p, .int .i64 x.nb, .int .i64 x.le, .int .i64 x.mo, .int .i64 x.ne, .slice x.d.a x.d.n x.d.c], .pointer (some ⟨g, 0, none⟩)] wr fun e w' => e = .returned (.bool true) ∧ Below wr.heap.size wr w') := hide (by have := nb_clo x n g wr ((unhide HG).below (unhide BW)); rw [q1] at this; exact this)
        clear HC HIN HEK q1 AL
        go_wp2_with (go_at_call 85; refine (unhide CF).mono ?_; rintro e w2 ⟨rfl, b2⟩; have B2 := hide ((unhide BW).trans (b2.mono (unhide BW).size)); clear b2)
        go_ret
        exact ⟨ret_int (unhide HR).symm, unhide B2⟩
      | false =>
        have CF : Hid (Calls Tryz.prog 85 #[.agg #[.string x.p, .int .i64 x.nb, .int .i64 x.le, .int .i64 x.mo, .int .i64 x.ne, .slice x.d.a x.d.n x.d.c], .pointer (some ⟨g, 0, none⟩)] wr fun e w' => e = .returned (.bool false) ∧ Below wr.heap.size wr w') := hide (by have := nb_clo x n g wr ((unhide HG).below (unhide BW)); rw [q1] at this; exact this)
        have NX : Hid (∀ j, j < k + 1 → qNb n (elAt zs j) = false) := hide (fun j hj => by
          by_cases e3 : j = k
          · rw [e3, unhide HEK]; exact q1
          · exact (unhide AL) j (by omega))
        clear HC HIN HEK q1 AL
        go_wp2_with (go_at_call 85; refine (unhide CF).mono ?_; rintro e w2 ⟨rfl, b2⟩; have B2 := hide ((unhide BW).trans (b2.mono (unhide BW).size)); clear b2)
        go_roundw
        case rel => exact ⟨k + 1, by go_num, by omega, B2, NX⟩
        case measure => simp [intOf]; omega
    · have hi1 : ¬ (k : Int) < (ls.length : Int) := by omega
      have HR : Hid (ixF (qNb n) zs = -1) := hide (ixF_none (fun j hj => (unhide AL) j (by have := unhide HZL; omega)))
      go_wp2_with fail
      go_ret
      exact ⟨ret_int (unhide HR).symm, unhide BW⟩
set_option maxHeartbeats 1000000 in
theorem ne_clo (x : Lx) (n : Int) (g : Nat) (w : World) (hg : Blk w g [.int .i64 n]) :
    Calls Tryz.prog 87 #[.agg #[.string x.p, .int .i64 x.nb, .int .i64 x.le, .int .i64 x.mo, .int .i64 x.ne, .slice x.d.a x.d.n x.d.c], .pointer (some ⟨g, 0, none⟩)] w fun e w' => e = .returned (.bool (qNe n (lxW x))) ∧ Below w.heap.size w w' := by
  have c0 : w.cell? ⟨g, 0, none⟩ = some (.int .i64 n) := hg.c 0 (by simp)
  have hlt := hg.lt
  have c1 := (World.cell?_alloc_lt w (Obj.cells #[.string x.p, .int .i64 x.nb, .int .i64 x.le, .int .i64 x.mo, .int .i64 x.ne, .slice x.d.a x.d.n x.d.c] 32) ⟨g, 0, none⟩ hlt).trans c0
  have HP : Hid (qNe n (lxW x) = decide (x.ne = n)) := hide rfl
  obtain ⟨X, hX⟩ : ∃ z, x.ne = z := ⟨_, rfl⟩
  rw [hX] at HP c1 ⊢
  clear hX c0 hg
  go_enter Tryz.func87, Tryz.ntmps87
  go_wp2
  go_ret
  exact ⟨ret_bool (by rw [unhide HP]; first | rfl | simp), bel1 _⟩
set_option maxRecDepth 20000 in
set_option maxHeartbeats 2000000 in
theorem ne_ix (a1 : Option Addr) (l1 c1 : Nat) (zs : List Lc) (n : Int) (g : Nat) (w : World) (hr : LsT w a1 l1 zs) (hg : Blk w g [.int .i64 n]) :
    Calls Tryz.prog 78 #[.slice a1 l1 c1, .func (.func 87) #[] #[.pointer (some ⟨g, 0, none⟩)]] w fun e w' => e = .returned (.int .i64 (ixF (qNe n) zs)) ∧ Below w.heap.size w w' := by
  have hzl := hr.len_eq
  obtain ⟨ls, e, hl⟩ := hr.ex
  have hz := hl.row.len_eq
  have HO := hide hl.row.six
  have HEL := hide hl.el
  have hsm := hl.row.small
  have HE := hide e
  have HZL := hide hzl
  have HT := hide hr
  subst hz
  clear hr hl e hzl
  have HG := hide hg
  clear hg
  go_enter Tryz.func78, Tryz.ntmps78
  go_wp2_with fail
  go_loopw [8] (fun i wr => ∃ k : Nat, i = .int .i64 k ∧ k ≤ ls.length ∧ Hid (Below w.heap.size w wr) ∧ Hid (∀ j, j < k → qNe n (elAt zs j) = false)) (fun i _ => ls.length - (intOf i).toNat)
  case atStart => exact ⟨0, rfl, Nat.zero_le _, hide (Below.refl _ _), hide (fun j hj => by omega)⟩
  case round =>
    obtain ⟨k, rfl, hk, BW, AL⟩ := hrel
    by_cases hlt : k < ls.length
    · rcases (unhide HO) with ⟨h0, _⟩ | ⟨bb, off, rfl, _, hc⟩
      · omega
      have HC := hide hc
      obtain ⟨x, hx⟩ : ∃ x, elAt ls k = x := ⟨_, rfl⟩
      have el : elAt zs k = lxW x := by rw [← hx]; exact elAt_lx (unhide HE) hlt
      have hin := (unhide HEL) k hlt
      have q := hc k hlt
      rw [hx] at hin q
      have cl := fun {p : Addr} {v : Value} (h : w.cell? p = some v) => ((unhide BW).cell (p := p) (block_lt_of_cell h)).trans h
      have s0 := cl q.1
      have s1 := cl q.2.1
      have s2 := cl q.2.2.1
      have s3 := cl q.2.2.2.1
      have s4 := cl q.2.2.2.2.1
      have s5 := cl q.2.2.2.2.2
      have hi1 : (k : Int) < (ls.length : Int) := by omega
      have hi0 : (0 : Int) ≤ (k : Int) := by omega
      have HIN := hide hin
      have HEK := hide el
      clear q cl hx hc hin el
      cases q1 : qNe n (lxW x) with
      | true =>
        have HR : Hid (ixF (qNe n) zs = (k : Int)) := hide (by have := unhide HZL; exact ixF_at (by omega) (by rw [unhide HEK]; exact q1) (unhide AL))
        have CF : Hid (Calls Tryz.prog 87 #[.agg #[.string x.p, .int .i64 x.nb, .int .i64 x.le, .int .i64 x.mo, .int .i64 x.ne, .slice x.d.a x.d.n x.d.c], .pointer (some ⟨g, 0, none⟩)] wr fun e w' => e = .returned (.bool true) ∧ Below wr.heap.size wr w') := hide (by have := ne_clo x n g wr ((unhide HG).below (unhide BW)); rw [q1] at this; exact this)
        clear HC HIN HEK q1 AL
        go_wp2_with (go_at_call 87; refine (unhide CF).mono ?_; rintro e w2 ⟨rfl, b2⟩; have B2 := hide ((unhide BW).trans (b2.mono (unhide BW).size)); clear b2)
        go_ret
        exact ⟨ret_int (unhide HR).symm, unhide B2⟩
      | false =>
        have CF : Hid (Calls Tryz.prog 87 #[.agg #[.string x.p, .int .i64 x.nb, .int .i64 x.le, .int .i64 x.mo, .int .i64 x.ne, .slice x.d.a x.d.n x.d.c], .pointer (some ⟨g, 0, none⟩)] wr fun e w' => e = .returned (.bool false) ∧ Below wr.heap.size wr w') := hide (by have := ne_clo x n g wr ((unhide HG).below (unhide BW)); rw [q1] at this; exact this)
        have NX : Hid (∀ j, j < k + 1 → qNe n (elAt zs j) = false) := hide (fun j hj => by
          by_cases e3 : j = k
          · rw [e3, unhide HEK]; exact q1
          · exact (unhide AL) j (by omega))
        clear HC HIN HEK q1 AL
        go_wp2_with (go_at_call 87; refine (unhide CF).mono ?_; rintro e w2 ⟨rfl, b2⟩; have B2 := hide ((unhide BW).trans (b2.mono (unhide BW).size)); clear b2)
        go_roundw
        case rel => exact ⟨k + 1, by go_num, by omega, B2, NX⟩
        case measure => simp [intOf]; omega
    · have hi1 : ¬ (k : Int) < (ls.length : Int) := by omega
      have HR : Hid (ixF (qNe n) zs = -1) := hide (ixF_none (fun j hj => (unhide AL) j (by have := unhide HZL; omega)))
      go_wp2_with fail
      go_ret
      exact ⟨ret_int (unhide HR).symm, unhide BW⟩
set_option maxHeartbeats 1000000 in
theorem pt_clo (x : Lx) (p : ByteArray) (g : Nat) (w : World) (hg : Blk w g [.string p]) :
    Calls Tryz.prog 95 #[.agg #[.string x.p, .int .i64 x.nb, .int .i64 x.le, .int .i64 x.mo, .int .i64 x.ne, .slice x.d.a x.d.n x.d.c], .pointer (some ⟨g, 0, none⟩)] w fun e w' => e = .returned (.bool (qPt p (lxW x))) ∧ Below w.heap.size w w' := by
  have c0 : w.cell? ⟨g, 0, none⟩ = some (.string p) := hg.c 0 (by simp)
  have hlt := hg.lt
  have c1 := (World.cell?_alloc_lt w (Obj.cells #[.string x.p, .int .i64 x.nb, .int .i64 x.le, .int .i64 x.mo, .int .i64 x.ne, .slice x.d.a x.d.n x.d.c] 32) ⟨g, 0, none⟩ hlt).trans c0
  have HP : Hid (qPt p (lxW x) = decide (x.p = p)) := hide rfl
  obtain ⟨X, hX⟩ : ∃ z, x.p = z := ⟨_, rfl⟩
  rw [hX] at HP c1 ⊢
  by_cases e : X = p
  · subst e
    clear hX c0 hg
    go_enter Tryz.func95, Tryz.ntmps95
    go_wp2
    go_ret
    exact ⟨ret_bool (by rw [unhide HP]; simp), bel1 _⟩
  · have d := txl_ne' e
    have HD : Hid (decide (X = p) = false) := hide (decide_eq_false e)
    clear hX c0 hg e
    go_enter Tryz.func95, Tryz.ntmps95
    go_wp2
    go_ret
    exact ⟨ret_bool (by rw [unhide HP, unhide HD]), bel1 _⟩
set_option maxRecDepth 20000 in
set_option maxHeartbeats 2000000 in
theorem pt_ix (a1 : Option Addr) (l1 c1 : Nat) (zs : List Lc) (p : ByteArray) (g : Nat) (w : World) (hr : LsT w a1 l1 zs) (hg : Blk w g [.string p]) :
    Calls Tryz.prog 78 #[.slice a1 l1 c1, .func (.func 95) #[] #[.pointer (some ⟨g, 0, none⟩)]] w fun e w' => e = .returned (.int .i64 (ixF (qPt p) zs)) ∧ Below w.heap.size w w' := by
  have hzl := hr.len_eq
  obtain ⟨ls, e, hl⟩ := hr.ex
  have hz := hl.row.len_eq
  have HO := hide hl.row.six
  have HEL := hide hl.el
  have hsm := hl.row.small
  have HE := hide e
  have HZL := hide hzl
  have HT := hide hr
  subst hz
  clear hr hl e hzl
  have HG := hide hg
  clear hg
  go_enter Tryz.func78, Tryz.ntmps78
  go_wp2_with fail
  go_loopw [8] (fun i wr => ∃ k : Nat, i = .int .i64 k ∧ k ≤ ls.length ∧ Hid (Below w.heap.size w wr) ∧ Hid (∀ j, j < k → qPt p (elAt zs j) = false)) (fun i _ => ls.length - (intOf i).toNat)
  case atStart => exact ⟨0, rfl, Nat.zero_le _, hide (Below.refl _ _), hide (fun j hj => by omega)⟩
  case round =>
    obtain ⟨k, rfl, hk, BW, AL⟩ := hrel
    by_cases hlt : k < ls.length
    · rcases (unhide HO) with ⟨h0, _⟩ | ⟨bb, off, rfl, _, hc⟩
      · omega
      have HC := hide hc
      obtain ⟨x, hx⟩ : ∃ x, elAt ls k = x := ⟨_, rfl⟩
      have el : elAt zs k = lxW x := by rw [← hx]; exact elAt_lx (unhide HE) hlt
      have hin := (unhide HEL) k hlt
      have q := hc k hlt
      rw [hx] at hin q
      have cl := fun {p : Addr} {v : Value} (h : w.cell? p = some v) => ((unhide BW).cell (p := p) (block_lt_of_cell h)).trans h
      have s0 := cl q.1
      have s1 := cl q.2.1
      have s2 := cl q.2.2.1
      have s3 := cl q.2.2.2.1
      have s4 := cl q.2.2.2.2.1
      have s5 := cl q.2.2.2.2.2
      have hi1 : (k : Int) < (ls.length : Int) := by omega
      have hi0 : (0 : Int) ≤ (k : Int) := by omega
      have HIN := hide hin
      have HEK := hide el
      clear q cl hx hc hin el
      cases q1 : qPt p (lxW x) with
      | true =>
        have HR : Hid (ixF (qPt p) zs = (k : Int)) := hide (by have := unhide HZL; exact ixF_at (by omega) (by rw [unhide HEK]; exact q1) (unhide AL))
        have CF : Hid (Calls Tryz.prog 95 #[.agg #[.string x.p, .int .i64 x.nb, .int .i64 x.le, .int .i64 x.mo, .int .i64 x.ne, .slice x.d.a x.d.n x.d.c], .pointer (some ⟨g, 0, none⟩)] wr fun e w' => e = .returned (.bool true) ∧ Below wr.heap.size wr w') := hide (by have := pt_clo x p g wr ((unhide HG).below (unhide BW)); rw [q1] at this; exact this)
        clear HC HIN HEK q1 AL
        go_wp2_with (go_at_call 95; refine (unhide CF).mono ?_; rintro e w2 ⟨rfl, b2⟩; have B2 := hide ((unhide BW).trans (b2.mono (unhide BW).size)); clear b2)
        go_ret
        exact ⟨ret_int (unhide HR).symm, unhide B2⟩
      | false =>
        have CF : Hid (Calls Tryz.prog 95 #[.agg #[.string x.p, .int .i64 x.nb, .int .i64 x.le, .int .i64 x.mo, .int .i64 x.ne, .slice x.d.a x.d.n x.d.c], .pointer (some ⟨g, 0, none⟩)] wr fun e w' => e = .returned (.bool false) ∧ Below wr.heap.size wr w') := hide (by have := pt_clo x p g wr ((unhide HG).below (unhide BW)); rw [q1] at this; exact this)
        have NX : Hid (∀ j, j < k + 1 → qPt p (elAt zs j) = false) := hide (fun j hj => by
          by_cases e3 : j = k
          · rw [e3, unhide HEK]; exact q1
          · exact (unhide AL) j (by omega))
        clear HC HIN HEK q1 AL
        go_wp2_with (go_at_call 95; refine (unhide CF).mono ?_; rintro e w2 ⟨rfl, b2⟩; have B2 := hide ((unhide BW).trans (b2.mono (unhide BW).size)); clear b2)
        go_roundw
        case rel => exact ⟨k + 1, by go_num, by omega, B2, NX⟩
        case measure => simp [intOf]; omega
    · have hi1 : ¬ (k : Int) < (ls.length : Int) := by omega
      have HR : Hid (ixF (qPt p) zs = -1) := hide (ixF_none (fun j hj => (unhide AL) j (by have := unhide HZL; omega)))
      go_wp2_with fail
      go_ret
      exact ⟨ret_int (unhide HR).symm, unhide BW⟩
set_option maxHeartbeats 1000000 in
theorem placeNb_any (s : Int) (a1 : Option Addr) (l1 c1 : Nat) (zs : List Lc) (n : Int) (w : World) (hr : LsT w a1 l1 zs) :
    Calls Tryz.prog 53 #[.agg #[.int .i64 s, .slice a1 l1 c1], .int .i64 n] w fun e w' => e = .returned (.int .i64 (fnF zs n)) ∧ Below w.heap.size w w' := by
  obtain ⟨W, hW⟩ : ∃ W, W = (w.alloc (Obj.cells #[.int .i64 s, .slice a1 l1 c1] 26)).alloc (Obj.cells #[.int .i64 n] 3) := ⟨_, rfl⟩
  have KB : Hid (Blk W w.heap.size [.int .i64 s, .slice a1 l1 c1]) := hide (by rw [hW]; exact (Blk.new _ _).alloc _)
  have KG : Hid (Blk W (w.heap.size + 1) [.int .i64 n]) := hide (by
    rw [hW]
    have := Blk.new (w := (w.alloc (Obj.cells #[.int .i64 s, .slice a1 l1 c1] 26))) [.int .i64 n] 3
    simpa using this)
  have BW : Hid (Below w.heap.size w W) := hide (by rw [hW]; exact bel2 _ _)
  have g1 : W.cell? ⟨w.heap.size, 1, none⟩ = some (.slice a1 l1 c1) := (unhide KB).c 1 (by simp)
  have HT := hide (hr.below (unhide BW))
  have HW := hide hW
  clear hr hW
  go_enter Tryz.func53, Tryz.ntmps53
  go_wp2_with fail
  rw [← unhide HW]
  clear HW
  go_wp2_with (go_at_call 78; refine (nb_ix _ _ _ zs n _ W (unhide HT) (unhide KG)).mono ?_; rintro e w2 ⟨rfl, b2⟩; have B2 := hide ((unhide BW).trans (b2.mono (unhide BW).size)); clear b2)
  go_ret
  exact ⟨ret_int (ixF_nb zs n), unhide B2⟩
set_option maxHeartbeats 1000000 in
theorem placePt_any (s : Int) (a1 : Option Addr) (l1 c1 : Nat) (zs : List Lc) (p : ByteArray) (w : World) (hr : LsT w a1 l1 zs) :
    Calls Tryz.prog 75 #[.agg #[.int .i64 s, .slice a1 l1 c1], .string p] w fun e w' => e = .returned (.int .i64 (ixF (qPt p) zs)) ∧ Below w.heap.size w w' := by
  obtain ⟨W, hW⟩ : ∃ W, W = (w.alloc (Obj.cells #[.int .i64 s, .slice a1 l1 c1] 26)).alloc (Obj.cells #[.string p] 9) := ⟨_, rfl⟩
  have KB : Hid (Blk W w.heap.size [.int .i64 s, .slice a1 l1 c1]) := hide (by rw [hW]; exact (Blk.new _ _).alloc _)
  have KG : Hid (Blk W (w.heap.size + 1) [.string p]) := hide (by
    rw [hW]
    have := Blk.new (w := (w.alloc (Obj.cells #[.int .i64 s, .slice a1 l1 c1] 26))) [.string p] 9
    simpa using this)
  have BW : Hid (Below w.heap.size w W) := hide (by rw [hW]; exact bel2 _ _)
  have g1 : W.cell? ⟨w.heap.size, 1, none⟩ = some (.slice a1 l1 c1) := (unhide KB).c 1 (by simp)
  have HT := hide (hr.below (unhide BW))
  have HW := hide hW
  clear hr hW
  go_enter Tryz.func75, Tryz.ntmps75
  go_wp2_with fail
  rw [← unhide HW]
  clear HW
  go_wp2_with (go_at_call 78; refine (pt_ix _ _ _ zs p _ W (unhide HT) (unhide KG)).mono ?_; rintro e w2 ⟨rfl, b2⟩; have B2 := hide ((unhide BW).trans (b2.mono (unhide BW).size)); clear b2)
  go_ret
  exact ⟨rfl, unhide B2⟩
set_option maxHeartbeats 1000000 in
theorem ne_con (a1 : Option Addr) (l1 c1 : Nat) (zs : List Lc) (n : Int) (g : Nat) (w : World) (hr : LsT w a1 l1 zs) (hg : Blk w g [.int .i64 n]) :
    Calls Tryz.prog 86 #[.slice a1 l1 c1, .func (.func 87) #[] #[.pointer (some ⟨g, 0, none⟩)]] w fun e w' => e = .returned (.bool (neB zs n)) ∧ Below w.heap.size w w' := by
  have HT := hide hr
  have HG := hide hg
  clear hr hg
  go_enter Tryz.func86, Tryz.ntmps86
  go_wp2_with (go_at_call 78; refine (ne_ix _ _ _ zs n _ w (unhide HT) (unhide HG)).mono ?_; rintro e w2 ⟨rfl, b2⟩; have B2 := hide b2; clear b2)
  go_ret
  exact ⟨ret_bool (ixF_ne zs n), unhide B2⟩
set_option maxHeartbeats 1000000 in
theorem isNeeded_any (s : Int) (a1 : Option Addr) (l1 c1 : Nat) (zs : List Lc) (n : Int) (w : World) (hr : LsT w a1 l1 zs) :
    Calls Tryz.prog 54 #[.agg #[.int .i64 s, .slice a1 l1 c1], .int .i64 n] w fun e w' => e = .returned (.bool (neB zs n)) ∧ Below w.heap.size w w' := by
  obtain ⟨W, hW⟩ : ∃ W, W = (w.alloc (Obj.cells #[.int .i64 s, .slice a1 l1 c1] 26)).alloc (Obj.cells #[.int .i64 n] 3) := ⟨_, rfl⟩
  have KB : Hid (Blk W w.heap.size [.int .i64 s, .slice a1 l1 c1]) := hide (by rw [hW]; exact (Blk.new _ _).alloc _)
  have KG : Hid (Blk W (w.heap.size + 1) [.int .i64 n]) := hide (by
    rw [hW]
    have := Blk.new (w := (w.alloc (Obj.cells #[.int .i64 s, .slice a1 l1 c1] 26))) [.int .i64 n] 3
    simpa using this)
  have BW : Hid (Below w.heap.size w W) := hide (by rw [hW]; exact bel2 _ _)
  have g1 : W.cell? ⟨w.heap.size, 1, none⟩ = some (.slice a1 l1 c1) := (unhide KB).c 1 (by simp)
  have HT := hide (hr.below (unhide BW))
  have HW := hide hW
  clear hr hW
  go_enter Tryz.func54, Tryz.ntmps54
  go_wp2_with fail
  rw [← unhide HW]
  clear HW
  go_wp2_with (go_at_call 86; refine (ne_con _ _ _ zs n _ W (unhide HT) (unhide KG)).mono ?_; rintro e w2 ⟨rfl, b2⟩; have B2 := hide ((unhide BW).trans (b2.mono (unhide BW).size)); clear b2)
  go_ret
  exact ⟨rfl, unhide B2⟩

end Go.Proofs.YtemodlgmjgdjpaaGreatDoor

namespace Go.Proofs.YtemodlgmjgdjpaaGreatDoor
open Go Go.RowKit

set_option maxHeartbeats 2000000 in
theorem tk_clo (x : Lx) (p : ByteArray) (g : Nat) (w : World) (r : List Value) (hg : Blk w g (.string p :: r)) :
    Calls Tryz.prog 42 #[.agg #[.string x.p, .int .i64 x.nb, .int .i64 x.le, .int .i64 x.mo, .int .i64 x.ne, .slice x.d.a x.d.n x.d.c], .pointer (some ⟨g, 0, none⟩)] w fun e w' => e = .returned (.bool (qPt p (lxW x))) ∧ Below w.heap.size w w' := by
  have c0 : w.cell? ⟨g, 0, none⟩ = some (.string p) := hg.c 0 (by simp)
  have hlt := hg.lt
  have c1 := (World.cell?_alloc_lt w (Obj.cells #[.string x.p, .int .i64 x.nb, .int .i64 x.le, .int .i64 x.mo, .int .i64 x.ne, .slice x.d.a x.d.n x.d.c] 32) ⟨g, 0, none⟩ hlt).trans c0
  have HP : Hid (qPt p (lxW x) = decide (x.p = p)) := hide rfl
  obtain ⟨X, hX⟩ : ∃ z, x.p = z := ⟨_, rfl⟩
  rw [hX] at HP c1 ⊢
  by_cases e : X = p
  · subst e
    clear hX c0 hg
    go_enter Tryz.func42, Tryz.ntmps42
    go_wp2
    go_ret
    exact ⟨ret_bool (by rw [unhide HP]; simp), bel1 _⟩
  · have d := txl_ne' e
    have HD : Hid (decide (X = p) = false) := hide (decide_eq_false e)
    clear hX c0 hg e
    go_enter Tryz.func42, Tryz.ntmps42
    go_wp2
    go_ret
    exact ⟨ret_bool (by rw [unhide HP, unhide HD]), bel1 _⟩
set_option maxRecDepth 20000 in
set_option maxHeartbeats 2000000 in
theorem tk_ix (a1 : Option Addr) (l1 c1 : Nat) (zs : List Lc) (p : ByteArray) (g : Nat) (w : World) (hr : LsT w a1 l1 zs) (r : List Value) (hg : Blk w g (.string p :: r)) :
    Calls Tryz.prog 78 #[.slice a1 l1 c1, .func (.func 42) #[] #[.pointer (some ⟨g, 0, none⟩)]] w fun e w' => e = .returned (.int .i64 (ixF (qPt p) zs)) ∧ Below w.heap.size w w' := by
  have hzl := hr.len_eq
  obtain ⟨ls, e, hl⟩ := hr.ex
  have hz := hl.row.len_eq
  have HO := hide hl.row.six
  have HEL := hide hl.el
  have hsm := hl.row.small
  have HE := hide e
  have HZL := hide hzl
  have HT := hide hr
  subst hz
  clear hr hl e hzl
  have HG := hide hg
  clear hg
  go_enter Tryz.func78, Tryz.ntmps78
  go_wp2_with fail
  go_loopw [8] (fun i wr => ∃ k : Nat, i = .int .i64 k ∧ k ≤ ls.length ∧ Hid (Below w.heap.size w wr) ∧ Hid (∀ j, j < k → qPt p (elAt zs j) = false)) (fun i _ => ls.length - (intOf i).toNat)
  case atStart => exact ⟨0, rfl, Nat.zero_le _, hide (Below.refl _ _), hide (fun j hj => by omega)⟩
  case round =>
    obtain ⟨k, rfl, hk, BW, AL⟩ := hrel
    by_cases hlt : k < ls.length
    · rcases (unhide HO) with ⟨h0, _⟩ | ⟨bb, off, rfl, _, hc⟩
      · omega
      have HC := hide hc
      obtain ⟨x, hx⟩ : ∃ x, elAt ls k = x := ⟨_, rfl⟩
      have el : elAt zs k = lxW x := by rw [← hx]; exact elAt_lx (unhide HE) hlt
      have hin := (unhide HEL) k hlt
      have q := hc k hlt
      rw [hx] at hin q
      have cl := fun {p : Addr} {v : Value} (h : w.cell? p = some v) => ((unhide BW).cell (p := p) (block_lt_of_cell h)).trans h
      have s0 := cl q.1
      have s1 := cl q.2.1
      have s2 := cl q.2.2.1
      have s3 := cl q.2.2.2.1
      have s4 := cl q.2.2.2.2.1
      have s5 := cl q.2.2.2.2.2
      have hi1 : (k : Int) < (ls.length : Int) := by omega
      have hi0 : (0 : Int) ≤ (k : Int) := by omega
      have HIN := hide hin
      have HEK := hide el
      clear q cl hx hc hin el
      cases q1 : qPt p (lxW x) with
      | true =>
        have HR : Hid (ixF (qPt p) zs = (k : Int)) := hide (by have := unhide HZL; exact ixF_at (by omega) (by rw [unhide HEK]; exact q1) (unhide AL))
        have CF : Hid (Calls Tryz.prog 42 #[.agg #[.string x.p, .int .i64 x.nb, .int .i64 x.le, .int .i64 x.mo, .int .i64 x.ne, .slice x.d.a x.d.n x.d.c], .pointer (some ⟨g, 0, none⟩)] wr fun e w' => e = .returned (.bool true) ∧ Below wr.heap.size wr w') := hide (by have := tk_clo x p g wr r ((unhide HG).below (unhide BW)); rw [q1] at this; exact this)
        clear HC HIN HEK q1 AL
        go_wp2_with (go_at_call 42; refine (unhide CF).mono ?_; rintro e w2 ⟨rfl, b2⟩; have B2 := hide ((unhide BW).trans (b2.mono (unhide BW).size)); clear b2)
        go_ret
        exact ⟨ret_int (unhide HR).symm, unhide B2⟩
      | false =>
        have CF : Hid (Calls Tryz.prog 42 #[.agg #[.string x.p, .int .i64 x.nb, .int .i64 x.le, .int .i64 x.mo, .int .i64 x.ne, .slice x.d.a x.d.n x.d.c], .pointer (some ⟨g, 0, none⟩)] wr fun e w' => e = .returned (.bool false) ∧ Below wr.heap.size wr w') := hide (by have := tk_clo x p g wr r ((unhide HG).below (unhide BW)); rw [q1] at this; exact this)
        have NX : Hid (∀ j, j < k + 1 → qPt p (elAt zs j) = false) := hide (fun j hj => by
          by_cases e3 : j = k
          · rw [e3, unhide HEK]; exact q1
          · exact (unhide AL) j (by omega))
        clear HC HIN HEK q1 AL
        go_wp2_with (go_at_call 42; refine (unhide CF).mono ?_; rintro e w2 ⟨rfl, b2⟩; have B2 := hide ((unhide BW).trans (b2.mono (unhide BW).size)); clear b2)
        go_roundw
        case rel => exact ⟨k + 1, by go_num, by omega, B2, NX⟩
        case measure => simp [intOf]; omega
    · have hi1 : ¬ (k : Int) < (ls.length : Int) := by omega
      have HR : Hid (ixF (qPt p) zs = -1) := hide (ixF_none (fun j hj => (unhide AL) j (by have := unhide HZL; omega)))
      go_wp2_with fail
      go_ret
      exact ⟨ret_int (unhide HR).symm, unhide BW⟩

end Go.Proofs.YtemodlgmjgdjpaaGreatDoor

/-
  The program's way: the nearest height that leads on, in plain numbers; what the points that lead on are.
-/
import Derived.Test.YtbaocifpifbldaePfImpl
import Derived.Test.YtbaocifpifbldaePfPro
namespace Go.Proofs.Ytbaocifpifbldae
open Go.RowKit

/-- The height ahead of place i of a way along lists of heights. -/
def wyA (ls : List Po) (first : Int) : Nat → Int
  | 0 => first
  | i + 1 => min (max (wyA ls first i) (elAt ls i).a1) (elAt ls i).a2
def wyL (ls : List Po) (first : Int) (k : Nat) : List Int := (List.range k).map fun i => wyA ls first (i + 1)
theorem wyL_len (ls : List Po) (first : Int) (k : Nat) : (wyL ls first k).length = k := by simp [wyL]
theorem wyL_next (ls : List Po) (first : Int) (k : Nat) : wyL ls first (k + 1) = wyL ls first k ++ [wyA ls first (k + 1)] := by simp [wyL, List.range_succ]
/-- Heights that lead on, all of them told. -/
def ldL (ps : List Po) (up down : Int) : List Po := lvL ps up down ps.length 0
theorem ldL_len (ps : List Po) (up down : Int) : (ldL ps up down).length = ps.length := lvL_len _ _ _ _ _
theorem ldL_at {ps : List Po} {up down : Int} {j : Nat} (h : j < ps.length) : elAt (ldL ps up down) j = ldI ps up down ps.length j := by
  unfold ldL
  rw [lvL_at h, if_pos ⟨Nat.zero_le _, h⟩]
theorem ldL_bd {ps : List Po} {up down : Int} (q1 : poB ps = true) (q2 : slB up down = true) : ∀ j, j < ps.length → (0 ≤ (elAt (ldL ps up down) j).a1 ∧ (elAt (ldL ps up down) j).a1 ≤ 100000) ∧ (0 ≤ (elAt (ldL ps up down) j).a2 ∧ (elAt (ldL ps up down) j).a2 ≤ 100000) := fun j hj => by
  rw [ldL_at hj]
  exact ldI_bd q1 q2 (Nat.le_refl _) (ps.length - 1 - j) j (by omega)
theorem way_is {ps : List Po} {up down first : Int} (q1 : poB ps = true) (q2 : slB up down = true) (q3 : bkB ps up down = true) (q4 : inB first (bkI ps up down 0).a1 (bkI ps up down 0).a2 = true) : ∀ (i : Nat), i < ps.length → prA ps up down first i = wyA (ldL ps up down) first (i + 1)
  | 0, h => by
    have := (way_step q1 q2 q3 q4 0 h).2.2
    rw [if_pos rfl] at this
    show _ = min (max first (elAt (ldL ps up down) 0).a1) (elAt (ldL ps up down) 0).a2
    rw [ldL_at h]
    exact this
  | i + 1, h => by
    have ih := way_is q1 q2 q3 q4 i (by omega)
    have := (way_step q1 q2 q3 q4 (i + 1) h).2.2
    rw [if_neg (by omega), Nat.add_sub_cancel, ih] at this
    show _ = min (max (wyA (ldL ps up down) first (i + 1)) (elAt (ldL ps up down) (i + 1)).a1) (elAt (ldL ps up down) (i + 1)).a2
    rw [ldL_at h]
    exact this
theorem wyL_is {ps : List Po} {up down first : Int} (q1 : poB ps = true) (q2 : slB up down = true) (q3 : bkB ps up down = true) (q4 : inB first (bkI ps up down 0).a1 (bkI ps up down 0).a2 = true) : wyL (ldL ps up down) first ps.length = pfL ps up down first := by
  have e : pfL ps up down first = prL ps up down first ps.length := by simp [pfL, pfB, q1, q2, q3, q4]
  rw [e]
  unfold wyL prL
  refine List.map_congr_left (fun i hi => ?_)
  exact (way_is q1 q2 q3 q4 i (by simpa using hi)).symm

theorem LoopAt.eqv {w wr : World} {boxes : List (Nat × List Value)} {base g k c : Nat} {zs : List Int} {x y : Int} (h : LoopAt w wr boxes base g k c (zs ++ [x])) (e : y = x) : LoopAt w wr boxes base g k c (zs ++ [y]) := by subst e; exact h
set_option maxRecDepth 20000 in
set_option maxHeartbeats 1000000 in
theorem wayFrom_any (first : Int) (h c2 n : Nat) (ls : List Po) (w : World) (hr : RowE 3 poC w (some ⟨h, 0, none⟩) n ls) (hn : n ≤ 1000) (hb : ∀ j, j < n → (0 ≤ (elAt ls j).a1 ∧ (elAt ls j).a1 ≤ 100000) ∧ (0 ≤ (elAt ls j).a2 ∧ (elAt ls j).a2 ≤ 100000)) :
    Calls Try.prog 59 #[.int .i64 first, .slice (some ⟨h, 0, none⟩) n c2] w fun e w' => ∃ a1 c1, e = .returned (.slice a1 n c1) ∧ OwnI w' w.heap.size (.slice a1 n c1) (wyL ls first n) ∧ Below w.heap.size w w' := by
  have hz := hr.len_eq
  have hcs : ∀ i, i < n → ∀ q, q < 3 → w.cell? ⟨h, i * 3 + q, none⟩ = some (poC (elAt ls i) q) := by
    rcases hr.open_ with ⟨h0, _⟩ | ⟨bb, off, e, _, hcs⟩
    · intro i hi; omega
    · have e1 : h = bb := by simpa using congrArg (fun o => (Option.map Addr.block o)) e
      have e2 : 0 = off := by simpa using congrArg (fun o => (Option.map Addr.off o)) e
      subst e1; subst e2
      intro i hi q hq
      have := hcs i hi q hq
      simpa using this
  have HCS := hide hcs
  have HBD := hide hb
  clear hr hcs hb
  go_enter Try.func59, Try.ntmps59
  go_wp2_with fail
  have K0 : Hid (LoopAt w (w.alloc (Obj.cells #[] 3)) [] w.heap.size w.heap.size 0 0 []) := hide ⟨fun p hp => by simp at hp, ownI_none (Nat.le_refl _), rfl, bel1 _, Nat.le_refl _, by simp⟩
  go_loopw [5, 6, 13] (fun s5 s6 s13 wr => ∃ (i g cp : Nat), i ≤ n ∧ s5 = .slice (some ⟨g, 0, none⟩) i cp ∧ s6 = .int .i64 (wyA ls first i) ∧ s13 = .int .i64 (i : Int) ∧ Hid (LoopAt w wr [] w.heap.size g i cp (wyL ls first i))) (fun _ _ s13 _ => n - (intOf s13).toNat)
  case atStart => exact ⟨0, _, 0, Nat.zero_le _, rfl, rfl, rfl, K0⟩
  case round =>
    obtain ⟨i, g, cp, hi, rfl, rfl, rfl, HK⟩ := hrel
    clear K0
    by_cases hlt : i < n
    · have n1 : (0 : Int) ≤ (i : Int) := by omega
      have n2 : (i : Int) < (n : Int) := by omega
      have bw := (unhide HK).b
      have hcs := unhide HCS
      have hb := (unhide HBD) i hlt
      obtain ⟨z, hzz⟩ : ∃ z, wyA ls first i = z := ⟨_, rfl⟩
      have HX : Hid (wyA ls first (i + 1) = min (max z (elAt ls i).a1) (elAt ls i).a2) := hide (by rw [← hzz]; rfl)
      have p0' : wr.cell? ⟨h, i * 3, none⟩ = some (.int .i64 (elAt ls i).a0) := (bw.cell (block_lt_of_cell (hcs i hlt 0 (by omega)))).trans (hcs i hlt 0 (by omega))
      have p1' : wr.cell? ⟨h, i * 3 + 1, none⟩ = some (.int .i64 (elAt ls i).a1) := (bw.cell (block_lt_of_cell (hcs i hlt 1 (by omega)))).trans (hcs i hlt 1 (by omega))
      have p2' : wr.cell? ⟨h, i * 3 + 2, none⟩ = some (.int .i64 (elAt ls i).a2) := (bw.cell (block_lt_of_cell (hcs i hlt 2 (by omega)))).trans (hcs i hlt 2 (by omega))
      have KE := hide ((unhide HK).below (bel1 (Obj.cells #[.int .i64 (elAt ls i).a0, .int .i64 (elAt ls i).a1, .int .i64 (elAt ls i).a2] 53)))
      rw [hzz]
      clear hcs bw hzz
      go_wp2_with (at_builtin; (refine wpList_app_int rfl _ _ rfl _ (unhide KE).o (unhide KE).l rfl (by simp) rfl (unhide KE).t (by omega) (by omega) ?_; intro g' c' w9 o9 gr9; have K9 := hide ((unhide KE).step o9 gr9); clear o9 gr9))
      all_goals
        go_roundw
        case rel => exact ⟨i + 1, _, _, by omega, rfl, congrArg (Value.int .i64) (by rw [unhide HX]; omega), by go_num, hide (by rw [wyL_next]; exact (unhide K9).eqv (by rw [unhide HX]; omega))⟩
        case measure => simp [intOf]; omega
    · have n2 : ¬ (i : Int) < (n : Int) := by omega
      have hie : i = n := by omega
      have HI := hide hie
      clear hie
      go_wp2
      go_ret
      have ko := (unhide HK).o
      have kb := (unhide HK).b
      rw [unhide HI] at ko
      exact ⟨some ⟨g, 0, none⟩, cp, (by rw [unhide HI]; try rfl), ko, kb⟩

end Go.Proofs.Ytbaocifpifbldae

/-
  A network of the program: a channel that has room for all that comes over it, filled and shut. At lists of at most 200 frames; nothing that was there is written.
-/
import Derived.Test.YticdccdkjepifaaMBuSum
import Derived.Test.YticdccdkjepifaaCommWp
import Derived.Deep.Cut
import Derived.KernelRfl
namespace Go.Proofs.Yticdccdkjepifaa
open Go Go.Conc Go.RowKit

theorem info_frame : (Try.prog.info? 22).map (·.bytes) = some 24 := by kernel_rfl
theorem mkChan (n : Nat) (hn : n ≤ 200) (w : World) : (Instr.makeChan 108 (.int .i64 (n : Int))).run Try.prog w = .ok (.chan (some w.heap.size)) (w.alloc (.chan n #[] false 0 0 false)) := by
  obtain ⟨i, hi, hb⟩ := Option.map_eq_some_iff.1 info_frame
  exact run_makeChan (P := Try.prog) (w := w) Try.underlying108 hi .i64 n (by omega) (by rw [hb]; omega)
/-- A channel as it lies. -/
def ChanIs (w : World) (c cap : Nat) (ss : List Sl) (cl : Bool) : Prop := ∃ s r, w.heap[c]? = some (.chan cap (ss.map slV).toArray cl s r false)
theorem ChanIs.lt {w : World} {c cap : Nat} {ss : List Sl} {cl : Bool} (h : ChanIs w c cap ss cl) : c < w.heap.size := by
  obtain ⟨s, r, e⟩ := h
  rcases Nat.lt_or_ge c w.heap.size with q | q
  · exact q
  · rw [Array.getElem?_eq_none q] at e; cases e
theorem ChanIs.below {w w' : World} {c cap : Nat} {ss : List Sl} {cl : Bool} (h : ChanIs w c cap ss cl) (k : Below w.heap.size w w') : ChanIs w' c cap ss cl := by
  have hl := h.lt
  obtain ⟨s, r, e⟩ := h
  exact ⟨s, r, (k.block c hl).trans e⟩
set_option maxRecDepth 20000 in
set_option maxHeartbeats 1000000 in
theorem network_is (ad : Option Addr) (len cap : Nat) (ss : List Sl) (w : World) (hr : RowE 1 slC w ad len ss) (hl : len ≤ 200) :
    Calls Try.prog 39 #[.slice ad len cap] w fun e w' => e = .returned (.chan (some w.heap.size)) ∧ ChanIs w' w.heap.size len ss true ∧ Below w.heap.size w w' := by
  have hz := hr.len_eq
  have HO := hide hr.open1
  clear hr
  subst hz
  have hmc := mkChan ss.length hl w
  go_enter Try.func39, Try.ntmps39
  go_wp2_with fail
  go_loopw [11] (fun s11 wr => ∃ (k s r : Nat), k ≤ ss.length ∧ s11 = .int .i64 (k : Int) ∧ Hid (wr.heap[w.heap.size]? = some (.chan ss.length ((ss.take k).map slV).toArray false s r false)) ∧ Hid (Below w.heap.size w wr)) (fun s11 _ => ss.length - (intOf s11).toNat)
  case atStart => exact ⟨0, 0, 0, Nat.zero_le _, rfl, hide (by simpa using heap_alloc_new w (.chan ss.length #[] false 0 0 false)), hide (bel1 _)⟩
  case round =>
    obtain ⟨k, s, r, hk, rfl, HC, HB⟩ := hrel
    by_cases hlt : k < ss.length
    · rcases (unhide HO) with ⟨h0, _⟩ | ⟨bb, off, rfl, _, hcs⟩
      · omega
      have m0 : wr.cell? ⟨bb, off + k, none⟩ = some (.slice (elAt ss k).a (elAt ss k).n (elAt ss k).c) := ((unhide HB).cell (block_lt_of_cell (hcs k hlt))).trans (hcs k hlt)
      have k0 : (0 : Int) ≤ (k : Int) := by omega
      have k1 : (k : Int) < (ss.length : Int) := by omega
      clear hcs hmc
      go_upto_region 5 with fail
      refine wp_region_reg ?_
      simp only [List.size_toArray, List.length_cons, List.length_nil, List.range, List.range.loop]
      refine regWp_value (v := .chan (some w.heap.size)) (w' := wr) rfl rfl (by simp [go_sem, execOp, Act.eval]) ?_
      refine regWp_value (v := slV (elAt ss k)) (w' := wr) rfl rfl (by simp [go_sem, execOp, Act.eval, slV]) ?_
      refine regWp_send (c := w.heap.size) (v := slV (elAt ss k)) (z := .tuple #[]) rfl rfl (by simp [go_sem, execOp, scase, Act.eval]) (unhide HC) (by simp; omega) ?_
      refine regWp_end ?_
      have HC2 : Hid ((wr.setChan w.heap.size ss.length (((ss.take k).map slV).toArray.push (slV (elAt ss k))) false (s + 1) r false).heap[w.heap.size]? = some (.chan ss.length ((ss.take (k + 1)).map slV).toArray false (s + 1) r false)) := hide (by
        rw [slBuf_push hlt]
        exact heap_setChan _ _ _ _ _ _ _ _ (ChanIs.lt (w := wr) (ss := ss.take k) ⟨s, r, unhide HC⟩))
      have HB2 : Hid (Below w.heap.size w (wr.setChan w.heap.size ss.length (((ss.take k).map slV).toArray.push (slV (elAt ss k))) false (s + 1) r false)) := hide (below_setChan (unhide HB) (Nat.le_refl _) _ _ _ _ _ _)
      obtain ⟨V, hV⟩ : ∃ V, V = wr.setChan w.heap.size ss.length (((ss.take k).map slV).toArray.push (slV (elAt ss k))) false (s + 1) r false := ⟨_, rfl⟩
      rw [← hV] at HC2 HB2 ⊢
      clear hV HC HB m0
      go_wp2_with fail
      go_roundw
      case rel => exact ⟨k + 1, s + 1, r, by omega, by go_num, HC2, HB2⟩
      case measure => simp [intOf]; omega
    · have hkl : k = ss.length := by omega
      have HC3 : Hid (wr.heap[w.heap.size]? = some (.chan ss.length (ss.map slV).toArray false s r false)) := hide (by have := unhide HC; rw [hkl, List.take_length] at this; exact this)
      have hcl := fun ats ty => run_close_open (P := Try.prog) (w := wr) ats ty (unhide HC3)
      have HV : Hid (ChanIs (wr.setChan w.heap.size ss.length (ss.map slV).toArray true s r false) w.heap.size ss.length ss true) := hide ⟨s, r, heap_setChan _ _ _ _ _ _ _ _ (ChanIs.lt (w := wr) (ss := ss) ⟨s, r, unhide HC3⟩)⟩
      have HB3 : Hid (Below w.heap.size w (wr.setChan w.heap.size ss.length (ss.map slV).toArray true s r false)) := hide (below_setChan (unhide HB) (Nat.le_refl _) _ _ _ _ _ _)
      have k1 : ¬ (k : Int) < (ss.length : Int) := by omega
      clear hkl hmc
      go_wp2_with fail
      go_ret
      exact ⟨rfl, unhide HV, unhide HB3⟩

end Go.Proofs.Yticdccdkjepifaa

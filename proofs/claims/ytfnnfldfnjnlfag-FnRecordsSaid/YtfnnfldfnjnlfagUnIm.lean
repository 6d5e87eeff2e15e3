/-
  What the program's Unpack20 answers: rows, a code and a place. At bytes of at most 1048576; the rows own their memory, nothing that was there is written.
-/
import Derived.Test.YtfnnfldfnjnlfagUn1
namespace Go.Proofs.Ytfnnfldfnjnlfag
open Go Go.RowKit

set_option maxRecDepth 20000 in
set_option maxHeartbeats 2000000 in
theorem implUnpack20_some (bb bo n bc : Nat) (bs : List Int) (w : World) (hr : RowE 1 byC w (some ⟨bb, bo, none⟩) n bs) (hb : ∀ i, i < n → 0 ≤ elAt bs i ∧ elAt bs i ≤ 255) (hsm : n ≤ 1048576) (hcap : n ≤ bc) (hlt : bb < w.heap.size) :
    Calls Try.prog 22 #[.slice (some ⟨bb, bo, none⟩) n bc] w fun e w' => ∃ g c us, e = .returned (.tuple #[.slice (some ⟨g, 0, none⟩) (unLs bs).length c, .int .i64 (unCo bs), .int .i64 (unPl bs)]) ∧ OwnRT w' w.heap.size (.slice (some ⟨g, 0, none⟩) (unLs bs).length c) us (unLs bs) ∧ Below w.heap.size w w' := by
  obtain ⟨V, hV⟩ : ∃ V, V = w.alloc (Obj.cells #[.slice (some ⟨bb, bo, none⟩) n bc, .int .i64 0] 115) := ⟨_, rfl⟩
  have BV : Hid (Below w.heap.size w V) := hide (by rw [hV]; exact bel1 _)
  have UV : Hid (Un V w.heap.size bb bo n bc 0 bs) := hide ⟨by rw [hV]; exact Blk.new (w := w) [.slice (some ⟨bb, bo, none⟩) n bc, .int .i64 0] 115, hr.below (unhide BV), by omega, hcap, by omega, hb, hsm⟩
  have HV := hide hV
  have HL := hide hr.len_eq
  clear hV hr hb
  go_enter Try.func22, Try.ntmps22
  go_wp2_with fail
  rw [← unhide HV]
  refine (readRecord_any _ _ _ _ _ bs _ (unhide UV)).mono ?_
  rintro e w1 ⟨g1, g, c, us, t, rfl, o1, u1, hp⟩
  have B1 := hide ((unhide BV).grown g1 (unhide BV).size (fun k hk => by cases hk; exact Nat.le_refl _))
  have O1 : Hid (OwnRT w1 w.heap.size (.slice (some ⟨g, 0, none⟩) (unLs bs).length c) us (unLs bs)) := hide ⟨o1.o.mono (unhide BV).size, o1.con⟩
  have U1 := hide u1
  obtain ⟨L, hL⟩ : ∃ L, L = (unLs bs).length := ⟨_, rfl⟩
  obtain ⟨cc, hcc⟩ : ∃ cc, cc = unCo bs := ⟨_, rfl⟩
  rw [← hcc] at hp ⊢
  rw [← hL] at O1 ⊢
  have HP := hide hp
  have HCC := hide hcc
  have HLL := hide hL
  clear g1 o1 u1 hp hcc hL
  by_cases q0 : cc = 0
  · have e0 : (cc == 0) = true := by rw [q0]; rfl
    have HQ := hide q0
    clear q0
    go_wp2_with fail
    refine bodyPost_ret (v := .tuple #[.slice (some ⟨g, 0, none⟩) L c, .int .i64 0, .int .i64 0]) (by simp [results, Try.results22, go_sem]) rfl ?_
    refine ⟨g, c, us, ?_, ?_, unhide B1⟩
    · rw [unhide HP, if_pos (unhide HQ), ← unhide HCC, ← unhide HLL, unhide HQ]
    · rw [← unhide HLL]; exact unhide O1
  · have e0 : (cc == 0) = false := by rw [beq_eq_false_iff_ne]; exact q0
    by_cases q1 : cc = 1
    · have e1 : (cc == 1) = true := by rw [q1]; rfl
      have HQ := hide q1
      have HQ0 := hide q0
      clear q0 q1
      go_wp2_with fail
      refine bodyPost_ret (v := .tuple #[.slice (some ⟨g, 0, none⟩) L c, .int .i64 1, .int .i64 (n : Int)]) (by simp [results, Try.results22, go_sem]) rfl ?_
      refine ⟨g, c, us, ?_, ?_, unhide B1⟩
      · rw [unhide HP, if_neg (unhide HQ0), if_pos (unhide HQ), ← unhide HCC, ← unhide HLL, unhide HQ]
      · rw [← unhide HLL]; exact unhide O1
    · have e1 : (cc == 1) = false := by rw [beq_eq_false_iff_ne]; exact q1
      have HQ := hide q1
      have HQ0 := hide q0
      obtain ⟨ι, fW, _, hcb, hcl⟩ := belClass w1
      have HB := hide hcb
      have HA := hide hcl
      have c1 : ∀ x, (fW x).cell? ⟨w.heap.size, 1, none⟩ = some (.int .i64 (t : Int)) := fun x => ((unhide U1).k.below (hcb x)).c 1 (by simp)
      obtain ⟨y0, hy0⟩ := hcl w1 (Below.refl _ _)
      rw [hy0]
      clear hcb hcl hy0 q0 q1
      go_wp2_with fail
      repeat (refine wp_region_bel (fun w' h => (unhide HA) w' ((unhide HB _).trans (h.mono (unhide HB _).size))) (by kernel_rfl) (by kernel_rfl) ?_; (repeat (go_big_quiet_step (fail))); refine wpQuiet_nil ?_; rintro _ ⟨y, rfl⟩; (first | go_wp2_with fail | go_wp2))
      refine bodyPost_ret (v := .tuple #[.slice (some ⟨g, 0, none⟩) L c, .int .i64 cc, .int .i64 (t : Int)]) (by simp [results, Try.results22, go_sem]) rfl ?_
      refine ⟨g, c, us, ?_, ?_, (unhide B1).trans ((unhide HB y).mono (unhide B1).size)⟩
      · rw [unhide HP, if_neg (unhide HQ0), if_neg (unhide HQ), ← unhide HCC, ← unhide HLL]
      · rw [← unhide HLL]; exact (unhide O1).below (unhide HB y)

end Go.Proofs.Ytfnnfldfnjnlfag

/-
  The windows of one partition, in the program: the plain list, in memory of its own; nothing that was there is written.
-/
import Derived.Test.YtndhiecakojjgazSqPure
import Derived.Test.YtndhiecakojjgazPqOwn
import Derived.Test.YtndhiecakojjgazShSpec
namespace Go.Proofs.Ytndhiecakojjgaz
open Go.RowKit

set_option maxRecDepth 20000 in
set_option maxHeartbeats 2000000 in
theorem windowsOf_is (fr pa : Int) (da : Option Addr) (dn dc : Nat) (ws : List Wn) (p : Int) (w : World) (hl : ws.length ≤ 40) (hr : RowE 3 wnC w da dn ws) :
    Calls Try.prog 46 #[.agg #[.int .i64 fr, .int .i64 pa, .slice da dn dc], .int .i64 p] w fun e w' => ∃ g m cp : Nat, e = .returned (.slice (some ⟨g, 0, none⟩) m cp) ∧ m = (shM ws p ws.length).length ∧ OwnE 3 wnC w' w.heap.size 60 (.slice (some ⟨g, 0, none⟩) m cp) (shM ws p ws.length) ∧ Below w.heap.size w w' := by
  have hz := hr.len_eq
  have hs := hr.small
  have HR := hide hr
  clear hr
  subst hz
  obtain ⟨W, hW⟩ : ∃ W, W = w.alloc (Obj.cells #[.int .i64 fr, .int .i64 pa, .slice da ws.length dc] 35) := ⟨_, rfl⟩
  have K0 : Hid (Blk W w.heap.size [.int .i64 fr, .int .i64 pa, .slice da ws.length dc]) := hide (by rw [hW]; exact Blk.new _ _)
  have B0 : Hid (Below w.heap.size w W) := hide (by rw [hW]; exact bel1 _)
  have HW := hide hW
  clear hW
  have S0 : Hid (w.heap.size + 1 ≤ W.heap.size) := hide (by rw [unhide HW]; simp)
  have KJ : Hid (ShW w (W.alloc (Obj.cells #[] 60)) [.int .i64 fr, .int .i64 pa, .slice da ws.length dc] W.heap.size 0 0 (shM ws p 0)) := hide ⟨wnE_none (unhide S0), rfl, (unhide K0).alloc _, (unhide B0).alloc (unhide B0).size _, by have q := unhide S0; simp; omega⟩
  go_enter Try.func46, Try.ntmps46
  go_upto_region 1 with fail
  rw [← unhide HW]
  clear HW
  have p2 : (W.alloc (Obj.cells #[] 60)).cell? ⟨w.heap.size, 2, none⟩ = some (.slice da ws.length dc) := (unhide KJ).blk.c 2 (by simp)
  go_wp2_with fail
  clear p2
  go_loopw [5, 12] (fun s5 s12 wr => ∃ (k m g cp : Nat), k ≤ ws.length ∧ m ≤ k ∧ s5 = .slice (some ⟨g, 0, none⟩) m cp ∧ s12 = .int .i64 (k : Int) ∧ Hid (ShW w wr [.int .i64 fr, .int .i64 pa, .slice da ws.length dc] g m cp (shM ws p k))) (fun _ s12 _ => ws.length - (intOf s12).toNat)
  case atStart => exact ⟨0, 0, _, 0, Nat.zero_le _, Nat.le_refl _, rfl, rfl, KJ⟩
  case round =>
    clear KJ K0 B0 S0
    obtain ⟨k, m, g1, cp, hk, hm, rfl, rfl, HK⟩ := hrel
    by_cases hlt : k < ws.length
    · rcases ((unhide HR).below (unhide HK).bel).wn3 with ⟨z0, _⟩ | ⟨bb, off, rfl, _, hcs⟩
      · omega
      have m0 := (hcs k hlt).1
      have m1 := (hcs k hlt).2.1
      have m2 := (hcs k hlt).2.2
      obtain ⟨v0, hv0⟩ : ∃ z, (elAt ws k).a0 = z := ⟨_, rfl⟩
      obtain ⟨v1, hv1⟩ : ∃ z, (elAt ws k).a1 = z := ⟨_, rfl⟩
      obtain ⟨v2, hv2⟩ : ∃ z, (elAt ws k).a2 = z := ⟨_, rfl⟩
      have HXX : Hid (elAt ws k = ⟨v0, v1, v2⟩) := hide (by rw [← hv0, ← hv1, ← hv2])
      have HV0 := hide hv0
      rw [hv0] at m0
      rw [hv1] at m1
      rw [hv2] at m2
      have k0 : (0 : Int) ≤ (k : Int) := by omega
      have k1 : (k : Int) < (ws.length : Int) := by omega
      obtain ⟨V, hV⟩ : ∃ V, V = wr.alloc (Obj.cells #[.int .i64 v0, .int .i64 v1, .int .i64 v2] 60) := ⟨_, rfl⟩
      have KV := hide ((unhide HK).below (by rw [hV]; exact bel1 _ : Below wr.heap.size wr V))
      have KX : Hid (Blk V wr.heap.size [.int .i64 v0, .int .i64 v1, .int .i64 v2]) := hide (by rw [hV]; exact Blk.new _ _)
      obtain ⟨X, hX⟩ : ∃ X, wr.heap.size = X := ⟨_, rfl⟩
      rw [hX] at KX
      have HV := hide hV
      have HX := hide hX
      clear hcs hV hX hv0 hv1 hv2
      go_upto_region 5 with fail
      rw [← unhide HV, unhide HX]
      clear HV HX m0 m1 m2
      have y0 : V.cell? ⟨X, 0, none⟩ = some (.int .i64 v0) := (unhide KX).c 0 (by simp)
      have y1 : V.cell? ⟨X, 1, none⟩ = some (.int .i64 v1) := (unhide KX).c 1 (by simp)
      have y2 : V.cell? ⟨X, 2, none⟩ = some (.int .i64 v2) := (unhide KX).c 2 (by simp)
      by_cases hq : v0 = p
      · have HQ : Hid ((elAt ws k).a0 = p) := hide (by rw [unhide HV0]; exact hq)
        have q5 : (v0 == p) = true := by simpa using hq
        clear hq
        go_wp2_with (at_builtin; (refine wpList_app_elG (K := 3) (cells := wnC) rfl _ _ 33 60 rfl Try.underlying33 infoWn rfl (by decide) (by decide) (Wn.mk v0 v1 v2) [.int .i64 v0, .int .i64 v1, .int .i64 v2] rfl (fun q hq => by match q, hq with | 0, _ => rfl | 1, _ => rfl | 2, _ => rfl) (fun u hu => by simp at hu; rcases hu with rfl | rfl | rfl <;> rfl) (unhide KV).o (unhide KV).l rfl (by simp) rfl (unhide KV).sz (by omega) ?_; intro g' c' w9 o9 gr9 _; have K9 := hide ((unhide KV).app o9 gr9); clear o9 gr9))
        go_roundw
        case rel => exact ⟨k + 1, m + 1, g', c', by omega, by omega, rfl, by go_num, by simp only [shM]; rw [if_pos (unhide HQ), unhide HXX]; exact K9⟩
        case measure => simp [intOf]; omega
      · have HQ : Hid (¬ (elAt ws k).a0 = p) := hide (by rw [unhide HV0]; exact hq)
        have q5 : (v0 == p) = false := by simpa using hq
        go_wp2_with fail
        go_roundw
        case rel => exact ⟨k + 1, m, g1, cp, by omega, by omega, rfl, by go_num, by simp only [shM]; rw [if_neg (unhide HQ)]; exact KV⟩
        case measure => simp [intOf]; omega
    · have hkl : k = ws.length := by omega
      have k1 : ¬ (k : Int) < (ws.length : Int) := by omega
      rw [hkl] at HK
      clear hkl
      go_wp2_with fail
      go_ret
      exact ⟨g1, m, cp, rfl, (unhide HK).l.symm, (unhide HK).o.mono (Nat.le_succ _), (unhide HK).bel⟩

end Go.Proofs.Ytndhiecakojjgaz

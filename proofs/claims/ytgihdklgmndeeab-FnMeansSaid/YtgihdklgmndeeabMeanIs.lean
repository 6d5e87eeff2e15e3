/-
  What MeanOf answers in the specification and in the program: the plain mean, number and flag. No condition; nothing that was there is written.
-/
import Derived.Test.YtgihdklgmndeeabChecked
import Derived.Test.YtgihdklgmndeeabMeanPure
import Derived.Test.YtgihdklgmndeeabFlWalk
import Derived.Test.YtgihdklgmndeeabRowFl
import Derived.Test.YtgihdklgmndeeabMissing
import Derived.Deep.DrawnRows
namespace Go.Proofs.Ytgihdklgmndeeab
open Go.RowKit
attribute [local go_sem] run_store_float

set_option maxHeartbeats 4000000 in
theorem implMeanOf_any (ad : Option Addr) (len cap : Nat) (ps : List Nat) (w : World) (hr : RowE 1 flC w ad len ps) :
    Calls Try.prog 43 #[.slice ad len cap] w fun e w' => ∃ x, e = .returned (.tuple #[.float .f64 x, .int .i64 (meanN ps), .bool (meanB ps)]) ∧ Alike .f64 x (meanX ps) ∧ Below w.heap.size w w' := by
  have hz := hr.len_eq
  have hs := hr.small
  have HO := hide hr.open1
  clear hr
  subst hz
  by_cases hlen : ps.length ≤ 60
  · have hfi : ∀ n : Int, floatOfInt .f64 n = fint n := fun _ => rfl
    go_enter Try.func43, Try.ntmps43
    go_wp2
    go_loopw [5, 6, 15] (fun s n i wr => ∃ k x : Nat, k ≤ ps.length ∧ i = .int .i64 k ∧ s = .float .f64 x ∧ Alike .f64 x (msum ps k) ∧ n = .int .i64 (mcnt ps k) ∧ ∃ q, wr = w.drewN q) (fun _ _ i _ => ps.length - (intOf i).toNat)
    case atStart => exact ⟨0, 0, Nat.zero_le _, rfl, rfl, .refl _ _, rfl, 0, rfl⟩
    case round =>
      obtain ⟨k, x, hk, rfl, rfl, hx, rfl, q, rfl⟩ := hrel
      have hle := mcnt_le ps k
      have HX := hide hx
      clear hx
      by_cases hlt : k < ps.length
      · rcases (unhide HO) with ⟨h0, _⟩ | ⟨bb, off, rfl, _, hc⟩
        · omega
        have ca : w.cell? ⟨bb, off + k, none⟩ = some (.float .f64 (elAt ps k)) := hc k hlt
        have hi1 : (0 : Int) ≤ (k : Int) := by omega
        have hi2 : (k : Int) < (ps.length : Int) := by omega
        clear hc
        cases na : nanB .f64 (elAt ps k) with
        | true =>
          have HM : Hid (msum ps (k + 1) = msum ps k ∧ mcnt ps (k + 1) = mcnt ps k) := hide (msum_nan na)
          go_wp2_with fail
          refine (missing_any _ _).mono ?_
          rw [na]
          rintro e w' ⟨rfl, hw⟩
          subst w'
          go_wp2_with fail
          go_roundw
          case rel => exact ⟨k + 1, x, by omega, by go_num, rfl, by rw [(unhide HM).1]; exact unhide HX, by rw [(unhide HM).2], _, by first | rfl | rw [World.drewN_drewN]⟩
          case measure => simp [intOf]; omega
        | false =>
          have HM : Hid (msum ps (k + 1) = fl .add .f64 (msum ps k) (elAt ps k) ∧ mcnt ps (k + 1) = mcnt ps k + 1) := hide (msum_num na)
          go_wp2_with fail
          refine (missing_any _ _).mono ?_
          rw [na]
          rintro e w' ⟨rfl, hw⟩
          subst w'
          go_wp2_with (with_reducible show wpList _ _ _ (⟨_, .binOp _ _ _ _ _, _, _, _, none⟩ :: _) _ _; refine at_flop (by decide) .f64 _ _ rfl rfl ?_; intro z1 n1 h1)
          go_roundw
          case rel => exact ⟨k + 1, z1, by omega, by go_num, rfl, by rw [(unhide HM).1]; exact h1.trans ((unhide HX).fl (.refl _ _)), by rw [(unhide HM).2]; go_num, _, by first | rfl | simp only [World.drewN_drewN]⟩
          case measure => simp [intOf]; omega
      · obtain rfl : k = ps.length := by omega
        by_cases hc : 0 < mcnt ps ps.length
        · have hb : meanB ps = true := by unfold meanB; simp [hlen, hc]
          have HB : Hid (meanB ps = true ∧ meanN ps = mcnt ps ps.length ∧ meanX ps = fl .quo .f64 (msum ps ps.length) (fint (mcnt ps ps.length))) := hide (by unfold meanN meanX; rw [if_pos hb, if_pos hb]; exact ⟨hb, rfl, rfl⟩)
          have hn : ((mcnt ps ps.length : Int) == 0) = false := by simp; omega
          clear hb
          go_wp2_with (with_reducible show wpList _ _ _ (⟨_, .binOp _ _ _ _ _, _, _, _, none⟩ :: _) _ _; refine at_flop (by decide) .f64 _ _ rfl rfl ?_; intro z1 n1 h1)
          go_ret3
          refine ⟨z1, by rw [(unhide HB).1, (unhide HB).2.1]; rfl, ?_, ?_⟩
          · rw [(unhide HB).2.2]; exact h1.trans ((unhide HX).fl (.refl _ _))
          · first | exact bel0d _ | (simp only [World.drewN_drewN]; exact bel0d _)
        · have hb : meanB ps = false := by unfold meanB; simp [hc]
          have HB : Hid (meanB ps = false ∧ meanN ps = 0 ∧ meanX ps = 0) := hide (by unfold meanN meanX; rw [if_neg (by rw [hb]; simp), if_neg (by rw [hb]; simp)]; exact ⟨hb, rfl, rfl⟩)
          have hn : ((mcnt ps ps.length : Int) == 0) = true := by simp; omega
          clear hb
          go_wp2
          go_ret3
          exact ⟨0, by rw [(unhide HB).1, (unhide HB).2.1]; rfl, by rw [(unhide HB).2.2]; exact .refl _ _, bel0d _⟩
  · have hb : meanB ps = false := by unfold meanB; simp [hlen]
    have HB : Hid (meanB ps = false ∧ meanN ps = 0 ∧ meanX ps = 0) := hide (by unfold meanN meanX; rw [if_neg (by rw [hb]; simp), if_neg (by rw [hb]; simp)]; exact ⟨hb, rfl, rfl⟩)
    clear hb
    go_enter Try.func43, Try.ntmps43
    go_wp2
    go_ret3
    exact ⟨0, by rw [(unhide HB).1, (unhide HB).2.1]; rfl, by rw [(unhide HB).2.2]; exact .refl _ _, Below.refl _ _⟩

end Go.Proofs.Ytgihdklgmndeeab

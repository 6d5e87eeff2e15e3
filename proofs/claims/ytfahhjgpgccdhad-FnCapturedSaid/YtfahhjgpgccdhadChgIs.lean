/-
  What Changes answers in the model and in the program: how often the mode is another than in the pilot ahead. At lists of at most 1048576; no memory is written.
-/
import Derived.Test.YtfahhjgpgccdhadToPl
import Derived.Deep.Quiet
namespace Go.Proofs.Ytfahhjgpgccdhad
open Go.RowKit

/-- The changes among the first k. -/
def chgN (ps : List Pl) : Nat → Nat
  | 0 => 0
  | k + 1 => chgN ps k + (if k ≠ 0 ∧ (elAt ps k).a0 ≠ (elAt ps (k - 1)).a0 then 1 else 0)
theorem chgN_le (ps : List Pl) : ∀ k, chgN ps k ≤ k
  | 0 => Nat.le_refl _
  | k + 1 => by have := chgN_le ps k; unfold chgN; split <;> omega
theorem chgN_one (ps : List Pl) : chgN ps 1 = 0 := by simp [chgN]
theorem chgN_yes (ps : List Pl) {n j : Nat} (hn : n = j + 1) (h : ¬ (elAt ps n).a0 = (elAt ps j).a0) : chgN ps (n + 1) = chgN ps n + 1 := by
  subst hn; rw [chgN]; simp [h]
theorem chgN_no (ps : List Pl) {n j : Nat} (hn : n = j + 1) (h : (elAt ps n).a0 = (elAt ps j).a0) : chgN ps (n + 1) = chgN ps n := by
  subst hn; rw [chgN]; simp [h]

set_option maxRecDepth 20000 in
set_option maxHeartbeats 3000000 in
theorem implChanges_any (ad : Option Addr) (len cap : Nat) (ps : List Pl) (w : World) (hr : RowE 9 plC w ad len ps) (hlen : len ≤ 1048576) :
    Calls Try.prog 32 #[.slice ad len cap] w fun e w' => e = .returned (.int .i64 (chgN ps ps.length : Int)) ∧ Below w.heap.size w w' := by
  have hz := hr.len_eq
  have HO := hide hr.open_
  clear hr
  subst hz
  go_enter Try.func32, Try.ntmps32
  go_wp2
  go_loopw [3, 4] (fun c i wr => ∃ n q : Nat, 1 ≤ n ∧ (n ≤ ps.length ∨ n = 1) ∧ i = .int .i64 (n : Int) ∧ c = .int .i64 (chgN ps n : Int) ∧ wr = w.drewN q) (fun _ i _ => ps.length + 1 - (intOf i).toNat)
  case atStart => exact ⟨1, 0, Nat.le_refl _, .inr rfl, rfl, by rw [chgN_one]; rfl, rfl⟩
  case round =>
    obtain ⟨n, q, hn1, hn2, rfl, rfl, rfl⟩ := hrel
    have hcb := chgN_le ps n
    by_cases hlt : n < ps.length
    · rcases (unhide HO) with ⟨h0, _⟩ | ⟨bb, off, rfl, _, hc⟩
      · omega
      obtain ⟨j, hj⟩ : ∃ j, n = j + 1 := ⟨n - 1, by omega⟩
      have HJ := hide hj
      have hsub : (n : Int) - 1 = (j : Int) := by omega
      have hwr : IntKind.i64.wrap (j : Int) = (j : Int) := by rw [IntKind.wrap_i64]; omega
      have hj0 : (0 : Int) ≤ (j : Int) := by omega
      have hj1 : (j : Int) < (ps.length : Int) := by omega
      have hn0 : (0 : Int) ≤ (n : Int) := by omega
      have hnl : (n : Int) < (ps.length : Int) := by omega
      have c1 : w.cell? ⟨bb, off + n * 9, none⟩ = some (.int .i64 (elAt ps n).a0) := hc n hlt 0 (by omega)
      have c2 : w.cell? ⟨bb, off + j * 9, none⟩ = some (.int .i64 (elAt ps j).a0) := hc j (by omega) 0 (by omega)
      clear hc hj
      by_cases he : (elAt ps n).a0 = (elAt ps j).a0
      · have HN := hide (chgN_no ps (unhide HJ) he)
        have hne : ((elAt ps n).a0 != (elAt ps j).a0) = false := by simp [he]
        clear he
        go_wp2
        go_quiet (fail)
        go_wp2
        go_roundw
        case rel => exact ⟨n + 1, _, by omega, .inl (by omega), by go_num, by rw [unhide HN], rfl⟩
        case measure => simp [intOf]; omega
      · have HN := hide (chgN_yes ps (unhide HJ) he)
        have hne : ((elAt ps n).a0 != (elAt ps j).a0) = true := by simp [he]
        clear he
        go_wp2
        go_quiet (fail)
        go_wp2
        go_roundw
        case rel => exact ⟨n + 1, _, by omega, .inl (by omega), by go_num, by rw [unhide HN]; go_num, rfl⟩
        case measure => simp [intOf]; omega
    · have HE : Hid (chgN ps n = chgN ps ps.length) := hide (by
        rcases hn2 with h | h
        · rw [show n = ps.length by omega]
        · subst h
          rcases (by omega : ps.length = 0 ∨ ps.length = 1) with e | e <;> rw [e]
          simp [chgN])
      go_wp2
      go_ret
      exact ⟨by rw [← unhide HE]; rfl, bel0d' _⟩

end Go.Proofs.Ytfahhjgpgccdhad

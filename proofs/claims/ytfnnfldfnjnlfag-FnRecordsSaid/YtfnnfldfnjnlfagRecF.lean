/-
  Where the reading of bytes stops lies within them; a row put into a list of rows, as it reads. No condition but those named.
-/
import Derived.Test.YtfnnfldfnjnlfagUnIm
import Derived.Test.YtfnnfldfnjnlfagSa1
import Derived.Test.YtfnnfldfnjnlfagRdPure
namespace Go.Proofs.Ytfnnfldfnjnlfag
open Go Go.RowKit

theorem unRow_t {bs ah : List Int} {t0 : Nat} (h0 : t0 ≤ bs.length) : ∀ k, (unRow bs ah t0 k).t ≤ bs.length
  | 0 => h0
  | k + 1 => by
    rw [unRow]
    have ih := unRow_t (ah := ah) h0 k
    generalize unRow bs ah t0 k = s at ih ⊢
    unfold unSt
    split
    · exact ih
    split
    · exact ih
    split
    · exact ih
    · rename_i _ hx _
      have := (nx_well (bs := bs) (t := s.t) (by simpa using hx)).1
      exact this
theorem unRec_t {bs : List Int} {wd : Nat} (h0 : 2 ≤ bs.length) : ∀ k, (unRec bs wd k).t ≤ bs.length
  | 0 => h0
  | k + 1 => by
    rw [unRec]
    have ih := unRec_t (wd := wd) h0 k
    generalize unRec bs wd k = s at ih ⊢
    unfold unRs
    split
    · exact ih
    split
    · exact unRow_t ih _
    · exact unRow_t ih _
theorem hdA_in {bs : List Int} (h1 : hdC bs ≠ 1) : hdA bs ≤ bs.length := by
  by_cases a : bs.length < 1
  · simp [hdC, a] at h1
  · by_cases b : 8 < elAt bs 0
    · simp [hdA, b]
    · by_cases c : bs.length < 2
      · simp [hdC, a, b, c] at h1
      · simp only [hdA, if_neg b]; omega
theorem unPl_in {bs : List Int} (hb : ∀ i, i < bs.length → 0 ≤ elAt bs i ∧ elAt bs i ≤ 255) : 0 ≤ unPl bs ∧ unPl bs ≤ bs.length := by
  unfold unPl
  split
  · omega
  split
  · rename_i h1 _
    have := hdA_in (bs := bs) h1
    omega
  · rename_i _ h0
    have h0 : hdC bs = 0 := by simpa using h0
    have t := unRec_t (bs := bs) (wd := hdW bs) (hd_ok hb h0).1 (hdM bs)
    change (unT bs).t ≤ bs.length at t
    split
    · omega
    split
    · omega
    split
    · omega
    · omega
theorem unLs_off {bs : List Int} (h : unCo bs ≠ 0) : unLs bs = [] := by rw [unLs, if_neg h]
theorem rxZ_set (us : List Rx) (i : Nat) (x : Rx) : rxZ (us.set i x) = (rxZ us).set i x.zs := by simp [rxZ, List.map_set]
/-- A row of its own, not empty, as it lies in a list of rows. -/
theorem OwnRr.row_at {w : World} {base : Nat} {v : Value} {us : List Rx} {i : Nat} (h : OwnRr w base v us) (hi : i < us.length) (hn : (elAt us i).zs ≠ []) :
    ∃ b c, elAt us i = ⟨some ⟨b, 0, none⟩, (elAt us i).zs.length, c, (elAt us i).zs⟩ ∧ base ≤ b ∧ b < w.heap.size ∧ OwnI w base (.slice (some ⟨b, 0, none⟩) (elAt us i).zs.length c) (elAt us i).zs := by
  have hd := h.dat i hi
  generalize elAt us i = x at hd hn ⊢
  rcases x with ⟨a, n, c, zs⟩
  rcases hd.form with ⟨_, e⟩ | ⟨b, cp, e, h1, h2, _, _⟩
  · exact absurd e hn
  · simp only [rxV, Value.slice.injEq] at e
    obtain ⟨rfl, rfl, rfl⟩ := e
    exact ⟨b, c, rfl, h1, h2, hd⟩
theorem OwnI.atN {w : World} {base g n c : Nat} {zs : List Int} (h : OwnI w base (.slice (some ⟨g, 0, none⟩) n c) zs) (hn : zs.length = n) (j : Nat) (hj : j < n) : w.cell? ⟨g, j, none⟩ = some (.int .i64 (nth zs j)) ∧ w.frozen? ⟨g, j, none⟩ = false := by
  subst hn; exact h.here j hj

end Go.Proofs.Ytfnnfldfnjnlfag

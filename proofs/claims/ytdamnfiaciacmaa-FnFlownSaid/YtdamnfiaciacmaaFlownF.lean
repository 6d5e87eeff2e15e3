/-
  What FnFlown asks, in plain numbers: a flight's rest is flown from where its first part ended; what is at rest stays; its load is the square of its speed. No program here.
-/
import Derived.Test.YtdamnfiaciacmaaFlyPure
import Derived.Test.YtdamnfiaciacmaaLoadIs
import Derived.Test.YtdamnfiaciacmaaNearIs
import Derived.Test.YtdamnfiaciacmaaMarkPureC
namespace Go.Proofs.Ytdamnfiaciacmaa
open Go

theorem elAt_drop {α : Type} [Inhabited α] (es : List α) (k j : Nat) : elAt (es.drop k) j = elAt es (k + j) := by
  unfold elAt
  rw [List.getElem?_drop]
/-- The rest of a flight. -/
theorem flyM_drop {x m : Mo} {f : Fo} {es : List Nat} {dt k : Nat} (h : moAlike x (flyM m f es dt k)) : ∀ j, moAlike (flyM x f (es.drop k) dt j) (flyM m f es dt (k + j))
  | 0 => h
  | j + 1 => by
    show moAlike (stepM (flyM x f (es.drop k) dt j) f (elAt (es.drop k) j) dt) (stepM (flyM m f es dt (k + j)) f (elAt es (k + j)) dt)
    rw [elAt_drop]
    exact stepM_alike (flyM_drop h j) f _ dt
theorem flyR_at {m : Mo} {f : Fo} {es : List Nat} {dt : Nat} (hB : flyB es dt = true) {i : Nat} (hi : i < es.length) : elAt (flyR m f es dt) i = flyM m f es dt (i + 1) := by
  unfold flyR
  rw [if_pos hB]
  unfold elAt
  rw [List.getElem?_map, List.getElem?_range hi]
  rfl
theorem flyR_length {m : Mo} {f : Fo} {es : List Nat} {dt : Nat} (hB : flyB es dt = true) : (flyR m f es dt).length = es.length := by
  unfold flyR
  rw [if_pos hB]
  simp
theorem flyB_parts {es : List Nat} {dt : Nat} (hB : flyB es dt = true) : es.length ≤ 400 ∧ (FloatKind.f64.format.order dt 0 == some .gt) = true := by
  unfold flyB at hB
  rw [Bool.and_eq_true] at hB
  exact ⟨of_decide_eq_true hB.1, hB.2⟩
theorem flyB_drop {es : List Nat} {dt : Nat} (hB : flyB es dt = true) (k : Nat) : flyB (es.drop k) dt = true := by
  obtain ⟨h1, h2⟩ := flyB_parts hB
  unfold flyB
  rw [h2, Bool.and_true]
  exact decide_eq_true (by rw [List.length_drop]; omega)
theorem fly_rest {q r : List Mo} {m : Mo} {f : Fo} {es : List Nat} {dt k : Nat} (hB : flyB es dt = true) (h : AlikeM q (flyR m f es dt)) (hk : 0 < k) (hl : k ≤ es.length) (hr : AlikeM r (flyR (elAt q (k - 1)) f (es.drop k) dt)) :
    r.length = es.length - k ∧ ∀ i, i < es.length - k → moAlike (elAt r i) (elAt q (k + i)) := by
  have hBd := flyB_drop hB k
  refine ⟨by rw [hr.len, flyR_length hBd, List.length_drop], fun i hi => ?_⟩
  have h1 := hr.at_ i
  rw [flyR_at hBd (by rw [List.length_drop]; exact hi)] at h1
  have h2 := h.at_ (k - 1)
  rw [flyR_at hB (by omega), show k - 1 + 1 = k by omega] at h2
  have h3 := h.at_ (k + i)
  rw [flyR_at hB (by omega)] at h3
  exact h1.trans ((flyM_drop h2 (i + 1)).trans h3.symm)

theorem rest0 : ∀ a : Fin 256, fl .add .f64 (fint (a.val : Int)) (fl .mul .f64 (fl .sub .f64 (fl .sub .f64 0 (fl .mul .f64 0 (fl .mul .f64 (fint (a.val : Int)) (fint (a.val : Int))))) (fl .mul .f64 0 0)) 4602678819172646912) = fint (a.val : Int) := by decide +kernel
theorem rest1 : ∀ a : Fin 256, fl .mul .f64 (fl .mul .f64 (fint (a.val : Int)) 0) 4602678819172646912 = 0 := by decide +kernel
theorem rest2 : ∀ a : Fin 256, fl .add .f64 (fint (a.val : Int)) 0 = fint (a.val : Int) := by decide +kernel
theorem rest3 : fl .add .f64 0 (fl .mul .f64 0 4602678819172646912) = 0 ∧ fl .add .f64 0 (fl .mul .f64 (fl .sub .f64 0 (fl .mul .f64 0 0)) 4602678819172646912) = 0 := by decide +kernel
theorem near0 : ∀ a : Fin 256, nearD (fl .sub .f64 (fint (a.val : Int)) (fint (a.val : Int))) 0 = true := by decide +kernel
theorem near1 : nearD (fl .sub .f64 0 0) 0 = true := by decide +kernel
theorem load0 : ∀ a : Fin 256, finB (fl .quo .f64 (fl .mul .f64 4607182418800017408 (fl .mul .f64 (fint (a.val : Int)) (fint (a.val : Int)))) 4607182418800017408) = true ∧ fl .quo .f64 (fl .mul .f64 4607182418800017408 (fl .mul .f64 (fint (a.val : Int)) (fint (a.val : Int)))) 4607182418800017408 = fl .mul .f64 (fint (a.val : Int)) (fint (a.val : Int)) ∧ nanB .f64 (fl .mul .f64 (fint (a.val : Int)) (fint (a.val : Int))) = false := by decide +kernel
theorem load1 : (FloatKind.f64.format.order 4607182418800017408 0 == some .gt) = true := by decide +kernel

theorem small_fin {x : Int} (hx : 0 ≤ x ∧ x ≤ 255) : ∃ a : Fin 256, x = (a.val : Int) := ⟨⟨x.toNat, by omega⟩, by show x = (x.toNat : Int); omega⟩
/-- What is at rest stays. -/
theorem rest_still {x y : Int} (hx : 0 ≤ x ∧ x ≤ 255) (hy : 0 ≤ y ∧ y ≤ 255) : stepM ⟨fint x, fint y, 0, 0⟩ ⟨0, 0, 0, 0, 0⟩ 0 4602678819172646912 = ⟨fint x, fint y, 0, 0⟩ := by
  obtain ⟨a, rfl⟩ := small_fin hx
  obtain ⟨b, rfl⟩ := small_fin hy
  unfold stepM
  simp only [rest0, rest1, rest2, rest3.1, rest3.2]
theorem rest_near {x y : Int} (hx : 0 ≤ x ∧ x ≤ 255) (hy : 0 ≤ y ∧ y ≤ 255) : nearM ⟨fint x, fint y, 0, 0⟩ ⟨fint x, fint y, 0, 0⟩ 0 = true := by
  obtain ⟨a, rfl⟩ := small_fin hx
  obtain ⟨b, rfl⟩ := small_fin hy
  unfold nearM
  simp only [near0, near1, Bool.and_self]
theorem rest_load {x : Int} (y : Int) (hx : 0 ≤ x ∧ x ≤ 255) : loadB ⟨fint x, fint y, 0, 0⟩ ⟨0, 0, 4607182418800017408, 0, 4607182418800017408⟩ = true ∧ loadV ⟨fint x, fint y, 0, 0⟩ ⟨0, 0, 4607182418800017408, 0, 4607182418800017408⟩ = fl .mul .f64 (fint x) (fint x) ∧ nanB .f64 (fl .mul .f64 (fint x) (fint x)) = false := by
  obtain ⟨a, rfl⟩ := small_fin hx
  obtain ⟨h1, h2, h3⟩ := load0 a
  have hB : loadB ⟨fint (a.val : Int), fint y, 0, 0⟩ ⟨0, 0, 4607182418800017408, 0, 4607182418800017408⟩ = true := by
    unfold loadB loadX
    simp only [load1, h1, Bool.and_self]
  refine ⟨hB, ?_, h3⟩
  unfold loadV
  rw [if_pos hB]
  exact h2

end Go.Proofs.Ytdamnfiaciacmaa

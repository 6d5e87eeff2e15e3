/-
  What the program's Gap16 answers: the plain answer, at every argument; nothing that was there is written.
-/
import Derived.Test.YtnhcmokkankcmayBuImpl
import Derived.Test.YtnhcmokkankcmayBuGap
namespace Go.Proofs.Ytnhcmokkankcmay
open Go.RowKit

/-- The first place of a link, or none. -/
def ixR (gs : List Int) (link : Int) : Int := match (List.range gs.length).find? (fun i => nth gs i == link) with | some i => (i : Int) | none => -1
theorem ix_at {gs : List Int} {link : Int} {k : Nat} (hk : k < gs.length) (h : nth gs k = link) (hb : ∀ j, j < k → ¬ nth gs j = link) : ixR gs link = (k : Int) := by
  have : (List.range gs.length).find? (fun i => nth gs i == link) = some k := by
    rw [List.find?_range_eq_some]
    exact ⟨by simpa using h, by simpa using hk, fun j hj => by simpa using hb j hj⟩
  unfold ixR; rw [this]
theorem ix_none {gs : List Int} {link : Int} (hb : ∀ j, j < gs.length → ¬ nth gs j = link) : ixR gs link = -1 := by
  have : (List.range gs.length).find? (fun i => nth gs i == link) = none := by
    rw [List.find?_eq_none]
    intro i hi
    simpa using hb i (by simpa using hi)
  unfold ixR; rw [this]
theorem ix_cases (gs : List Int) (link : Int) : (∃ k, k < gs.length ∧ nth gs k = link ∧ (∀ j, j < k → ¬ nth gs j = link) ∧ ixR gs link = (k : Int)) ∨ ((∀ j, j < gs.length → ¬ nth gs j = link) ∧ ixR gs link = -1) := by
  cases e : (List.range gs.length).find? (fun i => nth gs i == link) with
  | none =>
    rw [List.find?_eq_none] at e
    have hb : ∀ j, j < gs.length → ¬ nth gs j = link := fun j hj => by simpa using e j (by simpa using hj)
    exact .inr ⟨hb, ix_none hb⟩
  | some k =>
    rw [List.find?_range_eq_some] at e
    have h1 : nth gs k = link := by simpa using e.1
    have h2 : k < gs.length := by simpa using e.2.1
    have h3 : ∀ j, j < k → ¬ nth gs j = link := fun j hj => by simpa using e.2.2 j hj
    exact .inl ⟨k, h2, h1, h3, ix_at h2 h1 h3⟩
theorem gpK_none {gs : List Int} {link : Int} (hb : ∀ j, j < gs.length → ¬ nth gs j = link) : ∀ k, k ≤ gs.length → gpK gs link k = 0
  | 0, _ => rfl
  | k + 1, hk => by rw [gpK, if_neg (hb k (by omega))]; exact gpK_none hb k (by omega)
theorem gpK_upper {gs : List Int} {link : Int} {M : Int} (h0 : 0 ≤ M) (h : ∀ i, i < gs.length → nth gs i = link → (gpD gs link i : Int) ≤ M) : ∀ k, k ≤ gs.length → gpK gs link k ≤ M
  | 0, _ => h0
  | k + 1, hk => by
    have ih := gpK_upper h0 h k (by omega)
    rw [gpK]
    split
    · rename_i q
      have := h k (by omega) q
      omega
    · exact ih
theorem gpK_lower {gs : List Int} {link : Int} {i : Nat} (q : nth gs i = link) : ∀ k, i < k → (gpD gs link i : Int) ≤ gpK gs link k
  | 0, hk => by omega
  | k + 1, hk => by
    rw [gpK]
    by_cases e : i = k
    · subst e; rw [if_pos q]; omega
    · have := gpK_lower (gs := gs) q k (by omega)
      split <;> omega
/-- What is known at a slot: the last one of the link, and the greatest number so far. -/
structure GpA (gs : List Int) (link : Int) (f : Nat) (G : Int) (last s : Nat) : Prop where
  a1 : f ≤ last
  a2 : last < s
  a3 : s ≤ f + gs.length + 1
  a4 : nth gs (last % gs.length) = link
  a5 : ∀ t, last < t → t < s → ¬ nth gs (t % gs.length) = link
  a6 : ∀ t, f ≤ t → t < last → nth gs (t % gs.length) = link → (gpD gs link (t % gs.length) : Int) ≤ G
  a7 : (last = f ∧ G = 0) ∨ ∃ t, f ≤ t ∧ t < last ∧ nth gs (t % gs.length) = link ∧ (gpD gs link (t % gs.length) : Int) = G
  a8 : 0 ≤ G ∧ G ≤ gs.length
theorem GpA.start {gs : List Int} {link : Int} {f : Nat} (hf : f < gs.length) (h : nth gs f = link) : GpA gs link f 0 f (f + 1) :=
  ⟨Nat.le_refl _, by omega, by omega, by rw [Nat.mod_eq_of_lt hf]; exact h, fun t h1 h2 => by omega, fun t h1 h2 => by omega, .inl ⟨rfl, rfl⟩, by omega⟩
theorem GpA.no {gs : List Int} {link : Int} {f last s : Nat} {G : Int} (h : GpA gs link f G last s) (hs : s ≤ f + gs.length) (hn : ¬ nth gs (s % gs.length) = link) : GpA gs link f G last (s + 1) :=
  ⟨h.a1, by have := h.a2; omega, by omega, h.a4, fun t h1 h2 => by
    by_cases e : t = s
    · subst e; exact hn
    · exact h.a5 t h1 (by omega), h.a6, h.a7, h.a8⟩
theorem GpA.dist {gs : List Int} {link : Int} {f last s : Nat} {G : Int} (h : GpA gs link f G last s) (hs : s ≤ f + gs.length) (hn : nth gs (s % gs.length) = link) : gpD gs link (last % gs.length) = s - last := by
  have h1 := h.a1
  have h2 := h.a2
  have e : gpD gs link (last % gs.length) = (s - last - 1) + 1 := by
    refine gpD_is (by omega) ?_ (fun j hj => ?_)
    · have e : (last % gs.length + (s - last - 1 + 1)) % gs.length = s % gs.length := by
        rw [Nat.mod_add_mod]; congr 1; omega
      rw [e]; exact hn
    · have e : (last % gs.length + (j + 1)) % gs.length = (last + (j + 1)) % gs.length := by rw [Nat.mod_add_mod]
      rw [e]; exact h.a5 _ (by omega) (by omega)
  omega
theorem GpA.yes {gs : List Int} {link : Int} {f last s : Nat} {G : Int} (h : GpA gs link f G last s) (hs : s ≤ f + gs.length) (hn : nth gs (s % gs.length) = link) : GpA gs link f (max G ((s : Int) - (last : Int))) s (s + 1) := by
  have h1 := h.a1
  have h2 := h.a2
  have h8 := h.a8
  have d := h.dist hs hn
  refine ⟨by omega, by omega, by omega, hn, fun t q1 q2 => by omega, fun t q1 q2 q3 => ?_, .inr ?_, by omega⟩
  · by_cases e : t < last
    · have := h.a6 t q1 e q3; omega
    · by_cases e2 : t = last
      · subst e2; rw [d]; omega
      · exact absurd q3 (h.a5 t (by omega) q2)
  · by_cases c : G ≤ (s : Int) - (last : Int)
    · exact ⟨last, h1, h2, h.a4, by rw [d]; omega⟩
    · rcases h.a7 with ⟨e1, e2⟩ | ⟨t, t1, t2, t3, t4⟩
      · exfalso; omega
      · exact ⟨t, t1, by omega, t3, by rw [t4]; omega⟩
theorem GpA.ends {gs : List Int} {link : Int} {f last : Nat} {G : Int} (h : GpA gs link f G last (f + gs.length + 1)) (hf : f < gs.length) (hm : nth gs f = link) : gpK gs link gs.length = G ∧ 0 < G := by
  have hl : last = f + gs.length := by
    rcases Nat.lt_or_ge last (f + gs.length) with q | q
    · exfalso
      refine h.a5 (f + gs.length) q (by omega) ?_
      rw [Nat.add_mod_right, Nat.mod_eq_of_lt hf]; exact hm
    · have := h.a2; omega
  have hup : gpK gs link gs.length ≤ G := by
    refine gpK_upper h.a8.1 (fun i hi hq => ?_) _ (Nat.le_refl _)
    by_cases c : f ≤ i
    · have := h.a6 i c (by omega) (by rw [Nat.mod_eq_of_lt hi]; exact hq)
      rw [Nat.mod_eq_of_lt hi] at this; exact this
    · have := h.a6 (i + gs.length) (by omega) (by omega) (by rw [Nat.add_mod_right, Nat.mod_eq_of_lt hi]; exact hq)
      rw [Nat.add_mod_right, Nat.mod_eq_of_lt hi] at this; exact this
  rcases h.a7 with ⟨e1, _⟩ | ⟨t, t1, t2, t3, t4⟩
  · exfalso; omega
  · have hlt : t % gs.length < gs.length := Nat.mod_lt _ (by omega)
    have := gpK_lower (gs := gs) t3 gs.length hlt
    have hp : 1 ≤ gpD gs link (t % gs.length) := by unfold gpD; omega
    constructor <;> omega



end Go.Proofs.Ytnhcmokkankcmay

/-
  Two aircraft that meet, in plain numbers: seen in the other order they are told the same, and of two that are advised one goes up and the other one down. No program here.
-/
import Derived.Test.YtbaocifpifbldaeTaNpu
namespace Go.Proofs.Ytbaocifpifbldae
open Go

theorem inBt {x a b : Int} (h1 : a ≤ x) (h2 : x ≤ b) : inB x a b = true := by simp [inB, h1, h2]
theorem avB_yes {i h c s : Int} (h1 : 1 ≤ i ∧ i ≤ 1000000) (h2 : 0 ≤ h ∧ h ≤ 60000) (h3 : -200 ≤ c ∧ c ≤ 200) (h4 : 0 ≤ s ∧ s ≤ 2) : avB i h c s = true := by
  rw [avB, inBt h1.1 h1.2, inBt h2.1 h2.2, inBt h3.1 h3.2, inBt h4.1 h4.2]; rfl
theorem tcB_yes {i h c f k s : Int} (h0 : avB i h c s = true) (h1 : 0 ≤ f ∧ f ≤ 1000000) (h2 : -1000 ≤ k ∧ k ≤ 1000) : tcB i h c f k s = true := by
  rw [tcB, h0, inBt h1.1 h1.2, inBt h2.1 h2.2]; rfl
theorem tiB_yes {i h c f k s : Int} (h0 : tcB i h c f k s = true) (h1 : 0 < k) : tiB i h c f k s = true := by simp [tiB, h0, h1]
/-- Whether they meet, whoever looks. -/
theorem thB_meet {oi oh oc os ti th tc tf tk ts near wi : Int} (h1 : avB oi oh oc os = true) (h2 : tiB ti th tc tf tk ts = true) (hne : ¬ oi = ti) (h3 : inB near 0 10000 = true) (h4 : inB wi 1 300 = true) :
    thB oi oh oc os ti th tc tf tk ts near wi = (decide ((tf + tk - 1).tdiv tk ≤ wi) && decide (((dfN oh oc th tc ((tf + tk - 1).tdiv tk)).natAbs : Int) < near)) := by
  have e : (!(oi == ti)) = true := by simpa using hne
  rw [thB, h2, h1, e, h3, h4, tiN_yes h2]
  simp
theorem dfN_abs (oh oc th tc n : Int) : (dfN oh oc th tc n).natAbs = (dfN th tc oh oc n).natAbs := by unfold dfN; omega
/-- The same the other way round, with any Senses that are so. -/
theorem thB_sym {ai ah ac as_ bi bh bc bs far cl near wi as2 bs2 : Int} (ha : avB ai ah ac as_ = true) (hb : avB bi bh bc bs = true) (ha2 : avB ai ah ac as2 = true) (hb2 : avB bi bh bc bs2 = true) (hne : ¬ ai = bi) (hf : 0 ≤ far ∧ far ≤ 1000000) (hc : 1 ≤ cl ∧ cl ≤ 1000) (h3 : inB near 0 10000 = true) (h4 : inB wi 1 300 = true) :
    thB bi bh bc bs ai ah ac far cl as2 near wi = thB ai ah ac as_ bi bh bc far cl bs2 near wi := by
  rw [thB_meet hb (tiB_yes (tcB_yes ha2 hf (by omega)) (by omega)) (fun e => hne e.symm) h3 h4, thB_meet ha (tiB_yes (tcB_yes hb2 hf (by omega)) (by omega)) hne h3 h4, dfN_abs]
theorem adR_0 {oi oh oc os ti th tc tf tk ts near wi : Int} (h : thB oi oh oc os ti th tc tf tk ts near wi = false) : adR oi oh oc os ti th tc tf tk ts near wi = 0 := by simp [adR, h]
/-- In turn, the first one first. -/
theorem ps_none {ai ah ac bi bh bc far cl near wi : Int} (ha : avB ai ah ac 0 = true) (hb : avB bi bh bc 0 = true) (hne : ¬ ai = bi) (hf : 0 ≤ far ∧ far ≤ 1000000) (hc : 1 ≤ cl ∧ cl ≤ 1000) (h3 : inB near 0 10000 = true) (h4 : inB wi 1 300 = true) (ht : thB ai ah ac 0 bi bh bc far cl 0 near wi = false) :
    ps1 ai ah ac 0 bi bh bc 0 far cl near wi = 0 ∧ ps2 ai ah ac 0 bi bh bc 0 far cl near wi = 0 := by
  have e1 : ps1 ai ah ac 0 bi bh bc 0 far cl near wi = 0 := adR_0 ht
  have e2 : psS ai ah ac 0 bi bh bc 0 far cl near wi = 0 := by rw [psS, e1]; rfl
  refine ⟨e1, ?_⟩
  rw [ps2, e2]
  exact adR_0 (by rw [thB_sym ha hb ha hb hne hf hc h3 h4]; exact ht)
theorem ps_some {ai ah ac bi bh bc far cl near wi : Int} (ha : avB ai ah ac 0 = true) (hb : avB bi bh bc 0 = true) (hne : ¬ ai = bi) (hf : 0 ≤ far ∧ far ≤ 1000000) (hc : 1 ≤ cl ∧ cl ≤ 1000) (h3 : inB near 0 10000 = true) (h4 : inB wi 1 300 = true) (ht : thB ai ah ac 0 bi bh bc far cl 0 near wi = true) :
    (ps1 ai ah ac 0 bi bh bc 0 far cl near wi = 1 ∨ ps1 ai ah ac 0 bi bh bc 0 far cl near wi = 2) ∧ ps1 ai ah ac 0 bi bh bc 0 far cl near wi + ps2 ai ah ac 0 bi bh bc 0 far cl near wi = 3 := by
  have e1 : ps1 ai ah ac 0 bi bh bc 0 far cl near wi = frS ai ah ac bi bh bc (tiN bi bh bc far cl 0) := by
    rw [ps1, adR, ht, if_pos rfl, if_neg (by simp), if_neg (by simp)]
  have e0 := frS_in ai ah ac bi bh bc (tiN bi bh bc far cl 0)
  rw [← e1] at e0
  have e2 : psS ai ah ac 0 bi bh bc 0 far cl near wi = ps1 ai ah ac 0 bi bh bc 0 far cl near wi := by
    rw [psS, if_pos (by omega)]
  refine ⟨e0, ?_⟩
  have ha2 : avB ai ah ac (ps1 ai ah ac 0 bi bh bc 0 far cl near wi) = true := by
    have g := avB_facts ha
    exact avB_yes g.1 g.2.1 g.2.2.1 (by omega)
  rw [ps2, e2, adR, thB_sym ha hb ha2 hb hne hf hc h3 h4, ht, if_pos rfl, if_neg (by simp), if_pos (by omega)]
  omega
theorem prB_meet {ai ah ac bi bh bc far cl near wi : Int} (ha : avB ai ah ac 0 = true) (hb : avB bi bh bc 0 = true) (hne : ¬ ai = bi) (hf : 0 ≤ far ∧ far ≤ 1000000) (hc : 1 ≤ cl ∧ cl ≤ 1000) (h3 : inB near 0 10000 = true) (h4 : inB wi 1 300 = true) : prB15 ai ah ac 0 bi bh bc 0 far cl near wi = true := by
  have e : (!(ai == bi)) = true := by simpa using hne
  rw [prB15, ha, hb, e, inBt hf.1 hf.2, inBt (by omega : -1000 ≤ cl) hc.2, h3, h4]; rfl
/-- What Pair tells of two without a Sense. -/
theorem pr_meet {ai ah ac bi bh bc far cl near wi : Int} (ha : avB ai ah ac 0 = true) (hb : avB bi bh bc 0 = true) (hne : ¬ ai = bi) (hf : 0 ≤ far ∧ far ≤ 1000000) (hc : 1 ≤ cl ∧ cl ≤ 1000) (h3 : inB near 0 10000 = true) (h4 : inB wi 1 300 = true) :
    (pr1 bi bh bc 0 ai ah ac 0 far cl near wi = pr2 ai ah ac 0 bi bh bc 0 far cl near wi ∧ pr2 bi bh bc 0 ai ah ac 0 far cl near wi = pr1 ai ah ac 0 bi bh bc 0 far cl near wi) ∧
    (thB ai ah ac 0 bi bh bc far cl 0 near wi = false → pr1 ai ah ac 0 bi bh bc 0 far cl near wi = 0 ∧ pr2 ai ah ac 0 bi bh bc 0 far cl near wi = 0) ∧
    (thB ai ah ac 0 bi bh bc far cl 0 near wi = true → (pr1 ai ah ac 0 bi bh bc 0 far cl near wi = 1 ∨ pr1 ai ah ac 0 bi bh bc 0 far cl near wi = 2) ∧ pr1 ai ah ac 0 bi bh bc 0 far cl near wi + pr2 ai ah ac 0 bi bh bc 0 far cl near wi = 3) := by
  have p1 := prB_meet ha hb hne hf hc h3 h4
  have p2 := prB_meet hb ha (fun e => hne e.symm) hf hc h3 h4
  have hs := thB_sym ha hb ha hb hne hf hc h3 h4
  simp only [pr1, pr2, p1, p2, if_true]
  by_cases g : bi < ai
  · have g2 : ¬ ai < bi := by omega
    simp only [g, g2, if_true, if_false, and_self, true_and]
    refine ⟨fun ht => ?_, fun ht => ?_⟩
    · have := ps_none hb ha (fun e => hne e.symm) hf hc h3 h4 (hs.trans ht)
      exact ⟨this.2, this.1⟩
    · have := ps_some hb ha (fun e => hne e.symm) hf hc h3 h4 (hs.trans ht)
      exact ⟨by omega, by omega⟩
  · have g2 : ai < bi := by omega
    simp only [g, g2, if_true, if_false, and_self, true_and]
    exact ⟨ps_none ha hb hne hf hc h3 h4, ps_some ha hb hne hf hc h3 h4⟩
/-- The ticks: so many closes reach as far, one less does not. -/
theorem ticks_reach {far cl : Int} (hf : 0 ≤ far) (hc : 1 ≤ cl) : far ≤ (far + cl - 1).tdiv cl * cl ∧ (0 < (far + cl - 1).tdiv cl → ((far + cl - 1).tdiv cl - 1) * cl < far) := by
  rw [Int.tdiv_eq_ediv_of_nonneg (by omega)]
  have h1 := Int.emod_add_mul_ediv (far + cl - 1) cl
  have h2 := Int.emod_nonneg (far + cl - 1) (by omega : cl ≠ 0)
  have h3 := Int.emod_lt_of_pos (far + cl - 1) (by omega : 0 < cl)
  have e : (far + cl - 1) / cl * cl = cl * ((far + cl - 1) / cl) := Int.mul_comm _ _
  have e2 : ((far + cl - 1) / cl - 1) * cl = (far + cl - 1) / cl * cl - cl := by rw [Int.sub_mul, Int.one_mul]
  rw [e2, e]
  omega
/-- The nearest of one. -/
theorem nr_one {oi oh oc os near wi : Int} (t : Tc) : nrI oi oh oc os near wi [t] = (if thB oi oh oc os t.a0 t.a1 t.a2 t.a3 t.a4 t.a5 near wi = true then 0 else -1) ∧ nrB oi oh oc os near wi [t] = thB oi oh oc os t.a0 t.a1 t.a2 t.a3 t.a4 t.a5 near wi := by
  have e : nrI oi oh oc os near wi [t] = (if thB oi oh oc os t.a0 t.a1 t.a2 t.a3 t.a4 t.a5 near wi = true then 0 else -1) := by
    have hT : nrT oi oh oc os near wi [t] 0 = thB oi oh oc os t.a0 t.a1 t.a2 t.a3 t.a4 t.a5 near wi := rfl
    have h1 : nrI oi oh oc os near wi [t] = (nrS oi oh oc os near wi [t] 1).1 := by simp [nrI]
    rw [h1, ← hT]
    cases h : nrT oi oh oc os near wi [t] 0 with
    | true =>
      have := nrT_le h
      rw [nrS_yes h (show nrN [t] 0 < (nrS oi oh oc os near wi [t] 0).2 by show nrN [t] 0 < 301; omega)]
      simp
    | false =>
      rw [nrS_no (.inl h)]
      simp [nrS]
  refine ⟨e, ?_⟩
  rw [nrB, e]
  cases thB oi oh oc os t.a0 t.a1 t.a2 t.a3 t.a4 t.a5 near wi <;> simp

end Go.Proofs.Ytbaocifpifbldae

/-
  The law's copy and comparison of a Window: of one value it says so. No condition.
  The law's at tells one number in every world in which the bytes are as they were. At every list of at most 1048576 bytes.
  The law's at tells, at each place, one number in every world in which the bytes are as they were: as a function of the place. At every list of at most 1048576 bytes.
  A region that draws its order and whose last operation waits for all others: these only read (their callees may make memory): one walk, in the order of the text, then the last operation. No condition.
-/
import Derived.Test.YtemodlgmjgdjpaaGreatDoorChecked
import Derived.Test.YtemodlgmjgdjpaaGreatDoorMBase
import Derived.Test.YtemodlgmjgdjpaaGreatDoorRowE
import Derived.Test.YtemodlgmjgdjpaaGreatDoorMCur

namespace Go.Proofs.YtemodlgmjgdjpaaGreatDoor
open Go.RowKit

/-- What a Window holds. -/
structure Wn where
  a0 : Int
  a1 : Int
  a2 : Int
instance : Inhabited Wn := ⟨⟨0, 0, 0⟩⟩
/-- Its cells. -/
def wnC (m : Wn) : Nat → Value
  | 0 => .int .i64 m.a0
  | 1 => .int .i64 m.a1
  | _ => .int .i64 m.a2
def wnAlike (m n : Wn) : Prop := m.a0 = n.a0 ∧ m.a1 = n.a1 ∧ m.a2 = n.a2
theorem wnAlike_refl (m : Wn) : wnAlike m m := ⟨rfl, rfl, rfl⟩
theorem wnAlike.symm {m n : Wn} (h : wnAlike m n) : wnAlike n m := ⟨h.1.symm, h.2.1.symm, h.2.2.symm⟩
theorem wnAlike.trans {m n l : Wn} (h : wnAlike m n) (g : wnAlike n l) : wnAlike m l := ⟨h.1.trans g.1, h.2.1.trans g.2.1, h.2.2.trans g.2.2⟩



end Go.Proofs.YtemodlgmjgdjpaaGreatDoor

namespace Go.Proofs.YtemodlgmjgdjpaaGreatDoor
open Go.RowKit

/-- The byte that the law's at tells is one number in every world in which the bytes are as they were. -/
theorem at_fix (a : Option Addr) (len cap : Nat) (i : Nat) (w : World) (hb : Bytes w a len) (hl : len ≤ 1048576) (hi : i ≤ 1000) :
    ∃ x : Int, (0 ≤ x ∧ x ≤ 255) ∧ ∀ W : World, Below w.heap.size w W → Calls Tryz.prog 13 #[.slice a len cap, .int .i64 i] W fun e w' => e = .returned (.int .i64 x) ∧ w' = W := by
  by_cases hlt : i < len
  · have hi1 : (i : Int) < (len : Int) := by omega
    have hi0 : (0 : Int) ≤ (i : Int) := by omega
    obtain ⟨b, off, rfl, x, hc, hx1, hx2⟩ := hb.cells i hlt
    refine ⟨x, ⟨hx1, hx2⟩, fun W hW => ?_⟩
    have hc := (hW.cell (block_lt_of_cell hc)).trans hc
    clear hb hW
    go_enter Tryz.func13, Tryz.ntmps13
    go_wp2
    go_ret
    exact ⟨rfl, rfl⟩
  · have hi1 : ¬ (i : Int) < (len : Int) := by omega
    refine ⟨((i : Int) * 7 + len) % 256, ⟨Int.emod_nonneg _ (by omega), by have := Int.emod_lt_of_pos ((i : Int) * 7 + len) (show (0 : Int) < 256 by omega); omega⟩, fun W _ => ?_⟩
    clear hb
    go_enter Tryz.func13, Tryz.ntmps13
    go_wp2
    go_ret
    exact ⟨rfl, rfl⟩

end Go.Proofs.YtemodlgmjgdjpaaGreatDoor

namespace Go.Proofs.YtemodlgmjgdjpaaGreatDoor
open Go.RowKit

theorem at_fun (a : Option Addr) (len cap : Nat) (w : World) (hb : Bytes w a len) (hl : len ≤ 1048576) :
    ∃ f : Nat → Int, (∀ i, 0 ≤ f i ∧ f i ≤ 255) ∧ ∀ (i : Nat) (I : Int), I = (i : Int) → i ≤ 1000 → ∀ W : World, Below w.heap.size w W → Calls Tryz.prog 13 #[.slice a len cap, .int .i64 I] W fun e w' => e = .returned (.int .i64 (f i)) ∧ w' = W := by
  classical
  refine ⟨fun i => if h : i ≤ 1000 then Classical.choose (at_fix a len cap i w hb hl h) else 0, fun i => ?_, fun i I hI hi W hW => ?_⟩
  · by_cases h : i ≤ 1000
    · simp only [h, dif_pos]
      exact (Classical.choose_spec (at_fix a len cap i w hb hl h)).1
    · simp only [h, dif_neg, not_false_eq_true]; omega
  · subst hI
    simp only [hi, dif_pos]
    exact (Classical.choose_spec (at_fix a len cap i w hb hl hi)).2 W hW

end Go.Proofs.YtemodlgmjgdjpaaGreatDoor

namespace Go.Proofs.YtemodlgmjgdjpaaGreatDoor
open Go.RowKit

def lastOf : List Oper → Oper
  | [] => default
  | [o] => o
  | _ :: b :: l => lastOf (b :: l)
/-- The last operation hands on a constant in place of what it does. -/
def swapLast : List Oper → List Oper
  | [] => []
  | [o] => [⟨o.dst, .move (.const (.bool true)), o.type, o.pos, o.after, o.guard⟩]
  | a :: b :: l => a :: swapLast (b :: l)

theorem swapLast_len : ∀ L : List Oper, (swapLast L).length = L.length
  | [] => rfl
  | [_] => rfl
  | _ :: b :: l => by simp [swapLast, swapLast_len (b :: l)]
theorem swapLast_at : ∀ (L : List Oper) (i : Nat), i + 1 < L.length → (swapLast L)[i]? = L[i]?
  | [], i, h => by simp at h
  | [_], i, h => by simp at h
  | a :: b :: l, 0, _ => by simp [swapLast]
  | a :: b :: l, i + 1, h => by
    have := swapLast_at (b :: l) i (by simpa using h)
    simpa [swapLast] using this
theorem lastOf_at : ∀ (L : List Oper), 0 < L.length → L[L.length - 1]? = some (lastOf L) ∧ (swapLast L)[L.length - 1]? = some ⟨(lastOf L).dst, .move (.const (.bool true)), (lastOf L).type, (lastOf L).pos, (lastOf L).after, (lastOf L).guard⟩
  | [], h => by simp at h
  | [_], _ => by simp [lastOf, swapLast]
  | a :: b :: l, _ => by
    have := lastOf_at (b :: l) (by simp)
    simpa [lastOf, swapLast] using this

/-- What is asked of the region's edges. -/
def lateB (L : List Oper) : Bool :=
  decide (0 < L.length) && (lastOf L).guard.isNone && (lastOf L).dst.isNone &&
  (List.range L.length).all (fun i => ((L[i]?).map fun o => o.after.all fun e => !Region.binds .any e || decide (e.on < i)).getD true) &&
  (List.range (L.length - 1)).all (fun i => (List.range L.length).any fun j => decide (i < j) && ((L[j]?).map fun o => o.after.toList.any fun e => Region.binds .any e && decide (e.on = i)).getD false)

theorem mem_ready {ops : Array Oper} {listed : Array Bool} {i : Nat} : i ∈ Region.ready .any ops listed ↔ i < ops.size ∧ listed.getD i true = false ∧ ∃ oi, ops[i]? = some oi ∧ ∀ e ∈ oi.after, Region.binds .any e = true → listed.getD e.on false = true := by
  unfold Region.ready
  simp only [List.mem_filter, List.mem_range, Bool.and_eq_true, Bool.not_eq_true']
  constructor
  · rintro ⟨h1, h2, h3⟩
    refine ⟨h1, h2, ?_⟩
    cases h : ops[i]? with
    | none => rw [h] at h3; simp at h3
    | some oi =>
      rw [h] at h3
      simp only [Option.map_some, Option.getD_some, Array.all_eq_true_iff_forall_mem, Bool.or_eq_true, Bool.not_eq_true'] at h3
      refine ⟨oi, rfl, fun e he hb => ?_⟩
      rcases h3 e he with k | k
      · rw [hb] at k; cases k
      · exact k
  · rintro ⟨h1, h2, oi, h, h3⟩
    refine ⟨h1, h2, ?_⟩
    rw [h]
    simp only [Option.map_some, Option.getD_some, Array.all_eq_true_iff_forall_mem, Bool.or_eq_true, Bool.not_eq_true']
    intro e he
    cases hb : Region.binds .any e
    · exact .inl rfl
    · exact .inr (h3 e he hb)

/-- Whatever came up, what it waits for came up. -/
def Closed (ops : Array Oper) (listed : Array Bool) : Prop := ∀ j oj, ops[j]? = some oj → listed.getD j true = true → ∀ e ∈ oj.after, Region.binds .any e = true → listed.getD e.on false = true

theorem getD_set (listed : Array Bool) (i j : Nat) (d : Bool) (hi : i < listed.size) : (listed.setIfInBounds i true).getD j d = if j = i then true else listed.getD j d := by
  simp only [Array.getD_eq_getD_getElem?, Array.getElem?_setIfInBounds]
  by_cases e : i = j
  · subst e; simp [hi]
  · simp [e, Ne.symm e]

theorem then_aux {P : Program} {ops ops' : Array Oper} {n : Nat} {o : Oper} {C : World → Prop} {Q' : Exit → Act → World → Prop}
    (hsz : ops.size = n + 1) (hsz' : ops'.size = n + 1) (hsame : ∀ i, i < n → ops'[i]? = ops[i]?)
    (ho : ops[n]? = some o) (ho' : ops'[n]? = some ⟨o.dst, .move (.const (.bool true)), o.type, o.pos, o.after, o.guard⟩) (hg : o.guard = none) (hd : o.dst = none)
    (hE1 : ∀ i oi, ops[i]? = some oi → ∀ e ∈ oi.after, Region.binds .any e = true → e.on < i)
    (hE2 : ∀ i, i < n → ∃ j oj, i < j ∧ ops[j]? = some oj ∧ ∃ e ∈ oj.after, Region.binds .any e = true ∧ e.on = i) :
    ∀ (fuel : Nat) (listed : Array Bool) (a : Act), listed.size = n + 1 → Closed ops listed → listed.getD n true = false →
      wpAnyQ P .any ops' C (fun a => ∀ w', C w' → o.wp P a w' (fun a w => Q' .normal a w) Q') fuel listed a → ∀ w, C w → wpAny P .any ops Q' fuel listed a w := by
  have hget : ∀ i : Nat, (ops'[i]?).map (fun x : Oper => (x.after, x.dst)) = (ops[i]?).map (fun x : Oper => (x.after, x.dst)) := by
    intro i
    rcases Nat.lt_trichotomy i n with h | h | h
    · rw [hsame i h]
    · subst h; rw [ho, ho']; rfl
    · rw [Array.getElem?_eq_none (by omega), Array.getElem?_eq_none (by omega)]
  have hready : ∀ listed, Region.ready .any ops' listed = Region.ready .any ops listed := by
    intro listed
    unfold Region.ready
    rw [hsz, hsz']
    refine List.filter_congr fun i _ => ?_
    congr 1
    have := hget i
    cases h1 : ops[i]? <;> cases h2 : ops'[i]? <;> simp [h1, h2] at this ⊢
    rw [this.1]
  have hyield : ∀ (tm : Array Value) j, yielded ops' tm j = yielded ops tm j := by
    intro tm j
    unfold yielded
    have := hget j
    cases h1 : ops[j]? <;> cases h2 : ops'[j]? <;> simp [h1, h2] at this ⊢
    rw [this.2]
  have hsome : ∀ listed : Array Bool, listed.size = n + 1 → listed.getD n true = false → Region.ready .any ops listed ≠ [] := by
    intro listed hls hn h0
    have key : ∀ i, i ≤ n → listed.getD i true = true := by
      intro i
      induction i using Nat.strongRecOn with
      | ind i ih =>
        intro hi
        cases hl : listed.getD i true
        · exfalso
          have hi2 : ops[i]? = some (ops[i]'(by omega)) := Array.getElem?_eq_getElem (by omega)
          have : i ∈ Region.ready .any ops listed := by
            rw [mem_ready]
            refine ⟨by omega, hl, _, hi2, fun e he hb => ?_⟩
            have hlt := hE1 i _ hi2 e he hb
            have h1 := ih e.on hlt (by omega)
            simp only [Array.getD_eq_getD_getElem?] at h1 ⊢
            have h3 : listed[e.on]? = some (listed[e.on]'(by omega)) := Array.getElem?_eq_getElem (by omega)
            rw [h3] at h1 ⊢
            simpa using h1
          rw [h0] at this
          cases this
        · rfl
    rw [key n (Nat.le_refl _)] at hn
    cases hn
  intro fuel
  induction fuel with
  | zero =>
    intro listed a hls hcl hn h w hC
    obtain ⟨h1, _⟩ := h
    rw [hready] at h1
    exact absurd h1 (hsome listed hls hn)
  | succ fuel ih =>
    intro listed a hls hcl hn h w hC
    refine ⟨fun h0 => absurd h0 (hsome listed hls hn), fun i hi => ?_⟩
    have hq := h.2 i (by rw [hready]; exact hi)
    obtain ⟨hi1, hi2, oi, hoi, hed⟩ := mem_ready.1 hi
    rw [hsz] at hi1
    by_cases hin : i = n
    · subst hin
      rw [ho] at hoi
      simp only [Option.some.injEq] at hoi
      subst hoi
      -- all others have come up
      have hall : ∀ m j, j + m = i → j < i → listed.getD j true = true := by
        intro m
        induction m using Nat.strongRecOn with
        | ind m ihm =>
          intro j hj hlt
          obtain ⟨k, ok, hjk, hok, e, he, hb, heq⟩ := hE2 j hlt
          have hk : k ≤ i := by
            rcases Nat.lt_or_ge i k with h | h
            · rw [Array.getElem?_eq_none (by omega)] at hok; cases hok
            · exact h
          have : listed.getD e.on false = true := by
            by_cases hki : k = i
            · subst hki
              rw [ho] at hok
              simp only [Option.some.injEq] at hok
              subst hok
              exact hed e he hb
            · exact hcl k ok hok (ihm (i - k) (by omega) k (by omega) (by omega)) e he hb
          rw [heq] at this
          simp only [Array.getD_eq_getD_getElem?] at this ⊢
          have h3 : listed[j]? = some (listed[j]'(by omega)) := Array.getElem?_eq_getElem (by omega)
          rw [h3] at this ⊢
          simpa using this
      have hdone : Region.ready .any ops (listed.setIfInBounds i true) = [] := by
        refine List.eq_nil_iff_forall_not_mem.2 fun j hj => ?_
        obtain ⟨j1, j2, _⟩ := mem_ready.1 hj
        rw [getD_set _ _ _ _ (by omega)] at j2
        by_cases e : j = i
        · rw [if_pos e] at j2; cases j2
        · rw [if_neg e, hall (i - j) j (by omega) (by omega)] at j2; cases j2
      have hQ : ∀ w', C w' → o.wp P a w' (fun a w => Q' .normal a w) Q' := by
        unfold qOp at hq
        simp only [ho'] at hq
        rw [if_pos (by simp [Region.wanted, hg])] at hq
        obtain ⟨v, _, hk⟩ := hq
        simp only [hd, Act.put] at hk
        cases fuel with
        | zero => exact hk.2
        | succ fuel => exact hk.1 (by rw [hready]; exact hdone)
      unfold wpOp
      simp only [ho]
      rw [if_pos (by simp [Region.wanted, hg])]
      exact .inl (Oper.wp_mono (fun a' w' h' => wpAny_done hdone h' fuel) (hQ w hC))
    · have hi3 : i < n := by omega
      have hmono : ∀ a' w', C w' → wpAnyQ P .any ops' C (fun a => ∀ w', C w' → o.wp P a w' (fun a w => Q' .normal a w) Q') fuel (listed.setIfInBounds i true) a' → wpAny P .any ops Q' fuel (listed.setIfInBounds i true) a' w' := by
        intro a' w' hC' hk
        refine ih (listed.setIfInBounds i true) a' (by simpa using hls) ?_ ?_ hk w' hC'
        · intro j oj hoj hj e he hb
          rw [getD_set _ _ _ _ (by omega)] at hj ⊢
          by_cases e1 : j = i
          · subst e1
            rw [hoi] at hoj
            simp only [Option.some.injEq] at hoj
            subst hoj
            have := hed e he hb
            split
            · rfl
            · exact this
          · rw [if_neg e1] at hj
            have := hcl j oj hoj hj e he hb
            split
            · rfl
            · exact this
        · rw [getD_set _ _ _ _ (by omega), if_neg (by omega)]; exact hn
      unfold qOp at hq
      rw [hsame i hi3, hoi] at hq
      unfold wpOp
      rw [hoi]
      have hy : yielded ops' a.tmps = yielded ops a.tmps := funext (hyield a.tmps)
      simp only [hy] at hq ⊢
      split
      · rename_i hw
        simp only [hw, if_true] at hq
        exact .inl (Oper.wp_of_quiet hC hmono hq)
      · rename_i hw
        simp only [hw] at hq
        exact hmono _ _ hC hq

/-- The region: a walk of the reads in the order of the text, then the last operation. -/
theorem wp_region_then {P : Program} {id : Nat} {Q : Exit → Act → World → Prop} {a : Act} {w : World} {L : List Oper} {ι : Type} {f : ι → World} (hall : ∀ w', Below w.heap.size w w' → ∃ x, w' = f x)
    (hm : P.follows .mixedOrders = true) (hB : Region.lexB .any (swapLast L).toArray = true) (hL : lateB L = true)
    (h : wpQuiet P (swapLast L).toArray (fun w' => ∃ x, w' = f x) (fun a' => ∀ w', (∃ x, w' = f x) → (lastOf L).wp P a' w' (fun a w => Q .normal a w) Q) (swapLast L) a) : (Code.region id L.toArray true).wp P Q a w := by
  simp only [lateB, Bool.and_eq_true, decide_eq_true_eq, Option.isNone_iff_eq_none, List.all_eq_true, List.mem_range, List.any_eq_true] at hL
  obtain ⟨⟨⟨⟨h0, hg⟩, hd⟩, e1⟩, e2⟩ := hL
  obtain ⟨n, hn⟩ : ∃ n, L.length = n + 1 := ⟨L.length - 1, by omega⟩
  simp only [Region.lexB, Bool.and_eq_true] at hB
  have hlex := wpAnyQ_lex (P := P) (C := fun w' => ∃ x, w' = f x) (md := .any) hB.1 (swapLast L) 0 (Array.replicate (swapLast L).length false) a (by simp) (by simpa using hB.2) h
  have hla := lastOf_at L h0
  rw [hn] at hla
  simp only [Nat.add_sub_cancel] at hla
  refine wp_region_any hm ?_
  have hfin := then_aux (P := P) (ops := L.toArray) (ops' := (swapLast L).toArray) (n := n) (o := lastOf L) (C := fun w' => ∃ x, w' = f x) (Q' := Q) (by simpa using hn) (by simp [swapLast_len, hn])
    (fun i hi => by simpa using swapLast_at L i (by omega)) (by simpa using hla.1) (by simpa using hla.2) hg hd
    (fun i oi hoi e he hb => by
      have hi : i < L.length := by
        rcases Nat.lt_or_ge i L.length with h | h
        · exact h
        · rw [Array.getElem?_eq_none (by simpa using h)] at hoi; cases hoi
      have := e1 i hi
      have hoi' : L[i]? = some oi := by simpa using hoi
      rw [hoi'] at this
      simp only [Option.map_some, Option.getD_some, Array.all_eq_true_iff_forall_mem, Bool.or_eq_true, Bool.not_eq_true', decide_eq_true_eq] at this
      rcases this e he with k | k
      · rw [hb] at k; cases k
      · exact k)
    (fun i hi => by
      obtain ⟨j, hj, hx⟩ := e2 i (by omega)
      obtain ⟨hij, hx⟩ := hx
      cases hoj : L[j]? with
      | none => rw [hoj] at hx; simp at hx
      | some oj =>
        rw [hoj] at hx
        simp only [Option.map_some, Option.getD_some, List.any_eq_true, Bool.and_eq_true, decide_eq_true_eq] at hx
        obtain ⟨e, he, hb, heq⟩ := hx
        exact ⟨j, oj, hij, by simpa using hoj, e, by simpa using he, hb, heq⟩)
    (swapLast L).length (Array.replicate (swapLast L).length false) a (by simp [swapLast_len, hn])
    (fun j oj hoj hj => by
      have hjl : j < L.length := by
        rcases Nat.lt_or_ge j L.length with h | h
        · exact h
        · rw [Array.getElem?_eq_none (by simpa using h)] at hoj; cases hoj
      simp [Array.getD_eq_getD_getElem?, swapLast_len, hjl] at hj)
    (by simp [Array.getD_eq_getD_getElem?, swapLast_len, hn]) hlex { w with drawn := w.drawn + 1 } (hall _ ⟨rfl, rfl, rfl, Nat.le_refl _, fun _ _ => rfl⟩)
  have hs : L.toArray.size = (swapLast L).length := by simp [swapLast_len]
  rw [hs]
  exact hfin

end Go.Proofs.YtemodlgmjgdjpaaGreatDoor

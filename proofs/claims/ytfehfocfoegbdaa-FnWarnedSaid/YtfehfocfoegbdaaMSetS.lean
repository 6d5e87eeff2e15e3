/-
  Sets of names as the program has them: what has, add and sorted answer; the names of a set as the one rising list of them. Nothing but the set's own block is written.
  More of maps by texts: kept where only other blocks turn; a delete in a range. No condition.
-/
import Derived.Test.YtfehfocfoegbdaaSetSort
import Derived.Test.YtfehfocfoegbdaaMMarkI

namespace Go.Proofs.Ytfehfocfoegbdaa
open Go.RowKit Go.Maps Go.WideMaps Go.Sort

/-- A set as a function to elements. -/
def setF (S : ByteArray → Bool) : ByteArray → Option Value := fun s => if S s = true then some (.agg #[]) else none
theorem setF_is (S : ByteArray → Bool) (s : ByteArray) : (setF S s).isSome = S s := by
  unfold setF; cases S s <;> rfl
theorem setF_get (S : ByteArray → Bool) (s : ByteArray) : (setF S s).getD (.agg #[]) = .agg #[] := by
  unfold setF; cases S s <;> rfl
/-- Block b is a set of at most n names. -/
def SetIs (w : World) (b n : Nat) (S : ByteArray → Bool) : Prop := MapIs w b n (setF S)
def addS (S : ByteArray → Bool) (s : ByteArray) : ByteArray → Bool := fun t => decide (t = s) || S t
def delS (S : ByteArray → Bool) (s : ByteArray) : ByteArray → Bool := fun t => !decide (t = s) && S t
theorem setF_add (S : ByteArray → Bool) (s : ByteArray) : putF (setF S) s (.agg #[]) = setF (addS S s) := by
  funext t
  unfold putF setF addS
  by_cases e : t = s <;> simp [e]
theorem setF_del (S : ByteArray → Bool) (s : ByteArray) : delF (setF S) s = setF (delS S s) := by
  funext t
  unfold delF setF delS
  by_cases e : t = s <;> simp [e]
theorem setF_none : (fun _ => none : ByteArray → Option Value) = setF (fun _ => false) := by
  funext t; simp [setF]
theorem SetIs.below {w w' : World} {b n : Nat} {S : ByteArray → Bool} (h : SetIs w b n S) (k : Below w.heap.size w w') : SetIs w' b n S := MapIs.below h k
theorem SetIs.made (w : World) : SetIs (w.alloc (.map #[] 0)) w.heap.size 0 (fun _ => false) := by
  unfold SetIs; rw [← setF_none]; exact MapIs.made w
theorem SetIs.turned {w w' : World} {b c n : Nat} {S : ByteArray → Bool} (h : SetIs w b n S) (k : w.mapTurned w' c) (hne : b ≠ c) : SetIs w' b n S := MapIs.kept h k.grown (by simp [hne])

theorem mem_elAt {ts : List ByteArray} {s : ByteArray} : s ∈ ts ↔ ∃ i, i < ts.length ∧ elAt ts i = s := by
  rw [List.mem_iff_getElem]
  unfold elAt
  constructor
  · rintro ⟨i, hi, rfl⟩; exact ⟨i, hi, by simp [hi]⟩
  · rintro ⟨i, hi, rfl⟩; exact ⟨i, hi, by simp [hi]⟩
theorem hasB_mem {ts : List ByteArray} {s : ByteArray} : hasB ts s = true ↔ s ∈ ts := by
  rw [mem_elAt]
  unfold hasB
  rw [decide_eq_true_eq]
  exact ⟨fun ⟨i, hi, e⟩ => ⟨i, hi, sEq_eq.1 e⟩, fun ⟨i, hi, e⟩ => ⟨i, hi, sEq_eq.2 e⟩⟩
/-- A list that rises, by pairs. -/
theorem rise_pair {ts : List ByteArray} : riseS ts = true ↔ ts.Pairwise (fun x y => sLt x y = true) := by
  constructor
  · intro h
    rw [List.pairwise_iff_getElem]
    intro i j hi hj hij
    have := riseS_lt h (j - i - 1) i (by omega)
    rw [show i + (j - i - 1) + 1 = j by omega] at this
    simpa [elAt, hi, hj] using this
  · intro h
    rw [List.pairwise_iff_getElem] at h
    refine riseS_true (fun i hi => ?_)
    have := h i (i + 1) (by omega) hi (by omega)
    have hi' : i < ts.length := by omega
    simpa [elAt, hi, hi'] using this
theorem rise_eq {xs ys : List ByteArray} (hx : riseS xs = true) (hy : riseS ys = true) (h : ∀ s, s ∈ xs ↔ s ∈ ys) : xs = ys := by
  rw [rise_pair] at hx hy
  have nd : ∀ {zs : List ByteArray}, zs.Pairwise (fun x y => sLt x y = true) → zs.Nodup := fun {zs} hz => hz.imp (fun {a b} hab e => by rw [e, sLt_irr] at hab; cases hab)
  refine List.Perm.eq_of_pairwise (le := fun x y => sLt x y = true) (fun a b _ _ h1 h2 => ?_) hx hy ((List.perm_ext_iff_of_nodup (nd hx) (nd hy)).2 h)
  have := sLt_trans h1 h2
  rw [sLt_irr] at this; cases this
/-- A text out of its bytes. -/
def txB (x : List UInt8) : ByteArray := ⟨⟨x⟩⟩
theorem txB_inj {x y : List UInt8} (h : txB x = txB y) : x = y := by simpa [txB] using h
theorem txK_txB (x : List UInt8) : txK (txB x) = .string x := rfl
theorem sLt_txB {x y : List UInt8} : sLt (txB x) (txB y) = true ↔ x < y := by
  rw [sLt_iff, ByteArray.toList_eq, ByteArray.toList_eq]; rfl
/-- The names of a datum. -/
theorem mem_strKeys {w : World} {R : Value → Option (DataW Value × List MemPlace)} {b n : Nat} {D : DataW Value} (hown : w.ownsMap Try.prog 9 R b n D) : (strKeys D).Nodup ∧ ∀ x, x ∈ strKeys D ↔ has D (.string x) = true := by
  obtain ⟨es, hD, hpw, _⟩ := hown.entries keyed_str
  obtain ⟨es', hD', hko⟩ := hown.keysOf
  obtain rfl : es = es' := by rw [hD] at hD'; simpa using hD'
  subst hD
  have hk : ∀ p ∈ es, ∃ x, p.1 = Lit.string x := fun p hp => by obtain ⟨v, hv⟩ := hko p hp; obtain ⟨x, _, hx, _⟩ := Maps.keyOf_str Try.underlying9 hv; exact ⟨x, hx⟩
  refine ⟨?_, fun x => ?_⟩
  · show (es.map fun p => strOf p.1).Nodup
    refine List.pairwise_map.2 (hpw.imp_of_mem fun {p q} hp' hq' hne e => hne ?_)
    obtain ⟨a, ha⟩ := hk p hp'
    obtain ⟨b, hb⟩ := hk q hq'
    rw [ha, hb] at e ⊢
    exact congrArg _ e
  · rw [has_eq, List.any_eq_true]
    show x ∈ es.map (fun p => strOf p.1) ↔ _
    rw [List.mem_map]
    constructor
    · rintro ⟨p, hp', rfl⟩
      obtain ⟨a, ha⟩ := hk p hp'
      exact ⟨p, hp', by rw [ha]; simp [Lit.sameKey, strOf]⟩
    · rintro ⟨p, hp', hs⟩
      obtain ⟨a, ha⟩ := hk p hp'
      rw [ha] at hs
      exact ⟨p, hp', by rw [ha]; simpa [Lit.sameKey, strOf] using hs⟩
theorem sorted_rise {ss : List (List UInt8)} (h : ss.Nodup) : riseS ((ss.mergeSort leB).map txB) = true := by
  have tr : ∀ a b c : List UInt8, leB a b = true → leB b c = true → leB a c = true := fun a b c h1 h2 => by simp only [leB, decide_eq_true_eq] at *; exact List.le_trans h1 h2
  have to : ∀ a b : List UInt8, (leB a b || leB b a) = true := fun a b => by simp only [leB, Bool.or_eq_true, decide_eq_true_eq]; exact List.le_total a b
  rw [rise_pair, List.pairwise_map]
  have h1 := List.pairwise_mergeSort tr to ss
  have h2 : (ss.mergeSort leB).Nodup := (List.mergeSort_perm ss leB).nodup_iff.2 h
  refine (h1.and h2).imp (fun {a b} hab => ?_)
  rw [sLt_txB]
  have := hab.1
  simp only [leB, decide_eq_true_eq] at this
  rcases List.le_iff_lt_or_eq.1 this with k | k
  · exact k
  · exact absurd k hab.2

set_option maxHeartbeats 1000000 in
theorem has_any (b n : Nat) (S : ByteArray → Bool) (s : ByteArray) (w : World) (h : SetIs w b n S) (hs : s.size ≤ 9223372036854775807) :
    Calls Try.prog 38 #[.map (some b), .string s] w fun e w' => e = .returned (.bool (S s)) ∧ Below w.heap.size w w' := by
  have hl := MapIs.look h Try.underlying54 (Try.zeroValue78 w) hs
  rw [setF_is, setF_get] at hl
  clear h
  go_enter Try.func38, Try.ntmps38
  go_wp2_with fail
  go_ret
  exact ⟨rfl, bel1 _⟩
theorem has_is {c : Bool} (b n : Nat) (S : ByteArray → Bool) (s : ByteArray) (w : World) (h : SetIs w b n S) (hs : s.size ≤ 9223372036854775807) (hc : S s = c) :
    Calls Try.prog 38 #[.map (some b), .string s] w fun e w' => e = .returned (.bool c) ∧ Below w.heap.size w w' := by subst hc; exact has_any b n S s w h hs
set_option maxHeartbeats 1000000 in
theorem add_any (b n : Nat) (S : ByteArray → Bool) (s : ByteArray) (w : World) (h : SetIs w b n S) (hs : s.size ≤ 9223372036854775807) (hn : n < 9223372036854775807) :
    Calls Try.prog 34 #[.map (some b), .string s] w fun e w' => e = .returned (.tuple #[]) ∧ SetIs w' b (n + 1) (addS S s) ∧ w.mapTurned w' b := by
  obtain ⟨w5, hup, hm5, ht5⟩ := MapIs.store h Try.underlying54 hn hs (.agg #[])
  rw [setF_add] at hm5
  have HM := hide hm5
  have HT := hide ht5
  clear h hm5 ht5
  go_enter Try.func34, Try.ntmps34
  go_wp2_with fail
  go_end0
  exact ⟨rfl, unhide HM, unhide HT⟩
theorem ownE_texts {w : World} {base : Nat} {v : Value} {xs : List (List UInt8)} (h : w.ownsRow base 9 1 v xs.length (xs.map encStr)) : OwnE 1 stC w base 9 v (xs.map txB) := by
  refine ⟨⟨xs.map encStr, by rw [List.length_map]; exact h, fun j hj q hq => ?_⟩⟩
  rw [List.length_map] at hj
  obtain rfl : q = 0 := by omega
  simp [elAt, hj, encStr, stC, txB]
/-- The names, sorted: a list of its own that rises and has them all. -/
theorem sorted_any (b n : Nat) (S : ByteArray → Bool) (w : World) (h : SetIs w b n S) (hn : n ≤ 1000) :
    Calls Try.prog 36 #[.map (some b)] w fun e w' => ∃ a1 c1 L, e = .returned (.slice a1 L.length c1) ∧ OwnE 1 stC w' w.heap.size 9 (.slice a1 L.length c1) L ∧ riseS L = true ∧ (∀ s, s ∈ L ↔ S s = true) ∧ Below w.heap.size w w' := by
  obtain ⟨D, hown, hsay⟩ := h
  have hsz := hown.size_le
  have hmem := mem_strKeys hown
  refine (sorted_own b n D selfR w hown (by unfold maxLen; omega) (by omega)).mono ?_
  rintro e w' ⟨v, ss, rfl, hp, hrow, _, hb⟩
  have hlen : ss.length = (ss.mergeSort leB).length := (List.length_mergeSort ss).symm
  rw [hlen] at hrow
  have ho := ownE_texts hrow
  obtain ⟨a1, c1, rfl, _, _⟩ := ho.slice
  refine ⟨a1, c1, (ss.mergeSort leB).map txB, rfl, ho, sorted_rise (hp.nodup_iff.2 hmem.1), fun s => ?_, hb⟩
  have hS : has D (txK s) = S s := by rw [hsay.1, setF_is]
  rw [← hS, List.mem_map]
  constructor
  · rintro ⟨x, hx, rfl⟩
    rw [txK_txB]
    exact (hmem.2 x).1 (hp.mem_iff.1 ((List.mergeSort_perm ss leB).mem_iff.1 hx))
  · intro hh
    exact ⟨s.data.toList, (List.mergeSort_perm ss leB).mem_iff.2 (hp.mem_iff.2 ((hmem.2 _).2 hh)), rfl⟩
/-- The same, where the list is known. -/
theorem sorted_is (b n : Nat) (S : ByteArray → Bool) (L : List ByteArray) (w : World) (h : SetIs w b n S) (hn : n ≤ 1000) (hL : riseS L = true) (hm : ∀ s, s ∈ L ↔ S s = true) :
    Calls Try.prog 36 #[.map (some b)] w fun e w' => ∃ a1 c1, e = .returned (.slice a1 L.length c1) ∧ OwnE 1 stC w' w.heap.size 9 (.slice a1 L.length c1) L ∧ Below w.heap.size w w' := by
  refine (sorted_any b n S w h hn).mono ?_
  rintro e w' ⟨a1, c1, L', rfl, ho, hr, hm', hb⟩
  obtain rfl : L' = L := rise_eq hr hL (fun s => (hm' s).trans (hm s).symm)
  exact ⟨a1, c1, rfl, ho, hb⟩

end Go.Proofs.Ytfehfocfoegbdaa

namespace Go.Proofs.Ytfehfocfoegbdaa
open Go.RowKit Go.Maps Go.WideMaps

theorem MapIs.only {w w' : World} {b n lo hi : Nat} {F : ByteArray → Option Value} (h : MapIs w b n F) (k : Only lo hi w w') (hs : b < lo ∨ hi ≤ b) : MapIs w' b n F := by
  obtain ⟨D, ⟨es, clock, h1, h2⟩, h3⟩ := h
  have hlt : b < w.heap.size := (Array.getElem?_eq_some_iff.1 h1).1
  exact ⟨D, ⟨es, clock, (k.block b hlt hs).trans h1, h2⟩, h3⟩
theorem SetIs.only {w w' : World} {b n lo hi : Nat} {S : ByteArray → Bool} (h : SetIs w b n S) (k : Only lo hi w w') (hs : b < lo ∨ hi ≤ b) : SetIs w' b n S := MapIs.only h k hs
theorem RangeIs.turned {w w' : World} {b r n cnt c : Nat} {F : ByteArray → Option Value} {L : ByteArray → Bool} (h : RangeIs w b r n F L cnt) (k : w.mapTurned w' c) (hb : b ≠ c) (hr : r ≠ c) : RangeIs w' b r n F L cnt := h.kept k.grown (by simp [hb]) (by simp [hr])
section
variable {ops : Array Oper} {rest : List Oper} {o : Oper} {a : Act} {Q : Exit → Act → World → Prop}
/-- 'delete(m, s)' in a range over m. -/
theorem wpList_delete_is {w : World} (hg : o.guard = none) (m x : Operand) (t : TypeId) (hop : o.op = Op.call { callee := Callee.builtin Builtin.delete, args := #[m, x], argTypes := #[t, 9] }) {e : TypeId} (ht : Try.prog.underlying t = some (.map 9 e)) {b r n cnt : Nat} {F : ByteArray → Option Value} {L : ByteArray → Bool}
    (hm : a.eval m = .map (some b)) (h : RangeIs w b r n F L cnt) {s : ByteArray} (hx : a.eval x = .string s) (hs : s.size ≤ 9223372036854775807)
    (hK : ∀ (w' : World) (cnt' : Nat), RangeIs w' b r n (delF F s) (fun u => L u && !decide (u = s)) cnt' → cnt' ≤ cnt → w.mapTurned w' b → wpList Try.prog ops Q rest (a.put o.dst (.tuple #[])) w') :
    wpList Try.prog ops Q (o :: rest) a w := by
  obtain ⟨D, left, h1, h2, h3⟩ := h
  refine wpList_delete_ranges w hg m x t 9 hop e keyed_str ht selfR b r n D left cnt hm h1 (.string s) (txK s) hx (key_str hs) (fun w' cnt' hr hle htu => hK w' cnt' ⟨_, _, hr, h2.del s, fun u => ?_⟩ hle htu)
  have hk : (txK u).sameKey (txK s) = decide (u = s) := by
    rw [Bool.eq_iff_iff, WideAt.sameKey_iff (txK_isKey s), decide_eq_true_eq]
    exact ⟨fun e => txK_inj e, fun e => by rw [e]⟩
  show (left (txK u) && !(txK u).sameKey (txK s)) = _
  rw [h3 u, hk]
end
theorem Only.grown {lo hi : Nat} {w wr w' : World} {row : Option Nat} (h : Only lo hi w wr) (g : wr.grownBy w' row) (hr : ∀ q, row = some q → w.heap.size ≤ q ∨ (lo ≤ q ∧ q < hi)) : Only lo hi w w' :=
  ⟨g.os.trans h.os, g.tape.trans h.tape, g.output.trans h.output, Nat.le_trans h.size g.size, fun k hk he => (g.block k (Nat.lt_of_lt_of_le hk h.size) (fun e => by have := hr k e.symm; omega)).trans (h.block k hk he)⟩
/-- Two sets together. -/
def orS (S T : ByteArray → Bool) : ByteArray → Bool := fun t => S t || T t
/-- A set copied into another one, so far. -/
structure Cpm (w wr : World) (bd bs n m cnt : Nat) (S T L : ByteArray → Bool) : Prop where
  r : RangeIs wr bs w.heap.size m (setF T) L cnt
  d : ∃ k, k + cnt ≤ n + m ∧ SetIs wr bd k (fun t => S t || (T t && !L t))
  o : Only bd (bd + 1) w wr
set_option maxRecDepth 20000 in
set_option maxHeartbeats 1000000 in
theorem copyS_any (bd bs n m : Nat) (S T : ByteArray → Bool) (w : World) (hd : SetIs w bd n S) (hs : SetIs w bs m T) (hne : bs ≠ bd) (hn : n + m < 9223372036854775807) :
    Calls Try.prog 37 #[.map (some bd), .map (some bs)] w fun e w' => e = .returned (.tuple #[]) ∧ SetIs w' bd (n + m) (orS S T) ∧ Only bd (bd + 1) w w' := by
  have HD := hide hd
  have HS := hide hs
  have hdl := MapIs.lt hd
  have hsl := MapIs.lt hs
  clear hd hs
  go_enter Try.func37, Try.ntmps37
  go_wp2_with (first
    | (at_range; refine wpList_range_is rfl _ 54 rfl Try.underlying54 rfl (unhide HS) ?_; intro w1 cnt1 hrg1 hc1 hg1 hs1)
    | go_in)
  go_frame
  have b1 : Below w.heap.size w w1 := (Below.refl w.heap.size w).grown hg1 (Nat.le_refl _) (fun j hj => by cases hj)
  have K1 : Hid (Cpm w w1 bd bs n m cnt1 S T T) := hide ⟨by
      have e : (fun s => (setF T s).isSome) = T := by funext s; exact setF_is T s
      rw [e] at hrg1; exact hrg1, ⟨n, by omega, by
      have e : (fun t => S t || (T t && !T t)) = S := by funext t; cases S t <;> cases T t <;> rfl
      rw [e]; exact (unhide HD).below b1⟩, Only.of_below b1⟩
  clear hrg1 hg1 hs1 b1 HD HS
  go_loopw [] (fun wr => ∃ (L : ByteArray → Bool) (cnt : Nat), Hid (Cpm w wr bd bs n m cnt S T L)) (fun wr => wr.rangeLeft bs w.heap.size)
  case atStart => exact ⟨_, _, K1⟩
  case round =>
    clear K1 hc1
    obtain ⟨L, cnt, HK⟩ := hrel
    go_wp2_with (first
      | (at_next; refine wpList_next_is rfl _ rfl rfl (unhide HK).r ?_ ?_)
      | go_in)
    · intro hl
      have HE : Hid (SetIs wr bd (n + m) (orS S T)) := hide (by
        obtain ⟨k, hk, hs⟩ := (unhide HK).d
        have e : (fun t => S t || (T t && !L t)) = orS S T := by funext t; unfold orS; rw [hl t]; cases S t <;> cases T t <;> rfl
        rw [e] at hs
        exact MapIs.mono hs (by omega))
      have HO := hide (unhide HK).o
      clear hl
      go_wp2_with fail
      go_end0
      exact ⟨rfl, unhide HE, unhide HO⟩
    · intro s v w4 cnt4 hss hL hF hrg4 hlt4 hg4 hs4 hen
      have hT : T s = true := by have := setF_is T s; rw [hF] at this; exact this.symm
      obtain rfl : v = .agg #[] := by unfold setF at hF; rw [hT] at hF; exact (Option.some.inj hF).symm
      have o4 : Only bd (bd + 1) w w4 := (unhide HK).o.grown hg4 (fun q hq => by cases hq; exact .inl (Nat.le_refl _))
      obtain ⟨k, hk, hsd⟩ := (unhide HK).d
      have d4 : SetIs w4 bd k (fun t => S t || (T t && !L t)) := MapIs.kept hsd hg4 (by simp; omega)
      obtain ⟨V, hV⟩ : ∃ V, V = w4.alloc (Obj.cells #[] 78) := ⟨_, rfl⟩
      have dV : SetIs V bd k (fun t => S t || (T t && !L t)) := by rw [hV]; exact d4.below (bel1 _)
      have rV : RangeIs V bs w.heap.size m (setF T) (fun t => L t && !decide (t = s)) cnt4 := by rw [hV]; exact hrg4.below (bel1 _)
      have oV : Only bd (bd + 1) w V := by rw [hV]; exact o4.trans (Only.of_below (bel1 _))
      obtain ⟨w5, hup, hm5, ht5⟩ := MapIs.store dV Try.underlying54 (by omega) hss (.agg #[])
      rw [setF_add] at hm5
      have K5 : Hid (Cpm w w5 bd bs n m cnt4 S T (fun t => L t && !decide (t = s))) := hide ⟨rV.turned ht5 hne (by omega), ⟨k + 1, by omega, by
          have e : addS (fun t => S t || (T t && !L t)) s = (fun t => S t || (T t && !(L t && !decide (t = s)))) := by
            funext t
            unfold addS
            by_cases c : t = s
            · subst c; simp [hT]
            · simp [c]
          rw [← e]; exact hm5⟩, oV.grown ht5.grown (fun q hq => by cases hq; exact .inr ⟨Nat.le_refl _, by omega⟩)⟩
      rw [hV] at hup
      clear hV dV rV oV d4 o4 hrg4 hg4 hs4 hm5 ht5 hF hk hsd hT
      go_wp2_with fail
      go_roundw
      case rel => exact ⟨_, cnt4, K5⟩
      case measure => rw [(unhide K5).r.left_eq, (unhide HK).r.left_eq]; exact hlt4

end Go.Proofs.Ytfehfocfoegbdaa

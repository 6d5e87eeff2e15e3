/-
  What is aboard, as the program asks it, in plain numbers: the same answer as the model's. No program here.
  The first load of which something is so, and texts sorted, in plain numbers. No program here.
  The closures by which the program looks for a load, the library's IndexFunc and ContainsFunc at them, and placeOfNumber, isNeeded: plain answers; nothing that was there is written.
-/
import Derived.Test.YtlpomplldgmkmbaPu1
import Derived.Test.YtlpomplldgmkmbaWr1
import Derived.Test.YtlpomplldgmkmbaStrRow
import Derived.Test.YtlpomplldgmkmbaLx1

namespace Go.Proofs.Ytlpomplldgmkmba
open Go Go.RowKit

/-- The numbers and the parts of loads. -/
def nbL (ls : List Lc) : List Int := ls.map Lc.nb
def ptL (ls : List Lc) : List ByteArray := ls.map Lc.p
theorem nbL_at (ls : List Lc) {i : Nat} (h : i < ls.length) : nth (nbL ls) i = (elAt ls i).nb := by simp [nth, nbL, elAt, h]
theorem ptL_at (ls : List Lc) {i : Nat} (h : i < ls.length) : elAt (ptL ls) i = (elAt ls i).p := by simp [ptL, elAt, h]
theorem nbL_len (ls : List Lc) : (nbL ls).length = ls.length := by simp [nbL]
theorem ptL_len (ls : List Lc) : (ptL ls).length = ls.length := by simp [ptL]
theorem nbL_take (ls : List Lc) {k : Nat} (h : k < ls.length) : nbL (ls.take (k + 1)) = nbL (ls.take k) ++ [(elAt ls k).nb] := by
  rw [List.take_add_one, show ls[k]? = some (elAt ls k) by simp [elAt, h]]; simp [nbL]
theorem ptL_take (ls : List Lc) {k : Nat} (h : k < ls.length) : ptL (ls.take (k + 1)) = ptL (ls.take k) ++ [(elAt ls k).p] := by
  rw [List.take_add_one, show ls[k]? = some (elAt ls k) by simp [elAt, h]]; simp [ptL]
/-- Loads that are sound, and not too many. -/
def lsB (ls : List Lc) : Bool := decide (ls.length ≤ 30) && decide (∀ i, i < ls.length → ldB (elAt ls i) = true)
theorem lsB_many {ls : List Lc} (h : ¬ ls.length ≤ 30) : lsB ls = false := by simp [lsB, h]
theorem lsB_no {ls : List Lc} {i : Nat} (hi : i < ls.length) (h : ldB (elAt ls i) = false) : lsB ls = false := by
  have : ¬ ∀ i, i < ls.length → ldB (elAt ls i) = true := fun k => by have := k i hi; rw [h] at this; cases this
  unfold lsB; rw [decide_eq_false this, Bool.and_false]
theorem lsB_yes {ls : List Lc} (h : ls.length ≤ 30) (k : ∀ i, i < ls.length → ldB (elAt ls i) = true) : lsB ls = true := by
  unfold lsB; rw [decide_eq_true h, decide_eq_true k]; rfl
theorem lsB_facts {ls : List Lc} (h : lsB ls = true) : ls.length ≤ 30 ∧ ∀ i, i < ls.length → ldB (elAt ls i) = true := by
  simp only [lsB, Bool.and_eq_true, decide_eq_true_eq] at h; exact h
/-- Whether no two are of one part. -/
def dfB (ls : List Lc) : Bool := decide ((ptL ls).Nodup)
theorem dfB_pair {ls : List Lc} : dfB ls = true ↔ ∀ i j, i < j → j < ls.length → (elAt ls i).p ≠ (elAt ls j).p := by
  rw [dfB, decide_eq_true_eq, List.nodup_iff_pairwise_ne, List.pairwise_iff_getElem]
  constructor
  · intro h i j hij hj
    have := h i j (by rw [ptL_len]; omega) (by rw [ptL_len]; omega) hij
    have e1 : (ptL ls)[i]'(by rw [ptL_len]; omega) = (elAt ls i).p := by rw [← ptL_at ls (by omega)]; simp [elAt, ptL_len, show i < ls.length by omega]
    have e2 : (ptL ls)[j]'(by rw [ptL_len]; omega) = (elAt ls j).p := by rw [← ptL_at ls (by omega)]; simp [elAt, ptL_len, hj]
    rw [e1, e2] at this; exact this
  · intro h i j hi hj hij
    have hi' : i < ls.length := by rw [ptL_len] at hi; exact hi
    have hj' : j < ls.length := by rw [ptL_len] at hj; exact hj
    have := h i j hij hj'
    have e1 : (ptL ls)[i] = (elAt ls i).p := by rw [← ptL_at ls hi']; simp [elAt, ptL_len, hi']
    have e2 : (ptL ls)[j] = (elAt ls j).p := by rw [← ptL_at ls hj']; simp [elAt, ptL_len, hj']
    rw [e1, e2]; exact this
/-- Whether what a load needs is aboard, of another part. -/
def haB (ls : List Lc) (l : Lc) : Bool := decide (l.ne = 0) || (decide (fnF ls l.ne ≠ -1) && decide ((elAt ls (fnF ls l.ne).toNat).p ≠ l.p))
/-- Whether each load fits and has what it needs. -/
def ebB (s : Int) (ls : List Lc) : Bool := decide (∀ i, i < ls.length → (inB s (elAt ls i).le (elAt ls i).mo && haB ls (elAt ls i)) = true)
theorem ebB_no {s : Int} {ls : List Lc} {i : Nat} (hi : i < ls.length) (h : (inB s (elAt ls i).le (elAt ls i).mo && haB ls (elAt ls i)) = false) : ebB s ls = false := by
  exact decide_eq_false (fun k => by have := k i hi; rw [h] at this; cases this)
theorem ebB_yes {s : Int} {ls : List Lc} (h : ∀ i, i < ls.length → (inB s (elAt ls i).le (elAt ls i).mo && haB ls (elAt ls i)) = true) : ebB s ls = true := decide_eq_true h
def aqB (s : Int) (ls : List Lc) : Bool := inB s 1 1000000 && lsB ls && riseB (nbL ls) && dfB ls && ebB s ls
theorem riseB_at {ls : List Lc} : riseB (nbL ls) = true ↔ ∀ i, i + 1 < ls.length → (elAt ls i).nb < (elAt ls (i + 1)).nb := by
  rw [riseB, decide_eq_true_eq, nbL_len]
  constructor
  · intro h i hi
    have := h i (by omega)
    rwa [nbL_at ls (by omega), nbL_at ls hi] at this
  · intro h i hi
    have := h i (by omega)
    rwa [nbL_at ls (by omega), nbL_at ls (by omega)]
theorem rise_nb {ls : List Lc} (h : riseB (nbL ls) = true) : ∀ (j i : Nat), i < j → j < ls.length → (elAt ls i).nb < (elAt ls j).nb
  | 0, i, hij, _ => by omega
  | j + 1, i, hij, hj => by
    have h1 := riseB_at.1 h j hj
    rcases Nat.lt_or_ge i j with c | c
    · have := rise_nb h j i c (by omega); omega
    · obtain rfl : i = j := by omega
      exact h1
theorem aqB_is (s : Int) (ls : List Lc) : aqB s ls = abB s ls := by
  rw [Bool.eq_iff_iff]
  constructor
  · intro h
    simp only [aqB, Bool.and_eq_true] at h
    obtain ⟨⟨⟨⟨h1, h2⟩, h3⟩, h4⟩, h5⟩ := h
    obtain ⟨k1, k2⟩ := lsB_facts h2
    have k4 := dfB_pair.1 h4
    have k5 := of_decide_eq_true h5
    have hall : ∀ i, i < ls.length → abI s ls i = true := by
      intro i hi
      have e5 := k5 i hi
      simp only [Bool.and_eq_true] at e5
      simp only [abI, Bool.and_eq_true, decide_eq_true_eq]
      refine ⟨⟨⟨⟨k2 i hi, fun h0 => rise_nb h3 i (i - 1) (by omega) hi⟩, e5.1⟩, fun hn => ?_⟩, fun k hk => k4 k i hk hi⟩
      have e6 := e5.2
      simp only [haB, Bool.or_eq_true, Bool.and_eq_true, decide_eq_true_eq] at e6
      rcases e6 with e6 | ⟨e6, e7⟩
      · exact absurd e6 hn
      · rcases fnF_cases ls (elAt ls i).ne with ⟨a, _⟩ | ⟨k, hk, a, b, _⟩
        · exact absurd a e6
        · refine ⟨fun e => ?_, by omega⟩
          have hki : k = i := by
            rcases Nat.lt_trichotomy k i with c | c | c
            · have := rise_nb h3 i k c hi; omega
            · exact c
            · have := rise_nb h3 k i c hk; omega
          rw [a, hki] at e7
          exact e7 (by simp)
    rw [abB_all hall, Bool.and_eq_true, decide_eq_true_eq]
    exact ⟨h1, k1⟩
  · intro h
    obtain ⟨f1, f2, f3⟩ := abB_facts h
    have hi := fun i hi => abI_facts (f1 i hi)
    have hr : riseB (nbL ls) = true := riseB_at.2 (fun i hi' => by have := (hi (i + 1) hi').2.1 (by omega); rwa [Nat.add_sub_cancel] at this)
    simp only [aqB, Bool.and_eq_true]
    refine ⟨⟨⟨⟨by simp only [inB, decide_eq_true_eq]; exact f2, lsB_yes f3 (fun i h' => (hi i h').1)⟩, hr⟩, dfB_pair.2 (fun i j hij hj => (hi j hj).2.2.2.2 i hij)⟩, ebB_yes (fun i h' => ?_)⟩
    have q := hi i h'
    simp only [Bool.and_eq_true, inB, decide_eq_true_eq]
    refine ⟨q.2.2.1, ?_⟩
    simp only [haB, Bool.or_eq_true, Bool.and_eq_true, decide_eq_true_eq]
    by_cases hn : (elAt ls i).ne = 0
    · exact .inl hn
    · obtain ⟨q1, q2⟩ := q.2.2.2.1 hn
      rcases fnF_cases ls (elAt ls i).ne with ⟨a, _⟩ | ⟨k, hk, a, b, _⟩
      · omega
      · refine .inr ⟨by omega, ?_⟩
        rw [a]
        simp only [Int.toNat_natCast]
        rcases Nat.lt_trichotomy k i with c | c | c
        · exact (hi i h').2.2.2.2 k c
        · rw [c] at b; exact absurd b.symm q1
        · exact fun e => (hi k hk).2.2.2.2 i c e.symm
theorem sort_rise (ss : List (List UInt8)) : riseS ((ss.mergeSort (fun x y => decide (x ≤ y))).map (fun x => (⟨⟨x⟩⟩ : ByteArray))) = decide ss.Nodup := by
  have tr : ∀ a b c : List UInt8, decide (a ≤ b) = true → decide (b ≤ c) = true → decide (a ≤ c) = true := fun a b c h1 h2 => by simp only [decide_eq_true_eq] at *; exact List.le_trans h1 h2
  have to : ∀ a b : List UInt8, (decide (a ≤ b) || decide (b ≤ a)) = true := fun a b => by simp only [Bool.or_eq_true, decide_eq_true_eq]; exact List.le_total a b
  have h1 := List.pairwise_mergeSort tr to ss
  have hp := (List.mergeSort_perm ss (fun x y => decide (x ≤ y))).nodup_iff
  obtain ⟨ts, hts⟩ : ∃ ts, ts = ss.mergeSort (fun x y => decide (x ≤ y)) := ⟨_, rfl⟩
  rw [← hts] at h1 hp ⊢
  have lt : ∀ {x y : List UInt8}, sLt ⟨⟨x⟩⟩ ⟨⟨y⟩⟩ = true ↔ x < y := fun {x y} => by
    rw [sLt_iff, ByteArray.toList_eq, ByteArray.toList_eq]
  have el : ∀ i (hi : i < ts.length), elAt (ts.map (fun x => (⟨⟨x⟩⟩ : ByteArray))) i = ⟨⟨ts[i]⟩⟩ := fun i hi => by simp [elAt, hi]
  rw [Bool.eq_iff_iff, decide_eq_true_eq, ← hp, List.nodup_iff_pairwise_ne, List.pairwise_iff_getElem]
  rw [List.pairwise_iff_getElem] at h1
  constructor
  · intro h i j hi hj hij e
    have hl := riseS_lt h (j - i - 1) i (by rw [List.length_map]; omega)
    rw [show i + (j - i - 1) + 1 = j by omega, el i hi, el j hj, lt, e] at hl
    exact List.lt_irrefl _ hl
  · intro h
    refine riseS_true (fun i hi => ?_)
    rw [List.length_map] at hi
    rw [el i (by omega), el (i + 1) hi, lt]
    have := h1 i (i + 1) (by omega) hi (by omega)
    simp only [decide_eq_true_eq] at this
    rcases List.le_iff_lt_or_eq.1 this with k | k
    · exact k
    · exact absurd k (h i (i + 1) (by omega) hi (by omega))

end Go.Proofs.Ytlpomplldgmkmba

namespace Go.Proofs.Ytlpomplldgmkmba
open Go Go.RowKit

/-- The place of the first load of which P is so; -1 if there is none. -/
def ixR (P : Lc → Bool) : List Lc → Nat → Int
  | [], _ => -1
  | x :: r, i => if P x = true then (i : Int) else ixR P r (i + 1)
def ixF (P : Lc → Bool) (ls : List Lc) : Int := ixR P ls 0
theorem ixR_none {P : Lc → Bool} : ∀ {ls : List Lc} (i : Nat), (∀ j, j < ls.length → P (elAt ls j) = false) → ixR P ls i = -1
  | [], _, _ => rfl
  | x :: r, i, h => by
    rw [ixR, if_neg (by have := h 0 (by simp); simp [elAt] at this; simp [this])]
    exact ixR_none (i + 1) (fun j hj => by simpa [elAt] using h (j + 1) (by simpa using hj))
theorem ixR_at {P : Lc → Bool} : ∀ {ls : List Lc} (i k : Nat), k < ls.length → P (elAt ls k) = true → (∀ j, j < k → P (elAt ls j) = false) → ixR P ls i = ((i + k : Nat) : Int)
  | [], _, k, hk, _, _ => by simp at hk
  | x :: r, i, 0, _, h, _ => by rw [ixR, if_pos (by simpa [elAt] using h)]; simp
  | x :: r, i, k + 1, hk, h, hj => by
    rw [ixR, if_neg (by have := hj 0 (by omega); simp [elAt] at this; simp [this]), ixR_at (i + 1) k (by simpa using hk) (by simpa [elAt] using h) (fun j h2 => by simpa [elAt] using hj (j + 1) (by omega))]
    congr 1; omega
theorem ixF_none {P : Lc → Bool} {ls : List Lc} (h : ∀ j, j < ls.length → P (elAt ls j) = false) : ixF P ls = -1 := ixR_none 0 h
theorem ixF_at {P : Lc → Bool} {ls : List Lc} {k : Nat} (hk : k < ls.length) (h : P (elAt ls k) = true) (hj : ∀ j, j < k → P (elAt ls j) = false) : ixF P ls = (k : Int) := by
  rw [ixF, ixR_at 0 k hk h hj]; simp
theorem ixF_cases (P : Lc → Bool) (ls : List Lc) : (ixF P ls = -1 ∧ ∀ j, j < ls.length → P (elAt ls j) = false) ∨ ∃ k, k < ls.length ∧ ixF P ls = (k : Int) ∧ P (elAt ls k) = true ∧ ∀ j, j < k → P (elAt ls j) = false := by
  have : ∀ m, m ≤ ls.length → (∀ j, j < m → P (elAt ls j) = false) ∨ ∃ k, k < ls.length ∧ P (elAt ls k) = true ∧ ∀ j, j < k → P (elAt ls j) = false := by
    intro m
    induction m with
    | zero => intro _; left; intro j hj; omega
    | succ m ih =>
      intro hm
      rcases ih (by omega) with h | h
      · cases e : P (elAt ls m) with
        | true => exact .inr ⟨m, by omega, e, h⟩
        | false =>
          left; intro j hj
          rcases Nat.lt_or_ge j m with c | c
          · exact h j c
          · obtain rfl : j = m := by omega
            exact e
      · exact .inr h
  rcases this _ (Nat.le_refl _) with h | ⟨k, hk, e, h⟩
  · exact .inl ⟨ixF_none h, h⟩
  · exact .inr ⟨k, hk, ixF_at hk e h, e, h⟩
/-- By number, by need, by part. -/
def qNb (n : Int) (x : Lc) : Bool := decide (x.nb = n)
def qNe (n : Int) (x : Lc) : Bool := decide (x.ne = n)
def qPt (p : ByteArray) (x : Lc) : Bool := decide (x.p = p)
theorem ixF_nb (ls : List Lc) (n : Int) : ixF (qNb n) ls = fnF ls n := by
  rcases fnF_cases ls n with ⟨a, b⟩ | ⟨k, hk, a, b, c⟩
  · rw [a, ixF_none (fun j hj => decide_eq_false (b j hj))]
  · rw [a, ixF_at hk (decide_eq_true b) (fun j hj => decide_eq_false (c j hj))]
theorem ixF_ne (ls : List Lc) (n : Int) : decide (0 ≤ ixF (qNe n) ls) = neB ls n := by
  rcases ixF_cases (qNe n) ls with ⟨a, b⟩ | ⟨k, hk, a, b, c⟩
  · rw [a, neB_no (fun i hi => of_decide_eq_false (b i hi))]; rfl
  · rw [a, neB_yes hk (of_decide_eq_true b)]; simp
theorem ixF_ge (P : Lc → Bool) (ls : List Lc) : -1 ≤ ixF P ls ∧ ixF P ls < ls.length := by
  rcases ixF_cases P ls with ⟨a, _⟩ | ⟨k, hk, a, _, _⟩ <;> omega
/-- Where no two are of one part the first of a part is the last. -/
theorem ixF_pt {ls : List Lc} (h : dfB ls = true) (p : ByteArray) : ixF (qPt p) ls = saF ls p := by
  have hd := dfB_pair.1 h
  rcases ixF_cases (qPt p) ls with ⟨a, b⟩ | ⟨k, hk, a, b, c⟩
  · rw [a, saF, saK_none _ _ _ (fun i hi => of_decide_eq_false (b i hi))]
  · rw [a, saF, saK_at ls p (of_decide_eq_true b) _ hk (fun i hi hki e => hd k i hki hi ((of_decide_eq_true b).trans e.symm))]
/-- Texts, sorted. -/
def srtT (ts : List ByteArray) : List ByteArray := ((ts.map (fun b => b.data.toList)).mergeSort (fun x y => decide (x ≤ y))).map (fun x => (⟨⟨x⟩⟩ : ByteArray))
theorem srtT_len (ts : List ByteArray) : (srtT ts).length = ts.length := by simp [srtT]
theorem srtT_rise (ts : List ByteArray) : riseS (srtT ts) = decide ts.Nodup := by
  rw [srtT, sort_rise, decide_eq_decide]
  constructor
  · intro h
    exact (List.pairwise_map.1 (List.nodup_iff_pairwise_ne.1 h)).imp (fun {a b} hab e => hab (by rw [e]))
  · intro h
    refine List.nodup_iff_pairwise_ne.2 (List.pairwise_map.2 ((List.nodup_iff_pairwise_ne.1 h).imp (fun {a b} hab e => hab ?_)))
    cases a; cases b
    simp only [ByteArray.mk.injEq]
    exact Array.toList_inj.1 e

end Go.Proofs.Ytlpomplldgmkmba

namespace Go.Proofs.Ytlpomplldgmkmba
open Go Go.RowKit

theorem txl_ne' {x y : ByteArray} (h : ¬ x = y) : (x.toList == y.toList) = false := by
  rw [beq_eq_false_iff_ne]
  intro e
  rw [ByteArray.toList_eq, ByteArray.toList_eq] at e
  exact h (by cases x; cases y; simp only [ByteArray.mk.injEq]; exact Array.toList_inj.1 e)
set_option maxHeartbeats 1000000 in
theorem nb_clo (x : Lx) (n : Int) (g : Nat) (w : World) (hg : Blk w g [.int .i64 n]) :
    Calls Try.prog 85 #[.agg #[.string x.p, .int .i64 x.nb, .int .i64 x.le, .int .i64 x.mo, .int .i64 x.ne, .slice x.d.a x.d.n x.d.c], .pointer (some ⟨g, 0, none⟩)] w fun e w' => e = .returned (.bool (qNb n (lxW x))) ∧ Below w.heap.size w w' := by
  have c0 : w.cell? ⟨g, 0, none⟩ = some (.int .i64 n) := hg.c 0 (by simp)
  have hlt := hg.lt
  have c1 := (World.cell?_alloc_lt w (Obj.cells #[.string x.p, .int .i64 x.nb, .int .i64 x.le, .int .i64 x.mo, .int .i64 x.ne, .slice x.d.a x.d.n x.d.c] 44) ⟨g, 0, none⟩ hlt).trans c0
  have HP : Hid (qNb n (lxW x) = decide (x.nb = n)) := hide rfl
  obtain ⟨X, hX⟩ : ∃ z, x.nb = z := ⟨_, rfl⟩
  rw [hX] at HP c1 ⊢
  clear hX c0 hg
  go_enter Try.func85, Try.ntmps85
  go_wp2
  go_ret
  exact ⟨ret_bool (by rw [unhide HP]; first | rfl | simp), bel1 _⟩
set_option maxRecDepth 20000 in
set_option maxHeartbeats 2000000 in
theorem nb_ix (a1 : Option Addr) (l1 c1 : Nat) (zs : List Lc) (n : Int) (g : Nat) (w : World) (hr : LsT w a1 l1 zs) (hg : Blk w g [.int .i64 n]) :
    Calls Try.prog 84 #[.slice a1 l1 c1, .func (.func 85) #[] #[.pointer (some ⟨g, 0, none⟩)]] w fun e w' => e = .returned (.int .i64 (ixF (qNb n) zs)) ∧ Below w.heap.size w w' := by
  have hzl := hr.len_eq
  obtain ⟨ls, e, hl⟩ := hr.ex
  have hz := hl.row.len_eq
  have HO := hide hl.row.six
  have HEL := hide hl.el
  have hsm := hl.row.small
  have HE := hide e
  have HZL := hide hzl
  have HT := hide hr
  subst hz
  clear hr hl e hzl
  have HG := hide hg
  clear hg
  go_enter Try.func84, Try.ntmps84
  go_wp2_with fail
  go_loopw [8] (fun i wr => ∃ k : Nat, i = .int .i64 k ∧ k ≤ ls.length ∧ Hid (Below w.heap.size w wr) ∧ Hid (∀ j, j < k → qNb n (elAt zs j) = false)) (fun i _ => ls.length - (intOf i).toNat)
  case atStart => exact ⟨0, rfl, Nat.zero_le _, hide (Below.refl _ _), hide (fun j hj => by omega)⟩
  case round =>
    obtain ⟨k, rfl, hk, BW, AL⟩ := hrel
    by_cases hlt : k < ls.length
    · rcases (unhide HO) with ⟨h0, _⟩ | ⟨bb, off, rfl, _, hc⟩
      · omega
      have HC := hide hc
      obtain ⟨x, hx⟩ : ∃ x, elAt ls k = x := ⟨_, rfl⟩
      have el : elAt zs k = lxW x := by rw [← hx]; exact elAt_lx (unhide HE) hlt
      have hin := (unhide HEL) k hlt
      have q := hc k hlt
      rw [hx] at hin q
      have cl := fun {p : Addr} {v : Value} (h : w.cell? p = some v) => ((unhide BW).cell (p := p) (block_lt_of_cell h)).trans h
      have s0 := cl q.1
      have s1 := cl q.2.1
      have s2 := cl q.2.2.1
      have s3 := cl q.2.2.2.1
      have s4 := cl q.2.2.2.2.1
      have s5 := cl q.2.2.2.2.2
      have hi1 : (k : Int) < (ls.length : Int) := by omega
      have hi0 : (0 : Int) ≤ (k : Int) := by omega
      have HIN := hide hin
      have HEK := hide el
      clear q cl hx hc hin el
      cases q1 : qNb n (lxW x) with
      | true =>
        have HR : Hid (ixF (qNb n) zs = (k : Int)) := hide (by have := unhide HZL; exact ixF_at (by omega) (by rw [unhide HEK]; exact q1) (unhide AL))
        have CF : Hid (Calls Try.prog 85 #[.agg #[.string x.p, .int .i64 x.nb, .int .i64 x.le, .int .i64 x.mo, .int .i64 x.ne, .slice x.d.a x.d.n x.d.c], .pointer (some ⟨g, 0, none⟩)] wr fun e w' => e = .returned (.bool true) ∧ Below wr.heap.size wr w') := hide (by have := nb_clo x n g wr ((unhide HG).below (unhide BW)); rw [q1] at this; exact this)
        clear HC HIN HEK q1 AL
        go_wp2_with (go_at_call 85; refine (unhide CF).mono ?_; rintro e w2 ⟨rfl, b2⟩; have B2 := hide ((unhide BW).trans (b2.mono (unhide BW).size)); clear b2)
        go_ret
        exact ⟨ret_int (unhide HR).symm, unhide B2⟩
      | false =>
        have CF : Hid (Calls Try.prog 85 #[.agg #[.string x.p, .int .i64 x.nb, .int .i64 x.le, .int .i64 x.mo, .int .i64 x.ne, .slice x.d.a x.d.n x.d.c], .pointer (some ⟨g, 0, none⟩)] wr fun e w' => e = .returned (.bool false) ∧ Below wr.heap.size wr w') := hide (by have := nb_clo x n g wr ((unhide HG).below (unhide BW)); rw [q1] at this; exact this)
        have NX : Hid (∀ j, j < k + 1 → qNb n (elAt zs j) = false) := hide (fun j hj => by
          by_cases e3 : j = k
          · rw [e3, unhide HEK]; exact q1
          · exact (unhide AL) j (by omega))
        clear HC HIN HEK q1 AL
        go_wp2_with (go_at_call 85; refine (unhide CF).mono ?_; rintro e w2 ⟨rfl, b2⟩; have B2 := hide ((unhide BW).trans (b2.mono (unhide BW).size)); clear b2)
        go_roundw
        case rel => exact ⟨k + 1, by go_num, by omega, B2, NX⟩
        case measure => simp [intOf]; omega
    · have hi1 : ¬ (k : Int) < (ls.length : Int) := by omega
      have HR : Hid (ixF (qNb n) zs = -1) := hide (ixF_none (fun j hj => (unhide AL) j (by have := unhide HZL; omega)))
      go_wp2_with fail
      go_ret
      exact ⟨ret_int (unhide HR).symm, unhide BW⟩
set_option maxHeartbeats 1000000 in
theorem ne_clo (x : Lx) (n : Int) (g : Nat) (w : World) (hg : Blk w g [.int .i64 n]) :
    Calls Try.prog 87 #[.agg #[.string x.p, .int .i64 x.nb, .int .i64 x.le, .int .i64 x.mo, .int .i64 x.ne, .slice x.d.a x.d.n x.d.c], .pointer (some ⟨g, 0, none⟩)] w fun e w' => e = .returned (.bool (qNe n (lxW x))) ∧ Below w.heap.size w w' := by
  have c0 : w.cell? ⟨g, 0, none⟩ = some (.int .i64 n) := hg.c 0 (by simp)
  have hlt := hg.lt
  have c1 := (World.cell?_alloc_lt w (Obj.cells #[.string x.p, .int .i64 x.nb, .int .i64 x.le, .int .i64 x.mo, .int .i64 x.ne, .slice x.d.a x.d.n x.d.c] 44) ⟨g, 0, none⟩ hlt).trans c0
  have HP : Hid (qNe n (lxW x) = decide (x.ne = n)) := hide rfl
  obtain ⟨X, hX⟩ : ∃ z, x.ne = z := ⟨_, rfl⟩
  rw [hX] at HP c1 ⊢
  clear hX c0 hg
  go_enter Try.func87, Try.ntmps87
  go_wp2
  go_ret
  exact ⟨ret_bool (by rw [unhide HP]; first | rfl | simp), bel1 _⟩
set_option maxRecDepth 20000 in
set_option maxHeartbeats 2000000 in
theorem ne_ix (a1 : Option Addr) (l1 c1 : Nat) (zs : List Lc) (n : Int) (g : Nat) (w : World) (hr : LsT w a1 l1 zs) (hg : Blk w g [.int .i64 n]) :
    Calls Try.prog 84 #[.slice a1 l1 c1, .func (.func 87) #[] #[.pointer (some ⟨g, 0, none⟩)]] w fun e w' => e = .returned (.int .i64 (ixF (qNe n) zs)) ∧ Below w.heap.size w w' := by
  have hzl := hr.len_eq
  obtain ⟨ls, e, hl⟩ := hr.ex
  have hz := hl.row.len_eq
  have HO := hide hl.row.six
  have HEL := hide hl.el
  have hsm := hl.row.small
  have HE := hide e
  have HZL := hide hzl
  have HT := hide hr
  subst hz
  clear hr hl e hzl
  have HG := hide hg
  clear hg
  go_enter Try.func84, Try.ntmps84
  go_wp2_with fail
  go_loopw [8] (fun i wr => ∃ k : Nat, i = .int .i64 k ∧ k ≤ ls.length ∧ Hid (Below w.heap.size w wr) ∧ Hid (∀ j, j < k → qNe n (elAt zs j) = false)) (fun i _ => ls.length - (intOf i).toNat)
  case atStart => exact ⟨0, rfl, Nat.zero_le _, hide (Below.refl _ _), hide (fun j hj => by omega)⟩
  case round =>
    obtain ⟨k, rfl, hk, BW, AL⟩ := hrel
    by_cases hlt : k < ls.length
    · rcases (unhide HO) with ⟨h0, _⟩ | ⟨bb, off, rfl, _, hc⟩
      · omega
      have HC := hide hc
      obtain ⟨x, hx⟩ : ∃ x, elAt ls k = x := ⟨_, rfl⟩
      have el : elAt zs k = lxW x := by rw [← hx]; exact elAt_lx (unhide HE) hlt
      have hin := (unhide HEL) k hlt
      have q := hc k hlt
      rw [hx] at hin q
      have cl := fun {p : Addr} {v : Value} (h : w.cell? p = some v) => ((unhide BW).cell (p := p) (block_lt_of_cell h)).trans h
      have s0 := cl q.1
      have s1 := cl q.2.1
      have s2 := cl q.2.2.1
      have s3 := cl q.2.2.2.1
      have s4 := cl q.2.2.2.2.1
      have s5 := cl q.2.2.2.2.2
      have hi1 : (k : Int) < (ls.length : Int) := by omega
      have hi0 : (0 : Int) ≤ (k : Int) := by omega
      have HIN := hide hin
      have HEK := hide el
      clear q cl hx hc hin el
      cases q1 : qNe n (lxW x) with
      | true =>
        have HR : Hid (ixF (qNe n) zs = (k : Int)) := hide (by have := unhide HZL; exact ixF_at (by omega) (by rw [unhide HEK]; exact q1) (unhide AL))
        have CF : Hid (Calls Try.prog 87 #[.agg #[.string x.p, .int .i64 x.nb, .int .i64 x.le, .int .i64 x.mo, .int .i64 x.ne, .slice x.d.a x.d.n x.d.c], .pointer (some ⟨g, 0, none⟩)] wr fun e w' => e = .returned (.bool true) ∧ Below wr.heap.size wr w') := hide (by have := ne_clo x n g wr ((unhide HG).below (unhide BW)); rw [q1] at this; exact this)
        clear HC HIN HEK q1 AL
        go_wp2_with (go_at_call 87; refine (unhide CF).mono ?_; rintro e w2 ⟨rfl, b2⟩; have B2 := hide ((unhide BW).trans (b2.mono (unhide BW).size)); clear b2)
        go_ret
        exact ⟨ret_int (unhide HR).symm, unhide B2⟩
      | false =>
        have CF : Hid (Calls Try.prog 87 #[.agg #[.string x.p, .int .i64 x.nb, .int .i64 x.le, .int .i64 x.mo, .int .i64 x.ne, .slice x.d.a x.d.n x.d.c], .pointer (some ⟨g, 0, none⟩)] wr fun e w' => e = .returned (.bool false) ∧ Below wr.heap.size wr w') := hide (by have := ne_clo x n g wr ((unhide HG).below (unhide BW)); rw [q1] at this; exact this)
        have NX : Hid (∀ j, j < k + 1 → qNe n (elAt zs j) = false) := hide (fun j hj => by
          by_cases e3 : j = k
          · rw [e3, unhide HEK]; exact q1
          · exact (unhide AL) j (by omega))
        clear HC HIN HEK q1 AL
        go_wp2_with (go_at_call 87; refine (unhide CF).mono ?_; rintro e w2 ⟨rfl, b2⟩; have B2 := hide ((unhide BW).trans (b2.mono (unhide BW).size)); clear b2)
        go_roundw
        case rel => exact ⟨k + 1, by go_num, by omega, B2, NX⟩
        case measure => simp [intOf]; omega
    · have hi1 : ¬ (k : Int) < (ls.length : Int) := by omega
      have HR : Hid (ixF (qNe n) zs = -1) := hide (ixF_none (fun j hj => (unhide AL) j (by have := unhide HZL; omega)))
      go_wp2_with fail
      go_ret
      exact ⟨ret_int (unhide HR).symm, unhide BW⟩
set_option maxHeartbeats 1000000 in
theorem placeNb_any (s : Int) (a1 : Option Addr) (l1 c1 : Nat) (zs : List Lc) (n : Int) (w : World) (hr : LsT w a1 l1 zs) :
    Calls Try.prog 65 #[.agg #[.int .i64 s, .slice a1 l1 c1], .int .i64 n] w fun e w' => e = .returned (.int .i64 (fnF zs n)) ∧ Below w.heap.size w w' := by
  obtain ⟨W, hW⟩ : ∃ W, W = (w.alloc (Obj.cells #[.int .i64 s, .slice a1 l1 c1] 57)).alloc (Obj.cells #[.int .i64 n] 3) := ⟨_, rfl⟩
  have KB : Hid (Blk W w.heap.size [.int .i64 s, .slice a1 l1 c1]) := hide (by rw [hW]; exact (Blk.new _ _).alloc _)
  have KG : Hid (Blk W (w.heap.size + 1) [.int .i64 n]) := hide (by
    rw [hW]
    have := Blk.new (w := (w.alloc (Obj.cells #[.int .i64 s, .slice a1 l1 c1] 57))) [.int .i64 n] 3
    simpa using this)
  have BW : Hid (Below w.heap.size w W) := hide (by rw [hW]; exact bel2 _ _)
  have g1 : W.cell? ⟨w.heap.size, 1, none⟩ = some (.slice a1 l1 c1) := (unhide KB).c 1 (by simp)
  have HT := hide (hr.below (unhide BW))
  have HW := hide hW
  clear hr hW
  go_enter Try.func65, Try.ntmps65
  go_wp2_with fail
  rw [← unhide HW]
  clear HW
  go_wp2_with (go_at_call 84; refine (nb_ix _ _ _ zs n _ W (unhide HT) (unhide KG)).mono ?_; rintro e w2 ⟨rfl, b2⟩; have B2 := hide ((unhide BW).trans (b2.mono (unhide BW).size)); clear b2)
  go_ret
  exact ⟨ret_int (ixF_nb zs n), unhide B2⟩
set_option maxHeartbeats 1000000 in
theorem ne_con (a1 : Option Addr) (l1 c1 : Nat) (zs : List Lc) (n : Int) (g : Nat) (w : World) (hr : LsT w a1 l1 zs) (hg : Blk w g [.int .i64 n]) :
    Calls Try.prog 86 #[.slice a1 l1 c1, .func (.func 87) #[] #[.pointer (some ⟨g, 0, none⟩)]] w fun e w' => e = .returned (.bool (neB zs n)) ∧ Below w.heap.size w w' := by
  have HT := hide hr
  have HG := hide hg
  clear hr hg
  go_enter Try.func86, Try.ntmps86
  go_wp2_with (go_at_call 84; refine (ne_ix _ _ _ zs n _ w (unhide HT) (unhide HG)).mono ?_; rintro e w2 ⟨rfl, b2⟩; have B2 := hide b2; clear b2)
  go_ret
  exact ⟨ret_bool (ixF_ne zs n), unhide B2⟩
set_option maxHeartbeats 1000000 in
theorem isNeeded_any (s : Int) (a1 : Option Addr) (l1 c1 : Nat) (zs : List Lc) (n : Int) (w : World) (hr : LsT w a1 l1 zs) :
    Calls Try.prog 66 #[.agg #[.int .i64 s, .slice a1 l1 c1], .int .i64 n] w fun e w' => e = .returned (.bool (neB zs n)) ∧ Below w.heap.size w w' := by
  obtain ⟨W, hW⟩ : ∃ W, W = (w.alloc (Obj.cells #[.int .i64 s, .slice a1 l1 c1] 57)).alloc (Obj.cells #[.int .i64 n] 3) := ⟨_, rfl⟩
  have KB : Hid (Blk W w.heap.size [.int .i64 s, .slice a1 l1 c1]) := hide (by rw [hW]; exact (Blk.new _ _).alloc _)
  have KG : Hid (Blk W (w.heap.size + 1) [.int .i64 n]) := hide (by
    rw [hW]
    have := Blk.new (w := (w.alloc (Obj.cells #[.int .i64 s, .slice a1 l1 c1] 57))) [.int .i64 n] 3
    simpa using this)
  have BW : Hid (Below w.heap.size w W) := hide (by rw [hW]; exact bel2 _ _)
  have g1 : W.cell? ⟨w.heap.size, 1, none⟩ = some (.slice a1 l1 c1) := (unhide KB).c 1 (by simp)
  have HT := hide (hr.below (unhide BW))
  have HW := hide hW
  clear hr hW
  go_enter Try.func66, Try.ntmps66
  go_wp2_with fail
  rw [← unhide HW]
  clear HW
  go_wp2_with (go_at_call 86; refine (ne_con _ _ _ zs n _ W (unhide HT) (unhide KG)).mono ?_; rintro e w2 ⟨rfl, b2⟩; have B2 := hide ((unhide BW).trans (b2.mono (unhide BW).size)); clear b2)
  go_ret
  exact ⟨rfl, unhide B2⟩

end Go.Proofs.Ytlpomplldgmkmba

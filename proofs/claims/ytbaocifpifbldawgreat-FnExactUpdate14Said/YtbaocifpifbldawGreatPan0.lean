/-
  A slice of whole numbers that a call has made: it owns its memory, from a block on; the law's copy of a list is such; its marks write nothing else. No condition but the lengths' bounds.
  Worlds in which only blocks from one number up to another have turned; what is read, owned or boxed elsewhere stays. No condition.
  The law's size and copy of a list of texts. At lengths of at most 1048576.
  The law's size, copy and comparison of a Panel. The copy at lists of at most 1048576; nothing that was there is written.
-/
import Derived.Test.YtbaocifpifbldawGreatMake
import Derived.Test.YtbaocifpifbldawGreatChecked
import Derived.Test.YtbaocifpifbldawGreatRows1
import Derived.Test.YtbaocifpifbldawGreatBlk
import Derived.Test.YtbaocifpifbldawGreatSmall
import Derived.Test.YtbaocifpifbldawGreatText1

namespace Go.Proofs.YtbaocifpifbldawGreat
open Go.RowKit

structure OwnI (w : World) (base : Nat) (v : Value) (zs : List Int) : Prop where
  own : ∃ xs : List Value, w.ownsRow base 3 1 v zs.length xs ∧ ∀ j, j < zs.length → xs[j]? = some (.int .i64 (nth zs j))
  fit : ∀ i : Nat, -9223372036854775808 ≤ nth zs i ∧ nth zs i ≤ 9223372036854775807

theorem OwnI.form {w : World} {base : Nat} {v : Value} {zs : List Int} (h : OwnI w base v zs) :
    (v = .slice none 0 0 ∧ zs = []) ∨ ∃ g cap, v = .slice (some ⟨g, 0, none⟩) zs.length cap ∧ base ≤ g ∧ g < w.heap.size ∧ zs.length ≤ cap ∧ cap ≤ maxLen := by
  obtain ⟨xs, ho, _⟩ := h.own
  rcases ho.2 with ⟨hv, h0⟩ | ⟨g, cap, cur, hv, hb, hg, hc, hm, _⟩
  · exact .inl ⟨hv, List.length_eq_zero_iff.1 h0⟩
  · refine .inr ⟨g, cap, hv, hb, ?_, hc, hm⟩
    rcases Nat.lt_or_ge g w.heap.size with hlt | hge
    · exact hlt
    · rw [Array.getElem?_eq_none hge] at hg; cases hg
theorem OwnI.lies {w : World} {base : Nat} {v : Value} {zs : List Int} (h : OwnI w base v zs) : ∀ g, v.ownBlock = some g → base ≤ g ∧ g < w.heap.size := by
  intro g hg
  rcases h.form with ⟨rfl, _⟩ | ⟨g', cap, rfl, h1, h2, _⟩
  · simp [Value.ownBlock] at hg
  · simp only [Value.ownBlock, Option.some.injEq] at hg
    omega
theorem OwnI.row {w : World} {base : Nat} {a : Option Addr} {len cap : Nat} {zs : List Int} (h : OwnI w base (.slice a len cap) zs) : Row w a len zs := by
  have hf := h.fit
  obtain ⟨xs, ho, hx⟩ := h.own
  rcases h.form with ⟨e, h0⟩ | ⟨g, cap', e, _, _, hc, hm⟩
  · simp only [Value.slice.injEq] at e
    obtain ⟨rfl, rfl, rfl⟩ := e
    subst h0
    exact ⟨rfl, by simp, fun i hi => by omega, hf⟩
  · simp only [Value.slice.injEq] at e
    obtain ⟨rfl, rfl, rfl⟩ := e
    refine ⟨rfl, by unfold maxLen at hm; omega, fun i hi => ⟨_, _, rfl, ?_⟩, hf⟩
    rw [Nat.zero_add, ho.cellAt i (by omega)]; exact hx i hi
theorem OwnI.below {w w' : World} {base : Nat} {v : Value} {zs : List Int} (h : OwnI w base v zs) (k : Below w.heap.size w w') : OwnI w' base v zs := by
  obtain ⟨xs, ho, hx⟩ := h.own
  exact ⟨⟨xs, ownsRow_below ho k, hx⟩, h.fit⟩
theorem OwnI.mono {w : World} {base base' : Nat} {v : Value} {zs : List Int} (h : OwnI w base v zs) (hb : base' ≤ base) : OwnI w base' v zs := by
  obtain ⟨xs, ⟨h1, h2⟩, hx⟩ := h.own
  refine ⟨⟨xs, ⟨h1, ?_⟩, hx⟩, h.fit⟩
  rcases h2 with h2 | ⟨g, cap, cur, a, b, c⟩
  · exact .inl h2
  · exact .inr ⟨g, cap, cur, a, by omega, c⟩
theorem OwnI.far {w w' : World} {base : Nat} {v : Value} {zs : List Int} {row : Option Nat} (h : OwnI w base v zs) (k : w.grownBy w' row) (hne : ∀ g, v.ownBlock = some g → some g ≠ row) : OwnI w' base v zs := by
  obtain ⟨xs, ⟨h1, h2⟩, hx⟩ := h.own
  refine ⟨⟨xs, ⟨h1, ?_⟩, hx⟩, h.fit⟩
  rcases h2 with h2 | ⟨g, cap, cur, rfl, b, c, d⟩
  · exact .inl h2
  · refine .inr ⟨g, cap, cur, rfl, b, ?_, d⟩
    have hg : g < w.heap.size := by
      rcases Nat.lt_or_ge g w.heap.size with hlt | hge
      · exact hlt
      · rw [Array.getElem?_eq_none hge] at c; cases c
    rw [k.block g hg (hne g rfl)]; exact c
theorem OwnI.set_other {w : World} {base : Nat} {v : Value} {zs : List Int} (h : OwnI w base v zs) {S o : Nat} (u : Value) (hne : v.ownBlock ≠ some S) : OwnI (w.setCell ⟨S, o, none⟩ u) base v zs :=
  h.far (grown_set (grown_refl w (some S)) o u) (fun _ hg e => hne (hg.trans e))
theorem OwnI.here {w : World} {base : Nat} {g cap : Nat} {zs : List Int} (h : OwnI w base (.slice (some ⟨g, 0, none⟩) zs.length cap) zs) (i : Nat) (hi : i < zs.length) : w.cell? ⟨g, i, none⟩ = some (.int .i64 (nth zs i)) ∧ w.frozen? ⟨g, i, none⟩ = false := by
  obtain ⟨xs, ho, hx⟩ := h.own
  exact ⟨by rw [ho.cellAt i (by omega)]; exact hx i hi, ho.frozenAt _⟩
theorem nth_set (zs : List Int) (i j : Nat) (a : Int) (hi : i < zs.length) : nth (zs.set i a) j = if j = i then a else nth zs j := by
  unfold nth
  by_cases e : j = i
  · subst e; rw [List.getElem?_set_self hi]; simp
  · rw [List.getElem?_set_ne (by omega)]; simp [e]
theorem OwnI.set {w : World} {base : Nat} {g cap : Nat} {zs : List Int} (h : OwnI w base (.slice (some ⟨g, 0, none⟩) zs.length cap) zs) (i : Nat) (hi : i < zs.length) (a : Int) (ha : -9223372036854775808 ≤ a ∧ a ≤ 9223372036854775807) :
    OwnI (w.setCell ⟨g, i, none⟩ (.int .i64 a)) base (.slice (some ⟨g, 0, none⟩) zs.length cap) (zs.set i a) := by
  have hf := h.fit
  obtain ⟨xs, ho, hx⟩ := h.own
  have hl := ho.1
  have o1 := (ho.stored i (.int .i64 a)).1
  refine ⟨⟨_, by rw [List.length_set]; exact o1, fun j hj => ?_⟩, fun j => ?_⟩
  · rw [List.length_set] at hj
    rw [nth_set _ _ _ _ hi]
    by_cases e : j = i
    · subst e; rw [if_pos rfl]; exact List.getElem?_set_self (by omega)
    · rw [if_neg e, List.getElem?_set_ne (by omega)]; exact hx j hj
  · rw [nth_set _ _ _ _ hi]
    by_cases e : j = i
    · rw [if_pos e]; exact ha
    · rw [if_neg e]; exact hf j

set_option maxHeartbeats 400000 in
theorem toIntS_own (ad : Option Addr) (len cap : Nat) (zs : List Int) (w : World) (hr : Row w ad len zs) (hlen : len ≤ 1048576) :
    Calls Tryz.prog 46 #[.slice ad len cap] w fun e w' => e = .returned (.slice (some ⟨w.heap.size, 0, none⟩) len len) ∧ OwnI w' w.heap.size (.slice (some ⟨w.heap.size, 0, none⟩) len len) zs ∧ Below w.heap.size w w' := by
  have hz := hr.len_eq
  have hopen := hr.open_
  have HF := hide hr.fit
  clear hr
  subst hz
  obtain ⟨i0, hi, hz0, hz1, hz2⟩ := info_parts info_int
  go_enter Tryz.func46, Tryz.ntmps46
  go_wp2_with (at_make; refine wpList_make_full _ rfl (.tmp 6) (.tmp 6) 43 rfl w.heap.size 3 i0 (.int .i64 0) 1 Tryz.underlying43 hi hz0 hz1 .i64 .i64 _ _ zs.length rfl rfl rfl rfl (by rw [hz2]; omega) (by unfold maxLen; omega) (Nat.le_refl _) ?_; intro w1 hown hgrow)
  have HC0 : Copied w w1 zs 0 := ⟨⟨_, hown, fun j hj => by omega⟩, (Below.refl _ _).grown hgrow (Nat.le_refl _) (fun k hk => by cases hk)⟩
  clear hown hgrow hi hz0 hz1 hz2
  go_loopw [4] (fun i wr => ∃ k : Nat, k ≤ zs.length ∧ i = .int .i64 k ∧ Copied w wr zs k) (fun i _ => zs.length - (intOf i).toNat)
  case atStart => exact ⟨0, Nat.zero_le _, rfl, HC0⟩
  case round =>
    obtain ⟨k, hk, rfl, hcp⟩ := hrel
    by_cases hlt : k < zs.length
    · rcases hopen with ⟨h0, _⟩ | ⟨bb, off, rfl, _, hc⟩
      · omega
      have hcw := hc k hlt
      have hcell := (hcp.bel.cell (p := ⟨bb, off + k, none⟩) (block_lt_of_cell hcw)).trans hcw
      obtain ⟨⟨vk, hsome⟩, hfroz⟩ := hcp.here hlt
      have HS := hide (hcp.step hlt)
      clear hc hcw hcp HC0
      go_wp2
      go_roundw
      case rel => exact ⟨k + 1, by omega, by go_num, unhide HS⟩
      case measure => simp [intOf]; omega
    · have hkk : k = zs.length := by omega
      subst hkk
      have HR := hide (show OwnI _ w.heap.size (.slice (some ⟨w.heap.size, 0, none⟩) zs.length zs.length) zs from ⟨hcp.own, unhide HF⟩)
      have HB := hide hcp.bel
      go_wp2
      go_ret
      exact ⟨rfl, unhide HR, unhide HB⟩

def markI (zs : List Int) (k : Int) : Nat → List Int
  | 0 => zs
  | n + 1 => (markI zs k n).set n (k + n)
theorem markI_len (zs : List Int) (k : Int) (n : Nat) : (markI zs k n).length = zs.length := by
  induction n with
  | zero => rfl
  | succ n ih => simp [markI, ih]

set_option maxHeartbeats 1000000 in
theorem markIntS_any (base : Nat) (a : Option Addr) (len c : Nat) (zs : List Int) (k : Int) (w : World) (ho : OwnI w base (.slice a len c) zs) (hl : zs.length = len) (h1 : len ≤ 1048576) (hk0 : 0 ≤ k) (hk1 : k ≤ 1000000000) :
    Calls Tryz.prog 40 #[.slice a len c, .int .i64 k] w fun e w' => e = .returned (.int .i64 (k + len)) ∧ w.grownBy w' (Value.slice a len c).ownBlock := by
  subst hl
  go_enter Tryz.func40, Tryz.ntmps40
  go_wp2
  go_loopw [1, 5] (fun kk i wr => ∃ j : Nat, j ≤ zs.length ∧ i = .int .i64 j ∧ kk = .int .i64 (k + j) ∧ OwnI wr base (.slice a zs.length c) (markI zs k j) ∧ w.grownBy wr (Value.slice a zs.length c).ownBlock) (fun _ i _ => zs.length - (intOf i).toNat)
  case atStart => exact ⟨0, Nat.zero_le _, rfl, by simp, ho, grown_refl _ _⟩
  case round =>
    obtain ⟨j, hj, rfl, rfl, how, hgr⟩ := hrel
    have hml := markI_len zs k j
    by_cases hlt : j < zs.length
    · rcases how.form with ⟨_, h0⟩ | ⟨g, c', hv, hg1, hg2, hc1, _⟩
      · rw [h0] at hml; simp at hml; omega
      simp only [Value.slice.injEq] at hv
      obtain ⟨rfl, hx, rfl⟩ := hv
      clear hx hc1
      have o1 := how
      rw [← hml] at o1
      obtain ⟨n0, z0⟩ := o1.here j (by omega)
      have o2 := o1.set j (by omega) (k + j) (by omega)
      rw [hml] at o2
      have O3 : Hid (OwnI (wr.setCell ⟨g, j, none⟩ (.int .i64 (k + j))) base (.slice (some ⟨g, 0, none⟩) zs.length c) (markI zs k (j + 1))) := hide o2
      have G3 : Hid (w.grownBy (wr.setCell ⟨g, j, none⟩ (.int .i64 (k + j))) (Value.slice (some ⟨g, 0, none⟩) zs.length c).ownBlock) := hide (grown_set hgr _ _)
      have hi1 : (j : Int) < (zs.length : Int) := by omega
      clear o1 o2 how hgr hml
      go_wp2
      go_roundw
      case rel => exact ⟨j + 1, by omega, by go_num, by go_num, unhide O3, unhide G3⟩
      case measure => simp [intOf]; omega
    · have hkk : j = zs.length := by omega
      subst hkk
      have G := hide hgr
      clear how hgr hml
      go_wp2
      go_ret
      exact ⟨rfl, unhide G⟩

end Go.Proofs.YtbaocifpifbldawGreat

namespace Go.Proofs.YtbaocifpifbldawGreat
open Go.RowKit

/-- Only blocks from lo on, and below hi, have turned. -/
structure Only (lo hi : Nat) (w w' : World) : Prop where
  os : w'.os = w.os
  tape : w'.tape = w.tape
  output : w'.output = w.output
  size : w.heap.size ≤ w'.heap.size
  block : ∀ k, k < w.heap.size → (k < lo ∨ hi ≤ k) → w'.heap[k]? = w.heap[k]?
theorem Only.refl (lo hi : Nat) (w : World) : Only lo hi w w := ⟨rfl, rfl, rfl, Nat.le_refl _, fun _ _ _ => rfl⟩
theorem Only.trans {lo hi : Nat} {a b c : World} (h : Only lo hi a b) (k : Only lo hi b c) : Only lo hi a c :=
  ⟨k.os.trans h.os, k.tape.trans h.tape, k.output.trans h.output, Nat.le_trans h.size k.size, fun i hi he => (k.block i (Nat.lt_of_lt_of_le hi h.size) he).trans (h.block i hi he)⟩
theorem Only.of_row {lo hi : Nat} {w w' : World} {row : Option Nat} (h : w.grownBy w' row) (hr : ∀ g, row = some g → lo ≤ g ∧ g < hi) : Only lo hi w w' :=
  ⟨h.os, h.tape, h.output, h.size, fun k hk he => h.block k hk (fun e => by have := hr k e.symm; omega)⟩
theorem Only.of_below {lo hi : Nat} {w w' : World} (h : Below w.heap.size w w') : Only lo hi w w' :=
  ⟨h.os, h.tape, h.output, h.size, fun k hk _ => h.block k hk⟩
theorem Only.mono {lo hi lo' hi' : Nat} {w w' : World} (h : Only lo hi w w') (h1 : lo' ≤ lo) (h2 : hi ≤ hi') : Only lo' hi' w w' :=
  ⟨h.os, h.tape, h.output, h.size, fun k hk he => h.block k hk (by omega)⟩
theorem Only.below {lo hi B : Nat} {w w' : World} (h : Only lo hi w w') (hb : B ≤ lo) (hs : B ≤ w.heap.size) : Below B w w' :=
  ⟨h.os, h.tape, h.output, h.size, fun k hk => h.block k (by omega) (by omega)⟩
theorem below_only {B lo hi : Nat} {a w w' : World} (h : Below B a w) (k : Only lo hi w w') (hb : B ≤ lo) (hs : B ≤ a.heap.size) : Below B a w' :=
  h.trans (k.below hb (Nat.le_trans hs h.size))
theorem Blk.only {lo hi : Nat} {w w' : World} {B : Nat} {vs : List Value} (h : Blk w B vs) (k : Only lo hi w w') (ho : B < lo ∨ hi ≤ B) : Blk w' B vs := by
  have hb := k.block B h.lt ho
  refine ⟨fun i hi => (World.cell?_of_block (a := ⟨B, i, none⟩) hb).trans (h.c i hi), fun i hi => ?_, Nat.lt_of_lt_of_le h.lt k.size⟩
  have h2 := h.f i hi
  unfold World.frozen? at h2 ⊢
  simp only at h2 ⊢
  rw [hb]; exact h2
theorem OwnE.only {α : Type} [Inhabited α] {K : Nat} {cells : α → Nat → Value} {lo hi : Nat} {w w' : World} {base : Nat} {T : TypeId} {v : Value} {ps : List α} (h : OwnE K cells w base T v ps) (k : Only lo hi w w') (hne : ∀ g, v.ownBlock = some g → g < lo ∨ hi ≤ g) : OwnE K cells w' base T v ps := by
  obtain ⟨xs, ⟨h1, h2⟩, hx⟩ := h.own
  refine ⟨⟨xs, ⟨h1, ?_⟩, hx⟩⟩
  rcases h2 with h2 | ⟨g, cap, cur, rfl, b, c, d⟩
  · exact .inl h2
  · refine .inr ⟨g, cap, cur, rfl, b, ?_, d⟩
    have hg : g < w.heap.size := by
      rcases Nat.lt_or_ge g w.heap.size with hlt | hge
      · exact hlt
      · rw [Array.getElem?_eq_none hge] at c; cases c
    rw [k.block g hg (hne g rfl)]; exact c
theorem OwnI.only {lo hi : Nat} {w w' : World} {base : Nat} {v : Value} {zs : List Int} (h : OwnI w base v zs) (k : Only lo hi w w') (hne : ∀ g, v.ownBlock = some g → g < lo ∨ hi ≤ g) : OwnI w' base v zs := by
  obtain ⟨xs, ⟨h1, h2⟩, hx⟩ := h.own
  refine ⟨⟨xs, ⟨h1, ?_⟩, hx⟩, h.fit⟩
  rcases h2 with h2 | ⟨g, cap, cur, rfl, b, c, d⟩
  · exact .inl h2
  · refine .inr ⟨g, cap, cur, rfl, b, ?_, d⟩
    have hg : g < w.heap.size := by
      rcases Nat.lt_or_ge g w.heap.size with hlt | hge
      · exact hlt
      · rw [Array.getElem?_eq_none hge] at c; cases c
    rw [k.block g hg (hne g rfl)]; exact c
theorem ownE_nil {α : Type} [Inhabited α] {K : Nat} {cells : α → Nat → Value} (w : World) (base : Nat) (T : TypeId) : OwnE K cells w base T (.slice none 0 0) ([] : List α) :=
  ⟨⟨[], by simpa using World.ownsRow_nil w base T K, fun j hj => by simp at hj⟩⟩
theorem ownI_nil (w : World) (base : Nat) : OwnI w base (.slice none 0 0) [] :=
  ⟨⟨[], World.ownsRow_nil w base _ 1, fun j hj => by simp at hj⟩, fun i => by simp [nth]⟩
theorem fresh_own {g l c : Nat} {i : Nat} (h : (Value.slice (some ⟨g, 0, none⟩) l c).ownBlock = some i) : i = g := (Option.some.inj h).symm

theorem eqIntS_same (ad bd : Option Addr) (len cap len2 cap2 : Nat) (zs : List Int) (w : World) (hr : Row w ad len zs) (hr2 : Row w bd len2 zs) :
    Calls Tryz.prog 58 #[.slice ad len cap, .slice bd len2 cap2] w fun e w' => e = .returned (.bool true) ∧ Below w.heap.size w w' := by
  refine (eqIntS_any ad bd len cap len2 cap2 zs zs w hr hr2).mono ?_
  rintro e w' ⟨rfl, n, rfl⟩
  exact ⟨ret_bool (eqB_refl zs), bel0d n⟩

end Go.Proofs.YtbaocifpifbldawGreat

namespace Go.Proofs.YtbaocifpifbldawGreat
open Go.RowKit

set_option maxRecDepth 20000 in
set_option maxHeartbeats 1000000 in
theorem szStringS_any (ad : Option Addr) (len cap : Nat) (ts : List ByteArray) (left : Int) (w : World) (hr : RowE 1 stC w ad len ts) (hf : ∀ i, i < len → (elAt ts i).size ≤ 9223372036854775807) (h0 : 0 ≤ left) (h1 : left ≤ 1048576) :
    Calls Tryz.prog 6 #[.slice ad len cap, .int .i64 left] w fun e w' => (∃ r : Int, e = .returned (.int .i64 r) ∧ (r < 0 ∨ (0 ≤ r ∧ r ≤ left ∧ len ≤ 1048576))) ∧ w' = w := by
  have hz := hr.len_eq
  have hs := hr.small
  have HO := hide hr.open1
  have HF := hide hf
  clear hr hf
  subst hz
  by_cases hlt : left < ts.length
  · go_enter Tryz.func6, Tryz.ntmps6
    go_wp2
    go_ret
    exact ⟨⟨_, rfl, .inl (by omega)⟩, rfl⟩
  · go_enter Tryz.func6, Tryz.ntmps6
    go_wp2_with fail
    go_loopw [1, 5] (fun l i wr => ∃ (k : Nat) (q : Int), k ≤ ts.length ∧ i = .int .i64 k ∧ l = .int .i64 q ∧ 0 ≤ q ∧ q ≤ left ∧ wr = w) (fun _ i _ => ts.length - (intOf i).toNat)
    case atStart => exact ⟨0, left - ts.length, by omega, rfl, rfl, by omega, by omega, rfl⟩
    case round =>
      obtain ⟨k, q, hk, rfl, rfl, hq0, hq1, hwr⟩ := hrel
      subst wr
      by_cases hk2 : k < ts.length
      · rcases (unhide HO) with ⟨h0, _⟩ | ⟨bb, off, rfl, _, hc⟩
        · omega
        have m0 : w.cell? ⟨bb, off + k, none⟩ = some (.string (elAt ts k)) := hc k hk2
        have fs := (unhide HF) k hk2
        have k0 : (0 : Int) ≤ (k : Int) := by omega
        have k1 : (k : Int) < (ts.length : Int) := by omega
        obtain ⟨S, hS⟩ : ∃ S, elAt ts k = S := ⟨_, rfl⟩
        rw [hS] at m0 fs
        clear hc hS
        by_cases hfit : (S.size : Int) ≤ q
        · have nf : ¬ q - (S.size : Int) < 0 := by omega
          go_wp2_with fail
          go_roundw
          case rel => exact ⟨k + 1, q - S.size, by omega, by go_num, rfl, by omega, by omega, by first | rfl | trivial⟩
          case measure => simp [intOf]; omega
        · have nf : q - (S.size : Int) < 0 := by omega
          go_wp2_with fail
          go_ret
          exact ⟨⟨_, rfl, .inl (by omega)⟩, rfl⟩
      · go_wp2_with fail
        go_ret
        exact ⟨⟨_, rfl, .inr ⟨by omega, by omega, by omega⟩⟩, rfl⟩

theorem info_tx : (Tryz.prog.info? 9).map (fun i => (i.zero, i.size, i.bytes)) = some (some (.string ⟨#[]⟩), 1, 16) := by kernel_rfl
/-- After k rounds of the copying; the new row lies in block B. -/
structure CopiedSt (w wr : World) (B : Nat) (ps : List ByteArray) (k : Nat) : Prop where
  own : ∃ xs : List Value, wr.ownsRow B 9 1 (.slice (some ⟨B, 0, none⟩) ps.length ps.length) ps.length xs ∧ ∀ j, j < k → xs[j]? = some (.string (elAt ps j))
  bel : Below w.heap.size w wr
  here : B < wr.heap.size
  old : w.heap.size ≤ B
theorem CopiedSt.at_ {w wr : World} {B : Nat} {ps : List ByteArray} {k : Nat} (h : CopiedSt w wr B ps k) (i : Nat) (hi : i < ps.length) : (∃ v, wr.cell? ⟨B, i, none⟩ = some v) ∧ wr.frozen? ⟨B, i, none⟩ = false := by
  obtain ⟨xs, ho, _⟩ := h.own
  refine ⟨?_, ho.frozenAt i⟩
  rw [ho.cellAt i (by omega)]
  have := ho.1
  exact ⟨xs[i]'(by omega), List.getElem?_eq_getElem (by omega)⟩
theorem CopiedSt.step {w wr : World} {B : Nat} {ps : List ByteArray} {k : Nat} (h : CopiedSt w wr B ps k) (hk : k < ps.length) : CopiedSt w (wr.setCell ⟨B, k, none⟩ (.string (elAt ps k))) B ps (k + 1) := by
  obtain ⟨xs, ho, hx⟩ := h.own
  have hl := ho.1
  refine ⟨⟨_, (ho.stored k _).1, fun j hj => ?_⟩, h.bel.setCell h.old _, by have := h.here; simpa [World.setCell] using this, h.old⟩
  by_cases e : j = k
  · subst e
    exact List.getElem?_set_self (by omega)
  · rw [List.getElem?_set_ne (by omega)]
    exact hx j (by omega)
theorem CopiedSt.done {w wr : World} {B : Nat} {ps : List ByteArray} (h : CopiedSt w wr B ps ps.length) : OwnE 1 stC wr B 9 (.slice (some ⟨B, 0, none⟩) ps.length ps.length) ps := by
  obtain ⟨xs, ho, hx⟩ := h.own
  refine ⟨⟨xs, ho, fun j hj q hq => ?_⟩⟩
  obtain rfl : q = 0 := by omega
  rw [Nat.mul_one, Nat.add_zero]
  exact hx j hj

set_option maxRecDepth 20000 in
set_option maxHeartbeats 1000000 in
theorem toStringS_own (ad : Option Addr) (len cap : Nat) (ts : List ByteArray) (w : World) (hr : RowE 1 stC w ad len ts) (hlen : len ≤ 1048576) :
    Calls Tryz.prog 10 #[.slice ad len cap] w fun e w' => e = .returned (.slice (some ⟨w.heap.size, 0, none⟩) len len) ∧ OwnE 1 stC w' w.heap.size 9 (.slice (some ⟨w.heap.size, 0, none⟩) len len) ts ∧ Below w.heap.size w w' := by
  have hz := hr.len_eq
  have HO := hide hr.open1
  clear hr
  subst hz
  obtain ⟨i0, hi, hz0, hz1, hz2⟩ := info_parts info_tx
  go_enter Tryz.func10, Tryz.ntmps10
  go_wp2_with (at_make; refine wpList_make_full _ rfl (.tmp 6) (.tmp 6) 23 rfl w.heap.size 9 i0 (.string ⟨#[]⟩) 1 Tryz.underlying23 hi hz0 hz1 .i64 .i64 _ _ ts.length rfl rfl rfl rfl (by rw [hz2]; omega) (by unfold maxLen; omega) (Nat.le_refl _) ?_; intro w1 hown hgrow)
  have hB : w.heap.size < w1.heap.size := (hown.lt w.heap.size rfl).2
  have HC0 : Hid (CopiedSt w w1 w.heap.size ts 0) := hide ⟨⟨_, hown, fun j hj => by omega⟩, (Below.refl _ _).grown hgrow (Nat.le_refl _) (fun k hk => by cases hk), hB, Nat.le_refl _⟩
  clear hown hgrow hi hz0 hz1 hz2 hB
  go_loopw [4] (fun i wr => ∃ k : Nat, k ≤ ts.length ∧ i = .int .i64 k ∧ Hid (CopiedSt w wr w.heap.size ts k)) (fun i _ => ts.length - (intOf i).toNat)
  case atStart => exact ⟨0, Nat.zero_le _, rfl, HC0⟩
  case round =>
    clear HC0
    obtain ⟨k, hk, rfl, HCP⟩ := hrel
    by_cases hlt : k < ts.length
    · rcases (unhide HO) with ⟨h0, _⟩ | ⟨bb, off, rfl, _, hc⟩
      · simp [h0] at hlt
      have c0 : w.cell? ⟨bb, off + k, none⟩ = some (.string (elAt ts k)) := hc k hlt
      have m0 := ((unhide HCP).bel.cell (block_lt_of_cell c0)).trans c0
      have hne : ¬ bb = w.heap.size := by have := block_lt_of_cell c0; simp at this; omega
      obtain ⟨⟨v0, hs0⟩, hf0⟩ := (unhide HCP).at_ k hlt
      have HS := hide ((unhide HCP).step hlt)
      have k0 : (0 : Int) ≤ (k : Int) := by omega
      have k1 : (k : Int) < (ts.length : Int) := by omega
      clear hc c0
      go_wp2_with fail
      go_roundw
      case rel => exact ⟨k + 1, by omega, by go_num, HS⟩
      case measure => simp [intOf]; omega
    · have hkk : k = ts.length := by omega
      subst hkk
      have HR := hide (unhide HCP).done
      have HB := hide (unhide HCP).bel
      go_wp2
      go_ret
      exact ⟨rfl, unhide HR, unhide HB⟩
theorem eqStringS_bel (ad bd : Option Addr) (len cap cap2 : Nat) (ps : List ByteArray) (w : World) (hr : RowE 1 stC w ad len ps) (hr2 : RowE 1 stC w bd len ps) :
    Calls Tryz.prog 13 #[.slice ad len cap, .slice bd len cap2] w fun e w' => e = .returned (.bool true) ∧ Below w.heap.size w w' := by
  refine (eqStringS_same ad bd len cap cap2 ps w hr hr2).mono ?_
  rintro e w' ⟨h, n, rfl⟩
  exact ⟨h, bel0d n⟩
theorem eqStringS_two (ad bd : Option Addr) (len cap len2 cap2 : Nat) (ps : List ByteArray) (w : World) (hr : RowE 1 stC w ad len ps) (hr2 : RowE 1 stC w bd len2 ps) :
    Calls Tryz.prog 13 #[.slice ad len cap, .slice bd len2 cap2] w fun e w' => e = .returned (.bool true) ∧ Below w.heap.size w w' := by
  have h1 := hr.len_eq
  have h2 := hr2.len_eq
  obtain rfl : len = len2 := by omega
  exact eqStringS_bel ad bd len cap cap2 ps w hr hr2
theorem heldStringS_bel (a : Option Addr) (len c : Nat) (ps : List ByteArray) (k : Int) (w : World) (hr : RowE 1 stC w a len (markL mkT 1 ps k len)) (hl : ps.length = len) (h1 : len ≤ 1048576) (hk0 : 1 ≤ k) (hk1 : k ≤ 900000000) :
    Calls Tryz.prog 19 #[.slice a len c, .int .i64 k] w fun e w' => e = .returned (.int .i64 (k + len)) ∧ Below w.heap.size w w' := heldStringS_any a len c ps k w hr hl h1 hk0 hk1

end Go.Proofs.YtbaocifpifbldawGreat

namespace Go.Proofs.YtbaocifpifbldawGreat
open Go.RowKit
/-- Its lists, read. -/
structure PnIn (w : World) (a1 a2 a3 : Option Addr) (l1 l2 l3 : Nat) (z1 : List ByteArray) (z2 : List ByteArray) (z3 : List ByteArray) : Prop where
  r1 : RowE 1 stC w a1 l1 z1
  r2 : RowE 1 stC w a2 l2 z2
  r3 : RowE 1 stC w a3 l3 z3
theorem PnIn.below {w w' : World} {a1 a2 a3 : Option Addr} {l1 l2 l3 : Nat} {z1 : List ByteArray} {z2 : List ByteArray} {z3 : List ByteArray} (h : PnIn w a1 a2 a3 l1 l2 l3 z1 z2 z3) (k : Below w.heap.size w w') : PnIn w' a1 a2 a3 l1 l2 l3 z1 z2 z3 :=
  ⟨h.r1.below k, h.r2.below k, h.r3.below k⟩
/-- Its lists that a call has made, each in memory of its own. -/
structure PnOwn (w : World) (base : Nat) (a1 a2 a3 : Option Addr) (l1 c1 l2 c2 l3 c3 : Nat) (z1 : List ByteArray) (z2 : List ByteArray) (z3 : List ByteArray) : Prop where
  o1 : OwnE 1 stC w base 9 (.slice a1 l1 c1) z1
  o2 : OwnE 1 stC w base 9 (.slice a2 l2 c2) z2
  o3 : OwnE 1 stC w base 9 (.slice a3 l3 c3) z3
  p12 : ∀ g, (Value.slice a1 l1 c1).ownBlock = some g → (Value.slice a2 l2 c2).ownBlock ≠ some g
  p13 : ∀ g, (Value.slice a1 l1 c1).ownBlock = some g → (Value.slice a3 l3 c3).ownBlock ≠ some g
  p23 : ∀ g, (Value.slice a2 l2 c2).ownBlock = some g → (Value.slice a3 l3 c3).ownBlock ≠ some g
theorem PnOwn.below {w w' : World} {base : Nat} {a1 a2 a3 : Option Addr} {l1 c1 l2 c2 l3 c3 : Nat} {z1 : List ByteArray} {z2 : List ByteArray} {z3 : List ByteArray} (h : PnOwn w base a1 a2 a3 l1 c1 l2 c2 l3 c3 z1 z2 z3) (k : Below w.heap.size w w') : PnOwn w' base a1 a2 a3 l1 c1 l2 c2 l3 c3 z1 z2 z3 :=
  ⟨h.o1.below k, h.o2.below k, h.o3.below k, h.p12, h.p13, h.p23⟩
theorem PnOwn.mono {w : World} {base : Nat} {a1 a2 a3 : Option Addr} {l1 c1 l2 c2 l3 c3 : Nat} {z1 : List ByteArray} {z2 : List ByteArray} {z3 : List ByteArray} (h : PnOwn w base a1 a2 a3 l1 c1 l2 c2 l3 c3 z1 z2 z3) {base' : Nat} (hb : base' ≤ base) : PnOwn w base' a1 a2 a3 l1 c1 l2 c2 l3 c3 z1 z2 z3 :=
  ⟨h.o1.mono hb, h.o2.mono hb, h.o3.mono hb, h.p12, h.p13, h.p23⟩
theorem PnOwn.read {w : World} {base : Nat} {a1 a2 a3 : Option Addr} {l1 c1 l2 c2 l3 c3 : Nat} {z1 : List ByteArray} {z2 : List ByteArray} {z3 : List ByteArray} (h : PnOwn w base a1 a2 a3 l1 c1 l2 c2 l3 c3 z1 z2 z3) : PnIn w a1 a2 a3 l1 l2 l3 z1 z2 z3 :=
  ⟨h.o1.row, h.o2.row, h.o3.row⟩
/-- Blocks of its lists lie from base on, below a number. -/
def PnLies (base hi : Nat) (a1 a2 a3 : Option Addr) (l1 c1 l2 c2 l3 c3 : Nat) : Prop :=
  (∀ g, (Value.slice a1 l1 c1).ownBlock = some g → base ≤ g ∧ g < hi) ∧ (∀ g, (Value.slice a2 l2 c2).ownBlock = some g → base ≤ g ∧ g < hi) ∧ (∀ g, (Value.slice a3 l3 c3).ownBlock = some g → base ≤ g ∧ g < hi)
theorem PnOwn.lies {w : World} {base : Nat} {a1 a2 a3 : Option Addr} {l1 c1 l2 c2 l3 c3 : Nat} {z1 : List ByteArray} {z2 : List ByteArray} {z3 : List ByteArray} (h : PnOwn w base a1 a2 a3 l1 c1 l2 c2 l3 c3 z1 z2 z3) : PnLies base w.heap.size a1 a2 a3 l1 c1 l2 c2 l3 c3 :=
  ⟨h.o1.lies, h.o2.lies, h.o3.lies⟩
theorem PnOwn.only {w w' : World} {base : Nat} {a1 a2 a3 : Option Addr} {l1 c1 l2 c2 l3 c3 : Nat} {z1 : List ByteArray} {z2 : List ByteArray} {z3 : List ByteArray} {lo hi b u : Nat} (h : PnOwn w base a1 a2 a3 l1 c1 l2 c2 l3 c3 z1 z2 z3) (k : Only lo hi w w') (hl : PnLies b u a1 a2 a3 l1 c1 l2 c2 l3 c3) (hs : u ≤ lo ∨ hi ≤ b) : PnOwn w' base a1 a2 a3 l1 c1 l2 c2 l3 c3 z1 z2 z3 :=
  ⟨h.o1.only k (fun g hg => by have := hl.1 g hg; omega), h.o2.only k (fun g hg => by have := hl.2.1 g hg; omega), h.o3.only k (fun g hg => by have := hl.2.2 g hg; omega), h.p12, h.p13, h.p23⟩
theorem PnOwn.set_other {w : World} {base : Nat} {a1 a2 a3 : Option Addr} {l1 c1 l2 c2 l3 c3 : Nat} {z1 : List ByteArray} {z2 : List ByteArray} {z3 : List ByteArray} (h : PnOwn w base a1 a2 a3 l1 c1 l2 c2 l3 c3 z1 z2 z3) {S o : Nat} (u : Value) (n1 : (Value.slice a1 l1 c1).ownBlock ≠ some S) (n2 : (Value.slice a2 l2 c2).ownBlock ≠ some S) (n3 : (Value.slice a3 l3 c3).ownBlock ≠ some S) : PnOwn (w.setCell ⟨S, o, none⟩ u) base a1 a2 a3 l1 c1 l2 c2 l3 c3 z1 z2 z3 :=
  ⟨h.o1.set_other u n1, h.o2.set_other u n2, h.o3.set_other u n3, h.p12, h.p13, h.p23⟩
set_option maxRecDepth 20000 in
set_option maxHeartbeats 4000000 in
theorem toPanel_own (a1 a2 a3 : Option Addr) (l1 c1 l2 c2 l3 c3 : Nat) (z1 : List ByteArray) (z2 : List ByteArray) (z3 : List ByteArray) (w : World) (hr : PnIn w a1 a2 a3 l1 l2 l3 z1 z2 z3) (h1 : l1 ≤ 1048576) (h2 : l2 ≤ 1048576) (h3 : l3 ≤ 1048576) :
    Calls Tryz.prog 9 #[.agg #[.slice a1 l1 c1, .slice a2 l2 c2, .slice a3 l3 c3]] w fun x w' => (∃ g1 g2 g3, x = .returned (.agg #[.slice (some ⟨g1, 0, none⟩) l1 l1, .slice (some ⟨g2, 0, none⟩) l2 l2, .slice (some ⟨g3, 0, none⟩) l3 l3]) ∧ PnOwn w' w.heap.size (some ⟨g1, 0, none⟩) (some ⟨g2, 0, none⟩) (some ⟨g3, 0, none⟩) l1 l1 l2 l2 l3 l3 z1 z2 z3) ∧ Below w.heap.size w w' := by
  obtain ⟨W, hW⟩ : ∃ W, W = ((w.alloc (Obj.cells #[.slice a1 l1 c1, .slice a2 l2 c2, .slice a3 l3 c3] 25)).alloc (Obj.cells #[.slice none 0 0, .slice none 0 0, .slice none 0 0] 29)).alloc (Obj.cells #[.slice none 0 0, .slice none 0 0, .slice none 0 0] 29) := ⟨_, rfl⟩
  have KP : Hid (Blk W w.heap.size [.slice a1 l1 c1, .slice a2 l2 c2, .slice a3 l3 c3]) := hide (by
    rw [hW]; exact ((Blk.new (w := w) [.slice a1 l1 c1, .slice a2 l2 c2, .slice a3 l3 c3] 25).alloc _).alloc _)
  have KR : Hid (Blk W (w.heap.size + 1) [.slice none 0 0, .slice none 0 0, .slice none 0 0]) := hide (by
    rw [hW]
    have := (Blk.new (w := w.alloc (Obj.cells #[.slice a1 l1 c1, .slice a2 l2 c2, .slice a3 l3 c3] 25)) [.slice none 0 0, .slice none 0 0, .slice none 0 0] 29).alloc (Obj.cells #[.slice none 0 0, .slice none 0 0, .slice none 0 0] 29)
    simpa using this)
  have KO : Hid (Blk W (w.heap.size + 1 + 1) [.slice none 0 0, .slice none 0 0, .slice none 0 0]) := hide (by
    rw [hW]
    have := Blk.new (w := (w.alloc (Obj.cells #[.slice a1 l1 c1, .slice a2 l2 c2, .slice a3 l3 c3] 25)).alloc (Obj.cells #[.slice none 0 0, .slice none 0 0, .slice none 0 0] 29)) [.slice none 0 0, .slice none 0 0, .slice none 0 0] 29
    simpa using this)
  have HB : Hid (Below w.heap.size w W) := hide (by rw [hW]; exact bel3 _ _ _)
  have hsz : w.heap.size + 1 + 1 + 1 ≤ W.heap.size := by rw [hW]; simp
  have HI := hide (hr.below (unhide HB))
  have HR0 := hide hr
  have HW := hide hW
  clear hr hW
  go_enter Tryz.func9, Tryz.ntmps9
  go_wp2_with fail
  rw [← unhide HW]
  clear HW
  obtain ⟨G1, hG1⟩ : ∃ G, W.heap.size = G := ⟨_, rfl⟩
  refine (toStringS_own a1 l1 c1 z1 W (unhide HI).r1 h1).mono ?_
  rintro x v1 ⟨rfl, ow, bw⟩
  rw [hG1] at ow ⊢
  have HB := hide ((unhide HB).trans (bw.mono (unhide HB).size))
  have KP := hide ((unhide KP).below bw)
  have KR := hide ((unhide KR).below bw)
  have KO := hide ((unhide KO).below bw)
  have sz1 : G1 < v1.heap.size := ((ow.lies G1 rfl).2)
  have O1 := hide ow
  have hsz : w.heap.size + 1 + 1 + 1 ≤ G1 := by omega
  clear ow bw HI
  obtain ⟨V1, hV1⟩ : ∃ V, V = v1.setCell ⟨w.heap.size + 1 + 1, 0, none⟩ (.slice (some ⟨G1, 0, none⟩) l1 l1) := ⟨_, rfl⟩
  have y1 : v1.cell? ⟨w.heap.size + 1 + 1, 0, none⟩ = some (.slice none 0 0) := (unhide KO).c 0 (by simp)
  have f1 : v1.frozen? ⟨w.heap.size + 1 + 1, 0, none⟩ = false := (unhide KO).f 0 (by simp)
  have KO := hide ((unhide KO).set 0 (by simp) (.slice (some ⟨G1, 0, none⟩) l1 l1))
  have KP := hide ((unhide KP).other (p := ⟨w.heap.size + 1 + 1, 0, none⟩) (by simp; omega) (.slice (some ⟨G1, 0, none⟩) l1 l1))
  have KR := hide ((unhide KR).other (p := ⟨w.heap.size + 1 + 1, 0, none⟩) (by simp) (.slice (some ⟨G1, 0, none⟩) l1 l1))
  have O1 := hide ((unhide O1).set_other (S := w.heap.size + 1 + 1) (o := 0) (.slice (some ⟨G1, 0, none⟩) l1 l1) (by simp only [Value.ownBlock, ne_eq, Option.some.injEq]; omega))
  have HB := hide ((unhide HB).setCell (p := ⟨w.heap.size + 1 + 1, 0, none⟩) (by simp; omega) (.slice (some ⟨G1, 0, none⟩) l1 l1))
  have szv1 : (v1.setCell ⟨w.heap.size + 1 + 1, 0, none⟩ (.slice (some ⟨G1, 0, none⟩) l1 l1)).heap.size = v1.heap.size := by simp [World.setCell]
  rw [← hV1] at KO KP KR HB szv1 O1
  have HI : Hid (PnIn V1 a1 a2 a3 l1 l2 l3 z1 z2 z3) := hide ((unhide HR0).below (unhide HB))
  have m2 : V1.cell? ⟨w.heap.size, 1, none⟩ = some (.slice a2 l2 c2) := (unhide KP).c 1 (by simp)
  rw [hV1] at m2
  have HV1 := hide hV1
  clear hV1
  go_wp2_with fail
  rw [← unhide HV1]
  clear HV1 m2 y1 f1
  rw [← szv1] at sz1
  obtain ⟨G2, hG2⟩ : ∃ G, V1.heap.size = G := ⟨_, rfl⟩
  refine (toStringS_own a2 l2 c2 z2 V1 (unhide HI).r2 h2).mono ?_
  rintro x v2 ⟨rfl, ow, bw⟩
  rw [hG2] at ow ⊢
  have HB := hide ((unhide HB).trans (bw.mono (unhide HB).size))
  have KP := hide ((unhide KP).below bw)
  have KR := hide ((unhide KR).below bw)
  have KO := hide ((unhide KO).below bw)
  have sz2 : G2 < v2.heap.size := ((ow.lies G2 rfl).2)
  have O1 := hide ((unhide O1).below bw)
  have O2 := hide ow
  have hs2 : G1 < G2 := by rw [← hG2]; omega
  clear ow bw HI
  obtain ⟨V2, hV2⟩ : ∃ V, V = v2.setCell ⟨w.heap.size + 1 + 1, 1, none⟩ (.slice (some ⟨G2, 0, none⟩) l2 l2) := ⟨_, rfl⟩
  have y2 : v2.cell? ⟨w.heap.size + 1 + 1, 1, none⟩ = some (.slice none 0 0) := (unhide KO).c 1 (by simp)
  have f2 : v2.frozen? ⟨w.heap.size + 1 + 1, 1, none⟩ = false := (unhide KO).f 1 (by simp)
  have KO := hide ((unhide KO).set 1 (by simp) (.slice (some ⟨G2, 0, none⟩) l2 l2))
  have KP := hide ((unhide KP).other (p := ⟨w.heap.size + 1 + 1, 1, none⟩) (by simp; omega) (.slice (some ⟨G2, 0, none⟩) l2 l2))
  have KR := hide ((unhide KR).other (p := ⟨w.heap.size + 1 + 1, 1, none⟩) (by simp) (.slice (some ⟨G2, 0, none⟩) l2 l2))
  have O1 := hide ((unhide O1).set_other (S := w.heap.size + 1 + 1) (o := 1) (.slice (some ⟨G2, 0, none⟩) l2 l2) (by simp only [Value.ownBlock, ne_eq, Option.some.injEq]; omega))
  have O2 := hide ((unhide O2).set_other (S := w.heap.size + 1 + 1) (o := 1) (.slice (some ⟨G2, 0, none⟩) l2 l2) (by simp only [Value.ownBlock, ne_eq, Option.some.injEq]; omega))
  have HB := hide ((unhide HB).setCell (p := ⟨w.heap.size + 1 + 1, 1, none⟩) (by simp; omega) (.slice (some ⟨G2, 0, none⟩) l2 l2))
  have szv2 : (v2.setCell ⟨w.heap.size + 1 + 1, 1, none⟩ (.slice (some ⟨G2, 0, none⟩) l2 l2)).heap.size = v2.heap.size := by simp [World.setCell]
  rw [← hV2] at KO KP KR HB szv2 O1 O2
  have HI : Hid (PnIn V2 a1 a2 a3 l1 l2 l3 z1 z2 z3) := hide ((unhide HR0).below (unhide HB))
  have m3 : V2.cell? ⟨w.heap.size, 2, none⟩ = some (.slice a3 l3 c3) := (unhide KP).c 2 (by simp)
  rw [hV2] at m3
  have HV2 := hide hV2
  clear hV2
  go_wp2_with fail
  rw [← unhide HV2]
  clear HV2 m3 y2 f2
  rw [← szv2] at sz2
  obtain ⟨G3, hG3⟩ : ∃ G, V2.heap.size = G := ⟨_, rfl⟩
  refine (toStringS_own a3 l3 c3 z3 V2 (unhide HI).r3 h3).mono ?_
  rintro x v3 ⟨rfl, ow, bw⟩
  rw [hG3] at ow ⊢
  have HB := hide ((unhide HB).trans (bw.mono (unhide HB).size))
  have KP := hide ((unhide KP).below bw)
  have KR := hide ((unhide KR).below bw)
  have KO := hide ((unhide KO).below bw)
  have sz3 : G3 < v3.heap.size := ((ow.lies G3 rfl).2)
  have O1 := hide ((unhide O1).below bw)
  have O2 := hide ((unhide O2).below bw)
  have O3 := hide ow
  have hs3 : G2 < G3 := by rw [← hG3]; omega
  clear ow bw HI
  obtain ⟨V3, hV3⟩ : ∃ V, V = v3.setCell ⟨w.heap.size + 1 + 1, 2, none⟩ (.slice (some ⟨G3, 0, none⟩) l3 l3) := ⟨_, rfl⟩
  have y3 : v3.cell? ⟨w.heap.size + 1 + 1, 2, none⟩ = some (.slice none 0 0) := (unhide KO).c 2 (by simp)
  have f3 : v3.frozen? ⟨w.heap.size + 1 + 1, 2, none⟩ = false := (unhide KO).f 2 (by simp)
  have KO := hide ((unhide KO).set 2 (by simp) (.slice (some ⟨G3, 0, none⟩) l3 l3))
  have KP := hide ((unhide KP).other (p := ⟨w.heap.size + 1 + 1, 2, none⟩) (by simp; omega) (.slice (some ⟨G3, 0, none⟩) l3 l3))
  have KR := hide ((unhide KR).other (p := ⟨w.heap.size + 1 + 1, 2, none⟩) (by simp) (.slice (some ⟨G3, 0, none⟩) l3 l3))
  have O1 := hide ((unhide O1).set_other (S := w.heap.size + 1 + 1) (o := 2) (.slice (some ⟨G3, 0, none⟩) l3 l3) (by simp only [Value.ownBlock, ne_eq, Option.some.injEq]; omega))
  have O2 := hide ((unhide O2).set_other (S := w.heap.size + 1 + 1) (o := 2) (.slice (some ⟨G3, 0, none⟩) l3 l3) (by simp only [Value.ownBlock, ne_eq, Option.some.injEq]; omega))
  have O3 := hide ((unhide O3).set_other (S := w.heap.size + 1 + 1) (o := 2) (.slice (some ⟨G3, 0, none⟩) l3 l3) (by simp only [Value.ownBlock, ne_eq, Option.some.injEq]; omega))
  have HB := hide ((unhide HB).setCell (p := ⟨w.heap.size + 1 + 1, 2, none⟩) (by simp; omega) (.slice (some ⟨G3, 0, none⟩) l3 l3))
  have szv3 : (v3.setCell ⟨w.heap.size + 1 + 1, 2, none⟩ (.slice (some ⟨G3, 0, none⟩) l3 l3)).heap.size = v3.heap.size := by simp [World.setCell]
  rw [← hV3] at KO KP KR HB szv3 O1 O2 O3
  have hO : Hid (Blk V3 (w.heap.size + 1 + 1) [(.slice (some ⟨G1, 0, none⟩) l1 l1), (.slice (some ⟨G2, 0, none⟩) l2 l2), (.slice (some ⟨G3, 0, none⟩) l3 l3)]) := KO
  have u0 : V3.cell? ⟨w.heap.size + 1 + 1, 0, none⟩ = some (.slice (some ⟨G1, 0, none⟩) l1 l1) := (unhide hO).c 0 (by simp)
  have r0 : V3.cell? ⟨w.heap.size + 1, 0, none⟩ = some (.slice none 0 0) := (unhide KR).c 0 (by simp)
  have t0 : V3.frozen? ⟨w.heap.size + 1, 0, none⟩ = false := (unhide KR).f 0 (by simp)
  have u1 : V3.cell? ⟨w.heap.size + 1 + 1, 1, none⟩ = some (.slice (some ⟨G2, 0, none⟩) l2 l2) := (unhide hO).c 1 (by simp)
  have r1 : V3.cell? ⟨w.heap.size + 1, 1, none⟩ = some (.slice none 0 0) := (unhide KR).c 1 (by simp)
  have t1 : V3.frozen? ⟨w.heap.size + 1, 1, none⟩ = false := (unhide KR).f 1 (by simp)
  have u2 : V3.cell? ⟨w.heap.size + 1 + 1, 2, none⟩ = some (.slice (some ⟨G3, 0, none⟩) l3 l3) := (unhide hO).c 2 (by simp)
  have r2 : V3.cell? ⟨w.heap.size + 1, 2, none⟩ = some (.slice none 0 0) := (unhide KR).c 2 (by simp)
  have t2 : V3.frozen? ⟨w.heap.size + 1, 2, none⟩ = false := (unhide KR).f 2 (by simp)
  rw [hV3] at u0 u1 u2 r0 r1 r2 t0 t1 t2
  have HB := hide ((unhide HB).setCell (p := ⟨w.heap.size + 1, 0, none⟩) (by simp) (.slice (some ⟨G1, 0, none⟩) l1 l1))
  have O1 := hide ((unhide O1).set_other (S := w.heap.size + 1) (o := 0) (.slice (some ⟨G1, 0, none⟩) l1 l1) (by simp only [Value.ownBlock, ne_eq, Option.some.injEq]; omega))
  have O2 := hide ((unhide O2).set_other (S := w.heap.size + 1) (o := 0) (.slice (some ⟨G1, 0, none⟩) l1 l1) (by simp only [Value.ownBlock, ne_eq, Option.some.injEq]; omega))
  have O3 := hide ((unhide O3).set_other (S := w.heap.size + 1) (o := 0) (.slice (some ⟨G1, 0, none⟩) l1 l1) (by simp only [Value.ownBlock, ne_eq, Option.some.injEq]; omega))
  have HB := hide ((unhide HB).setCell (p := ⟨w.heap.size + 1, 1, none⟩) (by simp) (.slice (some ⟨G2, 0, none⟩) l2 l2))
  have O1 := hide ((unhide O1).set_other (S := w.heap.size + 1) (o := 1) (.slice (some ⟨G2, 0, none⟩) l2 l2) (by simp only [Value.ownBlock, ne_eq, Option.some.injEq]; omega))
  have O2 := hide ((unhide O2).set_other (S := w.heap.size + 1) (o := 1) (.slice (some ⟨G2, 0, none⟩) l2 l2) (by simp only [Value.ownBlock, ne_eq, Option.some.injEq]; omega))
  have O3 := hide ((unhide O3).set_other (S := w.heap.size + 1) (o := 1) (.slice (some ⟨G2, 0, none⟩) l2 l2) (by simp only [Value.ownBlock, ne_eq, Option.some.injEq]; omega))
  have HB := hide ((unhide HB).setCell (p := ⟨w.heap.size + 1, 2, none⟩) (by simp) (.slice (some ⟨G3, 0, none⟩) l3 l3))
  have O1 := hide ((unhide O1).set_other (S := w.heap.size + 1) (o := 2) (.slice (some ⟨G3, 0, none⟩) l3 l3) (by simp only [Value.ownBlock, ne_eq, Option.some.injEq]; omega))
  have O2 := hide ((unhide O2).set_other (S := w.heap.size + 1) (o := 2) (.slice (some ⟨G3, 0, none⟩) l3 l3) (by simp only [Value.ownBlock, ne_eq, Option.some.injEq]; omega))
  have O3 := hide ((unhide O3).set_other (S := w.heap.size + 1) (o := 2) (.slice (some ⟨G3, 0, none⟩) l3 l3) (by simp only [Value.ownBlock, ne_eq, Option.some.injEq]; omega))
  rw [hV3] at HB O1 O2 O3
  have HN := hide (PnOwn.mk ((unhide O1).mono (base' := w.heap.size) (by omega)) ((unhide O2).mono (base' := w.heap.size) (by omega)) ((unhide O3).mono (base' := w.heap.size) (by omega)) (fun g h1 h2 => by have e1 := fresh_own h1; have e2 := fresh_own h2; omega) (fun g h1 h2 => by have e1 := fresh_own h1; have e2 := fresh_own h2; omega) (fun g h1 h2 => by have e1 := fresh_own h1; have e2 := fresh_own h2; omega))
  clear O1 O2 O3 KO KP KR hO hV3 HR0
  go_wp2_with fail
  refine bodyPost_ret (v := .agg #[(.slice (some ⟨G1, 0, none⟩) l1 l1), (.slice (some ⟨G2, 0, none⟩) l2 l2), (.slice (some ⟨G3, 0, none⟩) l3 l3)]) (by simp [results, Tryz.results9, go_sem, *]) rfl ⟨⟨G1, G2, G3, rfl, unhide HN⟩, unhide HB⟩
set_option maxHeartbeats 2000000 in
theorem eqPanel_same (a1 a2 a3 : Option Addr) (l1 c1 l2 c2 l3 c3 : Nat) (b1 b2 b3 : Option Addr) (d1 d2 d3 : Nat) (z1 : List ByteArray) (z2 : List ByteArray) (z3 : List ByteArray) (w : World) (hr : PnIn w a1 a2 a3 l1 l2 l3 z1 z2 z3) (hq : PnIn w b1 b2 b3 l1 l2 l3 z1 z2 z3) :
    Calls Tryz.prog 12 #[.agg #[.slice a1 l1 c1, .slice a2 l2 c2, .slice a3 l3 c3], .agg #[.slice b1 l1 d1, .slice b2 l2 d2, .slice b3 l3 d3]] w fun x w' => x = .returned (.bool true) ∧ Below w.heap.size w w' := by
  obtain ⟨W, hW⟩ : ∃ W, W = (w.alloc (Obj.cells #[.slice a1 l1 c1, .slice a2 l2 c2, .slice a3 l3 c3] 29)).alloc (Obj.cells #[.slice b1 l1 d1, .slice b2 l2 d2, .slice b3 l3 d3] 29) := ⟨_, rfl⟩
  have KA : Hid (Blk W w.heap.size [.slice a1 l1 c1, .slice a2 l2 c2, .slice a3 l3 c3]) := hide (by rw [hW]; exact (Blk.new (w := w) [.slice a1 l1 c1, .slice a2 l2 c2, .slice a3 l3 c3] 29).alloc _)
  have KB : Hid (Blk W (w.heap.size + 1) [.slice b1 l1 d1, .slice b2 l2 d2, .slice b3 l3 d3]) := hide (by
    rw [hW]
    have := Blk.new (w := w.alloc (Obj.cells #[.slice a1 l1 c1, .slice a2 l2 c2, .slice a3 l3 c3] 29)) [.slice b1 l1 d1, .slice b2 l2 d2, .slice b3 l3 d3] 29
    simpa using this)
  have HB : Hid (Below w.heap.size w W) := hide (by rw [hW]; exact bel2 _ _)
  have HA := hide (hr.below (unhide HB))
  have HQ := hide (hq.below (unhide HB))
  have HW := hide hW
  clear hr hq hW
  go_enter Tryz.func12, Tryz.ntmps12
  go_wp2_with fail
  rw [← unhide HW]
  clear HW
  refine (eqStringS_two _ _ _ _ _ _ z1 _ (unhide HA).r1 (unhide HQ).r1).mono ?_
  rintro x x1 ⟨rfl, bw⟩
  have HB := hide ((unhide HB).trans (bw.mono (unhide HB).size))
  have HA := hide ((unhide HA).below bw)
  have HQ := hide ((unhide HQ).below bw)
  have KA := hide ((unhide KA).below bw)
  have KB := hide ((unhide KB).below bw)
  clear bw
  have m2 : x1.cell? ⟨w.heap.size, 1, none⟩ = some (.slice a2 l2 c2) := (unhide KA).c 1 (by simp)
  have k2 : x1.cell? ⟨w.heap.size + 1, 1, none⟩ = some (.slice b2 l2 d2) := (unhide KB).c 1 (by simp)
  go_wp2_with fail
  clear m2 k2
  refine (eqStringS_two _ _ _ _ _ _ z2 _ (unhide HA).r2 (unhide HQ).r2).mono ?_
  rintro x x2 ⟨rfl, bw⟩
  have HB := hide ((unhide HB).trans (bw.mono (unhide HB).size))
  have HA := hide ((unhide HA).below bw)
  have HQ := hide ((unhide HQ).below bw)
  have KA := hide ((unhide KA).below bw)
  have KB := hide ((unhide KB).below bw)
  clear bw
  have m3 : x2.cell? ⟨w.heap.size, 2, none⟩ = some (.slice a3 l3 c3) := (unhide KA).c 2 (by simp)
  have k3 : x2.cell? ⟨w.heap.size + 1, 2, none⟩ = some (.slice b3 l3 d3) := (unhide KB).c 2 (by simp)
  go_wp2_with fail
  clear m3 k3
  refine (eqStringS_two _ _ _ _ _ _ z3 _ (unhide HA).r3 (unhide HQ).r3).mono ?_
  rintro x x3 ⟨rfl, bw⟩
  have HB := hide ((unhide HB).trans (bw.mono (unhide HB).size))
  have HA := hide ((unhide HA).below bw)
  have HQ := hide ((unhide HQ).below bw)
  have KA := hide ((unhide KA).below bw)
  have KB := hide ((unhide KB).below bw)
  clear bw
  go_wp2_with fail
  go_ret
  exact ⟨rfl, unhide HB⟩

end Go.Proofs.YtbaocifpifbldawGreat

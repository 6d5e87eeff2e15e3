/-
  Two, three, four variables in blocks of their own, one laid behind the other. No condition.
  The law's copy of rules: new memory for the list and for each list of phases. At lengths of at most 1048576.
  A list of rules that a call has made, the list and each list of phases in memory of its own; the law's copy. At lengths of at most 1048576.
-/
import Derived.Test.YtjalfalgffphmawBlk
import Derived.Test.YtjalfalgffphmawWrRow
import Derived.Test.YtjalfalgffphmawOwnI
import Derived.Test.YtjalfalgffphmawMarkI
import Derived.Test.YtjalfalgffphmawOnly
import Derived.Test.YtjalfalgffphmawWhole

namespace Go.Proofs.Ytjalfalgffphmaw
open Go.RowKit

theorem Blk.next {w : World} {B : Nat} (vs : List Value) (T : TypeId) (h : w.heap.size = B) : Blk (w.alloc (Obj.cells vs.toArray T)) B vs := by
  subst h; exact Blk.new vs T
theorem blkAt2_0 {w : World} {v1 v2 : List Value} {T1 T2 : TypeId} : Blk ((w.alloc (Obj.cells v1.toArray T1)).alloc (Obj.cells v2.toArray T2)) w.heap.size v1 := (Blk.new v1 T1).alloc _
theorem blkAt2_1 {w : World} {v1 v2 : List Value} {T1 T2 : TypeId} : Blk ((w.alloc (Obj.cells v1.toArray T1)).alloc (Obj.cells v2.toArray T2)) (w.heap.size + 1) v2 := Blk.next v2 T2 (by simp)
theorem blkAt3_0 {w : World} {v1 v2 v3 : List Value} {T1 T2 T3 : TypeId} : Blk (((w.alloc (Obj.cells v1.toArray T1)).alloc (Obj.cells v2.toArray T2)).alloc (Obj.cells v3.toArray T3)) w.heap.size v1 := blkAt2_0.alloc _
theorem blkAt3_1 {w : World} {v1 v2 v3 : List Value} {T1 T2 T3 : TypeId} : Blk (((w.alloc (Obj.cells v1.toArray T1)).alloc (Obj.cells v2.toArray T2)).alloc (Obj.cells v3.toArray T3)) (w.heap.size + 1) v2 := blkAt2_1.alloc _
theorem blkAt3_2 {w : World} {v1 v2 v3 : List Value} {T1 T2 T3 : TypeId} : Blk (((w.alloc (Obj.cells v1.toArray T1)).alloc (Obj.cells v2.toArray T2)).alloc (Obj.cells v3.toArray T3)) (w.heap.size + 1 + 1) v3 := Blk.next v3 T3 (by simp)

end Go.Proofs.Ytjalfalgffphmaw

namespace Go.Proofs.Ytjalfalgffphmaw
open Go.RowKit

set_option maxRecDepth 20000 in
set_option maxHeartbeats 1000000 in
theorem toWarnRule_any (qa : Option Addr) (ql qc : Nat) (p : Wr) (w : World) (hr : Row w qa ql p.q) (hl : ql ≤ 1048576) :
    Calls Try.prog 31 #[.agg #[.string p.n, .int .i64 p.r, .slice qa ql qc, .bool p.l, .string p.d]] w fun e w' => ∃ g, e = .returned (.agg #[.string p.n, .int .i64 p.r, .slice (some ⟨g, 0, none⟩) ql ql, .bool p.l, .string p.d]) ∧ OwnI w' w.heap.size (.slice (some ⟨g, 0, none⟩) ql ql) p.q ∧ Below w.heap.size w w' := by
  go_enter Try.func31, Try.ntmps31
  go_wp2_with fail
  obtain ⟨W0, hW0⟩ : ∃ W, W = ((w.alloc (Obj.cells #[.string p.n, .int .i64 p.r, .slice qa ql qc, .bool p.l, .string p.d] 51)).alloc (Obj.cells #[.string ⟨#[]⟩, .int .i64 0, .slice none 0 0, .bool false, .string ⟨#[]⟩] 56)).alloc (Obj.cells #[.string p.n, .int .i64 p.r, .slice none 0 0, .bool false, .string ⟨#[]⟩] 56) := ⟨_, rfl⟩
  have b0 : Below w.heap.size w W0 := by rw [hW0]; exact ((bel1 _).alloc (by simp) _).alloc (by simp; omega) _
  have KA : Blk W0 w.heap.size [.string p.n, .int .i64 p.r, .slice qa ql qc, .bool p.l, .string p.d] := by rw [hW0]; exact blkAt3_0
  have KR : Blk W0 (w.heap.size + 1) [.string ⟨#[]⟩, .int .i64 0, .slice none 0 0, .bool false, .string ⟨#[]⟩] := by rw [hW0]; exact blkAt3_1
  have KS : Blk W0 (w.heap.size + 1 + 1) [.string p.n, .int .i64 p.r, .slice none 0 0, .bool false, .string ⟨#[]⟩] := by rw [hW0]; exact blkAt3_2
  rw [← hW0]
  clear hW0
  refine (toIntS_own _ _ _ p.q _ (hr.below b0) hl).mono ?_
  rintro e w1 ⟨rfl, o1, b1⟩
  have O1 := hide (o1.mono b0.size)
  have HB := hide (b0.trans (b1.mono b0.size))
  have K1A := hide (KA.below b1)
  have K1R := hide (KR.below b1)
  have K1S := hide (KS.below b1)
  have gw := KS.lt
  have a3 := (unhide K1A).c 3 (by simp)
  have a4 := (unhide K1A).c 4 (by simp)
  have s2 := (unhide K1S).c 2 (by simp)
  have s3 := (unhide K1S).c 3 (by simp)
  have s4 := (unhide K1S).c 4 (by simp)
  have t2 := (unhide K1S).f 2 (by simp)
  have t3 := (unhide K1S).f 3 (by simp)
  have t4 := (unhide K1S).f 4 (by simp)
  simp only [List.getElem_cons_zero, List.getElem_cons_succ] at a3 a4 s2 s3 s4
  clear b0 KA KR KS o1 b1 hr
  go_wp2_with (first
    | ((with_reducible show wpList _ _ _ (⟨_, .load 56 _, _, _, _, none⟩ :: _) _ _); refine at_loadAgg (vs := [.string p.n, .int .i64 p.r, .slice (some ⟨W0.heap.size, 0, none⟩) ql ql, .bool p.l, .string p.d]) Try.isAgg56 Try.sizeOf56 rfl (by simpa using (((unhide K1S).set 2 (by simp) (.slice (some ⟨W0.heap.size, 0, none⟩) ql ql)).set 3 (by simp) (.bool p.l)).set 4 (by simp) (.string p.d)) ?_)
    | ((with_reducible show wpList _ _ _ (⟨none, .store 56 _ _, _, _, _, none⟩ :: _) _ _); refine at_storeAgg (us := [.string ⟨#[]⟩, .int .i64 0, .slice none 0 0, .bool false, .string ⟨#[]⟩]) (vs := [.string p.n, .int .i64 p.r, .slice (some ⟨W0.heap.size, 0, none⟩) ql ql, .bool p.l, .string p.d]) Try.sizeOf56 rfl rfl ((((unhide K1R).other (p := ⟨w.heap.size + 1 + 1, 2, none⟩) (by simp) _).other (p := ⟨w.heap.size + 1 + 1, 3, none⟩) (by simp) _).other (p := ⟨w.heap.size + 1 + 1, 4, none⟩) (by simp) _) rfl (by simp [Value.oneCell']) ?_; intro w9 kk9 gg9))
  have B2 : Below w.heap.size w (((w1.setCell ⟨w.heap.size + 1 + 1, 2, none⟩ (.slice (some ⟨W0.heap.size, 0, none⟩) ql ql)).setCell ⟨w.heap.size + 1 + 1, 3, none⟩ (.bool p.l)).setCell ⟨w.heap.size + 1 + 1, 4, none⟩ (.string p.d)) := (((unhide HB).setCell (by simp; omega) _).setCell (by simp; omega) _).setCell (by simp; omega) _
  refine bodyPost_ret (results_cell (vs := [.string p.n, .int .i64 p.r, .slice (some ⟨W0.heap.size, 0, none⟩) ql ql, .bool p.l, .string p.d]) rfl Try.isAgg56 Try.sizeOf56 rfl kk9) rfl ⟨_, rfl, ?_, ?_⟩
  · have l1 := gw
    exact (((((unhide O1).set_other _ (by simp [Value.ownBlock]; omega)).set_other _ (by simp [Value.ownBlock]; omega)).set_other _ (by simp [Value.ownBlock]; omega))).far gg9 (fun g hg e => by simp [Value.ownBlock] at hg; cases e; omega)
  · exact B2.grown gg9 B2.size (fun q hq => by cases hq; omega)

end Go.Proofs.Ytjalfalgffphmaw

namespace Go.Proofs.Ytjalfalgffphmaw
open Go.RowKit

/-- A rule, and the block of its phases. -/
structure Wg where
  p : Wr
  g : Nat
instance : Inhabited Wg := ⟨⟨default, 0⟩⟩
def wgC (x : Wg) : Nat → Value
  | 0 => .string x.p.n
  | 1 => .int .i64 x.p.r
  | 2 => .slice (some ⟨x.g, 0, none⟩) x.p.q.length x.p.q.length
  | 3 => .bool x.p.l
  | _ => .string x.p.d
theorem infoWr : (Try.prog.info? 56).map (fun i => (i.zero, i.size, i.bytes)) = some (some (.agg #[.string ⟨#[]⟩, .int .i64 0, .slice none 0 0, .bool false, .string ⟨#[]⟩]), 5, 72) := by kernel_rfl
structure OwnW (w : World) (B hi len : Nat) (rs : List Wr) : Prop where
  len_eq : rs.length = len
  small : len ≤ 1048576
  lt : B < w.heap.size
  own : ∃ xs : List Wg, xs.length = len ∧ (∀ i, i < len → (elAt xs i).p = elAt rs i) ∧ OwnE 5 wgC w B 56 (.slice (some ⟨B, 0, none⟩) len len) xs ∧ (∀ i, i < len → OwnI w (B + 1) (.slice (some ⟨(elAt xs i).g, 0, none⟩) (elAt xs i).p.q.length (elAt xs i).p.q.length) (elAt xs i).p.q) ∧ (∀ i j, i < j → j < len → (elAt xs i).g < (elAt xs j).g) ∧ ∀ i, i < len → (elAt xs i).g < hi
theorem OwnW.below {w w' : World} {B hi len : Nat} {rs : List Wr} (h : OwnW w B hi len rs) (k : Below w.heap.size w w') : OwnW w' B hi len rs := by
  obtain ⟨xs, h1, h2, h3, h4, h5⟩ := h.own
  exact ⟨h.len_eq, h.small, Nat.lt_of_lt_of_le h.lt k.size, xs, h1, h2, h3.below k, fun i hi => (h4 i hi).below k, h5⟩
theorem OwnW.row {w : World} {B hi len : Nat} {rs : List Wr} (h : OwnW w B hi len rs) (hf : ∀ i, i < len → wrFit (elAt rs i)) : RowW w (some ⟨B, 0, none⟩) len rs := by
  obtain ⟨xs, h1, h2, h3, h4, h5⟩ := h.own
  refine ⟨h.len_eq, by have := h.small; omega, fun i hi => ⟨B, 0, some ⟨(elAt xs i).g, 0, none⟩, (elAt xs i).p.q.length, (elAt xs i).p.q.length, rfl, ?_, ?_, Nat.le_refl _, hf i hi⟩⟩
  · have c := fun q hq => (h3.here h1 i hi q hq).1
    rw [← h2 i hi, Nat.zero_add]
    exact ⟨c 0 (by omega), c 1 (by omega), c 2 (by omega), c 3 (by omega), c 4 (by omega)⟩
  · rw [← h2 i hi]; exact (h4 i hi).row
theorem OwnW.only {w w' : World} {B hi len lo2 hi2 : Nat} {rs : List Wr} (h : OwnW w B hi len rs) (k : Only lo2 hi2 w w') (hs : hi2 ≤ B ∨ (B < lo2 ∧ hi ≤ lo2)) : OwnW w' B hi len rs := by
  obtain ⟨xs, h1, h2, h3, h4, h5, h6⟩ := h.own
  refine ⟨h.len_eq, h.small, Nat.lt_of_lt_of_le h.lt k.size, xs, h1, h2, h3.only k (fun g hg => ?_), fun i hl => (h4 i hl).only k (fun g hg => ?_), h5, h6⟩
  · have e : B = g := by simpa [Value.ownBlock] using hg
    rcases hs with hs | hs
    · right; omega
    · left; omega
  · have e : (elAt xs i).g = g := by simpa [Value.ownBlock] using hg
    have a := ((h4 i hl).lies (elAt xs i).g rfl).1
    have b := h6 i hl
    rcases hs with hs | hs
    · right; omega
    · left; omega

/-- After k rounds of the copying. -/
structure CopiedW (w wr : World) (B : Nat) (rs : List Wr) (k : Nat) : Prop where
  own : ∃ (xs : List Value) (G : Nat → Nat), wr.ownsRow B 56 5 (.slice (some ⟨B, 0, none⟩) rs.length rs.length) rs.length xs ∧ (∀ j, j < k → (∀ q, q < 5 → xs[j * 5 + q]? = some (wgC ⟨elAt rs j, G j⟩ q)) ∧ OwnI wr (B + 1) (.slice (some ⟨G j, 0, none⟩) (elAt rs j).q.length (elAt rs j).q.length) (elAt rs j).q) ∧ ∀ i j, i < j → j < k → G i < G j
  bel : Below w.heap.size w wr
  here : B < wr.heap.size
  old : w.heap.size ≤ B
theorem CopiedW.at_ {w wr : World} {B : Nat} {rs : List Wr} {k : Nat} (h : CopiedW w wr B rs k) (i : Nat) (hi : i < rs.length * 5) : (∃ v, wr.cell? ⟨B, i, none⟩ = some v) ∧ wr.frozen? ⟨B, i, none⟩ = false := by
  obtain ⟨xs, G, ho, _⟩ := h.own
  refine ⟨?_, ho.frozenAt i⟩
  rw [ho.cellAt i hi]
  have := ho.1
  exact ⟨xs[i]'(by omega), List.getElem?_eq_getElem (by omega)⟩
theorem CopiedW.call {w wr w' : World} {B : Nat} {rs : List Wr} {k : Nat} (h : CopiedW w wr B rs k) (b : Below wr.heap.size wr w') : CopiedW w w' B rs k := by
  obtain ⟨xs, G, ho, hx, hg⟩ := h.own
  exact ⟨⟨xs, G, ownsRow_below ho b, fun j hj => ⟨(hx j hj).1, (hx j hj).2.below b⟩, hg⟩, h.bel.trans (b.mono h.bel.size), Nat.lt_of_lt_of_le h.here b.size, h.old⟩
theorem CopiedW.step {w wr w2 : World} {B : Nat} {rs : List Wr} {k g : Nat} (h : CopiedW w wr B rs k) (b : Below wr.heap.size wr w2) (hk : k < rs.length) (ho2 : OwnI w2 wr.heap.size (.slice (some ⟨g, 0, none⟩) (elAt rs k).q.length (elAt rs k).q.length) (elAt rs k).q) :
    CopiedW w (((((w2.setCell ⟨B, k * 5, none⟩ (.string (elAt rs k).n)).setCell ⟨B, k * 5 + 1, none⟩ (.int .i64 (elAt rs k).r)).setCell ⟨B, k * 5 + 2, none⟩ (.slice (some ⟨g, 0, none⟩) (elAt rs k).q.length (elAt rs k).q.length)).setCell ⟨B, k * 5 + 3, none⟩ (.bool (elAt rs k).l)).setCell ⟨B, k * 5 + 4, none⟩ (.string (elAt rs k).d)) B rs (k + 1) := by
  have hB := h.here
  have h2 := h.call b
  have lg := (ho2.lies g rfl).1
  obtain ⟨xs, G, ho, hx, hg⟩ := h.own
  have hoB := ownsRow_below ho b
  have hl := ho.1
  have o0 := (hoB.stored (k * 5) (.string (elAt rs k).n)).1
  have o1 := (o0.stored (k * 5 + 1) (.int .i64 (elAt rs k).r)).1
  have o2 := (o1.stored (k * 5 + 2) (.slice (some ⟨g, 0, none⟩) (elAt rs k).q.length (elAt rs k).q.length)).1
  have o3 := (o2.stored (k * 5 + 3) (.bool (elAt rs k).l)).1
  have o4 := (o3.stored (k * 5 + 4) (.string (elAt rs k).d)).1
  refine ⟨⟨_, fun j => if j = k then g else G j, o4, fun j hj => ⟨fun q hq => ?_, ?_⟩, fun i j hij hj => ?_⟩, ((((h2.bel.setCell h.old _).setCell h.old _).setCell h.old _).setCell h.old _).setCell h.old _, by have := h2.here; simpa [World.setCell] using this, h.old⟩
  · by_cases e : j = k
    · subst e
      simp only [if_true]
      have hq' : q = 0 ∨ q = 1 ∨ q = 2 ∨ q = 3 ∨ q = 4 := by omega
      rcases hq' with rfl | rfl | rfl | rfl | rfl
      · rw [List.getElem?_set_ne (by omega), List.getElem?_set_ne (by omega), List.getElem?_set_ne (by omega), List.getElem?_set_ne (by omega)]; exact List.getElem?_set_self (by first | omega | (simp; omega))
      · rw [List.getElem?_set_ne (by omega), List.getElem?_set_ne (by omega), List.getElem?_set_ne (by omega)]; exact List.getElem?_set_self (by first | omega | (simp; omega))
      · rw [List.getElem?_set_ne (by omega), List.getElem?_set_ne (by omega)]; exact List.getElem?_set_self (by first | omega | (simp; omega))
      · rw [List.getElem?_set_ne (by omega)]; exact List.getElem?_set_self (by first | omega | (simp; omega))
      · exact List.getElem?_set_self (by first | omega | (simp; omega))
    · simp only [e, if_false]
      rw [List.getElem?_set_ne (by omega), List.getElem?_set_ne (by omega), List.getElem?_set_ne (by omega), List.getElem?_set_ne (by omega), List.getElem?_set_ne (by omega)]
      exact (hx j (by omega)).1 q hq
  · by_cases e : j = k
    · subst e
      simp only [if_true]
      exact (((((ho2.mono (by omega)).set_other _ (by simp [Value.ownBlock]; omega)).set_other _ (by simp [Value.ownBlock]; omega)).set_other _ (by simp [Value.ownBlock]; omega)).set_other _ (by simp [Value.ownBlock]; omega)).set_other _ (by simp [Value.ownBlock]; omega)
    · simp only [e, if_false]
      have hj' : j < k := by omega
      have l := (hx j hj').2.lies (G j) rfl
      exact ((((((hx j hj').2.below b).set_other _ (by simp [Value.ownBlock]; omega)).set_other _ (by simp [Value.ownBlock]; omega)).set_other _ (by simp [Value.ownBlock]; omega)).set_other _ (by simp [Value.ownBlock]; omega)).set_other _ (by simp [Value.ownBlock]; omega)
  · have hi : ¬ i = k := by omega
    simp only [hi, if_false]
    by_cases e : j = k
    · simp only [e, if_true]
      have := ((hx i (by omega)).2.lies (G i) rfl).2
      omega
    · simp only [e, if_false]
      exact hg i j hij (by omega)
theorem CopiedW.done {w wr : World} {B : Nat} {rs : List Wr} (h : CopiedW w wr B rs rs.length) (hs : rs.length ≤ 1048576) : OwnW wr B wr.heap.size rs.length rs := by
  obtain ⟨xs, G, ho, hx, hg⟩ := h.own
  have el : ∀ i, i < rs.length → elAt ((List.range rs.length).map fun i => (⟨elAt rs i, G i⟩ : Wg)) i = ⟨elAt rs i, G i⟩ := fun i hi => by simp [elAt, hi]
  refine ⟨rfl, hs, h.here, (List.range rs.length).map fun i => ⟨elAt rs i, G i⟩, by simp, fun i hi => by rw [el i hi], ⟨⟨xs, by simpa using ho, fun j hj q hq => ?_⟩⟩, fun i hi => ?_, fun i j hij hj => ?_, fun i hi => ?_⟩
  · have hj' : j < rs.length := by simpa using hj
    rw [el j hj']
    exact (hx j hj').1 q hq
  · rw [el i hi]; exact (hx i hi).2
  · rw [el i (by omega), el j hj]; exact hg i j hij hj
  · rw [el i hi]; exact ((hx i hi).2.lies _ rfl).2

set_option maxRecDepth 20000 in
set_option maxHeartbeats 1000000 in
theorem toWarnRuleS_own (ad : Option Addr) (len cap : Nat) (rs : List Wr) (w : World) (hr : RowW w ad len rs) (hlen : len ≤ 1048576) (hall : ∀ i, i < len → (elAt rs i).q.length ≤ 1048576) :
    Calls Try.prog 9 #[.slice ad len cap] w fun e w' => e = .returned (.slice (some ⟨w.heap.size, 0, none⟩) len len) ∧ OwnW w' w.heap.size w'.heap.size len rs ∧ Below w.heap.size w w' := by
  have hz := hr.len_eq
  have HO := hide hr.open_
  have HA := hide hall
  clear hr hall
  subst hz
  obtain ⟨i0, hi, hz0, hz1, hz2⟩ := info_parts infoWr
  go_enter Try.func9, Try.ntmps9
  go_wp2_with (at_make; refine wpList_make_full _ rfl (.tmp 6) (.tmp 6) 31 rfl w.heap.size 56 i0 (.agg #[.string ⟨#[]⟩, .int .i64 0, .slice none 0 0, .bool false, .string ⟨#[]⟩]) 5 Try.underlying31 hi hz0 hz1 .i64 .i64 _ _ rs.length rfl rfl rfl rfl (by rw [hz2]; omega) (by unfold maxLen; omega) (Nat.le_refl _) ?_; intro w1 hown hgrow)
  have hB : w.heap.size < w1.heap.size := (hown.lt w.heap.size rfl).2
  have HC0 : CopiedW w w1 w.heap.size rs 0 := ⟨⟨_, fun _ => 0, hown, fun j hj => by omega, fun i j _ hj => by omega⟩, (Below.refl _ _).grown hgrow (Nat.le_refl _) (fun k hk => by cases hk), hB, Nat.le_refl _⟩
  clear hown hgrow hi hz0 hz1 hz2 hB
  go_loopw [4] (fun i wr => ∃ k : Nat, k ≤ rs.length ∧ i = .int .i64 k ∧ Hid (CopiedW w wr w.heap.size rs k)) (fun i _ => rs.length - (intOf i).toNat)
  case atStart => exact ⟨0, Nat.zero_le _, rfl, hide HC0⟩
  case round =>
    clear HC0
    obtain ⟨k, hk, rfl, HCP⟩ := hrel
    by_cases hlt : k < rs.length
    · rcases (unhide HO) with ⟨h0, _⟩ | ⟨bb, off, rfl, _, hc⟩
      · simp [h0] at hlt
      obtain ⟨qa, ql, qc, hat, hrow, _, _⟩ := hc k hlt
      have hat := hat.below (unhide HCP).bel
      have m0 := hat.c0
      have m1 := hat.c1
      have m2 := hat.c2
      have m3 := hat.c3
      have m4 := hat.c4
      have hli := hrow.len_eq
      have hl20 : ql ≤ 1048576 := by rw [← hli]; exact (unhide HA) k hlt
      have HR := hide (hrow.below (unhide HCP).bel)
      have HLI := hide hli
      have k0 : (0 : Int) ≤ (k : Int) := by omega
      have hi1 : (k : Int) < (rs.length : Int) := by omega
      clear hc hat hrow hli
      go_wp2_with fail
      refine (toWarnRule_any _ _ _ (elAt rs k) _ (unhide HR) hl20).mono ?_
      rintro e w2 ⟨g, rfl, o2, hb2⟩
      have hc2 := (unhide HCP).call hb2
      obtain ⟨⟨v0, hs0⟩, hf0⟩ := hc2.at_ (k * 5) (by omega)
      obtain ⟨⟨v1, hs1⟩, hf1⟩ := hc2.at_ (k * 5 + 1) (by omega)
      obtain ⟨⟨v2, hs2⟩, hf2⟩ := hc2.at_ (k * 5 + 2) (by omega)
      obtain ⟨⟨v3, hs3⟩, hf3⟩ := hc2.at_ (k * 5 + 3) (by omega)
      obtain ⟨⟨v4, hs4⟩, hf4⟩ := hc2.at_ (k * 5 + 4) (by omega)
      rw [← unhide HLI] at o2
      have HS := hide ((unhide HCP).step hb2 hlt o2)
      rw [unhide HLI] at HS
      clear hb2 hc2 o2 m0 m1 m2 m3 m4
      go_wp2
      go_roundw
      case rel => exact ⟨k + 1, by omega, by go_num, HS⟩
      case measure => simp [intOf]; omega
    · have hkk : k = rs.length := by omega
      subst hkk
      have HR := hide ((unhide HCP).done hlen)
      have HB := hide (unhide HCP).bel
      go_wp2
      go_ret
      exact ⟨rfl, unhide HR, unhide HB⟩

end Go.Proofs.Ytjalfalgffphmaw

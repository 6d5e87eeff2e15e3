/-
  A list of lists of whole numbers that a call has made, each list in memory of its own; the law's size (with the total of the lengths), copy and marks of it. At lengths of at most 1048576.
-/
import Derived.Test.YthdnokilfmbgobdMakeS
import Derived.Test.YthdnokilfmbgobdMarkI
import Derived.Test.YthdnokilfmbgobdOnly
namespace Go.Proofs.Ythdnokilfmbgobd
open Go.RowKit

/-- The first k lengths together. -/
def totTo (zss : List (List Int)) : Nat → Nat
  | 0 => 0
  | k + 1 => totTo zss k + (nthS zss k).length

set_option maxHeartbeats 1000000 in
theorem szIntSS_tot (ad : Option Addr) (len cap : Nat) (zss : List (List Int)) (left : Int) (w : World) (hr : RowS w ad len zss) (h0 : 0 ≤ left) (h1 : left ≤ 1048576) :
    Calls Try.prog 15 #[.slice ad len cap, .int .i64 left] w fun e w' => (∃ r : Int, e = .returned (.int .i64 r) ∧ (r < 0 ∨ (0 ≤ r ∧ r ≤ left ∧ len ≤ 1048576 ∧ totTo zss len ≤ 1048576 ∧ ∀ i, i < len → (nthS zss i).length ≤ 1048576))) ∧ w' = w := by
  have hz := hr.len_eq
  have hs := hr.small
  have HO := hide hr.open_
  clear hr
  subst hz
  by_cases hlt : left < zss.length
  · go_enter Try.func15, Try.ntmps15
    go_wp2
    go_ret
    exact ⟨⟨_, rfl, .inl (by omega)⟩, rfl⟩
  · go_enter Try.func15, Try.ntmps15
    go_wp2
    go_loopw [1, 5] (fun l i wr => ∃ (k : Nat) (q : Int), k ≤ zss.length ∧ i = .int .i64 k ∧ l = .int .i64 q ∧ 0 ≤ q ∧ q ≤ left ∧ Hid (q + totTo zss k ≤ 1048576) ∧ Hid (∀ j, j < k → (nthS zss j).length ≤ 1048576) ∧ wr = w) (fun _ i _ => zss.length - (intOf i).toNat)
    case atStart => exact ⟨0, left - zss.length, by omega, rfl, rfl, by omega, by omega, hide (by unfold totTo; omega), (fun j hj => by omega), rfl⟩
    case round =>
      obtain ⟨k, q, hk, rfl, rfl, hq0, hq1, htot, hall, hwr⟩ := hrel
      subst wr
      have hq2 : q ≤ 1048576 := by omega
      by_cases hk2 : k < zss.length
      · rcases (unhide HO) with ⟨h0, _⟩ | ⟨bb, off, rfl, _, hc⟩
        · omega
        obtain ⟨ai, li, ci, hcell, hrow, _⟩ := hc k hk2
        have hll := hrow.len_eq
        have hsm := hrow.small
        have HLL := hide hll
        clear hc hrow hll
        by_cases hfit : (li : Int) ≤ q
        · go_wp2_with (go_at_call 28; refine (szIntS_yes _ _ _ _ _ (by omega) (by omega)).mono ?_; rintro e w' ⟨rfl, hw⟩; subst w')
          go_roundw
          case rel => exact ⟨k + 1, q - li, by omega, by go_num, rfl, by omega, by omega, hide (by have := unhide htot; have e := unhide HLL; show q - li + ((totTo zss k + (nthS zss k).length : Nat) : Int) ≤ 1048576; omega), (fun j hj => by rcases Nat.lt_succ_iff_lt_or_eq.1 hj with h | h; exact hall.out j h; subst h; rw [unhide HLL]; omega), by first | rfl | trivial⟩
          case measure => simp [intOf]; omega
        · go_wp2_with (go_at_call 28; refine (szIntS_no _ _ _ _ _ (by omega) (by omega) (by omega) (by omega)).mono ?_; rintro e w' ⟨rfl, hw⟩; subst w')
          go_ret
          exact ⟨⟨_, rfl, .inl (by omega)⟩, rfl⟩
      · have HK : Hid (k = zss.length) := hide (by omega)
        go_wp2
        go_ret
        exact ⟨⟨_, rfl, .inr ⟨by omega, by omega, by omega, by have := unhide htot; rw [← unhide HK]; omega, fun i hi => hall.out i (by omega)⟩⟩, rfl⟩

/-- Each list in a block of its own, the blocks rising. -/
structure OwnSS (w : World) (B hi len : Nat) (zss : List (List Int)) : Prop where
  len_eq : zss.length = len
  small : len ≤ 1048576
  lt : B < w.heap.size
  own : ∃ G : Nat → Nat, (∀ i, i < len → w.cell? ⟨B, i, none⟩ = some (.slice (some ⟨G i, 0, none⟩) (nthS zss i).length (nthS zss i).length) ∧ OwnI w (B + 1) (.slice (some ⟨G i, 0, none⟩) (nthS zss i).length (nthS zss i).length) (nthS zss i)) ∧ (∀ i j, i < j → j < len → G i < G j) ∧ ∀ i, i < len → G i < hi
theorem OwnSS.below {w w' : World} {B hi len : Nat} {zss : List (List Int)} (h : OwnSS w B hi len zss) (k : Below w.heap.size w w') : OwnSS w' B hi len zss := by
  obtain ⟨G, h1, h2⟩ := h.own
  exact ⟨h.len_eq, h.small, Nat.lt_of_lt_of_le h.lt k.size, G, fun i hi => ⟨(k.cell (p := ⟨B, i, none⟩) h.lt).trans (h1 i hi).1, (h1 i hi).2.below k⟩, h2⟩
theorem OwnSS.row {w : World} {B hi len : Nat} {zss : List (List Int)} (h : OwnSS w B hi len zss) : RowS w (some ⟨B, 0, none⟩) len zss := by
  obtain ⟨G, h1, h2⟩ := h.own
  refine ⟨h.len_eq, by have := h.small; omega, fun i hi => ⟨B, 0, _, _, _, rfl, by rw [Nat.zero_add]; exact (h1 i hi).1, (h1 i hi).2.row, Nat.le_refl _⟩⟩

structure CopiedO (w wr : World) (B : Nat) (zss : List (List Int)) (k : Nat) : Prop where
  own : ∃ (xs : List Value) (G : Nat → Nat), wr.ownsRow B 32 1 (.slice (some ⟨B, 0, none⟩) zss.length zss.length) zss.length xs ∧ (∀ j, j < k → xs[j]? = some (.slice (some ⟨G j, 0, none⟩) (nthS zss j).length (nthS zss j).length) ∧ OwnI wr (B + 1) (.slice (some ⟨G j, 0, none⟩) (nthS zss j).length (nthS zss j).length) (nthS zss j)) ∧ ∀ i j, i < j → j < k → G i < G j
  bel : Below w.heap.size w wr
  here : B < wr.heap.size
  old : w.heap.size ≤ B
theorem CopiedO.here_ {w wr : World} {B : Nat} {zss : List (List Int)} {k : Nat} (h : CopiedO w wr B zss k) (hk : k < zss.length) :
    (∃ v, wr.cell? ⟨B, k, none⟩ = some v) ∧ wr.frozen? ⟨B, k, none⟩ = false := by
  obtain ⟨xs, G, ho, _⟩ := h.own
  refine ⟨?_, ho.frozenAt k⟩
  rw [ho.cellAt k (by omega)]
  have := ho.1
  exact ⟨xs[k]'(by omega), List.getElem?_eq_getElem (by omega)⟩
theorem CopiedO.call {w wr w' : World} {B : Nat} {zss : List (List Int)} {k : Nat} (h : CopiedO w wr B zss k) (b : Below wr.heap.size wr w') : CopiedO w w' B zss k := by
  obtain ⟨xs, G, ho, hx, hg⟩ := h.own
  exact ⟨⟨xs, G, ownsRow_below ho b, fun j hj => ⟨(hx j hj).1, (hx j hj).2.below b⟩, hg⟩, h.bel.trans (b.mono h.bel.size), Nat.lt_of_lt_of_le h.here b.size, h.old⟩
theorem CopiedO.step {w wr w2 : World} {B : Nat} {zss : List (List Int)} {k : Nat} (h : CopiedO w wr B zss k) (b : Below wr.heap.size wr w2) (hk : k < zss.length) (ho2 : OwnI w2 wr.heap.size (.slice (some ⟨wr.heap.size, 0, none⟩) (nthS zss k).length (nthS zss k).length) (nthS zss k)) :
    CopiedO w (w2.setCell ⟨B, k, none⟩ (.slice (some ⟨wr.heap.size, 0, none⟩) (nthS zss k).length (nthS zss k).length)) B zss (k + 1) := by
  have hB := h.here
  obtain ⟨_, G0, _, hx0, _⟩ := h.own
  have h2 := h.call b
  obtain ⟨xs, G, ho, hx, hg⟩ := h.own
  have hoB := ownsRow_below ho b
  have hl := ho.1
  refine ⟨⟨_, fun j => if j = k then wr.heap.size else G j, (hoB.stored k _).1, fun j hj => ?_, fun i j hij hj => ?_⟩, h2.bel.setCell h.old _, by have := h2.here; simpa [World.setCell] using this, h.old⟩
  · by_cases e : j = k
    · subst e
      simp only [if_true]
      exact ⟨by rw [List.getElem?_set_self (by omega)], (ho2.mono (by omega)).set_other _ (by simp [Value.ownBlock]; omega)⟩
    · simp only [e, if_false]
      have hj' : j < k := by omega
      have l := (hx j hj').2.lies (G j) rfl
      exact ⟨by rw [List.getElem?_set_ne (by omega)]; exact (hx j hj').1, ((hx j hj').2.below b).set_other _ (by simp [Value.ownBlock]; omega)⟩
  · have hi : ¬ i = k := by omega
    simp only [hi, if_false]
    by_cases e : j = k
    · simp only [e, if_true]
      exact ((hx i (by omega)).2.lies (G i) rfl).2
    · simp only [e, if_false]
      exact hg i j hij (by omega)
theorem CopiedO.done {w wr : World} {B : Nat} {zss : List (List Int)} (h : CopiedO w wr B zss zss.length) (hs : zss.length ≤ 1048576) : OwnSS wr B wr.heap.size zss.length zss := by
  obtain ⟨xs, G, ho, hx, hg⟩ := h.own
  refine ⟨rfl, hs, h.here, G, fun i hi => ⟨?_, (hx i hi).2⟩, hg, fun i hi => ((hx i hi).2.lies _ rfl).2⟩
  rw [ho.cellAt i (by omega), (hx i hi).1]

set_option maxHeartbeats 1000000 in
theorem toIntSS_own (ad : Option Addr) (len cap : Nat) (zss : List (List Int)) (w : World) (hr : RowS w ad len zss) (hlen : len ≤ 1048576) (hall : ∀ i, i < len → (nthS zss i).length ≤ 1048576) :
    Calls Try.prog 17 #[.slice ad len cap] w fun e w' => e = .returned (.slice (some ⟨w.heap.size, 0, none⟩) len len) ∧ OwnSS w' w.heap.size w'.heap.size len zss ∧ Below w.heap.size w w' := by
  have hz := hr.len_eq
  have HO := hide hr.open_
  have HA := hide hall
  clear hr hall
  subst hz
  obtain ⟨i0, hi, hz0, hz1, hz2⟩ := info_parts info_ints
  go_enter Try.func17, Try.ntmps17
  go_wp2_with (at_make; refine wpList_make_full _ rfl (.tmp 6) (.tmp 6) 23 rfl w.heap.size 32 i0 (.slice none 0 0) 1 Try.underlying23 hi hz0 hz1 .i64 .i64 _ _ zss.length rfl rfl rfl rfl (by rw [hz2]; omega) (by unfold maxLen; omega) (Nat.le_refl _) ?_; intro w1 hown hgrow)
  have hB : w.heap.size < w1.heap.size := (hown.lt w.heap.size rfl).2
  have HC0 : CopiedO w w1 w.heap.size zss 0 := ⟨⟨_, fun _ => 0, hown, fun j hj => by omega, fun i j _ hj => by omega⟩, (Below.refl _ _).grown hgrow (Nat.le_refl _) (fun k hk => by cases hk), hB, Nat.le_refl _⟩
  clear hown hgrow hi hz0 hz1 hz2 hB
  go_loopw [4] (fun i wr => ∃ k : Nat, k ≤ zss.length ∧ i = .int .i64 k ∧ CopiedO w wr w.heap.size zss k) (fun i _ => zss.length - (intOf i).toNat)
  case atStart => exact ⟨0, Nat.zero_le _, rfl, HC0⟩
  case round =>
    obtain ⟨k, hk, rfl, hcp⟩ := hrel
    by_cases hlt : k < zss.length
    · rcases (unhide HO) with ⟨h0, _⟩ | ⟨bb, off, rfl, _, hc⟩
      · simp [h0] at hlt
      obtain ⟨ai, li, ci, hcw, hrow, _⟩ := hc k hlt
      have hcell := (hcp.bel.cell (p := ⟨bb, off + k, none⟩) (block_lt_of_cell hcw)).trans hcw
      have hli := hrow.len_eq
      have hl20 : li ≤ 1048576 := by rw [← hli]; exact (unhide HA) k hlt
      have HR := hide (hrow.below hcp.bel)
      have HCP := hide hcp
      have HLI := hide hli
      have hi1 : (k : Int) < (zss.length : Int) := by omega
      clear hc hcw hcp HC0 hrow hli
      go_wp2_with fail
      refine (toIntS_own _ _ _ (nthS zss k) _ (unhide HR) hl20).mono ?_
      rintro e w2 ⟨rfl, hr2, hb2⟩
      have hc2 := (unhide HCP).call hb2
      obtain ⟨⟨vk, hsome⟩, hfroz⟩ := hc2.here_ hlt
      rw [← unhide HLI] at hr2
      have HS := hide ((unhide HCP).step hb2 hlt hr2)
      rw [unhide HLI] at HS
      clear hb2 hc2 hr2
      go_wp2
      go_roundw
      case rel => exact ⟨k + 1, by omega, by go_num, unhide HS⟩
      case measure => simp [intOf]; omega
    · have hkk : k = zss.length := by omega
      subst hkk
      have HR := hide (hcp.done hlen)
      have HB := hide hcp.bel
      go_wp2
      go_ret
      exact ⟨rfl, unhide HR, unhide HB⟩

/-- Some lists of the same lengths, in the same blocks. -/
structure SomeSS (w wr : World) (B hi len : Nat) (G : Nat → Nat) (zss : List (List Int)) : Prop where
  c : ∀ i, i < len → wr.cell? ⟨B, i, none⟩ = some (.slice (some ⟨G i, 0, none⟩) (nthS zss i).length (nthS zss i).length)
  o : ∀ i, i < len → ∃ zs : List Int, zs.length = (nthS zss i).length ∧ OwnI wr (B + 1) (.slice (some ⟨G i, 0, none⟩) (nthS zss i).length (nthS zss i).length) zs
  l : ∀ i, i < len → G i < hi
  y : Only (B + 1) hi w wr
theorem totTo_mono (zss : List (List Int)) {k m : Nat} (h : k ≤ m) : totTo zss k ≤ totTo zss m := by
  induction m with
  | zero => obtain rfl : k = 0 := by omega
            exact Nat.le_refl _
  | succ m ih =>
    by_cases e : k = m + 1
    · rw [e]; exact Nat.le_refl _
    · exact Nat.le_trans (ih (by omega)) (Nat.le_add_right _ _)
theorem SomeSS.step {w wr w' : World} {B hi len : Nat} {G : Nat → Nat} {zss : List (List Int)} (h : SomeSS w wr B hi len G zss) (hG : ∀ i j, i < j → j < len → G i < G j) {k : Nat} (hk : k < len) (hB : B < wr.heap.size) {zs : List Int} (hz : zs.length = (nthS zss k).length) (o : OwnI w' (B + 1) (.slice (some ⟨G k, 0, none⟩) (nthS zss k).length (nthS zss k).length) zs) (gr : wr.grownBy w' (some (G k))) : SomeSS w w' B hi len G zss := by
  have lk := o.lies (G k) rfl
  refine ⟨fun i hi => ?_, fun i hi => ?_, h.l, h.y.trans (Only.of_row gr (fun q hq => by have e : G k = q := by simpa using hq
                                                                                         have := h.l k hk; omega))⟩
  · have hb := gr.block B hB (by simp; omega)
    exact (World.cell?_of_block (a := ⟨B, i, none⟩) hb).trans (h.c i hi)
  · by_cases e : i = k
    · subst e; exact ⟨zs, hz, o⟩
    · obtain ⟨ys, h1, h2⟩ := h.o i hi
      refine ⟨ys, h1, h2.far gr (fun q hq e2 => ?_)⟩
      have e3 : G i = q := by simpa [Value.ownBlock] using hq
      have e4 : q = G k := by simpa using e2
      rcases Nat.lt_or_gt_of_ne e with c | c
      · have := hG i k c hk; omega
      · have := hG k i c hi; omega
set_option maxHeartbeats 1000000 in
theorem markIntSS_own (B hi len : Nat) (zss : List (List Int)) (k0 : Int) (w : World) (h : OwnSS w B hi len zss) (hk0 : 0 ≤ k0) (hk1 : k0 ≤ 100000000) (hall : ∀ i, i < len → (nthS zss i).length ≤ 1048576) (htot : totTo zss len ≤ 1048576) :
    Calls Try.prog 13 #[.slice (some ⟨B, 0, none⟩) len len, .int .i64 k0] w fun e w' => e = .returned (.int .i64 (k0 + totTo zss len)) ∧ Only (B + 1) hi w w' := by
  obtain ⟨G, h1, h2, h3⟩ := h.own
  have hlt := h.lt
  have hsm := h.small
  have HA := hide hall
  have S0 : Hid (SomeSS w w B hi len G zss) := hide ⟨fun i hi => (h1 i hi).1, fun i hi => ⟨_, rfl, (h1 i hi).2⟩, h3, Only.refl _ _ _⟩
  have H2 := hide h2
  clear h h1 h2 h3 hall
  go_enter Try.func13, Try.ntmps13
  go_wp2_with fail
  go_loopw [1, 5] (fun kv i wr => ∃ j : Nat, j ≤ len ∧ i = .int .i64 (j : Int) ∧ kv = .int .i64 (k0 + totTo zss j) ∧ SomeSS w wr B hi len G zss) (fun _ i _ => len - (intOf i).toNat)
  case atStart => exact ⟨0, Nat.zero_le _, rfl, by simp [totTo], unhide S0⟩
  case round =>
    clear S0
    obtain ⟨j, hj, rfl, rfl, hs⟩ := hrel
    have HS := hide hs
    have tj := totTo_mono zss hj
    by_cases hl : j < len
    · have hl' : (j : Int) < (len : Int) := by omega
      have hj0 : (0 : Int) ≤ (j : Int) := by omega
      have hc := hs.c j hl
      obtain ⟨zs, hz, ho⟩ := hs.o j hl
      have hla := (unhide HA) j hl
      have HZ := hide hz
      have HO := hide ho
      have hcB : wr.cell? ⟨B, 0 + j, none⟩ = some (.slice (some ⟨G j, 0, none⟩) (nthS zss j).length (nthS zss j).length) := by rw [Nat.zero_add]; exact hc
      have hBw : Hid (B < wr.heap.size) := hide (Nat.lt_of_lt_of_le hlt hs.y.size)
      obtain ⟨T, hT⟩ : ∃ T : Nat, totTo zss j = T := ⟨_, rfl⟩
      obtain ⟨n, hn⟩ : ∃ n : Nat, (nthS zss j).length = n := ⟨_, rfl⟩
      have ET : Hid (totTo zss (j + 1) = T + n) := hide (by show totTo zss j + (nthS zss j).length = _; rw [hT, hn])
      rw [hT] at tj ⊢
      rw [hn] at hc hcB hla HZ HO
      have HN := hide hn
      clear hs hz ho hT hn
      go_wp2_with fail
      refine (markIntS_own (B + 1) _ _ _ zs _ _ (unhide HO) (unhide HZ) hla (by omega) (by omega)).mono ?_
      rintro e w2 ⟨rfl, o2, gr⟩
      have NX := hide ((unhide HS).step (unhide H2) hl (unhide hBw) (zs := markI zs (k0 + T) n) (by rw [unhide HN]; rw [markI_len]; exact unhide HZ) (by rw [unhide HN]; exact o2) gr)
      clear o2 gr HS HO
      go_wp2_with fail
      go_roundw
      case rel => exact ⟨j + 1, by omega, by go_num, by rw [unhide ET]; congr 1; omega, unhide NX⟩
      case measure => simp [intOf]; omega
    · have hl' : ¬ (j : Int) < (len : Int) := by omega
      have EJ : Hid (j = len) := hide (by omega)
      go_wp2_with fail
      go_ret
      exact ⟨ret_int (by rw [unhide EJ]), (unhide HS).y⟩

theorem OwnSS.only {w w' : World} {B hi len lo2 hi2 : Nat} {zss : List (List Int)} (h : OwnSS w B hi len zss) (k : Only lo2 hi2 w w') (hs : hi2 ≤ B ∨ (B < lo2 ∧ hi ≤ lo2)) : OwnSS w' B hi len zss := by
  obtain ⟨G, h1, h2, h3⟩ := h.own
  refine ⟨h.len_eq, h.small, Nat.lt_of_lt_of_le h.lt k.size, G, fun i hl => ⟨?_, (h1 i hl).2.only k (fun g hg => ?_)⟩, h2, h3⟩
  · exact (World.cell?_of_block (a := ⟨B, i, none⟩) (k.block B h.lt (by omega))).trans (h1 i hl).1
  · have e : G i = g := by simpa [Value.ownBlock] using hg
    have a := ((h1 i hl).2.lies (G i) rfl).1
    have b := h3 i hl
    rcases hs with hs | hs
    · right; omega
    · left; omega

end Go.Proofs.Ythdnokilfmbgobd

/-
  What the program's islands answers: the islands of a net that is so. Nothing that was there is written.
-/
import Derived.Test.YtfahhjgpgccdhacIsleFill
import Derived.Test.YtfahhjgpgccdhacLists
import Derived.Test.YtfahhjgpgccdhacMarkI
import Derived.Deep.CutRange
namespace Go.Proofs.Ytfahhjgpgccdhac
open Go.RowKit

/-- The list of the roots while it is filled. -/
structure RootsTo (wr : World) (base f N k : Nat) (par : Nat → Nat) : Prop where
  own : ∃ xs : List Value, wr.ownsRow base 3 1 (.slice (some ⟨f, 0, none⟩) N N) N xs ∧ ∀ i, i < k → xs[i]? = some (.int .i64 ((rootOf par i : Nat) : Int))
theorem RootsTo.step {wr : World} {base f N k : Nat} {par : Nat → Nat} (h : RootsTo wr base f N k par) (hk : k < N) : RootsTo (wr.setCell ⟨f, k, none⟩ (.int .i64 ((rootOf par k : Nat) : Int))) base f N (k + 1) par := by
  obtain ⟨xs, ho, hx⟩ := h.own
  have hl := ho.1
  refine ⟨⟨_, (ho.stored k (.int .i64 ((rootOf par k : Nat) : Int))).1, fun i hi => ?_⟩⟩
  by_cases e : i = k
  · subst e; exact List.getElem?_set_self (by omega)
  · rw [List.getElem?_set_ne (by omega)]; exact hx i (by omega)
theorem RootsTo.here {wr : World} {base f N k : Nat} {par : Nat → Nat} (h : RootsTo wr base f N k par) (i : Nat) (hi : i < N) : (∃ v, wr.cell? ⟨f, i, none⟩ = some v) ∧ wr.frozen? ⟨f, i, none⟩ = false := by
  obtain ⟨xs, ho, _⟩ := h.own
  refine ⟨?_, ho.frozenAt i⟩
  rw [ho.cellAt i (by omega)]
  have := ho.1
  exact ⟨xs[i]'(by omega), List.getElem?_eq_getElem (by omega)⟩
theorem RootsTo.below {wr w' : World} {base f N k : Nat} {par : Nat → Nat} (h : RootsTo wr base f N k par) (b : Below wr.heap.size wr w') : RootsTo w' base f N k par := by
  obtain ⟨xs, ho, hx⟩ := h.own
  exact ⟨⟨xs, ownsRow_below ho b, hx⟩⟩
theorem RootsTo.done {wr : World} {base f N : Nat} {par : Nat → Nat} (h : RootsTo wr base f N N par) (hN : N ≤ 8) : OwnI wr base (.slice (some ⟨f, 0, none⟩) N N) (rootsL par N) := by
  obtain ⟨xs, ho, hx⟩ := h.own
  have hl : (rootsL par N).length = N := by simp [rootsL]
  refine ⟨⟨xs, by rw [hl]; exact ho, fun j hj => ?_⟩, fun i => ?_⟩
  · rw [hl] at hj
    rw [rootsL_at par hj]; exact hx j hj
  · by_cases e : i < N
    · rw [rootsL_at par e]; have := rootOf_le par i; omega
    · have : nth (rootsL par N) i = 0 := by unfold nth; rw [List.getElem?_eq_none (by omega)]; rfl
      rw [this]; omega

set_option maxRecDepth 20000 in
set_option maxHeartbeats 4000000 in
theorem islands_any (N : Nat) (a1 a2 a3 : Option Addr) (l1 c1 l2 c2 l3 c3 : Nat) (ts : List Ti) (w : World) (r : RowE 3 tiC w a2 l2 ts) (h1 : 1 ≤ N) (h8 : N ≤ 8) (hl16 : l2 ≤ 16)
    (hti : ∀ k, k < ts.length → (0 ≤ (elAt ts k).a0 ∧ (elAt ts k).a0 < N) ∧ (0 ≤ (elAt ts k).a1 ∧ (elAt ts k).a1 < N)) :
    Calls Try.prog 71 #[.agg #[.int .i64 (N : Int), .slice a1 l1 c1, .slice a2 l2 c2, .slice a3 l3 c3]] w fun x w' => ∃ a c, x = .returned (.slice a N c) ∧ OwnI w' w.heap.size (.slice a N c) (isleR N ts) ∧ IsIsle N ts (isleR N ts) ∧ Below w.heap.size w w' := by
  obtain ⟨W, hW⟩ : ∃ W, W = w.alloc (Obj.cells #[.int .i64 (N : Int), .slice a1 l1 c1, .slice a2 l2 c2, .slice a3 l3 c3] 44) := ⟨_, rfl⟩
  have KP : Hid (Blk W w.heap.size [.int .i64 (N : Int), .slice a1 l1 c1, .slice a2 l2 c2, .slice a3 l3 c3]) := hide (by rw [hW]; exact Blk.new _ _)
  have HB : Hid (Below w.heap.size w W) := hide (by rw [hW]; exact bel1 _)
  obtain ⟨g, hg⟩ : ∃ g, w.heap.size + 1 = g := ⟨_, rfl⟩
  have hsW : W.heap.size = g := by rw [hW, ← hg]; simp
  have R := hide (r.below (unhide HB))
  have Z2 := hide r.len_eq
  have HTI := hide hti
  have HW := hide hW
  have HG := hide hg
  have hNi : (N : Int) ≤ 8 := by omega
  obtain ⟨i0, hii, hz0, hz1, hz2⟩ := info_parts info_bus
  clear r hti hW hg
  go_enter Try.func71, Try.ntmps71
  go_wp2_with (at_make; refine wpList_make_full _ rfl (.tmp 10) (.tmp 10) 125 rfl g 128 i0 (.agg #[.int .i64 0, .pointer none]) 2 Try.underlying125 hii hz0 hz1 .i64 .i64 _ _ N rfl rfl rfl rfl (by rw [hz2]; omega) (by unfold maxLen; omega) (by rw [← unhide HG]; simp) ?_; intro w1 hown hgrow)
  have hown1 : w1.ownsRow g 128 2 (.slice (some ⟨g, 0, none⟩) N N) N (madeCells (Value.agg #[.int .i64 0, .pointer none]).cells (N * 2)).toList := by
    have h := hown
    rw [← unhide HW, hsW] at h
    exact h
  have F0 := hide (show Filled W w1 g N 0 from ⟨⟨_, hown1, fun i hi => by omega⟩, by
    have h := hgrow
    rw [← unhide HW] at h
    exact (Below.refl _ _).grown h (Nat.le_refl _) (fun k hk => by cases hk)⟩)
  rw [unhide HG]
  clear hown hown1 hgrow hii hz0 hz1 hz2 HW
  clear i0
  go_loopw [14] (fun i wr => ∃ k : Nat, i = .int .i64 (k : Int) ∧ k ≤ N ∧ Hid (Filled W wr g N k)) (fun i _ => N - (intOf i).toNat)
  case atStart => exact ⟨0, rfl, Nat.zero_le _, F0⟩
  case round =>
    clear F0
    obtain ⟨k, rfl, hk, F⟩ := hrel
    by_cases hlt : k < N
    · have hlt' : (k : Int) < (N : Int) := by omega
      have hi0 : (0 : Int) ≤ (k : Int) := by omega
      obtain ⟨⟨v0, y0⟩, z0⟩ := (unhide F).at_ (k * 2) (by omega)
      obtain ⟨⟨v1, y1⟩, z1⟩ := (unhide F).at_ (k * 2 + 1) (by omega)
      have F1 := hide ((unhide F).step hlt (by omega))
      go_wp2_with fail
      go_roundw
      case rel => exact ⟨k + 1, by go_num, by omega, F1⟩
      case measure => simp [intOf]; omega
    · obtain rfl : k = N := by omega
      have hlt' : ¬ (k : Int) < (k : Int) := by omega
      have T0 := hide (show TreeIn W wr g k ts (fun i => i) 0 from ⟨(unhide F).bel, (unhide F).trees, forest_id k ts, fun j hj => by omega⟩)
      have kb := (unhide KP).below (unhide F).bel
      have m2 : wr.cell? ⟨w.heap.size, 2, none⟩ = some (.slice a2 l2 c2) := kb.c 2 (by simp)
      clear kb F hlt
      go_wp2_with fail
      clear m2
      go_loopw [29] (fun i wr => ∃ (q : Nat) (par : Nat → Nat), i = .int .i64 (q : Int) ∧ q ≤ l2 ∧ Hid (TreeIn W wr g k ts par q)) (fun i _ => l2 - (intOf i).toNat)
      case atStart => exact ⟨0, fun i => i, rfl, Nat.zero_le _, T0⟩
      case round =>
        clear T0
        obtain ⟨q, par, rfl, hq, TI⟩ := hrel
        by_cases hlt : q < l2
        · have hlt2 : (q : Int) < (l2 : Int) := by omega
          have hi0 : (0 : Int) ≤ (q : Int) := by omega
          have HLT := hide (show q < ts.length by rw [unhide Z2]; exact hlt)
          obtain ⟨f0, f1⟩ := (unhide HTI) q (unhide HLT)
          obtain ⟨A, hA⟩ : ∃ A : Nat, (elAt ts q).a0 = A := ⟨(elAt ts q).a0.toNat, by omega⟩
          obtain ⟨B, hB⟩ : ∃ B : Nat, (elAt ts q).a1 = B := ⟨(elAt ts q).a1.toNat, by omega⟩
          rcases (unhide R).open_ with ⟨h0, _⟩ | ⟨bb, off, rfl, _, hc⟩
          · omega
          have e0 : W.cell? ⟨bb, off + q * 3, none⟩ = some (.int .i64 (elAt ts q).a0) := hc q hlt 0 (by omega)
          have e1 : W.cell? ⟨bb, off + q * 3 + 1, none⟩ = some (.int .i64 (elAt ts q).a1) := hc q hlt 1 (by omega)
          have e2 : W.cell? ⟨bb, off + q * 3 + 2, none⟩ = some (.bool (elAt ts q).a2) := hc q hlt 2 (by omega)
          have e0 := ((unhide TI).bel.cell (block_lt_of_cell e0)).trans e0
          have e1 := ((unhide TI).bel.cell (block_lt_of_cell e1)).trans e1
          have e2 := ((unhide TI).bel.cell (block_lt_of_cell e2)).trans e2
          rw [hA] at e0 f0
          rw [hB] at e1 f1
          have HA := hide hA
          have HBB := hide hB
          have HAk : Hid (A < k) := hide (by omega)
          have HBk : Hid (B < k) := hide (by omega)
          have hA0 : (0 : Int) ≤ (A : Int) := by omega
          have hB0 : (0 : Int) ≤ (B : Int) := by omega
          have hAN : (A : Int) < (k : Int) := f0.2
          have hBN : (B : Int) < (k : Int) := f1.2
          clear hc hA hB f0 f1
          cases hcl : (elAt ts q).a2 with
          | false =>
            rw [hcl] at e2
            have HN := hide (((unhide TI).below (bel1 (w := wr) (Obj.cells #[.int .i64 (A : Int), .int .i64 (B : Int), .bool false] 51))).open_ hcl)
            go_wp2_with fail
            go_roundw
            case rel => exact ⟨q + 1, par, by go_num, by omega, HN⟩
            case measure => simp [intOf]; omega
          | true =>
            rw [hcl] at e2
            have HC := hide hcl
            obtain ⟨V, hV⟩ : ∃ V, V = wr.alloc (Obj.cells #[.int .i64 (A : Int), .int .i64 (B : Int), .bool true] 51) := ⟨_, rfl⟩
            have TV : Hid (TreeIn W V g k ts par q) := hide (by rw [hV]; exact (unhide TI).below (bel1 _))
            have KE : Hid (Blk V wr.heap.size [.int .i64 (A : Int), .int .i64 (B : Int), .bool true]) := hide (by rw [hV]; exact Blk.new _ _)
            have HV := hide hV
            obtain ⟨E, hE⟩ : ∃ E, wr.heap.size = E := ⟨_, rfl⟩
            rw [hE] at KE
            have HEE := hide hE
            have HEg : Hid (E ≠ g) := hide (by
              have h := block_lt_of_cell ((unhide TI).trees.p 0 (by omega))
              simp only at h
              omega)
            clear hcl hV hE TI
            go_wp2_with fail
            rw [← unhide HV, unhide HEE]
            clear HV HEE e0 e1 e2
            have y0 : V.cell? ⟨E, 0, none⟩ = some (.int .i64 (A : Int)) := (unhide KE).c 0 (by simp)
            have y1 : V.cell? ⟨E, 1, none⟩ = some (.int .i64 (B : Int)) := (unhide KE).c 1 (by simp)
            have BB : Hid (Below V.heap.size V V) := hide (Below.refl _ _)
            go_region_held3 (fun w' => w'.cell? ⟨E, 0, none⟩ = some (.int .i64 (A : Int)) ∧ w'.cell? ⟨E, 1, none⟩ = some (.int .i64 (B : Int))) (go_keep)
              ((first
                | (go_at_call 81; refine (first_any g k par _ _ ?h1 ?h2).mono ?_; (case h1 => first | exact (unhide TV).trees.below (unhide BB) | exact ((unhide TV).trees.below (unhide BB)).drewN 1); (case h2 => first | exact unhide HAk | exact unhide HBk); rintro x w3 ⟨rfl, n3, hw3⟩; have hb3 : Below V.heap.size V w3 := (by rw [hw3]; exact (unhide BB).trans ⟨rfl, rfl, rfl, Nat.le_refl _, fun _ _ => rfl⟩); have BB := hide hb3; have y0 : w3.cell? ⟨E, 0, none⟩ = some (.int .i64 (A : Int)) := ((unhide KE).below hb3).c 0 (by simp); have y1 : w3.cell? ⟨E, 1, none⟩ = some (.int .i64 (B : Int)) := ((unhide KE).below hb3).c 1 (by simp); clear hw3 hb3)
                | (go_at_call 80; refine (join_any g k par (rootOf par A) (rootOf par B) _ ?h1 (Nat.lt_of_le_of_lt (rootOf_le _ _) (unhide HAk)) (Nat.lt_of_le_of_lt (rootOf_le _ _) (unhide HBk))).mono ?_; (case h1 => first | exact (unhide TV).trees.below (unhide BB) | exact ((unhide TV).trees.below (unhide BB)).drewN 1); rintro x w4 ⟨rfl, t4, g4⟩; have TN := hide ((((unhide TV).below (unhide BB)).below (w' := _) ⟨rfl, rfl, rfl, Nat.le_refl _, fun _ _ => rfl⟩).join (unhide HLT) (unhide HC) (unhide HA) (unhide HBB) (unhide HAk) (unhide HBk) (by omega) t4 g4); have y0 : w4.cell? ⟨E, 0, none⟩ = some (.int .i64 (A : Int)) := (World.cell?_of_block (a := ⟨E, 0, none⟩) (g4.block E ((unhide KE).below (unhide BB)).lt (fun e => unhide HEg (Option.some.inj e)))).trans (((unhide KE).below (unhide BB)).c 0 (by simp)); have y1 : w4.cell? ⟨E, 1, none⟩ = some (.int .i64 (B : Int)) := (World.cell?_of_block (a := ⟨E, 1, none⟩) (g4.block E ((unhide KE).below (unhide BB)).lt (fun e => unhide HEg (Option.some.inj e)))).trans (((unhide KE).below (unhide BB)).c 1 (by simp)); clear t4 g4)))
            clear y0 y1
            go_wp2_with fail
            go_roundw
            case rel => exact ⟨q + 1, _, by go_num, by omega, TN⟩
            case measure => simp [intOf]; omega
        · obtain rfl : q = l2 := by omega
          have hlt2 : ¬ (q : Int) < (q : Int) := by omega
          have kb := (unhide KP).below (unhide TI).bel
          have m0 : wr.cell? ⟨w.heap.size, 0, none⟩ = some (.int .i64 (k : Int)) := kb.c 0 (by simp)
          have HI := hide (roots_isle (unhide TI).forest (fun j hj hc => (unhide TI).same j (by rw [unhide Z2] at hj; exact hj) hc) (fun j hj => by have := (unhide HTI) j hj; omega))
          obtain ⟨F, hF⟩ : ∃ F, wr.heap.size = F := ⟨_, rfl⟩
          have HF := hide hF
          have sF : g ≤ F := by rw [← hF, ← hsW]; exact (unhide TI).bel.size
          have HFg : Hid (F ≠ g) := hide (by
            have h := block_lt_of_cell ((unhide TI).trees.p 0 (by omega))
            simp only at h
            omega)
          obtain ⟨i0, hii, hz0, hz1, hz2⟩ := info_parts info_int1
          clear kb hlt
          go_wp2_with (at_make; refine wpList_make_full _ rfl (.tmp 48) (.tmp 48) 46 rfl F 3 i0 (.int .i64 0) 1 Try.underlying46 hii hz0 hz1 .i64 .i64 _ _ k rfl rfl rfl rfl (by rw [hz2]; omega) (by unfold maxLen; omega) (by rw [hF]; exact Nat.le_refl _) ?_; intro w2 hown hgrow)
          rw [hF] at hown
          have b2 : Below wr.heap.size wr w2 := (Below.refl _ _).grown hgrow (Nat.le_refl _) (fun k hk => by cases hk)
          have RT0 := hide (show RootsTo w2 F F k 0 par from ⟨⟨_, hown, fun i hi => by omega⟩⟩)
          have TR0 := hide ((unhide TI).trees.below b2)
          have B2 := hide ((unhide TI).bel.trans (b2.mono (unhide TI).bel.size))
          clear hown hgrow b2 TI hii hz0 hz1 hz2 m0 hF
          clear i0
          go_loopw [52] (fun i wr => ∃ p : Nat, i = .int .i64 (p : Int) ∧ p ≤ k ∧ Hid (Below W.heap.size W wr) ∧ Hid (Trees wr g k par) ∧ Hid (RootsTo wr F F k p par)) (fun i _ => k - (intOf i).toNat)
          case atStart => exact ⟨0, rfl, Nat.zero_le _, B2, TR0, RT0⟩
          case round =>
            clear B2 TR0 RT0
            obtain ⟨p, rfl, hp, BW, TR, RT⟩ := hrel
            by_cases hlt : p < k
            · have hlt3 : (p : Int) < (k : Int) := by omega
              have hi0 : (0 : Int) ≤ (p : Int) := by omega
              go_wp2_with fail
              refine (first_any g k par p _ (unhide TR) hlt).mono ?_
              rintro x w3 ⟨rfl, n3, hw3⟩
              have b3 : Below wr.heap.size wr w3 := by rw [hw3]; exact bel0d n3
              have BW3 := (unhide BW).trans (b3.mono (unhide BW).size)
              have TR3 := (unhide TR).below b3
              have RT3 := (unhide RT).below b3
              have e0 : w3.cell? ⟨g, rootOf par p * 2, none⟩ = some (.int .i64 ((rootOf par p : Nat) : Int)) := TR3.p _ (Nat.lt_of_le_of_lt (rootOf_le _ _) hlt)
              obtain ⟨⟨v0, y0⟩, z0⟩ := RT3.here p hlt
              have BW4 := hide (BW3.setCell (p := ⟨F, p, none⟩) (by rw [hsW]; exact sF) (.int .i64 ((rootOf par p : Nat) : Int)))
              have TR4 := hide (TR3.other (p := ⟨F, p, none⟩) (unhide HFg) (.int .i64 ((rootOf par p : Nat) : Int)))
              have RT4 := hide (RT3.step hlt)
              clear b3 BW3 TR3 RT3 hw3 BW TR RT
              go_wp2_with fail
              go_roundw
              case rel => exact ⟨p + 1, by go_num, by omega, BW4, TR4, RT4⟩
              case measure => simp [intOf]; omega
            · obtain rfl : p = k := by omega
              have hlt3 : ¬ (p : Int) < (p : Int) := by omega
              have HO : Hid (OwnI wr w.heap.size (.slice (some ⟨F, 0, none⟩) p p) (isleR p ts)) := hide (by
                rw [← (unhide HI).eq]
                exact ((unhide RT).done h8).mono (by have := (unhide HB).size; omega))
              have HII : Hid (IsIsle p ts (isleR p ts)) := hide (by have h := unhide HI; rw [← h.eq]; exact h)
              have HBF := hide ((unhide HB).trans ((unhide BW).mono (unhide HB).size))
              clear BW TR RT
              go_wp2_with fail
              go_ret
              exact ⟨_, _, rfl, unhide HO, unhide HII, unhide HBF⟩

end Go.Proofs.Ytfahhjgpgccdhac

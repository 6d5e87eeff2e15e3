/-
  What Smooth answers in the specification and in the program: the plain list and flag; the list owns its memory. No condition; nothing that was there is written.
-/
import Derived.Test.YtgihdklgmndeeabRowFl
import Derived.Test.YtgihdklgmndeeabSmoothPure
import Derived.Test.YtgihdklgmndeeabMissing
import Derived.Deep.AppendLies
namespace Go.Proofs.Ytgihdklgmndeeab
open Go.RowKit
attribute [local go_sem] run_store_float

/-- '+', '-', '*', '/' of floats in a walk that holds on to a fact which draws leave. -/
theorem at_flopI {P : Program} {w : World} {ops : Array Oper} {rest : List Oper} {d : Option Tmp} {op : BinOp} {t u ty : TypeId} {l r : Operand} {pos : String} {af : Array Edge} {a : Act} {Q : Exit → Act → World → Prop}
    (I : World → Prop) (hI : ∀ W n, I W → I (W.drewN n)) (hw : I w) (ho : op = .add ∨ op = .sub ∨ op = .mul ∨ op = .quo) (k : FloatKind) (x y : Nat) (hl : a.eval l = .float k x) (hr : a.eval r = .float k y)
    (hK : ∀ z w1, Alike k z (fl op k x y) → I w1 → wpList P ops Q rest (a.put d (.float k z)) w1) :
    wpList P ops Q (⟨d, .binOp op t l r u, ty, pos, af, none⟩ :: rest) a w := at_flop ho k x y hl hr fun z n h => hK z _ h (hI w n hw)

theorem ownsRow_len {w : World} {base : Nat} {e : TypeId} {size : Nat} {v : Value} {n : Nat} {xs : List Value} (h : w.ownsRow base e size v n xs) : xs.length = n * size := h.1
theorem one_cell (x : Nat) : ∀ q, q < 1 → [Value.float .f64 x][q]? = some (flC x q) := fun q hq => by
  obtain rfl : q = 0 := by omega
  rfl
theorem nan00 : fl .quo .f64 0 0 = qnan .f64 := by decide +kernel

set_option maxHeartbeats 1000000 in
theorem l5NaN_any (w : World) :
    Calls Try.prog 91 #[.float .f64 0] w fun e w' => ∃ z, e = .returned (.float .f64 z) ∧ nanB .f64 z = true ∧ ∃ n, w' = w.drewN n := by
  go_enter Try.func91, Try.ntmps91
  go_wp2_with (with_reducible show wpList _ _ _ (⟨_, .binOp _ _ _ _ _, _, _, _, none⟩ :: _) _ _; refine at_flop (by decide) .f64 _ _ rfl rfl ?_; intro z1 n1 h1)
  go_ret
  exact ⟨z1, rfl, by rw [h1.nan, nan00]; exact nanB_qnan _, _, rfl⟩

set_option maxHeartbeats 1000000 in
theorem smoothed_any (y x part : Nat) (w : World) :
    Calls Try.prog 83 #[.float .f64 y, .float .f64 x, .float .f64 part] w fun e w' => ∃ z, e = .returned (.float .f64 z) ∧ Alike .f64 z (smStep part y x) ∧ ∃ n, w' = w.drewN n := by
  go_enter Try.func83, Try.ntmps83
  go_wp2_with (with_reducible show wpList _ _ _ (⟨_, .binOp _ _ _ _ _, _, _, _, none⟩ :: _) _ _; refine at_flop (by decide) .f64 _ _ rfl rfl ?_; intro z1 n1 h1)
  go_ret
  refine ⟨z1, rfl, ?_, _, rfl⟩
  exact h1.trans (Alike.fl (.refl _ _) (Alike.trans (by assumption) (Alike.fl (by assumption) (.refl _ _))))

set_option maxRecDepth 20000 in
set_option maxHeartbeats 4000000 in
theorem implSmooth_any (ad : Option Addr) (len cap : Nat) (ps : List Nat) (part : Nat) (w : World) (hr : RowE 1 flC w ad len ps) :
    Calls Try.prog 44 #[.slice ad len cap, .float .f64 part] w fun e w' => ∃ v q, e = .returned (.tuple #[v, .bool (smB ps)]) ∧ OwnE 1 flC w' w.heap.size 46 v q ∧ AlikeF q (smR ps part) ∧ Below w.heap.size w w' := by
  have hz := hr.len_eq
  have hs := hr.small
  have HO := hide hr.open1
  have O0 := hide (ownE_none (K := 1) (cells := flC) (w := w) (w1 := w) (T := 46) (Nat.le_refl _))
  clear hr
  subst hz
  obtain ⟨i0, hii, hz0, hz1, hz2⟩ := info_parts infoFl
  by_cases hlen : ps.length ≤ 60
  · have HB : Hid (smB ps = true ∧ smR ps part = (List.range ps.length).map (fun k => smY ps part (k + 1))) := hide (by have h : smB ps = true := decide_eq_true hlen; exact ⟨h, if_pos h⟩)
    have e2 := run_frombits
    go_enter Try.func44, Try.ntmps44
    go_wp2
    go_loopw [6, 8, 7, 19] (fun out seen yv i wr => ∃ (k : Nat) (a : Option Addr) (c : Nat) (Z : List Nat) (y : Nat), k ≤ ps.length ∧ out = .slice a k c ∧ seen = .bool (smS ps k) ∧ yv = .float .f64 y ∧ i = .int .i64 k ∧ Z.length = k ∧ Alike .f64 y (smY ps part k) ∧ AlikeF Z ((List.range k).map fun k => smY ps part (k + 1)) ∧ OwnE 1 flC wr w.heap.size 46 (.slice a k c) Z ∧ Below w.heap.size w wr) (fun _ _ _ i _ => ps.length - (intOf i).toNat)
    case atStart => exact ⟨0, _, _, [], _, Nat.zero_le _, rfl, rfl, rfl, rfl, rfl, .refl _ _, ⟨rfl, fun _ => .refl _ _⟩, unhide O0, bel1 _⟩
    case round =>
      obtain ⟨k, a, c, Z, y, hk, rfl, rfl, rfl, rfl, hzl, hy, hal, hO, hbel⟩ := hrel
      have I0 : Hid (OwnE 1 flC wr w.heap.size 46 (.slice a k c) Z ∧ Below w.heap.size w wr) := hide ⟨hO, hbel⟩
      have HZL := hide hzl
      have HY := hide hy
      have HAL := hide hal
      by_cases hlt : k < ps.length
      · rcases (unhide HO) with ⟨h0, _⟩ | ⟨bb, off, rfl, _, hc⟩
        · omega
        have ca : w.cell? ⟨bb, off + k, none⟩ = some (.float .f64 (elAt ps k)) := hc k hlt
        have ca := (hbel.cell (block_lt_of_cell ca)).trans ca
        have hi1 : (k : Int) < (ps.length : Int) := by omega
        have hi0 : (0 : Int) ≤ (k : Int) := by omega
        clear hc hO hbel hzl hy hal O0
        cases na : nanB .f64 (elAt ps k) with
        | true =>
          have HS := hide (sm_nan part na)
          go_wp2_with fail
          refine (missing_any _ _).mono ?_
          rw [na]
          rintro e w' ⟨rfl, hw⟩
          subst w'
          obtain ⟨vs, hown, hvx⟩ := (unhide I0).1.own
          rw [unhide HZL] at hown hvx
          have hbA := bel1 (w := wr) (Obj.cells #[Value.float FloatKind.f64 y] 46)
          have hownA := ownsRow_below hown hbA
          have hnews := World.news_of_block (heap_alloc_new wr (Obj.cells #[Value.float FloatKind.f64 y] 46))
          have hsz := (unhide I0).2.size
          have HVX := hide hvx
          have HVL := hide (ownsRow_len hown)
          clear hown hvx
          go_wp2_with (at_builtin; refine wpList_append_lies _ rfl _ _ 71 rfl w.heap.size 46 i0 (.float .f64 0) 1 8 Try.underlying71 hii hz0 hz1 hz2 rfl (by decide) (.slice a k c) k vs rfl hownA ⟨wr.heap.size, 0, none⟩ 1 1 [.float .f64 y] rfl rfl hnews (by simp [Value.oneCell']) (by decide) (by unfold maxLen; omega) (by omega) (by simp; omega) _ rfl ?_; intro g' cap' w9 hown9 hgrow hat hlt9)
          have hrow : ∀ j, (Value.slice a k c).ownBlock = some j → w.heap.size ≤ j := fun j hj => ((unhide I0).1.lies j hj).1
          have hb9 := hide (((unhide I0).2.trans (hbA.mono hsz)).grown hgrow (by simp; omega) hrow)
          have hz9 := unhide HZL
          have NEW : Hid (OwnE 1 flC w9 w.heap.size 46 (.slice (some ⟨g', 0, none⟩) (k + 1) cap') (Z ++ [y])) := hide (ownE_app (by rw [hz9]; exact hown9) (by rw [hz9]; exact unhide HVL) (by rw [hz9]; exact unhide HVX) (one_cell _))
          have NAL := hide ((unhide HAL).push (show Alike .f64 y (smY ps part (k + 1)) from by rw [(unhide HS).2]; exact unhide HY))
          clear hown9 hgrow hat hlt9 hrow hz9
          go_roundw
          case rel => exact ⟨k + 1, some ⟨g', 0, none⟩, cap', Z ++ [y], y, by omega, rfl, by rw [(unhide HS).1], rfl, by go_num, by simp [unhide HZL], by rw [(unhide HS).2]; exact unhide HY, unhide NAL, unhide NEW, unhide hb9⟩
          case measure => simp [intOf]; omega
        | false =>
          have HS := hide (sm_num part na)
          cases hsn : smS ps k with
          | true =>
            go_wp2_with fail
            refine (missing_any _ _).mono ?_
            rw [na]
            rintro e w' ⟨rfl, hw⟩
            subst w'
            go_wp2_with fail
            refine (smoothed_any _ _ _ _).mono ?_
            rintro e w1 ⟨z1, rfl, h1, n1, hw1⟩
            have I1 : Hid (OwnE 1 flC w1 w.heap.size 46 (.slice a k c) Z ∧ Below w.heap.size w w1) := hide (by rw [hw1]; exact ⟨(unhide I0).1.drewN n1, (unhide I0).2.trans (bel0d' n1)⟩)
            have HT : Hid (Alike .f64 z1 (smY ps part (k + 1))) := hide (by
              rw [(unhide HS).2, if_pos hsn]
              exact h1.trans (smStep_alike (unhide HY)))
            clear hw1
            obtain ⟨vs, hown, hvx⟩ := (unhide I1).1.own
            rw [unhide HZL] at hown hvx
            have hbA := bel1 (w := w1) (Obj.cells #[Value.float FloatKind.f64 z1] 46)
            have hownA := ownsRow_below hown hbA
            have hnews := World.news_of_block (heap_alloc_new w1 (Obj.cells #[Value.float FloatKind.f64 z1] 46))
            have hsz := (unhide I1).2.size
            have HVX := hide hvx
            have HVL := hide (ownsRow_len hown)
            clear hown hvx
            go_wp2_with (at_builtin; refine wpList_append_lies _ rfl _ _ 71 rfl w.heap.size 46 i0 (.float .f64 0) 1 8 Try.underlying71 hii hz0 hz1 hz2 rfl (by decide) (.slice a k c) k vs rfl hownA ⟨w1.heap.size, 0, none⟩ 1 1 [.float .f64 z1] rfl rfl hnews (by simp [Value.oneCell']) (by decide) (by unfold maxLen; omega) (by omega) (by simp; omega) _ rfl ?_; intro g' cap' w9 hown9 hgrow hat hlt9)
            have hrow : ∀ j, (Value.slice a k c).ownBlock = some j → w.heap.size ≤ j := fun j hj => ((unhide I1).1.lies j hj).1
            have hb9 := hide (((unhide I1).2.trans (hbA.mono hsz)).grown hgrow (by simp; omega) hrow)
            have hz9 := unhide HZL
            have NEW : Hid (OwnE 1 flC w9 w.heap.size 46 (.slice (some ⟨g', 0, none⟩) (k + 1) cap') (Z ++ [z1])) := hide (ownE_app (by rw [hz9]; exact hown9) (by rw [hz9]; exact unhide HVL) (by rw [hz9]; exact unhide HVX) (one_cell _))
            have NAL := hide ((unhide HAL).push (show Alike .f64 z1 (smY ps part (k + 1)) from unhide HT))
            clear hown9 hgrow hat hlt9 hrow hz9
            go_roundw
            case rel => exact ⟨k + 1, some ⟨g', 0, none⟩, cap', Z ++ [z1], z1, by omega, rfl, by rw [(unhide HS).1], rfl, by go_num, by simp [unhide HZL], unhide HT, unhide NAL, unhide NEW, unhide hb9⟩
            case measure => simp [intOf]; omega
          | false =>
            go_wp2_with fail
            refine (missing_any _ _).mono ?_
            rw [na]
            rintro e w' ⟨rfl, hw⟩
            subst w'
            go_wp2_with fail
            refine (smoothed_any _ _ _ _).mono ?_
            rintro e w1 ⟨z1, rfl, h1, n1, hw1⟩
            have I1 : Hid (OwnE 1 flC w1 w.heap.size 46 (.slice a k c) Z ∧ Below w.heap.size w w1) := hide (by rw [hw1]; exact ⟨(unhide I0).1.drewN n1, (unhide I0).2.trans (bel0d' n1)⟩)
            have HT : Hid (Alike .f64 z1 (smY ps part (k + 1))) := hide (by
              rw [(unhide HS).2, if_neg (by rw [hsn]; simp)]
              exact h1)
            clear hw1
            obtain ⟨vs, hown, hvx⟩ := (unhide I1).1.own
            rw [unhide HZL] at hown hvx
            have hbA := bel1 (w := w1) (Obj.cells #[Value.float FloatKind.f64 z1] 46)
            have hownA := ownsRow_below hown hbA
            have hnews := World.news_of_block (heap_alloc_new w1 (Obj.cells #[Value.float FloatKind.f64 z1] 46))
            have hsz := (unhide I1).2.size
            have HVX := hide hvx
            have HVL := hide (ownsRow_len hown)
            clear hown hvx
            go_wp2_with (at_builtin; refine wpList_append_lies _ rfl _ _ 71 rfl w.heap.size 46 i0 (.float .f64 0) 1 8 Try.underlying71 hii hz0 hz1 hz2 rfl (by decide) (.slice a k c) k vs rfl hownA ⟨w1.heap.size, 0, none⟩ 1 1 [.float .f64 z1] rfl rfl hnews (by simp [Value.oneCell']) (by decide) (by unfold maxLen; omega) (by omega) (by simp; omega) _ rfl ?_; intro g' cap' w9 hown9 hgrow hat hlt9)
            have hrow : ∀ j, (Value.slice a k c).ownBlock = some j → w.heap.size ≤ j := fun j hj => ((unhide I1).1.lies j hj).1
            have hb9 := hide (((unhide I1).2.trans (hbA.mono hsz)).grown hgrow (by simp; omega) hrow)
            have hz9 := unhide HZL
            have NEW : Hid (OwnE 1 flC w9 w.heap.size 46 (.slice (some ⟨g', 0, none⟩) (k + 1) cap') (Z ++ [z1])) := hide (ownE_app (by rw [hz9]; exact hown9) (by rw [hz9]; exact unhide HVL) (by rw [hz9]; exact unhide HVX) (one_cell _))
            have NAL := hide ((unhide HAL).push (show Alike .f64 z1 (smY ps part (k + 1)) from unhide HT))
            clear hown9 hgrow hat hlt9 hrow hz9
            go_roundw
            case rel => exact ⟨k + 1, some ⟨g', 0, none⟩, cap', Z ++ [z1], z1, by omega, rfl, by rw [(unhide HS).1], rfl, by go_num, by simp [unhide HZL], unhide HT, unhide NAL, unhide NEW, unhide hb9⟩
            case measure => simp [intOf]; omega
      · obtain rfl : k = ps.length := by omega
        clear hO hbel hzl hy hal O0
        go_wp2
        go_ret2
        exact ⟨_, Z, by rw [(unhide HB).1]; rfl, (unhide I0).1, by rw [(unhide HB).2]; exact unhide HAL, (unhide I0).2⟩
  · have HB : Hid (smB ps = false ∧ smR ps part = []) := hide (by have h : smB ps = false := decide_eq_false hlen; exact ⟨h, if_neg (by rw [h]; simp)⟩)
    go_enter Try.func44, Try.ntmps44
    go_wp2
    go_ret2
    exact ⟨_, [], by rw [(unhide HB).1]; rfl, unhide O0, by rw [(unhide HB).2]; exact ⟨rfl, fun _ => .refl _ _⟩, bel1 _⟩

end Go.Proofs.Ytgihdklgmndeeab

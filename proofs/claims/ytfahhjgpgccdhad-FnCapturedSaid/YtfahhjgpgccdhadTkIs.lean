/-
  What Ticks answers in the model and in the program: the plain list and flag; the list owns its memory. At every pilot and list of drifts; nothing that was there is written.
-/
import Derived.Test.YtfahhjgpgccdhadRowPl
import Derived.Test.YtfahhjgpgccdhadTkPure
import Derived.Test.YtfahhjgpgccdhadApTickS
import Derived.Test.YtfahhjgpgccdhadApTickI
import Derived.Deep.AppendLies
import Derived.Deep.RegionLaw
import Derived.Deep.CutRange
namespace Go.Proofs.Ytfahhjgpgccdhad
open Go.RowKit

theorem op_storeAgg {t ty : TypeId} {s x : Operand} {pos : String} {af : Array Edge} {a : Act} {K : Act → World → Prop} {E : Exit → Act → World → Prop} {w : World} {B : Nat} {us vs : List Value}
    (hZ : ∀ w, (Go.sizeOf t).run Try.prog w = .ok vs.length w) (hs : a.eval s = .pointer (some ⟨B, 0, none⟩)) (hx : a.eval x = .agg vs.toArray) (hb : Blk w B us) (hl : us.length = vs.length) (h1 : ∀ v ∈ vs, v.oneCell' = true)
    (hK : ∀ w2, Blk w2 B vs → w.grownBy w2 (some B) → K a w2) : Oper.wp Try.prog ⟨none, .store t s x, ty, pos, af, none⟩ a w K E := by
  have hr := run_storeVar hZ hl h1 hb
  have h2 := hb.setCells hl
  unfold Oper.wp
  simp [execOp, hs, hx, Instr.storeAt, Instr.sureAddr, hr, Result.andThen]
  exact hK _ h2.1 h2.2
theorem step_storeAgg {ops : Array Oper} {t ty : TypeId} {s x : Operand} {pos : String} {af : Array Edge} {a : Act} {K : Act → World → Prop} {Q : Exit → Act → World → Prop} {E : Prop} {w : World} {B : Nat} {us vs : List Value}
    (hZ : ∀ w, (Go.sizeOf t).run Try.prog w = .ok vs.length w) (hs : a.eval s = .pointer (some ⟨B, 0, none⟩)) (hx : a.eval x = .agg vs.toArray) (hb : Blk w B us) (hl : us.length = vs.length) (h1 : ∀ v ∈ vs, v.oneCell' = true)
    (hK : ∀ w2, Blk w2 B vs → w.grownBy w2 (some B) → K a w2) : if Region.wanted ⟨none, .store t s x, ty, pos, af, none⟩ (yielded ops a.tmps) = true then Oper.wp Try.prog ⟨none, .store t s x, ty, pos, af, none⟩ a w K Q else E := by
  rw [if_pos (by simp [Region.wanted])]
  exact op_storeAgg hZ hs hx hb hl h1 hK
theorem rowLen9 {w : World} {base : Nat} {e : TypeId} {size : Nat} {v : Value} {n : Nat} {xs : List Value} (h : w.ownsRow base e size v n xs) : xs.length = n * size := h.1
theorem nine_cells (q : Pl) : ∀ i, i < 9 → [Value.int .i64 q.a0, .int .i64 q.a1, .int .i64 q.a2, .int .i64 q.a3, .int .i64 q.a4, .int .i64 q.a5, .int .i64 q.a6, .int .i64 q.a7, .bool q.a8][i]? = some (plC q i) := fun i hi => by
  rcases (show i = 0 ∨ i = 1 ∨ i = 2 ∨ i = 3 ∨ i = 4 ∨ i = 5 ∨ i = 6 ∨ i = 7 ∨ i = 8 from by omega) with rfl | rfl | rfl | rfl | rfl | rfl | rfl | rfl | rfl <;> rfl

/-- Behind k ticks: the pilot in its block, the list that grows. -/
structure TkIn (w wr : World) (p : Pl) (zs : List Int) (k : Nat) (a : Option Addr) (c : Nat) : Prop where
  blk : Blk wr w.heap.size [.int .i64 (tkP p zs k).a0, .int .i64 (tkP p zs k).a1, .int .i64 (tkP p zs k).a2, .int .i64 (tkP p zs k).a3, .int .i64 (tkP p zs k).a4, .int .i64 (tkP p zs k).a5, .int .i64 (tkP p zs k).a6, .int .i64 (tkP p zs k).a7, .bool (tkP p zs k).a8]
  own : OwnE 9 plC wr (w.heap.size + 1) 64 (.slice a k c) (tkL p zs k)
  bel : Below w.heap.size w wr

theorem implTick_pl {q : Pl} (p : Pl) (d : Int) (w : World) (hq : tickP p d = q) :
    Calls Try.prog 31 #[.agg #[.int .i64 p.a0, .int .i64 p.a1, .int .i64 p.a2, .int .i64 p.a3, .int .i64 p.a4, .int .i64 p.a5, .int .i64 p.a6, .int .i64 p.a7, .bool p.a8], .int .i64 d] w fun e w' => e = .returned (.tuple #[.agg #[.int .i64 q.a0, .int .i64 q.a1, .int .i64 q.a2, .int .i64 q.a3, .int .i64 q.a4, .int .i64 q.a5, .int .i64 q.a6, .int .i64 q.a7, .bool q.a8], .bool (okT p d)]) ∧ Below w.heap.size w w' := by
  subst hq; exact implPilotTick_any p.a0 p.a1 p.a2 p.a3 p.a4 p.a5 p.a6 p.a7 p.a8 d w

set_option maxRecDepth 20000 in
set_option maxHeartbeats 4000000 in
theorem implTicks_any (v l g t r a b o : Int) (m : Bool) (ad : Option Addr) (len cap : Nat) (zs : List Int) (w : World) (hr : Row w ad len zs) :
    Calls Try.prog 29 #[.agg #[.int .i64 v, .int .i64 l, .int .i64 g, .int .i64 t, .int .i64 r, .int .i64 a, .int .i64 b, .int .i64 o, .bool m], .slice ad len cap] w fun e w' => ∃ a1 c1, e = .returned (.tuple #[.slice a1 (tkR ⟨v, l, g, t, r, a, b, o, m⟩ zs).length c1, .bool (tkB ⟨v, l, g, t, r, a, b, o, m⟩ zs)]) ∧ OwnE 9 plC w' w.heap.size 64 (.slice a1 (tkR ⟨v, l, g, t, r, a, b, o, m⟩ zs).length c1) (tkR ⟨v, l, g, t, r, a, b, o, m⟩ zs) ∧ Below w.heap.size w w' := by
  have hz := hr.len_eq
  have hs := hr.small
  have HR := hide hr
  have HO := hide hr.open_
  clear hr
  subst hz
  obtain ⟨i0, hii, hz0, hz1, hz2⟩ := info_parts infoPl
  cases hk : apOk ⟨v, l, g, t, r, a, b, o, m⟩
  · have hA : allB zs (-100) 100 = allB zs (-100) 100 := rfl
    have HB : Hid (tkB ⟨v, l, g, t, r, a, b, o, m⟩ zs = false) := hide (by simp [tkB, hk])
    have HRr : Hid (tkR ⟨v, l, g, t, r, a, b, o, m⟩ zs = []) := hide (by simp [tkR, unhide HB])
    rw [unhide HB, unhide HRr]
    clear HB HRr
    go_enter Try.func29, Try.ntmps29
    go_wp2_with (first | (go_at_call 28; refine (implPilotOk_is _ _ _ _ _ _ _ _ _ _ hk).mono ?_; rintro e w1 ⟨rfl, hw⟩; subst w1) | (go_at_call 34; refine (allWithin_any _ _ _ _ _ _ _ (((unhide HR).alloc _).alloc _)).mono ?_; rintro e w1 ⟨rfl, nq, hw⟩; subst w1; rw [hA]))
    go_ret2
    refine ⟨_, _, rfl, ?_, ?_⟩
    · first | (simpa using (ownE_none (K := 9) (cells := plC) (w := w) (w1 := (w.alloc (Obj.cells #[.int .i64 v, .int .i64 l, .int .i64 g, .int .i64 t, .int .i64 r, .int .i64 a, .int .i64 b, .int .i64 o, .bool m] 64)).alloc (Obj.cells #[.int .i64 v, .int .i64 l, .int .i64 g, .int .i64 t, .int .i64 r, .int .i64 a, .int .i64 b, .int .i64 o, .bool m] 64)) (T := 64) (by simp; omega))) | (simpa using (ownE_none (K := 9) (cells := plC) (w := w) (w1 := ((w.alloc (Obj.cells #[.int .i64 v, .int .i64 l, .int .i64 g, .int .i64 t, .int .i64 r, .int .i64 a, .int .i64 b, .int .i64 o, .bool m] 64)).alloc (Obj.cells #[.int .i64 v, .int .i64 l, .int .i64 g, .int .i64 t, .int .i64 r, .int .i64 a, .int .i64 b, .int .i64 o, .bool m] 64)).drewN nq) (T := 64) (by simp; omega)))
    · repeat (first | exact Below.refl _ _ | refine Below.trans ?_ (bel0d' _) | refine Below.alloc ?_ (by simp; try omega) _)
  by_cases hl : (300 : Int) < (zs.length : Int)
  · have hA : allB zs (-100) 100 = allB zs (-100) 100 := rfl
    have HB : Hid (tkB ⟨v, l, g, t, r, a, b, o, m⟩ zs = false) := hide (by simp [tkB, hk, hl])
    have HRr : Hid (tkR ⟨v, l, g, t, r, a, b, o, m⟩ zs = []) := hide (by simp [tkR, unhide HB])
    rw [unhide HB, unhide HRr]
    clear HB HRr
    go_enter Try.func29, Try.ntmps29
    go_wp2_with (first | (go_at_call 28; refine (implPilotOk_is _ _ _ _ _ _ _ _ _ _ hk).mono ?_; rintro e w1 ⟨rfl, hw⟩; subst w1) | (go_at_call 34; refine (allWithin_any _ _ _ _ _ _ _ (((unhide HR).alloc _).alloc _)).mono ?_; rintro e w1 ⟨rfl, nq, hw⟩; subst w1; rw [hA]))
    go_ret2
    refine ⟨_, _, rfl, ?_, ?_⟩
    · first | (simpa using (ownE_none (K := 9) (cells := plC) (w := w) (w1 := (w.alloc (Obj.cells #[.int .i64 v, .int .i64 l, .int .i64 g, .int .i64 t, .int .i64 r, .int .i64 a, .int .i64 b, .int .i64 o, .bool m] 64)).alloc (Obj.cells #[.int .i64 v, .int .i64 l, .int .i64 g, .int .i64 t, .int .i64 r, .int .i64 a, .int .i64 b, .int .i64 o, .bool m] 64)) (T := 64) (by simp; omega))) | (simpa using (ownE_none (K := 9) (cells := plC) (w := w) (w1 := ((w.alloc (Obj.cells #[.int .i64 v, .int .i64 l, .int .i64 g, .int .i64 t, .int .i64 r, .int .i64 a, .int .i64 b, .int .i64 o, .bool m] 64)).alloc (Obj.cells #[.int .i64 v, .int .i64 l, .int .i64 g, .int .i64 t, .int .i64 r, .int .i64 a, .int .i64 b, .int .i64 o, .bool m] 64)).drewN nq) (T := 64) (by simp; omega)))
    · repeat (first | exact Below.refl _ _ | refine Below.trans ?_ (bel0d' _) | refine Below.alloc ?_ (by simp; try omega) _)
  cases hA : allB zs (-100) 100
  · have HB : Hid (tkB ⟨v, l, g, t, r, a, b, o, m⟩ zs = false) := hide (by simp [tkB, hA])
    have HRr : Hid (tkR ⟨v, l, g, t, r, a, b, o, m⟩ zs = []) := hide (by simp [tkR, unhide HB])
    rw [unhide HB, unhide HRr]
    clear HB HRr
    go_enter Try.func29, Try.ntmps29
    go_wp2_with (first | (go_at_call 28; refine (implPilotOk_is _ _ _ _ _ _ _ _ _ _ hk).mono ?_; rintro e w1 ⟨rfl, hw⟩; subst w1) | (go_at_call 34; refine (allWithin_any _ _ _ _ _ _ _ (((unhide HR).alloc _).alloc _)).mono ?_; rintro e w1 ⟨rfl, nq, hw⟩; subst w1; rw [hA]))
    go_ret2
    refine ⟨_, _, rfl, ?_, ?_⟩
    · first | (simpa using (ownE_none (K := 9) (cells := plC) (w := w) (w1 := (w.alloc (Obj.cells #[.int .i64 v, .int .i64 l, .int .i64 g, .int .i64 t, .int .i64 r, .int .i64 a, .int .i64 b, .int .i64 o, .bool m] 64)).alloc (Obj.cells #[.int .i64 v, .int .i64 l, .int .i64 g, .int .i64 t, .int .i64 r, .int .i64 a, .int .i64 b, .int .i64 o, .bool m] 64)) (T := 64) (by simp; omega))) | (simpa using (ownE_none (K := 9) (cells := plC) (w := w) (w1 := ((w.alloc (Obj.cells #[.int .i64 v, .int .i64 l, .int .i64 g, .int .i64 t, .int .i64 r, .int .i64 a, .int .i64 b, .int .i64 o, .bool m] 64)).alloc (Obj.cells #[.int .i64 v, .int .i64 l, .int .i64 g, .int .i64 t, .int .i64 r, .int .i64 a, .int .i64 b, .int .i64 o, .bool m] 64)).drewN nq) (T := 64) (by simp; omega)))
    · repeat (first | exact Below.refl _ _ | refine Below.trans ?_ (bel0d' _) | refine Below.alloc ?_ (by simp; try omega) _)
  have HB : Hid (tkB ⟨v, l, g, t, r, a, b, o, m⟩ zs = true) := hide (by simp [tkB, hk, hA]; omega)
  have HRr : Hid (tkR ⟨v, l, g, t, r, a, b, o, m⟩ zs = tkL ⟨v, l, g, t, r, a, b, o, m⟩ zs zs.length) := hide (by simp [tkR, unhide HB])
  rw [unhide HB, unhide HRr, tkL_len]
  clear HB HRr
  go_enter Try.func29, Try.ntmps29
  go_wp2_with (first | (go_at_call 28; refine (implPilotOk_is _ _ _ _ _ _ _ _ _ _ hk).mono ?_; rintro e w1 ⟨rfl, hw⟩; subst w1) | (go_at_call 34; refine (allWithin_any _ _ _ _ _ _ _ (((unhide HR).alloc _).alloc _)).mono ?_; rintro e w1 ⟨rfl, nq, hw⟩; subst w1; rw [hA]))
  go_loopw [6, 26] (fun out i wr => ∃ (k : Nat) (a' : Option Addr) (c : Nat), k ≤ zs.length ∧ out = .slice a' k c ∧ i = .int .i64 k ∧ TkIn w wr ⟨v, l, g, t, r, a, b, o, m⟩ zs k a' c) (fun _ i _ => zs.length - (intOf i).toNat)
  case atStart =>
    refine ⟨0, _, _, Nat.zero_le _, rfl, rfl, ⟨?_, ?_, ?_⟩⟩
    · first | exact ((Blk.new _ _).alloc _) | exact (((Blk.new _ _).alloc _).alloc _).drewN _ | exact ((((Blk.new _ _).alloc _).drewN _).alloc _) | (refine Blk.drewN ?_ _; exact ((Blk.new _ _).alloc _).alloc _)
    · rw [show tkL ⟨v, l, g, t, r, a, b, o, m⟩ zs 0 = [] from rfl]
      simpa using (ownE_none (K := 9) (cells := plC) (w := w.alloc (Obj.cells #[.int .i64 v, .int .i64 l, .int .i64 g, .int .i64 t, .int .i64 r, .int .i64 a, .int .i64 b, .int .i64 o, .bool m] 64)) (w1 := ((w.alloc (Obj.cells #[.int .i64 v, .int .i64 l, .int .i64 g, .int .i64 t, .int .i64 r, .int .i64 a, .int .i64 b, .int .i64 o, .bool m] 64)).alloc (Obj.cells #[.int .i64 v, .int .i64 l, .int .i64 g, .int .i64 t, .int .i64 r, .int .i64 a, .int .i64 b, .int .i64 o, .bool m] 64)).drewN nq) (T := 64) (by simp))
    · repeat (first | exact Below.refl _ _ | refine Below.trans ?_ (bel0d' _) | refine Below.alloc ?_ (by simp; try omega) _)
  case round =>
    obtain ⟨k, sa, c, hkk, rfl, rfl, hin⟩ := hrel
    clear hk hA
    by_cases hlt : k < zs.length
    · rcases (unhide HO) with ⟨h0, _⟩ | ⟨bb, off, rfl, _, hc⟩
      · omega
      have cd : w.cell? ⟨bb, off + k, none⟩ = some (.int .i64 (nth zs k)) := hc k hlt
      have cdl := block_lt_of_cell cd
      have cd := (hin.bel.cell cdl).trans cd
      obtain ⟨x, hx⟩ : ∃ x, tkP ⟨v, l, g, t, r, a, b, o, m⟩ zs k = x := ⟨_, rfl⟩
      obtain ⟨d, hd⟩ : ∃ d, nth zs k = d := ⟨_, rfl⟩
      obtain ⟨q, hq⟩ : ∃ q, tickP x d = q := ⟨_, rfl⟩
      have HX := hide hx
      have HQ : Hid (tickP x (nth zs k) = q) := hide (by rw [hd]; exact hq)
      have HQD := hide hq
      rw [hd] at cd
      have hblk := hin.blk
      rw [hx] at hblk
      have HBK := hide hblk
      have HOW := hide hin.own
      have HBE := hide hin.bel
      have hi1 : (k : Int) < (zs.length : Int) := by omega
      have hi0 : (0 : Int) ≤ (k : Int) := by omega
      clear hc hx hd hq hblk hin
      go_wp2_with ((with_reducible show wpList _ _ _ (⟨_, .load 64 _, _, _, _, none⟩ :: _) _ _); refine at_loadAgg (vs := [.int .i64 x.a0, .int .i64 x.a1, .int .i64 x.a2, .int .i64 x.a3, .int .i64 x.a4, .int .i64 x.a5, .int .i64 x.a6, .int .i64 x.a7, .bool x.a8]) Try.isAgg64 Try.sizeOf64 rfl (unhide HBK) ?_)
      refine (implTick_pl x d _ (unhide HQD)).mono ?_
      rintro e w3 ⟨rfl, b3⟩
      have BW : Hid (Blk w3 w.heap.size [.int .i64 x.a0, .int .i64 x.a1, .int .i64 x.a2, .int .i64 x.a3, .int .i64 x.a4, .int .i64 x.a5, .int .i64 x.a6, .int .i64 x.a7, .bool x.a8]) := hide ((unhide HBK).below b3)
      have OW : Hid (OwnE 9 plC w3 (w.heap.size + 1) 64 (.slice sa k c) (tkL ⟨v, l, g, t, r, a, b, o, m⟩ zs k)) := hide ((unhide HOW).below b3)
      have EW : Hid (Below w.heap.size w w3) := hide ((unhide HBE).trans (b3.mono (unhide HBE).size))
      clear b3
      go_wp2_with (first
        | ((with_reducible show wpList _ _ _ (⟨none, .store 64 _ _, _, _, _, none⟩ :: _) _ _); refine at_storeAgg (us := [.int .i64 x.a0, .int .i64 x.a1, .int .i64 x.a2, .int .i64 x.a3, .int .i64 x.a4, .int .i64 x.a5, .int .i64 x.a6, .int .i64 x.a7, .bool x.a8]) (vs := [.int .i64 q.a0, .int .i64 q.a1, .int .i64 q.a2, .int .i64 q.a3, .int .i64 q.a4, .int .i64 q.a5, .int .i64 q.a6, .int .i64 q.a7, .bool q.a8]) Try.sizeOf64 rfl rfl (unhide BW) rfl (by simp [Value.oneCell']) ?_; intro U kk gg; have OU : Hid (OwnE 9 plC U (w.heap.size + 1) 64 (.slice sa k c) (tkL ⟨v, l, g, t, r, a, b, o, m⟩ zs k)) := hide ((unhide OW).far gg (fun y hy e => by have := (unhide OW).lies y hy; simp at e; omega)); have EU : Hid (Below w.heap.size w U) := hide ((unhide EW).grown gg (unhide EW).size (fun y hy => by cases hy; simp)); obtain ⟨vs, hown, hvx⟩ := (unhide OU).own; rw [tkL_len] at hown hvx; have HVX := hide hvx; have HVL := hide (rowLen9 hown); have hbA := bel1 (w := U) (Obj.cells #[.int .i64 q.a0, .int .i64 q.a1, .int .i64 q.a2, .int .i64 q.a3, .int .i64 q.a4, .int .i64 q.a5, .int .i64 q.a6, .int .i64 q.a7, .bool q.a8] 64); have hownA := ownsRow_below hown hbA; have hnews := World.news_of_block (heap_alloc_new U (Obj.cells #[.int .i64 q.a0, .int .i64 q.a1, .int .i64 q.a2, .int .i64 q.a3, .int .i64 q.a4, .int .i64 q.a5, .int .i64 q.a6, .int .i64 q.a7, .bool q.a8] 64)); have HBA := hide hbA; have sU : w.heap.size < U.heap.size := kk.lt; have BU := hide kk; clear hown hvx hbA kk gg)
        | ((with_reducible show wpList _ _ _ (⟨_, .load 64 _, _, _, _, none⟩ :: _) _ _); refine at_loadAgg (vs := [.int .i64 q.a0, .int .i64 q.a1, .int .i64 q.a2, .int .i64 q.a3, .int .i64 q.a4, .int .i64 q.a5, .int .i64 q.a6, .int .i64 q.a7, .bool q.a8]) Try.isAgg64 Try.sizeOf64 rfl (unhide BU) ?_)
        | (at_builtin; refine wpList_append_lies _ rfl _ _ 68 rfl (w.heap.size + 1) 64 i0 (.agg #[.int .i64 0, .int .i64 0, .int .i64 0, .int .i64 0, .int .i64 0, .int .i64 0, .int .i64 0, .int .i64 0, .bool false]) 9 72 Try.underlying68 hii hz0 hz1 hz2 rfl (by decide) (.slice sa k c) k vs rfl hownA ⟨U.heap.size, 0, none⟩ 1 1 [.int .i64 q.a0, .int .i64 q.a1, .int .i64 q.a2, .int .i64 q.a3, .int .i64 q.a4, .int .i64 q.a5, .int .i64 q.a6, .int .i64 q.a7, .bool q.a8] rfl rfl hnews (by simp [Value.oneCell']) (by decide) (by unfold maxLen; omega) (by omega) (by simp; omega) _ rfl ?_; intro g' cap' w9 hown9 hgrow hat hlt9))
      have hlies := (unhide OU).lies
      have hal9 : Below w.heap.size w w9 := ((unhide EU).trans ((unhide HBA).mono (by omega))).grown hgrow (by simp; omega) (fun j hj => by have := hlies j hj; omega)
      have NB : Hid (Blk w9 w.heap.size [.int .i64 q.a0, .int .i64 q.a1, .int .i64 q.a2, .int .i64 q.a3, .int .i64 q.a4, .int .i64 q.a5, .int .i64 q.a6, .int .i64 q.a7, .bool q.a8]) := hide (((unhide BU).alloc _).apart hgrow (fun e => by have := hlies _ e.symm; omega))
      have NO : Hid (OwnE 9 plC w9 (w.heap.size + 1) 64 (.slice (some ⟨g', 0, none⟩) (k + 1) cap') (tkL ⟨v, l, g, t, r, a, b, o, m⟩ zs k ++ [q])) := hide (ownE_app (by rw [tkL_len]; exact hown9) (by rw [tkL_len]; exact unhide HVL) (by rw [tkL_len]; exact unhide HVX) (nine_cells q))
      have NEW : Hid (TkIn w w9 ⟨v, l, g, t, r, a, b, o, m⟩ zs (k + 1) (some ⟨g', 0, none⟩) cap') := hide (by
        have e1 : tkP ⟨v, l, g, t, r, a, b, o, m⟩ zs (k + 1) = q := by rw [tkP, unhide HX, unhide HQ]
        refine ⟨?_, ?_, hal9⟩
        · rw [e1]; exact unhide NB
        · rw [tkL, e1]; exact unhide NO)
      clear hown9 hgrow hat hlt9 hlies hal9 NB NO
      go_wp2_with fail
      go_roundw
      case rel => exact ⟨k + 1, some ⟨g', 0, none⟩, cap', by omega, rfl, by go_num, unhide NEW⟩
      case measure => simp [intOf]; omega
    · obtain rfl : k = zs.length := by omega
      have HIN := hide hin
      clear hin
      go_wp2_with fail
      go_ret2
      exact ⟨_, _, rfl, (unhide HIN).own.mono (by omega), (unhide HIN).bel⟩

end Go.Proofs.Ytfahhjgpgccdhad

/-
  Carries as they are drawn: a list of its own, names that rise. At every cursor; nothing that was there is written but the cursor.
-/
import Derived.Test.YtfnnfldfnjnlfagMFgPure
import Derived.Test.YtfnnfldfnjnlfagTxCr
import Derived.Deep.RegionLaw
namespace Go.Proofs.Ytfnnfldfnjnlfag
open Go Go.RowKit

structure Ca (w : World) (C gn : Nat) (a : Option Addr) (len cap : Nat) (W0 W : World) (g n c : Nat) (cs : List Cr) : Prop where
  kk : Dk w C a len cap W0 W
  nb : Blk W gn (nmC.map Value.string)
  o : OwnE 3 crC W W0.heap.size 54 (.slice (some ⟨g, 0, none⟩) n c) cs
  l : cs.length = n
  f : g ≠ gn
  g0 : W0.heap.size ≤ gn
theorem Ca.below {w : World} {C gn : Nat} {a : Option Addr} {len cap : Nat} {W0 W W' : World} {g n c : Nat} {cs : List Cr} (h : Ca w C gn a len cap W0 W g n c cs) (b : Below W.heap.size W W') : Ca w C gn a len cap W0 W' g n c cs := ⟨h.kk.below b, h.nb.below b, h.o.below b, h.l, h.f, h.g0⟩
theorem Ca.call {w : World} {C gn : Nat} {a : Option Addr} {len cap : Nat} {W0 W W' : World} {g n c : Nat} {cs : List Cr} (h : Ca w C gn a len cap W0 W g n c cs) (gr : W.grownBy W' (some C)) (d : Dr w C a len cap W') : Ca w C gn a len cap W0 W' g n c cs := by
  have g0 := h.g0
  have lo := h.kk.lo
  exact ⟨h.kk.call gr d, h.nb.apart gr (fun e => by have := Option.some.inj e; omega), h.o.far gr (fun q hq e => by have := Option.some.inj e; have := (h.o.lies q hq).1; omega), h.l, h.f, h.g0⟩
theorem Ca.push {w : World} {C gn : Nat} {a : Option Addr} {len cap : Nat} {W0 W W' : World} {g n c g9 c9 : Nat} {cs : List Cr} {x : Cr} (h : Ca w C gn a len cap W0 W g n c cs) (o : OwnE 3 crC W' W0.heap.size 54 (.slice (some ⟨g9, 0, none⟩) (n + 1) c9) (cs ++ [x])) (gr : W.grownBy W' (Value.slice (some ⟨g, 0, none⟩) n c).ownBlock) (hat : (Value.slice (some ⟨g, 0, none⟩) n c).ownBlock = some g9 ∨ W.heap.size < g9) : Ca w C gn a len cap W0 W' g9 (n + 1) c9 (cs ++ [x]) := by
  have gr2 : W.grownBy W' (some g) := gr
  have lN := h.nb.lt
  have hf := h.f
  have hl := (h.o.lies g rfl).1
  refine ⟨h.kk.row gr2 (fun q hq => by have e : g = q := Option.some.inj hq; omega), h.nb.apart gr2 (fun e => hf (Option.some.inj e).symm), o, by simp [h.l], ?_, h.g0⟩
  rcases hat with e | e
  · have e : g = g9 := Option.some.inj e
    omega
  · omega
/-- What l19DrawCarries answers. -/
def CaE (w : World) (C : Nat) (a : Option Addr) (len cap : Nat) (W : World) (e : Ending) (w' : World) : Prop := ∃ (g n c : Nat) (cs : List Cr), e = .returned (.slice (some ⟨g, 0, none⟩) n c) ∧ OwnE 3 crC w' W.heap.size 54 (.slice (some ⟨g, 0, none⟩) n c) cs ∧ (cs.length = n ∧ CaI cs 4) ∧ Dr w C a len cap w' ∧ W.grownBy w' (some C)
set_option maxRecDepth 20000 in
set_option maxHeartbeats 4000000 in
theorem drCarries {w : World} {C : Nat} {a : Option Addr} {len cap : Nat} (W : World) (h : Dr w C a len cap W) (hin : ∀ b off, a = some ⟨b, off, none⟩ → b < w.heap.size) :
    Calls Try.prog 77 #[.pointer (some ⟨C, 0, none⟩)] W fun e w' => CaE w C a len cap W e w' := by
  obtain ⟨V0, hV0⟩ : ∃ V, V = (W.alloc (Obj.cells #[] 54)).alloc (Obj.cells #[.string ⟨#[98, 101, 108, 116]⟩, .string ⟨#[108, 97, 109, 112]⟩, .string ⟨#[114, 97, 100, 105, 111]⟩, .string ⟨#[115, 101, 97, 116]⟩] 9) := ⟨_, rfl⟩
  have b0 : Below W.heap.size W V0 := by rw [hV0]; exact bel2 _ _
  have S0 : Hid (Ca w C (W.heap.size + 1) a len cap W V0 W.heap.size 0 0 []) := hide ⟨(Dk.start h hin).below b0, by rw [hV0]; have k := Blk.new (w := W.alloc (Obj.cells #[] 54)) (nmC.map Value.string) 9; rw [show (W.alloc (Obj.cells #[] 54)).heap.size = W.heap.size + 1 by simp] at k; exact k, by rw [hV0]; exact (ownE_none (K := 3) (cells := crC) (w := W) (w1 := W) (T := 54) (Nat.le_refl _)).below (bel1 _), rfl, by omega, by omega⟩
  have HW := hide hV0
  clear hV0 b0 h hin
  go_enter Try.func77, Try.ntmps77
  go_upto_region 3 with fail
  rw [← unhide HW]
  clear HW
  go_wp2_with fail
  go_loopw [3, 5] (fun o i wr => ∃ (k g n c : Nat) (cs : List Cr), o = .slice (some ⟨g, 0, none⟩) n c ∧ i = .int .i64 k ∧ k ≤ 4 ∧ Hid (CaI cs k) ∧ Hid (Ca w C (W.heap.size + 1) a len cap W wr g n c cs)) (fun _ i _ => 4 - (intOf i).toNat)
  case atStart => exact ⟨0, _, _, _, [], rfl, rfl, by omega, hide CaI.nil, S0⟩
  case round =>
    clear S0
    obtain ⟨k, g, n, c, cs, rfl, rfl, hk, HI, HS⟩ := hrel
    by_cases hlt : k < 4
    · have i0 : (0 : Int) ≤ (k : Int) := by omega
      have i1 : (k : Int) < 4 := by omega
      go_wp2_with fail
      refine (drOnce 5 _ (unhide HS).kk.d (by omega)).mono ?_
      rintro e wb ⟨b, rfl, d, gr⟩
      have HS := hide ((unhide HS).call gr d)
      clear d gr
      cases b
      · obtain ⟨s, hs⟩ : ∃ s, elAt nmC k = s := ⟨_, rfl⟩
        have HSN := hide hs
        have NC : Hid (∀ V : World, Blk V (W.heap.size + 1) (nmC.map Value.string) → V.cell? ⟨W.heap.size + 1, k, none⟩ = some (.string s)) := hide (fun V hb => by
          rw [hb.c k (by simpa [nmC] using hlt), ← hs]
          simp [elAt, show k < nmC.length by simpa [nmC] using hlt])
        have n0 : wb.cell? ⟨W.heap.size + 1, k, none⟩ = some (.string s) := (unhide NC) _ (unhide HS).nb
        have hnn : n ≤ 4 := by have := (unhide HS).l; have := (unhide HI).len; omega
        have HIN := hide (unhide HS).kk.inn
        clear hs
        go_wp2_with fail
        go_region_law (first
          | ((fail_if_success have := D1); go_simp; go_wp2_with (go_at_call 31; refine (drBelow (w := w) (a := a) (len := len) (cap := cap) 4 _ (by first | exact (unhide HS).kk.d | exact ((unhide HS).below (bel0d 1)).kk.d) (by omega)).mono ?_; rintro e u1 ⟨x1, rfl, hx1, d, gr⟩; have D1 : Hid (Ca w C (W.heap.size + 1) a len cap W u1 g n c cs) := hide (Ca.call (by first | exact unhide HS | exact (unhide HS).below (bel0d 1)) gr d); have n1 : u1.cell? ⟨W.heap.size + 1, k, none⟩ = some (.string s) := (unhide NC) _ (unhide D1).nb; clear d gr))
          | ((fail_if_success (fail_if_success have := D1)); (fail_if_success have := D2); go_simp; go_wp2_with (go_at_call 31; refine (drBelow (w := w) (a := a) (len := len) (cap := cap) 60 _ (by first | exact (unhide D1).kk.d | exact ((unhide D1).below (bel0d 1)).kk.d) (by omega)).mono ?_; rintro e u2 ⟨x2, rfl, hx2, d, gr⟩; have D2 : Hid (Ca w C (W.heap.size + 1) a len cap W u2 g n c cs) := hide (Ca.call (by first | exact unhide D1 | exact (unhide D1).below (bel0d 1)) gr d); have n2 : u2.cell? ⟨W.heap.size + 1, k, none⟩ = some (.string s) := (unhide NC) _ (unhide D2).nb; clear d gr))
          | (refine step_app_elG (K := 3) (cells := crC) rfl (.tmp 17) (.tmp 27) 25 54 rfl Try.underlying25 infoCr rfl (by decide) (by decide) (⟨s, x1, x2⟩ : Cr) [.string s, .int .i64 x1, .int .i64 x2] rfl (fun q hq => by rcases (by omega : q = 0 ∨ q = 1 ∨ q = 2) with rfl | rfl | rfl <;> rfl) (by simp [Value.oneCell']) (unhide D2).o (unhide D2).l (by simp [Act.eval]) rfl (by simp [Act.eval]) (unhide D2).kk.g.size (by omega) ?_; intro g9 c9 w9 o9 gr9 at9))
        all_goals
          go_wp2_with fail
          go_roundw
          case rel => exact ⟨k + 1, g9, n + 1, c9, cs ++ [⟨s, x1, x2⟩], rfl, by go_num, by omega, hide (by have k := (unhide HI).push hlt hx1 hx2; rw [unhide HSN] at k; exact k), hide ((unhide D2).push o9 gr9 at9)⟩
          case measure => simp [intOf]; omega
      · go_wp2_with fail
        go_roundw
        case rel => exact ⟨k + 1, g, n, c, cs, rfl, by go_num, by omega, hide (unhide HI).skip, HS⟩
        case measure => simp [intOf]; omega
    · have i1 : ¬ (k : Int) < 4 := by omega
      have hk4 : k = 4 := by omega
      have HI4 : Hid (CaI cs 4) := hide (by rw [← hk4]; exact unhide HI)
      clear hk4
      go_wp2_with fail
      refine bodyPost_ret (v := .slice (some ⟨g, 0, none⟩) n c) (by simp [results, Try.results77, go_sem]) rfl ?_
      exact ⟨g, n, c, cs, rfl, (unhide HS).o, ⟨(unhide HS).l, unhide HI4⟩, (unhide HS).kk.d, (unhide HS).kk.gr⟩

end Go.Proofs.Ytfnnfldfnjnlfag

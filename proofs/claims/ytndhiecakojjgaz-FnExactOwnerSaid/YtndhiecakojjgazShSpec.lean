/-
  What the model's Share answers: the plain answer, at every plan and partition; nothing that was there is written.
-/
import Derived.Test.YtndhiecakojjgazShPure
import Derived.Test.YtndhiecakojjgazPpOwn
import Derived.Test.YtndhiecakojjgazAppEl
import Derived.Test.YtndhiecakojjgazApFar
import Derived.Test.YtndhiecakojjgazMinMax
namespace Go.Proofs.Ytndhiecakojjgaz
open Go.RowKit

theorem ret_sh {a b a' b' : Int} {c c' : Bool} (h1 : a = a') (h2 : b = b') (h3 : c = c') : Ending.returned (.tuple #[.int .i64 a, .int .i64 b, .bool c]) = .returned (.tuple #[.int .i64 a', .int .i64 b', .bool c']) := by rw [h1, h2, h3]
theorem mxs_is {c : Int} (x y : Int) (w : World) (h : max x y = c) : Calls Try.prog 37 #[.int .i64 x, .int .i64 y] w fun e w' => e = .returned (.int .i64 c) ∧ w' = w := by subst h; exact l1Max_eq x y w
theorem wnE_none {w1 : World} {B : Nat} (h : B ≤ w1.heap.size) : OwnE 3 wnC (w1.alloc (Obj.cells #[] 60)) B 60 (.slice (some ⟨w1.heap.size, 0, none⟩) 0 0) [] := by
  refine ⟨⟨[], ⟨rfl, .inr ⟨_, _, #[], rfl, h, ?_, Nat.le_refl _, by simp [maxLen], rfl, rfl⟩⟩, fun j hj => by simp at hj⟩⟩
  show (w1.heap.push _)[w1.heap.size]? = _
  simp
/-- A list of windows that grows, behind a plan's own block. -/
structure ShW (w wr : World) (vs : List Value) (g n cp : Nat) (out : List Wn) : Prop where
  o : OwnE 3 wnC wr (w.heap.size + 1) 60 (.slice (some ⟨g, 0, none⟩) n cp) out
  l : out.length = n
  blk : Blk wr w.heap.size vs
  bel : Below w.heap.size w wr
  sz : w.heap.size + 1 ≤ wr.heap.size
theorem ShW.below {w wr w' : World} {vs : List Value} {g n cp : Nat} {out : List Wn} (k : ShW w wr vs g n cp out) (b : Below wr.heap.size wr w') : ShW w w' vs g n cp out :=
  ⟨k.o.below b, k.l, k.blk.below b, k.bel.trans (b.mono k.bel.size), Nat.le_trans k.sz b.size⟩
theorem ShW.app {w wr w' : World} {vs : List Value} {g n cp g' cp' : Nat} {out : List Wn} {z : Wn} (k : ShW w wr vs g n cp out) (o : OwnE 3 wnC w' (w.heap.size + 1) 60 (.slice (some ⟨g', 0, none⟩) (n + 1) cp') (out ++ [z])) (gr : wr.grownBy w' (Value.slice (some ⟨g, 0, none⟩) n cp).ownBlock) : ShW w w' vs g' (n + 1) cp' (out ++ [z]) :=
  ⟨o, by simp [k.l], k.blk.apart gr (by intro e; have q := (k.o.lies _ e.symm).1; omega), k.bel.grown gr k.bel.size (fun q hq => Nat.le_trans (Nat.le_succ _) (k.o.lies q hq).1), Nat.le_trans k.sz gr.size⟩
theorem ShW.at_ {w wr : World} {vs : List Value} {g n cp : Nat} {out : List Wn} (k : ShW w wr vs g n cp out) {j : Nat} (hj : j < n) (q : Nat) (hq : q < 3) : wr.cell? ⟨g, j * 3 + q, none⟩ = some (wnC (elAt out j) q) := (k.o.here k.l j hj q hq).1

set_option maxRecDepth 20000 in
set_option maxHeartbeats 2000000 in
theorem specShare_no {n g : Int} {b : Bool} (fr pa : Int) (da : Option Addr) (dn dc : Nat) (ws : List Wn) (p : Int) (w : World) (hr : RowE 3 wnC w da dn ws) (hv : shB fr pa ws p = false) (hn : shR fr pa ws p = n) (hg : shQ fr pa ws p = g) (hb : shB fr pa ws p = b) :
    Calls Try.prog 22 #[.agg #[.int .i64 fr, .int .i64 pa, .slice da dn dc], .int .i64 p] w fun e w' => e = .returned (.tuple #[.int .i64 n, .int .i64 g, .bool b]) ∧ Below w.heap.size w w' := by
  have hz := hr.len_eq
  have hs := hr.small
  have HR := hide hr
  clear hr
  subst hz
  obtain ⟨W, hW⟩ : ∃ W, W = w.alloc (Obj.cells #[.int .i64 fr, .int .i64 pa, .slice da ws.length dc] 35) := ⟨_, rfl⟩
  have K0 : Hid (Blk W w.heap.size [.int .i64 fr, .int .i64 pa, .slice da ws.length dc]) := hide (by rw [hW]; exact Blk.new _ _)
  have B0 : Hid (Below w.heap.size w W) := hide (by rw [hW]; exact bel1 _)
  have HW := hide hW
  clear hW
  have HE := hide (hv.symm.trans hb)
  have HN := hide ((sh_no hv).1.symm.trans hn)
  have HG := hide ((sh_no hv).2.symm.trans hg)
  rcases two (ppB fr pa ws) (inB p 0 (pa - 1)) with ⟨q1, _⟩ | ⟨q1, q2, _⟩ | ⟨q1, q2, hv2⟩
  · clear hb hn hv hg
    go_enter Try.func22, Try.ntmps22
    go_upto_region 1 with fail
    rw [← unhide HW]
    clear HW
    have p0 : W.cell? ⟨w.heap.size, 0, none⟩ = some (.int .i64 fr) := (unhide K0).c 0 (by simp)
    have p1 : W.cell? ⟨w.heap.size, 1, none⟩ = some (.int .i64 pa) := (unhide K0).c 1 (by simp)
    have p2 : W.cell? ⟨w.heap.size, 2, none⟩ = some (.slice da ws.length dc) := (unhide K0).c 2 (by simp)
    go_wp2_with (go_at_call 16; refine (specPlanOk_is _ _ _ _ _ ws _ ((unhide HR).below (unhide B0)) (by exact q1)).mono ?_; rintro e W1 ⟨rfl, b1⟩; have B1 := hide ((unhide B0).trans (b1.mono (unhide B0).size)); clear b1)
    go_ret3
    exact ⟨ret_sh (unhide HN) (unhide HG) (unhide HE), unhide B1⟩
  · clear hb hn hv hg
    have f0 := (ppB_facts q1).2.1
    go_enter Try.func22, Try.ntmps22
    go_upto_region 1 with fail
    rw [← unhide HW]
    clear HW
    have p0 : W.cell? ⟨w.heap.size, 0, none⟩ = some (.int .i64 fr) := (unhide K0).c 0 (by simp)
    have p1 : W.cell? ⟨w.heap.size, 1, none⟩ = some (.int .i64 pa) := (unhide K0).c 1 (by simp)
    have p2 : W.cell? ⟨w.heap.size, 2, none⟩ = some (.slice da ws.length dc) := (unhide K0).c 2 (by simp)
    go_wp2_with (first | (go_at_call 16; refine (specPlanOk_is _ _ _ _ _ ws _ ((unhide HR).below (unhide B0)) (by exact q1)).mono ?_; rintro e W1 ⟨rfl, b1⟩; have p1' : W1.cell? ⟨w.heap.size, 1, none⟩ = some (.int .i64 pa) := ((unhide K0).below b1).c 1 (by simp); have B1 := hide ((unhide B0).trans (b1.mono (unhide B0).size)); clear b1) | (go_at_call 40; refine (l1In_is _ _ _ _ (by exact q2)).mono ?_; rintro e w' ⟨rfl, hw⟩; subst w'))
    go_ret3
    exact ⟨ret_sh (unhide HN) (unhide HG) (unhide HE), unhide B1⟩
  · exfalso
    rw [shB] at hv
    rw [hv2] at hv
    cases hv

end Go.Proofs.Ytndhiecakojjgaz

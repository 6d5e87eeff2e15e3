/-
  Take18 of both sides, in the form that the law's walk asks for.
-/
import Derived.Test.YtemodlgmjgdjpaaGreatDoorMTkSpc
import Derived.Test.YtemodlgmjgdjpaaGreatDoorMTkIf
import Derived.Test.YtemodlgmjgdjpaaGreatDoorTkTa
import Derived.Test.YtemodlgmjgdjpaaGreatDoorMRowBy
namespace Go.Proofs.YtemodlgmjgdjpaaGreatDoor
open Go Go.RowKit

theorem tkO_lz {zs : List Lc} (h : LzB zs) (p : ByteArray) : LzB (tkO zs p) := by
  rw [tkO]
  split
  · rename_i h0
    rcases sa_cases zs p with e | ⟨k, hk, e⟩
    · omega
    · rw [e, Int.toNat_natCast]
      have hl : (dlL zs k).length = zs.length - 1 := dlL_len hk
      refine ⟨by have := h.1; show (dlL zs k).length ≤ _; omega, fun i hi => ?_⟩
      have hi' : i < (dlL zs k).length := hi
      show (elAt (dlL zs k) i).zs.length ≤ _
      rw [dlL_at hk (by omega)]
      exact h.2 _ (by split <;> omega)
  · exact h
theorem tkL_lz {s : Int} {zs : List Lc} {l : Lc} {sl : Int} (h : LzB zs) (hl : l.zs.length ≤ 1048576) : LzB (tkL s zs l sl) := by
  rw [tkL]
  split
  · rename_i h0
    have hz := tkO_lz h l.p
    have h30 := (abB_facts (tk_zero h0).1).2.2
    have hk := poF_le (tkO zs l.p) l.nb
    have ho : (tkO zs l.p).length ≤ zs.length := by
      rw [tkO]
      split
      · simp only [List.length_append, List.length_take, List.length_drop]; omega
      · exact Nat.le_refl _
    rw [inF_ins]
    have hle := insL_len (x := l) hk
    refine ⟨by omega, fun i hi => ?_⟩
    rw [insL_at hk]
    split
    · exact hz.2 _ (by omega)
    · split
      · exact hl
      · exact hz.2 _ (by omega)
  · exact h
theorem implTake18_any (s : Int) (a1 : Option Addr) (l1 c1 : Nat) (zs : List Lc) (x : Lx) (sl : Int) (w : World) (hr : AbIn w a1 l1 zs) (hlz : LzB zs) (hin : LxIn w x) (hdn : x.d.n ≤ 1048576) (hg : ErG w) :
    Calls Tryz.prog 9 #[.agg #[.int .i64 s, .slice a1 l1 c1], .agg #[.string x.p, .int .i64 x.nb, .int .i64 x.le, .int .i64 x.mo, .int .i64 x.ne, .slice x.d.a x.d.n x.d.c], .int .i64 sl] w fun e w' => ∃ a9 c9, e = .returned (.tuple #[.agg #[.int .i64 s, .slice a9 (tkL s zs (lxW x) sl).length c9], .int .i64 (tkC s zs (lxW x) sl)]) ∧ AbOwn w' w.heap.size a9 (tkL s zs (lxW x) sl).length c9 (tkL s zs (lxW x) sl) ∧ Below w.heap.size w w' := by
  by_cases hc : tkC s zs (lxW x) sl = 0
  · exact implTake18_take s a1 l1 c1 zs x sl w hr hlz hin hdn hg hc
  · exact implTake18_fail s a1 l1 c1 zs x sl w hr hlz hin hg hc
/-- A load of the law's letters as one of the walk's. -/
def lxO (p : ByteArray) (nb le mo ne : Int) (a : Option Addr) (l c : Nat) (ys : List Int) : Lx := ⟨p, nb, le, mo, ne, ⟨a, l, c, ys⟩⟩
theorem lxO_in {p : ByteArray} {nb le mo ne : Int} {a : Option Addr} {l c : Nat} {ys : List Int} {w : World} (h : LdIn w a l ys) (hc : l ≤ c) (tx : p.size ≤ 9223372036854775807) (by_ : ∀ i, i < l → 0 ≤ elAt ys i ∧ elAt ys i ≤ 255) : LxIn w (lxO p nb le mo ne a l c ys) :=
  ⟨⟨h.r1, hc, by_⟩, tx⟩
theorem specTakeL_any (s : Int) (a1 : Option Addr) (l1 c1 : Nat) (zs : List Lc) (p : ByteArray) (nb le mo ne : Int) (va : Option Addr) (vl vc : Nat) (ys : List Int) (sl : Int) (w : World) (hr : AbIn w a1 l1 zs) (hv : LdIn w va vl ys) (hcv : vl ≤ vc) (hlz : LzB zs) (hdn : vl ≤ 1048576) (tx : p.size ≤ 9223372036854775807) (by_ : ∀ i, i < vl → 0 ≤ elAt ys i ∧ elAt ys i ≤ 255) :
    Calls Tryz.prog 17 #[.agg #[.int .i64 s, .slice a1 l1 c1], .agg #[.string p, .int .i64 nb, .int .i64 le, .int .i64 mo, .int .i64 ne, .slice va vl vc], .int .i64 sl] w fun e w' => ∃ a9 c9, e = .returned (.tuple #[.agg #[.int .i64 s, .slice a9 (tkL s zs ⟨p, nb, le, mo, ne, ys⟩ sl).length c9], .int .i64 (tkC s zs ⟨p, nb, le, mo, ne, ys⟩ sl)]) ∧ AbOwn w' w.heap.size a9 (tkL s zs ⟨p, nb, le, mo, ne, ys⟩ sl).length c9 (tkL s zs ⟨p, nb, le, mo, ne, ys⟩ sl) ∧ Below w.heap.size w w' :=
  specTake18_any s a1 l1 c1 zs (lxO p nb le mo ne va vl vc ys) sl w hr hlz (lxO_in hv hcv tx by_) hdn
theorem implTakeL_any (s : Int) (a1 : Option Addr) (l1 c1 : Nat) (zs : List Lc) (p : ByteArray) (nb le mo ne : Int) (va : Option Addr) (vl vc : Nat) (ys : List Int) (sl : Int) (w : World) (hr : AbIn w a1 l1 zs) (hv : LdIn w va vl ys) (hcv : vl ≤ vc) (hlz : LzB zs) (hdn : vl ≤ 1048576) (tx : p.size ≤ 9223372036854775807) (by_ : ∀ i, i < vl → 0 ≤ elAt ys i ∧ elAt ys i ≤ 255) (hg : ErG w) :
    Calls Tryz.prog 9 #[.agg #[.int .i64 s, .slice a1 l1 c1], .agg #[.string p, .int .i64 nb, .int .i64 le, .int .i64 mo, .int .i64 ne, .slice va vl vc], .int .i64 sl] w fun e w' => ∃ a9 c9, e = .returned (.tuple #[.agg #[.int .i64 s, .slice a9 (tkL s zs ⟨p, nb, le, mo, ne, ys⟩ sl).length c9], .int .i64 (tkC s zs ⟨p, nb, le, mo, ne, ys⟩ sl)]) ∧ AbOwn w' w.heap.size a9 (tkL s zs ⟨p, nb, le, mo, ne, ys⟩ sl).length c9 (tkL s zs ⟨p, nb, le, mo, ne, ys⟩ sl) ∧ Below w.heap.size w w' :=
  implTake18_any s a1 l1 c1 zs (lxO p nb le mo ne va vl vc ys) sl w hr hlz (lxO_in hv hcv tx by_) hdn hg

end Go.Proofs.YtemodlgmjgdjpaaGreatDoor

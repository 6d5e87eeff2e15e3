/-
  The law's text of a mark: a number's decimals, one text for each number. At numbers of 1 to 1000000000; nothing that was there is written.
  The law's comparison of lists of texts, its marks in one, and that they are there still. Nothing else that was there is written.
-/
import Derived.Test.YtfnnfldfnjnlfagMBase
import Derived.Test.YtfnnfldfnjnlfagChecked
import Derived.Laws.IdiomStrings
import Derived.Laws.Concat
import Derived.Test.YtfnnfldfnjnlfagMLowPure
import Derived.Test.YtfnnfldfnjnlfagMTaImpl

namespace Go.Proofs.Ytfnnfldfnjnlfag
open Go.RowKit

/-- The decimals of a number ahead of a text. -/
def digs : Nat → Int → ByteArray → ByteArray
  | 0, _, out => out
  | f + 1, k, out => if 0 < k then digs f (k / 10) ((⟨#[UInt8.ofNat (48 + k % 10).toNat]⟩ : ByteArray) ++ out) else out
theorem digs_end (f : Nat) {k : Int} (h : ¬ 0 < k) (out : ByteArray) : digs f k out = out := by
  cases f with
  | zero => rfl
  | succ f => simp [digs, h]
theorem digs_more {f : Nat} {k : Int} (h : 0 < k) (hf : k ≤ f) (out : ByteArray) : ∃ g : Nat, k / 10 ≤ g ∧ digs f k out = digs g (k / 10) ((⟨#[UInt8.ofNat (48 + k % 10).toNat]⟩ : ByteArray) ++ out) := by
  cases f with
  | zero => exfalso; simp at hf; omega
  | succ f => exact ⟨f, by simp at hf; omega, by simp [digs, h]⟩
/-- The text of a mark. -/
def mkT (k : Int) : ByteArray := (⟨#[109]⟩ : ByteArray) ++ digs k.toNat k ⟨#[]⟩

theorem run_one_byte (w : World) (n : Int) (h : 0 ≤ n) (h2 : n ≤ 255) :
    (convert 22 9 (.slice (some ⟨w.heap.size, 0, none⟩) 1 1)).run Try.prog (w.alloc (Obj.cells #[.int .u8 n] 5)) = .ok (.string ⟨#[UInt8.ofNat n.toNat]⟩) (w.alloc (Obj.cells #[.int .u8 n] 5)) := by
  have e : ((UInt8.ofNat n.toNat).toNat : Int) = n := by
    rw [UInt8.toNat_ofNat']
    omega
  have := run_convert_bytes_back (P := Try.prog) (w.alloc (Obj.cells #[.int .u8 n] 5)) 22 9 5 ⟨w.heap.size, 0, none⟩ 1 [UInt8.ofNat n.toNat] Try.underlying22 Try.underlying5 Try.underlying9 (fun j hj => by
    obtain rfl : j = 0 := by simp at hj; omega
    have hc : (w.alloc (Obj.cells #[.int .u8 n] 5)).cell? ⟨w.heap.size, 0, none⟩ = some (.int .u8 n) := by simp [go_sem]
    show (w.alloc (Obj.cells #[.int .u8 n] 5)).cell? ⟨w.heap.size, 0 + 0, none⟩ = _
    rw [Nat.add_zero, hc]
    simp only [List.getElem_cons_zero, e])
  simpa using this

end Go.Proofs.Ytfnnfldfnjnlfag

namespace Go.Proofs.Ytfnnfldfnjnlfag
open Go.RowKit

/-- A text's one cell. -/
def stC (s : ByteArray) (_ : Nat) : Value := .string s
theorem grownB {w w' : World} (b : Below w.heap.size w w') (row : Option Nat) : w.grownBy w' row := ⟨b.os, b.tape, b.output, b.size, fun i hi _ => b.block i hi⟩
theorem grown_trans {a b c : World} {row : Option Nat} (h : a.grownBy b row) (k : b.grownBy c row) : a.grownBy c row :=
  ⟨k.os.trans h.os, k.tape.trans h.tape, k.output.trans h.output, Nat.le_trans h.size k.size, fun i hi hne => (k.block i (Nat.lt_of_lt_of_le hi h.size) hne).trans (h.block i hi hne)⟩

end Go.Proofs.Ytfnnfldfnjnlfag

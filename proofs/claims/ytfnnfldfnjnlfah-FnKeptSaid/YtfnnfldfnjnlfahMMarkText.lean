/-
  The law's text of a mark: a number's decimals, one text for each number. At numbers of 1 to 1000000000; nothing that was there is written.
  A region that draws its order, whose own operations only read and whose callees answer one plain value and make memory only: one walk, in the order of the text, serves every order. The class of worlds: those in which nothing that was there has turned. No condition.
  The law's comparison of lists of texts, its marks in one, and that they are there still. Nothing else that was there is written.
-/
import Derived.Test.YtfnnfldfnjnlfahMBase
import Derived.Test.YtfnnfldfnjnlfahChecked
import Derived.Laws.IdiomStrings
import Derived.Laws.Concat
import Derived.Deep.Quiet
import Derived.Test.YtfnnfldfnjnlfahRowE

namespace Go.Proofs.Ytfnnfldfnjnlfah
open Go.RowKit

/-- The decimals of a number ahead of a text. -/
def digs : Nat → Int → ByteArray → ByteArray
  | 0, _, out => out
  | f + 1, k, out => if 0 < k then digs f (k / 10) ((⟨#[UInt8.ofNat (48 + k % 10).toNat]⟩ : ByteArray) ++ out) else out
theorem digs_end (f : Nat) {k : Int} (h : ¬ 0 < k) (out : ByteArray) : digs f k out = out := by
  cases f with
  | zero => rfl
  | succ f => simp [digs, h]
theorem digs_more {f : Nat} {k : Int} (h : 0 < k) (hf : k ≤ f) (out : ByteArray) : ∃ g : Nat, k / 10 ≤ g ∧ digs f k out = digs g (k / 10) ((⟨#[UInt8.ofNat (48 + k % 10).toNat]⟩ : ByteArray) ++ out) := by
  cases f with
  | zero => exfalso; simp at hf; omega
  | succ f => exact ⟨f, by simp at hf; omega, by simp [digs, h]⟩
/-- The text of a mark. -/
def mkT (k : Int) : ByteArray := (⟨#[109]⟩ : ByteArray) ++ digs k.toNat k ⟨#[]⟩

theorem run_one_byte (w : World) (n : Int) (h : 0 ≤ n) (h2 : n ≤ 255) :
    (convert 22 9 (.slice (some ⟨w.heap.size, 0, none⟩) 1 1)).run Try.prog (w.alloc (Obj.cells #[.int .u8 n] 5)) = .ok (.string ⟨#[UInt8.ofNat n.toNat]⟩) (w.alloc (Obj.cells #[.int .u8 n] 5)) := by
  have e : ((UInt8.ofNat n.toNat).toNat : Int) = n := by
    rw [UInt8.toNat_ofNat']
    omega
  have := run_convert_bytes_back (P := Try.prog) (w.alloc (Obj.cells #[.int .u8 n] 5)) 22 9 5 ⟨w.heap.size, 0, none⟩ 1 [UInt8.ofNat n.toNat] Try.underlying22 Try.underlying5 Try.underlying9 (fun j hj => by
    obtain rfl : j = 0 := by simp at hj; omega
    have hc : (w.alloc (Obj.cells #[.int .u8 n] 5)).cell? ⟨w.heap.size, 0, none⟩ = some (.int .u8 n) := by simp [go_sem]
    show (w.alloc (Obj.cells #[.int .u8 n] 5)).cell? ⟨w.heap.size, 0 + 0, none⟩ = _
    rw [Nat.add_zero, hc]
    simp only [List.getElem_cons_zero, e])
  simpa using this

end Go.Proofs.Ytfnnfldfnjnlfah

namespace Go.Proofs.Ytfnnfldfnjnlfah
open Go.RowKit

/-- The worlds in which nothing that was there in w has turned, as the values of a function. -/
theorem belClass (w : World) : ∃ (ι : Type) (f : ι → World), Nonempty ι ∧ (∀ x, Below w.heap.size w (f x)) ∧ (∀ w', Below w.heap.size w w' → ∃ x, w' = f x) :=
  ⟨{w' // Below w.heap.size w w'}, Subtype.val, ⟨⟨w, Below.refl _ _⟩⟩, fun x => x.2, fun w' h => ⟨⟨w', h⟩, rfl⟩⟩

theorem wp_region_bel {P : Program} {id : Nat} {Q : Exit → Act → World → Prop} {a : Act} {w : World} {l : List Oper} {ι : Type} {f : ι → World} (hall : ∀ w', Below w.heap.size w w' → ∃ x, w' = f x)
    (hm : P.follows .mixedOrders = true) (hB : Region.lexB .any l.toArray = true)
    (h : wpQuiet P l.toArray (fun w' => ∃ x, w' = f x) (fun a' => ∀ w', (∃ x, w' = f x) → Q .normal a' w') l a) : (Code.region id l.toArray true).wp P Q a w :=
  wp_region_quiet (C := fun w' => ∃ x, w' = f x) hm hB (hall _ ⟨rfl, rfl, rfl, Nat.le_refl _, fun _ _ => rfl⟩) (by simpa using h)

/-- A callee's contract in such a walk. -/
theorem belQ {P : Program} {F : FuncId} {args : Array Value} {w : World} {ι : Type} {f : ι → World} (hb : ∀ x, Below w.heap.size w (f x)) (hall : ∀ w', Below w.heap.size w w' → ∃ x, w' = f x) {x : ι} {v : Value}
    (h : Calls P F args (f x) fun e w' => e = .returned v ∧ Below (f x).heap.size (f x) w') : Calls P F args (f x) fun e w'' => e = .returned v ∧ ∃ y, w'' = f y :=
  h.mono fun _ _ ⟨he, k⟩ => ⟨he, hall _ ((hb x).trans (k.mono (hb x).size))⟩
theorem belS {P : Program} {F : FuncId} {args : Array Value} {ι : Type} {f : ι → World} {x : ι} {v : Value}
    (h : Calls P F args (f x) fun e w' => e = .returned v ∧ w' = f x) : Calls P F args (f x) fun e w'' => e = .returned v ∧ ∃ y, w'' = f y :=
  h.mono fun _ _ ⟨he, k⟩ => ⟨he, x, k⟩
theorem belN {P : Program} {F : FuncId} {args : Array Value} {w : World} {ι : Type} {f : ι → World} (hb : ∀ x, Below w.heap.size w (f x)) (hall : ∀ w', Below w.heap.size w w' → ∃ x, w' = f x) {x : ι} {v : Value}
    (h : Calls P F args (f x) fun e w' => e = .returned v ∧ ∃ n, w' = (f x).drewN n) : Calls P F args (f x) fun e w'' => e = .returned v ∧ ∃ y, w'' = f y :=
  h.mono fun _ _ ⟨he, n, k⟩ => ⟨he, hall _ (by rw [k]; exact (hb x).trans (bel0d' n))⟩

end Go.Proofs.Ytfnnfldfnjnlfah

namespace Go.Proofs.Ytfnnfldfnjnlfah
open Go.RowKit

/-- A text's one cell. -/
def stC (s : ByteArray) (_ : Nat) : Value := .string s
theorem grownB {w w' : World} (b : Below w.heap.size w w') (row : Option Nat) : w.grownBy w' row := ⟨b.os, b.tape, b.output, b.size, fun i hi _ => b.block i hi⟩
theorem grown_trans {a b c : World} {row : Option Nat} (h : a.grownBy b row) (k : b.grownBy c row) : a.grownBy c row :=
  ⟨k.os.trans h.os, k.tape.trans h.tape, k.output.trans h.output, Nat.le_trans h.size k.size, fun i hi hne => (k.block i (Nat.lt_of_lt_of_le hi h.size) hne).trans (h.block i hi hne)⟩

end Go.Proofs.Ytfnnfldfnjnlfah

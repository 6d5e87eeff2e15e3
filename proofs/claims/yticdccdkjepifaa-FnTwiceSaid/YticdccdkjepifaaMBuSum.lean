/-
  The sum of a frame's bytes, of the model: by the lowest eight bits. At every list of bytes; nothing is written.
  Frames over two networks, in plain lists: what is heard in turn. No program here.
-/
import Derived.Test.YticdccdkjepifaaMLowPure
import Derived.Test.YticdccdkjepifaaRowBy
import Derived.Test.YticdccdkjepifaaRowE

namespace Go.Proofs.Yticdccdkjepifaa
open Go.RowKit

/-- The sum behind k bytes. -/
def smK (zs : List Int) : Nat → Int
  | 0 => 0
  | k + 1 => (smK zs k * 3 % 256 + elAt zs k) % 256
def smB (zs : List Int) : Int := smK zs zs.length
theorem ret_u8 {a b : Int} (h : a = b) : Ending.returned (.int .u8 a) = .returned (.int .u8 b) := by rw [h]
theorem smK_bd (zs : List Int) : ∀ k, 0 ≤ smK zs k ∧ smK zs k ≤ 255
  | 0 => by simp [smK]
  | k + 1 => by unfold smK; omega

end Go.Proofs.Yticdccdkjepifaa

namespace Go.Proofs.Yticdccdkjepifaa
open Go.RowKit

/-- A slice of bytes as it lies in a list: where, how long, what it reads. -/
structure Sl where
  a : Option Addr
  n : Nat
  c : Nat
  zs : List Int
instance : Inhabited Sl := ⟨⟨none, 0, 0, []⟩⟩
def slV (s : Sl) : Value := .slice s.a s.n s.c
def slC (s : Sl) (_ : Nat) : Value := slV s
/-- What can be read of it in a world. -/
structure SlIn (w : World) (s : Sl) : Prop where
  row : RowE 1 byC w s.a s.n s.zs
  cap : s.n ≤ s.c
  byt : ∀ i, i < s.n → 0 ≤ elAt s.zs i ∧ elAt s.zs i ≤ 255
theorem SlIn.below {w w' : World} {s : Sl} (h : SlIn w s) (k : Below w.heap.size w w') : SlIn w' s := ⟨h.row.below k, h.cap, h.byt⟩
/-- One of each in turn; what one lacks is passed over. -/
def inter {α : Type} : List α → List α → List α
  | [], ys => ys
  | x :: xs, ys => x :: inter ys xs
termination_by xs ys => xs.length + ys.length
theorem inter_nil {α : Type} (ys : List α) : inter [] ys = ys := by rw [inter]
theorem inter_cons {α : Type} (x : α) (xs ys : List α) : inter (x :: xs) ys = x :: inter ys xs := by rw [inter]
theorem inter_nil2 {α : Type} : ∀ xs : List α, inter xs [] = xs
  | [] => inter_nil _
  | x :: xs => by rw [inter_cons, inter_nil]
theorem inter_len {α : Type} : ∀ (n : Nat) (xs ys : List α), xs.length + ys.length = n → (inter xs ys).length = n
  | n, [], ys, h => by rw [inter_nil]; simpa using h
  | 0, x :: xs, ys, h => by simp at h
  | n + 1, x :: xs, ys, h => by
    rw [inter_cons, List.length_cons, inter_len n ys xs (by simp at h; omega)]
theorem inter_mem {α : Type} {p : α → Prop} : ∀ (n : Nat) (xs ys : List α), xs.length + ys.length = n → (∀ x, x ∈ xs → p x) → (∀ x, x ∈ ys → p x) → ∀ x, x ∈ inter xs ys → p x
  | n, [], ys, _, _, h2 => by rw [inter_nil]; exact h2
  | 0, x :: xs, ys, h, _, _ => by simp at h
  | n + 1, x :: xs, ys, h, h1, h2 => by
    rw [inter_cons]
    intro z hz
    rcases List.mem_cons.1 hz with e | e
    · subst e; exact h1 _ (List.mem_cons_self ..)
    · exact inter_mem n ys xs (by simp at h; omega) h2 (fun q hq => h1 q (List.mem_cons_of_mem _ hq)) z e
theorem slBuf (ss : List Sl) : ((ss.map slV).toArray).size = ss.length := by simp
theorem slBuf_push {ss : List Sl} {k : Nat} (hk : k < ss.length) : ((ss.take k).map slV).toArray.push (slV (elAt ss k)) = ((ss.take (k + 1)).map slV).toArray := by
  rw [List.take_add_one, List.map_append]
  have : ss[k]? = some (elAt ss k) := by simp [elAt, hk]
  rw [this]
  simp

end Go.Proofs.Yticdccdkjepifaa

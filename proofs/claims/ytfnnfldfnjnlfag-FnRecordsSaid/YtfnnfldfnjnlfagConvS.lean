/-
  Bytes turned into a text: what the conversion tells. No condition. (The same two stand in LawFnFrames: never import both.)
-/
import Derived.Test.YtfnnfldfnjnlfagApp1
import Derived.Laws.BytesString
import Derived.Laws.Cells
namespace Go.Proofs.Ytfnnfldfnjnlfag
open Go Go.RowKit

/-- The text of some bytes. -/
def byStr (ds : List Int) : ByteArray := ds.foldl (fun r n => r.push (UInt8.ofNat n.toNat)) ByteArray.empty
theorem conv_str {w : World} {p : Option Addr} {n : Nat} {ds : List Int} (h : RowE 1 byC w p n ds) (q : Nat) : (convert 22 9 (.slice p n q)).run Try.prog w = .ok (.string (byStr ds)) w := by
  rw [run_convert_bytes_string w 22 9 5 p n q Try.underlying22 Try.underlying5 Try.underlying9]
  have hl := h.len_eq
  subst hl
  rcases h.open1 with ⟨h0, h1⟩ | ⟨b, off, rfl, _, hc⟩
  · subst h1
    cases p with
    | none => rfl
    | some a => exact run_bytesToString w a 0 q [] (by simp [loadCells, loadCellsFrom])
  · refine run_bytesToString w ⟨b, off, none⟩ ds.length q ds ?_
    rw [show ds.length = (ds.map (Value.int .u8)).length by simp]
    refine run_loadCells_list w ⟨b, off, none⟩ (ds.map (Value.int .u8)) (fun j v hj => ?_)
    have hj2 : j < ds.length := by
      rcases Nat.lt_or_ge j ds.length with k | k
      · exact k
      · rw [List.getElem?_eq_none (by simpa using k)] at hj; cases hj
    have := hc j hj2
    simp only [List.getElem?_map, List.getElem?_eq_getElem hj2, Option.map_some, Option.some.injEq] at hj
    rw [addr_addR, this, ← hj]
    simp [byC, elAt, hj2]

end Go.Proofs.Ytfnnfldfnjnlfag

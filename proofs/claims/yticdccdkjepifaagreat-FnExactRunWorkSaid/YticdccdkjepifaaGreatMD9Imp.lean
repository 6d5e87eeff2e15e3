/-
  What the program's Due19 answers, in one sentence. No condition beyond a text's size.
  What the model's Due19 answers, in one sentence. No condition beyond a text's size.
-/
import Derived.Test.YticdccdkjepifaaGreatD9SpI
import Derived.Test.YticdccdkjepifaaGreatD9Spec

namespace Go.Proofs.YticdccdkjepifaaGreat
open Go.RowKit

theorem implDue19_any (nm : ByteArray) (h c d dh dc dd nh nc nd : Int) (w : World) (hs : nm.size ≤ 9223372036854775807) :
    Calls Tryz.prog 127 #[.agg #[.string nm, .int .i64 h, .int .i64 c, .int .i64 d, .int .i64 dh, .int .i64 dc, .int .i64 dd], .agg #[.int .i64 nh, .int .i64 nc, .int .i64 nd]] w fun e w' => e = .returned (.tuple #[.bool (d9D ⟨nm, h, c, d, dh, dc, dd⟩ nh nc nd), .agg #[.int .i64 (d9H ⟨nm, h, c, d, dh, dc, dd⟩ nh nc nd), .int .i64 (d9C ⟨nm, h, c, d, dh, dc, dd⟩ nh nc nd), .int .i64 (d9E ⟨nm, h, c, d, dh, dc, dd⟩ nh nc nd)], .bool (d9B ⟨nm, h, c, d, dh, dc, dd⟩ nh nc nd)]) ∧ Below w.heap.size w w' := by
  cases hn : d9B ⟨nm, h, c, d, dh, dc, dd⟩ nh nc nd with
  | false =>
    have e0 : d9D ⟨nm, h, c, d, dh, dc, dd⟩ nh nc nd = false := by rw [d9D, hn]; rfl
    have e1 : d9H ⟨nm, h, c, d, dh, dc, dd⟩ nh nc nd = 0 := by rw [d9H, hn]; rfl
    have e2 : d9C ⟨nm, h, c, d, dh, dc, dd⟩ nh nc nd = 0 := by rw [d9C, hn]; rfl
    have e3 : d9E ⟨nm, h, c, d, dh, dc, dd⟩ nh nc nd = 0 := by rw [d9E, hn]; rfl
    rw [e0, e1, e2, e3]
    exact implDue19_no nm h c d dh dc dd nh nc nd w hs hn
  | true =>
    have e1 : d9H ⟨nm, h, c, d, dh, dc, dd⟩ nh nc nd = lfI h (nh - dh) := by rw [d9H, hn]; rfl
    have e2 : d9C ⟨nm, h, c, d, dh, dc, dd⟩ nh nc nd = lfI c (nc - dc) := by rw [d9C, hn]; rfl
    have e3 : d9E ⟨nm, h, c, d, dh, dc, dd⟩ nh nc nd = lfI d (nd - dd) := by rw [d9E, hn]; rfl
    rw [e1, e2, e3]
    exact implDue19_yes nm h c d dh dc dd nh nc nd w hs hn

end Go.Proofs.YticdccdkjepifaaGreat

namespace Go.Proofs.YticdccdkjepifaaGreat
open Go.RowKit

theorem specDue19_any (nm : ByteArray) (h c d dh dc dd nh nc nd : Int) (w : World) (hs : nm.size ≤ 9223372036854775807) :
    Calls Tryz.prog 89 #[.agg #[.string nm, .int .i64 h, .int .i64 c, .int .i64 d, .int .i64 dh, .int .i64 dc, .int .i64 dd], .agg #[.int .i64 nh, .int .i64 nc, .int .i64 nd]] w fun e w' => e = .returned (.tuple #[.bool (d9D ⟨nm, h, c, d, dh, dc, dd⟩ nh nc nd), .agg #[.int .i64 (d9H ⟨nm, h, c, d, dh, dc, dd⟩ nh nc nd), .int .i64 (d9C ⟨nm, h, c, d, dh, dc, dd⟩ nh nc nd), .int .i64 (d9E ⟨nm, h, c, d, dh, dc, dd⟩ nh nc nd)], .bool (d9B ⟨nm, h, c, d, dh, dc, dd⟩ nh nc nd)]) ∧ Below w.heap.size w w' := by
  cases hn : d9B ⟨nm, h, c, d, dh, dc, dd⟩ nh nc nd with
  | false =>
    have e0 : d9D ⟨nm, h, c, d, dh, dc, dd⟩ nh nc nd = false := by rw [d9D, hn]; rfl
    have e1 : d9H ⟨nm, h, c, d, dh, dc, dd⟩ nh nc nd = 0 := by rw [d9H, hn]; rfl
    have e2 : d9C ⟨nm, h, c, d, dh, dc, dd⟩ nh nc nd = 0 := by rw [d9C, hn]; rfl
    have e3 : d9E ⟨nm, h, c, d, dh, dc, dd⟩ nh nc nd = 0 := by rw [d9E, hn]; rfl
    rw [e0, e1, e2, e3]
    exact specDue19_no nm h c d dh dc dd nh nc nd w hs hn
  | true =>
    have e1 : d9H ⟨nm, h, c, d, dh, dc, dd⟩ nh nc nd = lfI h (nh - dh) := by rw [d9H, hn]; rfl
    have e2 : d9C ⟨nm, h, c, d, dh, dc, dd⟩ nh nc nd = lfI c (nc - dc) := by rw [d9C, hn]; rfl
    have e3 : d9E ⟨nm, h, c, d, dh, dc, dd⟩ nh nc nd = lfI d (nd - dd) := by rw [d9E, hn]; rfl
    rw [e1, e2, e3]
    exact specDue19_yes nm h c d dh dc dd nh nc nd w hs hn

end Go.Proofs.YticdccdkjepifaaGreat

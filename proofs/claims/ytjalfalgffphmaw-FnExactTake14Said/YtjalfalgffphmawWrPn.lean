/-
  Whether a panel is so, in the model.
-/
import Derived.Test.YtjalfalgffphmawWrNm
namespace Go.Proofs.Ytjalfalgffphmaw
open Go.RowKit

/-- Whether a panel's lists are names of rules. -/
def pnlB (rs : List Wr) (z1 z2 z3 : List ByteArray) : Bool := nmB rs z1 && nmB rs z2 && nmB rs z3
set_option maxRecDepth 20000 in
set_option maxHeartbeats 1000000 in
theorem l14Panel_any (ad : Option Addr) (len cap : Nat) (rs : List Wr) (a1 a2 a3 : Option Addr) (l1 c1 l2 c2 l3 c3 : Nat) (z1 z2 z3 : List ByteArray) (w : World) (hr : RowW w ad len rs) (hl : len ≤ 1048576) (hp : PnIn w a1 a2 a3 l1 l2 l3 z1 z2 z3) (h1 : l1 ≤ 1048576) (h2 : l2 ≤ 1048576) (h3 : l3 ≤ 1048576) :
    Calls Try.prog 29 #[.slice ad len cap, .agg #[.slice a1 l1 c1, .slice a2 l2 c2, .slice a3 l3 c3]] w fun e w' => e = .returned (.bool (pnlB rs z1 z2 z3)) ∧ Below w.heap.size w w' := by
  have HR := hide hr
  have HP := hide hp
  clear hr hp
  rcases three (nmB rs z1) (nmB rs z2) (nmB rs z3) with ⟨q1, hv⟩ | ⟨q1, q2, hv⟩ | ⟨q1, q2, q3, hv⟩ | ⟨q1, q2, q3, hv⟩
  · have HE : Hid (pnlB rs z1 z2 z3 = _) := hide hv
    clear hv
    go_enter Try.func29, Try.ntmps29
    go_wp2_with fail
    obtain ⟨V, hV⟩ : ∃ W, W = w.alloc (Obj.cells #[.slice a1 l1 c1, .slice a2 l2 c2, .slice a3 l3 c3] 28) := ⟨_, rfl⟩
    have KP : Hid (Blk V w.heap.size [.slice a1 l1 c1, .slice a2 l2 c2, .slice a3 l3 c3]) := hide (by rw [hV]; exact Blk.new _ _)
    have HB : Hid (Below w.heap.size w V) := hide (by rw [hV]; exact bel1 _)
    rw [← hV]
    clear hV
    refine (l14Names_any ad len cap rs a1 l1 c1 z1 _ ((unhide HR).below (unhide HB)) hl ((unhide HP).below (unhide HB)).r1 h1).mono ?_
    rintro e w1 ⟨rfl, b⟩
    rw [q1]
    have HB := hide ((unhide HB).trans (b.mono (unhide HB).size))
    have KP := hide ((unhide KP).below b)
    have v1 : w1.cell? ⟨w.heap.size, 1, none⟩ = some (.slice a2 l2 c2) := (unhide KP).c 1 (by simp)
    clear b
    go_wp2_with fail
    go_ret
    exact ⟨ret_bool (unhide HE).symm, unhide HB⟩
  · have HE : Hid (pnlB rs z1 z2 z3 = _) := hide hv
    clear hv
    go_enter Try.func29, Try.ntmps29
    go_wp2_with fail
    obtain ⟨V, hV⟩ : ∃ W, W = w.alloc (Obj.cells #[.slice a1 l1 c1, .slice a2 l2 c2, .slice a3 l3 c3] 28) := ⟨_, rfl⟩
    have KP : Hid (Blk V w.heap.size [.slice a1 l1 c1, .slice a2 l2 c2, .slice a3 l3 c3]) := hide (by rw [hV]; exact Blk.new _ _)
    have HB : Hid (Below w.heap.size w V) := hide (by rw [hV]; exact bel1 _)
    rw [← hV]
    clear hV
    refine (l14Names_any ad len cap rs a1 l1 c1 z1 _ ((unhide HR).below (unhide HB)) hl ((unhide HP).below (unhide HB)).r1 h1).mono ?_
    rintro e w1 ⟨rfl, b⟩
    rw [q1]
    have HB := hide ((unhide HB).trans (b.mono (unhide HB).size))
    have KP := hide ((unhide KP).below b)
    have v1 : w1.cell? ⟨w.heap.size, 1, none⟩ = some (.slice a2 l2 c2) := (unhide KP).c 1 (by simp)
    clear b
    go_wp2_with fail
    refine (l14Names_any ad len cap rs a2 l2 c2 z2 _ ((unhide HR).below (unhide HB)) hl ((unhide HP).below (unhide HB)).r2 h2).mono ?_
    rintro e w2 ⟨rfl, b⟩
    rw [q2]
    have HB := hide ((unhide HB).trans (b.mono (unhide HB).size))
    have KP := hide ((unhide KP).below b)
    have v2 : w2.cell? ⟨w.heap.size, 2, none⟩ = some (.slice a3 l3 c3) := (unhide KP).c 2 (by simp)
    clear b
    go_wp2_with fail
    go_ret
    exact ⟨ret_bool (unhide HE).symm, unhide HB⟩
  · have HE : Hid (pnlB rs z1 z2 z3 = _) := hide hv
    clear hv
    go_enter Try.func29, Try.ntmps29
    go_wp2_with fail
    obtain ⟨V, hV⟩ : ∃ W, W = w.alloc (Obj.cells #[.slice a1 l1 c1, .slice a2 l2 c2, .slice a3 l3 c3] 28) := ⟨_, rfl⟩
    have KP : Hid (Blk V w.heap.size [.slice a1 l1 c1, .slice a2 l2 c2, .slice a3 l3 c3]) := hide (by rw [hV]; exact Blk.new _ _)
    have HB : Hid (Below w.heap.size w V) := hide (by rw [hV]; exact bel1 _)
    rw [← hV]
    clear hV
    refine (l14Names_any ad len cap rs a1 l1 c1 z1 _ ((unhide HR).below (unhide HB)) hl ((unhide HP).below (unhide HB)).r1 h1).mono ?_
    rintro e w1 ⟨rfl, b⟩
    rw [q1]
    have HB := hide ((unhide HB).trans (b.mono (unhide HB).size))
    have KP := hide ((unhide KP).below b)
    have v1 : w1.cell? ⟨w.heap.size, 1, none⟩ = some (.slice a2 l2 c2) := (unhide KP).c 1 (by simp)
    clear b
    go_wp2_with fail
    refine (l14Names_any ad len cap rs a2 l2 c2 z2 _ ((unhide HR).below (unhide HB)) hl ((unhide HP).below (unhide HB)).r2 h2).mono ?_
    rintro e w2 ⟨rfl, b⟩
    rw [q2]
    have HB := hide ((unhide HB).trans (b.mono (unhide HB).size))
    have KP := hide ((unhide KP).below b)
    have v2 : w2.cell? ⟨w.heap.size, 2, none⟩ = some (.slice a3 l3 c3) := (unhide KP).c 2 (by simp)
    clear b
    go_wp2_with fail
    refine (l14Names_any ad len cap rs a3 l3 c3 z3 _ ((unhide HR).below (unhide HB)) hl ((unhide HP).below (unhide HB)).r3 h3).mono ?_
    rintro e w3 ⟨rfl, b⟩
    rw [q3]
    have HB := hide ((unhide HB).trans (b.mono (unhide HB).size))
    clear b
    go_wp2_with fail
    go_ret
    exact ⟨ret_bool (unhide HE).symm, unhide HB⟩
  · have HE : Hid (pnlB rs z1 z2 z3 = _) := hide hv
    clear hv
    go_enter Try.func29, Try.ntmps29
    go_wp2_with fail
    obtain ⟨V, hV⟩ : ∃ W, W = w.alloc (Obj.cells #[.slice a1 l1 c1, .slice a2 l2 c2, .slice a3 l3 c3] 28) := ⟨_, rfl⟩
    have KP : Hid (Blk V w.heap.size [.slice a1 l1 c1, .slice a2 l2 c2, .slice a3 l3 c3]) := hide (by rw [hV]; exact Blk.new _ _)
    have HB : Hid (Below w.heap.size w V) := hide (by rw [hV]; exact bel1 _)
    rw [← hV]
    clear hV
    refine (l14Names_any ad len cap rs a1 l1 c1 z1 _ ((unhide HR).below (unhide HB)) hl ((unhide HP).below (unhide HB)).r1 h1).mono ?_
    rintro e w1 ⟨rfl, b⟩
    rw [q1]
    have HB := hide ((unhide HB).trans (b.mono (unhide HB).size))
    have KP := hide ((unhide KP).below b)
    have v1 : w1.cell? ⟨w.heap.size, 1, none⟩ = some (.slice a2 l2 c2) := (unhide KP).c 1 (by simp)
    clear b
    go_wp2_with fail
    refine (l14Names_any ad len cap rs a2 l2 c2 z2 _ ((unhide HR).below (unhide HB)) hl ((unhide HP).below (unhide HB)).r2 h2).mono ?_
    rintro e w2 ⟨rfl, b⟩
    rw [q2]
    have HB := hide ((unhide HB).trans (b.mono (unhide HB).size))
    have KP := hide ((unhide KP).below b)
    have v2 : w2.cell? ⟨w.heap.size, 2, none⟩ = some (.slice a3 l3 c3) := (unhide KP).c 2 (by simp)
    clear b
    go_wp2_with fail
    refine (l14Names_any ad len cap rs a3 l3 c3 z3 _ ((unhide HR).below (unhide HB)) hl ((unhide HP).below (unhide HB)).r3 h3).mono ?_
    rintro e w3 ⟨rfl, b⟩
    rw [q3]
    have HB := hide ((unhide HB).trans (b.mono (unhide HB).size))
    clear b
    go_wp2_with fail
    go_ret
    exact ⟨ret_bool (unhide HE).symm, unhide HB⟩

end Go.Proofs.Ytjalfalgffphmaw

/-
  The law's marks in the lists of a Panel that a call has made: nothing else is written, and the marks are found again. At lists of at most 1048576.
  A panel marked: its lists hold the marks, and a list apart from them holds what it held. Only what lies between b and u has turned.
  The law's size of a panel. Nothing that was there is written.
-/
import Derived.Test.YtbaocifpifbldawGreatPan0

namespace Go.Proofs.YtbaocifpifbldawGreat
open Go.RowKit
set_option maxRecDepth 20000 in
set_option maxHeartbeats 2000000 in
theorem markPanel_own (base : Nat) (a1 a2 a3 : Option Addr) (l1 c1 l2 c2 l3 c3 : Nat) (z1 : List ByteArray) (z2 : List ByteArray) (z3 : List ByteArray) (k : Int) (w : World) (h : PnOwn w base a1 a2 a3 l1 c1 l2 c2 l3 c3 z1 z2 z3) (e1 : z1.length = l1) (q1 : l1 ≤ 1048576) (e2 : z2.length = l2) (q2 : l2 ≤ 1048576) (e3 : z3.length = l3) (q3 : l3 ≤ 1048576) (hk0 : 1 ≤ k) (hk1 : k ≤ 100000000) (b u : Nat) (hl : PnLies b u a1 a2 a3 l1 c1 l2 c2 l3 c3) (hu : u ≤ w.heap.size) :
    Calls Tryz.prog 16 #[.agg #[.slice a1 l1 c1, .slice a2 l2 c2, .slice a3 l3 c3], .int .i64 k] w fun x w' => x = .returned (.int .i64 (k + (l1 : Int) + (l2 : Int) + (l3 : Int))) ∧ PnOwn w' base a1 a2 a3 l1 c1 l2 c2 l3 c3 (markL mkT 1 z1 k l1) (markL mkT 1 z2 (k + (l1 : Int)) l2) (markL mkT 1 z3 (k + (l1 : Int) + (l2 : Int)) l3) ∧ Only b u w w' := by
  have LI := hide hl
  have P12 := hide h.p12
  have P13 := hide h.p13
  have P23 := hide h.p23
  have E1 := hide e1
  have E2 := hide e2
  have E3 := hide e3
  obtain ⟨W, hW⟩ : ∃ W, W = w.alloc (Obj.cells #[.slice a1 l1 c1, .slice a2 l2 c2, .slice a3 l3 c3] 29) := ⟨_, rfl⟩
  have bW : Below w.heap.size w W := by rw [hW]; exact bel1 _
  have KP : Hid (Blk W w.heap.size [.slice a1 l1 c1, .slice a2 l2 c2, .slice a3 l3 c3]) := hide (by rw [hW]; exact Blk.new _ _)
  have O1 := hide (h.o1.below bW)
  have O2 := hide (h.o2.below bW)
  have O3 := hide (h.o3.below bW)
  have BO : Hid (Only b u w W) := hide (Only.of_below bW)
  have HW := hide hW
  have HU := hide hu
  clear h hW bW hl hu e1 e2 e3
  go_enter Tryz.func16, Tryz.ntmps16
  go_wp2_with fail
  rw [← unhide HW]
  clear HW
  refine (markStringS_any base _ _ _ z1 (k) _ (unhide O1) (unhide E1) q1 (by omega) (by omega)).mono ?_
  rintro x v1 ⟨rfl, om, gr⟩
  have OM1 := hide om
  have on := Only.of_row (lo := b) (hi := u) gr (fun g hg => (unhide LI).1 g hg)
  have O2 := hide ((unhide O2).far gr (fun g hg e => (unhide P12) g e.symm hg))
  have O3 := hide ((unhide O3).far gr (fun g hg e => (unhide P13) g e.symm hg))
  have BO := hide ((unhide BO).trans on)
  have KP := hide ((unhide KP).only on (.inr (unhide HU)))
  clear om on gr O1
  have m2 : v1.cell? ⟨w.heap.size, 1, none⟩ = some (.slice a2 l2 c2) := (unhide KP).c 1 (by simp)
  go_wp2_with fail
  clear m2
  refine (markStringS_any base _ _ _ z2 (k + (l1 : Int)) _ (unhide O2) (unhide E2) q2 (by omega) (by omega)).mono ?_
  rintro x v2 ⟨rfl, om, gr⟩
  have OM2 := hide om
  have on := Only.of_row (lo := b) (hi := u) gr (fun g hg => (unhide LI).2.1 g hg)
  have OM1 := hide ((unhide OM1).far gr (fun g hg e => (unhide P12) g hg e.symm))
  have O3 := hide ((unhide O3).far gr (fun g hg e => (unhide P23) g e.symm hg))
  have BO := hide ((unhide BO).trans on)
  have KP := hide ((unhide KP).only on (.inr (unhide HU)))
  clear om on gr O2
  have m3 : v2.cell? ⟨w.heap.size, 2, none⟩ = some (.slice a3 l3 c3) := (unhide KP).c 2 (by simp)
  go_wp2_with fail
  clear m3
  refine (markStringS_any base _ _ _ z3 (k + (l1 : Int) + (l2 : Int)) _ (unhide O3) (unhide E3) q3 (by omega) (by omega)).mono ?_
  rintro x v3 ⟨rfl, om, gr⟩
  have OM3 := hide om
  have on := Only.of_row (lo := b) (hi := u) gr (fun g hg => (unhide LI).2.2 g hg)
  have OM1 := hide ((unhide OM1).far gr (fun g hg e => (unhide P13) g hg e.symm))
  have OM2 := hide ((unhide OM2).far gr (fun g hg e => (unhide P23) g hg e.symm))
  have BO := hide ((unhide BO).trans on)
  have KP := hide ((unhide KP).only on (.inr (unhide HU)))
  clear om on gr O3
  go_wp2_with fail
  go_ret
  exact ⟨rfl, ⟨unhide OM1, unhide OM2, unhide OM3, unhide P12, unhide P13, unhide P23⟩, unhide BO⟩
set_option maxRecDepth 20000 in
set_option maxHeartbeats 2000000 in
theorem heldPanel_any (base : Nat) (a1 a2 a3 : Option Addr) (l1 c1 l2 c2 l3 c3 : Nat) (z1 : List ByteArray) (z2 : List ByteArray) (z3 : List ByteArray) (k : Int) (w : World) (h : PnOwn w base a1 a2 a3 l1 c1 l2 c2 l3 c3 (markL mkT 1 z1 k l1) (markL mkT 1 z2 (k + (l1 : Int)) l2) (markL mkT 1 z3 (k + (l1 : Int) + (l2 : Int)) l3)) (e1 : z1.length = l1) (q1 : l1 ≤ 1048576) (e2 : z2.length = l2) (q2 : l2 ≤ 1048576) (e3 : z3.length = l3) (q3 : l3 ≤ 1048576) (hk0 : 1 ≤ k) (hk1 : k ≤ 100000000) :
    Calls Tryz.prog 18 #[.agg #[.slice a1 l1 c1, .slice a2 l2 c2, .slice a3 l3 c3], .int .i64 k] w fun x w' => x = .returned (.int .i64 (k + (l1 : Int) + (l2 : Int) + (l3 : Int))) ∧ Below w.heap.size w w' := by
  have E1 := hide e1
  have E2 := hide e2
  have E3 := hide e3
  obtain ⟨W, hW⟩ : ∃ W, W = w.alloc (Obj.cells #[.slice a1 l1 c1, .slice a2 l2 c2, .slice a3 l3 c3] 29) := ⟨_, rfl⟩
  have bW : Below w.heap.size w W := by rw [hW]; exact bel1 _
  have KP : Hid (Blk W w.heap.size [.slice a1 l1 c1, .slice a2 l2 c2, .slice a3 l3 c3]) := hide (by rw [hW]; exact Blk.new _ _)
  have HO := hide (h.below bW)
  have BW := hide bW
  have HW := hide hW
  clear h hW bW e1 e2 e3
  go_enter Tryz.func18, Tryz.ntmps18
  go_wp2_with fail
  rw [← unhide HW]
  clear HW
  have n1 : ¬ (k + (l1 : Int) < 0) := by omega
  refine (heldStringS_bel _ _ _ z1 (k) _ (unhide HO).o1.row (unhide E1) q1 (by omega) (by omega)).mono ?_
  rintro x v1 ⟨rfl, b⟩
  have HO := hide ((unhide HO).below b)
  have KP := hide ((unhide KP).below b)
  have BW := hide ((unhide BW).trans (b.mono (unhide BW).size))
  clear b
  have m2 : v1.cell? ⟨w.heap.size, 1, none⟩ = some (.slice a2 l2 c2) := (unhide KP).c 1 (by simp)
  go_wp2_with fail
  clear m2
  have n2 : ¬ (k + (l1 : Int) + (l2 : Int) < 0) := by omega
  refine (heldStringS_bel _ _ _ z2 (k + (l1 : Int)) _ (unhide HO).o2.row (unhide E2) q2 (by omega) (by omega)).mono ?_
  rintro x v2 ⟨rfl, b⟩
  have HO := hide ((unhide HO).below b)
  have KP := hide ((unhide KP).below b)
  have BW := hide ((unhide BW).trans (b.mono (unhide BW).size))
  clear b
  have m3 : v2.cell? ⟨w.heap.size, 2, none⟩ = some (.slice a3 l3 c3) := (unhide KP).c 2 (by simp)
  go_wp2_with fail
  clear m3
  have n3 : ¬ (k + (l1 : Int) + (l2 : Int) + (l3 : Int) < 0) := by omega
  refine (heldStringS_bel _ _ _ z3 (k + (l1 : Int) + (l2 : Int)) _ (unhide HO).o3.row (unhide E3) q3 (by omega) (by omega)).mono ?_
  rintro x v3 ⟨rfl, b⟩
  have HO := hide ((unhide HO).below b)
  have KP := hide ((unhide KP).below b)
  have BW := hide ((unhide BW).trans (b.mono (unhide BW).size))
  clear b
  go_wp2_with fail
  go_ret
  exact ⟨rfl, unhide BW⟩

end Go.Proofs.YtbaocifpifbldawGreat

namespace Go.Proofs.YtbaocifpifbldawGreat
open Go.RowKit

set_option maxRecDepth 20000 in
set_option maxHeartbeats 2000000 in
theorem markPanel_keep (base : Nat) (a1 a2 a3 : Option Addr) (l1 c1 l2 c2 l3 c3 : Nat) (z1 : List ByteArray) (z2 : List ByteArray) (z3 : List ByteArray) (k : Int) (w : World) (h : PnOwn w base a1 a2 a3 l1 c1 l2 c2 l3 c3 z1 z2 z3) (e1 : z1.length = l1) (q1 : l1 ≤ 1048576) (e2 : z2.length = l2) (q2 : l2 ≤ 1048576) (e3 : z3.length = l3) (q3 : l3 ≤ 1048576) (hk0 : 1 ≤ k) (hk1 : k ≤ 100000000) (b u : Nat) (hl : PnLies b u a1 a2 a3 l1 c1 l2 c2 l3 c3) (hu : u ≤ w.heap.size) (base4 : Nat) (x4 : Value) (L4 : List ByteArray) (h4 : OwnE 1 stC w base4 9 x4 L4) (hf4 : ∀ g, x4.ownBlock = some g → (Value.slice a1 l1 c1).ownBlock ≠ some g ∧ (Value.slice a2 l2 c2).ownBlock ≠ some g ∧ (Value.slice a3 l3 c3).ownBlock ≠ some g) :
    Calls Tryz.prog 16 #[.agg #[.slice a1 l1 c1, .slice a2 l2 c2, .slice a3 l3 c3], .int .i64 k] w fun x w' => x = .returned (.int .i64 (k + (l1 : Int) + (l2 : Int) + (l3 : Int))) ∧ PnOwn w' base a1 a2 a3 l1 c1 l2 c2 l3 c3 (markL mkT 1 z1 k l1) (markL mkT 1 z2 (k + (l1 : Int)) l2) (markL mkT 1 z3 (k + (l1 : Int) + (l2 : Int)) l3) ∧ OwnE 1 stC w' base4 9 x4 L4 ∧ Only b u w w' := by
  have LI := hide hl
  have P12 := hide h.p12
  have P13 := hide h.p13
  have P23 := hide h.p23
  have E1 := hide e1
  have E2 := hide e2
  have E3 := hide e3
  obtain ⟨W, hW⟩ : ∃ W, W = w.alloc (Obj.cells #[.slice a1 l1 c1, .slice a2 l2 c2, .slice a3 l3 c3] 29) := ⟨_, rfl⟩
  have bW : Below w.heap.size w W := by rw [hW]; exact bel1 _
  have KP : Hid (Blk W w.heap.size [.slice a1 l1 c1, .slice a2 l2 c2, .slice a3 l3 c3]) := hide (by rw [hW]; exact Blk.new _ _)
  have O1 := hide (h.o1.below bW)
  have O2 := hide (h.o2.below bW)
  have O3 := hide (h.o3.below bW)
  have O4 := hide (h4.below bW)
  have F4 := hide hf4
  have BO : Hid (Only b u w W) := hide (Only.of_below bW)
  have HW := hide hW
  have HU := hide hu
  clear h hW bW hl hu e1 e2 e3 h4 hf4
  go_enter Tryz.func16, Tryz.ntmps16
  go_wp2_with fail
  rw [← unhide HW]
  clear HW
  refine (markStringS_any base _ _ _ z1 (k) _ (unhide O1) (unhide E1) q1 (by omega) (by omega)).mono ?_
  rintro x v1 ⟨rfl, om, gr⟩
  have OM1 := hide om
  have on := Only.of_row (lo := b) (hi := u) gr (fun g hg => (unhide LI).1 g hg)
  have O2 := hide ((unhide O2).far gr (fun g hg e => (unhide P12) g e.symm hg))
  have O3 := hide ((unhide O3).far gr (fun g hg e => (unhide P13) g e.symm hg))
  have O4 := hide ((unhide O4).far gr (fun g hg e => (unhide F4 g hg).1 e.symm))
  have BO := hide ((unhide BO).trans on)
  have KP := hide ((unhide KP).only on (.inr (unhide HU)))
  clear om on gr O1
  have m2 : v1.cell? ⟨w.heap.size, 1, none⟩ = some (.slice a2 l2 c2) := (unhide KP).c 1 (by simp)
  go_wp2_with fail
  clear m2
  refine (markStringS_any base _ _ _ z2 (k + (l1 : Int)) _ (unhide O2) (unhide E2) q2 (by omega) (by omega)).mono ?_
  rintro x v2 ⟨rfl, om, gr⟩
  have OM2 := hide om
  have on := Only.of_row (lo := b) (hi := u) gr (fun g hg => (unhide LI).2.1 g hg)
  have OM1 := hide ((unhide OM1).far gr (fun g hg e => (unhide P12) g hg e.symm))
  have O3 := hide ((unhide O3).far gr (fun g hg e => (unhide P23) g e.symm hg))
  have O4 := hide ((unhide O4).far gr (fun g hg e => (unhide F4 g hg).2.1 e.symm))
  have BO := hide ((unhide BO).trans on)
  have KP := hide ((unhide KP).only on (.inr (unhide HU)))
  clear om on gr O2
  have m3 : v2.cell? ⟨w.heap.size, 2, none⟩ = some (.slice a3 l3 c3) := (unhide KP).c 2 (by simp)
  go_wp2_with fail
  clear m3
  refine (markStringS_any base _ _ _ z3 (k + (l1 : Int) + (l2 : Int)) _ (unhide O3) (unhide E3) q3 (by omega) (by omega)).mono ?_
  rintro x v3 ⟨rfl, om, gr⟩
  have OM3 := hide om
  have on := Only.of_row (lo := b) (hi := u) gr (fun g hg => (unhide LI).2.2 g hg)
  have OM1 := hide ((unhide OM1).far gr (fun g hg e => (unhide P13) g hg e.symm))
  have OM2 := hide ((unhide OM2).far gr (fun g hg e => (unhide P23) g hg e.symm))
  have O4 := hide ((unhide O4).far gr (fun g hg e => (unhide F4 g hg).2.2 e.symm))
  have BO := hide ((unhide BO).trans on)
  have KP := hide ((unhide KP).only on (.inr (unhide HU)))
  clear om on gr O3
  go_wp2_with fail
  go_ret
  exact ⟨rfl, ⟨unhide OM1, unhide OM2, unhide OM3, unhide P12, unhide P13, unhide P23⟩, unhide O4, unhide BO⟩

theorem PnOwn.far4 {w w' : World} {base : Nat} {a1 a2 a3 : Option Addr} {l1 c1 l2 c2 l3 c3 : Nat} {z1 z2 z3 : List ByteArray} {x4 : Value} (h : PnOwn w base a1 a2 a3 l1 c1 l2 c2 l3 c3 z1 z2 z3) (gr : w.grownBy w' x4.ownBlock) (hf4 : ∀ g, x4.ownBlock = some g → (Value.slice a1 l1 c1).ownBlock ≠ some g ∧ (Value.slice a2 l2 c2).ownBlock ≠ some g ∧ (Value.slice a3 l3 c3).ownBlock ≠ some g) : PnOwn w' base a1 a2 a3 l1 c1 l2 c2 l3 c3 z1 z2 z3 :=
  ⟨h.o1.far gr (fun g hg e => (hf4 g e.symm).1 hg), h.o2.far gr (fun g hg e => (hf4 g e.symm).2.1 hg), h.o3.far gr (fun g hg e => (hf4 g e.symm).2.2 hg), h.p12, h.p13, h.p23⟩

end Go.Proofs.YtbaocifpifbldawGreat

namespace Go.Proofs.YtbaocifpifbldawGreat
open Go.RowKit

def txFit (len : Nat) (ts : List ByteArray) : Prop := ∀ i, i < len → (elAt ts i).size ≤ 9223372036854775807
set_option maxRecDepth 20000 in
set_option maxHeartbeats 1000000 in
theorem szPanel_any (a1 a2 a3 : Option Addr) (l1 c1 l2 c2 l3 c3 : Nat) (z1 z2 z3 : List ByteArray) (left : Int) (w : World) (hr : PnIn w a1 a2 a3 l1 l2 l3 z1 z2 z3) (f1 : txFit l1 z1) (f2 : txFit l2 z2) (f3 : txFit l3 z3) (h0 : 0 ≤ left) (h1 : left ≤ 1048576) :
    Calls Tryz.prog 5 #[.agg #[.slice a1 l1 c1, .slice a2 l2 c2, .slice a3 l3 c3], .int .i64 left] w fun e w' => (∃ r : Int, e = .returned (.int .i64 r) ∧ (r < 0 ∨ (0 ≤ r ∧ r ≤ left ∧ l1 ≤ 1048576 ∧ l2 ≤ 1048576 ∧ l3 ≤ 1048576))) ∧ Below w.heap.size w w' := by
  have HR := hide (hr.below (bel1 (Obj.cells #[.slice a1 l1 c1, .slice a2 l2 c2, .slice a3 l3 c3] 25)))
  have F1 := hide f1
  have F2 := hide f2
  have F3 := hide f3
  clear hr f1 f2 f3
  go_enter Tryz.func5, Tryz.ntmps5
  go_wp2_with fail
  refine (szStringS_any _ _ _ z1 left _ (unhide HR).r1 (unhide F1) (by omega) (by omega)).mono ?_
  rintro e w' ⟨⟨r1, rfl, hr1⟩, hw⟩
  subst w'
  rcases hr1 with hr1 | ⟨p1, p2, p3⟩
  · go_wp2_with fail
    go_ret
    exact ⟨⟨_, rfl, .inl (by omega)⟩, bel1 _⟩
  have n1 : ¬ r1 < 0 := by omega
  go_wp2_with fail
  refine (szStringS_any _ _ _ z2 r1 _ (unhide HR).r2 (unhide F2) (by omega) (by omega)).mono ?_
  rintro e w' ⟨⟨r2, rfl, hr2⟩, hw⟩
  subst w'
  rcases hr2 with hr2 | ⟨p4, p5, p6⟩
  · go_wp2_with fail
    go_ret
    exact ⟨⟨_, rfl, .inl (by omega)⟩, bel1 _⟩
  have n2 : ¬ r2 < 0 := by omega
  go_wp2_with fail
  refine (szStringS_any _ _ _ z3 r2 _ (unhide HR).r3 (unhide F3) (by omega) (by omega)).mono ?_
  rintro e w' ⟨⟨r3, rfl, hr3⟩, hw⟩
  subst w'
  rcases hr3 with hr3 | ⟨p7, p8, p9⟩
  · go_wp2_with fail
    go_ret
    exact ⟨⟨_, rfl, .inl (by omega)⟩, bel1 _⟩
  have n3 : ¬ r3 < 0 := by omega
  go_wp2_with fail
  go_ret
  exact ⟨⟨_, rfl, .inr ⟨by omega, by omega, by omega, by omega, by omega⟩⟩, bel1 _⟩

end Go.Proofs.YtbaocifpifbldawGreat

/-
  The law's marks in the lists of a Fleet that a call has made: nothing else is written, and the marks are found again. At lists of at most 1048576.
  Worlds in which only blocks of a set have turned; what is owned or boxed elsewhere stays. No condition.
  The law's marks in the lists of a Fleet that a call has made: only the blocks of its lists have turned. At lists of at most 1048576.
-/
import Derived.Test.YtglefolkecimabcGreatFlTo
import Derived.Test.YtglefolkecimabcGreatMk1
import Derived.Test.YtglefolkecimabcGreatBk1

namespace Go.Proofs.YtglefolkecimabcGreat
open Go.RowKit
set_option maxRecDepth 20000 in
set_option maxHeartbeats 2000000 in
theorem markFleet_own (nh nc nd : Int) (base : Nat) (a1 a2 a3 : Option Addr) (l1 c1 l2 c2 l3 c3 : Nat) (z1 : List Ts) (z2 : List Cr) (z3 : List Df) (k : Int) (w : World) (h : FlOwn w base a1 a2 a3 l1 c1 l2 c2 l3 c3 z1 z2 z3) (e1 : z1.length = l1) (q1 : l1 ≤ 1048576) (e2 : z2.length = l2) (q2 : l2 ≤ 1048576) (e3 : z3.length = l3) (q3 : l3 ≤ 1048576) (hk0 : 1 ≤ k) (hk1 : k ≤ 100000000) (b u : Nat) (hl : FlLies b u a1 a2 a3 l1 c1 l2 c2 l3 c3) (hu : u ≤ w.heap.size) :
    Calls Tryz.prog 12 #[.agg #[.slice a1 l1 c1, .slice a2 l2 c2, .slice a3 l3 c3, .int .i64 nh, .int .i64 nc, .int .i64 nd], .int .i64 k] w fun x w' => x = .returned (.int .i64 (k + 7 * (l1 : Int) + 3 * (l2 : Int) + 3 * (l3 : Int))) ∧ FlOwn w' base a1 a2 a3 l1 c1 l2 c2 l3 c3 (markL mkTs 7 z1 k l1) (markL mkCr 3 z2 (k + 7 * (l1 : Int)) l2) (markL mkDf 3 z3 (k + 7 * (l1 : Int) + 3 * (l2 : Int)) l3) ∧ Only b u w w' := by
  have LI := hide hl
  have P12 := hide h.p12
  have P13 := hide h.p13
  have P23 := hide h.p23
  have E1 := hide e1
  have E2 := hide e2
  have E3 := hide e3
  obtain ⟨W, hW⟩ : ∃ W, W = w.alloc (Obj.cells #[.slice a1 l1 c1, .slice a2 l2 c2, .slice a3 l3 c3, .int .i64 nh, .int .i64 nc, .int .i64 nd] 38) := ⟨_, rfl⟩
  have bW : Below w.heap.size w W := by rw [hW]; exact bel1 _
  have KP : Hid (Blk W w.heap.size [.slice a1 l1 c1, .slice a2 l2 c2, .slice a3 l3 c3, .int .i64 nh, .int .i64 nc, .int .i64 nd]) := hide (by rw [hW]; exact Blk.new _ _)
  have O1 := hide (h.o1.below bW)
  have O2 := hide (h.o2.below bW)
  have O3 := hide (h.o3.below bW)
  have BO : Hid (Only b u w W) := hide (Only.of_below bW)
  have HW := hide hW
  have HU := hide hu
  clear h hW bW hl hu e1 e2 e3
  go_enter Tryz.func12, Tryz.ntmps12
  go_wp2_with fail
  rw [← unhide HW]
  clear HW
  refine (markTaskS_any base _ _ _ z1 (k) _ (unhide O1) (unhide E1) q1 (by omega) (by omega)).mono ?_
  rintro x v1 ⟨rfl, om, gr⟩
  have OM1 := hide om
  have on := Only.of_row (lo := b) (hi := u) gr (fun g hg => (unhide LI).1 g hg)
  have O2 := hide ((unhide O2).far gr (fun g hg e => (unhide P12) g e.symm hg))
  have O3 := hide ((unhide O3).far gr (fun g hg e => (unhide P13) g e.symm hg))
  have BO := hide ((unhide BO).trans on)
  have KP := hide ((unhide KP).only on (.inr (unhide HU)))
  clear om on gr O1
  have m2 : v1.cell? ⟨w.heap.size, 1, none⟩ = some (.slice a2 l2 c2) := (unhide KP).c 1 (by simp)
  go_wp2_with fail
  clear m2
  refine (markCarryS_any base _ _ _ z2 (k + 7 * (l1 : Int)) _ (unhide O2) (unhide E2) q2 (by omega) (by omega)).mono ?_
  rintro x v2 ⟨rfl, om, gr⟩
  have OM2 := hide om
  have on := Only.of_row (lo := b) (hi := u) gr (fun g hg => (unhide LI).2.1 g hg)
  have OM1 := hide ((unhide OM1).far gr (fun g hg e => (unhide P12) g hg e.symm))
  have O3 := hide ((unhide O3).far gr (fun g hg e => (unhide P23) g e.symm hg))
  have BO := hide ((unhide BO).trans on)
  have KP := hide ((unhide KP).only on (.inr (unhide HU)))
  clear om on gr O2
  have m3 : v2.cell? ⟨w.heap.size, 2, none⟩ = some (.slice a3 l3 c3) := (unhide KP).c 2 (by simp)
  go_wp2_with fail
  clear m3
  refine (markDefectS_any base _ _ _ z3 (k + 7 * (l1 : Int) + 3 * (l2 : Int)) _ (unhide O3) (unhide E3) q3 (by omega) (by omega)).mono ?_
  rintro x v3 ⟨rfl, om, gr⟩
  have OM3 := hide om
  have on := Only.of_row (lo := b) (hi := u) gr (fun g hg => (unhide LI).2.2 g hg)
  have OM1 := hide ((unhide OM1).far gr (fun g hg e => (unhide P13) g hg e.symm))
  have OM2 := hide ((unhide OM2).far gr (fun g hg e => (unhide P23) g hg e.symm))
  have BO := hide ((unhide BO).trans on)
  have KP := hide ((unhide KP).only on (.inr (unhide HU)))
  clear om on gr O3
  go_wp2_with fail
  go_ret
  exact ⟨rfl, ⟨unhide OM1, unhide OM2, unhide OM3, unhide P12, unhide P13, unhide P23⟩, unhide BO⟩
set_option maxRecDepth 20000 in
set_option maxHeartbeats 2000000 in
theorem heldFleet_any (nh nc nd : Int) (base : Nat) (a1 a2 a3 : Option Addr) (l1 c1 l2 c2 l3 c3 : Nat) (z1 : List Ts) (z2 : List Cr) (z3 : List Df) (k : Int) (w : World) (h : FlOwn w base a1 a2 a3 l1 c1 l2 c2 l3 c3 (markL mkTs 7 z1 k l1) (markL mkCr 3 z2 (k + 7 * (l1 : Int)) l2) (markL mkDf 3 z3 (k + 7 * (l1 : Int) + 3 * (l2 : Int)) l3)) (e1 : z1.length = l1) (q1 : l1 ≤ 1048576) (e2 : z2.length = l2) (q2 : l2 ≤ 1048576) (e3 : z3.length = l3) (q3 : l3 ≤ 1048576) (hk0 : 1 ≤ k) (hk1 : k ≤ 100000000) :
    Calls Tryz.prog 13 #[.agg #[.slice a1 l1 c1, .slice a2 l2 c2, .slice a3 l3 c3, .int .i64 nh, .int .i64 nc, .int .i64 nd], .int .i64 k] w fun x w' => x = .returned (.int .i64 (k + 7 * (l1 : Int) + 3 * (l2 : Int) + 3 * (l3 : Int))) ∧ Below w.heap.size w w' := by
  have E1 := hide e1
  have E2 := hide e2
  have E3 := hide e3
  obtain ⟨W, hW⟩ : ∃ W, W = w.alloc (Obj.cells #[.slice a1 l1 c1, .slice a2 l2 c2, .slice a3 l3 c3, .int .i64 nh, .int .i64 nc, .int .i64 nd] 38) := ⟨_, rfl⟩
  have bW : Below w.heap.size w W := by rw [hW]; exact bel1 _
  have KP : Hid (Blk W w.heap.size [.slice a1 l1 c1, .slice a2 l2 c2, .slice a3 l3 c3, .int .i64 nh, .int .i64 nc, .int .i64 nd]) := hide (by rw [hW]; exact Blk.new _ _)
  have HO := hide (h.below bW)
  have BW := hide bW
  have HW := hide hW
  clear h hW bW e1 e2 e3
  go_enter Tryz.func13, Tryz.ntmps13
  go_wp2_with fail
  rw [← unhide HW]
  clear HW
  have n1 : ¬ (k + 7 * (l1 : Int) < 0) := by omega
  refine (heldTaskS_any base _ _ _ z1 (k) _ (unhide HO).o1 (unhide E1) q1 (by omega) (by omega)).mono ?_
  rintro x v1 ⟨rfl, b⟩
  have HO := hide ((unhide HO).below b)
  have KP := hide ((unhide KP).below b)
  have BW := hide ((unhide BW).trans (b.mono (unhide BW).size))
  clear b
  have m2 : v1.cell? ⟨w.heap.size, 1, none⟩ = some (.slice a2 l2 c2) := (unhide KP).c 1 (by simp)
  go_wp2_with fail
  clear m2
  have n2 : ¬ (k + 7 * (l1 : Int) + 3 * (l2 : Int) < 0) := by omega
  refine (heldCarryS_any base _ _ _ z2 (k + 7 * (l1 : Int)) _ (unhide HO).o2 (unhide E2) q2 (by omega) (by omega)).mono ?_
  rintro x v2 ⟨rfl, b⟩
  have HO := hide ((unhide HO).below b)
  have KP := hide ((unhide KP).below b)
  have BW := hide ((unhide BW).trans (b.mono (unhide BW).size))
  clear b
  have m3 : v2.cell? ⟨w.heap.size, 2, none⟩ = some (.slice a3 l3 c3) := (unhide KP).c 2 (by simp)
  go_wp2_with fail
  clear m3
  have n3 : ¬ (k + 7 * (l1 : Int) + 3 * (l2 : Int) + 3 * (l3 : Int) < 0) := by omega
  refine (heldDefectS_any base _ _ _ z3 (k + 7 * (l1 : Int) + 3 * (l2 : Int)) _ (unhide HO).o3 (unhide E3) q3 (by omega) (by omega)).mono ?_
  rintro x v3 ⟨rfl, b⟩
  have HO := hide ((unhide HO).below b)
  have KP := hide ((unhide KP).below b)
  have BW := hide ((unhide BW).trans (b.mono (unhide BW).size))
  clear b
  go_wp2_with fail
  go_ret
  exact ⟨rfl, unhide BW⟩

end Go.Proofs.YtglefolkecimabcGreat

namespace Go.Proofs.YtglefolkecimabcGreat
open Go.RowKit

/-- Only blocks of the set have turned. -/
structure Aps (S : Nat → Prop) (w w' : World) : Prop where
  os : w'.os = w.os
  tape : w'.tape = w.tape
  output : w'.output = w.output
  size : w.heap.size ≤ w'.heap.size
  block : ∀ k, k < w.heap.size → ¬ S k → w'.heap[k]? = w.heap[k]?
theorem Aps.refl (S : Nat → Prop) (w : World) : Aps S w w := ⟨rfl, rfl, rfl, Nat.le_refl _, fun _ _ _ => rfl⟩
theorem Aps.trans {S : Nat → Prop} {a b c : World} (h : Aps S a b) (k : Aps S b c) : Aps S a c :=
  ⟨k.os.trans h.os, k.tape.trans h.tape, k.output.trans h.output, Nat.le_trans h.size k.size, fun i hi he => (k.block i (Nat.lt_of_lt_of_le hi h.size) he).trans (h.block i hi he)⟩
theorem Aps.of_row {S : Nat → Prop} {w w' : World} {row : Option Nat} (h : w.grownBy w' row) (hr : ∀ g, row = some g → S g) : Aps S w w' :=
  ⟨h.os, h.tape, h.output, h.size, fun k hk he => h.block k hk (fun e => he (hr k e.symm))⟩
theorem Aps.of_below {S : Nat → Prop} {w w' : World} (h : Below w.heap.size w w') : Aps S w w' :=
  ⟨h.os, h.tape, h.output, h.size, fun k hk _ => h.block k hk⟩
theorem Aps.mono {S S' : Nat → Prop} {w w' : World} (h : Aps S w w') (h1 : ∀ k, S k → S' k) : Aps S' w w' :=
  ⟨h.os, h.tape, h.output, h.size, fun k hk he => h.block k hk (fun e => he (h1 k e))⟩
theorem Aps.below {S : Nat → Prop} {B : Nat} {w w' : World} (h : Aps S w w') (hb : ∀ k, S k → B ≤ k) (hs : B ≤ w.heap.size) : Below B w w' :=
  ⟨h.os, h.tape, h.output, h.size, fun k hk => h.block k (by omega) (fun e => by have := hb k e; omega)⟩
theorem below_aps {S : Nat → Prop} {B : Nat} {a w w' : World} (h : Below B a w) (k : Aps S w w') (hb : ∀ k, S k → B ≤ k) (hs : B ≤ a.heap.size) : Below B a w' :=
  h.trans (k.below hb (Nat.le_trans hs h.size))
theorem Blk.aps {S : Nat → Prop} {w w' : World} {B : Nat} {vs : List Value} (h : Blk w B vs) (k : Aps S w w') (ho : ¬ S B) : Blk w' B vs := by
  have hb := k.block B h.lt ho
  refine ⟨fun i hi => (World.cell?_of_block (a := ⟨B, i, none⟩) hb).trans (h.c i hi), fun i hi => ?_, Nat.lt_of_lt_of_le h.lt k.size⟩
  have h2 := h.f i hi
  unfold World.frozen? at h2 ⊢
  simp only at h2 ⊢
  rw [hb]; exact h2
theorem OwnE.aps {α : Type} [Inhabited α] {K : Nat} {cells : α → Nat → Value} {S : Nat → Prop} {w w' : World} {base : Nat} {T : TypeId} {v : Value} {ps : List α} (h : OwnE K cells w base T v ps) (k : Aps S w w') (hne : ∀ g, v.ownBlock = some g → ¬ S g) : OwnE K cells w' base T v ps := by
  obtain ⟨xs, ⟨h1, h2⟩, hx⟩ := h.own
  refine ⟨⟨xs, ⟨h1, ?_⟩, hx⟩⟩
  rcases h2 with h2 | ⟨g, cap, cur, rfl, b, c, d⟩
  · exact .inl h2
  · refine .inr ⟨g, cap, cur, rfl, b, ?_, d⟩
    have hg : g < w.heap.size := by
      rcases Nat.lt_or_ge g w.heap.size with hlt | hge
      · exact hlt
      · rw [Array.getElem?_eq_none hge] at c; cases c
    rw [k.block g hg (hne g rfl)]; exact c
/-- A list that was written out, in a block of its own. -/
theorem ownE_lit {α : Type} [Inhabited α] {K : Nat} {cells : α → Nat → Value} {w : World} {base : Nat} {T : TypeId} {ps : List α} {vs : List Value} {n : Nat} (hb : base ≤ w.heap.size) (hn : ps.length = n) (hm : n ≤ 1000) (hl : vs.length = n * K)
    (hc : ∀ j, j < n → ∀ q, q < K → vs[j * K + q]? = some (cells (elAt ps j) q)) : OwnE K cells (w.alloc (Obj.cells vs.toArray T)) base T (.slice (some ⟨w.heap.size, 0, none⟩) n n) ps := by
  subst hn
  refine ⟨⟨vs, ⟨hl, .inr ⟨_, _, vs.toArray, rfl, hb, ?_, Nat.le_refl _, by unfold maxLen; omega, by simpa using hl, by simp [← hl]⟩⟩, hc⟩⟩
  show (w.heap.push _)[w.heap.size]? = _
  simp

end Go.Proofs.YtglefolkecimabcGreat

namespace Go.Proofs.YtglefolkecimabcGreat
open Go.RowKit

/-- The blocks of a fleet's lists. -/
def flS (a1 a2 a3 : Option Addr) (l1 c1 l2 c2 l3 c3 : Nat) (k : Nat) : Prop := (Value.slice a1 l1 c1).ownBlock = some k ∨ (Value.slice a2 l2 c2).ownBlock = some k ∨ (Value.slice a3 l3 c3).ownBlock = some k
theorem FlOwn.in_ {w : World} {base : Nat} {a1 a2 a3 : Option Addr} {l1 c1 l2 c2 l3 c3 : Nat} {z1 : List Ts} {z2 : List Cr} {z3 : List Df} (h : FlOwn w base a1 a2 a3 l1 c1 l2 c2 l3 c3 z1 z2 z3) {k : Nat} (hk : flS a1 a2 a3 l1 c1 l2 c2 l3 c3 k) : base ≤ k ∧ k < w.heap.size := by
  rcases hk with hk | hk | hk
  · exact h.o1.lies k hk
  · exact h.o2.lies k hk
  · exact h.o3.lies k hk
theorem flS_top {w : World} {base : Nat} {a1 a2 a3 : Option Addr} {l1 c1 l2 c2 l3 c3 : Nat} {z1 : List Ts} {z2 : List Cr} {z3 : List Df} (h : FlOwn w base a1 a2 a3 l1 c1 l2 c2 l3 c3 z1 z2 z3) : ¬ flS a1 a2 a3 l1 c1 l2 c2 l3 c3 w.heap.size := fun e => by
  have := (h.in_ e).2
  omega
theorem FlOwn.aps {w : World} {base : Nat} {a1 a2 a3 : Option Addr} {l1 c1 l2 c2 l3 c3 : Nat} {z1 : List Ts} {z2 : List Cr} {z3 : List Df} {S : Nat → Prop} {w' : World} (h : FlOwn w base a1 a2 a3 l1 c1 l2 c2 l3 c3 z1 z2 z3) (k : Aps S w w') (hne : ∀ i, flS a1 a2 a3 l1 c1 l2 c2 l3 c3 i → ¬ S i) : FlOwn w' base a1 a2 a3 l1 c1 l2 c2 l3 c3 z1 z2 z3 :=
  ⟨h.o1.aps k (fun i hi => hne i (.inl hi)), h.o2.aps k (fun i hi => hne i (.inr (.inl hi))), h.o3.aps k (fun i hi => hne i (.inr (.inr hi))), h.p12, h.p13, h.p23⟩
set_option maxRecDepth 20000 in
set_option maxHeartbeats 2000000 in
theorem markFleet_aps (nh nc nd : Int) (base : Nat) (a1 a2 a3 : Option Addr) (l1 c1 l2 c2 l3 c3 : Nat) (z1 : List Ts) (z2 : List Cr) (z3 : List Df) (k : Int) (w : World) (h : FlOwn w base a1 a2 a3 l1 c1 l2 c2 l3 c3 z1 z2 z3) (e1 : z1.length = l1) (q1 : l1 ≤ 1048576) (e2 : z2.length = l2) (q2 : l2 ≤ 1048576) (e3 : z3.length = l3) (q3 : l3 ≤ 1048576) (hk0 : 1 ≤ k) (hk1 : k ≤ 100000000) :
    Calls Tryz.prog 12 #[.agg #[.slice a1 l1 c1, .slice a2 l2 c2, .slice a3 l3 c3, .int .i64 nh, .int .i64 nc, .int .i64 nd], .int .i64 k] w fun x w' => x = .returned (.int .i64 (k + 7 * (l1 : Int) + 3 * (l2 : Int) + 3 * (l3 : Int))) ∧ FlOwn w' base a1 a2 a3 l1 c1 l2 c2 l3 c3 (markL mkTs 7 z1 k l1) (markL mkCr 3 z2 (k + 7 * (l1 : Int)) l2) (markL mkDf 3 z3 (k + 7 * (l1 : Int) + 3 * (l2 : Int)) l3) ∧ Aps (flS a1 a2 a3 l1 c1 l2 c2 l3 c3) w w' := by
  have NS : Hid (¬ (flS a1 a2 a3 l1 c1 l2 c2 l3 c3) w.heap.size) := hide (flS_top h)
  have P12 := hide h.p12
  have P13 := hide h.p13
  have P23 := hide h.p23
  have E1 := hide e1
  have E2 := hide e2
  have E3 := hide e3
  obtain ⟨W, hW⟩ : ∃ W, W = w.alloc (Obj.cells #[.slice a1 l1 c1, .slice a2 l2 c2, .slice a3 l3 c3, .int .i64 nh, .int .i64 nc, .int .i64 nd] 38) := ⟨_, rfl⟩
  have bW : Below w.heap.size w W := by rw [hW]; exact bel1 _
  have KP : Hid (Blk W w.heap.size [.slice a1 l1 c1, .slice a2 l2 c2, .slice a3 l3 c3, .int .i64 nh, .int .i64 nc, .int .i64 nd]) := hide (by rw [hW]; exact Blk.new _ _)
  have O1 := hide (h.o1.below bW)
  have O2 := hide (h.o2.below bW)
  have O3 := hide (h.o3.below bW)
  have BO : Hid (Aps (flS a1 a2 a3 l1 c1 l2 c2 l3 c3) w W) := hide (Aps.of_below bW)
  have HW := hide hW
  clear h hW bW e1 e2 e3
  go_enter Tryz.func12, Tryz.ntmps12
  go_wp2_with fail
  rw [← unhide HW]
  clear HW
  refine (markTaskS_any base _ _ _ z1 (k) _ (unhide O1) (unhide E1) q1 (by omega) (by omega)).mono ?_
  rintro x v1 ⟨rfl, om, gr⟩
  have OM1 := hide om
  have on := Aps.of_row (S := flS a1 a2 a3 l1 c1 l2 c2 l3 c3) gr (fun g hg => .inl hg)
  have O2 := hide ((unhide O2).far gr (fun g hg e => (unhide P12) g e.symm hg))
  have O3 := hide ((unhide O3).far gr (fun g hg e => (unhide P13) g e.symm hg))
  have BO := hide ((unhide BO).trans on)
  have KP := hide ((unhide KP).aps on (unhide NS))
  clear om on gr O1
  have m2 : v1.cell? ⟨w.heap.size, 1, none⟩ = some (.slice a2 l2 c2) := (unhide KP).c 1 (by simp)
  go_wp2_with fail
  clear m2
  refine (markCarryS_any base _ _ _ z2 (k + 7 * (l1 : Int)) _ (unhide O2) (unhide E2) q2 (by omega) (by omega)).mono ?_
  rintro x v2 ⟨rfl, om, gr⟩
  have OM2 := hide om
  have on := Aps.of_row (S := flS a1 a2 a3 l1 c1 l2 c2 l3 c3) gr (fun g hg => .inr (.inl hg))
  have OM1 := hide ((unhide OM1).far gr (fun g hg e => (unhide P12) g hg e.symm))
  have O3 := hide ((unhide O3).far gr (fun g hg e => (unhide P23) g e.symm hg))
  have BO := hide ((unhide BO).trans on)
  have KP := hide ((unhide KP).aps on (unhide NS))
  clear om on gr O2
  have m3 : v2.cell? ⟨w.heap.size, 2, none⟩ = some (.slice a3 l3 c3) := (unhide KP).c 2 (by simp)
  go_wp2_with fail
  clear m3
  refine (markDefectS_any base _ _ _ z3 (k + 7 * (l1 : Int) + 3 * (l2 : Int)) _ (unhide O3) (unhide E3) q3 (by omega) (by omega)).mono ?_
  rintro x v3 ⟨rfl, om, gr⟩
  have OM3 := hide om
  have on := Aps.of_row (S := flS a1 a2 a3 l1 c1 l2 c2 l3 c3) gr (fun g hg => .inr (.inr hg))
  have OM1 := hide ((unhide OM1).far gr (fun g hg e => (unhide P13) g hg e.symm))
  have OM2 := hide ((unhide OM2).far gr (fun g hg e => (unhide P23) g hg e.symm))
  have BO := hide ((unhide BO).trans on)
  have KP := hide ((unhide KP).aps on (unhide NS))
  clear om on gr O3
  go_wp2_with fail
  go_ret
  exact ⟨rfl, ⟨unhide OM1, unhide OM2, unhide OM3, unhide P12, unhide P13, unhide P23⟩, unhide BO⟩

end Go.Proofs.YtglefolkecimabcGreat

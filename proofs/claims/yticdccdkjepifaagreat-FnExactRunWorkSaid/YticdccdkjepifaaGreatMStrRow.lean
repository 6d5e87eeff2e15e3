/-
  The law's comparison of lists of texts, its marks in one, and that they are there still. Nothing else that was there is written.
  The law's size and copy of a Task. No condition; nothing that was there is written.
  A part of a struct that lies in a block, loaded and stored in one step of a walk. No condition.
  What the model's l1Name and the program's nameOk answer: whether a text is a name. At every text; nothing is written.
-/
import Derived.Test.YticdccdkjepifaaGreatMBase
import Derived.Test.YticdccdkjepifaaGreatMOnly
import Derived.Test.YticdccdkjepifaaGreatMLowPure

namespace Go.Proofs.YticdccdkjepifaaGreat
open Go.RowKit

/-- A text's one cell. -/
def stC (s : ByteArray) (_ : Nat) : Value := .string s
theorem grownB {w w' : World} (b : Below w.heap.size w w') (row : Option Nat) : w.grownBy w' row := ⟨b.os, b.tape, b.output, b.size, fun i hi _ => b.block i hi⟩
theorem grown_trans {a b c : World} {row : Option Nat} (h : a.grownBy b row) (k : b.grownBy c row) : a.grownBy c row :=
  ⟨k.os.trans h.os, k.tape.trans h.tape, k.output.trans h.output, Nat.le_trans h.size k.size, fun i hi hne => (k.block i (Nat.lt_of_lt_of_le hi h.size) hne).trans (h.block i hi hne)⟩

end Go.Proofs.YticdccdkjepifaaGreat

namespace Go.Proofs.YticdccdkjepifaaGreat
open Go Go.RowKit

set_option maxHeartbeats 1000000 in
theorem szTask_any (nm : ByteArray) (h c d dh dc dd : Int) (left : Int) (w : World) (hp : nm.size ≤ 9223372036854775807) (hl0 : 0 ≤ left) (hl1 : left ≤ 1048576) :
    Calls Tryz.prog 45 #[.agg #[.string nm, .int .i64 h, .int .i64 c, .int .i64 d, .int .i64 dh, .int .i64 dc, .int .i64 dd], .int .i64 left] w fun x w' => (∃ r : Int, x = .returned (.int .i64 r) ∧ (r < 0 ∨ (0 ≤ r ∧ r ≤ left ∧ nm.size ≤ 1048576))) ∧ Below w.heap.size w w' := by
  by_cases q0 : (nm.size : Int) ≤ left
  · have n0 : ¬ left - (nm.size : Int) < 0 := by omega
    go_enter Tryz.func45, Tryz.ntmps45
    go_wp2_with fail
    go_ret
    exact ⟨⟨_, rfl, .inr ⟨by omega, by omega, by omega⟩⟩, bel1 _⟩
  · have n0 : left - (nm.size : Int) < 0 := by omega
    go_enter Tryz.func45, Tryz.ntmps45
    go_wp2_with fail
    go_ret
    exact ⟨⟨-1, rfl, .inl (by omega)⟩, bel1 _⟩
set_option maxRecDepth 20000 in
set_option maxHeartbeats 2000000 in
theorem toTask_any (nm : ByteArray) (h c d dh dc dd : Int) (w : World) :
    Calls Tryz.prog 50 #[.agg #[.string nm, .int .i64 h, .int .i64 c, .int .i64 d, .int .i64 dh, .int .i64 dc, .int .i64 dd]] w fun x w' => x = .returned (.agg #[.string nm, .int .i64 h, .int .i64 c, .int .i64 d, .int .i64 dh, .int .i64 dc, .int .i64 dd]) ∧ Below w.heap.size w w' := by
  obtain ⟨W, hW⟩ : ∃ W, W = ((w.alloc (Obj.cells #[.string nm, .int .i64 h, .int .i64 c, .int .i64 d, .int .i64 dh, .int .i64 dc, .int .i64 dd] 81)).alloc (Obj.cells #[.string ⟨#[]⟩, .int .i64 0, .int .i64 0, .int .i64 0, .int .i64 0, .int .i64 0, .int .i64 0] 90)).alloc (Obj.cells #[.string nm, .int .i64 h, .int .i64 c, .int .i64 d, .int .i64 0, .int .i64 0, .int .i64 0] 90) := ⟨_, rfl⟩
  have KR : Hid (Blk W (w.heap.size + 1) [.string ⟨#[]⟩, .int .i64 0, .int .i64 0, .int .i64 0, .int .i64 0, .int .i64 0, .int .i64 0]) := hide (by
    rw [hW]
    have := (Blk.new (w := (w.alloc (Obj.cells #[.string nm, .int .i64 h, .int .i64 c, .int .i64 d, .int .i64 dh, .int .i64 dc, .int .i64 dd] 81))) [.string ⟨#[]⟩, .int .i64 0, .int .i64 0, .int .i64 0, .int .i64 0, .int .i64 0, .int .i64 0] 90).alloc (Obj.cells #[.string nm, .int .i64 h, .int .i64 c, .int .i64 d, .int .i64 0, .int .i64 0, .int .i64 0] 90)
    simpa using this)
  have KO : Hid (Blk W (w.heap.size + 1 + 1) [.string nm, .int .i64 h, .int .i64 c, .int .i64 d, .int .i64 0, .int .i64 0, .int .i64 0]) := hide (by
    rw [hW]
    have := Blk.new (w := ((w.alloc (Obj.cells #[.string nm, .int .i64 h, .int .i64 c, .int .i64 d, .int .i64 dh, .int .i64 dc, .int .i64 dd] 81)).alloc (Obj.cells #[.string ⟨#[]⟩, .int .i64 0, .int .i64 0, .int .i64 0, .int .i64 0, .int .i64 0, .int .i64 0] 90))) [.string nm, .int .i64 h, .int .i64 c, .int .i64 d, .int .i64 0, .int .i64 0, .int .i64 0] 90
    simpa using this)
  have HB : Hid (Below w.heap.size w W) := hide (by rw [hW]; exact bel3 _ _ _)
  have HW := hide hW
  clear hW
  go_enter Tryz.func50, Tryz.ntmps50
  go_wp2_with fail
  rw [← unhide HW]
  clear HW
  refine (toClock_any dh dc dd W).mono ?_
  rintro x v0 ⟨rfl, bw⟩
  have HB := hide ((unhide HB).trans (bw.mono (unhide HB).size))
  have KR := hide ((unhide KR).below bw)
  have KO := hide ((unhide KO).below bw)
  clear bw
  obtain ⟨U, hU⟩ : ∃ U, U = ((v0.setCell ⟨w.heap.size + 1 + 1, 4, none⟩ (.int .i64 dh)).setCell ⟨w.heap.size + 1 + 1, 5, none⟩ (.int .i64 dc)).setCell ⟨w.heap.size + 1 + 1, 6, none⟩ (.int .i64 dd) := ⟨_, rfl⟩
  have y4 : v0.cell? ⟨w.heap.size + 1 + 1, 4, none⟩ = some (.int .i64 0) := (unhide KO).c 4 (by simp)
  have y5 : v0.cell? ⟨w.heap.size + 1 + 1, 5, none⟩ = some (.int .i64 0) := (unhide KO).c 5 (by simp)
  have y6 : v0.cell? ⟨w.heap.size + 1 + 1, 6, none⟩ = some (.int .i64 0) := (unhide KO).c 6 (by simp)
  have f4 : v0.frozen? ⟨w.heap.size + 1 + 1, 4, none⟩ = false := (unhide KO).f 4 (by simp)
  have f5 : v0.frozen? ⟨w.heap.size + 1 + 1, 5, none⟩ = false := (unhide KO).f 5 (by simp)
  have f6 : v0.frozen? ⟨w.heap.size + 1 + 1, 6, none⟩ = false := (unhide KO).f 6 (by simp)
  have KU : Blk U (w.heap.size + 1 + 1) [.string nm, .int .i64 h, .int .i64 c, .int .i64 d, .int .i64 dh, .int .i64 dc, .int .i64 dd] := by
    rw [hU]
    exact (((unhide KO).set 4 (by simp) (.int .i64 dh)).set 5 (by simp) (.int .i64 dc)).set 6 (by simp) (.int .i64 dd)
  have KRU : Hid (Blk U (w.heap.size + 1) [.string ⟨#[]⟩, .int .i64 0, .int .i64 0, .int .i64 0, .int .i64 0, .int .i64 0, .int .i64 0]) := hide (by
    rw [hU]
    exact (((unhide KR).other (by simp) _).other (by simp) _).other (by simp) _)
  have HBU : Hid (Below w.heap.size w U) := hide (by
    rw [hU]
    exact (((unhide HB).setCell (by simp; omega) _).setCell (by simp; omega) _).setCell (by simp; omega) _)
  have u0 : U.cell? ⟨w.heap.size + 1 + 1, 0, none⟩ = some (.string nm) := KU.c 0 (by simp)
  have u1 : U.cell? ⟨w.heap.size + 1 + 1, 1, none⟩ = some (.int .i64 h) := KU.c 1 (by simp)
  have u2 : U.cell? ⟨w.heap.size + 1 + 1, 2, none⟩ = some (.int .i64 c) := KU.c 2 (by simp)
  have u3 : U.cell? ⟨w.heap.size + 1 + 1, 3, none⟩ = some (.int .i64 d) := KU.c 3 (by simp)
  have u4 : U.cell? ⟨w.heap.size + 1 + 1, 4, none⟩ = some (.int .i64 dh) := KU.c 4 (by simp)
  have u5 : U.cell? ⟨w.heap.size + 1 + 1, 5, none⟩ = some (.int .i64 dc) := KU.c 5 (by simp)
  have u6 : U.cell? ⟨w.heap.size + 1 + 1, 6, none⟩ = some (.int .i64 dd) := KU.c 6 (by simp)
  rw [hU] at u0 u1 u2 u3 u4 u5 u6 KRU HBU
  clear KU hU KO KR HB U
  go_wp2_with ((with_reducible show wpList _ _ _ (⟨none, .store 90 _ _, _, _, _, none⟩ :: _) _ _); refine at_storeAgg (us := [.string ⟨#[]⟩, .int .i64 0, .int .i64 0, .int .i64 0, .int .i64 0, .int .i64 0, .int .i64 0]) (vs := [.string nm, .int .i64 h, .int .i64 c, .int .i64 d, .int .i64 dh, .int .i64 dc, .int .i64 dd]) Tryz.sizeOf90 rfl rfl (unhide KRU) rfl (by intro v hv; simp at hv; rcases hv with rfl | rfl | rfl | rfl | rfl | rfl | rfl <;> rfl) ?_; intro w5 kk gg)
  have BE : Below w.heap.size w w5 := (unhide HBU).grown gg (unhide HBU).size (fun q hq => by cases hq; omega)
  exact bodyPost_ret (results_cell (vs := [.string nm, .int .i64 h, .int .i64 c, .int .i64 d, .int .i64 dh, .int .i64 dc, .int .i64 dd]) rfl Tryz.isAgg90 Tryz.sizeOf90 rfl kk) rfl ⟨rfl, BE⟩

end Go.Proofs.YticdccdkjepifaaGreat

namespace Go.Proofs.YticdccdkjepifaaGreat
open Go.RowKit

theorem addrK (B k j : Nat) : (⟨B, k, none⟩ : Addr).add j = ⟨B, k + j, none⟩ := by
  unfold Addr.add; simp
theorem Blk.part {w : World} {B : Nat} {us : List Value} (h : Blk w B us) {k : Nat} {vs : List Value} (hs : (us.drop k).take vs.length = vs) (j : Nat) (hj : j < vs.length) : w.cell? ⟨B, k + j, none⟩ = some vs[j] := by
  have e : ((us.drop k).take vs.length)[j]? = some vs[j] := by rw [hs]; exact List.getElem?_eq_getElem hj
  rw [List.getElem?_take_of_lt hj, List.getElem?_drop] at e
  obtain ⟨h1, h2⟩ := List.getElem?_eq_some_iff.1 e
  rw [← h2]; exact h.c _ h1
theorem Blk.partf {w : World} {B : Nat} {us : List Value} (h : Blk w B us) {k n : Nat} (hs : k + n ≤ us.length) (j : Nat) (hj : j < n) : w.frozen? ⟨B, k + j, none⟩ = false := h.f _ (by omega)
theorem run_loadPart {t : TypeId} {w : World} {B k : Nat} {us vs : List Value} (hA : ∀ w, (isAgg t).run Tryz.prog w = .ok true w) (hZ : ∀ w, (Go.sizeOf t).run Tryz.prog w = .ok vs.length w) (hb : Blk w B us) (hs : (us.drop k).take vs.length = vs) :
    (loadVar t ⟨B, k, none⟩).run Tryz.prog w = .ok (.agg vs.toArray) w := by
  have hl := run_loadCells_list (P := Tryz.prog) (w := w) ⟨B, k, none⟩ vs (fun j v hj => by
    obtain ⟨h, e⟩ := List.getElem?_eq_some_iff.1 hj
    rw [addrK, ← e]; exact hb.part hs j h)
  unfold loadVar
  simp [hA, hZ, hl]
/-- A block in which a part was written. -/
theorem Blk.setPart {w : World} {B k : Nat} {us vs us' : List Value} (h : Blk w B us) (hl : us.length = us'.length) (hk : k + vs.length ≤ us.length) (hs : (us'.drop k).take vs.length = vs) (ho : ∀ j, j < k ∨ k + vs.length ≤ j → us'[j]? = us[j]?) : Blk (w.setCells B k vs) B us' ∧ w.grownBy (w.setCells B k vs) (some B) := by
  have gr : ∀ (vs : List Value) (o : Nat) (w : World), w.grownBy (w.setCells B o vs) (some B) := by
    intro vs
    induction vs with
    | nil => intro o w; exact ⟨rfl, rfl, rfl, Nat.le_refl _, fun _ _ _ => rfl⟩
    | cons v r ih =>
      intro o w
      have h1 := ih (o + 1) (w.setCell ⟨B, o, none⟩ v)
      refine ⟨h1.os, h1.tape, h1.output, Nat.le_trans (by simp [World.setCell]) h1.size, fun k hk hne => ?_⟩
      have hkB : k ≠ B := fun e => hne (by rw [e])
      exact (h1.block k (by simpa [World.setCell] using hk) hne).trans (Below.heap_setCell _ _ _ _ hkB)
  refine ⟨⟨fun i hi => ?_, fun i hi => ?_, Nat.lt_of_lt_of_le h.lt (gr vs k w).size⟩, gr vs k w⟩
  · by_cases c : k ≤ i ∧ i < k + vs.length
    · obtain ⟨j, rfl⟩ : ∃ j, i = k + j := ⟨i - k, by omega⟩
      rw [World.cell?_setCells_in B vs k w (fun j hj => by rw [h.c (k + j) (by omega)]; rfl) j (by omega)]
      have e : ((us'.drop k).take vs.length)[j]? = some (vs[j]'(by omega)) := by rw [hs]; exact List.getElem?_eq_getElem (by omega)
      rw [List.getElem?_take_of_lt (by omega), List.getElem?_drop, List.getElem?_eq_getElem hi] at e
      rw [Option.some.inj e]
    · rw [World.cell?_setCells_out B vs k w ⟨B, i, none⟩ (fun _ _ => by show i < k ∨ k + vs.length ≤ i; omega), h.c i (by omega)]
      have e := ho i (by omega)
      rw [List.getElem?_eq_getElem hi, List.getElem?_eq_getElem (by omega)] at e
      exact e.symm
  · rw [World.frozen?_setCells]; exact h.f i (by omega)
theorem run_storePart {t : TypeId} {w : World} {B k : Nat} {us vs : List Value} (hZ : ∀ w, (Go.sizeOf t).run Tryz.prog w = .ok vs.length w) (hk : k + vs.length ≤ us.length) (h1 : ∀ v ∈ vs, v.oneCell' = true) (hb : Blk w B us) :
    (storeVar t ⟨B, k, none⟩ (.agg vs.toArray)).run Tryz.prog w = .ok () (w.setCells B k vs) := by
  have hs := run_storeCells_cells (P := Tryz.prog) B k vs 0 w (fun j hj => by rw [show k + 0 + j = k + j by omega, hb.c (k + j) (by omega)]; rfl) (fun j hj => by rw [show k + 0 + j = k + j by omega]; exact hb.f (k + j) (by omega)) h1
  unfold storeVar
  simp [hZ, Value.cells, hs]

theorem at_loadPart {ops : Array Oper} {rest : List Oper} {d : Option Tmp} {t ty : TypeId} {s : Operand} {pos : String} {af : Array Edge} {a : Act} {Q : Exit → Act → World → Prop} {w : World} {B k : Nat} {us vs : List Value}
    (hA : ∀ w, (isAgg t).run Tryz.prog w = .ok true w) (hZ : ∀ w, (Go.sizeOf t).run Tryz.prog w = .ok vs.length w) (hs : a.eval s = .pointer (some ⟨B, k, none⟩)) (hb : Blk w B us) (hp : (us.drop k).take vs.length = vs)
    (hK : wpList Tryz.prog ops Q rest (a.put d (.agg vs.toArray)) w) : wpList Tryz.prog ops Q (⟨d, .load t s, ty, pos, af, none⟩ :: rest) a w := by
  refine wpList_plain rfl fun K hK' => ?_
  have hr := run_loadPart hA hZ hb hp
  unfold Oper.wp
  simp [execOp, hs, Instr.loadAt, Instr.sureAddr, hr, Result.andThen]
  exact hK' _ _ hK
theorem at_storePart {ops : Array Oper} {rest : List Oper} {t ty : TypeId} {s x : Operand} {pos : String} {af : Array Edge} {a : Act} {Q : Exit → Act → World → Prop} {w : World} {B k : Nat} {us vs us' : List Value}
    (hZ : ∀ w, (Go.sizeOf t).run Tryz.prog w = .ok vs.length w) (hs : a.eval s = .pointer (some ⟨B, k, none⟩)) (hx : a.eval x = .agg vs.toArray) (hb : Blk w B us) (hl : us.length = us'.length) (hk : k + vs.length ≤ us.length) (hp : (us'.drop k).take vs.length = vs) (ho : ∀ j, j < k ∨ k + vs.length ≤ j → us'[j]? = us[j]?) (h1 : ∀ v ∈ vs, v.oneCell' = true)
    (hK : ∀ w2, Blk w2 B us' → w.grownBy w2 (some B) → wpList Tryz.prog ops Q rest a w2) : wpList Tryz.prog ops Q (⟨none, .store t s x, ty, pos, af, none⟩ :: rest) a w := by
  refine wpList_plain rfl fun K hK' => ?_
  have hr := run_storePart hZ hk h1 hb
  have h2 := hb.setPart hl hk hp ho
  unfold Oper.wp
  simp [execOp, hs, hx, Instr.storeAt, Instr.sureAddr, hr, Result.andThen]
  exact hK' _ _ (hK _ h2.1 h2.2)

theorem at_storeMid {ops : Array Oper} {rest : List Oper} {t ty : TypeId} {s x : Operand} {pos : String} {af : Array Edge} {a : Act} {Q : Exit → Act → World → Prop} {w : World} {B : Nat} (pre old post vs : List Value)
    (hZ : ∀ w, (Go.sizeOf t).run Tryz.prog w = .ok vs.length w) (hs : a.eval s = .pointer (some ⟨B, pre.length, none⟩)) (hx : a.eval x = .agg vs.toArray) (hb : Blk w B (pre ++ (old ++ post))) (hl : old.length = vs.length) (h1 : ∀ v ∈ vs, v.oneCell' = true)
    (hK : ∀ w2, Blk w2 B (pre ++ (vs ++ post)) → w.grownBy w2 (some B) → wpList Tryz.prog ops Q rest a w2) : wpList Tryz.prog ops Q (⟨none, .store t s x, ty, pos, af, none⟩ :: rest) a w := by
  refine at_storePart (us' := pre ++ (vs ++ post)) hZ hs hx hb (by simp [hl]) (by simp; omega) (by simp) (fun j hj => ?_) h1 hK
  rcases hj with hj | hj
  · rw [List.getElem?_append_left hj, List.getElem?_append_left hj]
  · rw [List.getElem?_append_right (by omega), List.getElem?_append_right (by omega), List.getElem?_append_right (by omega), List.getElem?_append_right (by omega), hl]

/-- A whole struct whose value has a letter. -/
theorem at_loadV {ops : Array Oper} {rest : List Oper} {d : Option Tmp} {t ty : TypeId} {s : Operand} {pos : String} {af : Array Edge} {a : Act} {Q : Exit → Act → World → Prop} {w : World} {B : Nat} {vs : List Value} {V : Value} (hV : V = .agg vs.toArray)
    (hA : ∀ w, (isAgg t).run Tryz.prog w = .ok true w) (hZ : ∀ w, (Go.sizeOf t).run Tryz.prog w = .ok vs.length w) (hs : a.eval s = .pointer (some ⟨B, 0, none⟩)) (hb : Blk w B vs)
    (hK : wpList Tryz.prog ops Q rest (a.put d V) w) : wpList Tryz.prog ops Q (⟨d, .load t s, ty, pos, af, none⟩ :: rest) a w := by
  subst hV
  exact at_loadAgg hA hZ hs hb hK

end Go.Proofs.YticdccdkjepifaaGreat

namespace Go.Proofs.YticdccdkjepifaaGreat
open Go.RowKit

set_option maxHeartbeats 2000000 in
theorem nameByte_any (c : Int) (w : World) (h : 0 ≤ c ∧ c ≤ 255) :
    Calls Tryz.prog 126 #[.int .u8 c] w fun e w' => e = .returned (.bool (byteB c)) ∧ w' = w := by
  by_cases a1 : 97 ≤ c <;> by_cases a2 : c ≤ 122 <;> (try (exfalso; omega)) <;> by_cases a3 : 65 ≤ c <;> by_cases a4 : c ≤ 90 <;> (try (exfalso; omega)) <;> by_cases a5 : 48 ≤ c <;> by_cases a6 : c ≤ 57 <;> (try (exfalso; omega)) <;> by_cases a7 : c = 45 <;> (try (exfalso; omega))
  all_goals
    first
    | have HE : Hid (byteB c = true) := hide (by simp [byteB, inB]; omega)
    | have HE : Hid (byteB c = false) := hide (by simp [byteB, inB]; omega)
    go_enter Tryz.func126, Tryz.ntmps126
    go_wp2
    try rw [Exit.noGoto_ret]
    go_ret
    first
    | exact ⟨ret_bool (unhide HE).symm, rfl⟩
    | exact ⟨ret_bool (by rw [unhide HE]; simpa using a7), rfl⟩
    | exact ⟨ret_bool (by decide), rfl⟩

set_option maxHeartbeats 1000000 in
theorem nameOk_any (s : ByteArray) (w : World) (hs : s.size ≤ 9223372036854775807) :
    Calls Tryz.prog 109 #[.string s] w fun e w' => e = .returned (.bool (nameB s)) ∧ w' = w := by
  cases h : inB s.size 1 20 with
  | false =>
    have HE := hide (nameB_size h)
    go_enter Tryz.func109, Tryz.ntmps109
    go_wp2_with fail
    refine (within_is _ _ _ _ h).mono ?_
    rintro e w' ⟨rfl, hw⟩
    subst w'
    go_wp2_with fail
    go_ret
    exact ⟨ret_bool (unhide HE).symm, rfl⟩
  | true =>
    have hb := in_facts h
    go_enter Tryz.func109, Tryz.ntmps109
    go_wp2_with fail
    refine (within_is _ _ _ _ h).mono ?_
    rintro e w' ⟨rfl, hw⟩
    subst w'
    have HH := hide h
    clear h
    go_wp2_with fail
    go_loopw [10] (fun i wr => ∃ k : Nat, k ≤ s.size ∧ i = .int .i64 k ∧ Hid (∀ j, j < k → byteB (byAt s j) = true) ∧ wr = w) (fun i _ => s.size - (intOf i).toNat)
    case atStart => exact ⟨0, Nat.zero_le _, rfl, hide (fun j hj => by omega), rfl⟩
    case round =>
      obtain ⟨k, hk, rfl, HN, hwr⟩ := hrel
      subst wr
      by_cases hlt : k < s.size
      · have hi1 : (k : Int) < (s.size : Int) := by omega
        have hi0 : (0 : Int) ≤ (k : Int) := by omega
        have hby := byAt_is hlt
        have hbd := byAt_bd s k
        cases hc : byteB (byAt s k) with
        | false =>
          have HE := hide (nameB_at hlt hc)
          have HC := hide hc
          clear hc
          go_wp2_with fail
          refine (nameByte_any _ _ hbd).mono ?_
          rintro e w' ⟨rfl, hw⟩
          subst w'
          have hc := unhide HC
          go_wp2_with fail
          go_ret
          exact ⟨ret_bool (unhide HE).symm, rfl⟩
        | true =>
          have HC := hide hc
          clear hc
          go_wp2_with fail
          refine (nameByte_any _ _ hbd).mono ?_
          rintro e w' ⟨rfl, hw⟩
          subst w'
          have hc := unhide HC
          go_wp2_with fail
          go_roundw
          case rel => exact ⟨k + 1, by omega, by go_num, hide (fun j hj => by rcases Nat.lt_succ_iff_lt_or_eq.1 hj with h | h; exact unhide HN j h; subst h; exact unhide HC), trivial⟩
          case measure => simp [intOf]; omega
      · have HE : Hid (nameB s = true) := hide ((nameB_all (fun j hj => unhide HN j (by omega))).trans (unhide HH))
        go_wp2_with fail
        go_ret
        exact ⟨ret_bool (unhide HE).symm, rfl⟩

set_option maxHeartbeats 2000000 in
theorem l1Name_any (s : ByteArray) (w : World) (hs : s.size ≤ 9223372036854775807) :
    Calls Tryz.prog 69 #[.string s] w fun e w' => e = .returned (.bool (nameB s)) ∧ w' = w := by
  go_enter Tryz.func69, Tryz.ntmps69
  go_wp2_with fail
  go_loopw [3] (fun i wr => ∃ k : Nat, k ≤ s.size ∧ i = .int .i64 k ∧ Hid (∀ j, j < k → byteB (byAt s j) = true) ∧ wr = w) (fun i _ => s.size - (intOf i).toNat)
  case atStart => exact ⟨0, Nat.zero_le _, rfl, hide (fun j hj => by omega), rfl⟩
  case round =>
    obtain ⟨k, hk, rfl, HN, hwr⟩ := hrel
    subst wr
    by_cases hlt : k < s.size
    · have hi1 : (k : Int) < (s.size : Int) := by omega
      have hi0 : (0 : Int) ≤ (k : Int) := by omega
      have hby := byAt_is hlt
      have hbd := byAt_bd s k
      have HW : Hid (byteB (byAt s k) = (inB (byAt s k) 97 122 || inB (byAt s k) 65 90 || inB (byAt s k) 48 57 || decide (byAt s k = 45))) := hide rfl
      cases g1 : inB (byAt s k) 97 122 with
      | true =>
        have HB : Hid (byteB (byAt s k) = true) := hide (by rw [unhide HW, g1]; simp)
        go_wp2_with (go_at_call 70; refine (l1In_any _ _ _ _).mono ?_; rintro e w' ⟨rfl, hw⟩; subst w')
        go_roundw
        case rel => exact ⟨k + 1, by omega, by go_num, hide (fun j hj => by rcases Nat.lt_succ_iff_lt_or_eq.1 hj with h | h; exact unhide HN j h; subst h; exact unhide HB), trivial⟩
        case measure => simp [intOf]; omega
      | false =>
      cases g2 : inB (byAt s k) 65 90 with
      | true =>
        have HB : Hid (byteB (byAt s k) = true) := hide (by rw [unhide HW, g2]; simp)
        go_wp2_with (go_at_call 70; refine (l1In_any _ _ _ _).mono ?_; rintro e w' ⟨rfl, hw⟩; subst w')
        go_roundw
        case rel => exact ⟨k + 1, by omega, by go_num, hide (fun j hj => by rcases Nat.lt_succ_iff_lt_or_eq.1 hj with h | h; exact unhide HN j h; subst h; exact unhide HB), trivial⟩
        case measure => simp [intOf]; omega
      | false =>
      cases g3 : inB (byAt s k) 48 57 with
      | true =>
        have HB : Hid (byteB (byAt s k) = true) := hide (by rw [unhide HW, g3]; simp)
        go_wp2_with (go_at_call 70; refine (l1In_any _ _ _ _).mono ?_; rintro e w' ⟨rfl, hw⟩; subst w')
        go_roundw
        case rel => exact ⟨k + 1, by omega, by go_num, hide (fun j hj => by rcases Nat.lt_succ_iff_lt_or_eq.1 hj with h | h; exact unhide HN j h; subst h; exact unhide HB), trivial⟩
        case measure => simp [intOf]; omega
      | false =>
      by_cases g4 : byAt s k = 45
      · have HB : Hid (byteB (byAt s k) = true) := hide (by rw [unhide HW, g1, g2, g3]; simpa using g4)
        have g5 : (byAt s k != 45) = false := by simpa using g4
        clear g4
        go_wp2_with (go_at_call 70; refine (l1In_any _ _ _ _).mono ?_; rintro e w' ⟨rfl, hw⟩; subst w')
        go_roundw
        case rel => exact ⟨k + 1, by omega, by go_num, hide (fun j hj => by rcases Nat.lt_succ_iff_lt_or_eq.1 hj with h | h; exact unhide HN j h; subst h; exact unhide HB), trivial⟩
        case measure => simp [intOf]; omega
      · have HB : Hid (byteB (byAt s k) = false) := hide (by rw [unhide HW, g1, g2, g3]; simpa using g4)
        have g5 : (byAt s k != 45) = true := by simpa using g4
        clear g4
        have HE := hide (nameB_at hlt (unhide HB))
        go_wp2_with (go_at_call 70; refine (l1In_any _ _ _ _).mono ?_; rintro e w' ⟨rfl, hw⟩; subst w')
        go_ret
        exact ⟨ret_bool (unhide HE).symm, rfl⟩
    · have HE := hide (nameB_all (fun j hj => unhide HN j (by omega)))
      go_wp2_with (go_at_call 70; refine (l1In_any _ _ _ _).mono ?_; rintro e w' ⟨rfl, hw⟩; subst w')
      go_ret
      exact ⟨ret_bool (unhide HE).symm, rfl⟩

end Go.Proofs.YticdccdkjepifaaGreat

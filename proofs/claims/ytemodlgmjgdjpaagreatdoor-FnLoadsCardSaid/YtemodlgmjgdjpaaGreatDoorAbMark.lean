/-
  What is aboard, in memory of its own between two numbers; the law's marks in it and what it finds of them. At lists of at most 1048576 loads of at most 1048576 bytes.
-/
import Derived.Test.YtemodlgmjgdjpaaGreatDoorLxMark
namespace Go.Proofs.YtemodlgmjgdjpaaGreatDoor
open Go Go.RowKit

/-- Its lists, made by a call, in blocks from b on and below u. -/
structure AbIs (w : World) (b u : Nat) (a : Option Addr) (l c : Nat) (z : List Lc) : Prop where
  ex : ∃ us : List Lx, us.map lxW = z ∧ OwnLd w b (.slice a l c) us ∧ LxLies b u (.slice a l c) us
  ok : LzOk z
theorem AbOwn.is {w : World} {base : Nat} {a : Option Addr} {l c : Nat} {z : List Lc} (h : AbOwn w base a l c z) : AbIs w base w.heap.size a l c z := by
  obtain ⟨us, e, hu⟩ := h.o1.ex
  exact ⟨⟨us, e, hu, hu.lies⟩, h.o1.ok⟩
theorem AbIs.below {w w' : World} {b u : Nat} {a : Option Addr} {l c : Nat} {z : List Lc} (h : AbIs w b u a l c z) (k : Below w.heap.size w w') : AbIs w' b u a l c z := by
  obtain ⟨us, e, hu, hl⟩ := h.ex
  exact ⟨⟨us, e, hu.below k, hl⟩, h.ok⟩
theorem AbIs.only {w w' : World} {b u lo hi : Nat} {a : Option Addr} {l c : Nat} {z : List Lc} (h : AbIs w b u a l c z) (k : Only lo hi w w') (hs : u ≤ lo ∨ hi ≤ b) : AbIs w' b u a l c z := by
  obtain ⟨us, e, hu, hl⟩ := h.ex
  exact ⟨⟨us, e, hu.only k hl hs, hl⟩, h.ok⟩
theorem AbIs.read {w : World} {b u : Nat} {a : Option Addr} {l c : Nat} {z : List Lc} (h : AbIs w b u a l c z) : AbIn w a l z := by
  obtain ⟨us, e, hu, _⟩ := h.ex
  exact ⟨(OwnLT.mk ⟨us, e, hu⟩ h.ok).row⟩
/-- The same, marked from k on. -/
structure AbMk (w : World) (b u : Nat) (a : Option Addr) (l c : Nat) (z : List Lc) (k : Int) : Prop where
  ex : ∃ us : List Lx, us.map lxW = z ∧ OwnLd w b (.slice a l c) (markX us k l) ∧ LxLies b u (.slice a l c) us ∧ us.length = l ∧ ∀ i, i < us.length → (elAt us i).d.zs.length = (elAt us i).d.n
theorem lies_mark {b u : Nat} {v : Value} {us : List Lx} {k : Int} {l : Nat} (hl : l ≤ us.length) (h : LxLies b u v us) : LxLies b u v (markX us k l) := by
  refine ⟨h.1, fun i hi q hq => h.2 i (by rw [markX_len] at hi; exact hi) q ?_⟩
  rw [markX_at us k l hl] at hq
  split at hq
  · exact hq
  · exact hq
theorem AbMk.below {w w' : World} {b u : Nat} {a : Option Addr} {l c : Nat} {z : List Lc} {k : Int} (h : AbMk w b u a l c z k) (kb : Below w.heap.size w w') : AbMk w' b u a l c z k := by
  obtain ⟨us, e, hu, hl, h1, h2⟩ := h.ex
  exact ⟨⟨us, e, hu.below kb, hl, h1, h2⟩⟩
theorem AbMk.only {w w' : World} {b u lo hi : Nat} {a : Option Addr} {l c : Nat} {z : List Lc} {k : Int} (h : AbMk w b u a l c z k) (on : Only lo hi w w') (hs : u ≤ lo ∨ hi ≤ b) : AbMk w' b u a l c z k := by
  obtain ⟨us, e, hu, hl, h1, h2⟩ := h.ex
  exact ⟨⟨us, e, hu.only on (lies_mark (by omega) hl) hs, hl, h1, h2⟩⟩
/-- How many marks there are. -/
def totZ (z : List Lc) : Nat → Nat
  | 0 => 0
  | k + 1 => totZ z k + (elAt z k).zs.length
def kZ (z : List Lc) (k : Int) : Int := k + 5 * (z.length : Int) + (totZ z z.length : Int)
theorem tot_map {us : List Lx} {z : List Lc} (h : us.map lxW = z) : ∀ j, j ≤ us.length → totX us j = totZ z j
  | 0, _ => rfl
  | j + 1, hj => by
    rw [totX, totZ, tot_map h j (by omega), elAt_lx h (by omega)]; rfl
theorem kX_map {us : List Lx} {z : List Lc} (h : us.map lxW = z) (k : Int) : kX us k us.length = kZ z k := by
  have hl : z.length = us.length := by rw [← h]; simp
  rw [kX, kZ, hl, tot_map h _ (Nat.le_refl _)]
theorem lz_us {us : List Lx} {z : List Lc} (h : us.map lxW = z) (hz : LzB z) : ∀ i, i < us.length → (elAt us i).d.zs.length ≤ 1048576 := by
  intro i hi
  have hl : z.length = us.length := by rw [← h]; simp
  have := hz.2 i (by omega)
  rw [elAt_lx h hi] at this
  exact this
theorem totZ_bd {z : List Lc} (hz : LzB z) : ∀ j, j ≤ z.length → totZ z j ≤ 1048576 * j
  | 0, _ => by simp [totZ]
  | j + 1, hj => by
    have := totZ_bd hz j (by omega)
    have := hz.2 j (by omega)
    rw [totZ]; omega
theorem kZ_bd {z : List Lc} (hz : LzB z) (k : Int) : k ≤ kZ z k ∧ kZ z k ≤ k + 1099516870656 := by
  have h1 := totZ_bd hz _ (Nat.le_refl _)
  have h2 := hz.1
  unfold kZ
  omega
set_option maxHeartbeats 2000000 in
theorem markAboard_own (i0 : Int) (a : Option Addr) (l c : Nat) (z : List Lc) (k : Int) (w : World) (b u : Nat) (h : AbIs w b u a l c z) (hz : LzB z) (hk0 : 1 ≤ k) (hk1 : k ≤ 1000000000) :
    Calls Tryz.prog 22 #[.agg #[.int .i64 i0, .slice a l c], .int .i64 k] w fun e w' => e = .returned (.int .i64 (kZ z k)) ∧ AbMk w' b u a l c z k ∧ Only b u w w' := by
  obtain ⟨W, hW⟩ : ∃ W, W = w.alloc (Obj.cells #[.int .i64 i0, .slice a l c] 26) := ⟨_, rfl⟩
  have bW : Below w.heap.size w W := by rw [hW]; exact bel1 _
  obtain ⟨us, e, hu1, hl⟩ := (h.below bW).ex
  have hul : us.length = l := ownLd_len hu1
  have hdn : ∀ i, i < us.length → (elAt us i).d.zs.length = (elAt us i).d.n := fun i hi => (OwnE.row (a := (elAt us i).d.a) (len := (elAt us i).d.n) (cap := (elAt us i).d.c) (hu1.dat i hi)).len_eq
  have OW : Hid (Only b u w W) := hide (Only.of_below bW)
  have C : Hid (Calls Tryz.prog 30 #[.slice a l c, .int .i64 k] W fun e w' => e = .returned (.int .i64 (kZ z k)) ∧ AbMk w' b u a l c z k ∧ Only b u W w') := hide (by
    rcases hu1.out.form with ⟨e0, e1⟩ | ⟨g, cap, e0, _⟩
    · simp only [Value.slice.injEq] at e0
      obtain ⟨rfl, rfl, rfl⟩ := e0
      subst e1
      refine (markLoad18S_nil none 0 k W).mono ?_
      rintro e2 w' ⟨rfl, rfl⟩
      have hk := kX_map e k
      refine ⟨by rw [← hk]; simp [kX, totX], ⟨⟨[], e, hu1, hl, hul, hdn⟩⟩, Only.refl _ _ _⟩
    · simp only [Value.slice.injEq] at e0
      obtain ⟨rfl, _, rfl⟩ := e0
      refine (markLoad18S_own b g l c us k W hu1 hul (by have := hz.1; have hl2 : z.length = us.length := (by rw [← e]; simp); omega) (lz_us e hz) hk0 (by omega) b u hl).mono ?_
      rintro e2 w' ⟨rfl, o2, on⟩
      have hk := kX_map e k
      rw [hul] at hk
      exact ⟨by rw [hk], ⟨⟨us, e, o2, hl, hul, hdn⟩⟩, on⟩)
  have HW := hide hW
  clear h hu1 hl hul hdn hW bW
  go_enter Tryz.func22, Tryz.ntmps22
  go_wp2_with fail
  rw [← unhide HW]
  clear HW
  refine (unhide C).mono ?_
  rintro e w2 ⟨rfl, m2, on⟩
  have M2 := hide m2
  have ON := hide on
  clear m2 on C
  go_wp2_with fail
  go_ret
  exact ⟨rfl, unhide M2, (unhide OW).trans (unhide ON)⟩
set_option maxHeartbeats 2000000 in
theorem heldAboard_any (i0 : Int) (a : Option Addr) (l c : Nat) (z : List Lc) (k : Int) (w : World) (b u : Nat) (h : AbMk w b u a l c z k) (hz : LzB z) (hk0 : 1 ≤ k) (hk1 : k ≤ 1000000000) :
    Calls Tryz.prog 24 #[.agg #[.int .i64 i0, .slice a l c], .int .i64 k] w fun e w' => e = .returned (.int .i64 (kZ z k)) ∧ Below w.heap.size w w' := by
  obtain ⟨W, hW⟩ : ∃ W, W = w.alloc (Obj.cells #[.int .i64 i0, .slice a l c] 26) := ⟨_, rfl⟩
  have bW : Below w.heap.size w W := by rw [hW]; exact bel1 _
  obtain ⟨us, e, hu1, hl, hul, hdn⟩ := (h.below bW).ex
  have BW := hide bW
  have C : Hid (Calls Tryz.prog 68 #[.slice a l c, .int .i64 k] W fun e w' => e = .returned (.int .i64 (kZ z k)) ∧ Below W.heap.size W w') := hide (by
    rcases hu1.out.form with ⟨e0, e1⟩ | ⟨g, cap, e0, _⟩
    · simp only [Value.slice.injEq] at e0
      obtain ⟨rfl, rfl, rfl⟩ := e0
      refine (heldLoad18S_nil none 0 k W).mono ?_
      rintro e2 w' ⟨rfl, rfl⟩
      have hk := kX_map e k
      rw [hul] at hk
      refine ⟨by rw [← hk]; simp [kX, totX], Below.refl _ _⟩
    · simp only [Value.slice.injEq] at e0
      obtain ⟨rfl, _, rfl⟩ := e0
      refine (heldLoad18S_own b g l c us k W hu1 hul (by have := hz.1; have hl2 : z.length = us.length := (by rw [← e]; simp); omega) (lz_us e hz) hdn hk0 (by omega)).mono ?_
      rintro e2 w' ⟨rfl, b2⟩
      have hk := kX_map e k
      rw [hul] at hk
      exact ⟨by rw [hk], b2⟩)
  have nk : ¬ kZ z k < 0 := by have := kZ_bd hz k; omega
  have HW := hide hW
  clear h hu1 hl hul hdn hW bW
  go_enter Tryz.func24, Tryz.ntmps24
  go_wp2_with fail
  rw [← unhide HW]
  clear HW
  refine (unhide C).mono ?_
  rintro e w2 ⟨rfl, b2⟩
  have B2 := hide ((unhide BW).trans (b2.mono (unhide BW).size))
  clear b2 C
  go_wp2_with fail
  go_ret
  exact ⟨rfl, unhide B2⟩

end Go.Proofs.YtemodlgmjgdjpaaGreatDoor

/-
  The told rules that latch, put among the latched: the program's latch. Nothing but the board's own sets is written.
-/
import Derived.Test.YtbaocifpifbldawGreatBrdTold
namespace Go.Proofs.YtbaocifpifbldawGreat
open Go.RowKit Go.Maps Go.WideMaps

/-- Latched then. -/
def ltS (S : ByteArray → Bool) (rs : List Wr) : ByteArray → Bool := fun t => S t || rs.any (fun p => p.l && decide (t = p.n))
theorem ltS_nil (S : ByteArray → Bool) : ltS S [] = S := by funext t; simp [ltS]
theorem ltS_take {S : ByteArray → Bool} {ds : List Wq} {i : Nat} (hi : i < ds.length) : ltS S ((ds.take (i + 1)).map Prod.fst) = if (elAt ds i).1.l = true then addS (ltS S ((ds.take i).map Prod.fst)) (elAt ds i).1.n else ltS S ((ds.take i).map Prod.fst) := by
  have e : ds.take (i + 1) = ds.take i ++ [elAt ds i] := by
    rw [List.take_succ_eq_append_getElem hi]
    simp [elAt, hi]
  rw [e]
  cases g : (elAt ds i).1.l with
  | false => rw [if_neg (by simp)]; funext t; simp [ltS, g]
  | true =>
    rw [if_pos rfl]; funext t
    simp only [ltS, addS, List.map_append, List.any_append, List.map_cons, List.map_nil, List.any_cons, List.any_nil, g, Bool.true_and, Bool.or_false]
    cases decide (t = (elAt ds i).1.n) <;> simp
/-- The rounds. -/
structure Lch (w wr : World) (b1 b2 b3 n1 n2 n3 : Nat) (S1 S2 S3 : ByteArray → Bool) (base g m cp : Nat) (ds : List Wq) (i : Nat) : Prop where
  brd : Brd wr b1 b2 b3 n1 (n2 + i) n3 S1 (ltS S2 ((ds.take i).map Prod.fst)) S3
  o : OwnE 5 wqC wr base 51 (.slice (some ⟨g, 0, none⟩) m cp) ds
  kb : Blk wr w.heap.size [.map (some b1), .map (some b2), .map (some b3)]
  on : Only b1 (b3 + 1) w wr
theorem Lch.below {w wr w' : World} {b1 b2 b3 n1 n2 n3 : Nat} {S1 S2 S3 : ByteArray → Bool} {base g m cp : Nat} {ds : List Wq} {i : Nat} (k : Lch w wr b1 b2 b3 n1 n2 n3 S1 S2 S3 base g m cp ds i) (b : Below wr.heap.size wr w') : Lch w w' b1 b2 b3 n1 n2 n3 S1 S2 S3 base g m cp ds i :=
  ⟨k.brd.below b, k.o.below b, k.kb.below b, k.on.trans (Only.of_below b)⟩
theorem Lch.skip {w wr : World} {b1 b2 b3 n1 n2 n3 : Nat} {S1 S2 S3 : ByteArray → Bool} {base g m cp : Nat} {ds : List Wq} {i : Nat} (k : Lch w wr b1 b2 b3 n1 n2 n3 S1 S2 S3 base g m cp ds i) (hi : i < ds.length) (h : (elAt ds i).1.l = false) : Lch w wr b1 b2 b3 n1 n2 n3 S1 S2 S3 base g m cp ds (i + 1) := by
  refine ⟨⟨k.brd.s1, ?_, k.brd.s3, k.brd.l1, k.brd.l2⟩, k.o, k.kb, k.on⟩
  rw [ltS_take hi, h, if_neg (by simp)]
  exact MapIs.mono k.brd.s2 (by omega)
theorem Lch.add {w wr w' : World} {b1 b2 b3 n1 n2 n3 : Nat} {S1 S2 S3 : ByteArray → Bool} {base g m cp : Nat} {ds : List Wq} {i : Nat} (k : Lch w wr b1 b2 b3 n1 n2 n3 S1 S2 S3 base g m cp ds i) (hi : i < ds.length) (h : (elAt ds i).1.l = true) (hg : b3 < g) (h3 : b3 < w.heap.size) (s : SetIs w' b2 (n2 + i + 1) (addS (ltS S2 ((ds.take i).map Prod.fst)) (elAt ds i).1.n)) (t : wr.mapTurned w' b2) : Lch w w' b1 b2 b3 n1 n2 n3 S1 S2 S3 base g m cp ds (i + 1) := by
  have l1 := k.brd.l1
  have l2 := k.brd.l2
  refine ⟨⟨k.brd.s1.turned t (by omega), ?_, k.brd.s3.turned t (by omega), l1, l2⟩, k.o.far t.grown (fun q hq => by cases hq; simp; omega), k.kb.turned t (by omega), k.on.trans (Only.turned t (by omega) (by omega))⟩
  rw [ltS_take hi, h, if_pos rfl]
  exact s
set_option maxRecDepth 20000 in
set_option maxHeartbeats 2000000 in
theorem latch_any (b1 b2 b3 n1 n2 n3 : Nat) (S1 S2 S3 : ByteArray → Bool) (base g m cp : Nat) (ds : List Wq) (w : World) (hb : Brd w b1 b2 b3 n1 n2 n3 S1 S2 S3) (ho : OwnE 5 wqC w base 51 (.slice (some ⟨g, 0, none⟩) m cp) ds) (hl : ds.length = m) (hg : b3 < g) (hf : ∀ x ∈ ds, wrFit x.1) (hs : n2 + m < 1000000) :
    Calls Tryz.prog 36 #[.agg #[.map (some b1), .map (some b2), .map (some b3)], .slice (some ⟨g, 0, none⟩) m cp] w fun e w' => e = .returned (.tuple #[]) ∧ Brd w' b1 b2 b3 n1 (n2 + m) n3 S1 (ltS S2 (ds.map Prod.fst)) S3 ∧ OwnE 5 wqC w' base 51 (.slice (some ⟨g, 0, none⟩) m cp) ds ∧ Only b1 (b3 + 1) w w' := by
  have h3 := MapIs.lt hb.s3
  have HF := hide hf
  have KL : Hid (Lch w (w.alloc (Obj.cells #[.map (some b1), .map (some b2), .map (some b3)] 61)) b1 b2 b3 n1 n2 n3 S1 S2 S3 base g m cp ds 0) := hide ⟨by rw [List.take_zero, List.map_nil, ltS_nil, Nat.add_zero]; exact hb.below (bel1 _), ho.below (bel1 _), Blk.new _ _, Only.of_below (bel1 _)⟩
  clear hb ho hf
  go_enter Tryz.func36, Tryz.ntmps36
  go_wp2_with fail
  go_loopw [8] (fun s9 wr => ∃ (i : Nat), i ≤ m ∧ s9 = .int .i64 (i : Int) ∧ Hid (Lch w wr b1 b2 b3 n1 n2 n3 S1 S2 S3 base g m cp ds i)) (fun s9 _ => m - (intOf s9).toNat)
  case atStart => exact ⟨0, Nat.zero_le _, rfl, KL⟩
  case round =>
    clear KL
    obtain ⟨i, hi, rfl, HK⟩ := hrel
    by_cases hlt : i < m
    · have hlt' : i < ds.length := by omega
      have k0 : (0 : Int) ≤ (i : Int) := by omega
      have k1 : (i : Int) < (m : Int) := by omega
      have hmem : elAt ds i ∈ ds := elAt_mem.2 ⟨i, hlt', rfl⟩
      have hfi := unhide HF _ hmem
      have m0 : wr.cell? ⟨g, i * 5, none⟩ = some (wqC (elAt ds i) 0) := by have := ((unhide HK).o.here hl i hlt 0 (by omega)).1; exact this
      have m1 : wr.cell? ⟨g, i * 5 + 1, none⟩ = some (wqC (elAt ds i) 1) := by have := ((unhide HK).o.here hl i hlt 1 (by omega)).1; exact this
      have m2 : wr.cell? ⟨g, i * 5 + 2, none⟩ = some (wqC (elAt ds i) 2) := by have := ((unhide HK).o.here hl i hlt 2 (by omega)).1; exact this
      have m3 : wr.cell? ⟨g, i * 5 + 3, none⟩ = some (wqC (elAt ds i) 3) := by have := ((unhide HK).o.here hl i hlt 3 (by omega)).1; exact this
      have m4 : wr.cell? ⟨g, i * 5 + 4, none⟩ = some (wqC (elAt ds i) 4) := by have := ((unhide HK).o.here hl i hlt 4 (by omega)).1; exact this
      have HSK := fun (W : World) (k : Lch w W b1 b2 b3 n1 n2 n3 S1 S2 S3 base g m cp ds i) => k.skip hlt'
      have HAD := fun (W W' : World) (k : Lch w W b1 b2 b3 n1 n2 n3 S1 S2 S3 base g m cp ds i) h => k.add (w' := W') hlt' h hg h3
      obtain ⟨⟨⟨x, r, q, l, d⟩, ⟨qa, ql, qc⟩⟩, hp⟩ : ∃ p, elAt ds i = p := ⟨_, rfl⟩
      rw [hp] at m0 m1 m2 m3 m4 hfi HSK HAD
      simp only [wqC, wqE, List.getElem!_cons_zero, List.getElem!_cons_succ] at m0 m1 m2 m3 m4
      simp only at HSK HAD
      have HX := hide hfi.1
      have HSK := hide HSK
      have HAD := hide HAD
      have KB : Hid (Lch w (wr.alloc (Obj.cells #[.string x, .int .i64 r, .slice qa ql qc, .bool l, .string d] 51)) b1 b2 b3 n1 n2 n3 S1 S2 S3 base g m cp ds i) := hide ((unhide HK).below (bel1 _))
      have e1 : (wr.alloc (Obj.cells #[.string x, .int .i64 r, .slice qa ql qc, .bool l, .string d] 51)).cell? ⟨w.heap.size, 1, none⟩ = some (.map (some b2)) := (unhide KB).kb.c 1 (by simp)
      clear hmem hfi hp hlt'
      cases l with
      | false =>
        have K2 := hide (unhide HSK _ (unhide KB) rfl)
        go_wp2_with fail
        go_roundw
        case rel => exact ⟨i + 1, by omega, by go_num, K2⟩
        case measure => simp [intOf]; omega
      | true =>
        have HC := hide (add_any b2 (n2 + i) _ x _ (unhide KB).brd.s2 (unhide HX) (by omega))
        go_wp2_with (go_at_call 50; refine (unhide HC).mono ?_; rintro e w5 ⟨rfl, s5, t5⟩; have K2 := hide (unhide HAD _ _ (unhide KB) rfl s5 t5); clear s5 t5)
        go_roundw
        case rel => exact ⟨i + 1, by omega, by go_num, K2⟩
        case measure => simp [intOf]; omega
    · have k1 : ¬ (i : Int) < (m : Int) := by omega
      have hie : i = m := by omega
      subst hie
      have HI : Hid (ds.take i = ds) := hide (by rw [← hl]; simp)
      go_wp2_with fail
      go_end0
      have kb := (unhide HK).brd
      rw [unhide HI] at kb
      exact ⟨rfl, kb, (unhide HK).o, (unhide HK).on⟩

end Go.Proofs.YtbaocifpifbldawGreat

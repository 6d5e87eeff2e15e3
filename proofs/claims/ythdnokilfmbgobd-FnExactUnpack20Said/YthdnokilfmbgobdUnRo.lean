/-
  A row as the program's reader tells it, and a code. Nothing is written but the reader's own memory; the row owns its memory.
-/
import Derived.Test.YthdnokilfmbgobdUnNx
namespace Go.Proofs.Ythdnokilfmbgobd
open Go Go.RowKit

theorem row_gr {w w' : World} {a : Option Addr} {n : Nat} {L : List Int} {row : Option Nat} (h : Row w a n L) (k : w.grownBy w' row) (hne : ∀ b o, a = some ⟨b, o, none⟩ → some b ≠ row) : Row w' a n L := by
  refine ⟨h.len_eq, h.small, fun i hi => ?_, h.fit⟩
  obtain ⟨b, off, ha, hc⟩ := h.cells i hi
  refine ⟨b, off, ha, ?_⟩
  rw [World.cell?_of_block (a := ⟨b, off + i, none⟩) (k.block b (block_lt_of_cell hc) (hne b off ha))]
  exact hc
theorem grown_new {w w1 w2 : World} {row : Option Nat} {g : Nat} (h : w.grownBy w1 row) (k : w1.grownBy w2 (some g)) (hg : w.heap.size ≤ g) : w.grownBy w2 row :=
  ⟨k.os.trans h.os, k.tape.trans h.tape, k.output.trans h.output, Nat.le_trans h.size k.size, fun i hi hne => (k.block i (Nat.lt_of_lt_of_le hi h.size) (fun e => by have := Option.some.inj e; omega)).trans (h.block i hi hne)⟩
theorem nextChange_yes {q : Int} {s : Nat} (U bb bo n bc t : Nat) (bs : List Int) (w : World) (h : Un w U bb bo n bc t bs) (hc : nxC bs t = 0) (hq : nxV bs t = q) (hs : nxS bs t = s) :
    Calls Try.prog 41 #[.pointer (some ⟨U, 0, none⟩)] w fun e w' => e = .returned (.tuple #[.int .i64 q, .int .i64 (s : Int), .int .i64 0]) ∧ Below w.heap.size w w' := by
  have := nextChange_any U bb bo n bc t bs w h
  rw [hc, if_pos rfl, if_pos rfl, hq, hs] at this
  exact this
theorem nextChange_no {c : Nat} (U bb bo n bc t : Nat) (bs : List Int) (w : World) (h : Un w U bb bo n bc t bs) (hc : nxC bs t = c) (h0 : c ≠ 0) :
    Calls Try.prog 41 #[.pointer (some ⟨U, 0, none⟩)] w fun e w' => e = .returned (.tuple #[.int .i64 0, .int .i64 0, .int .i64 (c : Int)]) ∧ Below w.heap.size w w' := by
  have := nextChange_any U bb bo n bc t bs w h
  rw [hc, if_neg h0, if_neg h0] at this
  exact this
/-- A row that grows beside the reader. -/
structure UrW (w wr : World) (U bb bo n bc t : Nat) (bs : List Int) (g k c : Nat) (z : List Int) : Prop where
  u : Un wr U bb bo n bc t bs
  o : OwnI wr w.heap.size (.slice (some ⟨g, 0, none⟩) k c) z
  l : z.length = k
  gr : w.grownBy wr (some U)
  lt : U < w.heap.size
theorem UrW.below {w wr w' : World} {U bb bo n bc t : Nat} {bs : List Int} {g k c : Nat} {z : List Int} (h : UrW w wr U bb bo n bc t bs g k c z) (b : Below wr.heap.size wr w') : UrW w w' U bb bo n bc t bs g k c z :=
  ⟨h.u.below b, h.o.below b, h.l, grown_on h.gr (bel_grown b _), h.lt⟩
theorem UrW.step {w wr w9 : World} {U bb bo n bc t : Nat} {bs : List Int} {g k c g9 c9 : Nat} {z : List Int} {x : Int} (h : UrW w wr U bb bo n bc t bs g k c z) (hb : bb < w.heap.size) (o : OwnI w9 w.heap.size (.slice (some ⟨g9, 0, none⟩) (k + 1) c9) (z ++ [x])) (gr : wr.grownBy w9 (Value.slice (some ⟨g, 0, none⟩) k c).ownBlock) : UrW w w9 U bb bo n bc t bs g9 (k + 1) c9 (z ++ [x]) := by
  have lg := (h.o.lies g rfl).1
  have hU := h.lt
  have gr2 : wr.grownBy w9 (some g) := gr
  exact ⟨h.u.far gr2 (fun e => by have := Option.some.inj e; omega) (fun e => by have := Option.some.inj e; omega), o, by simp [h.l], grown_new h.gr gr2 lg, h.lt⟩
theorem UrW.at_ {w wr : World} {U bb bo n bc t s : Nat} {bs : List Int} {g k c : Nat} {z : List Int} (h : UrW w wr U bb bo n bc t bs g k c z) (hs : s ≤ n) : UrW w (wr.setCell ⟨U, 1, none⟩ (.int .i64 (s : Int))) U bb bo n bc s bs g k c z := by
  have lg := (h.o.lies g rfl).1
  have hU := h.lt
  exact ⟨h.u.at_ hs, h.o.set_other _ (fun e => by have : g = U := Option.some.inj e; omega), h.l, grown_on h.gr (grown_set (grown_refl _ (some U)) 1 _), h.lt⟩
def RwE (bs ah : List Int) (t m : Nat) (U bb bo n bc : Nat) (w : World) (e : Ending) (w' : World) : Prop :=
  w.grownBy w' (some U) ∧ (((unRow bs ah t m).c = 0 ∧ ∃ g c, e = .returned (.tuple #[.slice (some ⟨g, 0, none⟩) m c, .int .i64 0]) ∧ OwnI w' w.heap.size (.slice (some ⟨g, 0, none⟩) m c) (unRow bs ah t m).z ∧ Un w' U bb bo n bc (unRow bs ah t m).t bs) ∨ ((unRow bs ah t m).c ≠ 0 ∧ ∃ a c, e = .returned (.tuple #[.slice a 0 c, .int .i64 ((unRow bs ah t m).c : Int)]) ∧ Un w' U bb bo n bc (unRow bs ah t m).t bs))

set_option maxRecDepth 20000 in
set_option maxHeartbeats 2000000 in
theorem readRow_any (U bb bo n bc t : Nat) (bs : List Int) (a : Option Addr) (m c : Nat) (ah : List Int) (w : World) (h : Un w U bb bo n bc t bs) (ha : Row w a m ah) (hne : ∀ b o, a = some ⟨b, o, none⟩ → b ≠ U) (hin : ∀ k, k < m → -30000 ≤ nth ah k ∧ nth ah k ≤ 30000) (hm : m ≤ 8) :
    Calls Try.prog 37 #[.pointer (some ⟨U, 0, none⟩), .slice a m c] w fun e w' => RwE bs ah t m U bb bo n bc w e w' := by
  have HA0 := hide ha
  have HNE := hide hne
  have HIN := hide hin
  have HLB := hide h.r.len_eq
  have S0 : Hid (UrW w (w.alloc (Obj.cells #[] 3)) U bb bo n bc t bs w.heap.size 0 0 []) := hide ⟨h.below (bel1 _), ownI_none (Nat.le_refl _), rfl, bel_grown (bel1 _) _, h.k.lt⟩
  have hsm := h.sm
  have BB : Hid (0 < n → bb < w.heap.size) := hide (fun hn => block_lt_of_cell (h.cell (i := 0) hn))
  clear h ha hne hin
  go_enter Try.func37, Try.ntmps37
  go_wp2_with fail
  go_loopw [6, 16] (fun o i wr => ∃ (k s g d : Nat) (z : List Int), k ≤ m ∧ i = .int .i64 k ∧ o = .slice (some ⟨g, 0, none⟩) k d ∧ unRow bs ah t k = ⟨0, s, z⟩ ∧ UrW w wr U bb bo n bc s bs g k d z) (fun _ i _ => m - (intOf i).toNat)
  case atStart => exact ⟨0, t, _, _, [], Nat.zero_le _, rfl, rfl, rfl, unhide S0⟩
  case round =>
    clear S0
    obtain ⟨k, s, g, d, z, hk, rfl, rfl, hun, hur⟩ := hrel
    have HUN := hide hun
    have UR := hide hur
    clear hun hur
    by_cases hlt : k < m
    · have i0 : (0 : Int) ≤ (k : Int) := by omega
      have i1 : (k : Int) < (m : Int) := by omega
      have rr := row_gr (unhide HA0) (unhide UR).gr (fun b o e e2 => (unhide HNE) b o e (Option.some.inj e2))
      rcases rr.open_ with ⟨h0, _⟩ | ⟨b3, o3, rfl, _, hc3⟩
      · omega
      have x3 := hc3 k hlt
      obtain ⟨x, hx⟩ : ∃ x, x = nth ah k := ⟨_, rfl⟩
      have hx2 : -30000 ≤ x ∧ x ≤ 30000 := by rw [hx]; exact (unhide HIN) k hlt
      rw [← hx] at x3
      have HX := hide hx
      clear rr hc3 hx
      have STOP : Hid (∀ cc tt zz, unSt bs ah k ⟨0, s, z⟩ = ⟨cc, tt, zz⟩ → cc ≠ 0 → unRow bs ah t m = ⟨cc, tt, zz⟩) := hide (fun cc tt zz e hc => by
        have e1 : unRow bs ah t (k + 1) = ⟨cc, tt, zz⟩ := by rw [unRow, unhide HUN]; exact e
        rw [unRow_stop (k := k + 1) (by rw [e1]; exact hc) m (by omega), e1])
      by_cases hcc : nxC bs s = 0
      · obtain ⟨q, hq⟩ : ∃ q, nxV bs s = q := ⟨_, rfl⟩
        obtain ⟨y, hy⟩ : ∃ y, nxS bs s = y := ⟨_, rfl⟩
        have wl := nx_well hcc
        rw [hq, hy] at wl
        have HCC := hide hcc
        have HQ := hide hq
        have HYS := hide hy
        have hsn : s + y ≤ n := by have := unhide HLB; omega
        have hbb := (unhide BB) (by omega)
        clear hcc hq hy
        go_wp2_with fail
        refine (nextChange_yes _ _ _ _ _ _ bs _ (unhide UR).u (unhide HCC) (unhide HQ) (unhide HYS)).mono ?_
        rintro e w2 ⟨rfl, b2⟩
        have UR2 := hide ((unhide UR).below b2)
        clear b2 x3
        go_wp2_with fail
        cases hv : inB (x + q) (-30000) 30000
        · have HV : Hid (unRow bs ah t m = ⟨3, s, z⟩) := hide ((unhide STOP) _ _ _ (unSt_val (unhide HCC) (by rw [← unhide HX, unhide HQ]; exact hv)) (by omega))
          refine (within_is _ _ _ _ hv).mono ?_
          rintro e w3 ⟨rfl, hw3⟩
          subst w3
          go_wp2_with fail
          refine bodyPost_ret (v := .tuple #[.slice (some ⟨w2.heap.size, 0, none⟩) 0 0, .int .i64 3]) (by simp [results, Try.results37, go_sem]) rfl ?_
          refine ⟨grown_on (unhide UR2).gr (bel_grown (bel1 _) _), .inr ?_⟩
          rw [unhide HV]
          exact ⟨by simp, _, _, rfl, (unhide UR2).u.below (bel1 _)⟩
        · have HV : Hid (unRow bs ah t (k + 1) = ⟨0, s + y, z ++ [x + q]⟩) := hide (by rw [unRow, unhide HUN, unSt_yes (unhide HCC) (by rw [← unhide HX, unhide HQ]; exact hv), ← unhide HX, unhide HQ, unhide HYS])
          refine (within_is _ _ _ _ hv).mono ?_
          rintro e w3 ⟨rfl, hw3⟩
          subst w3
          have hvb := in_facts hv
          clear hv
          go_wp2_with (at_builtin; refine wpList_app_int rfl _ _ rfl (x + q) (unhide UR2).o (unhide UR2).l rfl rfl rfl (Nat.le_trans (unhide UR2).gr.size (Nat.le_refl _)) (by omega) (by omega) ?_; intro g9 c9 w9 o9 gr9; have UR9 := hide ((unhide UR2).step hbb o9 gr9); have y1 : w9.cell? ⟨U, 1, none⟩ = some (.int .i64 (s : Int)) := (unhide UR9).u.k.c 1 (by simp); have z1 : w9.frozen? ⟨U, 1, none⟩ = false := (unhide UR9).u.k.f 1 (by simp); clear o9 gr9)
          have UF : Hid (UrW w (w9.setCell ⟨U, 1, none⟩ (.int .i64 ((s : Int) + (y : Int)))) U bb bo n bc (s + y) bs g9 (k + 1) c9 (z ++ [x + q])) := hide (by have := (unhide UR9).at_ hsn; rw [show ((s + y : Nat) : Int) = (s : Int) + (y : Int) by omega] at this; exact this)
          go_roundw
          case rel => exact ⟨k + 1, s + y, g9, c9, _, by omega, by go_num, rfl, unhide HV, unhide UF⟩
          case measure => simp [intOf]; omega
      · obtain ⟨cc, hc2⟩ : ∃ cc, nxC bs s = cc := ⟨_, rfl⟩
        rw [hc2] at hcc
        have hcd := nx_code bs s
        rw [hc2] at hcd
        have HV : Hid (unRow bs ah t m = ⟨cc, s, z⟩) := hide ((unhide STOP) _ _ _ (unSt_code hc2 hcc) hcc)
        have HC2 := hide hc2
        have n0 : ((cc : Int) != 0) = true := by simp; omega
        have HCC := hide hcc
        clear hc2 hcc hcd
        go_wp2_with fail
        refine (nextChange_no _ _ _ _ _ _ bs _ (unhide UR).u (unhide HC2) (unhide HCC)).mono ?_
        rintro e w2 ⟨rfl, b2⟩
        have UR2 := hide ((unhide UR).below b2)
        clear b2 x3
        go_wp2_with fail
        refine bodyPost_ret (v := .tuple #[.slice (some ⟨w2.heap.size, 0, none⟩) 0 0, .int .i64 (cc : Int)]) (by simp [results, Try.results37, go_sem]) rfl ?_
        refine ⟨grown_on (unhide UR2).gr (bel_grown (bel1 _) _), .inr ?_⟩
        rw [unhide HV]
        exact ⟨unhide HCC, _, _, rfl, (unhide UR2).u.below (bel1 _)⟩
    · have i1 : ¬ (k : Int) < (m : Int) := by omega
      have hkm : k = m := by omega
      have HUM : Hid (unRow bs ah t m = ⟨0, s, z⟩) := hide (by rw [← hkm]; exact unhide HUN)
      have HKM := hide hkm
      clear hkm
      go_wp2_with fail
      refine bodyPost_ret (v := .tuple #[.slice (some ⟨g, 0, none⟩) k d, .int .i64 0]) (by simp [results, Try.results37, go_sem]) rfl ?_
      refine ⟨(unhide UR).gr, .inl ?_⟩
      rw [unhide HUM, ← unhide HKM]
      exact ⟨rfl, _, _, rfl, (unhide UR).o, (unhide UR).u⟩

end Go.Proofs.Ythdnokilfmbgobd

/-
  The program's reader of bytes, as it lies; a size read from it. Nothing is written but the reader's own memory.
  The head of bytes as the program's reader tells it: how wide rows are, how many, a code. Nothing is written but the reader's own memory.
  The next change that the program's reader tells: its value, in how many bytes it stands, a code. Nothing is written.
  A row as the program's reader tells it, and a code. Nothing is written but the reader's own memory; the row owns its memory.
  A record as the program's reader tells it, and a code. Nothing is written but the reader's own memory; the rows own their memory.
-/
import Derived.Test.YtfnnfldfnjnlfagUnPure
import Derived.Test.YtfnnfldfnjnlfagRcOk
import Derived.Test.YtfnnfldfnjnlfagApp1
import Derived.Test.YtfnnfldfnjnlfagLoopAt
import Derived.Test.YtfnnfldfnjnlfagPkPut
import Derived.Test.YtfnnfldfnjnlfagRrGr
import Derived.Test.YtfnnfldfnjnlfagMadeI

namespace Go.Proofs.Ytfnnfldfnjnlfag
open Go Go.RowKit

/-- The reader at block U: its bytes, and where it stands. -/
structure Un (w : World) (U bb bo n bc t : Nat) (bs : List Int) : Prop where
  k : Blk w U [.slice (some ⟨bb, bo, none⟩) n bc, .int .i64 (t : Int)]
  r : RowE 1 byC w (some ⟨bb, bo, none⟩) n bs
  ne : bb ≠ U
  cap : n ≤ bc
  le : t ≤ n
  byt : ∀ i, i < n → 0 ≤ elAt bs i ∧ elAt bs i ≤ 255
  sm : n ≤ 1048576
theorem Un.below {w w' : World} {U bb bo n bc t : Nat} {bs : List Int} (h : Un w U bb bo n bc t bs) (b : Below w.heap.size w w') : Un w' U bb bo n bc t bs := ⟨h.k.below b, h.r.below b, h.ne, h.cap, h.le, h.byt, h.sm⟩
theorem rowE_far {w w' : World} {a : Option Addr} {len : Nat} {bs : List Int} {row : Option Nat} (h : RowE 1 byC w a len bs) (k : w.grownBy w' row) (hne : ∀ b o, a = some ⟨b, o, none⟩ → some b ≠ row) : RowE 1 byC w' a len bs := by
  refine ⟨h.len_eq, h.small, fun i hi => ?_⟩
  obtain ⟨b, off, ha, hc⟩ := h.at_ i hi
  refine ⟨b, off, ha, fun q hq => ?_⟩
  rw [World.cell?_of_block (a := ⟨b, off + i * 1 + q, none⟩) (k.block b (block_lt_of_cell (hc q hq)) (hne b off ha))]
  exact hc q hq
theorem Un.far {w w' : World} {U bb bo n bc t : Nat} {bs : List Int} {row : Option Nat} (h : Un w U bb bo n bc t bs) (k : w.grownBy w' row) (h1 : some U ≠ row) (h2 : some bb ≠ row) : Un w' U bb bo n bc t bs :=
  ⟨h.k.apart k h1, rowE_far h.r k (fun b o e => by cases e; exact h2), h.ne, h.cap, h.le, h.byt, h.sm⟩
theorem Un.at_ {w : World} {U bb bo n bc t s : Nat} {bs : List Int} (h : Un w U bb bo n bc t bs) (hs : s ≤ n) : Un (w.setCell ⟨U, 1, none⟩ (.int .i64 (s : Int))) U bb bo n bc s bs := by
  refine ⟨h.k.set 1 (by simp) _, ?_, h.ne, h.cap, hs, h.byt, h.sm⟩
  refine rowE_far h.r (grown_set (grown_refl w (some U)) 1 (.int .i64 (s : Int))) (fun b o e e2 => ?_)
  cases e
  exact h.ne (Option.some.inj e2)
theorem bel_grown {w w' : World} (h : Below w.heap.size w w') (row : Option Nat) : w.grownBy w' row := ⟨h.os, h.tape, h.output, h.size, fun k hk _ => h.block k hk⟩
theorem grown_on {w w1 w2 : World} {row : Option Nat} (h : w.grownBy w1 row) (k : w1.grownBy w2 row) : w.grownBy w2 row := ⟨k.os.trans h.os, k.tape.trans h.tape, k.output.trans h.output, Nat.le_trans h.size k.size, fun i hi hne => (k.block i (Nat.lt_of_lt_of_le hi h.size) hne).trans (h.block i hi hne)⟩
theorem Un.cell {w : World} {U bb bo n bc t : Nat} {bs : List Int} (h : Un w U bb bo n bc t bs) {i : Nat} (hi : i < n) : w.cell? ⟨bb, bo + i, none⟩ = some (.int .u8 (elAt bs i)) := by
  obtain ⟨b, off, ha, hc⟩ := h.r.at_ i hi
  simp only [Option.some.injEq, Addr.mk.injEq, and_true] at ha
  obtain ⟨rfl, rfl⟩ := ha
  have := hc 0 (by omega)
  rw [Nat.mul_one, Nat.add_zero] at this
  exact this

set_option maxRecDepth 20000 in
set_option maxHeartbeats 2000000 in
theorem readSize_short (U bb bo n bc t : Nat) (bs : List Int) (lo hi : Int) (w : World) (h : Un w U bb bo n bc t bs) (ht : t = n) :
    Calls Try.prog 117 #[.pointer (some ⟨U, 0, none⟩), .int .i64 lo, .int .i64 hi] w fun e w' => e = .returned (.tuple #[.int .i64 0, .int .i64 1]) ∧ Below w.heap.size w w' := by
  obtain ⟨ι, fW, _, hcb, hcl⟩ := belClass w
  have HB := hide hcb
  have HA := hide hcl
  have c0 : ∀ x, (fW x).cell? ⟨U, 0, none⟩ = some (.slice (some ⟨bb, bo, none⟩) n bc) := fun x => (h.k.below (hcb x)).c 0 (by simp)
  have c1 : ∀ x, (fW x).cell? ⟨U, 1, none⟩ = some (.int .i64 (t : Int)) := fun x => (h.k.below (hcb x)).c 1 (by simp)
  have f1 : ∀ x, (fW x).frozen? ⟨U, 1, none⟩ = false := fun x => (h.k.below (hcb x)).f 1 (by simp)
  have HUN : Hid (∀ x, Un (fW x) U bb bo n bc t bs) := hide (fun x => h.below (hcb x))
  have hsm := h.sm
  have hcap := h.cap
  have hle := h.le
  have HH := hide h
  obtain ⟨y0, hy0⟩ := hcl w (Below.refl _ _)
  have HY0 := hide hy0
  have e1 : ((t : Int) == (n : Int)) = true := by rw [ht]; simp
  clear ht
  clear h hcb hcl hy0
  go_enter Try.func117, Try.ntmps117
  go_wp2_with fail
  rw [unhide HY0]
  repeat (refine wp_region_bel (fun w' h => (unhide HA) w' ((unhide HB _).trans (h.mono (unhide HB _).size))) (by kernel_rfl) (by kernel_rfl) ?_; (repeat (go_big_quiet_step (fail))); refine wpQuiet_nil ?_; rintro _ ⟨y, rfl⟩; (first | go_wp2_with fail | go_wp2))
  refine bodyPost_ret (v := .tuple #[.int .i64 0, .int .i64 1]) (by simp [results, Try.results117, go_sem]) rfl ⟨rfl, unhide HB _⟩
set_option maxRecDepth 20000 in
set_option maxHeartbeats 2000000 in
theorem readSize_bad (U bb bo n bc t : Nat) (bs : List Int) (lo hi : Int) (w : World) (h : Un w U bb bo n bc t bs) (ht : t < n) (hq : inB (elAt bs t) lo hi = false) :
    Calls Try.prog 117 #[.pointer (some ⟨U, 0, none⟩), .int .i64 lo, .int .i64 hi] w fun e w' => e = .returned (.tuple #[.int .i64 0, .int .i64 2]) ∧ Below w.heap.size w w' := by
  obtain ⟨ι, fW, _, hcb, hcl⟩ := belClass w
  have HB := hide hcb
  have HA := hide hcl
  have c0 : ∀ x, (fW x).cell? ⟨U, 0, none⟩ = some (.slice (some ⟨bb, bo, none⟩) n bc) := fun x => (h.k.below (hcb x)).c 0 (by simp)
  have c1 : ∀ x, (fW x).cell? ⟨U, 1, none⟩ = some (.int .i64 (t : Int)) := fun x => (h.k.below (hcb x)).c 1 (by simp)
  have f1 : ∀ x, (fW x).frozen? ⟨U, 1, none⟩ = false := fun x => (h.k.below (hcb x)).f 1 (by simp)
  have HUN : Hid (∀ x, Un (fW x) U bb bo n bc t bs) := hide (fun x => h.below (hcb x))
  have hsm := h.sm
  have hcap := h.cap
  have hle := h.le
  have HH := hide h
  obtain ⟨y0, hy0⟩ := hcl w (Below.refl _ _)
  have HY0 := hide hy0
  have e1 : ((t : Int) == (n : Int)) = false := by rw [beq_eq_false_iff_ne]; omega
  have hb : ∀ x, (fW x).cell? ⟨bb, bo + t, none⟩ = some (.int .u8 (elAt bs t)) := fun x => ((unhide HUN) x).cell ht
  have hby := h.byt t ht
  obtain ⟨v, hv⟩ : ∃ v, v = elAt bs t := ⟨_, rfl⟩
  rw [← hv] at hb hby hq
  have i0 : (0 : Int) ≤ (t : Int) := by omega
  have i1 : (t : Int) < (n : Int) := by omega
  clear hv
  clear h hcb hcl hy0
  go_enter Try.func117, Try.ntmps117
  go_wp2_with fail
  rw [unhide HY0]
  repeat (refine wp_region_bel (fun w' h => (unhide HA) w' ((unhide HB _).trans (h.mono (unhide HB _).size))) (by kernel_rfl) (by kernel_rfl) ?_; (repeat (go_big_quiet_step (fail))); refine wpQuiet_nil ?_; rintro _ ⟨y, rfl⟩; (first | go_wp2_with fail | go_wp2))
  refine (within_is _ _ _ _ hq).mono ?_
  rintro e w9 ⟨rfl, hw9⟩
  subst w9
  go_wp2_with fail
  refine bodyPost_ret (v := .tuple #[.int .i64 0, .int .i64 2]) (by simp [results, Try.results117, go_sem]) rfl ⟨rfl, unhide HB _⟩
set_option maxRecDepth 20000 in
set_option maxHeartbeats 2000000 in
theorem readSize_ok (U bb bo n bc t : Nat) (bs : List Int) (lo hi : Int) (w : World) (h : Un w U bb bo n bc t bs) (ht : t < n) (hq : inB (elAt bs t) lo hi = true) :
    Calls Try.prog 117 #[.pointer (some ⟨U, 0, none⟩), .int .i64 lo, .int .i64 hi] w fun e w' => e = .returned (.tuple #[.int .i64 (elAt bs t), .int .i64 0]) ∧ Un w' U bb bo n bc (t + 1) bs ∧ w.grownBy w' (some U) := by
  obtain ⟨ι, fW, _, hcb, hcl⟩ := belClass w
  have HB := hide hcb
  have HA := hide hcl
  have c0 : ∀ x, (fW x).cell? ⟨U, 0, none⟩ = some (.slice (some ⟨bb, bo, none⟩) n bc) := fun x => (h.k.below (hcb x)).c 0 (by simp)
  have c1 : ∀ x, (fW x).cell? ⟨U, 1, none⟩ = some (.int .i64 (t : Int)) := fun x => (h.k.below (hcb x)).c 1 (by simp)
  have f1 : ∀ x, (fW x).frozen? ⟨U, 1, none⟩ = false := fun x => (h.k.below (hcb x)).f 1 (by simp)
  have HUN : Hid (∀ x, Un (fW x) U bb bo n bc t bs) := hide (fun x => h.below (hcb x))
  have hsm := h.sm
  have hcap := h.cap
  have hle := h.le
  have HH := hide h
  obtain ⟨y0, hy0⟩ := hcl w (Below.refl _ _)
  have HY0 := hide hy0
  have e1 : ((t : Int) == (n : Int)) = false := by rw [beq_eq_false_iff_ne]; omega
  have hb : ∀ x, (fW x).cell? ⟨bb, bo + t, none⟩ = some (.int .u8 (elAt bs t)) := fun x => ((unhide HUN) x).cell ht
  have hby := h.byt t ht
  obtain ⟨v, hv⟩ : ∃ v, v = elAt bs t := ⟨_, rfl⟩
  rw [← hv] at hb hby hq
  have HV := hide hv
  have i0 : (0 : Int) ≤ (t : Int) := by omega
  have i1 : (t : Int) < (n : Int) := by omega
  clear hv
  clear h hcb hcl hy0
  go_enter Try.func117, Try.ntmps117
  go_wp2_with fail
  rw [unhide HY0]
  repeat (refine wp_region_bel (fun w' h => (unhide HA) w' ((unhide HB _).trans (h.mono (unhide HB _).size))) (by kernel_rfl) (by kernel_rfl) ?_; (repeat (go_big_quiet_step (fail))); refine wpQuiet_nil ?_; rintro _ ⟨y, rfl⟩; (first | go_wp2_with fail | go_wp2))
  refine (within_is _ _ _ _ hq).mono ?_
  rintro e w9 ⟨rfl, hw9⟩
  subst w9
  go_wp2_with fail
  refine bodyPost_ret (v := .tuple #[.int .i64 v, .int .i64 0]) (by simp [results, Try.results117, go_sem]) rfl ⟨by rw [← unhide HV], ?_, ?_⟩
  · have := ((unhide HUN) y).at_ (s := t + 1) (by omega); rw [show ((t + 1 : Nat) : Int) = (t : Int) + 1 by omega] at this; exact this
  · exact grown_on (bel_grown (unhide HB y) _) (grown_set (grown_refl _ (some U)) 1 _)

end Go.Proofs.Ytfnnfldfnjnlfag

namespace Go.Proofs.Ytfnnfldfnjnlfag
open Go Go.RowKit

theorem hd_a {bs : List Int} (h : bs.length < 1) : hdC bs = 1 := by rw [hdC, if_pos h]
theorem hd_b {bs : List Int} (h : 1 ≤ bs.length) (h8 : 8 < elAt bs 0) : hdC bs = 2 ∧ hdA bs = 0 := by rw [hdC, if_neg (by omega), if_pos h8, hdA, if_pos h8]; exact ⟨rfl, rfl⟩
theorem hd_c {bs : List Int} (h : bs.length = 1) (h8 : ¬ 8 < elAt bs 0) : hdC bs = 1 := by rw [hdC, if_neg (by omega), if_neg h8, if_pos (by omega)]
theorem hd_d {bs : List Int} (h : 2 ≤ bs.length) (h8 : ¬ 8 < elAt bs 0) (hd : 200 < elAt bs 1 ∨ ((elAt bs 0 == 0) != (elAt bs 1 == 0)) = true) : hdC bs = 2 ∧ hdA bs = 1 := by
  refine ⟨?_, by rw [hdA, if_neg h8]⟩
  rw [hdC, if_neg (by omega), if_neg h8, if_neg (by omega)]
  by_cases g : 200 < elAt bs 1
  · rw [if_pos g]
  · rw [if_neg g, if_pos (hd.resolve_left g)]
theorem hd_e {bs : List Int} (h : 2 ≤ bs.length) (h8 : ¬ 8 < elAt bs 0) (h2 : ¬ 200 < elAt bs 1) (hd : ((elAt bs 0 == 0) != (elAt bs 1 == 0)) = false) : hdC bs = 0 := by
  rw [hdC, if_neg (by omega), if_neg h8, if_neg (by omega), if_neg h2, if_neg (by rw [hd]; simp)]
/-- What reading the head leaves. -/
def HdE (bs : List Int) (U bb bo n bc : Nat) (w : World) (e : Ending) (w' : World) : Prop :=
  w.grownBy w' (some U) ∧ ((hdC bs = 0 ∧ e = .returned (.tuple #[.int .i64 (hdW bs : Int), .int .i64 (hdM bs : Int), .int .i64 0]) ∧ Un w' U bb bo n bc 2 bs) ∨ (hdC bs = 1 ∧ ∃ x y t, e = .returned (.tuple #[.int .i64 x, .int .i64 y, .int .i64 1]) ∧ Un w' U bb bo n bc t bs) ∨ (hdC bs = 2 ∧ ∃ x y, e = .returned (.tuple #[.int .i64 x, .int .i64 y, .int .i64 2]) ∧ Un w' U bb bo n bc (hdA bs) bs))

set_option maxRecDepth 20000 in
set_option maxHeartbeats 2000000 in
theorem readHead_any (U bb bo n bc : Nat) (bs : List Int) (w : World) (h : Un w U bb bo n bc 0 bs) :
    Calls Try.prog 105 #[.pointer (some ⟨U, 0, none⟩)] w fun e w' => HdE bs U bb bo n bc w e w' := by
  have hl := h.r.len_eq
  have HL := hide hl
  have H := hide h
  clear hl
  by_cases h0 : n = 0
  · go_enter Try.func105, Try.ntmps105
    go_wp2_with fail
    refine (readSize_short _ _ _ _ _ _ bs _ _ _ (unhide H) h0.symm).mono ?_
    rintro e w1 ⟨rfl, b1⟩
    have G1 := hide (bel_grown b1 (some U))
    have U1 := hide ((unhide H).below b1)
    clear b1
    go_wp2_with fail
    refine bodyPost_ret (v := .tuple #[.int .i64 0, .int .i64 0, .int .i64 1]) (by simp [results, Try.results105, go_sem]) rfl ?_
    exact ⟨unhide G1, .inr (.inl ⟨hd_a (by rw [unhide HL, h0]; omega), 0, 0, 0, rfl, unhide U1⟩)⟩
  have b0 := h.byt 0 (by omega)
  by_cases h8 : 8 < elAt bs 0
  · have q : inB (elAt bs 0) 0 8 = false := by simp [inB]; omega
    go_enter Try.func105, Try.ntmps105
    go_wp2_with fail
    refine (readSize_bad _ _ _ _ _ _ bs _ _ _ (unhide H) (by omega) q).mono ?_
    rintro e w1 ⟨rfl, b1⟩
    have G1 := hide (bel_grown b1 (some U))
    have U1 := hide ((unhide H).below b1)
    clear b1
    go_wp2_with fail
    refine bodyPost_ret (v := .tuple #[.int .i64 0, .int .i64 0, .int .i64 2]) (by simp [results, Try.results105, go_sem]) rfl ?_
    have k := hd_b (bs := bs) (by rw [unhide HL]; omega) h8
    exact ⟨unhide G1, .inr (.inr ⟨k.1, 0, 0, rfl, by rw [k.2]; exact unhide U1⟩)⟩
  have q : inB (elAt bs 0) 0 8 = true := by simp [inB]; omega
  go_enter Try.func105, Try.ntmps105
  go_wp2_with fail
  refine (readSize_ok _ _ _ _ _ _ bs _ _ _ (unhide H) (by omega) q).mono ?_
  rintro e w1 ⟨rfl, u1, g1⟩
  have U1 := hide u1
  have G1 := hide g1
  obtain ⟨v, hv⟩ : ∃ v, v = elAt bs 0 := ⟨_, rfl⟩
  rw [← hv] at b0 h8 ⊢
  have HV := hide hv
  clear u1 g1 hv q h
  by_cases hz : v = 0
  · have z1 : (v == 0) = true := by rw [hz]; rfl
    go_wp2_with fail
    by_cases h1 : n = 1
    · refine (readSize_short _ _ _ _ _ _ bs _ _ _ (unhide U1) (by omega)).mono ?_
      rintro e w2 ⟨rfl, b2⟩
      have G2 := hide (grown_on (unhide G1) (bel_grown b2 (some U)))
      have U2 := hide ((unhide U1).below b2)
      clear b2
      go_wp2_with fail
      refine bodyPost_ret (v := .tuple #[.int .i64 0, .int .i64 0, .int .i64 1]) (by simp [results, Try.results105, go_sem]) rfl ?_
      exact ⟨unhide G2, .inr (.inl ⟨hd_c (by rw [unhide HL, h1]) (by have := unhide HV; omega), _, _, _, rfl, unhide U2⟩)⟩
    have b1 := (unhide U1).byt 1 (by omega)
    have hn2 : 2 ≤ bs.length := by rw [unhide HL]; omega
    cases q1 : inB (elAt bs 1) 0 0
    · refine (readSize_bad _ _ _ _ _ _ bs _ _ _ (unhide U1) (by omega) q1).mono ?_
      rintro e w2 ⟨rfl, b2⟩
      have G2 := hide (grown_on (unhide G1) (bel_grown b2 (some U)))
      have U2 := hide ((unhide U1).below b2)
      clear b2
      go_wp2_with fail
      refine bodyPost_ret (v := .tuple #[.int .i64 0, .int .i64 0, .int .i64 2]) (by simp [results, Try.results105, go_sem]) rfl ?_
      have q2 : ¬ (0 ≤ elAt bs 1 ∧ elAt bs 1 ≤ 0) := by simpa [inB] using q1
      have k := hd_d (bs := bs) hn2 (by have := unhide HV; omega) (.inr (by rw [← unhide HV, z1, show (elAt bs 1 == 0) = false by rw [beq_eq_false_iff_ne]; omega]; rfl))
      exact ⟨unhide G2, .inr (.inr ⟨k.1, _, _, rfl, by rw [k.2]; exact unhide U2⟩)⟩
    · refine (readSize_ok _ _ _ _ _ _ bs _ _ _ (unhide U1) (by omega) q1).mono ?_
      rintro e w2 ⟨rfl, u2, g2⟩
      have U2 := hide u2
      have G2 := hide (grown_on (unhide G1) g2)
      clear u2 g2
      have q2 := in_facts q1
      have k := hd_e (bs := bs) hn2 (by have := unhide HV; omega) (by omega) (by rw [← unhide HV, z1, show (elAt bs 1 == 0) = true by rw [beq_iff_eq]; omega]; rfl)
      have HK := hide k
      have HW1 : Hid ((hdW bs : Int) = v) := hide (by unfold hdW; rw [← unhide HV]; omega)
      have HM1 : Hid ((hdM bs : Int) = elAt bs 1) := hide (by unfold hdM; omega)
      clear k q1
      go_wp2_with fail
      refine bodyPost_ret (v := .tuple #[.int .i64 0, .int .i64 (elAt bs 1), .int .i64 0]) (by simp [results, Try.results105, go_sem]) rfl ?_
      exact ⟨unhide G2, .inl ⟨unhide HK, by rw [unhide HW1, unhide HM1, hz], unhide U2⟩⟩
  · have z1 : (v == 0) = false := by rw [beq_eq_false_iff_ne]; exact hz
    go_wp2_with fail
    by_cases h1 : n = 1
    · refine (readSize_short _ _ _ _ _ _ bs _ _ _ (unhide U1) (by omega)).mono ?_
      rintro e w2 ⟨rfl, b2⟩
      have G2 := hide (grown_on (unhide G1) (bel_grown b2 (some U)))
      have U2 := hide ((unhide U1).below b2)
      clear b2
      go_wp2_with fail
      refine bodyPost_ret (v := .tuple #[.int .i64 v, .int .i64 0, .int .i64 1]) (by simp [results, Try.results105, go_sem]) rfl ?_
      exact ⟨unhide G2, .inr (.inl ⟨hd_c (by rw [unhide HL, h1]) (by have := unhide HV; omega), _, _, _, rfl, unhide U2⟩)⟩
    have b1 := (unhide U1).byt 1 (by omega)
    have hn2 : 2 ≤ bs.length := by rw [unhide HL]; omega
    cases q1 : inB (elAt bs 1) 1 200
    · refine (readSize_bad _ _ _ _ _ _ bs _ _ _ (unhide U1) (by omega) q1).mono ?_
      rintro e w2 ⟨rfl, b2⟩
      have G2 := hide (grown_on (unhide G1) (bel_grown b2 (some U)))
      have U2 := hide ((unhide U1).below b2)
      clear b2
      go_wp2_with fail
      refine bodyPost_ret (v := .tuple #[.int .i64 v, .int .i64 0, .int .i64 2]) (by simp [results, Try.results105, go_sem]) rfl ?_
      have q2 : ¬ (1 ≤ elAt bs 1 ∧ elAt bs 1 ≤ 200) := by simpa [inB] using q1
      have k := hd_d (bs := bs) hn2 (by have := unhide HV; omega) (by by_cases g : 200 < elAt bs 1; exact .inl g; exact .inr (by rw [← unhide HV, z1, show (elAt bs 1 == 0) = true by rw [beq_iff_eq]; omega]; rfl))
      exact ⟨unhide G2, .inr (.inr ⟨k.1, _, _, rfl, by rw [k.2]; exact unhide U2⟩)⟩
    · refine (readSize_ok _ _ _ _ _ _ bs _ _ _ (unhide U1) (by omega) q1).mono ?_
      rintro e w2 ⟨rfl, u2, g2⟩
      have U2 := hide u2
      have G2 := hide (grown_on (unhide G1) g2)
      clear u2 g2
      have q2 := in_facts q1
      have k := hd_e (bs := bs) hn2 (by have := unhide HV; omega) (by omega) (by rw [← unhide HV, z1, show (elAt bs 1 == 0) = false by rw [beq_eq_false_iff_ne]; omega]; rfl)
      have HK := hide k
      have HW1 : Hid ((hdW bs : Int) = v) := hide (by unfold hdW; rw [← unhide HV]; omega)
      have HM1 : Hid ((hdM bs : Int) = elAt bs 1) := hide (by unfold hdM; omega)
      clear k q1
      go_wp2_with fail
      refine bodyPost_ret (v := .tuple #[.int .i64 v, .int .i64 (elAt bs 1), .int .i64 0]) (by simp [results, Try.results105, go_sem]) rfl ?_
      exact ⟨unhide G2, .inl ⟨unhide HK, by rw [unhide HW1, unhide HM1], unhide U2⟩⟩

end Go.Proofs.Ytfnnfldfnjnlfag

namespace Go.Proofs.Ytfnnfldfnjnlfag
open Go Go.RowKit

set_option maxRecDepth 20000 in
set_option maxHeartbeats 4000000 in
theorem nextChange_short (U bb bo n bc t : Nat) (bs : List Int) (w : World) (h : Un w U bb bo n bc t bs) (ht : t = n) :
    Calls Try.prog 118 #[.pointer (some ⟨U, 0, none⟩)] w fun e w' => e = .returned (.tuple #[.int .i64 0, .int .i64 0, .int .i64 1]) ∧ Below w.heap.size w w' := by
  obtain ⟨ι, fW, _, hcb, hcl⟩ := belClass w
  have HB := hide hcb
  have HA := hide hcl
  have c0 : ∀ x, (fW x).cell? ⟨U, 0, none⟩ = some (.slice (some ⟨bb, bo, none⟩) n bc) := fun x => (h.k.below (hcb x)).c 0 (by simp)
  have c1 : ∀ x, (fW x).cell? ⟨U, 1, none⟩ = some (.int .i64 (t : Int)) := fun x => (h.k.below (hcb x)).c 1 (by simp)
  have f1 : ∀ x, (fW x).frozen? ⟨U, 1, none⟩ = false := fun x => (h.k.below (hcb x)).f 1 (by simp)
  have HUN : Hid (∀ x, Un (fW x) U bb bo n bc t bs) := hide (fun x => h.below (hcb x))
  have hsm := h.sm
  have hcap := h.cap
  have hle := h.le
  have HH := hide h
  obtain ⟨y0, hy0⟩ := hcl w (Below.refl _ _)
  have HY0 := hide hy0
  have i0 : (0 : Int) ≤ (t : Int) := by omega
  have i1 : (t : Int) ≤ (n : Int) := by omega
  have i2 : (n : Int) ≤ (bc : Int) := by omega
  have m0 : n - t = 0 := by omega
  clear h hcb hcl hy0 ht
  by_cases hbt : bc = t
  · go_enter Try.func118, Try.ntmps118
    go_wp2_with fail
    rw [unhide HY0]
    repeat (refine wp_region_bel (fun w' h => (unhide HA) w' ((unhide HB _).trans (h.mono (unhide HB _).size))) (by kernel_rfl) (by kernel_rfl) ?_; (repeat (go_big_quiet_step (fail))); refine wpQuiet_nil ?_; rintro _ ⟨y, rfl⟩; (first | go_wp2_with fail | go_wp2))
    refine bodyPost_ret (v := .tuple #[.int .i64 0, .int .i64 0, .int .i64 1]) (by simp [results, Try.results118, go_sem]) rfl ?_
    exact ⟨rfl, unhide HB _⟩
  · go_enter Try.func118, Try.ntmps118
    go_wp2_with fail
    rw [unhide HY0]
    repeat (refine wp_region_bel (fun w' h => (unhide HA) w' ((unhide HB _).trans (h.mono (unhide HB _).size))) (by kernel_rfl) (by kernel_rfl) ?_; (repeat (go_big_quiet_step (fail))); refine wpQuiet_nil ?_; rintro _ ⟨y, rfl⟩; (first | go_wp2_with fail | go_wp2))
    refine bodyPost_ret (v := .tuple #[.int .i64 0, .int .i64 0, .int .i64 1]) (by simp [results, Try.results118, go_sem]) rfl ?_
    exact ⟨rfl, unhide HB _⟩
set_option maxRecDepth 20000 in
set_option maxHeartbeats 4000000 in
theorem nextChange_small (U bb bo n bc t : Nat) (bs : List Int) (w : World) (h : Un w U bb bo n bc t bs) (ht : t < n) (hs : sbB bs t = true) :
    Calls Try.prog 118 #[.pointer (some ⟨U, 0, none⟩)] w fun e w' => e = .returned (.tuple #[.int .i64 (elAt bs t - 100), .int .i64 1, .int .i64 0]) ∧ Below w.heap.size w w' := by
  obtain ⟨ι, fW, _, hcb, hcl⟩ := belClass w
  have HB := hide hcb
  have HA := hide hcl
  have c0 : ∀ x, (fW x).cell? ⟨U, 0, none⟩ = some (.slice (some ⟨bb, bo, none⟩) n bc) := fun x => (h.k.below (hcb x)).c 0 (by simp)
  have c1 : ∀ x, (fW x).cell? ⟨U, 1, none⟩ = some (.int .i64 (t : Int)) := fun x => (h.k.below (hcb x)).c 1 (by simp)
  have f1 : ∀ x, (fW x).frozen? ⟨U, 1, none⟩ = false := fun x => (h.k.below (hcb x)).f 1 (by simp)
  have HUN : Hid (∀ x, Un (fW x) U bb bo n bc t bs) := hide (fun x => h.below (hcb x))
  have hsm := h.sm
  have hcap := h.cap
  have hle := h.le
  have HH := hide h
  obtain ⟨y0, hy0⟩ := hcl w (Below.refl _ _)
  have HY0 := hide hy0
  obtain ⟨m, hm⟩ : ∃ m, n - t = m := ⟨_, rfl⟩
  have hbt : ¬ bc = t := by omega
  have hm1 : ¬ (m : Int) < 1 := by omega
  have hm2 : (0 : Int) < (m : Int) := by omega
  have i0 : (0 : Int) ≤ (t : Int) := by omega
  have i1 : (t : Int) ≤ (n : Int) := by omega
  have i2 : (n : Int) ≤ (bc : Int) := by omega
  have hb0 : ∀ x, (fW x).cell? ⟨bb, bo + t, none⟩ = some (.int .u8 (elAt bs t)) := fun x => ((unhide HUN) x).cell ht
  have hby0 := h.byt t ht
  obtain ⟨v, hv⟩ : ∃ v, v = elAt bs t := ⟨_, rfl⟩
  have HSB : Hid (sbB bs t = inB (v - 100) (-100) 100) := hide (by rw [hv]; rfl)
  rw [← hv] at hb0 hby0
  have hs2 := (unhide HSB).symm.trans hs
  clear hs
  have HV := hide hv
  clear h hcb hcl hy0 hv
  go_enter Try.func118, Try.ntmps118
  go_wp2_with fail
  rw [unhide HY0]
  repeat (refine wp_region_bel (fun w' h => (unhide HA) w' ((unhide HB _).trans (h.mono (unhide HB _).size))) (by kernel_rfl) (by kernel_rfl) ?_; (repeat (go_big_quiet_step (fail))); refine wpQuiet_nil ?_; rintro _ ⟨y, rfl⟩; (first | go_wp2_with fail | go_wp2))
  refine (isSmall_is _ _ hs2).mono ?_
  rintro e w9 ⟨rfl, hw9⟩
  subst w9
  go_wp2_with fail
  refine bodyPost_ret (v := .tuple #[.int .i64 (v - 100), .int .i64 1, .int .i64 0]) (by simp [results, Try.results118, go_sem]) rfl ?_
  exact ⟨by rw [← unhide HV], unhide HB _⟩
set_option maxRecDepth 20000 in
set_option maxHeartbeats 4000000 in
theorem nextChange_byte (U bb bo n bc t : Nat) (bs : List Int) (w : World) (h : Un w U bb bo n bc t bs) (ht : t < n) (hs : sbB bs t = false) (hb : elAt bs t ≠ 255) :
    Calls Try.prog 118 #[.pointer (some ⟨U, 0, none⟩)] w fun e w' => e = .returned (.tuple #[.int .i64 0, .int .i64 0, .int .i64 2]) ∧ Below w.heap.size w w' := by
  obtain ⟨ι, fW, _, hcb, hcl⟩ := belClass w
  have HB := hide hcb
  have HA := hide hcl
  have c0 : ∀ x, (fW x).cell? ⟨U, 0, none⟩ = some (.slice (some ⟨bb, bo, none⟩) n bc) := fun x => (h.k.below (hcb x)).c 0 (by simp)
  have c1 : ∀ x, (fW x).cell? ⟨U, 1, none⟩ = some (.int .i64 (t : Int)) := fun x => (h.k.below (hcb x)).c 1 (by simp)
  have f1 : ∀ x, (fW x).frozen? ⟨U, 1, none⟩ = false := fun x => (h.k.below (hcb x)).f 1 (by simp)
  have HUN : Hid (∀ x, Un (fW x) U bb bo n bc t bs) := hide (fun x => h.below (hcb x))
  have hsm := h.sm
  have hcap := h.cap
  have hle := h.le
  have HH := hide h
  obtain ⟨y0, hy0⟩ := hcl w (Below.refl _ _)
  have HY0 := hide hy0
  obtain ⟨m, hm⟩ : ∃ m, n - t = m := ⟨_, rfl⟩
  have hbt : ¬ bc = t := by omega
  have hm1 : ¬ (m : Int) < 1 := by omega
  have hm2 : (0 : Int) < (m : Int) := by omega
  have i0 : (0 : Int) ≤ (t : Int) := by omega
  have i1 : (t : Int) ≤ (n : Int) := by omega
  have i2 : (n : Int) ≤ (bc : Int) := by omega
  have hb0 : ∀ x, (fW x).cell? ⟨bb, bo + t, none⟩ = some (.int .u8 (elAt bs t)) := fun x => ((unhide HUN) x).cell ht
  have hby0 := h.byt t ht
  obtain ⟨v, hv⟩ : ∃ v, v = elAt bs t := ⟨_, rfl⟩
  have HSB : Hid (sbB bs t = inB (v - 100) (-100) 100) := hide (by rw [hv]; rfl)
  rw [← hv] at hb0 hby0 hb
  have d255 : (v != 255) = true := by simpa using hb
  clear hb
  have hs2 := (unhide HSB).symm.trans hs
  clear hs
  have HV := hide hv
  clear h hcb hcl hy0 hv
  go_enter Try.func118, Try.ntmps118
  go_wp2_with fail
  rw [unhide HY0]
  repeat (refine wp_region_bel (fun w' h => (unhide HA) w' ((unhide HB _).trans (h.mono (unhide HB _).size))) (by kernel_rfl) (by kernel_rfl) ?_; (repeat (go_big_quiet_step (fail))); refine wpQuiet_nil ?_; rintro _ ⟨y, rfl⟩; (first | go_wp2_with fail | go_wp2))
  refine (isSmall_is _ _ hs2).mono ?_
  rintro e w9 ⟨rfl, hw9⟩
  subst w9
  go_wp2_with fail
  refine bodyPost_ret (v := .tuple #[.int .i64 0, .int .i64 0, .int .i64 2]) (by simp [results, Try.results118, go_sem]) rfl ?_
  exact ⟨rfl, unhide HB _⟩
set_option maxRecDepth 20000 in
set_option maxHeartbeats 4000000 in
theorem nextChange_short4 (U bb bo n bc t : Nat) (bs : List Int) (w : World) (h : Un w U bb bo n bc t bs) (ht : t < n) (hs : sbB bs t = false) (hb : elAt bs t = 255) (h4n : n < t + 4) :
    Calls Try.prog 118 #[.pointer (some ⟨U, 0, none⟩)] w fun e w' => e = .returned (.tuple #[.int .i64 0, .int .i64 0, .int .i64 1]) ∧ Below w.heap.size w w' := by
  obtain ⟨ι, fW, _, hcb, hcl⟩ := belClass w
  have HB := hide hcb
  have HA := hide hcl
  have c0 : ∀ x, (fW x).cell? ⟨U, 0, none⟩ = some (.slice (some ⟨bb, bo, none⟩) n bc) := fun x => (h.k.below (hcb x)).c 0 (by simp)
  have c1 : ∀ x, (fW x).cell? ⟨U, 1, none⟩ = some (.int .i64 (t : Int)) := fun x => (h.k.below (hcb x)).c 1 (by simp)
  have f1 : ∀ x, (fW x).frozen? ⟨U, 1, none⟩ = false := fun x => (h.k.below (hcb x)).f 1 (by simp)
  have HUN : Hid (∀ x, Un (fW x) U bb bo n bc t bs) := hide (fun x => h.below (hcb x))
  have hsm := h.sm
  have hcap := h.cap
  have hle := h.le
  have HH := hide h
  obtain ⟨y0, hy0⟩ := hcl w (Below.refl _ _)
  have HY0 := hide hy0
  obtain ⟨m, hm⟩ : ∃ m, n - t = m := ⟨_, rfl⟩
  have hbt : ¬ bc = t := by omega
  have hm1 : ¬ (m : Int) < 1 := by omega
  have hm2 : (0 : Int) < (m : Int) := by omega
  have i0 : (0 : Int) ≤ (t : Int) := by omega
  have i1 : (t : Int) ≤ (n : Int) := by omega
  have i2 : (n : Int) ≤ (bc : Int) := by omega
  have hb0 : ∀ x, (fW x).cell? ⟨bb, bo + t, none⟩ = some (.int .u8 (elAt bs t)) := fun x => ((unhide HUN) x).cell ht
  have hby0 := h.byt t ht
  obtain ⟨v, hv⟩ : ∃ v, v = elAt bs t := ⟨_, rfl⟩
  have HSB : Hid (sbB bs t = inB (v - 100) (-100) 100) := hide (by rw [hv]; rfl)
  rw [← hv] at hb0 hby0 hb
  have d255 : (v != 255) = false := by rw [hb]; rfl
  have HB255 := hide hb
  clear hb
  have h4 : (m : Int) < 4 := by omega
  have hs2 := (unhide HSB).symm.trans hs
  clear hs
  have HV := hide hv
  clear h hcb hcl hy0 hv
  go_enter Try.func118, Try.ntmps118
  go_wp2_with fail
  rw [unhide HY0]
  repeat (refine wp_region_bel (fun w' h => (unhide HA) w' ((unhide HB _).trans (h.mono (unhide HB _).size))) (by kernel_rfl) (by kernel_rfl) ?_; (repeat (go_big_quiet_step (fail))); refine wpQuiet_nil ?_; rintro _ ⟨y, rfl⟩; (first | go_wp2_with fail | go_wp2))
  refine (isSmall_is _ _ hs2).mono ?_
  rintro e w9 ⟨rfl, hw9⟩
  subst w9
  go_wp2_with fail
  refine bodyPost_ret (v := .tuple #[.int .i64 0, .int .i64 0, .int .i64 1]) (by simp [results, Try.results118, go_sem]) rfl ?_
  exact ⟨rfl, unhide HB _⟩
set_option maxRecDepth 20000 in
set_option maxHeartbeats 4000000 in
theorem nextChange_bad (U bb bo n bc t : Nat) (bs : List Int) (w : World) (h : Un w U bb bo n bc t bs) (ht : t < n) (hs : sbB bs t = false) (hb : elAt bs t = 255) (h4n : t + 4 ≤ n) (hl : ch4B bs t = false) :
    Calls Try.prog 118 #[.pointer (some ⟨U, 0, none⟩)] w fun e w' => e = .returned (.tuple #[.int .i64 0, .int .i64 0, .int .i64 2]) ∧ Below w.heap.size w w' := by
  obtain ⟨ι, fW, _, hcb, hcl⟩ := belClass w
  have HB := hide hcb
  have HA := hide hcl
  have c0 : ∀ x, (fW x).cell? ⟨U, 0, none⟩ = some (.slice (some ⟨bb, bo, none⟩) n bc) := fun x => (h.k.below (hcb x)).c 0 (by simp)
  have c1 : ∀ x, (fW x).cell? ⟨U, 1, none⟩ = some (.int .i64 (t : Int)) := fun x => (h.k.below (hcb x)).c 1 (by simp)
  have f1 : ∀ x, (fW x).frozen? ⟨U, 1, none⟩ = false := fun x => (h.k.below (hcb x)).f 1 (by simp)
  have HUN : Hid (∀ x, Un (fW x) U bb bo n bc t bs) := hide (fun x => h.below (hcb x))
  have hsm := h.sm
  have hcap := h.cap
  have hle := h.le
  have HH := hide h
  obtain ⟨y0, hy0⟩ := hcl w (Below.refl _ _)
  have HY0 := hide hy0
  obtain ⟨m, hm⟩ : ∃ m, n - t = m := ⟨_, rfl⟩
  have hbt : ¬ bc = t := by omega
  have hm1 : ¬ (m : Int) < 1 := by omega
  have hm2 : (0 : Int) < (m : Int) := by omega
  have i0 : (0 : Int) ≤ (t : Int) := by omega
  have i1 : (t : Int) ≤ (n : Int) := by omega
  have i2 : (n : Int) ≤ (bc : Int) := by omega
  have hb0 : ∀ x, (fW x).cell? ⟨bb, bo + t, none⟩ = some (.int .u8 (elAt bs t)) := fun x => ((unhide HUN) x).cell ht
  have hby0 := h.byt t ht
  obtain ⟨v, hv⟩ : ∃ v, v = elAt bs t := ⟨_, rfl⟩
  have HSB : Hid (sbB bs t = inB (v - 100) (-100) 100) := hide (by rw [hv]; rfl)
  rw [← hv] at hb0 hby0 hb
  have d255 : (v != 255) = false := by rw [hb]; rfl
  have HB255 := hide hb
  clear hb
  have h4 : ¬ (m : Int) < 4 := by omega
  have h41 : (1 : Int) < (m : Int) := by omega
  have h42 : (2 : Int) < (m : Int) := by omega
  have h43 : (3 : Int) < (m : Int) := by omega
  have hb1 : ∀ x, (fW x).cell? ⟨bb, bo + t + 1, none⟩ = some (.int .u8 (elAt bs (t + 1))) := fun x => by have := ((unhide HUN) x).cell (i := t + 1) (by omega); rw [← Nat.add_assoc] at this; exact this
  have hby1 := h.byt (t + 1) (by omega)
  obtain ⟨v1, hv1⟩ : ∃ v1, v1 = elAt bs (t + 1) := ⟨_, rfl⟩
  rw [← hv1] at hb1 hby1
  have hb2 : ∀ x, (fW x).cell? ⟨bb, bo + t + 2, none⟩ = some (.int .u8 (elAt bs (t + 2))) := fun x => by have := ((unhide HUN) x).cell (i := t + 2) (by omega); rw [← Nat.add_assoc] at this; exact this
  have hby2 := h.byt (t + 2) (by omega)
  obtain ⟨v2, hv2⟩ : ∃ v2, v2 = elAt bs (t + 2) := ⟨_, rfl⟩
  rw [← hv2] at hb2 hby2
  have hb3 : ∀ x, (fW x).cell? ⟨bb, bo + t + 3, none⟩ = some (.int .u8 (elAt bs (t + 3))) := fun x => by have := ((unhide HUN) x).cell (i := t + 3) (by omega); rw [← Nat.add_assoc] at this; exact this
  have hby3 := h.byt (t + 3) (by omega)
  obtain ⟨v3, hv3⟩ : ∃ v3, v3 = elAt bs (t + 3) := ⟨_, rfl⟩
  rw [← hv3] at hb3 hby3
  have HLG : Hid (lgV bs t = v1 * 65536 + v2 * 256 + v3 - 60000) := hide (by rw [hv1, hv2, hv3]; rfl)
  have HB4 : Hid (ch4B bs t = (!inB (v1 * 65536 + v2 * 256 + v3 - 60000) (-100) 100 && inB (v1 * 65536 + v2 * 256 + v3 - 60000) (-60000) 60000)) := hide (by unfold ch4B; rw [unhide HLG])
  clear hv1 hv2 hv3
  have hs2 := (unhide HSB).symm.trans hs
  clear hs
  have HV := hide hv
  clear h hcb hcl hy0 hv
  obtain ⟨lg, hlg⟩ : ∃ lg, lg = v1 * 65536 + v2 * 256 + v3 - 60000 := ⟨_, rfl⟩
  rw [← hlg] at HLG HB4
  have HLGE := hide hlg
  clear hlg
  go_enter Try.func118, Try.ntmps118
  go_wp2_with fail
  rw [unhide HY0]
  repeat (refine wp_region_bel (fun w' h => (unhide HA) w' ((unhide HB _).trans (h.mono (unhide HB _).size))) (by kernel_rfl) (by kernel_rfl) ?_; (repeat (go_big_quiet_step (fail))); refine wpQuiet_nil ?_; rintro _ ⟨y, rfl⟩; (first | go_wp2_with fail | go_wp2))
  refine (isSmall_is _ _ hs2).mono ?_
  rintro e w9 ⟨rfl, hw9⟩
  subst w9
  go_wp2_with fail
  repeat (refine wp_region_bel (fun w' h => (unhide HA) w' ((unhide HB _).trans (h.mono (unhide HB _).size))) (by kernel_rfl) (by kernel_rfl) ?_; (repeat (go_big_quiet_step (fail))); refine wpQuiet_nil ?_; rintro _ ⟨y, rfl⟩; (first | go_wp2_with fail | go_wp2))
  rw [show v1 * 65536 + v2 * 256 + v3 - 60000 = lg from (unhide HLGE).symm]
  cases g1 : inB lg (-100) 100
  · have g2 : inB lg (-60000) 60000 = false := by have := (unhide HB4).symm.trans hl; rw [g1] at this; simpa using this
    refine (isSmall_is _ _ g1).mono ?_
    rintro e w9 ⟨rfl, hw9⟩
    subst w9
    go_wp2_with fail
    refine (within_is _ _ _ _ g2).mono ?_
    rintro e w9 ⟨rfl, hw9⟩
    subst w9
    go_wp2_with fail
    refine bodyPost_ret (v := .tuple #[.int .i64 0, .int .i64 0, .int .i64 2]) (by simp [results, Try.results118, go_sem]) rfl ?_
    exact ⟨rfl, unhide HB _⟩
  · refine (isSmall_is _ _ g1).mono ?_
    rintro e w9 ⟨rfl, hw9⟩
    subst w9
    go_wp2_with fail
    refine bodyPost_ret (v := .tuple #[.int .i64 0, .int .i64 0, .int .i64 2]) (by simp [results, Try.results118, go_sem]) rfl ?_
    exact ⟨rfl, unhide HB _⟩
set_option maxRecDepth 20000 in
set_option maxHeartbeats 4000000 in
theorem nextChange_long (U bb bo n bc t : Nat) (bs : List Int) (w : World) (h : Un w U bb bo n bc t bs) (ht : t < n) (hs : sbB bs t = false) (hb : elAt bs t = 255) (h4n : t + 4 ≤ n) (hl : ch4B bs t = true) :
    Calls Try.prog 118 #[.pointer (some ⟨U, 0, none⟩)] w fun e w' => e = .returned (.tuple #[.int .i64 (lgV bs t), .int .i64 4, .int .i64 0]) ∧ Below w.heap.size w w' := by
  obtain ⟨ι, fW, _, hcb, hcl⟩ := belClass w
  have HB := hide hcb
  have HA := hide hcl
  have c0 : ∀ x, (fW x).cell? ⟨U, 0, none⟩ = some (.slice (some ⟨bb, bo, none⟩) n bc) := fun x => (h.k.below (hcb x)).c 0 (by simp)
  have c1 : ∀ x, (fW x).cell? ⟨U, 1, none⟩ = some (.int .i64 (t : Int)) := fun x => (h.k.below (hcb x)).c 1 (by simp)
  have f1 : ∀ x, (fW x).frozen? ⟨U, 1, none⟩ = false := fun x => (h.k.below (hcb x)).f 1 (by simp)
  have HUN : Hid (∀ x, Un (fW x) U bb bo n bc t bs) := hide (fun x => h.below (hcb x))
  have hsm := h.sm
  have hcap := h.cap
  have hle := h.le
  have HH := hide h
  obtain ⟨y0, hy0⟩ := hcl w (Below.refl _ _)
  have HY0 := hide hy0
  obtain ⟨m, hm⟩ : ∃ m, n - t = m := ⟨_, rfl⟩
  have hbt : ¬ bc = t := by omega
  have hm1 : ¬ (m : Int) < 1 := by omega
  have hm2 : (0 : Int) < (m : Int) := by omega
  have i0 : (0 : Int) ≤ (t : Int) := by omega
  have i1 : (t : Int) ≤ (n : Int) := by omega
  have i2 : (n : Int) ≤ (bc : Int) := by omega
  have hb0 : ∀ x, (fW x).cell? ⟨bb, bo + t, none⟩ = some (.int .u8 (elAt bs t)) := fun x => ((unhide HUN) x).cell ht
  have hby0 := h.byt t ht
  obtain ⟨v, hv⟩ : ∃ v, v = elAt bs t := ⟨_, rfl⟩
  have HSB : Hid (sbB bs t = inB (v - 100) (-100) 100) := hide (by rw [hv]; rfl)
  rw [← hv] at hb0 hby0 hb
  have d255 : (v != 255) = false := by rw [hb]; rfl
  have HB255 := hide hb
  clear hb
  have h4 : ¬ (m : Int) < 4 := by omega
  have h41 : (1 : Int) < (m : Int) := by omega
  have h42 : (2 : Int) < (m : Int) := by omega
  have h43 : (3 : Int) < (m : Int) := by omega
  have hb1 : ∀ x, (fW x).cell? ⟨bb, bo + t + 1, none⟩ = some (.int .u8 (elAt bs (t + 1))) := fun x => by have := ((unhide HUN) x).cell (i := t + 1) (by omega); rw [← Nat.add_assoc] at this; exact this
  have hby1 := h.byt (t + 1) (by omega)
  obtain ⟨v1, hv1⟩ : ∃ v1, v1 = elAt bs (t + 1) := ⟨_, rfl⟩
  rw [← hv1] at hb1 hby1
  have hb2 : ∀ x, (fW x).cell? ⟨bb, bo + t + 2, none⟩ = some (.int .u8 (elAt bs (t + 2))) := fun x => by have := ((unhide HUN) x).cell (i := t + 2) (by omega); rw [← Nat.add_assoc] at this; exact this
  have hby2 := h.byt (t + 2) (by omega)
  obtain ⟨v2, hv2⟩ : ∃ v2, v2 = elAt bs (t + 2) := ⟨_, rfl⟩
  rw [← hv2] at hb2 hby2
  have hb3 : ∀ x, (fW x).cell? ⟨bb, bo + t + 3, none⟩ = some (.int .u8 (elAt bs (t + 3))) := fun x => by have := ((unhide HUN) x).cell (i := t + 3) (by omega); rw [← Nat.add_assoc] at this; exact this
  have hby3 := h.byt (t + 3) (by omega)
  obtain ⟨v3, hv3⟩ : ∃ v3, v3 = elAt bs (t + 3) := ⟨_, rfl⟩
  rw [← hv3] at hb3 hby3
  have HLG : Hid (lgV bs t = v1 * 65536 + v2 * 256 + v3 - 60000) := hide (by rw [hv1, hv2, hv3]; rfl)
  have HB4 : Hid (ch4B bs t = (!inB (v1 * 65536 + v2 * 256 + v3 - 60000) (-100) 100 && inB (v1 * 65536 + v2 * 256 + v3 - 60000) (-60000) 60000)) := hide (by unfold ch4B; rw [unhide HLG])
  clear hv1 hv2 hv3
  have hs2 := (unhide HSB).symm.trans hs
  clear hs
  have HV := hide hv
  clear h hcb hcl hy0 hv
  obtain ⟨lg, hlg⟩ : ∃ lg, lg = v1 * 65536 + v2 * 256 + v3 - 60000 := ⟨_, rfl⟩
  rw [← hlg] at HLG HB4
  have HLGE := hide hlg
  clear hlg
  go_enter Try.func118, Try.ntmps118
  go_wp2_with fail
  rw [unhide HY0]
  repeat (refine wp_region_bel (fun w' h => (unhide HA) w' ((unhide HB _).trans (h.mono (unhide HB _).size))) (by kernel_rfl) (by kernel_rfl) ?_; (repeat (go_big_quiet_step (fail))); refine wpQuiet_nil ?_; rintro _ ⟨y, rfl⟩; (first | go_wp2_with fail | go_wp2))
  refine (isSmall_is _ _ hs2).mono ?_
  rintro e w9 ⟨rfl, hw9⟩
  subst w9
  go_wp2_with fail
  repeat (refine wp_region_bel (fun w' h => (unhide HA) w' ((unhide HB _).trans (h.mono (unhide HB _).size))) (by kernel_rfl) (by kernel_rfl) ?_; (repeat (go_big_quiet_step (fail))); refine wpQuiet_nil ?_; rintro _ ⟨y, rfl⟩; (first | go_wp2_with fail | go_wp2))
  rw [show v1 * 65536 + v2 * 256 + v3 - 60000 = lg from (unhide HLGE).symm]
  have g0 := (unhide HB4).symm.trans hl
  rw [Bool.and_eq_true] at g0
  have g1 : inB lg (-100) 100 = false := by simpa using g0.1
  have g2 := g0.2
  clear g0
  refine (isSmall_is _ _ g1).mono ?_
  rintro e w9 ⟨rfl, hw9⟩
  subst w9
  go_wp2_with fail
  refine (within_is _ _ _ _ g2).mono ?_
  rintro e w9 ⟨rfl, hw9⟩
  subst w9
  go_wp2_with fail
  refine bodyPost_ret (v := .tuple #[.int .i64 lg, .int .i64 4, .int .i64 0]) (by simp [results, Try.results118, go_sem]) rfl ?_
  exact ⟨by rw [unhide HLG], unhide HB _⟩
/-- All of them: what the plain functions say. -/
theorem nextChange_any (U bb bo n bc t : Nat) (bs : List Int) (w : World) (h : Un w U bb bo n bc t bs) :
    Calls Try.prog 118 #[.pointer (some ⟨U, 0, none⟩)] w fun e w' => e = .returned (.tuple #[.int .i64 (if nxC bs t = 0 then nxV bs t else 0), .int .i64 ((if nxC bs t = 0 then nxS bs t else 0 : Nat) : Int), .int .i64 (nxC bs t : Int)]) ∧ Below w.heap.size w w' := by
  have hl := h.r.len_eq
  have hle := h.le
  by_cases ht : t = n
  · rw [nx_short (by omega)]; exact nextChange_short U bb bo n bc t bs w h ht
  · cases hs : sbB bs t
    · by_cases hb : elAt bs t = 255
      · by_cases h4 : t + 4 ≤ n
        · cases hg : ch4B bs t
          · rw [nx_bad hs hb (by omega) hg]; exact nextChange_bad U bb bo n bc t bs w h (by omega) hs hb h4 hg
          · have k := nx_long hs hb (by omega) hg
            rw [k.1, k.2.1, k.2.2]; exact nextChange_long U bb bo n bc t bs w h (by omega) hs hb h4 hg
        · rw [nx_short4 (by omega) hs hb (by omega)]; exact nextChange_short4 U bb bo n bc t bs w h (by omega) hs hb (by omega)
      · rw [nx_byte (by omega) hs hb]; exact nextChange_byte U bb bo n bc t bs w h (by omega) hs hb
    · have k := nx_small (bs := bs) (t := t) (by omega) hs
      rw [k.1, k.2.1, k.2.2]; exact nextChange_small U bb bo n bc t bs w h (by omega) hs

end Go.Proofs.Ytfnnfldfnjnlfag

namespace Go.Proofs.Ytfnnfldfnjnlfag
open Go Go.RowKit

theorem row_gr {w w' : World} {a : Option Addr} {n : Nat} {L : List Int} {row : Option Nat} (h : Row w a n L) (k : w.grownBy w' row) (hne : ∀ b o, a = some ⟨b, o, none⟩ → some b ≠ row) : Row w' a n L := by
  refine ⟨h.len_eq, h.small, fun i hi => ?_, h.fit⟩
  obtain ⟨b, off, ha, hc⟩ := h.cells i hi
  refine ⟨b, off, ha, ?_⟩
  rw [World.cell?_of_block (a := ⟨b, off + i, none⟩) (k.block b (block_lt_of_cell hc) (hne b off ha))]
  exact hc
theorem grown_new {w w1 w2 : World} {row : Option Nat} {g : Nat} (h : w.grownBy w1 row) (k : w1.grownBy w2 (some g)) (hg : w.heap.size ≤ g) : w.grownBy w2 row :=
  ⟨k.os.trans h.os, k.tape.trans h.tape, k.output.trans h.output, Nat.le_trans h.size k.size, fun i hi hne => (k.block i (Nat.lt_of_lt_of_le hi h.size) (fun e => by have := Option.some.inj e; omega)).trans (h.block i hi hne)⟩
theorem nextChange_yes {q : Int} {s : Nat} (U bb bo n bc t : Nat) (bs : List Int) (w : World) (h : Un w U bb bo n bc t bs) (hc : nxC bs t = 0) (hq : nxV bs t = q) (hs : nxS bs t = s) :
    Calls Try.prog 118 #[.pointer (some ⟨U, 0, none⟩)] w fun e w' => e = .returned (.tuple #[.int .i64 q, .int .i64 (s : Int), .int .i64 0]) ∧ Below w.heap.size w w' := by
  have := nextChange_any U bb bo n bc t bs w h
  rw [hc, if_pos rfl, if_pos rfl, hq, hs] at this
  exact this
theorem nextChange_no {c : Nat} (U bb bo n bc t : Nat) (bs : List Int) (w : World) (h : Un w U bb bo n bc t bs) (hc : nxC bs t = c) (h0 : c ≠ 0) :
    Calls Try.prog 118 #[.pointer (some ⟨U, 0, none⟩)] w fun e w' => e = .returned (.tuple #[.int .i64 0, .int .i64 0, .int .i64 (c : Int)]) ∧ Below w.heap.size w w' := by
  have := nextChange_any U bb bo n bc t bs w h
  rw [hc, if_neg h0, if_neg h0] at this
  exact this
/-- A row that grows beside the reader. -/
structure UrW (w wr : World) (U bb bo n bc t : Nat) (bs : List Int) (g k c : Nat) (z : List Int) : Prop where
  u : Un wr U bb bo n bc t bs
  o : OwnI wr w.heap.size (.slice (some ⟨g, 0, none⟩) k c) z
  l : z.length = k
  gr : w.grownBy wr (some U)
  lt : U < w.heap.size
theorem UrW.below {w wr w' : World} {U bb bo n bc t : Nat} {bs : List Int} {g k c : Nat} {z : List Int} (h : UrW w wr U bb bo n bc t bs g k c z) (b : Below wr.heap.size wr w') : UrW w w' U bb bo n bc t bs g k c z :=
  ⟨h.u.below b, h.o.below b, h.l, grown_on h.gr (bel_grown b _), h.lt⟩
theorem UrW.step {w wr w9 : World} {U bb bo n bc t : Nat} {bs : List Int} {g k c g9 c9 : Nat} {z : List Int} {x : Int} (h : UrW w wr U bb bo n bc t bs g k c z) (hb : bb < w.heap.size) (o : OwnI w9 w.heap.size (.slice (some ⟨g9, 0, none⟩) (k + 1) c9) (z ++ [x])) (gr : wr.grownBy w9 (Value.slice (some ⟨g, 0, none⟩) k c).ownBlock) : UrW w w9 U bb bo n bc t bs g9 (k + 1) c9 (z ++ [x]) := by
  have lg := (h.o.lies g rfl).1
  have hU := h.lt
  have gr2 : wr.grownBy w9 (some g) := gr
  exact ⟨h.u.far gr2 (fun e => by have := Option.some.inj e; omega) (fun e => by have := Option.some.inj e; omega), o, by simp [h.l], grown_new h.gr gr2 lg, h.lt⟩
theorem UrW.at_ {w wr : World} {U bb bo n bc t s : Nat} {bs : List Int} {g k c : Nat} {z : List Int} (h : UrW w wr U bb bo n bc t bs g k c z) (hs : s ≤ n) : UrW w (wr.setCell ⟨U, 1, none⟩ (.int .i64 (s : Int))) U bb bo n bc s bs g k c z := by
  have lg := (h.o.lies g rfl).1
  have hU := h.lt
  exact ⟨h.u.at_ hs, h.o.set_other _ (fun e => by have : g = U := Option.some.inj e; omega), h.l, grown_on h.gr (grown_set (grown_refl _ (some U)) 1 _), h.lt⟩
def RwE (bs ah : List Int) (t m : Nat) (U bb bo n bc : Nat) (w : World) (e : Ending) (w' : World) : Prop :=
  w.grownBy w' (some U) ∧ (((unRow bs ah t m).c = 0 ∧ ∃ g c, e = .returned (.tuple #[.slice (some ⟨g, 0, none⟩) m c, .int .i64 0]) ∧ OwnI w' w.heap.size (.slice (some ⟨g, 0, none⟩) m c) (unRow bs ah t m).z ∧ Un w' U bb bo n bc (unRow bs ah t m).t bs) ∨ ((unRow bs ah t m).c ≠ 0 ∧ ∃ a c, e = .returned (.tuple #[.slice a 0 c, .int .i64 ((unRow bs ah t m).c : Int)]) ∧ Un w' U bb bo n bc (unRow bs ah t m).t bs))

set_option maxRecDepth 20000 in
set_option maxHeartbeats 2000000 in
theorem readRow_any (U bb bo n bc t : Nat) (bs : List Int) (a : Option Addr) (m c : Nat) (ah : List Int) (w : World) (h : Un w U bb bo n bc t bs) (ha : Row w a m ah) (hne : ∀ b o, a = some ⟨b, o, none⟩ → b ≠ U) (hin : ∀ k, k < m → -30000 ≤ nth ah k ∧ nth ah k ≤ 30000) (hm : m ≤ 8) :
    Calls Try.prog 106 #[.pointer (some ⟨U, 0, none⟩), .slice a m c] w fun e w' => RwE bs ah t m U bb bo n bc w e w' := by
  have HA0 := hide ha
  have HNE := hide hne
  have HIN := hide hin
  have HLB := hide h.r.len_eq
  have S0 : Hid (UrW w (w.alloc (Obj.cells #[] 3)) U bb bo n bc t bs w.heap.size 0 0 []) := hide ⟨h.below (bel1 _), ownI_none (Nat.le_refl _), rfl, bel_grown (bel1 _) _, h.k.lt⟩
  have hsm := h.sm
  have BB : Hid (0 < n → bb < w.heap.size) := hide (fun hn => block_lt_of_cell (h.cell (i := 0) hn))
  clear h ha hne hin
  go_enter Try.func106, Try.ntmps106
  go_wp2_with fail
  go_loopw [6, 16] (fun o i wr => ∃ (k s g d : Nat) (z : List Int), k ≤ m ∧ i = .int .i64 k ∧ o = .slice (some ⟨g, 0, none⟩) k d ∧ unRow bs ah t k = ⟨0, s, z⟩ ∧ UrW w wr U bb bo n bc s bs g k d z) (fun _ i _ => m - (intOf i).toNat)
  case atStart => exact ⟨0, t, _, _, [], Nat.zero_le _, rfl, rfl, rfl, unhide S0⟩
  case round =>
    clear S0
    obtain ⟨k, s, g, d, z, hk, rfl, rfl, hun, hur⟩ := hrel
    have HUN := hide hun
    have UR := hide hur
    clear hun hur
    by_cases hlt : k < m
    · have i0 : (0 : Int) ≤ (k : Int) := by omega
      have i1 : (k : Int) < (m : Int) := by omega
      have rr := row_gr (unhide HA0) (unhide UR).gr (fun b o e e2 => (unhide HNE) b o e (Option.some.inj e2))
      rcases rr.open_ with ⟨h0, _⟩ | ⟨b3, o3, rfl, _, hc3⟩
      · omega
      have x3 := hc3 k hlt
      obtain ⟨x, hx⟩ : ∃ x, x = nth ah k := ⟨_, rfl⟩
      have hx2 : -30000 ≤ x ∧ x ≤ 30000 := by rw [hx]; exact (unhide HIN) k hlt
      rw [← hx] at x3
      have HX := hide hx
      clear rr hc3 hx
      have STOP : Hid (∀ cc tt zz, unSt bs ah k ⟨0, s, z⟩ = ⟨cc, tt, zz⟩ → cc ≠ 0 → unRow bs ah t m = ⟨cc, tt, zz⟩) := hide (fun cc tt zz e hc => by
        have e1 : unRow bs ah t (k + 1) = ⟨cc, tt, zz⟩ := by rw [unRow, unhide HUN]; exact e
        rw [unRow_stop (k := k + 1) (by rw [e1]; exact hc) m (by omega), e1])
      by_cases hcc : nxC bs s = 0
      · obtain ⟨q, hq⟩ : ∃ q, nxV bs s = q := ⟨_, rfl⟩
        obtain ⟨y, hy⟩ : ∃ y, nxS bs s = y := ⟨_, rfl⟩
        have wl := nx_well hcc
        rw [hq, hy] at wl
        have HCC := hide hcc
        have HQ := hide hq
        have HYS := hide hy
        have hsn : s + y ≤ n := by have := unhide HLB; omega
        have hbb := (unhide BB) (by omega)
        clear hcc hq hy
        go_wp2_with fail
        refine (nextChange_yes _ _ _ _ _ _ bs _ (unhide UR).u (unhide HCC) (unhide HQ) (unhide HYS)).mono ?_
        rintro e w2 ⟨rfl, b2⟩
        have UR2 := hide ((unhide UR).below b2)
        clear b2 x3
        go_wp2_with fail
        cases hv : inB (x + q) (-30000) 30000
        · have HV : Hid (unRow bs ah t m = ⟨3, s, z⟩) := hide ((unhide STOP) _ _ _ (unSt_val (unhide HCC) (by rw [← unhide HX, unhide HQ]; exact hv)) (by omega))
          refine (within_is _ _ _ _ hv).mono ?_
          rintro e w3 ⟨rfl, hw3⟩
          subst w3
          go_wp2_with fail
          refine bodyPost_ret (v := .tuple #[.slice (some ⟨w2.heap.size, 0, none⟩) 0 0, .int .i64 3]) (by simp [results, Try.results106, go_sem]) rfl ?_
          refine ⟨grown_on (unhide UR2).gr (bel_grown (bel1 _) _), .inr ?_⟩
          rw [unhide HV]
          exact ⟨by simp, _, _, rfl, (unhide UR2).u.below (bel1 _)⟩
        · have HV : Hid (unRow bs ah t (k + 1) = ⟨0, s + y, z ++ [x + q]⟩) := hide (by rw [unRow, unhide HUN, unSt_yes (unhide HCC) (by rw [← unhide HX, unhide HQ]; exact hv), ← unhide HX, unhide HQ, unhide HYS])
          refine (within_is _ _ _ _ hv).mono ?_
          rintro e w3 ⟨rfl, hw3⟩
          subst w3
          have hvb := in_facts hv
          clear hv
          go_wp2_with (at_builtin; refine wpList_app_int rfl _ _ rfl (x + q) (unhide UR2).o (unhide UR2).l rfl rfl rfl (Nat.le_trans (unhide UR2).gr.size (Nat.le_refl _)) (by omega) (by omega) ?_; intro g9 c9 w9 o9 gr9; have UR9 := hide ((unhide UR2).step hbb o9 gr9); have y1 : w9.cell? ⟨U, 1, none⟩ = some (.int .i64 (s : Int)) := (unhide UR9).u.k.c 1 (by simp); have z1 : w9.frozen? ⟨U, 1, none⟩ = false := (unhide UR9).u.k.f 1 (by simp); clear o9 gr9)
          have UF : Hid (UrW w (w9.setCell ⟨U, 1, none⟩ (.int .i64 ((s : Int) + (y : Int)))) U bb bo n bc (s + y) bs g9 (k + 1) c9 (z ++ [x + q])) := hide (by have := (unhide UR9).at_ hsn; rw [show ((s + y : Nat) : Int) = (s : Int) + (y : Int) by omega] at this; exact this)
          go_roundw
          case rel => exact ⟨k + 1, s + y, g9, c9, _, by omega, by go_num, rfl, unhide HV, unhide UF⟩
          case measure => simp [intOf]; omega
      · obtain ⟨cc, hc2⟩ : ∃ cc, nxC bs s = cc := ⟨_, rfl⟩
        rw [hc2] at hcc
        have hcd := nx_code bs s
        rw [hc2] at hcd
        have HV : Hid (unRow bs ah t m = ⟨cc, s, z⟩) := hide ((unhide STOP) _ _ _ (unSt_code hc2 hcc) hcc)
        have HC2 := hide hc2
        have n0 : ((cc : Int) != 0) = true := by simp; omega
        have HCC := hide hcc
        clear hc2 hcc hcd
        go_wp2_with fail
        refine (nextChange_no _ _ _ _ _ _ bs _ (unhide UR).u (unhide HC2) (unhide HCC)).mono ?_
        rintro e w2 ⟨rfl, b2⟩
        have UR2 := hide ((unhide UR).below b2)
        clear b2 x3
        go_wp2_with fail
        refine bodyPost_ret (v := .tuple #[.slice (some ⟨w2.heap.size, 0, none⟩) 0 0, .int .i64 (cc : Int)]) (by simp [results, Try.results106, go_sem]) rfl ?_
        refine ⟨grown_on (unhide UR2).gr (bel_grown (bel1 _) _), .inr ?_⟩
        rw [unhide HV]
        exact ⟨unhide HCC, _, _, rfl, (unhide UR2).u.below (bel1 _)⟩
    · have i1 : ¬ (k : Int) < (m : Int) := by omega
      have hkm : k = m := by omega
      have HUM : Hid (unRow bs ah t m = ⟨0, s, z⟩) := hide (by rw [← hkm]; exact unhide HUN)
      have HKM := hide hkm
      clear hkm
      go_wp2_with fail
      refine bodyPost_ret (v := .tuple #[.slice (some ⟨g, 0, none⟩) k d, .int .i64 0]) (by simp [results, Try.results106, go_sem]) rfl ?_
      refine ⟨(unhide UR).gr, .inl ?_⟩
      rw [unhide HUM, ← unhide HKM]
      exact ⟨rfl, _, _, rfl, (unhide UR).o, (unhide UR).u⟩

end Go.Proofs.Ytfnnfldfnjnlfag

namespace Go.Proofs.Ytfnnfldfnjnlfag
open Go Go.RowKit

/-- What reading a record leaves: the rows, the code, and where the reader stands. -/
def ReE (bs : List Int) (U bb bo n bc : Nat) (w : World) (e : Ending) (w' : World) : Prop :=
  w.grownBy w' (some U) ∧ ∃ g c us t, e = .returned (.tuple #[.slice (some ⟨g, 0, none⟩) (unLs bs).length c, .int .i64 (unCo bs)]) ∧ OwnRT w' w.heap.size (.slice (some ⟨g, 0, none⟩) (unLs bs).length c) us (unLs bs) ∧ Un w' U bb bo n bc t bs ∧ unPl bs = (if unCo bs = 0 then 0 else if unCo bs = 1 then (n : Int) else (t : Int))
theorem reE_none {bs : List Int} {U bb bo n bc t : Nat} {w w1 : World} {cc : Int} (gr : w.grownBy w1 (some U)) (u : Un w1 U bb bo n bc t bs) (hc : unCo bs = cc) (h0 : cc ≠ 0) (hl : unLs bs = []) (hp : unPl bs = (if cc = 1 then (n : Int) else (t : Int))) :
    ReE bs U bb bo n bc w (.returned (.tuple #[.slice (some ⟨w1.heap.size, 0, none⟩) 0 0, .int .i64 cc])) (w1.alloc (Obj.cells #[] 68)) := by
  refine ⟨grown_on gr (bel_grown (bel1 _) _), w1.heap.size, 0, [], t, by rw [hl, hc]; rfl, ?_, u.below (bel1 _), by rw [hc, if_neg h0]; exact hp⟩
  rw [hl]; exact ⟨ownRr_none gr.size, rfl⟩
theorem ahU_in {wd i : Nat} {z : List (List Int)} (hz : ∀ r ∈ z, r.length = wd ∧ ∀ x ∈ r, -30000 ≤ x ∧ x ≤ 30000) (hi : i ≤ z.length) {k : Nat} (hk : k < wd) : -30000 ≤ nth (ahU wd z i) k ∧ nth (ahU wd z i) k ≤ 30000 := by
  cases i with
  | zero => simp [ahU, nth, hk]
  | succ j =>
    have hj : j < z.length := by omega
    have e : nthS z j = z[j] := by simp [nthS, hj]
    have q := hz z[j] (List.getElem_mem hj)
    have hkl : k < (z[j]).length := by rw [q.1]; exact hk
    show -30000 ≤ nth (nthS z j) k ∧ nth (nthS z j) k ≤ 30000
    rw [e, show nth z[j] k = (z[j])[k] by simp [nth, hkl]]
    exact q.2 _ (List.getElem_mem hkl)
theorem ahU_last {wd i : Nat} {z : List (List Int)} {r : List Int} (h : z.length = i) : ahU wd (z ++ [r]) (i + 1) = r := by
  subst h; simp [ahU, nthS]

set_option maxRecDepth 20000 in
set_option maxHeartbeats 4000000 in
theorem readRecord_any (U bb bo n bc : Nat) (bs : List Int) (w : World) (h : Un w U bb bo n bc 0 bs) :
    Calls Try.prog 70 #[.pointer (some ⟨U, 0, none⟩)] w fun e w' => ReE bs U bb bo n bc w e w' := by
  have H := hide h
  have HLB := hide h.r.len_eq
  have HUW : Hid (U < w.heap.size) := hide h.k.lt
  have HBY : Hid (∀ i, i < bs.length → 0 ≤ elAt bs i ∧ elAt bs i ≤ 255) := hide (fun i hi => h.byt i (by rw [← h.r.len_eq]; exact hi))
  have hsm := h.sm
  clear h
  go_enter Try.func70, Try.ntmps70
  go_wp2_with fail
  refine (readHead_any _ _ _ _ _ bs _ (unhide H)).mono ?_
  rintro e w1 ⟨g1, he⟩
  have G1 := hide g1
  clear g1
  rcases he with ⟨hh, rfl, u1⟩ | ⟨hh, x, y, t, rfl, u1⟩ | ⟨hh, x, y, rfl, u1⟩
  case inr.inl =>
    have U1 := hide u1
    have HH := hide (un_h1 hh)
    clear u1 hh
    go_wp2_with fail
    refine bodyPost_ret (v := .tuple #[.slice (some ⟨w1.heap.size, 0, none⟩) 0 0, .int .i64 1]) (by simp [results, Try.results70, go_sem]) rfl ?_
    exact reE_none (unhide G1) (unhide U1) (unhide HH).1 (by omega) (unhide HH).2.2 (by rw [(unhide HH).2.1, if_pos rfl, unhide HLB])
  case inr.inr =>
    have U1 := hide u1
    have HH := hide (un_h2 hh)
    clear u1 hh
    go_wp2_with fail
    refine bodyPost_ret (v := .tuple #[.slice (some ⟨w1.heap.size, 0, none⟩) 0 0, .int .i64 2]) (by simp [results, Try.results70, go_sem]) rfl ?_
    exact reE_none (unhide G1) (unhide U1) (unhide HH).1 (by omega) (unhide HH).2.2 (by rw [(unhide HH).2.1, if_neg (by omega)])
  have U1 := hide u1
  have HH := hide hh
  have HK := hide (hd_ok (unhide HBY) hh)
  obtain ⟨N, hN⟩ : ∃ N, hdW bs = N := ⟨_, rfl⟩
  obtain ⟨M, hM⟩ : ∃ M, hdM bs = M := ⟨_, rfl⟩
  have hN8 : N ≤ 8 := by rw [← hN]; exact (unhide HK).2.2.2.1
  have hM200 : M ≤ 200 := by rw [← hM]; exact (unhide HK).2.2.2.2.1
  have H2L := hide (unhide HK).1
  have HT : Hid (unT bs = unRec bs N M) := hide (by rw [← hN, ← hM]; rfl)
  rw [hN, hM]
  clear u1 hh hN hM HK
  have hmk := fun W => madeI_run (L := N) (by omega) W
  go_wp2_with fail
  obtain ⟨V, hV⟩ : ∃ V, V = w1.alloc (Obj.cells #[] 68) := ⟨_, rfl⟩
  have hsV : V.heap.size = w1.heap.size + 1 := by rw [hV]; simp
  have RG : Hid (RrG w V w1.heap.size 0 0 [] []) := hide (by rw [hV]; exact ⟨ownRr_none (unhide G1).size, rfl, rfl⟩)
  have UV : Hid (Un V U bb bo n bc 2 bs) := hide (by rw [hV]; exact (unhide U1).below (bel1 _))
  have GV : Hid (w.grownBy V (some U)) := hide (by rw [hV]; exact grown_on (unhide G1) (bel_grown (bel1 _) _))
  rw [show w1.heap.size + 1 = V.heap.size from hsV.symm, ← hV]
  have RG2 := hide ((unhide RG).below (bel1 (w := V) (.cells (madeCells #[.int .i64 0] N) 3)))
  have UV2 := hide ((unhide UV).below (bel1 (w := V) (.cells (madeCells #[.int .i64 0] N) 3)))
  have GV2 := hide (grown_on (unhide GV) (bel_grown (bel1 (w := V) (.cells (madeCells #[.int .i64 0] N) 3)) (some U)))
  have AH0 : Hid (Row (V.alloc (.cells (madeCells #[.int .i64 0] N) 3)) (some ⟨V.heap.size, 0, none⟩) N (ahU N [] 0)) := hide (madeI_row V (by omega))
  have AL0 : Hid (∀ b o, some (⟨V.heap.size, 0, none⟩ : Addr) = some ⟨b, o, none⟩ → b ≠ U) := hide (fun b o e => by have := congrArg (fun x => x.map (·.block)) e; simp at this; have := (unhide GV).size; have := unhide HUW; omega)
  clear hV hsV RG UV GV U1 G1 hmk
  go_loopw [7, 8, 25] (fun o q i wr => ∃ (k t g c : Nat) (us : List Rx) (z : List (List Int)) (a : Option Addr) (d : Nat), k ≤ M ∧ i = .int .i64 k ∧ o = .slice (some ⟨g, 0, none⟩) k c ∧ q = .slice a N d ∧ unRec bs N k = ⟨0, t, z⟩ ∧ RrG w wr g k c us z ∧ Un wr U bb bo n bc t bs ∧ w.grownBy wr (some U) ∧ Row wr a N (ahU N z k) ∧ (∀ b o, a = some ⟨b, o, none⟩ → b ≠ U)) (fun _ _ i _ => M - (intOf i).toNat)
  case atStart => exact ⟨0, 2, _, _, [], [], _, _, Nat.zero_le _, rfl, rfl, rfl, rfl, unhide RG2, unhide UV2, unhide GV2, unhide AH0, unhide AL0⟩
  case round =>
    clear RG2 UV2 GV2 AH0 AL0
    obtain ⟨k, t, g, c, us, z, a, d, hk, rfl, rfl, rfl, hre, hrg, hu, hgr, hah, hal⟩ := hrel
    have HRE := hide hre
    have RG := hide hrg
    have UN := hide hu
    have GR := hide hgr
    have AH := hide hah
    have AL := hide hal
    clear hre hrg hu hgr hah hal
    by_cases hlt : k < M
    · have i1 : (k : Int) < (M : Int) := by omega
      have OK := hide (unRec_ok (bs := bs) (wd := N) (unhide H2L) k (by rw [unhide HRE]))
      have hok := unhide OK
      rw [unhide HRE] at hok
      have HIN : Hid (∀ j, j < N → -30000 ≤ nth (ahU N z k) j ∧ nth (ahU N z k) j ≤ 30000) := hide (fun j hj => ahU_in hok.2.2 (by have : z.length = k := hok.1; omega) hj)
      have HZK : Hid (z.length = k) := hide hok.1
      clear hok OK
      go_wp2_with fail
      refine (readRow_any _ _ _ _ _ _ bs _ _ _ (ahU N z k) _ (unhide UN) (unhide AH) (unhide AL) (unhide HIN) hN8).mono ?_
      rintro e w2 ⟨g2, he⟩
      have GR2 := hide (grown_on (unhide GR) g2)
      have RGL : Hid (RrLies w.heap.size wr.heap.size (.slice (some ⟨g, 0, none⟩) k c) us) := hide (unhide RG).o.lies
      have RG2 := hide ((unhide RG).far (unhide RGL) g2 (.inl (unhide HUW)))
      clear g2
      rcases he with ⟨hc, r, rc, rfl, o2, u2⟩ | ⟨hc, ra, rc, rfl, u2⟩
      · obtain ⟨t2, ht2⟩ : ∃ t2, (unRow bs (ahU N z k) t N).t = t2 := ⟨_, rfl⟩
        obtain ⟨z2, hz2⟩ : ∃ z2, (unRow bs (ahU N z k) t N).z = z2 := ⟨_, rfl⟩
        have HN : Hid (unRec bs N (k + 1) = ⟨0, t2, z ++ [z2]⟩) := hide (by rw [unRec_yes (unhide HRE) hc, ht2, hz2])
        rw [ht2] at u2
        rw [hz2] at o2
        have U2 := hide u2
        have O2 := hide o2
        have hwl : w.heap.size ≤ wr.heap.size := (unhide GR).size
        clear u2 o2 hc ht2 hz2
        go_wp2_with (at_builtin; refine wpList_app_elG (K := 1) (cells := rxC) rfl _ _ 57 68 rfl Try.underlying57 infoRx rfl (by decide) (by decide) (⟨some ⟨r, 0, none⟩, N, rc, z2⟩ : Rx) [.slice (some ⟨r, 0, none⟩) N rc] rfl (fun q hq => by match q, hq with | 0, _ => rfl) (fun u hu => by simp at hu; rcases hu with rfl; rfl) (unhide RG2).o.out (unhide RG2).l rfl rfl rfl (unhide GR2).size (by omega) ?_; intro g9 c9 w9 o9 gr9 hg9)
        have gr9' : w2.grownBy w9 (some g) := gr9
        have gl := (unhide RGL).1 g rfl
        have RG9 := hide ((unhide RG2).push (unhide RGL) (x := ⟨some ⟨r, 0, none⟩, N, rc, z2⟩) (unhide O2) hwl o9 gr9 hg9)
        have AH9 : Hid (Row w9 (some ⟨r, 0, none⟩) N z2) := hide (OwnI.row ((unhide RG2).row (unhide RGL) (unhide O2) gr9))
        have rl := (unhide O2).lies r rfl
        have U9 := hide ((unhide U2).far gr9' (fun e => by have := Option.some.inj e; have := unhide HUW; omega) (fun e => by
          have e := Option.some.inj e
          have hb := (unhide H).cell (i := 0) (by have := unhide H2L; have := unhide HLB; omega)
          have := block_lt_of_cell hb
          simp only at this
          omega))
        have GR9 := hide (grown_new (unhide GR2) gr9' gl.1)
        have AL9 : Hid (∀ b o, some (⟨r, 0, none⟩ : Addr) = some ⟨b, o, none⟩ → b ≠ U) := hide (fun b o e => by have := congrArg (fun x => x.map (·.block)) e; simp at this; have := unhide HUW; omega)
        have AHL : Hid (ahU N (z ++ [z2]) (k + 1) = z2) := hide (ahU_last (unhide HZK))
        clear o9 gr9 gr9' hg9 gl rl
        go_roundw
        case rel => exact ⟨k + 1, t2, g9, c9, _, _, _, _, by omega, by go_num, rfl, rfl, unhide HN, unhide RG9, unhide U9, unhide GR9, by rw [unhide AHL]; exact unhide AH9, unhide AL9⟩
        case measure => simp [intOf]; omega
      · obtain ⟨cc, hcc⟩ : ∃ cc, (unRow bs (ahU N z k) t N).c = cc := ⟨_, rfl⟩
        obtain ⟨t2, ht2⟩ : ∃ t2, (unRow bs (ahU N z k) t N).t = t2 := ⟨_, rfl⟩
        have HN : Hid (unT bs = ⟨cc, t2, z⟩) := hide (by
          have e1 := unRec_no (unhide HRE) hc
          rw [hcc, ht2] at e1
          rw [unhide HT, unRec_stop (k := k + 1) (by rw [e1, ← hcc]; exact hc) M (by omega), e1])
        rw [hcc] at hc ⊢
        rw [ht2] at u2
        have HCC := hide hc
        have U2 := hide u2
        have n0 : ((cc : Int) != 0) = true := by simp; omega
        have HUC := hide (un_code (unhide HH) (unhide HN) hc)
        clear hcc ht2 hc u2
        go_wp2_with fail
        refine bodyPost_ret (v := .tuple #[.slice (some ⟨w2.heap.size, 0, none⟩) 0 0, .int .i64 (cc : Int)]) (by simp [results, Try.results70, go_sem]) rfl ?_
        exact reE_none (unhide GR2) (unhide U2) (unhide HUC).1 (by have := unhide HCC; omega) (unhide HUC).2.2 (by
          rw [(unhide HUC).2.1, unhide HLB]
          by_cases q : cc = 1
          · rw [if_pos q, if_pos (by omega)]
          · rw [if_neg q, if_neg (by omega)])
    · have i1 : ¬ (k : Int) < (M : Int) := by omega
      have HTT : Hid (unT bs = ⟨0, t, z⟩) := hide (by rw [unhide HT, ← unhide HRE, show k = M by omega])
      obtain ⟨ι, fW, _, hcb, hcl⟩ := belClass wr
      have HB := hide hcb
      have HA := hide hcl
      have c0 : ∀ x, (fW x).cell? ⟨U, 0, none⟩ = some (.slice (some ⟨bb, bo, none⟩) n bc) := fun x => ((unhide UN).k.below (hcb x)).c 0 (by simp)
      have c1 : ∀ x, (fW x).cell? ⟨U, 1, none⟩ = some (.int .i64 (t : Int)) := fun x => ((unhide UN).k.below (hcb x)).c 1 (by simp)
      obtain ⟨y0, hy0⟩ := hcl wr (Below.refl _ _)
      have htn := (unhide UN).le
      rw [hy0]
      clear hcb hcl hy0
      by_cases ht : t < n
      · have t1 : (t : Int) < (n : Int) := by omega
        have HUC := hide (un_more (unhide HH) (unhide HTT) (by rw [unhide HLB]; exact ht))
        go_wp2_with fail
        repeat (refine wp_region_bel (fun w' h => (unhide HA) w' ((unhide HB _).trans (h.mono (unhide HB _).size))) (by kernel_rfl) (by kernel_rfl) ?_; (repeat (go_big_quiet_step (fail))); refine wpQuiet_nil ?_; rintro _ ⟨y, rfl⟩; (first | go_wp2_with fail | go_wp2))
        refine bodyPost_ret (v := .tuple #[.slice (some ⟨(fW y).heap.size, 0, none⟩) 0 0, .int .i64 4]) (by simp [results, Try.results70, go_sem]) rfl ?_
        exact reE_none (grown_on (unhide GR) (bel_grown (unhide HB y) _)) ((unhide UN).below (unhide HB y)) (unhide HUC).1 (by omega) (unhide HUC).2.2 (by rw [(unhide HUC).2.1, if_neg (by omega)])
      · have t1 : ¬ (t : Int) < (n : Int) := by omega
        have HUC := hide (un_well (unhide HH) (unhide HTT) (by rw [unhide HLB]; exact ht))
        have HKL : Hid (z.length = k) := hide (by rw [← (unhide RG).z, rxZ, List.length_map, (unhide RG).l])
        go_wp2_with fail
        repeat (refine wp_region_bel (fun w' h => (unhide HA) w' ((unhide HB _).trans (h.mono (unhide HB _).size))) (by kernel_rfl) (by kernel_rfl) ?_; (repeat (go_big_quiet_step (fail))); refine wpQuiet_nil ?_; rintro _ ⟨y, rfl⟩; (first | go_wp2_with fail | go_wp2))
        refine bodyPost_ret (v := .tuple #[.slice (some ⟨g, 0, none⟩) k c, .int .i64 0]) (by simp [results, Try.results70, go_sem]) rfl ?_
        refine ⟨grown_on (unhide GR) (bel_grown (unhide HB y) _), g, c, us, t, ?_, ?_, (unhide UN).below (unhide HB y), ?_⟩
        · rw [(unhide HUC).1, (unhide HUC).2.2, unhide HKL]
        · rw [(unhide HUC).2.2, unhide HKL]; exact ⟨(unhide RG).o.below (unhide HB y), (unhide RG).z⟩
        · rw [(unhide HUC).1, if_pos rfl, (unhide HUC).2.1]

end Go.Proofs.Ytfnnfldfnjnlfag

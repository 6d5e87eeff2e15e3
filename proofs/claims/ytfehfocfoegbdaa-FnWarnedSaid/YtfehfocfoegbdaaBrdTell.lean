/-
  Whether a board tells a rule: the program's tells. Nothing that was there is written.
-/
import Derived.Test.YtfehfocfoegbdaaBrdOps
import Derived.Test.YtfehfocfoegbdaaWrImpl
namespace Go.Proofs.Ytfehfocfoegbdaa
open Go.RowKit Go.Maps Go.WideMaps

/-- Whether a rule is told, by three sets. -/
def tlB (S1 S2 S3 : ByteArray → Bool) (p : Wr) (ph : Int) : Bool := (S1 p.n || S2 p.n) && !S3 p.n && !qtB p.q ph && !S1 p.d
set_option maxRecDepth 20000 in
set_option maxHeartbeats 4000000 in
theorem tells_any (b1 b2 b3 n1 n2 n3 : Nat) (S1 S2 S3 : ByteArray → Bool) (qa : Option Addr) (ql qc : Nat) (p : Wr) (ph : Int) (w : World) (hb : Brd w b1 b2 b3 n1 n2 n3 S1 S2 S3) (hf : wrFit p) (hr : Row w qa ql p.q) :
    Calls Try.prog 39 #[.agg #[.map (some b1), .map (some b2), .map (some b3)], .agg #[.string p.n, .int .i64 p.r, .slice qa ql qc, .bool p.l, .string p.d], .int .i64 ph] w fun e w' => e = .returned (.bool (tlB S1 S2 S3 p ph)) ∧ Below w.heap.size w w' := by
  obtain ⟨x, r, q, l, d⟩ := p
  have HF := hide hf
  have HR := hide hr
  have HB := hide hb
  have HV : Hid (tlB S1 S2 S3 ⟨x, r, q, l, d⟩ ph = ((S1 x || S2 x) && !S3 x && !qtB q ph && !S1 d)) := hide rfl
  clear hb hf hr
  simp only
  go_enter Try.func39, Try.ntmps39
  go_upto_region 1 with fail
  obtain ⟨W0, hW0⟩ : ∃ W, W = w.alloc (Obj.cells #[.map (some b1), .map (some b2), .map (some b3)] 56) := ⟨_, rfl⟩
  obtain ⟨W1, hW1⟩ : ∃ W, W = W0.alloc (Obj.cells #[.string x, .int .i64 r, .slice qa ql qc, .bool l, .string d] 48) := ⟨_, rfl⟩
  have y0 : W0.heap.size = w.heap.size + 1 := by rw [hW0]; simp
  have KB : Hid (Blk W1 w.heap.size [.map (some b1), .map (some b2), .map (some b3)]) := hide (by rw [hW1, hW0]; exact (Blk.new _ _).alloc _)
  have KR : Hid (Blk W1 (w.heap.size + 1) [.string x, .int .i64 r, .slice qa ql qc, .bool l, .string d]) := hide (by rw [hW1, ← y0]; exact Blk.new _ _)
  have B : Hid (Below w.heap.size w W1) := hide (by rw [hW1, hW0]; exact bel2 _ _)
  rw [← hW0, ← hW1]
  clear hW0 hW1 y0
  have c0 : W1.cell? ⟨w.heap.size, 0, none⟩ = some (.map (some b1)) := (unhide KB).c 0 (by simp)
  have c1 : W1.cell? ⟨w.heap.size, 1, none⟩ = some (.map (some b2)) := (unhide KB).c 1 (by simp)
  have c2 : W1.cell? ⟨w.heap.size, 2, none⟩ = some (.map (some b3)) := (unhide KB).c 2 (by simp)
  have r0 : W1.cell? ⟨w.heap.size + 1, 0, none⟩ = some (.string x) := (unhide KR).c 0 (by simp)
  have r1 : W1.cell? ⟨w.heap.size + 1, 1, none⟩ = some (.int .i64 r) := (unhide KR).c 1 (by simp)
  have r2 : W1.cell? ⟨w.heap.size + 1, 2, none⟩ = some (.slice qa ql qc) := (unhide KR).c 2 (by simp)
  have r3 : W1.cell? ⟨w.heap.size + 1, 3, none⟩ = some (.bool l) := (unhide KR).c 3 (by simp)
  have r4 : W1.cell? ⟨w.heap.size + 1, 4, none⟩ = some (.string d) := (unhide KR).c 4 (by simp)
  cases g1 : S1 x with
  | true =>
    have G1 := hide g1
    go_wp2_with fail
    refine (has_is b1 n1 S1 x _ ((unhide HB).below (unhide B)).s1 (unhide HF).1 (unhide G1)).mono ?_
    rintro e w2 ⟨rfl, b⟩
    have KB := hide ((unhide KB).below b)
    have KR := hide ((unhide KR).below b)
    have B := hide ((unhide B).trans (b.mono (unhide B).size))
    clear c0 c1 c2 r0 r1 r2 r3 r4
    clear b
    have c0 : w2.cell? ⟨w.heap.size, 0, none⟩ = some (.map (some b1)) := (unhide KB).c 0 (by simp)
    have c1 : w2.cell? ⟨w.heap.size, 1, none⟩ = some (.map (some b2)) := (unhide KB).c 1 (by simp)
    have c2 : w2.cell? ⟨w.heap.size, 2, none⟩ = some (.map (some b3)) := (unhide KB).c 2 (by simp)
    have r0 : w2.cell? ⟨w.heap.size + 1, 0, none⟩ = some (.string x) := (unhide KR).c 0 (by simp)
    have r1 : w2.cell? ⟨w.heap.size + 1, 1, none⟩ = some (.int .i64 r) := (unhide KR).c 1 (by simp)
    have r2 : w2.cell? ⟨w.heap.size + 1, 2, none⟩ = some (.slice qa ql qc) := (unhide KR).c 2 (by simp)
    have r3 : w2.cell? ⟨w.heap.size + 1, 3, none⟩ = some (.bool l) := (unhide KR).c 3 (by simp)
    have r4 : w2.cell? ⟨w.heap.size + 1, 4, none⟩ = some (.string d) := (unhide KR).c 4 (by simp)
    cases g3 : S3 x with
    | true =>
      have G3 := hide g3
      go_wp2_with fail
      refine (has_is b3 n3 S3 x _ ((unhide HB).below (unhide B)).s3 (unhide HF).1 (unhide G3)).mono ?_
      rintro e w3 ⟨rfl, b⟩
      have KB := hide ((unhide KB).below b)
      have KR := hide ((unhide KR).below b)
      have B := hide ((unhide B).trans (b.mono (unhide B).size))
      clear c0 c1 c2 r0 r1 r2 r3 r4
      clear b
      have c0 : w3.cell? ⟨w.heap.size, 0, none⟩ = some (.map (some b1)) := (unhide KB).c 0 (by simp)
      have c1 : w3.cell? ⟨w.heap.size, 1, none⟩ = some (.map (some b2)) := (unhide KB).c 1 (by simp)
      have c2 : w3.cell? ⟨w.heap.size, 2, none⟩ = some (.map (some b3)) := (unhide KB).c 2 (by simp)
      have r0 : w3.cell? ⟨w.heap.size + 1, 0, none⟩ = some (.string x) := (unhide KR).c 0 (by simp)
      have r1 : w3.cell? ⟨w.heap.size + 1, 1, none⟩ = some (.int .i64 r) := (unhide KR).c 1 (by simp)
      have r2 : w3.cell? ⟨w.heap.size + 1, 2, none⟩ = some (.slice qa ql qc) := (unhide KR).c 2 (by simp)
      have r3 : w3.cell? ⟨w.heap.size + 1, 3, none⟩ = some (.bool l) := (unhide KR).c 3 (by simp)
      have r4 : w3.cell? ⟨w.heap.size + 1, 4, none⟩ = some (.string d) := (unhide KR).c 4 (by simp)
      go_wp2_with fail
      go_ret
      exact ⟨ret_bool (by rw [unhide HV, unhide G1, unhide G3]; rfl), unhide B⟩
    | false =>
      have G3 := hide g3
      go_wp2_with fail
      refine (has_is b3 n3 S3 x _ ((unhide HB).below (unhide B)).s3 (unhide HF).1 (unhide G3)).mono ?_
      rintro e w4 ⟨rfl, b⟩
      have KB := hide ((unhide KB).below b)
      have KR := hide ((unhide KR).below b)
      have B := hide ((unhide B).trans (b.mono (unhide B).size))
      clear c0 c1 c2 r0 r1 r2 r3 r4
      clear b
      have c0 : w4.cell? ⟨w.heap.size, 0, none⟩ = some (.map (some b1)) := (unhide KB).c 0 (by simp)
      have c1 : w4.cell? ⟨w.heap.size, 1, none⟩ = some (.map (some b2)) := (unhide KB).c 1 (by simp)
      have c2 : w4.cell? ⟨w.heap.size, 2, none⟩ = some (.map (some b3)) := (unhide KB).c 2 (by simp)
      have r0 : w4.cell? ⟨w.heap.size + 1, 0, none⟩ = some (.string x) := (unhide KR).c 0 (by simp)
      have r1 : w4.cell? ⟨w.heap.size + 1, 1, none⟩ = some (.int .i64 r) := (unhide KR).c 1 (by simp)
      have r2 : w4.cell? ⟨w.heap.size + 1, 2, none⟩ = some (.slice qa ql qc) := (unhide KR).c 2 (by simp)
      have r3 : w4.cell? ⟨w.heap.size + 1, 3, none⟩ = some (.bool l) := (unhide KR).c 3 (by simp)
      have r4 : w4.cell? ⟨w.heap.size + 1, 4, none⟩ = some (.string d) := (unhide KR).c 4 (by simp)
      cases g4 : qtB q ph with
      | true =>
        have G4 := hide g4
        go_wp2_with fail
        refine (quietIn_is qa ql qc x r q l d ph _ ((unhide HR).below (unhide B)) (unhide G4)).mono ?_
        rintro e w5 ⟨rfl, b⟩
        have KB := hide ((unhide KB).below b)
        have KR := hide ((unhide KR).below b)
        have B := hide ((unhide B).trans (b.mono (unhide B).size))
        clear c0 c1 c2 r0 r1 r2 r3 r4
        clear b
        have c0 : w5.cell? ⟨w.heap.size, 0, none⟩ = some (.map (some b1)) := (unhide KB).c 0 (by simp)
        have c1 : w5.cell? ⟨w.heap.size, 1, none⟩ = some (.map (some b2)) := (unhide KB).c 1 (by simp)
        have c2 : w5.cell? ⟨w.heap.size, 2, none⟩ = some (.map (some b3)) := (unhide KB).c 2 (by simp)
        have r0 : w5.cell? ⟨w.heap.size + 1, 0, none⟩ = some (.string x) := (unhide KR).c 0 (by simp)
        have r1 : w5.cell? ⟨w.heap.size + 1, 1, none⟩ = some (.int .i64 r) := (unhide KR).c 1 (by simp)
        have r2 : w5.cell? ⟨w.heap.size + 1, 2, none⟩ = some (.slice qa ql qc) := (unhide KR).c 2 (by simp)
        have r3 : w5.cell? ⟨w.heap.size + 1, 3, none⟩ = some (.bool l) := (unhide KR).c 3 (by simp)
        have r4 : w5.cell? ⟨w.heap.size + 1, 4, none⟩ = some (.string d) := (unhide KR).c 4 (by simp)
        go_wp2_with fail
        go_ret
        exact ⟨ret_bool (by rw [unhide HV, unhide G1, unhide G3, unhide G4]; rfl), unhide B⟩
      | false =>
        have G4 := hide g4
        go_wp2_with fail
        refine (quietIn_is qa ql qc x r q l d ph _ ((unhide HR).below (unhide B)) (unhide G4)).mono ?_
        rintro e w6 ⟨rfl, b⟩
        have KB := hide ((unhide KB).below b)
        have KR := hide ((unhide KR).below b)
        have B := hide ((unhide B).trans (b.mono (unhide B).size))
        clear c0 c1 c2 r0 r1 r2 r3 r4
        clear b
        have c0 : w6.cell? ⟨w.heap.size, 0, none⟩ = some (.map (some b1)) := (unhide KB).c 0 (by simp)
        have c1 : w6.cell? ⟨w.heap.size, 1, none⟩ = some (.map (some b2)) := (unhide KB).c 1 (by simp)
        have c2 : w6.cell? ⟨w.heap.size, 2, none⟩ = some (.map (some b3)) := (unhide KB).c 2 (by simp)
        have r0 : w6.cell? ⟨w.heap.size + 1, 0, none⟩ = some (.string x) := (unhide KR).c 0 (by simp)
        have r1 : w6.cell? ⟨w.heap.size + 1, 1, none⟩ = some (.int .i64 r) := (unhide KR).c 1 (by simp)
        have r2 : w6.cell? ⟨w.heap.size + 1, 2, none⟩ = some (.slice qa ql qc) := (unhide KR).c 2 (by simp)
        have r3 : w6.cell? ⟨w.heap.size + 1, 3, none⟩ = some (.bool l) := (unhide KR).c 3 (by simp)
        have r4 : w6.cell? ⟨w.heap.size + 1, 4, none⟩ = some (.string d) := (unhide KR).c 4 (by simp)
        cases g5 : S1 d with
        | true =>
          have G5 := hide g5
          go_wp2_with fail
          refine (has_is b1 n1 S1 d _ ((unhide HB).below (unhide B)).s1 (unhide HF).2 (unhide G5)).mono ?_
          rintro e w7 ⟨rfl, b⟩
          have KB := hide ((unhide KB).below b)
          have KR := hide ((unhide KR).below b)
          have B := hide ((unhide B).trans (b.mono (unhide B).size))
          clear c0 c1 c2 r0 r1 r2 r3 r4
          clear b
          have c0 : w7.cell? ⟨w.heap.size, 0, none⟩ = some (.map (some b1)) := (unhide KB).c 0 (by simp)
          have c1 : w7.cell? ⟨w.heap.size, 1, none⟩ = some (.map (some b2)) := (unhide KB).c 1 (by simp)
          have c2 : w7.cell? ⟨w.heap.size, 2, none⟩ = some (.map (some b3)) := (unhide KB).c 2 (by simp)
          have r0 : w7.cell? ⟨w.heap.size + 1, 0, none⟩ = some (.string x) := (unhide KR).c 0 (by simp)
          have r1 : w7.cell? ⟨w.heap.size + 1, 1, none⟩ = some (.int .i64 r) := (unhide KR).c 1 (by simp)
          have r2 : w7.cell? ⟨w.heap.size + 1, 2, none⟩ = some (.slice qa ql qc) := (unhide KR).c 2 (by simp)
          have r3 : w7.cell? ⟨w.heap.size + 1, 3, none⟩ = some (.bool l) := (unhide KR).c 3 (by simp)
          have r4 : w7.cell? ⟨w.heap.size + 1, 4, none⟩ = some (.string d) := (unhide KR).c 4 (by simp)
          go_wp2_with fail
          go_ret
          exact ⟨ret_bool (by rw [unhide HV, unhide G1, unhide G3, unhide G4, unhide G5]; rfl), unhide B⟩
        | false =>
          have G5 := hide g5
          go_wp2_with fail
          refine (has_is b1 n1 S1 d _ ((unhide HB).below (unhide B)).s1 (unhide HF).2 (unhide G5)).mono ?_
          rintro e w8 ⟨rfl, b⟩
          have KB := hide ((unhide KB).below b)
          have KR := hide ((unhide KR).below b)
          have B := hide ((unhide B).trans (b.mono (unhide B).size))
          clear c0 c1 c2 r0 r1 r2 r3 r4
          clear b
          have c0 : w8.cell? ⟨w.heap.size, 0, none⟩ = some (.map (some b1)) := (unhide KB).c 0 (by simp)
          have c1 : w8.cell? ⟨w.heap.size, 1, none⟩ = some (.map (some b2)) := (unhide KB).c 1 (by simp)
          have c2 : w8.cell? ⟨w.heap.size, 2, none⟩ = some (.map (some b3)) := (unhide KB).c 2 (by simp)
          have r0 : w8.cell? ⟨w.heap.size + 1, 0, none⟩ = some (.string x) := (unhide KR).c 0 (by simp)
          have r1 : w8.cell? ⟨w.heap.size + 1, 1, none⟩ = some (.int .i64 r) := (unhide KR).c 1 (by simp)
          have r2 : w8.cell? ⟨w.heap.size + 1, 2, none⟩ = some (.slice qa ql qc) := (unhide KR).c 2 (by simp)
          have r3 : w8.cell? ⟨w.heap.size + 1, 3, none⟩ = some (.bool l) := (unhide KR).c 3 (by simp)
          have r4 : w8.cell? ⟨w.heap.size + 1, 4, none⟩ = some (.string d) := (unhide KR).c 4 (by simp)
          go_wp2_with fail
          go_ret
          exact ⟨ret_bool (by rw [unhide HV, unhide G1, unhide G3, unhide G4, unhide G5]; rfl), unhide B⟩
  | false =>
    have G1 := hide g1
    go_wp2_with fail
    refine (has_is b1 n1 S1 x _ ((unhide HB).below (unhide B)).s1 (unhide HF).1 (unhide G1)).mono ?_
    rintro e w9 ⟨rfl, b⟩
    have KB := hide ((unhide KB).below b)
    have KR := hide ((unhide KR).below b)
    have B := hide ((unhide B).trans (b.mono (unhide B).size))
    clear c0 c1 c2 r0 r1 r2 r3 r4
    clear b
    have c0 : w9.cell? ⟨w.heap.size, 0, none⟩ = some (.map (some b1)) := (unhide KB).c 0 (by simp)
    have c1 : w9.cell? ⟨w.heap.size, 1, none⟩ = some (.map (some b2)) := (unhide KB).c 1 (by simp)
    have c2 : w9.cell? ⟨w.heap.size, 2, none⟩ = some (.map (some b3)) := (unhide KB).c 2 (by simp)
    have r0 : w9.cell? ⟨w.heap.size + 1, 0, none⟩ = some (.string x) := (unhide KR).c 0 (by simp)
    have r1 : w9.cell? ⟨w.heap.size + 1, 1, none⟩ = some (.int .i64 r) := (unhide KR).c 1 (by simp)
    have r2 : w9.cell? ⟨w.heap.size + 1, 2, none⟩ = some (.slice qa ql qc) := (unhide KR).c 2 (by simp)
    have r3 : w9.cell? ⟨w.heap.size + 1, 3, none⟩ = some (.bool l) := (unhide KR).c 3 (by simp)
    have r4 : w9.cell? ⟨w.heap.size + 1, 4, none⟩ = some (.string d) := (unhide KR).c 4 (by simp)
    cases g2 : S2 x with
    | true =>
      have G2 := hide g2
      go_wp2_with fail
      refine (has_is b2 n2 S2 x _ ((unhide HB).below (unhide B)).s2 (unhide HF).1 (unhide G2)).mono ?_
      rintro e w10 ⟨rfl, b⟩
      have KB := hide ((unhide KB).below b)
      have KR := hide ((unhide KR).below b)
      have B := hide ((unhide B).trans (b.mono (unhide B).size))
      clear c0 c1 c2 r0 r1 r2 r3 r4
      clear b
      have c0 : w10.cell? ⟨w.heap.size, 0, none⟩ = some (.map (some b1)) := (unhide KB).c 0 (by simp)
      have c1 : w10.cell? ⟨w.heap.size, 1, none⟩ = some (.map (some b2)) := (unhide KB).c 1 (by simp)
      have c2 : w10.cell? ⟨w.heap.size, 2, none⟩ = some (.map (some b3)) := (unhide KB).c 2 (by simp)
      have r0 : w10.cell? ⟨w.heap.size + 1, 0, none⟩ = some (.string x) := (unhide KR).c 0 (by simp)
      have r1 : w10.cell? ⟨w.heap.size + 1, 1, none⟩ = some (.int .i64 r) := (unhide KR).c 1 (by simp)
      have r2 : w10.cell? ⟨w.heap.size + 1, 2, none⟩ = some (.slice qa ql qc) := (unhide KR).c 2 (by simp)
      have r3 : w10.cell? ⟨w.heap.size + 1, 3, none⟩ = some (.bool l) := (unhide KR).c 3 (by simp)
      have r4 : w10.cell? ⟨w.heap.size + 1, 4, none⟩ = some (.string d) := (unhide KR).c 4 (by simp)
      cases g3 : S3 x with
      | true =>
        have G3 := hide g3
        go_wp2_with fail
        refine (has_is b3 n3 S3 x _ ((unhide HB).below (unhide B)).s3 (unhide HF).1 (unhide G3)).mono ?_
        rintro e w11 ⟨rfl, b⟩
        have KB := hide ((unhide KB).below b)
        have KR := hide ((unhide KR).below b)
        have B := hide ((unhide B).trans (b.mono (unhide B).size))
        clear c0 c1 c2 r0 r1 r2 r3 r4
        clear b
        have c0 : w11.cell? ⟨w.heap.size, 0, none⟩ = some (.map (some b1)) := (unhide KB).c 0 (by simp)
        have c1 : w11.cell? ⟨w.heap.size, 1, none⟩ = some (.map (some b2)) := (unhide KB).c 1 (by simp)
        have c2 : w11.cell? ⟨w.heap.size, 2, none⟩ = some (.map (some b3)) := (unhide KB).c 2 (by simp)
        have r0 : w11.cell? ⟨w.heap.size + 1, 0, none⟩ = some (.string x) := (unhide KR).c 0 (by simp)
        have r1 : w11.cell? ⟨w.heap.size + 1, 1, none⟩ = some (.int .i64 r) := (unhide KR).c 1 (by simp)
        have r2 : w11.cell? ⟨w.heap.size + 1, 2, none⟩ = some (.slice qa ql qc) := (unhide KR).c 2 (by simp)
        have r3 : w11.cell? ⟨w.heap.size + 1, 3, none⟩ = some (.bool l) := (unhide KR).c 3 (by simp)
        have r4 : w11.cell? ⟨w.heap.size + 1, 4, none⟩ = some (.string d) := (unhide KR).c 4 (by simp)
        go_wp2_with fail
        go_ret
        exact ⟨ret_bool (by rw [unhide HV, unhide G1, unhide G2, unhide G3]; rfl), unhide B⟩
      | false =>
        have G3 := hide g3
        go_wp2_with fail
        refine (has_is b3 n3 S3 x _ ((unhide HB).below (unhide B)).s3 (unhide HF).1 (unhide G3)).mono ?_
        rintro e w12 ⟨rfl, b⟩
        have KB := hide ((unhide KB).below b)
        have KR := hide ((unhide KR).below b)
        have B := hide ((unhide B).trans (b.mono (unhide B).size))
        clear c0 c1 c2 r0 r1 r2 r3 r4
        clear b
        have c0 : w12.cell? ⟨w.heap.size, 0, none⟩ = some (.map (some b1)) := (unhide KB).c 0 (by simp)
        have c1 : w12.cell? ⟨w.heap.size, 1, none⟩ = some (.map (some b2)) := (unhide KB).c 1 (by simp)
        have c2 : w12.cell? ⟨w.heap.size, 2, none⟩ = some (.map (some b3)) := (unhide KB).c 2 (by simp)
        have r0 : w12.cell? ⟨w.heap.size + 1, 0, none⟩ = some (.string x) := (unhide KR).c 0 (by simp)
        have r1 : w12.cell? ⟨w.heap.size + 1, 1, none⟩ = some (.int .i64 r) := (unhide KR).c 1 (by simp)
        have r2 : w12.cell? ⟨w.heap.size + 1, 2, none⟩ = some (.slice qa ql qc) := (unhide KR).c 2 (by simp)
        have r3 : w12.cell? ⟨w.heap.size + 1, 3, none⟩ = some (.bool l) := (unhide KR).c 3 (by simp)
        have r4 : w12.cell? ⟨w.heap.size + 1, 4, none⟩ = some (.string d) := (unhide KR).c 4 (by simp)
        cases g4 : qtB q ph with
        | true =>
          have G4 := hide g4
          go_wp2_with fail
          refine (quietIn_is qa ql qc x r q l d ph _ ((unhide HR).below (unhide B)) (unhide G4)).mono ?_
          rintro e w13 ⟨rfl, b⟩
          have KB := hide ((unhide KB).below b)
          have KR := hide ((unhide KR).below b)
          have B := hide ((unhide B).trans (b.mono (unhide B).size))
          clear c0 c1 c2 r0 r1 r2 r3 r4
          clear b
          have c0 : w13.cell? ⟨w.heap.size, 0, none⟩ = some (.map (some b1)) := (unhide KB).c 0 (by simp)
          have c1 : w13.cell? ⟨w.heap.size, 1, none⟩ = some (.map (some b2)) := (unhide KB).c 1 (by simp)
          have c2 : w13.cell? ⟨w.heap.size, 2, none⟩ = some (.map (some b3)) := (unhide KB).c 2 (by simp)
          have r0 : w13.cell? ⟨w.heap.size + 1, 0, none⟩ = some (.string x) := (unhide KR).c 0 (by simp)
          have r1 : w13.cell? ⟨w.heap.size + 1, 1, none⟩ = some (.int .i64 r) := (unhide KR).c 1 (by simp)
          have r2 : w13.cell? ⟨w.heap.size + 1, 2, none⟩ = some (.slice qa ql qc) := (unhide KR).c 2 (by simp)
          have r3 : w13.cell? ⟨w.heap.size + 1, 3, none⟩ = some (.bool l) := (unhide KR).c 3 (by simp)
          have r4 : w13.cell? ⟨w.heap.size + 1, 4, none⟩ = some (.string d) := (unhide KR).c 4 (by simp)
          go_wp2_with fail
          go_ret
          exact ⟨ret_bool (by rw [unhide HV, unhide G1, unhide G2, unhide G3, unhide G4]; rfl), unhide B⟩
        | false =>
          have G4 := hide g4
          go_wp2_with fail
          refine (quietIn_is qa ql qc x r q l d ph _ ((unhide HR).below (unhide B)) (unhide G4)).mono ?_
          rintro e w14 ⟨rfl, b⟩
          have KB := hide ((unhide KB).below b)
          have KR := hide ((unhide KR).below b)
          have B := hide ((unhide B).trans (b.mono (unhide B).size))
          clear c0 c1 c2 r0 r1 r2 r3 r4
          clear b
          have c0 : w14.cell? ⟨w.heap.size, 0, none⟩ = some (.map (some b1)) := (unhide KB).c 0 (by simp)
          have c1 : w14.cell? ⟨w.heap.size, 1, none⟩ = some (.map (some b2)) := (unhide KB).c 1 (by simp)
          have c2 : w14.cell? ⟨w.heap.size, 2, none⟩ = some (.map (some b3)) := (unhide KB).c 2 (by simp)
          have r0 : w14.cell? ⟨w.heap.size + 1, 0, none⟩ = some (.string x) := (unhide KR).c 0 (by simp)
          have r1 : w14.cell? ⟨w.heap.size + 1, 1, none⟩ = some (.int .i64 r) := (unhide KR).c 1 (by simp)
          have r2 : w14.cell? ⟨w.heap.size + 1, 2, none⟩ = some (.slice qa ql qc) := (unhide KR).c 2 (by simp)
          have r3 : w14.cell? ⟨w.heap.size + 1, 3, none⟩ = some (.bool l) := (unhide KR).c 3 (by simp)
          have r4 : w14.cell? ⟨w.heap.size + 1, 4, none⟩ = some (.string d) := (unhide KR).c 4 (by simp)
          cases g5 : S1 d with
          | true =>
            have G5 := hide g5
            go_wp2_with fail
            refine (has_is b1 n1 S1 d _ ((unhide HB).below (unhide B)).s1 (unhide HF).2 (unhide G5)).mono ?_
            rintro e w15 ⟨rfl, b⟩
            have KB := hide ((unhide KB).below b)
            have KR := hide ((unhide KR).below b)
            have B := hide ((unhide B).trans (b.mono (unhide B).size))
            clear c0 c1 c2 r0 r1 r2 r3 r4
            clear b
            have c0 : w15.cell? ⟨w.heap.size, 0, none⟩ = some (.map (some b1)) := (unhide KB).c 0 (by simp)
            have c1 : w15.cell? ⟨w.heap.size, 1, none⟩ = some (.map (some b2)) := (unhide KB).c 1 (by simp)
            have c2 : w15.cell? ⟨w.heap.size, 2, none⟩ = some (.map (some b3)) := (unhide KB).c 2 (by simp)
            have r0 : w15.cell? ⟨w.heap.size + 1, 0, none⟩ = some (.string x) := (unhide KR).c 0 (by simp)
            have r1 : w15.cell? ⟨w.heap.size + 1, 1, none⟩ = some (.int .i64 r) := (unhide KR).c 1 (by simp)
            have r2 : w15.cell? ⟨w.heap.size + 1, 2, none⟩ = some (.slice qa ql qc) := (unhide KR).c 2 (by simp)
            have r3 : w15.cell? ⟨w.heap.size + 1, 3, none⟩ = some (.bool l) := (unhide KR).c 3 (by simp)
            have r4 : w15.cell? ⟨w.heap.size + 1, 4, none⟩ = some (.string d) := (unhide KR).c 4 (by simp)
            go_wp2_with fail
            go_ret
            exact ⟨ret_bool (by rw [unhide HV, unhide G1, unhide G2, unhide G3, unhide G4, unhide G5]; rfl), unhide B⟩
          | false =>
            have G5 := hide g5
            go_wp2_with fail
            refine (has_is b1 n1 S1 d _ ((unhide HB).below (unhide B)).s1 (unhide HF).2 (unhide G5)).mono ?_
            rintro e w16 ⟨rfl, b⟩
            have KB := hide ((unhide KB).below b)
            have KR := hide ((unhide KR).below b)
            have B := hide ((unhide B).trans (b.mono (unhide B).size))
            clear c0 c1 c2 r0 r1 r2 r3 r4
            clear b
            have c0 : w16.cell? ⟨w.heap.size, 0, none⟩ = some (.map (some b1)) := (unhide KB).c 0 (by simp)
            have c1 : w16.cell? ⟨w.heap.size, 1, none⟩ = some (.map (some b2)) := (unhide KB).c 1 (by simp)
            have c2 : w16.cell? ⟨w.heap.size, 2, none⟩ = some (.map (some b3)) := (unhide KB).c 2 (by simp)
            have r0 : w16.cell? ⟨w.heap.size + 1, 0, none⟩ = some (.string x) := (unhide KR).c 0 (by simp)
            have r1 : w16.cell? ⟨w.heap.size + 1, 1, none⟩ = some (.int .i64 r) := (unhide KR).c 1 (by simp)
            have r2 : w16.cell? ⟨w.heap.size + 1, 2, none⟩ = some (.slice qa ql qc) := (unhide KR).c 2 (by simp)
            have r3 : w16.cell? ⟨w.heap.size + 1, 3, none⟩ = some (.bool l) := (unhide KR).c 3 (by simp)
            have r4 : w16.cell? ⟨w.heap.size + 1, 4, none⟩ = some (.string d) := (unhide KR).c 4 (by simp)
            go_wp2_with fail
            go_ret
            exact ⟨ret_bool (by rw [unhide HV, unhide G1, unhide G2, unhide G3, unhide G4, unhide G5]; rfl), unhide B⟩
    | false =>
      have G2 := hide g2
      go_wp2_with fail
      refine (has_is b2 n2 S2 x _ ((unhide HB).below (unhide B)).s2 (unhide HF).1 (unhide G2)).mono ?_
      rintro e w17 ⟨rfl, b⟩
      have KB := hide ((unhide KB).below b)
      have KR := hide ((unhide KR).below b)
      have B := hide ((unhide B).trans (b.mono (unhide B).size))
      clear c0 c1 c2 r0 r1 r2 r3 r4
      clear b
      have c0 : w17.cell? ⟨w.heap.size, 0, none⟩ = some (.map (some b1)) := (unhide KB).c 0 (by simp)
      have c1 : w17.cell? ⟨w.heap.size, 1, none⟩ = some (.map (some b2)) := (unhide KB).c 1 (by simp)
      have c2 : w17.cell? ⟨w.heap.size, 2, none⟩ = some (.map (some b3)) := (unhide KB).c 2 (by simp)
      have r0 : w17.cell? ⟨w.heap.size + 1, 0, none⟩ = some (.string x) := (unhide KR).c 0 (by simp)
      have r1 : w17.cell? ⟨w.heap.size + 1, 1, none⟩ = some (.int .i64 r) := (unhide KR).c 1 (by simp)
      have r2 : w17.cell? ⟨w.heap.size + 1, 2, none⟩ = some (.slice qa ql qc) := (unhide KR).c 2 (by simp)
      have r3 : w17.cell? ⟨w.heap.size + 1, 3, none⟩ = some (.bool l) := (unhide KR).c 3 (by simp)
      have r4 : w17.cell? ⟨w.heap.size + 1, 4, none⟩ = some (.string d) := (unhide KR).c 4 (by simp)
      go_wp2_with fail
      go_ret
      exact ⟨ret_bool (by rw [unhide HV, unhide G1, unhide G2]; rfl), unhide B⟩

end Go.Proofs.Ytfehfocfoegbdaa

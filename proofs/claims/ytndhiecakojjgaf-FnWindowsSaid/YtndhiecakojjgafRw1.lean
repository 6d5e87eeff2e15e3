/-
  Lists of jobs at work in the program: made, coming, whose turn it is, work, how late: plain answers; what is written is the list's own.
  Whose turn it is among jobs at work, work on it, and how late they were, in the program: plain answers; what is written is the list's own.
  How late jobs at work were, in the program: the plain list, in memory of its own; nothing that was there is written.
  What the program's RunJobs answers: the plain answer, in memory of its own; nothing that was there is written.
-/
import Derived.Test.YtndhiecakojjgafRwJob
import Derived.Test.YtndhiecakojjgafOwn1
import Derived.Test.YtndhiecakojjgafFar1
import Derived.Test.YtndhiecakojjgafRowJb

namespace Go.Proofs.Ytndhiecakojjgaf
open Go.RowKit

theorem infoJw : (Try.prog.info? 121).map (fun i => (i.zero, i.size, i.bytes)) = some (some (.agg #[.int .i64 0, .int .i64 0, .int .i64 0, .int .i64 0, .int .i64 0, .int .i64 0]), 6, 48) := by kernel_rfl
theorem grownT {a b c : World} {row : Option Nat} (h : a.grownBy b row) (k : b.grownBy c row) : a.grownBy c row :=
  ⟨k.os.trans h.os, k.tape.trans h.tape, k.output.trans h.output, Nat.le_trans h.size k.size, fun i hi hne => (k.block i (Nat.lt_of_lt_of_le hi h.size) hne).trans (h.block i hi hne)⟩
theorem grownB {w w' : World} (b : Below w.heap.size w w') (row : Option Nat) : w.grownBy w' row := ⟨b.os, b.tape, b.output, b.size, fun i hi _ => b.block i hi⟩
/-- A list of jobs at work that grows. -/
structure RwW (w wr : World) (g n cp : Nat) (out : List Jw) : Prop where
  o : OwnE 6 jwC wr w.heap.size 121 (.slice (some ⟨g, 0, none⟩) n cp) out
  l : out.length = n
  bel : Below w.heap.size w wr
theorem RwW.below {w wr w' : World} {g n cp : Nat} {out : List Jw} (k : RwW w wr g n cp out) (b : Below wr.heap.size wr w') : RwW w w' g n cp out := ⟨k.o.below b, k.l, k.bel.trans (b.mono k.bel.size)⟩
theorem RwW.app {w wr w' : World} {g n cp g' cp' : Nat} {out : List Jw} {z : Jw} (k : RwW w wr g n cp out) (o : OwnE 6 jwC w' w.heap.size 121 (.slice (some ⟨g', 0, none⟩) (n + 1) cp') (out ++ [z])) (gr : wr.grownBy w' (Value.slice (some ⟨g, 0, none⟩) n cp).ownBlock) : RwW w w' g' (n + 1) cp' (out ++ [z]) :=
  ⟨o, by simp [k.l], k.bel.grown gr k.bel.size (fun q hq => (k.o.lies q hq).1)⟩
def jzL (js : List Jb) : Nat → List Jw
  | 0 => []
  | k + 1 => jzL js k ++ [⟨(elAt js k).a0, (elAt js k).a1, (elAt js k).a2, 0, 0, 0⟩]
theorem jzL_len (js : List Jb) : ∀ k, (jzL js k).length = k
  | 0 => rfl
  | k + 1 => by simp [jzL, jzL_len js k]
theorem jzL_at (js : List Jb) : ∀ k j, j < k → elAt (jzL js k) j = ⟨(elAt js j).a0, (elAt js j).a1, (elAt js j).a2, 0, 0, 0⟩
  | 0, j, h => by omega
  | k + 1, j, h => by
    by_cases e : j < k
    · rw [jzL, (elAt_app _ _).1 j (by rw [jzL_len]; exact e)]
      exact jzL_at js k j e
    · obtain rfl : j = k := by omega
      have := (elAt_app (jzL js j) (⟨(elAt js j).a0, (elAt js j).a1, (elAt js j).a2, 0, 0, 0⟩ : Jw)).2
      rw [jzL_len] at this
      exact this
theorem jzL_is (js : List Jb) : jzL js js.length = jwOf js (List.replicate js.length 0) (List.replicate js.length 0) (List.replicate js.length 0) := by
  refine jwOf_ext (jzL_len _ _) (fun k hk => ?_)
  rw [jzL_at js _ k hk]
  simp [jwAt, nth, hk]

set_option maxRecDepth 20000 in
set_option maxHeartbeats 2000000 in
theorem workOf_is (ja : Option Addr) (jn jc : Nat) (js : List Jb) (w : World) (hl : js.length ≤ 20) (hr : RowE 3 jbC w ja jn js) :
    Calls Try.prog 61 #[.slice ja jn jc] w fun e w' => ∃ g cp : Nat, e = .returned (.slice (some ⟨g, 0, none⟩) js.length cp) ∧ OwnE 6 jwC w' w.heap.size 121 (.slice (some ⟨g, 0, none⟩) js.length cp) (jwOf js (List.replicate js.length 0) (List.replicate js.length 0) (List.replicate js.length 0)) ∧ Below w.heap.size w w' := by
  have hz := hr.len_eq
  have hs := hr.small
  have HR := hide hr
  clear hr
  subst hz
  have KJ : Hid (RwW w (w.alloc (Obj.cells #[] 121)) w.heap.size 0 0 (jzL js 0)) := hide ⟨ownE_none (Nat.le_refl _), rfl, bel1 _⟩
  go_enter Try.func61, Try.ntmps61
  go_wp2_with fail
  go_loopw [3, 9] (fun s3 s9 wr => ∃ (k g cp : Nat), k ≤ js.length ∧ s3 = .slice (some ⟨g, 0, none⟩) k cp ∧ s9 = .int .i64 (k : Int) ∧ Hid (RwW w wr g k cp (jzL js k))) (fun _ s9 _ => js.length - (intOf s9).toNat)
  case atStart => exact ⟨0, _, 0, Nat.zero_le _, rfl, rfl, KJ⟩
  case round =>
    clear KJ
    obtain ⟨k, g1, cp, hk, rfl, rfl, HK⟩ := hrel
    by_cases hlt : k < js.length
    · rcases ((unhide HR).below (unhide HK).bel).jb3 with ⟨z0, _⟩ | ⟨bb, off, rfl, _, hcs⟩
      · omega
      have m0 := (hcs k hlt).1
      have m1 := (hcs k hlt).2.1
      have m2 := (hcs k hlt).2.2
      obtain ⟨x0, hx0⟩ : ∃ z, (elAt js k).a0 = z := ⟨_, rfl⟩
      obtain ⟨x1, hx1⟩ : ∃ z, (elAt js k).a1 = z := ⟨_, rfl⟩
      obtain ⟨x2, hx2⟩ : ∃ z, (elAt js k).a2 = z := ⟨_, rfl⟩
      have HXX : Hid (jzL js (k + 1) = jzL js k ++ [⟨x0, x1, x2, 0, 0, 0⟩]) := hide (by rw [jzL, hx0, hx1, hx2])
      rw [hx0] at m0
      rw [hx1] at m1
      rw [hx2] at m2
      have k0 : (0 : Int) ≤ (k : Int) := by omega
      have k1 : (k : Int) < (js.length : Int) := by omega
      obtain ⟨V, hV⟩ : ∃ V, V = wr.alloc (Obj.cells #[.int .i64 x0, .int .i64 x1, .int .i64 x2] 108) := ⟨_, rfl⟩
      have KV := hide ((unhide HK).below (by rw [hV]; exact bel1 _ : Below wr.heap.size wr V))
      have KX : Hid (Blk V wr.heap.size [.int .i64 x0, .int .i64 x1, .int .i64 x2]) := hide (by rw [hV]; exact Blk.new _ _)
      obtain ⟨X, hX⟩ : ∃ X, wr.heap.size = X := ⟨_, rfl⟩
      rw [hX] at KX
      have HV := hide hV
      have HX := hide hX
      clear hcs hV hX hx0 hx1 hx2
      go_upto_region 5 with fail
      rw [← unhide HV, unhide HX]
      clear HV HX m0 m1 m2
      have y0 : V.cell? ⟨X, 0, none⟩ = some (.int .i64 x0) := (unhide KX).c 0 (by simp)
      have y1 : V.cell? ⟨X, 1, none⟩ = some (.int .i64 x1) := (unhide KX).c 1 (by simp)
      have y2 : V.cell? ⟨X, 2, none⟩ = some (.int .i64 x2) := (unhide KX).c 2 (by simp)
      go_wp2_with (at_builtin; (refine wpList_app_elG (K := 6) (cells := jwC) rfl _ _ 98 121 rfl Try.underlying98 infoJw rfl (by decide) (by decide) (Jw.mk x0 x1 x2 0 0 0) [.int .i64 x0, .int .i64 x1, .int .i64 x2, .int .i64 0, .int .i64 0, .int .i64 0] rfl (fun q hq => by match q, hq with | 0, _ => rfl | 1, _ => rfl | 2, _ => rfl | 3, _ => rfl | 4, _ => rfl | 5, _ => rfl) (fun u hu => by simp at hu; rcases hu with rfl | rfl | rfl | rfl | rfl | rfl <;> rfl) (unhide KV).o (unhide KV).l rfl (by simp) rfl (unhide KV).bel.size (by omega) ?_; intro g' c' w9 o9 gr9 _; have K9 := hide ((unhide KV).app o9 gr9); clear o9 gr9))
      go_roundw
      case rel => exact ⟨k + 1, g', c', by omega, rfl, by go_num, by rw [unhide HXX]; exact K9⟩
      case measure => simp [intOf]; omega
    · have hkl : k = js.length := by omega
      have k1 : ¬ (k : Int) < (js.length : Int) := by omega
      have HOK : Hid (OwnE 6 jwC wr w.heap.size 121 (.slice (some ⟨g1, 0, none⟩) js.length cp) (jzL js js.length)) := hide (by have q := (unhide HK).o; rw [hkl] at q; exact q)
      have HKL := hide hkl
      clear hkl
      go_wp2_with fail
      go_ret
      refine ⟨g1, cp, ?_, ?_, (unhide HK).bel⟩
      · rw [← unhide HKL]; rfl
      · rw [← jzL_is]; exact unhide HOK

set_option maxRecDepth 20000 in
set_option maxHeartbeats 2000000 in
theorem come_w (base g n cp : Nat) (L : List Jw) (t : Int) (w : World) (ho : OwnE 6 jwC w base 121 (.slice (some ⟨g, 0, none⟩) n cp) L) (hn : L.length = n) (hs : n ≤ 20) (ht : 0 ≤ t ∧ t ≤ 5000) (hx : ∀ k, k < n → (1 ≤ (elAt L k).a1 ∧ (elAt L k).a1 ≤ 100000) ∧ 0 ≤ (elAt L k).a5 ∧ (elAt L k).a5 ≤ 5000) :
    Calls Try.prog 62 #[.slice (some ⟨g, 0, none⟩) n cp, .int .i64 t] w fun e w' => e = .returned (.tuple #[]) ∧ OwnE 6 jwC w' base 121 (.slice (some ⟨g, 0, none⟩) n cp) (cmL L t n) ∧ w.grownBy w' (some g) := by
  have HO := hide ho
  have HBD := hide hx
  clear ho hx
  go_enter Try.func62, Try.ntmps62
  go_wp2_with fail
  go_loopw [7] (fun s7 wr => ∃ (k : Nat), k ≤ n ∧ s7 = .int .i64 (k : Int) ∧ Hid (OwnE 6 jwC wr base 121 (.slice (some ⟨g, 0, none⟩) n cp) (cmL L t k)) ∧ Hid (w.grownBy wr (some g))) (fun s7 _ => n - (intOf s7).toNat)
  case atStart => exact ⟨0, Nat.zero_le _, rfl, HO, hide (grown_refl _ _)⟩
  case round =>
    clear HO
    obtain ⟨k, hk, rfl, HO, HG⟩ := hrel
    by_cases hlt : k < n
    · have k0 : (0 : Int) ≤ (k : Int) := by omega
      have k1 : (k : Int) < (n : Int) := by omega
      have er := cmL_rest L t k (by omega) k (Nat.le_refl _)
      have CM := hide (comes_is base g n cp k (cmL L t k) t wr (unhide HO) (by rw [cmL_len]; exact hn) hlt ht (by rw [er]; exact unhide HBD k hlt))
      rw [er] at CM
      clear er
      go_wp2_with (go_at_call 74; refine (unhide CM).mono ?_; rintro e w9 ⟨rfl, o9, gr9⟩; have O9 := hide o9; have G9 := hide (grownT (unhide HG) gr9); clear o9 gr9)
      go_roundw
      case rel => exact ⟨k + 1, by omega, by go_num, O9, G9⟩
      case measure => simp [intOf]; omega
    · have hkl : k = n := by omega
      have k1 : ¬ (k : Int) < (n : Int) := by omega
      rw [hkl] at HO
      clear hkl
      go_wp2_with fail
      go_end0
      exact ⟨rfl, unhide HO, unhide HG⟩

end Go.Proofs.Ytndhiecakojjgaf

namespace Go.Proofs.Ytndhiecakojjgaf
open Go.RowKit

theorem nxN_yes {L : List Jw} {who : Int} {k : Nat} {x0 x1 x2 x3 x4 x5 N : Int} (e : elAt L k = ⟨x0, x1, x2, x3, x4, x5⟩) (hN : nxN L who k = N) (h0 : x0 = who) (h3 : 0 < x3) (h : N = -1 ∨ x4 < (elAt L N.toNat).a4) : nxN L who (k + 1) = (k : Int) := by
  rw [nxN, hN, e, if_pos ⟨h0, h3, h⟩]
theorem nxN_no {L : List Jw} {who : Int} {k : Nat} {x0 x1 x2 x3 x4 x5 N : Int} (e : elAt L k = ⟨x0, x1, x2, x3, x4, x5⟩) (hN : nxN L who k = N) (h : ¬ (x0 = who ∧ 0 < x3 ∧ (N = -1 ∨ x4 < (elAt L N.toNat).a4))) : nxN L who (k + 1) = N := by
  rw [nxN, hN, e, if_neg h]

set_option maxRecDepth 20000 in
set_option maxHeartbeats 4000000 in
theorem nextOf_is {r : Int} (base g n cp : Nat) (L : List Jw) (who : Int) (w : World) (ho : OwnE 6 jwC w base 121 (.slice (some ⟨g, 0, none⟩) n cp) L) (hn : L.length = n) (hs : n ≤ 20) (hc : nxN L who n = r) :
    Calls Try.prog 75 #[.slice (some ⟨g, 0, none⟩) n cp, .int .i64 who] w fun e w' => e = .returned (.int .i64 r) ∧ Below w.heap.size w w' := by
  have HC := hide hc
  clear hc
  have HO := hide ho
  obtain ⟨ι, fW, _, hb, hall⟩ := belClass w
  have HB := hide hb
  have HA := hide hall
  have HL : Hid (∀ x j q, j < n → q < 6 → (fW x).cell? ⟨g, j * 6 + q, none⟩ = some (jwC (elAt L j) q)) := hide (fun x j q hj hq => ((ho.below (hb x)).here hn j hj q hq).1)
  obtain ⟨y0, h0⟩ := hall w (Below.refl _ _)
  have H0 := hide h0
  clear hb hall ho
  go_enter Try.func75, Try.ntmps75
  rw [h0]
  clear h0
  go_wp2_with fail
  go_loopw [5, 10] (fun s5 s10 wr => ∃ (k : Nat) (N : Int) (x : ι), k ≤ n ∧ (-1 ≤ N ∧ N < (k : Int)) ∧ s5 = .int .i64 N ∧ s10 = .int .i64 (k : Int) ∧ Hid (nxN L who k = N) ∧ wr = fW x) (fun _ s10 _ => n - (intOf s10).toNat)
  case atStart => exact ⟨0, -1, _, Nat.zero_le _, by omega, rfl, rfl, hide rfl, rfl⟩
  case round =>
    obtain ⟨k, N, x, hk, hN, rfl, rfl, HN, rfl⟩ := hrel
    by_cases hlt : k < n
    · have k0 : (0 : Int) ≤ (k : Int) := by omega
      have k1 : (k : Int) < (n : Int) := by omega
      obtain ⟨x0, hx0⟩ : ∃ z, (elAt L k).a0 = z := ⟨_, rfl⟩
      obtain ⟨x1, hx1⟩ : ∃ z, (elAt L k).a1 = z := ⟨_, rfl⟩
      obtain ⟨x2, hx2⟩ : ∃ z, (elAt L k).a2 = z := ⟨_, rfl⟩
      obtain ⟨x3, hx3⟩ : ∃ z, (elAt L k).a3 = z := ⟨_, rfl⟩
      obtain ⟨x4, hx4⟩ : ∃ z, (elAt L k).a4 = z := ⟨_, rfl⟩
      obtain ⟨x5, hx5⟩ : ∃ z, (elAt L k).a5 = z := ⟨_, rfl⟩
      have HXX : Hid (elAt L k = ⟨x0, x1, x2, x3, x4, x5⟩) := hide (by rw [← hx0, ← hx1, ← hx2, ← hx3, ← hx4, ← hx5])
      have m0 : (fW x).cell? ⟨g, k * 6, none⟩ = some (.int .i64 x0) := by rw [← hx0]; exact unhide HL x k 0 hlt (by omega)
      have m1 : (fW x).cell? ⟨g, k * 6 + 1, none⟩ = some (.int .i64 x1) := by rw [← hx1]; exact unhide HL x k 1 hlt (by omega)
      have m2 : (fW x).cell? ⟨g, k * 6 + 2, none⟩ = some (.int .i64 x2) := by rw [← hx2]; exact unhide HL x k 2 hlt (by omega)
      have m3 : (fW x).cell? ⟨g, k * 6 + 3, none⟩ = some (.int .i64 x3) := by rw [← hx3]; exact unhide HL x k 3 hlt (by omega)
      have m4 : (fW x).cell? ⟨g, k * 6 + 4, none⟩ = some (.int .i64 x4) := by rw [← hx4]; exact unhide HL x k 4 hlt (by omega)
      have m5 : (fW x).cell? ⟨g, k * 6 + 5, none⟩ = some (.int .i64 x5) := by rw [← hx5]; exact unhide HL x k 5 hlt (by omega)
      obtain ⟨V, hV⟩ : ∃ V, V = (fW x).alloc (Obj.cells #[.int .i64 x0, .int .i64 x1, .int .i64 x2, .int .i64 x3, .int .i64 x4, .int .i64 x5] 121) := ⟨_, rfl⟩
      have KX : Hid (Blk V (fW x).heap.size [.int .i64 x0, .int .i64 x1, .int .i64 x2, .int .i64 x3, .int .i64 x4, .int .i64 x5]) := hide (by rw [hV]; exact Blk.new _ _)
      have BV : Hid (Below w.heap.size w V) := hide (by rw [hV]; exact (unhide HB x).alloc (unhide HB x).size _)
      have HLV : Hid (∀ j q, j < n → q < 6 → V.cell? ⟨g, j * 6 + q, none⟩ = some (jwC (elAt L j) q)) := hide (fun j q hj hq => (((unhide HO).below (unhide BV)).here hn j hj q hq).1)
      obtain ⟨X, hX⟩ : ∃ X, (fW x).heap.size = X := ⟨_, rfl⟩
      rw [hX] at KX
      have HV := hide hV
      have HX := hide hX
      clear hV hX hx0 hx1 hx2 hx3 hx4 hx5
      go_upto_region 5 with fail
      rw [← unhide HV, unhide HX]
      clear HV HX m0 m1 m2 m3 m4 m5
      obtain ⟨κ, gW, _, hb2, hall2⟩ := belClass V
      have HB2 := hide hb2
      have HA2 := hide hall2
      have y0 : ∀ x, (gW x).cell? ⟨X, 0, none⟩ = some (.int .i64 x0) := fun x => ((unhide KX).below (hb2 x)).c 0 (by simp)
      have y3 : ∀ x, (gW x).cell? ⟨X, 3, none⟩ = some (.int .i64 x3) := fun x => ((unhide KX).below (hb2 x)).c 3 (by simp)
      have y4 : ∀ x, (gW x).cell? ⟨X, 4, none⟩ = some (.int .i64 x4) := fun x => ((unhide KX).below (hb2 x)).c 4 (by simp)
      obtain ⟨u0, h0⟩ := hall2 V (Below.refl _ _)
      rw [h0]
      clear h0 hb2 hall2
      by_cases q0 : x0 = who
      · have e0 : (x0 == who) = true := by simpa using q0
        by_cases q3 : 0 < x3
        · have e3 : decide (0 < x3) = true := decide_eq_true q3
          by_cases qn : N = -1
          · subst qn
            (refine wp_region_bel (fun w' h => (unhide HA2) w' ((unhide HB2 _).trans (h.mono (unhide HB2 _).size))) (by kernel_rfl) (by kernel_rfl) ?_; (repeat (go_big_quiet_step (fail))); refine wpQuiet_nil ?_; rintro _ ⟨y, rfl⟩)
            go_wp2_with fail
            go_roundw
            case rel =>
              obtain ⟨u, hu⟩ := unhide HA _ ((unhide BV).trans ((unhide HB2 y).mono (unhide BV).size))
              exact ⟨k + 1, (k : Int), u, by omega, by omega, rfl, by go_num, hide (nxN_yes (unhide HXX) (unhide HN) q0 q3 (.inl rfl)), hu⟩
            case measure => simp [intOf]; omega
          · have en : (N == -1) = false := by simpa using qn
            obtain ⟨b, rfl⟩ : ∃ b : Nat, N = (b : Int) := ⟨N.toNat, by omega⟩
            have hbn : b < n := by omega
            have b0 : (0 : Int) ≤ (b : Int) := by omega
            have b1 : (b : Int) < (n : Int) := by omega
            obtain ⟨z4, hz4⟩ : ∃ z, (elAt L b).a4 = z := ⟨_, rfl⟩
            have zz : ∀ x, (gW x).cell? ⟨g, b * 6 + 4, none⟩ = some (.int .i64 z4) := fun x => by rw [← hz4]; exact ((unhide HB2 x).cell (block_lt_of_cell (unhide HLV b 4 hbn (by omega)))).trans (unhide HLV b 4 hbn (by omega))
            have HZ4 := hide hz4
            clear hz4
            by_cases q4 : x4 < z4
            · have e4 : decide (x4 < z4) = true := decide_eq_true q4
              (refine wp_region_bel (fun w' h => (unhide HA2) w' ((unhide HB2 _).trans (h.mono (unhide HB2 _).size))) (by kernel_rfl) (by kernel_rfl) ?_; (repeat (go_big_quiet_step (fail))); refine wpQuiet_nil ?_; rintro _ ⟨y, rfl⟩)
              go_wp2_with fail
              go_roundw
              case rel =>
                obtain ⟨u, hu⟩ := unhide HA _ ((unhide BV).trans ((unhide HB2 y).mono (unhide BV).size))
                exact ⟨k + 1, (k : Int), u, by omega, by omega, rfl, by go_num, hide (nxN_yes (unhide HXX) (unhide HN) q0 q3 (.inr (by rw [Int.toNat_natCast, unhide HZ4]; exact q4))), hu⟩
              case measure => simp [intOf]; omega
            · have e4 : decide (x4 < z4) = false := decide_eq_false q4
              (refine wp_region_bel (fun w' h => (unhide HA2) w' ((unhide HB2 _).trans (h.mono (unhide HB2 _).size))) (by kernel_rfl) (by kernel_rfl) ?_; (repeat (go_big_quiet_step (fail))); refine wpQuiet_nil ?_; rintro _ ⟨y, rfl⟩)
              go_wp2_with fail
              go_roundw
              case rel =>
                obtain ⟨u, hu⟩ := unhide HA _ ((unhide BV).trans ((unhide HB2 y).mono (unhide BV).size))
                exact ⟨k + 1, (b : Int), u, by omega, by omega, rfl, by go_num, hide (nxN_no (unhide HXX) (unhide HN) (fun h => by rcases h.2.2 with h | h; exact qn h; rw [Int.toNat_natCast, unhide HZ4] at h; exact q4 h)), hu⟩
              case measure => simp [intOf]; omega
        · have e3 : decide (0 < x3) = false := decide_eq_false q3
          (refine wp_region_bel (fun w' h => (unhide HA2) w' ((unhide HB2 _).trans (h.mono (unhide HB2 _).size))) (by kernel_rfl) (by kernel_rfl) ?_; (repeat (go_big_quiet_step (fail))); refine wpQuiet_nil ?_; rintro _ ⟨y, rfl⟩)
          go_wp2_with fail
          go_roundw
          case rel =>
            obtain ⟨u, hu⟩ := unhide HA _ ((unhide BV).trans ((unhide HB2 y).mono (unhide BV).size))
            exact ⟨k + 1, N, u, by omega, by omega, rfl, by go_num, hide (nxN_no (unhide HXX) (unhide HN) (fun h => q3 h.2.1)), hu⟩
          case measure => simp [intOf]; omega
      · have e0 : (x0 == who) = false := by simpa using q0
        (refine wp_region_bel (fun w' h => (unhide HA2) w' ((unhide HB2 _).trans (h.mono (unhide HB2 _).size))) (by kernel_rfl) (by kernel_rfl) ?_; (repeat (go_big_quiet_step (fail))); refine wpQuiet_nil ?_; rintro _ ⟨y, rfl⟩)
        go_wp2_with fail
        go_roundw
        case rel =>
          obtain ⟨u, hu⟩ := unhide HA _ ((unhide BV).trans ((unhide HB2 y).mono (unhide BV).size))
          exact ⟨k + 1, N, u, by omega, by omega, rfl, by go_num, hide (nxN_no (unhide HXX) (unhide HN) (fun h => q0 h.1)), hu⟩
        case measure => simp [intOf]; omega
    · have hkl : k = n := by omega
      have k1 : ¬ (k : Int) < (n : Int) := by omega
      rw [hkl] at HN
      clear hkl
      go_wp2_with fail
      go_ret
      exact ⟨ret_int ((unhide HN).symm.trans (unhide HC)), by rw [← unhide H0]; exact unhide HB _⟩

/-- The list behind work on the one whose turn it is, if there is one. -/
def wkL (L : List Jw) (r : Int) : List Jw := if r = -1 then L else L.set r.toNat (wkX (elAt L r.toNat))
set_option maxRecDepth 20000 in
set_option maxHeartbeats 4000000 in
theorem work_is {r : Int} (base g n cp : Nat) (L : List Jw) (who : Int) (w : World) (ho : OwnE 6 jwC w base 121 (.slice (some ⟨g, 0, none⟩) n cp) L) (hn : L.length = n) (hs : n ≤ 20) (hx : ∀ k, k < n → 0 ≤ (elAt L k).a3 ∧ (elAt L k).a3 ≤ 100000) (hc : nxN L who n = r) :
    Calls Try.prog 63 #[.slice (some ⟨g, 0, none⟩) n cp, .int .i64 who] w fun e w' => e = .returned (.bool (decide (¬ r = -1))) ∧ OwnE 6 jwC w' base 121 (.slice (some ⟨g, 0, none⟩) n cp) (wkL L r) ∧ w.grownBy w' (some g) := by
  by_cases q : r = -1
  · subst q
    have NX := hide (nextOf_is base g n cp L who w ho hn hs hc)
    have HO := hide ho
    clear ho hc
    go_enter Try.func63, Try.ntmps63
    go_wp2_with (go_at_call 75; refine (unhide NX).mono ?_; rintro e w9 ⟨rfl, b9⟩; have B9 := hide b9; clear b9)
    go_ret
    exact ⟨rfl, (unhide HO).below (unhide B9), grownB (unhide B9) _⟩
  · have hr0 := nxN_in L who n
    rw [hc] at hr0
    obtain ⟨b, rfl⟩ : ∃ b : Nat, r = (b : Int) := ⟨r.toNat, by omega⟩
    have hb : b < n := by omega
    have b0 : (0 : Int) ≤ (b : Int) := by omega
    have b1 : (b : Int) < (n : Int) := by omega
    have b2 : ¬ (b : Int) = -1 := by omega
    have b3 : ((b : Int) == -1) = false := by simp
    have hlf := hx b hb
    have NX := hide (nextOf_is base g n cp L who w ho hn hs hc)
    have e2 : wkL L (b : Int) = L.set b (wkX (elAt L b)) := by rw [wkL, if_neg b2, Int.toNat_natCast]
    have e3 : decide (¬ (b : Int) = -1) = true := decide_eq_true b2
    rw [e2, e3]
    obtain ⟨x3, hx3⟩ : ∃ z, (elAt L b).a3 = z := ⟨_, rfl⟩
    rw [hx3] at hlf
    have HX3 := hide hx3
    have HO := hide ho
    clear ho hc hr0 hx3 e2 e3 hx
    go_enter Try.func63, Try.ntmps63
    go_wp2_with (go_at_call 75; refine (unhide NX).mono ?_; rintro e w9 ⟨rfl, b9⟩; have B9 := hide b9; have O9 := hide ((unhide HO).below b9); have m3 : w9.cell? ⟨g, b * 6 + 3, none⟩ = some (.int .i64 x3) := (by rw [← unhide HX3]; exact ((unhide O9).here hn b hb 3 (by omega)).1); have f3 : w9.frozen? ⟨g, b * 6 + 3, none⟩ = false := ((unhide O9).here hn b hb 3 (by omega)).2; clear b9)
    go_ret
    refine ⟨rfl, ?_, grown_set (grownB (unhide B9) _) _ _⟩
    refine (unhide O9).setOne hn b hb 3 (by omega) (.int .i64 (x3 - 1)) (wkX (elAt L b)) (fun p hp => ?_)
    match p, hp with
    | 0, _ => rfl
    | 1, _ => rfl
    | 2, _ => rfl
    | 3, _ => rw [if_pos rfl, ← unhide HX3]; rfl
    | 4, _ => rfl
    | 5, _ => rfl

end Go.Proofs.Ytndhiecakojjgaf

namespace Go.Proofs.Ytndhiecakojjgaf
open Go.RowKit

/-- A list of whole numbers that grows. -/
structure RtW (w wr : World) (g n cp : Nat) (out : List Int) : Prop where
  o : OwnI wr w.heap.size (.slice (some ⟨g, 0, none⟩) n cp) out
  l : out.length = n
  bel : Below w.heap.size w wr
theorem RtW.below {w wr w' : World} {g n cp : Nat} {out : List Int} (k : RtW w wr g n cp out) (b : Below wr.heap.size wr w') : RtW w w' g n cp out := ⟨k.o.below b, k.l, k.bel.trans (b.mono k.bel.size)⟩
theorem RtW.app {w wr w' : World} {g n cp g' cp' : Nat} {out : List Int} {z : Int} (k : RtW w wr g n cp out) (o : OwnI w' w.heap.size (.slice (some ⟨g', 0, none⟩) (n + 1) cp') (out ++ [z])) (gr : wr.grownBy w' (Value.slice (some ⟨g, 0, none⟩) n cp).ownBlock) : RtW w w' g' (n + 1) cp' (out ++ [z]) :=
  ⟨o, by simp [k.l], k.bel.grown gr k.bel.size (fun q hq => (k.o.lies q hq).1)⟩

set_option maxRecDepth 20000 in
set_option maxHeartbeats 2000000 in
theorem lates_is (base g n cp : Nat) (L : List Jw) (w : World) (ho : OwnE 6 jwC w base 121 (.slice (some ⟨g, 0, none⟩) n cp) L) (hn : L.length = n) (hs : n ≤ 20) (hx : ∀ k, k < n → 0 ≤ (elAt L k).a5 ∧ (elAt L k).a5 ≤ 5000) :
    Calls Try.prog 64 #[.slice (some ⟨g, 0, none⟩) n cp] w fun e w' => ∃ g1 cp1 : Nat, e = .returned (.slice (some ⟨g1, 0, none⟩) n cp1) ∧ OwnI w' w.heap.size (.slice (some ⟨g1, 0, none⟩) n cp1) (ltL L n) ∧ Below w.heap.size w w' := by
  have HO := hide ho
  have HBD := hide hx
  have KJ : Hid (RtW w (w.alloc (Obj.cells #[] 3)) w.heap.size 0 0 (ltL L 0)) := hide ⟨ownI_none (Nat.le_refl _), rfl, bel1 _⟩
  clear ho hx
  go_enter Try.func64, Try.ntmps64
  go_wp2_with fail
  go_loopw [3, 9] (fun s3 s9 wr => ∃ (k g1 cp1 : Nat), k ≤ n ∧ s3 = .slice (some ⟨g1, 0, none⟩) k cp1 ∧ s9 = .int .i64 (k : Int) ∧ Hid (RtW w wr g1 k cp1 (ltL L k))) (fun _ s9 _ => n - (intOf s9).toNat)
  case atStart => exact ⟨0, _, 0, Nat.zero_le _, rfl, rfl, KJ⟩
  case round =>
    clear KJ
    obtain ⟨k, g1, cp1, hk, rfl, rfl, HK⟩ := hrel
    by_cases hlt : k < n
    · have k0 : (0 : Int) ≤ (k : Int) := by omega
      have k1 : (k : Int) < (n : Int) := by omega
      have OW := (unhide HO).below (unhide HK).bel
      obtain ⟨x0, hx0⟩ : ∃ z, (elAt L k).a0 = z := ⟨_, rfl⟩
      obtain ⟨x1, hx1⟩ : ∃ z, (elAt L k).a1 = z := ⟨_, rfl⟩
      obtain ⟨x2, hx2⟩ : ∃ z, (elAt L k).a2 = z := ⟨_, rfl⟩
      obtain ⟨x3, hx3⟩ : ∃ z, (elAt L k).a3 = z := ⟨_, rfl⟩
      obtain ⟨x4, hx4⟩ : ∃ z, (elAt L k).a4 = z := ⟨_, rfl⟩
      obtain ⟨x5, hx5⟩ : ∃ z, (elAt L k).a5 = z := ⟨_, rfl⟩
      have hb5 := unhide HBD k hlt
      rw [hx5] at hb5
      have HST : Hid (ltL L (k + 1) = ltL L k ++ [x5]) := hide (by rw [ltL_step (by omega), hx5])
      have m0 : wr.cell? ⟨g, k * 6, none⟩ = some (.int .i64 x0) := by rw [← hx0]; exact (OW.here hn k hlt 0 (by omega)).1
      have m1 : wr.cell? ⟨g, k * 6 + 1, none⟩ = some (.int .i64 x1) := by rw [← hx1]; exact (OW.here hn k hlt 1 (by omega)).1
      have m2 : wr.cell? ⟨g, k * 6 + 2, none⟩ = some (.int .i64 x2) := by rw [← hx2]; exact (OW.here hn k hlt 2 (by omega)).1
      have m3 : wr.cell? ⟨g, k * 6 + 3, none⟩ = some (.int .i64 x3) := by rw [← hx3]; exact (OW.here hn k hlt 3 (by omega)).1
      have m4 : wr.cell? ⟨g, k * 6 + 4, none⟩ = some (.int .i64 x4) := by rw [← hx4]; exact (OW.here hn k hlt 4 (by omega)).1
      have m5 : wr.cell? ⟨g, k * 6 + 5, none⟩ = some (.int .i64 x5) := by rw [← hx5]; exact (OW.here hn k hlt 5 (by omega)).1
      obtain ⟨V, hV⟩ : ∃ V, V = wr.alloc (Obj.cells #[.int .i64 x0, .int .i64 x1, .int .i64 x2, .int .i64 x3, .int .i64 x4, .int .i64 x5] 121) := ⟨_, rfl⟩
      have KV := hide ((unhide HK).below (by rw [hV]; exact bel1 _ : Below wr.heap.size wr V))
      have KX : Hid (Blk V wr.heap.size [.int .i64 x0, .int .i64 x1, .int .i64 x2, .int .i64 x3, .int .i64 x4, .int .i64 x5]) := hide (by rw [hV]; exact Blk.new _ _)
      obtain ⟨X, hX⟩ : ∃ X, wr.heap.size = X := ⟨_, rfl⟩
      rw [hX] at KX
      have HV := hide hV
      have HX := hide hX
      clear hV hX hx0 hx1 hx2 hx3 hx4 hx5 OW
      go_upto_region 5 with fail
      rw [← unhide HV, unhide HX]
      clear HV HX m0 m1 m2 m3 m4 m5
      have y5 : V.cell? ⟨X, 5, none⟩ = some (.int .i64 x5) := (unhide KX).c 5 (by simp)
      go_wp2_with (at_builtin; (refine wpList_app_int rfl _ _ rfl x5 (unhide KV).o (unhide KV).l rfl (by simp) rfl (unhide KV).bel.size (by omega) (by omega) ?_; intro g' c' w9 o9 gr9; have K9 := hide ((unhide KV).app o9 gr9); clear o9 gr9))
      go_roundw
      case rel => exact ⟨k + 1, g', c', by omega, rfl, by go_num, by rw [unhide HST]; exact K9⟩
      case measure => simp [intOf]; omega
    · have hkl : k = n := by omega
      have k1 : ¬ (k : Int) < (n : Int) := by omega
      have HOK : Hid (OwnI wr w.heap.size (.slice (some ⟨g1, 0, none⟩) n cp1) (ltL L n)) := hide (by have q := (unhide HK).o; rw [hkl] at q; exact q)
      have HKL := hide hkl
      clear hkl
      go_wp2_with fail
      go_ret
      refine ⟨g1, cp1, ?_, unhide HOK, (unhide HK).bel⟩
      rw [← unhide HKL]; rfl

end Go.Proofs.Ytndhiecakojjgaf

namespace Go.Proofs.Ytndhiecakojjgaf
open Go.RowKit

theorem rjB_three (fr pa : Int) (ws : List Wn) (js : List Jb) (tk : Int) : rjB fr pa ws js tk = (ppB fr pa ws && (decide (js.length ≤ 20) && jbAll pa js) && inB tk 0 5000) := by
  unfold rjB
  cases ppB fr pa ws <;> cases decide (js.length ≤ 20) <;> cases jbAll pa js <;> cases inB tk 0 5000 <;> rfl
theorem ow_pos {fr pa t : Int} {ws : List Wn} (hp : ppB fr pa ws = true) (h : ¬ owR fr pa ws t = -1) : 0 ≤ owR fr pa ws t := by
  unfold owR at h ⊢
  split
  · rename_i h1
    rw [if_pos h1] at h
    split
    · rename_i h2
      exact (ppB_all hp h2).1.1
    · rename_i h2
      rw [if_neg h2] at h
      exact absurd rfl h
  · rename_i h1
    rw [if_neg h1] at h
    exact absurd rfl h
theorem ret_rj {v v' : Value} {b b' : Int} {c c' : Bool} (h1 : v = v') (h2 : b = b') (h3 : c = c') : Ending.returned (.tuple #[v, .int .i64 b, .bool c]) = .returned (.tuple #[v', .int .i64 b', .bool c']) := by rw [h1, h2, h3]
theorem jwB {js : List Jb} {S : RjS} {t : Int} (h : RjIn S js.length t) (hj : ∀ k, k < js.length → (1 ≤ (elAt js k).a1 ∧ (elAt js k).a1 ≤ 100000)) (ht : t ≤ 5000) : ∀ k, k < js.length → (1 ≤ (elAt (jwOf js S.lt S.lf S.cm) k).a1 ∧ (elAt (jwOf js S.lt S.lf S.cm) k).a1 ≤ 100000) ∧ 0 ≤ (elAt (jwOf js S.lt S.lf S.cm) k).a5 ∧ (elAt (jwOf js S.lt S.lf S.cm) k).a5 ≤ 5000 := by
  intro k hk
  rw [jwOf_at hk]
  have a := h.lt.2 k hk
  have b := hj k hk
  show (1 ≤ (elAt js k).a1 ∧ (elAt js k).a1 ≤ 100000) ∧ 0 ≤ nth S.lt k ∧ nth S.lt k ≤ 5000
  omega

set_option maxRecDepth 20000 in
set_option maxHeartbeats 4000000 in
theorem implRunJobs_is (fr pa : Int) (da : Option Addr) (dn dc : Nat) (ws : List Wn) (ja : Option Addr) (jn jc : Nat) (js : List Jb) (tk : Int) (w : World) (hr : RowE 3 wnC w da dn ws) (hrj : RowE 3 jbC w ja jn js) :
    Calls Try.prog 30 #[.agg #[.int .i64 fr, .int .i64 pa, .slice da dn dc], .slice ja jn jc, .int .i64 tk] w fun e w' => ∃ (a1 : Option Addr) (c1 : Nat), e = .returned (.tuple #[.slice a1 (rjL fr pa ws js tk).length c1, .int .i64 (rjI fr pa ws js tk), .bool (rjB fr pa ws js tk)]) ∧ OwnI w' w.heap.size (.slice a1 (rjL fr pa ws js tk).length c1) (rjL fr pa ws js tk) ∧ Below w.heap.size w w' := by
  have hz := hr.len_eq
  have hs := hr.small
  have HR := hide hr
  have HRJ := hide hrj
  have hzj := hrj.len_eq
  clear hr hrj
  subst hz
  subst hzj
  rcases three (ppB fr pa ws) (decide (js.length ≤ 20) && jbAll pa js) (inB tk 0 5000) with ⟨q1, hv⟩ | ⟨q1, q2, hv⟩ | ⟨q1, q2, q3, hv⟩ | ⟨q1, q2, q3, hv⟩
  · have HN := hide (rjB_three fr pa ws js tk)
    rw [hv] at HN
    have HE := hide (rj_no (unhide HN))
    clear hv
    go_enter Try.func30, Try.ntmps30
    go_wp2_with fail
    obtain ⟨W, hW⟩ : ∃ W, W = (w.alloc (Obj.cells #[.int .i64 fr, .int .i64 pa, .slice da ws.length dc] 53)) := ⟨_, rfl⟩
    rw [← hW]
    have K0 : Hid (Blk W (w.heap.size) [.int .i64 fr, .int .i64 pa, .slice da ws.length dc]) := hide (by rw [hW]; exact Blk.new _ _)
    have B0 : Hid (Below w.heap.size w W) := hide (by rw [hW]; exact (by repeat (first | exact Below.refl _ _ | refine Below.alloc ?_ (by simp; try omega) _ | refine Below.setCell ?_ (by simp; try omega) _ | refine taDr ?_ _)))
    clear hW
    obtain ⟨ι, fW, _, hb, hall⟩ := belClass W
    have HB := hide hb
    have HA := hide hall
    have c00 : ∀ x, (fW x).cell? ⟨w.heap.size, 0, none⟩ = some (.int .i64 fr) := fun x => ((unhide K0).below (hb x)).c 0 (by simp)
    have c01 : ∀ x, (fW x).cell? ⟨w.heap.size, 1, none⟩ = some (.int .i64 pa) := fun x => ((unhide K0).below (hb x)).c 1 (by simp)
    have c02 : ∀ x, (fW x).cell? ⟨w.heap.size, 2, none⟩ = some (.slice da ws.length dc) := fun x => ((unhide K0).below (hb x)).c 2 (by simp)
    clear hb hall
    obtain ⟨x0, h0⟩ := (unhide HA) W (Below.refl _ _)
    rw [h0]
    clear h0
    go_wp2_with (first | (go_at_call 28; refine (belQ (unhide HB) (unhide HA) (implPlanOk_is _ _ _ _ _ ws _ ((unhide HR).below ((unhide B0).trans ((unhide HB _).mono (unhide B0).size))) (by exact q1))).mono ?_; rintro e _ ⟨rfl, y, rfl⟩))
    repeat (refine wp_region_bel (fun w' h => (unhide HA) w' ((unhide HB _).trans (h.mono (unhide HB _).size))) (by kernel_rfl) (by kernel_rfl) ?_; (repeat (go_big_quiet_step (first | (go_at_call 28; exact belQ (unhide HB) (unhide HA) (implPlanOk_is _ _ _ _ _ ws _ ((unhide HR).below ((unhide B0).trans ((unhide HB _).mono (unhide B0).size))) (by exact q1)))))); refine wpQuiet_nil ?_; rintro _ ⟨y, rfl⟩; (first | go_wp2_with (first | (go_at_call 28; refine (belQ (unhide HB) (unhide HA) (implPlanOk_is _ _ _ _ _ ws _ ((unhide HR).below ((unhide B0).trans ((unhide HB _).mono (unhide B0).size))) (by exact q1))).mono ?_; rintro e _ ⟨rfl, y, rfl⟩)) | go_wp2))
    go_ret3
    rw [(unhide HE).1, (unhide HE).2, unhide HN]
    refine ⟨some ⟨(fW y).heap.size, 0, none⟩, 0, rfl, ?_, ?_⟩
    · exact (ownI_none (w := fW y) (Nat.le_refl _)).mono ((unhide B0).trans ((unhide HB _).mono (unhide B0).size)).size
    · exact ((unhide B0).trans ((unhide HB _).mono (unhide B0).size)).alloc ((unhide B0).trans ((unhide HB _).mono (unhide B0).size)).size _
  · have HN := hide (rjB_three fr pa ws js tk)
    rw [hv] at HN
    have HE := hide (rj_no (unhide HN))
    clear hv
    have f2 := (ppB_facts q1).2.1
    go_enter Try.func30, Try.ntmps30
    go_wp2_with fail
    obtain ⟨W, hW⟩ : ∃ W, W = (w.alloc (Obj.cells #[.int .i64 fr, .int .i64 pa, .slice da ws.length dc] 53)) := ⟨_, rfl⟩
    rw [← hW]
    have K0 : Hid (Blk W (w.heap.size) [.int .i64 fr, .int .i64 pa, .slice da ws.length dc]) := hide (by rw [hW]; exact Blk.new _ _)
    have B0 : Hid (Below w.heap.size w W) := hide (by rw [hW]; exact (by repeat (first | exact Below.refl _ _ | refine Below.alloc ?_ (by simp; try omega) _ | refine Below.setCell ?_ (by simp; try omega) _ | refine taDr ?_ _)))
    clear hW
    obtain ⟨ι, fW, _, hb, hall⟩ := belClass W
    have HB := hide hb
    have HA := hide hall
    have c00 : ∀ x, (fW x).cell? ⟨w.heap.size, 0, none⟩ = some (.int .i64 fr) := fun x => ((unhide K0).below (hb x)).c 0 (by simp)
    have c01 : ∀ x, (fW x).cell? ⟨w.heap.size, 1, none⟩ = some (.int .i64 pa) := fun x => ((unhide K0).below (hb x)).c 1 (by simp)
    have c02 : ∀ x, (fW x).cell? ⟨w.heap.size, 2, none⟩ = some (.slice da ws.length dc) := fun x => ((unhide K0).below (hb x)).c 2 (by simp)
    clear hb hall
    obtain ⟨x0, h0⟩ := (unhide HA) W (Below.refl _ _)
    rw [h0]
    clear h0
    go_wp2_with (first | (go_at_call 28; refine (belQ (unhide HB) (unhide HA) (implPlanOk_is _ _ _ _ _ ws _ ((unhide HR).below ((unhide B0).trans ((unhide HB _).mono (unhide B0).size))) (by exact q1))).mono ?_; rintro e _ ⟨rfl, y, rfl⟩) | (go_at_call 60; refine (belQ (unhide HB) (unhide HA) (jobsOk_is _ _ _ _ _ _ _ _ js _ f2 ((unhide HRJ).below ((unhide B0).trans ((unhide HB _).mono (unhide B0).size))) (by exact q2))).mono ?_; rintro e _ ⟨rfl, y, rfl⟩))
    repeat (refine wp_region_bel (fun w' h => (unhide HA) w' ((unhide HB _).trans (h.mono (unhide HB _).size))) (by kernel_rfl) (by kernel_rfl) ?_; (repeat (go_big_quiet_step (first | (go_at_call 28; exact belQ (unhide HB) (unhide HA) (implPlanOk_is _ _ _ _ _ ws _ ((unhide HR).below ((unhide B0).trans ((unhide HB _).mono (unhide B0).size))) (by exact q1))) | (go_at_call 60; exact belQ (unhide HB) (unhide HA) (jobsOk_is _ _ _ _ _ _ _ _ js _ f2 ((unhide HRJ).below ((unhide B0).trans ((unhide HB _).mono (unhide B0).size))) (by exact q2)))))); refine wpQuiet_nil ?_; rintro _ ⟨y, rfl⟩; (first | go_wp2_with (first | (go_at_call 28; refine (belQ (unhide HB) (unhide HA) (implPlanOk_is _ _ _ _ _ ws _ ((unhide HR).below ((unhide B0).trans ((unhide HB _).mono (unhide B0).size))) (by exact q1))).mono ?_; rintro e _ ⟨rfl, y, rfl⟩) | (go_at_call 60; refine (belQ (unhide HB) (unhide HA) (jobsOk_is _ _ _ _ _ _ _ _ js _ f2 ((unhide HRJ).below ((unhide B0).trans ((unhide HB _).mono (unhide B0).size))) (by exact q2))).mono ?_; rintro e _ ⟨rfl, y, rfl⟩)) | go_wp2))
    go_ret3
    rw [(unhide HE).1, (unhide HE).2, unhide HN]
    refine ⟨some ⟨(fW y).heap.size, 0, none⟩, 0, rfl, ?_, ?_⟩
    · exact (ownI_none (w := fW y) (Nat.le_refl _)).mono ((unhide B0).trans ((unhide HB _).mono (unhide B0).size)).size
    · exact ((unhide B0).trans ((unhide HB _).mono (unhide B0).size)).alloc ((unhide B0).trans ((unhide HB _).mono (unhide B0).size)).size _
  · have HN := hide (rjB_three fr pa ws js tk)
    rw [hv] at HN
    have HE := hide (rj_no (unhide HN))
    clear hv
    have f2 := (ppB_facts q1).2.1
    go_enter Try.func30, Try.ntmps30
    go_wp2_with fail
    obtain ⟨W, hW⟩ : ∃ W, W = (w.alloc (Obj.cells #[.int .i64 fr, .int .i64 pa, .slice da ws.length dc] 53)) := ⟨_, rfl⟩
    rw [← hW]
    have K0 : Hid (Blk W (w.heap.size) [.int .i64 fr, .int .i64 pa, .slice da ws.length dc]) := hide (by rw [hW]; exact Blk.new _ _)
    have B0 : Hid (Below w.heap.size w W) := hide (by rw [hW]; exact (by repeat (first | exact Below.refl _ _ | refine Below.alloc ?_ (by simp; try omega) _ | refine Below.setCell ?_ (by simp; try omega) _ | refine taDr ?_ _)))
    clear hW
    obtain ⟨ι, fW, _, hb, hall⟩ := belClass W
    have HB := hide hb
    have HA := hide hall
    have c00 : ∀ x, (fW x).cell? ⟨w.heap.size, 0, none⟩ = some (.int .i64 fr) := fun x => ((unhide K0).below (hb x)).c 0 (by simp)
    have c01 : ∀ x, (fW x).cell? ⟨w.heap.size, 1, none⟩ = some (.int .i64 pa) := fun x => ((unhide K0).below (hb x)).c 1 (by simp)
    have c02 : ∀ x, (fW x).cell? ⟨w.heap.size, 2, none⟩ = some (.slice da ws.length dc) := fun x => ((unhide K0).below (hb x)).c 2 (by simp)
    clear hb hall
    obtain ⟨x0, h0⟩ := (unhide HA) W (Below.refl _ _)
    rw [h0]
    clear h0
    go_wp2_with (first | (go_at_call 28; refine (belQ (unhide HB) (unhide HA) (implPlanOk_is _ _ _ _ _ ws _ ((unhide HR).below ((unhide B0).trans ((unhide HB _).mono (unhide B0).size))) (by exact q1))).mono ?_; rintro e _ ⟨rfl, y, rfl⟩) | (go_at_call 60; refine (belQ (unhide HB) (unhide HA) (jobsOk_is _ _ _ _ _ _ _ _ js _ f2 ((unhide HRJ).below ((unhide B0).trans ((unhide HB _).mono (unhide B0).size))) (by exact q2))).mono ?_; rintro e _ ⟨rfl, y, rfl⟩) | (go_at_call 35; refine (belS (within_is _ _ _ _ (by exact q3))).mono ?_; rintro e _ ⟨rfl, y, rfl⟩))
    repeat (refine wp_region_bel (fun w' h => (unhide HA) w' ((unhide HB _).trans (h.mono (unhide HB _).size))) (by kernel_rfl) (by kernel_rfl) ?_; (repeat (go_big_quiet_step (first | (go_at_call 28; exact belQ (unhide HB) (unhide HA) (implPlanOk_is _ _ _ _ _ ws _ ((unhide HR).below ((unhide B0).trans ((unhide HB _).mono (unhide B0).size))) (by exact q1))) | (go_at_call 60; exact belQ (unhide HB) (unhide HA) (jobsOk_is _ _ _ _ _ _ _ _ js _ f2 ((unhide HRJ).below ((unhide B0).trans ((unhide HB _).mono (unhide B0).size))) (by exact q2))) | (go_at_call 35; exact belS (within_is _ _ _ _ (by exact q3)))))); refine wpQuiet_nil ?_; rintro _ ⟨y, rfl⟩; (first | go_wp2_with (first | (go_at_call 28; refine (belQ (unhide HB) (unhide HA) (implPlanOk_is _ _ _ _ _ ws _ ((unhide HR).below ((unhide B0).trans ((unhide HB _).mono (unhide B0).size))) (by exact q1))).mono ?_; rintro e _ ⟨rfl, y, rfl⟩) | (go_at_call 60; refine (belQ (unhide HB) (unhide HA) (jobsOk_is _ _ _ _ _ _ _ _ js _ f2 ((unhide HRJ).below ((unhide B0).trans ((unhide HB _).mono (unhide B0).size))) (by exact q2))).mono ?_; rintro e _ ⟨rfl, y, rfl⟩) | (go_at_call 35; refine (belS (within_is _ _ _ _ (by exact q3))).mono ?_; rintro e _ ⟨rfl, y, rfl⟩)) | go_wp2))
    go_ret3
    rw [(unhide HE).1, (unhide HE).2, unhide HN]
    refine ⟨some ⟨(fW y).heap.size, 0, none⟩, 0, rfl, ?_, ?_⟩
    · exact (ownI_none (w := fW y) (Nat.le_refl _)).mono ((unhide B0).trans ((unhide HB _).mono (unhide B0).size)).size
    · exact ((unhide B0).trans ((unhide HB _).mono (unhide B0).size)).alloc ((unhide B0).trans ((unhide HB _).mono (unhide B0).size)).size _
  · have HN := hide ((rjB_three fr pa ws js tk).trans hv)
    have HE := hide (rj_yes (unhide HN))
    clear hv
    have ff := rjB_facts (unhide HN)
    have f0 := ppB_facts q1
    have f2 := f0.2.1
    have l20 := ff.2.1
    have htk := ff.2.2.1
    obtain ⟨T, rfl⟩ : ∃ T : Nat, tk = (T : Int) := ⟨tk.toNat, by omega⟩
    have hT : T ≤ 5000 := by omega
    have HJ := hide ff.2.2.2
    have HPP := hide q1
    clear ff f0 htk
    go_enter Try.func30, Try.ntmps30
    go_wp2_with fail
    obtain ⟨W, hW⟩ : ∃ W, W = (w.alloc (Obj.cells #[.int .i64 fr, .int .i64 pa, .slice da ws.length dc] 53)) := ⟨_, rfl⟩
    rw [← hW]
    have K0 : Hid (Blk W (w.heap.size) [.int .i64 fr, .int .i64 pa, .slice da ws.length dc]) := hide (by rw [hW]; exact Blk.new _ _)
    have B0 : Hid (Below w.heap.size w W) := hide (by rw [hW]; exact (by repeat (first | exact Below.refl _ _ | refine Below.alloc ?_ (by simp; try omega) _ | refine Below.setCell ?_ (by simp; try omega) _ | refine taDr ?_ _)))
    clear hW
    obtain ⟨ι, fW, _, hb, hall⟩ := belClass W
    have HB := hide hb
    have HA := hide hall
    have c00 : ∀ x, (fW x).cell? ⟨w.heap.size, 0, none⟩ = some (.int .i64 fr) := fun x => ((unhide K0).below (hb x)).c 0 (by simp)
    have c01 : ∀ x, (fW x).cell? ⟨w.heap.size, 1, none⟩ = some (.int .i64 pa) := fun x => ((unhide K0).below (hb x)).c 1 (by simp)
    have c02 : ∀ x, (fW x).cell? ⟨w.heap.size, 2, none⟩ = some (.slice da ws.length dc) := fun x => ((unhide K0).below (hb x)).c 2 (by simp)
    clear hb hall
    obtain ⟨x0, h0⟩ := (unhide HA) W (Below.refl _ _)
    rw [h0]
    clear h0
    go_upto_region 4 with (first | first | (go_at_call 28; refine (belQ (unhide HB) (unhide HA) (implPlanOk_is _ _ _ _ _ ws _ ((unhide HR).below ((unhide B0).trans ((unhide HB _).mono (unhide B0).size))) (by exact q1))).mono ?_; rintro e _ ⟨rfl, y, rfl⟩) | (go_at_call 60; refine (belQ (unhide HB) (unhide HA) (jobsOk_is _ _ _ _ _ _ _ _ js _ f2 ((unhide HRJ).below ((unhide B0).trans ((unhide HB _).mono (unhide B0).size))) (by exact q2))).mono ?_; rintro e _ ⟨rfl, y, rfl⟩) | (go_at_call 35; refine (belS (within_is _ _ _ _ (by exact q3))).mono ?_; rintro e _ ⟨rfl, y, rfl⟩) | (go_at_call 61; refine (workOf_is _ _ _ js _ l20 ((unhide HRJ).below ((unhide B0).trans ((unhide HB _).mono (unhide B0).size)))).mono ?_; rintro e W2 ⟨g, cp, rfl, ho, b2⟩; have B2 : Hid (Below w.heap.size w W2) := hide (((unhide B0).trans ((unhide HB _).mono (unhide B0).size)).trans (b2.mono ((unhide B0).trans ((unhide HB _).mono (unhide B0).size)).size)); have K2 : Hid (Blk W2 w.heap.size [.int .i64 fr, .int .i64 pa, .slice da ws.length dc]) := hide (((unhide K0).below (unhide HB _)).below b2); have HG : Hid (w.heap.size < g) := hide (by have h1 := (ho.lies g rfl).1; have h2 := ((unhide K0).below (unhide HB y)).lt; omega); have HO := hide ho; clear b2 ho))
    clear c00 c01 c02 K0 B0 HA HB
    go_wp2_with fail
    go_loopw [10, 31] (fun s10 s31 wr => ∃ (t : Nat) (I : Int), t ≤ T ∧ (0 ≤ I ∧ I ≤ 5000) ∧ s10 = .int .i64 I ∧ s31 = .int .i64 (t : Int) ∧ Hid ((rjT fr pa ws js t).idl = I) ∧ Hid (OwnE 6 jwC wr (fW y).heap.size 121 (.slice (some ⟨g, 0, none⟩) js.length cp) (jwOf js (rjT fr pa ws js t).lt (rjT fr pa ws js t).lf (rjT fr pa ws js t).cm)) ∧ Hid (Blk wr w.heap.size [.int .i64 fr, .int .i64 pa, .slice da ws.length dc]) ∧ Hid (Below w.heap.size w wr)) (fun _ s31 _ => T - (intOf s31).toNat)
    case atStart => exact ⟨0, 0, Nat.zero_le _, by omega, rfl, rfl, hide rfl, HO, K2, B2⟩
    case round =>
      clear HO K2 B2
      obtain ⟨t, I, htT, hI, rfl, rfl, HI, HO, KP, BB⟩ := hrel
      have HIN := hide (rjT_in (fr := fr) (pa := pa) (ws := ws) (js := js) (fun k hk => (unhide HJ k hk).2.2) t)
      obtain ⟨S, hS⟩ : ∃ S, rjT fr pa ws js t = S := ⟨_, rfl⟩
      rw [hS] at HIN HO HI
      have HS := hide hS
      clear hS
      have HJB := hide (jwB (unhide HIN) (fun k hk => (unhide HJ k hk).2.1) (by omega))
      by_cases hlt : t < T
      · have t0 : (0 : Int) ≤ (t : Int) := by omega
        have t1 : (t : Int) < (T : Int) := by omega
        have hI2 : I ≤ (t : Int) := by rw [← unhide HI]; exact (unhide HIN).i1
        obtain ⟨A, hA⟩ : ∃ A, A = rjLt js t S.lt S.lf js.length := ⟨_, rfl⟩
        obtain ⟨B, hB⟩ : ∃ B, B = rjLf js t S.lf js.length := ⟨_, rfl⟩
        obtain ⟨C, hC⟩ : ∃ C, C = rjCm js t S.cm js.length := ⟨_, rfl⟩
        have hBl : inL B js.length 100000 := by rw [hB]; exact rjLf_in (unhide HIN).lf (fun k hk => (unhide HJ k hk).2.2) _ (Nat.le_refl _)
        have HBL := hide hBl
        have CM := hide (come_w (fW y).heap.size g js.length cp (jwOf js S.lt S.lf S.cm) (t : Int) wr (unhide HO) (jwOf_len _ _ _ _) l20 (by omega) (unhide HJB))
        have ecm := cmL_is (js := js) (lt := S.lt) (lf := S.lf) (cm := S.cm) (t : Int) (unhide HIN).lt.1 (unhide HIN).lf.1 (unhide HIN).cm.1 js.length (Nat.le_refl _)
        rw [ecm, ← hA, ← hB, ← hC] at CM
        obtain ⟨who, hwho⟩ : ∃ who, owR fr pa ws (t : Int) = who := ⟨_, rfl⟩
        have HWHO := hide hwho
        have HA1 := hide hA
        have HB1 := hide hB
        have HC1 := hide hC
        clear ecm hA hB hC hwho hBl
        go_upto_region 9 with (first | (go_at_call 62; refine (unhide CM).mono ?_; rintro e w9 ⟨rfl, o9, gr9⟩; have O9 := hide o9; have K9 := hide ((unhide KP).apart gr9 (by have := unhide HG; simp; omega)); have B9 := hide ((unhide BB).grown gr9 (unhide BB).size (fun q hq => by simp at hq; have := unhide HG; omega)); have p0 : w9.cell? ⟨w.heap.size, 0, none⟩ = some (.int .i64 fr) := (unhide K9).c 0 (by simp); have p1 : w9.cell? ⟨w.heap.size, 1, none⟩ = some (.int .i64 pa) := (unhide K9).c 1 (by simp); have p2 : w9.cell? ⟨w.heap.size, 2, none⟩ = some (.slice da ws.length dc) := (unhide K9).c 2 (by simp); clear o9 gr9) | (go_at_call 54; refine (ownerOf_is _ _ _ _ _ ws _ _ ((unhide HR).below (unhide B9)) (unhide HPP) (by omega) (unhide HWHO)).mono ?_; rintro e w10 ⟨rfl, b10⟩; have O10 := hide ((unhide O9).below b10); have K10 := hide ((unhide K9).below b10); have B10 := hide ((unhide B9).trans (b10.mono (unhide B9).size)); clear b10))
        clear p0 p1 p2
        have hn1 : rjT fr pa ws js (t + 1) = rjGo js (owR fr pa ws (t : Int)) (t : Int) (rjT fr pa ws js t) := rfl
        rw [unhide HWHO, unhide HS] at hn1
        by_cases qw : who = -1
        · subst qw
          have HGO := hide (hn1.trans (rjGo_no (fun k hk => (unhide HJ k hk).1.1)))
          rw [← unhide HA1, ← unhide HB1, ← unhide HC1] at HGO
          clear hn1
          go_wp2_with fail
          go_roundw
          case rel => exact ⟨t + 1, I, by omega, by omega, rfl, by go_num, hide (by rw [unhide HGO]; exact unhide HI), by rw [unhide HGO]; exact O10, K10, B10⟩
          case measure => simp [intOf]; omega
        · have qe : (who != -1) = true := by simpa using qw
          have hw0 : 0 ≤ who := by rw [← unhide HWHO]; exact ow_pos (unhide HPP) (by rw [unhide HWHO]; exact qw)
          obtain ⟨r, hr⟩ : ∃ r, nxN (jwOf js A B C) who js.length = r := ⟨_, rfl⟩
          have hrb := (nxN_is (js := js) (lt := A) (lf := B) (cm := C) who js.length (Nat.le_refl _)).symm.trans hr
          rw [unhide HB1, unhide HC1] at hrb
          have hrin := nxN_in (jwOf js A B C) who js.length
          rw [hr] at hrin
          have WK := hide (work_is (fW y).heap.size g js.length cp (jwOf js A B C) who w10 (unhide O10) (jwOf_len _ _ _ _) l20 (fun k hk => by rw [jwOf_at hk]; exact (unhide HBL).2 k hk) hr)
          clear hr
          by_cases qr : r = -1
          · subst qr
            have HGO := hide (hn1.trans (rjGo_idle hw0 hrb))
            rw [← unhide HA1, ← unhide HB1, ← unhide HC1] at HGO
            have e5 : decide (¬ (-1 : Int) = -1) = false := by simp
            have e6 : wkL (jwOf js A B C) (-1) = jwOf js A B C := by rw [wkL, if_pos rfl]
            rw [e5, e6] at WK
            clear hn1 hrb hrin e5 e6
            go_wp2_with (go_at_call 63; refine (unhide WK).mono ?_; rintro e w11 ⟨rfl, o11, gr11⟩; have O11 := hide o11; have K11 := hide ((unhide K10).apart gr11 (by have := unhide HG; simp; omega)); have B11 := hide ((unhide B10).grown gr11 (unhide B10).size (fun q hq => by simp at hq; have := unhide HG; omega)); clear o11 gr11)
            go_roundw
            case rel => exact ⟨t + 1, I + 1, by omega, by omega, rfl, by go_num, hide (by rw [unhide HGO]; show S.idl + 1 = _; rw [unhide HI]), by rw [unhide HGO]; exact O11, K11, B11⟩
            case measure => simp [intOf]; omega
          · obtain ⟨b, rfl⟩ : ∃ b : Nat, r = (b : Int) := ⟨r.toNat, by omega⟩
            have HGO := hide (hn1.trans (rjGo_work hrb))
            rw [← unhide HA1, ← unhide HB1, ← unhide HC1] at HGO
            have e5 : decide (¬ (b : Int) = -1) = true := decide_eq_true qr
            have e6 : wkL (jwOf js A B C) (b : Int) = jwOf js A (B.set b (nth B b - 1)) C := by rw [wkL, if_neg qr, Int.toNat_natCast]; exact wk_is (by omega) (unhide HBL).1
            rw [e5, e6] at WK
            clear hn1 hrb hrin e5 e6
            go_wp2_with (go_at_call 63; refine (unhide WK).mono ?_; rintro e w11 ⟨rfl, o11, gr11⟩; have O11 := hide o11; have K11 := hide ((unhide K10).apart gr11 (by have := unhide HG; simp; omega)); have B11 := hide ((unhide B10).grown gr11 (unhide B10).size (fun q hq => by simp at hq; have := unhide HG; omega)); clear o11 gr11)
            go_roundw
            case rel => exact ⟨t + 1, I, by omega, by omega, rfl, by go_num, hide (by rw [unhide HGO]; exact unhide HI), by rw [unhide HGO]; exact O11, K11, B11⟩
            case measure => simp [intOf]; omega
      · have hkl : t = T := by omega
        have t1 : ¬ (t : Int) < (T : Int) := by omega
        have LT := hide (lates_is (fW y).heap.size g js.length cp (jwOf js S.lt S.lf S.cm) wr (unhide HO) (jwOf_len _ _ _ _) l20 (fun k hk => (unhide HJB k hk).2))
        have elt := ltL_is (js := js) (lt := S.lt) (lf := S.lf) (cm := S.cm) (unhide HIN).lt.1
        rw [elt] at LT
        have HL2 : Hid (S.lt = rjL fr pa ws js (T : Int) ∧ I = rjI fr pa ws js (T : Int)) := hide (by
          rw [(unhide HE).1, (unhide HE).2, Int.toNat_natCast, ← hkl, unhide HS]
          exact ⟨rfl, (unhide HI).symm⟩)
        have HLL : Hid (js.length = (rjL fr pa ws js (T : Int)).length) := hide (by rw [← (unhide HL2).1]; exact (unhide HIN).lt.1.symm)
        clear hkl elt
        go_wp2_with (go_at_call 64; refine (unhide LT).mono ?_; rintro e w9 ⟨g9, c9, rfl, o9, b9⟩; have O9 := hide (o9.mono (unhide BB).size); have B9 := hide ((unhide BB).trans (b9.mono (unhide BB).size)); clear o9 b9)
        go_ret3
        refine ⟨some ⟨g9, 0, none⟩, c9, ret_rj (by rw [← unhide HLL]; rfl) (unhide HL2).2 (unhide HN).symm, ?_, unhide B9⟩
        rw [← unhide HLL, ← (unhide HL2).1]
        exact unhide O9

end Go.Proofs.Ytndhiecakojjgaf

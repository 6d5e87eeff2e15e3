/-
  What GainAt answers in the model and in the program: the plain gain at every gain and speed (in the program: where the lists have no less room than length); nothing that was there is written.
-/
import Derived.Test.YtbaocifpifbldadGaOk
import Derived.Test.YtbaocifpifbldadLow
import Derived.Test.YtbaocifpifbldadMinMax
namespace Go.Proofs.Ytbaocifpifbldad
open Go.RowKit

theorem quietDr {P : Program} {f : FuncId} {args : Array Value} {X : World} {n : Nat} {v : Value} (h : Calls P f args (X.drewN n) fun e w' => e = .returned v ∧ ∃ m, w' = (X.drewN n).drewN m) : Calls P f args (X.drewN n) fun e w'' => e = .returned v ∧ ∃ m, w'' = X.drewN m :=
  h.mono fun _ _ ⟨he, m, hm⟩ => ⟨he, n + m, by rw [hm, World.drewN_drewN]⟩
theorem gaAt_no {xs ys : List Int} (x : Int) (h : gaB xs ys = false) : gaAt xs ys x = 0 := by simp [gaAt, h]
theorem gaAt_yes {xs ys : List Int} (x : Int) (h : gaB xs ys = true) : gaAt xs ys x = gaNum xs ys (gaX xs x) / gaDen xs (gaX xs x) := by simp [gaAt, h]
set_option maxHeartbeats 1000000 in
theorem implGainAt_no (a1 a2 : Option Addr) (l1 c1 l2 c2 : Nat) (xs ys : List Int) (x : Int) (w : World) (hr : GaIn w a1 a2 l1 l2 xs ys) (hc : gaB xs ys = false) :
    Calls Try.prog 22 #[.agg #[.slice a1 l1 c1, .slice a2 l2 c2], .int .i64 x] w fun e w' => e = .returned (.int .i64 0) ∧ Below w.heap.size w w' := by
  have B0 := hide (bel1 (w := w) (.cells #[.slice a1 l1 c1, .slice a2 l2 c2] 46))
  have R := hide (hr.below (unhide B0))
  clear hr
  go_enter Try.func22, Try.ntmps22
  go_wp2_with fail
  refine (implGainOk_is _ _ _ _ _ _ xs ys _ (unhide R) hc).mono ?_
  rintro e w1 ⟨rfl, b1⟩
  have B1 := hide ((unhide B0).trans (b1.mono (unhide B0).size))
  clear b1
  go_wp2_with fail
  go_ret
  exact ⟨rfl, unhide B1⟩

set_option maxHeartbeats 4000000 in
theorem implGainAt_yes (a1 a2 : Option Addr) (l1 c1 l2 c2 : Nat) (xs ys : List Int) (x : Int) (w : World) (hr : GaIn w a1 a2 l1 l2 xs ys) (hcap1 : l1 ≤ c1) (hcap2 : l2 ≤ c2) (hc : gaB xs ys = true) :
    Calls Try.prog 22 #[.agg #[.slice a1 l1 c1, .slice a2 l2 c2], .int .i64 x] w fun e w' => e = .returned (.int .i64 (gaNum xs ys (gaX xs x) / gaDen xs (gaX xs x))) ∧ Below w.heap.size w w' := by
  have F := gaFit hc
  have HF := hide F
  have hn := F.n0
  have hn8 := F.n1
  have hlen := F.len
  have hn2 : 2 ≤ ys.length := by omega
  have hn3 : ys.length ≤ 8 := by omega
  have hle1 : xs.length ≤ ys.length := by omega
  have hle2 : ys.length ≤ xs.length := by omega
  have B0 := hide (bel1 (w := w) (.cells #[.slice a1 l1 c1, .slice a2 l2 c2] 46))
  have KP := hide (Blk.new (w := w) [.slice a1 l1 c1, .slice a2 l2 c2] 46)
  have R := hide (hr.below (unhide B0))
  have hl1 := hr.r1.len_eq
  have hl2 := hr.r2.len_eq
  subst hl1
  subst hl2
  rcases hr.r1.open_ with ⟨h0, _⟩ | ⟨bb1, off1, rfl, _, hcxw⟩
  · omega
  rcases hr.r2.open_ with ⟨h0, _⟩ | ⟨bb, off, rfl, _, hcyw⟩
  · omega
  clear hlen F
  have HCX := hide hcxw
  have HCY := hide hcyw
  clear hr hcxw hcyw
  go_enter Try.func22, Try.ntmps22
  go_wp2_with fail
  refine (implGainOk_is _ _ _ _ _ _ xs ys _ (unhide R) hc).mono ?_
  rintro e w1 ⟨rfl, b1⟩
  have B1 := hide ((unhide B0).trans (b1.mono (unhide B0).size))
  have KP := hide ((unhide KP).below b1)
  clear b1 R
  have x0 : w1.cell? ⟨w.heap.size, 0, none⟩ = some (.slice (some ⟨bb1, off1, none⟩) xs.length c1) := (unhide KP).c 0 (by simp)
  have x1 : w1.cell? ⟨w.heap.size, 1, none⟩ = some (.slice (some ⟨bb, off, none⟩) ys.length c2) := (unhide KP).c 1 (by simp)
  have HX : Hid (∀ i, i < xs.length → w1.cell? ⟨bb1, off1 + i, none⟩ = some (.int .i64 (nth xs i))) := hide fun i hi => ((unhide B1).cell (block_lt_of_cell ((unhide HCX) i hi))).trans ((unhide HCX) i hi)
  have HYc : Hid (∀ i, i < ys.length → w1.cell? ⟨bb, off + i, none⟩ = some (.int .i64 (nth ys i))) := hide fun i hi => ((unhide B1).cell (block_lt_of_cell ((unhide HCY) i hi))).trans ((unhide HCY) i hi)
  have g0 := (unhide HX) 0 (by omega)
  have g1 := (unhide HX) (xs.length - 1) (by omega)
  simp only [Nat.add_zero] at g0
  have hi0 : (0 : Int) < (xs.length : Int) := by omega
  have hwr : IntKind.i64.wrap ((xs.length : Int) - 1) = (xs.length : Int) - 1 := by rw [IntKind.wrap_i64]; omega
  have hj0 : (0 : Int) ≤ (xs.length : Int) - 1 := by omega
  have hj1 : (xs.length : Int) - 1 < (xs.length : Int) := by omega
  have hjt : ((xs.length : Int) - 1).toNat = xs.length - 1 := by omega
  have ha1 : (1 : Int) ≤ (xs.length : Int) := by omega
  have ha2 : 1 ≤ xs.length := by omega
  have ha3 : 0 < xs.length := by omega
  clear HCX HCY
  go_wp2_with fail
  go_region
  have HZ : Hid ((if nth xs (xs.length - 1) < (if x < nth xs 0 then nth xs 0 else x) then nth xs (xs.length - 1) else (if x < nth xs 0 then nth xs 0 else x)) = gaX xs x) := hide (by have := gaX_impl (x := x) (unhide HF); rw [← this]; repeat' split <;> omega)
  rw [unhide HZ]
  clear HZ
  generalize (if x < nth xs 0 then nth xs 0 else x) = mx
  clear g0 g1 hwr hj0 hj1 hjt
  have hin := gaX_inB x (unhide HF)
  have bz := gaX_bd x (unhide HF)
  have nb := gaNum_bd x (unhide HF)
  have NB : Hid (gaNum xs ys (gaX xs x) = nth ys (lowAt xs (gaX xs x)) * (nth xs (lowAt xs (gaX xs x) + 1) - nth xs (lowAt xs (gaX xs x))) + (nth ys (lowAt xs (gaX xs x) + 1) - nth ys (lowAt xs (gaX xs x))) * (gaX xs x - nth xs (lowAt xs (gaX xs x))) ∧ gaDen xs (gaX xs x) = nth xs (lowAt xs (gaX xs x) + 1) - nth xs (lowAt xs (gaX xs x))) := hide ⟨rfl, rfl⟩
  obtain ⟨N, eN⟩ : ∃ N, gaNum xs ys (gaX xs x) = N := ⟨_, rfl⟩
  obtain ⟨Dn, eD⟩ : ∃ N, gaDen xs (gaX xs x) = N := ⟨_, rfl⟩
  have EQ : Hid (gaNum xs ys (gaX xs x) / gaDen xs (gaX xs x) = N / Dn) := hide (by rw [eN, eD])
  rw [eN, eD] at nb NB
  clear eN eD
  obtain ⟨z, eZ⟩ : ∃ z, gaX xs x = z := ⟨_, rfl⟩
  rw [eZ] at NB bz hin ⊢
  have EZ := hide eZ
  clear eZ
  go_wp2_with fail
  have BU : Below w1.heap.size w1 w1.drew := bel0d' 1
  generalize w1.drew = U at *
  refine (lowerPlace_yes _ _ _ xs _ _ (by omega) (by omega) (fun i hi => (BU.cell (block_lt_of_cell ((unhide HX) i hi))).trans ((unhide HX) i hi)) hin).mono ?_
  rintro e V ⟨rfl, n, hw⟩
  clear hin
  have BV : Below w1.heap.size w1 V := BU.trans (by rw [hw]; exact bel0d' _)
  clear hw BU
  have hk2 := lowAt_lt (zs := xs) (x := z) (by omega)
  generalize lowAt xs z = k at *
  have bx0 := (unhide HF).xb k (by omega)
  have bx1 := (unhide HF).xb (k + 1) (by omega)
  have by0 := (unhide HF).yb k (by omega)
  have by1 := (unhide HF).yb (k + 1) (by omega)
  have hr := (unhide HF).rise k (by omega)
  have hpr := between_bd (B := 1000) (C := 1000) (show -1000 ≤ nth xs k ∧ nth xs k ≤ 1000 by omega) (show -1000 ≤ nth xs (k + 1) ∧ nth xs (k + 1) ≤ 1000 by omega) (show -1000 ≤ nth ys k ∧ nth ys k ≤ 1000 by omega) (show -1000 ≤ nth ys (k + 1) ∧ nth ys (k + 1) ≤ 1000 by omega) (show -1000 ≤ z ∧ z ≤ 1000 by omega)
  have hpr1 : -2000000 ≤ nth ys k * (nth xs (k + 1) - nth xs k) ∧ nth ys k * (nth xs (k + 1) - nth xs k) ≤ 2000000 := by omega
  have hpr2 : -4000000 ≤ (nth ys (k + 1) - nth ys k) * (z - nth xs k) ∧ (nth ys (k + 1) - nth ys k) * (z - nth xs k) ≤ 4000000 := by omega
  clear hpr
  have B2 := hide ((unhide B1).trans (BV.mono (unhide B1).size))
  have x0 : V.cell? ⟨w.heap.size, 0, none⟩ = some (.slice (some ⟨bb1, off1, none⟩) xs.length c1) := ((unhide KP).below BV).c 0 (by simp)
  have x1 : V.cell? ⟨w.heap.size, 1, none⟩ = some (.slice (some ⟨bb, off, none⟩) ys.length c2) := ((unhide KP).below BV).c 1 (by simp)
  have cx0 := (BV.cell (block_lt_of_cell ((unhide HX) k (by omega)))).trans ((unhide HX) k (by omega))
  have cx1 := (BV.cell (block_lt_of_cell ((unhide HX) (k + 1) (by omega)))).trans ((unhide HX) (k + 1) (by omega))
  have cy0 := (BV.cell (block_lt_of_cell ((unhide HYc) k (by omega)))).trans ((unhide HYc) k (by omega))
  have cy1 := (BV.cell (block_lt_of_cell ((unhide HYc) (k + 1) (by omega)))).trans ((unhide HYc) (k + 1) (by omega))
  rw [← Nat.add_assoc] at cx1 cy1
  clear HX HYc KP B0 B1 BV
  go_wp2_with fail
  refine (neighbours_any _ _ _ _ _ _ (by omega) (by omega) (by omega)).mono ?_
  rintro e w' ⟨rfl, hw⟩
  subst w'
  go_wp2_with fail
  have hN := (unhide NB).1
  have hD := (unhide NB).2
  have hdz : ¬ nth xs (k + 1) - nth xs k = 0 := by omega
  go_quiet (first
    | (go_at_call 53; first | exact Calls.quiet_of_same (neighbours_any _ _ _ _ _ _ (by omega) (by omega) (by omega)) | exact quietSame (neighbours_any _ _ _ _ _ _ (by omega) (by omega) (by omega)))
    | (go_at_call 54; exact quietDr (scaled_any _ _ _ _ (nth xs k) (nth xs (k + 1)) (nth ys k) (nth ys (k + 1)) z 1000 1000 _ (by omega) (by omega) (by omega) (by omega) (by omega) (by omega) (by omega) (by omega) (by omega) (by omega) (by omega) (by simpa using cx0) (by simpa using cx1) (by simpa using cy0) (by simpa using cy1))))
  go_wp2_with fail
  go_ret
  exact ⟨ret_int (by rw [unhide EQ, hN, hD]), (unhide B2).trans (bel0d' _)⟩

theorem implGainAt_any (a1 a2 : Option Addr) (l1 c1 l2 c2 : Nat) (xs ys : List Int) (x : Int) (w : World) (hr : GaIn w a1 a2 l1 l2 xs ys) (hcap1 : l1 ≤ c1) (hcap2 : l2 ≤ c2) :
    Calls Try.prog 22 #[.agg #[.slice a1 l1 c1, .slice a2 l2 c2], .int .i64 x] w fun e w' => e = .returned (.int .i64 (gaAt xs ys x)) ∧ Below w.heap.size w w' := by
  cases hc : gaB xs ys with
  | false => rw [gaAt_no x hc]; exact implGainAt_no a1 a2 l1 c1 l2 c2 xs ys x w hr hc
  | true => rw [gaAt_yes x hc]; exact implGainAt_yes a1 a2 l1 c1 l2 c2 xs ys x w hr hcap1 hcap2 hc

end Go.Proofs.Ytbaocifpifbldad

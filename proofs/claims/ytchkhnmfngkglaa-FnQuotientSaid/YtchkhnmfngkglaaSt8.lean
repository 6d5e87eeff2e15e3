/-
  A turn of a quarter, eight times: what the program's Steps4 tells of it. At that one argument.
-/
import Derived.Test.YtchkhnmfngkglaaCxImpl
import Derived.Test.YtchkhnmfngkglaaSmall
import Derived.Test.YtchkhnmfngkglaaFlNum
import Derived.Test.YtchkhnmfngkglaaAppEl
import Derived.Test.YtchkhnmfngkglaaBlk
namespace Go.Proofs.Ytchkhnmfngkglaa
open Go Go.RowKit
attribute [local go_sem] run_store_float run_store_complex

/-- The power i^k, part by part, in the great size and in the small one. -/
def pwR (k : Nat) : Nat := if k % 4 = 0 then 4607182418800017408 else if k % 4 = 1 then 0 else if k % 4 = 2 then 13830554455654793216 else 9223372036854775808
def pwI (k : Nat) : Nat := if k = 0 then 0 else if k % 4 = 0 then 9223372036854775808 else if k % 4 = 1 then 4607182418800017408 else if k % 4 = 2 then 0 else 13830554455654793216
def shR (k : Nat) : Nat := if k % 4 = 0 then 1065353216 else if k % 4 = 1 then 0 else if k % 4 = 2 then 3212836864 else 2147483648
def shI (k : Nat) : Nat := if k = 0 then 0 else if k % 4 = 0 then 2147483648 else if k % 4 = 1 then 1065353216 else if k % 4 = 2 then 0 else 3212836864
theorem pw_step : ∀ k : Fin 9, tRe (pwR k.val) (pwI k.val) 0 4607182418800017408 = pwR (k.val + 1) ∧ tIm (pwR k.val) (pwI k.val) 0 4607182418800017408 = pwI (k.val + 1) ∧ nanB .f64 (pwR (k.val + 1)) = false ∧ nanB .f64 (pwI (k.val + 1)) = false := by decide +kernel
theorem sh_same : ∀ k : Fin 9, (FloatKind.f32.format.order (shR k.val) (shR (k.val % 4)) != some .eq) = false ∧ (FloatKind.f32.format.order (shI k.val) (shI (k.val % 4)) != some .eq) = false := by decide +kernel
structure Sh where
  r : Nat
  i : Nat
instance : Inhabited Sh := ⟨⟨0, 0⟩⟩
def shC (s : Sh) : Nat → Value
  | 0 => .float .f32 s.r
  | _ => .float .f32 s.i
def shL (k : Nat) : List Sh := (List.range k).map fun j => ⟨shR j, shI j⟩
theorem shL_len (k : Nat) : (shL k).length = k := by simp [shL]
theorem shL_succ (k : Nat) : shL k ++ [⟨shR k, shI k⟩] = shL (k + 1) := by simp [shL, List.range_succ]
theorem shL_at {k j : Nat} (h : j < k) : elAt (shL k) j = ⟨shR j, shI j⟩ := by simp [elAt, shL, h]
theorem alike_word {x y : Nat} (h : Alike .f64 x y) (hn : nanB .f64 y = false) : x = y := by
  rcases h with h | ⟨_, b⟩
  · exact h
  · rw [b] at hn; cases hn
theorem at_convR {P : Program} {w : World} {ops : Array Oper} {rest : List Oper} {o : Option Tmp} {s d ty : TypeId} {l : Operand} {pos : String} {af : Array Edge} {a : Act} {Q : Exit → Act → World → Prop}
    (v v' : Value) (hl : a.eval l = v) (hrun : (convert s d v).run P w = .ok v' w) (hK : wpList P ops Q rest (a.put o v') w) :
    wpList P ops Q (⟨o, .convert s d l, ty, pos, af, none⟩ :: rest) a w := by
  refine wpList_plain rfl fun K hK' => ?_
  unfold Oper.wp
  simp [execOp, hl, hrun, Result.andThen]
  exact hK' _ _ hK
theorem infoSh : (Try.prog.info? 26).map (fun i => (i.zero, i.size, i.bytes)) = some (some (.agg #[.float .f32 0, .float .f32 0]), 2, 8) := by kernel_rfl
theorem conv_pw (W : World) : ∀ k, k < 10 → (convert 57 56 (.complex .f64 (pwR k) (pwI k))).run Try.prog W = .ok (.complex .f32 (shR k) (shI k)) W := by
  intro k hk
  rcases (show k = 0 ∨ k = 1 ∨ k = 2 ∨ k = 3 ∨ k = 4 ∨ k = 5 ∨ k = 6 ∨ k = 7 ∨ k = 8 ∨ k = 9 by omega) with rfl | rfl | rfl | rfl | rfl | rfl | rfl | rfl | rfl | rfl <;> kernel_rfl
set_option maxHeartbeats 1000000 in
theorem sharpOf_any (a b : Nat) (w : World) :
    Calls Try.prog 25 #[.complex .f32 a b] w fun e w' => e = .returned (.agg #[.float .f32 a, .float .f32 b]) ∧ Below w.heap.size w w' := by
  go_enter Try.func25, Try.ntmps25
  go_wp2
  refine bodyPost_ret (v := .agg #[.float .f32 a, .float .f32 b]) (by simp [results, Try.results25, go_sem]) rfl ⟨rfl, ?_⟩
  repeat (first | exact bel1 _ | refine Below.setCell ?_ (by simp; try omega) _)

set_option maxHeartbeats 4000000 in
theorem implSteps4_turn (w : World) :
    Calls Try.prog 19 #[.agg #[.float .f64 0, .float .f64 4607182418800017408], .int .i64 8] w fun e w' => ∃ a c, e = .returned (.tuple #[.slice a 9 c, .bool true]) ∧ OwnE 2 shC w' w.heap.size 26 (.slice a 9 c) (shL 9) ∧ Below w.heap.size w w' := by
  obtain ⟨V, hV⟩ : ∃ V, V = (w.alloc (Obj.cells #[.float .f64 0, .float .f64 4607182418800017408] 31)).alloc (Obj.cells #[] 26) := ⟨_, rfl⟩
  have bV : Below w.heap.size w V := by rw [hV]; exact bel2 _ _
  have O0 : Hid (OwnE 2 shC V w.heap.size 26 (.slice (some ⟨w.heap.size + 1, 0, none⟩) 0 0) (shL 0)) := hide (by
    rw [hV]
    have h := ownE_none (K := 2) (cells := shC) (w := w) (w1 := w.alloc (Obj.cells #[.float .f64 0, .float .f64 4607182418800017408] 31)) (T := 26) (by simp)
    simpa [shL] using h)
  have KV : Hid (Blk V w.heap.size [.float .f64 0, .float .f64 4607182418800017408]) := hide (by rw [hV]; exact (Blk.new (w := w) [.float .f64 0, .float .f64 4607182418800017408] 31).alloc _)
  have BV := hide bV
  have HV := hide hV
  clear bV hV
  go_enter Try.func19, Try.ntmps19
  go_wp2_with fail
  rw [← unhide HV]
  clear HV
  refine (within_is (c := true) 8 0 200 _ (by decide)).mono ?_
  rintro e w' ⟨rfl, hw⟩
  subst w'
  have z0 : V.cell? ⟨w.heap.size, 0, none⟩ = some (.float .f64 0) := (unhide KV).c 0 (by simp)
  have z1 : V.cell? ⟨w.heap.size, 1, none⟩ = some (.float .f64 4607182418800017408) := (unhide KV).c 1 (by simp)
  go_wp2_with fail
  refine (complexOf_any _ _ _).mono ?_
  rintro e w1 ⟨rfl, b1⟩
  have O1 := hide ((unhide O0).below b1)
  have B1 := hide ((unhide BV).trans (b1.mono (unhide BV).size))
  clear b1 z0 z1 O0 KV
  go_wp2_with fail
  go_loopw [6, 7, 17] (fun o p i wr => ∃ (k : Nat) (a : Option Addr) (c : Nat), o = .slice a k c ∧ p = .complex .f64 (pwR k) (pwI k) ∧ i = .int .i64 (k : Int) ∧ k ≤ 8 ∧ Hid (OwnE 2 shC wr w.heap.size 26 (.slice a k c) (shL k)) ∧ Hid (Below w.heap.size w wr)) (fun _ _ i _ => 8 - (intOf i).toNat)
  case atStart => exact ⟨0, _, _, rfl, rfl, rfl, by omega, O1, B1⟩
  case round =>
    clear O1 B1
    obtain ⟨k, a, c, rfl, rfl, rfl, hk, OO, BB⟩ := hrel
    obtain ⟨PR, hPR⟩ : ∃ P, pwR k = P := ⟨_, rfl⟩
    obtain ⟨PI, hPI⟩ : ∃ P, pwI k = P := ⟨_, rfl⟩
    obtain ⟨SR, hSR⟩ : ∃ P, shR k = P := ⟨_, rfl⟩
    obtain ⟨SI, hSI⟩ : ∃ P, shI k = P := ⟨_, rfl⟩
    have CV : Hid (∀ W, (convert 57 56 (.complex .f64 PR PI)).run Try.prog W = .ok (.complex .f32 SR SI) W) := hide (fun W => by rw [← hPR, ← hPI, ← hSR, ← hSI]; exact conv_pw W k (by omega))
    have ST := hide (pw_step ⟨k, by omega⟩)
    have hsl : Hid ((shL k).length = k) := hide (shL_len k)
    have HSS : Hid (shL k ++ [⟨SR, SI⟩] = shL (k + 1)) := hide (by rw [← hSR, ← hSI]; exact shL_succ k)
    have HP := hide (show pwR k = PR ∧ pwI k = PI from ⟨hPR, hPI⟩)
    rw [hPR, hPI]
    clear hPR hPI hSR hSI
    have sW : w.heap.size ≤ wr.heap.size := (unhide BB).size
    by_cases hlt : k < 8
    · have hlt2 : (k : Int) < 8 := by omega
      go_wp2_with (with_reducible show wpList _ _ _ (⟨_, .convert _ _ _, _, _, _, none⟩ :: _) _ _; refine at_convR (.complex .f64 PR PI) (.complex .f32 SR SI) rfl (unhide CV _) ?_)
      refine (sharpOf_any _ _ _).mono ?_
      rintro e w2 ⟨rfl, b2⟩
      have O2 := hide ((unhide OO).below b2)
      have B2 := hide ((unhide BB).trans (b2.mono sW))
      have s2 : w.heap.size ≤ w2.heap.size := (unhide B2).size
      clear b2
      go_wp2_with (at_builtin; refine wpList_app_elG rfl (.tmp 19) (.tmp 23) 47 26 rfl Try.underlying47 infoSh rfl (by decide) (by decide) (⟨SR, SI⟩ : Sh) [.float .f32 SR, .float .f32 SI] rfl (by intro q hq; rcases (show q = 0 ∨ q = 1 by omega) with rfl | rfl <;> rfl) (by intro u hu; simp at hu; rcases hu with rfl | rfl <;> rfl) (unhide O2) (unhide hsl) rfl rfl rfl s2 (by omega) ?_; intro g3 c3 w3 o3 gr3 at3; have O3 := hide o3; have B3 : Hid (Below w.heap.size w w3) := hide ((unhide B2).grown gr3 s2 (fun q hq => ((unhide O2).lies q hq).1)); clear o3 gr3 at3)
      refine (product_any _ _ _ _ _).mono ?_
      rintro e w4 ⟨x, y, rfl, hx, hy, n4, hn4⟩
      have hs := unhide ST
      rw [(unhide HP).1, (unhide HP).2] at hs
      have ex : x = pwR (k + 1) := alike_word (by rw [← hs.1]; exact hx) hs.2.2.1
      have ey : y = pwI (k + 1) := alike_word (by rw [← hs.2.1]; exact hy) hs.2.2.2
      rw [ex, ey]
      have O4 : Hid (OwnE 2 shC w4 w.heap.size 26 (.slice (some ⟨g3, 0, none⟩) (k + 1) c3) (shL (k + 1))) := hide (by rw [← unhide HSS, hn4]; exact (unhide O3).drewN n4)
      have B4 : Hid (Below w.heap.size w w4) := hide (by rw [hn4]; exact (unhide B3).trans (bel0d' _))
      clear hs ex ey hx hy hn4
      go_wp2_with fail
      go_roundw
      case rel => exact ⟨k + 1, _, _, rfl, rfl, by go_num, by omega, O4, B4⟩
      case measure => simp [intOf]; omega
    · obtain rfl : k = 8 := by omega
      have hlt2 : ¬ (8 : Int) < 8 := by omega
      go_wp2_with (with_reducible show wpList _ _ _ (⟨_, .convert _ _ _, _, _, _, none⟩ :: _) _ _; refine at_convR (.complex .f64 PR PI) (.complex .f32 SR SI) rfl (unhide CV _) ?_)
      refine (sharpOf_any _ _ _).mono ?_
      rintro e w2 ⟨rfl, b2⟩
      have O2 := hide ((unhide OO).below b2)
      have B2 := hide ((unhide BB).trans (b2.mono sW))
      have s2 : w.heap.size ≤ w2.heap.size := (unhide B2).size
      clear b2
      go_wp2_with (at_builtin; refine wpList_app_elG rfl (.tmp 29) (.tmp 33) 47 26 rfl Try.underlying47 infoSh rfl (by decide) (by decide) (⟨SR, SI⟩ : Sh) [.float .f32 SR, .float .f32 SI] rfl (by intro q hq; rcases (show q = 0 ∨ q = 1 by omega) with rfl | rfl <;> rfl) (by intro u hu; simp at hu; rcases hu with rfl | rfl <;> rfl) (unhide O2) (unhide hsl) rfl rfl rfl s2 (by omega) ?_; intro g3 c3 w3 o3 gr3 at3; have O3 := hide o3; have B3 : Hid (Below w.heap.size w w3) := hide ((unhide B2).grown gr3 s2 (fun q hq => ((unhide O2).lies q hq).1)); clear o3 gr3 at3)
      go_ret2
      exact ⟨_, _, rfl, by rw [← unhide HSS]; exact unhide O3, unhide B3⟩

end Go.Proofs.Ytchkhnmfngkglaa

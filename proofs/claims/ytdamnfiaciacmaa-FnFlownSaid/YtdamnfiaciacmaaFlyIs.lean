/-
  What Fly answers in the specification and in the program: the plain list and flag; the list owns its memory. No condition; nothing that was there is written.
-/
import Derived.Test.YtdamnfiaciacmaaRowFl
import Derived.Test.YtdamnfiaciacmaaRowMo
import Derived.Test.YtdamnfiaciacmaaFlyPure
import Derived.Test.YtdamnfiaciacmaaStep
import Derived.Test.YtdamnfiaciacmaaCxHeld
import Derived.Deep.AppendLies
namespace Go.Proofs.Ytdamnfiaciacmaa
open Go.RowKit
attribute [local go_sem] run_store_float

theorem grown_cell {w w' : World} {row : Option Nat} (k : w.grownBy w' row) {b : Nat} (o : Nat) (hb : b < w.heap.size) (hne : some b ≠ row) : w'.cell? ⟨b, o, none⟩ = w.cell? ⟨b, o, none⟩ := World.cell?_of_block (a := ⟨b, o, none⟩) (k.block b hb hne)
theorem grown_frozen {w w' : World} {row : Option Nat} (k : w.grownBy w' row) {b : Nat} (o : Nat) (hb : b < w.heap.size) (hne : some b ≠ row) : w'.frozen? ⟨b, o, none⟩ = w.frozen? ⟨b, o, none⟩ := by
  unfold World.frozen?
  rw [show w'.heap[(⟨b, o, none⟩ : Addr).block]? = w.heap[(⟨b, o, none⟩ : Addr).block]? from k.block b hb hne]
theorem ownsRow_len2 {w : World} {base : Nat} {e : TypeId} {size : Nat} {v : Value} {n : Nat} {xs : List Value} (h : w.ownsRow base e size v n xs) : xs.length = n * size := h.1

/-- The motion in block M, the forces in the next. -/
structure FlyIn (W : World) (M x0 x1 x2 x3 f0 f1 f2 f3 f4 : Nat) : Prop where
  m0 : W.cell? ⟨M, 0, none⟩ = some (.float .f64 x0)
  m1 : W.cell? ⟨M, 1, none⟩ = some (.float .f64 x1)
  m2 : W.cell? ⟨M, 2, none⟩ = some (.float .f64 x2)
  m3 : W.cell? ⟨M, 3, none⟩ = some (.float .f64 x3)
  z0 : W.frozen? ⟨M, 0, none⟩ = false
  z1 : W.frozen? ⟨M, 1, none⟩ = false
  z2 : W.frozen? ⟨M, 2, none⟩ = false
  z3 : W.frozen? ⟨M, 3, none⟩ = false
  g0 : W.cell? ⟨M + 1, 0, none⟩ = some (.float .f64 f0)
  g1 : W.cell? ⟨M + 1, 1, none⟩ = some (.float .f64 f1)
  g2 : W.cell? ⟨M + 1, 2, none⟩ = some (.float .f64 f2)
  g3 : W.cell? ⟨M + 1, 3, none⟩ = some (.float .f64 f3)
  g4 : W.cell? ⟨M + 1, 4, none⟩ = some (.float .f64 f4)
theorem FlyIn.call {W w3 : World} {M x0 x1 x2 x3 f0 f1 f2 f3 f4 : Nat} (h : FlyIn W M x0 x1 x2 x3 f0 f1 f2 f3 f4) (b3 : Below W.heap.size W w3) : FlyIn w3 M x0 x1 x2 x3 f0 f1 f2 f3 f4 := by
  have l := block_lt_of_cell h.m0
  have l1 := block_lt_of_cell h.g0
  exact ⟨(b3.cell (p := ⟨M, 0, none⟩) l).trans h.m0, (b3.cell (p := ⟨M, 1, none⟩) l).trans h.m1, (b3.cell (p := ⟨M, 2, none⟩) l).trans h.m2, (b3.cell (p := ⟨M, 3, none⟩) l).trans h.m3, (b3.frozen (p := ⟨M, 0, none⟩) l).trans h.z0, (b3.frozen (p := ⟨M, 1, none⟩) l).trans h.z1, (b3.frozen (p := ⟨M, 2, none⟩) l).trans h.z2, (b3.frozen (p := ⟨M, 3, none⟩) l).trans h.z3, (b3.cell (p := ⟨M + 1, 0, none⟩) l1).trans h.g0, (b3.cell (p := ⟨M + 1, 1, none⟩) l1).trans h.g1, (b3.cell (p := ⟨M + 1, 2, none⟩) l1).trans h.g2, (b3.cell (p := ⟨M + 1, 3, none⟩) l1).trans h.g3, (b3.cell (p := ⟨M + 1, 4, none⟩) l1).trans h.g4⟩
theorem FlyIn.size {W : World} {M x0 x1 x2 x3 f0 f1 f2 f3 f4 : Nat} (h : FlyIn W M x0 x1 x2 x3 f0 f1 f2 f3 f4) : M + 1 < W.heap.size := block_lt_of_cell h.g0
theorem FlyIn.grow {W w3 : World} {M x0 x1 x2 x3 f0 f1 f2 f3 f4 : Nat} {row : Option Nat} (h : FlyIn W M x0 x1 x2 x3 f0 f1 f2 f3 f4) (k : W.grownBy w3 row) (h0 : some M ≠ row) (h1 : some (M + 1) ≠ row) : FlyIn w3 M x0 x1 x2 x3 f0 f1 f2 f3 f4 := by
  have l := block_lt_of_cell h.m0
  have l1 := block_lt_of_cell h.g0
  exact ⟨(grown_cell k 0 l h0).trans h.m0, (grown_cell k 1 l h0).trans h.m1, (grown_cell k 2 l h0).trans h.m2, (grown_cell k 3 l h0).trans h.m3, (grown_frozen k 0 l h0).trans h.z0, (grown_frozen k 1 l h0).trans h.z1, (grown_frozen k 2 l h0).trans h.z2, (grown_frozen k 3 l h0).trans h.z3, (grown_cell k 0 l1 h1).trans h.g0, (grown_cell k 1 l1 h1).trans h.g1, (grown_cell k 2 l1 h1).trans h.g2, (grown_cell k 3 l1 h1).trans h.g3, (grown_cell k 4 l1 h1).trans h.g4⟩
theorem FlyIn.stored {w3 : World} {M x0 x1 x2 x3 f0 f1 f2 f3 f4 : Nat} (h : FlyIn w3 M x0 x1 x2 x3 f0 f1 f2 f3 f4) (y0 y1 y2 y3 : Nat) : FlyIn ((((w3.setCell ⟨M, 0, none⟩ (.float .f64 y0)).setCell ⟨M, 1, none⟩ (.float .f64 y1)).setCell ⟨M, 2, none⟩ (.float .f64 y2)).setCell ⟨M, 3, none⟩ (.float .f64 y3)) M y0 y1 y2 y3 f0 f1 f2 f3 f4 := by
  obtain ⟨m0, m1, m2, m3, z0, z1, z2, z3, g0, g1, g2, g3, g4⟩ := h
  have hne : M + 1 ≠ M := by omega
  have hne' : M ≠ M + 1 := by omega
  refine ⟨?_, ?_, ?_, ?_, ?_, ?_, ?_, ?_, ?_, ?_, ?_, ?_, ?_⟩ <;> simp [go_sem, *]
theorem own_st4 {w3 : World} {base : Nat} {T : TypeId} {v : Value} {Z : List Mo} {M : Nat} (h : OwnE 4 moC w3 base T v Z) (hM : M < base) (y0 y1 y2 y3 : Nat) : OwnE 4 moC ((((w3.setCell ⟨M, 0, none⟩ (.float .f64 y0)).setCell ⟨M, 1, none⟩ (.float .f64 y1)).setCell ⟨M, 2, none⟩ (.float .f64 y2)).setCell ⟨M, 3, none⟩ (.float .f64 y3)) base T v Z := by
  have hne : v.ownBlock ≠ some M := fun e => by have := h.lies _ e; omega
  exact (((h.set_other _ hne).set_other _ hne).set_other _ hne).set_other _ hne
theorem four_cells (y0 y1 y2 y3 : Nat) : ∀ q, q < 4 → [Value.float .f64 y0, Value.float .f64 y1, Value.float .f64 y2, Value.float .f64 y3][q]? = some (moC ⟨y0, y1, y2, y3⟩ q) := fun q hq => by
  rcases (show q = 0 ∨ q = 1 ∨ q = 2 ∨ q = 3 from by omega) with rfl | rfl | rfl | rfl <;> rfl

set_option maxRecDepth 20000 in
set_option maxHeartbeats 4000000 in
theorem implFly_any (a0 a1 a2 a3 f0 f1 f2 f3 f4 : Nat) (ad : Option Addr) (len cap : Nat) (es : List Nat) (dt : Nat) (w : World) (hr : RowE 1 flC w ad len es) :
    Calls Try.prog 6 #[.agg #[.float .f64 a0, .float .f64 a1, .float .f64 a2, .float .f64 a3], .agg #[.float .f64 f0, .float .f64 f1, .float .f64 f2, .float .f64 f3, .float .f64 f4], .slice ad len cap, .float .f64 dt] w fun e w' => ∃ v q, e = .returned (.tuple #[v, .bool (flyB es dt)]) ∧ OwnE 4 moC w' w.heap.size 26 v q ∧ AlikeM q (flyR ⟨a0, a1, a2, a3⟩ ⟨f0, f1, f2, f3, f4⟩ es dt) ∧ Below w.heap.size w w' := by
  have hz := hr.len_eq
  have hs := hr.small
  have HO := hide hr.open1
  have O0 := hide (ownE_none (K := 4) (cells := moC) (w := (w.alloc (Obj.cells #[.float .f64 a0, .float .f64 a1, .float .f64 a2, .float .f64 a3] 26)).alloc (Obj.cells #[.float .f64 f0, .float .f64 f1, .float .f64 f2, .float .f64 f3, .float .f64 f4] 28)) (w1 := (w.alloc (Obj.cells #[.float .f64 a0, .float .f64 a1, .float .f64 a2, .float .f64 a3] 26)).alloc (Obj.cells #[.float .f64 f0, .float .f64 f1, .float .f64 f2, .float .f64 f3, .float .f64 f4] 28)) (T := 26) (Nat.le_refl _))
  have B0 := hide (bel3 (w := w) (Obj.cells #[.float .f64 a0, .float .f64 a1, .float .f64 a2, .float .f64 a3] 26) (Obj.cells #[.float .f64 f0, .float .f64 f1, .float .f64 f2, .float .f64 f3, .float .f64 f4] 28) (Obj.cells #[] 26))
  clear hr
  subst hz
  obtain ⟨i0, hii, hz0, hz1, hz2⟩ := info_parts infoMo
  by_cases hok : es.length ≤ 400 ∧ (FloatKind.f64.format.order dt 0 == some .gt) = true
  · obtain ⟨hlen, hdt⟩ := hok
    have HB : Hid (flyB es dt = true ∧ flyR ⟨a0, a1, a2, a3⟩ ⟨f0, f1, f2, f3, f4⟩ es dt = (List.range es.length).map (fun k => flyM ⟨a0, a1, a2, a3⟩ ⟨f0, f1, f2, f3, f4⟩ es dt (k + 1))) := hide (fly_yes _ _ hlen hdt)
    have G0 : Hid (FlyIn (((w.alloc (Obj.cells #[.float .f64 a0, .float .f64 a1, .float .f64 a2, .float .f64 a3] 26)).alloc (Obj.cells #[.float .f64 f0, .float .f64 f1, .float .f64 f2, .float .f64 f3, .float .f64 f4] 28)).alloc (Obj.cells #[] 26)) w.heap.size a0 a1 a2 a3 f0 f1 f2 f3 f4) := hide (by refine ⟨?_, ?_, ?_, ?_, ?_, ?_, ?_, ?_, ?_, ?_, ?_, ?_, ?_⟩ <;> simp [go_sem])
    go_enter Try.func6, Try.ntmps6
    go_wp2
    go_loopw [10, 25] (fun out i wr => ∃ (k : Nat) (a : Option Addr) (c : Nat) (Z : List Mo) (x0 x1 x2 x3 : Nat), k ≤ es.length ∧ out = .slice a k c ∧ i = .int .i64 k ∧ Z.length = k ∧ moAlike ⟨x0, x1, x2, x3⟩ (flyM ⟨a0, a1, a2, a3⟩ ⟨f0, f1, f2, f3, f4⟩ es dt k) ∧ AlikeM Z ((List.range k).map fun k => flyM ⟨a0, a1, a2, a3⟩ ⟨f0, f1, f2, f3, f4⟩ es dt (k + 1)) ∧ OwnE 4 moC wr (w.heap.size + 2) 26 (.slice a k c) Z ∧ FlyIn wr w.heap.size x0 x1 x2 x3 f0 f1 f2 f3 f4 ∧ Below w.heap.size w wr) (fun _ i _ => es.length - (intOf i).toNat)
    case atStart => exact ⟨0, _, _, [], a0, a1, a2, a3, Nat.zero_le _, rfl, rfl, rfl, moAlike_refl _, ⟨rfl, fun _ => moAlike_refl _⟩, by simpa using unhide O0, unhide G0, unhide B0⟩
    case round =>
      obtain ⟨k, a, c, Z, x0, x1, x2, x3, hk, rfl, rfl, hzl, hx, hal, hO, hG, hbel⟩ := hrel
      have I0 : Hid (OwnE 4 moC wr (w.heap.size + 2) 26 (.slice a k c) Z ∧ Below w.heap.size w wr) := hide ⟨hO, hbel⟩
      have HZL := hide hzl
      have HX := hide hx
      have HAL := hide hal
      have FI := hide hG
      by_cases hlt : k < es.length
      · rcases (unhide HO) with ⟨h0, _⟩ | ⟨bb, off, rfl, _, hc⟩
        · omega
        have ca : w.cell? ⟨bb, off + k, none⟩ = some (.float .f64 (elAt es k)) := hc k hlt
        have ca := (hbel.cell (block_lt_of_cell ca)).trans ca
        have hi1 : (k : Int) < (es.length : Int) := by omega
        have hi0 : (0 : Int) ≤ (k : Int) := by omega
        obtain ⟨m0, m1, m2, m3, z0, z1, z2, z3, g0, g1, g2, g3, g4⟩ := hG
        clear hc hO hbel hzl hx hal O0 B0 G0
        go_wp2_with fail
        refine (implStepOnce_any _ _ _ _ _ _ _ _ _ _ _ _).mono ?_
        rintro e w3 ⟨y0, y1, y2, y3, rfl, hy, b3⟩
        have HY := hide hy
        have FI3 := hide ((unhide FI).call b3)
        have I3 : Hid (OwnE 4 moC w3 (w.heap.size + 2) 26 (.slice a k c) Z ∧ Below w.heap.size w w3) := hide ⟨(unhide I0).1.below b3, (unhide I0).2.trans (b3.mono (unhide I0).2.size)⟩
        clear hy b3 m0 m1 m2 m3 z0 z1 z2 z3 g0 g1 g2 g3 g4 ca
        obtain ⟨m0, m1, m2, m3, z0, z1, z2, z3, g0, g1, g2, g3, g4⟩ := unhide FI3
        have G3 : Hid (FlyIn ((((w3.setCell ⟨w.heap.size, 0, none⟩ (.float .f64 y0)).setCell ⟨w.heap.size, 1, none⟩ (.float .f64 y1)).setCell ⟨w.heap.size, 2, none⟩ (.float .f64 y2)).setCell ⟨w.heap.size, 3, none⟩ (.float .f64 y3)) w.heap.size y0 y1 y2 y3 f0 f1 f2 f3 f4) := hide ((unhide FI3).stored y0 y1 y2 y3)
        have O3 : Hid (OwnE 4 moC ((((w3.setCell ⟨w.heap.size, 0, none⟩ (.float .f64 y0)).setCell ⟨w.heap.size, 1, none⟩ (.float .f64 y1)).setCell ⟨w.heap.size, 2, none⟩ (.float .f64 y2)).setCell ⟨w.heap.size, 3, none⟩ (.float .f64 y3)) (w.heap.size + 2) 26 (.slice a k c) Z) := hide (own_st4 (unhide I3).1 (by omega) _ _ _ _)
        have B3 : Hid (Below w.heap.size w ((((w3.setCell ⟨w.heap.size, 0, none⟩ (.float .f64 y0)).setCell ⟨w.heap.size, 1, none⟩ (.float .f64 y1)).setCell ⟨w.heap.size, 2, none⟩ (.float .f64 y2)).setCell ⟨w.heap.size, 3, none⟩ (.float .f64 y3))) := hide (((((unhide I3).2.setCell (Nat.le_refl _) _).setCell (Nat.le_refl _) _).setCell (Nat.le_refl _) _).setCell (Nat.le_refl _) _)
        have hVs : ((((w3.setCell ⟨w.heap.size, 0, none⟩ (.float .f64 y0)).setCell ⟨w.heap.size, 1, none⟩ (.float .f64 y1)).setCell ⟨w.heap.size, 2, none⟩ (.float .f64 y2)).setCell ⟨w.heap.size, 3, none⟩ (.float .f64 y3)).heap.size = w3.heap.size := by simp [World.setCell]
        have s3 : w.heap.size + 1 < w3.heap.size := (unhide FI3).size
        obtain ⟨vs, hown, hvx⟩ := (unhide O3).own
        rw [unhide HZL] at hown hvx
        have hbA := bel1 (w := ((((w3.setCell ⟨w.heap.size, 0, none⟩ (.float .f64 y0)).setCell ⟨w.heap.size, 1, none⟩ (.float .f64 y1)).setCell ⟨w.heap.size, 2, none⟩ (.float .f64 y2)).setCell ⟨w.heap.size, 3, none⟩ (.float .f64 y3))) (Obj.cells #[.float .f64 y0, .float .f64 y1, .float .f64 y2, .float .f64 y3] 26)
        have hownA := ownsRow_below hown hbA
        have hnews := World.news_of_block (heap_alloc_new ((((w3.setCell ⟨w.heap.size, 0, none⟩ (.float .f64 y0)).setCell ⟨w.heap.size, 1, none⟩ (.float .f64 y1)).setCell ⟨w.heap.size, 2, none⟩ (.float .f64 y2)).setCell ⟨w.heap.size, 3, none⟩ (.float .f64 y3)) (Obj.cells #[.float .f64 y0, .float .f64 y1, .float .f64 y2, .float .f64 y3] 26))
        rw [hVs] at hnews
        have HVS := hide hVs
        have HVX := hide hvx
        have HVL := hide (ownsRow_len2 hown)
        have HBA := hide hbA
        clear hown hvx hbA hVs
        go_wp2_with (at_builtin; refine wpList_append_lies _ rfl _ _ 32 rfl (w.heap.size + 2) 26 i0 (.agg #[.float .f64 0, .float .f64 0, .float .f64 0, .float .f64 0]) 4 32 Try.underlying32 hii hz0 hz1 hz2 rfl (by decide) (.slice a k c) k vs rfl hownA ⟨w3.heap.size, 0, none⟩ 1 1 [.float .f64 y0, .float .f64 y1, .float .f64 y2, .float .f64 y3] rfl rfl hnews (by simp [Value.oneCell']) (by decide) (by unfold maxLen; omega) (by omega) (by simp; omega) _ rfl ?_; intro g' cap' w9 hown9 hgrow hat hlt9)
        have hlies := (unhide O3).lies
        have hal9 : Below w.heap.size w w9 := ((unhide B3).trans ((unhide HBA).mono (by rw [unhide HVS]; omega))).grown hgrow (by simp; omega) (fun j hj => by have := hlies j hj; omega)
        have hb9 := hide hal9
        have G9 := hide (((unhide G3).call (unhide HBA)).grow hgrow (fun e => by have := hlies _ e.symm; omega) (fun e => by have := hlies _ e.symm; omega))
        have hz9 := unhide HZL
        have NEW : Hid (OwnE 4 moC w9 (w.heap.size + 2) 26 (.slice (some ⟨g', 0, none⟩) (k + 1) cap') (Z ++ [⟨y0, y1, y2, y3⟩])) := hide (ownE_app (by rw [hz9]; exact hown9) (by rw [hz9]; exact unhide HVL) (by rw [hz9]; exact unhide HVX) (four_cells _ _ _ _))
        have HM : Hid (moAlike ⟨y0, y1, y2, y3⟩ (flyM ⟨a0, a1, a2, a3⟩ ⟨f0, f1, f2, f3, f4⟩ es dt (k + 1))) := hide ((unhide HY).trans (stepM_alike (unhide HX) _ _ _))
        have NAL := hide ((unhide HAL).push (unhide HM))
        clear hown9 hgrow hat hlt9 hlies hal9 hz9
        go_roundw
        case rel => exact ⟨k + 1, some ⟨g', 0, none⟩, cap', Z ++ [⟨y0, y1, y2, y3⟩], y0, y1, y2, y3, by omega, rfl, by go_num, by simp [unhide HZL], unhide HM, unhide NAL, unhide NEW, unhide G9, unhide hb9⟩
        case measure => simp [intOf]; omega
      · obtain rfl : k = es.length := by omega
        clear hO hbel hzl hx hal hG O0 B0 G0
        go_wp2
        go_ret2
        exact ⟨_, Z, by rw [(unhide HB).1]; rfl, (unhide I0).1.mono (by omega), by rw [(unhide HB).2]; exact unhide HAL, (unhide I0).2⟩
  · have HB : Hid (flyB es dt = false ∧ flyR ⟨a0, a1, a2, a3⟩ ⟨f0, f1, f2, f3, f4⟩ es dt = []) := hide (fly_no _ _ hok)
    by_cases hlen : es.length ≤ 400
    · have hdt : (FloatKind.f64.format.order dt 0 == some .gt) = false := Bool.eq_false_iff.2 (fun e => hok ⟨hlen, e⟩)
      clear hok
      go_enter Try.func6, Try.ntmps6
      go_wp2
      go_ret2
      exact ⟨_, [], by rw [(unhide HB).1]; rfl, OwnE.mono (by simpa using unhide O0) (by omega : w.heap.size ≤ w.heap.size + 1 + 1), by rw [(unhide HB).2]; exact ⟨rfl, fun _ => moAlike_refl _⟩, unhide B0⟩
    · clear hok
      go_enter Try.func6, Try.ntmps6
      go_wp2
      go_ret2
      have E0 : OwnE 4 moC _ w.heap.size 26 (.slice (some ⟨w.heap.size + 1 + 1, 0, none⟩) 0 0) [] := OwnE.mono (by simpa using unhide O0) (by omega : w.heap.size ≤ w.heap.size + 1 + 1)
      exact ⟨_, by rw [(unhide HB).1]; rfl, [], E0, by rw [(unhide HB).2]; exact ⟨rfl, fun _ => moAlike_refl _⟩, unhide B0⟩

set_option maxRecDepth 20000 in
set_option maxHeartbeats 4000000 in
theorem specFly_any (a0 a1 a2 a3 f0 f1 f2 f3 f4 : Nat) (ad : Option Addr) (len cap : Nat) (es : List Nat) (dt : Nat) (w : World) (hr : RowE 1 flC w ad len es) :
    Calls Try.prog 7 #[.agg #[.float .f64 a0, .float .f64 a1, .float .f64 a2, .float .f64 a3], .agg #[.float .f64 f0, .float .f64 f1, .float .f64 f2, .float .f64 f3, .float .f64 f4], .slice ad len cap, .float .f64 dt] w fun e w' => ∃ v q, e = .returned (.tuple #[v, .bool (flyB es dt)]) ∧ OwnE 4 moC w' w.heap.size 26 v q ∧ AlikeM q (flyR ⟨a0, a1, a2, a3⟩ ⟨f0, f1, f2, f3, f4⟩ es dt) ∧ Below w.heap.size w w' := by
  have hz := hr.len_eq
  have hs := hr.small
  have HO := hide hr.open1
  have O0 := hide (ownE_none (K := 4) (cells := moC) (w := (w.alloc (Obj.cells #[.float .f64 a0, .float .f64 a1, .float .f64 a2, .float .f64 a3] 26)).alloc (Obj.cells #[.float .f64 f0, .float .f64 f1, .float .f64 f2, .float .f64 f3, .float .f64 f4] 28)) (w1 := (w.alloc (Obj.cells #[.float .f64 a0, .float .f64 a1, .float .f64 a2, .float .f64 a3] 26)).alloc (Obj.cells #[.float .f64 f0, .float .f64 f1, .float .f64 f2, .float .f64 f3, .float .f64 f4] 28)) (T := 26) (Nat.le_refl _))
  have B0 := hide (bel3 (w := w) (Obj.cells #[.float .f64 a0, .float .f64 a1, .float .f64 a2, .float .f64 a3] 26) (Obj.cells #[.float .f64 f0, .float .f64 f1, .float .f64 f2, .float .f64 f3, .float .f64 f4] 28) (Obj.cells #[] 26))
  clear hr
  subst hz
  obtain ⟨i0, hii, hz0, hz1, hz2⟩ := info_parts infoMo
  by_cases hok : es.length ≤ 400 ∧ (FloatKind.f64.format.order dt 0 == some .gt) = true
  · obtain ⟨hlen, hdt⟩ := hok
    have HB : Hid (flyB es dt = true ∧ flyR ⟨a0, a1, a2, a3⟩ ⟨f0, f1, f2, f3, f4⟩ es dt = (List.range es.length).map (fun k => flyM ⟨a0, a1, a2, a3⟩ ⟨f0, f1, f2, f3, f4⟩ es dt (k + 1))) := hide (fly_yes _ _ hlen hdt)
    have G0 : Hid (FlyIn (((w.alloc (Obj.cells #[.float .f64 a0, .float .f64 a1, .float .f64 a2, .float .f64 a3] 26)).alloc (Obj.cells #[.float .f64 f0, .float .f64 f1, .float .f64 f2, .float .f64 f3, .float .f64 f4] 28)).alloc (Obj.cells #[] 26)) w.heap.size a0 a1 a2 a3 f0 f1 f2 f3 f4) := hide (by refine ⟨?_, ?_, ?_, ?_, ?_, ?_, ?_, ?_, ?_, ?_, ?_, ?_, ?_⟩ <;> simp [go_sem])
    go_enter Try.func7, Try.ntmps7
    go_wp2
    go_loopw [10, 11] (fun out i wr => ∃ (k : Nat) (a : Option Addr) (c : Nat) (Z : List Mo) (x0 x1 x2 x3 : Nat), k ≤ es.length ∧ out = .slice a k c ∧ i = .int .i64 k ∧ Z.length = k ∧ moAlike ⟨x0, x1, x2, x3⟩ (flyM ⟨a0, a1, a2, a3⟩ ⟨f0, f1, f2, f3, f4⟩ es dt k) ∧ AlikeM Z ((List.range k).map fun k => flyM ⟨a0, a1, a2, a3⟩ ⟨f0, f1, f2, f3, f4⟩ es dt (k + 1)) ∧ OwnE 4 moC wr (w.heap.size + 2) 26 (.slice a k c) Z ∧ FlyIn wr w.heap.size x0 x1 x2 x3 f0 f1 f2 f3 f4 ∧ Below w.heap.size w wr) (fun _ i _ => es.length - (intOf i).toNat)
    case atStart => exact ⟨0, _, _, [], a0, a1, a2, a3, Nat.zero_le _, rfl, rfl, rfl, moAlike_refl _, ⟨rfl, fun _ => moAlike_refl _⟩, by simpa using unhide O0, unhide G0, unhide B0⟩
    case round =>
      obtain ⟨k, a, c, Z, x0, x1, x2, x3, hk, rfl, rfl, hzl, hx, hal, hO, hG, hbel⟩ := hrel
      have I0 : Hid (OwnE 4 moC wr (w.heap.size + 2) 26 (.slice a k c) Z ∧ Below w.heap.size w wr) := hide ⟨hO, hbel⟩
      have HZL := hide hzl
      have HX := hide hx
      have HAL := hide hal
      have FI := hide hG
      by_cases hlt : k < es.length
      · rcases (unhide HO) with ⟨h0, _⟩ | ⟨bb, off, rfl, _, hc⟩
        · omega
        have ca : w.cell? ⟨bb, off + k, none⟩ = some (.float .f64 (elAt es k)) := hc k hlt
        have ca := (hbel.cell (block_lt_of_cell ca)).trans ca
        have hi1 : (k : Int) < (es.length : Int) := by omega
        have hi0 : (0 : Int) ≤ (k : Int) := by omega
        obtain ⟨m0, m1, m2, m3, z0, z1, z2, z3, g0, g1, g2, g3, g4⟩ := hG
        clear hc hO hbel hzl hx hal O0 B0 G0
        go_wp2
        go_region_with ((go_at_call 18; refine (specStepOnce_any _ _ _ _ _ _ _ _ _ _ _ _).mono ?_; rintro e w3 ⟨y0, y1, y2, y3, rfl, hy, b3⟩; have HY := hide hy; have FI3 := hide (show FlyIn w3 w.heap.size x0 x1 x2 x3 f0 f1 f2 f3 f4 from by first | exact (unhide FI).call b3 | exact ((unhide FI).call (bel0d 1)).call b3); have I3 : Hid (OwnE 4 moC w3 (w.heap.size + 2) 26 (.slice a k c) Z ∧ Below w.heap.size w w3) := hide (by first | exact ⟨(unhide I0).1.below b3, (unhide I0).2.trans (b3.mono (unhide I0).2.size)⟩ | exact ⟨((unhide I0).1.drewN 1).below b3, ((unhide I0).2.trans (bel0d' 1)).trans (b3.mono ((unhide I0).2.trans (bel0d' 1)).size)⟩); obtain ⟨m0, m1, m2, m3, z0, z1, z2, z3, g0, g1, g2, g3, g4⟩ := unhide FI3; clear hy b3 ca))
        all_goals (
          have G3 : Hid (FlyIn ((((w3.setCell ⟨w.heap.size, 0, none⟩ (.float .f64 y0)).setCell ⟨w.heap.size, 1, none⟩ (.float .f64 y1)).setCell ⟨w.heap.size, 2, none⟩ (.float .f64 y2)).setCell ⟨w.heap.size, 3, none⟩ (.float .f64 y3)) w.heap.size y0 y1 y2 y3 f0 f1 f2 f3 f4) := hide ((unhide FI3).stored y0 y1 y2 y3)
          have O3 : Hid (OwnE 4 moC ((((w3.setCell ⟨w.heap.size, 0, none⟩ (.float .f64 y0)).setCell ⟨w.heap.size, 1, none⟩ (.float .f64 y1)).setCell ⟨w.heap.size, 2, none⟩ (.float .f64 y2)).setCell ⟨w.heap.size, 3, none⟩ (.float .f64 y3)) (w.heap.size + 2) 26 (.slice a k c) Z) := hide (own_st4 (unhide I3).1 (by omega) _ _ _ _)
          have B3 : Hid (Below w.heap.size w ((((w3.setCell ⟨w.heap.size, 0, none⟩ (.float .f64 y0)).setCell ⟨w.heap.size, 1, none⟩ (.float .f64 y1)).setCell ⟨w.heap.size, 2, none⟩ (.float .f64 y2)).setCell ⟨w.heap.size, 3, none⟩ (.float .f64 y3))) := hide (((((unhide I3).2.setCell (Nat.le_refl _) _).setCell (Nat.le_refl _) _).setCell (Nat.le_refl _) _).setCell (Nat.le_refl _) _)
          have hVs : ((((w3.setCell ⟨w.heap.size, 0, none⟩ (.float .f64 y0)).setCell ⟨w.heap.size, 1, none⟩ (.float .f64 y1)).setCell ⟨w.heap.size, 2, none⟩ (.float .f64 y2)).setCell ⟨w.heap.size, 3, none⟩ (.float .f64 y3)).heap.size = w3.heap.size := by simp [World.setCell]
          have s3 : w.heap.size + 1 < w3.heap.size := (unhide FI3).size
          obtain ⟨vs, hown, hvx⟩ := (unhide O3).own
          rw [unhide HZL] at hown hvx
          have hbA := bel1 (w := ((((w3.setCell ⟨w.heap.size, 0, none⟩ (.float .f64 y0)).setCell ⟨w.heap.size, 1, none⟩ (.float .f64 y1)).setCell ⟨w.heap.size, 2, none⟩ (.float .f64 y2)).setCell ⟨w.heap.size, 3, none⟩ (.float .f64 y3))) (Obj.cells #[.float .f64 y0, .float .f64 y1, .float .f64 y2, .float .f64 y3] 26)
          have hownA := ownsRow_below hown hbA
          have hnews := World.news_of_block (heap_alloc_new ((((w3.setCell ⟨w.heap.size, 0, none⟩ (.float .f64 y0)).setCell ⟨w.heap.size, 1, none⟩ (.float .f64 y1)).setCell ⟨w.heap.size, 2, none⟩ (.float .f64 y2)).setCell ⟨w.heap.size, 3, none⟩ (.float .f64 y3)) (Obj.cells #[.float .f64 y0, .float .f64 y1, .float .f64 y2, .float .f64 y3] 26))
          rw [hVs] at hnews
          have HVS := hide hVs
          have HVX := hide hvx
          have HVL := hide (ownsRow_len2 hown)
          have HBA := hide hbA
          clear hown hvx hbA hVs
          go_wp2_with (at_builtin; refine wpList_append_lies _ rfl _ _ 32 rfl (w.heap.size + 2) 26 i0 (.agg #[.float .f64 0, .float .f64 0, .float .f64 0, .float .f64 0]) 4 32 Try.underlying32 hii hz0 hz1 hz2 rfl (by decide) (.slice a k c) k vs rfl hownA ⟨w3.heap.size, 0, none⟩ 1 1 [.float .f64 y0, .float .f64 y1, .float .f64 y2, .float .f64 y3] rfl rfl hnews (by simp [Value.oneCell']) (by decide) (by unfold maxLen; omega) (by omega) (by simp; omega) _ rfl ?_; intro g' cap' w9 hown9 hgrow hat hlt9)
          have hlies := (unhide O3).lies
          have hal9 : Below w.heap.size w w9 := ((unhide B3).trans ((unhide HBA).mono (by rw [unhide HVS]; omega))).grown hgrow (by simp; omega) (fun j hj => by have := hlies j hj; omega)
          have hb9 := hide hal9
          have G9 := hide (((unhide G3).call (unhide HBA)).grow hgrow (fun e => by have := hlies _ e.symm; omega) (fun e => by have := hlies _ e.symm; omega))
          have hz9 := unhide HZL
          have NEW : Hid (OwnE 4 moC w9 (w.heap.size + 2) 26 (.slice (some ⟨g', 0, none⟩) (k + 1) cap') (Z ++ [⟨y0, y1, y2, y3⟩])) := hide (ownE_app (by rw [hz9]; exact hown9) (by rw [hz9]; exact unhide HVL) (by rw [hz9]; exact unhide HVX) (four_cells _ _ _ _))
          have HM : Hid (moAlike ⟨y0, y1, y2, y3⟩ (flyM ⟨a0, a1, a2, a3⟩ ⟨f0, f1, f2, f3, f4⟩ es dt (k + 1))) := hide ((unhide HY).trans (stepM_alike (unhide HX) _ _ _))
          have NAL := hide ((unhide HAL).push (unhide HM))
          clear hown9 hgrow hat hlt9 hlies hal9 hz9
          go_roundw
          case rel => exact ⟨k + 1, some ⟨g', 0, none⟩, cap', Z ++ [⟨y0, y1, y2, y3⟩], y0, y1, y2, y3, by omega, rfl, by go_num, by simp [unhide HZL], unhide HM, unhide NAL, unhide NEW, unhide G9, unhide hb9⟩
          case measure => simp [intOf]; omega)
      · obtain rfl : k = es.length := by omega
        clear hO hbel hzl hx hal hG O0 B0 G0
        go_wp2
        go_ret2
        exact ⟨_, Z, by rw [(unhide HB).1]; rfl, (unhide I0).1.mono (by omega), by rw [(unhide HB).2]; exact unhide HAL, (unhide I0).2⟩
  · have HB : Hid (flyB es dt = false ∧ flyR ⟨a0, a1, a2, a3⟩ ⟨f0, f1, f2, f3, f4⟩ es dt = []) := hide (fly_no _ _ hok)
    by_cases hlen : es.length ≤ 400
    · have hdt : (FloatKind.f64.format.order dt 0 == some .gt) = false := Bool.eq_false_iff.2 (fun e => hok ⟨hlen, e⟩)
      clear hok
      go_enter Try.func7, Try.ntmps7
      go_wp2
      go_ret2
      exact ⟨_, [], by rw [(unhide HB).1]; rfl, OwnE.mono (by simpa using unhide O0) (by omega : w.heap.size ≤ w.heap.size + 1 + 1), by rw [(unhide HB).2]; exact ⟨rfl, fun _ => moAlike_refl _⟩, unhide B0⟩
    · clear hok
      go_enter Try.func7, Try.ntmps7
      go_wp2
      go_ret2
      have E0 : OwnE 4 moC _ w.heap.size 26 (.slice (some ⟨w.heap.size + 1 + 1, 0, none⟩) 0 0) [] := OwnE.mono (by simpa using unhide O0) (by omega : w.heap.size ≤ w.heap.size + 1 + 1)
      exact ⟨_, by rw [(unhide HB).1]; rfl, [], E0, by rw [(unhide HB).2]; exact ⟨rfl, fun _ => moAlike_refl _⟩, unhide B0⟩

end Go.Proofs.Ytdamnfiaciacmaa

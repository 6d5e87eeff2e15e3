/-
  What FnSizes draws, told of the law's own bytes. No condition; nothing that was there is written.
-/
import Derived.Test.YtomcbbpaajpeiaaSzDr
import Derived.Test.YtomcbbpaajpeiaaSizPoly
namespace Go.Proofs.Ytomcbbpaajpeiaa
open Go Go.RowKit
attribute [local go_sem] run_store_float run_store_complex

theorem results_cc {fn : Func} {p q : Tmp} {t u : TypeId} {tmps : Array Value} {w : World} {B D : Nat} {vs us : List Value} (h : fn.results = #[.cell p t, .cell q u]) (hA : ∀ w, (isAgg t).run Try.prog w = .ok true w) (hZ : ∀ w, (Go.sizeOf t).run Try.prog w = .ok vs.length w)
    (hA2 : ∀ w, (isAgg u).run Try.prog w = .ok true w) (hZ2 : ∀ w, (Go.sizeOf u).run Try.prog w = .ok us.length w) (hp : tmps.getD p undef = .pointer (some ⟨B, 0, none⟩)) (hq : tmps.getD q undef = .pointer (some ⟨D, 0, none⟩)) (hb : Blk w B vs) (hd : Blk w D us) :
    (results fn tmps).run Try.prog w = .ok (.tuple #[.agg vs.toArray, .agg us.toArray]) w := by
  have h1 := run_loadVar hA hZ hb
  have h2 := run_loadVar hA2 hZ2 hd
  have hp' : tmps[p]?.getD undef = .pointer (some ⟨B, 0, none⟩) := by simpa using hp
  have hq' : tmps[q]?.getD undef = .pointer (some ⟨D, 0, none⟩) := by simpa using hq
  simp only [results, h]
  simp [hp', hq', asAddr, h1, h2]
set_option maxHeartbeats 2000000 in
theorem drawWider_any (a : Option Addr) (len cap : Nat) (w : World) (hb : Bytes w a len) (hin : ∀ b off, a = some ⟨b, off, none⟩ → b < w.heap.size) :
    Calls Try.prog 5 #[.slice a len cap] w fun e w' => ∃ x y, e = .returned (.agg #[.float .f32 x, .float .f32 y]) ∧ Below w.heap.size w w' := by
  obtain ⟨V2, hV2⟩ : ∃ V, V = w.alloc (Obj.cells #[.float .f32 0, .float .f32 0] 26) := ⟨_, rfl⟩
  have b0 : Below w.heap.size w V2 := by rw [hV2]; exact bel1 _
  have s2 : V2.heap.size = w.heap.size + 1 := by rw [hV2]; simp
  have Y0 : Hid (Blk V2 w.heap.size [.float .f32 0, .float .f32 0]) := hide (by rw [hV2]; exact Blk.new _ _)
  have HB2 := hide (hb.below b0)
  have HIN : Hid (∀ b off, a = some ⟨b, off, none⟩ → b < V2.heap.size) := hide (fun b off e => by have := hin b off e; omega)
  have HBB := hide b0
  have HV2 := hide hV2
  have HS2 := hide s2
  clear hb hin b0 hV2 s2
  go_enter Try.func5, Try.ntmps5
  go_wp2_with fail
  rw [← unhide HV2]
  refine (drNew a len cap V2 (unhide HB2) (unhide HIN)).mono ?_
  rintro e w1 ⟨rfl, d1, bb⟩
  have K1 : Hid (Dk V2 V2.heap.size a len cap w1 w1) := hide (Dk.start d1 (unhide HIN))
  have Z0 := hide ((unhide Y0).below bb)
  have hne0 : w.heap.size ≠ V2.heap.size := by have := unhide HS2; omega
  clear d1 bb Y0 HB2
  go_wp2_with fail
  refine (l4DrawSharp_any _ (unhide K1)).mono ?_
  rintro e w2 ⟨x, y, rfl, kk, gr⟩
  have BZ := hide ((unhide HBB).trans (kk.d.bel.mono (unhide HBB).size))
  have Z1 := hide ((unhide Z0).apart gr (fun e => hne0 (Option.some.inj e)))
  clear kk gr K1 Z0
  go_wp2_with (((with_reducible show wpList _ _ _ (⟨none, .store 26 _ _, _, _, _, none⟩ :: _) _ _); refine at_storeAgg (us := [.float .f32 0, .float .f32 0]) (vs := [.float .f32 x, .float .f32 y]) Try.sizeOf26 rfl rfl (unhide Z1) rfl (fun v hv => by simp at hv; rcases hv with rfl | rfl <;> rfl) ?_; intro w9 k9 g9; have K9 := hide k9; have G9 := hide g9; clear k9 g9))
  exact bodyPost_ret (results_cell (vs := [.float .f32 x, .float .f32 y]) rfl Try.isAgg26 Try.sizeOf26 rfl (unhide K9)) rfl ⟨x, y, rfl, (unhide BZ).grown (unhide G9) (unhide BZ).size (fun k hk => by have := Option.some.inj hk; omega)⟩
set_option maxHeartbeats 4000000 in
theorem l4Two_any (a : Option Addr) (len cap : Nat) (w : World) (hb : Bytes w a len) (hin : ∀ b off, a = some ⟨b, off, none⟩ → b < w.heap.size) :
    Calls Try.prog 21 #[.slice a len cap] w fun e w' => ∃ x y z u, e = .returned (.tuple #[.agg #[.float .f64 x, .float .f64 y], .agg #[.float .f64 z, .float .f64 u]]) ∧ Below w.heap.size w w' := by
  obtain ⟨V2, hV2⟩ : ∃ V, V = (w.alloc (Obj.cells #[.float .f64 0, .float .f64 0] 31)).alloc (Obj.cells #[.float .f64 0, .float .f64 0] 31) := ⟨_, rfl⟩
  have b0 : Below w.heap.size w V2 := by rw [hV2]; exact bel2 _ _
  have s2 : V2.heap.size = w.heap.size + 2 := by rw [hV2]; simp
  have Y0 : Hid (Blk V2 w.heap.size [.float .f64 0, .float .f64 0]) := hide (by rw [hV2]; exact (Blk.new (w := w) [.float .f64 0, .float .f64 0] 31).alloc _)
  have Y1 : Hid (Blk V2 (w.heap.size + 1) [.float .f64 0, .float .f64 0]) := hide (by rw [hV2]; have k := Blk.new (w := w.alloc (Obj.cells #[.float .f64 0, .float .f64 0] 31)) [.float .f64 0, .float .f64 0] 31; simpa using k)
  have HB2 := hide (hb.below b0)
  have HIN : Hid (∀ b off, a = some ⟨b, off, none⟩ → b < V2.heap.size) := hide (fun b off e => by have := hin b off e; omega)
  have HBB := hide b0
  have HV2 := hide hV2
  have HS2 := hide s2
  clear hb hin b0 hV2 s2
  go_enter Try.func21, Try.ntmps21
  go_wp2_with fail
  rw [← unhide HV2]
  refine (drNew a len cap V2 (unhide HB2) (unhide HIN)).mono ?_
  rintro e w1 ⟨rfl, d1, bb⟩
  have K1 : Hid (Dk V2 V2.heap.size a len cap w1 w1) := hide (Dk.start d1 (unhide HIN))
  have Z0 := hide ((unhide Y0).below bb)
  have Z1 := hide ((unhide Y1).below bb)
  have hne0 : w.heap.size ≠ V2.heap.size := by have := unhide HS2; omega
  have hne1 : w.heap.size + 1 ≠ V2.heap.size := by have := unhide HS2; omega
  clear d1 bb Y0 Y1 HB2
  go_wp2_with fail
  refine (l4DrawCx_any _ (unhide K1)).mono ?_
  rintro e w2 ⟨x, y, rfl, kk, gr⟩
  have K2 := hide kk
  have Z0 := hide ((unhide Z0).apart gr (fun e => hne0 (Option.some.inj e)))
  have Z1 := hide ((unhide Z1).apart gr (fun e => hne1 (Option.some.inj e)))
  clear kk gr K1
  go_wp2_with fail
  refine (l4DrawCx_any _ (unhide K2)).mono ?_
  rintro e w3 ⟨z, u, rfl, kk, gr⟩
  have BZ := hide ((unhide HBB).trans (kk.d.bel.mono (unhide HBB).size))
  have Z0 := hide ((unhide Z0).apart gr (fun e => hne0 (Option.some.inj e)))
  have Z1 := hide ((unhide Z1).apart gr (fun e => hne1 (Option.some.inj e)))
  clear kk gr K2
  have e0 : w3.cell? ⟨w.heap.size, 0, none⟩ = some (.float .f64 0) := (unhide Z0).c 0 (by simp)
  have e1 : w3.cell? ⟨w.heap.size, 1, none⟩ = some (.float .f64 0) := (unhide Z0).c 1 (by simp)
  have f0 : w3.frozen? ⟨w.heap.size, 0, none⟩ = false := (unhide Z0).f 0 (by simp)
  have f1 : w3.frozen? ⟨w.heap.size, 1, none⟩ = false := (unhide Z0).f 1 (by simp)
  have e2 : w3.cell? ⟨w.heap.size + 1, 0, none⟩ = some (.float .f64 0) := (unhide Z1).c 0 (by simp)
  have e3 : w3.cell? ⟨w.heap.size + 1, 1, none⟩ = some (.float .f64 0) := (unhide Z1).c 1 (by simp)
  have f2 : w3.frozen? ⟨w.heap.size + 1, 0, none⟩ = false := (unhide Z1).f 0 (by simp)
  have f3 : w3.frozen? ⟨w.heap.size + 1, 1, none⟩ = false := (unhide Z1).f 1 (by simp)
  go_wp2_with fail
  have A0 : Blk ((w3.setCell ⟨w.heap.size, 0, none⟩ (.float .f64 x)).setCell ⟨w.heap.size, 1, none⟩ (.float .f64 y)) w.heap.size [.float .f64 x, .float .f64 y] := by simpa using ((unhide Z0).set 0 (by simp) (.float .f64 x)).set 1 (by simp) (.float .f64 y)
  have A1 := ((unhide Z1).other (p := ⟨w.heap.size, 0, none⟩) (by simp) (.float .f64 x)).other (p := ⟨w.heap.size, 1, none⟩) (by simp) (.float .f64 y)
  have A2 := (A0.other (p := ⟨w.heap.size + 1, 0, none⟩) (by simp) (.float .f64 z)).other (p := ⟨w.heap.size + 1, 1, none⟩) (by simp) (.float .f64 u)
  have A3 : Blk ((((w3.setCell ⟨w.heap.size, 0, none⟩ (.float .f64 x)).setCell ⟨w.heap.size, 1, none⟩ (.float .f64 y)).setCell ⟨w.heap.size + 1, 0, none⟩ (.float .f64 z)).setCell ⟨w.heap.size + 1, 1, none⟩ (.float .f64 u)) (w.heap.size + 1) [.float .f64 z, .float .f64 u] := by simpa using (A1.set 0 (by simp) (.float .f64 z)).set 1 (by simp) (.float .f64 u)
  exact bodyPost_ret (results_cc (vs := [.float .f64 x, .float .f64 y]) (us := [.float .f64 z, .float .f64 u]) rfl Try.isAgg31 Try.sizeOf31 Try.isAgg31 Try.sizeOf31 rfl rfl A2 A3) rfl ⟨x, y, z, u, rfl, ((((unhide BZ).setCell (Nat.le_refl _) _).setCell (Nat.le_refl _) _).setCell (Nat.le_succ _) _).setCell (Nat.le_succ _) _⟩
set_option maxHeartbeats 2000000 in
theorem drawCxTimes_any (a : Option Addr) (len cap : Nat) (w : World) (hb : Bytes w a len) (hin : ∀ b off, a = some ⟨b, off, none⟩ → b < w.heap.size) :
    Calls Try.prog 8 #[.slice a len cap] w fun e w' => ∃ x y z u, e = .returned (.tuple #[.agg #[.float .f64 x, .float .f64 y], .agg #[.float .f64 z, .float .f64 u]]) ∧ Below w.heap.size w w' := by
  obtain ⟨V2, hV2⟩ : ∃ V, V = (w.alloc (Obj.cells #[.float .f64 0, .float .f64 0] 31)).alloc (Obj.cells #[.float .f64 0, .float .f64 0] 31) := ⟨_, rfl⟩
  have b0 : Below w.heap.size w V2 := by rw [hV2]; exact bel2 _ _
  have s2 : V2.heap.size = w.heap.size + 2 := by rw [hV2]; simp
  have Y0 : Hid (Blk V2 w.heap.size [.float .f64 0, .float .f64 0]) := hide (by rw [hV2]; exact (Blk.new (w := w) [.float .f64 0, .float .f64 0] 31).alloc _)
  have Y1 : Hid (Blk V2 (w.heap.size + 1) [.float .f64 0, .float .f64 0]) := hide (by rw [hV2]; have k := Blk.new (w := w.alloc (Obj.cells #[.float .f64 0, .float .f64 0] 31)) [.float .f64 0, .float .f64 0] 31; simpa using k)
  have HT := hide (l4Two_any a len cap V2 (hb.below b0) (fun b off e => by have := hin b off e; omega))
  have HBB := hide b0
  have HV2 := hide hV2
  clear hb hin b0 hV2 s2
  go_enter Try.func8, Try.ntmps8
  go_wp2_with fail
  rw [← unhide HV2]
  refine (unhide HT).mono ?_
  rintro e w3 ⟨x, y, z, u, rfl, bb⟩
  have BZ := hide ((unhide HBB).trans (bb.mono (unhide HBB).size))
  have Z0 := hide ((unhide Y0).below bb)
  have Z1 := hide ((unhide Y1).below bb)
  clear bb HT Y0 Y1
  have e0 : w3.cell? ⟨w.heap.size, 0, none⟩ = some (.float .f64 0) := (unhide Z0).c 0 (by simp)
  have e1 : w3.cell? ⟨w.heap.size, 1, none⟩ = some (.float .f64 0) := (unhide Z0).c 1 (by simp)
  have f0 : w3.frozen? ⟨w.heap.size, 0, none⟩ = false := (unhide Z0).f 0 (by simp)
  have f1 : w3.frozen? ⟨w.heap.size, 1, none⟩ = false := (unhide Z0).f 1 (by simp)
  have e2 : w3.cell? ⟨w.heap.size + 1, 0, none⟩ = some (.float .f64 0) := (unhide Z1).c 0 (by simp)
  have e3 : w3.cell? ⟨w.heap.size + 1, 1, none⟩ = some (.float .f64 0) := (unhide Z1).c 1 (by simp)
  have f2 : w3.frozen? ⟨w.heap.size + 1, 0, none⟩ = false := (unhide Z1).f 0 (by simp)
  have f3 : w3.frozen? ⟨w.heap.size + 1, 1, none⟩ = false := (unhide Z1).f 1 (by simp)
  go_wp2_with fail
  have A0 : Blk ((w3.setCell ⟨w.heap.size, 0, none⟩ (.float .f64 x)).setCell ⟨w.heap.size, 1, none⟩ (.float .f64 y)) w.heap.size [.float .f64 x, .float .f64 y] := by simpa using ((unhide Z0).set 0 (by simp) (.float .f64 x)).set 1 (by simp) (.float .f64 y)
  have A1 := ((unhide Z1).other (p := ⟨w.heap.size, 0, none⟩) (by simp) (.float .f64 x)).other (p := ⟨w.heap.size, 1, none⟩) (by simp) (.float .f64 y)
  have A2 := (A0.other (p := ⟨w.heap.size + 1, 0, none⟩) (by simp) (.float .f64 z)).other (p := ⟨w.heap.size + 1, 1, none⟩) (by simp) (.float .f64 u)
  have A3 : Blk ((((w3.setCell ⟨w.heap.size, 0, none⟩ (.float .f64 x)).setCell ⟨w.heap.size, 1, none⟩ (.float .f64 y)).setCell ⟨w.heap.size + 1, 0, none⟩ (.float .f64 z)).setCell ⟨w.heap.size + 1, 1, none⟩ (.float .f64 u)) (w.heap.size + 1) [.float .f64 z, .float .f64 u] := by simpa using (A1.set 0 (by simp) (.float .f64 z)).set 1 (by simp) (.float .f64 u)
  exact bodyPost_ret (results_cc (vs := [.float .f64 x, .float .f64 y]) (us := [.float .f64 z, .float .f64 u]) rfl Try.isAgg31 Try.sizeOf31 Try.isAgg31 Try.sizeOf31 rfl rfl A2 A3) rfl ⟨x, y, z, u, rfl, ((((unhide BZ).setCell (Nat.le_refl _) _).setCell (Nat.le_refl _) _).setCell (Nat.le_succ _) _).setCell (Nat.le_succ _) _⟩

/-! Small whole roots. -/
def cxC (p : Nat × Nat) : Nat → Value
  | 0 => .float .f64 p.1
  | _ => .float .f64 p.2
theorem rowC_of {w : World} {a : Option Addr} {n : Nat} {ps : List (Nat × Nat)} (h : RowE 2 cxC w a n ps) : RowC w a n ps :=
  ⟨h.len_eq, h.small, fun i hi => by obtain ⟨b, off, e, hc⟩ := h.at_ i hi; exact ⟨b, off, e, hc 0 (by omega), hc 1 (by omega)⟩⟩
theorem infoCx2 : (Try.prog.info? 31).map (fun i => (i.zero, i.size, i.bytes)) = some (some (.agg #[.float .f64 0, .float .f64 0]), 2, 16) := by kernel_rfl
/-- The roots so far. -/
structure RtOk (ps : List (Nat × Nat)) (rs : List (Int × Int)) : Prop where
  len : rs.length = ps.length
  ok : ∀ k, k < ps.length → Bd 3 (elAt rs k) ∧ Gv (reAt ps k) (imAt ps k) (elAt rs k)
theorem RtOk.nil : RtOk [] [] := ⟨rfl, fun k h => by simp at h⟩
theorem RtOk.push {ps : List (Nat × Nat)} {rs : List (Int × Int)} (h : RtOk ps rs) {p q : Int} (hp : -3 ≤ p ∧ p ≤ 3) (hq : -3 ≤ q ∧ q ≤ 3) : RtOk (ps ++ [(fint p, fint q)]) (rs ++ [(p, q)]) := by
  have hl := h.len
  refine ⟨by simp [hl], fun k hk => ?_⟩
  obtain ⟨h1, h2, h3⟩ := pushC_at (P := ps) (a := fint p) (b := fint q)
  obtain ⟨g1, g2⟩ := elAt_app rs (p, q)
  by_cases e : k < ps.length
  · rw [(h1 k e).1, (h1 k e).2, g1 k (by omega)]
    exact h.ok k e
  · obtain rfl : k = ps.length := by simp at hk; omega
    rw [h2, h3, ← hl, g2]
    exact ⟨⟨hp, hq⟩, iv_fint (small_fit (by omega)), iv_fint (small_fit (by omega))⟩
/-- What is drawn: at most five small whole roots. -/
def RsP (w : World) (e : Ending) (w' : World) : Prop := ∃ (b : Option Addr) (n c : Nat) (ps : List (Nat × Nat)) (rs : List (Int × Int)), e = .returned (.slice b n c) ∧ RowC w' b n ps ∧ n ≤ 5 ∧ RtOk ps rs ∧ Below w.heap.size w w'
set_option maxHeartbeats 4000000 in
theorem drawSmallRoots_any (a : Option Addr) (len cap : Nat) (w : World) (hb : Bytes w a len) (hin : ∀ b off, a = some ⟨b, off, none⟩ → b < w.heap.size) :
    Calls Try.prog 12 #[.slice a len cap] w fun e w' => RsP w e w' := by
  have HIN := hide hin
  go_enter Try.func12, Try.ntmps12
  go_wp2_with fail
  refine (drNew a len cap w hb hin).mono ?_
  rintro e w1 ⟨rfl, d1, bb⟩
  obtain ⟨C, hC⟩ : ∃ C, w.heap.size = C := ⟨_, rfl⟩
  rw [hC] at d1 ⊢
  have D1 := hide d1
  clear d1 bb hb hin
  obtain ⟨V, hV⟩ : ∃ V, V = w1.alloc (Obj.cells #[] 31) := ⟨_, rfl⟩
  have bV : Below w1.heap.size w1 V := by rw [hV]; exact bel1 _
  have DV := hide ((unhide D1).below bV)
  have hCw : C < w1.heap.size := (unhide D1).lt
  have O0 : Hid (OwnE 2 cxC V (C + 1) 31 (.slice (some ⟨w1.heap.size, 0, none⟩) 0 0) []) := hide (by
    rw [hV]
    exact (ownE_none (K := 2) (cells := cxC) (w := w1) (w1 := w1) (T := 31) (Nat.le_refl _)).mono (by omega))
  have HV := hide hV
  clear hV bV D1
  go_upto_region 3 with fail
  rw [← unhide HV]
  clear HV
  go_wp2_with fail
  refine (drBelow (w := w) (a := a) (len := len) (cap := cap) 6 _ (unhide DV) (by omega)).mono ?_
  rintro e w2 ⟨x, rfl, hx, d2, gr⟩
  have D2 := hide d2
  have O2 := hide ((unhide O0).far gr (fun g hg e => by have := Option.some.inj e; have := ((unhide O0).lies g hg).1; omega))
  obtain ⟨k0, hk0⟩ : ∃ k : Nat, x = (k : Int) := ⟨x.toNat, by omega⟩
  have hk5 : k0 ≤ 5 := by omega
  subst hk0
  clear d2 gr DV O0 hx
  go_wp2_with fail
  go_loopw [4, 5] (fun o i wr => ∃ (k m : Nat) (b : Option Addr) (c : Nat) (ps : List (Nat × Nat)) (rs : List (Int × Int)), o = .slice b m c ∧ i = .int .i64 (k : Int) ∧ k + m ≤ 5 ∧ Hid (OwnE 2 cxC wr (C + 1) 31 (.slice b m c) ps) ∧ Hid (ps.length = m) ∧ Hid (RtOk ps rs) ∧ Hid (Dr w C a len cap wr)) (fun _ i _ => (intOf i).toNat)
  case atStart => exact ⟨k0, 0, _, _, [], [], rfl, rfl, by omega, O2, hide rfl, hide RtOk.nil, D2⟩
  case round =>
    clear O2 D2
    obtain ⟨k, m, b, c, ps, rs, rfl, rfl, hkm, OO, HL, RK, DD⟩ := hrel
    by_cases hlt : 0 < k
    · have hlt2 : (0 : Int) < (k : Int) := by omega
      go_wp2_with fail
      refine (drBelow (w := w) (a := a) (len := len) (cap := cap) 7 _ (unhide DD) (by omega)).mono ?_
      rintro e w3 ⟨x, rfl, hx, d3, gr⟩
      have D3 := hide d3
      have O3 := hide ((unhide OO).far gr (fun g hg e => by have := Option.some.inj e; have := ((unhide OO).lies g hg).1; omega))
      clear d3 gr DD OO
      go_wp2_with fail
      refine (drBelow (w := w) (a := a) (len := len) (cap := cap) 7 _ (unhide D3) (by omega)).mono ?_
      rintro e w4 ⟨y, rfl, hy, d4, gr⟩
      have D4 := hide d4
      have O4 := hide ((unhide O3).far gr (fun g hg e => by have := Option.some.inj e; have := ((unhide O3).lies g hg).1; omega))
      have hC4 : C + 1 ≤ w4.heap.size := by have := d4.lt; omega
      clear d4 gr D3 O3
      have hm5 : m ≤ 1000 := by omega
      go_wp2_with (at_builtin; refine wpList_app_elG rfl (.tmp 15) (.tmp 25) 37 31 rfl Try.underlying37 infoCx2 rfl (by decide) (by decide) ((fint (x - 3), fint (y - 3)) : Nat × Nat) [.float .f64 (fint (x - 3)), .float .f64 (fint (y - 3))] rfl (by intro q hq; rcases (show q = 0 ∨ q = 1 by omega) with rfl | rfl <;> rfl) (by intro u hu; simp at hu; rcases hu with rfl | rfl <;> rfl) (unhide O4) (unhide HL) rfl rfl rfl hC4 hm5 ?_; intro g5 c5 w5 o5 gr5 at5; have O5 := hide o5; have D5 : Hid (Dr w C a len cap w5) := hide ((unhide D4).own gr5 (fun q hq => by have := ((unhide O4).lies q hq).1; omega) (unhide HIN)); clear o5 gr5 at5)
      go_roundw
      case rel => exact ⟨k - 1, m + 1, _, _, _, rs ++ [(x - 3, y - 3)], rfl, by rw [show ((k - 1 : Nat) : Int) = (k : Int) - 1 by omega], by omega, O5, hide (by have := unhide HL; simp [this]), hide ((unhide RK).push (by omega) (by omega)), D5⟩
      case measure => simp [intOf]; omega
    · obtain rfl : k = 0 := by omega
      have hlt2 : ¬ (0 : Int) < ((0 : Nat) : Int) := by omega
      go_wp2_with fail
      go_ret
      have hh := unhide HL
      subst hh
      exact ⟨b, _, c, ps, rs, rfl, rowC_of (unhide OO).row, by omega, unhide RK, (unhide DD).bel⟩

end Go.Proofs.Ytomcbbpaajpeiaa

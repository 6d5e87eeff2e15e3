/-
  The points that the law draws: they are so, and the first one's heights are at most 300.
-/
import Derived.Test.YtbaocifpifbldaePfPure
import Derived.Test.YtbaocifpifbldaeDraw
import Derived.Test.YtbaocifpifbldaeAppEl
import Derived.Test.YtbaocifpifbldaeRowPo
import Derived.Deep.RegionLaw
namespace Go.Proofs.Ytbaocifpifbldae
open Go.RowKit

/-- Points in their order, all ahead of F. -/
def PdOk (ps : List Po) (F : Int) : Prop := ∀ i, i < ps.length → 0 ≤ (elAt ps i).a0 ∧ (elAt ps i).a0 < F ∧ 0 ≤ (elAt ps i).a1 ∧ (elAt ps i).a1 ≤ (elAt ps i).a2 ∧ (elAt ps i).a2 ≤ 200 ∧ (i = 0 ∨ (elAt ps (i - 1)).a0 < (elAt ps i).a0)
theorem PdOk.app {ps : List Po} {F F' lo hi : Int} (h : PdOk ps F) (h0 : 0 ≤ F) (h1 : 0 ≤ lo) (h2 : lo ≤ hi) (h3 : hi ≤ 200) (h4 : F < F') : PdOk (ps ++ [⟨F, lo, hi⟩]) F' := by
  have ea := elAt_app ps ⟨F, lo, hi⟩
  intro i hi'
  simp only [List.length_append, List.length_cons, List.length_nil] at hi'
  by_cases hl : i < ps.length
  · rw [ea.1 i hl]
    have := h i hl
    refine ⟨this.1, by omega, this.2.2.1, this.2.2.2.1, this.2.2.2.2.1, ?_⟩
    rcases this.2.2.2.2.2 with e | e
    · exact .inl e
    · rw [ea.1 (i - 1) (by omega)]; exact .inr e
  · have e : i = ps.length := by omega
    subst e
    rw [ea.2]
    refine ⟨h0, h4, h1, h2, h3, ?_⟩
    by_cases e0 : ps.length = 0
    · exact .inl e0
    · right
      rw [ea.1 (ps.length - 1) (by omega)]
      exact (h (ps.length - 1) (by omega)).2.1
theorem PdOk.ok {ps : List Po} {F : Int} (h : PdOk ps F) (hF : F ≤ 1000) (h1 : 1 ≤ ps.length) (h2 : ps.length ≤ 30) : poB ps = true := by
  rw [poB_all]
  · simp only [inB, decide_eq_true_eq]; omega
  · intro i hi
    have := h i hi
    simp only [poAt, inB, Bool.and_eq_true, decide_eq_true_eq]
    omega
/-- The cursor, and the list that grows behind it. -/
structure Pd (w : World) (C : Nat) (a : Option Addr) (len cap : Nat) (W : World) (g n cp : Nat) (ps : List Po) : Prop where
  d : Dr w C a len cap W
  o : OwnE 3 poC W (C + 1) 53 (.slice (some ⟨g, 0, none⟩) n cp) ps
  l : ps.length = n
theorem Pd.step {w : World} {C : Nat} {a : Option Addr} {len cap : Nat} {W W' : World} {g n cp : Nat} {ps : List Po} (h : Pd w C a len cap W g n cp ps) (D : Dr w C a len cap W') (gr : W.grownBy W' (some C)) : Pd w C a len cap W' g n cp ps :=
  ⟨D, h.o.far gr (fun q hq e => by have := (h.o.lies q hq).1; cases e; omega), h.l⟩
theorem Pd.app {w : World} {C : Nat} {a : Option Addr} {len cap : Nat} {W W' : World} {g n cp g' cp' : Nat} {ps : List Po} {z : Po} (h : Pd w C a len cap W g n cp ps) (hin : ∀ b off, a = some ⟨b, off, none⟩ → b < w.heap.size) (o : OwnE 3 poC W' (C + 1) 53 (.slice (some ⟨g', 0, none⟩) (n + 1) cp') (ps ++ [z])) (gr : W.grownBy W' (Value.slice (some ⟨g, 0, none⟩) n cp).ownBlock) : Pd w C a len cap W' g' (n + 1) cp' (ps ++ [z]) :=
  ⟨h.d.own gr (fun k hk => by have := (h.o.lies k hk).1; omega) hin, o, by simp [h.l]⟩

set_option maxRecDepth 20000 in
set_option maxHeartbeats 1000000 in
theorem l13Draw_any {w : World} {C : Nat} {a : Option Addr} {len cap : Nat} (W : World) (D : Dr w C a len cap W) (hin : ∀ b off, a = some ⟨b, off, none⟩ → b < w.heap.size) :
    Calls Try.prog 54 #[.pointer (some ⟨C, 0, none⟩)] W fun e w' => ∃ g n cp ps, e = .returned (.slice (some ⟨g, 0, none⟩) n cp) ∧ Pd w C a len cap w' g n cp ps ∧ poB ps = true ∧ PdOk ps 1000 := by
  have HIN := hide hin
  have K0 : Hid (Pd w C a len cap (W.alloc (Obj.cells #[] 53)) W.heap.size 0 0 []) := hide ⟨D.below (bel1 _), by
    refine ⟨⟨[], ⟨rfl, .inr ⟨_, _, #[], rfl, D.lt, ?_, Nat.le_refl _, by simp [maxLen], rfl, rfl⟩⟩, fun j hj => by simp at hj⟩⟩
    show (W.heap.push _)[W.heap.size]? = _
    simp, rfl⟩
  clear hin D
  go_enter Try.func54, Try.ntmps54
  go_wp2_with (first
    | ((fail_if_success have := K1); go_at_call 40; refine (drBelow _ _ (unhide K0).d (by omega)).mono ?_; rintro e w1 ⟨x1, rfl, hx1, d1, g1⟩; have K1 := hide ((unhide K0).step d1 g1); clear d1 g1)
    | (go_at_call 40; refine (drBelow _ _ (unhide K1).d (by omega)).mono ?_; rintro e w2 ⟨x2, rfl, hx2, d2, g2⟩; have K2 := hide ((unhide K1).step d2 g2); clear d2 g2))
  clear K0 K1
  go_loopw [3, 4, 5] (fun s3 s4 s5 wr => ∃ (g n cp : Nat) (ps : List Po) (F I : Int), s3 = .slice (some ⟨g, 0, none⟩) n cp ∧ s4 = .int .i64 F ∧ s5 = .int .i64 I ∧ (0 ≤ I ∧ I ≤ 6) ∧ ((n : Int) + I ≤ 6 ∧ 1 ≤ (n : Int) + I) ∧ (0 ≤ F ∧ F ≤ 10 + 13 * (n : Int)) ∧ Hid (PdOk ps F) ∧ Hid (Pd w C a len cap wr g n cp ps)) (fun _ _ s5 _ => (intOf s5).toNat)
  case atStart => exact ⟨_, 0, 0, [], x1, 1 + x2, rfl, rfl, rfl, by omega, by omega, by omega, hide (fun i hi => by simp at hi), K2⟩
  case round =>
    obtain ⟨g, n, cp, ps, F, I, rfl, rfl, rfl, hI, hn, hF, HO, HK⟩ := hrel
    clear K2
    by_cases hlt : 0 < I
    · have hsz := (unhide HK).d.lt
      go_wp2_with (first
        | ((fail_if_success have := K3); go_at_call 40; refine (drBelow _ _ (unhide HK).d (by omega)).mono ?_; rintro e w3 ⟨x3, rfl, hx3, d3, g3⟩; have K3 := hide ((unhide HK).step d3 g3); clear d3 g3)
        | ((fail_if_success have := K4); go_at_call 40; refine (drBelow _ _ (unhide K3).d (by omega)).mono ?_; rintro e w4 ⟨x4, rfl, hx4, d4, g4⟩; have K4 := hide ((unhide K3).step d4 g4); have hs4 := (unhide K4).d.lt; clear d4 g4)
        | ((fail_if_success have := K5); at_builtin; (refine wpList_app_elG (K := 3) (cells := poC) rfl _ _ 47 53 rfl Try.underlying47 infoPo rfl (by decide) (by decide) ⟨F, x3, x3 + x4⟩ [.int .i64 F, .int .i64 x3, .int .i64 (x3 + x4)] rfl (fun q hq => by match q, hq with | 0, _ => rfl | 1, _ => rfl | 2, _ => rfl) (fun u hu => by simp at hu; rcases hu with rfl | rfl | rfl <;> rfl) (unhide K4).o (unhide K4).l rfl (by simp) rfl (by omega) (by omega) ?_; intro g9 c9 w9 o9 gr9 _; have K5 := hide ((unhide K4).app (unhide HIN) o9 gr9); clear o9 gr9))
        | (go_at_call 40; refine (drBelow _ _ (unhide K5).d (by omega)).mono ?_; rintro e w6 ⟨x6, rfl, hx6, d6, g6⟩; have K6 := hide ((unhide K5).step d6 g6); clear d6 g6))
      go_roundw
      case rel => exact ⟨g9, n + 1, c9, ps ++ [⟨F, x3, x3 + x4⟩], F + 1 + x6, I - 1, rfl, rfl, by go_num, by omega, by omega, by omega, hide ((unhide HO).app (by omega) (by omega) (by omega) (by omega) (by omega)), K6⟩
      case measure => simp [intOf]; omega
    · have hI0 : I = 0 := by omega
      have HI := hide hI0
      clear hI0
      go_wp2
      go_ret
      have ho := unhide HO
      have hk := unhide HK
      have hl := hk.l
      exact ⟨g, n, cp, rfl, ps, hk, ho.ok (by omega) (by omega) (by omega), fun i hi => by have := ho i hi; omega⟩
set_option maxRecDepth 20000 in
set_option maxHeartbeats 1000000 in
theorem drawPoints_any (a : Option Addr) (len cap : Nat) (w : World) (hb : Bytes w a len) (hin : ∀ b off, a = some ⟨b, off, none⟩ → b < w.heap.size) :
    Calls Try.prog 18 #[.slice a len cap] w fun e w' => ∃ g n cp ps, e = .returned (.slice (some ⟨g, 0, none⟩) n cp) ∧ RowE 3 poC w' (some ⟨g, 0, none⟩) n ps ∧ poB ps = true ∧ PdOk ps 1000 ∧ Below w.heap.size w w' := by
  have HN := hide (drNew a len cap w hb hin)
  have HIN := hide hin
  clear hb hin
  go_enter Try.func18, Try.ntmps18
  go_wp2_with (first
    | (go_at_call 39; refine (unhide HN).mono ?_; rintro e w1 ⟨rfl, d1, _⟩; have D1 := hide d1; clear d1)
    | (go_at_call 54; refine (l13Draw_any _ (unhide D1) (unhide HIN)).mono ?_; rintro e w2 ⟨g, n, cp, ps, rfl, k2, q2, o2⟩; have K2 := hide k2; have Q2 := hide q2; have O2 := hide o2; clear k2 q2 o2))
  go_ret
  exact ⟨g, n, cp, ps, rfl, (unhide K2).o.row, unhide Q2, unhide O2, (unhide K2).d.bel⟩

end Go.Proofs.Ytbaocifpifbldae

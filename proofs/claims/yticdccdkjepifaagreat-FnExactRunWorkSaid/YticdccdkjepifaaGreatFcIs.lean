/-
  A fleet's copy, in the program and in the model: its lists in memory of their own. At lists of at most 1048600; nothing that was there is written.
-/
import Derived.Test.YticdccdkjepifaaGreatMFlIn
import Derived.Test.YticdccdkjepifaaGreatTxTs
import Derived.Test.YticdccdkjepifaaGreatMTxCr
import Derived.Test.YticdccdkjepifaaGreatAppM
import Derived.Test.YticdccdkjepifaaGreatMTaPure
import Derived.Test.YticdccdkjepifaaGreatMOnly
import Derived.Deep.Cut
namespace Go.Proofs.YticdccdkjepifaaGreat
open Go Go.RowKit

theorem fc_shape {α : Type} [Inhabited α] {K : Nat} {cells : α → Nat → Value} {w : World} {base : Nat} {T : TypeId} {v v0 : Value} {ps : List α} (h : OwnE K cells w base T v ps) (hn : v = .slice none 0 0 → v0 = .slice none 0 0) (h0 : v0 ≠ .slice none 0 0) : ∃ g cp, v = .slice (some ⟨g, 0, none⟩) ps.length cp ∧ base ≤ g ∧ g < w.heap.size := by
  rcases h.form with ⟨e, _⟩ | ⟨g, cp, e, hb, hl, _⟩
  · exact absurd (hn e) h0
  · exact ⟨g, cp, e, hb, hl⟩
theorem tsCell1' (x : Ts) (q : Nat) : (tsC x q).oneCell' = true := by
  match q with
  | 0 => rfl
  | 1 => rfl
  | 2 => rfl
  | 3 => rfl
  | 4 => rfl
  | 5 => rfl
  | _ + 6 => rfl
theorem crCell1' (x : Cr) (q : Nat) : (crC x q).oneCell' = true := by
  match q with
  | 0 => rfl
  | 1 => rfl
  | _ + 2 => rfl
theorem dfCell1' (x : Df) (q : Nat) : (dfC x q).oneCell' = true := by
  match q with
  | 0 => rfl
  | 1 => rfl
  | _ + 2 => rfl
set_option maxRecDepth 20000 in
set_option maxHeartbeats 4000000 in
theorem copied19_any (nh nc nd : Int) (a1 a2 a3 : Option Addr) (l1 c1 l2 c2 l3 c3 : Nat) (ts : List Ts) (cs : List Cr) (ds : List Df) (w : World) (hr : FlIn w a1 a2 a3 l1 l2 l3 ts cs ds) (m1 : l1 ≤ 1048600) (m2 : l2 ≤ 1048600) (m3 : l3 ≤ 1048600) :
    Calls Tryz.prog 29 #[.agg #[.slice a1 l1 c1, .slice a2 l2 c2, .slice a3 l3 c3, .int .i64 nh, .int .i64 nc, .int .i64 nd]] w fun e w' => ∃ g1 p1 g2 p2 g3 p3 : Nat, e = .returned (.agg #[.slice (some ⟨g1, 0, none⟩) ts.length p1, .slice (some ⟨g2, 0, none⟩) cs.length p2, .slice (some ⟨g3, 0, none⟩) ds.length p3, .int .i64 nh, .int .i64 nc, .int .i64 nd]) ∧ FlOwn w' w.heap.size (some ⟨g1, 0, none⟩) (some ⟨g2, 0, none⟩) (some ⟨g3, 0, none⟩) ts.length p1 cs.length p2 ds.length p3 ts cs ds ∧ Below w.heap.size w w' := by
  have z1 := hr.r1.len_eq
  have z2 := hr.r2.len_eq
  have z3 := hr.r3.len_eq
  subst z1
  subst z2
  subst z3
  have HR := hide hr
  clear hr
  obtain ⟨U0, hU0⟩ : ∃ W, W = (w.alloc (Obj.cells #[.slice a1 ts.length c1, .slice a2 cs.length c2, .slice a3 ds.length c3, .int .i64 nh, .int .i64 nc, .int .i64 nd] 37)).alloc (Obj.cells #[.slice none 0 0, .slice none 0 0, .slice none 0 0, .int .i64 0, .int .i64 0, .int .i64 0] 37) := ⟨_, rfl⟩
  have S0 : Hid (w.heap.size + 2 ≤ U0.heap.size) := hide (by rw [hU0]; simp)
  have KP0 : Hid (Blk U0 w.heap.size [.slice a1 ts.length c1, .slice a2 cs.length c2, .slice a3 ds.length c3, .int .i64 nh, .int .i64 nc, .int .i64 nd]) := hide (by rw [hU0]; exact blkAt2_0)
  have KR0 : Hid (Blk U0 (w.heap.size + 1) [.slice none 0 0, .slice none 0 0, .slice none 0 0, .int .i64 0, .int .i64 0, .int .i64 0]) := hide (by rw [hU0]; exact blkAt2_1)
  have B0 : Hid (Below w.heap.size w U0) := hide (by rw [hU0]; exact bel2 _ _)
  have HU0 := hide hU0
  clear hU0
  go_enter Tryz.func29, Tryz.ntmps29
  go_upto_region 1 with fail
  rw [← unhide HU0]
  clear HU0
  obtain ⟨V1, hV1⟩ : ∃ V, V = U0.alloc (Obj.cells #[] 90) := ⟨_, rfl⟩
  have bV : Below U0.heap.size U0 V1 := by rw [hV1]; exact bel1 _
  have OV : Hid (OwnE 7 tsC V1 U0.heap.size 90 (.slice (some ⟨U0.heap.size, 0, none⟩) 0 0) []) := hide (by rw [hV1]; exact ownE_none (Nat.le_refl _))
  have RV : Hid (RowE 7 tsC V1 a1 ts.length ts) := hide (((unhide HR).r1.below (unhide B0)).below bV)
  have SV : Hid (U0.heap.size ≤ V1.heap.size) := hide bV.size
  have KPV := hide ((unhide KP0).below bV)
  have KRV := hide ((unhide KR0).below bV)
  have BV := hide ((unhide B0).trans (bV.mono (unhide B0).size))
  have n1 : U0.cell? ⟨w.heap.size, 0, none⟩ = some (.slice a1 ts.length c1) := (unhide KP0).c 0 (by simp)
  have n2 : V1.cell? ⟨w.heap.size, 0, none⟩ = some (.slice a1 ts.length c1) := (unhide KPV).c 0 (by simp)
  have HV := hide hV1
  clear hV1 bV
  rw [unhide HV] at n2 OV RV SV KPV KRV BV
  go_upto_region 2 with (at_builtin; (refine wpList_app_elsM (K := 7) (cells := tsC) (by kernel_rfl) _ _ 32 90 rfl Tryz.underlying32 infoTs rfl (by decide) (by decide) tsCell1' (unhide OV) rfl a1 ts.length c1 ts rfl (unhide RV) (by simp; omega) (unhide SV) ?_; intro v9 w9 o9 gr9 nn9; obtain ⟨g1, p1, rfl, hbg, hlg⟩ := fc_shape o9 nn9 (by simp); rw [List.nil_append] at o9; have hnp : some w.heap.size ≠ (Value.slice (some ⟨U0.heap.size, 0, none⟩) 0 0).ownBlock := (by have := unhide S0; simp [Value.ownBlock]; omega); have hnr : some (w.heap.size + 1) ≠ (Value.slice (some ⟨U0.heap.size, 0, none⟩) 0 0).ownBlock := (by have := unhide S0; simp [Value.ownBlock]; omega); have KP9 := hide ((unhide KPV).apart gr9 (fun e => hnp e)); have KR9 := hide ((unhide KRV).apart gr9 (fun e => hnr e)); have O9 := hide o9; have HBG1 := hide hbg; have HLG := hide hlg; have B9 := hide ((unhide BV).grown gr9 (unhide BV).size (fun q hq => by have := unhide S0; have e : U0.heap.size = q := Option.some.inj hq; omega)); have Z9 : Hid (U0.heap.size ≤ w9.heap.size) := hide (Nat.le_trans (unhide SV) gr9.size); have y1 : w9.cell? ⟨w.heap.size, 0, none⟩ = some (.slice a1 ts.length c1) := (unhide KP9).c 0 (by simp); have y2 : w9.frozen? ⟨w.heap.size, 0, none⟩ = false := (unhide KP9).f 0 (by simp); clear o9 gr9 nn9 hbg hlg hnp hnr))
  obtain ⟨U1, hU⟩ : ∃ U, U = w9.setCell ⟨w.heap.size, 0, none⟩ (.slice (some ⟨g1, 0, none⟩) ts.length p1) := ⟨_, rfl⟩
  have hsz : U1.heap.size = w9.heap.size := by rw [hU]; simp [World.setCell]
  have S1 : Hid (w.heap.size + 2 ≤ U1.heap.size) := hide (by have h1 := unhide Z9; have h2 := unhide S0; omega)
  have LG1 : Hid (g1 < U1.heap.size) := hide (by have h1 := unhide HLG; omega)
  have LK1 := LG1
  have KP1 : Hid (Blk U1 w.heap.size [.slice (some ⟨g1, 0, none⟩) ts.length p1, .slice a2 cs.length c2, .slice a3 ds.length c3, .int .i64 nh, .int .i64 nc, .int .i64 nd]) := hide (by rw [hU]; exact (unhide KP9).set 0 (by simp) _)
  have KR1 : Hid (Blk U1 (w.heap.size + 1) [.slice none 0 0, .slice none 0 0, .slice none 0 0, .int .i64 0, .int .i64 0, .int .i64 0]) := hide (by rw [hU]; exact (unhide KR9).other (p := ⟨w.heap.size, 0, none⟩) (by show w.heap.size ≠ w.heap.size + 1; omega) _)
  have O1 : Hid (OwnE 7 tsC U1 U0.heap.size 90 (.slice (some ⟨g1, 0, none⟩) ts.length p1) ts) := hide (by rw [hU]; exact (unhide O9).set_other _ (by intro e; have e1 : g1 = w.heap.size := Option.some.inj e; have h1 := unhide HBG1; have h2 := unhide S0; omega))
  have B1 : Hid (Below w.heap.size w U1) := hide (by rw [hU]; exact (unhide B9).setCell (p := ⟨w.heap.size, 0, none⟩) (by simp) _)
  have Z1 : Hid (U0.heap.size ≤ U1.heap.size) := hide (by have h1 := unhide Z9; omega)
  rw [← hU]
  clear hU y1 y2 KP9 KR9 O9 B9 n1 n2 HV OV RV SV KPV KRV BV hsz Z9 HLG
  obtain ⟨V2, hV2⟩ : ∃ V, V = U1.alloc (Obj.cells #[] 92) := ⟨_, rfl⟩
  have bV : Below U1.heap.size U1 V2 := by rw [hV2]; exact bel1 _
  have OV : Hid (OwnE 3 crC V2 U1.heap.size 92 (.slice (some ⟨U1.heap.size, 0, none⟩) 0 0) []) := hide (by rw [hV2]; exact ownE_none (Nat.le_refl _))
  have RV : Hid (RowE 3 crC V2 a2 cs.length cs) := hide (((unhide HR).r2.below (unhide B1)).below bV)
  have SV : Hid (U1.heap.size ≤ V2.heap.size) := hide bV.size
  have KPV := hide ((unhide KP1).below bV)
  have KRV := hide ((unhide KR1).below bV)
  have BV := hide ((unhide B1).trans (bV.mono (unhide B1).size))
  have OV1 := hide ((unhide O1).below bV)
  have n1 : U1.cell? ⟨w.heap.size, 1, none⟩ = some (.slice a2 cs.length c2) := (unhide KP1).c 1 (by simp)
  have n2 : V2.cell? ⟨w.heap.size, 1, none⟩ = some (.slice a2 cs.length c2) := (unhide KPV).c 1 (by simp)
  have HV := hide hV2
  clear hV2 bV
  rw [unhide HV] at n2 OV RV SV KPV KRV BV OV1
  go_upto_region 3 with (at_builtin; (refine wpList_app_elsM (K := 3) (cells := crC) (by kernel_rfl) _ _ 33 92 rfl Tryz.underlying33 infoCr rfl (by decide) (by decide) crCell1' (unhide OV) rfl a2 cs.length c2 cs rfl (unhide RV) (by simp; omega) (unhide SV) ?_; intro v9 w9 o9 gr9 nn9; obtain ⟨g2, p2, rfl, hbg, hlg⟩ := fc_shape o9 nn9 (by simp); rw [List.nil_append] at o9; have hnp : some w.heap.size ≠ (Value.slice (some ⟨U1.heap.size, 0, none⟩) 0 0).ownBlock := (by have := unhide S1; simp [Value.ownBlock]; omega); have hnr : some (w.heap.size + 1) ≠ (Value.slice (some ⟨U1.heap.size, 0, none⟩) 0 0).ownBlock := (by have := unhide S1; simp [Value.ownBlock]; omega); have KP9 := hide ((unhide KPV).apart gr9 (fun e => hnp e)); have KR9 := hide ((unhide KRV).apart gr9 (fun e => hnr e)); have O9 := hide o9; have HBG2 := hide hbg; have HLG := hide hlg; have B9 := hide ((unhide BV).grown gr9 (unhide BV).size (fun q hq => by have := unhide S1; have e : U1.heap.size = q := Option.some.inj hq; omega)); have O91 := hide ((unhide OV1).far gr9 (fun q hq e => by have h1 := unhide LG1; have e1 : g1 = q := Option.some.inj hq; have e2 : q = U1.heap.size := Option.some.inj e; omega)); have Z9 : Hid (U1.heap.size ≤ w9.heap.size) := hide (Nat.le_trans (unhide SV) gr9.size); have y1 : w9.cell? ⟨w.heap.size, 1, none⟩ = some (.slice a2 cs.length c2) := (unhide KP9).c 1 (by simp); have y2 : w9.frozen? ⟨w.heap.size, 1, none⟩ = false := (unhide KP9).f 1 (by simp); clear o9 gr9 nn9 hbg hlg hnp hnr))
  obtain ⟨U2, hU⟩ : ∃ U, U = w9.setCell ⟨w.heap.size, 1, none⟩ (.slice (some ⟨g2, 0, none⟩) cs.length p2) := ⟨_, rfl⟩
  have hsz : U2.heap.size = w9.heap.size := by rw [hU]; simp [World.setCell]
  have S2 : Hid (w.heap.size + 2 ≤ U2.heap.size) := hide (by have h1 := unhide Z9; have h2 := unhide S1; omega)
  have LG2 : Hid (g2 < U2.heap.size) := hide (by have h1 := unhide HLG; omega)
  have LK2 := LG2
  have KP2 : Hid (Blk U2 w.heap.size [.slice (some ⟨g1, 0, none⟩) ts.length p1, .slice (some ⟨g2, 0, none⟩) cs.length p2, .slice a3 ds.length c3, .int .i64 nh, .int .i64 nc, .int .i64 nd]) := hide (by rw [hU]; exact (unhide KP9).set 1 (by simp) _)
  have KR2 : Hid (Blk U2 (w.heap.size + 1) [.slice none 0 0, .slice none 0 0, .slice none 0 0, .int .i64 0, .int .i64 0, .int .i64 0]) := hide (by rw [hU]; exact (unhide KR9).other (p := ⟨w.heap.size, 1, none⟩) (by show w.heap.size ≠ w.heap.size + 1; omega) _)
  have O2 : Hid (OwnE 3 crC U2 U1.heap.size 92 (.slice (some ⟨g2, 0, none⟩) cs.length p2) cs) := hide (by rw [hU]; exact (unhide O9).set_other _ (by intro e; have e1 : g2 = w.heap.size := Option.some.inj e; have h1 := unhide HBG2; have h2 := unhide S1; omega))
  have B2 : Hid (Below w.heap.size w U2) := hide (by rw [hU]; exact (unhide B9).setCell (p := ⟨w.heap.size, 1, none⟩) (by simp) _)
  have Z2 : Hid (U1.heap.size ≤ U2.heap.size) := hide (by have h1 := unhide Z9; omega)
  have O1 : Hid (OwnE 7 tsC U2 U0.heap.size 90 (.slice (some ⟨g1, 0, none⟩) ts.length p1) ts) := hide (by rw [hU]; exact (unhide O91).set_other _ (by intro e; have e1 : g1 = w.heap.size := Option.some.inj e; have h1 := unhide HBG1; have h2 := unhide S0; omega))
  have LG1 : Hid (g1 < U2.heap.size) := hide (by have h1 := unhide LG1; have h2 := unhide Z2; omega)
  rw [← hU]
  clear hU y1 y2 KP9 KR9 O9 B9 n1 n2 HV OV RV SV KPV KRV BV hsz Z9 HLG O91 OV1
  obtain ⟨V3, hV3⟩ : ∃ V, V = U2.alloc (Obj.cells #[] 94) := ⟨_, rfl⟩
  have bV : Below U2.heap.size U2 V3 := by rw [hV3]; exact bel1 _
  have OV : Hid (OwnE 3 dfC V3 U2.heap.size 94 (.slice (some ⟨U2.heap.size, 0, none⟩) 0 0) []) := hide (by rw [hV3]; exact ownE_none (Nat.le_refl _))
  have RV : Hid (RowE 3 dfC V3 a3 ds.length ds) := hide (((unhide HR).r3.below (unhide B2)).below bV)
  have SV : Hid (U2.heap.size ≤ V3.heap.size) := hide bV.size
  have KPV := hide ((unhide KP2).below bV)
  have KRV := hide ((unhide KR2).below bV)
  have BV := hide ((unhide B2).trans (bV.mono (unhide B2).size))
  have OV1 := hide ((unhide O1).below bV)
  have OV2 := hide ((unhide O2).below bV)
  have n1 : U2.cell? ⟨w.heap.size, 2, none⟩ = some (.slice a3 ds.length c3) := (unhide KP2).c 2 (by simp)
  have n2 : V3.cell? ⟨w.heap.size, 2, none⟩ = some (.slice a3 ds.length c3) := (unhide KPV).c 2 (by simp)
  have HV := hide hV3
  clear hV3 bV
  rw [unhide HV] at n2 OV RV SV KPV KRV BV OV1 OV2
  go_upto_region 4 with (at_builtin; (refine wpList_app_elsM (K := 3) (cells := dfC) (by kernel_rfl) _ _ 34 94 rfl Tryz.underlying34 infoDf rfl (by decide) (by decide) dfCell1' (unhide OV) rfl a3 ds.length c3 ds rfl (unhide RV) (by simp; omega) (unhide SV) ?_; intro v9 w9 o9 gr9 nn9; obtain ⟨g3, p3, rfl, hbg, hlg⟩ := fc_shape o9 nn9 (by simp); rw [List.nil_append] at o9; have hnp : some w.heap.size ≠ (Value.slice (some ⟨U2.heap.size, 0, none⟩) 0 0).ownBlock := (by have := unhide S2; simp [Value.ownBlock]; omega); have hnr : some (w.heap.size + 1) ≠ (Value.slice (some ⟨U2.heap.size, 0, none⟩) 0 0).ownBlock := (by have := unhide S2; simp [Value.ownBlock]; omega); have KP9 := hide ((unhide KPV).apart gr9 (fun e => hnp e)); have KR9 := hide ((unhide KRV).apart gr9 (fun e => hnr e)); have O9 := hide o9; have HBG3 := hide hbg; have HLG := hide hlg; have B9 := hide ((unhide BV).grown gr9 (unhide BV).size (fun q hq => by have := unhide S2; have e : U2.heap.size = q := Option.some.inj hq; omega)); have O91 := hide ((unhide OV1).far gr9 (fun q hq e => by have h1 := unhide LG1; have e1 : g1 = q := Option.some.inj hq; have e2 : q = U2.heap.size := Option.some.inj e; omega)); have O92 := hide ((unhide OV2).far gr9 (fun q hq e => by have h1 := unhide LG2; have e1 : g2 = q := Option.some.inj hq; have e2 : q = U2.heap.size := Option.some.inj e; omega)); have Z9 : Hid (U2.heap.size ≤ w9.heap.size) := hide (Nat.le_trans (unhide SV) gr9.size); have y1 : w9.cell? ⟨w.heap.size, 2, none⟩ = some (.slice a3 ds.length c3) := (unhide KP9).c 2 (by simp); have y2 : w9.frozen? ⟨w.heap.size, 2, none⟩ = false := (unhide KP9).f 2 (by simp); clear o9 gr9 nn9 hbg hlg hnp hnr))
  obtain ⟨U3, hU⟩ : ∃ U, U = w9.setCell ⟨w.heap.size, 2, none⟩ (.slice (some ⟨g3, 0, none⟩) ds.length p3) := ⟨_, rfl⟩
  have hsz : U3.heap.size = w9.heap.size := by rw [hU]; simp [World.setCell]
  have S3 : Hid (w.heap.size + 2 ≤ U3.heap.size) := hide (by have h1 := unhide Z9; have h2 := unhide S2; omega)
  have LG3 : Hid (g3 < U3.heap.size) := hide (by have h1 := unhide HLG; omega)
  have KP3 : Hid (Blk U3 w.heap.size [.slice (some ⟨g1, 0, none⟩) ts.length p1, .slice (some ⟨g2, 0, none⟩) cs.length p2, .slice (some ⟨g3, 0, none⟩) ds.length p3, .int .i64 nh, .int .i64 nc, .int .i64 nd]) := hide (by rw [hU]; exact (unhide KP9).set 2 (by simp) _)
  have KR3 : Hid (Blk U3 (w.heap.size + 1) [.slice none 0 0, .slice none 0 0, .slice none 0 0, .int .i64 0, .int .i64 0, .int .i64 0]) := hide (by rw [hU]; exact (unhide KR9).other (p := ⟨w.heap.size, 2, none⟩) (by show w.heap.size ≠ w.heap.size + 1; omega) _)
  have O3 : Hid (OwnE 3 dfC U3 U2.heap.size 94 (.slice (some ⟨g3, 0, none⟩) ds.length p3) ds) := hide (by rw [hU]; exact (unhide O9).set_other _ (by intro e; have e1 : g3 = w.heap.size := Option.some.inj e; have h1 := unhide HBG3; have h2 := unhide S2; omega))
  have B3 : Hid (Below w.heap.size w U3) := hide (by rw [hU]; exact (unhide B9).setCell (p := ⟨w.heap.size, 2, none⟩) (by simp) _)
  have Z3 : Hid (U2.heap.size ≤ U3.heap.size) := hide (by have h1 := unhide Z9; omega)
  have O1 : Hid (OwnE 7 tsC U3 U0.heap.size 90 (.slice (some ⟨g1, 0, none⟩) ts.length p1) ts) := hide (by rw [hU]; exact (unhide O91).set_other _ (by intro e; have e1 : g1 = w.heap.size := Option.some.inj e; have h1 := unhide HBG1; have h2 := unhide S0; omega))
  have LG1 : Hid (g1 < U3.heap.size) := hide (by have h1 := unhide LG1; have h2 := unhide Z3; omega)
  have O2 : Hid (OwnE 3 crC U3 U1.heap.size 92 (.slice (some ⟨g2, 0, none⟩) cs.length p2) cs) := hide (by rw [hU]; exact (unhide O92).set_other _ (by intro e; have e1 : g2 = w.heap.size := Option.some.inj e; have h1 := unhide HBG2; have h2 := unhide S1; omega))
  have LG2 : Hid (g2 < U3.heap.size) := hide (by have h1 := unhide LG2; have h2 := unhide Z3; omega)
  rw [← hU]
  clear hU y1 y2 KP9 KR9 O9 B9 n1 n2 HV OV RV SV KPV KRV BV hsz Z9 HLG O91 OV1 O92 OV2
  have q0 : U3.cell? ⟨w.heap.size, 0, none⟩ = some (.slice (some ⟨g1, 0, none⟩) ts.length p1) := (unhide KP3).c 0 (by simp)
  have q1 : U3.cell? ⟨w.heap.size, 1, none⟩ = some (.slice (some ⟨g2, 0, none⟩) cs.length p2) := (unhide KP3).c 1 (by simp)
  have q2 : U3.cell? ⟨w.heap.size, 2, none⟩ = some (.slice (some ⟨g3, 0, none⟩) ds.length p3) := (unhide KP3).c 2 (by simp)
  have q3 : U3.cell? ⟨w.heap.size, 3, none⟩ = some (.int .i64 nh) := (unhide KP3).c 3 (by simp)
  have q4 : U3.cell? ⟨w.heap.size, 4, none⟩ = some (.int .i64 nc) := (unhide KP3).c 4 (by simp)
  have q5 : U3.cell? ⟨w.heap.size, 5, none⟩ = some (.int .i64 nd) := (unhide KP3).c 5 (by simp)
  go_wp2_with (((with_reducible show wpList _ _ _ (⟨none, .store 37 _ _, _, _, _, none⟩ :: _) _ _); refine at_storeAgg (us := [.slice none 0 0, .slice none 0 0, .slice none 0 0, .int .i64 0, .int .i64 0, .int .i64 0]) (vs := [.slice (some ⟨g1, 0, none⟩) ts.length p1, .slice (some ⟨g2, 0, none⟩) cs.length p2, .slice (some ⟨g3, 0, none⟩) ds.length p3, .int .i64 nh, .int .i64 nc, .int .i64 nd]) Tryz.sizeOf37 rfl rfl (unhide KR3) rfl (fun v hv => by simp at hv; rcases hv with rfl | rfl | rfl | rfl | rfl | rfl <;> rfl) ?_; intro w2 k2 g9; have K2 := hide k2; have G2 := hide g9; clear k2 g9))
  refine bodyPost_ret (results_cell (vs := [.slice (some ⟨g1, 0, none⟩) ts.length p1, .slice (some ⟨g2, 0, none⟩) cs.length p2, .slice (some ⟨g3, 0, none⟩) ds.length p3, .int .i64 nh, .int .i64 nc, .int .i64 nd]) rfl Tryz.isAgg37 Tryz.sizeOf37 rfl (unhide K2)) rfl ⟨g1, p1, g2, p2, g3, p3, rfl, ?_, ?_⟩
  · have s0 := unhide S0
    have s1 := unhide Z1
    have s2 := unhide Z2
    have b1 := unhide HBG1
    have b2 := unhide HBG2
    have b3 := unhide HBG3
    have x1 := unhide LK1
    have x2 := unhide LK2
    exact ⟨((unhide O1).far (unhide G2) (fun q hq e => by have e1 : g1 = q := Option.some.inj hq; have e2 : q = w.heap.size + 1 := Option.some.inj e; omega)).mono (by omega), ((unhide O2).far (unhide G2) (fun q hq e => by have e1 : g2 = q := Option.some.inj hq; have e2 : q = w.heap.size + 1 := Option.some.inj e; omega)).mono (by omega), ((unhide O3).far (unhide G2) (fun q hq e => by have e1 : g3 = q := Option.some.inj hq; have e2 : q = w.heap.size + 1 := Option.some.inj e; omega)).mono (by omega), (fun q h1 h2 => by have e1 : g1 = q := Option.some.inj h1; have e2 : g2 = q := Option.some.inj h2; omega), (fun q h1 h2 => by have e1 : g1 = q := Option.some.inj h1; have e2 : g3 = q := Option.some.inj h2; omega), (fun q h1 h2 => by have e1 : g2 = q := Option.some.inj h1; have e2 : g3 = q := Option.some.inj h2; omega)⟩
  · exact (unhide B3).grown (unhide G2) (unhide B3).size (fun q hq => by have e : w.heap.size + 1 = q := Option.some.inj hq; omega)
set_option maxRecDepth 20000 in
set_option maxHeartbeats 4000000 in
theorem l19Copy_any (nh nc nd : Int) (a1 a2 a3 : Option Addr) (l1 c1 l2 c2 l3 c3 : Nat) (ts : List Ts) (cs : List Cr) (ds : List Df) (w : World) (hr : FlIn w a1 a2 a3 l1 l2 l3 ts cs ds) (m1 : l1 ≤ 1048600) (m2 : l2 ≤ 1048600) (m3 : l3 ≤ 1048600) :
    Calls Tryz.prog 22 #[.agg #[.slice a1 l1 c1, .slice a2 l2 c2, .slice a3 l3 c3, .int .i64 nh, .int .i64 nc, .int .i64 nd]] w fun e w' => ∃ g1 p1 g2 p2 g3 p3 : Nat, e = .returned (.agg #[.slice (some ⟨g1, 0, none⟩) ts.length p1, .slice (some ⟨g2, 0, none⟩) cs.length p2, .slice (some ⟨g3, 0, none⟩) ds.length p3, .int .i64 nh, .int .i64 nc, .int .i64 nd]) ∧ FlOwn w' w.heap.size (some ⟨g1, 0, none⟩) (some ⟨g2, 0, none⟩) (some ⟨g3, 0, none⟩) ts.length p1 cs.length p2 ds.length p3 ts cs ds ∧ Below w.heap.size w w' := by
  have z1 := hr.r1.len_eq
  have z2 := hr.r2.len_eq
  have z3 := hr.r3.len_eq
  subst z1
  subst z2
  subst z3
  have HR := hide hr
  clear hr
  obtain ⟨U0, hU0⟩ : ∃ W, W = (w.alloc (Obj.cells #[.slice a1 ts.length c1, .slice a2 cs.length c2, .slice a3 ds.length c3, .int .i64 nh, .int .i64 nc, .int .i64 nd] 37)).alloc (Obj.cells #[.slice none 0 0, .slice none 0 0, .slice none 0 0, .int .i64 0, .int .i64 0, .int .i64 0] 37) := ⟨_, rfl⟩
  have S0 : Hid (w.heap.size + 2 ≤ U0.heap.size) := hide (by rw [hU0]; simp)
  have KP0 : Hid (Blk U0 w.heap.size [.slice a1 ts.length c1, .slice a2 cs.length c2, .slice a3 ds.length c3, .int .i64 nh, .int .i64 nc, .int .i64 nd]) := hide (by rw [hU0]; exact blkAt2_0)
  have KR0 : Hid (Blk U0 (w.heap.size + 1) [.slice none 0 0, .slice none 0 0, .slice none 0 0, .int .i64 0, .int .i64 0, .int .i64 0]) := hide (by rw [hU0]; exact blkAt2_1)
  have B0 : Hid (Below w.heap.size w U0) := hide (by rw [hU0]; exact bel2 _ _)
  have HU0 := hide hU0
  clear hU0
  go_enter Tryz.func22, Tryz.ntmps22
  go_upto_region 1 with fail
  rw [← unhide HU0]
  clear HU0
  obtain ⟨V1, hV1⟩ : ∃ V, V = U0.alloc (Obj.cells #[] 90) := ⟨_, rfl⟩
  have bV : Below U0.heap.size U0 V1 := by rw [hV1]; exact bel1 _
  have OV : Hid (OwnE 7 tsC V1 U0.heap.size 90 (.slice (some ⟨U0.heap.size, 0, none⟩) 0 0) []) := hide (by rw [hV1]; exact ownE_none (Nat.le_refl _))
  have RV : Hid (RowE 7 tsC V1 a1 ts.length ts) := hide (((unhide HR).r1.below (unhide B0)).below bV)
  have SV : Hid (U0.heap.size ≤ V1.heap.size) := hide bV.size
  have KPV := hide ((unhide KP0).below bV)
  have KRV := hide ((unhide KR0).below bV)
  have BV := hide ((unhide B0).trans (bV.mono (unhide B0).size))
  have n1 : U0.cell? ⟨w.heap.size, 0, none⟩ = some (.slice a1 ts.length c1) := (unhide KP0).c 0 (by simp)
  have n2 : V1.cell? ⟨w.heap.size, 0, none⟩ = some (.slice a1 ts.length c1) := (unhide KPV).c 0 (by simp)
  have HV := hide hV1
  clear hV1 bV
  rw [unhide HV] at n2 OV RV SV KPV KRV BV
  go_upto_region 2 with (at_builtin; (refine wpList_app_elsM (K := 7) (cells := tsC) (by kernel_rfl) _ _ 32 90 rfl Tryz.underlying32 infoTs rfl (by decide) (by decide) tsCell1' (unhide OV) rfl a1 ts.length c1 ts rfl (unhide RV) (by simp; omega) (unhide SV) ?_; intro v9 w9 o9 gr9 nn9; obtain ⟨g1, p1, rfl, hbg, hlg⟩ := fc_shape o9 nn9 (by simp); rw [List.nil_append] at o9; have hnp : some w.heap.size ≠ (Value.slice (some ⟨U0.heap.size, 0, none⟩) 0 0).ownBlock := (by have := unhide S0; simp [Value.ownBlock]; omega); have hnr : some (w.heap.size + 1) ≠ (Value.slice (some ⟨U0.heap.size, 0, none⟩) 0 0).ownBlock := (by have := unhide S0; simp [Value.ownBlock]; omega); have KP9 := hide ((unhide KPV).apart gr9 (fun e => hnp e)); have KR9 := hide ((unhide KRV).apart gr9 (fun e => hnr e)); have O9 := hide o9; have HBG1 := hide hbg; have HLG := hide hlg; have B9 := hide ((unhide BV).grown gr9 (unhide BV).size (fun q hq => by have := unhide S0; have e : U0.heap.size = q := Option.some.inj hq; omega)); have Z9 : Hid (U0.heap.size ≤ w9.heap.size) := hide (Nat.le_trans (unhide SV) gr9.size); have y1 : w9.cell? ⟨w.heap.size, 0, none⟩ = some (.slice a1 ts.length c1) := (unhide KP9).c 0 (by simp); have y2 : w9.frozen? ⟨w.heap.size, 0, none⟩ = false := (unhide KP9).f 0 (by simp); clear o9 gr9 nn9 hbg hlg hnp hnr))
  obtain ⟨U1, hU⟩ : ∃ U, U = w9.setCell ⟨w.heap.size, 0, none⟩ (.slice (some ⟨g1, 0, none⟩) ts.length p1) := ⟨_, rfl⟩
  have hsz : U1.heap.size = w9.heap.size := by rw [hU]; simp [World.setCell]
  have S1 : Hid (w.heap.size + 2 ≤ U1.heap.size) := hide (by have h1 := unhide Z9; have h2 := unhide S0; omega)
  have LG1 : Hid (g1 < U1.heap.size) := hide (by have h1 := unhide HLG; omega)
  have LK1 := LG1
  have KP1 : Hid (Blk U1 w.heap.size [.slice (some ⟨g1, 0, none⟩) ts.length p1, .slice a2 cs.length c2, .slice a3 ds.length c3, .int .i64 nh, .int .i64 nc, .int .i64 nd]) := hide (by rw [hU]; exact (unhide KP9).set 0 (by simp) _)
  have KR1 : Hid (Blk U1 (w.heap.size + 1) [.slice none 0 0, .slice none 0 0, .slice none 0 0, .int .i64 0, .int .i64 0, .int .i64 0]) := hide (by rw [hU]; exact (unhide KR9).other (p := ⟨w.heap.size, 0, none⟩) (by show w.heap.size ≠ w.heap.size + 1; omega) _)
  have O1 : Hid (OwnE 7 tsC U1 U0.heap.size 90 (.slice (some ⟨g1, 0, none⟩) ts.length p1) ts) := hide (by rw [hU]; exact (unhide O9).set_other _ (by intro e; have e1 : g1 = w.heap.size := Option.some.inj e; have h1 := unhide HBG1; have h2 := unhide S0; omega))
  have B1 : Hid (Below w.heap.size w U1) := hide (by rw [hU]; exact (unhide B9).setCell (p := ⟨w.heap.size, 0, none⟩) (by simp) _)
  have Z1 : Hid (U0.heap.size ≤ U1.heap.size) := hide (by have h1 := unhide Z9; omega)
  rw [← hU]
  clear hU y1 y2 KP9 KR9 O9 B9 n1 n2 HV OV RV SV KPV KRV BV hsz Z9 HLG
  obtain ⟨V2, hV2⟩ : ∃ V, V = U1.alloc (Obj.cells #[] 92) := ⟨_, rfl⟩
  have bV : Below U1.heap.size U1 V2 := by rw [hV2]; exact bel1 _
  have OV : Hid (OwnE 3 crC V2 U1.heap.size 92 (.slice (some ⟨U1.heap.size, 0, none⟩) 0 0) []) := hide (by rw [hV2]; exact ownE_none (Nat.le_refl _))
  have RV : Hid (RowE 3 crC V2 a2 cs.length cs) := hide (((unhide HR).r2.below (unhide B1)).below bV)
  have SV : Hid (U1.heap.size ≤ V2.heap.size) := hide bV.size
  have KPV := hide ((unhide KP1).below bV)
  have KRV := hide ((unhide KR1).below bV)
  have BV := hide ((unhide B1).trans (bV.mono (unhide B1).size))
  have OV1 := hide ((unhide O1).below bV)
  have n1 : U1.cell? ⟨w.heap.size, 1, none⟩ = some (.slice a2 cs.length c2) := (unhide KP1).c 1 (by simp)
  have n2 : V2.cell? ⟨w.heap.size, 1, none⟩ = some (.slice a2 cs.length c2) := (unhide KPV).c 1 (by simp)
  have HV := hide hV2
  clear hV2 bV
  rw [unhide HV] at n2 OV RV SV KPV KRV BV OV1
  go_upto_region 3 with (at_builtin; (refine wpList_app_elsM (K := 3) (cells := crC) (by kernel_rfl) _ _ 33 92 rfl Tryz.underlying33 infoCr rfl (by decide) (by decide) crCell1' (unhide OV) rfl a2 cs.length c2 cs rfl (unhide RV) (by simp; omega) (unhide SV) ?_; intro v9 w9 o9 gr9 nn9; obtain ⟨g2, p2, rfl, hbg, hlg⟩ := fc_shape o9 nn9 (by simp); rw [List.nil_append] at o9; have hnp : some w.heap.size ≠ (Value.slice (some ⟨U1.heap.size, 0, none⟩) 0 0).ownBlock := (by have := unhide S1; simp [Value.ownBlock]; omega); have hnr : some (w.heap.size + 1) ≠ (Value.slice (some ⟨U1.heap.size, 0, none⟩) 0 0).ownBlock := (by have := unhide S1; simp [Value.ownBlock]; omega); have KP9 := hide ((unhide KPV).apart gr9 (fun e => hnp e)); have KR9 := hide ((unhide KRV).apart gr9 (fun e => hnr e)); have O9 := hide o9; have HBG2 := hide hbg; have HLG := hide hlg; have B9 := hide ((unhide BV).grown gr9 (unhide BV).size (fun q hq => by have := unhide S1; have e : U1.heap.size = q := Option.some.inj hq; omega)); have O91 := hide ((unhide OV1).far gr9 (fun q hq e => by have h1 := unhide LG1; have e1 : g1 = q := Option.some.inj hq; have e2 : q = U1.heap.size := Option.some.inj e; omega)); have Z9 : Hid (U1.heap.size ≤ w9.heap.size) := hide (Nat.le_trans (unhide SV) gr9.size); have y1 : w9.cell? ⟨w.heap.size, 1, none⟩ = some (.slice a2 cs.length c2) := (unhide KP9).c 1 (by simp); have y2 : w9.frozen? ⟨w.heap.size, 1, none⟩ = false := (unhide KP9).f 1 (by simp); clear o9 gr9 nn9 hbg hlg hnp hnr))
  obtain ⟨U2, hU⟩ : ∃ U, U = w9.setCell ⟨w.heap.size, 1, none⟩ (.slice (some ⟨g2, 0, none⟩) cs.length p2) := ⟨_, rfl⟩
  have hsz : U2.heap.size = w9.heap.size := by rw [hU]; simp [World.setCell]
  have S2 : Hid (w.heap.size + 2 ≤ U2.heap.size) := hide (by have h1 := unhide Z9; have h2 := unhide S1; omega)
  have LG2 : Hid (g2 < U2.heap.size) := hide (by have h1 := unhide HLG; omega)
  have LK2 := LG2
  have KP2 : Hid (Blk U2 w.heap.size [.slice (some ⟨g1, 0, none⟩) ts.length p1, .slice (some ⟨g2, 0, none⟩) cs.length p2, .slice a3 ds.length c3, .int .i64 nh, .int .i64 nc, .int .i64 nd]) := hide (by rw [hU]; exact (unhide KP9).set 1 (by simp) _)
  have KR2 : Hid (Blk U2 (w.heap.size + 1) [.slice none 0 0, .slice none 0 0, .slice none 0 0, .int .i64 0, .int .i64 0, .int .i64 0]) := hide (by rw [hU]; exact (unhide KR9).other (p := ⟨w.heap.size, 1, none⟩) (by show w.heap.size ≠ w.heap.size + 1; omega) _)
  have O2 : Hid (OwnE 3 crC U2 U1.heap.size 92 (.slice (some ⟨g2, 0, none⟩) cs.length p2) cs) := hide (by rw [hU]; exact (unhide O9).set_other _ (by intro e; have e1 : g2 = w.heap.size := Option.some.inj e; have h1 := unhide HBG2; have h2 := unhide S1; omega))
  have B2 : Hid (Below w.heap.size w U2) := hide (by rw [hU]; exact (unhide B9).setCell (p := ⟨w.heap.size, 1, none⟩) (by simp) _)
  have Z2 : Hid (U1.heap.size ≤ U2.heap.size) := hide (by have h1 := unhide Z9; omega)
  have O1 : Hid (OwnE 7 tsC U2 U0.heap.size 90 (.slice (some ⟨g1, 0, none⟩) ts.length p1) ts) := hide (by rw [hU]; exact (unhide O91).set_other _ (by intro e; have e1 : g1 = w.heap.size := Option.some.inj e; have h1 := unhide HBG1; have h2 := unhide S0; omega))
  have LG1 : Hid (g1 < U2.heap.size) := hide (by have h1 := unhide LG1; have h2 := unhide Z2; omega)
  rw [← hU]
  clear hU y1 y2 KP9 KR9 O9 B9 n1 n2 HV OV RV SV KPV KRV BV hsz Z9 HLG O91 OV1
  obtain ⟨V3, hV3⟩ : ∃ V, V = U2.alloc (Obj.cells #[] 94) := ⟨_, rfl⟩
  have bV : Below U2.heap.size U2 V3 := by rw [hV3]; exact bel1 _
  have OV : Hid (OwnE 3 dfC V3 U2.heap.size 94 (.slice (some ⟨U2.heap.size, 0, none⟩) 0 0) []) := hide (by rw [hV3]; exact ownE_none (Nat.le_refl _))
  have RV : Hid (RowE 3 dfC V3 a3 ds.length ds) := hide (((unhide HR).r3.below (unhide B2)).below bV)
  have SV : Hid (U2.heap.size ≤ V3.heap.size) := hide bV.size
  have KPV := hide ((unhide KP2).below bV)
  have KRV := hide ((unhide KR2).below bV)
  have BV := hide ((unhide B2).trans (bV.mono (unhide B2).size))
  have OV1 := hide ((unhide O1).below bV)
  have OV2 := hide ((unhide O2).below bV)
  have n1 : U2.cell? ⟨w.heap.size, 2, none⟩ = some (.slice a3 ds.length c3) := (unhide KP2).c 2 (by simp)
  have n2 : V3.cell? ⟨w.heap.size, 2, none⟩ = some (.slice a3 ds.length c3) := (unhide KPV).c 2 (by simp)
  have HV := hide hV3
  clear hV3 bV
  rw [unhide HV] at n2 OV RV SV KPV KRV BV OV1 OV2
  go_upto_region 4 with (at_builtin; (refine wpList_app_elsM (K := 3) (cells := dfC) (by kernel_rfl) _ _ 34 94 rfl Tryz.underlying34 infoDf rfl (by decide) (by decide) dfCell1' (unhide OV) rfl a3 ds.length c3 ds rfl (unhide RV) (by simp; omega) (unhide SV) ?_; intro v9 w9 o9 gr9 nn9; obtain ⟨g3, p3, rfl, hbg, hlg⟩ := fc_shape o9 nn9 (by simp); rw [List.nil_append] at o9; have hnp : some w.heap.size ≠ (Value.slice (some ⟨U2.heap.size, 0, none⟩) 0 0).ownBlock := (by have := unhide S2; simp [Value.ownBlock]; omega); have hnr : some (w.heap.size + 1) ≠ (Value.slice (some ⟨U2.heap.size, 0, none⟩) 0 0).ownBlock := (by have := unhide S2; simp [Value.ownBlock]; omega); have KP9 := hide ((unhide KPV).apart gr9 (fun e => hnp e)); have KR9 := hide ((unhide KRV).apart gr9 (fun e => hnr e)); have O9 := hide o9; have HBG3 := hide hbg; have HLG := hide hlg; have B9 := hide ((unhide BV).grown gr9 (unhide BV).size (fun q hq => by have := unhide S2; have e : U2.heap.size = q := Option.some.inj hq; omega)); have O91 := hide ((unhide OV1).far gr9 (fun q hq e => by have h1 := unhide LG1; have e1 : g1 = q := Option.some.inj hq; have e2 : q = U2.heap.size := Option.some.inj e; omega)); have O92 := hide ((unhide OV2).far gr9 (fun q hq e => by have h1 := unhide LG2; have e1 : g2 = q := Option.some.inj hq; have e2 : q = U2.heap.size := Option.some.inj e; omega)); have Z9 : Hid (U2.heap.size ≤ w9.heap.size) := hide (Nat.le_trans (unhide SV) gr9.size); have y1 : w9.cell? ⟨w.heap.size, 2, none⟩ = some (.slice a3 ds.length c3) := (unhide KP9).c 2 (by simp); have y2 : w9.frozen? ⟨w.heap.size, 2, none⟩ = false := (unhide KP9).f 2 (by simp); clear o9 gr9 nn9 hbg hlg hnp hnr))
  obtain ⟨U3, hU⟩ : ∃ U, U = w9.setCell ⟨w.heap.size, 2, none⟩ (.slice (some ⟨g3, 0, none⟩) ds.length p3) := ⟨_, rfl⟩
  have hsz : U3.heap.size = w9.heap.size := by rw [hU]; simp [World.setCell]
  have S3 : Hid (w.heap.size + 2 ≤ U3.heap.size) := hide (by have h1 := unhide Z9; have h2 := unhide S2; omega)
  have LG3 : Hid (g3 < U3.heap.size) := hide (by have h1 := unhide HLG; omega)
  have KP3 : Hid (Blk U3 w.heap.size [.slice (some ⟨g1, 0, none⟩) ts.length p1, .slice (some ⟨g2, 0, none⟩) cs.length p2, .slice (some ⟨g3, 0, none⟩) ds.length p3, .int .i64 nh, .int .i64 nc, .int .i64 nd]) := hide (by rw [hU]; exact (unhide KP9).set 2 (by simp) _)
  have KR3 : Hid (Blk U3 (w.heap.size + 1) [.slice none 0 0, .slice none 0 0, .slice none 0 0, .int .i64 0, .int .i64 0, .int .i64 0]) := hide (by rw [hU]; exact (unhide KR9).other (p := ⟨w.heap.size, 2, none⟩) (by show w.heap.size ≠ w.heap.size + 1; omega) _)
  have O3 : Hid (OwnE 3 dfC U3 U2.heap.size 94 (.slice (some ⟨g3, 0, none⟩) ds.length p3) ds) := hide (by rw [hU]; exact (unhide O9).set_other _ (by intro e; have e1 : g3 = w.heap.size := Option.some.inj e; have h1 := unhide HBG3; have h2 := unhide S2; omega))
  have B3 : Hid (Below w.heap.size w U3) := hide (by rw [hU]; exact (unhide B9).setCell (p := ⟨w.heap.size, 2, none⟩) (by simp) _)
  have Z3 : Hid (U2.heap.size ≤ U3.heap.size) := hide (by have h1 := unhide Z9; omega)
  have O1 : Hid (OwnE 7 tsC U3 U0.heap.size 90 (.slice (some ⟨g1, 0, none⟩) ts.length p1) ts) := hide (by rw [hU]; exact (unhide O91).set_other _ (by intro e; have e1 : g1 = w.heap.size := Option.some.inj e; have h1 := unhide HBG1; have h2 := unhide S0; omega))
  have LG1 : Hid (g1 < U3.heap.size) := hide (by have h1 := unhide LG1; have h2 := unhide Z3; omega)
  have O2 : Hid (OwnE 3 crC U3 U1.heap.size 92 (.slice (some ⟨g2, 0, none⟩) cs.length p2) cs) := hide (by rw [hU]; exact (unhide O92).set_other _ (by intro e; have e1 : g2 = w.heap.size := Option.some.inj e; have h1 := unhide HBG2; have h2 := unhide S1; omega))
  have LG2 : Hid (g2 < U3.heap.size) := hide (by have h1 := unhide LG2; have h2 := unhide Z3; omega)
  rw [← hU]
  clear hU y1 y2 KP9 KR9 O9 B9 n1 n2 HV OV RV SV KPV KRV BV hsz Z9 HLG O91 OV1 O92 OV2
  have q0 : U3.cell? ⟨w.heap.size, 0, none⟩ = some (.slice (some ⟨g1, 0, none⟩) ts.length p1) := (unhide KP3).c 0 (by simp)
  have q1 : U3.cell? ⟨w.heap.size, 1, none⟩ = some (.slice (some ⟨g2, 0, none⟩) cs.length p2) := (unhide KP3).c 1 (by simp)
  have q2 : U3.cell? ⟨w.heap.size, 2, none⟩ = some (.slice (some ⟨g3, 0, none⟩) ds.length p3) := (unhide KP3).c 2 (by simp)
  have q3 : U3.cell? ⟨w.heap.size, 3, none⟩ = some (.int .i64 nh) := (unhide KP3).c 3 (by simp)
  have q4 : U3.cell? ⟨w.heap.size, 4, none⟩ = some (.int .i64 nc) := (unhide KP3).c 4 (by simp)
  have q5 : U3.cell? ⟨w.heap.size, 5, none⟩ = some (.int .i64 nd) := (unhide KP3).c 5 (by simp)
  go_wp2_with (((with_reducible show wpList _ _ _ (⟨none, .store 37 _ _, _, _, _, none⟩ :: _) _ _); refine at_storeAgg (us := [.slice none 0 0, .slice none 0 0, .slice none 0 0, .int .i64 0, .int .i64 0, .int .i64 0]) (vs := [.slice (some ⟨g1, 0, none⟩) ts.length p1, .slice (some ⟨g2, 0, none⟩) cs.length p2, .slice (some ⟨g3, 0, none⟩) ds.length p3, .int .i64 nh, .int .i64 nc, .int .i64 nd]) Tryz.sizeOf37 rfl rfl (unhide KR3) rfl (fun v hv => by simp at hv; rcases hv with rfl | rfl | rfl | rfl | rfl | rfl <;> rfl) ?_; intro w2 k2 g9; have K2 := hide k2; have G2 := hide g9; clear k2 g9))
  refine bodyPost_ret (results_cell (vs := [.slice (some ⟨g1, 0, none⟩) ts.length p1, .slice (some ⟨g2, 0, none⟩) cs.length p2, .slice (some ⟨g3, 0, none⟩) ds.length p3, .int .i64 nh, .int .i64 nc, .int .i64 nd]) rfl Tryz.isAgg37 Tryz.sizeOf37 rfl (unhide K2)) rfl ⟨g1, p1, g2, p2, g3, p3, rfl, ?_, ?_⟩
  · have s0 := unhide S0
    have s1 := unhide Z1
    have s2 := unhide Z2
    have b1 := unhide HBG1
    have b2 := unhide HBG2
    have b3 := unhide HBG3
    have x1 := unhide LK1
    have x2 := unhide LK2
    exact ⟨((unhide O1).far (unhide G2) (fun q hq e => by have e1 : g1 = q := Option.some.inj hq; have e2 : q = w.heap.size + 1 := Option.some.inj e; omega)).mono (by omega), ((unhide O2).far (unhide G2) (fun q hq e => by have e1 : g2 = q := Option.some.inj hq; have e2 : q = w.heap.size + 1 := Option.some.inj e; omega)).mono (by omega), ((unhide O3).far (unhide G2) (fun q hq e => by have e1 : g3 = q := Option.some.inj hq; have e2 : q = w.heap.size + 1 := Option.some.inj e; omega)).mono (by omega), (fun q h1 h2 => by have e1 : g1 = q := Option.some.inj h1; have e2 : g2 = q := Option.some.inj h2; omega), (fun q h1 h2 => by have e1 : g1 = q := Option.some.inj h1; have e2 : g3 = q := Option.some.inj h2; omega), (fun q h1 h2 => by have e1 : g2 = q := Option.some.inj h1; have e2 : g3 = q := Option.some.inj h2; omega)⟩
  · exact (unhide B3).grown (unhide G2) (unhide B3).size (fun q hq => by have e : w.heap.size + 1 = q := Option.some.inj hq; omega)

end Go.Proofs.YticdccdkjepifaaGreat

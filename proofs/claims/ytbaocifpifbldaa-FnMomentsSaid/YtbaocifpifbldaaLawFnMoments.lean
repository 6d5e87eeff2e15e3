/-
  The law FnMoments returns true at every list of bytes and writes nothing that was there: the walk. No condition.
-/
import Derived.Test.YtbaocifpifbldaaAtFix
import Derived.Test.YtbaocifpifbldaaKeeps
import Derived.Test.YtbaocifpifbldaaSumImpl
import Derived.Test.YtbaocifpifbldaaInsImpl2
import Derived.Test.YtbaocifpifbldaaMomFacts
namespace Go.Proofs.Ytbaocifpifbldaa
open Go.RowKit

theorem infoIt : (Try.prog.info? 52).map (fun i => (i.zero, i.size, i.bytes)) = some (some (.agg #[.int .i64 0, .int .i64 0]), 2, 16) := by kernel_rfl
/-- A sum in a block of its own. -/
structure Sm (w : World) (B : Nat) (x y : Int) : Prop where
  c0 : w.cell? ⟨B, 0, none⟩ = some (.int .i64 x)
  c1 : w.cell? ⟨B, 1, none⟩ = some (.int .i64 y)
  lt : B < w.heap.size
theorem Sm.below {w w' : World} {B : Nat} {x y : Int} (h : Sm w B x y) (k : Below w.heap.size w w') : Sm w' B x y :=
  ⟨(k.cell (p := ⟨B, 0, none⟩) h.lt).trans h.c0, (k.cell (p := ⟨B, 1, none⟩) h.lt).trans h.c1, Nat.lt_of_lt_of_le h.lt k.size⟩
theorem Sm.new (w : World) (x y : Int) (T : TypeId) : Sm (w.alloc (Obj.cells #[.int .i64 x, .int .i64 y] T)) w.heap.size x y := ⟨by simp [go_sem], by simp [go_sem], by simp⟩
theorem row2_one (w : World) (x y : Int) (T : TypeId) (hx : -9223372036854775808 ≤ x ∧ x ≤ 9223372036854775807) (hy : -9223372036854775808 ≤ y ∧ y ≤ 9223372036854775807) : Row2 (w.alloc (Obj.cells #[.int .i64 x, .int .i64 y] T)) (some ⟨w.heap.size, 0, none⟩) 1 [(x, y)] := by
  refine ⟨rfl, by omega, fun i hi => ⟨_, _, rfl, ?_, ?_⟩, fun i => ?_⟩
  · obtain rfl : i = 0 := by omega
    simp [fstAt, go_sem]
  · obtain rfl : i = 0 := by omega
    simp [sndAt, go_sem]
  · rcases i with _ | i
    · exact ⟨hx, hy⟩
    · simp [fstAt, sndAt]

/-- The law's own envelope: three lists of two numbers and the block that holds them. -/
theorem env_lit (V : World) (G : Nat) (T S : TypeId) (hG : V.heap.size = G) : ∃ V6, V6 = ((((V.alloc (Obj.cells #[.int .i64 1, .int .i64 300000] T)).alloc (Obj.cells #[.int .i64 (-20), .int .i64 (-20)] T)).alloc (Obj.cells #[.int .i64 30, .int .i64 30] T)).alloc (Obj.cells #[.slice (some ⟨G, 0, none⟩) 2 2, .slice (some ⟨G + 1, 0, none⟩) 2 2, .slice (some ⟨G + 1 + 1, 0, none⟩) 2 2] S)) ∧ Below V.heap.size V V6 ∧
    Row V6 (some ⟨G, 0, none⟩) 2 [1, 300000] ∧ Row V6 (some ⟨G + 1, 0, none⟩) 2 [-20, -20] ∧ Row V6 (some ⟨G + 1 + 1, 0, none⟩) 2 [30, 30] ∧
    V6.cell? ⟨G + 1 + 1 + 1, 0, none⟩ = some (.slice (some ⟨G, 0, none⟩) 2 2) ∧ V6.cell? ⟨G + 1 + 1 + 1, 1, none⟩ = some (.slice (some ⟨G + 1, 0, none⟩) 2 2) ∧ V6.cell? ⟨G + 1 + 1 + 1, 2, none⟩ = some (.slice (some ⟨G + 1 + 1, 0, none⟩) 2 2) ∧ V6.heap.size = G + 1 + 1 + 1 + 1 := by
  subst hG
  refine ⟨_, rfl, ?_, ?_, ?_, ?_, ?_, ?_, ?_, ?_⟩
  · exact ((((Below.refl _ _).alloc (Nat.le_refl _) _).alloc (by simp) _).alloc (by simp; omega) _).alloc (by simp; omega) _
  · have h : Row (V.alloc (Obj.cells #[.int .i64 1, .int .i64 300000] T)) (some ⟨V.heap.size, 0, none⟩) 2 [1, 300000] := row_lit V [1, 300000] T (by decide) (by simp)
    exact ((h.alloc _).alloc _).alloc _
  · have h : ∀ X : World, Row (X.alloc (Obj.cells #[.int .i64 (-20), .int .i64 (-20)] T)) (some ⟨X.heap.size, 0, none⟩) 2 [-20, -20] := fun X => row_lit X [-20, -20] T (by decide) (by simp)
    have := ((h (V.alloc (Obj.cells #[.int .i64 1, .int .i64 300000] T))).alloc (Obj.cells #[.int .i64 30, .int .i64 30] T)).alloc (Obj.cells #[.slice (some ⟨V.heap.size, 0, none⟩) 2 2, .slice (some ⟨V.heap.size + 1, 0, none⟩) 2 2, .slice (some ⟨V.heap.size + 1 + 1, 0, none⟩) 2 2] S)
    simpa using this
  · have h : ∀ X : World, Row (X.alloc (Obj.cells #[.int .i64 30, .int .i64 30] T)) (some ⟨X.heap.size, 0, none⟩) 2 [30, 30] := fun X => row_lit X [30, 30] T (by decide) (by simp)
    have := (h ((V.alloc (Obj.cells #[.int .i64 1, .int .i64 300000] T)).alloc (Obj.cells #[.int .i64 (-20), .int .i64 (-20)] T))).alloc (Obj.cells #[.slice (some ⟨V.heap.size, 0, none⟩) 2 2, .slice (some ⟨V.heap.size + 1, 0, none⟩) 2 2, .slice (some ⟨V.heap.size + 1 + 1, 0, none⟩) 2 2] S)
    simpa using this
  · simp [go_sem]
  · simp [go_sem]
  · simp [go_sem]
  · simp

set_option maxRecDepth 20000 in
set_option maxHeartbeats 1000000 in
theorem lawFnMoments_big (a : Option Addr) (len cap : Nat) (w : World) (h : (1048576 : Int) < len) :
    Calls Try.prog 6 #[.slice a len cap] w fun e w' => e = .returned (.bool true) ∧ Below w.heap.size w w' := by
  have hd : decide ((1048576 : Int) < len) = true := by simpa using h
  go_enter Try.func6, Try.ntmps6
  go_wp2_with fail
  refine (big_any a len cap _).mono ?_
  rintro e w' ⟨rfl, hw⟩
  subst w'
  rw [hd]
  go_wp2
  go_ret
  exact ⟨rfl, Below.refl _ _⟩

set_option maxRecDepth 20000 in
set_option maxHeartbeats 1000000 in
theorem lawFnMoments_small (a : Option Addr) (len cap : Nat) (w : World) (h : ¬ (1048576 : Int) < len) (hb : Bytes w a len) :
    Calls Try.prog 6 #[.slice a len cap] w fun e w' => e = .returned (.bool true) ∧ Below w.heap.size w w' := by
  have hd0 : decide ((1048576 : Int) < len) = false := by simpa using h
  have HY := hide hb
  have HL : Hid (len ≤ 1048576) := hide (by omega)
  obtain ⟨x0, hx0, hat⟩ := at_fix a len cap 0 w hb (by omega) (by omega)
  have HAT := hide hat
  obtain ⟨n0, hn0⟩ : ∃ n0 : Nat, x0 % 12 = n0 := ⟨(x0 % 12).toNat, by omega⟩
  have h12 : n0 ≤ 11 := by omega
  have HN0 := hide hn0
  clear hb h hat hn0
  have B0 := hide (bel1 (w := w) (Obj.cells #[] 52))
  have O0 := hide (own2_empty w 52 (Nat.le_refl w.heap.size))
  go_enter Try.func6, Try.ntmps6
  go_wp2_with fail
  refine (big_any a len cap _).mono ?_
  rintro e w' ⟨rfl, hw⟩
  subst w'
  rw [hd0]
  clear hd0
  go_wp2_with fail
  go_loopw [3, 4] (fun tk i wr => ∃ (T : List (Int × Int)) (g cc : Nat), tk = .slice (some ⟨g, 0, none⟩) T.length cc ∧ i = .int .i64 T.length ∧ T.length ≤ n0 ∧ Below w.heap.size w wr ∧ Own2 wr w.heap.size 52 (.slice (some ⟨g, 0, none⟩) T.length cc) T ∧ Hid (∀ k, k < T.length → itemB (fstAt T k) (sndAt T k) = true)) (fun _ i _ => n0 - (intOf i).toNat)
  case atStart => exact ⟨[], _, _, rfl, rfl, by simp, unhide B0, unhide O0, hide (fun k hk => by simp at hk)⟩
  case round =>
    clear B0 O0
    obtain ⟨T, g, cc, rfl, rfl, hTn, hbel, hO, hit⟩ := hrel
    have KK := hide hbel
    have OO := hide hO
    have YY := hide ((unhide HY).below hbel)
    have hsA := hbel.size
    clear hbel hO
    go_wp2_with fail
    refine (unhide HAT _ (unhide KK)).mono ?_
    rintro e w' ⟨rfl, hw⟩
    subst w'
    by_cases hj : T.length < n0
    · have hj1 : (T.length : Int) < x0 % 12 := by rw [unhide HN0]; omega
      go_wp2_with fail
      refine (at_any a len cap (T.length + 1) wr (unhide YY) (unhide HL) (by omega)).mono ?_
      rintro e w' ⟨xa, rfl, hxa, hw⟩
      subst w'
      go_wp2_with fail
      refine (at_any a len cap (T.length + 20) wr (unhide YY) (unhide HL) (by omega)).mono ?_
      rintro e w' ⟨xb, rfl, hxb, hw⟩
      subst w'
      obtain ⟨vs, hown, hvx⟩ := (unhide OO).own
      have hbA := bel1 (w := wr) (Obj.cells #[Value.int IntKind.i64 (xa * 3), Value.int IntKind.i64 (xb - 128)] 52)
      have hownA := ownsRow_below hown hbA
      have hnews := World.news_of_block (heap_alloc_new wr (Obj.cells #[Value.int IntKind.i64 (xa * 3), Value.int IntKind.i64 (xb - 128)] 52))
      have HVX := hide hvx
      have HVL := hide hown.1
      obtain ⟨i0, hii, hz0, hz1, hz2⟩ := info_parts infoIt
      clear hown hvx
      go_wp2_with (at_builtin; refine wpList_append_lies _ rfl _ _ 50 rfl w.heap.size 52 i0 (.agg #[.int .i64 0, .int .i64 0]) 2 16 Try.underlying50 hii hz0 hz1 hz2 rfl (by decide) (.slice (some ⟨g, 0, none⟩) T.length cc) T.length vs rfl hownA ⟨wr.heap.size, 0, none⟩ 1 1 [.int .i64 (xa * 3), .int .i64 (xb - 128)] rfl rfl hnews (by simp [Value.oneCell']) (by decide) (by unfold maxLen; omega) (by omega) (by simp; omega) _ rfl ?_; intro g' cap' w9 hown9 hgrow hat hlt9)
      have hrow : ∀ i, (Value.slice (some ⟨g, 0, none⟩) T.length cc).ownBlock = some i → w.heap.size ≤ i := fun i hi => ((unhide OO).liesIn i hi).1
      have hlenT : (T ++ [(xa * 3, xb - 128)]).length = T.length + 1 := by simp
      refine ⟨⟨T ++ [(xa * 3, xb - 128)], g', cap', by rw [hlenT], by rw [hlenT]; go_num, by rw [hlenT]; omega, ((unhide KK).trans (hbA.mono hsA)).grown hgrow (by simp; omega) hrow, ?_, ?_⟩, by simp [intOf]; omega⟩
      · rw [hlenT]; exact own2_push hown9 (unhide HVL) (unhide HVX) (unhide OO).fit (by omega) (by omega)
      · refine hide fun k hk => ?_
        obtain ⟨h1, h2, h3⟩ := push_at (P := T) (a := xa * 3) (b := xb - 128)
        rw [hlenT] at hk
        by_cases e : k < T.length
        · rw [(h1 k e).1, (h1 k e).2]; exact hit.out k e
        · obtain rfl : k = T.length := by omega
          rw [h2, h3]
          simp only [itemB, inB, Bool.and_eq_true, decide_eq_true_eq]
          omega
    · have hj1 : ¬ (T.length : Int) < x0 % 12 := by rw [unhide HN0]; omega
      have h11 : T.length ≤ 11 := by omega
      have hcc : T.length ≤ cc := by
        rcases (unhide OO).form with ⟨hv, h0⟩ | ⟨gg, c', hv, _, _, hcc, _⟩
        · rw [h0]; simp
        · simp only [Value.slice.injEq] at hv
          obtain ⟨_, _, rfl⟩ := hv
          exact hcc
      obtain ⟨K, hK⟩ : ∃ K : Nat, T.length / 2 = K := ⟨_, rfl⟩
      have hKT : K ≤ T.length := by omega
      have hKi : (T.length : Int) / 2 = (K : Int) := by omega
      have HH := hide (halves hKT (by omega) hit.out)
      have hb1 := sums_bd (ps := T) (by omega)
      have hb2 := sums_bd (ps := T.take K) (by simp; omega)
      have hb3 := sums_bd (ps := T.drop K) (by simp; omega)
      have RT := hide (unhide OO).row
      clear hit HN0 HAT hTn h12 OO hK
      go_wp2_with fail
      refine (implSumOf_any _ _ _ T _ (unhide RT)).mono ?_
      rintro e w2 ⟨rfl, b2⟩
      rw [(unhide HH).1]
      have b2 := b2.trans ((bel1 (w := w2) (Obj.cells #[.int .i64 (sumA T), .int .i64 (sumB T)] 54)).mono b2.size)
      have s1 := Sm.new w2 (sumA T) (sumB T) 54
      obtain ⟨V2, hV2⟩ : ∃ V2, V2 = w2.alloc (Obj.cells #[.int .i64 (sumA T), .int .i64 (sumB T)] 54) := ⟨_, rfl⟩
      rw [← hV2] at b2 s1
      have KK := hide ((unhide KK).trans (b2.mono hsA))
      have RT := hide ((unhide RT).below b2)
      have YY := hide ((unhide YY).below b2)
      have S1 := hide s1
      have HV2 := hide hV2
      obtain ⟨G1, hG1⟩ : ∃ G1, w2.heap.size = G1 := ⟨_, rfl⟩
      rw [hG1] at S1
      have R1 := hide ((unhide RT).take hKT)
      have R2 := hide ((unhide RT).drop hKT)
      have hi2 : (K : Int) ≤ (cc : Int) := by omega
      have hi3 : (K : Int) ≤ (T.length : Int) := by omega
      clear b2 s1 hV2
      go_wp2_with fail
      rw [← unhide HV2]
      clear HV2
      refine (implSumOf_any _ _ _ (T.take K) _ (unhide R1)).mono ?_
      rintro e w3 ⟨rfl, b3⟩
      have b3 := b3.trans ((bel1 (w := w3) (Obj.cells #[.int .i64 (sumA (T.take K)), .int .i64 (sumB (T.take K))] 54)).mono b3.size)
      have s2 := Sm.new w3 (sumA (T.take K)) (sumB (T.take K)) 54
      obtain ⟨V3, hV3⟩ : ∃ V3, V3 = w3.alloc (Obj.cells #[.int .i64 (sumA (T.take K)), .int .i64 (sumB (T.take K))] 54) := ⟨_, rfl⟩
      rw [← hV3] at b3 s2
      have KK := hide ((unhide KK).trans (b3.mono (unhide KK).size))
      have YY := hide ((unhide YY).below b3)
      clear R1
      have S1 := hide ((unhide S1).below b3)
      have R2 := hide ((unhide R2).below b3)
      have S2 := hide s2
      have HV3 := hide hV3
      obtain ⟨G2, hG2⟩ : ∃ G2, w3.heap.size = G2 := ⟨_, rfl⟩
      rw [hG2] at S2
      clear b3 s2 hV3
      have RA : Hid (Row2 V3 (some ⟨g, K * 2, none⟩) (T.length - K) (T.drop K)) := hide (by simpa using unhide R2)
      have RZ : Hid (∀ ad, cc = K → Row2 V3 ad (T.length - K) (T.drop K)) := hide fun ad e => by
        have hT0 : T = [] := List.length_eq_zero_iff.1 (by omega)
        rw [hT0]
        exact ⟨by simp, by simp, fun i hi => by simp at hi, fun i => by simp [fstAt, sndAt]⟩
      go_wp2_with fail
      all_goals
        rw [← unhide HV3]
        clear HV3
        refine (implSumOf_any _ _ _ (T.drop K) _ (by first | exact unhide RA | exact unhide RZ _ h)).mono ?_
        rintro e w4 ⟨rfl, b4⟩
        have b4 := b4.trans ((bel1 (w := w4) (Obj.cells #[.int .i64 (sumA (T.drop K)), .int .i64 (sumB (T.drop K))] 54)).mono b4.size)
        have s3 := Sm.new w4 (sumA (T.drop K)) (sumB (T.drop K)) 54
        obtain ⟨V4, hV4⟩ : ∃ V4, V4 = w4.alloc (Obj.cells #[.int .i64 (sumA (T.drop K)), .int .i64 (sumB (T.drop K))] 54) := ⟨_, rfl⟩
        rw [← hV4] at b4 s3
        have KK := hide ((unhide KK).trans (b4.mono (unhide KK).size))
        have YY := hide ((unhide YY).below b4)
        clear R2 RA RZ
        have S1 := hide ((unhide S1).below b4)
        have S2 := hide ((unhide S2).below b4)
        have S3 := hide s3
        have HV4 := hide hV4
        obtain ⟨G3, hG3⟩ : ∃ G3, w4.heap.size = G3 := ⟨_, rfl⟩
        rw [hG3] at S3
        clear b4 s3 hV4
        have bO := bel1 (w := V4) (Obj.cells #[.int .i64 3, .int .i64 (-4)] 52)
        have hs4 : V4.heap.size = G3 + 1 := by rw [unhide HV4, ← hG3]; simp
        have RO := row2_one V4 3 (-4) 52 (by omega) (by omega)
        rw [hs4] at RO
        have RO := hide RO
        clear hs4
        have KK := hide ((unhide KK).trans (bO.mono (unhide KK).size))
        have YY := hide ((unhide YY).below bO)
        have S1 := hide ((unhide S1).below bO)
        have S2 := hide ((unhide S2).below bO)
        have S3 := hide ((unhide S3).below bO)
        clear bO
        go_wp2_with fail
        rw [← unhide HV4]
        clear HV4
        refine (implSumOf_any _ _ _ [(3, -4)] _ (unhide RO)).mono ?_
        rintro e w5 ⟨rfl, b5⟩
        rw [one_sum.1, one_sum.2.1, one_sum.2.2]
        have b5 := b5.trans ((bel1 (w := w5) (Obj.cells #[.int .i64 (3), .int .i64 (-12)] 54)).mono b5.size)
        have s4 := Sm.new w5 (3) (-12) 54
        obtain ⟨V5, hV5⟩ : ∃ V5, V5 = w5.alloc (Obj.cells #[.int .i64 (3), .int .i64 (-12)] 54) := ⟨_, rfl⟩
        rw [← hV5] at b5 s4
        have KK := hide ((unhide KK).trans (b5.mono (unhide KK).size))
        have YY := hide ((unhide YY).below b5)
        clear RO
        have S1 := hide ((unhide S1).below b5)
        have S2 := hide ((unhide S2).below b5)
        have S3 := hide ((unhide S3).below b5)
        have S4 := hide s4
        have HV5 := hide hV5
        obtain ⟨G4, hG4⟩ : ∃ G4, w5.heap.size = G4 := ⟨_, rfl⟩
        rw [hG4] at S4
        clear b5 s4 hV5
        have m0 := (unhide S1).c0
        have m1 := (unhide S1).c1
        have m2 := (unhide S2).c0
        have m3 := (unhide S2).c1
        have m4 := (unhide S3).c0
        have m5 := (unhide S3).c1
        have m6 := (unhide S4).c0
        have m7 := (unhide S4).c1
        rw [unhide HV5] at m0 m1 m2 m3 m4 m5 m6 m7
        have q1 : (sumA T != sumA (T.take K) + sumA (T.drop K)) = false := by rw [(unhide HH).2.1]; simp
        have q2 : (sumB T != sumB (T.take K) + sumB (T.drop K)) = false := by rw [(unhide HH).2.2]; simp
        go_wp2_with fail
        have hs5 : V5.heap.size = G4 + 1 := by rw [unhide HV5, ← hG4]; simp
        rw [← unhide HV5]
        clear HV5 m0 m1 m2 m3 m4 m5 m6 m7 q1 q2 S1 S2 S3 S4 HH hb1 hb2 hb3
        obtain ⟨V6, hV6, b6, r1, r2, r3, c0, c1, c2, f6⟩ := env_lit V5 (G4 + 1) 3 58 hs5
        rw [← hV6]
        have KK := hide ((unhide KK).trans (b6.mono (unhide KK).size))
        have YY := hide ((unhide YY).below b6)
        have R1 := hide r1
        have R2 := hide r2
        have R3 := hide r3
        clear hV6 b6 r1 r2 r3 hs5
        refine (at_any a len cap 40 V6 (unhide YY) (unhide HL) (by omega)).mono ?_
        rintro e w' ⟨x4, rfl, hx4, hw⟩
        subst w'
        go_wp2_with fail
        refine (at_any a len cap 41 V6 (unhide YY) (unhide HL) (by omega)).mono ?_
        rintro e w' ⟨x5, rfl, hx5, hw⟩
        subst w'
        have b7 := bel1 (w := V6) (Obj.cells #[.int .i64 (1 + x4), .int .i64 ((x5 - 128) * 50)] 54)
        have s7 := Sm.new V6 (1 + x4) ((x5 - 128) * 50) 54
        rw [f6] at s7
        have d0 := (b7.cell (p := ⟨G4 + 1 + 1 + 1 + 1, 0, none⟩) (by simp only [f6]; omega)).trans c0
        have d1 := (b7.cell (p := ⟨G4 + 1 + 1 + 1 + 1, 1, none⟩) (by simp only [f6]; omega)).trans c1
        have d2 := (b7.cell (p := ⟨G4 + 1 + 1 + 1 + 1, 2, none⟩) (by simp only [f6]; omega)).trans c2
        have KK := hide ((unhide KK).trans (b7.mono (unhide KK).size))
        have R1 := hide ((unhide R1).below b7)
        have R2 := hide ((unhide R2).below b7)
        have R3 := hide ((unhide R3).below b7)
        have D := hide (And.intro d0 (And.intro d1 (And.intro d2 s7)))
        have hsz : (V6.alloc (Obj.cells #[.int .i64 (1 + x4), .int .i64 ((x5 - 128) * 50)] 54)).heap.size = G4 + 1 + 1 + 1 + 1 + 1 + 1 := by simp [f6]
        clear b7 s7 d0 d1 d2
        go_wp2_with fail
        refine (implInside_any _ _ _ _ _ _ _ _ _ _ _ _ _ _ _ (unhide R1) (unhide R2) (unhide R3) (by omega) (by omega) (by omega)).mono ?_
        rintro e w8 ⟨rfl, b8⟩
        obtain ⟨p, hp⟩ : ∃ p, decide (-20 * (1 + x4) ≤ (x5 - 128) * 50) = p := ⟨_, rfl⟩
        obtain ⟨q, hq⟩ : ∃ q, decide ((x5 - 128) * 50 ≤ 30 * (1 + x4)) = q := ⟨_, rfl⟩
        have hp2 : decide (-20 * (2 * (1 + x4)) ≤ 2 * ((x5 - 128) * 50)) = p := by rw [← hp]; apply decide_eq_decide.2; omega
        have hq2 : decide (2 * ((x5 - 128) * 50) ≤ 30 * (2 * (1 + x4))) = q := by rw [← hq]; apply decide_eq_decide.2; omega
        rw [ins_one (by omega) (by omega), hp, hq]
        have HP := hide (And.intro hp (And.intro hq (And.intro hp2 hq2)))
        clear hp hq hp2 hq2
        obtain ⟨ι, f, hne, hfb, hall⟩ := belClass (V6.alloc (Obj.cells #[.int .i64 (1 + x4), .int .i64 ((x5 - 128) * 50)] 54))
        obtain ⟨y8, rfl⟩ := hall w8 b8
        have e0 : ∀ y, (f y).cell? ⟨G4 + 1 + 1 + 1 + 1, 0, none⟩ = _ := fun y => ((hfb y).cell (p := ⟨G4 + 1 + 1 + 1 + 1, 0, none⟩) (by simp only [hsz]; omega)).trans (unhide D).1
        have e1 : ∀ y, (f y).cell? ⟨G4 + 1 + 1 + 1 + 1, 1, none⟩ = _ := fun y => ((hfb y).cell (p := ⟨G4 + 1 + 1 + 1 + 1, 1, none⟩) (by simp only [hsz]; omega)).trans (unhide D).2.1
        have e2 : ∀ y, (f y).cell? ⟨G4 + 1 + 1 + 1 + 1, 2, none⟩ = _ := fun y => ((hfb y).cell (p := ⟨G4 + 1 + 1 + 1 + 1, 2, none⟩) (by simp only [hsz]; omega)).trans (unhide D).2.2.1
        have e3 : ∀ y, (f y).cell? ⟨G4 + 1 + 1 + 1 + 1 + 1, 0, none⟩ = _ := fun y => ((hfb y).cell (p := ⟨G4 + 1 + 1 + 1 + 1 + 1, 0, none⟩) (by simp only [hsz]; omega)).trans (unhide D).2.2.2.c0
        have e4 : ∀ y, (f y).cell? ⟨G4 + 1 + 1 + 1 + 1 + 1, 1, none⟩ = _ := fun y => ((hfb y).cell (p := ⟨G4 + 1 + 1 + 1 + 1 + 1, 1, none⟩) (by simp only [hsz]; omega)).trans (unhide D).2.2.2.c1
        have R1 := hide fun y => (unhide R1).below (hfb y)
        have R2 := hide fun y => (unhide R2).below (hfb y)
        have R3 := hide fun y => (unhide R3).below (hfb y)
        have HB := hide hfb
        have HA := hide hall
        clear hfb hall b8 hsz D c0 c1 c2 f6
        go_wp2_with fail
        refine (belQ (unhide HB) (unhide HA) (implInside_any _ _ _ _ _ _ _ _ _ _ _ _ _ _ _ (unhide R1 _) (unhide R2 _) (unhide R3 _) (by omega) (by omega) (by omega))).mono ?_
        rintro e w9 ⟨rfl, y9, rfl⟩
        rw [ins_one (by omega) (by omega), (unhide HP).2.2.1, (unhide HP).2.2.2]
        have hp := (unhide HP).1
        have hq := (unhide HP).2.1
        clear HP
        cases p <;> cases q <;> simp only [Bool.and_true, Bool.and_false] <;> simp only [decide_eq_true_eq, decide_eq_false_iff_not] at hp hq
        · exfalso; omega
        all_goals
          go_wp2_with fail
          refine (belQ (unhide HB) (unhide HA) (implEnvelopeOk_is _ _ _ _ _ _ _ _ _ _ _ _ _ env_one (unhide R1 _) (unhide R2 _) (unhide R3 _))).mono ?_
          rintro e w10 ⟨rfl, y10, rfl⟩
          go_wp2
          go_ret
          exact ⟨rfl, (unhide KK).trans ((unhide HB y10).mono (unhide KK).size)⟩

theorem lawFnMoments (a : Option Addr) (len cap : Nat) (w : World) (hb : Bytes w a len) :
    Calls Try.prog 6 #[.slice a len cap] w fun e w' => e = .returned (.bool true) ∧ Below w.heap.size w w' := by
  by_cases h : (1048576 : Int) < len
  · exact lawFnMoments_big a len cap w h
  · exact lawFnMoments_small a len cap w h hb

end Go.Proofs.Ytbaocifpifbldaa

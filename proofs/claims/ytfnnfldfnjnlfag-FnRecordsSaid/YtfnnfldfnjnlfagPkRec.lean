/-
  What the program's packer does of a record: all its bytes, or a panic where they are more than there is room for. At every record that is right; nothing is written but the packer's own memory.
-/
import Derived.Test.YtfnnfldfnjnlfagPkPut
import Derived.Test.YtfnnfldfnjnlfagMadeI
import Derived.Test.YtfnnfldfnjnlfagOwnSS
namespace Go.Proofs.Ytfnnfldfnjnlfag
open Go Go.RowKit

/-- The row ahead: one of zeros made here, or one of the record. -/
def AhR (w0 wr : World) (P : Nat) (a : Option Addr) (n c : Nat) (L : List Int) : Prop := OwnI wr (P + 1) (.slice a n c) L ∨ Row w0 a n L
theorem AhR.row {w0 wr : World} {P : Nat} {a : Option Addr} {n c : Nat} {L : List Int} (h : AhR w0 wr P a n c L) (hb : Below w0.heap.size w0 wr) : Row wr a n L := by
  rcases h with h | h
  · exact h.row
  · exact h.below hb
theorem AhR.step {w0 wr w' : World} {P : Nat} {a : Option Addr} {n c : Nat} {L : List Int} (h : AhR w0 wr P a n c L) (s : PkS P wr w') : AhR w0 w' P a n c L := by
  rcases h with h | h
  · exact .inl (s.i _ _ _ _ h)
  · exact .inr h
theorem madeI_own (W : World) {L base : Nat} (hL : L ≤ 1048576) (hb : base ≤ W.heap.size) : OwnI (W.alloc (.cells (madeCells #[.int .i64 0] L) 3)) base (.slice (some ⟨W.heap.size, 0, none⟩) L L) (List.replicate L 0) := by
  have e : madeCells #[.int .i64 0] L = (List.replicate L (Value.int .i64 0)).toArray := by
    apply Array.ext'
    rw [toList_madeCells_one]
  rw [e]
  refine ⟨⟨List.replicate L (Value.int .i64 0), ?_, fun j hj => ?_⟩, fun i => by rw [nthZ]; omega⟩
  · rw [List.length_replicate]
    exact World.ownsRow_lit W _ L hb (by unfold maxLen; omega) (by simp)
  · rw [List.length_replicate] at hj
    simp [hj, nthZ]
def PkE (zss : List (List Int)) (P : Nat) (w : World) (e : Ending) (w' : World) : Prop :=
  ((e = .returned (.tuple #[]) ∧ (pkF zss).length ≤ 1500 ∧ ∃ b d, Pk w' P b (pkF zss).length d (pkF zss)) ∨ (e = .panicked [{ v := noRm, recovered := false }] ∧ 1500 < (pkF zss).length)) ∧ PkS P w w'

set_option maxRecDepth 20000 in
set_option maxHeartbeats 4000000 in
theorem putRecord_any (P : Nat) (b : Option Addr) (d : Nat) (ad : Option Addr) (len cap : Nat) (zss : List (List Int)) (w0 w : World) (hr : RowS w0 ad len zss) (hb : Below w0.heap.size w0 w) (hP : w0.heap.size ≤ P) (hk : Pk w P b 0 d []) (hc : rcB zss = true) :
    Calls Try.prog 67 #[.pointer (some ⟨P, 0, none⟩), .slice ad len cap] w fun e w' => PkE zss P w e w' := by
  have hz := hr.len_eq
  have HR := hide hr
  have HB0 := hide hb
  have HK0 := hide hk
  have HC := hide hc
  have hPw : P < w.heap.size := hk.p.lt
  have hl200 : zss.length ≤ 200 := (rcB_facts hc).1
  obtain ⟨N, hN⟩ : ∃ N, wdN zss = N := ⟨_, rfl⟩
  have HN := hide hN
  have hN8 : N ≤ 8 := by rw [← hN]; exact wdN_le hc
  have HI0 : Hid (pkI zss 0 = [(N : Int), (zss.length : Int)]) := hide (by rw [← hN]; rfl)
  clear hr hb hk hc hN
  subst hz
  have e1 : (N : Int) % 256 = (N : Int) := by omega
  have e2 : (zss.length : Int) % 256 = (zss.length : Int) := by omega
  have hmk := fun W => madeI_run (L := N) (by omega) W
  go_enter Try.func67, Try.ntmps67
  go_wp2_with fail
  refine (wideOf_is _ _ _ zss _ ((unhide HR).below (unhide HB0)) (unhide HN)).mono ?_
  rintro e w1 ⟨rfl, hw1⟩
  subst w1
  go_wp2_with fail
  obtain ⟨V, hV⟩ : ∃ V, V = w.alloc (Obj.cells #[.int .u8 (N : Int), .int .u8 (zss.length : Int)] 5) := ⟨_, rfl⟩
  have BV : Hid (Below w.heap.size w V) := hide (by rw [hV]; exact bel1 _)
  have OV : Hid (RowE 1 byC V (some ⟨w.heap.size, 0, none⟩) 2 (pkI zss 0)) := hide (by rw [hV, unhide HI0]; exact (byL_lit (base := w.heap.size) w [(N : Int), (zss.length : Int)] (Nat.le_refl _) (by simp)).row)
  rw [← hV]
  clear hV
  refine (put_yes _ _ _ _ _ _ _ [] (pkI zss 0) _ ((unhide HK0).below (unhide BV)) (unhide OV) (by omega)).mono ?_
  rintro e w2 ⟨rfl, ⟨b2, d2, k2⟩, s2⟩
  rw [List.nil_append, Nat.zero_add] at k2
  have K2 := hide k2
  have S2 := hide ((PkS.new (unhide BV) hPw).trans s2)
  clear k2 s2 BV OV HK0 e1 e2
  go_wp2_with fail
  refine (wideOf_is _ _ _ zss _ ((unhide HR).below ((unhide HB0).trans ((unhide S2).b.mono hP))) (unhide HN)).mono ?_
  rintro e w3 ⟨rfl, hw3⟩
  subst w3
  go_wp2_with fail
  have hPw2 : P < w2.heap.size := (unhide K2).p.lt
  have AH : Hid (AhR w0 (w2.alloc (.cells (madeCells #[.int .i64 0] N) 3)) P (some ⟨w2.heap.size, 0, none⟩) N N (ahL zss 0)) := hide (.inl (by have := madeI_own w2 (L := N) (base := P + 1) (by omega) (by omega); rw [show ahL zss 0 = List.replicate N 0 by rw [← unhide HN]; rfl]; exact this))
  have K3 : Hid (Pk (w2.alloc (.cells (madeCells #[.int .i64 0] N) 3)) P b2 2 d2 (pkI zss 0)) := hide ((unhide K2).below (bel1 _))
  have S3 := hide ((unhide S2).trans (PkS.new (bel1 (w := w2) (.cells (madeCells #[.int .i64 0] N) 3)) hPw2))
  clear K2 S2 hmk
  go_loopw [4, 23] (fun o i wr => ∃ (k : Nat) (a : Option Addr) (n c m : Nat) (b : Option Addr) (d : Nat), k ≤ zss.length ∧ i = .int .i64 k ∧ o = .slice a n c ∧ (k < zss.length → AhR w0 wr P a n c (ahL zss k)) ∧ m ≤ 1500 ∧ Pk wr P b m d (pkI zss k) ∧ PkS P w wr) (fun _ i _ => zss.length - (intOf i).toNat)
  case atStart => exact ⟨0, _, _, _, _, _, _, Nat.zero_le _, rfl, rfl, fun _ => unhide AH, by omega, unhide K3, unhide S3⟩
  case round =>
    clear AH K3 S3
    obtain ⟨k, a, n, c, m, b, d, hk, rfl, rfl, hah, hm, hpk, hps⟩ := hrel
    have PK := hide hpk
    have PS := hide hps
    have AH0 := hide hah
    clear hpk hps hah
    by_cases hlt : k < zss.length
    · have i0 : (0 : Int) ≤ (k : Int) := by omega
      have i1 : (k : Int) < (zss.length : Int) := by omega
      have AH := hide ((unhide AH0) hlt)
      clear AH0
      have BR := hide ((unhide HB0).trans ((unhide PS).b.mono hP))
      rcases (unhide HR).open_ with ⟨h0, _⟩ | ⟨bb, off, rfl, _, hc⟩
      · omega
      obtain ⟨ai, li, ci, ck, rk, _⟩ := hc k hlt
      have x1 := ((unhide BR).cell (block_lt_of_cell ck)).trans ck
      have RK := hide rk
      have hliN : li = N := by have e1 := ((rcB_facts (unhide HC)).2 k hlt).1; have e2 := unhide HN; have e3 := rk.len_eq; unfold wdN at e2; omega
      have hnN : n = N := by have e := ((unhide AH).row (unhide BR)).len_eq; rw [ahL_len (unhide HC) hlt, unhide HN] at e; omega
      subst hliN
      subst hnN
      clear hc ck rk
      go_wp2_with fail
      go_loopw [29] (fun i wr => ∃ (j m : Nat) (b : Option Addr) (d : Nat), j ≤ n ∧ i = .int .i64 j ∧ AhR w0 wr P a n c (ahL zss k) ∧ m ≤ 1500 ∧ Pk wr P b m d (pkK zss k j) ∧ PkS P w wr) (fun i _ => n - (intOf i).toNat)
      case atStart => exact ⟨0, _, _, _, Nat.zero_le _, rfl, unhide AH, hm, by rw [pkK_zero]; exact unhide PK, unhide PS⟩
      case round =>
        clear AH PK PS BR hm x1
        obtain ⟨j, m, b, d, hj, rfl, hah, hm, hpk, hps⟩ := hrel
        have PK := hide hpk
        have PS := hide hps
        have AH := hide hah
        clear hpk hps hah
        by_cases hlj : j < n
        · have j0 : (0 : Int) ≤ (j : Int) := by omega
          have j1 : (j : Int) < (n : Int) := by omega
          have br := (unhide HB0).trans ((unhide PS).b.mono hP)
          have ra := (unhide AH).row br
          have rr := (unhide RK).below br
          rcases ra.open_ with ⟨h0, _⟩ | ⟨b3, o3, rfl, _, hc3⟩
          · omega
          rcases rr.open_ with ⟨h0, _⟩ | ⟨b4, o4, rfl, _, hc4⟩
          · omega
          have x3 := hc3 j hlj
          have x4 := hc4 j hlj
          obtain ⟨u, hu⟩ : ∃ u, u = nth (nthS zss k) j := ⟨_, rfl⟩
          obtain ⟨v, hv⟩ : ∃ v, v = nth (ahL zss k) j := ⟨_, rfl⟩
          have HCC : Hid (chC zss k j = u - v) := hide (by rw [hu, hv]; rfl)
          have hu2 : -30000 ≤ u ∧ u ≤ 30000 := by rw [hu]; exact row_in (unhide HC) hlt (by rw [unhide HN]; exact hlj)
          have hv2 : -30000 ≤ v ∧ v ≤ 30000 := by rw [hv]; exact ahL_in (unhide HC) hlt (by rw [unhide HN]; exact hlj)
          rw [← hu] at x4
          rw [← hv] at x3
          have HKS : Hid (pkK zss k (j + 1) = pkK zss k j ++ chL (u - v)) := hide (by rw [← unhide HCC]; exact pkK_succ zss k j)
          have HLM := hide (unhide PK).l
          have HMN : Hid ((pkK zss k (j + 1)).length ≤ (pkF zss).length) := hide (pkK_mono zss hlt (by rw [unhide HN]; omega))
          have hcl := chL_len (u - v)
          clear br ra rr hc3 hc4 hu hv HCC
          by_cases hf : m + (chL (u - v)).length ≤ 1500
          · have HF := hide hf
            have HCL := hide hcl
            clear hf hcl
            go_wp2_with fail
            refine (putCh_yes _ _ _ _ (pkK zss k j) (u - v) _ (unhide PK) (by omega) (unhide HF)).mono ?_
            rintro e w5 ⟨rfl, ⟨b5, d5, k5⟩, s5⟩
            have K5 : Hid (Pk w5 P b5 (m + (chL (u - v)).length) d5 (pkK zss k (j + 1))) := hide (by rw [unhide HKS]; exact k5)
            have S5 := hide ((unhide PS).trans s5)
            have A5 := hide ((unhide AH).step s5)
            clear k5 s5
            go_wp2_with fail
            go_roundw
            case rel => exact ⟨j + 1, _, b5, d5, by omega, by go_num, unhide A5, unhide HF, unhide K5, unhide S5⟩
            case measure => simp [intOf]; omega
          · have HF := hide hf
            have HCL := hide hcl
            clear hf hcl
            go_wp2_with fail
            refine (putCh_no _ _ _ _ (pkK zss k j) (u - v) _ (unhide PK) (by omega) (by omega) (by have := unhide HF; omega)).mono ?_
            rintro e w5 ⟨rfl, s5⟩
            have S5 := hide ((unhide PS).trans s5)
            clear s5
            go_wp2_with fail
            exact ⟨rfl, .inr ⟨rfl, by have a1 := unhide HMN; have a2 := unhide HF; have a3 := unhide HLM; rw [unhide HKS, List.length_append] at a1; omega⟩, unhide S5⟩
        · have j1 : ¬ (j : Int) < (n : Int) := by omega
          have hjn : j = n := by omega
          have K6 : Hid (Pk wr P b m d (pkI zss (k + 1))) := hide (by have := unhide PK; rw [hjn, ← unhide HN, pkK_row] at this; exact this)
          have A6 : Hid (AhR w0 wr P ai n ci (ahL zss (k + 1))) := hide (.inr (unhide RK))
          clear hjn
          go_wp2_with fail
          go_roundw
          case rel => exact ⟨k + 1, _, _, _, m, b, d, by omega, by go_num, rfl, fun _ => unhide A6, hm, unhide K6, unhide PS⟩
          case measure => simp [intOf]; omega
    · have i1 : ¬ (k : Int) < (zss.length : Int) := by omega
      have hkk : Hid (k = zss.length) := hide (by omega)
      go_wp2_with fail
      go_end0
      have z := unhide PK
      rw [unhide hkk] at z
      have zl : (pkF zss).length = m := z.l
      exact ⟨.inl ⟨rfl, by omega, b, d, by rw [zl]; exact z⟩, unhide PS⟩

end Go.Proofs.Ytfnnfldfnjnlfag

/-
  Lists of names as sets, a panel as a board of three sets: what the program's setOf and boardOf answer. Nothing that was there is written.
-/
import Derived.Test.YtfehfocfoegbdaaMSetS
import Derived.Test.YtfehfocfoegbdaaMWrCmp
import Derived.Test.YtfehfocfoegbdaaPnTo
import Derived.Test.YtfehfocfoegbdaaMWhole
namespace Go.Proofs.Ytfehfocfoegbdaa
open Go.RowKit Go.Maps Go.WideMaps

/-- Whether names rise and are all in the book. -/
def ntB (F : ByteArray → Option Value) (ts : List ByteArray) : Bool := riseS ts && decide (∀ i, i < ts.length → (F (elAt ts i)).isSome = true)
theorem ntB_rise {F : ByteArray → Option Value} {ts : List ByteArray} (h : riseS ts = false) : ntB F ts = false := by simp [ntB, h]
theorem ntB_at {F : ByteArray → Option Value} {ts : List ByteArray} {i : Nat} (hi : i < ts.length) (h : (F (elAt ts i)).isSome = false) : ntB F ts = false := by
  have : ¬ ∀ i, i < ts.length → (F (elAt ts i)).isSome = true := fun k => by have := k i hi; rw [h] at this; cases this
  unfold ntB
  rw [decide_eq_false this, Bool.and_false]
theorem ntB_all {F : ByteArray → Option Value} {ts : List ByteArray} (hr : riseS ts = true) (h : ∀ i, i < ts.length → (F (elAt ts i)).isSome = true) : ntB F ts = true := by
  unfold ntB
  rw [hr, decide_eq_true h]; rfl
theorem ntB_nm {rs : List Wr} {qs : Nat → Option Addr × Nat × Nat} {ts : List ByteArray} : ntB (bkA rs qs) ts = nmB rs ts := by
  cases e : nmB rs ts with
  | true =>
    refine ntB_all (riseS_true (fun i hi => ?_)) (fun i hi => ?_)
    · rcases (nm_facts e hi).2 with h | h
      · omega
      · simpa using h
    · rw [bkA_is]; exact decide_eq_true (nm_facts e hi).1
  | false =>
    cases g : ntB (bkA rs qs) ts with
    | false => rfl
    | true =>
      unfold ntB at g
      simp only [Bool.and_eq_true, decide_eq_true_eq] at g
      have : nmB rs ts = true := nmB_all (fun i hi => by
        unfold nmAt
        have h1 := g.2 i hi
        rw [bkA_is] at h1
        rw [h1, Bool.true_and, Bool.or_eq_true, decide_eq_true_eq]
        by_cases c : i = 0
        · exact .inl c
        · right
          have := riseS_at g.1 (i := i - 1) (by omega)
          rw [show i - 1 + 1 = i by omega] at this
          exact this)
      rw [this] at e; cases e
theorem nm_rise {rs : List Wr} {ts : List ByteArray} (h : nmB rs ts = true) : riseS ts = true := riseS_true (fun i hi => by
  rcases (nm_facts h hi).2 with k | k
  · omega
  · simpa using k)
theorem hasB_take {ts : List ByteArray} {i : Nat} (hi : i < ts.length) : addS (hasB (ts.take i)) (elAt ts i) = hasB (ts.take (i + 1)) := by
  have e : ts.take (i + 1) = ts.take i ++ [elAt ts i] := by
    unfold elAt
    rw [List.take_succ_eq_append_getElem hi]
    simp [hi]
  funext s
  rw [Bool.eq_iff_iff, hasB_mem, e]
  unfold addS
  rw [Bool.or_eq_true, hasB_mem, decide_eq_true_eq, List.mem_append, List.mem_singleton]
  exact Or.comm
theorem hasB_none : hasB [] = fun _ => false := by
  funext s
  simp [hasB]
/-- The set so far. -/
structure Sof (w wr : World) (i : Nat) (ts : List ByteArray) : Prop where
  m : SetIs wr w.heap.size i (hasB (ts.take i))
  b : Below w.heap.size w wr
theorem Sof.below {w wr w' : World} {i : Nat} {ts : List ByteArray} (h : Sof w wr i ts) (b : Below wr.heap.size wr w') : Sof w w' i ts := ⟨h.m.below b, h.b.trans (b.mono h.b.size)⟩
set_option maxRecDepth 20000 in
set_option maxHeartbeats 2000000 in
theorem setOf_any (B n : Nat) (F : ByteArray → Option Value) (ad : Option Addr) (len cap : Nat) (ts : List ByteArray) (w : World) (hb : MapIs w B n F) (hv : Rls F) (hr : RowE 1 stC w ad len ts) (hf : ∀ i, i < len → (elAt ts i).size ≤ 9223372036854775807) :
    Calls Try.prog 18 #[.map (some B), .slice ad len cap] w fun e w' => ∃ m S, e = .returned (.tuple #[.map (some w.heap.size), .bool (ntB F ts)]) ∧ SetIs w' w.heap.size m S ∧ m ≤ len ∧ (ntB F ts = true → S = hasB ts) ∧ Below w.heap.size w w' := by
  have hmm := @run_makeMap Try.prog
  have hz := hr.len_eq
  have hs := hr.small
  have HR := hide (hr.alloc (.map #[] 0))
  have HO := hide hr.open1
  have HFI := hide hf
  have HBK := hide hb
  have HVS := hide hv
  have K0 : Hid (Sof w (w.alloc (.map #[] 0)) 0 ts) := hide ⟨by rw [List.take_zero, hasB_none]; exact SetIs.made w, bel1 _⟩
  clear hr hf hb hv
  subst hz
  cases hri : riseS ts with
  | false =>
    have HE := hide (ntB_rise (F := F) hri)
    have HRI := hide hri
    clear hri
    go_enter Try.func18, Try.ntmps18
    go_wp2_with (go_at_call 31; refine (ascS_any _ _ _ ts _ (unhide HR)).mono ?_; rintro e w2 ⟨rfl, n2, hw⟩; subst w2; rw [unhide HRI])
    go_ret2
    have k2 := (unhide K0).below (bel0d n2)
    exact ⟨0, _, by rw [unhide HE]; rfl, k2.m, by omega, fun h => (by rw [unhide HE] at h; cases h), k2.b⟩
  | true =>
  have HRI := hide hri
  clear hri
  go_enter Try.func18, Try.ntmps18
  go_wp2_with (go_at_call 31; refine (ascS_any _ _ _ ts _ (unhide HR)).mono ?_; rintro e w2 ⟨rfl, n2, hw⟩; have K2 : Hid (Sof w w2 0 ts) := hide (by rw [hw]; exact (unhide K0).below (bel0d n2)); clear hw; rw [unhide HRI])
  clear hmm K0
  go_loopw [18] (fun s18 wr => ∃ i : Nat, i ≤ ts.length ∧ s18 = .int .i64 (i : Int) ∧ Hid (Sof w wr i ts) ∧ Hid (∀ j, j < i → (F (elAt ts j)).isSome = true)) (fun s18 _ => ts.length - (intOf s18).toNat)
  case atStart => exact ⟨0, Nat.zero_le _, rfl, K2, hide (fun j hj => by omega)⟩
  case round =>
    clear K2
    obtain ⟨i, hi, rfl, HK, HN⟩ := hrel
    by_cases hlt : i < ts.length
    · rcases (unhide HO) with ⟨h0, _⟩ | ⟨bb, off, rfl, _, hc⟩
      · omega
      have m0 : wr.cell? ⟨bb, off + i, none⟩ = some (.string (elAt ts i)) := ((unhide HK).b.cell (block_lt_of_cell (hc i hlt))).trans (hc i hlt)
      have hsz := unhide HFI i hlt
      have k0 : (0 : Int) ≤ (i : Int) := by omega
      have k1 : (i : Int) < (ts.length : Int) := by omega
      have HS := hide (hasB_take hlt)
      have HLT := hide hlt
      have hlook := ((unhide HBK).below (unhide HK).b).look Try.underlying50 (Try.zeroValue48 wr) hsz
      obtain ⟨d, hd⟩ : ∃ d, elAt ts i = d := ⟨_, rfl⟩
      have HD := hide hd
      rw [hd] at m0 hsz HS hlook
      clear hc hd
      cases g : F d with
      | none =>
        have HE := hide (ntB_at (F := F) hlt (by rw [unhide HD, g]; rfl))
        rw [g] at hlook
        simp only [Option.getD_none, Option.isSome_none] at hlook
        clear g
        go_wp2_with fail
        go_ret2
        have k3 := (unhide HK).below (bel1 (Obj.cells #[.string ⟨#[]⟩, .int .i64 0, .slice none 0 0, .bool false, .string ⟨#[]⟩] 48))
        exact ⟨i, _, by rw [unhide HE]; rfl, k3.m, by omega, fun h => (by rw [unhide HE] at h; cases h), k3.b⟩
      | some v =>
        have HG : Hid ((F (elAt ts i)).isSome = true) := hide (by rw [unhide HD, g]; rfl)
        obtain ⟨⟨x2, r2, q2, l2, d2⟩, ⟨qa2, ql2, qc2⟩, rfl⟩ := unhide HVS d v g
        rw [g] at hlook
        unfold wrV at hlook
        simp only [Option.getD_some, Option.isSome_some] at hlook
        obtain ⟨V, hV⟩ : ∃ V, V = wr.alloc (Obj.cells #[.string x2, .int .i64 r2, .slice qa2 ql2 qc2, .bool l2, .string d2] 48) := ⟨_, rfl⟩
        have KV : Hid (Sof w V i ts) := hide (by rw [hV]; exact (unhide HK).below (bel1 _))
        have HV := hide hV
        have HSZ := hide hsz
        clear g hV hsz
        go_wp2_with fail
        rw [← unhide HV]
        refine (add_any _ _ _ _ _ (unhide KV).m (unhide HSZ) (by omega)).mono ?_
        rintro e w3 ⟨rfl, hm3, ht3⟩
        have K3 : Hid (Sof w w3 (i + 1) ts) := hide ⟨by rw [← unhide HS]; exact hm3, (unhide KV).b.trans (mapTurned_below ht3 (Nat.le_refl _) (unhide KV).b.size)⟩
        clear hm3 ht3 hlook m0
        go_wp2_with fail
        go_roundw
        case rel => exact ⟨i + 1, by omega, by go_num, K3, hide (fun j hj => by rcases Nat.lt_succ_iff_lt_or_eq.1 hj with h | h; exact unhide HN j h; subst h; exact unhide HG)⟩
        case measure => simp [intOf]; omega
    · have k1 : ¬ (i : Int) < (ts.length : Int) := by omega
      have hie : i = ts.length := by omega
      have HE : Hid (ntB F ts = true) := hide (ntB_all (unhide HRI) (by rw [← hie]; exact unhide HN))
      have HM : Hid (SetIs wr w.heap.size ts.length (hasB ts)) := hide (by have := (unhide HK).m; rw [hie, List.take_length] at this; exact this)
      have HB := hide (unhide HK).b
      clear hie
      go_wp2_with fail
      go_ret2
      exact ⟨by rw [unhide HE]; rfl, ts.length, hasB ts, unhide HM, Nat.le_refl _, fun _ => rfl, unhide HB⟩
/-- Three sets, in this order. -/
structure Brd (w : World) (b1 b2 b3 n1 n2 n3 : Nat) (S1 S2 S3 : ByteArray → Bool) : Prop where
  s1 : SetIs w b1 n1 S1
  s2 : SetIs w b2 n2 S2
  s3 : SetIs w b3 n3 S3
  l1 : b1 < b2
  l2 : b2 < b3
theorem Brd.below {w w' : World} {b1 b2 b3 n1 n2 n3 : Nat} {S1 S2 S3 : ByteArray → Bool} (h : Brd w b1 b2 b3 n1 n2 n3 S1 S2 S3) (k : Below w.heap.size w w') : Brd w' b1 b2 b3 n1 n2 n3 S1 S2 S3 := ⟨h.s1.below k, h.s2.below k, h.s3.below k, h.l1, h.l2⟩
set_option maxRecDepth 20000 in
set_option maxHeartbeats 2000000 in
theorem boardOf_any (B n : Nat) (F : ByteArray → Option Value) (a1 a2 a3 : Option Addr) (l1 c1 l2 c2 l3 c3 : Nat) (z1 z2 z3 : List ByteArray) (w : World) (hb : MapIs w B n F) (hv : Rls F) (hp : PnIn w a1 a2 a3 l1 l2 l3 z1 z2 z3)
    (hf1 : ∀ i, i < l1 → (elAt z1 i).size ≤ 9223372036854775807) (hf2 : ∀ i, i < l2 → (elAt z2 i).size ≤ 9223372036854775807) (hf3 : ∀ i, i < l3 → (elAt z3 i).size ≤ 9223372036854775807) :
    Calls Try.prog 17 #[.map (some B), .agg #[.slice a1 l1 c1, .slice a2 l2 c2, .slice a3 l3 c3]] w fun e w' => ∃ b1 b2 b3 n1 n2 n3 S1 S2 S3, e = .returned (.tuple #[.agg #[.map (some b1), .map (some b2), .map (some b3)], .bool (ntB F z1 && ntB F z2 && ntB F z3)]) ∧ Brd w' b1 b2 b3 n1 n2 n3 S1 S2 S3 ∧ w.heap.size ≤ b1 ∧ n1 ≤ l1 ∧ n2 ≤ l2 ∧ n3 ≤ l3 ∧ (ntB F z1 = true → S1 = hasB z1) ∧ (ntB F z2 = true → S2 = hasB z2) ∧ (ntB F z3 = true → S3 = hasB z3) ∧ Below w.heap.size w w' := by
  have HBK := hide hb
  have HVS := hide hv
  have HP := hide hp
  have HF1 := hide hf1
  have HF2 := hide hf2
  have HF3 := hide hf3
  clear hb hv hp hf1 hf2 hf3
  go_enter Try.func17, Try.ntmps17
  go_wp2_with fail
  obtain ⟨W0, hW0⟩ : ∃ W, W = w.alloc (Obj.cells #[.slice a1 l1 c1, .slice a2 l2 c2, .slice a3 l3 c3] 31) := ⟨_, rfl⟩
  obtain ⟨W1, hW1⟩ : ∃ W, W = W0.alloc (Obj.cells #[.map none, .map none, .map none] 56) := ⟨_, rfl⟩
  have z0 : W0.heap.size = w.heap.size + 1 := by rw [hW0]; simp
  have z1' : W1.heap.size = w.heap.size + 2 := by rw [hW1]; simp; omega
  have PK : Hid (Blk W1 w.heap.size [.slice a1 l1 c1, .slice a2 l2 c2, .slice a3 l3 c3]) := hide (by rw [hW1, hW0]; exact (Blk.new _ _).alloc _)
  have RK : Hid (Blk W1 (w.heap.size + 1) [.map none, .map none, .map none]) := hide (by rw [hW1, ← z0]; exact Blk.new _ _)
  have HB : Hid (Below w.heap.size w W1) := hide (by rw [hW1, hW0]; exact bel2 _ _)
  rw [← hW0, ← hW1]
  clear hW0 hW1 z0
  have HZ1 := hide z1'
  clear z1'
  refine (setOf_any _ _ F _ _ _ z1 _ ((unhide HBK).below (unhide HB)) (unhide HVS) ((unhide HP).r1.below (unhide HB)) (unhide HF1)).mono ?_
  rintro e w1 ⟨n1, S1, rfl, hs1, hn1, he1, b1⟩
  have Q1 := hide (And.intro hn1 he1)
  have M1 := hide hs1
  have PK := hide ((unhide PK).below b1)
  have RK := hide ((unhide RK).below b1)
  have HB := hide ((unhide HB).trans (b1.mono (unhide HB).size))
  have y1 : w1.cell? ⟨w.heap.size, 1, none⟩ = some (.slice a2 l2 c2) := (unhide PK).c 1 (by simp)
  have L1 := hide b1.size
  have HM1 := hide (MapIs.lt hs1)
  clear hs1 hn1 he1 b1
  go_wp2_with fail
  refine (setOf_any _ _ F _ _ _ z2 _ ((unhide HBK).below (unhide HB)) (unhide HVS) ((unhide HP).r2.below (unhide HB)) (unhide HF2)).mono ?_
  rintro e w2 ⟨n2, S2, rfl, hs2, hn2, he2, b2⟩
  have Q2 := hide (And.intro hn2 he2)
  have M1 := hide ((unhide M1).below b2)
  have M2 := hide hs2
  have PK := hide ((unhide PK).below b2)
  have RK := hide ((unhide RK).below b2)
  have HB := hide ((unhide HB).trans (b2.mono (unhide HB).size))
  have y2 : w2.cell? ⟨w.heap.size, 2, none⟩ = some (.slice a3 l3 c3) := (unhide PK).c 2 (by simp)
  have L2 := hide b2.size
  have HM2 := hide (MapIs.lt hs2)
  clear hs2 hn2 he2 b2 y1
  go_wp2_with fail
  refine (setOf_any _ _ F _ _ _ z3 _ ((unhide HBK).below (unhide HB)) (unhide HVS) ((unhide HP).r3.below (unhide HB)) (unhide HF3)).mono ?_
  rintro e w3 ⟨n3, S3, rfl, hs3, hn3, he3, b3⟩
  have Q3 := hide (And.intro hn3 he3)
  have M1 := hide ((unhide M1).below b3)
  have M2 := hide ((unhide M2).below b3)
  have M3 := hide hs3
  have RK := hide ((unhide RK).below b3)
  have HB := hide ((unhide HB).trans (b3.mono (unhide HB).size))
  clear hs3 hn3 he3 b3 y2 PK
  have x0 : w3.cell? ⟨w.heap.size + 1, 0, none⟩ = some (.map none) := (unhide RK).c 0 (by simp)
  have x1 : w3.cell? ⟨w.heap.size + 1, 1, none⟩ = some (.map none) := (unhide RK).c 1 (by simp)
  have x2 : w3.cell? ⟨w.heap.size + 1, 2, none⟩ = some (.map none) := (unhide RK).c 2 (by simp)
  have f0 := (unhide RK).f 0 (by simp)
  have f1 := (unhide RK).f 1 (by simp)
  have f2 := (unhide RK).f 2 (by simp)
  have HBD : Hid (Brd w3 W1.heap.size w1.heap.size w2.heap.size n1 n2 n3 S1 S2 S3) := hide ⟨unhide M1, unhide M2, unhide M3, unhide HM1, unhide HM2⟩
  have HLO : Hid (w.heap.size + 2 ≤ W1.heap.size) := hide (by rw [unhide HZ1]; exact Nat.le_refl _)
  clear M1 M2 M3 HM1 HM2 L1 L2 HZ1
  obtain ⟨B1, hB1⟩ : ∃ B, B = W1.heap.size := ⟨_, rfl⟩
  obtain ⟨B2, hB2⟩ : ∃ B, B = w1.heap.size := ⟨_, rfl⟩
  obtain ⟨B3, hB3⟩ : ∃ B, B = w2.heap.size := ⟨_, rfl⟩
  rw [← hB1, ← hB2, ← hB3] at HBD ⊢
  rw [← hB1] at HLO
  clear hB1 hB2 hB3
  have HEV : Hid (∀ q1 q2 q3, ntB F z1 = q1 → ntB F z2 = q2 → ntB F z3 = q3 → (ntB F z1 && ntB F z2 && ntB F z3) = (q1 && q2 && q3)) := hide (fun _ _ _ h1 h2 h3 => by rw [h1, h2, h3])
  have HBS : Hid (Brd (((w3.setCell ⟨w.heap.size + 1, 0, none⟩ (.map (some B1))).setCell ⟨w.heap.size + 1, 1, none⟩ (.map (some B2))).setCell ⟨w.heap.size + 1, 2, none⟩ (.map (some B3))) B1 B2 B3 n1 n2 n3 S1 S2 S3) := hide (by
    have hl1 := (unhide HBD).l1
    have hl2 := (unhide HBD).l2
    have hlo := unhide HLO
    have k : ∀ {b n : Nat} {S : ByteArray → Bool}, SetIs w3 b n S → w.heap.size + 2 ≤ b → SetIs (((w3.setCell ⟨w.heap.size + 1, 0, none⟩ (.map (some B1))).setCell ⟨w.heap.size + 1, 1, none⟩ (.map (some B2))).setCell ⟨w.heap.size + 1, 2, none⟩ (.map (some B3))) b n S := fun {b n S} h hb =>
      MapIs.setCell (MapIs.setCell (MapIs.setCell h (by show b ≠ w.heap.size + 1; omega) _) (by show b ≠ w.heap.size + 1; omega) _) (by show b ≠ w.heap.size + 1; omega) _
    exact ⟨k (unhide HBD).s1 (by omega), k (unhide HBD).s2 (by omega), k (unhide HBD).s3 (by omega), hl1, hl2⟩)
  have HBB : Hid (Below w.heap.size w (((w3.setCell ⟨w.heap.size + 1, 0, none⟩ (.map (some B1))).setCell ⟨w.heap.size + 1, 1, none⟩ (.map (some B2))).setCell ⟨w.heap.size + 1, 2, none⟩ (.map (some B3)))) := hide ((((unhide HB).setCell (by simp) _).setCell (by simp) _).setCell (by simp) _)
  have RKS : Hid (Blk (((w3.setCell ⟨w.heap.size + 1, 0, none⟩ (.map (some B1))).setCell ⟨w.heap.size + 1, 1, none⟩ (.map (some B2))).setCell ⟨w.heap.size + 1, 2, none⟩ (.map (some B3))) (w.heap.size + 1) [.map (some B1), .map (some B2), .map (some B3)]) := hide ((((unhide RK).set 0 (by simp) (.map (some B1))).set 1 (by simp) (.map (some B2))).set 2 (by simp) (.map (some B3)))
  cases g1 : ntB F z1 <;> cases g2 : ntB F z2 <;> cases g3 : ntB F z3
  all_goals
    have G1 := hide g1
    have G2 := hide g2
    have G3 := hide g3
    clear g1 g2 g3
    go_wp2_with fail
    rw [unhide HEV _ _ _ (unhide G1) (unhide G2) (unhide G3)]
    have q1 := unhide Q1
    have q2 := unhide Q2
    have q3 := unhide Q3
    rw [unhide G1] at q1
    rw [unhide G2] at q2
    rw [unhide G3] at q3
    rw [unhide G1, unhide G2, unhide G3]
    exact bodyPost_ret (results_cellB (vs := [.map (some B1), .map (some B2), .map (some B3)]) rfl Try.isAgg56 Try.sizeOf56 rfl (unhide RKS) rfl) rfl ⟨B1, B2, B3, n1, n2, n3, S1, S2, S3, rfl, unhide HBS, by have := unhide HLO; omega, q1.1, q2.1, q3.1, q1.2, q2.2, q3.2, unhide HBB⟩

end Go.Proofs.Ytfehfocfoegbdaa

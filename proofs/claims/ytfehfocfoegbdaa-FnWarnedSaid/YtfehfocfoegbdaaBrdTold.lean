/-
  The rules that a board tells, sorted: the program's told. Nothing that was there is written.
-/
import Derived.Test.YtfehfocfoegbdaaMWrSort
import Derived.Test.YtfehfocfoegbdaaBrdTell
import Derived.Test.YtfehfocfoegbdaaMSetS
import Derived.Test.YtfehfocfoegbdaaMWrTo
namespace Go.Proofs.Ytfehfocfoegbdaa
open Go.RowKit Go.Maps Go.WideMaps

theorem ownQ_row {w w0 : World} {base g n cap : Nat} {ds : List Wq} (h : OwnE 5 wqC w base 48 (.slice (some ⟨g, 0, none⟩) n cap) ds) (hn : ds.length = n) (hs : n ≤ 1000) (hb : Below w0.heap.size w0 w) (hx : ∀ x ∈ ds, Row w0 x.2.1 x.2.2.1 x.1.q ∧ x.2.2.1 ≤ x.2.2.2 ∧ wrFit x.1) : RowW w (some ⟨g, 0, none⟩) n (ds.map Prod.fst) := by
  refine ⟨by simpa using hn, by omega, fun i hi => ?_⟩
  have hi' : i < ds.length := by omega
  have e : elAt (ds.map Prod.fst) i = (elAt ds i).1 := by simp [elAt, hi']
  have hm : elAt ds i ∈ ds := by
    have : elAt ds i = ds[i] := by simp [elAt, hi']
    rw [this]; exact List.getElem_mem hi'
  obtain ⟨h1, h2, h3⟩ := hx _ hm
  have hc := fun q hq => (h.here hn i hi q hq).1
  rw [e]
  refine ⟨g, 0, _, _, _, rfl, ⟨?_, ?_, ?_, ?_, ?_⟩, h1.below hb, h2, h3⟩
  · have := hc 0 (by omega); rw [Nat.zero_add]; exact this
  · have := hc 1 (by omega); rw [Nat.zero_add]; exact this
  · have := hc 2 (by omega); rw [Nat.zero_add]; exact this
  · have := hc 3 (by omega); rw [Nat.zero_add]; exact this
  · have := hc 4 (by omega); rw [Nat.zero_add]; exact this
theorem wrB_rise1 {rs : List Wr} (h : wrB rs = true) : riseS (wrN rs) = true := by
  cases e : riseS (wrN rs) with
  | true => rfl
  | false => rw [wrB_rise e] at h; cases h
theorem elAt_mem {α : Type} [Inhabited α] {l : List α} {x : α} : x ∈ l ↔ ∃ i, i < l.length ∧ x = elAt l i := by
  constructor
  · intro h
    obtain ⟨i, hi, rfl⟩ := List.getElem_of_mem h
    exact ⟨i, hi, by simp [elAt, hi]⟩
  · rintro ⟨i, hi, rfl⟩
    have : elAt l i = l[i] := by simp [elAt, hi]
    rw [this]; exact List.getElem_mem hi

/-- What has been found so far. -/
structure TldP (rs : List Wr) (qs : Nat → Option Addr × Nat × Nat) (P : Wr → Bool) (L : ByteArray → Bool) (ds : List Wq) : Prop where
  mem : ∀ x ∈ ds, ∃ i, i < rs.length ∧ x = (elAt rs i, qs i) ∧ P (elAt rs i) = true ∧ L (elAt rs i).n = false
  all : ∀ i, i < rs.length → L (elAt rs i).n = false → P (elAt rs i) = true → (elAt rs i, qs i) ∈ ds
  nd : ds.Pairwise (fun x y => ¬ x.1.n = y.1.n)
theorem wrN_inj {rs : List Wr} (h : riseS (wrN rs) = true) {i k : Nat} (hi : i < rs.length) (hk : k < rs.length) (e : (elAt rs k).n = (elAt rs i).n) : k = i :=
  riseS_ne h (by rw [wrN_len]; exact hk) (by rw [wrN_len]; exact hi) (by rw [wrN_at hk, wrN_at hi, e])
theorem TldP.skip {rs : List Wr} {qs : Nat → Option Addr × Nat × Nat} {P : Wr → Bool} {L : ByteArray → Bool} {ds : List Wq} (k : TldP rs qs P L ds) (hr : riseS (wrN rs) = true) {i : Nat} (hi : i < rs.length) {s : ByteArray} (hs : (elAt rs i).n = s) (hp : P (elAt rs i) = false) : TldP rs qs P (fun t => L t && !decide (t = s)) ds := by
  refine ⟨fun x hx => ?_, fun j hj hl hpj => ?_, k.nd⟩
  · obtain ⟨j, h1, h2, h3, h4⟩ := k.mem x hx
    exact ⟨j, h1, h2, h3, by rw [h4]; rfl⟩
  · rcases Bool.and_eq_false_iff.1 hl with h | h
    · exact k.all j hj h hpj
    · have h : (elAt rs j).n = s := by simpa using h
      have := wrN_inj hr hi hj (h.trans hs.symm)
      subst this; rw [hp] at hpj; cases hpj
theorem TldP.add {rs : List Wr} {qs : Nat → Option Addr × Nat × Nat} {P : Wr → Bool} {L : ByteArray → Bool} {ds : List Wq} (k : TldP rs qs P L ds) (hr : riseS (wrN rs) = true) {i : Nat} (hi : i < rs.length) {s : ByteArray} (hs : (elAt rs i).n = s) (hL : L s = true) (hp : P (elAt rs i) = true) : TldP rs qs P (fun t => L t && !decide (t = s)) (ds ++ [(elAt rs i, qs i)]) := by
  refine ⟨fun x hx => ?_, fun j hj hl hpj => ?_, ?_⟩
  · rcases List.mem_append.1 hx with hx | hx
    · obtain ⟨j, h1, h2, h3, h4⟩ := k.mem x hx
      exact ⟨j, h1, h2, h3, by rw [h4]; rfl⟩
    · rw [List.mem_singleton] at hx
      exact ⟨i, hi, hx, hp, by rw [hs]; simp⟩
  · rcases Bool.and_eq_false_iff.1 hl with h | h
    · exact List.mem_append.2 (.inl (k.all j hj h hpj))
    · have h : (elAt rs j).n = s := by simpa using h
      have := wrN_inj hr hi hj (h.trans hs.symm)
      subst this; exact List.mem_append.2 (.inr (List.mem_singleton.2 rfl))
  · rw [List.pairwise_append]
    refine ⟨k.nd, List.pairwise_singleton _ _, fun a ha b hb e => ?_⟩
    rw [List.mem_singleton] at hb
    subst hb
    obtain ⟨j, h1, h2, h3, h4⟩ := k.mem a ha
    subst h2
    simp only at e
    rw [e, hs, hL] at h4; cases h4

/-- The rounds: what is still to come, and what is found. -/
structure Tld (w wr : World) (b1 b2 b3 B R n cnt g m cp : Nat) (F : ByteArray → Option Value) (L : ByteArray → Bool) (ds : List Wq) : Prop where
  r : RangeIs wr B R n F L cnt
  o : OwnE 5 wqC wr (w.heap.size + 1) 48 (.slice (some ⟨g, 0, none⟩) m cp) ds
  l : ds.length = m
  kb : Blk wr w.heap.size [.map (some b1), .map (some b2), .map (some b3)]
  b : Below w.heap.size w wr
  ne : ¬ R = g
  le : w.heap.size ≤ R
theorem Tld.below {w wr w' : World} {b1 b2 b3 B R n cnt g m cp : Nat} {F : ByteArray → Option Value} {L : ByteArray → Bool} {ds : List Wq} (k : Tld w wr b1 b2 b3 B R n cnt g m cp F L ds) (b : Below wr.heap.size wr w') : Tld w w' b1 b2 b3 B R n cnt g m cp F L ds :=
  ⟨k.r.below b, k.o.below b, k.l, k.kb.below b, k.b.trans (b.mono k.b.size), k.ne, k.le⟩
theorem Tld.app {w wr w' : World} {b1 b2 b3 B R n cnt g m cp g' cp' : Nat} {F : ByteArray → Option Value} {L : ByteArray → Bool} {ds : List Wq} {x : Wq} (k : Tld w wr b1 b2 b3 B R n cnt g m cp F L ds) (hB : B < w.heap.size) (o : OwnE 5 wqC w' (w.heap.size + 1) 48 (.slice (some ⟨g', 0, none⟩) (m + 1) cp') (ds ++ [x])) (gr : wr.grownBy w' (Value.slice (some ⟨g, 0, none⟩) m cp).ownBlock) (hg : (Value.slice (some ⟨g, 0, none⟩) m cp).ownBlock = some g' ∨ wr.heap.size < g') : Tld w w' b1 b2 b3 B R n cnt g' (m + 1) cp' F L (ds ++ [x]) := by
  have hl := (k.o.lies g rfl).1
  have hR := k.r.lt
  have gr' : wr.grownBy w' (some g) := gr
  refine ⟨k.r.kept gr' (by simp; omega) (by simp; exact k.ne), o, by simp [k.l], k.kb.apart gr' (by simp; omega), k.b.grown gr' k.b.size (fun q hq => by cases hq; omega), ?_, k.le⟩
  rcases hg with hg | hg
  · have : g = g' := by simpa [Value.ownBlock] using hg
    rw [← this]; exact k.ne
  · omega
theorem Tld.next {w wr w' : World} {b1 b2 b3 B R n cnt cnt' g m cp : Nat} {F : ByteArray → Option Value} {L L' : ByteArray → Bool} {ds : List Wq} (k : Tld w wr b1 b2 b3 B R n cnt g m cp F L ds) (h : RangeIs w' B R n F L' cnt') (hR : ¬ R = w.heap.size) (gr : wr.grownBy w' (some R)) : Tld w w' b1 b2 b3 B R n cnt' g m cp F L' ds := by
  have hle := k.le
  have hne := k.ne
  exact ⟨h, k.o.far gr (fun q hq => by cases hq; simp; omega), k.l, k.kb.apart gr (by simp; omega), k.b.grown gr k.b.size (fun q hq => by cases hq; exact hle), k.ne, k.le⟩
set_option maxRecDepth 20000 in
set_option maxHeartbeats 4000000 in
theorem told_any (b1 b2 b3 n1 n2 n3 B n : Nat) (S1 S2 S3 : ByteArray → Bool) (ad : Option Addr) (len : Nat) (rs : List Wr) (qs : Nat → Option Addr × Nat × Nat) (ph : Int) (w0 w : World) (hb : Brd w b1 b2 b3 n1 n2 n3 S1 S2 S3) (hm : MapIs w B n (bkA rs qs)) (hn : n ≤ 30) (hv : RowV w0 ad len rs qs) (hbb : Below w0.heap.size w0 w) (hw : wrB rs = true) :
    Calls Try.prog 23 #[.agg #[.map (some b1), .map (some b2), .map (some b3)], .map (some B), .int .i64 ph] w fun e w' => ∃ g cp m ds, e = .returned (.slice (some ⟨g, 0, none⟩) m cp) ∧ ds.map Prod.fst = tlL rs (fun p => tlB S1 S2 S3 p ph) ∧ ds.length = m ∧ m ≤ 30 ∧ OwnE 5 wqC w' w.heap.size 48 (.slice (some ⟨g, 0, none⟩) m cp) ds ∧ (∀ x ∈ ds, Row w0 x.2.1 x.2.2.1 x.1.q ∧ x.2.2.1 ≤ x.2.2.2 ∧ wrFit x.1) ∧ Below w.heap.size w w' := by
  have HBD := hide hb
  have HBB := hide hbb
  have HV := hide hv
  have HW := hide hw
  have HRI := hide (wrB_rise1 hw)
  have HLN : Hid (rs.length = len) := hide hv.len_eq
  have hBl := hm.lt
  obtain ⟨V, hV⟩ : ∃ V, V = w.alloc (Obj.cells #[.map (some b1), .map (some b2), .map (some b3)] 56) := ⟨_, rfl⟩
  obtain ⟨V2, hV2⟩ : ∃ V2, V2 = V.alloc (Obj.cells #[] 48) := ⟨_, rfl⟩
  have y0 : V.heap.size = w.heap.size + 1 := by rw [hV]; simp
  have y1 : V2.heap.size = w.heap.size + 2 := by rw [hV2]; simp [y0]
  have HM : Hid (MapIs V2 B n (bkA rs qs)) := hide (by rw [hV2, hV]; exact (hm.alloc _).alloc _)
  have KB : Hid (Blk V2 w.heap.size [.map (some b1), .map (some b2), .map (some b3)]) := hide (by rw [hV2, hV]; exact (Blk.new _ _).alloc _)
  have HO : Hid (OwnE 5 wqC V2 (w.heap.size + 1) 48 (.slice (some ⟨w.heap.size + 1, 0, none⟩) 0 0) ([] : List Wq)) := hide (by
    have h : OwnE 5 wqC (V.alloc (Obj.cells #[] 48)) V.heap.size 48 (.slice (some ⟨V.heap.size, 0, none⟩) 0 0) ([] : List Wq) := ownE_none (Nat.le_refl _)
    rw [← hV2, y0] at h; exact h)
  have HB : Hid (Below w.heap.size w V2) := hide (by rw [hV2, hV]; exact bel2 _ _)
  have HV2 := hide (And.intro hV hV2)
  clear hb hm hv hw hV hV2 y0 hbb
  go_enter Try.func23, Try.ntmps23
  go_wp2_with (first
    | (at_range; rw [← (unhide HV2).1, ← (unhide HV2).2]; refine wpList_range_is rfl _ 50 rfl Try.underlying50 rfl (unhide HM) ?_; intro w1 cnt hrg1 hc1 hg1 hs1)
    | go_in)
  go_frame
  rw [y1] at hrg1 hs1 ⊢
  have HT : Hid (Tld w w1 b1 b2 b3 B (w.heap.size + 2) n cnt (w.heap.size + 1) 0 0 (bkA rs qs) (fun s => (bkA rs qs s).isSome) []) := hide (by
    have b3' : Below V2.heap.size V2 w1 := (Below.refl V2.heap.size V2).grown hg1 (Nat.le_refl _) (fun j hj => by cases hj)
    exact ⟨hrg1, (unhide HO).below b3', rfl, (unhide KB).below b3', (unhide HB).trans (b3'.mono (unhide HB).size), by omega, by omega⟩)
  have HP : Hid (TldP rs qs (fun p => tlB S1 S2 S3 p ph) (fun s => (bkA rs qs s).isSome) []) := hide ⟨fun x hx => (by cases hx), fun i hi hl => (by rw [bkA_is, wfK_at (unhide HRI) hi, decide_eq_true hi] at hl; cases hl), List.Pairwise.nil⟩
  have hcn : 0 + cnt ≤ n := by omega
  clear hrg1 hg1 hs1 HM KB HO HB HV2 hc1 y1
  go_loopw [7] (fun s7 wr => ∃ (L : ByteArray → Bool) (cnt g m cp : Nat) (ds : List Wq), s7 = .slice (some ⟨g, 0, none⟩) m cp ∧ m + cnt ≤ n ∧ Hid (Tld w wr b1 b2 b3 B (w.heap.size + 2) n cnt g m cp (bkA rs qs) L ds) ∧ Hid (TldP rs qs (fun p => tlB S1 S2 S3 p ph) L ds)) (fun _ wr => wr.rangeLeft B (w.heap.size + 2))
  case atStart => exact ⟨_, cnt, _, 0, 0, [], rfl, hcn, HT, HP⟩
  case round =>
    clear HT HP hcn
    obtain ⟨L, cnt, g, m, cp, ds, rfl, hmc, HT, HP⟩ := hrel
    go_wp2_with (first
      | (at_next; refine wpList_next_is rfl _ rfl rfl (unhide HT).r ?_ ?_)
      | go_in)
    · intro hl
      have HL := hide hl
      clear hl
      have HS := hide (sortW_any (w.heap.size + 1) g m cp ds wr (unhide HT).o (unhide HT).l (by omega))
      go_wp2_with fail
      refine (unhide HS).mono ?_
      rintro e w5 ⟨rfl, ds', hperm, hsort, ho5, hg5⟩
      have HE : Hid (ds'.map Prod.fst = tlL rs (fun p => tlB S1 S2 S3 p ph)) := hide (by
        have hp := unhide HP
        have hl := unhide HL
        refine tlL_of (unhide HRI) (fun p hp => ?_) hsort ((hperm.pairwise_iff (fun {a b} h e => h e.symm)).2 hp.nd) (fun p => ?_)
        · obtain ⟨i, hi, rfl⟩ := elAt_mem.1 hp
          exact wrR_facts (unhide HW) hi
        · rw [List.mem_map]
          constructor
          · rintro ⟨x, hx, rfl⟩
            obtain ⟨i, hi, rfl, h3, _⟩ := hp.mem x (hperm.mem_iff.1 hx)
            exact ⟨elAt_mem.2 ⟨i, hi, rfl⟩, h3⟩
          · rintro ⟨h1, h2⟩
            obtain ⟨i, hi, rfl⟩ := elAt_mem.1 h1
            exact ⟨_, hperm.mem_iff.2 (hp.all i hi (hl _) h2), rfl⟩)
      have hlen : ds'.length = m := by rw [hperm.length_eq]; exact (unhide HT).l
      have HBF : Hid (Below w.heap.size w w5) := hide ((unhide HT).b.grown hg5 (unhide HT).b.size (fun q hq => by cases hq; have := ((unhide HT).o.lies g rfl).1; omega))
      have HRW : Hid (∀ x ∈ ds', Row w0 x.2.1 x.2.2.1 x.1.q ∧ x.2.2.1 ≤ x.2.2.2 ∧ wrFit x.1) := hide (fun x hx => by
        have hp := unhide HP
        obtain ⟨i, hi, rfl, _, _⟩ := hp.mem x (hperm.mem_iff.1 hx)
        have hv := unhide HV
        have hi' : i < len := by rw [← unhide HLN]; exact hi
        exact ⟨hv.rows i hi', hv.caps i hi', hv.fit i hi'⟩)
      have HOO : Hid (OwnE 5 wqC w5 w.heap.size 48 (.slice (some ⟨g, 0, none⟩) m cp) ds') := hide (ho5.mono (by omega))
      have HLL := hide hlen
      have hm30 : m ≤ 30 := by omega
      clear hperm hsort ho5 hg5 hlen HS HL
      go_wp2_with fail
      go_ret
      exact ⟨g, cp, m, ds', rfl, unhide HE, unhide HLL, hm30, unhide HOO, unhide HRW, unhide HBF⟩
    · intro s v w4 cnt4 hss hL hF hrg4 hlt4 hg4 hs4 hen
      obtain ⟨i, hi, hns, rfl⟩ := bkA_some hF
      have hi' : i < len := by rw [← unhide HLN]; exact hi
      have HR4 := hide ((unhide HV).rows i hi')
      have HF4 := hide ((unhide HV).fit i hi')
      have HT4 := hide ((unhide HT).next hrg4 (by omega) hg4)
      have HI := hide (And.intro hi (And.intro hns hL))
      obtain ⟨⟨x, r, q, l, d⟩, hp⟩ : ∃ p, elAt rs i = p := ⟨_, rfl⟩
      obtain ⟨⟨qa, ql, qc⟩, hq⟩ : ∃ q, qs i = q := ⟨_, rfl⟩
      have HPQ := hide (And.intro hp hq)
      rw [hp] at HF4
      rw [hp, hq] at HR4
      rw [hp, hq] at hen ⊢
      unfold wrV at hen ⊢
      simp only at hen HR4 ⊢
      obtain ⟨V1, hV1⟩ : ∃ V, V = w4.alloc (Obj.cells #[.string x, .int .i64 r, .slice qa ql qc, .bool l, .string d] 48) := ⟨_, rfl⟩
      have HT5 : Hid (Tld w V1 b1 b2 b3 B (w.heap.size + 2) n cnt4 g m cp (bkA rs qs) (fun t => L t && !decide (t = s)) ds) := hide (by rw [hV1]; exact (unhide HT4).below (bel1 _))
      have RK : Hid (Blk V1 w4.heap.size [.string x, .int .i64 r, .slice qa ql qc, .bool l, .string d]) := hide (by rw [hV1]; exact Blk.new _ _)
      have HV1 := hide hV1
      clear hp hq hns hL hi hi' hF hrg4 hg4 hs4 HT4 hV1
      have HC := fun (W : World) (hW : Below w.heap.size w W) => tells_any b1 b2 b3 n1 n2 n3 S1 S2 S3 qa ql qc ⟨x, r, q, l, d⟩ ph W ((unhide HBD).below hW) (unhide HF4) (((unhide HR4).below (unhide HBB)).below hW)
      have HCH := hide HC
      clear HC
      have c0 : (w4.alloc (Obj.cells #[.string x, .int .i64 r, .slice qa ql qc, .bool l, .string d] 48)).cell? ⟨w.heap.size, 0, none⟩ = some (.map (some b1)) := by rw [← unhide HV1]; exact (unhide HT5).kb.c 0 (by simp)
      have c1 : (w4.alloc (Obj.cells #[.string x, .int .i64 r, .slice qa ql qc, .bool l, .string d] 48)).cell? ⟨w.heap.size, 1, none⟩ = some (.map (some b2)) := by rw [← unhide HV1]; exact (unhide HT5).kb.c 1 (by simp)
      have c2 : (w4.alloc (Obj.cells #[.string x, .int .i64 r, .slice qa ql qc, .bool l, .string d] 48)).cell? ⟨w.heap.size, 2, none⟩ = some (.map (some b3)) := by rw [← unhide HV1]; exact (unhide HT5).kb.c 2 (by simp)
      obtain ⟨t, ht⟩ : ∃ t, tlB S1 S2 S3 ⟨x, r, q, l, d⟩ ph = t := ⟨_, rfl⟩
      have HTT := hide ht
      rw [ht] at HCH
      have HBV : Hid (Below w.heap.size w (w4.alloc (Obj.cells #[.string x, .int .i64 r, .slice qa ql qc, .bool l, .string d] 48))) := hide (by rw [← unhide HV1]; exact (unhide HT5).b)
      clear ht
      cases t with
      | false =>
        go_wp2_with fail
        refine (unhide HCH _ (unhide HBV)).mono ?_
        rintro e w6 ⟨rfl, b6⟩
        rw [← unhide HV1] at b6
        have HT6 := hide ((unhide HT5).below b6)
        have HP6 : Hid (TldP rs qs (fun p => tlB S1 S2 S3 p ph) (fun t => L t && !decide (t = s)) ds) := hide ((unhide HP).skip (unhide HRI) (unhide HI).1 (unhide HI).2.1 (by rw [(unhide HPQ).1]; exact unhide HTT))
        clear b6
        go_wp2_with fail
        go_roundw
        case rel => exact ⟨_, cnt4, g, m, cp, ds, rfl, by omega, HT6, HP6⟩
        case measure => rw [(unhide HT6).r.left_eq, (unhide HT).r.left_eq]; exact hlt4
      | true =>
        go_wp2_with fail
        refine (unhide HCH _ (unhide HBV)).mono ?_
        rintro e w6 ⟨rfl, b6⟩
        rw [← unhide HV1] at b6
        have HT6 := hide ((unhide HT5).below b6)
        have HP6 : Hid (TldP rs qs (fun p => tlB S1 S2 S3 p ph) (fun t => L t && !decide (t = s)) (ds ++ [(⟨x, r, q, l, d⟩, (qa, ql, qc))])) := hide (by
          have := (unhide HP).add (unhide HRI) (unhide HI).1 (unhide HI).2.1 (unhide HI).2.2 (by rw [(unhide HPQ).1]; exact unhide HTT)
          rw [(unhide HPQ).1, (unhide HPQ).2] at this
          exact this)
        have RK6 := hide ((unhide RK).below b6)
        have r0 : w6.cell? ⟨w4.heap.size, 0, none⟩ = some (.string x) := (unhide RK6).c 0 (by simp)
        have r1 : w6.cell? ⟨w4.heap.size, 1, none⟩ = some (.int .i64 r) := (unhide RK6).c 1 (by simp)
        have r2 : w6.cell? ⟨w4.heap.size, 2, none⟩ = some (.slice qa ql qc) := (unhide RK6).c 2 (by simp)
        have r3 : w6.cell? ⟨w4.heap.size, 3, none⟩ = some (.bool l) := (unhide RK6).c 3 (by simp)
        have r4 : w6.cell? ⟨w4.heap.size, 4, none⟩ = some (.string d) := (unhide RK6).c 4 (by simp)
        clear b6
        have hsz : w.heap.size < w6.heap.size := (unhide HT6).kb.lt
        go_wp2_with (at_builtin; (refine wpList_app_elG (K := 5) (cells := wqC) rfl _ _ 24 48 rfl Try.underlying24 infoWr rfl (by decide) (by decide) (⟨x, r, q, l, d⟩, (qa, ql, qc)) [.string x, .int .i64 r, .slice qa ql qc, .bool l, .string d] rfl (fun q hq => by match q, hq with | 0, _ => rfl | 1, _ => rfl | 2, _ => rfl | 3, _ => rfl | 4, _ => rfl) (fun u hu => by simp at hu; rcases hu with rfl | rfl | rfl | rfl | rfl <;> rfl) (unhide HT6).o (unhide HT6).l rfl (by simp) rfl (by omega) (by omega) ?_; intro g' c' w9 o9 gr9 ha9; have HT9 := hide ((unhide HT6).app hBl o9 gr9 ha9); clear o9 gr9 ha9))
        go_roundw
        case rel => exact ⟨_, cnt4, _, _, _, _, rfl, by omega, HT9, HP6⟩
        case measure => rw [(unhide HT9).r.left_eq, (unhide HT).r.left_eq]; exact hlt4

end Go.Proofs.Ytfehfocfoegbdaa

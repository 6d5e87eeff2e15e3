/-
  What is heard of two networks in turn, of the program: a select of which one receive alone can proceed. Both are filled and shut; nothing that was there is written but they.
-/
import Derived.Test.YticdccdkjepifaaBbNet
import Derived.Test.YticdccdkjepifaaMAppI
namespace Go.Proofs.Yticdccdkjepifaa
open Go Go.Conc Go.RowKit

theorem info_fr3 : (Try.prog.info? 22).map (fun i => (i.zero, i.size, i.bytes)) = some (some (.slice none 0 0), 1, 24) := by kernel_rfl
theorem grown_setChan (w : World) (c cap : Nat) (buf : Array Value) (cl : Bool) (s r : Nat) (tm : Bool) : w.grownBy (w.setChan c cap buf cl s r tm) (some c) :=
  ⟨rfl, rfl, rfl, by simp [World.setChan], fun k hk hne => by simp only [World.setChan]; rw [Array.getElem?_setIfInBounds_ne (fun e => hne (by rw [e]))]⟩
theorem ChanIs.far {w w' : World} {c cap : Nat} {ss : List Sl} {cl : Bool} {row : Option Nat} (h : ChanIs w c cap ss cl) (k : w.grownBy w' row) (hne : row ≠ some c) : ChanIs w' c cap ss cl := by
  have hl := h.lt
  obtain ⟨s, r, e⟩ := h
  exact ⟨s, r, (k.block c hl (fun q => hne q.symm)).trans e⟩
/-- What lies there in a round: the two networks, what has been heard. -/
structure Hr (w wr : World) (B ca cb capa capb : Nat) (xs ys Z : List Sl) (v : Value) : Prop where
  own : OwnE 1 slC wr B 22 v Z
  x : ChanIs wr ca capa xs true
  y : ChanIs wr cb capb ys true
  bel : Below B w wr
  ha : v.ownBlock ≠ some ca
  hb : v.ownBlock ≠ some cb
theorem Hr.take1 {w wr : World} {B ca cb capa capb : Nat} {x : Sl} {xs ys Z : List Sl} {v : Value} (h : Hr w wr B ca cb capa capb (x :: xs) ys Z v) (hB : B ≤ ca) (hne : ca ≠ cb) (s r : Nat) : Hr w (wr.setChan ca capa (((x :: xs).map slV).toArray.extract 1 ((x :: xs).map slV).toArray.size) true s r false) B ca cb capa capb xs ys Z v :=
  ⟨h.own.far (grown_setChan ..) (fun g hg e => h.ha (hg.trans e)), ⟨s, r, (heap_setChan _ _ _ _ _ _ _ _ h.x.lt).trans (by simp; exact List.take_of_length_le (by simp))⟩, h.y.far (grown_setChan ..) (fun e => hne (Option.some.inj e)), below_setChan h.bel hB .., h.ha, h.hb⟩
theorem Hr.take2 {w wr : World} {B ca cb capa capb : Nat} {y : Sl} {xs ys Z : List Sl} {v : Value} (h : Hr w wr B ca cb capa capb xs (y :: ys) Z v) (hB : B ≤ cb) (hne : ca ≠ cb) (s r : Nat) : Hr w (wr.setChan cb capb (((y :: ys).map slV).toArray.extract 1 ((y :: ys).map slV).toArray.size) true s r false) B ca cb capa capb xs ys Z v :=
  ⟨h.own.far (grown_setChan ..) (fun g hg e => h.hb (hg.trans e)), h.x.far (grown_setChan ..) (fun e => hne (Option.some.inj e).symm), ⟨s, r, (heap_setChan _ _ _ _ _ _ _ _ h.y.lt).trans (by simp; exact List.take_of_length_le (by simp))⟩, below_setChan h.bel hB .., h.ha, h.hb⟩
theorem Hr.push {w wr w9 : World} {B ca cb capa capb g n c : Nat} {x : Sl} {xs ys Z : List Sl} {v : Value} (h : Hr w wr B ca cb capa capb xs ys Z v) (hB : B ≤ wr.heap.size) (o : OwnE 1 slC w9 B 22 (.slice (some ⟨g, 0, none⟩) n c) (Z ++ [x])) (gr : wr.grownBy w9 v.ownBlock) (hg : v.ownBlock = some g ∨ wr.heap.size < g) : Hr w w9 B ca cb capa capb xs ys (Z ++ [x]) (.slice (some ⟨g, 0, none⟩) n c) :=
  ⟨o, h.x.far gr h.ha, h.y.far gr h.hb, h.bel.grown gr hB (fun q hq => (h.own.lies q hq).1), fun e => by
    have e : g = ca := Option.some.inj e
    have := h.x.lt
    rcases hg with q | q
    · exact h.ha (by rw [q, e])
    · omega, fun e => by
    have e : g = cb := Option.some.inj e
    have := h.y.lt
    rcases hg with q | q
    · exact h.hb (by rw [q, e])
    · omega⟩
/-- How much is still to be heard, and what is not known to be shut. -/
def chLen (w : World) (c : Nat) : Nat := match w.heap[c]? with | some (.chan _ buf _ _ _ _) => buf.size | _ => 0
def flN : Value → Nat | .bool true => 1 | _ => 0
def muH (ca cb : Nat) (s6 s8 s9 : Value) (w : World) : Nat := 2 * (chLen w ca + chLen w cb + flN s8 + flN s9) + (match s6 with | .chan (some _) => 1 - flN s8 | _ => 1 - flN s9)
theorem chLen_is {w : World} {c cap : Nat} {ss : List Sl} {cl : Bool} (h : ChanIs w c cap ss cl) : chLen w c = ss.length := by
  obtain ⟨s, r, e⟩ := h
  unfold chLen
  rw [e]
  simp
theorem muH_1 {w wr : World} {B ca cb capa capb : Nat} {xs ys Z : List Sl} {v : Value} (h : Hr w wr B ca cb capa capb xs ys Z v) (oa ob : Bool) : muH ca cb (.chan (some ca)) (.bool oa) (.bool ob) wr = 2 * (xs.length + ys.length + oa.toNat + ob.toNat) + (1 - oa.toNat) := by
  unfold muH; rw [chLen_is h.x, chLen_is h.y]; cases oa <;> cases ob <;> rfl
theorem muH_2 {w wr : World} {B ca cb capa capb : Nat} {xs ys Z : List Sl} {v : Value} (h : Hr w wr B ca cb capa capb xs ys Z v) (oa ob : Bool) : muH ca cb (.chan none) (.bool oa) (.bool ob) wr = 2 * (xs.length + ys.length + oa.toNat + ob.toNat) + (1 - ob.toNat) := by
  unfold muH; rw [chLen_is h.x, chLen_is h.y]; cases oa <;> cases ob <;> rfl
theorem select_1 (x : Sl) (xs : List Sl) (c : Nat) : commResult #[rcase c (.slice none 0 0), { chan := .chan none, send := none, zero := .slice none 0 0 }] .select ((0 : Nat) : Int) (((x :: xs).map slV).toArray.getD 0 undef) true = .tuple #[.int .i64 0, .bool true, .slice x.a x.n x.c, .slice none 0 0] := by
  rw [sel_first]; simp [slV, goInt]
theorem select_2 (x : Sl) (xs : List Sl) (c : Nat) : commResult #[{ chan := .chan none, send := none, zero := .slice none 0 0 }, rcase c (.slice none 0 0)] .select ((1 : Nat) : Int) (((x :: xs).map slV).toArray.getD 0 undef) true = .tuple #[.int .i64 1, .bool true, .slice none 0 0, .slice x.a x.n x.c] := by
  rw [sel_second]; simp [slV, goInt]
theorem shut_1 (c : Nat) : commResult #[rcase c (.slice none 0 0), { chan := .chan none, send := none, zero := .slice none 0 0 }] .select ((0 : Nat) : Int) (.slice none 0 0) false = .tuple #[.int .i64 0, .bool false, .slice none 0 0, .slice none 0 0] := by
  rw [sel_first]; simp [goInt]
theorem shut_2 (c : Nat) : commResult #[{ chan := .chan none, send := none, zero := .slice none 0 0 }, rcase c (.slice none 0 0)] .select ((1 : Nat) : Int) (.slice none 0 0) false = .tuple #[.int .i64 1, .bool false, .slice none 0 0, .slice none 0 0] := by
  rw [sel_second]; simp [goInt]
theorem noway_1 (w : World) (c : CommCase) (z : Value) : ∀ (m : Nat) (c' : CommCase), m ≠ 0 → (#[c, { chan := .chan none, send := none, zero := z }] : Array CommCase)[m]? = some c' → NoWay w c' := by
  intro m c' hm hc
  rcases m with _ | _ | m
  · exact absurd rfl hm
  · simp at hc
    subst hc
    exact noWay_nil none
  · simp at hc
theorem noway_2 (w : World) (c : CommCase) (z : Value) : ∀ (m : Nat) (c' : CommCase), m ≠ 1 → (#[{ chan := .chan none, send := none, zero := z }, c] : Array CommCase)[m]? = some c' → NoWay w c' := by
  intro m c' hm hc
  rcases m with _ | _ | m
  · simp at hc
    subst hc
    exact noWay_nil none
  · exact absurd rfl hm
  · simp at hc

set_option maxRecDepth 20000 in
set_option maxHeartbeats 2000000 in
theorem heard_is (ca cb capa capb : Nat) (xs ys : List Sl) (w : World) (B : Nat) (hne : ca ≠ cb) (hBa : B ≤ ca) (hBb : B ≤ cb) (hx : ChanIs w ca capa xs true) (hy : ChanIs w cb capb ys true) (hl : xs.length + ys.length ≤ 400) :
    Calls Try.prog 38 #[.chan (some ca), .chan (some cb)] w fun e w' => ∃ g c, e = .returned (.slice (some ⟨g, 0, none⟩) (inter xs ys).length c) ∧ OwnE 1 slC w' B 22 (.slice (some ⟨g, 0, none⟩) (inter xs ys).length c) (inter xs ys) ∧ Below B w w' := by
  have hBw : B ≤ w.heap.size := Nat.le_trans hBa (Nat.le_of_lt hx.lt)
  have HN := hide (inter_len _ xs ys rfl)
  have H0 : Hid (Hr w (w.alloc (Obj.cells #[] 22)) B ca cb capa capb xs ys [] (.slice (some ⟨w.heap.size, 0, none⟩) 0 0)) := hide
    ⟨(ownE_none (w := w) (Nat.le_refl _)).mono hBw, hx.below (bel1 _), hy.below (bel1 _), (bel1 _).mono hBw, fun e => by have e : w.heap.size = ca := Option.some.inj e; have := hx.lt; omega, fun e => by have e : w.heap.size = cb := Option.some.inj e; have := hy.lt; omega⟩
  clear hx hy
  go_enter Try.func38, Try.ntmps38
  go_wp2_with fail
  go_loopw [5, 6, 7, 8, 9] (fun s5 s6 s7 s8 s9 wr => ∃ (t oa ob : Bool) (us vs Z : List Sl) (g n c : Nat), s5 = .slice (some ⟨g, 0, none⟩) n c ∧ s6 = (bif t then .chan (some ca) else .chan none) ∧ s7 = (bif t then .chan none else .chan (some cb)) ∧ s8 = .bool oa ∧ s9 = .bool ob ∧ Hid (Z.length = n) ∧ Hid (Hr w wr B ca cb capa capb us vs Z (.slice (some ⟨g, 0, none⟩) n c)) ∧ Hid (Z ++ (bif t then inter us vs else inter vs us) = inter xs ys) ∧ Hid ((oa = false → us = []) ∧ (ob = false → vs = []))) (fun _ s6 _ s8 s9 wr => muH ca cb s6 s8 s9 wr)
  case atStart => exact ⟨true, true, true, xs, ys, [], w.heap.size, 0, 0, rfl, rfl, rfl, rfl, rfl, hide rfl, H0, hide (List.nil_append _), hide ⟨(fun h => by cases h), (fun h => by cases h)⟩⟩
  case round =>
    obtain ⟨t, oa, ob, us, vs, Z, g, n, c, rfl, rfl, rfl, rfl, rfl, HZ, HH, HE, HO⟩ := hrel
    cases hoo : (oa || ob) with
    | false =>
      have e1 : oa = false := by cases oa; rfl; simp at hoo
      have e2 : ob = false := by cases ob; rfl; simp at hoo
      subst e1
      subst e2
      have HF : Hid (Z = inter xs ys) := hide (by have h1 := (unhide HO).1 rfl; have h2 := (unhide HO).2 rfl; have h3 := unhide HE; rw [h1, h2] at h3; cases t <;> simpa [inter_nil] using h3)
      clear hoo
      cases t
      all_goals
        go_wp2_with fail
        go_ret
        refine ⟨g, c, by rw [← unhide HF, unhide HZ]; rfl, ?_, (unhide HH).bel⟩
        rw [← unhide HF, unhide HZ]
        exact (unhide HH).own
    | true =>
      have hlen : n ≤ 400 := by
        have h1 := unhide HE
        have h2 := unhide HZ
        have h3 := unhide HN
        have h4 := congrArg List.length h1
        simp only [List.length_append] at h4
        omega
      have hsz : B ≤ wr.heap.size := Nat.le_trans hBw (Nat.le_trans (by omega) (unhide HH).bel.size)
      cases t with
      | true =>
        simp only [cond_true] at *
        cases oa
        all_goals cases ob
        · cases hoo
        · clear hoo
          obtain rfl : us = [] := (unhide HO).1 rfl
          obtain ⟨s, r, hc⟩ := (unhide HH).x
          have HC := hide hc
          clear hc
          go_upto_region 9 with fail
          refine wp_region_reg ?_
          simp only [List.size_toArray, List.length_cons, List.length_nil, List.range, List.range.loop]
          refine regWp_sel_shut (cases := #[rcase ca (.slice none 0 0), { chan := .chan none, send := none, zero := .slice none 0 0 }]) (n := 0) (c := ca) (z := .slice none 0 0) rfl rfl (by simp [go_sem, execOp, rcase, Act.eval]) rfl (noway_1 _ _ _) (unhide HC) ?_
          rw [shut_1]
          clear HC
          refine regWp_value (v := .int .i64 0) (w' := wr) rfl rfl (by simp [go_sem, execOp, Act.eval]) ?_
          refine regWp_value (v := .bool true) (w' := wr) rfl rfl (by simp [go_sem, execOp, Act.eval]) ?_
          refine regWp_value (v := .bool false) (w' := wr) rfl rfl (by simp [go_sem, execOp, Act.eval]) ?_
          refine regWp_end ?_
          go_wp2_with fail
          go_roundw
          case rel => exact ⟨false, _, _, [], vs, Z, g, n, c, rfl, rfl, rfl, rfl, rfl, HZ, HH, hide (by have e := unhide HE; rw [inter_nil] at e; rw [← e]; exact congrArg (Z ++ ·) (inter_nil2 _)), hide ⟨(fun _ => rfl), (unhide HO).2⟩⟩
          case measure =>
            show muH ca cb _ _ _ _ < muH ca cb _ _ _ _
            rw [muH_2 (unhide HH), muH_1 (unhide HH)]
            simp only [List.length_nil, Bool.toNat]
            simp
            try omega
        · clear hoo
          cases us with
          | nil =>
            obtain ⟨s, r, hc⟩ := (unhide HH).x
            have HC := hide hc
            clear hc
            go_upto_region 9 with fail
            refine wp_region_reg ?_
            simp only [List.size_toArray, List.length_cons, List.length_nil, List.range, List.range.loop]
            refine regWp_sel_shut (cases := #[rcase ca (.slice none 0 0), { chan := .chan none, send := none, zero := .slice none 0 0 }]) (n := 0) (c := ca) (z := .slice none 0 0) rfl rfl (by simp [go_sem, execOp, rcase, Act.eval]) rfl (noway_1 _ _ _) (unhide HC) ?_
            rw [shut_1]
            clear HC
            refine regWp_value (v := .int .i64 0) (w' := wr) rfl rfl (by simp [go_sem, execOp, Act.eval]) ?_
            refine regWp_value (v := .bool true) (w' := wr) rfl rfl (by simp [go_sem, execOp, Act.eval]) ?_
            refine regWp_value (v := .bool false) (w' := wr) rfl rfl (by simp [go_sem, execOp, Act.eval]) ?_
            refine regWp_end ?_
            go_wp2_with fail
            go_roundw
            case rel => exact ⟨false, _, _, [], vs, Z, g, n, c, rfl, rfl, rfl, rfl, rfl, HZ, HH, hide (by have e := unhide HE; rw [inter_nil] at e; rw [← e]; exact congrArg (Z ++ ·) (inter_nil2 _)), hide ⟨(fun _ => rfl), (unhide HO).2⟩⟩
            case measure =>
              show muH ca cb _ _ _ _ < muH ca cb _ _ _ _
              rw [muH_2 (unhide HH), muH_1 (unhide HH)]
              simp only [List.length_nil, Bool.toNat]
              simp
              try omega
          | cons z zs =>
            obtain ⟨s, r, hc⟩ := (unhide HH).x
            have HC := hide hc
            clear hc
            go_upto_region 9 with fail
            refine wp_region_reg ?_
            simp only [List.size_toArray, List.length_cons, List.length_nil, List.range, List.range.loop]
            refine regWp_sel_buf (cases := #[rcase ca (.slice none 0 0), { chan := .chan none, send := none, zero := .slice none 0 0 }]) (n := 0) (c := ca) (z := .slice none 0 0) rfl rfl (by simp [go_sem, execOp, rcase, Act.eval]) rfl (noway_1 _ _ _) (unhide HC) (by simp) ?_
            rw [select_1]
            have HV := hide ((unhide HH).take1 hBa hne s (r + 1))
            obtain ⟨V, hV⟩ : ∃ V, V = wr.setChan ca capa (((z :: zs).map slV).toArray.extract 1 ((z :: zs).map slV).toArray.size) true s (r + 1) false := ⟨_, rfl⟩
            rw [← hV] at HV ⊢
            have hszV : B ≤ V.heap.size := by rw [hV, size_setChan]; exact hsz
            clear hV HC
            refine regWp_value (v := .int .i64 0) (w' := V) rfl rfl (by simp [go_sem, execOp, Act.eval]) ?_
            refine regWp_value (v := .bool true) (w' := V) rfl rfl (by simp [go_sem, execOp, Act.eval]) ?_
            refine regWp_value (v := .bool false) (w' := V) rfl rfl (by simp [go_sem, execOp, Act.eval]) ?_
            refine regWp_end ?_
            go_wp2_with (at_builtin; refine wpList_app_elG (K := 1) (cells := slC) rfl _ _ 46 22 rfl Try.underlying46 info_fr3 rfl (by decide) (by decide) z [.slice z.a z.n z.c] rfl (fun q hq => by match q, hq with | 0, _ => rfl) (fun u hu => by simp at hu; rcases hu with rfl; rfl) (unhide HV).own (unhide HZ) rfl (by simp) rfl hszV (by omega) ?_; intro g' c' w9 o9 gr9 hg9; have K9 := hide ((unhide HV).push hszV o9 gr9 hg9); clear o9 gr9 hg9)
            go_roundw
            case rel => exact ⟨false, _, _, zs, vs, Z ++ [z], g', n + 1, c', rfl, rfl, rfl, rfl, rfl, hide (by simp [unhide HZ]), K9, hide (by have e := unhide HE; rw [inter_cons] at e; rw [← e, List.append_assoc]; rfl), hide ⟨(fun h => by cases h), (unhide HO).2⟩⟩
            case measure =>
              show muH ca cb _ _ _ _ < muH ca cb _ _ _ _
              rw [muH_2 (unhide K9), muH_1 (unhide HH)]
              simp only [List.length_cons, Bool.toNat]
              simp
              try omega
        · clear hoo
          cases us with
          | nil =>
            obtain ⟨s, r, hc⟩ := (unhide HH).x
            have HC := hide hc
            clear hc
            go_upto_region 9 with fail
            refine wp_region_reg ?_
            simp only [List.size_toArray, List.length_cons, List.length_nil, List.range, List.range.loop]
            refine regWp_sel_shut (cases := #[rcase ca (.slice none 0 0), { chan := .chan none, send := none, zero := .slice none 0 0 }]) (n := 0) (c := ca) (z := .slice none 0 0) rfl rfl (by simp [go_sem, execOp, rcase, Act.eval]) rfl (noway_1 _ _ _) (unhide HC) ?_
            rw [shut_1]
            clear HC
            refine regWp_value (v := .int .i64 0) (w' := wr) rfl rfl (by simp [go_sem, execOp, Act.eval]) ?_
            refine regWp_value (v := .bool true) (w' := wr) rfl rfl (by simp [go_sem, execOp, Act.eval]) ?_
            refine regWp_value (v := .bool false) (w' := wr) rfl rfl (by simp [go_sem, execOp, Act.eval]) ?_
            refine regWp_end ?_
            go_wp2_with fail
            go_roundw
            case rel => exact ⟨false, _, _, [], vs, Z, g, n, c, rfl, rfl, rfl, rfl, rfl, HZ, HH, hide (by have e := unhide HE; rw [inter_nil] at e; rw [← e]; exact congrArg (Z ++ ·) (inter_nil2 _)), hide ⟨(fun _ => rfl), (unhide HO).2⟩⟩
            case measure =>
              show muH ca cb _ _ _ _ < muH ca cb _ _ _ _
              rw [muH_2 (unhide HH), muH_1 (unhide HH)]
              simp only [List.length_nil, Bool.toNat]
              simp
              try omega
          | cons z zs =>
            obtain ⟨s, r, hc⟩ := (unhide HH).x
            have HC := hide hc
            clear hc
            go_upto_region 9 with fail
            refine wp_region_reg ?_
            simp only [List.size_toArray, List.length_cons, List.length_nil, List.range, List.range.loop]
            refine regWp_sel_buf (cases := #[rcase ca (.slice none 0 0), { chan := .chan none, send := none, zero := .slice none 0 0 }]) (n := 0) (c := ca) (z := .slice none 0 0) rfl rfl (by simp [go_sem, execOp, rcase, Act.eval]) rfl (noway_1 _ _ _) (unhide HC) (by simp) ?_
            rw [select_1]
            have HV := hide ((unhide HH).take1 hBa hne s (r + 1))
            obtain ⟨V, hV⟩ : ∃ V, V = wr.setChan ca capa (((z :: zs).map slV).toArray.extract 1 ((z :: zs).map slV).toArray.size) true s (r + 1) false := ⟨_, rfl⟩
            rw [← hV] at HV ⊢
            have hszV : B ≤ V.heap.size := by rw [hV, size_setChan]; exact hsz
            clear hV HC
            refine regWp_value (v := .int .i64 0) (w' := V) rfl rfl (by simp [go_sem, execOp, Act.eval]) ?_
            refine regWp_value (v := .bool true) (w' := V) rfl rfl (by simp [go_sem, execOp, Act.eval]) ?_
            refine regWp_value (v := .bool false) (w' := V) rfl rfl (by simp [go_sem, execOp, Act.eval]) ?_
            refine regWp_end ?_
            go_wp2_with (at_builtin; refine wpList_app_elG (K := 1) (cells := slC) rfl _ _ 46 22 rfl Try.underlying46 info_fr3 rfl (by decide) (by decide) z [.slice z.a z.n z.c] rfl (fun q hq => by match q, hq with | 0, _ => rfl) (fun u hu => by simp at hu; rcases hu with rfl; rfl) (unhide HV).own (unhide HZ) rfl (by simp) rfl hszV (by omega) ?_; intro g' c' w9 o9 gr9 hg9; have K9 := hide ((unhide HV).push hszV o9 gr9 hg9); clear o9 gr9 hg9)
            go_roundw
            case rel => exact ⟨false, _, _, zs, vs, Z ++ [z], g', n + 1, c', rfl, rfl, rfl, rfl, rfl, hide (by simp [unhide HZ]), K9, hide (by have e := unhide HE; rw [inter_cons] at e; rw [← e, List.append_assoc]; rfl), hide ⟨(fun h => by cases h), (unhide HO).2⟩⟩
            case measure =>
              show muH ca cb _ _ _ _ < muH ca cb _ _ _ _
              rw [muH_2 (unhide K9), muH_1 (unhide HH)]
              simp only [List.length_cons, Bool.toNat]
              simp
              try omega
      | false =>
        simp only [cond_false] at *
        cases oa
        all_goals cases ob
        · cases hoo
        · clear hoo
          cases vs with
          | nil =>
            obtain ⟨s, r, hc⟩ := (unhide HH).y
            have HC := hide hc
            clear hc
            go_upto_region 9 with fail
            refine wp_region_reg ?_
            simp only [List.size_toArray, List.length_cons, List.length_nil, List.range, List.range.loop]
            refine regWp_sel_shut (cases := #[{ chan := .chan none, send := none, zero := .slice none 0 0 }, rcase cb (.slice none 0 0)]) (n := 1) (c := cb) (z := .slice none 0 0) rfl rfl (by simp [go_sem, execOp, rcase, Act.eval]) rfl (noway_2 _ _ _) (unhide HC) ?_
            rw [shut_2]
            clear HC
            refine regWp_value (v := .int .i64 1) (w' := wr) rfl rfl (by simp [go_sem, execOp, Act.eval]) ?_
            refine regWp_value (v := .bool false) (w' := wr) rfl rfl (by simp [go_sem, execOp, Act.eval]) ?_
            refine regWp_value (v := .bool true) (w' := wr) rfl rfl (by simp [go_sem, execOp, Act.eval]) ?_
            refine regWp_end ?_
            go_wp2_with fail
            go_roundw
            case rel => exact ⟨true, _, _, us, [], Z, g, n, c, rfl, rfl, rfl, rfl, rfl, HZ, HH, hide (by have e := unhide HE; rw [inter_nil] at e; rw [← e]; exact congrArg (Z ++ ·) (inter_nil2 _)), hide ⟨(unhide HO).1, (fun _ => rfl)⟩⟩
            case measure =>
              show muH ca cb _ _ _ _ < muH ca cb _ _ _ _
              rw [muH_1 (unhide HH), muH_2 (unhide HH)]
              simp only [List.length_nil, Bool.toNat]
              simp
              try omega
          | cons z zs =>
            obtain ⟨s, r, hc⟩ := (unhide HH).y
            have HC := hide hc
            clear hc
            go_upto_region 9 with fail
            refine wp_region_reg ?_
            simp only [List.size_toArray, List.length_cons, List.length_nil, List.range, List.range.loop]
            refine regWp_sel_buf (cases := #[{ chan := .chan none, send := none, zero := .slice none 0 0 }, rcase cb (.slice none 0 0)]) (n := 1) (c := cb) (z := .slice none 0 0) rfl rfl (by simp [go_sem, execOp, rcase, Act.eval]) rfl (noway_2 _ _ _) (unhide HC) (by simp) ?_
            rw [select_2]
            have HV := hide ((unhide HH).take2 hBb hne s (r + 1))
            obtain ⟨V, hV⟩ : ∃ V, V = wr.setChan cb capb (((z :: zs).map slV).toArray.extract 1 ((z :: zs).map slV).toArray.size) true s (r + 1) false := ⟨_, rfl⟩
            rw [← hV] at HV ⊢
            have hszV : B ≤ V.heap.size := by rw [hV, size_setChan]; exact hsz
            clear hV HC
            refine regWp_value (v := .int .i64 1) (w' := V) rfl rfl (by simp [go_sem, execOp, Act.eval]) ?_
            refine regWp_value (v := .bool false) (w' := V) rfl rfl (by simp [go_sem, execOp, Act.eval]) ?_
            refine regWp_value (v := .bool true) (w' := V) rfl rfl (by simp [go_sem, execOp, Act.eval]) ?_
            refine regWp_end ?_
            go_wp2_with (at_builtin; refine wpList_app_elG (K := 1) (cells := slC) rfl _ _ 46 22 rfl Try.underlying46 info_fr3 rfl (by decide) (by decide) z [.slice z.a z.n z.c] rfl (fun q hq => by match q, hq with | 0, _ => rfl) (fun u hu => by simp at hu; rcases hu with rfl; rfl) (unhide HV).own (unhide HZ) rfl (by simp) rfl hszV (by omega) ?_; intro g' c' w9 o9 gr9 hg9; have K9 := hide ((unhide HV).push hszV o9 gr9 hg9); clear o9 gr9 hg9)
            go_roundw
            case rel => exact ⟨true, _, _, us, zs, Z ++ [z], g', n + 1, c', rfl, rfl, rfl, rfl, rfl, hide (by simp [unhide HZ]), K9, hide (by have e := unhide HE; rw [inter_cons] at e; rw [← e, List.append_assoc]; rfl), hide ⟨(unhide HO).1, (fun h => by cases h)⟩⟩
            case measure =>
              show muH ca cb _ _ _ _ < muH ca cb _ _ _ _
              rw [muH_1 (unhide K9), muH_2 (unhide HH)]
              simp only [List.length_cons, Bool.toNat]
              simp
              try omega
        · clear hoo
          obtain rfl : vs = [] := (unhide HO).2 rfl
          obtain ⟨s, r, hc⟩ := (unhide HH).y
          have HC := hide hc
          clear hc
          go_upto_region 9 with fail
          refine wp_region_reg ?_
          simp only [List.size_toArray, List.length_cons, List.length_nil, List.range, List.range.loop]
          refine regWp_sel_shut (cases := #[{ chan := .chan none, send := none, zero := .slice none 0 0 }, rcase cb (.slice none 0 0)]) (n := 1) (c := cb) (z := .slice none 0 0) rfl rfl (by simp [go_sem, execOp, rcase, Act.eval]) rfl (noway_2 _ _ _) (unhide HC) ?_
          rw [shut_2]
          clear HC
          refine regWp_value (v := .int .i64 1) (w' := wr) rfl rfl (by simp [go_sem, execOp, Act.eval]) ?_
          refine regWp_value (v := .bool false) (w' := wr) rfl rfl (by simp [go_sem, execOp, Act.eval]) ?_
          refine regWp_value (v := .bool true) (w' := wr) rfl rfl (by simp [go_sem, execOp, Act.eval]) ?_
          refine regWp_end ?_
          go_wp2_with fail
          go_roundw
          case rel => exact ⟨true, _, _, us, [], Z, g, n, c, rfl, rfl, rfl, rfl, rfl, HZ, HH, hide (by have e := unhide HE; rw [inter_nil] at e; rw [← e]; exact congrArg (Z ++ ·) (inter_nil2 _)), hide ⟨(unhide HO).1, (fun _ => rfl)⟩⟩
          case measure =>
            show muH ca cb _ _ _ _ < muH ca cb _ _ _ _
            rw [muH_1 (unhide HH), muH_2 (unhide HH)]
            simp only [List.length_nil, Bool.toNat]
            simp
            try omega
        · clear hoo
          cases vs with
          | nil =>
            obtain ⟨s, r, hc⟩ := (unhide HH).y
            have HC := hide hc
            clear hc
            go_upto_region 9 with fail
            refine wp_region_reg ?_
            simp only [List.size_toArray, List.length_cons, List.length_nil, List.range, List.range.loop]
            refine regWp_sel_shut (cases := #[{ chan := .chan none, send := none, zero := .slice none 0 0 }, rcase cb (.slice none 0 0)]) (n := 1) (c := cb) (z := .slice none 0 0) rfl rfl (by simp [go_sem, execOp, rcase, Act.eval]) rfl (noway_2 _ _ _) (unhide HC) ?_
            rw [shut_2]
            clear HC
            refine regWp_value (v := .int .i64 1) (w' := wr) rfl rfl (by simp [go_sem, execOp, Act.eval]) ?_
            refine regWp_value (v := .bool false) (w' := wr) rfl rfl (by simp [go_sem, execOp, Act.eval]) ?_
            refine regWp_value (v := .bool true) (w' := wr) rfl rfl (by simp [go_sem, execOp, Act.eval]) ?_
            refine regWp_end ?_
            go_wp2_with fail
            go_roundw
            case rel => exact ⟨true, _, _, us, [], Z, g, n, c, rfl, rfl, rfl, rfl, rfl, HZ, HH, hide (by have e := unhide HE; rw [inter_nil] at e; rw [← e]; exact congrArg (Z ++ ·) (inter_nil2 _)), hide ⟨(unhide HO).1, (fun _ => rfl)⟩⟩
            case measure =>
              show muH ca cb _ _ _ _ < muH ca cb _ _ _ _
              rw [muH_1 (unhide HH), muH_2 (unhide HH)]
              simp only [List.length_nil, Bool.toNat]
              simp
              try omega
          | cons z zs =>
            obtain ⟨s, r, hc⟩ := (unhide HH).y
            have HC := hide hc
            clear hc
            go_upto_region 9 with fail
            refine wp_region_reg ?_
            simp only [List.size_toArray, List.length_cons, List.length_nil, List.range, List.range.loop]
            refine regWp_sel_buf (cases := #[{ chan := .chan none, send := none, zero := .slice none 0 0 }, rcase cb (.slice none 0 0)]) (n := 1) (c := cb) (z := .slice none 0 0) rfl rfl (by simp [go_sem, execOp, rcase, Act.eval]) rfl (noway_2 _ _ _) (unhide HC) (by simp) ?_
            rw [select_2]
            have HV := hide ((unhide HH).take2 hBb hne s (r + 1))
            obtain ⟨V, hV⟩ : ∃ V, V = wr.setChan cb capb (((z :: zs).map slV).toArray.extract 1 ((z :: zs).map slV).toArray.size) true s (r + 1) false := ⟨_, rfl⟩
            rw [← hV] at HV ⊢
            have hszV : B ≤ V.heap.size := by rw [hV, size_setChan]; exact hsz
            clear hV HC
            refine regWp_value (v := .int .i64 1) (w' := V) rfl rfl (by simp [go_sem, execOp, Act.eval]) ?_
            refine regWp_value (v := .bool false) (w' := V) rfl rfl (by simp [go_sem, execOp, Act.eval]) ?_
            refine regWp_value (v := .bool true) (w' := V) rfl rfl (by simp [go_sem, execOp, Act.eval]) ?_
            refine regWp_end ?_
            go_wp2_with (at_builtin; refine wpList_app_elG (K := 1) (cells := slC) rfl _ _ 46 22 rfl Try.underlying46 info_fr3 rfl (by decide) (by decide) z [.slice z.a z.n z.c] rfl (fun q hq => by match q, hq with | 0, _ => rfl) (fun u hu => by simp at hu; rcases hu with rfl; rfl) (unhide HV).own (unhide HZ) rfl (by simp) rfl hszV (by omega) ?_; intro g' c' w9 o9 gr9 hg9; have K9 := hide ((unhide HV).push hszV o9 gr9 hg9); clear o9 gr9 hg9)
            go_roundw
            case rel => exact ⟨true, _, _, us, zs, Z ++ [z], g', n + 1, c', rfl, rfl, rfl, rfl, rfl, hide (by simp [unhide HZ]), K9, hide (by have e := unhide HE; rw [inter_cons] at e; rw [← e, List.append_assoc]; rfl), hide ⟨(unhide HO).1, (fun h => by cases h)⟩⟩
            case measure =>
              show muH ca cb _ _ _ _ < muH ca cb _ _ _ _
              rw [muH_1 (unhide K9), muH_2 (unhide HH)]
              simp only [List.length_cons, Bool.toNat]
              simp
              try omega

end Go.Proofs.Yticdccdkjepifaa

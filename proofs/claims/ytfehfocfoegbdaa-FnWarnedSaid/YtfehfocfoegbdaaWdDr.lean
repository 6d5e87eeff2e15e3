/-
  What the model's DrawWarned draws: rules that are so, phases from 0 to 9, lists of names of rules, all in new memory. Nothing that was there is written.
-/
import Derived.Test.YtfehfocfoegbdaaWdRu
namespace Go.Proofs.Ytfehfocfoegbdaa
open Go Go.RowKit

theorem own_tyW {α β : Type} [Inhabited α] [Inhabited β] {K K' : Nat} {cells : α → Nat → Value} {cells' : β → Nat → Value} {w : World} {base base' : Nat} {T T' : TypeId} {v v' : Value} {ps : List α} {qs : List β} (h : OwnE K cells w base T v ps) (h' : OwnE K' cells' w base' T' v' qs) (hT : T ≠ T') : ∀ g, v.ownBlock = some g → v'.ownBlock ≠ some g := by
  intro g hg hg'
  obtain ⟨xs, ho, _⟩ := h.own
  obtain ⟨ys, ho', _⟩ := h'.own
  rcases ho.2 with ⟨e, _⟩ | ⟨g1, c1, cur1, rfl, _, hb1, _⟩
  · rw [e] at hg; simp [Value.ownBlock] at hg
  rcases ho'.2 with ⟨e, _⟩ | ⟨g2, c2, cur2, rfl, _, hb2, _⟩
  · rw [e] at hg'; simp [Value.ownBlock] at hg'
  have e1 : g1 = g := Option.some.inj hg
  have e2 : g2 = g := Option.some.inj hg'
  rw [e1] at hb1
  rw [e2, hb1] at hb2
  simp only [Option.some.injEq, Obj.cells.injEq] at hb2
  exact hT hb2.2.1
theorem WhS.row {w : World} {C gn : Nat} {a : Option Addr} {len cap g n c : Nat} {hs : List Wh} {W : World} (h : WhS w C gn a len cap g n c hs W) (hj : WdJ hs) : RowW W (some ⟨g, 0, none⟩) n (hs.map (·.p)) := by
  obtain ⟨_, h7, _, hf⟩ := hj.so
  have hl := h.l
  rw [List.length_map] at h7
  refine ⟨by simp [hl], by omega, fun i hi => ⟨g, 0, (elAt hs i).a, (elAt hs i).p.q.length, (elAt hs i).c, rfl, ?_, ?_, ?_, ?_⟩⟩
  all_goals (try rw [show elAt (hs.map (·.p)) i = (elAt hs i).p by simp [elAt, show i < hs.length by omega]])
  · have q := fun q hq => (h.o.here hl i hi q hq).1
    rw [Nat.zero_add]
    exact ⟨q 0 (by omega), q 1 (by omega), q 2 (by omega), q 3 (by omega), q 4 (by omega)⟩
  · exact (h.qd i (by omega)).row
  · rcases (h.qd i (by omega)).form with ⟨e, e0⟩ | ⟨g2, c2, e, _, _, hc, _⟩
    · simp only [Value.slice.injEq] at e; omega
    · simp only [Value.slice.injEq] at e; omega
  · exact hf _ (List.mem_map.2 ⟨_, elAt_mem.2 ⟨i, by omega, rfl⟩, rfl⟩)
/-- A list of names, where it lies. -/
structure Sx where
  a : Option Addr
  c : Nat
  ts : List ByteArray
instance : Inhabited Sx := ⟨⟨none, 0, []⟩⟩
def sxC (x : Sx) (_ : Nat) : Value := .slice x.a x.ts.length x.c
theorem infoSs : (Try.prog.info? 29).map (fun i => (i.zero, i.size, i.bytes)) = some (some (.slice none 0 0), 1, 24) := by kernel_rfl
theorem Dk.then {w : World} {C : Nat} {a : Option Addr} {len cap : Nat} {U V W : World} (h : Dk w C a len cap U V) (k : Dk w C a len cap V W) : Dk w C a len cap U W := ⟨k.d, h.g.trans k.g, h.inn, h.lo⟩
structure WlS (w : World) (C : Nat) (a : Option Addr) (len cap : Nat) (U : World) (gp kp cp gl kl cl : Nat) (ps : List Int) (xs : List Sx) (W : World) : Prop where
  k : Dk w C a len cap U W
  p : OwnI W U.heap.size (.slice (some ⟨gp, 0, none⟩) kp cp) ps
  l : OwnE 1 sxC W U.heap.size 29 (.slice (some ⟨gl, 0, none⟩) kl cl) xs
  d : ∀ x ∈ xs, OwnE 1 stC W U.heap.size 9 (.slice x.a x.ts.length x.c) x.ts
  lp : ps.length = kp
  ll : xs.length = kl
theorem WlS.dk {w : World} {C : Nat} {a : Option Addr} {len cap : Nat} {U : World} {gp kp cp gl kl cl : Nat} {ps : List Int} {xs : List Sx} {W W' : World} (h : WlS w C a len cap U gp kp cp gl kl cl ps xs W) (k : Dk w C a len cap W W') : WlS w C a len cap U gp kp cp gl kl cl ps xs W' := by
  have lo := h.k.lo
  have gr := k.gr
  exact ⟨h.k.then k, h.p.far gr (fun q hq e => by have := (h.p.lies q hq).1; have := Option.some.inj e; omega), h.l.far gr (fun q hq e => by have := (h.l.lies q hq).1; have := Option.some.inj e; omega), fun x hx => (h.d x hx).far gr (fun q hq e => by have := ((h.d x hx).lies q hq).1; have := Option.some.inj e; omega), h.lp, h.ll⟩
theorem WlS.call {w : World} {C : Nat} {a : Option Addr} {len cap : Nat} {U : World} {gp kp cp gl kl cl : Nat} {ps : List Int} {xs : List Sx} {W W' : World} (h : WlS w C a len cap U gp kp cp gl kl cl ps xs W) (gr : W.grownBy W' (some C)) (d : Dr w C a len cap W') : WlS w C a len cap U gp kp cp gl kl cl ps xs W' := h.dk ((Dk.start h.k.d h.k.inn).call gr d)
theorem WlS.pushP {w : World} {C : Nat} {a : Option Addr} {len cap : Nat} {U : World} {gp kp cp gl kl cl : Nat} {ps : List Int} {xs : List Sx} {W W' : World} {x : Int} {g9 c9 : Nat} (h : WlS w C a len cap U gp kp cp gl kl cl ps xs W) (o9 : OwnI W' U.heap.size (.slice (some ⟨g9, 0, none⟩) (kp + 1) c9) (ps ++ [x])) (gr : W.grownBy W' (some gp)) : WlS w C a len cap U g9 (kp + 1) c9 gl kl cl (ps ++ [x]) xs W' := by
  have x1 : ∀ {p : Nat}, some p = some gp → (Value.slice (some ⟨gp, 0, none⟩) kp cp).ownBlock = some p := fun e => by rw [e]; rfl
  exact ⟨h.k.own gr (h.p.lies gp rfl).1, o9, h.l.far gr (fun q hq e => own_tyI h.p h.l (by decide) q (x1 e) hq), fun x hx => (h.d x hx).far gr (fun q hq e => own_tyI h.p (h.d x hx) (by decide) q (x1 e) hq), by simp [h.lp], h.ll⟩
theorem WlS.pushL {w : World} {C : Nat} {a : Option Addr} {len cap : Nat} {U : World} {gp kp cp gl kl cl : Nat} {ps : List Int} {xs : List Sx} {W W' : World} {x : Sx} {g9 c9 : Nat} (h : WlS w C a len cap U gp kp cp gl kl cl ps xs W) (hx : OwnE 1 stC W U.heap.size 9 (.slice x.a x.ts.length x.c) x.ts) (o9 : OwnE 1 sxC W' U.heap.size 29 (.slice (some ⟨g9, 0, none⟩) (kl + 1) c9) (xs ++ [x])) (gr : W.grownBy W' (some gl)) : WlS w C a len cap U gp kp cp g9 (kl + 1) c9 ps (xs ++ [x]) W' := by
  have x1 : ∀ {p : Nat}, some p = some gl → (Value.slice (some ⟨gl, 0, none⟩) kl cl).ownBlock = some p := fun e => by rw [e]; rfl
  refine ⟨h.k.own gr (h.l.lies gl rfl).1, h.p.far gr (fun q hq e => own_tyI h.p h.l (by decide) q hq (x1 e)), o9, fun y hy => ?_, h.lp, by simp [h.ll]⟩
  rcases List.mem_append.1 hy with hy | hy
  · exact (h.d y hy).far gr (fun q hq e => own_tyW (h.d y hy) h.l (by decide) q hq (x1 e))
  · rw [List.mem_singleton] at hy; rw [hy]; exact hx.far gr (fun q hq e => own_tyW hx h.l (by decide) q hq (x1 e))
/-- What DrawWarned tells. -/
def WdE (w : World) (e : Ending) (w' : World) : Prop := ∃ (g n c gp N cp gl cl : Nat) (rs : List Wr) (ps : List Int) (xs : List Sx), e = .returned (.tuple #[.slice (some ⟨g, 0, none⟩) n c, .slice (some ⟨gp, 0, none⟩) N cp, .slice (some ⟨gl, 0, none⟩) N cl]) ∧ N ≤ 8 ∧ (wrB rs = true ∧ rs.length ≤ 7 ∧ ∀ p ∈ rs, ¬ p.n = nobody) ∧ RowW w' (some ⟨g, 0, none⟩) n rs ∧ Row w' (some ⟨gp, 0, none⟩) N ps ∧ (∀ i, i < N → 0 ≤ nth ps i ∧ nth ps i ≤ 9) ∧ RowE 1 sxC w' (some ⟨gl, 0, none⟩) N xs ∧ (∀ x ∈ xs, RowE 1 stC w' x.a x.ts.length x.ts ∧ nmB rs x.ts = true) ∧ Below w.heap.size w w'
def WlT (w : World) (C : Nat) (a : Option Addr) (len cap : Nat) (U : World) (rs : List Wr) (N : Nat) (t7 t8 t9 : Value) (W : World) : Prop := ∃ (m k gp cp gl cl : Nat) (ps : List Int) (xs : List Sx), t7 = .slice (some ⟨gp, 0, none⟩) k cp ∧ t8 = .slice (some ⟨gl, 0, none⟩) k cl ∧ t9 = .int .i64 (m : Int) ∧ Hid (m + k = N) ∧ m ≤ 8 ∧ k ≤ 8 ∧ Hid (∀ i, i < k → 0 ≤ nth ps i ∧ nth ps i ≤ 9) ∧ Hid (∀ x ∈ xs, nmB rs x.ts = true) ∧ Hid (WlS w C a len cap U gp k cp gl k cl ps xs W)
set_option maxRecDepth 20000 in
set_option maxHeartbeats 4000000 in
theorem drawWarned_any (a : Option Addr) (len cap : Nat) (w : World) (hb : Bytes w a len) (hin : ∀ b off, a = some ⟨b, off, none⟩ → b < w.heap.size) :
    Calls Try.prog 5 #[.slice a len cap] w fun e w' => WdE w e w' := by
  have DN := hide (drNew a len cap w hb hin)
  have HIN := hide hin
  clear hb hin
  go_enter Try.func5, Try.ntmps5
  go_wp2_with fail
  refine (unhide DN).mono ?_
  rintro e W1 ⟨rfl, d1, _⟩
  obtain ⟨C, hC⟩ : ∃ C, w.heap.size = C := ⟨_, rfl⟩
  rw [hC] at d1 ⊢
  have HD1 := hide d1
  clear d1 DN hC
  go_wp2_with fail
  refine (drawRules_any W1 (unhide HD1) (unhide HIN)).mono ?_
  rintro e U ⟨g, gn, n, c, hs, rfl, hj, hS⟩
  have HJ := hide hj
  have HS := hide hS
  obtain ⟨sw, s7, sno, sfit⟩ := hj.so
  obtain ⟨rs, hrs⟩ : ∃ rs, hs.map (·.p) = rs := ⟨_, rfl⟩
  rw [hrs] at sw s7 sno
  have hn7 : n ≤ 7 := by have := hS.l; rw [← hrs, List.length_map] at s7; omega
  have SO : Hid (wrB rs = true ∧ rs.length ≤ 7 ∧ ∀ p ∈ rs, ¬ p.n = nobody) := hide ⟨sw, s7, sno⟩
  have HRS := hide hrs
  have NAT : Hid (∀ i, i < n → elAt (wrN rs) i = (elAt hs i).p.n ∧ i < (wrN rs).length) := hide (fun i hi => by
    have hl : i < hs.length := by have := hS.l; omega
    have e : wrN rs = hs.map (·.p.n) := by rw [← hrs]; simp [wrN]
    rw [e]
    exact ⟨by simp [elAt, hl], by simpa using hl⟩)
  have L0 : Hid (WlS w C a len cap U U.heap.size 0 0 (U.heap.size + 1) 0 0 [] [] ((U.alloc (Obj.cells #[] 3)).alloc (Obj.cells #[] 29))) := hide ⟨(Dk.start hS.dr hS.inn).below (bel2 _ _), (ownI_none (w := U) (w1 := U) (Nat.le_refl _)).below (bel1 _),
    (by have k := ownE_none (K := 1) (cells := sxC) (w := U) (w1 := U.alloc (Obj.cells #[] 3)) (T := 29) (by simp); simpa using k), (fun x hx => by simp at hx), rfl, rfl⟩
  clear hj hS sw s7 sno sfit hrs HD1
  go_wp2_with fail
  refine (drBelow 8 _ (unhide L0).k.d (by omega)).mono ?_
  rintro e W3 ⟨x0, rfl, hx0, d3, g3⟩
  have L1 := hide ((unhide L0).call g3 d3)
  clear d3 g3 L0
  obtain ⟨N, hN⟩ : ∃ N : Nat, 1 + x0 = (N : Int) := ⟨(1 + x0).toNat, by omega⟩
  have hN8 : N ≤ 8 := by omega
  go_wp2_with fail
  clear hN hx0
  go_loopw [7, 8, 9] (fun t7 t8 t9 wr => WlT w C a len cap U rs N t7 t8 t9 wr) (fun _ _ t9 _ => (intOf t9).toNat)
  case atStart => exact ⟨N, 0, _, _, _, _, [], [], rfl, rfl, rfl, hide rfl, hN8, by omega, hide (fun i hi => by omega), hide (fun x hx => by simp at hx), L1⟩
  case round =>
    clear L1
    obtain ⟨m, k, gp, cp, gl, cl, ps, xs, rfl, rfl, rfl, HMK, hm, hk, HP, HX, HL⟩ := hrel
    by_cases hp : 0 < m
    · have j1 : (0 : Int) < (m : Int) := by omega
      have hk7 : k ≤ 7 := by have := unhide HMK; omega
      go_wp2_with fail
      refine (drBelow 10 _ (unhide HL).k.d (by omega)).mono ?_
      rintro e W4 ⟨y, rfl, hy, d4, g4⟩
      have L4 := hide ((unhide HL).call g4 d4)
      clear d4 g4 HL
      go_wp2_with (at_builtin; go_loud (refine wpList_app_int rfl _ _ rfl (n := k) y (unhide L4).p (unhide L4).lp rfl rfl rfl (unhide L4).k.g.size (by omega) (by omega) ?_; intro g9 c9 V o9 gr9; have L5 := hide ((unhide L4).pushP o9 gr9); clear o9 gr9))
      clear L4
      have HPN : Hid (∀ i, i < k + 1 → 0 ≤ nth (ps ++ [y]) i ∧ nth (ps ++ [y]) i ≤ 9) := hide (fun i hi => by
        have hl : ps.length = k := by have q := (unhide L5).lp; simp at q; omega
        obtain ⟨e1, e2⟩ := nth_app ps y
        by_cases c : i < k
        · rw [e1 i (by omega)]; exact (unhide HP) i c
        · rw [show i = ps.length by omega, e2]; omega)
      have D0 : Hid (Dk w C a len cap V (V.alloc (Obj.cells #[] 9))) := hide ((Dk.start (unhide L5).k.d (unhide L5).k.inn).below (bel1 _))
      have O0 : Hid (OwnE 1 stC (V.alloc (Obj.cells #[] 9)) V.heap.size 9 (.slice (some ⟨V.heap.size, 0, none⟩) 0 0) []) := hide (ownE_none (K := 1) (cells := stC) (w := V) (w1 := V) (T := 9) (Nat.le_refl _))
      go_loopw [10, 11] (fun t10 t11 wr => ∃ (i gt mt ct : Nat) (ts : List ByteArray), t10 = .slice (some ⟨gt, 0, none⟩) mt ct ∧ t11 = .int .i64 (i : Int) ∧ i ≤ n ∧ mt ≤ i ∧ Hid (ts.length = mt) ∧ Hid (ts.Sublist ((wrN rs).take i)) ∧ Hid (Dk w C a len cap V wr) ∧ Hid (OwnE 1 stC wr V.heap.size 9 (.slice (some ⟨gt, 0, none⟩) mt ct) ts)) (fun _ t11 _ => n - (intOf t11).toNat)
      case atStart => exact ⟨0, _, 0, 0, [], rfl, rfl, by omega, Nat.le_refl _, hide rfl, hide (List.Sublist.refl _), D0, O0⟩
      case round =>
        clear D0 O0
        obtain ⟨i, gt, mt, ct, ts, rfl, rfl, hi, hmt, HTL, HSB, HK, HO⟩ := hrel
        by_cases hin : i < n
        · have i0 : (0 : Int) ≤ (i : Int) := by omega
          have i1 : (i : Int) < (n : Int) := by omega
          go_wp2_with fail
          refine (drOnce 2 _ (unhide HK).d (by omega)).mono ?_
          rintro e wb ⟨on, rfl, d, gr⟩
          have HO := hide ((unhide HO).far gr (fun q hq e => by have := ((unhide HO).lies q hq).1; have := (unhide HK).lo; have := Option.some.inj e; omega))
          have HK := hide ((unhide HK).call gr d)
          clear d gr
          obtain ⟨s, hs0⟩ : ∃ s, (elAt hs i).p.n = s := ⟨_, rfl⟩
          have HTK : Hid ((wrN rs).take (i + 1) = (wrN rs).take i ++ [s]) := hide (by
            obtain ⟨e1, e2⟩ := (unhide NAT) i hin
            rw [take_at e2, e1, hs0])
          have SW := ((unhide HS).dk (unhide L5).k).dk (unhide HK)
          have e0 : wb.cell? ⟨g, i * 5, none⟩ = some (.string s) := by
            have q := (SW.o.here SW.l i hin 0 (by omega)).1
            have q : wb.cell? ⟨g, i * 5 + 0, none⟩ = some (.string (elAt hs i).p.n) := q
            rw [hs0] at q
            exact q
          have hVw := (unhide HK).g.size
          clear hs0 SW
          cases on
          · go_wp2_with fail
            go_roundw
            case rel => exact ⟨i + 1, gt, mt, ct, ts, rfl, by go_num, by omega, by omega, HTL, hide (by rw [unhide HTK]; exact (unhide HSB).trans (List.sublist_append_left _ _)), HK, HO⟩
            case measure => simp [intOf]; omega
          · go_wp2_with (at_builtin; go_loud (refine wpList_app_elG (K := 1) (cells := stC) rfl _ _ 29 9 rfl Try.underlying29 info_tx rfl (by decide) (by decide) s [.string s] rfl (fun q hq => by match q, hq with | 0, _ => rfl) (fun u hu => by simp at hu; rcases hu with rfl; rfl) (unhide HO) (unhide HTL) rfl rfl rfl hVw (by omega) ?_; intro g9b c9b wz o9 gr9 hg9; have KZ := hide ((unhide HK).own (B := gt) gr9 ((unhide HO).lies gt rfl).1); have OZ := hide o9; clear o9 gr9 hg9))
            go_roundw
            case rel => exact ⟨i + 1, g9b, mt + 1, c9b, ts ++ [s], rfl, by go_num, by omega, by omega, hide (by simp [unhide HTL]), hide (by rw [unhide HTK]; exact List.Sublist.append (unhide HSB) (List.Sublist.refl _)), KZ, OZ⟩
            case measure => simp [intOf]; omega
        · have i1 : ¬ (i : Int) < (n : Int) := by omega
          obtain ⟨m', hm'⟩ : ∃ m', ts.length = m' := ⟨_, rfl⟩
          have hmm : mt = m' := by rw [← hm', unhide HTL]
          rw [hmm] at HO ⊢
          have HL' := hide hm'
          have L6 := hide ((unhide L5).dk (unhide HK))
          have hUw := (unhide L6).k.g.size
          have hUV := (unhide L5).k.g.size
          have HNM : Hid (nmB rs ts = true) := hide (nm_sub (unhide SO).1 ((unhide HSB).trans (List.take_sublist _ _)))
          clear hm' hmm
          go_wp2_with (at_builtin; go_loud (refine wpList_app_elG (K := 1) (cells := sxC) rfl _ _ 26 29 rfl Try.underlying26 infoSs rfl (by decide) (by decide) (⟨some ⟨gt, 0, none⟩, ct, ts⟩ : Sx) [.slice (some ⟨gt, 0, none⟩) m' ct] rfl (fun q hq => by rw [← unhide HL']; match q, hq with | 0, _ => rfl) (fun u hu => by simp at hu; rcases hu with rfl; rfl) (unhide L6).l (unhide L6).ll rfl rfl rfl hUw (by omega) ?_; intro g9b c9b wz o9 gr9 hg9; have LZ := hide ((unhide L6).pushL (x := ⟨some ⟨gt, 0, none⟩, ct, ts⟩) (by have k := (unhide HO).mono hUV; rw [← unhide HL'] at k; exact k) o9 gr9); clear o9 gr9 hg9))
          go_roundw
          case rel => exact ⟨m - 1, k + 1, g9, c9, g9b, c9b, _, _, rfl, rfl, by rw [show ((m - 1 : Nat) : Int) = (m : Int) - 1 by omega], hide (by have := unhide HMK; omega), by omega, by omega, HPN, hide (fun x hx => by rcases List.mem_append.1 hx with hx | hx; exact (unhide HX) x hx; rw [List.mem_singleton] at hx; rw [hx]; exact unhide HNM), LZ⟩
          case measure => simp [intOf]; omega
    · have j1 : ¬ (0 : Int) < (m : Int) := by omega
      have hkN : k = N := by have := unhide HMK; omega
      have HK := hide hkN
      clear hkN
      go_wp2_with fail
      go_ret3
      rw [unhide HK] at HL HP ⊢
      have SW := (unhide HS).dk (unhide HL).k
      have RW := SW.row (unhide HJ)
      rw [unhide HRS] at RW
      exact ⟨g, n, c, gp, N, cp, gl, cl, rs, ps, xs, by kernel_rfl, hN8, unhide SO, RW, (unhide HL).p.row, unhide HP, (unhide HL).l.row, fun x hx => ⟨((unhide HL).d x hx).row, (unhide HX) x hx⟩, (unhide HL).k.d.bel⟩

end Go.Proofs.Ytfehfocfoegbdaa

/-
  A drawn record: rows of one width of 1 to 4, at most 39, their numbers in bounds; in memory of its own. At bytes of at most 1048576.
-/
import Derived.Test.YtfnnfldfnjnlfahDraw
import Derived.Test.YtfnnfldfnjnlfahMRrOwn
import Derived.Test.YtfnnfldfnjnlfahMAppBy
import Derived.Test.YtfnnfldfnjnlfahMLeftImpl
import Derived.Deep.RegionLaw
import Derived.Deep.Cut
import Derived.Deep.CutRange
namespace Go.Proofs.Ytfnnfldfnjnlfah
open Go Go.RowKit

/-- A record that is right, of few and narrow rows. -/
def RcD (z : List (List Int)) : Prop := ∃ N : Nat, (1 ≤ N ∧ N ≤ 4) ∧ z.length ≤ 39 ∧ ∀ r ∈ z, r.length = N ∧ ∀ x ∈ r, -30000 ≤ x ∧ x ≤ 30000
def DrE (w : World) (C : Nat) (a : Option Addr) (len cap : Nat) (W : World) (e : Ending) (w' : World) : Prop := ∃ g c us z, e = .returned (.slice (some ⟨g, 0, none⟩) z.length c) ∧ (OwnRT w' W.heap.size (.slice (some ⟨g, 0, none⟩) z.length c) us z ∧ RcD z) ∧ Dr w C a len cap w'
theorem ownI_rr {w : World} {base base' : Nat} {v v' : Value} {L : List Int} {us : List Rx} (h : OwnI w base v L) (h' : OwnE 1 rxC w base' 26 v' us) : ∀ g, v.ownBlock = some g → v'.ownBlock ≠ some g := by
  intro g hg hg'
  obtain ⟨xs, ho, _⟩ := h.own
  obtain ⟨ys, ho', _⟩ := h'.own
  rcases ho.2 with ⟨e, _⟩ | ⟨g1, c1, cur1, rfl, _, hb1, _⟩
  · rw [e] at hg; simp [Value.ownBlock] at hg
  rcases ho'.2 with ⟨e, _⟩ | ⟨g2, c2, cur2, rfl, _, hb2, _⟩
  · rw [e] at hg'; simp [Value.ownBlock] at hg'
  have e1 : g1 = g := Option.some.inj hg
  have e2 : g2 = g := Option.some.inj hg'
  rw [e1] at hb1
  rw [e2, hb1] at hb2
  simp only [Option.some.injEq, Obj.cells.injEq] at hb2
  exact absurd hb2.2.1 (by decide)
/-- What is there in the middle of a row: the cursor, the rows, the row ahead, the row that grows. -/
structure RdI (w W0 : World) (C : Nat) (a : Option Addr) (len cap : Nat) (W : World) (g i c : Nat) (us : List Rx) (z : List (List Int)) (q N d : Nat) (R : List Int) (B g2 k d2 : Nat) (zz : List Int) : Prop where
  dr : Dr w C a len cap W
  r : RrG W0 W g i c us z
  rl : RrLies W0.heap.size B (.slice (some ⟨g, 0, none⟩) i c) us
  o : OwnI W W0.heap.size (.slice (some ⟨q, 0, none⟩) N d) R
  ol : q < B
  n : OwnI W B (.slice (some ⟨g2, 0, none⟩) k d2) zz
  nl : zz.length = k
  lo : C < W0.heap.size
  le : W0.heap.size ≤ B
  hB : B ≤ W.heap.size
theorem RdI.below {w W0 : World} {C : Nat} {a : Option Addr} {len cap : Nat} {W : World} {g i c : Nat} {us : List Rx} {z : List (List Int)} {q N d : Nat} {R : List Int} {B g2 k d2 : Nat} {zz : List Int} {W' : World} (h : RdI w W0 C a len cap W g i c us z q N d R B g2 k d2 zz) (b : Below W.heap.size W W') : RdI w W0 C a len cap W' g i c us z q N d R B g2 k d2 zz :=
  ⟨h.dr.below b, h.r.below b, h.rl, h.o.below b, h.ol, h.n.below b, h.nl, h.lo, h.le, Nat.le_trans h.hB b.size⟩
/-- A draw. -/
theorem RdI.call {w W0 : World} {C : Nat} {a : Option Addr} {len cap : Nat} {W : World} {g i c : Nat} {us : List Rx} {z : List (List Int)} {q N d : Nat} {R : List Int} {B g2 k d2 : Nat} {zz : List Int} {W' : World} (h : RdI w W0 C a len cap W g i c us z q N d R B g2 k d2 zz) (gr : W.grownBy W' (some C)) (d' : Dr w C a len cap W') : RdI w W0 C a len cap W' g i c us z q N d R B g2 k d2 zz := by
  have hC := h.lo
  have hle := h.le
  refine ⟨d', h.r.far h.rl gr (.inl hC), h.rl, h.o.far gr (fun p hp e => ?_), h.ol, h.n.far gr (fun p hp e => ?_), h.nl, h.lo, h.le, Nat.le_trans h.hB gr.size⟩
  · have := (h.o.lies p hp).1; have := Option.some.inj e; omega
  · have := (h.n.lies p hp).1; have := Option.some.inj e; omega
/-- One number more. -/
theorem RdI.step {w W0 : World} {C : Nat} {a : Option Addr} {len cap : Nat} {W : World} {g i c : Nat} {us : List Rx} {z : List (List Int)} {q N d : Nat} {R : List Int} {B g2 k d2 : Nat} {zz : List Int} {w9 : World} {g9 c9 : Nat} {x : Int} (h : RdI w W0 C a len cap W g i c us z q N d R B g2 k d2 zz) (hin : ∀ b off, a = some ⟨b, off, none⟩ → b < w.heap.size) (o9 : OwnI w9 B (.slice (some ⟨g9, 0, none⟩) (k + 1) c9) (zz ++ [x])) (gr : W.grownBy w9 (Value.slice (some ⟨g2, 0, none⟩) k d2).ownBlock) :
    RdI w W0 C a len cap w9 g i c us z q N d R B g9 (k + 1) c9 (zz ++ [x]) := by
  have gr2 : W.grownBy w9 (some g2) := gr
  have l2 := (h.n.lies g2 rfl).1
  have hC := h.lo
  have hle := h.le
  have hol := h.ol
  refine ⟨h.dr.own gr2 (fun p hp => by have := Option.some.inj hp; omega) hin, h.r.far h.rl gr2 (.inr l2), h.rl, h.o.far gr2 (fun p hp e => ?_), h.ol, o9, by simp [h.nl], h.lo, h.le, Nat.le_trans h.hB gr2.size⟩
  have e1 : q = p := Option.some.inj hp
  have e2 : p = g2 := Option.some.inj e
  omega
theorem row_lit4 (w : World) (zs : List Int) (hn : zs.length ≤ 100) (hf : ∀ i : Nat, -9223372036854775808 ≤ nth zs i ∧ nth zs i ≤ 9223372036854775807) : Row (w.alloc (Obj.cells (zs.map (Value.int .i64)).toArray 3)) (some ⟨w.heap.size, 0, none⟩) zs.length zs := by
  refine ⟨rfl, by omega, fun i hi => ⟨_, _, rfl, ?_⟩, hf⟩
  rw [Nat.zero_add]
  have := (Blk.new (w := w) (zs.map (Value.int .i64)) 3).c i (by simpa using hi)
  rw [this]
  simp [nth, hi]

theorem pick4_bd {j : Nat} {p : Int} (hj : j < 4) (h : nth [100, -100, 101, -101] j = p) : -200 ≤ p ∧ p ≤ 200 := by
  subst h
  rcases (show j = 0 ∨ j = 1 ∨ j = 2 ∨ j = 3 from by omega) with rfl | rfl | rfl | rfl <;> simp [nth]
set_option maxRecDepth 20000 in
set_option maxHeartbeats 8000000 in
theorem l20Draw_any (w : World) (C : Nat) (a : Option Addr) (len cap : Nat) (W : World) (h : Dr w C a len cap W) (hin : ∀ b off, a = some ⟨b, off, none⟩ → b < w.heap.size) (hl : len ≤ 1048576) :
    Calls Try.prog 25 #[.pointer (some ⟨C, 0, none⟩), .slice a len cap] W fun e w' => DrE w C a len cap W e w' := by
  have H := hide h
  have HIN := hide hin
  have hCW : C < W.heap.size := h.lt
  clear h hin
  go_enter Try.func25, Try.ntmps25
  go_wp2_with fail
  refine (drBelow 4 _ (unhide H) (by omega)).mono ?_
  rintro e w1 ⟨x, rfl, hx, d1, g1⟩
  obtain ⟨N, hN⟩ : ∃ N : Nat, 1 + x = (N : Int) := ⟨(1 + x).toNat, by omega⟩
  have hN1 : 1 ≤ N ∧ N ≤ 4 := by omega
  have D1 := hide d1
  have hW1 : W.heap.size ≤ w1.heap.size := g1.size
  have hmk := fun W => madeI_run (L := N) (by omega) W
  clear d1 g1
  go_wp2_with fail
  obtain ⟨V, hV⟩ : ∃ V, V = w1.alloc (Obj.cells #[] 26) := ⟨_, rfl⟩
  have hsV : V.heap.size = w1.heap.size + 1 := by rw [hV]; simp
  rw [show w1.heap.size + 1 = V.heap.size from hsV.symm, ← hV]
  have HSV := hide hsV
  clear hsV
  obtain ⟨V2, hV2⟩ : ∃ V2, V2 = V.alloc (.cells (madeCells #[.int .i64 0] N) 3) := ⟨_, rfl⟩
  have RG : Hid (RrG w1 V2 w1.heap.size 0 0 [] []) := hide (by rw [hV2]; exact RrG.below (by rw [hV]; exact ⟨ownRr_none (Nat.le_refl _), rfl, rfl⟩) (bel1 _))
  have OA : Hid (OwnI V2 w1.heap.size (.slice (some ⟨V.heap.size, 0, none⟩) N N) (List.replicate N 0)) := hide (by rw [hV2]; exact madeI_own V (by omega) (by have := unhide HSV; omega))
  have DV : Hid (Dr w C a len cap V2) := hide (by rw [hV2, hV]; exact ((unhide D1).below (bel1 _)).below (bel1 _))
  have hs2 : w1.heap.size ≤ V2.heap.size := by rw [hV2]; have := unhide HSV; simp; omega
  rw [← hV2]
  clear hV hV2 hmk D1
  refine (l1Size_any _ _ _ _ _ hl (by omega)).mono ?_
  rintro e w2 ⟨s, rfl, hs, hw2⟩
  subst w2
  go_wp2_with fail
  refine (drBelow (2 * s) _ (unhide DV) (by omega)).mono ?_
  rintro e w3 ⟨t, rfl, ht, d3, g3⟩
  have RGL : RrLies w1.heap.size V2.heap.size (.slice (some ⟨w1.heap.size, 0, none⟩) 0 0) [] := (unhide RG).o.lies
  have RG3 := hide ((unhide RG).far RGL g3 (.inl (by omega)))
  have OA3 := hide ((unhide OA).far g3 (fun p hp e => by have := ((unhide OA).lies p hp).1; have := Option.some.inj e; omega))
  have D3 := hide d3
  have hs3 : w1.heap.size ≤ w3.heap.size := Nat.le_trans hs2 g3.size
  have hRz : ∀ x ∈ List.replicate N (0 : Int), -30000 ≤ x ∧ x ≤ 30000 := fun x hx => by rw [(List.mem_replicate.1 hx).2]; omega
  clear d3 g3 RG OA DV RGL
  go_wp2_with fail
  go_loopw [6, 7, 8] (fun o p v wr => ∃ (i g c q d : Nat) (us : List Rx) (z : List (List Int)) (R : List Int) (m : Int), o = .slice (some ⟨g, 0, none⟩) i c ∧ p = .slice (some ⟨q, 0, none⟩) N d ∧ v = .int .i64 m ∧ (0 ≤ m ∧ (i : Int) + m ≤ 39) ∧ Hid ((∀ r ∈ z, r.length = N ∧ ∀ x ∈ r, -30000 ≤ x ∧ x ≤ 30000) ∧ R.length = N ∧ ∀ x ∈ R, -30000 ≤ x ∧ x ≤ 30000) ∧ RrG w1 wr g i c us z ∧ OwnI wr w1.heap.size (.slice (some ⟨q, 0, none⟩) N d) R ∧ Dr w C a len cap wr ∧ w1.heap.size ≤ wr.heap.size) (fun _ _ v _ => (intOf v).toNat)
  case atStart => exact ⟨0, _, _, _, _, [], [], _, t, rfl, rfl, rfl, by omega, hide ⟨by simp, by simp, hRz⟩, unhide RG3, unhide OA3, unhide D3, hs3⟩
  case round =>
    clear RG3 OA3 D3 hs3 hRz
    obtain ⟨i, g, c, q, d, us, z, R, m, rfl, rfl, rfl, hm, HZ, hrg, hoa, hdr, hsz⟩ := hrel
    have RG := hide hrg
    have OA := hide hoa
    have DR := hide hdr
    clear hrg hoa hdr
    by_cases hm0 : 0 < m
    · go_wp2_with fail
      obtain ⟨B, hB⟩ : ∃ B, B = wr.heap.size := ⟨_, rfl⟩
      have S0 : Hid (RdI w w1 C a len cap (wr.alloc (Obj.cells #[] 3)) g i c us z q N d R B wr.heap.size 0 0 []) := hide ⟨(unhide DR).below (bel1 _), (unhide RG).below (bel1 _), by rw [hB]; exact (unhide RG).o.lies, (unhide OA).below (bel1 _), by rw [hB]; exact ((unhide OA).lies q rfl).2, by rw [hB]; exact ownI_none (Nat.le_refl _), rfl, by omega, by omega, by rw [hB]; simp⟩
      clear RG OA DR
      go_loopw [9, 10] (fun o v wr => ∃ (k g2 d2 : Nat) (zz : List Int), k ≤ N ∧ o = .slice (some ⟨g2, 0, none⟩) k d2 ∧ v = .int .i64 k ∧ Hid (∀ x ∈ zz, -30000 ≤ x ∧ x ≤ 30000) ∧ RdI w w1 C a len cap wr g i c us z q N d R B g2 k d2 zz) (fun _ v _ => N - (intOf v).toNat)
      case atStart => exact ⟨0, _, _, [], Nat.zero_le _, rfl, rfl, hide (by simp), unhide S0⟩
      case round =>
        clear S0
        obtain ⟨k, g2, d2, zz, hk, rfl, rfl, HZZ, hst⟩ := hrel
        have ST := hide hst
        clear hst
        by_cases hlk : k < N
        · have k0 : (0 : Int) ≤ (k : Int) := by omega
          have k1 : (k : Int) < (N : Int) := by omega
          have hRl := (unhide HZ).2.1
          obtain ⟨y, hy⟩ : ∃ y, y = nth R k := ⟨_, rfl⟩
          have hyb : -30000 ≤ y ∧ y ≤ 30000 := by rw [hy, show nth R k = R[k]'(by omega) by simp [nth, show k < R.length by omega]]; exact (unhide HZ).2.2 _ (List.getElem_mem _)
          have CEL : Hid (∀ (W : World), OwnI W w1.heap.size (.slice (some ⟨q, 0, none⟩) N d) R → W.cell? ⟨q, k, none⟩ = some (.int .i64 y)) := hide (fun W o => by
            have hr := OwnI.row o
            rcases hr.open_ with ⟨h0, _⟩ | ⟨bb, off, e, _, hc⟩
            · omega
            · simp only [Option.some.injEq, Addr.mk.injEq, and_true] at e
              obtain ⟨rfl, rfl⟩ := e
              have := hc k hlk
              rw [Nat.zero_add, ← hy] at this
              exact this)
          have x0 : wr.cell? ⟨q, k, none⟩ = some (.int .i64 y) := (unhide CEL) _ (unhide ST).o
          clear hy hRl
          go_wp2_with fail
          go_cut [11] from 33 to 40 (fun s wc => ∃ v : Int, s = .int .i64 v ∧ (-40000 ≤ v ∧ v ≤ 40000) ∧ RdI w w1 C a len cap wc g i c us z q N d R B g2 k d2 zz)
          case first =>
            go_region_law ((fail_if_success have := D1); go_simp; go_wp2_with (go_at_call 31; refine (drBelow (w := w) (a := a) (len := len) (cap := cap) 41 _ (by first | exact (unhide ST).dr | exact ((unhide ST).below (bel0d 1)).dr) (by omega)).mono ?_; rintro e u1 ⟨v, rfl, hv, dd, gr⟩; have D1 : Hid (RdI w w1 C a len cap u1 g i c us z q N d R B g2 k d2 zz) := hide (RdI.call (by first | exact unhide ST | exact (unhide ST).below (bel0d 1)) gr dd); have x1 : u1.cell? ⟨q, k, none⟩ = some (.int .i64 y) := (unhide CEL) _ (unhide D1).o; clear dd gr))
            all_goals (
              go_wp2
              go_meet
              case rel => exact ⟨y + v - 20, (by refine congrArg (Value.int IntKind.i64) ?_; simp only [IntKind.wrap_i64]; omega), by omega, unhide D1⟩)
          case rest =>
            clear ST x0
            obtain ⟨v, rfl, hv, hst⟩ := hcut
            have ST := hide hst
            clear hst
            go_wp2_with fail
            refine (drOnce 12 _ (unhide ST).dr (by omega)).mono ?_
            rintro e w4 ⟨b4, rfl, d4, g4⟩
            have ST4 := hide ((unhide ST).call g4 d4)
            clear d4 g4 ST
            cases b4
            · go_wp2_with fail
              refine (drOnce 20 _ (unhide ST4).dr (by omega)).mono ?_
              rintro e w6 ⟨b6, rfl, d6, g6⟩
              have ST6 := hide ((unhide ST4).call g6 d6)
              clear d6 g6 ST4
              cases b6
              · go_wp2_with fail
                refine (l1Min_eq _ _ _).mono ?_
                rintro e wa ⟨rfl, hwa⟩
                subst wa
                go_wp2_with fail
                refine (l1Max_eq _ _ _).mono ?_
                rintro e wa ⟨rfl, hwa⟩
                subst wa
                obtain ⟨f, hf⟩ : ∃ f, f = max (-30000) (min 30000 v) := ⟨_, rfl⟩
                have hfb : -30000 ≤ f ∧ f ≤ 30000 := by rw [hf]; omega
                rw [← hf]
                clear hf
                go_wp2_with (at_builtin; refine wpList_app_int rfl _ _ rfl f (unhide ST6).n (unhide ST6).nl rfl rfl rfl (unhide ST6).hB (by omega) (by omega) ?_; intro g9 c9 w9 o9 gr9)
                have N9 := hide ((unhide ST6).step (unhide HIN) o9 gr9)
                clear o9 gr9
                go_roundw
                case rel => exact ⟨k + 1, g9, c9, _, by omega, rfl, by go_num, hide (fun u hu => by rcases List.mem_append.1 hu with hu | hu; exact (unhide HZZ) u hu; rw [List.mem_singleton] at hu; rw [hu]; exact hfb), unhide N9⟩
                case measure => simp [intOf]; omega
              · go_wp2_with fail
                have x6 : ∀ o, (w6.alloc o).cell? ⟨q, k, none⟩ = some (.int .i64 y) := fun o => (unhide CEL) _ ((unhide ST6).o.below (bel1 _))
                have x6b : w6.cell? ⟨q, k, none⟩ = some (.int .i64 y) := (unhide CEL) _ (unhide ST6).o
                have RL : Hid (Row (w6.alloc (Obj.cells #[.int .i64 100, .int .i64 (-100), .int .i64 101, .int .i64 (-101)] 3)) (some ⟨w6.heap.size, 0, none⟩) 4 [100, -100, 101, -101]) := hide (row_lit4 w6 [100, -100, 101, -101] (by simp) (fun j => by rcases j with _ | _ | _ | _ | j <;> simp [nth]))
                have DD := hide ((unhide ST6).below (bel1 (w := w6) (Obj.cells #[.int .i64 100, .int .i64 (-100), .int .i64 101, .int .i64 (-101)] 3)))
                have gne : Hid (w6.heap.size ≠ C) := hide (by have := (unhide ST6).dr.lt; omega)
                go_cut [11] from 48 to 55 (fun s wc => ∃ v : Int, s = .int .i64 v ∧ (-40000 ≤ v ∧ v ≤ 40000) ∧ RdI w w1 C a len cap wc g i c us z q N d R B g2 k d2 zz)
                case first =>
                  go_region_law ((fail_if_success have := D1); go_simp; go_wp2_with (go_at_call 57; refine (drPickInt (w := w) (a := a) (len := len) (cap := cap) _ 4 4 [100, -100, 101, -101] _ (by first | exact (unhide DD).dr | exact ((unhide DD).below (bel0d 1)).dr) (by first | exact unhide RL | exact (unhide RL).below (bel0d 1)) (unhide gne) (by omega)).mono ?_; rintro e u1 ⟨j, hj, rfl, dd, gr⟩; have D1 : Hid (RdI w w1 C a len cap u1 g i c us z q N d R B g2 k d2 zz) := hide (RdI.call (by first | exact unhide DD | exact (unhide DD).below (bel0d 1)) gr dd); obtain ⟨pv, hpv⟩ : ∃ pv, nth [100, -100, 101, -101] j = pv := ⟨_, rfl⟩; have pb : -200 ≤ pv ∧ pv ≤ 200 := pick4_bd hj hpv; rw [hpv]; have x1 : u1.cell? ⟨q, k, none⟩ = some (.int .i64 y) := (unhide CEL) _ (unhide D1).o; clear dd gr hpv))
                  all_goals (
                    go_wp2
                    go_meet
                    case rel => exact ⟨y + pv, (by refine congrArg (Value.int IntKind.i64) ?_; simp only [IntKind.wrap_i64]; omega), by omega, unhide D1⟩)
                case rest =>
                  clear ST6 DD RL x6 x6b
                  obtain ⟨v9, rfl, hv9, hst9⟩ := hcut
                  have ST9 := hide hst9
                  clear hst9
                  go_wp2_with fail
                  refine (l1Min_eq _ _ _).mono ?_
                  rintro e wa ⟨rfl, hwa⟩
                  subst wa
                  go_wp2_with fail
                  refine (l1Max_eq _ _ _).mono ?_
                  rintro e wa ⟨rfl, hwa⟩
                  subst wa
                  obtain ⟨f, hf⟩ : ∃ f, f = max (-30000) (min 30000 v9) := ⟨_, rfl⟩
                  have hfb : -30000 ≤ f ∧ f ≤ 30000 := by rw [hf]; omega
                  rw [← hf]
                  clear hf
                  go_wp2_with (at_builtin; refine wpList_app_int rfl _ _ rfl f (unhide ST9).n (unhide ST9).nl rfl rfl rfl (unhide ST9).hB (by omega) (by omega) ?_; intro g9 c9 w9 o9 gr9)
                  have N9 := hide ((unhide ST9).step (unhide HIN) o9 gr9)
                  clear o9 gr9
                  go_roundw
                  case rel => exact ⟨k + 1, g9, c9, _, by omega, rfl, by go_num, hide (fun u hu => by rcases List.mem_append.1 hu with hu | hu; exact (unhide HZZ) u hu; rw [List.mem_singleton] at hu; rw [hu]; exact hfb), unhide N9⟩
                  case measure => simp [intOf]; omega
            · go_wp2_with fail
              refine (drBelow 60001 _ (unhide ST4).dr (by omega)).mono ?_
              rintro e w5 ⟨v5, rfl, hv5, d5, g5⟩
              have ST5 := hide ((unhide ST4).call g5 d5)
              clear d5 g5 ST4
              go_wp2_with fail
              refine (drOnce 20 _ (unhide ST5).dr (by omega)).mono ?_
              rintro e w6 ⟨b6, rfl, d6, g6⟩
              have ST6 := hide ((unhide ST5).call g6 d6)
              clear d6 g6 ST5
              cases b6
              · go_wp2_with fail
                refine (l1Min_eq _ _ _).mono ?_
                rintro e wa ⟨rfl, hwa⟩
                subst wa
                go_wp2_with fail
                refine (l1Max_eq _ _ _).mono ?_
                rintro e wa ⟨rfl, hwa⟩
                subst wa
                obtain ⟨f, hf⟩ : ∃ f, f = max (-30000) (min 30000 (v5 - 30000)) := ⟨_, rfl⟩
                have hfb : -30000 ≤ f ∧ f ≤ 30000 := by rw [hf]; omega
                rw [← hf]
                clear hf
                go_wp2_with (at_builtin; refine wpList_app_int rfl _ _ rfl f (unhide ST6).n (unhide ST6).nl rfl rfl rfl (unhide ST6).hB (by omega) (by omega) ?_; intro g9 c9 w9 o9 gr9)
                have N9 := hide ((unhide ST6).step (unhide HIN) o9 gr9)
                clear o9 gr9
                go_roundw
                case rel => exact ⟨k + 1, g9, c9, _, by omega, rfl, by go_num, hide (fun u hu => by rcases List.mem_append.1 hu with hu | hu; exact (unhide HZZ) u hu; rw [List.mem_singleton] at hu; rw [hu]; exact hfb), unhide N9⟩
                case measure => simp [intOf]; omega
              · go_wp2_with fail
                have x6 : ∀ o, (w6.alloc o).cell? ⟨q, k, none⟩ = some (.int .i64 y) := fun o => (unhide CEL) _ ((unhide ST6).o.below (bel1 _))
                have x6b : w6.cell? ⟨q, k, none⟩ = some (.int .i64 y) := (unhide CEL) _ (unhide ST6).o
                have RL : Hid (Row (w6.alloc (Obj.cells #[.int .i64 100, .int .i64 (-100), .int .i64 101, .int .i64 (-101)] 3)) (some ⟨w6.heap.size, 0, none⟩) 4 [100, -100, 101, -101]) := hide (row_lit4 w6 [100, -100, 101, -101] (by simp) (fun j => by rcases j with _ | _ | _ | _ | j <;> simp [nth]))
                have DD := hide ((unhide ST6).below (bel1 (w := w6) (Obj.cells #[.int .i64 100, .int .i64 (-100), .int .i64 101, .int .i64 (-101)] 3)))
                have gne : Hid (w6.heap.size ≠ C) := hide (by have := (unhide ST6).dr.lt; omega)
                go_cut [11] from 48 to 55 (fun s wc => ∃ v : Int, s = .int .i64 v ∧ (-40000 ≤ v ∧ v ≤ 40000) ∧ RdI w w1 C a len cap wc g i c us z q N d R B g2 k d2 zz)
                case first =>
                  go_region_law ((fail_if_success have := D1); go_simp; go_wp2_with (go_at_call 57; refine (drPickInt (w := w) (a := a) (len := len) (cap := cap) _ 4 4 [100, -100, 101, -101] _ (by first | exact (unhide DD).dr | exact ((unhide DD).below (bel0d 1)).dr) (by first | exact unhide RL | exact (unhide RL).below (bel0d 1)) (unhide gne) (by omega)).mono ?_; rintro e u1 ⟨j, hj, rfl, dd, gr⟩; have D1 : Hid (RdI w w1 C a len cap u1 g i c us z q N d R B g2 k d2 zz) := hide (RdI.call (by first | exact unhide DD | exact (unhide DD).below (bel0d 1)) gr dd); obtain ⟨pv, hpv⟩ : ∃ pv, nth [100, -100, 101, -101] j = pv := ⟨_, rfl⟩; have pb : -200 ≤ pv ∧ pv ≤ 200 := pick4_bd hj hpv; rw [hpv]; have x1 : u1.cell? ⟨q, k, none⟩ = some (.int .i64 y) := (unhide CEL) _ (unhide D1).o; clear dd gr hpv))
                  all_goals (
                    go_wp2
                    go_meet
                    case rel => exact ⟨y + pv, (by refine congrArg (Value.int IntKind.i64) ?_; simp only [IntKind.wrap_i64]; omega), by omega, unhide D1⟩)
                case rest =>
                  clear ST6 DD RL x6 x6b
                  obtain ⟨v9, rfl, hv9, hst9⟩ := hcut
                  have ST9 := hide hst9
                  clear hst9
                  go_wp2_with fail
                  refine (l1Min_eq _ _ _).mono ?_
                  rintro e wa ⟨rfl, hwa⟩
                  subst wa
                  go_wp2_with fail
                  refine (l1Max_eq _ _ _).mono ?_
                  rintro e wa ⟨rfl, hwa⟩
                  subst wa
                  obtain ⟨f, hf⟩ : ∃ f, f = max (-30000) (min 30000 v9) := ⟨_, rfl⟩
                  have hfb : -30000 ≤ f ∧ f ≤ 30000 := by rw [hf]; omega
                  rw [← hf]
                  clear hf
                  go_wp2_with (at_builtin; refine wpList_app_int rfl _ _ rfl f (unhide ST9).n (unhide ST9).nl rfl rfl rfl (unhide ST9).hB (by omega) (by omega) ?_; intro g9 c9 w9 o9 gr9)
                  have N9 := hide ((unhide ST9).step (unhide HIN) o9 gr9)
                  clear o9 gr9
                  go_roundw
                  case rel => exact ⟨k + 1, g9, c9, _, by omega, rfl, by go_num, hide (fun u hu => by rcases List.mem_append.1 hu with hu | hu; exact (unhide HZZ) u hu; rw [List.mem_singleton] at hu; rw [hu]; exact hfb), unhide N9⟩
                  case measure => simp [intOf]; omega
        · have k1 : ¬ (k : Int) < (N : Int) := by omega
          have hkN : k = N := by omega
          have hrz : zz.length = N := by rw [(unhide ST).nl]; exact hkN
          have HRN : Hid (∀ r ∈ z ++ [zz], r.length = N ∧ ∀ x ∈ r, -30000 ≤ x ∧ x ≤ 30000) := hide (fun r hr => by
            rcases List.mem_append.1 hr with hr | hr
            · exact (unhide HZ).1 r hr
            · rw [List.mem_singleton] at hr; rw [hr]; exact ⟨hrz, unhide HZZ⟩)
          have HR2 : Hid (zz.length = N ∧ ∀ x ∈ zz, -30000 ≤ x ∧ x ≤ 30000) := hide ⟨hrz, unhide HZZ⟩
          subst hkN
          go_wp2_with (at_builtin; refine wpList_app_elG (K := 1) (cells := rxC) rfl _ _ 24 26 rfl Try.underlying24 infoRx rfl (by decide) (by decide) (⟨some ⟨g2, 0, none⟩, k, d2, zz⟩ : Rx) [.slice (some ⟨g2, 0, none⟩) k d2] rfl (fun q hq => by match q, hq with | 0, _ => rfl) (fun u hu => by simp at hu; rcases hu with rfl; rfl) (unhide ST).r.o.out (unhide ST).r.l rfl rfl rfl (Nat.le_trans (unhide ST).le (unhide ST).hB) (by omega) ?_; intro g9 c9 w9 o9 gr9 hg9)
          have gr9' : wr.grownBy w9 (some g) := gr9
          have gl := (unhide ST).rl.1 g rfl
          have RG9 := hide ((unhide ST).r.push (unhide ST).rl (x := ⟨some ⟨g2, 0, none⟩, k, d2, zz⟩) (unhide ST).n (unhide ST).le o9 gr9 hg9)
          have OA9 := hide (((unhide ST).r.row (unhide ST).rl (unhide ST).n gr9).mono (unhide ST).le)
          have DR9 := hide ((unhide ST).dr.own gr9' (fun p hp => by have := Option.some.inj hp; have := (unhide ST).lo; omega) (unhide HIN))
          have hs9 : w1.heap.size ≤ w9.heap.size := Nat.le_trans (Nat.le_trans (unhide ST).le (unhide ST).hB) gr9'.size
          clear o9 gr9 gr9' hg9 gl
          go_roundw
          case rel => exact ⟨i + 1, g9, c9, g2, d2, _, _, zz, m - 1, rfl, rfl, by go_num, by omega, hide ⟨unhide HRN, unhide HR2⟩, unhide RG9, unhide OA9, unhide DR9, hs9⟩
          case measure => simp [intOf]; omega
    · have HLZ : Hid (z.length = i) := hide (by rw [← (unhide RG).z, rxZ, List.length_map, (unhide RG).l])
      have hi39 : i ≤ 39 := by omega
      go_wp2_with fail
      refine bodyPost_ret (v := .slice (some ⟨g, 0, none⟩) i c) (by simp [results, Try.results25, go_sem]) rfl ?_
      refine ⟨g, c, us, z, ?_, ?_, unhide DR⟩
      · rw [unhide HLZ]
      · rw [unhide HLZ]; exact ⟨⟨(unhide RG).o.mono hW1, (unhide RG).z⟩, N, hN1, by rw [unhide HLZ]; exact hi39, (unhide HZ).1⟩
set_option maxHeartbeats 1000000 in
theorem drawRecord_any (a : Option Addr) (len cap : Nat) (w : World) (hb : Bytes w a len) (hin : ∀ b off, a = some ⟨b, off, none⟩ → b < w.heap.size) (hl : len ≤ 1048576) :
    Calls Try.prog 9 #[.slice a len cap] w fun e w' => ∃ g c us z, e = .returned (.slice (some ⟨g, 0, none⟩) z.length c) ∧ (OwnRT w' w.heap.size (.slice (some ⟨g, 0, none⟩) z.length c) us z ∧ RcD z) ∧ Below w.heap.size w w' := by
  go_enter Try.func9, Try.ntmps9
  go_wp2_with fail
  refine (drNew a len cap w hb hin).mono ?_
  rintro e w1 ⟨rfl, d1, b1⟩
  have D1 := hide d1
  have HB1 := hide b1
  clear d1 b1
  go_wp2_with fail
  refine (l20Draw_any w w.heap.size a len cap w1 (unhide D1) hin hl).mono ?_
  rintro e w2 ⟨g, c, us, z, rfl, ⟨o2, r2⟩, d2⟩
  have O2 := hide o2
  have R2 := hide r2
  have D2 := hide d2
  obtain ⟨n, hn⟩ : ∃ n, z.length = n := ⟨_, rfl⟩
  rw [hn]
  have HN := hide hn
  clear o2 r2 d2 hn
  go_wp2_with fail
  refine bodyPost_ret (v := .slice (some ⟨g, 0, none⟩) n c) (by simp [results, Try.results9, go_sem]) rfl ?_
  rw [← unhide HN]
  exact ⟨g, c, us, z, rfl, ⟨⟨(unhide O2).o.mono (unhide HB1).size, (unhide O2).con⟩, unhide R2⟩, (unhide D2).bel⟩

end Go.Proofs.Ytfnnfldfnjnlfah

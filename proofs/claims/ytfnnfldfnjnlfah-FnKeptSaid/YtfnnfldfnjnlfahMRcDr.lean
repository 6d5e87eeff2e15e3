/-
  A drawn record: rows of one width of 1 to 4, at most 39, their numbers in bounds; in memory of its own. At bytes of at most 1048576.
  Columns and events of a record that is right, in plain numbers; a number looked for in a list. No program here but the law's within.
  Bytes that are read as a record are that record's bytes: plain numbers. No program here.
  A record is the same as itself, and differs from one with a value changed just there; a drawn record's bytes fit: plain numbers. No program here.
-/
import Derived.Test.YtfnnfldfnjnlfahMDraw
import Derived.Test.YtfnnfldfnjnlfahMMakeS
import Derived.Test.YtfnnfldfnjnlfahMPkPut
import Derived.Test.YtfnnfldfnjnlfahMMinMax
import Derived.Deep.RegionLaw
import Derived.Deep.Cut
import Derived.Deep.CutRange
import Derived.Test.YtfnnfldfnjnlfahMCoIs
import Derived.Test.YtfnnfldfnjnlfahMAtFix

namespace Go.Proofs.Ytfnnfldfnjnlfah
open Go Go.RowKit

/-- A record that is right, of few and narrow rows. -/
def RcD (z : List (List Int)) : Prop := ∃ N : Nat, (1 ≤ N ∧ N ≤ 4) ∧ z.length ≤ 39 ∧ ∀ r ∈ z, r.length = N ∧ ∀ x ∈ r, -30000 ≤ x ∧ x ≤ 30000
def DrE (w : World) (C : Nat) (a : Option Addr) (len cap : Nat) (W : World) (e : Ending) (w' : World) : Prop := ∃ g c us z, e = .returned (.slice (some ⟨g, 0, none⟩) z.length c) ∧ (OwnRT w' W.heap.size (.slice (some ⟨g, 0, none⟩) z.length c) us z ∧ RcD z) ∧ Dr w C a len cap w'
theorem ownI_rr {w : World} {base base' : Nat} {v v' : Value} {L : List Int} {us : List Rx} (h : OwnI w base v L) (h' : OwnE 1 rxC w base' 26 v' us) : ∀ g, v.ownBlock = some g → v'.ownBlock ≠ some g := by
  intro g hg hg'
  obtain ⟨xs, ho, _⟩ := h.own
  obtain ⟨ys, ho', _⟩ := h'.own
  rcases ho.2 with ⟨e, _⟩ | ⟨g1, c1, cur1, rfl, _, hb1, _⟩
  · rw [e] at hg; simp [Value.ownBlock] at hg
  rcases ho'.2 with ⟨e, _⟩ | ⟨g2, c2, cur2, rfl, _, hb2, _⟩
  · rw [e] at hg'; simp [Value.ownBlock] at hg'
  have e1 : g1 = g := Option.some.inj hg
  have e2 : g2 = g := Option.some.inj hg'
  rw [e1] at hb1
  rw [e2, hb1] at hb2
  simp only [Option.some.injEq, Obj.cells.injEq] at hb2
  exact absurd hb2.2.1 (by decide)
/-- What is there in the middle of a row: the cursor, the rows, the row ahead, the row that grows. -/
structure RdI (w W0 : World) (C : Nat) (a : Option Addr) (len cap : Nat) (W : World) (g i c : Nat) (us : List Rx) (z : List (List Int)) (q N d : Nat) (R : List Int) (B g2 k d2 : Nat) (zz : List Int) : Prop where
  dr : Dr w C a len cap W
  r : RrG W0 W g i c us z
  rl : RrLies W0.heap.size B (.slice (some ⟨g, 0, none⟩) i c) us
  o : OwnI W W0.heap.size (.slice (some ⟨q, 0, none⟩) N d) R
  ol : q < B
  n : OwnI W B (.slice (some ⟨g2, 0, none⟩) k d2) zz
  nl : zz.length = k
  lo : C < W0.heap.size
  le : W0.heap.size ≤ B
  hB : B ≤ W.heap.size
theorem RdI.below {w W0 : World} {C : Nat} {a : Option Addr} {len cap : Nat} {W : World} {g i c : Nat} {us : List Rx} {z : List (List Int)} {q N d : Nat} {R : List Int} {B g2 k d2 : Nat} {zz : List Int} {W' : World} (h : RdI w W0 C a len cap W g i c us z q N d R B g2 k d2 zz) (b : Below W.heap.size W W') : RdI w W0 C a len cap W' g i c us z q N d R B g2 k d2 zz :=
  ⟨h.dr.below b, h.r.below b, h.rl, h.o.below b, h.ol, h.n.below b, h.nl, h.lo, h.le, Nat.le_trans h.hB b.size⟩
/-- A draw. -/
theorem RdI.call {w W0 : World} {C : Nat} {a : Option Addr} {len cap : Nat} {W : World} {g i c : Nat} {us : List Rx} {z : List (List Int)} {q N d : Nat} {R : List Int} {B g2 k d2 : Nat} {zz : List Int} {W' : World} (h : RdI w W0 C a len cap W g i c us z q N d R B g2 k d2 zz) (gr : W.grownBy W' (some C)) (d' : Dr w C a len cap W') : RdI w W0 C a len cap W' g i c us z q N d R B g2 k d2 zz := by
  have hC := h.lo
  have hle := h.le
  refine ⟨d', h.r.far h.rl gr (.inl hC), h.rl, h.o.far gr (fun p hp e => ?_), h.ol, h.n.far gr (fun p hp e => ?_), h.nl, h.lo, h.le, Nat.le_trans h.hB gr.size⟩
  · have := (h.o.lies p hp).1; have := Option.some.inj e; omega
  · have := (h.n.lies p hp).1; have := Option.some.inj e; omega
/-- One number more. -/
theorem RdI.step {w W0 : World} {C : Nat} {a : Option Addr} {len cap : Nat} {W : World} {g i c : Nat} {us : List Rx} {z : List (List Int)} {q N d : Nat} {R : List Int} {B g2 k d2 : Nat} {zz : List Int} {w9 : World} {g9 c9 : Nat} {x : Int} (h : RdI w W0 C a len cap W g i c us z q N d R B g2 k d2 zz) (hin : ∀ b off, a = some ⟨b, off, none⟩ → b < w.heap.size) (o9 : OwnI w9 B (.slice (some ⟨g9, 0, none⟩) (k + 1) c9) (zz ++ [x])) (gr : W.grownBy w9 (Value.slice (some ⟨g2, 0, none⟩) k d2).ownBlock) :
    RdI w W0 C a len cap w9 g i c us z q N d R B g9 (k + 1) c9 (zz ++ [x]) := by
  have gr2 : W.grownBy w9 (some g2) := gr
  have l2 := (h.n.lies g2 rfl).1
  have hC := h.lo
  have hle := h.le
  have hol := h.ol
  refine ⟨h.dr.own gr2 (fun p hp => by have := Option.some.inj hp; omega) hin, h.r.far h.rl gr2 (.inr l2), h.rl, h.o.far gr2 (fun p hp e => ?_), h.ol, o9, by simp [h.nl], h.lo, h.le, Nat.le_trans h.hB gr2.size⟩
  have e1 : q = p := Option.some.inj hp
  have e2 : p = g2 := Option.some.inj e
  omega
theorem row_lit4 (w : World) (zs : List Int) (hn : zs.length ≤ 100) (hf : ∀ i : Nat, -9223372036854775808 ≤ nth zs i ∧ nth zs i ≤ 9223372036854775807) : Row (w.alloc (Obj.cells (zs.map (Value.int .i64)).toArray 3)) (some ⟨w.heap.size, 0, none⟩) zs.length zs := by
  refine ⟨rfl, by omega, fun i hi => ⟨_, _, rfl, ?_⟩, hf⟩
  rw [Nat.zero_add]
  have := (Blk.new (w := w) (zs.map (Value.int .i64)) 3).c i (by simpa using hi)
  rw [this]
  simp [nth, hi]

theorem pick4_bd {j : Nat} {p : Int} (hj : j < 4) (h : nth [100, -100, 101, -101] j = p) : -200 ≤ p ∧ p ≤ 200 := by
  subst h
  rcases (show j = 0 ∨ j = 1 ∨ j = 2 ∨ j = 3 from by omega) with rfl | rfl | rfl | rfl <;> simp [nth]
set_option maxRecDepth 20000 in
set_option maxHeartbeats 8000000 in
theorem l20Draw_any (w : World) (C : Nat) (a : Option Addr) (len cap : Nat) (W : World) (h : Dr w C a len cap W) (hin : ∀ b off, a = some ⟨b, off, none⟩ → b < w.heap.size) (hl : len ≤ 1048576) :
    Calls Try.prog 25 #[.pointer (some ⟨C, 0, none⟩), .slice a len cap] W fun e w' => DrE w C a len cap W e w' := by
  have H := hide h
  have HIN := hide hin
  have hCW : C < W.heap.size := h.lt
  clear h hin
  go_enter Try.func25, Try.ntmps25
  go_wp2_with fail
  refine (drBelow 4 _ (unhide H) (by omega)).mono ?_
  rintro e w1 ⟨x, rfl, hx, d1, g1⟩
  obtain ⟨N, hN⟩ : ∃ N : Nat, 1 + x = (N : Int) := ⟨(1 + x).toNat, by omega⟩
  have hN1 : 1 ≤ N ∧ N ≤ 4 := by omega
  have D1 := hide d1
  have hW1 : W.heap.size ≤ w1.heap.size := g1.size
  have hmk := fun W => madeI_run (L := N) (by omega) W
  clear d1 g1
  go_wp2_with fail
  obtain ⟨V, hV⟩ : ∃ V, V = w1.alloc (Obj.cells #[] 26) := ⟨_, rfl⟩
  have hsV : V.heap.size = w1.heap.size + 1 := by rw [hV]; simp
  rw [show w1.heap.size + 1 = V.heap.size from hsV.symm, ← hV]
  have HSV := hide hsV
  clear hsV
  obtain ⟨V2, hV2⟩ : ∃ V2, V2 = V.alloc (.cells (madeCells #[.int .i64 0] N) 3) := ⟨_, rfl⟩
  have RG : Hid (RrG w1 V2 w1.heap.size 0 0 [] []) := hide (by rw [hV2]; exact RrG.below (by rw [hV]; exact ⟨ownRr_none (Nat.le_refl _), rfl, rfl⟩) (bel1 _))
  have OA : Hid (OwnI V2 w1.heap.size (.slice (some ⟨V.heap.size, 0, none⟩) N N) (List.replicate N 0)) := hide (by rw [hV2]; exact madeI_own V (by omega) (by have := unhide HSV; omega))
  have DV : Hid (Dr w C a len cap V2) := hide (by rw [hV2, hV]; exact ((unhide D1).below (bel1 _)).below (bel1 _))
  have hs2 : w1.heap.size ≤ V2.heap.size := by rw [hV2]; have := unhide HSV; simp; omega
  rw [← hV2]
  clear hV hV2 hmk D1
  refine (l1Size_any _ _ _ _ _ hl (by omega)).mono ?_
  rintro e w2 ⟨s, rfl, hs, hw2⟩
  subst w2
  go_wp2_with fail
  refine (drBelow (2 * s) _ (unhide DV) (by omega)).mono ?_
  rintro e w3 ⟨t, rfl, ht, d3, g3⟩
  have RGL : RrLies w1.heap.size V2.heap.size (.slice (some ⟨w1.heap.size, 0, none⟩) 0 0) [] := (unhide RG).o.lies
  have RG3 := hide ((unhide RG).far RGL g3 (.inl (by omega)))
  have OA3 := hide ((unhide OA).far g3 (fun p hp e => by have := ((unhide OA).lies p hp).1; have := Option.some.inj e; omega))
  have D3 := hide d3
  have hs3 : w1.heap.size ≤ w3.heap.size := Nat.le_trans hs2 g3.size
  have hRz : ∀ x ∈ List.replicate N (0 : Int), -30000 ≤ x ∧ x ≤ 30000 := fun x hx => by rw [(List.mem_replicate.1 hx).2]; omega
  clear d3 g3 RG OA DV RGL
  go_wp2_with fail
  go_loopw [6, 7, 8] (fun o p v wr => ∃ (i g c q d : Nat) (us : List Rx) (z : List (List Int)) (R : List Int) (m : Int), o = .slice (some ⟨g, 0, none⟩) i c ∧ p = .slice (some ⟨q, 0, none⟩) N d ∧ v = .int .i64 m ∧ (0 ≤ m ∧ (i : Int) + m ≤ 39) ∧ Hid ((∀ r ∈ z, r.length = N ∧ ∀ x ∈ r, -30000 ≤ x ∧ x ≤ 30000) ∧ R.length = N ∧ ∀ x ∈ R, -30000 ≤ x ∧ x ≤ 30000) ∧ RrG w1 wr g i c us z ∧ OwnI wr w1.heap.size (.slice (some ⟨q, 0, none⟩) N d) R ∧ Dr w C a len cap wr ∧ w1.heap.size ≤ wr.heap.size) (fun _ _ v _ => (intOf v).toNat)
  case atStart => exact ⟨0, _, _, _, _, [], [], _, t, rfl, rfl, rfl, by omega, hide ⟨by simp, by simp, hRz⟩, unhide RG3, unhide OA3, unhide D3, hs3⟩
  case round =>
    clear RG3 OA3 D3 hs3 hRz
    obtain ⟨i, g, c, q, d, us, z, R, m, rfl, rfl, rfl, hm, HZ, hrg, hoa, hdr, hsz⟩ := hrel
    have RG := hide hrg
    have OA := hide hoa
    have DR := hide hdr
    clear hrg hoa hdr
    by_cases hm0 : 0 < m
    · go_wp2_with fail
      obtain ⟨B, hB⟩ : ∃ B, B = wr.heap.size := ⟨_, rfl⟩
      have S0 : Hid (RdI w w1 C a len cap (wr.alloc (Obj.cells #[] 3)) g i c us z q N d R B wr.heap.size 0 0 []) := hide ⟨(unhide DR).below (bel1 _), (unhide RG).below (bel1 _), by rw [hB]; exact (unhide RG).o.lies, (unhide OA).below (bel1 _), by rw [hB]; exact ((unhide OA).lies q rfl).2, by rw [hB]; exact ownI_none (Nat.le_refl _), rfl, by omega, by omega, by rw [hB]; simp⟩
      clear RG OA DR
      go_loopw [9, 10] (fun o v wr => ∃ (k g2 d2 : Nat) (zz : List Int), k ≤ N ∧ o = .slice (some ⟨g2, 0, none⟩) k d2 ∧ v = .int .i64 k ∧ Hid (∀ x ∈ zz, -30000 ≤ x ∧ x ≤ 30000) ∧ RdI w w1 C a len cap wr g i c us z q N d R B g2 k d2 zz) (fun _ v _ => N - (intOf v).toNat)
      case atStart => exact ⟨0, _, _, [], Nat.zero_le _, rfl, rfl, hide (by simp), unhide S0⟩
      case round =>
        clear S0
        obtain ⟨k, g2, d2, zz, hk, rfl, rfl, HZZ, hst⟩ := hrel
        have ST := hide hst
        clear hst
        by_cases hlk : k < N
        · have k0 : (0 : Int) ≤ (k : Int) := by omega
          have k1 : (k : Int) < (N : Int) := by omega
          have hRl := (unhide HZ).2.1
          obtain ⟨y, hy⟩ : ∃ y, y = nth R k := ⟨_, rfl⟩
          have hyb : -30000 ≤ y ∧ y ≤ 30000 := by rw [hy, show nth R k = R[k]'(by omega) by simp [nth, show k < R.length by omega]]; exact (unhide HZ).2.2 _ (List.getElem_mem _)
          have CEL : Hid (∀ (W : World), OwnI W w1.heap.size (.slice (some ⟨q, 0, none⟩) N d) R → W.cell? ⟨q, k, none⟩ = some (.int .i64 y)) := hide (fun W o => by
            have hr := OwnI.row o
            rcases hr.open_ with ⟨h0, _⟩ | ⟨bb, off, e, _, hc⟩
            · omega
            · simp only [Option.some.injEq, Addr.mk.injEq, and_true] at e
              obtain ⟨rfl, rfl⟩ := e
              have := hc k hlk
              rw [Nat.zero_add, ← hy] at this
              exact this)
          have x0 : wr.cell? ⟨q, k, none⟩ = some (.int .i64 y) := (unhide CEL) _ (unhide ST).o
          clear hy hRl
          go_wp2_with fail
          go_cut [11] from 33 to 40 (fun s wc => ∃ v : Int, s = .int .i64 v ∧ (-40000 ≤ v ∧ v ≤ 40000) ∧ RdI w w1 C a len cap wc g i c us z q N d R B g2 k d2 zz)
          case first =>
            go_region_law ((fail_if_success have := D1); go_simp; go_wp2_with (go_at_call 31; refine (drBelow (w := w) (a := a) (len := len) (cap := cap) 41 _ (by first | exact (unhide ST).dr | exact ((unhide ST).below (bel0d 1)).dr) (by omega)).mono ?_; rintro e u1 ⟨v, rfl, hv, dd, gr⟩; have D1 : Hid (RdI w w1 C a len cap u1 g i c us z q N d R B g2 k d2 zz) := hide (RdI.call (by first | exact unhide ST | exact (unhide ST).below (bel0d 1)) gr dd); have x1 : u1.cell? ⟨q, k, none⟩ = some (.int .i64 y) := (unhide CEL) _ (unhide D1).o; clear dd gr))
            all_goals (
              go_wp2
              go_meet
              case rel => exact ⟨y + v - 20, (by refine congrArg (Value.int IntKind.i64) ?_; simp only [IntKind.wrap_i64]; omega), by omega, unhide D1⟩)
          case rest =>
            clear ST x0
            obtain ⟨v, rfl, hv, hst⟩ := hcut
            have ST := hide hst
            clear hst
            go_wp2_with fail
            refine (drOnce 12 _ (unhide ST).dr (by omega)).mono ?_
            rintro e w4 ⟨b4, rfl, d4, g4⟩
            have ST4 := hide ((unhide ST).call g4 d4)
            clear d4 g4 ST
            cases b4
            · go_wp2_with fail
              refine (drOnce 20 _ (unhide ST4).dr (by omega)).mono ?_
              rintro e w6 ⟨b6, rfl, d6, g6⟩
              have ST6 := hide ((unhide ST4).call g6 d6)
              clear d6 g6 ST4
              cases b6
              · go_wp2_with fail
                refine (l1Min_eq _ _ _).mono ?_
                rintro e wa ⟨rfl, hwa⟩
                subst wa
                go_wp2_with fail
                refine (l1Max_eq _ _ _).mono ?_
                rintro e wa ⟨rfl, hwa⟩
                subst wa
                obtain ⟨f, hf⟩ : ∃ f, f = max (-30000) (min 30000 v) := ⟨_, rfl⟩
                have hfb : -30000 ≤ f ∧ f ≤ 30000 := by rw [hf]; omega
                rw [← hf]
                clear hf
                go_wp2_with (at_builtin; refine wpList_app_int rfl _ _ rfl f (unhide ST6).n (unhide ST6).nl rfl rfl rfl (unhide ST6).hB (by omega) (by omega) ?_; intro g9 c9 w9 o9 gr9)
                have N9 := hide ((unhide ST6).step (unhide HIN) o9 gr9)
                clear o9 gr9
                go_roundw
                case rel => exact ⟨k + 1, g9, c9, _, by omega, rfl, by go_num, hide (fun u hu => by rcases List.mem_append.1 hu with hu | hu; exact (unhide HZZ) u hu; rw [List.mem_singleton] at hu; rw [hu]; exact hfb), unhide N9⟩
                case measure => simp [intOf]; omega
              · go_wp2_with fail
                have x6 : ∀ o, (w6.alloc o).cell? ⟨q, k, none⟩ = some (.int .i64 y) := fun o => (unhide CEL) _ ((unhide ST6).o.below (bel1 _))
                have x6b : w6.cell? ⟨q, k, none⟩ = some (.int .i64 y) := (unhide CEL) _ (unhide ST6).o
                have RL : Hid (Row (w6.alloc (Obj.cells #[.int .i64 100, .int .i64 (-100), .int .i64 101, .int .i64 (-101)] 3)) (some ⟨w6.heap.size, 0, none⟩) 4 [100, -100, 101, -101]) := hide (row_lit4 w6 [100, -100, 101, -101] (by simp) (fun j => by rcases j with _ | _ | _ | _ | j <;> simp [nth]))
                have DD := hide ((unhide ST6).below (bel1 (w := w6) (Obj.cells #[.int .i64 100, .int .i64 (-100), .int .i64 101, .int .i64 (-101)] 3)))
                have gne : Hid (w6.heap.size ≠ C) := hide (by have := (unhide ST6).dr.lt; omega)
                go_cut [11] from 48 to 55 (fun s wc => ∃ v : Int, s = .int .i64 v ∧ (-40000 ≤ v ∧ v ≤ 40000) ∧ RdI w w1 C a len cap wc g i c us z q N d R B g2 k d2 zz)
                case first =>
                  go_region_law ((fail_if_success have := D1); go_simp; go_wp2_with (go_at_call 57; refine (drPickInt (w := w) (a := a) (len := len) (cap := cap) _ 4 4 [100, -100, 101, -101] _ (by first | exact (unhide DD).dr | exact ((unhide DD).below (bel0d 1)).dr) (by first | exact unhide RL | exact (unhide RL).below (bel0d 1)) (unhide gne) (by omega)).mono ?_; rintro e u1 ⟨j, hj, rfl, dd, gr⟩; have D1 : Hid (RdI w w1 C a len cap u1 g i c us z q N d R B g2 k d2 zz) := hide (RdI.call (by first | exact unhide DD | exact (unhide DD).below (bel0d 1)) gr dd); obtain ⟨pv, hpv⟩ : ∃ pv, nth [100, -100, 101, -101] j = pv := ⟨_, rfl⟩; have pb : -200 ≤ pv ∧ pv ≤ 200 := pick4_bd hj hpv; rw [hpv]; have x1 : u1.cell? ⟨q, k, none⟩ = some (.int .i64 y) := (unhide CEL) _ (unhide D1).o; clear dd gr hpv))
                  all_goals (
                    go_wp2
                    go_meet
                    case rel => exact ⟨y + pv, (by refine congrArg (Value.int IntKind.i64) ?_; simp only [IntKind.wrap_i64]; omega), by omega, unhide D1⟩)
                case rest =>
                  clear ST6 DD RL x6 x6b
                  obtain ⟨v9, rfl, hv9, hst9⟩ := hcut
                  have ST9 := hide hst9
                  clear hst9
                  go_wp2_with fail
                  refine (l1Min_eq _ _ _).mono ?_
                  rintro e wa ⟨rfl, hwa⟩
                  subst wa
                  go_wp2_with fail
                  refine (l1Max_eq _ _ _).mono ?_
                  rintro e wa ⟨rfl, hwa⟩
                  subst wa
                  obtain ⟨f, hf⟩ : ∃ f, f = max (-30000) (min 30000 v9) := ⟨_, rfl⟩
                  have hfb : -30000 ≤ f ∧ f ≤ 30000 := by rw [hf]; omega
                  rw [← hf]
                  clear hf
                  go_wp2_with (at_builtin; refine wpList_app_int rfl _ _ rfl f (unhide ST9).n (unhide ST9).nl rfl rfl rfl (unhide ST9).hB (by omega) (by omega) ?_; intro g9 c9 w9 o9 gr9)
                  have N9 := hide ((unhide ST9).step (unhide HIN) o9 gr9)
                  clear o9 gr9
                  go_roundw
                  case rel => exact ⟨k + 1, g9, c9, _, by omega, rfl, by go_num, hide (fun u hu => by rcases List.mem_append.1 hu with hu | hu; exact (unhide HZZ) u hu; rw [List.mem_singleton] at hu; rw [hu]; exact hfb), unhide N9⟩
                  case measure => simp [intOf]; omega
            · go_wp2_with fail
              refine (drBelow 60001 _ (unhide ST4).dr (by omega)).mono ?_
              rintro e w5 ⟨v5, rfl, hv5, d5, g5⟩
              have ST5 := hide ((unhide ST4).call g5 d5)
              clear d5 g5 ST4
              go_wp2_with fail
              refine (drOnce 20 _ (unhide ST5).dr (by omega)).mono ?_
              rintro e w6 ⟨b6, rfl, d6, g6⟩
              have ST6 := hide ((unhide ST5).call g6 d6)
              clear d6 g6 ST5
              cases b6
              · go_wp2_with fail
                refine (l1Min_eq _ _ _).mono ?_
                rintro e wa ⟨rfl, hwa⟩
                subst wa
                go_wp2_with fail
                refine (l1Max_eq _ _ _).mono ?_
                rintro e wa ⟨rfl, hwa⟩
                subst wa
                obtain ⟨f, hf⟩ : ∃ f, f = max (-30000) (min 30000 (v5 - 30000)) := ⟨_, rfl⟩
                have hfb : -30000 ≤ f ∧ f ≤ 30000 := by rw [hf]; omega
                rw [← hf]
                clear hf
                go_wp2_with (at_builtin; refine wpList_app_int rfl _ _ rfl f (unhide ST6).n (unhide ST6).nl rfl rfl rfl (unhide ST6).hB (by omega) (by omega) ?_; intro g9 c9 w9 o9 gr9)
                have N9 := hide ((unhide ST6).step (unhide HIN) o9 gr9)
                clear o9 gr9
                go_roundw
                case rel => exact ⟨k + 1, g9, c9, _, by omega, rfl, by go_num, hide (fun u hu => by rcases List.mem_append.1 hu with hu | hu; exact (unhide HZZ) u hu; rw [List.mem_singleton] at hu; rw [hu]; exact hfb), unhide N9⟩
                case measure => simp [intOf]; omega
              · go_wp2_with fail
                have x6 : ∀ o, (w6.alloc o).cell? ⟨q, k, none⟩ = some (.int .i64 y) := fun o => (unhide CEL) _ ((unhide ST6).o.below (bel1 _))
                have x6b : w6.cell? ⟨q, k, none⟩ = some (.int .i64 y) := (unhide CEL) _ (unhide ST6).o
                have RL : Hid (Row (w6.alloc (Obj.cells #[.int .i64 100, .int .i64 (-100), .int .i64 101, .int .i64 (-101)] 3)) (some ⟨w6.heap.size, 0, none⟩) 4 [100, -100, 101, -101]) := hide (row_lit4 w6 [100, -100, 101, -101] (by simp) (fun j => by rcases j with _ | _ | _ | _ | j <;> simp [nth]))
                have DD := hide ((unhide ST6).below (bel1 (w := w6) (Obj.cells #[.int .i64 100, .int .i64 (-100), .int .i64 101, .int .i64 (-101)] 3)))
                have gne : Hid (w6.heap.size ≠ C) := hide (by have := (unhide ST6).dr.lt; omega)
                go_cut [11] from 48 to 55 (fun s wc => ∃ v : Int, s = .int .i64 v ∧ (-40000 ≤ v ∧ v ≤ 40000) ∧ RdI w w1 C a len cap wc g i c us z q N d R B g2 k d2 zz)
                case first =>
                  go_region_law ((fail_if_success have := D1); go_simp; go_wp2_with (go_at_call 57; refine (drPickInt (w := w) (a := a) (len := len) (cap := cap) _ 4 4 [100, -100, 101, -101] _ (by first | exact (unhide DD).dr | exact ((unhide DD).below (bel0d 1)).dr) (by first | exact unhide RL | exact (unhide RL).below (bel0d 1)) (unhide gne) (by omega)).mono ?_; rintro e u1 ⟨j, hj, rfl, dd, gr⟩; have D1 : Hid (RdI w w1 C a len cap u1 g i c us z q N d R B g2 k d2 zz) := hide (RdI.call (by first | exact unhide DD | exact (unhide DD).below (bel0d 1)) gr dd); obtain ⟨pv, hpv⟩ : ∃ pv, nth [100, -100, 101, -101] j = pv := ⟨_, rfl⟩; have pb : -200 ≤ pv ∧ pv ≤ 200 := pick4_bd hj hpv; rw [hpv]; have x1 : u1.cell? ⟨q, k, none⟩ = some (.int .i64 y) := (unhide CEL) _ (unhide D1).o; clear dd gr hpv))
                  all_goals (
                    go_wp2
                    go_meet
                    case rel => exact ⟨y + pv, (by refine congrArg (Value.int IntKind.i64) ?_; simp only [IntKind.wrap_i64]; omega), by omega, unhide D1⟩)
                case rest =>
                  clear ST6 DD RL x6 x6b
                  obtain ⟨v9, rfl, hv9, hst9⟩ := hcut
                  have ST9 := hide hst9
                  clear hst9
                  go_wp2_with fail
                  refine (l1Min_eq _ _ _).mono ?_
                  rintro e wa ⟨rfl, hwa⟩
                  subst wa
                  go_wp2_with fail
                  refine (l1Max_eq _ _ _).mono ?_
                  rintro e wa ⟨rfl, hwa⟩
                  subst wa
                  obtain ⟨f, hf⟩ : ∃ f, f = max (-30000) (min 30000 v9) := ⟨_, rfl⟩
                  have hfb : -30000 ≤ f ∧ f ≤ 30000 := by rw [hf]; omega
                  rw [← hf]
                  clear hf
                  go_wp2_with (at_builtin; refine wpList_app_int rfl _ _ rfl f (unhide ST9).n (unhide ST9).nl rfl rfl rfl (unhide ST9).hB (by omega) (by omega) ?_; intro g9 c9 w9 o9 gr9)
                  have N9 := hide ((unhide ST9).step (unhide HIN) o9 gr9)
                  clear o9 gr9
                  go_roundw
                  case rel => exact ⟨k + 1, g9, c9, _, by omega, rfl, by go_num, hide (fun u hu => by rcases List.mem_append.1 hu with hu | hu; exact (unhide HZZ) u hu; rw [List.mem_singleton] at hu; rw [hu]; exact hfb), unhide N9⟩
                  case measure => simp [intOf]; omega
        · have k1 : ¬ (k : Int) < (N : Int) := by omega
          have hkN : k = N := by omega
          have hrz : zz.length = N := by rw [(unhide ST).nl]; exact hkN
          have HRN : Hid (∀ r ∈ z ++ [zz], r.length = N ∧ ∀ x ∈ r, -30000 ≤ x ∧ x ≤ 30000) := hide (fun r hr => by
            rcases List.mem_append.1 hr with hr | hr
            · exact (unhide HZ).1 r hr
            · rw [List.mem_singleton] at hr; rw [hr]; exact ⟨hrz, unhide HZZ⟩)
          have HR2 : Hid (zz.length = N ∧ ∀ x ∈ zz, -30000 ≤ x ∧ x ≤ 30000) := hide ⟨hrz, unhide HZZ⟩
          subst hkN
          go_wp2_with (at_builtin; refine wpList_app_elG (K := 1) (cells := rxC) rfl _ _ 24 26 rfl Try.underlying24 infoRx rfl (by decide) (by decide) (⟨some ⟨g2, 0, none⟩, k, d2, zz⟩ : Rx) [.slice (some ⟨g2, 0, none⟩) k d2] rfl (fun q hq => by match q, hq with | 0, _ => rfl) (fun u hu => by simp at hu; rcases hu with rfl; rfl) (unhide ST).r.o.out (unhide ST).r.l rfl rfl rfl (Nat.le_trans (unhide ST).le (unhide ST).hB) (by omega) ?_; intro g9 c9 w9 o9 gr9 hg9)
          have gr9' : wr.grownBy w9 (some g) := gr9
          have gl := (unhide ST).rl.1 g rfl
          have RG9 := hide ((unhide ST).r.push (unhide ST).rl (x := ⟨some ⟨g2, 0, none⟩, k, d2, zz⟩) (unhide ST).n (unhide ST).le o9 gr9 hg9)
          have OA9 := hide (((unhide ST).r.row (unhide ST).rl (unhide ST).n gr9).mono (unhide ST).le)
          have DR9 := hide ((unhide ST).dr.own gr9' (fun p hp => by have := Option.some.inj hp; have := (unhide ST).lo; omega) (unhide HIN))
          have hs9 : w1.heap.size ≤ w9.heap.size := Nat.le_trans (Nat.le_trans (unhide ST).le (unhide ST).hB) gr9'.size
          clear o9 gr9 gr9' hg9 gl
          go_roundw
          case rel => exact ⟨i + 1, g9, c9, g2, d2, _, _, zz, m - 1, rfl, rfl, by go_num, by omega, hide ⟨unhide HRN, unhide HR2⟩, unhide RG9, unhide OA9, unhide DR9, hs9⟩
          case measure => simp [intOf]; omega
    · have HLZ : Hid (z.length = i) := hide (by rw [← (unhide RG).z, rxZ, List.length_map, (unhide RG).l])
      have hi39 : i ≤ 39 := by omega
      go_wp2_with fail
      refine bodyPost_ret (v := .slice (some ⟨g, 0, none⟩) i c) (by simp [results, Try.results25, go_sem]) rfl ?_
      refine ⟨g, c, us, z, ?_, ?_, unhide DR⟩
      · rw [unhide HLZ]
      · rw [unhide HLZ]; exact ⟨⟨(unhide RG).o.mono hW1, (unhide RG).z⟩, N, hN1, by rw [unhide HLZ]; exact hi39, (unhide HZ).1⟩
set_option maxHeartbeats 1000000 in
theorem drawRecord_any (a : Option Addr) (len cap : Nat) (w : World) (hb : Bytes w a len) (hin : ∀ b off, a = some ⟨b, off, none⟩ → b < w.heap.size) (hl : len ≤ 1048576) :
    Calls Try.prog 9 #[.slice a len cap] w fun e w' => ∃ g c us z, e = .returned (.slice (some ⟨g, 0, none⟩) z.length c) ∧ (OwnRT w' w.heap.size (.slice (some ⟨g, 0, none⟩) z.length c) us z ∧ RcD z) ∧ Below w.heap.size w w' := by
  go_enter Try.func9, Try.ntmps9
  go_wp2_with fail
  refine (drNew a len cap w hb hin).mono ?_
  rintro e w1 ⟨rfl, d1, b1⟩
  have D1 := hide d1
  have HB1 := hide b1
  clear d1 b1
  go_wp2_with fail
  refine (l20Draw_any w w.heap.size a len cap w1 (unhide D1) hin hl).mono ?_
  rintro e w2 ⟨g, c, us, z, rfl, ⟨o2, r2⟩, d2⟩
  have O2 := hide o2
  have R2 := hide r2
  have D2 := hide d2
  obtain ⟨n, hn⟩ : ∃ n, z.length = n := ⟨_, rfl⟩
  rw [hn]
  have HN := hide hn
  clear o2 r2 d2 hn
  go_wp2_with fail
  refine bodyPost_ret (v := .slice (some ⟨g, 0, none⟩) n c) (by simp [results, Try.results9, go_sem]) rfl ?_
  rw [← unhide HN]
  exact ⟨g, c, us, z, rfl, ⟨⟨(unhide O2).o.mono (unhide HB1).size, (unhide O2).con⟩, unhide R2⟩, (unhide D2).bel⟩

end Go.Proofs.Ytfnnfldfnjnlfah

namespace Go.Proofs.Ytfnnfldfnjnlfah
open Go Go.RowKit

theorem nthS_in {z : List (List Int)} {i : Nat} (h : i < z.length) : nthS z i ∈ z := by
  have e : nthS z i = z[i] := by simp [nthS, h]
  rw [e]; exact List.getElem_mem h
theorem nth_in {r : List Int} {k : Nat} (h : k < r.length) : nth r k ∈ r := by
  have e : nth r k = r[k] := by simp [nth, h]
  rw [e]; exact List.getElem_mem h
theorem rcD_ok {z : List (List Int)} (h : RcD z) : rcB z = true := by
  obtain ⟨N, hN, hl, hr⟩ := h
  refine rcB_yes (fun i hi => ?_) (by omega)
  have a := hr _ (nthS_in hi)
  have b := hr _ (nthS_in (z := z) (i := 0) (by omega))
  rw [rwB, a.1, b.1, Bool.and_eq_true, Bool.and_eq_true]
  refine ⟨⟨by simp, by simp [inB]; omega⟩, allB_true (fun j hj => ?_)⟩
  have := a.2 _ (nth_in hj)
  simp [inB]; omega
theorem rcD_wd {z : List (List Int)} (h : RcD z) (h0 : 0 < z.length) : 1 ≤ wdN z ∧ wdN z ≤ 4 := by
  obtain ⟨N, hN, hl, hr⟩ := h
  have b := hr _ (nthS_in (z := z) (i := 0) h0)
  unfold wdN; omega
theorem coB_in {z : List (List Int)} {k : Int} (h : rcB z = true) (h0 : 0 < z.length) (h1 : 0 ≤ k) (h2 : k < wdN z) : coB z k = true := by
  rw [coB, h, show decide (0 < z.length) = true by simpa using h0]; simp [inB]; omega
theorem coB_out {z : List (List Int)} {k : Int} (h2 : (wdN z : Int) ≤ k) : coB z k = false := by
  rw [coB, show inB k 0 ((wdN z : Int) - 1) = false by simp [inB]; omega]; simp
theorem coB_nil {z : List (List Int)} {k : Int} (h : z.length = 0) : coB z k = false := by
  rw [coB, show decide (0 < z.length) = false by simp [h]]; simp
/-- Whether a number is in a list. -/
def memB (L : List Int) (x : Int) : Bool := decide (x ∈ L)
theorem memB_no {L : List Int} {x : Int} (h : ∀ j, j < L.length → nth L j ≠ x) : memB L x = false := by
  simp only [memB, decide_eq_false_iff_not]
  intro hx
  obtain ⟨j, hj, e⟩ := List.getElem_of_mem hx
  exact h j hj (by simp [nth, hj, e])
theorem memB_yes {L : List Int} {x : Int} {j : Nat} (hj : j < L.length) (h : nth L j = x) : memB L x = true := by
  simp only [memB, decide_eq_true_eq]; rw [← h]; exact nth_in hj
theorem evK_mem (L : List Int) (m : Int) {k i : Nat} (h : i < k) : memB (evK L m k) (i : Int) = evI L m i := by
  unfold memB evK
  cases e : evI L m i
  · rw [decide_eq_false_iff_not]
    intro hx
    obtain ⟨j, hj, ej⟩ := List.mem_map.1 hx
    have : j = i := by omega
    subst this
    rw [List.mem_filter, e] at hj
    exact absurd hj.2 (by simp)
  · rw [decide_eq_true_eq]
    exact List.mem_map.2 ⟨i, List.mem_filter.2 ⟨by simpa using h, e⟩, rfl⟩
theorem evK_rise (L : List Int) (m : Int) (k : Nat) {i j : Nat} (hij : i < j) (hj : j < (evK L m k).length) : nth (evK L m k) i < nth (evK L m k) j := by
  have p : (evK L m k).Pairwise (· < ·) := by
    unfold evK
    rw [List.pairwise_map]
    exact (List.pairwise_lt_range.filter _).imp (fun h => by omega)
  have := (List.pairwise_iff_getElem.1 p) i j (by omega) hj hij
  simpa [nth, hj, show i < (evK L m k).length by omega] using this

end Go.Proofs.Ytfnnfldfnjnlfah

namespace Go.Proofs.Ytfnnfldfnjnlfah

def ByB (bs : List Int) : Prop := ∀ i, i < bs.length → 0 ≤ elAt bs i ∧ elAt bs i ≤ 255
theorem take_elAt {bs : List Int} {t : Nat} (h : t < bs.length) : bs.take (t + 1) = bs.take t ++ [elAt bs t] := by
  rw [List.take_succ_eq_append_getElem h]; simp [elAt, h]
theorem nx_bytes {bs : List Int} {t : Nat} (hb : ByB bs) (h : nxC bs t = 0) : bs.take (t + nxS bs t) = bs.take t ++ chL (nxV bs t) := by
  have hw := nx_well h
  unfold nxC at h
  split at h
  · cases h
  · rename_i h0
    split at h
    · rename_i hs
      have hn := nx_small (by omega) hs
      have hs' : inB (elAt bs t - 100) (-100) 100 = true := hs
      rw [hn.2.2, hn.2.1, chL_y hs', take_elAt (by omega), show elAt bs t - 100 + 100 = elAt bs t by omega]
    · rename_i hs
      have hs' : sbB bs t = false := by simpa using hs
      split at h
      · cases h
      · rename_i h255
        split at h
        · cases h
        · rename_i h4
          split at h
          · rename_i hl
            have g0 : elAt bs t = 255 := by simpa using h255
            have hn := nx_long hs' g0 (by omega) hl
            have hi : inB (lgV bs t) (-100) 100 = false := by
              simp only [ch4B, Bool.and_eq_true] at hl
              simpa using hl.1
            have b1 := hb (t + 1) (by omega)
            have b2 := hb (t + 2) (by omega)
            have b3 := hb (t + 3) (by omega)
            have x1 : (lgV bs t + 60000) / 65536 = elAt bs (t + 1) := by unfold lgV; omega
            have x2 : (lgV bs t + 60000) / 256 % 256 = elAt bs (t + 2) := by unfold lgV; omega
            have x3 : (lgV bs t + 60000) % 256 = elAt bs (t + 3) := by unfold lgV; omega
            rw [hn.2.2, hn.2.1, chL_n hi, x1, x2, x3, show t + 4 = t + 3 + 1 from rfl, take_elAt (by omega), show t + 3 = t + 2 + 1 from rfl, take_elAt (by omega), show t + 2 = t + 1 + 1 from rfl, take_elAt (by omega), take_elAt (by omega), g0]
            simp
          · cases h
/-- The bytes of a row's first changes. -/
def chJ (ah r : List Int) : Nat → List Int
  | 0 => []
  | k + 1 => chJ ah r k ++ chL (nth r k - nth ah k)
theorem chJ_more (ah r : List Int) (x : Int) : ∀ k, k ≤ r.length → chJ ah (r ++ [x]) k = chJ ah r k
  | 0, _ => rfl
  | k + 1, h => by
    rw [chJ, chJ, chJ_more ah r x k (by omega), show nth (r ++ [x]) k = nth r k by unfold nth; rw [List.getElem?_append_left (by omega)]]
theorem row_back {bs ah : List Int} {t0 : Nat} (hb : ByB bs) (h0 : t0 ≤ bs.length) : ∀ n, (unRow bs ah t0 n).c = 0 → bs.take (unRow bs ah t0 n).t = bs.take t0 ++ chJ ah (unRow bs ah t0 n).z n
  | 0, _ => by simp [unRow, chJ]
  | n + 1, h => by
    have ok := unRow_ok (bs := bs) (ah := ah) h0 n
    have ih := row_back (ah := ah) hb h0 n
    rw [unRow] at h ⊢
    generalize unRow bs ah t0 n = s at h ih ok ⊢
    obtain ⟨c, t, z⟩ := s
    unfold unSt at h ⊢
    dsimp only at h ih ok ⊢
    by_cases hc : c ≠ 0
    · rw [if_pos hc] at h; exact absurd h hc
    · rw [if_neg hc] at h ⊢
      have ih := ih (by omega)
      have ok := ok (by omega)
      by_cases hn : nxC bs t ≠ 0
      · rw [if_pos hn] at h; exact absurd h hn
      · rw [if_neg hn] at h ⊢
        by_cases hv : inB (nth ah n + nxV bs t) (-30000) 30000 = false
        · rw [if_pos hv] at h; cases h
        · rw [if_neg hv]
          dsimp only
          rw [nx_bytes hb (by omega), ih, chJ, chJ_more _ _ _ _ (by omega), List.append_assoc]
          rw [show nth (z ++ [nth ah n + nxV bs t]) n = nth ah n + nxV bs t by unfold nth; rw [← ok.1]; simp]
          rw [show nth ah n + nxV bs t - nth ah n = nxV bs t by omega]
/-- The bytes of the first rows. -/
def chI (wd : Nat) (z : List (List Int)) : Nat → List Int
  | 0 => []
  | i + 1 => chI wd z i ++ chJ (ahU wd z i) (nthS z i) wd
theorem nthS_more {z : List (List Int)} {r : List Int} {j : Nat} (h : j < z.length) : nthS (z ++ [r]) j = nthS z j := by
  unfold nthS; rw [List.getElem?_append_left h]
theorem ahU_more {wd : Nat} {z : List (List Int)} {r : List Int} {j : Nat} (h : j ≤ z.length) : ahU wd (z ++ [r]) j = ahU wd z j := by
  cases j with
  | zero => rfl
  | succ j => exact nthS_more (by omega)
theorem chI_more (wd : Nat) (z : List (List Int)) (r : List Int) : ∀ i, i ≤ z.length → chI wd (z ++ [r]) i = chI wd z i
  | 0, _ => rfl
  | i + 1, h => by rw [chI, chI, chI_more wd z r i (by omega), ahU_more (by omega), nthS_more (by omega)]
theorem rec_back {bs : List Int} {wd : Nat} (hb : ByB bs) (h2 : 2 ≤ bs.length) : ∀ n, (unRec bs wd n).c = 0 → bs.take (unRec bs wd n).t = bs.take 2 ++ chI wd (unRec bs wd n).z n
  | 0, _ => by simp [unRec, chI]
  | n + 1, h => by
    have ok := unRec_ok (bs := bs) (wd := wd) h2 n
    have ih := rec_back (wd := wd) hb h2 n
    rw [unRec] at h ⊢
    generalize unRec bs wd n = s at h ih ok ⊢
    obtain ⟨c, t, z⟩ := s
    unfold unRs at h ⊢
    dsimp only at h ih ok ⊢
    by_cases hc : c ≠ 0
    · rw [if_pos hc] at h; exact absurd h hc
    · rw [if_neg hc] at h ⊢
      have ih := ih (by omega)
      have ok := ok (by omega)
      by_cases hn : (unRow bs (ahU wd z n) t wd).c ≠ 0
      · rw [if_pos hn] at h; exact absurd h hn
      · rw [if_neg hn]
        dsimp only
        have hr := row_back (ah := ahU wd z n) hb ok.2.1 wd (by omega)
        rw [hr, ih, chI, chI_more _ _ _ _ (by omega), ahU_more (by omega), List.append_assoc]
        rw [show nthS (z ++ [(unRow bs (ahU wd z n) t wd).z]) n = (unRow bs (ahU wd z n) t wd).z by unfold nthS; rw [← ok.1]; simp]
theorem pkJ_chJ (z : List (List Int)) (i : Nat) : ∀ k, pkJ z i k = chJ (ahL z i) (nthS z i) k
  | 0 => rfl
  | k + 1 => by rw [pkJ, chJ, pkJ_chJ z i k, chC]
theorem ahU_ahL (z : List (List Int)) (i : Nat) : ahU (wdN z) z i = ahL z i := by cases i <;> rfl
theorem pkI_chI (z : List (List Int)) : ∀ i, pkI z i = [(wdN z : Int), (z.length : Int)] ++ chI (wdN z) z i
  | 0 => by simp [pkI, chI]
  | i + 1 => by rw [pkI, chI, pkI_chI z i, pkJ_chJ, ahU_ahL, List.append_assoc]
/-- Read well: the rows are a record that is right, and its bytes are the bytes read. -/
theorem back_all {bs : List Int} (hb : ByB bs) (h : unCo bs = 0) : rcB (unLs bs) = true ∧ pkF (unLs bs) = bs := by
  have hd : hdC bs = 0 := by
    by_cases e : hdC bs = 0
    · exact e
    · rw [unCo, if_pos e] at h; omega
  rw [unLs, if_pos h]
  rw [unCo, if_neg (by simp [hd])] at h
  have hc : (unT bs).c = 0 := by
    by_cases e : (unT bs).c = 0
    · exact e
    · rw [if_pos e] at h; omega
  rw [if_neg (by simp [hc])] at h
  have ht : ¬ (unT bs).t < bs.length := by intro e; rw [if_pos e] at h; omega
  have q := hd_ok hb hd
  have ok := unRec_ok (bs := bs) (wd := hdW bs) q.1 (hdM bs) hc
  have bk := rec_back (wd := hdW bs) hb q.1 (hdM bs) hc
  change (unT bs).z.length = hdM bs ∧ (unT bs).t ≤ bs.length ∧ _ at ok
  change bs.take (unT bs).t = bs.take 2 ++ chI (hdW bs) (unT bs).z (hdM bs) at bk
  have rows : ∀ r ∈ (unT bs).z, r.length = hdW bs ∧ ∀ x ∈ r, -30000 ≤ x ∧ x ≤ 30000 := ok.2.2
  generalize unT bs = s at ht ok bk rows ⊢
  obtain ⟨c, t, z⟩ := s
  dsimp only at ht ok bk rows ⊢
  have hwd : wdN z = hdW bs := by
    by_cases h0 : z.length = 0
    · rw [wdN_nil h0]; have := q.2.2.2.2.2; omega
    · exact (rows _ (nthS_in (i := 0) (by omega))).1
  have t2 : bs.take 2 = [(wdN z : Int), (z.length : Int)] := by
    rw [show (2 : Nat) = 0 + 1 + 1 from rfl, take_elAt (by omega), take_elAt (by omega), q.2.1, show elAt bs (0 + 1) = (hdM bs : Int) from q.2.2.1, hwd, ok.1]; rfl
  refine ⟨?_, ?_⟩
  · refine rcB_yes (fun i hi => ?_) (by have := q.2.2.2.2.1; omega)
    have a := rows _ (nthS_in hi)
    have b := rows _ (nthS_in (z := z) (i := 0) (by omega))
    have := q.2.2.2.2.2
    have := q.2.2.2.1
    rw [rwB, a.1, b.1, Bool.and_eq_true, Bool.and_eq_true]
    refine ⟨⟨by simp, by simp [inB]; omega⟩, allB_true (fun j hj => ?_)⟩
    have := a.2 _ (nth_in hj)
    simp [inB]; omega
  · rw [pkF, pkI_chI, ← t2, hwd, ok.1, ← bk]
    exact List.take_of_length_le (by omega)

end Go.Proofs.Ytfnnfldfnjnlfah

namespace Go.Proofs.Ytfnnfldfnjnlfah

theorem same_self {A : List (List Int)} (h : rcB A = true) : dfR A A = -1 ∧ dfCo A A = -1 ∧ dfO A A = true :=
  df_none (by rw [h]; rfl) (fun j _ => unR_no (fun k hk => unI_f (by omega) (by omega) rfl))
/-- One value changed. -/
def oneC (A : List (List Int)) (i k : Nat) (y : Int) : List (List Int) := A.set i ((nthS A i).set k y)
theorem oneC_len (A : List (List Int)) (i k : Nat) (y : Int) : (oneC A i k y).length = A.length := by simp [oneC]
theorem oneC_at {A : List (List Int)} {i k : Nat} {y : Int} (hi : i < A.length) : nthS (oneC A i k y) i = (nthS A i).set k y := by
  simp [oneC, nthS, hi]
theorem oneC_off {A : List (List Int)} {i j k : Nat} {y : Int} (h : j ≠ i) : nthS (oneC A i k y) j = nthS A j := by
  unfold oneC nthS
  rw [List.getElem?_set_ne (by omega)]
theorem set_at {r : List Int} {k : Nat} {y : Int} (h : k < r.length) : nth (r.set k y) k = y := by simp [nth, h]
theorem set_off {r : List Int} {j k : Nat} {y : Int} (h : j ≠ k) : nth (r.set k y) j = nth r j := by
  unfold nth
  rw [List.getElem?_set_ne (by omega)]
theorem oneC_w {A : List (List Int)} {i k j : Nat} {y : Int} (hi : i < A.length) : (nthS (oneC A i k y) j).length = (nthS A j).length := by
  by_cases e : j = i
  · subst e; rw [oneC_at hi]; simp
  · rw [oneC_off e]
theorem oneC_ok {A : List (List Int)} (h : rcB A = true) {i k : Nat} {y : Int} (hi : i < A.length) (h1 : -30000 ≤ y) (h2 : y ≤ 30000) : rcB (oneC A i k y) = true := by
  have f := rcB_facts h
  refine rcB_yes (fun j hj => ?_) (by rw [oneC_len]; exact f.1)
  rw [oneC_len] at hj
  have g := f.2 j hj
  rw [rwB, oneC_w hi, oneC_w hi, Bool.and_eq_true, Bool.and_eq_true]
  refine ⟨⟨by rw [g.1]; simp, by simp [inB]; omega⟩, allB_true (fun c hc => ?_)⟩
  rw [oneC_w hi] at hc
  have v := g.2.2.2 c hc
  by_cases e : j = i
  · subst e
    rw [oneC_at hi]
    by_cases ek : c = k
    · subst ek; rw [set_at hc]; simp [inB]; omega
    · rw [set_off ek]; simp [inB]; omega
  · rw [oneC_off e]; simp [inB]; omega
theorem oneC_bad {A : List (List Int)} {i k : Nat} {y : Int} (hi : i < A.length) (hk : k < (nthS A i).length) (hy : y < -30000 ∨ 30000 < y) : rcB (oneC A i k y) = false := by
  cases e : rcB (oneC A i k y)
  · rfl
  · have := ((rcB_facts e).2 i (by rw [oneC_len]; exact hi)).2.2.2 k (by rw [oneC_w hi]; exact hk)
    rw [oneC_at hi, set_at hk] at this
    omega
theorem same_one {A : List (List Int)} (h : rcB A = true) {i k : Nat} {y : Int} (hi : i < A.length) (hk : k < (nthS A i).length) (h1 : -30000 ≤ y) (h2 : y ≤ 30000) (hy : y ≠ nth (nthS A i) k) : dfR A (oneC A i k y) = i ∧ dfCo A (oneC A i k y) = k ∧ dfO A (oneC A i k y) = false := by
  refine df_here (by rw [h, oneC_ok h hi h1 h2]; rfl) (by rw [oneC_len]; omega) ?_ (fun j hj => ?_)
  · refine unR_at (by omega) (unI_n (by rw [oneC_at hi, set_at hk]; exact fun e => hy e.symm)) (fun c hc => unI_f (by omega) (by rw [oneC_w hi]; omega) (by rw [oneC_at hi, set_off (by omega)]))
  · rw [oneC_off (by omega)]
    exact unR_no (fun c hc => unI_f (by omega) (by omega) rfl)
theorem same_bad {A : List (List Int)} {i k : Nat} {y : Int} (hi : i < A.length) (hk : k < (nthS A i).length) (hy : y < -30000 ∨ 30000 < y) : dfR A (oneC A i k y) = -2 ∧ dfCo A (oneC A i k y) = -2 ∧ dfO A (oneC A i k y) = false :=
  df_no (by rw [oneC_bad hi hk hy]; simp)
theorem pkI_len4 {z : List (List Int)} (h : wdN z ≤ 4) : ∀ i, (pkI z i).length ≤ 2 + 16 * i
  | 0 => by simp [pkI]
  | i + 1 => by have := pkI_len4 h i; have := pkJ_len z i (wdN z); rw [pkI, List.length_append]; omega
theorem rcD_fits {z : List (List Int)} (h : RcD z) : pkB z = true := by
  have hw : wdN z ≤ 4 := by
    by_cases h0 : z.length = 0
    · rw [wdN_nil h0]; omega
    · exact (rcD_wd h (by omega)).2
  have hl := pkI_len4 hw z.length
  obtain ⟨_, _, h39, _⟩ := id h
  rw [pkB, rcD_ok h, pkF]
  simp; omega

end Go.Proofs.Ytfnnfldfnjnlfah

/-
  What the model's l8Seen and l8Heard answer: whether a round can be seen; what is heard, sorted. Nothing that was there is written.
-/
import Derived.Test.YtghgbhoncgnbcaqVoOk
import Derived.Test.YtghgbhoncgnbcaqAppL
import Derived.Test.YtghgbhoncgnbcaqOnly
import Derived.Test.YtghgbhoncgnbcaqVtPure
import Derived.Deep.Cut
import Derived.Deep.CutRange
import Derived.Deep.RegionLaw
namespace Go.Proofs.Ytghgbhoncgnbcaq
open Go.RowKit

set_option maxHeartbeats 2000000 in
theorem l8Seen_any (n h : Int) (a1 a2 a3 : Option Addr) (l1 c1 l2 c2 l3 c3 : Nat) (bs : List Bool) (os zs : List Int) (w : World) (hr : VoIn w a1 a2 l1 l2 bs os) (hz : Row w a3 l3 zs) :
    Calls Try.prog 45 #[.agg #[.int .i64 n, .int .i64 h, .slice a1 l1 c1, .slice a2 l2 c2], .slice a3 l3 c3] w fun x w' => x = .returned (.bool (seenB n h bs os zs)) ∧ Below w.heap.size w w' := by
  have Z1 := hide hr.r1.len_eq
  have Z3 := hide hz.len_eq
  have KP := hide (Blk.new (w := w) [.int .i64 n, .int .i64 h, .slice a1 l1 c1, .slice a2 l2 c2] 28)
  have B0 := hide (bel1 (w := w) (Obj.cells #[.int .i64 n, .int .i64 h, .slice a1 l1 c1, .slice a2 l2 c2] 28))
  have R := hide (hr.below (unhide B0))
  have RZ := hide (hz.below (unhide B0))
  clear hr hz
  cases q1 : voOk n h bs os with
  | false =>
    have HE := hide (seenB_no (zs := zs) (.inl q1))
    go_enter Try.func45, Try.ntmps45
    go_wp2_with fail
    refine (specVoterOk_is n h _ _ _ _ _ _ bs os _ (unhide R) q1).mono ?_
    rintro x w1 ⟨rfl, b⟩
    have B1 := hide ((unhide B0).trans (b.mono (unhide B0).size))
    clear b
    go_wp2_with fail
    go_ret
    exact ⟨ret_bool (unhide HE).symm, unhide B1⟩
  | true =>
  by_cases q2 : l3 = l1
  · have p2 : ((l3 : Int) == (l1 : Int)) = true := by rw [q2]; simp
    have Q2 := hide q2
    clear q2
    cases q3 : allB zs (-1000000) 1000000 with
    | false =>
      have HE := hide (seenB_no (n := n) (h := h) (bs := bs) (os := os) (.inr (.inr q3)))
      go_enter Try.func45, Try.ntmps45
      go_wp2_with fail
      refine (specVoterOk_is n h _ _ _ _ _ _ bs os _ (unhide R) q1).mono ?_
      rintro x w1 ⟨rfl, b⟩
      have B1 := hide ((unhide B0).trans (b.mono (unhide B0).size))
      have RZ := hide ((unhide RZ).below b)
      have KP := hide ((unhide KP).below b)
      have m2 : w1.cell? ⟨w.heap.size, 2, none⟩ = some (.slice a1 l1 c1) := (unhide KP).c 2 (by simp)
      clear b
      go_wp2_with fail
      refine (l1All_any _ _ _ zs _ _ _ (unhide RZ)).mono ?_
      rintro x w2 ⟨rfl, n2, hw2⟩
      rw [q3]
      have B2 : Hid (Below w.heap.size w w2) := hide (by rw [hw2]; exact (unhide B1).trans (bel0d' n2))
      clear hw2
      go_wp2_with fail
      go_ret
      exact ⟨ret_bool (unhide HE).symm, unhide B2⟩
    | true =>
      have HE := hide (seenB_yes q1 (show zs.length = bs.length by rw [unhide Z1, unhide Z3]; exact unhide Q2) q3)
      go_enter Try.func45, Try.ntmps45
      go_wp2_with fail
      refine (specVoterOk_is n h _ _ _ _ _ _ bs os _ (unhide R) q1).mono ?_
      rintro x w1 ⟨rfl, b⟩
      have B1 := hide ((unhide B0).trans (b.mono (unhide B0).size))
      have RZ := hide ((unhide RZ).below b)
      have KP := hide ((unhide KP).below b)
      have m2 : w1.cell? ⟨w.heap.size, 2, none⟩ = some (.slice a1 l1 c1) := (unhide KP).c 2 (by simp)
      clear b
      go_wp2_with fail
      refine (l1All_any _ _ _ zs _ _ _ (unhide RZ)).mono ?_
      rintro x w2 ⟨rfl, n2, hw2⟩
      rw [q3]
      have B2 : Hid (Below w.heap.size w w2) := hide (by rw [hw2]; exact (unhide B1).trans (bel0d' n2))
      clear hw2
      go_wp2_with fail
      go_ret
      exact ⟨ret_bool (unhide HE).symm, unhide B2⟩
  · have p2 : ((l3 : Int) == (l1 : Int)) = false := by simp; omega
    have HE := hide (seenB_no (n := n) (h := h) (bs := bs) (os := os) (zs := zs) (.inr (.inl (by rw [unhide Z1, unhide Z3]; exact q2))))
    clear q2
    go_enter Try.func45, Try.ntmps45
    go_wp2_with fail
    refine (specVoterOk_is n h _ _ _ _ _ _ bs os _ (unhide R) q1).mono ?_
    rintro x w1 ⟨rfl, b⟩
    have B1 := hide ((unhide B0).trans (b.mono (unhide B0).size))
    have RZ := hide ((unhide RZ).below b)
    have KP := hide ((unhide KP).below b)
    have m2 : w1.cell? ⟨w.heap.size, 2, none⟩ = some (.slice a1 l1 c1) := (unhide KP).c 2 (by simp)
    clear b
    go_wp2_with fail
    go_ret
    exact ⟨ret_bool (unhide HE).symm, unhide B1⟩
theorem l8Seen_is {c : Bool} (n h : Int) (a1 a2 a3 : Option Addr) (l1 c1 l2 c2 l3 c3 : Nat) (bs : List Bool) (os zs : List Int) (w : World) (hr : VoIn w a1 a2 l1 l2 bs os) (hz : Row w a3 l3 zs) (hc : seenB n h bs os zs = c) :
    Calls Try.prog 45 #[.agg #[.int .i64 n, .int .i64 h, .slice a1 l1 c1, .slice a2 l2 c2], .slice a3 l3 c3] w fun x w' => x = .returned (.bool c) ∧ Below w.heap.size w w' := by
  subst hc; exact l8Seen_any n h a1 a2 a3 l1 c1 l2 c2 l3 c3 bs os zs w hr hz


/-- What lies at the head of a round. -/
structure Hea (w wr : World) (n h : Int) (a1 a2 : Option Addr) (L c1 l2 c2 : Nat) (g m c : Nat) (hs : List Int) : Prop where
  p : Blk wr w.heap.size [.int .i64 n, .int .i64 h, .slice a1 L c1, .slice a2 l2 c2]
  o : OwnI wr (w.heap.size + 1) (.slice (some ⟨g, 0, none⟩) m c) (srt hs)
  l : (srt hs).length = m
  b : Below w.heap.size w wr
theorem Hea.cap {w wr : World} {n h : Int} {a1 a2 : Option Addr} {L c1 l2 c2 g m c : Nat} {hs : List Int} (H : Hea w wr n h a1 a2 L c1 l2 c2 g m c hs) : m ≤ c ∧ w.heap.size < g ∧ g < wr.heap.size := by
  have l1 := H.o.lies g rfl
  rcases H.o.form with ⟨e, _⟩ | ⟨g', c', e, _, _, h1, _⟩
  · cases e
  · simp only [Value.slice.injEq] at e
    rw [H.l] at h1
    omega
theorem bel1d' {w : World} (n : Nat) (o : Obj) : Below w.heap.size w ((w.drewN n).alloc o) := (bel0d' n).trans ((bel1 (w := w.drewN n) o).mono (Nat.le_refl _))
theorem addr_add (g o j : Nat) : (⟨g, o, none⟩ : Addr).add j = ⟨g, o + j, none⟩ := by unfold Addr.add; split <;> simp_all

set_option maxRecDepth 20000 in
set_option maxHeartbeats 8000000 in
theorem l8Heard_any (n h : Int) (a1 a2 a3 : Option Addr) (L c1 l2 c2 c3 : Nat) (bs : List Bool) (os zs : List Int) (w : World) (hr : VoIn w a1 a2 L l2 bs os) (hz : Row w a3 L zs) (hL : L ≤ 5) :
    Calls Try.prog 46 #[.agg #[.int .i64 n, .int .i64 h, .slice a1 L c1, .slice a2 l2 c2], .slice a3 L c3] w fun x w' => ∃ g c, x = .returned (.slice (some ⟨g, 0, none⟩) (heardS bs zs).length c) ∧ OwnI w' w.heap.size (.slice (some ⟨g, 0, none⟩) (heardS bs zs).length c) (heardS bs zs) ∧ Below w.heap.size w w' := by
  have Z3 := hide hz.len_eq
  have R1 := hide hr.r1
  have RZ := hide hz
  have HFZ := hide hz.fit
  clear hr hz
  obtain ⟨W, hW⟩ : ∃ W, W = (w.alloc (Obj.cells #[.int .i64 n, .int .i64 h, .slice a1 L c1, .slice a2 l2 c2] 28)).alloc (Obj.cells #[] 3) := ⟨_, rfl⟩
  have S0 : Hid (Hea w W n h a1 a2 L c1 l2 c2 (w.heap.size + 1) 0 0 []) := hide (by
    rw [hW]
    refine ⟨(Blk.new (w := w) [.int .i64 n, .int .i64 h, .slice a1 L c1, .slice a2 l2 c2] 28).alloc _, ?_, by simp [srt], bel2 _ _⟩
    have := ownI_none (w := w.alloc (Obj.cells #[.int .i64 n, .int .i64 h, .slice a1 L c1, .slice a2 l2 c2] 28)) (w1 := w.alloc (Obj.cells #[.int .i64 n, .int .i64 h, .slice a1 L c1, .slice a2 l2 c2] 28)) (Nat.le_refl _)
    simpa [srt] using this)
  have HW := hide hW
  clear hW
  go_enter Try.func46, Try.ntmps46
  go_wp2_with fail
  rw [← unhide HW]
  clear HW
  go_loopw [5, 6] (fun v i wr => ∃ k g m c : Nat, v = .slice (some ⟨g, 0, none⟩) m c ∧ i = .int .i64 (k : Int) ∧ k ≤ L ∧ m ≤ k ∧ Hea w wr n h a1 a2 L c1 l2 c2 g m c (heardTo bs zs k)) (fun _ i _ => L - (intOf i).toNat)
  case atStart => exact ⟨0, _, 0, 0, rfl, rfl, Nat.zero_le _, Nat.le_refl _, unhide S0⟩
  case round =>
    clear S0
    obtain ⟨k, g, m, c, rfl, rfl, hk, hmk, hs⟩ := hrel
    obtain ⟨U, rfl⟩ : ∃ U, U = wr := ⟨_, rfl⟩
    have HS := hide hs
    have hb0 := hs.b
    have cap := hs.cap
    clear hs
    by_cases hlt : k < L
    · have hlt' : (k : Int) < (L : Int) := by omega
      have hk0 : (0 : Int) ≤ (k : Int) := by omega
      rcases ((unhide R1).below hb0).open1 with ⟨h0, _⟩ | ⟨b1, f1, rfl, _, y1⟩
      · omega
      rcases ((unhide RZ).below hb0).open_ with ⟨h0, _⟩ | ⟨b3, f3, rfl, _, y3⟩
      · omega
      have p2 : U.cell? ⟨w.heap.size, 2, none⟩ = some (.slice (some ⟨b1, f1, none⟩) L c1) := (unhide HS).p.c 2 (by simp)
      have z3 := y3 k hlt
      obtain ⟨x, hx⟩ : ∃ x, nth zs k = x := ⟨_, rfl⟩
      rw [hx] at z3
      have hfx : -9223372036854775808 ≤ x ∧ x ≤ 9223372036854775807 := by rw [← hx]; exact (unhide HFZ) k
      cases ho : elAt bs k with
      | true =>
        have z1 : U.cell? ⟨b1, f1 + k, none⟩ = some (.bool true) := by rw [← ho]; exact y1 k hlt
        have HE := hide (heardTo_out (zs := zs) ho)
        clear y1 y3 hb0 hx ho
        go_wp2_with fail
        go_roundw
        case rel => exact ⟨k + 1, g, m, c, rfl, by go_num, by omega, by omega, by rw [unhide HE]; exact unhide HS⟩
        case measure => simp [intOf]; omega
      | false =>
        have z1 : U.cell? ⟨b1, f1 + k, none⟩ = some (.bool false) := by rw [← ho]; exact y1 k hlt
        have HE : Hid (heardTo bs zs (k + 1) = heardTo bs zs k ++ [x]) := hide (by rw [heardTo_in ho, hx])
        clear y1 y3 hb0 hx ho
        obtain ⟨H, hH⟩ : ∃ H, srt (heardTo bs zs k) = H := ⟨_, rfl⟩
        have HO : Hid (OwnI U (w.heap.size + 1) (.slice (some ⟨g, 0, none⟩) m c) H) := hide (by rw [← hH]; exact (unhide HS).o)
        have HML : Hid (H.length = m) := hide (by rw [← hH]; exact (unhide HS).l)
        have HHH := hide hH
        clear hH
        have HC : Hid (∀ j, j < m → U.cell? ⟨g, j, none⟩ = some (.int .i64 (nth H j))) := hide (fun j hj => by
          have o1 := unhide HO
          rw [← unhide HML] at o1
          exact (o1.here j (by rw [unhide HML]; exact hj)).1)
        have HB := hide (unhide HS).b
        have HP := hide (unhide HS).p
        have HFH := hide (unhide HO).fit
        clear HS
        go_wp2_with fail
        go_loopw [7] (fun q wq => ∃ a ni : Nat, q = .int .i64 (a : Int) ∧ a ≤ m ∧ Hid (∀ j, j < a → nth H j < x) ∧ wq = U.drewN ni) (fun q _ => m - (intOf q).toNat)
        case atStart => exact ⟨0, 0, rfl, Nat.zero_le _, hide (fun j hj => by omega), rfl⟩
        case round =>
          obtain ⟨a, ni, rfl, ha, HJ, hwq⟩ := hrel
          subst wr
          have ha0 : (0 : Int) ≤ (a : Int) := by omega
          have hfa : ∀ i : Nat, -9223372036854775808 ≤ nth (H.drop a) i ∧ nth (H.drop a) i ≤ 9223372036854775807 := fun i => by
            have e : nth (H.drop a) i = nth H (a + i) := by unfold nth; rw [List.getElem?_drop]
            rw [e]; exact (unhide HFH) _
          have hft : ∀ i : Nat, -9223372036854775808 ≤ nth (H.take a) i ∧ nth (H.take a) i ≤ 9223372036854775807 := fun i => by
            by_cases hi : i < a
            · have e : nth (H.take a) i = nth H i := by unfold nth; rw [List.getElem?_take_of_lt hi]
              rw [e]; exact (unhide HFH) _
            · rw [nth_out (by simp; omega)]; omega
          have HFA := hide hfa
          have HFT := hide hft
          clear hfa hft
          by_cases ham : a < m
          · have ham' : (a : Int) < (m : Int) := by omega
            have ca := (unhide HC) a ham
            by_cases hax : nth H a < x
            · have HJ1 : Hid (∀ j, j < a + 1 → nth H j < x) := hide (fun j hj => by rcases Nat.lt_succ_iff_lt_or_eq.1 hj with h | h; exact unhide HJ j h; subst h; exact hax)
              go_wp2_with fail
              go_quiet (fail)
              go_wp2_with fail
              go_roundw
              case rel => exact ⟨a + 1, _, by go_num, by omega, HJ1, rfl⟩
              case measure => simp [intOf]; omega
            · have INS := hide (ins_srt (unhide HHH).symm (by rw [unhide HML]; exact ha) (unhide HJ) (fun _ => by omega))
              have hca : ¬ c = a := by omega
              have hcaz : ¬ (c : Int) = (a : Int) := by omega
              go_wp2_with fail
              go_quiet (fail)
              go_upto_region 9 with fail
              obtain ⟨V, hV⟩ : ∃ V, (U.drewN ni).drewN nq = V := ⟨_, rfl⟩
              have bV : Below U.heap.size U V := by rw [← hV]; exact (bel0d' ni).trans (bel0d' nq)
              have OV := hide ((unhide HO).below bV)
              have BV := hide ((unhide HB).trans (bV.mono (unhide HB).size))
              have PV := hide ((unhide HP).below bV)
              have CV : Hid (∀ j, j < m → V.cell? ⟨g, j, none⟩ = some (.int .i64 (nth H j))) := hide (fun j hj => (bV.cell (p := ⟨g, j, none⟩) cap.2.2).trans ((unhide HC) j hj))
              have zV : V.cell? ⟨b3, f3 + k, none⟩ = some (.int .i64 x) := (bV.cell (block_lt_of_cell z3)).trans z3
              have hgV : g < V.heap.size := Nat.lt_of_lt_of_le cap.2.2 bV.size
              have hwV : w.heap.size + 1 ≤ V.heap.size := by omega
              try rw [hV]
              clear hV bV
              have F1 : Hid (∀ q, OwnI ((V.drewN q).alloc (Obj.cells #[.int .i64 x] 3)) (w.heap.size + 1) (.slice (some ⟨V.heap.size, 0, none⟩) 1 1) [x]) := hide (fun q => ownI_one (w := V.drewN q) x hwV hfx)
              have F2 : Hid (∀ q j, j < (m - a) → ((V.drewN q).alloc (Obj.cells #[.int .i64 x] 3)).cell? ((⟨g, a, none⟩ : Addr).add j) = some (.int .i64 (nth (H.drop a) j))) := hide (fun q j hj => by
                rw [addr_add]
                have e : nth (H.drop a) j = nth H (a + j) := by unfold nth; rw [List.getElem?_drop]
                rw [e]
                exact ((bel1d' (w := V) q (Obj.cells #[.int .i64 x] 3)).cell (p := ⟨g, a + j, none⟩) hgV).trans ((unhide CV) (a + j) (by omega)))
              have F3 : Hid (∀ q, Below V.heap.size V ((V.drewN q).alloc (Obj.cells #[.int .i64 x] 3))) := hide (fun q => bel1d' q _)
              have DL : Hid ((H.drop a).length = (m - a)) := hide (by rw [List.length_drop, unhide HML] <;> omega)
              have hA1 : (a : Int) ≤ (m : Int) := by omega
              have hA2 : (m : Int) ≤ (c : Int) := by omega
              go_cut [8] from 10 to 53 (fun r Wc => OwnI Wc (w.heap.size + 1) r ([x] ++ H.drop a) ∧ r ≠ .slice none 0 0 ∧ Below V.heap.size V Wc)
              case first =>
                go_region_law (refine step_app_ints rfl (.tmp 42) (.tmp 45) rfl (unhide F1 _) (by simp [Act.eval]) ⟨g, a, none⟩ (m - a) (c - a) (H.drop a) (by first | (simp [Act.eval]; done) | (simp [Act.eval]; omega)) (unhide DL) (unhide F2 _) (unhide HFA) (by first | (simp; done) | (simp; omega)) (by first | (simp; done) | (simp; omega)) ?_; intro v9 w9 o9 g9 n9)
                all_goals
                  go_wp2_with fail
                  go_meet
                  case rel => exact ⟨o9, fun e => (by have := n9 e; cases this), (unhide F3 _).grown g9 (by simp) (fun q hq => by have e := Option.some.inj (show some V.heap.size = some q from hq); omega)⟩
              case rest =>
                obtain ⟨oR, hnn, hbW⟩ := hcut
                rcases oR.form with ⟨e, _⟩ | ⟨g3, c3, e, h31, h32, _, _⟩
                · exact absurd e hnn
                rw [e] at oR
                subst e
                have hwc : V.heap.size ≤ wc.heap.size := hbW.size
                obtain ⟨N3, hN3⟩ : ∃ N, ([x] ++ H.drop a).length = N := ⟨_, rfl⟩
                rw [hN3] at oR ⊢
                have hN3s : N3 ≤ 7 := by rw [← hN3]; have := unhide DL; rw [List.length_append, this]; simp only [List.length_cons, List.length_nil]; omega
                have HN3 := hide hN3
                have OR := hide (oR.below (bel1 (Obj.cells #[] 3)))
                have CW : Hid (∀ j, j < a → (wc.alloc (Obj.cells #[] 3)).cell? ((⟨g, 0, none⟩ : Addr).add j) = some (.int .i64 (nth (H.take a) j))) := hide (fun j hj => by
                  rw [addr_add, Nat.zero_add]
                  have e : nth (H.take a) j = nth H j := by unfold nth; rw [List.getElem?_take_of_lt hj]
                  rw [e]
                  have b1 : Below V.heap.size V (wc.alloc (Obj.cells #[] 3)) := hbW.trans ((bel1 _).mono hwc)
                  exact (b1.cell (p := ⟨g, j, none⟩) hgV).trans ((unhide CV) j (by omega)))
                have G1 : Hid (OwnI (wc.alloc (Obj.cells #[] 3)) (w.heap.size + 1) (.slice (some ⟨wc.heap.size, 0, none⟩) 0 0) []) := hide ((ownI_none (w := wc) (w1 := wc) (Nat.le_refl _)).mono (by omega))
                have BW : Hid (Below w.heap.size w (wc.alloc (Obj.cells #[] 3))) := hide (((unhide BV).trans (hbW.mono (unhide BV).size)).trans ((bel1 _).mono (by omega)))
                have PW := hide (((unhide PV).below hbW).alloc (Obj.cells #[] 3))
                have TL : Hid ((H.take a).length = a) := hide (by rw [List.length_take, unhide HML]; omega)
                have hfx2 : ∀ i : Nat, -9223372036854775808 ≤ nth ([x] ++ H.drop a) i ∧ nth ([x] ++ H.drop a) i ≤ 9223372036854775807 := (unhide OR).fit
                have HFX := hide hfx2
                clear oR hnn hbW hN3 zV hfx2 F1 F2 F3
                go_wp2_with (first
                  | (at_builtin; refine wpList_app_ints rfl _ _ rfl (unhide G1) rfl ⟨g, 0, none⟩ a c (H.take a) rfl (unhide TL) (unhide CW) (unhide HFT) (by simp; omega) (by simp; omega) ?_; intro v1 w10 o10 g10 n10; have l10 := o10.lies; have OR := hide ((unhide OR).far g10 (fun q hq e2 => by have e3 := Option.some.inj (show some q = some wc.heap.size from e2); have e4 := Option.some.inj (show some g3 = some q from hq); omega)); have BW := hide ((unhide BW).grown g10 (by simp; omega) (fun q hq => by have e3 := Option.some.inj (show some wc.heap.size = some q from hq); omega)); have PW := hide ((unhide PW).only (Only.of_row (lo := w.heap.size + 1) (hi := wc.heap.size + 1) g10 (fun q hq => by have e3 := Option.some.inj (show some wc.heap.size = some q from hq); omega)) (by omega)); have z10 : w.heap.size + 1 ≤ w10.heap.size := (by have := g10.size; simp at this; omega); have L10 := hide l10; clear l10)
                  | (at_builtin; refine wpList_app_ints rfl _ _ rfl o10 rfl ⟨g3, 0, none⟩ N3 c3 ([x] ++ H.drop a) rfl (unhide HN3) (fun j hj => by rw [addr_add, Nat.zero_add]; have o := unhide OR; rw [← unhide HN3] at o; exact (o.here j (by rw [unhide HN3]; exact hj)).1) (unhide HFX) (by have := unhide TL; simp; omega) z10 ?_; intro v2 w11 o11 g11 n11)
                  | go_in)
                have e11 : ([] ++ H.take a) ++ ([x] ++ H.drop a) = srt (heardTo bs zs (k + 1)) := by rw [unhide HE, ← unhide INS]; rfl
                rw [e11] at o11
                have hl11 : (srt (heardTo bs zs (k + 1))).length = m + 1 := by rw [← e11]; have h1 := unhide TL; have h2 := unhide DL; simp at h1 h2 ⊢; omega
                rcases o11.form with ⟨e, _⟩ | ⟨g5, c5, e, _, _, _, _⟩
                · exact absurd (n10 (n11 e)) (by simp)
                rw [hl11] at e
                subst e
                have B11 := hide ((unhide BW).grown g11 (by omega) (fun q hq => by have := ((unhide L10) q hq).1; omega))
                have P11 := hide ((unhide PW).only (Only.of_row (lo := w.heap.size + 1) (hi := w10.heap.size) g11 (fun q hq => (unhide L10) q hq)) (by omega))
                have O11 := hide o11
                have HL11 := hide hl11
                clear o10 g10 n10 o11 g11 n11 e11 hl11
                go_roundw
                case rel => exact ⟨k + 1, g5, m + 1, c5, rfl, by go_num, by omega, by omega, ⟨unhide P11, unhide O11, unhide HL11, unhide B11⟩⟩
                case measure => simp [intOf]; omega
          · obtain rfl : a = m := by omega
            have INS := hide (ins_srt (unhide HHH).symm (by rw [unhide HML]; exact ha) (unhide HJ) (fun e => by rw [unhide HML] at e; omega))
            by_cases hca : c = a
            · subst hca
              go_wp2_with fail
              go_quiet (fail)
              go_upto_region 9 with fail
              obtain ⟨V, hV⟩ : ∃ V, (U.drewN ni).drewN nq = V := ⟨_, rfl⟩
              have bV : Below U.heap.size U V := by rw [← hV]; exact (bel0d' ni).trans (bel0d' nq)
              have OV := hide ((unhide HO).below bV)
              have BV := hide ((unhide HB).trans (bV.mono (unhide HB).size))
              have PV := hide ((unhide HP).below bV)
              have CV : Hid (∀ j, j < c → V.cell? ⟨g, j, none⟩ = some (.int .i64 (nth H j))) := hide (fun j hj => (bV.cell (p := ⟨g, j, none⟩) cap.2.2).trans ((unhide HC) j hj))
              have zV : V.cell? ⟨b3, f3 + k, none⟩ = some (.int .i64 x) := (bV.cell (block_lt_of_cell z3)).trans z3
              have hgV : g < V.heap.size := Nat.lt_of_lt_of_le cap.2.2 bV.size
              have hwV : w.heap.size + 1 ≤ V.heap.size := by omega
              try rw [hV]
              clear hV bV
              have F1 : Hid (∀ q, OwnI ((V.drewN q).alloc (Obj.cells #[.int .i64 x] 3)) (w.heap.size + 1) (.slice (some ⟨V.heap.size, 0, none⟩) 1 1) [x]) := hide (fun q => ownI_one (w := V.drewN q) x hwV hfx)
              have F2 : Hid (∀ q j, j < 0 → ((V.drewN q).alloc (Obj.cells #[.int .i64 x] 3)).cell? ((⟨g, 0, none⟩ : Addr).add j) = some (.int .i64 (nth (H.drop c) j))) := hide (fun q j hj => absurd hj (Nat.not_lt_zero _))
              have F3 : Hid (∀ q, Below V.heap.size V ((V.drewN q).alloc (Obj.cells #[.int .i64 x] 3))) := hide (fun q => bel1d' q _)
              have DL : Hid ((H.drop c).length = 0) := hide (by rw [List.length_drop, unhide HML] <;> omega)
              have hA1 : (c : Int) ≤ (c : Int) := by omega
              have hA2 : (c : Int) ≤ (c : Int) := by omega
              go_cut [8] from 10 to 53 (fun r Wc => OwnI Wc (w.heap.size + 1) r ([x] ++ H.drop c) ∧ r ≠ .slice none 0 0 ∧ Below V.heap.size V Wc)
              case first =>
                go_region_law (refine step_app_ints rfl (.tmp 42) (.tmp 45) rfl (unhide F1 _) (by simp [Act.eval]) ⟨g, 0, none⟩ 0 0 (H.drop c) (by first | (simp [Act.eval]; done) | (simp [Act.eval]; omega)) (unhide DL) (unhide F2 _) (unhide HFA) (by first | (simp; done) | (simp; omega)) (by first | (simp; done) | (simp; omega)) ?_; intro v9 w9 o9 g9 n9)
                all_goals
                  go_wp2_with fail
                  go_meet
                  case rel => exact ⟨o9, fun e => (by have := n9 e; cases this), (unhide F3 _).grown g9 (by simp) (fun q hq => by have e := Option.some.inj (show some V.heap.size = some q from hq); omega)⟩
              case rest =>
                obtain ⟨oR, hnn, hbW⟩ := hcut
                rcases oR.form with ⟨e, _⟩ | ⟨g3, c3, e, h31, h32, _, _⟩
                · exact absurd e hnn
                rw [e] at oR
                subst e
                have hwc : V.heap.size ≤ wc.heap.size := hbW.size
                obtain ⟨N3, hN3⟩ : ∃ N, ([x] ++ H.drop c).length = N := ⟨_, rfl⟩
                rw [hN3] at oR ⊢
                have hN3s : N3 ≤ 7 := by rw [← hN3]; have := unhide DL; rw [List.length_append, this]; simp only [List.length_cons, List.length_nil]; omega
                have HN3 := hide hN3
                have OR := hide (oR.below (bel1 (Obj.cells #[] 3)))
                have CW : Hid (∀ j, j < c → (wc.alloc (Obj.cells #[] 3)).cell? ((⟨g, 0, none⟩ : Addr).add j) = some (.int .i64 (nth (H.take c) j))) := hide (fun j hj => by
                  rw [addr_add, Nat.zero_add]
                  have e : nth (H.take c) j = nth H j := by unfold nth; rw [List.getElem?_take_of_lt hj]
                  rw [e]
                  have b1 : Below V.heap.size V (wc.alloc (Obj.cells #[] 3)) := hbW.trans ((bel1 _).mono hwc)
                  exact (b1.cell (p := ⟨g, j, none⟩) hgV).trans ((unhide CV) j (by omega)))
                have G1 : Hid (OwnI (wc.alloc (Obj.cells #[] 3)) (w.heap.size + 1) (.slice (some ⟨wc.heap.size, 0, none⟩) 0 0) []) := hide ((ownI_none (w := wc) (w1 := wc) (Nat.le_refl _)).mono (by omega))
                have BW : Hid (Below w.heap.size w (wc.alloc (Obj.cells #[] 3))) := hide (((unhide BV).trans (hbW.mono (unhide BV).size)).trans ((bel1 _).mono (by omega)))
                have PW := hide (((unhide PV).below hbW).alloc (Obj.cells #[] 3))
                have TL : Hid ((H.take c).length = c) := hide (by rw [List.length_take, unhide HML]; omega)
                have hfx2 : ∀ i : Nat, -9223372036854775808 ≤ nth ([x] ++ H.drop c) i ∧ nth ([x] ++ H.drop c) i ≤ 9223372036854775807 := (unhide OR).fit
                have HFX := hide hfx2
                clear oR hnn hbW hN3 zV hfx2 F1 F2 F3
                go_wp2_with (first
                  | (at_builtin; refine wpList_app_ints rfl _ _ rfl (unhide G1) rfl ⟨g, 0, none⟩ c c (H.take c) rfl (unhide TL) (unhide CW) (unhide HFT) (by simp; omega) (by simp; omega) ?_; intro v1 w10 o10 g10 n10; have l10 := o10.lies; have OR := hide ((unhide OR).far g10 (fun q hq e2 => by have e3 := Option.some.inj (show some q = some wc.heap.size from e2); have e4 := Option.some.inj (show some g3 = some q from hq); omega)); have BW := hide ((unhide BW).grown g10 (by simp; omega) (fun q hq => by have e3 := Option.some.inj (show some wc.heap.size = some q from hq); omega)); have PW := hide ((unhide PW).only (Only.of_row (lo := w.heap.size + 1) (hi := wc.heap.size + 1) g10 (fun q hq => by have e3 := Option.some.inj (show some wc.heap.size = some q from hq); omega)) (by omega)); have z10 : w.heap.size + 1 ≤ w10.heap.size := (by have := g10.size; simp at this; omega); have L10 := hide l10; clear l10)
                  | (at_builtin; refine wpList_app_ints rfl _ _ rfl o10 rfl ⟨g3, 0, none⟩ N3 c3 ([x] ++ H.drop c) rfl (unhide HN3) (fun j hj => by rw [addr_add, Nat.zero_add]; have o := unhide OR; rw [← unhide HN3] at o; exact (o.here j (by rw [unhide HN3]; exact hj)).1) (unhide HFX) (by have := unhide TL; simp; omega) z10 ?_; intro v2 w11 o11 g11 n11)
                  | go_in)
                have e11 : ([] ++ H.take c) ++ ([x] ++ H.drop c) = srt (heardTo bs zs (k + 1)) := by rw [unhide HE, ← unhide INS]; rfl
                rw [e11] at o11
                have hl11 : (srt (heardTo bs zs (k + 1))).length = c + 1 := by rw [← e11]; have h1 := unhide TL; have h2 := unhide DL; simp at h1 h2 ⊢; omega
                rcases o11.form with ⟨e, _⟩ | ⟨g5, c5, e, _, _, _, _⟩
                · exact absurd (n10 (n11 e)) (by simp)
                rw [hl11] at e
                subst e
                have B11 := hide ((unhide BW).grown g11 (by omega) (fun q hq => by have := ((unhide L10) q hq).1; omega))
                have P11 := hide ((unhide PW).only (Only.of_row (lo := w.heap.size + 1) (hi := w10.heap.size) g11 (fun q hq => (unhide L10) q hq)) (by omega))
                have O11 := hide o11
                have HL11 := hide hl11
                clear o10 g10 n10 o11 g11 n11 e11 hl11
                go_roundw
                case rel => exact ⟨k + 1, g5, c + 1, c5, rfl, by go_num, by omega, by omega, ⟨unhide P11, unhide O11, unhide HL11, unhide B11⟩⟩
                case measure => simp [intOf]; omega
            · have hcaz : ¬ (c : Int) = (a : Int) := by omega
              go_wp2_with fail
              go_quiet (fail)
              go_upto_region 9 with fail
              obtain ⟨V, hV⟩ : ∃ V, (U.drewN ni).drewN nq = V := ⟨_, rfl⟩
              have bV : Below U.heap.size U V := by rw [← hV]; exact (bel0d' ni).trans (bel0d' nq)
              have OV := hide ((unhide HO).below bV)
              have BV := hide ((unhide HB).trans (bV.mono (unhide HB).size))
              have PV := hide ((unhide HP).below bV)
              have CV : Hid (∀ j, j < a → V.cell? ⟨g, j, none⟩ = some (.int .i64 (nth H j))) := hide (fun j hj => (bV.cell (p := ⟨g, j, none⟩) cap.2.2).trans ((unhide HC) j hj))
              have zV : V.cell? ⟨b3, f3 + k, none⟩ = some (.int .i64 x) := (bV.cell (block_lt_of_cell z3)).trans z3
              have hgV : g < V.heap.size := Nat.lt_of_lt_of_le cap.2.2 bV.size
              have hwV : w.heap.size + 1 ≤ V.heap.size := by omega
              try rw [hV]
              clear hV bV
              have F1 : Hid (∀ q, OwnI ((V.drewN q).alloc (Obj.cells #[.int .i64 x] 3)) (w.heap.size + 1) (.slice (some ⟨V.heap.size, 0, none⟩) 1 1) [x]) := hide (fun q => ownI_one (w := V.drewN q) x hwV hfx)
              have F2 : Hid (∀ q j, j < 0 → ((V.drewN q).alloc (Obj.cells #[.int .i64 x] 3)).cell? ((⟨g, a, none⟩ : Addr).add j) = some (.int .i64 (nth (H.drop a) j))) := hide (fun q j hj => absurd hj (Nat.not_lt_zero _))
              have F3 : Hid (∀ q, Below V.heap.size V ((V.drewN q).alloc (Obj.cells #[.int .i64 x] 3))) := hide (fun q => bel1d' q _)
              have DL : Hid ((H.drop a).length = 0) := hide (by rw [List.length_drop, unhide HML] <;> omega)
              have hA1 : (a : Int) ≤ (a : Int) := by omega
              have hA2 : (a : Int) ≤ (c : Int) := by omega
              go_cut [8] from 10 to 53 (fun r Wc => OwnI Wc (w.heap.size + 1) r ([x] ++ H.drop a) ∧ r ≠ .slice none 0 0 ∧ Below V.heap.size V Wc)
              case first =>
                go_region_law (refine step_app_ints rfl (.tmp 42) (.tmp 45) rfl (unhide F1 _) (by simp [Act.eval]) ⟨g, a, none⟩ 0 (c - a) (H.drop a) (by first | (simp [Act.eval]; done) | (simp [Act.eval]; omega)) (unhide DL) (unhide F2 _) (unhide HFA) (by first | (simp; done) | (simp; omega)) (by first | (simp; done) | (simp; omega)) ?_; intro v9 w9 o9 g9 n9)
                all_goals
                  go_wp2_with fail
                  go_meet
                  case rel => exact ⟨o9, fun e => (by have := n9 e; cases this), (unhide F3 _).grown g9 (by simp) (fun q hq => by have e := Option.some.inj (show some V.heap.size = some q from hq); omega)⟩
              case rest =>
                obtain ⟨oR, hnn, hbW⟩ := hcut
                rcases oR.form with ⟨e, _⟩ | ⟨g3, c3, e, h31, h32, _, _⟩
                · exact absurd e hnn
                rw [e] at oR
                subst e
                have hwc : V.heap.size ≤ wc.heap.size := hbW.size
                obtain ⟨N3, hN3⟩ : ∃ N, ([x] ++ H.drop a).length = N := ⟨_, rfl⟩
                rw [hN3] at oR ⊢
                have hN3s : N3 ≤ 7 := by rw [← hN3]; have := unhide DL; rw [List.length_append, this]; simp only [List.length_cons, List.length_nil]; omega
                have HN3 := hide hN3
                have OR := hide (oR.below (bel1 (Obj.cells #[] 3)))
                have CW : Hid (∀ j, j < a → (wc.alloc (Obj.cells #[] 3)).cell? ((⟨g, 0, none⟩ : Addr).add j) = some (.int .i64 (nth (H.take a) j))) := hide (fun j hj => by
                  rw [addr_add, Nat.zero_add]
                  have e : nth (H.take a) j = nth H j := by unfold nth; rw [List.getElem?_take_of_lt hj]
                  rw [e]
                  have b1 : Below V.heap.size V (wc.alloc (Obj.cells #[] 3)) := hbW.trans ((bel1 _).mono hwc)
                  exact (b1.cell (p := ⟨g, j, none⟩) hgV).trans ((unhide CV) j (by omega)))
                have G1 : Hid (OwnI (wc.alloc (Obj.cells #[] 3)) (w.heap.size + 1) (.slice (some ⟨wc.heap.size, 0, none⟩) 0 0) []) := hide ((ownI_none (w := wc) (w1 := wc) (Nat.le_refl _)).mono (by omega))
                have BW : Hid (Below w.heap.size w (wc.alloc (Obj.cells #[] 3))) := hide (((unhide BV).trans (hbW.mono (unhide BV).size)).trans ((bel1 _).mono (by omega)))
                have PW := hide (((unhide PV).below hbW).alloc (Obj.cells #[] 3))
                have TL : Hid ((H.take a).length = a) := hide (by rw [List.length_take, unhide HML]; omega)
                have hfx2 : ∀ i : Nat, -9223372036854775808 ≤ nth ([x] ++ H.drop a) i ∧ nth ([x] ++ H.drop a) i ≤ 9223372036854775807 := (unhide OR).fit
                have HFX := hide hfx2
                clear oR hnn hbW hN3 zV hfx2 F1 F2 F3
                go_wp2_with (first
                  | (at_builtin; refine wpList_app_ints rfl _ _ rfl (unhide G1) rfl ⟨g, 0, none⟩ a c (H.take a) rfl (unhide TL) (unhide CW) (unhide HFT) (by simp; omega) (by simp; omega) ?_; intro v1 w10 o10 g10 n10; have l10 := o10.lies; have OR := hide ((unhide OR).far g10 (fun q hq e2 => by have e3 := Option.some.inj (show some q = some wc.heap.size from e2); have e4 := Option.some.inj (show some g3 = some q from hq); omega)); have BW := hide ((unhide BW).grown g10 (by simp; omega) (fun q hq => by have e3 := Option.some.inj (show some wc.heap.size = some q from hq); omega)); have PW := hide ((unhide PW).only (Only.of_row (lo := w.heap.size + 1) (hi := wc.heap.size + 1) g10 (fun q hq => by have e3 := Option.some.inj (show some wc.heap.size = some q from hq); omega)) (by omega)); have z10 : w.heap.size + 1 ≤ w10.heap.size := (by have := g10.size; simp at this; omega); have L10 := hide l10; clear l10)
                  | (at_builtin; refine wpList_app_ints rfl _ _ rfl o10 rfl ⟨g3, 0, none⟩ N3 c3 ([x] ++ H.drop a) rfl (unhide HN3) (fun j hj => by rw [addr_add, Nat.zero_add]; have o := unhide OR; rw [← unhide HN3] at o; exact (o.here j (by rw [unhide HN3]; exact hj)).1) (unhide HFX) (by have := unhide TL; simp; omega) z10 ?_; intro v2 w11 o11 g11 n11)
                  | go_in)
                have e11 : ([] ++ H.take a) ++ ([x] ++ H.drop a) = srt (heardTo bs zs (k + 1)) := by rw [unhide HE, ← unhide INS]; rfl
                rw [e11] at o11
                have hl11 : (srt (heardTo bs zs (k + 1))).length = a + 1 := by rw [← e11]; have h1 := unhide TL; have h2 := unhide DL; simp at h1 h2 ⊢; omega
                rcases o11.form with ⟨e, _⟩ | ⟨g5, c5, e, _, _, _, _⟩
                · exact absurd (n10 (n11 e)) (by simp)
                rw [hl11] at e
                subst e
                have B11 := hide ((unhide BW).grown g11 (by omega) (fun q hq => by have := ((unhide L10) q hq).1; omega))
                have P11 := hide ((unhide PW).only (Only.of_row (lo := w.heap.size + 1) (hi := w10.heap.size) g11 (fun q hq => (unhide L10) q hq)) (by omega))
                have O11 := hide o11
                have HL11 := hide hl11
                clear o10 g10 n10 o11 g11 n11 e11 hl11
                go_roundw
                case rel => exact ⟨k + 1, g5, a + 1, c5, rfl, by go_num, by omega, by omega, ⟨unhide P11, unhide O11, unhide HL11, unhide B11⟩⟩
                case measure => simp [intOf]; omega
    · have hlt' : ¬ (k : Int) < (L : Int) := by omega
      obtain rfl : k = L := by omega
      have HL : Hid ((heardS bs zs).length = m) := hide (by unfold heardS; rw [unhide Z3]; exact (unhide HS).l)
      have HO : Hid (OwnI U w.heap.size (.slice (some ⟨g, 0, none⟩) m c) (heardS bs zs)) := hide (by unfold heardS; rw [unhide Z3]; exact (unhide HS).o.mono (by omega))
      clear hb0 hlt
      go_wp2_with fail
      go_ret
      exact ⟨g, c, by rw [unhide HL]; rfl, by rw [unhide HL]; exact unhide HO, (unhide HS).b⟩

end Go.Proofs.Ytghgbhoncgnbcaq

/-
  What the model's l14DrawRules draws: rules that are so, in new memory. At every cursor; nothing that was there is written but the cursor.
-/
import Derived.Test.YtfehfocfoegbdaaWdIs
import Derived.Deep.CutRange
import Derived.Deep.RegionLaw
namespace Go.Proofs.Ytfehfocfoegbdaa
open Go Go.RowKit

set_option maxHeartbeats 1000000 in
theorem drawNames_any (w : World) : Calls Try.prog 29 #[] w fun e w' => e = .returned (.slice (some ⟨w.heap.size, 0, none⟩) 7 7) ∧ Blk w' w.heap.size (nmW.map Value.string) ∧ Below w.heap.size w w' := by
  go_enter Try.func29, Try.ntmps29
  go_wp2
  go_ret
  exact ⟨rfl, Blk.new (w := w) (nmW.map Value.string) _, bel1 _⟩
theorem WhR.neP {w : World} {C : Nat} {a : Option Addr} {len cap : Nat} {U : World} {P : Nat} {s : ByteArray} {r x : Int} {qa : Option Addr} {m qc g9 c9 : Nat} {b : Bool} {qs : List Int} {W W' : World} (h : WhR w C a len cap U P s r qa m qc b qs W) (o9 : OwnI W' U.heap.size (.slice (some ⟨g9, 0, none⟩) (m + 1) c9) (qs ++ [x])) (gr : W.grownBy W' (Value.slice qa m qc).ownBlock) : g9 ≠ P := by
  intro e
  subst e
  have hp := (h.p.apart gr (fun e => h.ne g9 e.symm rfl)).c 0 (by simp)
  rcases o9.row.open_ with ⟨h0, _⟩ | ⟨bb, off, e1, _, hc⟩
  · omega
  · simp only [Option.some.injEq, Addr.mk.injEq, and_true] at e1
    obtain ⟨rfl, rfl⟩ := e1
    have q := hc 0 (by omega)
    have q : W'.cell? ⟨g9, 0, none⟩ = some (.int .i64 (nth (qs ++ [x]) 0)) := q
    rw [q] at hp
    simp at hp
def RuE (w : World) (C : Nat) (a : Option Addr) (len cap : Nat) (e : Ending) (w' : World) : Prop := ∃ (g gn n c : Nat) (hs : List Wh), e = .returned (.slice (some ⟨g, 0, none⟩) n c) ∧ WdJ hs ∧ WhS w C gn a len cap g n c hs w'
set_option maxRecDepth 20000 in
set_option maxHeartbeats 4000000 in
theorem drawRules_any {w : World} {C : Nat} {a : Option Addr} {len cap : Nat} (W : World) (h : Dr w C a len cap W) (hin : ∀ b off, a = some ⟨b, off, none⟩ → b < w.heap.size) :
    Calls Try.prog 13 #[.pointer (some ⟨C, 0, none⟩)] W fun e w' => RuE w C a len cap e w' := by
  have hCl := h.lt
  have HD := hide h
  have HIN := hide hin
  clear h hin
  go_enter Try.func13, Try.ntmps13
  go_wp2_with fail
  refine (drawNames_any _).mono ?_
  rintro e w1 ⟨rfl, nb, b1⟩
  obtain ⟨gn, hgn⟩ : ∃ q, (W.alloc (Obj.cells #[] 48)).heap.size = q := ⟨_, rfl⟩
  rw [hgn] at nb ⊢
  have hgs : gn = W.heap.size + 1 := by rw [← hgn]; simp
  have S0 : Hid (WhS w C gn a len cap W.heap.size 0 0 [] w1) := hide ⟨((unhide HD).below (bel1 _)).below b1, unhide HIN, nb, (((ownE_none (K := 5) (cells := whC) (w := W) (w1 := W) (T := 48) (Nat.le_refl _)).below b1)).mono (by omega), fun i hi => by simp at hi, by omega, by omega, rfl⟩
  have hgC : C < gn := by omega
  clear nb b1 HD hgn hgs
  go_wp2_with fail
  go_loopw [3, 5] (fun t3 t5 wr => ∃ (k g n c : Nat) (hs : List Wh), t3 = .slice (some ⟨g, 0, none⟩) n c ∧ t5 = .int .i64 (k : Int) ∧ k ≤ 7 ∧ n ≤ k ∧ Hid (WdI hs k) ∧ Hid (WhS w C gn a len cap g n c hs wr)) (fun _ t5 _ => 7 - (intOf t5).toNat)
  case atStart => exact ⟨0, _, 0, 0, [], rfl, rfl, by omega, Nat.le_refl _, hide WdI.nil, S0⟩
  case round =>
    clear S0
    obtain ⟨k, g, n, c, hs, rfl, rfl, hk, hnk, HI, HS⟩ := hrel
    by_cases hlt : k < 7
    · have i0 : (0 : Int) ≤ (k : Int) := by omega
      have i1 : (k : Int) < 7 := by omega
      go_wp2_with fail
      refine (drOnce 4 _ (unhide HS).dr (by omega)).mono ?_
      rintro e U ⟨on, rfl, d, gr⟩
      have HS := hide ((unhide HS).step d gr)
      clear d gr
      cases on
      · obtain ⟨s, hs0⟩ : ∃ s, elAt nmW k = s := ⟨_, rfl⟩
        have HSN := hide hs0
        have NC : Hid (∀ V : World, Dk w C a len cap U V → V.cell? ⟨gn, k, none⟩ = some (.string s)) := hide (fun V kk => by
          have nb := ((unhide HS).dk kk).nm
          rw [nb.c k (by simpa [nmW] using hlt), ← hs0]
          simp [elAt, show k < nmW.length by simpa [nmW] using hlt])
        have Q0 : Hid (WhQ w C a len cap U none U) := hide ⟨Dk.start (unhide HS).dr (unhide HS).inn, fun P e => by cases e⟩
        have n0 : U.cell? ⟨gn, k, none⟩ = some (.string s) := (unhide NC) _ (unhide Q0).k
        have nA : ∀ o, (U.alloc o).cell? ⟨gn, k, none⟩ = some (.string s) := fun o => (unhide NC) _ ((unhide Q0).k.below (bel1 _))
        clear hs0
        go_wp2_with fail
        go_cut [6] from 19 to 29 (fun s6 wc => ∃ (P : Nat) (x : Int) (b : Bool), s6 = .pointer (some ⟨P, 0, none⟩) ∧ (0 ≤ x ∧ x < 3) ∧ WhR w C a len cap U P s (1 + x) none 0 0 b [] wc)
        case first =>
          go_region_law (first
            | ((fail_if_success have := D1); go_simp; go_wp2_with (go_at_call 14; refine (whBelow 3 _ (by first | exact unhide Q0 | exact (unhide Q0).below (bel0d 1) | exact (unhide Q0).alloc | exact (unhide Q0).alloc.below (bel0d 1)) (by omega)).mono ?_; rintro e u1 ⟨x, rfl, hx, Q1⟩; have D1 := hide Q1; have hwx : IntKind.i64.wrap (1 + x) = 1 + x := (by rw [IntKind.wrap_i64]; omega); have n1 : u1.cell? ⟨gn, k, none⟩ = some (.string s) := (unhide NC) _ Q1.k; have nB : ∀ o, (u1.alloc o).cell? ⟨gn, k, none⟩ = some (.string s) := (fun o => (unhide NC) _ (Q1.k.below (bel1 _))); (first | (obtain ⟨⟨y0, y1, y2, y3, y4⟩, z0, z1, z2, z3, z4⟩ := Q1.cells) | skip); clear Q1))
            | ((fail_if_success (fail_if_success have := D1)); (fail_if_success have := D2); go_simp; go_wp2_with (go_at_call 15; refine (whOnce 2 _ (by first | exact unhide D1 | exact (unhide D1).below (bel0d 1) | exact (unhide D1).alloc | exact (unhide D1).alloc.below (bel0d 1)) (by omega)).mono ?_; rintro e u2 ⟨b, rfl, Q2⟩; have D2 := hide Q2; have n2 : u2.cell? ⟨gn, k, none⟩ = some (.string s) := (unhide NC) _ Q2.k; have nD : ∀ o, (u2.alloc o).cell? ⟨gn, k, none⟩ = some (.string s) := (fun o => (unhide NC) _ (Q2.k.below (bel1 _))); (first | (obtain ⟨⟨y0, y1, y2, y3, y4⟩, z0, z1, z2, z3, z4⟩ := Q2.cells) | skip); clear Q2)))
          all_goals (
            go_wp2
            (try go_simp)
            go_meet
            case rel =>
              refine ⟨_, x, b, rfl, hx, ?_⟩
              first
                | with_reducible exact (unhide D2).endA
                | with_reducible exact (unhide D2).endB
                | with_reducible exact ((unhide D2).below (bel0d 1)).endB)
        case rest =>
          obtain ⟨P, x, b, rfl, hx, hr⟩ := hcut
          have HR := hide hr
          clear hr n0 nA Q0 NC
          go_wp2_with fail
          go_loopw [7] (fun t7 wr => ∃ (j m qc : Nat) (qa : Option Addr) (qs : List Int), t7 = .int .i64 (j : Int) ∧ j ≤ 10 ∧ m ≤ j ∧ Hid (QsI qs (j : Int)) ∧ Hid (WhR w C a len cap U P s (1 + x) qa m qc b qs wr)) (fun t7 _ => 10 - (intOf t7).toNat)
          case atStart => exact ⟨0, 0, 0, none, [], rfl, by omega, by omega, hide QsI.nil, HR⟩
          case round =>
            clear HR
            obtain ⟨j, m, qc, qa, qs, rfl, hj, hm, HQ, HR⟩ := hrel
            by_cases hj10 : j < 10
            · have j1 : (j : Int) < 10 := by omega
              go_wp2_with fail
              refine (drOnce 6 _ (unhide HR).k.d (by omega)).mono ?_
              rintro e wb ⟨on2, rfl, d, gr⟩
              have HR := hide ((unhide HR).call gr d)
              clear d gr
              cases on2
              · go_wp2_with fail
                go_roundw
                case rel => exact ⟨j + 1, m, qc, qa, qs, by go_num, by omega, by omega, hide (by have k := (unhide HQ).skip; rw [show ((j + 1 : Nat) : Int) = (j : Int) + 1 by omega]; exact k), HR⟩
                case measure => simp [intOf]; omega
              · have p2 : wb.cell? ⟨P, 2, none⟩ = some (.slice qa m qc) := (unhide HR).p.c 2 (by simp)
                have p2b : ∀ o, (wb.alloc o).cell? ⟨P, 2, none⟩ = some (.slice qa m qc) := fun o => ((unhide HR).p.alloc o).c 2 (by simp)
                go_wp2_with (at_builtin; go_loud (refine wpList_app_int rfl _ _ rfl (n := m) (j : Int) (unhide HR).o (unhide HR).l rfl rfl rfl (unhide HR).k.g.size (by omega) (by omega) ?_; intro g9 c9 w9 o9 gr9; have hp9 := (unhide HR).p.apart gr9 (fun e => (unhide HR).ne P e.symm rfl); have q9 : w9.cell? ⟨P, 2, none⟩ = some (.slice qa m qc) := hp9.c 2 (by simp); have f9 : w9.frozen? ⟨P, 2, none⟩ = false := hp9.f 2 (by simp); have R9 := hide ((unhide HR).push o9 gr9 ((unhide HR).neP o9 gr9)); clear hp9 o9 gr9))
                go_roundw
                case rel => exact ⟨j + 1, m + 1, c9, some ⟨g9, 0, none⟩, qs ++ [(j : Int)], by go_num, by omega, by omega, hide (by have k := (unhide HQ).push (by omega) (by omega); rw [show ((j + 1 : Nat) : Int) = (j : Int) + 1 by omega]; exact k), R9⟩
                case measure => simp [intOf]; omega
            · have j1 : ¬ (j : Int) < 10 := by omega
              obtain ⟨m', hm'⟩ : ∃ m', qs.length = m' := ⟨_, rfl⟩
              have hmm : m = m' := by rw [← hm', (unhide HR).l]
              rw [hmm] at HR
              have HSW := hide ((unhide HS).dk (unhide HR).k)
              have HL := hide hm'
              have e0 : wr.cell? ⟨P, 0, none⟩ = some (.string s) := (unhide HR).p.c 0 (by simp)
              have e1 : wr.cell? ⟨P, 1, none⟩ = some (.int .i64 (1 + x)) := (unhide HR).p.c 1 (by simp)
              have e2 : wr.cell? ⟨P, 2, none⟩ = some (.slice qa m' qc) := (unhide HR).p.c 2 (by simp)
              have e3 : wr.cell? ⟨P, 3, none⟩ = some (.bool b) := (unhide HR).p.c 3 (by simp)
              have e4 : wr.cell? ⟨P, 4, none⟩ = some (.string ⟨#[]⟩) := (unhide HR).p.c 4 (by simp)
              have hCw := (unhide HSW).dr.lt
              clear hm' hmm
              go_wp2_with (at_builtin; go_loud (refine wpList_app_elG (K := 5) (cells := whC) rfl _ _ 24 48 rfl Try.underlying24 infoWr rfl (by decide) (by decide) (⟨⟨s, 1 + x, qs, b, ⟨#[]⟩⟩, qa, qc⟩ : Wh) [.string s, .int .i64 (1 + x), .slice qa m' qc, .bool b, .string ⟨#[]⟩] rfl (fun q hq => by rw [← unhide HL]; rcases (by omega : q = 0 ∨ q = 1 ∨ q = 2 ∨ q = 3 ∨ q = 4) with rfl | rfl | rfl | rfl | rfl <;> rfl) (by simp [Value.oneCell']) (unhide HSW).o (unhide HSW).l rfl rfl rfl (by omega) (by omega) ?_; intro g9 c9 wz o9 gr9 hg9; have SZ := hide ((unhide HSW).push (x := ⟨⟨s, 1 + x, qs, b, ⟨#[]⟩⟩, qa, qc⟩) (by have k := (unhide HR).o.mono (base' := C + 1) (by have := (unhide HS).dr.lt; omega); rw [← unhide HL] at k; exact k) o9 gr9 hg9); clear o9 gr9 hg9))
              go_roundw
              case rel => exact ⟨k + 1, g9, n + 1, c9, _, rfl, by go_num, by omega, by omega, hide ((unhide HI).push hlt (unhide HSN).symm ⟨by show 1 ≤ 1 + x ∧ 1 + x ≤ 3; omega, (unhide HQ).1, (unhide HQ).2.1⟩ rfl), SZ⟩
              case measure => simp [intOf]; omega
      · go_wp2_with fail
        go_roundw
        case rel => exact ⟨k + 1, g, n, c, hs, rfl, by go_num, by omega, by omega, hide ((unhide HI).skip hlt), HS⟩
        case measure => simp [intOf]; omega
    · have i1 : ¬ (k : Int) < 7 := by omega
      have hk7 : k = 7 := by omega
      have HJ : Hid (WdJ hs) := hide (by have q := unhide HI; rw [hk7] at q; exact q.j)
      clear hk7 HI
      go_wp2_with fail
      go_loopw [8] (fun t8 wr => ∃ (i : Nat) (hs : List Wh), t8 = .int .i64 (i : Int) ∧ 1 ≤ i ∧ i ≤ 8 ∧ Hid (WdJ hs) ∧ Hid (WhS w C gn a len cap g n c hs wr)) (fun t8 _ => 8 - (intOf t8).toNat)
      case atStart => exact ⟨1, hs, rfl, by omega, by omega, HJ, HS⟩
      case round =>
        clear HS HJ
        obtain ⟨i, hs, rfl, hi1, hi8, HJ, HS⟩ := hrel
        by_cases hin : i < n
        · have j0 : (0 : Int) ≤ (i : Int) := by omega
          have j1 : (i : Int) < (n : Int) := by omega
          have j2 : (0 : Int) < (n : Int) := by omega
          go_wp2_with fail
          refine (drOnce 4 _ (unhide HS).dr (by omega)).mono ?_
          rintro e wb ⟨on, rfl, d, gr⟩
          have HS := hide ((unhide HS).step d gr)
          clear d gr
          have hl := (unhide HS).l
          obtain ⟨s0, hs0⟩ : ∃ s, (elAt hs 0).p.n = s := ⟨_, rfl⟩
          have e4 : wb.cell? ⟨g, 4, none⟩ = some (.string ⟨#[]⟩) := by
            have q := ((unhide HS).o.here hl 0 (by omega) 4 (by omega)).1
            have q : wb.cell? ⟨g, 0 * 5 + 4, none⟩ = some (.string (elAt hs 0).p.d) := q
            rw [(unhide HJ).d0 (by omega)] at q
            exact q
          have e0 : wb.cell? ⟨g, 0, none⟩ = some (.string s0) := by
            have q := ((unhide HS).o.here hl 0 (by omega) 0 (by omega)).1
            have q : wb.cell? ⟨g, 0 * 5 + 0, none⟩ = some (.string (elAt hs 0).p.n) := q
            rw [hs0] at q
            exact q
          have ei : wb.cell? ⟨g, i * 5 + 4, none⟩ = some (.string (elAt hs i).p.d) := ((unhide HS).o.here hl i hin 4 (by omega)).1
          have fi : wb.frozen? ⟨g, i * 5 + 4, none⟩ = false := ((unhide HS).o.here hl i hin 4 (by omega)).2
          have HL := hide hl
          have H0 := hide hs0
          clear hl hs0
          cases on
          · go_wp2_with fail
            go_roundw
            case rel => exact ⟨i + 1, hs, by go_num, by omega, by omega, HJ, HS⟩
            case measure => simp [intOf]; omega
          · go_wp2_with fail
            go_roundw
            case rel => exact ⟨i + 1, _, by go_num, by omega, by omega, hide ((unhide HJ).set (i := i) hi1 (by rw [unhide HL]; exact hin)), hide (by have k := (unhide HS).set hin s0; rw [← unhide H0] at k; rw [← unhide H0]; exact k)⟩
            case measure => simp [intOf]; omega
        · have j1 : ¬ (i : Int) < (n : Int) := by omega
          go_wp2_with fail
          go_ret
          exact ⟨g, gn, n, c, hs, rfl, unhide HJ, unhide HS⟩

end Go.Proofs.Ytfehfocfoegbdaa

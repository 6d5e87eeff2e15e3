/-
  An update, in the model.
-/
import Derived.Test.YtbaocifpifbldawGreatSpec1
import Derived.Test.YtbaocifpifbldawGreatApps1
import Derived.Test.YtbaocifpifbldawGreatKp1
import Derived.Test.YtbaocifpifbldawGreatKp0
import Derived.Deep.RegionLaw
import Derived.Deep.Cut
import Derived.Deep.CutRange
namespace Go.Proofs.YtbaocifpifbldawGreat
open Go.RowKit

theorem l14Has_is {c : Bool} (ad : Option Addr) (len cap : Nat) (ts : List ByteArray) (s : ByteArray) (w : World) (hr : RowE 1 stC w ad len ts) (hl : len ≤ 1048576) (hc : hasB ts s = c) :
    Calls Tryz.prog 25 #[.slice ad len cap, .string s] w fun e w' => e = .returned (.bool c) ∧ w' = w := by subst hc; exact l14Has_any ad len cap ts s w hr hl
theorem kp_start {w3 w4 : World} {aA : Option Addr} {n cA : Nat} {ts : List ByteArray} (o : OwnE 1 stC w4 w3.heap.size 9 (.slice aA n cA) ts) (b : Below w3.heap.size w3 w4) : Kp w3 (w4.alloc (Obj.cells #[.slice aA n cA, .slice none 0 0, .slice none 0 0] 29)) w4.heap.size [.slice aA n cA, .slice none 0 0, .slice none 0 0] [(.slice none 0 0, []), (.slice aA n cA, ts)] := by
  refine ⟨Blk.new _ _, fun p hp => ?_, ?_, b.alloc b.size _, b.size⟩
  · simp only [List.mem_cons, List.not_mem_nil, or_false] at hp
    rcases hp with rfl | rfl
    · exact ⟨ownE_nil _ _ _, by simp [Value.ownBlock]⟩
    · refine ⟨o.below (bel1 _), fun e => ?_⟩
      have := (o.lies _ e).2
      omega
  · refine List.pairwise_cons.2 ⟨fun q hq g hg => by simp [Value.ownBlock] at hg, List.pairwise_cons.2 ⟨fun q hq => by simp at hq, List.Pairwise.nil⟩⟩
set_option maxRecDepth 20000 in
set_option maxHeartbeats 8000000 in
theorem specUpdate14_on (ad : Option Addr) (len cap : Nat) (rs : List Wr) (a1 a2 a3 : Option Addr) (l1 c1 l2 c2 l3 c3 : Nat) (z1 z2 z3 : List ByteArray) (ph : Int) (bd : Option Addr) (len2 cap2 : Nat) (ts : List ByteArray) (w : World) (hr : RowW w ad len rs) (hl : len ≤ 1048576) (hp : PnIn w a1 a2 a3 l1 l2 l3 z1 z2 z3) (h1 : l1 ≤ 1048576) (h2 : l2 ≤ 1048576) (h3 : l3 ≤ 1048576) (ht : RowE 1 stC w bd len2 ts) (hl2 : len2 ≤ 1048576)
    (q1 : wrB rs = true) (q2 : pnlB rs z1 z2 z3 = true) (q3 : nmB rs ts = true) (q4 : inB ph 0 9 = true) :
    Calls Tryz.prog 7 #[.slice ad len cap, .agg #[.slice a1 l1 c1, .slice a2 l2 c2, .slice a3 l3 c3], .int .i64 ph, .slice bd len2 cap2] w fun e w' => ∃ p1 q1 p2 q2 p3 q3 p4 q4, e = .returned (.tuple #[.agg #[.slice p1 ts.length q1, .slice p2 (ltK rs ts z2 (tdR rs ts z2 (tkK ts z3 z3.length) ph 3) rs.length).length q2, .slice p3 (tkK ts z3 z3.length).length q3], .slice p4 (tdR rs ts z2 (tkK ts z3 z3.length) ph 3).length q4, .bool true]) ∧ PnOwn w' w.heap.size p1 p2 p3 ts.length q1 (ltK rs ts z2 (tdR rs ts z2 (tkK ts z3 z3.length) ph 3) rs.length).length q2 (tkK ts z3 z3.length).length q3 ts (ltK rs ts z2 (tdR rs ts z2 (tkK ts z3 z3.length) ph 3) rs.length) (tkK ts z3 z3.length) ∧ OwnE 1 stC w' w.heap.size 9 (.slice p4 (tdR rs ts z2 (tkK ts z3 z3.length) ph 3).length q4) (tdR rs ts z2 (tkK ts z3 z3.length) ph 3) ∧ PnFar p1 p2 p3 p4 ∧ Below w.heap.size w w' := by
  have HR := hide hr
  have HP := hide hp
  have HT := hide ht
  have hz := hr.len_eq
  have hzt := ht.len_eq
  have hz3 := hp.r3.len_eq
  have hr30 := (wrB_facts q1).2
  have ht30 := nm_len q1 q3
  have q2' : (nmB rs z1 && nmB rs z2 && nmB rs z3) = true := q2
  simp only [Bool.and_eq_true] at q2'
  have h3n := nm_len q1 q2'.2
  have h2n := nm_len q1 q2'.1.2
  have e2 := hp.r2.len_eq
  have HO3 := hide hp.r3.open1
  have HO := hide hr.open_
  have HQ1 := hide q1
  clear hr hp ht q2'
  subst hz
  subst hzt
  subst hz3
  subst e2
  go_enter Tryz.func7, Tryz.ntmps7
  go_wp2_with fail
  obtain ⟨W0, hW0⟩ : ∃ W, W = (w.alloc (Obj.cells #[.slice a1 l1 c1, .slice a2 z2.length c2, .slice a3 z3.length c3] 29)).alloc (Obj.cells #[.slice none 0 0, .slice none 0 0, .slice none 0 0] 29) := ⟨_, rfl⟩
  have HB : Hid (Below w.heap.size w W0) := hide (by rw [hW0]; exact bel2 _ _)
  have KA : Hid (Blk W0 w.heap.size [.slice a1 l1 c1, .slice a2 z2.length c2, .slice a3 z3.length c3]) := hide (by rw [hW0]; exact blkAt2_0)
  have KR : Hid (Blk W0 (w.heap.size + 1) [.slice none 0 0, .slice none 0 0, .slice none 0 0]) := hide (by rw [hW0]; exact blkAt2_1)
  rw [← hW0]
  clear hW0
  refine (specRulesOk_is _ _ _ rs _ ((unhide HR).below (unhide HB)) hl q1).mono ?_
  rintro e w1 ⟨rfl, b⟩
  have HB := hide ((unhide HB).trans (b.mono (unhide HB).size))
  have KA := hide ((unhide KA).below b)
  have KR := hide ((unhide KR).below b)
  have v0 := (unhide KA).c 0 (by simp)
  have v1 := (unhide KA).c 1 (by simp)
  have v2 := (unhide KA).c 2 (by simp)
  simp only [List.getElem_cons_zero, List.getElem_cons_succ] at v0 v1 v2
  clear b
  go_wp2_with fail
  refine (l14Panel_any ad _ cap rs a1 a2 a3 l1 c1 _ c2 _ c3 z1 z2 z3 _ ((unhide HR).below (unhide HB)) hl ((unhide HP).below (unhide HB)) h1 h2 h3).mono ?_
  rintro e w2 ⟨rfl, b⟩
  rw [q2]
  have HB := hide ((unhide HB).trans (b.mono (unhide HB).size))
  have KA := hide ((unhide KA).below b)
  have KR := hide ((unhide KR).below b)
  clear b v0 v1 v2
  go_wp2_with fail
  refine (l14Names_any ad _ cap rs _ _ _ ts _ ((unhide HR).below (unhide HB)) hl ((unhide HT).below (unhide HB)) hl2).mono ?_
  rintro e w3 ⟨rfl, b⟩
  rw [q3]
  have HB := hide ((unhide HB).trans (b.mono (unhide HB).size))
  have KA := hide ((unhide KA).below b)
  have KR := hide ((unhide KR).below b)
  clear b
  have TT := hide (((unhide HT).below (unhide HB)).alloc (Obj.cells #[] 9))
  have oo := hide (stE_none (w := w3) (Nat.le_refl _))
  go_wp2_with (first
    | (go_at_call 24; refine (l1In_is _ _ _ _ q4).mono ?_; rintro e w' ⟨rfl, hw⟩; subst w')
    | (at_builtin; refine wpList_app_st rfl _ _ rfl (unhide oo) rfl rfl bd ts.length cap2 ts rfl (unhide TT) (by omega) (by simp) ?_; intro gA cA w4 oA grA hA; rw [Nat.zero_add] at oA ⊢; have oA2 : OwnE 1 stC w4 w3.heap.size 9 (.slice (some ⟨gA, 0, none⟩) ts.length cA) ts := oA; obtain ⟨aA, hAA⟩ : ∃ a, a = some (Addr.mk gA 0 none) := ⟨_, rfl⟩; rw [← hAA] at oA2 ⊢; have bA : Below w3.heap.size w3 w4 := (bel1 _).grown grA (by simp) (fun q hq => by have e : w3.heap.size = q := Option.some.inj hq; omega); have K0 : Hid (Kp w3 (w4.alloc (Obj.cells #[.slice aA ts.length cA, .slice none 0 0, .slice none 0 0] 29)) w4.heap.size [.slice aA ts.length cA, .slice none 0 0, .slice none 0 0] [(.slice none 0 0, []), (.slice aA ts.length cA, ts)]) := hide (kp_start oA2 bA); clear oA oA2 grA hA bA hAA))
  obtain ⟨W5, hW5⟩ : ∃ W, W = w4.alloc (Obj.cells #[.slice aA ts.length cA, .slice none 0 0, .slice none 0 0] 29) := ⟨_, rfl⟩
  obtain ⟨O, hO⟩ : ∃ O, w4.heap.size = O := ⟨_, rfl⟩
  rw [← hW5] at K0 ⊢
  rw [hO] at K0 ⊢
  clear hW5 hO
  have HL1 : Hid (∀ wr, Below w3.heap.size w3 wr → Below w.heap.size w wr) := hide (fun wr b => (unhide HB).trans (b.mono (unhide HB).size))
  go_loopw [12] (fun s12 wr => ∃ (i n3 : Nat) (a3' : Option Addr) (cp : Nat), i ≤ z3.length ∧ n3 ≤ i ∧ s12 = .int .i64 (i : Int) ∧ Hid (Kp w3 wr O [.slice aA ts.length cA, .slice none 0 0, .slice a3' n3 cp] [(.slice a3' n3 cp, tkK ts z3 i), (.slice aA ts.length cA, ts)])) (fun s12 _ => z3.length - (intOf s12).toNat)
  case atStart => exact ⟨0, 0, none, 0, Nat.zero_le _, Nat.le_refl _, rfl, K0⟩
  case round =>
    clear K0
    obtain ⟨i, n3, a3', cp3, hi, hn3, rfl, HK⟩ := hrel
    have u2 := ((unhide KA).below (unhide HK).bel).c 2 (by simp)
    simp only [List.getElem_cons_zero, List.getElem_cons_succ] at u2
    by_cases hlt : i < z3.length
    · rcases (unhide HO3) with ⟨h0, _⟩ | ⟨b3, off3, rfl, _, hc3⟩
      · omega
      have HBW := hide ((unhide HL1) _ (unhide HK).bel)
      have m0 : wr.cell? ⟨b3, off3 + i, none⟩ = some (.string (elAt z3 i)) := ((unhide HBW).cell (block_lt_of_cell (hc3 i hlt))).trans (hc3 i hlt)
      have k0 : (0 : Int) ≤ (i : Int) := by omega
      have k1 : (i : Int) < (z3.length : Int) := by omega
      have RT := hide ((unhide HT).below (unhide HBW))
      have HS : Hid (tkK ts z3 (i + 1) = if hasB ts (elAt z3 i) = true then tkK ts z3 i ++ [elAt z3 i] else tkK ts z3 i) := hide rfl
      obtain ⟨d, hd⟩ : ∃ d, elAt z3 i = d := ⟨_, rfl⟩
      rw [hd] at m0 HS
      clear hd hc3
      cases g : hasB ts d with
      | false =>
        rw [g, if_neg (by simp)] at HS
        go_wp2_with (go_at_call 25; refine (l14Has_is _ _ _ ts d _ (unhide RT) hl2 g).mono ?_; rintro e w' ⟨rfl, hw⟩; subst w')
        go_roundw
        case rel => exact ⟨i + 1, n3, a3', cp3, by omega, by omega, by go_num, by rw [unhide HS]; exact HK⟩
        case measure => simp [intOf]; omega
      | true =>
        rw [g, if_pos rfl] at HS
        go_wp2_with (go_at_call 25; refine (l14Has_is _ _ _ ts d _ (unhide RT) hl2 g).mono ?_; rintro e w' ⟨rfl, hw⟩; subst w')
        have HN3 : Hid ((tkK ts z3 i).length = n3) := hide (by obtain ⟨_, _, e, _⟩ := ((unhide HK).own _ (List.mem_cons_self ..)).1.slice; simp only [Value.slice.injEq] at e; omega)
        have o2 := (unhide HK).blk.c 2 (by simp)
        have o2a := ((unhide HK).below (bel1 (Obj.cells #[.string d] 9))).blk.c 2 (by simp)
        have u2a := ((unhide KA).below ((unhide HK).below (bel1 (Obj.cells #[.string d] 9))).bel).c 2 (by simp)
        simp only [List.getElem_cons_zero, List.getElem_cons_succ] at o2 o2a u2a
        go_region_law (first
          | (refine step_app_elG (K := 1) (cells := stC) rfl (.tmp 61) (.tmp 67) 23 9 rfl Tryz.underlying23 info_txt rfl (by decide) (by decide) d [.string d] rfl (fun q hq => by match q, hq with | 0, _ => rfl) (fun u hu => by simp at hu; rcases hu with rfl; rfl) ((unhide HK).own _ (List.mem_cons_self ..)).1 (unhide HN3) (by simp [Act.eval]) rfl (by simp [Act.eval]) (unhide HK).bel.size (by omega) ?_; intro g9 c9 w9 o9 gr9 ha9; have K9 := hide ((unhide HK).app o9 gr9 ha9); have d2 := (unhide K9).blk.c 2 (by simp); have y2 := (unhide K9).blk.f 2 (by simp); simp only [List.getElem_cons_zero, List.getElem_cons_succ] at d2)
          | (refine step_app_elD (K := 1) (cells := stC) rfl (.tmp 61) (.tmp 67) 23 9 rfl Tryz.underlying23 info_txt rfl (by decide) (by decide) d [.string d] rfl (fun q hq => by match q, hq with | 0, _ => rfl) (fun u hu => by simp at hu; rcases hu with rfl; rfl) ((unhide HK).own _ (List.mem_cons_self ..)).1 (unhide HN3) (by simp [Act.eval]) rfl (by simp [Act.eval]) (unhide HK).bel.size (by omega) ?_; intro g9 c9 w9 o9 gr9 ha9; have K9 := hide ((unhide HK).app o9 gr9 ha9); have d2 := (unhide K9).blk.c 2 (by simp); have y2 := (unhide K9).blk.f 2 (by simp); simp only [List.getElem_cons_zero, List.getElem_cons_succ] at d2))
        all_goals
          go_wp2_with fail
          go_roundw
          case rel =>
            first
              | exact ⟨i + 1, n3 + 1, some ⟨g9, 0, none⟩, c9, by omega, by omega, by go_num, by rw [unhide HS]; exact hide ((unhide K9).put 2 (by simp) _)⟩
              | exact ⟨i + 1, n3 + 1, some ⟨g9, 0, none⟩, c9, by omega, by omega, by go_num, by rw [unhide HS]; exact hide (((unhide K9).put 2 (by simp) _).below (bel0d 1))⟩
              | exact ⟨i + 1, n3 + 1, some ⟨g9, 0, none⟩, c9, by omega, by omega, by go_num, by rw [unhide HS]; exact hide (((unhide K9).below (bel0d 1)).put 2 (by simp) _)⟩
          case measure => simp [intOf]; omega
    · have k1 : ¬ (i : Int) < (z3.length : Int) := by omega
      have hie : i = z3.length := by omega
      rw [hie] at HK
      have HI := hide hie
      clear hie
      go_wp2_with fail
      obtain ⟨tk, htk⟩ : ∃ tk, tkK ts z3 z3.length = tk := ⟨_, rfl⟩
      rw [htk] at HK
      have HTK := hide htk
      have HN3 : Hid (tk.length = n3) := hide (by obtain ⟨_, _, e, _⟩ := ((unhide HK).own _ (List.mem_cons_self ..)).1.slice; simp only [Value.slice.injEq] at e; omega)
      have K1 : Hid (Kp w3 (wr.alloc (Obj.cells #[] 9)) O [.slice aA ts.length cA, .slice none 0 0, .slice a3' n3 cp3] [(.slice (some ⟨wr.heap.size, 0, none⟩) 0 0, []), (.slice a3' n3 cp3, tk), (.slice aA ts.length cA, ts)]) := hide (((unhide HK).below (bel1 _)).new ((stE_none (w := wr) (Nat.le_refl _)).mono (unhide HK).bel.size) (by have := (unhide HK).blk.lt; simp [Value.ownBlock]; omega) (fun p hp g hg e => by have a : wr.heap.size = g := Option.some.inj hg; have b := (((unhide HK).own p hp).1.lies g e).2; omega))
      obtain ⟨W7, hW7⟩ : ∃ W, W = wr.alloc (Obj.cells #[] 9) := ⟨_, rfl⟩
      obtain ⟨gt, hgt⟩ : ∃ g, wr.heap.size = g := ⟨_, rfl⟩
      rw [← hW7] at K1 ⊢
      rw [hgt] at K1 ⊢
      have hn330 : n3 ≤ 30 := by omega
      clear hW7 hgt HK htk u2 hlt hn3 hi k1
      go_loopw [13, 14] (fun s13 s14 wr => ∃ (m g n cp : Nat), m ≤ 3 ∧ n ≤ m * 30 ∧ s13 = .slice (some ⟨g, 0, none⟩) n cp ∧ s14 = .int .i64 (3 - (m : Int)) ∧ Hid (Kp w3 wr O [.slice aA ts.length cA, .slice none 0 0, .slice a3' n3 cp3] [(.slice (some ⟨g, 0, none⟩) n cp, tdR rs ts z2 tk ph m), (.slice a3' n3 cp3, tk), (.slice aA ts.length cA, ts)])) (fun _ s14 _ => (intOf s14).toNat)
      case atStart => exact ⟨0, gt, 0, 0, by omega, by omega, rfl, rfl, K1⟩
      case round =>
        clear K1
        obtain ⟨m, g, n, cp, hm, hn90, rfl, rfl, HK⟩ := hrel
        by_cases hmlt : m < 3
        · have hr1 : (1 : Int) ≤ 3 - (m : Int) := by omega
          obtain ⟨rk, hrk⟩ : ∃ r, 3 - (m : Int) = r := ⟨_, rfl⟩
          have HRK := hide hrk
          have brk : 1 ≤ rk ∧ rk ≤ 3 := by omega
          rw [hrk]
          rw [hrk] at hr1
          obtain ⟨acc, hacc⟩ : ∃ acc, tdR rs ts z2 tk ph m = acc := ⟨_, rfl⟩
          have HACC : Hid (acc.length ≤ m * rs.length) := hide (by rw [← hacc]; exact tdR_len _ _ _ _ _ _)
          have HTD : Hid (tdR rs ts z2 tk ph (m + 1) = tdIn rs ts z2 tk ph rk acc rs.length) := hide (by rw [← hrk, ← hacc]; rfl)
          rw [hacc] at HK
          clear hrk hacc
          go_wp2_with fail
          go_loopw [13, 15] (fun s13 s15 wr => ∃ (i g n cp : Nat), i ≤ rs.length ∧ n ≤ m * 30 + i ∧ s13 = .slice (some ⟨g, 0, none⟩) n cp ∧ s15 = .int .i64 (i : Int) ∧ Hid (Kp w3 wr O [.slice aA ts.length cA, .slice none 0 0, .slice a3' n3 cp3] [(.slice (some ⟨g, 0, none⟩) n cp, tdIn rs ts z2 tk ph rk acc i), (.slice a3' n3 cp3, tk), (.slice aA ts.length cA, ts)])) (fun _ s15 _ => rs.length - (intOf s15).toNat)
          case atStart => exact ⟨0, g, n, cp, by omega, by omega, rfl, rfl, HK⟩
          case round =>
            clear HK
            obtain ⟨i, g, n, cp, hi, hni, rfl, rfl, HK⟩ := hrel
            by_cases hlt : i < rs.length
            · rcases (unhide HO) with ⟨h0, _⟩ | ⟨bb, off, rfl, _, hc⟩
              · omega
              obtain ⟨qa, ql, qc, hat, hrow, _, _⟩ := hc i hlt
              have HBW := hide ((unhide HL1) _ (unhide HK).bel)
              have hat := hat.below (unhide HBW)
              have hrow := hrow.below (unhide HBW)
              have m0 := hat.c0
              have m1 := hat.c1
              have m2 := hat.c2
              have m3 := hat.c3
              have m4 := hat.c4
              have hql := hrow.len_eq
              have hq10 := wrQ_len (unhide HQ1) hlt
              have k0 : (0 : Int) ≤ (i : Int) := by omega
              have k1 : (i : Int) < (rs.length : Int) := by omega
              have HC : Hid (∀ v, Below wr.heap.size wr v → Calls Tryz.prog 26 #[.agg #[.string (elAt rs i).n, .int .i64 (elAt rs i).r, .slice qa ql qc, .bool (elAt rs i).l, .string (elAt rs i).d], .int .i64 ph] v fun e w' => e = .returned (.bool (qtB (elAt rs i).q ph)) ∧ Below v.heap.size v w') := hide (fun v b => l14Quiet_any qa ql qc (elAt rs i) ph v (hrow.below b) (by omega))
              have HS : Hid (tdIn rs ts z2 tk ph rk acc (i + 1) = if (((elAt rs i).r == rk) && (hasB ts (elAt rs i).n || hasB z2 (elAt rs i).n) && !hasB tk (elAt rs i).n && !qtB (elAt rs i).q ph && (sEq (elAt rs i).d ⟨#[]⟩ || !hasB ts (elAt rs i).d)) = true then tdIn rs ts z2 tk ph rk acc i ++ [(elAt rs i).n] else tdIn rs ts z2 tk ph rk acc i) := hide rfl
              obtain ⟨p, hp⟩ : ∃ p, elAt rs i = p := ⟨_, rfl⟩
              rw [hp] at m0 m1 m3 m4 HC HS
              clear hc hat hrow hql hq10 hp
              have HN : Hid ((tdIn rs ts z2 tk ph rk acc i).length = n) := hide (by obtain ⟨_, _, e, _⟩ := ((unhide HK).own _ (List.mem_cons_self ..)).1.slice; simp only [Value.slice.injEq] at e; omega)
              obtain ⟨W8, hW8⟩ : ∃ W, W = wr.alloc (Obj.cells #[.string p.n, .int .i64 p.r, .slice qa ql qc, .bool p.l, .string p.d] 51) := ⟨_, rfl⟩
              have B8 : Hid (Below wr.heap.size wr W8) := hide (by rw [hW8]; exact bel1 _)
              have R8 : Hid (Blk W8 wr.heap.size [.string p.n, .int .i64 p.r, .slice qa ql qc, .bool p.l, .string p.d]) := hide (by rw [hW8]; exact Blk.new _ _)
              have e0 : (⟨#[]⟩ : ByteArray).toList = [] := by simp
              have K8 := hide ((unhide HK).below (unhide B8))
              have T8 := hide ((unhide HT).below ((unhide HL1) _ (unhide K8).bel))
              have P8 := hide (((unhide HP).below ((unhide HL1) _ (unhide K8).bel)).r2)
              have V8 := hide ((((unhide K8).own (.slice a3' n3 cp3, tk) (by simp)).1).row)
              have v0 := (unhide R8).c 0 (by simp)
              have v1 := (unhide R8).c 1 (by simp)
              have v2 := (unhide R8).c 2 (by simp)
              have v3 := (unhide R8).c 3 (by simp)
              have v4 := (unhide R8).c 4 (by simp)
              have o2 := (unhide K8).blk.c 2 (by simp)
              have x1 := ((unhide KA).below (unhide K8).bel).c 1 (by simp)
              simp only [List.getElem_cons_zero, List.getElem_cons_succ] at v0 v1 v2 v3 v4 o2 x1
              have hn30 : n ≤ 90 := by omega
              go_wp2_with fail
              rw [← hW8]
              clear hW8
              refine (l14Has_any _ _ _ ts p.n _ (unhide T8) hl2).mono ?_
              rintro e w' ⟨rfl, hw⟩
              subst w'
              cases g1 : hasB ts p.n with
              | true =>
                cases g3 : (p.r == rk) with
                | true =>
                  cases g4 : hasB tk p.n with
                  | true =>
                    have HS3 : Hid (tdIn rs ts z2 tk ph rk acc (i + 1) = tdIn rs ts z2 tk ph rk acc i) := hide (by have h := unhide HS; rw [g1, g3, g4] at h; exact h)
                    go_wp2_with (first | (go_at_call_of 25 (Value.slice a3' n3 cp3); refine (l14Has_is _ _ _ tk p.n _ (unhide V8) (by omega) g4).mono ?_; rintro e w' ⟨rfl, hw⟩; subst w'))
                    go_roundw
                    case rel => exact ⟨i + 1, _, _, _, by omega, by omega, rfl, by go_num, by rw [unhide HS3]; exact K8⟩
                    case measure => simp [intOf]; omega
                  | false =>
                    cases g5 : qtB p.q ph with
                    | true =>
                      have HS3 : Hid (tdIn rs ts z2 tk ph rk acc (i + 1) = tdIn rs ts z2 tk ph rk acc i) := hide (by have h := unhide HS; rw [g1, g3, g4, g5] at h; exact h)
                      go_wp2_with (first | (go_at_call_of 25 (Value.slice a3' n3 cp3); refine (l14Has_is _ _ _ tk p.n _ (unhide V8) (by omega) g4).mono ?_; rintro e w' ⟨rfl, hw⟩; subst w') | (go_at_call 26; refine ((unhide HC) _ (unhide B8)).mono ?_; rintro e W9 ⟨rfl, b9⟩; rw [g5]; have K9 := hide ((unhide K8).below b9); have T9 := hide ((unhide T8).below b9); have R9 := hide ((unhide R8).below b9); have y0 := (unhide R9).c 0 (by simp); have y4 := (unhide R9).c 4 (by simp); simp only [List.getElem_cons_zero, List.getElem_cons_succ] at y0 y4; clear b9))
                      go_roundw
                      case rel => exact ⟨i + 1, _, _, _, by omega, by omega, rfl, by go_num, by rw [unhide HS3]; exact K9⟩
                      case measure => simp [intOf]; omega
                    | false =>
                      cases g6 : (p.d.toList == []) with
                      | true =>
                        have gs : sEq p.d ⟨#[]⟩ = true := by unfold sEq; rw [e0]; exact g6
                        have HS3 : Hid (tdIn rs ts z2 tk ph rk acc (i + 1) = tdIn rs ts z2 tk ph rk acc i ++ [p.n]) := hide (by have h := unhide HS; rw [g1, g3, g4, g5, gs] at h; exact h)
                        go_wp2_with (first | (go_at_call_of 25 (Value.slice a3' n3 cp3); refine (l14Has_is _ _ _ tk p.n _ (unhide V8) (by omega) g4).mono ?_; rintro e w' ⟨rfl, hw⟩; subst w') | (go_at_call 26; refine ((unhide HC) _ (unhide B8)).mono ?_; rintro e W9 ⟨rfl, b9⟩; rw [g5]; have K9 := hide ((unhide K8).below b9); have T9 := hide ((unhide T8).below b9); have R9 := hide ((unhide R8).below b9); have y0 := (unhide R9).c 0 (by simp); have y4 := (unhide R9).c 4 (by simp); simp only [List.getElem_cons_zero, List.getElem_cons_succ] at y0 y4; clear b9) | (at_builtin; (refine wpList_app_elG (K := 1) (cells := stC) rfl _ _ 23 9 rfl Tryz.underlying23 info_txt rfl (by decide) (by decide) p.n [.string p.n] rfl (fun q hq => by match q, hq with | 0, _ => rfl) (fun u hu => by simp at hu; rcases hu with rfl; rfl) ((unhide K9).own _ (List.mem_cons_self ..)).1 (unhide HN) rfl (by simp) rfl (unhide K9).bel.size (by omega) ?_; intro g' c' w9 o9 gr9 ha9; have KK := hide ((unhide K9).app o9 gr9 ha9); clear o9 gr9 ha9)))
                        go_roundw
                        case rel => exact ⟨i + 1, _, _, _, by omega, by omega, rfl, by go_num, by rw [unhide HS3]; exact KK⟩
                        case measure => simp [intOf]; omega
                      | false =>
                        have gs : sEq p.d ⟨#[]⟩ = false := by unfold sEq; rw [e0]; exact g6
                        cases g7 : hasB ts p.d with
                        | true =>
                          have HS3 : Hid (tdIn rs ts z2 tk ph rk acc (i + 1) = tdIn rs ts z2 tk ph rk acc i) := hide (by have h := unhide HS; rw [g1, g3, g4, g5, gs, g7] at h; exact h)
                          go_wp2_with (first | (go_at_call_of 25 (Value.slice a3' n3 cp3); refine (l14Has_is _ _ _ tk p.n _ (unhide V8) (by omega) g4).mono ?_; rintro e w' ⟨rfl, hw⟩; subst w') | (go_at_call 26; refine ((unhide HC) _ (unhide B8)).mono ?_; rintro e W9 ⟨rfl, b9⟩; rw [g5]; have K9 := hide ((unhide K8).below b9); have T9 := hide ((unhide T8).below b9); have R9 := hide ((unhide R8).below b9); have y0 := (unhide R9).c 0 (by simp); have y4 := (unhide R9).c 4 (by simp); simp only [List.getElem_cons_zero, List.getElem_cons_succ] at y0 y4; clear b9) | (go_at_call_of 25 (Value.slice bd ts.length cap2); refine (l14Has_is _ _ _ ts p.d _ (unhide T9) hl2 g7).mono ?_; rintro e w' ⟨rfl, hw⟩; subst w'))
                          go_roundw
                          case rel => exact ⟨i + 1, _, _, _, by omega, by omega, rfl, by go_num, by rw [unhide HS3]; exact K9⟩
                          case measure => simp [intOf]; omega
                        | false =>
                          have HS3 : Hid (tdIn rs ts z2 tk ph rk acc (i + 1) = tdIn rs ts z2 tk ph rk acc i ++ [p.n]) := hide (by have h := unhide HS; rw [g1, g3, g4, g5, gs, g7] at h; exact h)
                          go_wp2_with (first | (go_at_call_of 25 (Value.slice a3' n3 cp3); refine (l14Has_is _ _ _ tk p.n _ (unhide V8) (by omega) g4).mono ?_; rintro e w' ⟨rfl, hw⟩; subst w') | (go_at_call 26; refine ((unhide HC) _ (unhide B8)).mono ?_; rintro e W9 ⟨rfl, b9⟩; rw [g5]; have K9 := hide ((unhide K8).below b9); have T9 := hide ((unhide T8).below b9); have R9 := hide ((unhide R8).below b9); have y0 := (unhide R9).c 0 (by simp); have y4 := (unhide R9).c 4 (by simp); simp only [List.getElem_cons_zero, List.getElem_cons_succ] at y0 y4; clear b9) | (go_at_call_of 25 (Value.slice bd ts.length cap2); refine (l14Has_is _ _ _ ts p.d _ (unhide T9) hl2 g7).mono ?_; rintro e w' ⟨rfl, hw⟩; subst w') | (at_builtin; (refine wpList_app_elG (K := 1) (cells := stC) rfl _ _ 23 9 rfl Tryz.underlying23 info_txt rfl (by decide) (by decide) p.n [.string p.n] rfl (fun q hq => by match q, hq with | 0, _ => rfl) (fun u hu => by simp at hu; rcases hu with rfl; rfl) ((unhide K9).own _ (List.mem_cons_self ..)).1 (unhide HN) rfl (by simp) rfl (unhide K9).bel.size (by omega) ?_; intro g' c' w9 o9 gr9 ha9; have KK := hide ((unhide K9).app o9 gr9 ha9); clear o9 gr9 ha9)))
                          go_roundw
                          case rel => exact ⟨i + 1, _, _, _, by omega, by omega, rfl, by go_num, by rw [unhide HS3]; exact KK⟩
                          case measure => simp [intOf]; omega
                | false =>
                  have HS3 : Hid (tdIn rs ts z2 tk ph rk acc (i + 1) = tdIn rs ts z2 tk ph rk acc i) := hide (by have h := unhide HS; rw [g1, g3] at h; exact h)
                  go_wp2_with fail
                  go_roundw
                  case rel => exact ⟨i + 1, _, _, _, by omega, by omega, rfl, by go_num, by rw [unhide HS3]; exact K8⟩
                  case measure => simp [intOf]; omega
              | false =>
                cases g2 : hasB z2 p.n with
                | true =>
                  cases g3 : (p.r == rk) with
                  | true =>
                    cases g4 : hasB tk p.n with
                    | true =>
                      have HS3 : Hid (tdIn rs ts z2 tk ph rk acc (i + 1) = tdIn rs ts z2 tk ph rk acc i) := hide (by have h := unhide HS; rw [g1, g2, g3, g4] at h; exact h)
                      go_wp2_with (first | (go_at_call_of 25 (Value.slice a2 z2.length c2); refine (l14Has_is _ _ _ z2 p.n _ (unhide P8) h2 g2).mono ?_; rintro e w' ⟨rfl, hw⟩; subst w') | (go_at_call_of 25 (Value.slice a3' n3 cp3); refine (l14Has_is _ _ _ tk p.n _ (unhide V8) (by omega) g4).mono ?_; rintro e w' ⟨rfl, hw⟩; subst w'))
                      go_roundw
                      case rel => exact ⟨i + 1, _, _, _, by omega, by omega, rfl, by go_num, by rw [unhide HS3]; exact K8⟩
                      case measure => simp [intOf]; omega
                    | false =>
                      cases g5 : qtB p.q ph with
                      | true =>
                        have HS3 : Hid (tdIn rs ts z2 tk ph rk acc (i + 1) = tdIn rs ts z2 tk ph rk acc i) := hide (by have h := unhide HS; rw [g1, g2, g3, g4, g5] at h; exact h)
                        go_wp2_with (first | (go_at_call_of 25 (Value.slice a2 z2.length c2); refine (l14Has_is _ _ _ z2 p.n _ (unhide P8) h2 g2).mono ?_; rintro e w' ⟨rfl, hw⟩; subst w') | (go_at_call_of 25 (Value.slice a3' n3 cp3); refine (l14Has_is _ _ _ tk p.n _ (unhide V8) (by omega) g4).mono ?_; rintro e w' ⟨rfl, hw⟩; subst w') | (go_at_call 26; refine ((unhide HC) _ (unhide B8)).mono ?_; rintro e W9 ⟨rfl, b9⟩; rw [g5]; have K9 := hide ((unhide K8).below b9); have T9 := hide ((unhide T8).below b9); have R9 := hide ((unhide R8).below b9); have y0 := (unhide R9).c 0 (by simp); have y4 := (unhide R9).c 4 (by simp); simp only [List.getElem_cons_zero, List.getElem_cons_succ] at y0 y4; clear b9))
                        go_roundw
                        case rel => exact ⟨i + 1, _, _, _, by omega, by omega, rfl, by go_num, by rw [unhide HS3]; exact K9⟩
                        case measure => simp [intOf]; omega
                      | false =>
                        cases g6 : (p.d.toList == []) with
                        | true =>
                          have gs : sEq p.d ⟨#[]⟩ = true := by unfold sEq; rw [e0]; exact g6
                          have HS3 : Hid (tdIn rs ts z2 tk ph rk acc (i + 1) = tdIn rs ts z2 tk ph rk acc i ++ [p.n]) := hide (by have h := unhide HS; rw [g1, g2, g3, g4, g5, gs] at h; exact h)
                          go_wp2_with (first | (go_at_call_of 25 (Value.slice a2 z2.length c2); refine (l14Has_is _ _ _ z2 p.n _ (unhide P8) h2 g2).mono ?_; rintro e w' ⟨rfl, hw⟩; subst w') | (go_at_call_of 25 (Value.slice a3' n3 cp3); refine (l14Has_is _ _ _ tk p.n _ (unhide V8) (by omega) g4).mono ?_; rintro e w' ⟨rfl, hw⟩; subst w') | (go_at_call 26; refine ((unhide HC) _ (unhide B8)).mono ?_; rintro e W9 ⟨rfl, b9⟩; rw [g5]; have K9 := hide ((unhide K8).below b9); have T9 := hide ((unhide T8).below b9); have R9 := hide ((unhide R8).below b9); have y0 := (unhide R9).c 0 (by simp); have y4 := (unhide R9).c 4 (by simp); simp only [List.getElem_cons_zero, List.getElem_cons_succ] at y0 y4; clear b9) | (at_builtin; (refine wpList_app_elG (K := 1) (cells := stC) rfl _ _ 23 9 rfl Tryz.underlying23 info_txt rfl (by decide) (by decide) p.n [.string p.n] rfl (fun q hq => by match q, hq with | 0, _ => rfl) (fun u hu => by simp at hu; rcases hu with rfl; rfl) ((unhide K9).own _ (List.mem_cons_self ..)).1 (unhide HN) rfl (by simp) rfl (unhide K9).bel.size (by omega) ?_; intro g' c' w9 o9 gr9 ha9; have KK := hide ((unhide K9).app o9 gr9 ha9); clear o9 gr9 ha9)))
                          go_roundw
                          case rel => exact ⟨i + 1, _, _, _, by omega, by omega, rfl, by go_num, by rw [unhide HS3]; exact KK⟩
                          case measure => simp [intOf]; omega
                        | false =>
                          have gs : sEq p.d ⟨#[]⟩ = false := by unfold sEq; rw [e0]; exact g6
                          cases g7 : hasB ts p.d with
                          | true =>
                            have HS3 : Hid (tdIn rs ts z2 tk ph rk acc (i + 1) = tdIn rs ts z2 tk ph rk acc i) := hide (by have h := unhide HS; rw [g1, g2, g3, g4, g5, gs, g7] at h; exact h)
                            go_wp2_with (first | (go_at_call_of 25 (Value.slice a2 z2.length c2); refine (l14Has_is _ _ _ z2 p.n _ (unhide P8) h2 g2).mono ?_; rintro e w' ⟨rfl, hw⟩; subst w') | (go_at_call_of 25 (Value.slice a3' n3 cp3); refine (l14Has_is _ _ _ tk p.n _ (unhide V8) (by omega) g4).mono ?_; rintro e w' ⟨rfl, hw⟩; subst w') | (go_at_call 26; refine ((unhide HC) _ (unhide B8)).mono ?_; rintro e W9 ⟨rfl, b9⟩; rw [g5]; have K9 := hide ((unhide K8).below b9); have T9 := hide ((unhide T8).below b9); have R9 := hide ((unhide R8).below b9); have y0 := (unhide R9).c 0 (by simp); have y4 := (unhide R9).c 4 (by simp); simp only [List.getElem_cons_zero, List.getElem_cons_succ] at y0 y4; clear b9) | (go_at_call_of 25 (Value.slice bd ts.length cap2); refine (l14Has_is _ _ _ ts p.d _ (unhide T9) hl2 g7).mono ?_; rintro e w' ⟨rfl, hw⟩; subst w'))
                            go_roundw
                            case rel => exact ⟨i + 1, _, _, _, by omega, by omega, rfl, by go_num, by rw [unhide HS3]; exact K9⟩
                            case measure => simp [intOf]; omega
                          | false =>
                            have HS3 : Hid (tdIn rs ts z2 tk ph rk acc (i + 1) = tdIn rs ts z2 tk ph rk acc i ++ [p.n]) := hide (by have h := unhide HS; rw [g1, g2, g3, g4, g5, gs, g7] at h; exact h)
                            go_wp2_with (first | (go_at_call_of 25 (Value.slice a2 z2.length c2); refine (l14Has_is _ _ _ z2 p.n _ (unhide P8) h2 g2).mono ?_; rintro e w' ⟨rfl, hw⟩; subst w') | (go_at_call_of 25 (Value.slice a3' n3 cp3); refine (l14Has_is _ _ _ tk p.n _ (unhide V8) (by omega) g4).mono ?_; rintro e w' ⟨rfl, hw⟩; subst w') | (go_at_call 26; refine ((unhide HC) _ (unhide B8)).mono ?_; rintro e W9 ⟨rfl, b9⟩; rw [g5]; have K9 := hide ((unhide K8).below b9); have T9 := hide ((unhide T8).below b9); have R9 := hide ((unhide R8).below b9); have y0 := (unhide R9).c 0 (by simp); have y4 := (unhide R9).c 4 (by simp); simp only [List.getElem_cons_zero, List.getElem_cons_succ] at y0 y4; clear b9) | (go_at_call_of 25 (Value.slice bd ts.length cap2); refine (l14Has_is _ _ _ ts p.d _ (unhide T9) hl2 g7).mono ?_; rintro e w' ⟨rfl, hw⟩; subst w') | (at_builtin; (refine wpList_app_elG (K := 1) (cells := stC) rfl _ _ 23 9 rfl Tryz.underlying23 info_txt rfl (by decide) (by decide) p.n [.string p.n] rfl (fun q hq => by match q, hq with | 0, _ => rfl) (fun u hu => by simp at hu; rcases hu with rfl; rfl) ((unhide K9).own _ (List.mem_cons_self ..)).1 (unhide HN) rfl (by simp) rfl (unhide K9).bel.size (by omega) ?_; intro g' c' w9 o9 gr9 ha9; have KK := hide ((unhide K9).app o9 gr9 ha9); clear o9 gr9 ha9)))
                            go_roundw
                            case rel => exact ⟨i + 1, _, _, _, by omega, by omega, rfl, by go_num, by rw [unhide HS3]; exact KK⟩
                            case measure => simp [intOf]; omega
                  | false =>
                    have HS3 : Hid (tdIn rs ts z2 tk ph rk acc (i + 1) = tdIn rs ts z2 tk ph rk acc i) := hide (by have h := unhide HS; rw [g1, g2, g3] at h; exact h)
                    go_wp2_with (first | (go_at_call_of 25 (Value.slice a2 z2.length c2); refine (l14Has_is _ _ _ z2 p.n _ (unhide P8) h2 g2).mono ?_; rintro e w' ⟨rfl, hw⟩; subst w'))
                    go_roundw
                    case rel => exact ⟨i + 1, _, _, _, by omega, by omega, rfl, by go_num, by rw [unhide HS3]; exact K8⟩
                    case measure => simp [intOf]; omega
                | false =>
                  cases g3 : (p.r == rk) with
                  | true =>
                    have HS3 : Hid (tdIn rs ts z2 tk ph rk acc (i + 1) = tdIn rs ts z2 tk ph rk acc i) := hide (by have h := unhide HS; rw [g1, g2, g3] at h; exact h)
                    go_wp2_with (first | (go_at_call_of 25 (Value.slice a2 z2.length c2); refine (l14Has_is _ _ _ z2 p.n _ (unhide P8) h2 g2).mono ?_; rintro e w' ⟨rfl, hw⟩; subst w'))
                    go_roundw
                    case rel => exact ⟨i + 1, _, _, _, by omega, by omega, rfl, by go_num, by rw [unhide HS3]; exact K8⟩
                    case measure => simp [intOf]; omega
                  | false =>
                    have HS3 : Hid (tdIn rs ts z2 tk ph rk acc (i + 1) = tdIn rs ts z2 tk ph rk acc i) := hide (by have h := unhide HS; rw [g1, g2, g3] at h; exact h)
                    go_wp2_with (first | (go_at_call_of 25 (Value.slice a2 z2.length c2); refine (l14Has_is _ _ _ z2 p.n _ (unhide P8) h2 g2).mono ?_; rintro e w' ⟨rfl, hw⟩; subst w'))
                    go_roundw
                    case rel => exact ⟨i + 1, _, _, _, by omega, by omega, rfl, by go_num, by rw [unhide HS3]; exact K8⟩
                    case measure => simp [intOf]; omega
            · have k1 : ¬ (i : Int) < (rs.length : Int) := by omega
              have hie : i = rs.length := by omega
              rw [hie, ← unhide HTD] at HK
              have HI2 := hide hie
              clear hie
              go_wp2_with fail
              go_roundw
              case rel => exact ⟨m + 1, g, n, cp, by omega, by have := unhide HI2; omega, rfl, by (rw [show (3 - ((m + 1 : Nat) : Int)) = rk - 1 by have := unhide HRK; omega]), HK⟩
              case measure => simp [intOf]; have := unhide HRK; omega
        · have hr1 : ¬ (1 : Int) ≤ 3 - (m : Int) := by omega
          have hm3 : m = 3 := by omega
          subst hm3
          go_wp2_with fail
          obtain ⟨td, htd⟩ : ∃ td, tdR rs ts z2 tk ph 3 = td := ⟨_, rfl⟩
          rw [htd] at HK
          have HTD3 := hide htd
          have hn90 : n ≤ 90 := by omega
          have K0 : Hid (Kp w3 wr O [.slice aA ts.length cA, .slice none 0 0, .slice a3' n3 cp3] [(.slice none 0 0, []), (.slice (some ⟨g, 0, none⟩) n cp, td), (.slice a3' n3 cp3, tk), (.slice aA ts.length cA, ts)]) := hide ((unhide HK).new (ownE_nil _ _ _) (by simp [Value.ownBlock]) (fun p hp g hg => by simp [Value.ownBlock] at hg))
          have HNT : Hid (td.length = n) := hide (by obtain ⟨_, _, e, _⟩ := ((unhide HK).own _ (List.mem_cons_self ..)).1.slice; simp only [Value.slice.injEq] at e; omega)
          clear HK htd hmlt hm hr1
          go_loopw [18] (fun s18 wr => ∃ (i n2' : Nat) (a2' : Option Addr) (cp2 : Nat), i ≤ rs.length ∧ n2' ≤ i ∧ s18 = .int .i64 (i : Int) ∧ Hid (Kp w3 wr O [.slice aA ts.length cA, .slice a2' n2' cp2, .slice a3' n3 cp3] [(.slice a2' n2' cp2, ltK rs ts z2 td i), (.slice (some ⟨g, 0, none⟩) n cp, td), (.slice a3' n3 cp3, tk), (.slice aA ts.length cA, ts)])) (fun s18 _ => rs.length - (intOf s18).toNat)
          case atStart => exact ⟨0, 0, none, 0, Nat.zero_le _, Nat.le_refl _, rfl, K0⟩
          case round =>
            clear K0
            obtain ⟨i, n2', a2', cp2, hi, hn2, rfl, HK⟩ := hrel
            by_cases hlt : i < rs.length
            · rcases (unhide HO) with ⟨h0, _⟩ | ⟨bb, off, rfl, _, hc⟩
              · omega
              obtain ⟨qa, ql, qc, hat, _, _, _⟩ := hc i hlt
              have HBW := hide ((unhide HL1) _ (unhide HK).bel)
              have hat := hat.below (unhide HBW)
              have m0 := hat.c0
              have m3 := hat.c3
              have k0 : (0 : Int) ≤ (i : Int) := by omega
              have k1 : (i : Int) < (rs.length : Int) := by omega
              have RT := hide ((unhide HT).below (unhide HBW))
              have RZ := hide (((unhide HP).below (unhide HBW)).r2)
              have RD := hide ((((unhide HK).own (.slice (some ⟨g, 0, none⟩) n cp, td) (by simp)).1).row)
              have x1 := ((unhide KA).below (unhide HK).bel).c 1 (by simp)
              have o2 := (unhide HK).blk.c 1 (by simp)
              have HS : Hid (ltK rs ts z2 td (i + 1) = if (hasB z2 (elAt rs i).n || ((elAt rs i).l && hasB ts (elAt rs i).n && hasB td (elAt rs i).n)) = true then ltK rs ts z2 td i ++ [(elAt rs i).n] else ltK rs ts z2 td i) := hide rfl
              have HN2 : Hid ((ltK rs ts z2 td i).length = n2') := hide (by obtain ⟨_, _, e, _⟩ := ((unhide HK).own _ (List.mem_cons_self ..)).1.slice; simp only [Value.slice.injEq] at e; omega)
              obtain ⟨⟨d, r, q, l, d2⟩, hp⟩ : ∃ p, elAt rs i = p := ⟨_, rfl⟩
              rw [hp] at m0 m3 HS
              simp only at m0 m3 HS
              have o2a := ((unhide HK).below (bel1 (Obj.cells #[.string d] 9))).blk.c 1 (by simp)
              have u2a := ((unhide KA).below ((unhide HK).below (bel1 (Obj.cells #[.string d] 9))).bel).c 1 (by simp)
              simp only [List.getElem_cons_zero, List.getElem_cons_succ] at x1 o2 o2a u2a
              clear hc hat hp
              cases g1 : hasB z2 d with
              | true =>
                have HS2 : Hid (ltK rs ts z2 td (i + 1) = ltK rs ts z2 td i ++ [d]) := hide (by have h := unhide HS; rw [g1] at h; exact h)
                go_wp2_with (first | (go_at_call_of 25 (Value.slice a2 z2.length c2); refine (l14Has_is _ _ _ z2 d _ (unhide RZ) h2 g1).mono ?_; rintro e w' ⟨rfl, hw⟩; subst w') | (at_builtin; (refine wpList_app_elG (K := 1) (cells := stC) rfl _ _ 23 9 rfl Tryz.underlying23 info_txt rfl (by decide) (by decide) d [.string d] rfl (fun q hq => by match q, hq with | 0, _ => rfl) (fun u hu => by simp at hu; rcases hu with rfl; rfl) ((unhide HK).own _ (List.mem_cons_self ..)).1 (unhide HN2) rfl (by simp) rfl (unhide HK).bel.size (by omega) ?_; intro g9 c9 w9 o9 gr9 ha9; have K9 := hide ((unhide HK).app o9 gr9 ha9); have d1 := (unhide K9).blk.c 1 (by simp); have y1 := (unhide K9).blk.f 1 (by simp); simp only [List.getElem_cons_zero, List.getElem_cons_succ] at d1; clear o9 gr9 ha9)))
                go_roundw
                case rel => exact ⟨i + 1, n2' + 1, some ⟨g9, 0, none⟩, c9, by omega, by omega, by go_num, by rw [unhide HS2]; exact hide ((unhide K9).put 1 (by simp) _)⟩
                case measure => simp [intOf]; omega
              | false =>
                cases l with
                | false =>
                  have HS2 : Hid (ltK rs ts z2 td (i + 1) = ltK rs ts z2 td i) := hide (by have h := unhide HS; rw [g1] at h; exact h)
                  go_wp2_with (first | (go_at_call_of 25 (Value.slice a2 z2.length c2); refine (l14Has_is _ _ _ z2 d _ (unhide RZ) h2 g1).mono ?_; rintro e w' ⟨rfl, hw⟩; subst w'))
                  go_roundw
                  case rel => exact ⟨i + 1, n2', a2', cp2, by omega, by omega, by go_num, by rw [unhide HS2]; exact HK⟩
                  case measure => simp [intOf]; omega
                | true =>
                  cases g2 : hasB ts d with
                  | false =>
                    have HS2 : Hid (ltK rs ts z2 td (i + 1) = ltK rs ts z2 td i) := hide (by have h := unhide HS; rw [g1, g2] at h; exact h)
                    go_wp2_with (first | (go_at_call_of 25 (Value.slice a2 z2.length c2); refine (l14Has_is _ _ _ z2 d _ (unhide RZ) h2 g1).mono ?_; rintro e w' ⟨rfl, hw⟩; subst w') | (go_at_call_of 25 (Value.slice bd ts.length cap2); refine (l14Has_is _ _ _ ts d _ (unhide RT) hl2 g2).mono ?_; rintro e w' ⟨rfl, hw⟩; subst w'))
                    go_roundw
                    case rel => exact ⟨i + 1, n2', a2', cp2, by omega, by omega, by go_num, by rw [unhide HS2]; exact HK⟩
                    case measure => simp [intOf]; omega
                  | true =>
                    cases g3 : hasB td d with
                    | false =>
                      have HS2 : Hid (ltK rs ts z2 td (i + 1) = ltK rs ts z2 td i) := hide (by have h := unhide HS; rw [g1, g2, g3] at h; exact h)
                      go_wp2_with (first | (go_at_call_of 25 (Value.slice a2 z2.length c2); refine (l14Has_is _ _ _ z2 d _ (unhide RZ) h2 g1).mono ?_; rintro e w' ⟨rfl, hw⟩; subst w') | (go_at_call_of 25 (Value.slice bd ts.length cap2); refine (l14Has_is _ _ _ ts d _ (unhide RT) hl2 g2).mono ?_; rintro e w' ⟨rfl, hw⟩; subst w') | (go_at_call_of 25 (Value.slice (some ⟨g, 0, none⟩) n cp); refine (l14Has_is _ _ _ td d _ (unhide RD) (by omega) g3).mono ?_; rintro e w' ⟨rfl, hw⟩; subst w'))
                      go_roundw
                      case rel => exact ⟨i + 1, n2', a2', cp2, by omega, by omega, by go_num, by rw [unhide HS2]; exact HK⟩
                      case measure => simp [intOf]; omega
                    | true =>
                      have HS2 : Hid (ltK rs ts z2 td (i + 1) = ltK rs ts z2 td i ++ [d]) := hide (by have h := unhide HS; rw [g1, g2, g3] at h; exact h)
                      go_wp2_with (first | (go_at_call_of 25 (Value.slice a2 z2.length c2); refine (l14Has_is _ _ _ z2 d _ (unhide RZ) h2 g1).mono ?_; rintro e w' ⟨rfl, hw⟩; subst w') | (go_at_call_of 25 (Value.slice bd ts.length cap2); refine (l14Has_is _ _ _ ts d _ (unhide RT) hl2 g2).mono ?_; rintro e w' ⟨rfl, hw⟩; subst w') | (go_at_call_of 25 (Value.slice (some ⟨g, 0, none⟩) n cp); refine (l14Has_is _ _ _ td d _ (unhide RD) (by omega) g3).mono ?_; rintro e w' ⟨rfl, hw⟩; subst w') | (at_builtin; (refine wpList_app_elG (K := 1) (cells := stC) rfl _ _ 23 9 rfl Tryz.underlying23 info_txt rfl (by decide) (by decide) d [.string d] rfl (fun q hq => by match q, hq with | 0, _ => rfl) (fun u hu => by simp at hu; rcases hu with rfl; rfl) ((unhide HK).own _ (List.mem_cons_self ..)).1 (unhide HN2) rfl (by simp) rfl (unhide HK).bel.size (by omega) ?_; intro g9 c9 w9 o9 gr9 ha9; have K9 := hide ((unhide HK).app o9 gr9 ha9); have d1 := (unhide K9).blk.c 1 (by simp); have y1 := (unhide K9).blk.f 1 (by simp); simp only [List.getElem_cons_zero, List.getElem_cons_succ] at d1; clear o9 gr9 ha9)))
                      go_roundw
                      case rel => exact ⟨i + 1, n2' + 1, some ⟨g9, 0, none⟩, c9, by omega, by omega, by go_num, by rw [unhide HS2]; exact hide ((unhide K9).put 1 (by simp) _)⟩
                      case measure => simp [intOf]; omega
            · have k1 : ¬ (i : Int) < (rs.length : Int) := by omega
              have hie : i = rs.length := by omega
              rw [hie] at HK
              have KB := (unhide HK).blk
              have y0 : wr.cell? ⟨O, 0, none⟩ = some (.slice aA ts.length cA) := KB.c 0 (by simp)
              have y1 : wr.cell? ⟨O, 1, none⟩ = some (.slice a2' n2' cp2) := KB.c 1 (by simp)
              have y2 : wr.cell? ⟨O, 2, none⟩ = some (.slice a3' n3 cp3) := KB.c 2 (by simp)
              have KRW := (unhide KR).below (unhide HK).bel
              have x0 : wr.cell? ⟨w.heap.size + 1, 0, none⟩ = some (.slice none 0 0) := KRW.c 0 (by simp)
              have x1 : wr.cell? ⟨w.heap.size + 1, 1, none⟩ = some (.slice none 0 0) := KRW.c 1 (by simp)
              have x2 : wr.cell? ⟨w.heap.size + 1, 2, none⟩ = some (.slice none 0 0) := KRW.c 2 (by simp)
              have f0 := KRW.f 0 (by simp)
              have f1 := KRW.f 1 (by simp)
              have f2 := KRW.f 2 (by simp)
              have RKS := hide (((KRW.set 0 (by simp) (.slice aA ts.length cA)).set 1 (by simp) (.slice a2' n2' cp2)).set 2 (by simp) (.slice a3' n3 cp3))
              have hO := (unhide KR).lt
              have HPO := hide (kp_pnown (unhide HK))
              have HFA := hide (kp_pnfar (unhide HK))
              have HBW := hide ((unhide HL1) _ (unhide HK).bel)
              have e2 : (ltK rs ts z2 td rs.length).length = n2' := by obtain ⟨_, _, e, _⟩ := ((unhide HK).own _ (List.mem_cons_self ..)).1.slice; simp only [Value.slice.injEq] at e; omega
              have HE2 := hide e2
              clear KB KRW hie e2
              go_wp2_with fail
              rw [unhide HTK, unhide HTD3, unhide HE2, unhide HN3, unhide HNT]
              obtain ⟨oU, tU⟩ := unhide HPO
              have ne : ∀ {v : Value} {L : List ByteArray}, OwnE 1 stC wr w3.heap.size 9 v L → v.ownBlock ≠ some (w.heap.size + 1) := fun {v L} h e => by
                have := (h.lies _ e).1
                omega
              have hb3 := (unhide HB).size
              exact bodyPost_ret (results_cellBB (vs := [.slice aA ts.length cA, .slice a2' n2' cp2, .slice a3' n3 cp3]) rfl Tryz.isAgg29 Tryz.sizeOf29 rfl (unhide RKS) rfl rfl) rfl ⟨_, _, _, _, _, _, _, _, rfl, (((oU.set_other (S := w.heap.size + 1) (o := 0) _ (ne oU.o1) (ne oU.o2) (ne oU.o3)).set_other (S := w.heap.size + 1) (o := 1) _ (ne oU.o1) (ne oU.o2) (ne oU.o3)).set_other (S := w.heap.size + 1) (o := 2) _ (ne oU.o1) (ne oU.o2) (ne oU.o3)).mono hb3, (((tU.set_other (S := w.heap.size + 1) (o := 0) _ (ne tU)).set_other (S := w.heap.size + 1) (o := 1) _ (ne tU)).set_other (S := w.heap.size + 1) (o := 2) _ (ne tU)).mono hb3, unhide HFA, ((((unhide HBW).setCell (p := ⟨w.heap.size + 1, 0, none⟩) (by simp) _).setCell (p := ⟨w.heap.size + 1, 1, none⟩) (by simp) _).setCell (p := ⟨w.heap.size + 1, 2, none⟩) (by simp) _)⟩

end Go.Proofs.YtbaocifpifbldawGreat

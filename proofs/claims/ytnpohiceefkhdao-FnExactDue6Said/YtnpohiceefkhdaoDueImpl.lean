/-
  What the program's Due6 answers: the names that are due, sorted. Nothing that was there is written.
-/
import Derived.Test.YtnpohiceefkhdaoByName
import Derived.Test.YtnpohiceefkhdaoSomeMet
import Derived.Test.YtnpohiceefkhdaoDueFacts
import Derived.Test.YtnpohiceefkhdaoSortLay
import Derived.Sort.OwnSorted
import Derived.Laws.AppendOwn
import Derived.Maps.AppendAt
namespace Go.Proofs.Ytnpohiceefkhdao
open Go.RowKit Go.Maps Go.WideMaps Go.Sort

theorem grown_of_below {w w' : World} (b : Below w.heap.size w w') : w.grownBy w' none := ⟨b.os, b.tape, b.output, b.size, fun i hi _ => b.block i hi⟩
theorem row_ne_map {P : Program} {k : TypeId} {R : Value → Option (DataW Unit × List MemPlace)} {w : World} {b n : Nat} {D : DataW Unit} {base : Nat} {e : TypeId} {size : Nat} {v : Value} {m : Nat} {xs : List Value}
    (h : w.ownsRow base e size v m xs) (hm : w.ownsMap P k R b n D) : some b ≠ v.ownBlock := by
  intro e1
  obtain ⟨es, clock, hb, _⟩ := hm
  rcases h.2 with ⟨rfl, _⟩ | ⟨g, cap, cur, rfl, _, hg, _⟩
  · simp [Value.ownBlock] at e1
  · simp [Value.ownBlock] at e1
    subst e1
    rw [hb] at hg
    cases hg
theorem info_str : (Try.prog.info? 9).map (fun i => (i.zero, i.size, i.bytes)) = some (some (.string ⟨#[]⟩), 1, 16) := by kernel_rfl
theorem sort_any (blk cap : Nat) (ss : List (List UInt8)) (w : World) (hH : Holds encStr w blk 0 ss.toArray) (hblk : blk < w.heap.size) (hsz : ss.length < 4611686018427387904) :
    Calls Try.prog 52 #[.slice (some ⟨blk, 0, none⟩) ss.length cap] w fun e w' =>
      e = .returned (.tuple #[]) ∧ ∃ n os, w' = grow (putRow encStr (Sort.ahead w n) blk 0 (ss.mergeSort fun x y => decide (x ≤ y)).toArray) os :=
  Any.slices_Sort_string lays190 blk 0 cap ss w hH hblk hsz
theorem row_none {w : World} {T : TypeId} : (w.alloc (Obj.cells #[] T)).ownsRow w.heap.size T 1 (.slice (some ⟨w.heap.size, 0, none⟩) 0 0) 0 [] := by
  refine ⟨by simp, .inr ⟨_, _, #[], rfl, Nat.le_refl _, ?_, Nat.le_refl _, by simp [maxLen], by simp, by simp⟩⟩
  show (w.heap.push _)[w.heap.size]? = _
  simp

set_option maxRecDepth 20000 in
set_option maxHeartbeats 8000000 in
theorem implDue6_any (al : Option Addr) (ll cl : Nat) (ls : List Pt) (ak : Option Addr) (ln cn : Nat) (ss : List Pt) (w : World) (hl : RowE 4 ptC w al ll ls) (hs : RowE 4 ptC w ak ln ss) (hfl : ∀ i, ptFit (elAt ls i)) (hfs : ∀ i, ptFit (elAt ss i)) :
    Calls Try.prog 28 #[.slice al ll cl, .slice ak ln cn] w fun e w' => ∃ g cap, e = .returned (.tuple #[.slice (some ⟨g, 0, none⟩) (dueR ls ss).length cap, .bool (dueOk ls ss)]) ∧ w'.ownsRow w.heap.size 9 1 (.slice (some ⟨g, 0, none⟩) (dueR ls ss).length cap) (dueR ls ss).length ((dueR ls ss).map encStr) ∧ Below w.heap.size w w' := by
  obtain ⟨i0, hii, hz0, hz1, hz2⟩ := info_parts info_str
  have RL := hide hl
  have RS := hide hs
  have HFL := hide hfl
  have HFS := hide hfs
  have HLL := hide hl.len_eq
  have HLS := hide hs.len_eq
  clear hl hs hfl hfs
  have ROW0 := hide (row_none (w := w) (T := 9))
  have B0 := hide (bel1 (w := w) (Obj.cells #[] 9))
  go_enter Try.func28, Try.ntmps28
  go_wp2_with fail
  refine (byNameLife_any _ _ _ ls 1000000 _ ((unhide RL).below (unhide B0)) (unhide HFL)).mono ?_
  rintro e w1 ⟨rfl, hm1, z1, b1⟩
  have hsz0 : (w.alloc (Obj.cells #[] 9)).heap.size = w.heap.size + 1 := by simp
  rw [hsz0] at hm1 z1
  have ROW1 := hide (ownsRow_below (unhide ROW0) b1)
  have B1 := hide ((unhide B0).trans (b1.mono (unhide B0).size))
  have HM1 := hide hm1
  clear hm1 b1 hsz0 ROW0 B0
  go_wp2_with fail
  refine (byNameStay_any _ _ _ ss 10000000 _ ((unhide RS).below (unhide B1)) (unhide HFS)).mono ?_
  rintro e w2 ⟨rfl, hm2, z2, b2⟩
  have ROW2 := hide (ownsRow_below (unhide ROW1) b2)
  have B2 := hide ((unhide B1).trans (b2.mono (unhide B1).size))
  have HM2 := hide hm2
  cases g1 : okB ls 1000000 with
  | false =>
    have HE : Hid (dueOk ls ss = false) := hide (by unfold dueOk; rw [g1]; rfl)
    have HR := hide (dueR_no (unhide HE))
    clear b2 hm2
    go_wp2_with fail
    go_ret2
    rw [unhide HR, unhide HE]
    exact ⟨_, _, rfl, unhide ROW2, unhide B2⟩
  | true =>
  cases g2 : okB ss 10000000 with
  | false =>
    have HE : Hid (dueOk ls ss = false) := hide (by unfold dueOk; rw [g2, Bool.and_false])
    have HR := hide (dueR_no (unhide HE))
    clear b2 hm2
    go_wp2_with fail
    go_ret2
    rw [unhide HR, unhide HE]
    exact ⟨_, _, rfl, unhide ROW2, unhide B2⟩
  | true =>
  have HOK : Hid (dueOk ls ss = true) := hide (by unfold dueOk; rw [g1, g2]; rfl)
  have HRR := hide (dueR_yes (unhide HOK))
  have HL2 := hide (ownsMap_below (unhide HM1 g1) b2)
  have HS2 := hide (hm2 g2)
  have HAL := hide (okB_apart g1)
  have HAS := hide (okB_apart g2)
  have HS30 : Hid (ss.length ≤ 30) := hide (okB_facts g2).1
  clear b2 hm2 HM1 HM2 ROW1 B1
  go_wp2_with (first
    | (at_range; refine wpList_range_own _ rfl _ 78 rfl 9 73 (string_keyed Try.underlying9) Try.underlying78 _ w1.heap.size ln _ rfl (unhide HS2) ?_; intro w3 hrg3 hg3 hs3)
    | go_in)
  go_frame
  have HSZ := hide (size_le (unhide HS2))
  have B3 := hide ((unhide B2).grown hg3 (unhide B2).size (fun j hj => by cases hj))
  have HRG3 := hide hrg3
  have ROW3 := hide ((unhide ROW2).kept hg3 (Or.inr (by simp [Value.ownBlock])))
  have HL3 := hide ((unhide HL2).kept hg3 (by simp))
  have hlr : w.heap.size < w2.heap.size := by have := (unhide B2).size; omega
  clear hrg3 hg3 hs3 g1 g2
  go_loopw [6] (fun v wr => ∃ (left : Lit → Bool) (cnt : Nat) (F : List (List UInt8)), wr.ranges Try.prog 9 cntR w1.heap.size w2.heap.size ln (mapTo ss ln) left cnt ∧ Hid (F.length + cnt ≤ ln) ∧
      wr.ownsRow w.heap.size 9 1 v F.length (F.map encStr) ∧ v ≠ .slice none 0 0 ∧ Found ls ss left F ∧ wr.ownsMap Try.prog 9 cntR (w.heap.size + 1) ll (mapTo ls ll) ∧ Below w.heap.size w wr)
    (fun _ wr => wr.rangeLeft w1.heap.size w2.heap.size)
  case atStart =>
    refine ⟨_, _, [], unhide HRG3, hide (by simpa using unhide HSZ), unhide ROW3, by simp, ?_, unhide HL3, unhide B3⟩
    have := found_start ls ss
    rw [unhide HLS] at this
    exact this
  case round =>
    clear HRG3 ROW3 HL3 B3 ROW2 B2 HL2 HS2 HSZ
    obtain ⟨left, cnt, F, hrg, HFC, hrow, hnn, hfo, hmap, hbel⟩ := hrel
    have HRG := hide hrg
    have HROW := hide hrow
    have HFO := hide hfo
    have HMAP := hide hmap
    have HB := hide hbel
    have HNN := hide hnn
    clear hrg hrow hfo hmap hbel hnn
    go_wp2_with (first
      | (at_next; refine wpList_next_ranges _ rfl _ rfl 9 (string_keyed Try.underlying9) cntR (fun s : ByteArray => Value.string s) (fun q : Int × Int × Int => Value.agg #[.int .i64 q.1, .int .i64 q.2.1, .int .i64 q.2.2]) (fun key kl hk => by obtain ⟨x, hx, _⟩ := Maps.keyOf_str Try.underlying9 hk; exact ⟨_, hx⟩) (fun v y hv => by obtain ⟨q, hq, _⟩ := cntR_inv hv; exact ⟨q, hq⟩) w1.heap.size w2.heap.size ln _ _ _ rfl (unhide HRG) ?_ ?_)
      | go_in)
    · intro hc0 hl0
      rcases (unhide HROW).2 with ⟨hnil, _⟩ | ⟨g, cap, cur, rfl, hbase, hb, h1, h2, h3, h4⟩
      · exact absurd hnil (unhide HNN)
      have hH : Holds encStr wr g 0 F.toArray := holds_of_block hb (by simpa using h4)
      have hgl : g < wr.heap.size := (Array.getElem?_eq_some_iff.1 hb).1
      have hF30 : F.length ≤ 30 := by have := unhide HFC; have := unhide HS30; have := unhide HLS; omega
      have hc := sort_any g cap F wr hH hgl (by omega)
      have HC := hide hc
      have hperm := found_end (unhide HFO) (unhide HAS) hl0
      have HD : Hid (dueR ls ss = F.mergeSort leB) := hide (by rw [unhide HRR]; exact (mergeSort_of_perm hperm).symm)
      have HOWN : Hid (∀ nn os, (grow (putRow encStr (Sort.ahead wr nn) g 0 (F.mergeSort leB).toArray) os).ownsRow w.heap.size 9 1 (.slice (some ⟨g, 0, none⟩) F.length cap) F.length ((F.mergeSort leB).map encStr)) := hide fun nn os => ownsRow_sorted (by simp) hbase hb h1 h2 h3
      have HBB : Hid (∀ nn os, Below w.heap.size w (grow (putRow encStr (Sort.ahead wr nn) g 0 (F.mergeSort leB).toArray) os)) := hide fun nn os => (unhide HB).grown (grownBy_sorted _) (unhide HB).size (fun j hj => by cases hj; exact hbase)
      have HLEN : Hid ((dueR ls ss).length = F.length) := hide (by rw [unhide HD]; simp)
      clear hc hH hb h1 h2 h3 h4 hperm
      go_wp2_with fail
      refine (unhide HC).mono ?_
      rintro e w' ⟨rfl, nn, os, rfl⟩
      have HO' := hide (unhide HOWN nn os)
      have HB' := hide (unhide HBB nn os)
      generalize grow (putRow encStr (Sort.ahead wr nn) g 0 (F.mergeSort leB).toArray) os = W' at *
      go_wp2_with fail
      go_ret2
      rw [unhide HLEN, unhide HD, unhide HOK]
      exact ⟨g, cap, rfl, unhide HO', unhide HB'⟩
    · intro sk a1 a2 a3 kl yd yp w4 cnt2 hkey hlk hv hat hrg4 hlt hg4 hs4 hen
      have hy : yd = cntD a1 a2 a3 := by rw [cntR_mk] at hv; simp only [Option.some.injEq, Prod.mk.injEq] at hv; exact hv.1.symm
      subst hy
      obtain ⟨x', ex, rfl, hxl⟩ := Maps.keyOf_str Try.underlying9 hkey
      obtain rfl : x' = sk.data.toList := by simp [encStr] at ex; rw [ex]
      obtain ⟨j, hj, hnm, ha, hb, hcc⟩ := entry_is (unhide HAS) (x := sk.data.toList) (q := (a1, a2, a3)) (by rw [unhide HLS]; exact hat)
      have hns : (elAt ss j).n = sk := ByteArray.ext (Array.ext' hnm)
      have hrow4 := (unhide HROW).kept hg4 (Or.inr (row_ne_iter (unhide HROW) (unhide HRG)).symm)
      have hmap4 := (unhide HMAP).kept hg4 (by intro e; have := (unhide HMAP).lt; simp at e; omega)
      have hB4 := (unhide HB).grown hg4 (unhide HB).size (fun q hq => by cases hq; exact Nat.le_of_lt hlr)
      obtain ⟨V1, hV1⟩ : ∃ V1, V1 = w4.alloc (Obj.cells #[.int .i64 a1, .int .i64 a2, .int .i64 a3] 73) := ⟨_, rfl⟩
      have hmapV : V1.ownsMap Try.prog 9 cntR (w.heap.size + 1) ll (mapTo ls ll) := by rw [hV1]; exact hmap4.alloc _
      obtain ⟨v0, pl, hrun, hv0⟩ := hmapV.look_ok (string_keyed Try.underlying9) Try.underlying78 (Try.zeroValue73 V1) (cntR_mk 0 0 0) hkey
      obtain ⟨q, rfl, hq⟩ := cntR_inv hv0
      have hhas : Maps.has (mapTo ls ll) (Lit.string sk.data.toList) = hasN ls ll sk := has_mapTo ls ll sk
      rw [hhas, hV1] at hrun
      obtain ⟨V2, hV2⟩ : ∃ V2, V2 = V1.alloc (Obj.cells #[.int .i64 q.1, .int .i64 q.2.1, .int .i64 q.2.2] 73) := ⟨_, rfl⟩
      have zV1 : V1.heap.size = w4.heap.size + 1 := by rw [hV1]; simp
      have HRV := hide (show V2.ownsRow w.heap.size 9 1 u6 F.length (F.map encStr) by rw [hV2, hV1]; exact (hrow4.alloc _).alloc _)
      have HGV := hide (show V2.ranges Try.prog 9 cntR w1.heap.size w2.heap.size ln (mapTo ss ln) (fun z => left z && !z.sameKey (.string sk.data.toList)) cnt2 by rw [hV2, hV1]; exact (hrg4.alloc _).alloc _)
      have HMV := hide (show V2.ownsMap Try.prog 9 cntR (w.heap.size + 1) ll (mapTo ls ll) by rw [hV2]; exact hmapV.alloc _)
      have HBV := hide (show Below w.heap.size w V2 by rw [hV2, hV1]; exact (hB4.alloc hB4.size _).alloc (by have := hB4.size; simp; omega) _)
      have HK1 := hide (show Blk V2 w4.heap.size [.int .i64 a1, .int .i64 a2, .int .i64 a3] by rw [hV2, hV1]; exact (Blk.new _ _).alloc _)
      have HK2 := hide (show Blk V2 (w4.heap.size + 1) [.int .i64 q.1, .int .i64 q.2.1, .int .i64 q.2.2] by rw [hV2, ← zV1]; exact Blk.new _ _)
      have HV1 := hide hV1
      have HV2 := hide hV2
      have HQ := hide hq
      have HV0 := hide hv0
      have HNS := hide hns
      have HABC := hide (And.intro ha (And.intro hb hcc))
      clear hV1 hV2 hq hv0 hns ha hb hcc hmapV hmap4 hrow4 hB4 hrg4 hg4 hhas hv hat hs4 zV1 ex hxl
      cases g : hasN ls ll sk with
      | false =>
        have HDUE : Hid (dueB ls (elAt ss j) = true) := hide (dueB_none (by rw [unhide HNS, unhide HLL]; exact g))
        rw [g] at hrun
        clear g
        go_upto_region 11 with fail
        rw [← unhide HV1, ← unhide HV2]
        clear hrun hen
        have HF30 : Hid (F.length + 1 ≤ 30) := hide (by have := unhide HFC; have := unhide HS30; have := unhide HLS; omega)
        have hrowA := (unhide HRV).alloc (Obj.cells #[.string sk] 9)
        have hrgA := (unhide HGV).alloc (Obj.cells #[.string sk] 9)
        have hmA := (unhide HMV).alloc (Obj.cells #[.string sk] 9)
        have hBA := (unhide HBV).alloc (unhide HBV).size (Obj.cells #[.string sk] 9)
        have zA := hBA.size
        have hnews := cell_one_new V2 (.string sk) 9
        have HRA := hide hrowA
        have HRGA := hide hrgA
        have HMA := hide hmA
        have HBA := hide hBA
        clear hrowA hrgA hmA hBA
        go_wp2_with (at_builtin; refine wpList_append_own _ rfl _ _ 52 rfl w.heap.size 9 i0 (.string ⟨#[]⟩) 1 16 Try.underlying52 hii hz0 hz1 hz2 rfl (by decide) u6 F.length (F.map encStr) rfl (unhide HRA) ⟨V2.heap.size, 0, none⟩ 1 1 [.string sk] rfl rfl hnews (by simp [Value.oneCell']) (by have := unhide HF30; unfold maxLen; omega) (by have := unhide HF30; omega) zA ?_; intro v' w9 hown9 hg9 hnil9)
        have hrg9 := (unhide HRGA).kept hg9 (row_ne_map (unhide HRA) (unhide HRGA).owns) (row_ne_iter (unhide HRA) (unhide HRGA))
        have hm9 := (unhide HMA).kept hg9 (row_ne_map (unhide HRA) (unhide HMA))
        have hB9 := (unhide HBA).grown hg9 zA (fun q hq => ((unhide HRA).lt q hq).1)
        have HF9 := found_yes (unhide HFO) hlk hj hnm (by rw [unhide HDUE])
        go_roundw
        case rel =>
          refine ⟨_, cnt2, F ++ [sk.data.toList], hrg9, ?_, ?_, ?_, HF9, hm9, hB9⟩
          · refine hide ?_
            have := unhide HFC; simp; omega
          · have e : (F ++ [sk.data.toList]).map encStr = F.map encStr ++ [.string sk] := by simp [encStr]
            rw [e]; simpa using hown9
          · exact fun hv' => (by have := (hnil9.1 hv').2; omega)
        case measure => rw [hrg9.left_eq, (unhide HRG).left_eq]; exact hlt
      | true =>
        obtain ⟨i, hi, hin⟩ : ∃ i, i < ls.length ∧ (elAt ls i).n = sk := by
          have := g; simp only [hasN, decide_eq_true_eq] at this; rw [unhide HLL]; exact this
        have hqa : cntD q.1 q.2.1 q.2.2 = cntD (elAt ls i).a (elAt ls i).b (elAt ls i).c := by
          have h1 := at_mapTo ls ls.length (unhide HAL) i hi (cntD 0 0 0)
          rw [hin, unhide HLL] at h1
          have h2 := unhide HQ
          simp only [Prod.mk.injEq] at h2
          exact h2.1.symm.trans h1
        obtain ⟨q1, q2, q3⟩ := cntD_inj hqa
        have HD : Hid (dueB ls (elAt ss j) = metB q.1 q.2.1 q.2.2 a1 a2 a3) := hide (by
          obtain ⟨ha, hb, hc⟩ := unhide HABC
          rw [dueB_at (unhide HAL) hi (hin.trans (unhide HNS).symm), ha, hb, hc, q1, q2, q3])
        rw [g] at hrun
        have e0 : V2.cell? ⟨w4.heap.size, 0, none⟩ = some (.int .i64 a1) := (unhide HK1).c 0 (by simp)
        have e1 : V2.cell? ⟨w4.heap.size, 1, none⟩ = some (.int .i64 a2) := (unhide HK1).c 1 (by simp)
        have e2 : V2.cell? ⟨w4.heap.size, 2, none⟩ = some (.int .i64 a3) := (unhide HK1).c 2 (by simp)
        have f0 : V2.cell? ⟨w4.heap.size + 1, 0, none⟩ = some (.int .i64 q.1) := (unhide HK2).c 0 (by simp)
        have f1 : V2.cell? ⟨w4.heap.size + 1, 1, none⟩ = some (.int .i64 q.2.1) := (unhide HK2).c 1 (by simp)
        have f2 : V2.cell? ⟨w4.heap.size + 1, 2, none⟩ = some (.int .i64 q.2.2) := (unhide HK2).c 2 (by simp)
        clear g hqa q1 q2 q3 hin
        go_wp2_with fail
        rw [← unhide HV1, ← unhide HV2]
        refine (someMet_any _ _ _ _ _ _ _).mono ?_
        rintro x w5 ⟨rfl, b5⟩
        have HR5 := hide (ownsRow_below (unhide HRV) b5)
        have HG5 := hide ((unhide HGV).kept (grown_of_below b5) (by simp) (by simp))
        have HM5 := hide (ownsMap_below (unhide HMV) b5)
        have HB5 := hide ((unhide HBV).trans (b5.mono (unhide HBV).size))
        clear b5 e0 e1 e2 f0 f1 f2 hrun
        cases g5 : metB q.1 q.2.1 q.2.2 a1 a2 a3 with
        | false =>
          have HN5 := found_no (unhide HFO) (unhide HAS) hj hnm (by rw [unhide HD, g5])
          go_wp2_with fail
          go_roundw
          case rel => exact ⟨_, cnt2, F, unhide HG5, hide (by have := unhide HFC; omega), unhide HR5, unhide HNN, HN5, unhide HM5, unhide HB5⟩
          case measure => rw [(unhide HG5).left_eq, (unhide HRG).left_eq]; exact hlt
        | true =>
        have HDUE : Hid (dueB ls (elAt ss j) = true) := hide (by rw [unhide HD, g5])
        have HF30 : Hid (F.length + 1 ≤ 30) := hide (by have := unhide HFC; have := unhide HS30; have := unhide HLS; omega)
        have hrowA := (unhide HR5).alloc (Obj.cells #[.string sk] 9)
        have hrgA := (unhide HG5).alloc (Obj.cells #[.string sk] 9)
        have hmA := (unhide HM5).alloc (Obj.cells #[.string sk] 9)
        have hBA := (unhide HB5).alloc (unhide HB5).size (Obj.cells #[.string sk] 9)
        have zA := hBA.size
        have hnews := cell_one_new w5 (.string sk) 9
        have HRA := hide hrowA
        have HRGA := hide hrgA
        have HMA := hide hmA
        have HBA := hide hBA
        clear hrowA hrgA hmA hBA
        go_wp2_with (at_builtin; refine wpList_append_own _ rfl _ _ 52 rfl w.heap.size 9 i0 (.string ⟨#[]⟩) 1 16 Try.underlying52 hii hz0 hz1 hz2 rfl (by decide) u6 F.length (F.map encStr) rfl (unhide HRA) ⟨w5.heap.size, 0, none⟩ 1 1 [.string sk] rfl rfl hnews (by simp [Value.oneCell']) (by have := unhide HF30; unfold maxLen; omega) (by have := unhide HF30; omega) zA ?_; intro v' w9 hown9 hg9 hnil9)
        have hrg9 := (unhide HRGA).kept hg9 (row_ne_map (unhide HRA) (unhide HRGA).owns) (row_ne_iter (unhide HRA) (unhide HRGA))
        have hm9 := (unhide HMA).kept hg9 (row_ne_map (unhide HRA) (unhide HMA))
        have hB9 := (unhide HBA).grown hg9 zA (fun q hq => ((unhide HRA).lt q hq).1)
        have HF9 := found_yes (unhide HFO) hlk hj hnm (by rw [unhide HDUE])
        go_roundw
        case rel =>
          refine ⟨_, cnt2, F ++ [sk.data.toList], hrg9, ?_, ?_, ?_, HF9, hm9, hB9⟩
          · refine hide ?_
            have := unhide HFC; simp; omega
          · have e : (F ++ [sk.data.toList]).map encStr = F.map encStr ++ [.string sk] := by simp [encStr]
            rw [e]; simpa using hown9
          · exact fun hv' => (by have := (hnil9.1 hv').2; omega)
        case measure => rw [hrg9.left_eq, (unhide HRG).left_eq]; exact hlt


end Go.Proofs.Ytnpohiceefkhdao

/-
  Whether the numbers of loads rise, whether their parts differ, as the program asks it, with the library's sort of texts: plain answers; nothing that was there is written.
  Whether what a load needs is aboard, whether each load belongs, whether loads are sound, and AboardOk, in the program: plain answers; nothing that was there is written.
  Whether loads are sound, and AboardOk, in the program: plain answers; nothing that was there is written.
-/
import Derived.Test.YtemodlgmjgdjpaaGreatDoorMWrOrd
import Derived.Test.YtemodlgmjgdjpaaGreatDoorMAbTo
import Derived.Test.YtemodlgmjgdjpaaGreatDoorMSeSpec
import Derived.Test.YtemodlgmjgdjpaaGreatDoorAscS
import Derived.Test.YtemodlgmjgdjpaaGreatDoorMSortLayI
import Derived.Sort.OwnSorted
import Derived.Test.YtemodlgmjgdjpaaGreatDoorMAiFn
import Derived.Test.YtemodlgmjgdjpaaGreatDoorMLdSpec
import Derived.Test.YtemodlgmjgdjpaaGreatDoorMTaImpl

namespace Go.Proofs.YtemodlgmjgdjpaaGreatDoor
open Go Go.RowKit Go.Sort Go.Proofs

/-- Texts in the making, what is aboard in a block of its own. -/
structure StS (w : World) (P : List Value) (wr : World) (v : Value) (ts : List ByteArray) : Prop where
  own : OwnE 1 stC wr (w.heap.size + 1) 9 v ts
  blk : Blk wr w.heap.size P
  bel : Below w.heap.size w wr
theorem StS.app {w wr w9 : World} {P : List Value} {v v9 : Value} {ts ts9 : List ByteArray} (h : StS w P wr v ts) (o9 : OwnE 1 stC w9 (w.heap.size + 1) 9 v9 ts9) (gr : wr.grownBy w9 v.ownBlock) : StS w P w9 v9 ts9 :=
  ⟨o9, h.blk.apart gr (fun e => by have := (h.own.lies _ e.symm).1; omega), h.bel.grown gr h.bel.size (fun q hq => by have := (h.own.lies q hq).1; omega)⟩
theorem StS.below {w wr w9 : World} {P : List Value} {v : Value} {ts : List ByteArray} (h : StS w P wr v ts) (k : Below wr.heap.size wr w9) : StS w P w9 v ts :=
  ⟨h.own.below k, h.blk.below k, h.bel.trans (k.mono h.bel.size)⟩
theorem infoStr18 : (Tryz.prog.info? 9).map (fun i => (i.zero, i.size, i.bytes)) = some (some (.string ⟨#[]⟩), 1, 16) := by kernel_rfl
theorem texts_enc {ts : List ByteArray} {xs : List Value} (hl : xs.length = ts.length) (hx : ∀ j, j < ts.length → ∀ q, q < 1 → xs[j * 1 + q]? = some (stC (elAt ts j) q)) : xs = (ts.map (fun b => b.data.toList)).map encStr := by
  apply List.ext_getElem?
  intro j
  by_cases hj : j < ts.length
  · have := hx j hj 0 (by omega)
    rw [Nat.mul_one, Nat.add_zero] at this
    rw [this]
    simp [stC, elAt, hj, encStr]
  · rw [List.getElem?_eq_none (by omega), List.getElem?_eq_none (by simp; omega)]
/-- The library's sort of texts, over a list that a call has made. -/
theorem sortTx_own (base g cap n : Nat) (ts : List ByteArray) (w : World) (ho : OwnE 1 stC w base 9 (.slice (some ⟨g, 0, none⟩) n cap) ts) (hn : ts.length = n) (hsm : n ≤ 1000) :
    Calls Tryz.prog 83 #[.slice (some ⟨g, 0, none⟩) n cap] w fun e w' => e = .returned (.tuple #[]) ∧ OwnE 1 stC w' base 9 (.slice (some ⟨g, 0, none⟩) n cap) (srtT ts) ∧ w.grownBy w' (some g) := by
  subst hn
  obtain ⟨xs, hown, hx⟩ := ho.own
  have hl : xs.length = ts.length := by simpa using hown.1
  have hxe := texts_enc hl hx
  rcases hown.2 with ⟨e, _⟩ | ⟨g', cap', cur, hv, hb, hg, h1, h2, h3, h4⟩
  · cases e
  cases hv
  obtain ⟨ss, hss⟩ : ∃ ss, ss = ts.map (fun b => b.data.toList) := ⟨_, rfl⟩
  have hsl : ss.length = ts.length := by rw [hss]; simp
  rw [← hss] at hxe
  have hH : Holds encStr w g 0 ss.toArray := holds_of_block hg (by rw [hsl]; rw [hxe] at h4; simpa using h4)
  have hgl : g < w.heap.size := (Array.getElem?_eq_some_iff.1 hg).1
  have hc := Any.slices_Sort_string lays190 g 0 cap ss w hH hgl (by omega)
  rw [hsl] at hc
  refine hc.mono ?_
  rintro e w' ⟨rfl, nn, os, rfl⟩
  have hml : (ss.mergeSort fun x y => decide (x ≤ y)).length = ss.length := List.length_mergeSort ss
  refine ⟨rfl, ⟨(ss.mergeSort fun x y => decide (x ≤ y)).map encStr, ?_, fun j hj q hq => ?_⟩, grownBy_sorted _⟩
  · have := ownsRow_sorted (n := nn) (os := os) hml hb hg (by omega) h2 h3
    rw [srtT_len, ← hsl]; exact this
  · obtain rfl : q = 0 := by omega
    rw [srtT_len] at hj
    have hj2 : j < (ss.mergeSort fun x y => decide (x ≤ y)).length := by omega
    subst hss
    simp [stC, elAt, srtT, encStr, hj]
set_option maxRecDepth 20000 in
set_option maxHeartbeats 2000000 in
theorem numbersAscend_any (s : Int) (a1 : Option Addr) (l1 c1 : Nat) (zs : List Lc) (w : World) (hr : LsT w a1 l1 zs) (hls : lsB zs = true) :
    Calls Tryz.prog 50 #[.agg #[.int .i64 s, .slice a1 l1 c1]] w fun e w' => e = .returned (.bool (riseB (nbL zs))) ∧ Below w.heap.size w w' := by
  have hzl := hr.len_eq
  obtain ⟨ls, e, hl⟩ := hr.ex
  have hz := hl.row.len_eq
  have HO := hide hl.row.six
  have HEL := hide hl.el
  have hsm := hl.row.small
  have HE := hide e
  have HZL := hide hzl
  have HT := hide hr
  subst hz
  clear hr hl e hzl
  have HLS := hide hls
  have hm := (lsB_facts hls).1
  have hlm : ls.length ≤ 30 := by have := unhide HZL; omega
  obtain ⟨W, hW⟩ : ∃ W, W = (w.alloc (Obj.cells #[.int .i64 s, .slice a1 ls.length c1] 26)) := ⟨_, rfl⟩
  have K0 : Blk W w.heap.size [.int .i64 s, .slice a1 ls.length c1] := by rw [hW]; exact Blk.new _ _
  have B0 : Below w.heap.size w W := by rw [hW]; exact bel1 _
  have hWs : W.heap.size = w.heap.size + 1 := by rw [hW]; simp
  obtain ⟨W2, hW2⟩ : ∃ W2, W2 = W.alloc (Obj.cells #[] 3) := ⟨_, rfl⟩
  have S0 : Hid (SeS w [.int .i64 s, .slice a1 ls.length c1] W2 (.slice (some ⟨w.heap.size + 1, 0, none⟩) 0 0) (nbL (zs.take 0))) := hide ⟨by
    have := ownI_none (w := W) (w1 := W) (Nat.le_refl _)
    rw [hWs] at this; rw [hW2]; exact this, by rw [hW2]; exact K0.alloc _, by rw [hW2]; exact B0.trans ((bel1 _).mono B0.size)⟩
  have g0 : W2.cell? ⟨w.heap.size, 1, none⟩ = some (.slice a1 ls.length c1) := (unhide S0).blk.c 1 (by simp)
  rw [hW2, hW] at g0
  have HW : Hid (W2 = (w.alloc (Obj.cells #[.int .i64 s, .slice a1 ls.length c1] 26)).alloc (Obj.cells #[] 3)) := hide (by rw [hW2, hW])
  clear hW hm hls K0 B0 hWs hW2
  go_enter Tryz.func50, Tryz.ntmps50
  go_wp2_with fail
  rw [← unhide HW]
  clear HW g0
  go_loopw [3, 10] (fun v i wr => ∃ k g c : Nat, v = .slice (some ⟨g, 0, none⟩) k c ∧ i = .int .i64 k ∧ k ≤ ls.length ∧ Hid (SeS w [.int .i64 s, .slice a1 ls.length c1] wr (.slice (some ⟨g, 0, none⟩) k c) (nbL (zs.take k)))) (fun _ i _ => ls.length - (intOf i).toNat)
  case atStart => exact ⟨0, _, 0, rfl, rfl, Nat.zero_le _, S0⟩
  case round =>
    clear S0
    obtain ⟨k, g, c, rfl, rfl, hk, SS⟩ := hrel
    have BW := hide (unhide SS).bel
    by_cases hlt : k < ls.length
    · rcases (unhide HO) with ⟨h0, _⟩ | ⟨bb, off, rfl, _, hc⟩
      · omega
      have HC := hide hc
      obtain ⟨x, hx⟩ : ∃ x, elAt ls k = x := ⟨_, rfl⟩
      have el : elAt zs k = lxW x := by rw [← hx]; exact elAt_lx (unhide HE) hlt
      have hin := (unhide HEL) k hlt
      have q := hc k hlt
      rw [hx] at hin q
      have cl := fun {p : Addr} {v : Value} (h : w.cell? p = some v) => ((unhide BW).cell (p := p) (block_lt_of_cell h)).trans h
      have s0 := cl q.1
      have s1 := cl q.2.1
      have s2 := cl q.2.2.1
      have s3 := cl q.2.2.2.1
      have s4 := cl q.2.2.2.2.1
      have s5 := cl q.2.2.2.2.2
      have hi1 : (k : Int) < (ls.length : Int) := by omega
      have hi0 : (0 : Int) ≤ (k : Int) := by omega
      have HIN := hide hin
      have HEK := hide el
      clear q cl hx hc hin el
      have hzk : k < zs.length := by have := unhide HZL; omega
      have HL : Hid ((nbL (zs.take k)).length = k) := hide (by rw [nbL_len, List.length_take]; omega)
      have HNX := hide (nbL_take zs hzk)
      have hld : ldB (lxW x) = true := by rw [← unhide HEK]; exact (lsB_facts (unhide HLS)).2 k hzk
      have hnb : 1 ≤ x.nb ∧ x.nb ≤ 1000000 := (ldB_facts hld).2.2.1
      have HNB := hide (ldB_facts hld).2.1
      clear hld hzk
      have SV := hide ((unhide SS).below (bel1 (Obj.cells #[.string x.p, .int .i64 x.nb, .int .i64 x.le, .int .i64 x.mo, .int .i64 x.ne, .slice x.d.a x.d.n x.d.c] 32)))
      have sW : w.heap.size + 1 ≤ (wr.alloc (Obj.cells #[.string x.p, .int .i64 x.nb, .int .i64 x.le, .int .i64 x.mo, .int .i64 x.ne, .slice x.d.a x.d.n x.d.c] 32)).heap.size := (unhide SV).blk.lt
      clear SS BW
      go_wp2_with (at_builtin; refine wpList_app_int rfl _ _ rfl (n := k) x.nb (unhide SV).own (unhide HL) rfl (by simp) rfl sW (by omega) (by omega) ?_; intro g9 c9 w9 o9 gr9)
      have NX : Hid (SeS w [.int .i64 s, .slice (some ⟨bb, off, none⟩) ls.length c1] w9 (.slice (some ⟨g9, 0, none⟩) (k + 1) c9) (nbL (zs.take (k + 1)))) := hide (by rw [unhide HNX, unhide HEK]; exact (unhide SV).app o9 gr9)
      clear o9 gr9 SV
      go_roundw
      case rel => exact ⟨k + 1, g9, c9, rfl, by go_num, by omega, NX⟩
      case measure => simp [intOf]; omega
    · have hi1 : ¬ (k : Int) < (ls.length : Int) := by omega
      have hkz : k = zs.length := by have := unhide HZL; omega
      have SF : Hid (SeS w [.int .i64 s, .slice a1 ls.length c1] wr (.slice (some ⟨g, 0, none⟩) k c) (nbL zs)) := hide (by have := unhide SS; rwa [hkz, List.take_length, ← hkz] at this)
      have HLK : Hid ((nbL zs).length = k) := hide (by rw [nbL_len, hkz])
      clear SS hkz BW
      go_wp2_with (go_at_call 82; refine (ascending_any _ _ _ (nbL zs) wr (unhide SF).own.row).mono ?_; rintro e w2 ⟨rfl, n2, hw2⟩; have B2 : Hid (Below w.heap.size w w2) := hide (by rw [hw2]; exact (unhide SF).bel.trans ((bel0d n2).mono (unhide SF).bel.size)); clear hw2)
      go_ret
      exact ⟨rfl, unhide B2⟩
set_option maxRecDepth 20000 in
set_option maxHeartbeats 2000000 in
theorem partsDiffer_any (s : Int) (a1 : Option Addr) (l1 c1 : Nat) (zs : List Lc) (w : World) (hr : LsT w a1 l1 zs) (hls : lsB zs = true) :
    Calls Tryz.prog 51 #[.agg #[.int .i64 s, .slice a1 l1 c1]] w fun e w' => e = .returned (.bool (dfB zs)) ∧ Below w.heap.size w w' := by
  have hzl := hr.len_eq
  obtain ⟨ls, e, hl⟩ := hr.ex
  have hz := hl.row.len_eq
  have HO := hide hl.row.six
  have HEL := hide hl.el
  have hsm := hl.row.small
  have HE := hide e
  have HZL := hide hzl
  have HT := hide hr
  subst hz
  clear hr hl e hzl
  have HLS := hide hls
  have hm := (lsB_facts hls).1
  have hlm : ls.length ≤ 30 := by have := unhide HZL; omega
  obtain ⟨W, hW⟩ : ∃ W, W = (w.alloc (Obj.cells #[.int .i64 s, .slice a1 ls.length c1] 26)) := ⟨_, rfl⟩
  have K0 : Blk W w.heap.size [.int .i64 s, .slice a1 ls.length c1] := by rw [hW]; exact Blk.new _ _
  have B0 : Below w.heap.size w W := by rw [hW]; exact bel1 _
  have hWs : W.heap.size = w.heap.size + 1 := by rw [hW]; simp
  obtain ⟨W2, hW2⟩ : ∃ W2, W2 = W.alloc (Obj.cells #[] 9) := ⟨_, rfl⟩
  have S0 : Hid (StS w [.int .i64 s, .slice a1 ls.length c1] W2 (.slice (some ⟨w.heap.size + 1, 0, none⟩) 0 0) (ptL (zs.take 0))) := hide ⟨by
    have := ownE_none (K := 1) (cells := stC) (w := W) (w1 := W) (T := 9) (Nat.le_refl _)
    rw [hWs] at this; rw [hW2]; exact this, by rw [hW2]; exact K0.alloc _, by rw [hW2]; exact B0.trans ((bel1 _).mono B0.size)⟩
  have g0 : W2.cell? ⟨w.heap.size, 1, none⟩ = some (.slice a1 ls.length c1) := (unhide S0).blk.c 1 (by simp)
  rw [hW2, hW] at g0
  have HW : Hid (W2 = (w.alloc (Obj.cells #[.int .i64 s, .slice a1 ls.length c1] 26)).alloc (Obj.cells #[] 9)) := hide (by rw [hW2, hW])
  clear hW hm hls K0 B0 hWs hW2
  go_enter Tryz.func51, Tryz.ntmps51
  go_wp2_with fail
  rw [← unhide HW]
  clear HW g0
  go_loopw [3, 10] (fun v i wr => ∃ k g c : Nat, v = .slice (some ⟨g, 0, none⟩) k c ∧ i = .int .i64 k ∧ k ≤ ls.length ∧ Hid (StS w [.int .i64 s, .slice a1 ls.length c1] wr (.slice (some ⟨g, 0, none⟩) k c) (ptL (zs.take k)))) (fun _ i _ => ls.length - (intOf i).toNat)
  case atStart => exact ⟨0, _, 0, rfl, rfl, Nat.zero_le _, S0⟩
  case round =>
    clear S0
    obtain ⟨k, g, c, rfl, rfl, hk, SS⟩ := hrel
    have BW := hide (unhide SS).bel
    by_cases hlt : k < ls.length
    · rcases (unhide HO) with ⟨h0, _⟩ | ⟨bb, off, rfl, _, hc⟩
      · omega
      have HC := hide hc
      obtain ⟨x, hx⟩ : ∃ x, elAt ls k = x := ⟨_, rfl⟩
      have el : elAt zs k = lxW x := by rw [← hx]; exact elAt_lx (unhide HE) hlt
      have hin := (unhide HEL) k hlt
      have q := hc k hlt
      rw [hx] at hin q
      have cl := fun {p : Addr} {v : Value} (h : w.cell? p = some v) => ((unhide BW).cell (p := p) (block_lt_of_cell h)).trans h
      have s0 := cl q.1
      have s1 := cl q.2.1
      have s2 := cl q.2.2.1
      have s3 := cl q.2.2.2.1
      have s4 := cl q.2.2.2.2.1
      have s5 := cl q.2.2.2.2.2
      have hi1 : (k : Int) < (ls.length : Int) := by omega
      have hi0 : (0 : Int) ≤ (k : Int) := by omega
      have HIN := hide hin
      have HEK := hide el
      clear q cl hx hc hin el
      have hzk : k < zs.length := by have := unhide HZL; omega
      have HL : Hid ((ptL (zs.take k)).length = k) := hide (by rw [ptL_len, List.length_take]; omega)
      have HNX := hide (ptL_take zs hzk)
      have hld : ldB (lxW x) = true := by rw [← unhide HEK]; exact (lsB_facts (unhide HLS)).2 k hzk
      have hnb : 1 ≤ x.nb ∧ x.nb ≤ 1000000 := (ldB_facts hld).2.2.1
      have HNB := hide (ldB_facts hld).2.1
      clear hld hzk
      have SV := hide ((unhide SS).below (bel1 (Obj.cells #[.string x.p, .int .i64 x.nb, .int .i64 x.le, .int .i64 x.mo, .int .i64 x.ne, .slice x.d.a x.d.n x.d.c] 32)))
      have sW : w.heap.size + 1 ≤ (wr.alloc (Obj.cells #[.string x.p, .int .i64 x.nb, .int .i64 x.le, .int .i64 x.mo, .int .i64 x.ne, .slice x.d.a x.d.n x.d.c] 32)).heap.size := (unhide SV).blk.lt
      clear SS BW
      go_wp2_with (at_builtin; refine wpList_app_elG (K := 1) (cells := stC) rfl _ _ 111 9 rfl Tryz.underlying111 infoStr18 rfl (by decide) (by decide) x.p [.string x.p] rfl (fun q hq => by match q, hq with | 0, _ => rfl) (fun u hu => by simp at hu; rcases hu with rfl; rfl) (unhide SV).own (unhide HL) rfl (by simp) rfl sW (by omega) ?_; intro g9 c9 w9 o9 gr9 _)
      have NX : Hid (StS w [.int .i64 s, .slice (some ⟨bb, off, none⟩) ls.length c1] w9 (.slice (some ⟨g9, 0, none⟩) (k + 1) c9) (ptL (zs.take (k + 1)))) := hide (by rw [unhide HNX, unhide HEK]; exact (unhide SV).app o9 gr9)
      clear o9 gr9 SV
      go_roundw
      case rel => exact ⟨k + 1, g9, c9, rfl, by go_num, by omega, NX⟩
      case measure => simp [intOf]; omega
    · have hi1 : ¬ (k : Int) < (ls.length : Int) := by omega
      have hkz : k = zs.length := by have := unhide HZL; omega
      have SF : Hid (StS w [.int .i64 s, .slice a1 ls.length c1] wr (.slice (some ⟨g, 0, none⟩) k c) (ptL zs)) := hide (by have := unhide SS; rwa [hkz, List.take_length, ← hkz] at this)
      have HLK : Hid ((ptL zs).length = k) := hide (by rw [ptL_len, hkz])
      clear SS hkz BW
      have HD : Hid (riseS (srtT (ptL zs)) = dfB zs) := hide (srtT_rise _)
      go_wp2_with (go_at_call 83; refine (sortTx_own _ _ _ _ (ptL zs) wr (unhide SF).own (unhide HLK) (by omega)).mono ?_; rintro e w1 ⟨rfl, o1, gr1⟩; have S1 : Hid (StS w [.int .i64 s, .slice a1 ls.length c1] w1 (.slice (some ⟨g, 0, none⟩) k c) (srtT (ptL zs))) := hide ((unhide SF).app o1 gr1); clear o1 gr1)
      go_wp2_with (go_at_call 84; refine (ascS_any _ _ _ (srtT (ptL zs)) w1 (unhide S1).own.row).mono ?_; rintro e w2 ⟨rfl, n2, hw2⟩; have B2 : Hid (Below w.heap.size w w2) := hide (by rw [hw2]; exact (unhide S1).bel.trans ((bel0d n2).mono (unhide S1).bel.size)); clear hw2)
      go_ret
      exact ⟨ret_bool (unhide HD), unhide B2⟩

end Go.Proofs.YtemodlgmjgdjpaaGreatDoor

namespace Go.Proofs.YtemodlgmjgdjpaaGreatDoor
open Go Go.RowKit

theorem haB_zero {zs : List Lc} {l : Lc} (h : l.ne = 0) : haB zs l = true := by simp [haB, h]
theorem haB_none {zs : List Lc} {l : Lc} (h : ¬ l.ne = 0) (h2 : fnF zs l.ne = -1) : haB zs l = false := by simp [haB, h, h2]
theorem haB_at {zs : List Lc} {l : Lc} {k : Nat} {b : Bool} (h : ¬ l.ne = 0) (h2 : fnF zs l.ne = (k : Int)) (h3 : decide ((elAt zs k).p ≠ l.p) = b) : haB zs l = b := by
  unfold haB
  rw [decide_eq_false h, h2, decide_eq_true (by omega : (k : Int) ≠ -1), Int.toNat_natCast, h3]; simp
set_option maxRecDepth 20000 in
set_option maxHeartbeats 4000000 in
theorem hasNeeds_any (s : Int) (a1 : Option Addr) (l1 c1 : Nat) (zs : List Lc) (x : Lx) (w : World) (hr : LsT w a1 l1 zs) :
    Calls Tryz.prog 77 #[.agg #[.int .i64 s, .slice a1 l1 c1], .agg #[.string x.p, .int .i64 x.nb, .int .i64 x.le, .int .i64 x.mo, .int .i64 x.ne, .slice x.d.a x.d.n x.d.c]] w fun e w' => e = .returned (.bool (haB zs (lxW x))) ∧ Below w.heap.size w w' := by
  have hzl := hr.len_eq
  obtain ⟨ls, e, hl⟩ := hr.ex
  have hz := hl.row.len_eq
  have HO := hide hl.row.six
  have HEL := hide hl.el
  have hsm := hl.row.small
  have HE := hide e
  have HZL := hide hzl
  have HT := hide hr
  subst hz
  clear hr hl e hzl
  obtain ⟨W, hW⟩ : ∃ W, W = (w.alloc (Obj.cells #[.int .i64 s, .slice a1 ls.length c1] 26)).alloc (Obj.cells #[.string x.p, .int .i64 x.nb, .int .i64 x.le, .int .i64 x.mo, .int .i64 x.ne, .slice x.d.a x.d.n x.d.c] 32) := ⟨_, rfl⟩
  have KA : Hid (Blk W w.heap.size [.int .i64 s, .slice a1 ls.length c1]) := hide (by rw [hW]; exact (Blk.new _ _).alloc _)
  have KX : Hid (Blk W (w.heap.size + 1) [.string x.p, .int .i64 x.nb, .int .i64 x.le, .int .i64 x.mo, .int .i64 x.ne, .slice x.d.a x.d.n x.d.c]) := hide (by
    rw [hW]
    have := Blk.new (w := (w.alloc (Obj.cells #[.int .i64 s, .slice a1 ls.length c1] 26))) [.string x.p, .int .i64 x.nb, .int .i64 x.le, .int .i64 x.mo, .int .i64 x.ne, .slice x.d.a x.d.n x.d.c] 32
    simpa using this)
  have BW : Hid (Below w.heap.size w W) := hide (by rw [hW]; exact bel2 _ _)
  have a0 : W.cell? ⟨w.heap.size, 0, none⟩ = some (.int .i64 s) := (unhide KA).c 0 (by simp)
  have a1' : W.cell? ⟨w.heap.size, 1, none⟩ = some (.slice a1 ls.length c1) := (unhide KA).c 1 (by simp)
  have x4 : W.cell? ⟨w.heap.size + 1, 4, none⟩ = some (.int .i64 x.ne) := (unhide KX).c 4 (by simp)
  have HW := hide hW
  have a0s := a0
  have a1s := a1'
  have x4s := x4
  rw [hW] at a0s a1s x4s
  clear hW
  by_cases q0 : x.ne = 0
  · have d0 : decide (x.ne = 0) = true := by simpa using q0
    have d1 : (x.ne == 0) = true := by simpa using q0
    have HR : Hid (haB zs (lxW x) = true) := hide (haB_zero q0)
    clear q0
    go_enter Tryz.func77, Tryz.ntmps77
    go_wp2_with fail
    go_ret
    exact ⟨ret_bool (unhide HR).symm, by have := unhide BW; rw [unhide HW] at this; exact this⟩
  · have d0 : decide (x.ne = 0) = false := by simpa using q0
    have d1 : (x.ne == 0) = false := by simpa using q0
    have CF : Hid (∀ F, fnF zs x.ne = F → Calls Tryz.prog 53 #[.agg #[.int .i64 s, .slice a1 ls.length c1], .int .i64 x.ne] W fun e w' => e = .returned (.int .i64 F) ∧ Below W.heap.size W w') := hide (fun F hF => by have := placeNb_any s a1 ls.length c1 zs x.ne W ((unhide HT).below (unhide BW)); rw [hF] at this; exact this)
    rcases fnF_cases zs x.ne with ⟨hF, _⟩ | ⟨k, hk, hF, _, _⟩
    · have HR : Hid (haB zs (lxW x) = false) := hide (haB_none q0 hF)
      have HFF := hide hF
      clear hF q0
      go_enter Tryz.func77, Tryz.ntmps77
      go_wp2_with fail
      rw [← unhide HW]
      clear HW a0s a1s x4s
      refine (unhide CF _ (unhide HFF)).mono ?_
      rintro e w2 ⟨rfl, b2⟩
      have HW2 := hide ((unhide BW).trans (b2.mono (unhide BW).size))
      have KA2 := hide ((unhide KA).below b2)
      have KX2 := hide ((unhide KX).below b2)
      clear b2 a0 a1' x4
      obtain ⟨ι, f, _, hbf, hall⟩ := belClass w2
      have HF := hide hbf
      have HAL := hide hall
      have HBF : Hid (∀ y, Below w.heap.size w (f y)) := hide (fun y => (unhide HW2).trans ((hbf y).mono (unhide HW2).size))
      have b1 : ∀ y, (f y).cell? ⟨w.heap.size, 1, none⟩ = some (.slice a1 ls.length c1) := fun y => ((unhide KA2).below (hbf y)).c 1 (by simp)
      have p0 : ∀ y, (f y).cell? ⟨w.heap.size + 1, 0, none⟩ = some (.string x.p) := fun y => ((unhide KX2).below (hbf y)).c 0 (by simp)
      clear hbf hall
      obtain ⟨x0, hx0⟩ := (unhide HAL) w2 (Below.refl _ _)
      rw [hx0]
      clear hx0
      go_wp2_with fail
      refine wp_region_bel (fun w' h => (unhide HAL) w' ((unhide HF _).trans (h.mono (unhide HF _).size))) (by kernel_rfl) (by kernel_rfl) ?_
      repeat (go_big_quiet_step (fail))
      refine wpQuiet_nil ?_
      rintro _ ⟨y, rfl⟩
      go_wp2_with fail
      go_ret
      exact ⟨ret_bool (unhide HR).symm, unhide HBF y⟩
    · have hlt : k < ls.length := by have := unhide HZL; omega
      rcases (unhide HO) with ⟨h0, _⟩ | ⟨bb, off, rfl, _, hc⟩
      · omega
      have hi1 : (k : Int) < (ls.length : Int) := by omega
      have hi0 : (0 : Int) ≤ (k : Int) := by omega
      have n1 : ((k : Int) != -1) = true := by simp only [bne_iff_ne, ne_eq]; omega
      have n2 : decide ((k : Int) = -1) = false := by simp only [decide_eq_false_iff_not]; omega
      obtain ⟨Y, hY⟩ : ∃ z, (elAt ls k).p = z := ⟨_, rfl⟩
      have ej : (elAt zs k).p = Y := by rw [elAt_lx (unhide HE) hlt, ← hY]; rfl
      have m0 := (hc k hlt).1
      rw [hY] at m0
      have HM := hide m0
      have HFF := hide hF
      clear hY hc m0
      by_cases e : Y = x.p
      · have HR : Hid (haB zs (lxW x) = false) := hide (haB_at q0 hF (by rw [ej, e]; simp [lxW]))
        subst e
        clear hF q0 ej
        go_enter Tryz.func77, Tryz.ntmps77
        go_wp2_with fail
        rw [← unhide HW]
        clear HW a0s a1s x4s
        refine (unhide CF _ (unhide HFF)).mono ?_
        rintro e w2 ⟨rfl, b2⟩
        have HW2 := hide ((unhide BW).trans (b2.mono (unhide BW).size))
        have KA2 := hide ((unhide KA).below b2)
        have KX2 := hide ((unhide KX).below b2)
        clear b2 a0 a1' x4
        obtain ⟨ι, f, _, hbf, hall⟩ := belClass w2
        have HF := hide hbf
        have HAL := hide hall
        have HBF : Hid (∀ y, Below w.heap.size w (f y)) := hide (fun y => (unhide HW2).trans ((hbf y).mono (unhide HW2).size))
        have b1 : ∀ y, (f y).cell? ⟨w.heap.size, 1, none⟩ = some (.slice (some ⟨bb, off, none⟩) ls.length c1) := fun y => ((unhide KA2).below (hbf y)).c 1 (by simp)
        have p0 : ∀ y, (f y).cell? ⟨w.heap.size + 1, 0, none⟩ = some (.string x.p) := fun y => ((unhide KX2).below (hbf y)).c 0 (by simp)
        have m0 : ∀ y, (f y).cell? ⟨bb, off + k * 6, none⟩ = some (.string x.p) := fun y => ((unhide HBF y).cell (block_lt_of_cell (unhide HM))).trans (unhide HM)
        clear hbf hall
        obtain ⟨x0, hx0⟩ := (unhide HAL) w2 (Below.refl _ _)
        rw [hx0]
        clear hx0
        go_wp2_with fail
        refine wp_region_bel (fun w' h => (unhide HAL) w' ((unhide HF _).trans (h.mono (unhide HF _).size))) (by kernel_rfl) (by kernel_rfl) ?_
        repeat (go_big_quiet_step (fail))
        refine wpQuiet_nil ?_
        rintro _ ⟨y, rfl⟩
        go_wp2_with fail
        go_ret
        exact ⟨ret_bool (unhide HR).symm, unhide HBF y⟩
      · have HR : Hid (haB zs (lxW x) = true) := hide (haB_at q0 hF (by rw [ej]; exact decide_eq_true e))
        have d2 := txl_ne' e
        clear hF q0 ej e
        go_enter Tryz.func77, Tryz.ntmps77
        go_wp2_with fail
        rw [← unhide HW]
        clear HW a0s a1s x4s
        refine (unhide CF _ (unhide HFF)).mono ?_
        rintro e w2 ⟨rfl, b2⟩
        have HW2 := hide ((unhide BW).trans (b2.mono (unhide BW).size))
        have KA2 := hide ((unhide KA).below b2)
        have KX2 := hide ((unhide KX).below b2)
        clear b2 a0 a1' x4
        obtain ⟨ι, f, _, hbf, hall⟩ := belClass w2
        have HF := hide hbf
        have HAL := hide hall
        have HBF : Hid (∀ y, Below w.heap.size w (f y)) := hide (fun y => (unhide HW2).trans ((hbf y).mono (unhide HW2).size))
        have b1 : ∀ y, (f y).cell? ⟨w.heap.size, 1, none⟩ = some (.slice (some ⟨bb, off, none⟩) ls.length c1) := fun y => ((unhide KA2).below (hbf y)).c 1 (by simp)
        have p0 : ∀ y, (f y).cell? ⟨w.heap.size + 1, 0, none⟩ = some (.string x.p) := fun y => ((unhide KX2).below (hbf y)).c 0 (by simp)
        have m0 : ∀ y, (f y).cell? ⟨bb, off + k * 6, none⟩ = some (.string Y) := fun y => ((unhide HBF y).cell (block_lt_of_cell (unhide HM))).trans (unhide HM)
        clear hbf hall
        obtain ⟨x0, hx0⟩ := (unhide HAL) w2 (Below.refl _ _)
        rw [hx0]
        clear hx0
        go_wp2_with fail
        refine wp_region_bel (fun w' h => (unhide HAL) w' ((unhide HF _).trans (h.mono (unhide HF _).size))) (by kernel_rfl) (by kernel_rfl) ?_
        repeat (go_big_quiet_step (fail))
        refine wpQuiet_nil ?_
        rintro _ ⟨y, rfl⟩
        go_wp2_with fail
        go_ret
        exact ⟨ret_bool (unhide HR).symm, unhide HBF y⟩
set_option maxRecDepth 20000 in
set_option maxHeartbeats 4000000 in
theorem eachBelongs_any (s : Int) (a1 : Option Addr) (l1 c1 : Nat) (zs : List Lc) (w : World) (hr : LsT w a1 l1 zs) :
    Calls Tryz.prog 52 #[.agg #[.int .i64 s, .slice a1 l1 c1]] w fun e w' => e = .returned (.bool (ebB s zs)) ∧ Below w.heap.size w w' := by
  have hzl := hr.len_eq
  obtain ⟨ls, e, hl⟩ := hr.ex
  have hz := hl.row.len_eq
  have HO := hide hl.row.six
  have HEL := hide hl.el
  have hsm := hl.row.small
  have HE := hide e
  have HZL := hide hzl
  have HT := hide hr
  subst hz
  clear hr hl e hzl
  obtain ⟨W, hW⟩ : ∃ W, W = (w.alloc (Obj.cells #[.int .i64 s, .slice a1 ls.length c1] 26)) := ⟨_, rfl⟩
  have K0 : Hid (Blk W w.heap.size [.int .i64 s, .slice a1 ls.length c1]) := hide (by rw [hW]; exact Blk.new _ _)
  have B0 : Hid (Below w.heap.size w W) := hide (by rw [hW]; exact bel1 _)
  have HW := hide hW
  clear hW
  go_enter Tryz.func52, Tryz.ntmps52
  go_wp2_with fail
  rw [← unhide HW]
  clear HW
  go_loopw [8] (fun i wr => ∃ k : Nat, i = .int .i64 k ∧ k ≤ ls.length ∧ Hid (Blk wr w.heap.size [.int .i64 s, .slice a1 ls.length c1]) ∧ Hid (Below w.heap.size w wr) ∧ Hid (∀ j, j < k → (inB s (elAt zs j).le (elAt zs j).mo && haB zs (elAt zs j)) = true)) (fun i _ => ls.length - (intOf i).toNat)
  case atStart => exact ⟨0, rfl, Nat.zero_le _, K0, B0, hide (fun j hj => by omega)⟩
  case round =>
    clear K0 B0
    obtain ⟨k, rfl, hk, KB, BW, AL⟩ := hrel
    by_cases hlt : k < ls.length
    · rcases (unhide HO) with ⟨h0, _⟩ | ⟨bb, off, rfl, _, hc⟩
      · omega
      have HC := hide hc
      obtain ⟨x, hx⟩ : ∃ x, elAt ls k = x := ⟨_, rfl⟩
      have el : elAt zs k = lxW x := by rw [← hx]; exact elAt_lx (unhide HE) hlt
      have hin := (unhide HEL) k hlt
      have q := hc k hlt
      rw [hx] at hin q
      have cl := fun {p : Addr} {v : Value} (h : w.cell? p = some v) => ((unhide BW).cell (p := p) (block_lt_of_cell h)).trans h
      have s0 := cl q.1
      have s1 := cl q.2.1
      have s2 := cl q.2.2.1
      have s3 := cl q.2.2.2.1
      have s4 := cl q.2.2.2.2.1
      have s5 := cl q.2.2.2.2.2
      have hi1 : (k : Int) < (ls.length : Int) := by omega
      have hi0 : (0 : Int) ≤ (k : Int) := by omega
      have HIN := hide hin
      have HEK := hide el
      clear q cl hx hc hin el
      have g0 : wr.cell? ⟨w.heap.size, 0, none⟩ = some (.int .i64 s) := (unhide KB).c 0 (by simp)
      obtain ⟨V, hV⟩ : ∃ V, V = wr.alloc (Obj.cells #[.string x.p, .int .i64 x.nb, .int .i64 x.le, .int .i64 x.mo, .int .i64 x.ne, .slice x.d.a x.d.n x.d.c] 32) := ⟨_, rfl⟩
      have KV : Hid (Blk V wr.heap.size [.string x.p, .int .i64 x.nb, .int .i64 x.le, .int .i64 x.mo, .int .i64 x.ne, .slice x.d.a x.d.n x.d.c]) := hide (by rw [hV]; exact Blk.new _ _)
      have bV : Below wr.heap.size wr V := by rw [hV]; exact bel1 _
      have KBV := hide ((unhide KB).below bV)
      have BV := hide ((unhide BW).trans (bV.mono (unhide BW).size))
      have c0v : V.cell? ⟨w.heap.size, 0, none⟩ = some (.int .i64 s) := (unhide KBV).c 0 (by simp)
      rw [hV] at c0v
      obtain ⟨ι, f, _, hbf, hall⟩ := belClass V
      have HF := hide hbf
      have HAL := hide hall
      have HBF : Hid (∀ y, Below w.heap.size w (f y)) := hide (fun y => (unhide BV).trans ((hbf y).mono (unhide BV).size))
      have v0 : ∀ y, (f y).cell? ⟨wr.heap.size, 0, none⟩ = some (.string x.p) := fun y => ((unhide KV).below (hbf y)).c 0 (by simp)
      have v1 : ∀ y, (f y).cell? ⟨wr.heap.size, 1, none⟩ = some (.int .i64 x.nb) := fun y => ((unhide KV).below (hbf y)).c 1 (by simp)
      have v2 : ∀ y, (f y).cell? ⟨wr.heap.size, 2, none⟩ = some (.int .i64 x.le) := fun y => ((unhide KV).below (hbf y)).c 2 (by simp)
      have v3 : ∀ y, (f y).cell? ⟨wr.heap.size, 3, none⟩ = some (.int .i64 x.mo) := fun y => ((unhide KV).below (hbf y)).c 3 (by simp)
      have v4 : ∀ y, (f y).cell? ⟨wr.heap.size, 4, none⟩ = some (.int .i64 x.ne) := fun y => ((unhide KV).below (hbf y)).c 4 (by simp)
      have v5 : ∀ y, (f y).cell? ⟨wr.heap.size, 5, none⟩ = some (.slice x.d.a x.d.n x.d.c) := fun y => ((unhide KV).below (hbf y)).c 5 (by simp)
      have b0 : ∀ y, (f y).cell? ⟨w.heap.size, 0, none⟩ = some (.int .i64 s) := fun y => ((unhide KBV).below (hbf y)).c 0 (by simp)
      have b1 : ∀ y, (f y).cell? ⟨w.heap.size, 1, none⟩ = some (.slice (some ⟨bb, off, none⟩) ls.length c1) := fun y => ((unhide KBV).below (hbf y)).c 1 (by simp)
      clear hbf hall bV KB BW
      obtain ⟨x0, hx0⟩ := (unhide HAL) V (Below.refl _ _)
      have HX0 : Hid (wr.alloc (Obj.cells #[.string x.p, .int .i64 x.nb, .int .i64 x.le, .int .i64 x.mo, .int .i64 x.ne, .slice x.d.a x.d.n x.d.c] 32) = f x0) := hide (hV.symm.trans hx0)
      clear hV hx0 KV
      go_wp2_with fail
      rw [unhide HX0]
      clear HX0 s0 s1 s2 s3 s4 s5 g0 c0v
      have CH : Hid (∀ y, Calls Tryz.prog 77 #[.agg #[.int .i64 s, .slice (some ⟨bb, off, none⟩) ls.length c1], .agg #[.string x.p, .int .i64 x.nb, .int .i64 x.le, .int .i64 x.mo, .int .i64 x.ne, .slice x.d.a x.d.n x.d.c]] (f y) fun e w' => e = .returned (.bool (haB zs (lxW x))) ∧ Below (f y).heap.size (f y) w') := hide (fun y => hasNeeds_any s _ _ c1 zs x (f y) ((unhide HT).below ((unhide HBF) y)))
      rcases two (inB s x.le x.mo) (haB zs (lxW x)) with ⟨q1, hv⟩ | ⟨q1, q2, hv⟩ | ⟨q1, q2, hv⟩
      · have HR : Hid (ebB s zs = false) := hide (ebB_no (i := k) (by have := unhide HZL; omega) (by rw [unhide HEK]; exact hv))
        clear hv AL CH
        go_wp2_with (go_at_call 76; refine (belQ (unhide HF) (unhide HAL) (hasF_is _ _ _ _ (by exact q1))).mono ?_; rintro e _ ⟨rfl, y, rfl⟩)
        go_ret
        exact ⟨ret_bool (unhide HR).symm, unhide HBF _⟩
      · have HR : Hid (ebB s zs = false) := hide (ebB_no (i := k) (by have := unhide HZL; omega) (by rw [unhide HEK]; exact hv))
        rw [q2] at CH
        clear hv AL q2
        go_wp2_with (first | (go_at_call 76; refine (belQ (unhide HF) (unhide HAL) (hasF_is _ _ _ _ (by exact q1))).mono ?_; rintro e _ ⟨rfl, y, rfl⟩) | (go_at_call 77; refine (belQ (unhide HF) (unhide HAL) (unhide CH _)).mono ?_; rintro e _ ⟨rfl, y, rfl⟩))
        go_ret
        exact ⟨ret_bool (unhide HR).symm, unhide HBF _⟩
      · have AL2 : Hid (∀ j, j < k + 1 → (inB s (elAt zs j).le (elAt zs j).mo && haB zs (elAt zs j)) = true) := hide (fun i hi => by
          by_cases e3 : i = k
          · rw [e3, unhide HEK]; exact hv
          · exact (unhide AL) i (by omega))
        rw [q2] at CH
        clear hv AL q2
        go_wp2_with (first | (go_at_call 76; refine (belQ (unhide HF) (unhide HAL) (hasF_is _ _ _ _ (by exact q1))).mono ?_; rintro e _ ⟨rfl, y, rfl⟩) | (go_at_call 77; refine (belQ (unhide HF) (unhide HAL) (unhide CH _)).mono ?_; rintro e _ ⟨rfl, y2, rfl⟩))
        go_roundw
        case rel => exact ⟨k + 1, by go_num, by omega, hide ((unhide KBV).below (unhide HF _)), hide ((unhide HBF) _), AL2⟩
        case measure => simp [intOf]; omega
    · have hi1 : ¬ (k : Int) < (ls.length : Int) := by omega
      have HR : Hid (ebB s zs = true) := hide (ebB_yes (fun i hi => (unhide AL) i (by have := unhide HZL; omega)))
      go_wp2_with fail
      go_ret
      exact ⟨ret_bool (unhide HR).symm, unhide BW⟩

end Go.Proofs.YtemodlgmjgdjpaaGreatDoor

namespace Go.Proofs.YtemodlgmjgdjpaaGreatDoor
open Go Go.RowKit

set_option maxRecDepth 20000 in
set_option maxHeartbeats 4000000 in
theorem loadsOk_any (a1 : Option Addr) (l1 c1 : Nat) (zs : List Lc) (w : World) (hr : LsT w a1 l1 zs) :
    Calls Tryz.prog 49 #[.slice a1 l1 c1] w fun e w' => e = .returned (.bool (lsB zs)) ∧ Below w.heap.size w w' := by
  have hzl := hr.len_eq
  obtain ⟨ls, e, hl⟩ := hr.ex
  have hz := hl.row.len_eq
  have HO := hide hl.row.six
  have HEL := hide hl.el
  have hsm := hl.row.small
  have HE := hide e
  have HZL := hide hzl
  have HT := hide hr
  subst hz
  clear hr hl e hzl
  by_cases hm : ls.length ≤ 30
  · have hmi : ¬ (30 : Int) < (ls.length : Int) := by omega
    go_enter Tryz.func49, Tryz.ntmps49
    go_wp2_with fail
    go_loopw [10] (fun i wr => ∃ k : Nat, i = .int .i64 k ∧ k ≤ ls.length ∧ Hid (Below w.heap.size w wr) ∧ Hid (∀ j, j < k → ldB (elAt zs j) = true)) (fun i _ => ls.length - (intOf i).toNat)
    case atStart => exact ⟨0, rfl, Nat.zero_le _, hide (Below.refl _ _), hide (fun j hj => by omega)⟩
    case round =>
      obtain ⟨k, rfl, hk, BW, AL⟩ := hrel
      by_cases hlt : k < ls.length
      · rcases (unhide HO) with ⟨h0, _⟩ | ⟨bb, off, rfl, _, hc⟩
        · omega
        have HC := hide hc
        obtain ⟨x, hx⟩ : ∃ x, elAt ls k = x := ⟨_, rfl⟩
        have el : elAt zs k = lxW x := by rw [← hx]; exact elAt_lx (unhide HE) hlt
        have hin := (unhide HEL) k hlt
        have q := hc k hlt
        rw [hx] at hin q
        have cl := fun {p : Addr} {v : Value} (h : w.cell? p = some v) => ((unhide BW).cell (p := p) (block_lt_of_cell h)).trans h
        have s0 := cl q.1
        have s1 := cl q.2.1
        have s2 := cl q.2.2.1
        have s3 := cl q.2.2.2.1
        have s4 := cl q.2.2.2.2.1
        have s5 := cl q.2.2.2.2.2
        have hi1 : (k : Int) < (ls.length : Int) := by omega
        have hi0 : (0 : Int) ≤ (k : Int) := by omega
        have HIN := hide hin
        have HEK := hide el
        clear q cl hx hc hin el
        have bV := bel1 (w := wr) (Obj.cells #[.string x.p, .int .i64 x.nb, .int .i64 x.le, .int .i64 x.mo, .int .i64 x.ne, .slice x.d.a x.d.n x.d.c] 32)
        have BV := hide ((unhide BW).trans (bV.mono (unhide BW).size))
        have CL : Hid (Calls Tryz.prog 10 #[.agg #[.string x.p, .int .i64 x.nb, .int .i64 x.le, .int .i64 x.mo, .int .i64 x.ne, .slice x.d.a x.d.n x.d.c]] (wr.alloc (Obj.cells #[.string x.p, .int .i64 x.nb, .int .i64 x.le, .int .i64 x.mo, .int .i64 x.ne, .slice x.d.a x.d.n x.d.c] 32)) fun e w' => e = .returned (.bool (ldB (lxW x))) ∧ Below (wr.alloc (Obj.cells #[.string x.p, .int .i64 x.nb, .int .i64 x.le, .int .i64 x.mo, .int .i64 x.ne, .slice x.d.a x.d.n x.d.c] 32)).heap.size (wr.alloc (Obj.cells #[.string x.p, .int .i64 x.nb, .int .i64 x.le, .int .i64 x.mo, .int .i64 x.ne, .slice x.d.a x.d.n x.d.c] 32)) w') := hide (implLoadOk_any x.p x.nb x.le x.mo x.ne _ _ _ x.d.zs _ ⟨(unhide HIN).sl.row.below (unhide BV)⟩ (unhide HIN).sz)
        cases q1 : ldB (lxW x) with
        | false =>
          have HR : Hid (lsB zs = false) := hide (lsB_no (i := k) (by have := unhide HZL; omega) (by rw [unhide HEK]; exact q1))
          rw [q1] at CL
          clear AL bV q1
          go_wp2_with (go_at_call 10; refine (unhide CL).mono ?_; rintro e w2 ⟨rfl, b2⟩; have B2 := hide ((unhide BV).trans (b2.mono (unhide BV).size)); clear b2)
          go_ret
          exact ⟨ret_bool (unhide HR).symm, unhide B2⟩
        | true =>
          have AL2 : Hid (∀ j, j < k + 1 → ldB (elAt zs j) = true) := hide (fun i hi => by
            by_cases e3 : i = k
            · rw [e3, unhide HEK]; exact q1
            · exact (unhide AL) i (by omega))
          rw [q1] at CL
          clear AL bV q1
          go_wp2_with (go_at_call 10; refine (unhide CL).mono ?_; rintro e w2 ⟨rfl, b2⟩; have B2 := hide ((unhide BV).trans (b2.mono (unhide BV).size)); clear b2)
          go_roundw
          case rel => exact ⟨k + 1, by go_num, by omega, B2, AL2⟩
          case measure => simp [intOf]; omega
      · have hi1 : ¬ (k : Int) < (ls.length : Int) := by omega
        have HR : Hid (lsB zs = true) := hide (lsB_yes (by have := unhide HZL; omega) (fun i hi => (unhide AL) i (by have := unhide HZL; omega)))
        go_wp2_with fail
        go_ret
        exact ⟨ret_bool (unhide HR).symm, unhide BW⟩
  · have hmi : (30 : Int) < (ls.length : Int) := by omega
    have HR : Hid (lsB zs = false) := hide (lsB_many (by have := unhide HZL; omega))
    go_enter Tryz.func49, Tryz.ntmps49
    go_wp2_with fail
    go_ret
    exact ⟨ret_bool (unhide HR).symm, Below.refl _ _⟩
set_option maxRecDepth 20000 in
set_option maxHeartbeats 4000000 in
theorem implAboardOk_any (s : Int) (a1 : Option Addr) (l1 c1 : Nat) (zs : List Lc) (w : World) (hr : AbIn w a1 l1 zs) :
    Calls Tryz.prog 11 #[.agg #[.int .i64 s, .slice a1 l1 c1]] w fun e w' => e = .returned (.bool (abB s zs)) ∧ Below w.heap.size w w' := by
  have HT := hide hr.r1
  have HQ := hide (aqB_is s zs)
  clear hr
  obtain ⟨W, hW⟩ : ∃ W, W = (w.alloc (Obj.cells #[.int .i64 s, .slice a1 l1 c1] 26)) := ⟨_, rfl⟩
  have K0 : Hid (Blk W w.heap.size [.int .i64 s, .slice a1 l1 c1]) := hide (by rw [hW]; exact Blk.new _ _)
  have B0 : Hid (Below w.heap.size w W) := hide (by rw [hW]; exact bel1 _)
  obtain ⟨ι, f, _, hbf, hall⟩ := belClass W
  have HF := hide hbf
  have HAL := hide hall
  have HBF : Hid (∀ y, Below w.heap.size w (f y)) := hide (fun y => (unhide B0).trans ((hbf y).mono (unhide B0).size))
  have b0 : ∀ y, (f y).cell? ⟨w.heap.size, 0, none⟩ = some (.int .i64 s) := fun y => ((unhide K0).below (hbf y)).c 0 (by simp)
  have b1 : ∀ y, (f y).cell? ⟨w.heap.size, 1, none⟩ = some (.slice a1 l1 c1) := fun y => ((unhide K0).below (hbf y)).c 1 (by simp)
  obtain ⟨x0, hx0⟩ := (unhide HAL) W (Below.refl _ _)
  have b0w := b0 x0
  rw [← hx0, hW] at b0w
  have HX0 : Hid ((w.alloc (Obj.cells #[.int .i64 s, .slice a1 l1 c1] 26)) = f x0) := hide (hW.symm.trans hx0)
  have C2 : Hid (∀ y, Calls Tryz.prog 49 #[.slice a1 l1 c1] (f y) fun e w' => e = .returned (.bool (lsB zs)) ∧ Below (f y).heap.size (f y) w') := hide (fun y => loadsOk_any _ _ _ zs (f y) ((unhide HT).below ((unhide HBF) y)))
  have C5 : Hid (∀ y, Calls Tryz.prog 52 #[.agg #[.int .i64 s, .slice a1 l1 c1]] (f y) fun e w' => e = .returned (.bool (ebB s zs)) ∧ Below (f y).heap.size (f y) w') := hide (fun y => eachBelongs_any s _ _ _ zs (f y) ((unhide HT).below ((unhide HBF) y)))
  clear hbf hall hW hx0 K0 B0
  rcases five (inB s 1 1000000) (lsB zs) (riseB (nbL zs)) (dfB zs) (ebB s zs) with ⟨q1, hv⟩ | ⟨q1, q2, hv⟩ | ⟨q1, q2, q3, hv⟩ | ⟨q1, q2, q3, q4, hv⟩ | ⟨q1, q2, q3, q4, q5, hv⟩ | ⟨q1, q2, q3, q4, q5, hv⟩
  all_goals
    have HE := hide ((show aqB s zs = _ from hv).symm.trans (unhide HQ))
    clear hv HQ
    try (have C3 : Hid (∀ y, Calls Tryz.prog 50 #[.agg #[.int .i64 s, .slice a1 l1 c1]] (f y) fun e w' => e = .returned (.bool (riseB (nbL zs))) ∧ Below (f y).heap.size (f y) w') := hide (fun y => numbersAscend_any s _ _ _ zs (f y) ((unhide HT).below ((unhide HBF) y)) q2))
    try (have C4 : Hid (∀ y, Calls Tryz.prog 51 #[.agg #[.int .i64 s, .slice a1 l1 c1]] (f y) fun e w' => e = .returned (.bool (dfB zs)) ∧ Below (f y).heap.size (f y) w') := hide (fun y => partsDiffer_any s _ _ _ zs (f y) ((unhide HT).below ((unhide HBF) y)) q2))
    try rw [q2] at C2
    try rw [q3] at C3
    try rw [q4] at C4
    try rw [q5] at C5
    try clear q2
    try clear q3
    try clear q4
    try clear q5
    go_enter Tryz.func11, Tryz.ntmps11
    go_wp2_with fail
    rw [unhide HX0]
    clear HX0 b0w
    go_wp2_with (first | (go_at_call 47; refine (belS (within_is _ _ _ _ (by exact q1))).mono ?_; rintro e _ ⟨rfl, y, rfl⟩) | (go_at_call 49; refine (belQ (unhide HF) (unhide HAL) (unhide C2 _)).mono ?_; rintro e _ ⟨rfl, y, rfl⟩) | (go_at_call 50; refine (belQ (unhide HF) (unhide HAL) (unhide C3 _)).mono ?_; rintro e _ ⟨rfl, y, rfl⟩) | (go_at_call 51; refine (belQ (unhide HF) (unhide HAL) (unhide C4 _)).mono ?_; rintro e _ ⟨rfl, y, rfl⟩) | (go_at_call 52; refine (belQ (unhide HF) (unhide HAL) (unhide C5 _)).mono ?_; rintro e _ ⟨rfl, y, rfl⟩))
    go_ret
    exact ⟨ret_bool (unhide HE), unhide HBF _⟩

end Go.Proofs.YtemodlgmjgdjpaaGreatDoor

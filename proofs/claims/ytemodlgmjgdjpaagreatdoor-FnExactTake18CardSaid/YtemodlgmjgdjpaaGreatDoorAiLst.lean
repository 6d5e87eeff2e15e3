/-
  Whether the numbers of loads rise, whether their parts differ, as the program asks it, with the library's sort of texts: plain answers; nothing that was there is written.
-/
import Derived.Test.YtemodlgmjgdjpaaGreatDoorMWrOrd
import Derived.Test.YtemodlgmjgdjpaaGreatDoorMAbTo
import Derived.Test.YtemodlgmjgdjpaaGreatDoorMSeSpec
import Derived.Test.YtemodlgmjgdjpaaGreatDoorAscS
import Derived.Test.YtemodlgmjgdjpaaGreatDoorMSortLayI
import Derived.Sort.OwnSorted
namespace Go.Proofs.YtemodlgmjgdjpaaGreatDoor
open Go Go.RowKit Go.Sort Go.Proofs

/-- Texts in the making, what is aboard in a block of its own. -/
structure StS (w : World) (P : List Value) (wr : World) (v : Value) (ts : List ByteArray) : Prop where
  own : OwnE 1 stC wr (w.heap.size + 1) 9 v ts
  blk : Blk wr w.heap.size P
  bel : Below w.heap.size w wr
theorem StS.app {w wr w9 : World} {P : List Value} {v v9 : Value} {ts ts9 : List ByteArray} (h : StS w P wr v ts) (o9 : OwnE 1 stC w9 (w.heap.size + 1) 9 v9 ts9) (gr : wr.grownBy w9 v.ownBlock) : StS w P w9 v9 ts9 :=
  ⟨o9, h.blk.apart gr (fun e => by have := (h.own.lies _ e.symm).1; omega), h.bel.grown gr h.bel.size (fun q hq => by have := (h.own.lies q hq).1; omega)⟩
theorem StS.below {w wr w9 : World} {P : List Value} {v : Value} {ts : List ByteArray} (h : StS w P wr v ts) (k : Below wr.heap.size wr w9) : StS w P w9 v ts :=
  ⟨h.own.below k, h.blk.below k, h.bel.trans (k.mono h.bel.size)⟩
theorem infoStr18 : (Tryz.prog.info? 9).map (fun i => (i.zero, i.size, i.bytes)) = some (some (.string ⟨#[]⟩), 1, 16) := by kernel_rfl
theorem texts_enc {ts : List ByteArray} {xs : List Value} (hl : xs.length = ts.length) (hx : ∀ j, j < ts.length → ∀ q, q < 1 → xs[j * 1 + q]? = some (stC (elAt ts j) q)) : xs = (ts.map (fun b => b.data.toList)).map encStr := by
  apply List.ext_getElem?
  intro j
  by_cases hj : j < ts.length
  · have := hx j hj 0 (by omega)
    rw [Nat.mul_one, Nat.add_zero] at this
    rw [this]
    simp [stC, elAt, hj, encStr]
  · rw [List.getElem?_eq_none (by omega), List.getElem?_eq_none (by simp; omega)]
/-- The library's sort of texts, over a list that a call has made. -/
theorem sortTx_own (base g cap n : Nat) (ts : List ByteArray) (w : World) (ho : OwnE 1 stC w base 9 (.slice (some ⟨g, 0, none⟩) n cap) ts) (hn : ts.length = n) (hsm : n ≤ 1000) :
    Calls Tryz.prog 83 #[.slice (some ⟨g, 0, none⟩) n cap] w fun e w' => e = .returned (.tuple #[]) ∧ OwnE 1 stC w' base 9 (.slice (some ⟨g, 0, none⟩) n cap) (srtT ts) ∧ w.grownBy w' (some g) := by
  subst hn
  obtain ⟨xs, hown, hx⟩ := ho.own
  have hl : xs.length = ts.length := by simpa using hown.1
  have hxe := texts_enc hl hx
  rcases hown.2 with ⟨e, _⟩ | ⟨g', cap', cur, hv, hb, hg, h1, h2, h3, h4⟩
  · cases e
  cases hv
  obtain ⟨ss, hss⟩ : ∃ ss, ss = ts.map (fun b => b.data.toList) := ⟨_, rfl⟩
  have hsl : ss.length = ts.length := by rw [hss]; simp
  rw [← hss] at hxe
  have hH : Holds encStr w g 0 ss.toArray := holds_of_block hg (by rw [hsl]; rw [hxe] at h4; simpa using h4)
  have hgl : g < w.heap.size := (Array.getElem?_eq_some_iff.1 hg).1
  have hc := Any.slices_Sort_string lays190 g 0 cap ss w hH hgl (by omega)
  rw [hsl] at hc
  refine hc.mono ?_
  rintro e w' ⟨rfl, nn, os, rfl⟩
  have hml : (ss.mergeSort fun x y => decide (x ≤ y)).length = ss.length := List.length_mergeSort ss
  refine ⟨rfl, ⟨(ss.mergeSort fun x y => decide (x ≤ y)).map encStr, ?_, fun j hj q hq => ?_⟩, grownBy_sorted _⟩
  · have := ownsRow_sorted (n := nn) (os := os) hml hb hg (by omega) h2 h3
    rw [srtT_len, ← hsl]; exact this
  · obtain rfl : q = 0 := by omega
    rw [srtT_len] at hj
    have hj2 : j < (ss.mergeSort fun x y => decide (x ≤ y)).length := by omega
    subst hss
    simp [stC, elAt, srtT, encStr, hj]
set_option maxRecDepth 20000 in
set_option maxHeartbeats 2000000 in
theorem numbersAscend_any (s : Int) (a1 : Option Addr) (l1 c1 : Nat) (zs : List Lc) (w : World) (hr : LsT w a1 l1 zs) (hls : lsB zs = true) :
    Calls Tryz.prog 50 #[.agg #[.int .i64 s, .slice a1 l1 c1]] w fun e w' => e = .returned (.bool (riseB (nbL zs))) ∧ Below w.heap.size w w' := by
  have hzl := hr.len_eq
  obtain ⟨ls, e, hl⟩ := hr.ex
  have hz := hl.row.len_eq
  have HO := hide hl.row.six
  have HEL := hide hl.el
  have hsm := hl.row.small
  have HE := hide e
  have HZL := hide hzl
  have HT := hide hr
  subst hz
  clear hr hl e hzl
  have HLS := hide hls
  have hm := (lsB_facts hls).1
  have hlm : ls.length ≤ 30 := by have := unhide HZL; omega
  obtain ⟨W, hW⟩ : ∃ W, W = (w.alloc (Obj.cells #[.int .i64 s, .slice a1 ls.length c1] 26)) := ⟨_, rfl⟩
  have K0 : Blk W w.heap.size [.int .i64 s, .slice a1 ls.length c1] := by rw [hW]; exact Blk.new _ _
  have B0 : Below w.heap.size w W := by rw [hW]; exact bel1 _
  have hWs : W.heap.size = w.heap.size + 1 := by rw [hW]; simp
  obtain ⟨W2, hW2⟩ : ∃ W2, W2 = W.alloc (Obj.cells #[] 3) := ⟨_, rfl⟩
  have S0 : Hid (SeS w [.int .i64 s, .slice a1 ls.length c1] W2 (.slice (some ⟨w.heap.size + 1, 0, none⟩) 0 0) (nbL (zs.take 0))) := hide ⟨by
    have := ownI_none (w := W) (w1 := W) (Nat.le_refl _)
    rw [hWs] at this; rw [hW2]; exact this, by rw [hW2]; exact K0.alloc _, by rw [hW2]; exact B0.trans ((bel1 _).mono B0.size)⟩
  have g0 : W2.cell? ⟨w.heap.size, 1, none⟩ = some (.slice a1 ls.length c1) := (unhide S0).blk.c 1 (by simp)
  rw [hW2, hW] at g0
  have HW : Hid (W2 = (w.alloc (Obj.cells #[.int .i64 s, .slice a1 ls.length c1] 26)).alloc (Obj.cells #[] 3)) := hide (by rw [hW2, hW])
  clear hW hm hls K0 B0 hWs hW2
  go_enter Tryz.func50, Tryz.ntmps50
  go_wp2_with fail
  rw [← unhide HW]
  clear HW g0
  go_loopw [3, 10] (fun v i wr => ∃ k g c : Nat, v = .slice (some ⟨g, 0, none⟩) k c ∧ i = .int .i64 k ∧ k ≤ ls.length ∧ Hid (SeS w [.int .i64 s, .slice a1 ls.length c1] wr (.slice (some ⟨g, 0, none⟩) k c) (nbL (zs.take k)))) (fun _ i _ => ls.length - (intOf i).toNat)
  case atStart => exact ⟨0, _, 0, rfl, rfl, Nat.zero_le _, S0⟩
  case round =>
    clear S0
    obtain ⟨k, g, c, rfl, rfl, hk, SS⟩ := hrel
    have BW := hide (unhide SS).bel
    by_cases hlt : k < ls.length
    · rcases (unhide HO) with ⟨h0, _⟩ | ⟨bb, off, rfl, _, hc⟩
      · omega
      have HC := hide hc
      obtain ⟨x, hx⟩ : ∃ x, elAt ls k = x := ⟨_, rfl⟩
      have el : elAt zs k = lxW x := by rw [← hx]; exact elAt_lx (unhide HE) hlt
      have hin := (unhide HEL) k hlt
      have q := hc k hlt
      rw [hx] at hin q
      have cl := fun {p : Addr} {v : Value} (h : w.cell? p = some v) => ((unhide BW).cell (p := p) (block_lt_of_cell h)).trans h
      have s0 := cl q.1
      have s1 := cl q.2.1
      have s2 := cl q.2.2.1
      have s3 := cl q.2.2.2.1
      have s4 := cl q.2.2.2.2.1
      have s5 := cl q.2.2.2.2.2
      have hi1 : (k : Int) < (ls.length : Int) := by omega
      have hi0 : (0 : Int) ≤ (k : Int) := by omega
      have HIN := hide hin
      have HEK := hide el
      clear q cl hx hc hin el
      have hzk : k < zs.length := by have := unhide HZL; omega
      have HL : Hid ((nbL (zs.take k)).length = k) := hide (by rw [nbL_len, List.length_take]; omega)
      have HNX := hide (nbL_take zs hzk)
      have hld : ldB (lxW x) = true := by rw [← unhide HEK]; exact (lsB_facts (unhide HLS)).2 k hzk
      have hnb : 1 ≤ x.nb ∧ x.nb ≤ 1000000 := (ldB_facts hld).2.2.1
      have HNB := hide (ldB_facts hld).2.1
      clear hld hzk
      have SV := hide ((unhide SS).below (bel1 (Obj.cells #[.string x.p, .int .i64 x.nb, .int .i64 x.le, .int .i64 x.mo, .int .i64 x.ne, .slice x.d.a x.d.n x.d.c] 32)))
      have sW : w.heap.size + 1 ≤ (wr.alloc (Obj.cells #[.string x.p, .int .i64 x.nb, .int .i64 x.le, .int .i64 x.mo, .int .i64 x.ne, .slice x.d.a x.d.n x.d.c] 32)).heap.size := (unhide SV).blk.lt
      clear SS BW
      go_wp2_with (at_builtin; refine wpList_app_int rfl _ _ rfl (n := k) x.nb (unhide SV).own (unhide HL) rfl (by simp) rfl sW (by omega) (by omega) ?_; intro g9 c9 w9 o9 gr9)
      have NX : Hid (SeS w [.int .i64 s, .slice (some ⟨bb, off, none⟩) ls.length c1] w9 (.slice (some ⟨g9, 0, none⟩) (k + 1) c9) (nbL (zs.take (k + 1)))) := hide (by rw [unhide HNX, unhide HEK]; exact (unhide SV).app o9 gr9)
      clear o9 gr9 SV
      go_roundw
      case rel => exact ⟨k + 1, g9, c9, rfl, by go_num, by omega, NX⟩
      case measure => simp [intOf]; omega
    · have hi1 : ¬ (k : Int) < (ls.length : Int) := by omega
      have hkz : k = zs.length := by have := unhide HZL; omega
      have SF : Hid (SeS w [.int .i64 s, .slice a1 ls.length c1] wr (.slice (some ⟨g, 0, none⟩) k c) (nbL zs)) := hide (by have := unhide SS; rwa [hkz, List.take_length, ← hkz] at this)
      have HLK : Hid ((nbL zs).length = k) := hide (by rw [nbL_len, hkz])
      clear SS hkz BW
      go_wp2_with (go_at_call 82; refine (ascending_any _ _ _ (nbL zs) wr (unhide SF).own.row).mono ?_; rintro e w2 ⟨rfl, n2, hw2⟩; have B2 : Hid (Below w.heap.size w w2) := hide (by rw [hw2]; exact (unhide SF).bel.trans ((bel0d n2).mono (unhide SF).bel.size)); clear hw2)
      go_ret
      exact ⟨rfl, unhide B2⟩
set_option maxRecDepth 20000 in
set_option maxHeartbeats 2000000 in
theorem partsDiffer_any (s : Int) (a1 : Option Addr) (l1 c1 : Nat) (zs : List Lc) (w : World) (hr : LsT w a1 l1 zs) (hls : lsB zs = true) :
    Calls Tryz.prog 51 #[.agg #[.int .i64 s, .slice a1 l1 c1]] w fun e w' => e = .returned (.bool (dfB zs)) ∧ Below w.heap.size w w' := by
  have hzl := hr.len_eq
  obtain ⟨ls, e, hl⟩ := hr.ex
  have hz := hl.row.len_eq
  have HO := hide hl.row.six
  have HEL := hide hl.el
  have hsm := hl.row.small
  have HE := hide e
  have HZL := hide hzl
  have HT := hide hr
  subst hz
  clear hr hl e hzl
  have HLS := hide hls
  have hm := (lsB_facts hls).1
  have hlm : ls.length ≤ 30 := by have := unhide HZL; omega
  obtain ⟨W, hW⟩ : ∃ W, W = (w.alloc (Obj.cells #[.int .i64 s, .slice a1 ls.length c1] 26)) := ⟨_, rfl⟩
  have K0 : Blk W w.heap.size [.int .i64 s, .slice a1 ls.length c1] := by rw [hW]; exact Blk.new _ _
  have B0 : Below w.heap.size w W := by rw [hW]; exact bel1 _
  have hWs : W.heap.size = w.heap.size + 1 := by rw [hW]; simp
  obtain ⟨W2, hW2⟩ : ∃ W2, W2 = W.alloc (Obj.cells #[] 9) := ⟨_, rfl⟩
  have S0 : Hid (StS w [.int .i64 s, .slice a1 ls.length c1] W2 (.slice (some ⟨w.heap.size + 1, 0, none⟩) 0 0) (ptL (zs.take 0))) := hide ⟨by
    have := ownE_none (K := 1) (cells := stC) (w := W) (w1 := W) (T := 9) (Nat.le_refl _)
    rw [hWs] at this; rw [hW2]; exact this, by rw [hW2]; exact K0.alloc _, by rw [hW2]; exact B0.trans ((bel1 _).mono B0.size)⟩
  have g0 : W2.cell? ⟨w.heap.size, 1, none⟩ = some (.slice a1 ls.length c1) := (unhide S0).blk.c 1 (by simp)
  rw [hW2, hW] at g0
  have HW : Hid (W2 = (w.alloc (Obj.cells #[.int .i64 s, .slice a1 ls.length c1] 26)).alloc (Obj.cells #[] 9)) := hide (by rw [hW2, hW])
  clear hW hm hls K0 B0 hWs hW2
  go_enter Tryz.func51, Tryz.ntmps51
  go_wp2_with fail
  rw [← unhide HW]
  clear HW g0
  go_loopw [3, 10] (fun v i wr => ∃ k g c : Nat, v = .slice (some ⟨g, 0, none⟩) k c ∧ i = .int .i64 k ∧ k ≤ ls.length ∧ Hid (StS w [.int .i64 s, .slice a1 ls.length c1] wr (.slice (some ⟨g, 0, none⟩) k c) (ptL (zs.take k)))) (fun _ i _ => ls.length - (intOf i).toNat)
  case atStart => exact ⟨0, _, 0, rfl, rfl, Nat.zero_le _, S0⟩
  case round =>
    clear S0
    obtain ⟨k, g, c, rfl, rfl, hk, SS⟩ := hrel
    have BW := hide (unhide SS).bel
    by_cases hlt : k < ls.length
    · rcases (unhide HO) with ⟨h0, _⟩ | ⟨bb, off, rfl, _, hc⟩
      · omega
      have HC := hide hc
      obtain ⟨x, hx⟩ : ∃ x, elAt ls k = x := ⟨_, rfl⟩
      have el : elAt zs k = lxW x := by rw [← hx]; exact elAt_lx (unhide HE) hlt
      have hin := (unhide HEL) k hlt
      have q := hc k hlt
      rw [hx] at hin q
      have cl := fun {p : Addr} {v : Value} (h : w.cell? p = some v) => ((unhide BW).cell (p := p) (block_lt_of_cell h)).trans h
      have s0 := cl q.1
      have s1 := cl q.2.1
      have s2 := cl q.2.2.1
      have s3 := cl q.2.2.2.1
      have s4 := cl q.2.2.2.2.1
      have s5 := cl q.2.2.2.2.2
      have hi1 : (k : Int) < (ls.length : Int) := by omega
      have hi0 : (0 : Int) ≤ (k : Int) := by omega
      have HIN := hide hin
      have HEK := hide el
      clear q cl hx hc hin el
      have hzk : k < zs.length := by have := unhide HZL; omega
      have HL : Hid ((ptL (zs.take k)).length = k) := hide (by rw [ptL_len, List.length_take]; omega)
      have HNX := hide (ptL_take zs hzk)
      have hld : ldB (lxW x) = true := by rw [← unhide HEK]; exact (lsB_facts (unhide HLS)).2 k hzk
      have hnb : 1 ≤ x.nb ∧ x.nb ≤ 1000000 := (ldB_facts hld).2.2.1
      have HNB := hide (ldB_facts hld).2.1
      clear hld hzk
      have SV := hide ((unhide SS).below (bel1 (Obj.cells #[.string x.p, .int .i64 x.nb, .int .i64 x.le, .int .i64 x.mo, .int .i64 x.ne, .slice x.d.a x.d.n x.d.c] 32)))
      have sW : w.heap.size + 1 ≤ (wr.alloc (Obj.cells #[.string x.p, .int .i64 x.nb, .int .i64 x.le, .int .i64 x.mo, .int .i64 x.ne, .slice x.d.a x.d.n x.d.c] 32)).heap.size := (unhide SV).blk.lt
      clear SS BW
      go_wp2_with (at_builtin; refine wpList_app_elG (K := 1) (cells := stC) rfl _ _ 111 9 rfl Tryz.underlying111 infoStr18 rfl (by decide) (by decide) x.p [.string x.p] rfl (fun q hq => by match q, hq with | 0, _ => rfl) (fun u hu => by simp at hu; rcases hu with rfl; rfl) (unhide SV).own (unhide HL) rfl (by simp) rfl sW (by omega) ?_; intro g9 c9 w9 o9 gr9 _)
      have NX : Hid (StS w [.int .i64 s, .slice (some ⟨bb, off, none⟩) ls.length c1] w9 (.slice (some ⟨g9, 0, none⟩) (k + 1) c9) (ptL (zs.take (k + 1)))) := hide (by rw [unhide HNX, unhide HEK]; exact (unhide SV).app o9 gr9)
      clear o9 gr9 SV
      go_roundw
      case rel => exact ⟨k + 1, g9, c9, rfl, by go_num, by omega, NX⟩
      case measure => simp [intOf]; omega
    · have hi1 : ¬ (k : Int) < (ls.length : Int) := by omega
      have hkz : k = zs.length := by have := unhide HZL; omega
      have SF : Hid (StS w [.int .i64 s, .slice a1 ls.length c1] wr (.slice (some ⟨g, 0, none⟩) k c) (ptL zs)) := hide (by have := unhide SS; rwa [hkz, List.take_length, ← hkz] at this)
      have HLK : Hid ((ptL zs).length = k) := hide (by rw [ptL_len, hkz])
      clear SS hkz BW
      have HD : Hid (riseS (srtT (ptL zs)) = dfB zs) := hide (srtT_rise _)
      go_wp2_with (go_at_call 83; refine (sortTx_own _ _ _ _ (ptL zs) wr (unhide SF).own (unhide HLK) (by omega)).mono ?_; rintro e w1 ⟨rfl, o1, gr1⟩; have S1 : Hid (StS w [.int .i64 s, .slice a1 ls.length c1] w1 (.slice (some ⟨g, 0, none⟩) k c) (srtT (ptL zs))) := hide ((unhide SF).app o1 gr1); clear o1 gr1)
      go_wp2_with (go_at_call 84; refine (ascS_any _ _ _ (srtT (ptL zs)) w1 (unhide S1).own.row).mono ?_; rintro e w2 ⟨rfl, n2, hw2⟩; have B2 : Hid (Below w.heap.size w w2) := hide (by rw [hw2]; exact (unhide S1).bel.trans ((bel0d n2).mono (unhide S1).bel.size)); clear hw2)
      go_ret
      exact ⟨ret_bool (unhide HD), unhide B2⟩

end Go.Proofs.YtemodlgmjgdjpaaGreatDoor

/-
  The law FnFrames returns true at every list of bytes and writes nothing that was there: the walk. No condition.
-/
import Derived.Test.YtnhcmokkankcmafAtFun
import Derived.Test.YtnhcmokkankcmafDrawWd
import Derived.Test.YtnhcmokkankcmafFrFacts
import Derived.Test.YtnhcmokkankcmafBuPutI
import Derived.Test.YtnhcmokkankcmafBuGtI
import Derived.Test.YtnhcmokkankcmafThen
import Derived.Laws.BytesString
import Derived.Laws.Cells
namespace Go.Proofs.Ytnhcmokkankcmaf
open Go Go.RowKit

/-- The text of some bytes. -/
def byStr (ds : List Int) : ByteArray := ds.foldl (fun r n => r.push (UInt8.ofNat n.toNat)) ByteArray.empty
theorem conv_str {w : World} {p : Option Addr} {n : Nat} {ds : List Int} (h : RowE 1 byC w p n ds) (q : Nat) : (convert 22 9 (.slice p n q)).run Try.prog w = .ok (.string (byStr ds)) w := by
  rw [run_convert_bytes_string w 22 9 5 p n q Try.underlying22 Try.underlying5 Try.underlying9]
  have hl := h.len_eq
  subst hl
  rcases h.open1 with ⟨h0, h1⟩ | ⟨b, off, rfl, _, hc⟩
  · subst h1
    cases p with
    | none => rfl
    | some a => exact run_bytesToString w a 0 q [] (by simp [loadCells, loadCellsFrom])
  · refine run_bytesToString w ⟨b, off, none⟩ ds.length q ds ?_
    rw [show ds.length = (ds.map (Value.int .u8)).length by simp]
    refine run_loadCells_list w ⟨b, off, none⟩ (ds.map (Value.int .u8)) (fun j v hj => ?_)
    have hj2 : j < ds.length := by
      rcases Nat.lt_or_ge j ds.length with k | k
      · exact k
      · rw [List.getElem?_eq_none (by simpa using k)] at hj; cases hj
    have := hc j hj2
    simp only [List.getElem?_map, List.getElem?_eq_getElem hj2, Option.map_some, Option.some.injEq] at hj
    rw [addr_addR, this, ← hj]
    simp [byC, elAt, hj2]

set_option maxRecDepth 20000 in
set_option maxHeartbeats 1000000 in
theorem lawFnFrames_big (a : Option Addr) (len cap : Nat) (w : World) (h : (1048576 : Int) < len) :
    Calls Try.prog 4 #[.slice a len cap] w fun e w' => e = .returned (.bool true) ∧ Below w.heap.size w w' := by
  have hd : decide ((1048576 : Int) < len) = true := by simpa using h
  go_enter Try.func4, Try.ntmps4
  go_wp2_with fail
  refine (big_any a len cap _).mono ?_
  rintro e w' ⟨rfl, hw⟩
  subst w'
  rw [hd]
  go_wp2
  go_ret
  exact ⟨rfl, Below.refl _ _⟩

set_option maxRecDepth 20000 in
set_option maxHeartbeats 4000000 in
theorem lawFnFrames_small (a : Option Addr) (len cap : Nat) (w : World) (h : ¬ (1048576 : Int) < len) (hb : Bytes w a len) (hin : ∀ b off, a = some ⟨b, off, none⟩ → b < w.heap.size) :
    Calls Try.prog 4 #[.slice a len cap] w fun e w' => e = .returned (.bool true) ∧ Below w.heap.size w w' := by
  have hd0 : decide ((1048576 : Int) < len) = false := by simpa using h
  obtain ⟨f, hf, hat⟩ := at_fun a len cap w hb (by omega)
  have HAT := hide hat
  have hf1 := hf 1
  have hf2 := hf 2
  have HBB := hide hb
  have HIN := hide hin
  clear hb h hat hf hin
  go_enter Try.func4, Try.ntmps4
  go_wp2_with fail
  refine (big_any a len cap _).mono ?_
  rintro e w' ⟨rfl, hw⟩
  subst w'
  rw [hd0]
  go_wp2_with fail
  refine (drawPut16_any a len cap w (unhide HBB) (unhide HIN)).mono ?_
  rintro e W1 ⟨lk, sq, p, n, q, ds, rfl, rw1, hby, b1⟩
  have hn := rw1.len_eq
  have hsm := rw1.small
  subst hn
  obtain ⟨V1, hV1⟩ : ∃ V, V = W1.alloc (Obj.cells #[.int .i64 lk, .int .i64 sq, .slice p ds.length q] 30) := ⟨_, rfl⟩
  have bV1 : Below W1.heap.size W1 V1 := by rw [hV1]; exact bel1 _
  have K1 : Hid (Blk V1 W1.heap.size [.int .i64 lk, .int .i64 sq, .slice p ds.length q]) := hide (by rw [hV1]; exact Blk.new _ _)
  obtain ⟨X1, hX1⟩ : ∃ X, W1.heap.size = X := ⟨_, rfl⟩
  rw [hX1] at K1
  have HV1 := hide hV1
  have HX1 := hide hX1
  clear hV1 hX1
  have RW := hide (rw1.below bV1)
  have BB := hide (b1.trans (bV1.mono b1.size))
  have HBY := hide hby
  clear rw1 hby b1 bV1
  have y0 : V1.cell? ⟨W1.heap.size, 0, none⟩ = some (.int .i64 lk) := by rw [unhide HX1]; exact (unhide K1).c 0 (by simp)
  have y1 : V1.cell? ⟨W1.heap.size, 1, none⟩ = some (.int .i64 sq) := by rw [unhide HX1]; exact (unhide K1).c 1 (by simp)
  have y2 : V1.cell? ⟨W1.heap.size, 2, none⟩ = some (.slice p ds.length q) := by rw [unhide HX1]; exact (unhide K1).c 2 (by simp)
  rw [unhide HV1] at y0 y1 y2
  go_wp2_with fail
  rw [← unhide HV1, unhide HX1]
  rw [← unhide HV1] at y0 y1 y2
  clear HV1
  refine (implPut16_row lk sq p ds.length q ds V1 (unhide RW)).mono ?_
  rintro e W2 ⟨fp, fq, rfl, of, b2⟩
  have RW := hide ((unhide RW).below b2)
  have K1 := hide ((unhide K1).below b2)
  have BB := hide ((unhide BB).trans (b2.mono (unhide BB).size))
  have OF := hide of
  clear of b2 y0 y1 y2 HX1
  obtain ⟨ok, hok⟩ : ∃ z, wdB lk sq ds.length = z := ⟨_, rfl⟩
  rw [hok]
  have HOK := hide hok
  have y0 : W2.cell? ⟨X1, 0, none⟩ = some (.int .i64 lk) := (unhide K1).c 0 (by simp)
  have y1 : W2.cell? ⟨X1, 1, none⟩ = some (.int .i64 sq) := (unhide K1).c 1 (by simp)
  have y2 : W2.cell? ⟨X1, 2, none⟩ = some (.slice p ds.length q) := (unhide K1).c 2 (by simp)
  go_wp2_with fail
  refine (specWordOk_is lk sq p ds.length q W2 hsm (unhide HOK)).mono ?_
  rintro e W3 ⟨rfl, b3⟩
  have RW := hide ((unhide RW).below b3)
  have K1 := hide ((unhide K1).below b3)
  have OF := hide ((unhide OF).below b3)
  have BB := hide ((unhide BB).trans (b3.mono (unhide BB).size))
  clear b3 y0 y1 y2 hok
  have qo : (ok != ok) = false := by simp
  have y0 : W3.cell? ⟨X1, 0, none⟩ = some (.int .i64 lk) := (unhide K1).c 0 (by simp)
  have y1 : W3.cell? ⟨X1, 1, none⟩ = some (.int .i64 sq) := (unhide K1).c 1 (by simp)
  have y2 : W3.cell? ⟨X1, 2, none⟩ = some (.slice p ds.length q) := (unhide K1).c 2 (by simp)
  go_wp2_with fail
  refine (implWordOk_is lk sq p ds.length q W3 hsm (unhide HOK)).mono ?_
  rintro e W4 ⟨rfl, b4⟩
  have RW := hide ((unhide RW).below b4)
  have K1 := hide ((unhide K1).below b4)
  have OF := hide ((unhide OF).below b4)
  have BB := hide ((unhide BB).trans (b4.mono (unhide BB).size))
  clear b4 y0 y1 y2
  cases ok with
  | false =>
    have hlen0 : (ptL lk sq ds).length = 0 := by rw [ptL, unhide HOK]; rfl
    rw [hlen0]
    go_wp2_with fail
    go_ret
    exact ⟨rfl, unhide BB⟩
  | true =>
    have HFR := hide (frL_is (unhide HOK))
    have hfl : (ptL lk sq ds).length = ds.length + 4 := by rw [unhide HFR, frL_len]
    rw [hfl]
    have OF : Hid (OwnE 1 byC W4 V1.heap.size 5 (.slice fp (ds.length + 4) fq) (frL lk sq ds)) := hide (by have := unhide OF; rw [hfl, unhide HFR] at this; exact this)
    have hwd := wdB_facts (unhide HOK)
    have RF := hide (unhide OF).row
    obtain ⟨FB, hFB⟩ : ∃ z, frL lk sq ds = z := ⟨_, rfl⟩
    have HBK := hide (fr_back (unhide HOK))
    have HBF := hide (frL_byte (unhide HOK) (unhide HBY))
    have HHU := fun (k : Nat) (b : Int) => @fr_hurt lk sq ds k b (unhide HOK) (unhide HBY)
    have HSH := hide (fr_short (unhide HOK))
    rw [hFB] at OF RF HBK HBF HHU HSH
    have HHU := hide HHU
    have hFl : FB.length = ds.length + 4 := by rw [← hFB]; exact frL_len lk sq ds
    have hcap : ds.length + 4 ≤ fq := by
      obtain ⟨a', cap', e, hle, _⟩ := (unhide OF).slice
      simp only [Value.slice.injEq] at e
      omega
    have HFB := hide hFB
    have HFL := hide hFl
    clear hFB hfl HFR
    go_wp2_with fail
    refine (implGet16_row fp (ds.length + 4) fq FB W4 (unhide RF) (fun i hi => (unhide HBF) i (by have := unhide HFL; omega)) hcap).mono ?_
    rintro e W5 ⟨p2, q2, rfl, o2, b5⟩
    rw [(unhide HBK).1, (unhide HBK).2.1, (unhide HBK).2.2.1, (unhide HBK).2.2.2] at *
    have RW := hide ((unhide RW).below b5)
    have K1 := hide ((unhide K1).below b5)
    have OF := hide ((unhide OF).below b5)
    have BB := hide ((unhide BB).trans (b5.mono (unhide BB).size))
    have O2 := hide o2
    clear o2 b5 RF
    obtain ⟨V2, hV2⟩ : ∃ V, V = W5.alloc (Obj.cells #[.int .i64 lk, .int .i64 sq, .slice p2 ds.length q2] 30) := ⟨_, rfl⟩
    have bV2 : Below W5.heap.size W5 V2 := by rw [hV2]; exact bel1 _
    have K2 : Hid (Blk V2 W5.heap.size [.int .i64 lk, .int .i64 sq, .slice p2 ds.length q2]) := hide (by rw [hV2]; exact Blk.new _ _)
    obtain ⟨X2, hX2⟩ : ∃ X, W5.heap.size = X := ⟨_, rfl⟩
    rw [hX2] at K2
    have HV2 := hide hV2
    have HX2 := hide hX2
    clear hV2 hX2
    have RW := hide ((unhide RW).below bV2)
    have R2 := hide ((unhide O2).row.below bV2)
    have K1 := hide ((unhide K1).below bV2)
    have OF := hide ((unhide OF).below bV2)
    have BB := hide ((unhide BB).trans (bV2.mono (unhide BB).size))
    have cs1 := conv_str (unhide RW) q
    have cs2 := conv_str (unhide R2) q2
    clear bV2
    have y0 : V2.cell? ⟨X1, 0, none⟩ = some (.int .i64 lk) := (unhide K1).c 0 (by simp)
    have y1 : V2.cell? ⟨X1, 1, none⟩ = some (.int .i64 sq) := (unhide K1).c 1 (by simp)
    have y2 : V2.cell? ⟨X1, 2, none⟩ = some (.slice p ds.length q) := (unhide K1).c 2 (by simp)
    have x0 : V2.cell? ⟨W5.heap.size, 0, none⟩ = some (.int .i64 lk) := by rw [unhide HX2]; exact (unhide K2).c 0 (by simp)
    have x1 : V2.cell? ⟨W5.heap.size, 1, none⟩ = some (.int .i64 sq) := by rw [unhide HX2]; exact (unhide K2).c 1 (by simp)
    have x2 : V2.cell? ⟨W5.heap.size, 2, none⟩ = some (.slice p2 ds.length q2) := by rw [unhide HX2]; exact (unhide K2).c 2 (by simp)
    rw [unhide HV2] at y0 y1 y2 x0 x1 x2 cs1 cs2
    have ql : (lk != lk) = false := by simp
    have qs : (sq != sq) = false := by simp
    go_upto_region 12 with fail
    rw [← unhide HV2]
    clear y0 y1 y2 x0 x1 x2 cs1 cs2 HV2 HX2 O2 R2 K2 K1 RW
    go_wp2_with fail
    refine ((unhide HAT) 1 _ rfl (by omega) _ (unhide BB)).mono ?_
    rintro e w9 ⟨rfl, hw⟩
    subst w9
    have hz0 : ¬ ((ds.length + 4 : Nat) : Int) = 0 := by omega
    have hm0 : 0 ≤ f 1 % ((ds.length + 4 : Nat) : Int) := Int.emod_nonneg _ (by omega)
    have hm1 : f 1 % ((ds.length + 4 : Nat) : Int) < ((ds.length + 4 : Nat) : Int) := Int.emod_lt_of_pos _ (by omega)
    obtain ⟨N4, hN4⟩ : ∃ N, ds.length + 4 = N := ⟨_, rfl⟩
    rw [hN4] at hz0 hm0 hm1 hcap OF ⊢
    obtain ⟨k, hk⟩ : ∃ k : Nat, f 1 % (N4 : Int) = (k : Int) := ⟨(f 1 % (N4 : Int)).toNat, by omega⟩
    rw [hk] at hm0 hm1
    have hkt : (f 1).tmod (N4 : Int) = (k : Int) := by rw [Int.tmod_eq_emod_of_nonneg hf1.1]; exact hk
    have hkl : k < N4 := by omega
    have HN4 := hide hN4
    have hN36 : N4 ≤ 36 := by omega
    clear hN4 hk
    have BX : Hid (Below w.heap.size w (V2.alloc (Obj.cells #[] 5))) := hide ((unhide BB).alloc (unhide BB).size _)
    have HO : Hid (OwnE 1 byC (V2.alloc (Obj.cells #[] 5)) V2.heap.size 5 (.slice (some ⟨V2.heap.size, 0, none⟩) 0 0) []) := hide (byE_lit V2 [] (Nat.le_refl _) (by simp))
    have OFX := hide ((unhide OF).below (bel1 (w := V2) (Obj.cells #[] 5)))
    go_wp2_with (at_builtin; refine wpList_app_by rfl _ _ rfl (unhide HO) rfl rfl fp N4 fq FB rfl (unhide OFX).row (by omega) (by simp) ?_; intro g9 c9 w9 o9 gr9 hg9)
    have OH : Hid (OwnE 1 byC w9 V2.heap.size 5 (.slice (some ⟨g9, 0, none⟩) N4 c9) FB) := hide (by rw [Nat.zero_add, List.nil_append] at o9; exact o9)
    have hVw := (unhide BB).size
    have BB9 := hide ((unhide BX).grown gr9 (unhide BX).size (fun z hz => by cases hz; exact hVw))
    have OF9 : Hid (OwnE 1 byC w9 V1.heap.size 5 (.slice fp N4 fq) FB) := hide ((unhide OFX).far gr9 (fun z hz e => by have e : z = V2.heap.size := Option.some.inj e; have := ((unhide OF).lies z hz).2; omega))
    have hgF : Hid ((Value.slice fp N4 fq).ownBlock ≠ some g9) := hide (fun e => by have h1 := ((unhide OF).lies g9 e).2; have h2 := ((unhide OH).lies g9 rfl).1; omega)
    clear o9 gr9 hg9 BX HO OFX OF BB
    try simp only [Nat.zero_add]
    have hFL2 : FB.length = N4 := (unhide HFL).trans (unhide HN4)
    have hc1 := (unhide OH).here1 hFL2 k hkl
    obtain ⟨vb, hvb⟩ : ∃ z, elAt FB k = z := ⟨_, rfl⟩
    rw [hvb] at hc1
    have hvb2 : 0 ≤ vb ∧ vb ≤ 255 := by rw [← hvb]; exact (unhide HBF) k (by omega)
    obtain ⟨nb, hnb⟩ : ∃ z, (vb + (1 + f 2 % 255)) % 256 = z := ⟨_, rfl⟩
    have hnb2 : (0 ≤ nb ∧ nb ≤ 255) ∧ nb ≠ vb := by omega
    obtain ⟨ι, fW, _, hcb, hall⟩ := belClass w9
    have m0 : ∀ x, (fW x).cell? ⟨g9, k, none⟩ = some (.int .u8 vb) := fun x => ((hcb x).cell (block_lt_of_cell hc1.1)).trans hc1.1
    have m1 : ∀ x, (fW x).frozen? ⟨g9, k, none⟩ = false := fun x => ((hcb x).frozen (p := ⟨g9, k, none⟩) (block_lt_of_cell hc1.1)).trans hc1.2
    have HB := hide hcb
    have HA := hide hall
    have ht255 : (f 2).tmod 255 = f 2 % 255 := Int.tmod_eq_emod_of_nonneg hf2.1
    have ht0 : 0 ≤ f 2 % 255 ∧ f 2 % 255 ≤ 254 := by omega
    have ht1 : (1 + f 2 % 255) % 256 = 1 + f 2 % 255 := by omega
    have hk0 : (0 : Int) ≤ (k : Int) := by omega
    have hk1 : (k : Int) < (N4 : Int) := by omega
    have HVB := hide hvb
    have HNB := hide hnb
    clear hcb hall hc1 hvb
    refine wp_region_then (unhide HA) (by kernel_rfl) (by kernel_rfl) (by kernel_rfl) ?_
    dsimp only [swapLast, lastOf]
    repeat (go_big_quiet_step ((go_at_call 16; exact belS ((unhide HAT) 2 _ rfl (by omega) _ ((unhide BB9).trans ((unhide HB _).mono (unhide BB9).size))))))
    refine wpQuiet_nil ?_
    rintro _ ⟨y, rfl⟩
    go_simp
    obtain ⟨U, hU⟩ : ∃ U, U = (fW y).setCell ⟨g9, k, none⟩ (.int .u8 nb) := ⟨_, rfl⟩
    have bfy := (unhide BB9).trans ((unhide HB y).mono (unhide BB9).size)
    have OHU : Hid (OwnE 1 byC U V2.heap.size 5 (.slice (some ⟨g9, 0, none⟩) N4 c9) (FB.set k nb)) := hide (by rw [hU]; exact ((unhide OH).below (unhide HB y)).set1 hFL2 k hkl _ _ rfl)
    have OFU : Hid (OwnE 1 byC U V1.heap.size 5 (.slice fp N4 fq) FB) := hide (by rw [hU]; exact ((unhide OF9).below (unhide HB y)).set_other _ (unhide hgF))
    have BBU : Hid (Below w.heap.size w U) := hide (by rw [hU]; exact bfy.setCell (by have := ((unhide OH).lies g9 rfl).1; show w.heap.size ≤ g9; omega) _)
    have hnn := unhide HNB
    try rw [hnn]
    rw [← hU]
    have hcode := (unhide HHU) k nb (by have := unhide HN4; omega) hnb2.1 (by rw [unhide HVB]; exact hnb2.2)
    have hbyU : Hid (∀ i, i < N4 → 0 ≤ elAt (FB.set k nb) i ∧ elAt (FB.set k nb) i ≤ 255) := hide (fun i hi => by
      rw [elAt_set _ _ _ _ (by omega)]
      split
      · exact hnb2.1
      · exact (unhide HBF) i (by omega))
    have hcU : N4 ≤ c9 := by
      obtain ⟨a', cap', e, hle, _⟩ := (unhide OHU).slice
      simp only [Value.slice.injEq] at e
      omega
    obtain ⟨cc, hcc⟩ : ∃ z, gtC (FB.set k nb) = z := ⟨_, rfl⟩
    rw [hcc] at hcode
    have hcc0 : (cc != 0) = true := by simpa using hcode
    have HCC := hide hcc
    clear hU bfy hcc m0 m1 hnn OH OF9
    go_wp2_with fail
    refine (implGet16_row _ N4 c9 (FB.set k nb) U (unhide OHU).row (unhide hbyU) hcU).mono ?_
    rintro e W6 ⟨p6, q6, rfl, o6, b6⟩
    rw [unhide HCC] at *
    have OFU := hide ((unhide OFU).below b6)
    have BBU := hide ((unhide BBU).trans (b6.mono (unhide BBU).size))
    obtain ⟨gl6, hgl6⟩ : ∃ z, gtL (FB.set k nb) = z := ⟨_, rfl⟩
    obtain ⟨gs6, hgs6⟩ : ∃ z, gtS (FB.set k nb) = z := ⟨_, rfl⟩
    obtain ⟨gd6, hgd6⟩ : ∃ z, (gtD (FB.set k nb)).length = z := ⟨_, rfl⟩
    rw [hgl6, hgs6, hgd6]
    clear o6 b6 hgl6 hgs6 hgd6
    obtain ⟨V3, hV3⟩ : ∃ V, V = W6.alloc (Obj.cells #[.int .i64 gl6, .int .i64 gs6, .slice p6 gd6 q6] 30) := ⟨_, rfl⟩
    have bV3 : Below W6.heap.size W6 V3 := by rw [hV3]; exact bel1 _
    have K3 : Hid (Blk V3 W6.heap.size [.int .i64 gl6, .int .i64 gs6, .slice p6 gd6 q6]) := hide (by rw [hV3]; exact Blk.new _ _)
    obtain ⟨X3, hX3⟩ : ∃ X, W6.heap.size = X := ⟨_, rfl⟩
    rw [hX3] at K3
    have HV3 := hide hV3
    have HX3 := hide hX3
    clear hV3 hX3
    have OFU := hide ((unhide OFU).below bV3)
    have BBU := hide ((unhide BBU).trans (bV3.mono (unhide BBU).size))
    clear bV3
    have hNm : (N4 : Int) - 1 = ((N4 - 1 : Nat) : Int) := by have := unhide HN4; omega
    obtain ⟨M4, hM4⟩ : ∃ M, N4 - 1 = M := ⟨_, rfl⟩
    rw [hM4] at hNm
    have hM0 : (0 : Int) ≤ (M4 : Int) := by omega
    have hMc : (M4 : Int) ≤ (fq : Int) := by omega
    have RT := hide (rowE_takeB (unhide OFU).row M4 (by omega))
    have hsh : gtC (FB.take M4) = 1 := by have := unhide HSH; rw [show ds.length + 3 = M4 by have := unhide HN4; omega] at this; exact this
    have HSH2 := hide hsh
    have hMN : Hid (M4 ≤ N4) := hide (by omega)
    clear hM4 hsh
    go_wp2_with fail
    rw [← unhide HV3]
    refine (implGet16_row fp M4 fq (FB.take M4) V3 (unhide RT) (fun i hi => by rw [elAt_takeB _ _ _ hi]; exact (unhide HBF) i (by have := unhide hMN; omega)) (by omega)).mono ?_
    rintro e W7 ⟨p7, q7, rfl, o7, b7⟩
    rw [unhide HSH2]
    have BBU := hide ((unhide BBU).trans (b7.mono (unhide BBU).size))
    obtain ⟨gl7, hgl7⟩ : ∃ z, gtL (FB.take M4) = z := ⟨_, rfl⟩
    obtain ⟨gs7, hgs7⟩ : ∃ z, gtS (FB.take M4) = z := ⟨_, rfl⟩
    obtain ⟨gd7, hgd7⟩ : ∃ z, (gtD (FB.take M4)).length = z := ⟨_, rfl⟩
    rw [hgl7, hgs7, hgd7]
    have BB8 := hide ((unhide BBU).alloc (unhide BBU).size (Obj.cells #[.int .i64 gl7, .int .i64 gs7, .slice p7 gd7 q7] 30))
    clear o7 b7 hgl7 hgs7 hgd7
    go_wp2_with fail
    go_ret
    exact ⟨rfl, unhide BB8⟩

theorem lawFnFrames (a : Option Addr) (len cap : Nat) (w : World) (hb : Bytes w a len) (hin : ∀ b off, a = some ⟨b, off, none⟩ → b < w.heap.size) :
    Calls Try.prog 4 #[.slice a len cap] w fun e w' => e = .returned (.bool true) ∧ Below w.heap.size w w' := by
  by_cases h : (1048576 : Int) < len
  · exact lawFnFrames_big a len cap w h
  · exact lawFnFrames_small a len cap w h hb hin

end Go.Proofs.Ytnhcmokkankcmaf

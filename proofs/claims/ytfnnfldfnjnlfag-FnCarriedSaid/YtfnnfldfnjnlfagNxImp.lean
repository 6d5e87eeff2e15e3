/-
  What the program's NextDue answers: the plain answer, at every fleet; nothing that was there is written.
-/
import Derived.Test.YtfnnfldfnjnlfagMKpPure
import Derived.Test.YtfnnfldfnjnlfagFfImp
import Derived.Test.YtfnnfldfnjnlfagMD9Imp
import Derived.Deep.Cut
namespace Go.Proofs.Ytfnnfldfnjnlfag
open Go Go.RowKit

set_option maxRecDepth 20000 in
set_option maxHeartbeats 8000000 in
theorem implNextDue_any (nh nc nd : Int) (a1 a2 a3 : Option Addr) (l1 c1 l2 c2 l3 c3 : Nat) (ts : List Ts) (cs : List Cr) (ds : List Df) (w : World) (hr : FlIn w a1 a2 a3 l1 l2 l3 ts cs ds) (ft : ∀ i, fitT (elAt ts i).nm) (fc : ∀ i, fitT (elAt cs i).n) (fd : ∀ i, fitT (elAt ds i).n) :
    Calls Try.prog 18 #[.agg #[.slice a1 l1 c1, .slice a2 l2 c2, .slice a3 l3 c3, .int .i64 nh, .int .i64 nc, .int .i64 nd]] w fun e w' => e = .returned (.tuple #[.string (nxR ⟨ts, cs, ds, nh, nc, nd⟩).1, .int .i64 (nxR ⟨ts, cs, ds, nh, nc, nd⟩).2.1, .bool (nxR ⟨ts, cs, ds, nh, nc, nd⟩).2.2]) ∧ Below w.heap.size w w' := by
  have C1 : Hid (∀ V, Below w.heap.size w V → Calls Try.prog 9 #[.agg #[.slice a1 l1 c1, .slice a2 l2 c2, .slice a3 l3 c3, .int .i64 nh, .int .i64 nc, .int .i64 nd]] V fun e w' => e = .returned (.bool (flB ⟨ts, cs, ds, nh, nc, nd⟩)) ∧ Below V.heap.size V w') := hide (fun V b => implFleetOk_any nh nc nd a1 a2 a3 l1 c1 l2 c2 l3 c3 ts cs ds V (hr.below b) ft fc fd)
  have z1 := hr.r1.len_eq
  have z2 := hr.r2.len_eq
  have z3 := hr.r3.len_eq
  have m1 := hr.r1.small
  have HFts := hide ft
  subst z1
  subst z2
  subst z3
  have HRts := hide hr.r1
  clear hr ft fc fd
  obtain ⟨W, hW⟩ : ∃ W, W = w.alloc (Obj.cells #[.slice a1 ts.length c1, .slice a2 cs.length c2, .slice a3 ds.length c3, .int .i64 nh, .int .i64 nc, .int .i64 nd] 30) := ⟨_, rfl⟩
  have K0 : Hid (Blk W w.heap.size [.slice a1 ts.length c1, .slice a2 cs.length c2, .slice a3 ds.length c3, .int .i64 nh, .int .i64 nc, .int .i64 nd]) := hide (by rw [hW]; exact Blk.new _ _)
  have B0 : Hid (Below w.heap.size w W) := hide (by rw [hW]; exact bel1 _)
  have HW := hide hW
  clear hW
  cases q0 : flB ⟨ts, cs, ds, nh, nc, nd⟩ with
  | false =>
    have HE := hide (nx_no q0)
    rw [q0] at C1
    clear q0
    go_enter Try.func18, Try.ntmps18
    go_wp2_with fail
    rw [← unhide HW]
    clear HW
    obtain ⟨ιfW, fW, _, hb, hall⟩ := belClass W
    have HB := hide hb
    have HA := hide hall
    have c00 : ∀ z, (fW z).cell? ⟨w.heap.size, 0, none⟩ = some (.slice a1 ts.length c1) := fun z => ((unhide K0).below (hb z)).c 0 (by simp)
    have c01 : ∀ z, (fW z).cell? ⟨w.heap.size, 1, none⟩ = some (.slice a2 cs.length c2) := fun z => ((unhide K0).below (hb z)).c 1 (by simp)
    have c02 : ∀ z, (fW z).cell? ⟨w.heap.size, 2, none⟩ = some (.slice a3 ds.length c3) := fun z => ((unhide K0).below (hb z)).c 2 (by simp)
    have c03 : ∀ z, (fW z).cell? ⟨w.heap.size, 3, none⟩ = some (.int .i64 nh) := fun z => ((unhide K0).below (hb z)).c 3 (by simp)
    have c04 : ∀ z, (fW z).cell? ⟨w.heap.size, 4, none⟩ = some (.int .i64 nc) := fun z => ((unhide K0).below (hb z)).c 4 (by simp)
    have c05 : ∀ z, (fW z).cell? ⟨w.heap.size, 5, none⟩ = some (.int .i64 nd) := fun z => ((unhide K0).below (hb z)).c 5 (by simp)
    clear hb hall
    obtain ⟨x0, h0⟩ := (unhide HA) W (Below.refl _ _)
    rw [h0]
    clear h0
    go_wp2_with fail
    refine (belQ (unhide HB) (unhide HA) (unhide C1 _ ((unhide B0).trans ((unhide HB _).mono (unhide B0).size)))).mono ?_
    rintro e _ ⟨rfl, y, rfl⟩
    go_wp2_with fail
    go_ret3
    exact ⟨ret_nx (unhide HE), ((unhide B0).trans ((unhide HB _).mono (unhide B0).size))⟩
  | true =>
    obtain ⟨_, _, ftk, _⟩ := flB_facts q0
    obtain ⟨_, htk, _⟩ := listS_facts ftk
    simp only at htk
    have HTC : Hid (∀ i, i < ts.length → 0 ≤ (elAt ts i).c) := hide (fun i hi => by
      have k : (tsB (elAt ts i) && bhB (elAt ts i).dh (elAt ts i).dc (elAt ts i).dd nh nc nd) = true := htk i hi
      simp only [Bool.and_eq_true] at k
      exact (tsB_facts k.1).2.2.1.1)
    have HQ := hide q0
    rw [q0] at C1
    clear q0 ftk htk
    go_enter Try.func18, Try.ntmps18
    go_wp2_with fail
    rw [← unhide HW]
    clear HW
    obtain ⟨ιfW, fW, _, hb, hall⟩ := belClass W
    have HB := hide hb
    have HA := hide hall
    have c00 : ∀ z, (fW z).cell? ⟨w.heap.size, 0, none⟩ = some (.slice a1 ts.length c1) := fun z => ((unhide K0).below (hb z)).c 0 (by simp)
    have c01 : ∀ z, (fW z).cell? ⟨w.heap.size, 1, none⟩ = some (.slice a2 cs.length c2) := fun z => ((unhide K0).below (hb z)).c 1 (by simp)
    have c02 : ∀ z, (fW z).cell? ⟨w.heap.size, 2, none⟩ = some (.slice a3 ds.length c3) := fun z => ((unhide K0).below (hb z)).c 2 (by simp)
    have c03 : ∀ z, (fW z).cell? ⟨w.heap.size, 3, none⟩ = some (.int .i64 nh) := fun z => ((unhide K0).below (hb z)).c 3 (by simp)
    have c04 : ∀ z, (fW z).cell? ⟨w.heap.size, 4, none⟩ = some (.int .i64 nc) := fun z => ((unhide K0).below (hb z)).c 4 (by simp)
    have c05 : ∀ z, (fW z).cell? ⟨w.heap.size, 5, none⟩ = some (.int .i64 nd) := fun z => ((unhide K0).below (hb z)).c 5 (by simp)
    clear hb hall
    obtain ⟨x0, h0⟩ := (unhide HA) W (Below.refl _ _)
    rw [h0]
    clear h0
    go_wp2_with fail
    refine (belQ (unhide HB) (unhide HA) (unhide C1 _ ((unhide B0).trans ((unhide HB _).mono (unhide B0).size)))).mono ?_
    rintro e _ ⟨rfl, y, rfl⟩
    go_wp2_with fail
    go_loopw [5, 6, 7, 19] (fun n b g i wr => ∃ (k : Nat) (S : ByteArray) (M : Int) (G : Bool), n = .string S ∧ b = .int .i64 M ∧ g = .bool G ∧ i = .int .i64 k ∧ k ≤ ts.length ∧ Hid (Blk wr w.heap.size [.slice a1 ts.length c1, .slice a2 cs.length c2, .slice a3 ds.length c3, .int .i64 nh, .int .i64 nc, .int .i64 nd]) ∧ Hid (Below w.heap.size w wr) ∧ Hid (nxK ⟨ts, cs, ds, nh, nc, nd⟩ k = (S, M, G))) (fun _ _ _ i _ => ts.length - (intOf i).toNat)
    case atStart => exact ⟨0, _, _, _, rfl, rfl, rfl, rfl, Nat.zero_le _, hide ((unhide K0).below (unhide HB _)), hide ((unhide B0).trans ((unhide HB _).mono (unhide B0).size)), hide rfl⟩
    case round =>
      clear K0 B0 HA HB C1 c00 c01 c02 c03 c04 c05
      obtain ⟨k, S, M, G, rfl, rfl, rfl, rfl, hk, KB, BW, HN⟩ := hrel
      by_cases hlt : k < ts.length
      · obtain ⟨bb, off, rfl, hc⟩ := (unhide HRts).at_ k hlt
        have s0 : w.cell? ⟨bb, off + k * 7, none⟩ = some (.string (elAt ts k).nm) := hc 0 (by omega)
        have s0 := ((unhide BW).cell (block_lt_of_cell s0)).trans s0
        have s1 : w.cell? ⟨bb, off + k * 7 + 1, none⟩ = some (.int .i64 (elAt ts k).h) := hc 1 (by omega)
        have s1 := ((unhide BW).cell (block_lt_of_cell s1)).trans s1
        have s2 : w.cell? ⟨bb, off + k * 7 + 2, none⟩ = some (.int .i64 (elAt ts k).c) := hc 2 (by omega)
        have s2 := ((unhide BW).cell (block_lt_of_cell s2)).trans s2
        have s3 : w.cell? ⟨bb, off + k * 7 + 3, none⟩ = some (.int .i64 (elAt ts k).d) := hc 3 (by omega)
        have s3 := ((unhide BW).cell (block_lt_of_cell s3)).trans s3
        have s4 : w.cell? ⟨bb, off + k * 7 + 4, none⟩ = some (.int .i64 (elAt ts k).dh) := hc 4 (by omega)
        have s4 := ((unhide BW).cell (block_lt_of_cell s4)).trans s4
        have s5 : w.cell? ⟨bb, off + k * 7 + 5, none⟩ = some (.int .i64 (elAt ts k).dc) := hc 5 (by omega)
        have s5 := ((unhide BW).cell (block_lt_of_cell s5)).trans s5
        have s6 : w.cell? ⟨bb, off + k * 7 + 6, none⟩ = some (.int .i64 (elAt ts k).dd) := hc 6 (by omega)
        have s6 := ((unhide BW).cell (block_lt_of_cell s6)).trans s6
        have hcx := unhide HTC k hlt
        obtain ⟨x, hx⟩ : ∃ x, elAt ts k = x := ⟨_, rfl⟩
        rw [hx] at s0 s1 s2 s3 s4 s5 s6 hcx
        have HX := hide hx
        have hfx : fitT x.nm := by rw [← hx]; exact unhide HFts k
        clear hc hx
        obtain ⟨D, hD⟩ : ∃ D, d9D x nh nc nd = D := ⟨_, rfl⟩
        obtain ⟨H, hH⟩ : ∃ D, d9H x nh nc nd = D := ⟨_, rfl⟩
        obtain ⟨C, hC⟩ : ∃ D, d9C x nh nc nd = D := ⟨_, rfl⟩
        obtain ⟨E, hE⟩ : ∃ D, d9E x nh nc nd = D := ⟨_, rfl⟩
        obtain ⟨B, hB⟩ : ∃ D, d9B x nh nc nd = D := ⟨_, rfl⟩
        have CD : Hid (∀ V, Calls Try.prog 14 #[.agg #[.string x.nm, .int .i64 x.h, .int .i64 x.c, .int .i64 x.d, .int .i64 x.dh, .int .i64 x.dc, .int .i64 x.dd], .agg #[.int .i64 nh, .int .i64 nc, .int .i64 nd]] V fun e w' => e = .returned (.tuple #[.bool D, .agg #[.int .i64 H, .int .i64 C, .int .i64 E], .bool B]) ∧ Below V.heap.size V w') := hide (fun V => by rw [← hD, ← hH, ← hC, ← hE, ← hB]; exact implDue19_any x.nm x.h x.c x.d x.dh x.dc x.dd nh nc nd V hfx)
        have HD := hide hD
        have HC := hide hC
        clear hD hH hC hE hB hfx
        have hi1 : (k : Int) < (ts.length : Int) := by omega
        have hi0 : (0 : Int) ≤ (k : Int) := by omega
        go_upto_region 7 with fail
        obtain ⟨V, hV⟩ : ∃ V, V = wr.alloc (Obj.cells #[.string x.nm, .int .i64 x.h, .int .i64 x.c, .int .i64 x.d, .int .i64 x.dh, .int .i64 x.dc, .int .i64 x.dd] 44) := ⟨_, rfl⟩
        have KV : Hid (Blk V wr.heap.size [.string x.nm, .int .i64 x.h, .int .i64 x.c, .int .i64 x.d, .int .i64 x.dh, .int .i64 x.dc, .int .i64 x.dd]) := hide (by rw [hV]; exact Blk.new _ _)
        have bV : Below wr.heap.size wr V := by rw [hV]; exact bel1 _
        rw [← hV]
        have BV := hide ((unhide BW).trans (bV.mono (unhide BW).size))
        have KBV := hide ((unhide KB).below bV)
        obtain ⟨Q, hQ⟩ : ∃ Q, wr.heap.size = Q := ⟨_, rfl⟩
        rw [hQ] at KV ⊢
        clear hV bV s0 s1 s2 s3 s4 s5 s6 KB BW hQ
        obtain ⟨ιfV, fV, _, hb, hall⟩ := belClass V
        have HB := hide hb
        have HA := hide hall
        have c00 : ∀ z, (fV z).cell? ⟨w.heap.size, 0, none⟩ = some (.slice (some ⟨bb, off, none⟩) ts.length c1) := fun z => ((unhide KBV).below (hb z)).c 0 (by simp)
        have c01 : ∀ z, (fV z).cell? ⟨w.heap.size, 1, none⟩ = some (.slice a2 cs.length c2) := fun z => ((unhide KBV).below (hb z)).c 1 (by simp)
        have c02 : ∀ z, (fV z).cell? ⟨w.heap.size, 2, none⟩ = some (.slice a3 ds.length c3) := fun z => ((unhide KBV).below (hb z)).c 2 (by simp)
        have c03 : ∀ z, (fV z).cell? ⟨w.heap.size, 3, none⟩ = some (.int .i64 nh) := fun z => ((unhide KBV).below (hb z)).c 3 (by simp)
        have c04 : ∀ z, (fV z).cell? ⟨w.heap.size, 4, none⟩ = some (.int .i64 nc) := fun z => ((unhide KBV).below (hb z)).c 4 (by simp)
        have c05 : ∀ z, (fV z).cell? ⟨w.heap.size, 5, none⟩ = some (.int .i64 nd) := fun z => ((unhide KBV).below (hb z)).c 5 (by simp)
        have c10 : ∀ z, (fV z).cell? ⟨Q, 0, none⟩ = some (.string x.nm) := fun z => ((unhide KV).below (hb z)).c 0 (by simp)
        have c11 : ∀ z, (fV z).cell? ⟨Q, 1, none⟩ = some (.int .i64 x.h) := fun z => ((unhide KV).below (hb z)).c 1 (by simp)
        have c12 : ∀ z, (fV z).cell? ⟨Q, 2, none⟩ = some (.int .i64 x.c) := fun z => ((unhide KV).below (hb z)).c 2 (by simp)
        have c13 : ∀ z, (fV z).cell? ⟨Q, 3, none⟩ = some (.int .i64 x.d) := fun z => ((unhide KV).below (hb z)).c 3 (by simp)
        have c14 : ∀ z, (fV z).cell? ⟨Q, 4, none⟩ = some (.int .i64 x.dh) := fun z => ((unhide KV).below (hb z)).c 4 (by simp)
        have c15 : ∀ z, (fV z).cell? ⟨Q, 5, none⟩ = some (.int .i64 x.dc) := fun z => ((unhide KV).below (hb z)).c 5 (by simp)
        have c16 : ∀ z, (fV z).cell? ⟨Q, 6, none⟩ = some (.int .i64 x.dd) := fun z => ((unhide KV).below (hb z)).c 6 (by simp)
        clear hb hall
        obtain ⟨x0, h0⟩ := (unhide HA) V (Below.refl _ _)
        rw [h0]
        clear h0
        go_upto_region 8 with (go_at_call 14; refine (belQ (unhide HB) (unhide HA) (unhide CD _)).mono ?_; rintro e _ ⟨rfl, y, rfl⟩)
        clear c00 c01 c02 c03 c04 c05 c10 c11 c12 c13 c14 c15 c16
        obtain ⟨V2, hV2⟩ : ∃ V, V = (fV y).alloc (Obj.cells #[.int .i64 H, .int .i64 C, .int .i64 E] 28) := ⟨_, rfl⟩
        have b2 : Below (fV y).heap.size (fV y) V2 := by rw [hV2]; exact bel1 _
        have K2 : Hid (Blk V2 (fV y).heap.size [.int .i64 H, .int .i64 C, .int .i64 E]) := hide (by rw [hV2]; exact Blk.new _ _)
        have KV := hide (((unhide KV).below (unhide HB y)).below b2)
        have KBV := hide (((unhide KBV).below (unhide HB y)).below b2)
        have BV := hide (((unhide BV).trans ((unhide HB y).mono (unhide BV).size)).trans (b2.mono ((unhide BV).trans ((unhide HB y).mono (unhide BV).size)).size))
        rw [← hV2]
        obtain ⟨Q2, hQ2⟩ : ∃ Q, (fV y).heap.size = Q := ⟨_, rfl⟩
        rw [hQ2] at K2 ⊢
        clear hV2 b2 hQ2 HA HB
        obtain ⟨ιfU, fU, _, hb, hall⟩ := belClass V2
        have HB := hide hb
        have HA := hide hall
        have c00 : ∀ z, (fU z).cell? ⟨Q, 0, none⟩ = some (.string x.nm) := fun z => ((unhide KV).below (hb z)).c 0 (by simp)
        have c01 : ∀ z, (fU z).cell? ⟨Q, 1, none⟩ = some (.int .i64 x.h) := fun z => ((unhide KV).below (hb z)).c 1 (by simp)
        have c02 : ∀ z, (fU z).cell? ⟨Q, 2, none⟩ = some (.int .i64 x.c) := fun z => ((unhide KV).below (hb z)).c 2 (by simp)
        have c03 : ∀ z, (fU z).cell? ⟨Q, 3, none⟩ = some (.int .i64 x.d) := fun z => ((unhide KV).below (hb z)).c 3 (by simp)
        have c04 : ∀ z, (fU z).cell? ⟨Q, 4, none⟩ = some (.int .i64 x.dh) := fun z => ((unhide KV).below (hb z)).c 4 (by simp)
        have c05 : ∀ z, (fU z).cell? ⟨Q, 5, none⟩ = some (.int .i64 x.dc) := fun z => ((unhide KV).below (hb z)).c 5 (by simp)
        have c06 : ∀ z, (fU z).cell? ⟨Q, 6, none⟩ = some (.int .i64 x.dd) := fun z => ((unhide KV).below (hb z)).c 6 (by simp)
        have c10 : ∀ z, (fU z).cell? ⟨Q2, 0, none⟩ = some (.int .i64 H) := fun z => ((unhide K2).below (hb z)).c 0 (by simp)
        have c11 : ∀ z, (fU z).cell? ⟨Q2, 1, none⟩ = some (.int .i64 C) := fun z => ((unhide K2).below (hb z)).c 1 (by simp)
        have c12 : ∀ z, (fU z).cell? ⟨Q2, 2, none⟩ = some (.int .i64 E) := fun z => ((unhide K2).below (hb z)).c 2 (by simp)
        clear hb hall
        obtain ⟨x0, h0⟩ := (unhide HA) V2 (Below.refl _ _)
        rw [h0]
        clear h0
        have HEC : Hid ((elAt ts k).c = x.c) := hide (by rw [unhide HX])
        cases D with
        | true =>
          have NX : Hid (nxK ⟨ts, cs, ds, nh, nc, nd⟩ (k + 1) = (S, M, G)) := hide (by rw [nx_keep (.inl (by show d9D (elAt ts k) nh nc nd = true; rw [unhide HX]; exact unhide HD))]; exact unhide HN)
          clear HN
          go_wp2_with fail
          have KY := hide ((unhide KBV).below (unhide HB x0))
          have BY := hide ((unhide BV).trans ((unhide HB x0).mono (unhide BV).size))
          go_roundw
          case rel => exact ⟨k + 1, S, M, G, rfl, rfl, rfl, by go_num, by omega, KY, BY, NX⟩
          case measure => simp [intOf]; omega
        | false =>
          by_cases q1 : 0 < x.c
          rotate_left 1
          · have q3 : x.c = 0 := by omega
            have NX : Hid (nxK ⟨ts, cs, ds, nh, nc, nd⟩ (k + 1) = (S, M, G)) := hide (by rw [nx_keep (.inr (.inl (by show ¬ 0 < (elAt ts k).c; rw [unhide HX]; exact q1)))]; exact unhide HN)
            clear HN
            go_wp2_with fail
            have KY := hide ((unhide KBV).below (unhide HB x0))
            have BY := hide ((unhide BV).trans ((unhide HB x0).mono (unhide BV).size))
            go_roundw
            case rel => exact ⟨k + 1, S, M, G, rfl, rfl, rfl, by go_num, by omega, KY, BY, NX⟩
            case measure => simp [intOf]; omega
          have q3 : ¬ x.c = 0 := by omega
          cases G with
          | false =>
            have NX : Hid (nxK ⟨ts, cs, ds, nh, nc, nd⟩ (k + 1) = (x.nm, C, true)) := hide (by rw [nx_take (k := k) (by show d9D (elAt ts k) nh nc nd = false; rw [unhide HX]; exact unhide HD) (by show 0 < (elAt ts k).c; rw [unhide HX]; exact q1) (.inl (by rw [unhide HN]))]; show ((elAt ts k).nm, d9C (elAt ts k) nh nc nd, true) = _; rw [unhide HX, unhide HC])
            clear HN
            go_wp2_with fail
            refine wp_region_bel (fun w' h => (unhide HA) w' ((unhide HB _).trans (h.mono (unhide HB _).size))) (by kernel_rfl) (by kernel_rfl) ?_
            (repeat (go_big_quiet_step (fail)))
            refine wpQuiet_nil ?_
            rintro _ ⟨y, rfl⟩
            go_wp2_with fail
            have KY := hide ((unhide KBV).below (unhide HB y))
            have BY := hide ((unhide BV).trans ((unhide HB y).mono (unhide BV).size))
            go_roundw
            case rel => exact ⟨k + 1, x.nm, C, true, rfl, rfl, rfl, by go_num, by omega, KY, BY, NX⟩
            case measure => simp [intOf]; omega
          | true =>
            by_cases q2 : C < M
            · have NX : Hid (nxK ⟨ts, cs, ds, nh, nc, nd⟩ (k + 1) = (x.nm, C, true)) := hide (by rw [nx_take (k := k) (by show d9D (elAt ts k) nh nc nd = false; rw [unhide HX]; exact unhide HD) (by show 0 < (elAt ts k).c; rw [unhide HX]; exact q1) (.inr (by show d9C (elAt ts k) nh nc nd < _; rw [unhide HX, unhide HC, unhide HN]; exact q2))]; show ((elAt ts k).nm, d9C (elAt ts k) nh nc nd, true) = _; rw [unhide HX, unhide HC])
              clear HN
              go_wp2_with fail
              refine wp_region_bel (fun w' h => (unhide HA) w' ((unhide HB _).trans (h.mono (unhide HB _).size))) (by kernel_rfl) (by kernel_rfl) ?_
              (repeat (go_big_quiet_step (fail)))
              refine wpQuiet_nil ?_
              rintro _ ⟨y, rfl⟩
              go_wp2_with fail
              have KY := hide ((unhide KBV).below (unhide HB y))
              have BY := hide ((unhide BV).trans ((unhide HB y).mono (unhide BV).size))
              go_roundw
              case rel => exact ⟨k + 1, x.nm, C, true, rfl, rfl, rfl, by go_num, by omega, KY, BY, NX⟩
              case measure => simp [intOf]; omega
            · have NX : Hid (nxK ⟨ts, cs, ds, nh, nc, nd⟩ (k + 1) = (S, M, true)) := hide (by rw [nx_keep (.inr (.inr ⟨by rw [unhide HN], by show ¬ d9C (elAt ts k) nh nc nd < _; rw [unhide HX, unhide HC, unhide HN]; exact q2⟩))]; exact unhide HN)
              clear HN
              go_wp2_with fail
              have KY := hide ((unhide KBV).below (unhide HB x0))
              have BY := hide ((unhide BV).trans ((unhide HB x0).mono (unhide BV).size))
              go_roundw
              case rel => exact ⟨k + 1, S, M, true, rfl, rfl, rfl, by go_num, by omega, KY, BY, NX⟩
              case measure => simp [intOf]; omega
      · have hi1 : ¬ (k : Int) < (ts.length : Int) := by omega
        have HE : Hid (nxR ⟨ts, cs, ds, nh, nc, nd⟩ = (S, M, G)) := hide (by rw [nx_yes (unhide HQ), show (⟨ts, cs, ds, nh, nc, nd⟩ : Fl).ts.length = k from (by show ts.length = k; omega)]; exact unhide HN)
        go_wp2_with fail
        go_ret3
        exact ⟨ret_nx (unhide HE), unhide BW⟩

end Go.Proofs.Ytfnnfldfnjnlfag

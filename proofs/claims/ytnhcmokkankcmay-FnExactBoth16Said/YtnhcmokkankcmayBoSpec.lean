/-
  What the model's Both16 answers: what is taken of two networks, at every two lists of frames. Nothing that was there is written.
-/
import Derived.Test.YtnhcmokkankcmayBoS
import Derived.Test.YtnhcmokkankcmayBuAcc
import Derived.Test.YtnhcmokkankcmayBuGetM
import Derived.Deep.Cut
namespace Go.Proofs.Ytnhcmokkankcmay
open Go Go.RowKit

set_option maxRecDepth 20000 in
set_option maxHeartbeats 4000000 in
theorem specBoth16_many1 (rl n rk : Int) (xa ya : Option Addr) (xl xc yl yc : Nat) (xs ys : List Sl) (w : World) (hx : RowE 1 slC w xa xl xs) (hy : RowE 1 slC w ya yl ys) (hxi : ∀ s ∈ xs, SlIn w s) (hyi : ∀ s ∈ ys, SlIn w s) (h : 200 < xl) :
    Calls Try.prog 31 #[.agg #[.int .i64 rl, .int .i64 n, .int .i64 rk], .slice xa xl xc, .slice ya yl yc] w fun e w' => ∃ g c, e = .returned (.tuple #[.slice (some ⟨g, 0, none⟩) (boR rl n rk (xs.map (·.zs)) (ys.map (·.zs))).t.length c, .int .i64 (boR rl n rk (xs.map (·.zs)) (ys.map (·.zs))).m, .agg #[.int .i64 rl, .int .i64 (boR rl n rk (xs.map (·.zs)) (ys.map (·.zs))).n, .int .i64 rk]]) ∧ ∃ ws, OwnWd w' w.heap.size (.slice (some ⟨g, 0, none⟩) (boR rl n rk (xs.map (·.zs)) (ys.map (·.zs))).t.length c) ws ∧ ws.map wxW = (boR rl n rk (xs.map (·.zs)) (ys.map (·.zs))).t ∧ Below w.heap.size w w' := by
  have hz1 := hx.len_eq
  have hz2 := hy.len_eq
  have hs1 := hx.small
  have hs2 := hy.small
  have HX := hide hx
  have HY := hide hy
  have HXI := hide hxi
  have HYI := hide hyi
  clear hx hy hxi hyi
  subst hz1
  subst hz2
  have HR : Hid (boR rl n rk (xs.map (·.zs)) (ys.map (·.zs)) = ⟨n, 0, []⟩) := hide (by unfold boR; rw [if_neg (by simp; omega)])
  rw [unhide HR]
  obtain ⟨W, hW⟩ : ∃ W, W = ((w.alloc (Obj.cells #[.int .i64 rl, .int .i64 n, .int .i64 rk] 43)).alloc (Obj.cells #[.int .i64 0, .int .i64 0, .int .i64 0] 43)).alloc (Obj.cells #[] 27) := ⟨_, rfl⟩
  have HS : Hid (BoS w W rl rk n (.slice (some ⟨w.heap.size + 1 + 1, 0, none⟩) 0 0) [] []) := hide ⟨by rw [hW]; exact (ownWd_none (base := w.heap.size + 2) (w := (w.alloc (Obj.cells #[.int .i64 rl, .int .i64 n, .int .i64 rk] 43)).alloc (Obj.cells #[.int .i64 0, .int .i64 0, .int .i64 0] 43)) (by simp)) |> fun h => by simpa using h, rfl, by rw [hW]; exact (Blk.new (w := w) [.int .i64 rl, .int .i64 n, .int .i64 rk] 43).alloc _ |>.alloc _, by rw [hW]; exact (by have := (Blk.new (w := w.alloc (Obj.cells #[.int .i64 rl, .int .i64 n, .int .i64 rk] 43)) [.int .i64 0, .int .i64 0, .int .i64 0] 43).alloc (Obj.cells #[] 27); simpa using this), by rw [hW]; exact bel3 _ _ _⟩
  have HWW := hide hW
  clear hW
  have r0 : W.cell? ⟨w.heap.size, 0, none⟩ = some (.int .i64 rl) := (unhide HS).rcv.c 0 (by simp)
  have rf0 : W.frozen? ⟨w.heap.size, 0, none⟩ = false := (unhide HS).rcv.f 0 (by simp)
  have r1 : W.cell? ⟨w.heap.size, 1, none⟩ = some (.int .i64 n) := (unhide HS).rcv.c 1 (by simp)
  have rf1 : W.frozen? ⟨w.heap.size, 1, none⟩ = false := (unhide HS).rcv.f 1 (by simp)
  have r2 : W.cell? ⟨w.heap.size, 2, none⟩ = some (.int .i64 rk) := (unhide HS).rcv.c 2 (by simp)
  have rf2 : W.frozen? ⟨w.heap.size, 2, none⟩ = false := (unhide HS).rcv.f 2 (by simp)
  have z0 : W.cell? ⟨w.heap.size + 1, 0, none⟩ = some (.int .i64 0) := (unhide HS).res.c 0 (by simp)
  have zf0 : W.frozen? ⟨w.heap.size + 1, 0, none⟩ = false := (unhide HS).res.f 0 (by simp)
  have z1 : W.cell? ⟨w.heap.size + 1, 1, none⟩ = some (.int .i64 0) := (unhide HS).res.c 1 (by simp)
  have zf1 : W.frozen? ⟨w.heap.size + 1, 1, none⟩ = false := (unhide HS).res.f 1 (by simp)
  have z2 : W.cell? ⟨w.heap.size + 1, 2, none⟩ = some (.int .i64 0) := (unhide HS).res.c 2 (by simp)
  have zf2 : W.frozen? ⟨w.heap.size + 1, 2, none⟩ = false := (unhide HS).res.f 2 (by simp)
  go_enter Try.func31, Try.ntmps31
  have h1 : (200 : Int) < (xs.length : Int) := by omega
  go_upto_region 4 with fail
  rw [← unhide HWW]
  clear HWW
  go_region
  go_wp2_with fail
  refine bodyPost_ret (results_BBcell (vs := [.int .i64 rl, .int .i64 n, .int .i64 rk]) rfl Try.isAgg43 Try.sizeOf43 rfl (((((unhide HS).res.drewN 1).set 0 (by simp) _).set 1 (by simp) _).set 2 (by simp) _) rfl rfl) rfl ⟨w.heap.size + 1 + 1, 0, rfl, [], ?_, rfl, ?_⟩
  · exact (((((((unhide HS).own.below (bel0d 1)).mono (base' := w.heap.size + 2) (Nat.le_refl _)).set_low (S := w.heap.size + 1) (by omega) _).set_low (S := w.heap.size + 1) (by omega) _).set_low (S := w.heap.size + 1) (by omega) _).mono (by omega))
  · exact ((((unhide HS).bel.trans (bel0d' 1)).setCell (p := ⟨w.heap.size + 1, 0, none⟩) (by simp) _).setCell (p := ⟨w.heap.size + 1, 1, none⟩) (by simp) _).setCell (p := ⟨w.heap.size + 1, 2, none⟩) (by simp) _

set_option maxRecDepth 20000 in
set_option maxHeartbeats 4000000 in
theorem specBoth16_many2 (rl n rk : Int) (xa ya : Option Addr) (xl xc yl yc : Nat) (xs ys : List Sl) (w : World) (hx : RowE 1 slC w xa xl xs) (hy : RowE 1 slC w ya yl ys) (hxi : ∀ s ∈ xs, SlIn w s) (hyi : ∀ s ∈ ys, SlIn w s) (h0 : ¬ 200 < xl) (h : 200 < yl) :
    Calls Try.prog 31 #[.agg #[.int .i64 rl, .int .i64 n, .int .i64 rk], .slice xa xl xc, .slice ya yl yc] w fun e w' => ∃ g c, e = .returned (.tuple #[.slice (some ⟨g, 0, none⟩) (boR rl n rk (xs.map (·.zs)) (ys.map (·.zs))).t.length c, .int .i64 (boR rl n rk (xs.map (·.zs)) (ys.map (·.zs))).m, .agg #[.int .i64 rl, .int .i64 (boR rl n rk (xs.map (·.zs)) (ys.map (·.zs))).n, .int .i64 rk]]) ∧ ∃ ws, OwnWd w' w.heap.size (.slice (some ⟨g, 0, none⟩) (boR rl n rk (xs.map (·.zs)) (ys.map (·.zs))).t.length c) ws ∧ ws.map wxW = (boR rl n rk (xs.map (·.zs)) (ys.map (·.zs))).t ∧ Below w.heap.size w w' := by
  have hz1 := hx.len_eq
  have hz2 := hy.len_eq
  have hs1 := hx.small
  have hs2 := hy.small
  have HX := hide hx
  have HY := hide hy
  have HXI := hide hxi
  have HYI := hide hyi
  clear hx hy hxi hyi
  subst hz1
  subst hz2
  have HR : Hid (boR rl n rk (xs.map (·.zs)) (ys.map (·.zs)) = ⟨n, 0, []⟩) := hide (by unfold boR; rw [if_neg (by simp; omega)])
  rw [unhide HR]
  obtain ⟨W, hW⟩ : ∃ W, W = ((w.alloc (Obj.cells #[.int .i64 rl, .int .i64 n, .int .i64 rk] 43)).alloc (Obj.cells #[.int .i64 0, .int .i64 0, .int .i64 0] 43)).alloc (Obj.cells #[] 27) := ⟨_, rfl⟩
  have HS : Hid (BoS w W rl rk n (.slice (some ⟨w.heap.size + 1 + 1, 0, none⟩) 0 0) [] []) := hide ⟨by rw [hW]; exact (ownWd_none (base := w.heap.size + 2) (w := (w.alloc (Obj.cells #[.int .i64 rl, .int .i64 n, .int .i64 rk] 43)).alloc (Obj.cells #[.int .i64 0, .int .i64 0, .int .i64 0] 43)) (by simp)) |> fun h => by simpa using h, rfl, by rw [hW]; exact (Blk.new (w := w) [.int .i64 rl, .int .i64 n, .int .i64 rk] 43).alloc _ |>.alloc _, by rw [hW]; exact (by have := (Blk.new (w := w.alloc (Obj.cells #[.int .i64 rl, .int .i64 n, .int .i64 rk] 43)) [.int .i64 0, .int .i64 0, .int .i64 0] 43).alloc (Obj.cells #[] 27); simpa using this), by rw [hW]; exact bel3 _ _ _⟩
  have HWW := hide hW
  clear hW
  have r0 : W.cell? ⟨w.heap.size, 0, none⟩ = some (.int .i64 rl) := (unhide HS).rcv.c 0 (by simp)
  have rf0 : W.frozen? ⟨w.heap.size, 0, none⟩ = false := (unhide HS).rcv.f 0 (by simp)
  have r1 : W.cell? ⟨w.heap.size, 1, none⟩ = some (.int .i64 n) := (unhide HS).rcv.c 1 (by simp)
  have rf1 : W.frozen? ⟨w.heap.size, 1, none⟩ = false := (unhide HS).rcv.f 1 (by simp)
  have r2 : W.cell? ⟨w.heap.size, 2, none⟩ = some (.int .i64 rk) := (unhide HS).rcv.c 2 (by simp)
  have rf2 : W.frozen? ⟨w.heap.size, 2, none⟩ = false := (unhide HS).rcv.f 2 (by simp)
  have z0 : W.cell? ⟨w.heap.size + 1, 0, none⟩ = some (.int .i64 0) := (unhide HS).res.c 0 (by simp)
  have zf0 : W.frozen? ⟨w.heap.size + 1, 0, none⟩ = false := (unhide HS).res.f 0 (by simp)
  have z1 : W.cell? ⟨w.heap.size + 1, 1, none⟩ = some (.int .i64 0) := (unhide HS).res.c 1 (by simp)
  have zf1 : W.frozen? ⟨w.heap.size + 1, 1, none⟩ = false := (unhide HS).res.f 1 (by simp)
  have z2 : W.cell? ⟨w.heap.size + 1, 2, none⟩ = some (.int .i64 0) := (unhide HS).res.c 2 (by simp)
  have zf2 : W.frozen? ⟨w.heap.size + 1, 2, none⟩ = false := (unhide HS).res.f 2 (by simp)
  go_enter Try.func31, Try.ntmps31
  have h1 : (200 : Int) < (ys.length : Int) := by omega
  have h2 : ¬ (200 : Int) < (xs.length : Int) := by omega
  go_upto_region 4 with fail
  rw [← unhide HWW]
  clear HWW
  go_region
  go_wp2_with fail
  refine bodyPost_ret (results_BBcell (vs := [.int .i64 rl, .int .i64 n, .int .i64 rk]) rfl Try.isAgg43 Try.sizeOf43 rfl (((((unhide HS).res.drewN 1).set 0 (by simp) _).set 1 (by simp) _).set 2 (by simp) _) rfl rfl) rfl ⟨w.heap.size + 1 + 1, 0, rfl, [], ?_, rfl, ?_⟩
  · exact (((((((unhide HS).own.below (bel0d 1)).mono (base' := w.heap.size + 2) (Nat.le_refl _)).set_low (S := w.heap.size + 1) (by omega) _).set_low (S := w.heap.size + 1) (by omega) _).set_low (S := w.heap.size + 1) (by omega) _).mono (by omega))
  · exact ((((unhide HS).bel.trans (bel0d' 1)).setCell (p := ⟨w.heap.size + 1, 0, none⟩) (by simp) _).setCell (p := ⟨w.heap.size + 1, 1, none⟩) (by simp) _).setCell (p := ⟨w.heap.size + 1, 2, none⟩) (by simp) _

set_option maxRecDepth 20000 in
set_option maxHeartbeats 4000000 in
theorem specBoth16_few (rl n rk : Int) (xa ya : Option Addr) (xl xc yl yc : Nat) (xs ys : List Sl) (w : World) (hx : RowE 1 slC w xa xl xs) (hy : RowE 1 slC w ya yl ys) (hxi : ∀ s ∈ xs, SlIn w s) (hyi : ∀ s ∈ ys, SlIn w s) (h0 : ¬ 200 < xl) (h : ¬ 200 < yl) :
    Calls Try.prog 31 #[.agg #[.int .i64 rl, .int .i64 n, .int .i64 rk], .slice xa xl xc, .slice ya yl yc] w fun e w' => ∃ g c, e = .returned (.tuple #[.slice (some ⟨g, 0, none⟩) (boR rl n rk (xs.map (·.zs)) (ys.map (·.zs))).t.length c, .int .i64 (boR rl n rk (xs.map (·.zs)) (ys.map (·.zs))).m, .agg #[.int .i64 rl, .int .i64 (boR rl n rk (xs.map (·.zs)) (ys.map (·.zs))).n, .int .i64 rk]]) ∧ ∃ ws, OwnWd w' w.heap.size (.slice (some ⟨g, 0, none⟩) (boR rl n rk (xs.map (·.zs)) (ys.map (·.zs))).t.length c) ws ∧ ws.map wxW = (boR rl n rk (xs.map (·.zs)) (ys.map (·.zs))).t ∧ Below w.heap.size w w' := by
  have hz1 := hx.len_eq
  have hz2 := hy.len_eq
  have hs1 := hx.small
  have hs2 := hy.small
  have HX := hide hx
  have HY := hide hy
  have HXI := hide hxi
  have HYI := hide hyi
  clear hx hy hxi hyi
  subst hz1
  subst hz2
  have h1 : ¬ (200 : Int) < (xs.length : Int) := by omega
  have h2 : ¬ (200 : Int) < (ys.length : Int) := by omega
  obtain ⟨W, hW⟩ : ∃ W, W = ((w.alloc (Obj.cells #[.int .i64 rl, .int .i64 n, .int .i64 rk] 43)).alloc (Obj.cells #[.int .i64 0, .int .i64 0, .int .i64 0] 43)).alloc (Obj.cells #[] 27) := ⟨_, rfl⟩
  have HS : Hid (BoS w W rl rk n (.slice (some ⟨w.heap.size + 1 + 1, 0, none⟩) 0 0) [] []) := hide ⟨by rw [hW]; exact (ownWd_none (base := w.heap.size + 2) (w := (w.alloc (Obj.cells #[.int .i64 rl, .int .i64 n, .int .i64 rk] 43)).alloc (Obj.cells #[.int .i64 0, .int .i64 0, .int .i64 0] 43)) (by simp)) |> fun h => by simpa using h, rfl, by rw [hW]; exact (Blk.new (w := w) [.int .i64 rl, .int .i64 n, .int .i64 rk] 43).alloc _ |>.alloc _, by rw [hW]; exact (by have := (Blk.new (w := w.alloc (Obj.cells #[.int .i64 rl, .int .i64 n, .int .i64 rk] 43)) [.int .i64 0, .int .i64 0, .int .i64 0] 43).alloc (Obj.cells #[] 27); simpa using this), by rw [hW]; exact bel3 _ _ _⟩
  have HWW := hide hW
  clear hW
  go_enter Try.func31, Try.ntmps31
  go_wp2_with fail
  rw [← unhide HWW]
  clear HWW
  go_loopw [9, 10, 11] (fun s9 s10 s11 wr => ∃ (i : Nat) (st : Bst) (ws : List Wx) (g nn c : Nat), s9 = .slice (some ⟨g, 0, none⟩) nn c ∧ s10 = .int .i64 st.m ∧ s11 = .int .i64 (i : Int) ∧ i ≤ 200 ∧ Hid (ws.length = nn) ∧ Hid (BoS w wr rl rk st.n (.slice (some ⟨g, 0, none⟩) nn c) ws st.t) ∧ Hid (boS rl rk st (rem xs ys i 0) = boS rl rk ⟨n, 0, []⟩ (inter xs ys)) ∧ Hid ((0 ≤ st.m ∧ st.m ≤ 255 * ((2 * i : Nat) : Int)) ∧ st.t.length ≤ 2 * i)) (fun _ _ s11 _ => 201 - (intOf s11).toNat)
  case atStart => exact ⟨0, ⟨n, 0, []⟩, [], w.heap.size + 1 + 1, 0, 0, rfl, rfl, rfl, by omega, hide rfl, HS, hide rfl, hide ⟨by simp, by simp⟩⟩
  case round =>
    clear HS
    obtain ⟨i, st, ws, g, nn, c, rfl, rfl, rfl, hi2, HZ, HH, HF, HBD⟩ := hrel
    by_cases hc : i < xs.length ∨ i < ys.length
    · have hi3 : i < 200 := by omega
      rcases (show (i < xs.length) ∨ (¬ i < xs.length ∧ i < ys.length) from by omega) with hc1 | ⟨hc1, hc2⟩
      · have j1 : (i : Int) < (xs.length : Int) := by omega
        go_wp2_with fail
        go_loopw [9, 10, 12] (fun s9 s10 s12 wr => ∃ (k : Nat) (st : Bst) (ws : List Wx) (g nn c : Nat), s9 = .slice (some ⟨g, 0, none⟩) nn c ∧ s10 = .int .i64 st.m ∧ s12 = .int .i64 (k : Int) ∧ k ≤ 2 ∧ Hid (ws.length = nn) ∧ Hid (BoS w wr rl rk st.n (.slice (some ⟨g, 0, none⟩) nn c) ws st.t) ∧ Hid (boS rl rk st (rem xs ys i k) = boS rl rk ⟨n, 0, []⟩ (inter xs ys)) ∧ Hid ((0 ≤ st.m ∧ st.m ≤ 255 * ((2 * i + k : Nat) : Int)) ∧ st.t.length ≤ 2 * i + k)) (fun _ _ s12 _ => 2 - (intOf s12).toNat)
        case atStart => exact ⟨0, st, ws, g, nn, c, rfl, rfl, rfl, by omega, HZ, HH, HF, HBD⟩
        case round =>
          clear HZ HH HF HBD
          obtain ⟨k, st, ws, g, nn, c, rfl, rfl, rfl, hk, HZ, HH, HF, HBD⟩ := hrel
          have hmm := (unhide HBD).1
          have hmm2 : st.m ≤ 1000000 := by omega
          rcases (show k = 0 ∨ k = 1 ∨ k = 2 from by omega) with hk0 | hk0 | hk0
          · have HK := hide hk0
            have c1 : (k : Int) < 2 := by omega
            have c2 : ((k : Int) == 1) = false := by simp; omega
            have c3 : ¬ (k : Int) = 1 := by omega
            clear hk0
            by_cases hlt : i < xs.length
            · rcases (unhide HX).open1 with ⟨q0, _⟩ | ⟨bb, off, rfl, _, hcs⟩
              · omega
              have mf : wr.cell? ⟨bb, off + i, none⟩ = some (.slice (elAt xs i).a (elAt xs i).n (elAt xs i).c) := ((unhide HH).bel.cell (block_lt_of_cell (hcs i hlt))).trans (hcs i hlt)
              have SI := hide (((unhide HXI) _ (elAt_mem hlt)).below (unhide HH).bel)
              have k1 : (i : Int) < (xs.length : Int) := by omega
              have k2 : ¬ (xs.length : Int) ≤ (i : Int) := by omega
              have HFF : Hid (boS rl rk (boStep rl rk st (elAt xs i).zs) (rem xs ys i 1) = boS rl rk ⟨n, 0, []⟩ (inter xs ys)) := hide (by rw [← boS_cons, ← rem0_is hlt]; have h5 := unhide HF; rw [unhide HK] at h5; exact h5)
              have HSB := hide (boStep_bd (rl := rl) (rk := rk) (zs := (elAt xs i).zs) (unhide HBD).1 (unhide HBD).2)
              clear hcs
              go_wp2_with fail
              refine (specGet16_row _ _ _ (elAt xs i).zs _ (unhide SI).row (unhide SI).byt (unhide SI).cap).mono ?_
              rintro e w1 ⟨p, q, rfl, od, b1⟩
              have HFR := hide ((unhide HH).fresh (x := ⟨(gtL (elAt xs i).zs), (gtS (elAt xs i).zs), ⟨p, (gtD (elAt xs i).zs).length, q, (gtD (elAt xs i).zs)⟩⟩) od)
              have HOD := hide (od.mono (base' := w.heap.size + 2) (unhide HH).sz)
              have HH := hide ((unhide HH).below b1)
              have hsz1 := (unhide HH).sz
              clear od b1
              obtain ⟨V, hV⟩ : ∃ V, V = w1.alloc (Obj.cells #[.int .i64 (gtL (elAt xs i).zs), .int .i64 (gtS (elAt xs i).zs), .slice p (gtD (elAt xs i).zs).length q] 27) := ⟨_, rfl⟩
              have bV : Below w1.heap.size w1 V := by rw [hV]; exact bel1 _
              have KW : Hid (Blk V w1.heap.size [.int .i64 (gtL (elAt xs i).zs), .int .i64 (gtS (elAt xs i).zs), .slice p (gtD (elAt xs i).zs).length q]) := hide (by rw [hV]; exact Blk.new _ _)
              have HH := hide ((unhide HH).below bV)
              have HOD := hide ((unhide HOD).below bV)
              obtain ⟨X, hX⟩ : ∃ X, w1.heap.size = X := ⟨_, rfl⟩
              rw [hX] at KW
              have hXb : w.heap.size + 2 ≤ X := by omega
              have HXW := hide hX
              have HVV := hide hV
              clear bV hX hsz1
              by_cases hg : gtC (elAt xs i).zs = 0
              · rw [hg]
                have HG := hide hg
                clear hg
                have y0 : V.cell? ⟨w1.heap.size, 0, none⟩ = some (.int .i64 (gtL (elAt xs i).zs)) := by rw [unhide HXW]; exact (unhide KW).c 0 (by simp)
                have y1 : V.cell? ⟨w1.heap.size, 1, none⟩ = some (.int .i64 (gtS (elAt xs i).zs)) := by rw [unhide HXW]; exact (unhide KW).c 1 (by simp)
                have y2 : V.cell? ⟨w1.heap.size, 2, none⟩ = some (.slice p (gtD (elAt xs i).zs).length q) := by rw [unhide HXW]; exact (unhide KW).c 2 (by simp)
                have r0 : V.cell? ⟨w.heap.size, 0, none⟩ = some (.int .i64 rl) := (unhide HH).rcv.c 0 (by simp)
                have rf0 : V.frozen? ⟨w.heap.size, 0, none⟩ = false := (unhide HH).rcv.f 0 (by simp)
                have r1 : V.cell? ⟨w.heap.size, 1, none⟩ = some (.int .i64 st.n) := (unhide HH).rcv.c 1 (by simp)
                have rf1 : V.frozen? ⟨w.heap.size, 1, none⟩ = false := (unhide HH).rcv.f 1 (by simp)
                have r2 : V.cell? ⟨w.heap.size, 2, none⟩ = some (.int .i64 rk) := (unhide HH).rcv.c 2 (by simp)
                have rf2 : V.frozen? ⟨w.heap.size, 2, none⟩ = false := (unhide HH).rcv.f 2 (by simp)
                rw [hV] at y0 y1 y2 r0 r1 r2 rf0 rf1 rf2
                clear hV
                obtain ⟨A, hA⟩ : ∃ z, acN rl st.n rk (gtL (elAt xs i).zs) (gtS (elAt xs i).zs) (gtD (elAt xs i).zs).length = z := ⟨_, rfl⟩
                obtain ⟨M, hM⟩ : ∃ z, acM rl st.n rk (gtL (elAt xs i).zs) (gtS (elAt xs i).zs) (gtD (elAt xs i).zs).length = z := ⟨_, rfl⟩
                have HA := hide hA
                have HM := hide hM
                have hMb := acM_bd rl st.n rk (gtL (elAt xs i).zs) (gtS (elAt xs i).zs) (gtD (elAt xs i).zs).length
                rw [hM] at hMb
                have hgl := gtD_small (elAt xs i).zs
                clear hA hM
                go_wp2_with fail
                rw [← unhide HVV]
                rw [unhide HXW]
                clear y0 y1 y2 r0 r1 r2 rf0 rf1 rf2 HVV HXW
                cases hB : acB rl st.n rk (gtL (elAt xs i).zs) (gtS (elAt xs i).zs) (gtD (elAt xs i).zs).length with
                | false =>
                  have HBB := hide hB
                  clear hB
                  refine (specAccept_is rl st.n rk _ _ p _ q V (by omega) (unhide HA) (unhide HM) (unhide HBB)).mono ?_
                  rintro e w2 ⟨rfl, b2⟩
                  have HH := hide ((unhide HH).below b2)
                  have HN := hide (bo_no (unhide HG) (unhide HBB))
                  have HH := hide ((unhide HH).below (bel1 (Obj.cells #[.int .i64 rl, .int .i64 A, .int .i64 rk] 43)))
                  clear b2 KW HOD HFR
                  go_wp2_with fail
                  go_roundw
                  case rel => exact ⟨k + 1, st, ws, g, nn, c, rfl, rfl, by go_num, by omega, HZ, HH, hide (by rw [unhide HK]; have h5 := unhide HFF; rw [unhide HN] at h5; exact h5), hide (by have h5 := unhide HSB; rw [unhide HN] at h5; simp at h5 ⊢; omega)⟩
                  case measure => simp [intOf]; omega
                | true =>
                  have HBB := hide hB
                  clear hB
                  refine (specAccept_is rl st.n rk _ _ p _ q V (by omega) (unhide HA) (unhide HM) (unhide HBB)).mono ?_
                  rintro e w2 ⟨rfl, b2⟩
                  have HH := hide ((unhide HH).below b2)
                  have HN : Hid (boStep rl rk st (elAt xs i).zs = ⟨A, st.m + M, st.t ++ [⟨(gtL (elAt xs i).zs), (gtS (elAt xs i).zs), (gtD (elAt xs i).zs)⟩]⟩) := hide (by rw [bo_yes (unhide HG) (unhide HBB), unhide HA, unhide HM])
                  have KW := hide ((unhide KW).below b2)
                  have HOD := hide ((unhide HOD).below b2)
                  clear b2
                  obtain ⟨V2, hV2⟩ : ∃ V, V = w2.alloc (Obj.cells #[.int .i64 rl, .int .i64 A, .int .i64 rk] 43) := ⟨_, rfl⟩
                  have b3 : Below w2.heap.size w2 V2 := by rw [hV2]; exact bel1 _
                  have KN : Hid (Blk V2 w2.heap.size [.int .i64 rl, .int .i64 A, .int .i64 rk]) := hide (by rw [hV2]; exact Blk.new _ _)
                  have HH := hide ((unhide HH).below b3)
                  have KW := hide ((unhide KW).below b3)
                  have HOD := hide ((unhide HOD).below b3)
                  obtain ⟨X2, hX2⟩ : ∃ X, w2.heap.size = X := ⟨_, rfl⟩
                  rw [hX2] at KN
                  have HV2 := hide hV2
                  have HX2 := hide hX2
                  clear hV2 hX2 b3
                  go_upto_region 19 with fail
                  rw [← unhide HV2, unhide HX2]
                  clear HV2 HX2
                  have n0 : V2.cell? ⟨X2, 0, none⟩ = some (.int .i64 rl) := (unhide KN).c 0 (by simp)
                  have n1 : V2.cell? ⟨X2, 1, none⟩ = some (.int .i64 A) := (unhide KN).c 1 (by simp)
                  have n2 : V2.cell? ⟨X2, 2, none⟩ = some (.int .i64 rk) := (unhide KN).c 2 (by simp)
                  have r0 : V2.cell? ⟨w.heap.size, 0, none⟩ = some (.int .i64 rl) := (unhide HH).rcv.c 0 (by simp)
                  have rf0 : V2.frozen? ⟨w.heap.size, 0, none⟩ = false := (unhide HH).rcv.f 0 (by simp)
                  have r1 : V2.cell? ⟨w.heap.size, 1, none⟩ = some (.int .i64 st.n) := (unhide HH).rcv.c 1 (by simp)
                  have rf1 : V2.frozen? ⟨w.heap.size, 1, none⟩ = false := (unhide HH).rcv.f 1 (by simp)
                  have r2 : V2.cell? ⟨w.heap.size, 2, none⟩ = some (.int .i64 rk) := (unhide HH).rcv.c 2 (by simp)
                  have rf2 : V2.frozen? ⟨w.heap.size, 2, none⟩ = false := (unhide HH).rcv.f 2 (by simp)
                  go_upto_region 20 with fail
                  obtain ⟨V3, hV3⟩ : ∃ V, V = ((V2.setCell ⟨w.heap.size, 0, none⟩ (.int .i64 rl)).setCell ⟨w.heap.size, 1, none⟩ (.int .i64 A)).setCell ⟨w.heap.size, 2, none⟩ (.int .i64 rk) := ⟨_, rfl⟩
                  rw [← hV3]
                  have HH : Hid (BoS w V3 rl rk A (.slice (some ⟨g, 0, none⟩) nn c) ws st.t) := hide (by rw [hV3]; exact (unhide HH).setR A)
                  have KW : Hid (Blk V3 X [.int .i64 (gtL (elAt xs i).zs), .int .i64 (gtS (elAt xs i).zs), .slice p (gtD (elAt xs i).zs).length q]) := hide (by rw [hV3]; exact (((unhide KW).other (by show w.heap.size ≠ X; omega) _).other (by show w.heap.size ≠ X; omega) _).other (by show w.heap.size ≠ X; omega) _)
                  have HOD : Hid (OwnE 1 byC V3 (w.heap.size + 2) 5 (.slice p (gtD (elAt xs i).zs).length q) (gtD (elAt xs i).zs)) := hide (by
                    rw [hV3]
                    have hno : ∀ S, S < w.heap.size + 2 → (Value.slice p (gtD (elAt xs i).zs).length q).ownBlock ≠ some S := fun S hS e => by have := ((unhide HOD).lies S e).1; omega
                    exact (((unhide HOD).set_other _ (hno _ (by omega))).set_other _ (hno _ (by omega))).set_other _ (hno _ (by omega)))
                  clear hV3 n0 n1 n2 r0 r1 r2 rf0 rf1 rf2 KN
                  have y0 : V3.cell? ⟨X, 0, none⟩ = some (.int .i64 (gtL (elAt xs i).zs)) := (unhide KW).c 0 (by simp)
                  have y1 : V3.cell? ⟨X, 1, none⟩ = some (.int .i64 (gtS (elAt xs i).zs)) := (unhide KW).c 1 (by simp)
                  have y2 : V3.cell? ⟨X, 2, none⟩ = some (.slice p (gtD (elAt xs i).zs).length q) := (unhide KW).c 2 (by simp)
                  have HH := hide ((unhide HH).below (bel1 (Obj.cells #[.int .i64 (gtL (elAt xs i).zs), .int .i64 (gtS (elAt xs i).zs), .slice p (gtD (elAt xs i).zs).length q] 27)))
                  have HOD := hide ((unhide HOD).below (bel1 (w := V3) (Obj.cells #[.int .i64 (gtL (elAt xs i).zs), .int .i64 (gtS (elAt xs i).zs), .slice p (gtD (elAt xs i).zs).length q] 27)))
                  have hnl : nn ≤ 1000 := by have h5 := (unhide HBD).2; have h6 := congrArg List.length (unhide HH).con; have h7 := unhide HZ; simp at h6; omega
                  have hm0 := (unhide HBD).1
                  have hszz := (unhide HH).sz
                  go_wp2_with (at_builtin; refine wpList_app_wx rfl _ _ rfl ⟨(gtL (elAt xs i).zs), (gtS (elAt xs i).zs), ⟨p, (gtD (elAt xs i).zs).length, q, (gtD (elAt xs i).zs)⟩⟩ (unhide HH).own.out (unhide HZ) rfl rfl (fun j hj => by match j, hj with | 0, _ => simp [go_sem, wxC] | 1, _ => simp [go_sem, wxC] | 2, _ => simp [go_sem, wxC, slV]) hszz hnl ?_; intro g9 c9 w9 o9 gr9 hg9; have H9 := hide ((unhide HH).push o9 gr9 hg9 (unhide HOD) (unhide HFR).1 (unhide HFR).2); clear o9 gr9 hg9)
                  go_roundw
                  case rel => exact ⟨k + 1, ⟨A, st.m + M, st.t ++ [⟨(gtL (elAt xs i).zs), (gtS (elAt xs i).zs), (gtD (elAt xs i).zs)⟩]⟩, ws ++ [⟨(gtL (elAt xs i).zs), (gtS (elAt xs i).zs), ⟨p, (gtD (elAt xs i).zs).length, q, (gtD (elAt xs i).zs)⟩⟩], g9, nn + 1, c9, rfl, rfl, by go_num, by omega, (hide (by simp [unhide HZ])), H9, hide (by rw [unhide HK]; have h5 := unhide HFF; rw [unhide HN] at h5; exact h5), hide (by have h5 := unhide HSB; rw [unhide HN] at h5; simp at h5 ⊢; omega)⟩
                  case measure => simp [intOf]; omega
              · have hg' : (gtC (elAt xs i).zs != 0) = true := by simpa using hg
                have HN := hide (bo_bad (rl := rl) (rk := rk) (st := st) hg)
                have HQ := hide hg
                clear hV hg
                go_wp2_with fail
                try rw [← unhide HVV]
                clear HVV HXW KW HOD HFR
                go_roundw
                case rel => exact ⟨k + 1, st, ws, g, nn, c, rfl, rfl, by go_num, by omega, HZ, HH, hide (by rw [unhide HK]; have h5 := unhide HFF; rw [unhide HN] at h5; exact h5), hide (by have h5 := unhide HSB; rw [unhide HN] at h5; simp at h5 ⊢; omega)⟩
                case measure => simp [intOf]; omega
            · have k2 : (xs.length : Int) ≤ (i : Int) := by omega
              go_wp2_with fail
              go_roundw
              case rel => exact ⟨k + 1, st, ws, g, nn, c, rfl, rfl, by go_num, by omega, HZ, HH, hide (by rw [unhide HK]; have h5 := unhide HF; rw [unhide HK, rem0_no (by omega)] at h5; exact h5), hide (by have h5 := unhide HBD; omega)⟩
              case measure => simp [intOf]; omega
          · have HK := hide hk0
            have c1 : (k : Int) < 2 := by omega
            have c2 : ((k : Int) == 1) = true := by simp; omega
            have c3 : (k : Int) = 1 := by omega
            clear hk0 c3
            by_cases hlt : i < ys.length
            · rcases (unhide HY).open1 with ⟨q0, _⟩ | ⟨bb, off, rfl, _, hcs⟩
              · omega
              have mf : wr.cell? ⟨bb, off + i, none⟩ = some (.slice (elAt ys i).a (elAt ys i).n (elAt ys i).c) := ((unhide HH).bel.cell (block_lt_of_cell (hcs i hlt))).trans (hcs i hlt)
              have SI := hide (((unhide HYI) _ (elAt_mem hlt)).below (unhide HH).bel)
              have k1 : (i : Int) < (ys.length : Int) := by omega
              have k2 : ¬ (ys.length : Int) ≤ (i : Int) := by omega
              have HFF : Hid (boS rl rk (boStep rl rk st (elAt ys i).zs) (rem xs ys i 2) = boS rl rk ⟨n, 0, []⟩ (inter xs ys)) := hide (by rw [← boS_cons, ← rem1_is hlt]; have h5 := unhide HF; rw [unhide HK] at h5; exact h5)
              have HSB := hide (boStep_bd (rl := rl) (rk := rk) (zs := (elAt ys i).zs) (unhide HBD).1 (unhide HBD).2)
              clear hcs
              go_wp2_with fail
              refine (specGet16_row _ _ _ (elAt ys i).zs _ (unhide SI).row (unhide SI).byt (unhide SI).cap).mono ?_
              rintro e w1 ⟨p, q, rfl, od, b1⟩
              have HFR := hide ((unhide HH).fresh (x := ⟨(gtL (elAt ys i).zs), (gtS (elAt ys i).zs), ⟨p, (gtD (elAt ys i).zs).length, q, (gtD (elAt ys i).zs)⟩⟩) od)
              have HOD := hide (od.mono (base' := w.heap.size + 2) (unhide HH).sz)
              have HH := hide ((unhide HH).below b1)
              have hsz1 := (unhide HH).sz
              clear od b1
              obtain ⟨V, hV⟩ : ∃ V, V = w1.alloc (Obj.cells #[.int .i64 (gtL (elAt ys i).zs), .int .i64 (gtS (elAt ys i).zs), .slice p (gtD (elAt ys i).zs).length q] 27) := ⟨_, rfl⟩
              have bV : Below w1.heap.size w1 V := by rw [hV]; exact bel1 _
              have KW : Hid (Blk V w1.heap.size [.int .i64 (gtL (elAt ys i).zs), .int .i64 (gtS (elAt ys i).zs), .slice p (gtD (elAt ys i).zs).length q]) := hide (by rw [hV]; exact Blk.new _ _)
              have HH := hide ((unhide HH).below bV)
              have HOD := hide ((unhide HOD).below bV)
              obtain ⟨X, hX⟩ : ∃ X, w1.heap.size = X := ⟨_, rfl⟩
              rw [hX] at KW
              have hXb : w.heap.size + 2 ≤ X := by omega
              have HXW := hide hX
              have HVV := hide hV
              clear bV hX hsz1
              by_cases hg : gtC (elAt ys i).zs = 0
              · rw [hg]
                have HG := hide hg
                clear hg
                have y0 : V.cell? ⟨w1.heap.size, 0, none⟩ = some (.int .i64 (gtL (elAt ys i).zs)) := by rw [unhide HXW]; exact (unhide KW).c 0 (by simp)
                have y1 : V.cell? ⟨w1.heap.size, 1, none⟩ = some (.int .i64 (gtS (elAt ys i).zs)) := by rw [unhide HXW]; exact (unhide KW).c 1 (by simp)
                have y2 : V.cell? ⟨w1.heap.size, 2, none⟩ = some (.slice p (gtD (elAt ys i).zs).length q) := by rw [unhide HXW]; exact (unhide KW).c 2 (by simp)
                have r0 : V.cell? ⟨w.heap.size, 0, none⟩ = some (.int .i64 rl) := (unhide HH).rcv.c 0 (by simp)
                have rf0 : V.frozen? ⟨w.heap.size, 0, none⟩ = false := (unhide HH).rcv.f 0 (by simp)
                have r1 : V.cell? ⟨w.heap.size, 1, none⟩ = some (.int .i64 st.n) := (unhide HH).rcv.c 1 (by simp)
                have rf1 : V.frozen? ⟨w.heap.size, 1, none⟩ = false := (unhide HH).rcv.f 1 (by simp)
                have r2 : V.cell? ⟨w.heap.size, 2, none⟩ = some (.int .i64 rk) := (unhide HH).rcv.c 2 (by simp)
                have rf2 : V.frozen? ⟨w.heap.size, 2, none⟩ = false := (unhide HH).rcv.f 2 (by simp)
                rw [hV] at y0 y1 y2 r0 r1 r2 rf0 rf1 rf2
                clear hV
                obtain ⟨A, hA⟩ : ∃ z, acN rl st.n rk (gtL (elAt ys i).zs) (gtS (elAt ys i).zs) (gtD (elAt ys i).zs).length = z := ⟨_, rfl⟩
                obtain ⟨M, hM⟩ : ∃ z, acM rl st.n rk (gtL (elAt ys i).zs) (gtS (elAt ys i).zs) (gtD (elAt ys i).zs).length = z := ⟨_, rfl⟩
                have HA := hide hA
                have HM := hide hM
                have hMb := acM_bd rl st.n rk (gtL (elAt ys i).zs) (gtS (elAt ys i).zs) (gtD (elAt ys i).zs).length
                rw [hM] at hMb
                have hgl := gtD_small (elAt ys i).zs
                clear hA hM
                go_wp2_with fail
                rw [← unhide HVV]
                rw [unhide HXW]
                clear y0 y1 y2 r0 r1 r2 rf0 rf1 rf2 HVV HXW
                cases hB : acB rl st.n rk (gtL (elAt ys i).zs) (gtS (elAt ys i).zs) (gtD (elAt ys i).zs).length with
                | false =>
                  have HBB := hide hB
                  clear hB
                  refine (specAccept_is rl st.n rk _ _ p _ q V (by omega) (unhide HA) (unhide HM) (unhide HBB)).mono ?_
                  rintro e w2 ⟨rfl, b2⟩
                  have HH := hide ((unhide HH).below b2)
                  have HN := hide (bo_no (unhide HG) (unhide HBB))
                  have HH := hide ((unhide HH).below (bel1 (Obj.cells #[.int .i64 rl, .int .i64 A, .int .i64 rk] 43)))
                  clear b2 KW HOD HFR
                  go_wp2_with fail
                  go_roundw
                  case rel => exact ⟨k + 1, st, ws, g, nn, c, rfl, rfl, by go_num, by omega, HZ, HH, hide (by rw [unhide HK]; have h5 := unhide HFF; rw [unhide HN] at h5; exact h5), hide (by have h5 := unhide HSB; rw [unhide HN] at h5; simp at h5 ⊢; omega)⟩
                  case measure => simp [intOf]; omega
                | true =>
                  have HBB := hide hB
                  clear hB
                  refine (specAccept_is rl st.n rk _ _ p _ q V (by omega) (unhide HA) (unhide HM) (unhide HBB)).mono ?_
                  rintro e w2 ⟨rfl, b2⟩
                  have HH := hide ((unhide HH).below b2)
                  have HN : Hid (boStep rl rk st (elAt ys i).zs = ⟨A, st.m + M, st.t ++ [⟨(gtL (elAt ys i).zs), (gtS (elAt ys i).zs), (gtD (elAt ys i).zs)⟩]⟩) := hide (by rw [bo_yes (unhide HG) (unhide HBB), unhide HA, unhide HM])
                  have KW := hide ((unhide KW).below b2)
                  have HOD := hide ((unhide HOD).below b2)
                  clear b2
                  obtain ⟨V2, hV2⟩ : ∃ V, V = w2.alloc (Obj.cells #[.int .i64 rl, .int .i64 A, .int .i64 rk] 43) := ⟨_, rfl⟩
                  have b3 : Below w2.heap.size w2 V2 := by rw [hV2]; exact bel1 _
                  have KN : Hid (Blk V2 w2.heap.size [.int .i64 rl, .int .i64 A, .int .i64 rk]) := hide (by rw [hV2]; exact Blk.new _ _)
                  have HH := hide ((unhide HH).below b3)
                  have KW := hide ((unhide KW).below b3)
                  have HOD := hide ((unhide HOD).below b3)
                  obtain ⟨X2, hX2⟩ : ∃ X, w2.heap.size = X := ⟨_, rfl⟩
                  rw [hX2] at KN
                  have HV2 := hide hV2
                  have HX2 := hide hX2
                  clear hV2 hX2 b3
                  go_upto_region 19 with fail
                  rw [← unhide HV2, unhide HX2]
                  clear HV2 HX2
                  have n0 : V2.cell? ⟨X2, 0, none⟩ = some (.int .i64 rl) := (unhide KN).c 0 (by simp)
                  have n1 : V2.cell? ⟨X2, 1, none⟩ = some (.int .i64 A) := (unhide KN).c 1 (by simp)
                  have n2 : V2.cell? ⟨X2, 2, none⟩ = some (.int .i64 rk) := (unhide KN).c 2 (by simp)
                  have r0 : V2.cell? ⟨w.heap.size, 0, none⟩ = some (.int .i64 rl) := (unhide HH).rcv.c 0 (by simp)
                  have rf0 : V2.frozen? ⟨w.heap.size, 0, none⟩ = false := (unhide HH).rcv.f 0 (by simp)
                  have r1 : V2.cell? ⟨w.heap.size, 1, none⟩ = some (.int .i64 st.n) := (unhide HH).rcv.c 1 (by simp)
                  have rf1 : V2.frozen? ⟨w.heap.size, 1, none⟩ = false := (unhide HH).rcv.f 1 (by simp)
                  have r2 : V2.cell? ⟨w.heap.size, 2, none⟩ = some (.int .i64 rk) := (unhide HH).rcv.c 2 (by simp)
                  have rf2 : V2.frozen? ⟨w.heap.size, 2, none⟩ = false := (unhide HH).rcv.f 2 (by simp)
                  go_upto_region 20 with fail
                  obtain ⟨V3, hV3⟩ : ∃ V, V = ((V2.setCell ⟨w.heap.size, 0, none⟩ (.int .i64 rl)).setCell ⟨w.heap.size, 1, none⟩ (.int .i64 A)).setCell ⟨w.heap.size, 2, none⟩ (.int .i64 rk) := ⟨_, rfl⟩
                  rw [← hV3]
                  have HH : Hid (BoS w V3 rl rk A (.slice (some ⟨g, 0, none⟩) nn c) ws st.t) := hide (by rw [hV3]; exact (unhide HH).setR A)
                  have KW : Hid (Blk V3 X [.int .i64 (gtL (elAt ys i).zs), .int .i64 (gtS (elAt ys i).zs), .slice p (gtD (elAt ys i).zs).length q]) := hide (by rw [hV3]; exact (((unhide KW).other (by show w.heap.size ≠ X; omega) _).other (by show w.heap.size ≠ X; omega) _).other (by show w.heap.size ≠ X; omega) _)
                  have HOD : Hid (OwnE 1 byC V3 (w.heap.size + 2) 5 (.slice p (gtD (elAt ys i).zs).length q) (gtD (elAt ys i).zs)) := hide (by
                    rw [hV3]
                    have hno : ∀ S, S < w.heap.size + 2 → (Value.slice p (gtD (elAt ys i).zs).length q).ownBlock ≠ some S := fun S hS e => by have := ((unhide HOD).lies S e).1; omega
                    exact (((unhide HOD).set_other _ (hno _ (by omega))).set_other _ (hno _ (by omega))).set_other _ (hno _ (by omega)))
                  clear hV3 n0 n1 n2 r0 r1 r2 rf0 rf1 rf2 KN
                  have y0 : V3.cell? ⟨X, 0, none⟩ = some (.int .i64 (gtL (elAt ys i).zs)) := (unhide KW).c 0 (by simp)
                  have y1 : V3.cell? ⟨X, 1, none⟩ = some (.int .i64 (gtS (elAt ys i).zs)) := (unhide KW).c 1 (by simp)
                  have y2 : V3.cell? ⟨X, 2, none⟩ = some (.slice p (gtD (elAt ys i).zs).length q) := (unhide KW).c 2 (by simp)
                  have HH := hide ((unhide HH).below (bel1 (Obj.cells #[.int .i64 (gtL (elAt ys i).zs), .int .i64 (gtS (elAt ys i).zs), .slice p (gtD (elAt ys i).zs).length q] 27)))
                  have HOD := hide ((unhide HOD).below (bel1 (w := V3) (Obj.cells #[.int .i64 (gtL (elAt ys i).zs), .int .i64 (gtS (elAt ys i).zs), .slice p (gtD (elAt ys i).zs).length q] 27)))
                  have hnl : nn ≤ 1000 := by have h5 := (unhide HBD).2; have h6 := congrArg List.length (unhide HH).con; have h7 := unhide HZ; simp at h6; omega
                  have hm0 := (unhide HBD).1
                  have hszz := (unhide HH).sz
                  go_wp2_with (at_builtin; refine wpList_app_wx rfl _ _ rfl ⟨(gtL (elAt ys i).zs), (gtS (elAt ys i).zs), ⟨p, (gtD (elAt ys i).zs).length, q, (gtD (elAt ys i).zs)⟩⟩ (unhide HH).own.out (unhide HZ) rfl rfl (fun j hj => by match j, hj with | 0, _ => simp [go_sem, wxC] | 1, _ => simp [go_sem, wxC] | 2, _ => simp [go_sem, wxC, slV]) hszz hnl ?_; intro g9 c9 w9 o9 gr9 hg9; have H9 := hide ((unhide HH).push o9 gr9 hg9 (unhide HOD) (unhide HFR).1 (unhide HFR).2); clear o9 gr9 hg9)
                  go_roundw
                  case rel => exact ⟨k + 1, ⟨A, st.m + M, st.t ++ [⟨(gtL (elAt ys i).zs), (gtS (elAt ys i).zs), (gtD (elAt ys i).zs)⟩]⟩, ws ++ [⟨(gtL (elAt ys i).zs), (gtS (elAt ys i).zs), ⟨p, (gtD (elAt ys i).zs).length, q, (gtD (elAt ys i).zs)⟩⟩], g9, nn + 1, c9, rfl, rfl, by go_num, by omega, (hide (by simp [unhide HZ])), H9, hide (by rw [unhide HK]; have h5 := unhide HFF; rw [unhide HN] at h5; exact h5), hide (by have h5 := unhide HSB; rw [unhide HN] at h5; simp at h5 ⊢; omega)⟩
                  case measure => simp [intOf]; omega
              · have hg' : (gtC (elAt ys i).zs != 0) = true := by simpa using hg
                have HN := hide (bo_bad (rl := rl) (rk := rk) (st := st) hg)
                have HQ := hide hg
                clear hV hg
                go_wp2_with fail
                try rw [← unhide HVV]
                clear HVV HXW KW HOD HFR
                go_roundw
                case rel => exact ⟨k + 1, st, ws, g, nn, c, rfl, rfl, by go_num, by omega, HZ, HH, hide (by rw [unhide HK]; have h5 := unhide HFF; rw [unhide HN] at h5; exact h5), hide (by have h5 := unhide HSB; rw [unhide HN] at h5; simp at h5 ⊢; omega)⟩
                case measure => simp [intOf]; omega
            · have k2 : (ys.length : Int) ≤ (i : Int) := by omega
              go_wp2_with fail
              go_roundw
              case rel => exact ⟨k + 1, st, ws, g, nn, c, rfl, rfl, by go_num, by omega, HZ, HH, hide (by rw [unhide HK]; have h5 := unhide HF; rw [unhide HK, rem1_no (by omega)] at h5; exact h5), hide (by have h5 := unhide HBD; omega)⟩
              case measure => simp [intOf]; omega
          · have HK := hide hk0
            have c1 : ¬ (k : Int) < 2 := by omega
            clear hk0
            go_wp2_with fail
            go_roundw
            case rel => exact ⟨i + 1, st, ws, g, nn, c, rfl, rfl, by go_num, by omega, HZ, HH, hide (by have h5 := unhide HF; rw [unhide HK] at h5; exact h5), hide (by have h5 := unhide HBD; rw [unhide HK] at h5; omega)⟩
            case measure => simp [intOf]; omega
      · have j1 : ¬ (i : Int) < (xs.length : Int) := by omega
        have j2 : (i : Int) < (ys.length : Int) := by omega
        go_wp2_with fail
        go_loopw [9, 10, 12] (fun s9 s10 s12 wr => ∃ (k : Nat) (st : Bst) (ws : List Wx) (g nn c : Nat), s9 = .slice (some ⟨g, 0, none⟩) nn c ∧ s10 = .int .i64 st.m ∧ s12 = .int .i64 (k : Int) ∧ k ≤ 2 ∧ Hid (ws.length = nn) ∧ Hid (BoS w wr rl rk st.n (.slice (some ⟨g, 0, none⟩) nn c) ws st.t) ∧ Hid (boS rl rk st (rem xs ys i k) = boS rl rk ⟨n, 0, []⟩ (inter xs ys)) ∧ Hid ((0 ≤ st.m ∧ st.m ≤ 255 * ((2 * i + k : Nat) : Int)) ∧ st.t.length ≤ 2 * i + k)) (fun _ _ s12 _ => 2 - (intOf s12).toNat)
        case atStart => exact ⟨0, st, ws, g, nn, c, rfl, rfl, rfl, by omega, HZ, HH, HF, HBD⟩
        case round =>
          clear HZ HH HF HBD
          obtain ⟨k, st, ws, g, nn, c, rfl, rfl, rfl, hk, HZ, HH, HF, HBD⟩ := hrel
          have hmm := (unhide HBD).1
          have hmm2 : st.m ≤ 1000000 := by omega
          rcases (show k = 0 ∨ k = 1 ∨ k = 2 from by omega) with hk0 | hk0 | hk0
          · have HK := hide hk0
            have c1 : (k : Int) < 2 := by omega
            have c2 : ((k : Int) == 1) = false := by simp; omega
            have c3 : ¬ (k : Int) = 1 := by omega
            clear hk0
            by_cases hlt : i < xs.length
            · omega
            · have k2 : (xs.length : Int) ≤ (i : Int) := by omega
              go_wp2_with fail
              go_roundw
              case rel => exact ⟨k + 1, st, ws, g, nn, c, rfl, rfl, by go_num, by omega, HZ, HH, hide (by rw [unhide HK]; have h5 := unhide HF; rw [unhide HK, rem0_no (by omega)] at h5; exact h5), hide (by have h5 := unhide HBD; omega)⟩
              case measure => simp [intOf]; omega
          · have HK := hide hk0
            have c1 : (k : Int) < 2 := by omega
            have c2 : ((k : Int) == 1) = true := by simp; omega
            have c3 : (k : Int) = 1 := by omega
            clear hk0 c3
            by_cases hlt : i < ys.length
            · rcases (unhide HY).open1 with ⟨q0, _⟩ | ⟨bb, off, rfl, _, hcs⟩
              · omega
              have mf : wr.cell? ⟨bb, off + i, none⟩ = some (.slice (elAt ys i).a (elAt ys i).n (elAt ys i).c) := ((unhide HH).bel.cell (block_lt_of_cell (hcs i hlt))).trans (hcs i hlt)
              have SI := hide (((unhide HYI) _ (elAt_mem hlt)).below (unhide HH).bel)
              have k1 : (i : Int) < (ys.length : Int) := by omega
              have k2 : ¬ (ys.length : Int) ≤ (i : Int) := by omega
              have HFF : Hid (boS rl rk (boStep rl rk st (elAt ys i).zs) (rem xs ys i 2) = boS rl rk ⟨n, 0, []⟩ (inter xs ys)) := hide (by rw [← boS_cons, ← rem1_is hlt]; have h5 := unhide HF; rw [unhide HK] at h5; exact h5)
              have HSB := hide (boStep_bd (rl := rl) (rk := rk) (zs := (elAt ys i).zs) (unhide HBD).1 (unhide HBD).2)
              clear hcs
              go_wp2_with fail
              refine (specGet16_row _ _ _ (elAt ys i).zs _ (unhide SI).row (unhide SI).byt (unhide SI).cap).mono ?_
              rintro e w1 ⟨p, q, rfl, od, b1⟩
              have HFR := hide ((unhide HH).fresh (x := ⟨(gtL (elAt ys i).zs), (gtS (elAt ys i).zs), ⟨p, (gtD (elAt ys i).zs).length, q, (gtD (elAt ys i).zs)⟩⟩) od)
              have HOD := hide (od.mono (base' := w.heap.size + 2) (unhide HH).sz)
              have HH := hide ((unhide HH).below b1)
              have hsz1 := (unhide HH).sz
              clear od b1
              obtain ⟨V, hV⟩ : ∃ V, V = w1.alloc (Obj.cells #[.int .i64 (gtL (elAt ys i).zs), .int .i64 (gtS (elAt ys i).zs), .slice p (gtD (elAt ys i).zs).length q] 27) := ⟨_, rfl⟩
              have bV : Below w1.heap.size w1 V := by rw [hV]; exact bel1 _
              have KW : Hid (Blk V w1.heap.size [.int .i64 (gtL (elAt ys i).zs), .int .i64 (gtS (elAt ys i).zs), .slice p (gtD (elAt ys i).zs).length q]) := hide (by rw [hV]; exact Blk.new _ _)
              have HH := hide ((unhide HH).below bV)
              have HOD := hide ((unhide HOD).below bV)
              obtain ⟨X, hX⟩ : ∃ X, w1.heap.size = X := ⟨_, rfl⟩
              rw [hX] at KW
              have hXb : w.heap.size + 2 ≤ X := by omega
              have HXW := hide hX
              have HVV := hide hV
              clear bV hX hsz1
              by_cases hg : gtC (elAt ys i).zs = 0
              · rw [hg]
                have HG := hide hg
                clear hg
                have y0 : V.cell? ⟨w1.heap.size, 0, none⟩ = some (.int .i64 (gtL (elAt ys i).zs)) := by rw [unhide HXW]; exact (unhide KW).c 0 (by simp)
                have y1 : V.cell? ⟨w1.heap.size, 1, none⟩ = some (.int .i64 (gtS (elAt ys i).zs)) := by rw [unhide HXW]; exact (unhide KW).c 1 (by simp)
                have y2 : V.cell? ⟨w1.heap.size, 2, none⟩ = some (.slice p (gtD (elAt ys i).zs).length q) := by rw [unhide HXW]; exact (unhide KW).c 2 (by simp)
                have r0 : V.cell? ⟨w.heap.size, 0, none⟩ = some (.int .i64 rl) := (unhide HH).rcv.c 0 (by simp)
                have rf0 : V.frozen? ⟨w.heap.size, 0, none⟩ = false := (unhide HH).rcv.f 0 (by simp)
                have r1 : V.cell? ⟨w.heap.size, 1, none⟩ = some (.int .i64 st.n) := (unhide HH).rcv.c 1 (by simp)
                have rf1 : V.frozen? ⟨w.heap.size, 1, none⟩ = false := (unhide HH).rcv.f 1 (by simp)
                have r2 : V.cell? ⟨w.heap.size, 2, none⟩ = some (.int .i64 rk) := (unhide HH).rcv.c 2 (by simp)
                have rf2 : V.frozen? ⟨w.heap.size, 2, none⟩ = false := (unhide HH).rcv.f 2 (by simp)
                rw [hV] at y0 y1 y2 r0 r1 r2 rf0 rf1 rf2
                clear hV
                obtain ⟨A, hA⟩ : ∃ z, acN rl st.n rk (gtL (elAt ys i).zs) (gtS (elAt ys i).zs) (gtD (elAt ys i).zs).length = z := ⟨_, rfl⟩
                obtain ⟨M, hM⟩ : ∃ z, acM rl st.n rk (gtL (elAt ys i).zs) (gtS (elAt ys i).zs) (gtD (elAt ys i).zs).length = z := ⟨_, rfl⟩
                have HA := hide hA
                have HM := hide hM
                have hMb := acM_bd rl st.n rk (gtL (elAt ys i).zs) (gtS (elAt ys i).zs) (gtD (elAt ys i).zs).length
                rw [hM] at hMb
                have hgl := gtD_small (elAt ys i).zs
                clear hA hM
                go_wp2_with fail
                rw [← unhide HVV]
                rw [unhide HXW]
                clear y0 y1 y2 r0 r1 r2 rf0 rf1 rf2 HVV HXW
                cases hB : acB rl st.n rk (gtL (elAt ys i).zs) (gtS (elAt ys i).zs) (gtD (elAt ys i).zs).length with
                | false =>
                  have HBB := hide hB
                  clear hB
                  refine (specAccept_is rl st.n rk _ _ p _ q V (by omega) (unhide HA) (unhide HM) (unhide HBB)).mono ?_
                  rintro e w2 ⟨rfl, b2⟩
                  have HH := hide ((unhide HH).below b2)
                  have HN := hide (bo_no (unhide HG) (unhide HBB))
                  have HH := hide ((unhide HH).below (bel1 (Obj.cells #[.int .i64 rl, .int .i64 A, .int .i64 rk] 43)))
                  clear b2 KW HOD HFR
                  go_wp2_with fail
                  go_roundw
                  case rel => exact ⟨k + 1, st, ws, g, nn, c, rfl, rfl, by go_num, by omega, HZ, HH, hide (by rw [unhide HK]; have h5 := unhide HFF; rw [unhide HN] at h5; exact h5), hide (by have h5 := unhide HSB; rw [unhide HN] at h5; simp at h5 ⊢; omega)⟩
                  case measure => simp [intOf]; omega
                | true =>
                  have HBB := hide hB
                  clear hB
                  refine (specAccept_is rl st.n rk _ _ p _ q V (by omega) (unhide HA) (unhide HM) (unhide HBB)).mono ?_
                  rintro e w2 ⟨rfl, b2⟩
                  have HH := hide ((unhide HH).below b2)
                  have HN : Hid (boStep rl rk st (elAt ys i).zs = ⟨A, st.m + M, st.t ++ [⟨(gtL (elAt ys i).zs), (gtS (elAt ys i).zs), (gtD (elAt ys i).zs)⟩]⟩) := hide (by rw [bo_yes (unhide HG) (unhide HBB), unhide HA, unhide HM])
                  have KW := hide ((unhide KW).below b2)
                  have HOD := hide ((unhide HOD).below b2)
                  clear b2
                  obtain ⟨V2, hV2⟩ : ∃ V, V = w2.alloc (Obj.cells #[.int .i64 rl, .int .i64 A, .int .i64 rk] 43) := ⟨_, rfl⟩
                  have b3 : Below w2.heap.size w2 V2 := by rw [hV2]; exact bel1 _
                  have KN : Hid (Blk V2 w2.heap.size [.int .i64 rl, .int .i64 A, .int .i64 rk]) := hide (by rw [hV2]; exact Blk.new _ _)
                  have HH := hide ((unhide HH).below b3)
                  have KW := hide ((unhide KW).below b3)
                  have HOD := hide ((unhide HOD).below b3)
                  obtain ⟨X2, hX2⟩ : ∃ X, w2.heap.size = X := ⟨_, rfl⟩
                  rw [hX2] at KN
                  have HV2 := hide hV2
                  have HX2 := hide hX2
                  clear hV2 hX2 b3
                  go_upto_region 19 with fail
                  rw [← unhide HV2, unhide HX2]
                  clear HV2 HX2
                  have n0 : V2.cell? ⟨X2, 0, none⟩ = some (.int .i64 rl) := (unhide KN).c 0 (by simp)
                  have n1 : V2.cell? ⟨X2, 1, none⟩ = some (.int .i64 A) := (unhide KN).c 1 (by simp)
                  have n2 : V2.cell? ⟨X2, 2, none⟩ = some (.int .i64 rk) := (unhide KN).c 2 (by simp)
                  have r0 : V2.cell? ⟨w.heap.size, 0, none⟩ = some (.int .i64 rl) := (unhide HH).rcv.c 0 (by simp)
                  have rf0 : V2.frozen? ⟨w.heap.size, 0, none⟩ = false := (unhide HH).rcv.f 0 (by simp)
                  have r1 : V2.cell? ⟨w.heap.size, 1, none⟩ = some (.int .i64 st.n) := (unhide HH).rcv.c 1 (by simp)
                  have rf1 : V2.frozen? ⟨w.heap.size, 1, none⟩ = false := (unhide HH).rcv.f 1 (by simp)
                  have r2 : V2.cell? ⟨w.heap.size, 2, none⟩ = some (.int .i64 rk) := (unhide HH).rcv.c 2 (by simp)
                  have rf2 : V2.frozen? ⟨w.heap.size, 2, none⟩ = false := (unhide HH).rcv.f 2 (by simp)
                  go_upto_region 20 with fail
                  obtain ⟨V3, hV3⟩ : ∃ V, V = ((V2.setCell ⟨w.heap.size, 0, none⟩ (.int .i64 rl)).setCell ⟨w.heap.size, 1, none⟩ (.int .i64 A)).setCell ⟨w.heap.size, 2, none⟩ (.int .i64 rk) := ⟨_, rfl⟩
                  rw [← hV3]
                  have HH : Hid (BoS w V3 rl rk A (.slice (some ⟨g, 0, none⟩) nn c) ws st.t) := hide (by rw [hV3]; exact (unhide HH).setR A)
                  have KW : Hid (Blk V3 X [.int .i64 (gtL (elAt ys i).zs), .int .i64 (gtS (elAt ys i).zs), .slice p (gtD (elAt ys i).zs).length q]) := hide (by rw [hV3]; exact (((unhide KW).other (by show w.heap.size ≠ X; omega) _).other (by show w.heap.size ≠ X; omega) _).other (by show w.heap.size ≠ X; omega) _)
                  have HOD : Hid (OwnE 1 byC V3 (w.heap.size + 2) 5 (.slice p (gtD (elAt ys i).zs).length q) (gtD (elAt ys i).zs)) := hide (by
                    rw [hV3]
                    have hno : ∀ S, S < w.heap.size + 2 → (Value.slice p (gtD (elAt ys i).zs).length q).ownBlock ≠ some S := fun S hS e => by have := ((unhide HOD).lies S e).1; omega
                    exact (((unhide HOD).set_other _ (hno _ (by omega))).set_other _ (hno _ (by omega))).set_other _ (hno _ (by omega)))
                  clear hV3 n0 n1 n2 r0 r1 r2 rf0 rf1 rf2 KN
                  have y0 : V3.cell? ⟨X, 0, none⟩ = some (.int .i64 (gtL (elAt ys i).zs)) := (unhide KW).c 0 (by simp)
                  have y1 : V3.cell? ⟨X, 1, none⟩ = some (.int .i64 (gtS (elAt ys i).zs)) := (unhide KW).c 1 (by simp)
                  have y2 : V3.cell? ⟨X, 2, none⟩ = some (.slice p (gtD (elAt ys i).zs).length q) := (unhide KW).c 2 (by simp)
                  have HH := hide ((unhide HH).below (bel1 (Obj.cells #[.int .i64 (gtL (elAt ys i).zs), .int .i64 (gtS (elAt ys i).zs), .slice p (gtD (elAt ys i).zs).length q] 27)))
                  have HOD := hide ((unhide HOD).below (bel1 (w := V3) (Obj.cells #[.int .i64 (gtL (elAt ys i).zs), .int .i64 (gtS (elAt ys i).zs), .slice p (gtD (elAt ys i).zs).length q] 27)))
                  have hnl : nn ≤ 1000 := by have h5 := (unhide HBD).2; have h6 := congrArg List.length (unhide HH).con; have h7 := unhide HZ; simp at h6; omega
                  have hm0 := (unhide HBD).1
                  have hszz := (unhide HH).sz
                  go_wp2_with (at_builtin; refine wpList_app_wx rfl _ _ rfl ⟨(gtL (elAt ys i).zs), (gtS (elAt ys i).zs), ⟨p, (gtD (elAt ys i).zs).length, q, (gtD (elAt ys i).zs)⟩⟩ (unhide HH).own.out (unhide HZ) rfl rfl (fun j hj => by match j, hj with | 0, _ => simp [go_sem, wxC] | 1, _ => simp [go_sem, wxC] | 2, _ => simp [go_sem, wxC, slV]) hszz hnl ?_; intro g9 c9 w9 o9 gr9 hg9; have H9 := hide ((unhide HH).push o9 gr9 hg9 (unhide HOD) (unhide HFR).1 (unhide HFR).2); clear o9 gr9 hg9)
                  go_roundw
                  case rel => exact ⟨k + 1, ⟨A, st.m + M, st.t ++ [⟨(gtL (elAt ys i).zs), (gtS (elAt ys i).zs), (gtD (elAt ys i).zs)⟩]⟩, ws ++ [⟨(gtL (elAt ys i).zs), (gtS (elAt ys i).zs), ⟨p, (gtD (elAt ys i).zs).length, q, (gtD (elAt ys i).zs)⟩⟩], g9, nn + 1, c9, rfl, rfl, by go_num, by omega, (hide (by simp [unhide HZ])), H9, hide (by rw [unhide HK]; have h5 := unhide HFF; rw [unhide HN] at h5; exact h5), hide (by have h5 := unhide HSB; rw [unhide HN] at h5; simp at h5 ⊢; omega)⟩
                  case measure => simp [intOf]; omega
              · have hg' : (gtC (elAt ys i).zs != 0) = true := by simpa using hg
                have HN := hide (bo_bad (rl := rl) (rk := rk) (st := st) hg)
                have HQ := hide hg
                clear hV hg
                go_wp2_with fail
                try rw [← unhide HVV]
                clear HVV HXW KW HOD HFR
                go_roundw
                case rel => exact ⟨k + 1, st, ws, g, nn, c, rfl, rfl, by go_num, by omega, HZ, HH, hide (by rw [unhide HK]; have h5 := unhide HFF; rw [unhide HN] at h5; exact h5), hide (by have h5 := unhide HSB; rw [unhide HN] at h5; simp at h5 ⊢; omega)⟩
                case measure => simp [intOf]; omega
            · have k2 : (ys.length : Int) ≤ (i : Int) := by omega
              go_wp2_with fail
              go_roundw
              case rel => exact ⟨k + 1, st, ws, g, nn, c, rfl, rfl, by go_num, by omega, HZ, HH, hide (by rw [unhide HK]; have h5 := unhide HF; rw [unhide HK, rem1_no (by omega)] at h5; exact h5), hide (by have h5 := unhide HBD; omega)⟩
              case measure => simp [intOf]; omega
          · have HK := hide hk0
            have c1 : ¬ (k : Int) < 2 := by omega
            clear hk0
            go_wp2_with fail
            go_roundw
            case rel => exact ⟨i + 1, st, ws, g, nn, c, rfl, rfl, by go_num, by omega, HZ, HH, hide (by have h5 := unhide HF; rw [unhide HK] at h5; exact h5), hide (by have h5 := unhide HBD; rw [unhide HK] at h5; omega)⟩
            case measure => simp [intOf]; omega
    · have j1 : ¬ (i : Int) < (xs.length : Int) := by omega
      have j2 : ¬ (i : Int) < (ys.length : Int) := by omega
      have HFN : Hid (boR rl n rk (xs.map (·.zs)) (ys.map (·.zs)) = st) := hide (by unfold boR; rw [if_pos (by simp; omega), ← inter_map (·.zs) _ xs ys rfl]; exact ((unhide HF).symm.trans (by rw [rem_end (by omega) (by omega)]; rfl)))
      have r0 : wr.cell? ⟨w.heap.size, 0, none⟩ = some (.int .i64 rl) := (unhide HH).rcv.c 0 (by simp)
      have rf0 : wr.frozen? ⟨w.heap.size, 0, none⟩ = false := (unhide HH).rcv.f 0 (by simp)
      have r1 : wr.cell? ⟨w.heap.size, 1, none⟩ = some (.int .i64 st.n) := (unhide HH).rcv.c 1 (by simp)
      have rf1 : wr.frozen? ⟨w.heap.size, 1, none⟩ = false := (unhide HH).rcv.f 1 (by simp)
      have r2 : wr.cell? ⟨w.heap.size, 2, none⟩ = some (.int .i64 rk) := (unhide HH).rcv.c 2 (by simp)
      have rf2 : wr.frozen? ⟨w.heap.size, 2, none⟩ = false := (unhide HH).rcv.f 2 (by simp)
      have z0 : wr.cell? ⟨w.heap.size + 1, 0, none⟩ = some (.int .i64 0) := (unhide HH).res.c 0 (by simp)
      have zf0 : wr.frozen? ⟨w.heap.size + 1, 0, none⟩ = false := (unhide HH).res.f 0 (by simp)
      have z1 : wr.cell? ⟨w.heap.size + 1, 1, none⟩ = some (.int .i64 0) := (unhide HH).res.c 1 (by simp)
      have zf1 : wr.frozen? ⟨w.heap.size + 1, 1, none⟩ = false := (unhide HH).res.f 1 (by simp)
      have z2 : wr.cell? ⟨w.heap.size + 1, 2, none⟩ = some (.int .i64 0) := (unhide HH).res.c 2 (by simp)
      have zf2 : wr.frozen? ⟨w.heap.size + 1, 2, none⟩ = false := (unhide HH).res.f 2 (by simp)
      go_upto_region 22 with fail
      go_region
      go_wp2_with fail
      have hlw : st.t.length = nn := by rw [← (unhide HH).con, List.length_map]; exact unhide HZ
      exact bodyPost_ret (results_BBcell (vs := [.int .i64 rl, .int .i64 st.n, .int .i64 rk]) rfl Try.isAgg43 Try.sizeOf43 rfl (((((unhide HH).res.drewN 1).set 0 (by simp) _).set 1 (by simp) _).set 2 (by simp) _) rfl rfl) rfl ⟨g, c, by rw [unhide HFN, hlw]; rfl, ws, by rw [unhide HFN, hlw]; exact (((((unhide HH).own.below (bel0d 1)).set_low (S := w.heap.size + 1) (by omega) _).set_low (S := w.heap.size + 1) (by omega) _).set_low (S := w.heap.size + 1) (by omega) _).mono (by omega), by rw [unhide HFN]; exact (unhide HH).con, ((((unhide HH).bel.trans (bel0d' 1)).setCell (p := ⟨w.heap.size + 1, 0, none⟩) (by simp) _).setCell (p := ⟨w.heap.size + 1, 1, none⟩) (by simp) _).setCell (p := ⟨w.heap.size + 1, 2, none⟩) (by simp) _⟩

theorem specBoth16_row (rl n rk : Int) (xa ya : Option Addr) (xl xc yl yc : Nat) (xs ys : List Sl) (w : World) (hx : RowE 1 slC w xa xl xs) (hy : RowE 1 slC w ya yl ys) (hxi : ∀ s ∈ xs, SlIn w s) (hyi : ∀ s ∈ ys, SlIn w s) :
    Calls Try.prog 31 #[.agg #[.int .i64 rl, .int .i64 n, .int .i64 rk], .slice xa xl xc, .slice ya yl yc] w fun e w' => ∃ g c, e = .returned (.tuple #[.slice (some ⟨g, 0, none⟩) (boR rl n rk (xs.map (·.zs)) (ys.map (·.zs))).t.length c, .int .i64 (boR rl n rk (xs.map (·.zs)) (ys.map (·.zs))).m, .agg #[.int .i64 rl, .int .i64 (boR rl n rk (xs.map (·.zs)) (ys.map (·.zs))).n, .int .i64 rk]]) ∧ ∃ ws, OwnWd w' w.heap.size (.slice (some ⟨g, 0, none⟩) (boR rl n rk (xs.map (·.zs)) (ys.map (·.zs))).t.length c) ws ∧ ws.map wxW = (boR rl n rk (xs.map (·.zs)) (ys.map (·.zs))).t ∧ Below w.heap.size w w' := by
  by_cases h0 : 200 < xl
  · exact specBoth16_many1 rl n rk xa ya xl xc yl yc xs ys w hx hy hxi hyi h0
  by_cases h1 : 200 < yl
  · exact specBoth16_many2 rl n rk xa ya xl xc yl yc xs ys w hx hy hxi hyi h0 h1
  · exact specBoth16_few rl n rk xa ya xl xc yl yc xs ys w hx hy hxi hyi h0 h1

end Go.Proofs.Ytnhcmokkankcmay

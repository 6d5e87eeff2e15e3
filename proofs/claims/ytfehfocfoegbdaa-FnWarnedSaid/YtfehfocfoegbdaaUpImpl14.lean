/-
  What the program's Update14 answers: the plain panel and the plain list, each in memory of its own. Nothing that was there is written.
-/
import Derived.Test.YtfehfocfoegbdaaBrdPan
import Derived.Test.YtfehfocfoegbdaaBrdEmp
import Derived.Test.YtfehfocfoegbdaaMBrdLat
import Derived.Test.YtfehfocfoegbdaaMFyRes
import Derived.Test.YtfehfocfoegbdaaMKpMore
namespace Go.Proofs.Ytfehfocfoegbdaa
open Go.RowKit Go.Maps Go.WideMaps

set_option maxRecDepth 20000 in
set_option maxHeartbeats 4000000 in
theorem implUpdate14_any (ad : Option Addr) (len cap : Nat) (rs : List Wr) (a1 a2 a3 : Option Addr) (l1 c1 l2 c2 l3 c3 : Nat) (z1 z2 z3 : List ByteArray) (ph : Int) (bd : Option Addr) (len2 cap2 : Nat) (ts : List ByteArray) (w : World) (hr : RowW w ad len rs) (hp : PnIn w a1 a2 a3 l1 l2 l3 z1 z2 z3) (ht : RowE 1 stC w bd len2 ts)
    (hf1 : ∀ i, i < l1 → (elAt z1 i).size ≤ 9223372036854775807) (hf2 : ∀ i, i < l2 → (elAt z2 i).size ≤ 9223372036854775807) (hf3 : ∀ i, i < l3 → (elAt z3 i).size ≤ 9223372036854775807) (hft : ∀ i, i < len2 → (elAt ts i).size ≤ 9223372036854775807) :
    Calls Try.prog 6 #[.slice ad len cap, .agg #[.slice a1 l1 c1, .slice a2 l2 c2, .slice a3 l3 c3], .int .i64 ph, .slice bd len2 cap2] w fun e w' => ∃ p1 q1 p2 q2 p3 q3 p4 q4, e = .returned (.tuple #[.agg #[.slice p1 (up1 rs z1 z2 z3 ts ph).length q1, .slice p2 (up2 rs z1 z2 z3 ts ph).length q2, .slice p3 (up3 rs z1 z2 z3 ts ph).length q3], .slice p4 (upT rs z1 z2 z3 ts ph).length q4, .bool (upB rs z1 z2 z3 ts ph)]) ∧ PnOwn w' w.heap.size p1 p2 p3 (up1 rs z1 z2 z3 ts ph).length q1 (up2 rs z1 z2 z3 ts ph).length q2 (up3 rs z1 z2 z3 ts ph).length q3 (up1 rs z1 z2 z3 ts ph) (up2 rs z1 z2 z3 ts ph) (up3 rs z1 z2 z3 ts ph) ∧ OwnE 1 stC w' w.heap.size 9 (.slice p4 (upT rs z1 z2 z3 ts ph).length q4) (upT rs z1 z2 z3 ts ph) ∧ PnFar p1 p2 p3 p4 ∧ Below w.heap.size w w' := by
  obtain ⟨qs, hv⟩ := hr.v
  have HV := hide hv
  have HP := hide hp
  have HTS := hide ht
  have HF1 := hide hf1
  have HF2 := hide hf2
  have HF3 := hide hf3
  have HFT := hide hft
  have HZ1 := hide hp.r1.len_eq
  have HZ2 := hide hp.r2.len_eq
  have HZ3 := hide hp.r3.len_eq
  have HZT := hide ht.len_eq
  clear hr hv hp hf1 hf2 hf3 ht hft
  go_enter Try.func6, Try.ntmps6
  go_wp2_with fail
  obtain ⟨W0, hW0⟩ : ∃ W, W = w.alloc (Obj.cells #[.slice a1 l1 c1, .slice a2 l2 c2, .slice a3 l3 c3] 31) := ⟨_, rfl⟩
  obtain ⟨W1, hW1⟩ : ∃ W, W = W0.alloc (Obj.cells #[.slice none 0 0, .slice none 0 0, .slice none 0 0] 31) := ⟨_, rfl⟩
  have y0 : W0.heap.size = w.heap.size + 1 := by rw [hW0]; simp
  have PK : Hid (Blk W1 w.heap.size [.slice a1 l1 c1, .slice a2 l2 c2, .slice a3 l3 c3]) := hide (by rw [hW1, hW0]; exact (Blk.new _ _).alloc _)
  have RK : Hid (Blk W1 (w.heap.size + 1) [.slice none 0 0, .slice none 0 0, .slice none 0 0]) := hide (by rw [hW1, ← y0]; exact Blk.new _ _)
  have HB : Hid (Below w.heap.size w W1) := hide (by rw [hW1, hW0]; exact bel2 _ _)
  rw [← hW0, ← hW1]
  clear hW0 hW1 y0
  refine (bookOf_any _ _ _ rs qs _ ((unhide HV).below (unhide HB))).mono ?_
  rintro e w1 ⟨n, F, rfl, hm, hn30, hF, hrl, b1⟩
  have HM := hide hm
  have HRL := hide hrl
  have HFF := hide hF
  have PK := hide ((unhide PK).below b1)
  have RK := hide ((unhide RK).below b1)
  have HB := hide ((unhide HB).trans (b1.mono (unhide HB).size))
  have y0 : w1.cell? ⟨w.heap.size, 0, none⟩ = some (.slice a1 l1 c1) := (unhide PK).c 0 (by simp)
  have y1 : w1.cell? ⟨w.heap.size, 1, none⟩ = some (.slice a2 l2 c2) := (unhide PK).c 1 (by simp)
  have y2 : w1.cell? ⟨w.heap.size, 2, none⟩ = some (.slice a3 l3 c3) := (unhide PK).c 2 (by simp)
  clear hm hF hrl b1
  obtain ⟨BB, hBB⟩ : ∃ B, B = W1.heap.size := ⟨_, rfl⟩
  rw [← hBB] at HM ⊢
  clear hBB
  obtain ⟨cw, hcw⟩ : ∃ c, wrB rs = c := ⟨_, rfl⟩
  have HCW := hide hcw
  rw [hcw] at ⊢
  clear hcw
  go_wp2_with fail
  refine (boardOf_any _ _ F _ _ _ _ _ _ _ _ _ z1 z2 z3 _ (unhide HM) (unhide HRL) ((unhide HP).below (unhide HB)) (unhide HF1) (unhide HF2) (unhide HF3)).mono ?_
  rintro e w2 ⟨b1, b2, b3, n1, n2, n3, S1, S2, S3, rfl, hbd, hlo, hn1, hn2, hn3, he1, he2, he3, bw2⟩
  obtain ⟨V, hV⟩ : ∃ V, V = w2.alloc (Obj.cells #[.map (some b1), .map (some b2), .map (some b3)] 56) := ⟨_, rfl⟩
  have HBD : Hid (Brd V b1 b2 b3 n1 n2 n3 S1 S2 S3) := hide (by rw [hV]; exact hbd.below (bel1 _))
  have DK : Hid (Blk V w2.heap.size [.map (some b1), .map (some b2), .map (some b3)]) := hide (by rw [hV]; exact Blk.new _ _)
  have HMV : Hid (MapIs V BB n F) := hide (by rw [hV]; exact ((unhide HM).below bw2).alloc _)
  have HBL : Hid (BB < b1) := hide (Nat.lt_of_lt_of_le (unhide HM).lt hlo)
  have hlow := (unhide RK).lt
  have RK : Hid (Blk V (w.heap.size + 1) [.slice none 0 0, .slice none 0 0, .slice none 0 0]) := hide (by rw [hV]; exact ((unhide RK).below bw2).alloc _)
  have hsz := (unhide HB).size
  have HB : Hid (Below w.heap.size w V) := hide (by rw [hV]; exact ((unhide HB).trans (bw2.mono (unhide HB).size)).trans ((bel1 _).mono (Nat.le_trans (unhide HB).size bw2.size)))
  have HLO : Hid (w.heap.size + 1 < b1) := hide (by omega)
  have HHI : Hid (b3 < w2.heap.size) := hide (MapIs.lt hbd.s3)
  have HN := hide (And.intro hn1 (And.intro hn2 hn3))
  have HES := hide (And.intro he1 (And.intro he2 he3))
  have HV2 := hide hV
  obtain ⟨cp, hcp⟩ : ∃ c, (ntB F z1 && ntB F z2 && ntB F z3) = c := ⟨_, rfl⟩
  have HCP := hide hcp
  rw [hcp]
  clear hbd hlo hn1 hn2 hn3 he1 he2 he3 bw2 hV hcp y0 y1 y2 hsz hlow PK HM
  go_wp2_with fail
  rw [← unhide HV2]
  refine (setOf_any BB n F _ _ _ ts V (unhide HMV) (unhide HRL) ((unhide HTS).below (unhide HB)) (unhide HFT)).mono ?_
  rintro e w3 ⟨m, S4, rfl, hs4, hm4, he4, bw3⟩
  have HBD := hide ((unhide HBD).below bw3)
  have DK := hide ((unhide DK).below bw3)
  have RK := hide ((unhide RK).below bw3)
  have HM := hide ((unhide HMV).below bw3)
  have HB := hide ((unhide HB).trans (bw3.mono (unhide HB).size))
  have HS4 := hide (And.intro hs4 (And.intro hm4 he4))
  have HVL : Hid (w2.heap.size < V.heap.size) := hide (by rw [unhide HV2]; simp)
  obtain ⟨BN, hBN⟩ : ∃ B, B = V.heap.size := ⟨_, rfl⟩
  rw [← hBN] at HS4 HVL ⊢
  have HBN := hide hBN
  obtain ⟨ca, hca⟩ : ∃ c, ntB F ts = c := ⟨_, rfl⟩
  have HCA := hide hca
  rw [hca]
  clear hs4 hm4 he4 bw3 hBN hca HMV
  obtain ⟨ci, hci⟩ : ∃ c, inB ph 0 9 = c := ⟨_, rfl⟩
  have HCI := hide hci
  clear hci
  have k0 : w3.cell? ⟨w2.heap.size, 0, none⟩ = some (.map (some b1)) := (unhide DK).c 0 (by simp)
  have k1 : w3.cell? ⟨w2.heap.size, 1, none⟩ = some (.map (some b2)) := (unhide DK).c 1 (by simp)
  have k2 : w3.cell? ⟨w2.heap.size, 2, none⟩ = some (.map (some b3)) := (unhide DK).c 2 (by simp)
  have HFN : Hid (upB rs z1 z2 z3 ts ph = (wrB rs && pnlB rs z1 z2 z3 && nmB rs ts && inB ph 0 9)) := hide rfl
  by_cases call : (cw && cp && ca && ci) = false
  · have HE : Hid (upB rs z1 z2 z3 ts ph = false) := hide (by
      rw [unhide HFN, unhide HCI]
      cases cw with
      | false => rw [unhide HCW]; rfl
      | true =>
        have hp : pnlB rs z1 z2 z3 = cp := by rw [← unhide HCP, unhide HFF (unhide HCW), ntB_nm, ntB_nm, ntB_nm]; rfl
        have ha : nmB rs ts = ca := by rw [← unhide HCA, unhide HFF (unhide HCW), ntB_nm]
        rw [unhide HCW, hp, ha]; exact call)
    have HU := hide (up_no (unhide HE))
    have HEM := hide (empty_any b1 b2 b3 n1 n2 n3 S1 S2 S3 w3 (unhide HBD))
    rcases four cw cp ca ci with ⟨e1, hv⟩ | ⟨e1, e2, hv⟩ | ⟨e1, e2, e3, hv⟩ | ⟨e1, e2, e3, e4, hv⟩ | ⟨e1, e2, e3, e4, hv⟩
    · subst e1
      clear hv call
      go_wp2_with (fail)
      refine (unhide HEM).mono ?_
      rintro e w5 ⟨rfl, bd5, on5⟩
      have BD5 := hide bd5
      have DK5 := (unhide DK).only on5 (.inr (unhide HHI))
      have k0 : w5.cell? ⟨w2.heap.size, 0, none⟩ = some (.map (some b1)) := DK5.c 0 (by simp)
      have k1 : w5.cell? ⟨w2.heap.size, 1, none⟩ = some (.map (some b2)) := DK5.c 1 (by simp)
      have k2 : w5.cell? ⟨w2.heap.size, 2, none⟩ = some (.map (some b3)) := DK5.c 2 (by simp)
      have RK5 := hide ((unhide RK).only on5 (.inl (unhide HLO)))
      have HB5 := hide (below_only (unhide HB) on5 (by have := unhide HLO; omega) (Nat.le_refl _))
      clear bd5 on5 DK5
      go_wp2_with fail
      refine (panel_any b1 b2 b3 0 0 0 _ _ _ [] [] [] _ (unhide BD5) (by omega) (by omega) (by omega) (by rfl) (by rfl) (by rfl) (fun s => by simp) (fun s => by simp) (fun s => by simp)).mono ?_
      rintro e w8 ⟨p1, q1, p2, q2, p3, q3, rfl, o8, b8⟩
      have HO8 := hide o8
      obtain ⟨U, hU⟩ : ∃ U, U = w8.alloc (Obj.cells #[] 9) := ⟨_, rfl⟩
      have RK8 : Blk U (w.heap.size + 1) [.slice none 0 0, .slice none 0 0, .slice none 0 0] := by rw [hU]; exact ((unhide RK5).below b8).alloc _
      have HB8 : Below w.heap.size w U := by rw [hU]; exact ((unhide HB5).trans (b8.mono (unhide HB5).size)).trans ((bel1 _).mono ((unhide HB5).trans (b8.mono (unhide HB5).size)).size)
      have HLT : Hid (w.heap.size + 1 < w5.heap.size ∧ w5.heap.size ≤ w8.heap.size) := hide ⟨(unhide RK5).lt, b8.size⟩
      have oU : PnOwn U w5.heap.size p1 p2 p3 0 q1 0 q2 0 q3 [] [] [] := by rw [hU]; exact o8.below (bel1 _)
      have tU : OwnE 1 stC U w.heap.size 9 (.slice (some ⟨w8.heap.size, 0, none⟩) 0 0) [] := by rw [hU]; exact stE_none (by have := unhide HLT; omega)
      have x0 : (w8.alloc (Obj.cells #[] 9)).cell? ⟨w.heap.size + 1, 0, none⟩ = some (.slice none 0 0) := by rw [← hU]; exact RK8.c 0 (by simp)
      have x1 : (w8.alloc (Obj.cells #[] 9)).cell? ⟨w.heap.size + 1, 1, none⟩ = some (.slice none 0 0) := by rw [← hU]; exact RK8.c 1 (by simp)
      have x2 : (w8.alloc (Obj.cells #[] 9)).cell? ⟨w.heap.size + 1, 2, none⟩ = some (.slice none 0 0) := by rw [← hU]; exact RK8.c 2 (by simp)
      have f0 : (w8.alloc (Obj.cells #[] 9)).frozen? ⟨w.heap.size + 1, 0, none⟩ = false := by rw [← hU]; exact RK8.f 0 (by simp)
      have f1 : (w8.alloc (Obj.cells #[] 9)).frozen? ⟨w.heap.size + 1, 1, none⟩ = false := by rw [← hU]; exact RK8.f 1 (by simp)
      have f2 : (w8.alloc (Obj.cells #[] 9)).frozen? ⟨w.heap.size + 1, 2, none⟩ = false := by rw [← hU]; exact RK8.f 2 (by simp)
      have ne : ∀ {v : Value} {L : List ByteArray}, OwnE 1 stC U w5.heap.size 9 v L → v.ownBlock ≠ some (w.heap.size + 1) := fun {v L} h e => by
        have := (h.lies _ e).1
        have := unhide HLT
        omega
      have RKS := hide (((RK8.set 0 (by simp) (.slice p1 0 q1)).set 1 (by simp) (.slice p2 0 q2)).set 2 (by simp) (.slice p3 0 q3))
      have HPO := hide (((((oU.set_other (S := w.heap.size + 1) (o := 0) (.slice p1 0 q1) (ne oU.o1) (ne oU.o2) (ne oU.o3)).set_other (S := w.heap.size + 1) (o := 1) (.slice p2 0 q2) (ne oU.o1) (ne oU.o2) (ne oU.o3)).set_other (S := w.heap.size + 1) (o := 2) (.slice p3 0 q3) (ne oU.o1) (ne oU.o2) (ne oU.o3))).mono (unhide HB5).size)
      have nt : (Value.slice (some ⟨w8.heap.size, 0, none⟩) 0 0).ownBlock ≠ some (w.heap.size + 1) := fun e => by have := fresh_own e; have := unhide HLT; omega
      have HTO := hide (((tU.set_other (S := w.heap.size + 1) (o := 0) (.slice p1 0 q1) nt).set_other (S := w.heap.size + 1) (o := 1) (.slice p2 0 q2) nt).set_other (S := w.heap.size + 1) (o := 2) (.slice p3 0 q3) nt)
      have HBF := hide (((HB8.setCell (p := ⟨w.heap.size + 1, 0, none⟩) (by simp) (.slice p1 0 q1)).setCell (p := ⟨w.heap.size + 1, 1, none⟩) (by simp) (.slice p2 0 q2)).setCell (p := ⟨w.heap.size + 1, 2, none⟩) (by simp) (.slice p3 0 q3))
      have HFA : Hid (PnFar p1 p2 p3 (some ⟨w8.heap.size, 0, none⟩)) := hide (pnfar_of (unhide HO8) (Nat.le_refl _))
      have HUU := hide hU
      clear o8 b8 RK8 HB8 oU tU ne nt hU
      go_wp2_with fail
      rw [(unhide HU).1, (unhide HU).2.1, (unhide HU).2.2.1, (unhide HU).2.2.2, unhide HE]
      rw [← unhide HUU]
      exact bodyPost_ret (results_cellBB (vs := [.slice p1 0 q1, .slice p2 0 q2, .slice p3 0 q3]) rfl Try.isAgg31 Try.sizeOf31 rfl (unhide RKS) rfl rfl) rfl ⟨_, _, _, _, _, _, _, _, rfl, unhide HPO, unhide HTO, unhide HFA, unhide HBF⟩
    · subst e1
      subst e2
      clear hv call
      go_wp2_with (fail)
      refine (unhide HEM).mono ?_
      rintro e w5 ⟨rfl, bd5, on5⟩
      have BD5 := hide bd5
      have DK5 := (unhide DK).only on5 (.inr (unhide HHI))
      have k0 : w5.cell? ⟨w2.heap.size, 0, none⟩ = some (.map (some b1)) := DK5.c 0 (by simp)
      have k1 : w5.cell? ⟨w2.heap.size, 1, none⟩ = some (.map (some b2)) := DK5.c 1 (by simp)
      have k2 : w5.cell? ⟨w2.heap.size, 2, none⟩ = some (.map (some b3)) := DK5.c 2 (by simp)
      have RK5 := hide ((unhide RK).only on5 (.inl (unhide HLO)))
      have HB5 := hide (below_only (unhide HB) on5 (by have := unhide HLO; omega) (Nat.le_refl _))
      clear bd5 on5 DK5
      go_wp2_with fail
      refine (panel_any b1 b2 b3 0 0 0 _ _ _ [] [] [] _ (unhide BD5) (by omega) (by omega) (by omega) (by rfl) (by rfl) (by rfl) (fun s => by simp) (fun s => by simp) (fun s => by simp)).mono ?_
      rintro e w8 ⟨p1, q1, p2, q2, p3, q3, rfl, o8, b8⟩
      have HO8 := hide o8
      obtain ⟨U, hU⟩ : ∃ U, U = w8.alloc (Obj.cells #[] 9) := ⟨_, rfl⟩
      have RK8 : Blk U (w.heap.size + 1) [.slice none 0 0, .slice none 0 0, .slice none 0 0] := by rw [hU]; exact ((unhide RK5).below b8).alloc _
      have HB8 : Below w.heap.size w U := by rw [hU]; exact ((unhide HB5).trans (b8.mono (unhide HB5).size)).trans ((bel1 _).mono ((unhide HB5).trans (b8.mono (unhide HB5).size)).size)
      have HLT : Hid (w.heap.size + 1 < w5.heap.size ∧ w5.heap.size ≤ w8.heap.size) := hide ⟨(unhide RK5).lt, b8.size⟩
      have oU : PnOwn U w5.heap.size p1 p2 p3 0 q1 0 q2 0 q3 [] [] [] := by rw [hU]; exact o8.below (bel1 _)
      have tU : OwnE 1 stC U w.heap.size 9 (.slice (some ⟨w8.heap.size, 0, none⟩) 0 0) [] := by rw [hU]; exact stE_none (by have := unhide HLT; omega)
      have x0 : (w8.alloc (Obj.cells #[] 9)).cell? ⟨w.heap.size + 1, 0, none⟩ = some (.slice none 0 0) := by rw [← hU]; exact RK8.c 0 (by simp)
      have x1 : (w8.alloc (Obj.cells #[] 9)).cell? ⟨w.heap.size + 1, 1, none⟩ = some (.slice none 0 0) := by rw [← hU]; exact RK8.c 1 (by simp)
      have x2 : (w8.alloc (Obj.cells #[] 9)).cell? ⟨w.heap.size + 1, 2, none⟩ = some (.slice none 0 0) := by rw [← hU]; exact RK8.c 2 (by simp)
      have f0 : (w8.alloc (Obj.cells #[] 9)).frozen? ⟨w.heap.size + 1, 0, none⟩ = false := by rw [← hU]; exact RK8.f 0 (by simp)
      have f1 : (w8.alloc (Obj.cells #[] 9)).frozen? ⟨w.heap.size + 1, 1, none⟩ = false := by rw [← hU]; exact RK8.f 1 (by simp)
      have f2 : (w8.alloc (Obj.cells #[] 9)).frozen? ⟨w.heap.size + 1, 2, none⟩ = false := by rw [← hU]; exact RK8.f 2 (by simp)
      have ne : ∀ {v : Value} {L : List ByteArray}, OwnE 1 stC U w5.heap.size 9 v L → v.ownBlock ≠ some (w.heap.size + 1) := fun {v L} h e => by
        have := (h.lies _ e).1
        have := unhide HLT
        omega
      have RKS := hide (((RK8.set 0 (by simp) (.slice p1 0 q1)).set 1 (by simp) (.slice p2 0 q2)).set 2 (by simp) (.slice p3 0 q3))
      have HPO := hide (((((oU.set_other (S := w.heap.size + 1) (o := 0) (.slice p1 0 q1) (ne oU.o1) (ne oU.o2) (ne oU.o3)).set_other (S := w.heap.size + 1) (o := 1) (.slice p2 0 q2) (ne oU.o1) (ne oU.o2) (ne oU.o3)).set_other (S := w.heap.size + 1) (o := 2) (.slice p3 0 q3) (ne oU.o1) (ne oU.o2) (ne oU.o3))).mono (unhide HB5).size)
      have nt : (Value.slice (some ⟨w8.heap.size, 0, none⟩) 0 0).ownBlock ≠ some (w.heap.size + 1) := fun e => by have := fresh_own e; have := unhide HLT; omega
      have HTO := hide (((tU.set_other (S := w.heap.size + 1) (o := 0) (.slice p1 0 q1) nt).set_other (S := w.heap.size + 1) (o := 1) (.slice p2 0 q2) nt).set_other (S := w.heap.size + 1) (o := 2) (.slice p3 0 q3) nt)
      have HBF := hide (((HB8.setCell (p := ⟨w.heap.size + 1, 0, none⟩) (by simp) (.slice p1 0 q1)).setCell (p := ⟨w.heap.size + 1, 1, none⟩) (by simp) (.slice p2 0 q2)).setCell (p := ⟨w.heap.size + 1, 2, none⟩) (by simp) (.slice p3 0 q3))
      have HFA : Hid (PnFar p1 p2 p3 (some ⟨w8.heap.size, 0, none⟩)) := hide (pnfar_of (unhide HO8) (Nat.le_refl _))
      have HUU := hide hU
      clear o8 b8 RK8 HB8 oU tU ne nt hU
      go_wp2_with fail
      rw [(unhide HU).1, (unhide HU).2.1, (unhide HU).2.2.1, (unhide HU).2.2.2, unhide HE]
      rw [← unhide HUU]
      exact bodyPost_ret (results_cellBB (vs := [.slice p1 0 q1, .slice p2 0 q2, .slice p3 0 q3]) rfl Try.isAgg31 Try.sizeOf31 rfl (unhide RKS) rfl rfl) rfl ⟨_, _, _, _, _, _, _, _, rfl, unhide HPO, unhide HTO, unhide HFA, unhide HBF⟩
    · subst e1
      subst e2
      subst e3
      clear hv call
      go_wp2_with (fail)
      refine (unhide HEM).mono ?_
      rintro e w5 ⟨rfl, bd5, on5⟩
      have BD5 := hide bd5
      have DK5 := (unhide DK).only on5 (.inr (unhide HHI))
      have k0 : w5.cell? ⟨w2.heap.size, 0, none⟩ = some (.map (some b1)) := DK5.c 0 (by simp)
      have k1 : w5.cell? ⟨w2.heap.size, 1, none⟩ = some (.map (some b2)) := DK5.c 1 (by simp)
      have k2 : w5.cell? ⟨w2.heap.size, 2, none⟩ = some (.map (some b3)) := DK5.c 2 (by simp)
      have RK5 := hide ((unhide RK).only on5 (.inl (unhide HLO)))
      have HB5 := hide (below_only (unhide HB) on5 (by have := unhide HLO; omega) (Nat.le_refl _))
      clear bd5 on5 DK5
      go_wp2_with fail
      refine (panel_any b1 b2 b3 0 0 0 _ _ _ [] [] [] _ (unhide BD5) (by omega) (by omega) (by omega) (by rfl) (by rfl) (by rfl) (fun s => by simp) (fun s => by simp) (fun s => by simp)).mono ?_
      rintro e w8 ⟨p1, q1, p2, q2, p3, q3, rfl, o8, b8⟩
      have HO8 := hide o8
      obtain ⟨U, hU⟩ : ∃ U, U = w8.alloc (Obj.cells #[] 9) := ⟨_, rfl⟩
      have RK8 : Blk U (w.heap.size + 1) [.slice none 0 0, .slice none 0 0, .slice none 0 0] := by rw [hU]; exact ((unhide RK5).below b8).alloc _
      have HB8 : Below w.heap.size w U := by rw [hU]; exact ((unhide HB5).trans (b8.mono (unhide HB5).size)).trans ((bel1 _).mono ((unhide HB5).trans (b8.mono (unhide HB5).size)).size)
      have HLT : Hid (w.heap.size + 1 < w5.heap.size ∧ w5.heap.size ≤ w8.heap.size) := hide ⟨(unhide RK5).lt, b8.size⟩
      have oU : PnOwn U w5.heap.size p1 p2 p3 0 q1 0 q2 0 q3 [] [] [] := by rw [hU]; exact o8.below (bel1 _)
      have tU : OwnE 1 stC U w.heap.size 9 (.slice (some ⟨w8.heap.size, 0, none⟩) 0 0) [] := by rw [hU]; exact stE_none (by have := unhide HLT; omega)
      have x0 : (w8.alloc (Obj.cells #[] 9)).cell? ⟨w.heap.size + 1, 0, none⟩ = some (.slice none 0 0) := by rw [← hU]; exact RK8.c 0 (by simp)
      have x1 : (w8.alloc (Obj.cells #[] 9)).cell? ⟨w.heap.size + 1, 1, none⟩ = some (.slice none 0 0) := by rw [← hU]; exact RK8.c 1 (by simp)
      have x2 : (w8.alloc (Obj.cells #[] 9)).cell? ⟨w.heap.size + 1, 2, none⟩ = some (.slice none 0 0) := by rw [← hU]; exact RK8.c 2 (by simp)
      have f0 : (w8.alloc (Obj.cells #[] 9)).frozen? ⟨w.heap.size + 1, 0, none⟩ = false := by rw [← hU]; exact RK8.f 0 (by simp)
      have f1 : (w8.alloc (Obj.cells #[] 9)).frozen? ⟨w.heap.size + 1, 1, none⟩ = false := by rw [← hU]; exact RK8.f 1 (by simp)
      have f2 : (w8.alloc (Obj.cells #[] 9)).frozen? ⟨w.heap.size + 1, 2, none⟩ = false := by rw [← hU]; exact RK8.f 2 (by simp)
      have ne : ∀ {v : Value} {L : List ByteArray}, OwnE 1 stC U w5.heap.size 9 v L → v.ownBlock ≠ some (w.heap.size + 1) := fun {v L} h e => by
        have := (h.lies _ e).1
        have := unhide HLT
        omega
      have RKS := hide (((RK8.set 0 (by simp) (.slice p1 0 q1)).set 1 (by simp) (.slice p2 0 q2)).set 2 (by simp) (.slice p3 0 q3))
      have HPO := hide (((((oU.set_other (S := w.heap.size + 1) (o := 0) (.slice p1 0 q1) (ne oU.o1) (ne oU.o2) (ne oU.o3)).set_other (S := w.heap.size + 1) (o := 1) (.slice p2 0 q2) (ne oU.o1) (ne oU.o2) (ne oU.o3)).set_other (S := w.heap.size + 1) (o := 2) (.slice p3 0 q3) (ne oU.o1) (ne oU.o2) (ne oU.o3))).mono (unhide HB5).size)
      have nt : (Value.slice (some ⟨w8.heap.size, 0, none⟩) 0 0).ownBlock ≠ some (w.heap.size + 1) := fun e => by have := fresh_own e; have := unhide HLT; omega
      have HTO := hide (((tU.set_other (S := w.heap.size + 1) (o := 0) (.slice p1 0 q1) nt).set_other (S := w.heap.size + 1) (o := 1) (.slice p2 0 q2) nt).set_other (S := w.heap.size + 1) (o := 2) (.slice p3 0 q3) nt)
      have HBF := hide (((HB8.setCell (p := ⟨w.heap.size + 1, 0, none⟩) (by simp) (.slice p1 0 q1)).setCell (p := ⟨w.heap.size + 1, 1, none⟩) (by simp) (.slice p2 0 q2)).setCell (p := ⟨w.heap.size + 1, 2, none⟩) (by simp) (.slice p3 0 q3))
      have HFA : Hid (PnFar p1 p2 p3 (some ⟨w8.heap.size, 0, none⟩)) := hide (pnfar_of (unhide HO8) (Nat.le_refl _))
      have HUU := hide hU
      clear o8 b8 RK8 HB8 oU tU ne nt hU
      go_wp2_with fail
      rw [(unhide HU).1, (unhide HU).2.1, (unhide HU).2.2.1, (unhide HU).2.2.2, unhide HE]
      rw [← unhide HUU]
      exact bodyPost_ret (results_cellBB (vs := [.slice p1 0 q1, .slice p2 0 q2, .slice p3 0 q3]) rfl Try.isAgg31 Try.sizeOf31 rfl (unhide RKS) rfl rfl) rfl ⟨_, _, _, _, _, _, _, _, rfl, unhide HPO, unhide HTO, unhide HFA, unhide HBF⟩
    · subst e1
      subst e2
      subst e3
      subst e4
      clear hv call
      go_wp2_with (go_at_call 19; refine (phaseOk_is _ _ (unhide HCI)).mono ?_; rintro e w' ⟨rfl, hw⟩; subst w')
      refine (unhide HEM).mono ?_
      rintro e w5 ⟨rfl, bd5, on5⟩
      have BD5 := hide bd5
      have DK5 := (unhide DK).only on5 (.inr (unhide HHI))
      have k0 : w5.cell? ⟨w2.heap.size, 0, none⟩ = some (.map (some b1)) := DK5.c 0 (by simp)
      have k1 : w5.cell? ⟨w2.heap.size, 1, none⟩ = some (.map (some b2)) := DK5.c 1 (by simp)
      have k2 : w5.cell? ⟨w2.heap.size, 2, none⟩ = some (.map (some b3)) := DK5.c 2 (by simp)
      have RK5 := hide ((unhide RK).only on5 (.inl (unhide HLO)))
      have HB5 := hide (below_only (unhide HB) on5 (by have := unhide HLO; omega) (Nat.le_refl _))
      clear bd5 on5 DK5
      go_wp2_with fail
      refine (panel_any b1 b2 b3 0 0 0 _ _ _ [] [] [] _ (unhide BD5) (by omega) (by omega) (by omega) (by rfl) (by rfl) (by rfl) (fun s => by simp) (fun s => by simp) (fun s => by simp)).mono ?_
      rintro e w8 ⟨p1, q1, p2, q2, p3, q3, rfl, o8, b8⟩
      have HO8 := hide o8
      obtain ⟨U, hU⟩ : ∃ U, U = w8.alloc (Obj.cells #[] 9) := ⟨_, rfl⟩
      have RK8 : Blk U (w.heap.size + 1) [.slice none 0 0, .slice none 0 0, .slice none 0 0] := by rw [hU]; exact ((unhide RK5).below b8).alloc _
      have HB8 : Below w.heap.size w U := by rw [hU]; exact ((unhide HB5).trans (b8.mono (unhide HB5).size)).trans ((bel1 _).mono ((unhide HB5).trans (b8.mono (unhide HB5).size)).size)
      have HLT : Hid (w.heap.size + 1 < w5.heap.size ∧ w5.heap.size ≤ w8.heap.size) := hide ⟨(unhide RK5).lt, b8.size⟩
      have oU : PnOwn U w5.heap.size p1 p2 p3 0 q1 0 q2 0 q3 [] [] [] := by rw [hU]; exact o8.below (bel1 _)
      have tU : OwnE 1 stC U w.heap.size 9 (.slice (some ⟨w8.heap.size, 0, none⟩) 0 0) [] := by rw [hU]; exact stE_none (by have := unhide HLT; omega)
      have x0 : (w8.alloc (Obj.cells #[] 9)).cell? ⟨w.heap.size + 1, 0, none⟩ = some (.slice none 0 0) := by rw [← hU]; exact RK8.c 0 (by simp)
      have x1 : (w8.alloc (Obj.cells #[] 9)).cell? ⟨w.heap.size + 1, 1, none⟩ = some (.slice none 0 0) := by rw [← hU]; exact RK8.c 1 (by simp)
      have x2 : (w8.alloc (Obj.cells #[] 9)).cell? ⟨w.heap.size + 1, 2, none⟩ = some (.slice none 0 0) := by rw [← hU]; exact RK8.c 2 (by simp)
      have f0 : (w8.alloc (Obj.cells #[] 9)).frozen? ⟨w.heap.size + 1, 0, none⟩ = false := by rw [← hU]; exact RK8.f 0 (by simp)
      have f1 : (w8.alloc (Obj.cells #[] 9)).frozen? ⟨w.heap.size + 1, 1, none⟩ = false := by rw [← hU]; exact RK8.f 1 (by simp)
      have f2 : (w8.alloc (Obj.cells #[] 9)).frozen? ⟨w.heap.size + 1, 2, none⟩ = false := by rw [← hU]; exact RK8.f 2 (by simp)
      have ne : ∀ {v : Value} {L : List ByteArray}, OwnE 1 stC U w5.heap.size 9 v L → v.ownBlock ≠ some (w.heap.size + 1) := fun {v L} h e => by
        have := (h.lies _ e).1
        have := unhide HLT
        omega
      have RKS := hide (((RK8.set 0 (by simp) (.slice p1 0 q1)).set 1 (by simp) (.slice p2 0 q2)).set 2 (by simp) (.slice p3 0 q3))
      have HPO := hide (((((oU.set_other (S := w.heap.size + 1) (o := 0) (.slice p1 0 q1) (ne oU.o1) (ne oU.o2) (ne oU.o3)).set_other (S := w.heap.size + 1) (o := 1) (.slice p2 0 q2) (ne oU.o1) (ne oU.o2) (ne oU.o3)).set_other (S := w.heap.size + 1) (o := 2) (.slice p3 0 q3) (ne oU.o1) (ne oU.o2) (ne oU.o3))).mono (unhide HB5).size)
      have nt : (Value.slice (some ⟨w8.heap.size, 0, none⟩) 0 0).ownBlock ≠ some (w.heap.size + 1) := fun e => by have := fresh_own e; have := unhide HLT; omega
      have HTO := hide (((tU.set_other (S := w.heap.size + 1) (o := 0) (.slice p1 0 q1) nt).set_other (S := w.heap.size + 1) (o := 1) (.slice p2 0 q2) nt).set_other (S := w.heap.size + 1) (o := 2) (.slice p3 0 q3) nt)
      have HBF := hide (((HB8.setCell (p := ⟨w.heap.size + 1, 0, none⟩) (by simp) (.slice p1 0 q1)).setCell (p := ⟨w.heap.size + 1, 1, none⟩) (by simp) (.slice p2 0 q2)).setCell (p := ⟨w.heap.size + 1, 2, none⟩) (by simp) (.slice p3 0 q3))
      have HFA : Hid (PnFar p1 p2 p3 (some ⟨w8.heap.size, 0, none⟩)) := hide (pnfar_of (unhide HO8) (Nat.le_refl _))
      have HUU := hide hU
      clear o8 b8 RK8 HB8 oU tU ne nt hU
      go_wp2_with fail
      rw [(unhide HU).1, (unhide HU).2.1, (unhide HU).2.2.1, (unhide HU).2.2.2, unhide HE]
      rw [← unhide HUU]
      exact bodyPost_ret (results_cellBB (vs := [.slice p1 0 q1, .slice p2 0 q2, .slice p3 0 q3]) rfl Try.isAgg31 Try.sizeOf31 rfl (unhide RKS) rfl rfl) rfl ⟨_, _, _, _, _, _, _, _, rfl, unhide HPO, unhide HTO, unhide HFA, unhide HBF⟩
    · exact absurd hv (by rw [call]; simp)
  · have hall : cw = true ∧ cp = true ∧ ca = true ∧ ci = true := by
      cases cw <;> cases cp <;> cases ca <;> cases ci <;> simp_all
    obtain ⟨e1, e2, e3, e4⟩ := hall
    subst e1
    subst e2
    subst e3
    subst e4
    clear call
    have hFe := unhide HFF (unhide HCW)
    subst hFe
    have HNM : Hid (nmB rs z1 = true ∧ nmB rs z2 = true ∧ nmB rs z3 = true ∧ nmB rs ts = true) := hide (by
      have h := unhide HCP
      rw [ntB_nm, ntB_nm, ntB_nm] at h
      simp only [Bool.and_eq_true] at h
      have k := unhide HCA
      rw [ntB_nm] at k
      exact ⟨h.1.1, h.1.2, h.2, k⟩)
    have HE : Hid (upB rs z1 z2 z3 ts ph = true) := hide (by
      rw [unhide HFN, unhide HCI, unhide HCW, (unhide HNM).2.2.2]
      unfold pnlB
      rw [(unhide HNM).1, (unhide HNM).2.1, (unhide HNM).2.2.1]; rfl)
    have HU := hide (up_yes (unhide HE))
    have hS2 : S2 = hasB z2 := (unhide HES).2.1 (by rw [ntB_nm]; exact (unhide HNM).2.1)
    have hS3 : S3 = hasB z3 := (unhide HES).2.2 (by rw [ntB_nm]; exact (unhide HNM).2.2.1)
    have hS4 : S4 = hasB ts := (unhide HS4).2.2 (unhide HCA)
    subst hS2
    subst hS3
    subst hS4
    have HN30 : Hid (m ≤ 30 ∧ n2 ≤ 30 ∧ n3 ≤ 30) := hide (by
      have h30 := (wrB_facts (unhide HCW)).2
      have q1 := nm_len (unhide HCW) (unhide HNM).2.2.2
      have q2 := nm_len (unhide HCW) (unhide HNM).2.1
      have q3 := nm_len (unhide HCW) (unhide HNM).2.2.1
      have e1 := unhide HZT
      have e2 := unhide HZ2
      have e3 := unhide HZ3
      have hn := unhide HN
      have hm := (unhide HS4).2.1
      exact ⟨by omega, by omega, by omega⟩)
    have HRN := hide (renew_any b1 b2 b3 n1 n2 n3 BN m S1 (hasB z2) (hasB z3) (hasB ts) w3 (unhide HBD) (unhide HS4).1 (by have := unhide HHI; have := unhide HVL; omega) (by have := (unhide HN30).1; omega))
    go_wp2_with (go_at_call 19; refine (phaseOk_is _ _ (unhide HCI)).mono ?_; rintro e w' ⟨rfl, hw⟩; subst w')
    refine (unhide HRN).mono ?_
    rintro e w5 ⟨rfl, bd5, _, on5⟩
    have BD5 := hide bd5
    have DK5 := hide ((unhide DK).only on5 (.inr (unhide HHI)))
    have k0 : w5.cell? ⟨w2.heap.size, 0, none⟩ = some (.map (some b1)) := (unhide DK5).c 0 (by simp)
    have k1 : w5.cell? ⟨w2.heap.size, 1, none⟩ = some (.map (some b2)) := (unhide DK5).c 1 (by simp)
    have k2 : w5.cell? ⟨w2.heap.size, 2, none⟩ = some (.map (some b3)) := (unhide DK5).c 2 (by simp)
    have RK5 := hide ((unhide RK).only on5 (.inl (unhide HLO)))
    have HM5 := hide ((unhide HM).only on5 (.inl (unhide HBL)))
    have HB5 := hide (below_only (unhide HB) on5 (by have := unhide HLO; omega) (Nat.le_refl _))
    clear bd5 on5 DK RK HM HB HBD HRN
    go_wp2_with fail
    refine (told_any b1 b2 b3 m n2 n3 BB n (hasB ts) (hasB z2) (andS (hasB z3) (hasB ts)) ad len rs qs ph w w5 (unhide BD5) (unhide HM5) hn30 (unhide HV) (unhide HB5) (unhide HCW)).mono ?_
    rintro e w6 ⟨g, cq, mt, ds, rfl, hds, hdl, hm30, od6, hdx, b6⟩
    rw [tl_same (unhide HCW) (unhide HNM).2.2.2] at hds
    have HDS := hide hds
    have HDX := hide hdx
    have HDL := hide hdl
    have HGL : Hid (w5.heap.size ≤ g) := hide (od6.lies g rfl).1
    have HOD := hide od6
    have BD6 := hide ((unhide BD5).below b6)
    have DK6 := hide ((unhide DK5).below b6)
    have k0 : w6.cell? ⟨w2.heap.size, 0, none⟩ = some (.map (some b1)) := (unhide DK6).c 0 (by simp)
    have k1 : w6.cell? ⟨w2.heap.size, 1, none⟩ = some (.map (some b2)) := (unhide DK6).c 1 (by simp)
    have k2 : w6.cell? ⟨w2.heap.size, 2, none⟩ = some (.map (some b3)) := (unhide DK6).c 2 (by simp)
    have RK6 := hide ((unhide RK5).below b6)
    have HB6 := hide ((unhide HB5).trans (b6.mono (unhide HB5).size))
    have HLT := hide (unhide DK5).lt
    clear hds hdx hdl od6 b6 BD5 DK5 RK5 HB5 HM5
    go_wp2_with fail
    refine (latch_any b1 b2 b3 m n2 n3 (hasB ts) (hasB z2) (andS (hasB z3) (hasB ts)) w5.heap.size g mt cq ds w6 (unhide BD6) (unhide HOD) (unhide HDL) (by have := unhide HGL; have := unhide HLT; have := unhide HHI; omega) (fun x hx => (unhide HDX x hx).2.2) (by have := unhide HN30; omega)).mono ?_
    rintro e w7 ⟨rfl, bd7, od7, on7⟩
    rw [unhide HDS] at bd7
    have BD7 := hide bd7
    have HOD := hide od7
    have DK7 := hide ((unhide DK6).only on7 (.inr (unhide HHI)))
    have k0 : w7.cell? ⟨w2.heap.size, 0, none⟩ = some (.map (some b1)) := (unhide DK7).c 0 (by simp)
    have k1 : w7.cell? ⟨w2.heap.size, 1, none⟩ = some (.map (some b2)) := (unhide DK7).c 1 (by simp)
    have k2 : w7.cell? ⟨w2.heap.size, 2, none⟩ = some (.map (some b3)) := (unhide DK7).c 2 (by simp)
    have RK7 := hide ((unhide RK6).only on7 (.inl (unhide HLO)))
    have HB7 := hide (below_only (unhide HB6) on7 (by have := unhide HLO; omega) (Nat.le_refl _))
    clear bd7 od7 on7 BD6 DK6 RK6 HB6
    go_wp2_with fail
    have nn := unhide HN30
    refine (panel_any b1 b2 b3 m (n2 + mt) n3 _ _ _ ts (ltK rs ts z2 (tdR rs ts z2 (tkK ts z3 z3.length) ph 3) rs.length) (tkK ts z3 z3.length) _ (unhide BD7) (by omega) (by omega) (by omega) (nm_rise (unhide HNM).2.2.2) (ltK_rise (unhide HCW) _ _ _) (tkK_rise (nm_rise (unhide HNM).2.2.1)) (fun s => hasB_mem.symm) (fun s => ltK_mem (unhide HCW) (unhide HNM).2.1) (fun s => tkK_mem)).mono ?_
    rintro e w8 ⟨p1, q1, p2, q2, p3, q3, rfl, o8, b8⟩
    have HO8 := hide o8
    have HOD := hide ((unhide HOD).below b8)
    have RK8 := hide ((unhide RK7).below b8)
    have HB8 := hide ((unhide HB7).trans (b8.mono (unhide HB7).size))
    have HL7 : Hid (w.heap.size + 1 < w7.heap.size ∧ w7.heap.size ≤ w8.heap.size) := hide ⟨(unhide RK7).lt, b8.size⟩
    clear o8 b8 nn BD7 DK7 k0 k1 k2
    go_wp2_with fail
    refine (namesOf_any _ _ _ (ds.map Prod.fst) _ (ownQ_row (w0 := w) (unhide HOD) (unhide HDL) (by omega) (unhide HB8) (unhide HDX)) hm30).mono ?_
    rintro e w9 ⟨g9, q9, rfl, o9, b9⟩
    rw [unhide HDS, ← tdR_is] at o9 ⊢
    have RK9 := (unhide RK8).below b9
    have x0 : w9.cell? ⟨w.heap.size + 1, 0, none⟩ = some (.slice none 0 0) := RK9.c 0 (by simp)
    have x1 : w9.cell? ⟨w.heap.size + 1, 1, none⟩ = some (.slice none 0 0) := RK9.c 1 (by simp)
    have x2 : w9.cell? ⟨w.heap.size + 1, 2, none⟩ = some (.slice none 0 0) := RK9.c 2 (by simp)
    have f0 := RK9.f 0 (by simp)
    have f1 := RK9.f 1 (by simp)
    have f2 := RK9.f 2 (by simp)
    have oU := (unhide HO8).below b9
    obtain ⟨L2, hL2⟩ : ∃ L, L = ltK rs ts z2 (tdR rs ts z2 (tkK ts z3 z3.length) ph 3) rs.length := ⟨_, rfl⟩
    obtain ⟨L3, hL3⟩ : ∃ L, L = tkK ts z3 z3.length := ⟨_, rfl⟩
    obtain ⟨L4, hL4⟩ : ∃ L, L = tdR rs ts z2 (tkK ts z3 z3.length) ph 3 := ⟨_, rfl⟩
    rw [← hL2, ← hL3] at oU
    rw [← hL4] at o9
    rw [← hL2, ← hL4, ← hL3] at HU
    have ne : ∀ {v : Value} {L : List ByteArray}, OwnE 1 stC w9 w7.heap.size 9 v L → v.ownBlock ≠ some (w.heap.size + 1) := fun {v L} h e => by
      have := (h.lies _ e).1
      have := unhide HL7
      omega
    have RKS := hide (((RK9.set 0 (by simp) (.slice p1 ts.length q1)).set 1 (by simp) (.slice p2 L2.length q2)).set 2 (by simp) (.slice p3 L3.length q3))
    have HPO := hide (((((oU.set_other (S := w.heap.size + 1) (o := 0) (.slice p1 ts.length q1) (ne oU.o1) (ne oU.o2) (ne oU.o3)).set_other (S := w.heap.size + 1) (o := 1) (.slice p2 L2.length q2) (ne oU.o1) (ne oU.o2) (ne oU.o3)).set_other (S := w.heap.size + 1) (o := 2) (.slice p3 L3.length q3) (ne oU.o1) (ne oU.o2) (ne oU.o3))).mono (unhide HB7).size)
    have nt : (Value.slice (some ⟨g9, 0, none⟩) L4.length q9).ownBlock ≠ some (w.heap.size + 1) := fun e => by have := (o9.lies _ e).1; have := unhide HL7; omega
    have HTO := hide ((((o9.set_other (S := w.heap.size + 1) (o := 0) (.slice p1 ts.length q1) nt).set_other (S := w.heap.size + 1) (o := 1) (.slice p2 L2.length q2) nt).set_other (S := w.heap.size + 1) (o := 2) (.slice p3 L3.length q3) nt).mono (unhide HB8).size)
    have HBF := hide (((((unhide HB8).trans (b9.mono (unhide HB8).size)).setCell (p := ⟨w.heap.size + 1, 0, none⟩) (by simp) (.slice p1 ts.length q1)).setCell (p := ⟨w.heap.size + 1, 1, none⟩) (by simp) (.slice p2 L2.length q2)).setCell (p := ⟨w.heap.size + 1, 2, none⟩) (by simp) (.slice p3 L3.length q3))
    have HFA : Hid (PnFar p1 p2 p3 (some ⟨g9, 0, none⟩)) := hide (pnfar_of (unhide HO8) (o9.lies g9 rfl).1)
    rw [← hL2, ← hL4, ← hL3]
    clear oU o9 b9 RK9 ne nt hL2 hL3 hL4
    go_wp2_with fail
    rw [(unhide HU).1, (unhide HU).2.1, (unhide HU).2.2.1, (unhide HU).2.2.2, unhide HE]
    exact bodyPost_ret (results_cellBB (vs := [.slice p1 ts.length q1, .slice p2 L2.length q2, .slice p3 L3.length q3]) rfl Try.isAgg31 Try.sizeOf31 rfl (unhide RKS) rfl rfl) rfl ⟨_, _, _, _, _, _, _, _, rfl, unhide HPO, unhide HTO, unhide HFA, unhide HBF⟩

end Go.Proofs.Ytfehfocfoegbdaa

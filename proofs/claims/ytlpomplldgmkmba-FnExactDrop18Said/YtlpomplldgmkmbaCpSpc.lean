/-
  The model's copy of what is aboard: the same loads, in memory of their own. Nothing that was there is written.
-/
import Derived.Test.YtlpomplldgmkmbaCp1
import Derived.Test.YtlpomplldgmkmbaAppBy
namespace Go.Proofs.Ytlpomplldgmkmba
open Go Go.RowKit

set_option maxRecDepth 20000 in
set_option maxHeartbeats 4000000 in
theorem l18Copy_any (s : Int) (a1 : Option Addr) (l1 c1 : Nat) (zs : List Lc) (w : World) (hr : LsT w a1 l1 zs) (hlz : LzB zs) :
    Calls Try.prog 62 #[.agg #[.int .i64 s, .slice a1 l1 c1]] w fun e w' => (∃ a c, e = .returned (.agg #[.int .i64 s, .slice a l1 c]) ∧ OwnLT w' (w.heap.size + 3) (.slice a l1 c) zs) ∧ Below w.heap.size w w' := by
  have hzl := hr.len_eq
  have HOK := hide hr.ok
  obtain ⟨ls, e, hl⟩ := hr.ex
  have hz := hl.row.len_eq
  have HO := hide hl.row.six
  have HEL := hide hl.el
  have hsm := hl.row.small
  have HE := hide e
  have HZL := hide hzl
  have HLZ := hide hlz
  have hlm : ls.length ≤ 1048576 := by have := hlz.1; omega
  subst hz
  clear hr hl e hzl hlz
  obtain ⟨W, hW⟩ : ∃ W, W = ((w.alloc (Obj.cells #[.int .i64 s, .slice a1 ls.length c1] 57)).alloc (Obj.cells #[.int .i64 0, .slice none 0 0] 57)).alloc (Obj.cells #[.int .i64 s, .slice none 0 0] 57) := ⟨_, rfl⟩
  have K0 : Blk W w.heap.size [.int .i64 s, .slice a1 ls.length c1] := by rw [hW]; exact ((Blk.new _ _).alloc _).alloc _
  have K1 : Blk W (w.heap.size + 1) [.int .i64 0, .slice none 0 0] := by
    rw [hW]
    have := (Blk.new (w := (w.alloc (Obj.cells #[.int .i64 s, .slice a1 ls.length c1] 57))) [.int .i64 0, .slice none 0 0] 57).alloc (Obj.cells #[.int .i64 s, .slice none 0 0] 57)
    simpa using this
  have K2 : Hid (Blk W (w.heap.size + 1 + 1) [.int .i64 s, .slice none 0 0]) := hide (by
    rw [hW]
    have := Blk.new (w := ((w.alloc (Obj.cells #[.int .i64 s, .slice a1 ls.length c1] 57)).alloc (Obj.cells #[.int .i64 0, .slice none 0 0] 57))) [.int .i64 s, .slice none 0 0] 57
    simpa using this)
  have B0 : Below w.heap.size w W := by rw [hW]; exact bel3 _ _ _
  have hWs : W.heap.size = w.heap.size + 1 + 1 + 1 := by rw [hW]; simp
  have S0 : Hid (CpS w (w.heap.size + 3) [.int .i64 s, .slice a1 ls.length c1] [.int .i64 0, .slice none 0 0] W (.slice none 0 0) []) := hide ⟨ownLd_nil, K0, K1, B0, by omega, by omega⟩
  have HW := hide hW
  clear hW K0 K1 B0 hWs
  go_enter Try.func62, Try.ntmps62
  go_wp2_with fail
  rw [← unhide HW]
  clear HW
  go_loopw [4] (fun i wr => ∃ (k c : Nat) (a : Option Addr) (us : List Lx), i = .int .i64 k ∧ k ≤ ls.length ∧ Hid (us.map lxW = zs.take k) ∧ Hid (CpS w (w.heap.size + 3) [.int .i64 s, .slice a1 ls.length c1] [.int .i64 0, .slice none 0 0] wr (.slice a k c) us) ∧ Hid (Blk wr (w.heap.size + 1 + 1) [.int .i64 s, .slice a k c])) (fun i _ => ls.length - (intOf i).toNat)
  case atStart => exact ⟨0, 0, none, [], rfl, Nat.zero_le _, hide rfl, S0, K2⟩
  case round =>
    clear S0 K2
    obtain ⟨k, c, a, us, rfl, hk, HM, SS, KO⟩ := hrel
    have g1 : wr.cell? ⟨w.heap.size, 1, none⟩ = some (.slice a1 ls.length c1) := (unhide SS).k0.c 1 (by simp)
    by_cases hlt : k < ls.length
    · rcases (unhide HO) with ⟨h0, _⟩ | ⟨bb, off, rfl, _, hc⟩
      · omega
      obtain ⟨x, hx⟩ : ∃ x, elAt ls k = x := ⟨_, rfl⟩
      have el : elAt zs k = lxW x := by rw [← hx]; exact elAt_lx (unhide HE) hlt
      have hin := (unhide HEL) k hlt
      have q := hc k hlt
      rw [hx] at hin q
      have cl := fun {p : Addr} {v : Value} (h : w.cell? p = some v) => ((unhide SS).bel.cell (p := p) (block_lt_of_cell h)).trans h
      have s0 := cl q.1
      have s1 := cl q.2.1
      have s2 := cl q.2.2.1
      have s3 := cl q.2.2.2.1
      have s4 := cl q.2.2.2.2.1
      have s5 := cl q.2.2.2.2.2
      have hi1 : (k : Int) < (ls.length : Int) := by omega
      have hi0 : (0 : Int) ≤ (k : Int) := by omega
      have hzk : k < zs.length := by have := unhide HZL; omega
      have hdn : x.d.n ≤ 1048576 := by
        have h2 := (unhide HLZ).2 k hzk
        rw [el] at h2
        have h3 := hin.sl.row.len_eq
        have h2 : x.d.zs.length ≤ 1048576 := h2
        omega
      have HNX : Hid (zs.take (k + 1) = zs.take k ++ [lxW x]) := hide (by rw [cp_take hzk, el])
      have HIN := hide hin
      clear q cl hx hc hin el hzk
      have HL : Hid (us.length = k) := hide (ownLd_len (unhide SS).own)
      have hsz2 := (unhide SS).hb.2
      obtain ⟨V1, hV1⟩ : ∃ V, V = wr.alloc (Obj.cells #[.string x.p, .int .i64 x.nb, .int .i64 x.le, .int .i64 x.mo, .int .i64 x.ne, .slice x.d.a x.d.n x.d.c] 44) := ⟨_, rfl⟩
      have hV1s : V1.heap.size = wr.heap.size + 1 := by rw [hV1]; simp
      have KE1 : Blk V1 wr.heap.size [.string x.p, .int .i64 x.nb, .int .i64 x.le, .int .i64 x.mo, .int .i64 x.ne, .slice x.d.a x.d.n x.d.c] := by rw [hV1]; exact Blk.new _ _
      have bV1 : Below wr.heap.size wr V1 := by rw [hV1]; exact bel1 _
      obtain ⟨V2, hV2⟩ : ∃ V, V = V1.alloc (Obj.cells #[] 5) := ⟨_, rfl⟩
      have bV2 : Below wr.heap.size wr V2 := by rw [hV2]; exact bV1.trans ((bel1 _).mono bV1.size)
      have KE2 : Hid (Blk V2 wr.heap.size [.string x.p, .int .i64 x.nb, .int .i64 x.le, .int .i64 x.mo, .int .i64 x.ne, .slice x.d.a x.d.n x.d.c]) := hide (by rw [hV2]; exact KE1.alloc _)
      have OB2 : Hid (OwnE 1 byC V2 (wr.heap.size + 1) 5 (.slice (some ⟨wr.heap.size + 1, 0, none⟩) 0 0) []) := hide (by
        have := ownE_none (K := 1) (cells := byC) (w := V1) (w1 := V1) (T := 5) (Nat.le_refl _)
        rw [hV1s] at this; rw [hV2]; exact this)
      have HR2 : Hid (RowE 1 byC V2 x.d.a x.d.n x.d.zs) := hide ((unhide HIN).sl.row.below ((unhide SS).bel.trans (bV2.mono (unhide SS).bel.size)))
      have BV2 := hide bV2
      have m5 : V2.cell? ⟨wr.heap.size, 5, none⟩ = some (.slice x.d.a x.d.n x.d.c) := (unhide KE2).c 5 (by simp)
      have hV2s : Hid (wr.heap.size + 1 ≤ V2.heap.size) := hide (by rw [hV2]; simp; omega)
      have HVV : Hid (V2 = (wr.alloc (Obj.cells #[.string x.p, .int .i64 x.nb, .int .i64 x.le, .int .i64 x.mo, .int .i64 x.ne, .slice x.d.a x.d.n x.d.c] 44)).alloc (Obj.cells #[] 5)) := hide (by rw [hV2, hV1])
      rw [hV2, hV1] at m5
      clear hV1 hV2 hV1s KE1 bV1 bV2 HIN V1
      go_wp2_with (first
        | (at_builtin; rw [← unhide HVV]; refine wpList_app_by rfl _ _ rfl (unhide OB2) rfl rfl _ _ _ x.d.zs rfl (unhide HR2) (by omega) (unhide hV2s) ?_; intro g8 c8 w8 o8 gr8 _; rw [Nat.zero_add] at o8 ⊢; rw [List.nil_append] at o8; have K8 : Blk w8 wr.heap.size [.string x.p, .int .i64 x.nb, .int .i64 x.le, .int .i64 x.mo, .int .i64 x.ne, .slice x.d.a x.d.n x.d.c] := (unhide KE2).apart gr8 (fun e => by have := Option.some.inj e; omega); have b8 : Below wr.heap.size wr w8 := (unhide BV2).grown gr8 (unhide BV2).size (fun q hq => by cases hq; omega); have y5 : w8.cell? ⟨wr.heap.size, 5, none⟩ = some (.slice x.d.a x.d.n x.d.c) := K8.c 5 (by simp); have z5 : w8.frozen? ⟨wr.heap.size, 5, none⟩ = false := K8.f 5 (by simp); have K9 : Blk (w8.setCell ⟨wr.heap.size, 5, none⟩ (.slice (some ⟨g8, 0, none⟩) x.d.n c8)) wr.heap.size [.string x.p, .int .i64 x.nb, .int .i64 x.le, .int .i64 x.mo, .int .i64 x.ne, .slice (some ⟨g8, 0, none⟩) x.d.n c8] := K8.set 5 (by simp) _; have B9 : Hid (Below wr.heap.size wr (w8.setCell ⟨wr.heap.size, 5, none⟩ (.slice (some ⟨g8, 0, none⟩) x.d.n c8))) := hide (b8.setCell (by simp) _); have OD : Hid (OwnE 1 byC (w8.setCell ⟨wr.heap.size, 5, none⟩ (.slice (some ⟨g8, 0, none⟩) x.d.n c8)) wr.heap.size 5 (.slice (some ⟨g8, 0, none⟩) x.d.n c8) x.d.zs) := hide ((o8.set_other _ (fun e => by have := (o8.lies _ e).1; omega)).mono (by omega)); have p0 := K9.c 0 (by simp); have p1 := K9.c 1 (by simp); have p2 := K9.c 2 (by simp); have p3 := K9.c 3 (by simp); have p4 := K9.c 4 (by simp); have p5 := K9.c 5 (by simp); simp only [List.getElem_cons_zero, List.getElem_cons_succ] at p0 p1 p2 p3 p4 p5; have q1 : (w8.setCell ⟨wr.heap.size, 5, none⟩ (.slice (some ⟨g8, 0, none⟩) x.d.n c8)).cell? ⟨w.heap.size + 1 + 1, 1, none⟩ = some (.slice a k c) := ((unhide KO).below (unhide B9)).c 1 (by simp); have hsz8 : (w8.setCell ⟨wr.heap.size, 5, none⟩ (.slice (some ⟨g8, 0, none⟩) x.d.n c8)).heap.size = w8.heap.size := (by simp [World.setCell]); clear K8 b8 K9 o8 gr8)
        | (at_builtin; refine wpList_app_lxB rfl _ _ rfl (⟨x.p, x.nb, x.le, x.mo, x.ne, ⟨some ⟨g8, 0, none⟩, x.d.n, c8, x.d.zs⟩⟩ : Lx) (((unhide SS).below (unhide B9)).below (bel1 _)).own.out (unhide HL) rfl rfl (fun j hj => by have h := (Blk.new (w := w8.setCell ⟨wr.heap.size, 5, none⟩ (.slice (some ⟨g8, 0, none⟩) x.d.n c8)) [.string x.p, .int .i64 x.nb, .int .i64 x.le, .int .i64 x.mo, .int .i64 x.ne, .slice (some ⟨g8, 0, none⟩) x.d.n c8] 44).c j (by simpa using hj); rw [hsz8] at h; exact h.trans (by match j, hj with | 0, _ => rfl | 1, _ => rfl | 2, _ => rfl | 3, _ => rfl | 4, _ => rfl | 5, _ => rfl)) (by have := (((unhide SS).below (unhide B9)).below (bel1 (Obj.cells #[.string x.p, .int .i64 x.nb, .int .i64 x.le, .int .i64 x.mo, .int .i64 x.ne, .slice (some ⟨g8, 0, none⟩) x.d.n c8] 44))).hb; omega) (by omega) ?_; intro g9 c9 w9 o9 gr9 hg9; have KA9 : Blk w9 (w.heap.size + 1 + 1) [.int .i64 s, .slice a k c] := (((unhide KO).below (unhide B9)).alloc _).apart gr9 (fun e => by have := ((((unhide SS).below (unhide B9)).below (bel1 (Obj.cells #[.string x.p, .int .i64 x.nb, .int .i64 x.le, .int .i64 x.mo, .int .i64 x.ne, .slice (some ⟨g8, 0, none⟩) x.d.n c8] 44))).own.out.lies _ e.symm).1; omega); clear hsz8; have r1 : w9.cell? ⟨w.heap.size + 1 + 1, 1, none⟩ = some (.slice a k c) := KA9.c 1 (by simp); have t1 : w9.frozen? ⟨w.heap.size + 1 + 1, 1, none⟩ = false := KA9.f 1 (by simp); have NK : Hid (Blk (w9.setCell ⟨w.heap.size + 1 + 1, 1, none⟩ (.slice (some ⟨g9, 0, none⟩) (k + 1) c9)) (w.heap.size + 1 + 1) [.int .i64 s, .slice (some ⟨g9, 0, none⟩) (k + 1) c9]) := hide (KA9.set 1 (by simp) _); clear KA9))
      have N1 := (unhide SS).push ((unhide B9).trans ((bel1 _).mono (unhide B9).size)) ((unhide OD).below (bel1 _)) o9 gr9 hg9
      have NX : Hid (CpS w (w.heap.size + 3) [.int .i64 s, .slice (some ⟨bb, off, none⟩) ls.length c1] [.int .i64 0, .slice none 0 0] (w9.setCell ⟨w.heap.size + 1 + 1, 1, none⟩ (.slice (some ⟨g9, 0, none⟩) (k + 1) c9)) (.slice (some ⟨g9, 0, none⟩) (k + 1) c9) (us ++ [(⟨x.p, x.nb, x.le, x.mo, x.ne, ⟨some ⟨g8, 0, none⟩, x.d.n, c8, x.d.zs⟩⟩ : Lx)])) := hide ⟨N1.own.set_low (by omega) _, N1.k0.other (by simp; omega) _, N1.k1.other (by simp) _, N1.bel.setCell (by simp; omega) _, N1.hb.1, by have := N1.hb.2; simpa [World.setCell] using this⟩
      have NM : Hid ((us ++ [(⟨x.p, x.nb, x.le, x.mo, x.ne, ⟨some ⟨g8, 0, none⟩, x.d.n, c8, x.d.zs⟩⟩ : Lx)]).map lxW = zs.take (k + 1)) := hide (by rw [List.map_append, unhide HM, unhide HNX]; rfl)
      clear N1 o9 gr9 hg9 SS KO OD B9
      go_roundw
      case rel => exact ⟨k + 1, c9, _, _, by go_num, by omega, NM, NX, NK⟩
      case measure => simp [intOf]; omega
    · have hi1 : ¬ (k : Int) < (ls.length : Int) := by omega
      obtain rfl : k = ls.length := by omega
      have HMF : Hid (us.map lxW = zs) := hide (by have h := unhide HM; rw [← unhide HZL, List.take_length] at h; exact h)
      have KX := hide (unhide SS).k1
      have OU := hide (unhide SS).own
      have BU := hide (unhide SS).bel
      have u0 : wr.cell? ⟨w.heap.size + 1 + 1, 0, none⟩ = some (.int .i64 s) := (unhide KO).c 0 (by simp)
      have u1 : wr.cell? ⟨w.heap.size + 1 + 1, 1, none⟩ = some (.slice a ls.length c) := (unhide KO).c 1 (by simp)
      clear SS HM hk hlt KO
      go_wp2_with ((with_reducible show wpList _ _ _ (⟨none, .store 57 _ _, _, _, _, none⟩ :: _) _ _); refine at_storeAgg (us := [.int .i64 0, .slice none 0 0]) (vs := [.int .i64 s, .slice a ls.length c]) Try.sizeOf57 rfl rfl (unhide KX) rfl (by intro v hv; simp at hv; rcases hv with rfl | rfl <;> rfl) ?_; intro w5 kk gg)
      have BE : Below w.heap.size w w5 := (unhide BU).grown gg (unhide BU).size (fun q hq => by cases hq; omega)
      have OE := (unhide OU).far gg (fun q hq e => by cases e; omega)
      exact bodyPost_ret (results_cell (vs := [.int .i64 s, .slice a ls.length c]) rfl Try.isAgg57 Try.sizeOf57 rfl kk) rfl ⟨⟨_, _, rfl, cp_ok (unhide HMF) (unhide HOK) OE⟩, BE⟩

end Go.Proofs.Ytlpomplldgmkmba

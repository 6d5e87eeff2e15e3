/-
  The model's copy of what is aboard: the same loads, in memory of their own. Nothing that was there is written.
  A load taken out of a list of loads, and several loads behind a list in a region that draws its order. No condition.
  slices.Delete of one load out of a list that a call has made: the list without it, in the same memory. At lists of at most 1000.
-/
import Derived.Test.YtemodlgmjgdjpaaGreatDoorMCpPure
import Derived.Test.YtemodlgmjgdjpaaGreatDoorMAppBy
import Derived.Test.YtemodlgmjgdjpaaGreatDoorAppM

namespace Go.Proofs.YtemodlgmjgdjpaaGreatDoor
open Go Go.RowKit

set_option maxRecDepth 20000 in
set_option maxHeartbeats 4000000 in
theorem l18Copy_any (s : Int) (a1 : Option Addr) (l1 c1 : Nat) (zs : List Lc) (w : World) (hr : LsT w a1 l1 zs) (hlz : LzB zs) :
    Calls Tryz.prog 57 #[.agg #[.int .i64 s, .slice a1 l1 c1]] w fun e w' => (∃ a c, e = .returned (.agg #[.int .i64 s, .slice a l1 c]) ∧ OwnLT w' (w.heap.size + 3) (.slice a l1 c) zs) ∧ Below w.heap.size w w' := by
  have hzl := hr.len_eq
  have HOK := hide hr.ok
  obtain ⟨ls, e, hl⟩ := hr.ex
  have hz := hl.row.len_eq
  have HO := hide hl.row.six
  have HEL := hide hl.el
  have hsm := hl.row.small
  have HE := hide e
  have HZL := hide hzl
  have HLZ := hide hlz
  have hlm : ls.length ≤ 1048576 := by have := hlz.1; omega
  subst hz
  clear hr hl e hzl hlz
  obtain ⟨W, hW⟩ : ∃ W, W = ((w.alloc (Obj.cells #[.int .i64 s, .slice a1 ls.length c1] 26)).alloc (Obj.cells #[.int .i64 0, .slice none 0 0] 26)).alloc (Obj.cells #[.int .i64 s, .slice none 0 0] 26) := ⟨_, rfl⟩
  have K0 : Blk W w.heap.size [.int .i64 s, .slice a1 ls.length c1] := by rw [hW]; exact ((Blk.new _ _).alloc _).alloc _
  have K1 : Blk W (w.heap.size + 1) [.int .i64 0, .slice none 0 0] := by
    rw [hW]
    have := (Blk.new (w := (w.alloc (Obj.cells #[.int .i64 s, .slice a1 ls.length c1] 26))) [.int .i64 0, .slice none 0 0] 26).alloc (Obj.cells #[.int .i64 s, .slice none 0 0] 26)
    simpa using this
  have K2 : Hid (Blk W (w.heap.size + 1 + 1) [.int .i64 s, .slice none 0 0]) := hide (by
    rw [hW]
    have := Blk.new (w := ((w.alloc (Obj.cells #[.int .i64 s, .slice a1 ls.length c1] 26)).alloc (Obj.cells #[.int .i64 0, .slice none 0 0] 26))) [.int .i64 s, .slice none 0 0] 26
    simpa using this)
  have B0 : Below w.heap.size w W := by rw [hW]; exact bel3 _ _ _
  have hWs : W.heap.size = w.heap.size + 1 + 1 + 1 := by rw [hW]; simp
  have S0 : Hid (CpS w (w.heap.size + 3) [.int .i64 s, .slice a1 ls.length c1] [.int .i64 0, .slice none 0 0] W (.slice none 0 0) []) := hide ⟨ownLd_nil, K0, K1, B0, by omega, by omega⟩
  have HW := hide hW
  clear hW K0 K1 B0 hWs
  go_enter Tryz.func57, Tryz.ntmps57
  go_wp2_with fail
  rw [← unhide HW]
  clear HW
  go_loopw [4] (fun i wr => ∃ (k c : Nat) (a : Option Addr) (us : List Lx), i = .int .i64 k ∧ k ≤ ls.length ∧ Hid (us.map lxW = zs.take k) ∧ Hid (CpS w (w.heap.size + 3) [.int .i64 s, .slice a1 ls.length c1] [.int .i64 0, .slice none 0 0] wr (.slice a k c) us) ∧ Hid (Blk wr (w.heap.size + 1 + 1) [.int .i64 s, .slice a k c])) (fun i _ => ls.length - (intOf i).toNat)
  case atStart => exact ⟨0, 0, none, [], rfl, Nat.zero_le _, hide rfl, S0, K2⟩
  case round =>
    clear S0 K2
    obtain ⟨k, c, a, us, rfl, hk, HM, SS, KO⟩ := hrel
    have g1 : wr.cell? ⟨w.heap.size, 1, none⟩ = some (.slice a1 ls.length c1) := (unhide SS).k0.c 1 (by simp)
    by_cases hlt : k < ls.length
    · rcases (unhide HO) with ⟨h0, _⟩ | ⟨bb, off, rfl, _, hc⟩
      · omega
      obtain ⟨x, hx⟩ : ∃ x, elAt ls k = x := ⟨_, rfl⟩
      have el : elAt zs k = lxW x := by rw [← hx]; exact elAt_lx (unhide HE) hlt
      have hin := (unhide HEL) k hlt
      have q := hc k hlt
      rw [hx] at hin q
      have cl := fun {p : Addr} {v : Value} (h : w.cell? p = some v) => ((unhide SS).bel.cell (p := p) (block_lt_of_cell h)).trans h
      have s0 := cl q.1
      have s1 := cl q.2.1
      have s2 := cl q.2.2.1
      have s3 := cl q.2.2.2.1
      have s4 := cl q.2.2.2.2.1
      have s5 := cl q.2.2.2.2.2
      have hi1 : (k : Int) < (ls.length : Int) := by omega
      have hi0 : (0 : Int) ≤ (k : Int) := by omega
      have hzk : k < zs.length := by have := unhide HZL; omega
      have hdn : x.d.n ≤ 1048576 := by
        have h2 := (unhide HLZ).2 k hzk
        rw [el] at h2
        have h3 := hin.sl.row.len_eq
        have h2 : x.d.zs.length ≤ 1048576 := h2
        omega
      have HNX : Hid (zs.take (k + 1) = zs.take k ++ [lxW x]) := hide (by rw [cp_take hzk, el])
      have HIN := hide hin
      clear q cl hx hc hin el hzk
      have HL : Hid (us.length = k) := hide (ownLd_len (unhide SS).own)
      have hsz2 := (unhide SS).hb.2
      obtain ⟨V1, hV1⟩ : ∃ V, V = wr.alloc (Obj.cells #[.string x.p, .int .i64 x.nb, .int .i64 x.le, .int .i64 x.mo, .int .i64 x.ne, .slice x.d.a x.d.n x.d.c] 32) := ⟨_, rfl⟩
      have hV1s : V1.heap.size = wr.heap.size + 1 := by rw [hV1]; simp
      have KE1 : Blk V1 wr.heap.size [.string x.p, .int .i64 x.nb, .int .i64 x.le, .int .i64 x.mo, .int .i64 x.ne, .slice x.d.a x.d.n x.d.c] := by rw [hV1]; exact Blk.new _ _
      have bV1 : Below wr.heap.size wr V1 := by rw [hV1]; exact bel1 _
      obtain ⟨V2, hV2⟩ : ∃ V, V = V1.alloc (Obj.cells #[] 5) := ⟨_, rfl⟩
      have bV2 : Below wr.heap.size wr V2 := by rw [hV2]; exact bV1.trans ((bel1 _).mono bV1.size)
      have KE2 : Hid (Blk V2 wr.heap.size [.string x.p, .int .i64 x.nb, .int .i64 x.le, .int .i64 x.mo, .int .i64 x.ne, .slice x.d.a x.d.n x.d.c]) := hide (by rw [hV2]; exact KE1.alloc _)
      have OB2 : Hid (OwnE 1 byC V2 (wr.heap.size + 1) 5 (.slice (some ⟨wr.heap.size + 1, 0, none⟩) 0 0) []) := hide (by
        have := ownE_none (K := 1) (cells := byC) (w := V1) (w1 := V1) (T := 5) (Nat.le_refl _)
        rw [hV1s] at this; rw [hV2]; exact this)
      have HR2 : Hid (RowE 1 byC V2 x.d.a x.d.n x.d.zs) := hide ((unhide HIN).sl.row.below ((unhide SS).bel.trans (bV2.mono (unhide SS).bel.size)))
      have BV2 := hide bV2
      have m5 : V2.cell? ⟨wr.heap.size, 5, none⟩ = some (.slice x.d.a x.d.n x.d.c) := (unhide KE2).c 5 (by simp)
      have hV2s : Hid (wr.heap.size + 1 ≤ V2.heap.size) := hide (by rw [hV2]; simp; omega)
      have HVV : Hid (V2 = (wr.alloc (Obj.cells #[.string x.p, .int .i64 x.nb, .int .i64 x.le, .int .i64 x.mo, .int .i64 x.ne, .slice x.d.a x.d.n x.d.c] 32)).alloc (Obj.cells #[] 5)) := hide (by rw [hV2, hV1])
      rw [hV2, hV1] at m5
      clear hV1 hV2 hV1s KE1 bV1 bV2 HIN V1
      go_wp2_with (first
        | (at_builtin; rw [← unhide HVV]; refine wpList_app_by rfl _ _ rfl (unhide OB2) rfl rfl _ _ _ x.d.zs rfl (unhide HR2) (by omega) (unhide hV2s) ?_; intro g8 c8 w8 o8 gr8 _; rw [Nat.zero_add] at o8 ⊢; rw [List.nil_append] at o8; have K8 : Blk w8 wr.heap.size [.string x.p, .int .i64 x.nb, .int .i64 x.le, .int .i64 x.mo, .int .i64 x.ne, .slice x.d.a x.d.n x.d.c] := (unhide KE2).apart gr8 (fun e => by have := Option.some.inj e; omega); have b8 : Below wr.heap.size wr w8 := (unhide BV2).grown gr8 (unhide BV2).size (fun q hq => by cases hq; omega); have y5 : w8.cell? ⟨wr.heap.size, 5, none⟩ = some (.slice x.d.a x.d.n x.d.c) := K8.c 5 (by simp); have z5 : w8.frozen? ⟨wr.heap.size, 5, none⟩ = false := K8.f 5 (by simp); have K9 : Blk (w8.setCell ⟨wr.heap.size, 5, none⟩ (.slice (some ⟨g8, 0, none⟩) x.d.n c8)) wr.heap.size [.string x.p, .int .i64 x.nb, .int .i64 x.le, .int .i64 x.mo, .int .i64 x.ne, .slice (some ⟨g8, 0, none⟩) x.d.n c8] := K8.set 5 (by simp) _; have B9 : Hid (Below wr.heap.size wr (w8.setCell ⟨wr.heap.size, 5, none⟩ (.slice (some ⟨g8, 0, none⟩) x.d.n c8))) := hide (b8.setCell (by simp) _); have OD : Hid (OwnE 1 byC (w8.setCell ⟨wr.heap.size, 5, none⟩ (.slice (some ⟨g8, 0, none⟩) x.d.n c8)) wr.heap.size 5 (.slice (some ⟨g8, 0, none⟩) x.d.n c8) x.d.zs) := hide ((o8.set_other _ (fun e => by have := (o8.lies _ e).1; omega)).mono (by omega)); have p0 := K9.c 0 (by simp); have p1 := K9.c 1 (by simp); have p2 := K9.c 2 (by simp); have p3 := K9.c 3 (by simp); have p4 := K9.c 4 (by simp); have p5 := K9.c 5 (by simp); simp only [List.getElem_cons_zero, List.getElem_cons_succ] at p0 p1 p2 p3 p4 p5; have q1 : (w8.setCell ⟨wr.heap.size, 5, none⟩ (.slice (some ⟨g8, 0, none⟩) x.d.n c8)).cell? ⟨w.heap.size + 1 + 1, 1, none⟩ = some (.slice a k c) := ((unhide KO).below (unhide B9)).c 1 (by simp); have hsz8 : (w8.setCell ⟨wr.heap.size, 5, none⟩ (.slice (some ⟨g8, 0, none⟩) x.d.n c8)).heap.size = w8.heap.size := (by simp [World.setCell]); clear K8 b8 K9 o8 gr8)
        | (at_builtin; refine wpList_app_lxB rfl _ _ rfl (⟨x.p, x.nb, x.le, x.mo, x.ne, ⟨some ⟨g8, 0, none⟩, x.d.n, c8, x.d.zs⟩⟩ : Lx) (((unhide SS).below (unhide B9)).below (bel1 _)).own.out (unhide HL) rfl rfl (fun j hj => by have h := (Blk.new (w := w8.setCell ⟨wr.heap.size, 5, none⟩ (.slice (some ⟨g8, 0, none⟩) x.d.n c8)) [.string x.p, .int .i64 x.nb, .int .i64 x.le, .int .i64 x.mo, .int .i64 x.ne, .slice (some ⟨g8, 0, none⟩) x.d.n c8] 32).c j (by simpa using hj); rw [hsz8] at h; exact h.trans (by match j, hj with | 0, _ => rfl | 1, _ => rfl | 2, _ => rfl | 3, _ => rfl | 4, _ => rfl | 5, _ => rfl)) (by have := (((unhide SS).below (unhide B9)).below (bel1 (Obj.cells #[.string x.p, .int .i64 x.nb, .int .i64 x.le, .int .i64 x.mo, .int .i64 x.ne, .slice (some ⟨g8, 0, none⟩) x.d.n c8] 32))).hb; omega) (by omega) ?_; intro g9 c9 w9 o9 gr9 hg9; have KA9 : Blk w9 (w.heap.size + 1 + 1) [.int .i64 s, .slice a k c] := (((unhide KO).below (unhide B9)).alloc _).apart gr9 (fun e => by have := ((((unhide SS).below (unhide B9)).below (bel1 (Obj.cells #[.string x.p, .int .i64 x.nb, .int .i64 x.le, .int .i64 x.mo, .int .i64 x.ne, .slice (some ⟨g8, 0, none⟩) x.d.n c8] 32))).own.out.lies _ e.symm).1; omega); clear hsz8; have r1 : w9.cell? ⟨w.heap.size + 1 + 1, 1, none⟩ = some (.slice a k c) := KA9.c 1 (by simp); have t1 : w9.frozen? ⟨w.heap.size + 1 + 1, 1, none⟩ = false := KA9.f 1 (by simp); have NK : Hid (Blk (w9.setCell ⟨w.heap.size + 1 + 1, 1, none⟩ (.slice (some ⟨g9, 0, none⟩) (k + 1) c9)) (w.heap.size + 1 + 1) [.int .i64 s, .slice (some ⟨g9, 0, none⟩) (k + 1) c9]) := hide (KA9.set 1 (by simp) _); clear KA9))
      have N1 := (unhide SS).push ((unhide B9).trans ((bel1 _).mono (unhide B9).size)) ((unhide OD).below (bel1 _)) o9 gr9 hg9
      have NX : Hid (CpS w (w.heap.size + 3) [.int .i64 s, .slice (some ⟨bb, off, none⟩) ls.length c1] [.int .i64 0, .slice none 0 0] (w9.setCell ⟨w.heap.size + 1 + 1, 1, none⟩ (.slice (some ⟨g9, 0, none⟩) (k + 1) c9)) (.slice (some ⟨g9, 0, none⟩) (k + 1) c9) (us ++ [(⟨x.p, x.nb, x.le, x.mo, x.ne, ⟨some ⟨g8, 0, none⟩, x.d.n, c8, x.d.zs⟩⟩ : Lx)])) := hide ⟨N1.own.set_low (by omega) _, N1.k0.other (by simp; omega) _, N1.k1.other (by simp) _, N1.bel.setCell (by simp; omega) _, N1.hb.1, by have := N1.hb.2; simpa [World.setCell] using this⟩
      have NM : Hid ((us ++ [(⟨x.p, x.nb, x.le, x.mo, x.ne, ⟨some ⟨g8, 0, none⟩, x.d.n, c8, x.d.zs⟩⟩ : Lx)]).map lxW = zs.take (k + 1)) := hide (by rw [List.map_append, unhide HM, unhide HNX]; rfl)
      clear N1 o9 gr9 hg9 SS KO OD B9
      go_roundw
      case rel => exact ⟨k + 1, c9, _, _, by go_num, by omega, NM, NX, NK⟩
      case measure => simp [intOf]; omega
    · have hi1 : ¬ (k : Int) < (ls.length : Int) := by omega
      obtain rfl : k = ls.length := by omega
      have HMF : Hid (us.map lxW = zs) := hide (by have h := unhide HM; rw [← unhide HZL, List.take_length] at h; exact h)
      have KX := hide (unhide SS).k1
      have OU := hide (unhide SS).own
      have BU := hide (unhide SS).bel
      have u0 : wr.cell? ⟨w.heap.size + 1 + 1, 0, none⟩ = some (.int .i64 s) := (unhide KO).c 0 (by simp)
      have u1 : wr.cell? ⟨w.heap.size + 1 + 1, 1, none⟩ = some (.slice a ls.length c) := (unhide KO).c 1 (by simp)
      clear SS HM hk hlt KO
      go_wp2_with ((with_reducible show wpList _ _ _ (⟨none, .store 26 _ _, _, _, _, none⟩ :: _) _ _); refine at_storeAgg (us := [.int .i64 0, .slice none 0 0]) (vs := [.int .i64 s, .slice a ls.length c]) Tryz.sizeOf26 rfl rfl (unhide KX) rfl (by intro v hv; simp at hv; rcases hv with rfl | rfl <;> rfl) ?_; intro w5 kk gg)
      have BE : Below w.heap.size w w5 := (unhide BU).grown gg (unhide BU).size (fun q hq => by cases hq; omega)
      have OE := (unhide OU).far gg (fun q hq e => by cases e; omega)
      exact bodyPost_ret (results_cell (vs := [.int .i64 s, .slice a ls.length c]) rfl Tryz.isAgg26 Tryz.sizeOf26 rfl kk) rfl ⟨⟨_, _, rfl, cp_ok (unhide HMF) (unhide HOK) OE⟩, BE⟩

end Go.Proofs.YtemodlgmjgdjpaaGreatDoor

namespace Go.Proofs.YtemodlgmjgdjpaaGreatDoor
open Go Go.RowKit

section
variable {α : Type} [Inhabited α] {K : Nat} {cells : α → Nat → Value}
theorem step_app_elsM {ops : Array Oper} {o : Oper} {a : Act} {K' : Act → World → Prop} {Q : Exit → Act → World → Prop} {E' : Prop} {w : World} (hgd : o.guard = none) (s xo : Operand) (sT eT : TypeId) (ho : o.op = .call { callee := .builtin .append, args := #[s, xo], argTypes := #[sT, sT] })
    (hU : Tryz.prog.underlying sT = some (.slice eT)) {z : Value} {bytes : Nat} (hI : (Tryz.prog.info? eT).map (fun i => (i.zero, i.size, i.bytes)) = some (some z, K, bytes)) (hz : z.cells.size = K) (hK : 0 < K) (hby : bytes ≤ 1000) (h1c : ∀ x q, (cells x q).oneCell' = true)
    {base : Nat} {v : Value} {zs : List α} (hO : OwnE K cells w base eT v zs) (hs : a.eval s = v) (ad : Option Addr) (m c : Nat) (ys : List α) (hx : a.eval xo = .slice ad m c) (hy : RowE K cells w ad m ys) (hm : zs.length + m ≤ 1100000) (hb : base ≤ w.heap.size)
    (h : ∀ v' w', OwnE K cells w' base eT v' (zs ++ ys) → w.grownBy w' v.ownBlock → (v' = .slice none 0 0 → v = .slice none 0 0) → K' (a.put o.dst v') w') : if Region.wanted o (yielded ops a.tmps) = true then Oper.wp Tryz.prog o a w K' Q else E' := by
  have hwn : Region.wanted o (yielded ops a.tmps) = true := by simp [Region.wanted, hgd]
  rw [if_pos hwn]
  obtain ⟨i0, hii, hz0, hz1, hz2⟩ := info_parts hI
  cases ad with
  | none =>
    obtain ⟨rfl, rfl⟩ := hy.nil_src
    obtain ⟨vs, hown, hvx⟩ := hO.own
    refine Lib.wp_append_run w s xo sT sT ho v (.slice none 0 c) hs hx v w (run_append_any_none base sT _ eT i0 K c hU hii v zs.length vs hown) ?_
    exact (h v w (by rw [List.append_nil]; exact hO) ⟨rfl, rfl, rfl, Nat.le_refl _, fun _ _ _ => rfl⟩ id)
  | some x =>
    obtain ⟨vs, hown, hvx⟩ := hO.own
    have hlen := hy.len_eq
    have hmul : (zs.length + m) * bytes ≤ 1100000 * 1000 := Nat.mul_le_mul hm hby
    refine wp_append_own w s xo sT ho base eT i0 z K bytes hU hii hz0 hz1 hz2 hz hK v zs.length vs hs hown x m c (flatE K cells ys) hx (by rw [flatE_len, hlen]) (fun j u hj => ?_) (fun u hu => ?_) (by unfold maxLen; omega) (by omega) hb ?_
    · have hj' : j < ys.length * K := by
        rcases Nat.lt_or_ge j (ys.length * K) with h | h
        · exact h
        · rw [List.getElem?_eq_none (by rw [flatE_len]; exact h)] at hj; cases hj
      rw [flatE_at hj'] at hj
      have hd : j / K < m := by rw [← hlen]; exact Nat.div_lt_of_lt_mul (by rw [Nat.mul_comm]; exact hj')
      obtain ⟨b', off', e, hc⟩ := hy.at_ (j / K) hd
      simp only [Option.some.injEq] at e
      subst e
      have e : off' + j = off' + j / K * K + j % K := by rw [Nat.add_assoc, Nat.div_add_mod']
      rw [addr_addR, e, ← hj]; exact hc (j % K) (Nat.mod_lt _ hK)
    · obtain ⟨p, _, rfl⟩ := List.mem_map.1 hu; exact h1c _ _
    · intro v' w' h1 h2 h3
      exact (h v' w' (ownE_apps hK (by rw [hlen]; exact h1) hown.1 hvx) h2 (fun e => (h3.1 e).1))
end
/-- The list without the load at place k. -/
def dlL {α : Type} (us : List α) (k : Nat) : List α := us.take k ++ us.drop (k + 1)
theorem dlL_len {α : Type} {us : List α} {k : Nat} (h : k < us.length) : (dlL us k).length = us.length - 1 := by
  simp only [dlL, List.length_append, List.length_take, List.length_drop]; omega
theorem dlL_at {α : Type} [Inhabited α] {us : List α} {k i : Nat} (h : k < us.length) (hi : i < us.length - 1) : elAt (dlL us k) i = elAt us (if i < k then i else i + 1) := by
  unfold dlL
  by_cases c : i < k
  · rw [if_pos c, elAt_left (by rw [List.length_take]; omega)]
    simp [elAt, c]
  · rw [if_neg c]
    obtain ⟨j, rfl⟩ : ∃ j, i = (us.take k).length + j := ⟨i - k, by rw [List.length_take]; omega⟩
    rw [elAt_right]
    simp only [List.length_take] at *
    simp only [elAt, List.getElem?_drop]
    congr 2; omega
theorem dlL_map {us : List Lx} {zs : List Lc} (h : us.map lxW = zs) (k : Nat) : (dlL us k).map lxW = zs.take k ++ zs.drop (k + 1) := by
  subst h; simp [dlL, List.map_take, List.map_drop]
/-- Some of the loads, in the order in which they lay, in another list. -/
theorem OwnLd.pick {w w' : World} {base g n c : Nat} {v : Value} {us us' : List Lx} (h : OwnLd w base v us) (o : OwnE 6 lxC w' base 32 (.slice (some ⟨g, 0, none⟩) n c) us') (f : Nat → Nat) (hf : ∀ i, i < us'.length → f i < us.length ∧ elAt us' i = elAt us (f i)) (hm : ∀ i j, i < j → j < us'.length → f i < f j)
    (hd : ∀ i, i < us.length → OwnE 1 byC w' base 5 (slV (elAt us i).d) (elAt us i).d.zs) (hg : ∀ i, i < us.length → ∀ q, (slV (elAt us i).d).ownBlock = some q → q ≠ g) : OwnLd w' base (.slice (some ⟨g, 0, none⟩) n c) us' := by
  refine ⟨o, fun i hi => ?_, fun i hi q hq e => ?_, fun i j hij hj q hq => ?_⟩
  · rw [(hf i hi).2]; exact hd _ (hf i hi).1
  · rw [(hf i hi).2] at hq
    exact hg _ (hf i hi).1 q hq (Option.some.inj e).symm
  · have hi : i < us'.length := by omega
    rw [(hf i hi).2] at hq
    rw [(hf j hj).2]
    exact h.par _ _ (hm i j hij hj) (hf j hj).1 q hq
theorem lxC_one (x : Lx) (q : Nat) : (lxC x q).oneCell' = true := by
  match q with
  | 0 => rfl
  | 1 => rfl
  | 2 => rfl
  | 3 => rfl
  | 4 => rfl
  | _ + 5 => rfl
theorem sizeLx : (Tryz.prog.info? 32).map (·.size) = some 6 := by kernel_rfl
theorem ownLx_open {base g n cp : Nat} {us : List Lx} {w : World} (ho : OwnE 6 lxC w base 32 (.slice (some ⟨g, 0, none⟩) n cp) us) (hn : us.length = n) :
    ∃ (cs : List Value) (cur : Array Value), base ≤ g ∧ g < w.heap.size ∧ w.heap[g]? = some (.cells cur 32 (0, 0)) ∧ n ≤ cp ∧ cp ≤ maxLen ∧ cur.size = cp * 6 ∧ cs.length = n * 6 ∧ (∀ j, j < n * 6 → cur.toList[j]? = cs[j]?) ∧ (∀ j v, cs[j]? = some v → w.cell? ⟨g, j, none⟩ = some v) ∧ (∀ j, j < n → ∀ q, q < 6 → cs[j * 6 + q]? = some (lxC (elAt us j) q)) ∧ ∀ v ∈ cs, v.oneCell' = true := by
  subst hn
  obtain ⟨cs, ho2, hcs⟩ := ho.own
  have h1 := ho2.1
  rcases ho2.2 with ⟨e, _⟩ | ⟨g2, c2, cur, e, hb, hg, hc, hm, hz, ht⟩
  · cases e
  simp only [Value.slice.injEq, Option.some.injEq, Addr.mk.injEq, and_true, true_and] at e
  obtain ⟨rfl, rfl⟩ := e
  refine ⟨cs, cur, hb, ?_, hg, hc, hm, hz, h1, fun j hj => ?_, fun j v hj => ?_, hcs, fun v hv => ?_⟩
  · rcases Nat.lt_or_ge g w.heap.size with hlt | hge
    · exact hlt
    · rw [Array.getElem?_eq_none hge] at hg; cases hg
  · rw [← ht, List.getElem?_take, if_pos hj]
  · have hj' : j < us.length * 6 := by
      rcases Nat.lt_or_ge j (us.length * 6) with h | h
      · exact h
      · rw [List.getElem?_eq_none (by omega)] at hj; cases hj
    rw [ho2.cellAt j hj']; exact hj
  · obtain ⟨p, hp, rfl⟩ := List.getElem_of_mem hv
    have e := hcs (p / 6) (by omega) (p % 6) (by omega)
    rw [show p / 6 * 6 + p % 6 = p by omega, List.getElem?_eq_getElem hp] at e
    simp only [Option.some.injEq] at e
    rw [e]; exact lxC_one _ _
theorem step_append_run {ops : Array Oper} {o : Oper} {a : Act} {w : World} {K : Act → World → Prop} {Q : Exit → Act → World → Prop} {E : Prop}
    (hg : o.guard = none) (d x : Operand) (dT : TypeId) (hop : o.op = Op.call { callee := Callee.builtin Builtin.append, args := #[d, x], argTypes := #[dT, dT] })
    (v u : Value) (hd : a.eval d = v) (hx : a.eval x = u) {v' : Value} {w' : World} (hr : (Builtin.append_ #[dT, dT] o.type #[v, u]).run Tryz.prog w = .ok v' w') (hK : K (a.put o.dst v') w') :
    if Region.wanted o (yielded ops a.tmps) = true then Oper.wp Tryz.prog o a w K Q else E := by
  have hw : Region.wanted o (yielded ops a.tmps) = true := by simp [Region.wanted, hg]
  rw [if_pos hw]
  unfold Oper.wp
  simp [execOp, hop, resolve, invoke, builtin, hd, hx, hr, Result.andThen]
  exact hK
theorem clear_one (w : World) (g o c : Nat) (cur : Array Value) (ty : TypeId) (hg : w.heap[g]? = some (.cells cur 32 (0, 0))) (hfit : o + 6 ≤ cur.size) :
    (Builtin.clear_ #[24] ty #[.slice (some ⟨g, o, none⟩) 1 c]).run Tryz.prog w = .ok (.tuple #[]) (w.setRow g (seg cur.toList o [.string ⟨#[]⟩, .int .i64 0, .int .i64 0, .int .i64 0, .int .i64 0, .slice none 0 0]).toArray) := by
  have hst := run_storeCells_at Tryz.prog g o 32 [.string ⟨#[]⟩, .int .i64 0, .int .i64 0, .int .i64 0, .int .i64 0, .slice none 0 0] 0 cur w hg (by simpa using hfit) (by intro v hv; simp at hv; rcases hv with rfl | rfl | rfl | rfl | rfl | rfl <;> rfl)
  have hz : (Builtin.zeroCells (Value.agg #[.string ⟨#[]⟩, .int .i64 0, .int .i64 0, .int .i64 0, .int .i64 0, .slice none 0 0]).cells 1).toList = [.string ⟨#[]⟩, .int .i64 0, .int .i64 0, .int .i64 0, .int .i64 0, .slice none 0 0] := by kernel_rfl
  have hv := Tryz.zeroValue32 w
  simp only [Nat.add_zero] at hst
  simp [Builtin.clear_, run_underlying Tryz.underlying24, hv, hz, hst, seg]

end Go.Proofs.YtemodlgmjgdjpaaGreatDoor

namespace Go.Proofs.YtemodlgmjgdjpaaGreatDoor
open Go Go.RowKit

set_option maxRecDepth 100000 in
set_option maxHeartbeats 4000000 in
theorem del_mid (base g n m cp k j : Nat) (us : List Lx) (w : World) (h : OwnLd w base (.slice (some ⟨g, 0, none⟩) n cp) us) (hn : us.length = n) (hnm : n = m + 1) (hj : j = k + 1) (hs : n ≤ 1000) (hk : k < m) :
    Calls Tryz.prog 55 #[.slice (some ⟨g, 0, none⟩) n cp, .int .i64 (k : Int), .int .i64 (j : Int)] w fun e w' => e = .returned (.slice (some ⟨g, 0, none⟩) m cp) ∧ OwnLd w' base (.slice (some ⟨g, 0, none⟩) m cp) (dlL us k) ∧ w.grownBy w' (some g) := by
  obtain ⟨cs, cur, hbg, hgw, hg, hnc, hcm, hcz, hcl, hcur, hcell, hcs, h1c⟩ := ownLx_open h.out hn
  obtain ⟨i0, hi0, hz0, hzs, hzb⟩ := info_parts infoLx
  have hcz2 : cur.toList.length = cp * 6 := by simpa using hcz
  obtain ⟨R2, hR2⟩ : ∃ R2 : Array Value, R2 = (seg cur.toList (k * 6) (cs.drop (j * 6))).toArray := ⟨_, rfl⟩
  have hdl : (cs.drop (j * 6)).length = (n - j) * 6 := by rw [List.length_drop, hcl]; omega
  have hkm : k + (n - j) = m := by omega
  have happ : ∀ ty c, (Builtin.append_ #[24, 24] ty #[.slice (some ⟨g, 0, none⟩) k cp, .slice (some ⟨g, j * 6, none⟩) (n - j) c]).run Tryz.prog w.drew = .ok (.slice (some ⟨g, 0, none⟩) m cp) (w.drew.setRow g R2) := fun ty c => by
    have := run_append_room (P := Tryz.prog) w.drew 24 ty 32 i0 Tryz.underlying24 hi0 g k cp cur hg ⟨g, j * 6, none⟩ (n - j) c (cs.drop (j * 6)) (by rw [hzs]; exact hdl) (fun p u hp => by
      rw [List.getElem?_drop] at hp
      rw [addr_addR]
      exact hcell _ u hp) (fun v hv => h1c v (List.mem_of_mem_drop hv)) (by omega) (by rw [hzs, hdl, hcz]; omega)
    rw [hkm, hzs] at this
    rw [hR2]
    exact this
  have hs2 : R2.toList.length = cp * 6 := by rw [hR2]; simp only; rw [seg_len (by rw [hcz2, hdl]; omega)]; exact hcz2
  have hs3 : R2.size = cp * 6 := by simpa using hs2
  have hg2 : (w.drew.setRow g R2).heap[g]? = some (.cells R2 32 (0, 0)) := setRow_heap w.drew g cur R2 _ _ hg
  obtain ⟨R3, hR3⟩ : ∃ R3 : Array Value, R3 = (seg R2.toList (m * 6) [.string ⟨#[]⟩, .int .i64 0, .int .i64 0, .int .i64 0, .int .i64 0, .slice none 0 0]).toArray := ⟨_, rfl⟩
  have hclr : ∀ ty c, (Builtin.clear_ #[24] ty #[.slice (some ⟨g, m * 6, none⟩) 1 c]).run Tryz.prog (w.drew.setRow g R2) = .ok (.tuple #[]) ((w.drew.setRow g R2).setRow g R3) := fun ty c => by
    rw [hR3]; exact clear_one (w.drew.setRow g R2) g (m * 6) c R2 ty hg2 (by rw [hs3]; omega)
  have hR3l : R3.size = cp * 6 := by
    rw [hR3]; simp only [List.size_toArray]; rw [seg_len (by rw [hs2]; simp; omega)]; exact hs2
  have hcells : ∀ i, i < m → ∀ q, q < 6 → R3.toList[i * 6 + q]? = some (lxC (elAt (dlL us k) i) q) := fun i hi q hq => by
    rw [hR3]; simp only
    rw [seg_out (by rw [hs2]; simp; omega) (.inl (by omega)), dlL_at (by omega) (by omega), hR2]
    simp only
    by_cases c : i < k
    · rw [if_pos c, seg_out (by rw [hcz2, hdl]; omega) (.inl (by omega)), hcur _ (by omega)]
      exact hcs i (by omega) q hq
    · rw [if_neg c, seg_in (by rw [hcz2, hdl]; omega) (by omega) (by rw [hdl]; omega), List.getElem?_drop, show j * 6 + (i * 6 + q - k * 6) = (i + 1) * 6 + q by omega]
      exact hcs (i + 1) (by omega) q hq
  have hfin : OwnLd ((w.drew.setRow g R2).setRow g R3) base (.slice (some ⟨g, 0, none⟩) m cp) (dlL us k) ∧ w.grownBy ((w.drew.setRow g R2).setRow g R3) (some g) := by
    have gr : w.grownBy ((w.drew.setRow g R2).setRow g R3) (some g) := grown_heap rfl rfl rfl (by simp) (fun j hj hne => by rw [setRow_at hne, setRow_at hne]; rfl)
    have hh : ((w.drew.setRow g R2).setRow g R3).heap[g]? = some (.cells R3 32 (0, 0)) := setRow_heap (w.drew.setRow g R2) g R2 R3 _ _ hg2
    have hlen : (dlL us k).length = m := by rw [dlL_len (by omega)]; omega
    refine ⟨h.pick (ownE_row hh hbg hlen (by omega) hcm hR3l hcells) (fun i => if i < k then i else i + 1) (fun i hi => ⟨by split <;> omega, dlL_at (by omega) (by omega)⟩) (fun i i2 h1 h2 => by split <;> split <;> omega) (fun i hi => (h.dat i hi).far gr (fun q hq e => h.apt i hi q hq (by rw [e]; rfl))) (fun i hi q hq e => h.apt i hi q hq (by rw [e]; rfl)), gr⟩
  have HF := hide hfin
  have hk0 : (0 : Int) ≤ (k : Int) := by omega
  have hj0 : (0 : Int) ≤ (j : Int) := by omega
  have hkj : (k : Int) ≤ (j : Int) := by omega
  have hjn : (j : Int) ≤ (n : Int) := by omega
  have hkjn : k ≤ j := by omega
  have hjnn : j ≤ n := by omega
  have hkc : k ≤ cp := by omega
  have hki : (k : Int) ≤ (cp : Int) := by omega
  have hjc : j ≤ cp := by omega
  have hm0 : (0 : Int) ≤ (m : Int) := by omega
  have hmn2 : (m : Int) ≤ (n : Int) := by omega
  have hmnn : m ≤ n := by omega
  have hncI : (n : Int) ≤ (cp : Int) := by omega
  have hmc : ¬ (cp = m) := by omega
  have hckk : ¬ (cp = k) := by omega
  have hnk : ¬ (n = k) := by omega
  have hn1 : n - m = 1 := by omega
  have hne1 : ((k : Int) == (j : Int)) = false := by simp only [beq_eq_false_iff_ne]; omega
  have hne2 : ¬ ((k : Int) = (j : Int)) := by omega
  have hne3 : ¬ (k = j) := by omega
  have hne4 : decide (k = j) = false := by simp only [decide_eq_false_iff_not]; omega
  have hcj : ¬ (cp = j) := by omega
  have hcmx : cp ≤ 9223372036854775807 := by unfold maxLen at hcm; omega
  clear hfin hcells hR3l hs2 hs3 hg2 hdl hR2 hR3 hkm hnm hk hcur hcell hcs h1c hcl hcz hcz2 hcm hg h hgw hbg hn hj hi0 hz0 hzs hzb
  go_enter Tryz.func55, Tryz.ntmps55
  go_wp2_with fail
  go_region_law (refine step_append_run rfl (.tmp 22) (.tmp 25) 24 rfl (.slice (some ⟨g, 0, none⟩) k cp) (.slice (some ⟨g, j * 6, none⟩) (n - j) (cp - j)) (by simp [Act.eval, Act.put]) (by simp [Act.eval, Act.put]) (happ 24 (cp - j)) ?_)
  go_wp2_with fail
  go_ret
  exact ⟨rfl, unhide HF⟩
set_option maxRecDepth 100000 in
set_option maxHeartbeats 4000000 in
theorem del_end (base g n m cp k j : Nat) (us : List Lx) (w : World) (h : OwnLd w base (.slice (some ⟨g, 0, none⟩) n cp) us) (hn : us.length = n) (hnm : n = m + 1) (hj : j = k + 1) (hs : n ≤ 1000) (hk : k = m) :
    Calls Tryz.prog 55 #[.slice (some ⟨g, 0, none⟩) n cp, .int .i64 (k : Int), .int .i64 (j : Int)] w fun e w' => e = .returned (.slice (some ⟨g, 0, none⟩) m cp) ∧ OwnLd w' base (.slice (some ⟨g, 0, none⟩) m cp) (dlL us k) ∧ w.grownBy w' (some g) := by
  subst hk
  obtain ⟨cs, cur, hbg, hgw, hg, hnc, hcm, hcz, hcl, hcur, hcell, hcs, h1c⟩ := ownLx_open h.out hn
  obtain ⟨i0, hi0, hz0, hzs, hzb⟩ := info_parts infoLx
  have hcz2 : cur.toList.length = cp * 6 := by simpa using hcz
  have hR2 : cur = cur := rfl
  have happ : ∀ ty xa c, (Builtin.append_ #[24, 24] ty #[.slice (some ⟨g, 0, none⟩) k cp, .slice xa 0 c]).run Tryz.prog w.drew = .ok (.slice (some ⟨g, 0, none⟩) k cp) w.drew := fun ty xa c => run_append_nothing (P := Tryz.prog) w.drew 24 24 ty 32 i0 Tryz.underlying24 hi0 (some ⟨g, 0, none⟩) k cp (by omega) (.slice xa 0 c) ⟨.inl ⟨_, Tryz.underlying24⟩, fun w' => by simp [Builtin.lenOf], by cases xa <;> simp [Builtin.firstCells, loadCells, loadCellsFrom], by cases xa <;> simp [Builtin.firstCells, loadCells, loadCellsFrom], by simp, fun u hu => by cases hu⟩
  obtain ⟨R3, hR3⟩ : ∃ R3 : Array Value, R3 = (seg cur.toList (k * 6) [.string ⟨#[]⟩, .int .i64 0, .int .i64 0, .int .i64 0, .int .i64 0, .slice none 0 0]).toArray := ⟨_, rfl⟩
  have hclr : ∀ ty c, (Builtin.clear_ #[24] ty #[.slice (some ⟨g, k * 6, none⟩) 1 c]).run Tryz.prog w.drew = .ok (.tuple #[]) (w.drew.setRow g R3) := fun ty c => by
    rw [hR3]; exact clear_one w.drew g (k * 6) c cur ty hg (by rw [hcz]; omega)
  have hR3l : R3.size = cp * 6 := by
    rw [hR3]; simp only [List.size_toArray]; rw [seg_len (by rw [hcz2]; simp; omega)]; exact hcz2
  have hR3a : ∀ p, p < k * 6 → R3.toList[p]? = cs[p]? := fun p hp => by
    rw [hR3]; simp only; rw [seg_out (by rw [hcz2]; simp; omega) (.inl hp)]; exact hcur p (by omega)
  have hcells : ∀ i, i < k → ∀ q, q < 6 → R3.toList[i * 6 + q]? = some (lxC (elAt (dlL us k) i) q) := fun i hi q hq => by
    rw [hR3a _ (by omega), dlL_at (by omega) (by omega), if_pos (by omega)]
    exact hcs i (by omega) q hq
  have hfin : OwnLd (w.drew.setRow g R3) base (.slice (some ⟨g, 0, none⟩) k cp) (dlL us k) ∧ w.grownBy (w.drew.setRow g R3) (some g) := by
    have gr : w.grownBy (w.drew.setRow g R3) (some g) := grown_heap rfl rfl rfl (by simp) (fun j hj hne => setRow_at hne)
    have hh : (w.drew.setRow g R3).heap[g]? = some (.cells R3 32 (0, 0)) := setRow_heap w.drew g cur R3 _ _ hg
    have hlen : (dlL us k).length = k := by rw [dlL_len (by omega)]; omega
    refine ⟨h.pick (ownE_row hh hbg hlen (by omega) hcm hR3l hcells) (fun i => if i < k then i else i + 1) (fun i hi => ⟨by split <;> omega, dlL_at (by omega) (by omega)⟩) (fun i i2 h1 h2 => by split <;> split <;> omega) (fun i hi => (h.dat i hi).far gr (fun q hq e => h.apt i hi q hq (by rw [e]; rfl))) (fun i hi q hq e => h.apt i hi q hq (by rw [e]; rfl)), gr⟩
  have HF := hide hfin
  have hk0 : (0 : Int) ≤ (k : Int) := by omega
  have hj0 : (0 : Int) ≤ (j : Int) := by omega
  have hkj : (k : Int) ≤ (j : Int) := by omega
  have hjn : (j : Int) ≤ (n : Int) := by omega
  have hkjn : k ≤ j := by omega
  have hjnn : j ≤ n := by omega
  have hkc : k ≤ cp := by omega
  have hki : (k : Int) ≤ (cp : Int) := by omega
  have hjc : j ≤ cp := by omega
  have hm0 : (0 : Int) ≤ (k : Int) := by omega
  have hmn2 : (k : Int) ≤ (n : Int) := by omega
  have hmnn : k ≤ n := by omega
  have hncI : (n : Int) ≤ (cp : Int) := by omega
  have hmc : ¬ (cp = k) := by omega
  have hckk : ¬ (cp = k) := by omega
  have hnk : ¬ (n = k) := by omega
  have hn1 : n - k = 1 := by omega
  have hne1 : ((k : Int) == (j : Int)) = false := by simp only [beq_eq_false_iff_ne]; omega
  have hne2 : ¬ ((k : Int) = (j : Int)) := by omega
  have hne3 : ¬ (k = j) := by omega
  have hne4 : decide (k = j) = false := by simp only [decide_eq_false_iff_not]; omega
  have hnj : n - j = 0 := by omega
  have hjn2 : j = n := by omega
  have hcmx : cp ≤ 9223372036854775807 := by unfold maxLen at hcm; omega
  clear hfin hcells hR3l hR3 hR3a hR2 hnm hcur hcell hcs h1c hcl hcz hcz2 hcm hg h hgw hbg hn hj hi0 hz0 hzs hzb
  rcases Nat.lt_or_ge n cp with hcn | hcn
  · have hcn2 : ¬ (cp = n) := by omega
    go_enter Tryz.func55, Tryz.ntmps55
    go_wp2_with fail
    go_region_law (refine step_append_run rfl (.tmp 22) (.tmp 25) 24 rfl (.slice (some ⟨g, 0, none⟩) k cp) (.slice (some ⟨g, n * 6, none⟩) 0 (cp - n)) (by simp [Act.eval, Act.put]) (by simp [Act.eval, Act.put]) (happ 24 _ _) ?_)
    go_wp2_with fail
    go_ret
    exact ⟨rfl, unhide HF⟩
  · obtain rfl : cp = n := by omega
    go_enter Tryz.func55, Tryz.ntmps55
    go_wp2_with fail
    go_region_law (refine step_append_run rfl (.tmp 22) (.tmp 25) 24 rfl (.slice (some ⟨g, 0, none⟩) k cp) (.slice (some ⟨g, 0, none⟩) 0 0) (by simp [Act.eval, Act.put]) (by simp [Act.eval, Act.put]) (happ 24 _ _) ?_)
    go_wp2_with fail
    go_ret
    exact ⟨rfl, unhide HF⟩
theorem del_any (base g n m cp k j : Nat) (us : List Lx) (w : World) (h : OwnLd w base (.slice (some ⟨g, 0, none⟩) n cp) us) (hn : us.length = n) (hnm : n = m + 1) (hj : j = k + 1) (hs : n ≤ 1000) (hk : k < n) :
    Calls Tryz.prog 55 #[.slice (some ⟨g, 0, none⟩) n cp, .int .i64 (k : Int), .int .i64 (j : Int)] w fun e w' => e = .returned (.slice (some ⟨g, 0, none⟩) m cp) ∧ OwnLd w' base (.slice (some ⟨g, 0, none⟩) m cp) (dlL us k) ∧ w.grownBy w' (some g) := by
  by_cases e : k = m
  · exact del_end base g n m cp k j us w h hn hnm hj hs e
  · exact del_mid base g n m cp k j us w h hn hnm hj hs (by omega)

end Go.Proofs.YtemodlgmjgdjpaaGreatDoor

/-
  What the model's l7Close answers. At a net that is so; nothing that was there is written.
-/
import Derived.Test.YtfahhjgpgccdhacClSpec
namespace Go.Proofs.Ytfahhjgpgccdhac
open Go.RowKit

theorem bel1d'' {w : World} (n : Nat) (o : Obj) : Below w.heap.size w ((w.drewN n).alloc o) := (bel0d' n).trans ((bel1 (w := w.drewN n) o).mono (Nat.le_refl _))
theorem bel2d'' {w : World} (n : Nat) (o p : Obj) : Below w.heap.size w (((w.drewN n).alloc o).alloc p) := (bel1d'' n o).trans ((bel1 _).mono (by simp))
theorem OwnI.hereN {w : World} {base g n c : Nat} {zs : List Int} (h : OwnI w base (.slice (some ⟨g, 0, none⟩) n c) zs) (hn : zs.length = n) (j : Nat) (hj : j < n) : w.cell? ⟨g, j, none⟩ = some (.int .i64 (nth zs j)) ∧ w.frozen? ⟨g, j, none⟩ = false := by
  subst hn; exact h.here j hj
theorem cell_kept {w w' : World} {row : Option Nat} {b : Nat} {x : Int} {t : TypeId} (k : w.grownBy w' row) (h : w.heap[b]? = some (Obj.cells #[.int .i64 x] t)) (hne : some b ≠ row) : w'.cell? ⟨b, 0, none⟩ = some (.int .i64 x) := by
  have hb : b < w.heap.size := by
    rcases Nat.lt_or_ge b w.heap.size with h1 | h1
    · exact h1
    · rw [Array.getElem?_eq_none h1] at h; cases h
  have h2 := (k.block b hb hne).trans h
  simp [World.cell?, h2]
theorem one_old {w : World} {b : Nat} {x : Int} (h : w.cell? ⟨b, 0, none⟩ = some (.int .i64 x)) : ∀ j, j < 1 → w.cell? ((⟨b, 0, none⟩ : Addr).add j) = some (.int .i64 (nth [x] j)) := fun j hj => by
  obtain rfl : j = 0 := by omega
  rw [addr_addT]; simpa [nth] using h
theorem one_new (w : World) (x : Int) : ∀ j, j < 1 → (w.alloc (Obj.cells #[.int .i64 x] 3)).cell? ((⟨w.heap.size, 0, none⟩ : Addr).add j) = some (.int .i64 (nth [x] j)) := one_old ((Blk.new (w := w) [.int .i64 x] 3).c 0 (by simp))
theorem one_fit {x : Int} (h : -9223372036854775808 ≤ x ∧ x ≤ 9223372036854775807) : ∀ i : Nat, -9223372036854775808 ≤ nth [x] i ∧ nth [x] i ≤ 9223372036854775807 := fun i => by
  rcases Nat.eq_zero_or_pos i with rfl | hi
  · exact h
  · rw [nth_out (by simp; omega)]; omega

set_option maxRecDepth 20000 in
set_option maxHeartbeats 8000000 in
theorem l7Close_is (N : Nat) (a1 a3 : Option Addr) (l1 c1 l3 c3 : Nat) (ss : List Sr) (us : List Us) : ∀ (m i : Nat) (a2 : Option Addr) (l2 c2 : Nat) (ts : List Ti) (w : World) (I M : Int) (so : List Int) (g0 n0 d0 base : Nat), I = (i : Int) → M = (m : Int) → NetIn w a1 a2 a3 l1 l2 l3 ss ts us → netB (N : Int) ss ts us = true → i ≤ l2 → m ≤ 3 →
    OwnI w base (.slice (some ⟨g0, 0, none⟩) n0 d0) so → so.length = n0 → n0 ≤ 3 - m → base ≤ w.heap.size →
    Calls Try.prog 37 #[.agg #[.int .i64 (N : Int), .slice a1 l1 c1, .slice a2 l2 c2, .slice a3 l3 c3], .int .i64 I, .int .i64 M, .slice (some ⟨g0, 0, none⟩) n0 d0] w fun e w' => ∃ v, e = .returned (.tuple #[v, .bool (clR (wellB N ss us) m i ts).isSome]) ∧ (∀ l, (clR (wellB N ss us) m i ts) = some l → OwnI w' base v (so ++ l)) ∧ Below w.heap.size w w' := by
  intro m
  induction m with
  | zero =>
    intro i a2 l2 c2 ts w I M so g0 n0 d0 base hI hM hr hok _ _ hso hn0 _ hb
    subst hM
    rw [clR_zero.2]
    have R := hide hr
    have HOK := hide hok
    have HB := hide (bel1 (w := w) (Obj.cells #[.int .i64 (N : Int), .slice a1 l1 c1, .slice a2 l2 c2, .slice a3 l3 c3] 44))
    have OS := hide hso
    have HNIL : Hid (∀ l, clR (wellB N ss us) 0 i ts = some l → l = []) := hide (fun l h => by have := clR_len _ _ _ _ h; exact List.length_eq_zero_iff.1 this)
    clear hr hok hso
    go_enter Try.func37, Try.ntmps37
    go_wp2_with fail
    refine (well_any N a1 a2 a3 l1 c1 l2 c2 l3 c3 ss ts us _ ((unhide R).below (unhide HB)) (unhide HOK)).mono ?_
    rintro e w1 ⟨rfl, b1⟩
    have HB1 := hide ((unhide HB).trans (b1.mono (unhide HB).size))
    have OS1 := hide ((unhide OS).below (unhide HB1))
    clear b1 R OS HB
    go_wp2_with fail
    go_ret2
    exact ⟨_, rfl, fun l hl => by rw [(unhide HNIL) l hl, List.append_nil]; exact unhide OS1, unhide HB1⟩
  | succ m ih =>
    intro i a2 l2 c2 ts w I M so g0 n0 d0 base hI hM hr hok hi hm hso hn0 hn3 hb
    have IH := hide ih
    obtain ⟨G, hG⟩ : ∃ G, (fun j => clR (wellB N ss us) m (j + 1) (shutT ts j)) = G := ⟨_, rfl⟩
    have HG : Hid (∀ j, G j = clR (wellB N ss us) m (j + 1) (shutT ts j)) := hide (fun j => by rw [← hG])
    obtain ⟨Z, hZ⟩ : ∃ Z, clIn G ts (ts.length - i) i = Z := ⟨_, rfl⟩
    rw [clR, hG, hZ]
    have HZ := hide hZ
    have Z2 := hide hr.r2.len_eq
    have hM0 : ¬ M = 0 := by omega
    have hM2 : (M == 0) = false := by simp [hM0]
    have hM1 : M - 1 = (m : Int) := by omega
    have hMb : 1 ≤ M ∧ M ≤ 3 := by omega
    have HM1 := hide hM1
    have q2 : l2 ≤ 16 := by have := (net_facts hok).2.1.2.1; have := hr.r2.len_eq; omega
    have HI := hide hI
    have hIb : 0 ≤ I ∧ I ≤ 16 := by omega
    have R := hide hr
    have HOK := hide hok
    have OS := hide hso
    have HN0 := hide hn0
    have FSO := hide hso.fit
    have HN3 : Hid (n0 ≤ 3 - (m + 1)) := hide hn3
    have hn03 : n0 ≤ 3 := by omega
    have HB := hide (bel1 (w := w) (Obj.cells #[.int .i64 (N : Int), .slice a1 l1 c1, .slice a2 l2 c2, .slice a3 l3 c3] 44))
    have KP : Hid (Blk (w.alloc (Obj.cells #[.int .i64 (N : Int), .slice a1 l1 c1, .slice a2 l2 c2, .slice a3 l3 c3] 44)) w.heap.size [.int .i64 (N : Int), .slice a1 l1 c1, .slice a2 l2 c2, .slice a3 l3 c3]) := hide (Blk.new (w := w) [.int .i64 (N : Int), .slice a1 l1 c1, .slice a2 l2 c2, .slice a3 l3 c3] 44)
    clear ih hG hZ hM hM1 hI hr hok hso hn0 hn3
    go_enter Try.func37, Try.ntmps37
    go_wp2_with fail
    go_loopw [10] (fun p wr => ∃ k : Nat, p = .int .i64 (k : Int) ∧ i ≤ k ∧ k ≤ l2 ∧ Hid (Blk wr w.heap.size [.int .i64 (N : Int), .slice a1 l1 c1, .slice a2 l2 c2, .slice a3 l3 c3]) ∧ Hid (Below w.heap.size w wr) ∧ Hid (clIn G ts (ts.length - k) k = Z)) (fun p _ => l2 - (intOf p).toNat)
    case atStart => exact ⟨i, by rw [unhide HI], Nat.le_refl _, hi, KP, HB, HZ⟩
    case round =>
      clear KP HB HZ
      obtain ⟨k, rfl, hik, hk, KP, HB, HZ⟩ := hrel
      have p2 : wr.cell? ⟨w.heap.size, 2, none⟩ = some (.slice a2 l2 c2) := (unhide KP).c 2 (by simp)
      by_cases hkl : k < l2
      · have hkl2 : (k : Int) < (l2 : Int) := by omega
        have hk0 : (0 : Int) ≤ (k : Int) := by omega
        have hkt : k < ts.length := by rw [unhide Z2]; exact hkl
        have HKT := hide hkt
        have p0 : wr.cell? ⟨w.heap.size, 0, none⟩ = some (.int .i64 (N : Int)) := (unhide KP).c 0 (by simp)
        have p1 : wr.cell? ⟨w.heap.size, 1, none⟩ = some (.slice a1 l1 c1) := (unhide KP).c 1 (by simp)
        have p3 : wr.cell? ⟨w.heap.size, 3, none⟩ = some (.slice a3 l3 c3) := (unhide KP).c 3 (by simp)
        obtain ⟨bb, off, hbb, hc⟩ := ((unhide R).below (unhide HB)).r2.at_ k hkl
        have e2 : wr.cell? ⟨bb, off + k * 3 + 2, none⟩ = some (.bool (elAt ts k).a2) := hc 2 (by omega)
        have HBB := hide hbb
        rw [hbb] at p2
        clear hbb hc hkt
        cases hcl : (elAt ts k).a2 with
        | true =>
          rw [hcl] at e2
          have HZ1 : Hid (clIn G ts (ts.length - (k + 1)) (k + 1) = Z) := hide (by rw [← clIn_shut (unhide HKT) hcl]; exact unhide HZ)
          clear hcl
          go_wp2_with fail
          go_roundw
          case rel => exact ⟨k + 1, by go_num, by omega, by omega, KP, HB, HZ1⟩
          case measure => simp [intOf]; omega
        | false =>
          rw [hcl] at e2
          have HCL := hide hcl
          clear hcl
          have hwX : w.heap.size < wr.heap.size := (unhide KP).lt
          obtain ⟨U, hU⟩ : ∃ U, U = (wr.alloc (Obj.cells #[.int .i64 (N : Int), .slice a1 l1 c1, .slice (some ⟨bb, off, none⟩) l2 c2, .slice a3 l3 c3] 44)).alloc (Obj.cells #[] 51) := ⟨_, rfl⟩
          have bU : Below wr.heap.size wr U := by rw [hU]; exact bel2 _ _
          have KU : Hid (Blk U wr.heap.size [.int .i64 (N : Int), .slice a1 l1 c1, .slice (some ⟨bb, off, none⟩) l2 c2, .slice a3 l3 c3]) := hide (by rw [hU]; exact (Blk.new (w := wr) [.int .i64 (N : Int), .slice a1 l1 c1, .slice (some ⟨bb, off, none⟩) l2 c2, .slice a3 l3 c3] 44).alloc _)
          have OU : Hid (OwnE 3 tiC U (wr.heap.size + 1) 51 (.slice (some ⟨wr.heap.size + 1, 0, none⟩) 0 0) []) := hide (by
            have h := ownE_none (α := Ti) (K := 3) (cells := tiC) (T := 51) (w := wr.alloc (Obj.cells #[.int .i64 (N : Int), .slice a1 l1 c1, .slice (some ⟨bb, off, none⟩) l2 c2, .slice a3 l3 c3] 44)) (w1 := wr.alloc (Obj.cells #[.int .i64 (N : Int), .slice a1 l1 c1, .slice (some ⟨bb, off, none⟩) l2 c2, .slice a3 l3 c3] 44)) (Nat.le_refl _)
            rw [hU]; simpa using h)
          have hUs : wr.heap.size + 2 = U.heap.size := by rw [hU]; simp
          have RU : Hid (RowE 3 tiC U (some ⟨bb, off, none⟩) l2 ts) := hide (by have h := (((unhide R).below (unhide HB)).below bU).r2; rw [unhide HBB] at h; exact h)
          have HBU := hide ((unhide HB).trans (bU.mono (unhide HB).size))
          have KPU := hide ((unhide KP).below bU)
          have pU : U.cell? ⟨w.heap.size, 2, none⟩ = some (.slice (some ⟨bb, off, none⟩) l2 c2) := (bU.cell (block_lt_of_cell p2)).trans p2
          rw [hU] at pU
          have HU := hide hU
          have HUS := hide hUs
          clear bU hU hUs
          go_upto_region 10 with (at_builtin; rw [← unhide HU]; refine wpList_app_ties rfl _ _ rfl (unhide OU) (by simp [Act.eval]) bb off l2 c2 ts rfl (unhide RU) (by omega) (by have := unhide HUS; omega) ?_; intro v9 w9 o9 gr9 n9; have B9 : Hid (Below w.heap.size w w9) := hide ((unhide HBU).grown gr9 (by have := unhide HUS; omega) (fun q hq => by have e3 := Option.some.inj (show some (wr.heap.size + 1) = some q from hq); omega)); have KP9 := hide ((unhide KPU).apart gr9 (fun e => by have e3 := Option.some.inj (show some w.heap.size = some (wr.heap.size + 1) from e); omega)); have KX9 := hide ((unhide KU).apart gr9 (fun e => by have e3 := Option.some.inj (show some wr.heap.size = some (wr.heap.size + 1) from e); omega)); obtain ⟨g9, d9, e9, h91, h92⟩ := o9.some_ (fun e => by have := n9 e; simp at this); rw [unhide Z2] at e9; subst e9; have O9 := hide o9; have xa : w9.cell? ⟨wr.heap.size, 2, none⟩ = some (.slice (some ⟨bb, off, none⟩) l2 c2) := (unhide KX9).c 2 (by simp); have xb : w9.frozen? ⟨wr.heap.size, 2, none⟩ = false := (unhide KX9).f 2 (by simp); have oA : OwnE 3 tiC (w9.setCell ⟨wr.heap.size, 2, none⟩ (.slice (some ⟨g9, 0, none⟩) l2 d9)) (wr.heap.size + 1) 51 (.slice (some ⟨g9, 0, none⟩) l2 d9) ts := o9.set_other _ (by simp [Value.ownBlock]; omega); have ya := (oA.here (unhide Z2) k hkl 2 (by omega)).1; have yb := (oA.here (unhide Z2) k hkl 2 (by omega)).2; have OB := hide (shut_own oA (unhide Z2) hkl); clear o9 gr9 n9 oA)
          obtain ⟨V, hV⟩ : ∃ V, V = (w9.setCell ⟨wr.heap.size, 2, none⟩ (.slice (some ⟨g9, 0, none⟩) l2 d9)).setCell ⟨g9, k * 3 + 2, none⟩ (.bool true) := ⟨_, rfl⟩
          obtain ⟨X, hX⟩ : ∃ X, wr.heap.size = X := ⟨_, rfl⟩
          rw [← hV, hX]
          have QV : Hid (Blk V X [.int .i64 (N : Int), .slice a1 l1 c1, .slice (some ⟨g9, 0, none⟩) l2 d9, .slice a3 l3 c3]) := hide (by rw [hV, ← hX]; simpa using ((unhide KX9).set 2 (by simp) (.slice (some ⟨g9, 0, none⟩) l2 d9)).other (p := ⟨g9, k * 3 + 2, none⟩) (by simp; omega) (.bool true))
          have PVV : Hid (Blk V w.heap.size [.int .i64 (N : Int), .slice a1 l1 c1, .slice a2 l2 c2, .slice a3 l3 c3]) := hide (by rw [hV]; exact ((unhide KP9).other (by simp; omega) _).other (by simp; omega) _)
          have BVw : Hid (Below w.heap.size w V) := hide (by rw [hV]; exact ((unhide B9).setCell (by simp; omega) _).setCell (by simp; omega) _)
          have SV : Hid (OwnI V base (.slice (some ⟨g0, 0, none⟩) n0 d0) so) := hide ((unhide OS).below (unhide BVw))
          have NV : Hid (NetIn V a1 (some ⟨g9, 0, none⟩) a3 l1 l2 l3 ss (shutT ts k) us) := hide (by
            have h := (unhide R).below (unhide BVw)
            have o := unhide OB
            rw [← hV] at o
            exact ⟨h.r1, o.row, h.r3⟩)
          have HWK : Hid (IntKind.i64.wrap ((k : Int) + 1) = ((k + 1 : Nat) : Int)) := hide (by rw [IntKind.wrap_i64]; omega)
          have HWM : Hid (IntKind.i64.wrap (M - 1) = (m : Int)) := hide (by rw [IntKind.wrap_i64]; have := unhide HM1; omega)
          have hbV : base ≤ V.heap.size := Nat.le_trans hb (unhide BVw).size
          have HL1 : Hid ((so ++ [(k : Int)]).length = n0 + 1) := hide (by have := unhide HN0; simp [this])
          clear HBU KPU KU OU RU pU HU HUS p0 p1 p2 p3 e2 xa xb ya yb OB O9 B9 KP9 KX9 hV hX h91 h92
          have x0 : V.cell? ⟨X, 0, none⟩ = some (.int .i64 (N : Int)) := (unhide QV).c 0 (by simp)
          have x1 : V.cell? ⟨X, 1, none⟩ = some (.slice a1 l1 c1) := (unhide QV).c 1 (by simp)
          have x2 : V.cell? ⟨X, 2, none⟩ = some (.slice (some ⟨g9, 0, none⟩) l2 d9) := (unhide QV).c 2 (by simp)
          have x3 : V.cell? ⟨X, 3, none⟩ = some (.slice a3 l3 c3) := (unhide QV).c 3 (by simp)
          have xe0 : (V.alloc (Obj.cells #[] 3)).cell? ⟨X, 0, none⟩ = some (.int .i64 (N : Int)) := ((unhide QV).alloc (Obj.cells #[] 3)).c 0 (by simp)
          have xe1 : (V.alloc (Obj.cells #[] 3)).cell? ⟨X, 1, none⟩ = some (.slice a1 l1 c1) := ((unhide QV).alloc (Obj.cells #[] 3)).c 1 (by simp)
          have xe2 : (V.alloc (Obj.cells #[] 3)).cell? ⟨X, 2, none⟩ = some (.slice (some ⟨g9, 0, none⟩) l2 d9) := ((unhide QV).alloc (Obj.cells #[] 3)).c 2 (by simp)
          have xe3 : (V.alloc (Obj.cells #[] 3)).cell? ⟨X, 3, none⟩ = some (.slice a3 l3 c3) := ((unhide QV).alloc (Obj.cells #[] 3)).c 3 (by simp)
          have xs0 : (V.alloc (Obj.cells #[.int .i64 (k : Int)] 3)).cell? ⟨X, 0, none⟩ = some (.int .i64 (N : Int)) := ((unhide QV).alloc (Obj.cells #[.int .i64 (k : Int)] 3)).c 0 (by simp)
          have xs1 : (V.alloc (Obj.cells #[.int .i64 (k : Int)] 3)).cell? ⟨X, 1, none⟩ = some (.slice a1 l1 c1) := ((unhide QV).alloc (Obj.cells #[.int .i64 (k : Int)] 3)).c 1 (by simp)
          have xs2 : (V.alloc (Obj.cells #[.int .i64 (k : Int)] 3)).cell? ⟨X, 2, none⟩ = some (.slice (some ⟨g9, 0, none⟩) l2 d9) := ((unhide QV).alloc (Obj.cells #[.int .i64 (k : Int)] 3)).c 2 (by simp)
          have xs3 : (V.alloc (Obj.cells #[.int .i64 (k : Int)] 3)).cell? ⟨X, 3, none⟩ = some (.slice a3 l3 c3) := ((unhide QV).alloc (Obj.cells #[.int .i64 (k : Int)] 3)).c 3 (by simp)
          have xf0 : ((V.alloc (Obj.cells #[] 3)).alloc (Obj.cells #[.int .i64 (k : Int)] 3)).cell? ⟨X, 0, none⟩ = some (.int .i64 (N : Int)) := (((unhide QV).alloc (Obj.cells #[] 3)).alloc (Obj.cells #[.int .i64 (k : Int)] 3)).c 0 (by simp)
          have xf1 : ((V.alloc (Obj.cells #[] 3)).alloc (Obj.cells #[.int .i64 (k : Int)] 3)).cell? ⟨X, 1, none⟩ = some (.slice a1 l1 c1) := (((unhide QV).alloc (Obj.cells #[] 3)).alloc (Obj.cells #[.int .i64 (k : Int)] 3)).c 1 (by simp)
          have xf2 : ((V.alloc (Obj.cells #[] 3)).alloc (Obj.cells #[.int .i64 (k : Int)] 3)).cell? ⟨X, 2, none⟩ = some (.slice (some ⟨g9, 0, none⟩) l2 d9) := (((unhide QV).alloc (Obj.cells #[] 3)).alloc (Obj.cells #[.int .i64 (k : Int)] 3)).c 2 (by simp)
          have xf3 : ((V.alloc (Obj.cells #[] 3)).alloc (Obj.cells #[.int .i64 (k : Int)] 3)).cell? ⟨X, 3, none⟩ = some (.slice a3 l3 c3) := (((unhide QV).alloc (Obj.cells #[] 3)).alloc (Obj.cells #[.int .i64 (k : Int)] 3)).c 3 (by simp)
          have xt0 : ((V.alloc (Obj.cells #[.int .i64 (k : Int)] 3)).alloc (Obj.cells #[] 3)).cell? ⟨X, 0, none⟩ = some (.int .i64 (N : Int)) := (((unhide QV).alloc (Obj.cells #[.int .i64 (k : Int)] 3)).alloc (Obj.cells #[] 3)).c 0 (by simp)
          have xt1 : ((V.alloc (Obj.cells #[.int .i64 (k : Int)] 3)).alloc (Obj.cells #[] 3)).cell? ⟨X, 1, none⟩ = some (.slice a1 l1 c1) := (((unhide QV).alloc (Obj.cells #[.int .i64 (k : Int)] 3)).alloc (Obj.cells #[] 3)).c 1 (by simp)
          have xt2 : ((V.alloc (Obj.cells #[.int .i64 (k : Int)] 3)).alloc (Obj.cells #[] 3)).cell? ⟨X, 2, none⟩ = some (.slice (some ⟨g9, 0, none⟩) l2 d9) := (((unhide QV).alloc (Obj.cells #[.int .i64 (k : Int)] 3)).alloc (Obj.cells #[] 3)).c 2 (by simp)
          have xt3 : ((V.alloc (Obj.cells #[.int .i64 (k : Int)] 3)).alloc (Obj.cells #[] 3)).cell? ⟨X, 3, none⟩ = some (.slice a3 l3 c3) := (((unhide QV).alloc (Obj.cells #[.int .i64 (k : Int)] 3)).alloc (Obj.cells #[] 3)).c 3 (by simp)
          have BV1 : Hid (∀ q, Below V.heap.size V ((V.drewN q).alloc (Obj.cells #[] 3))) := hide (fun q => bel1d'' q _)
          have AV1 : Hid (∀ q, OwnI ((V.drewN q).alloc (Obj.cells #[] 3)) V.heap.size (.slice (some ⟨V.heap.size, 0, none⟩) 0 0) []) := hide (fun q => by simpa using (ownI_none (w := V) (w1 := V.drewN q) (Nat.le_refl _)))
          have CV1 : Hid (∀ q j, j < n0 → ((V.drewN q).alloc (Obj.cells #[] 3)).cell? ((⟨g0, 0, none⟩ : Addr).add j) = some (.int .i64 (nth so j))) := hide (fun q j hj => by rw [addr_addT, Nat.zero_add]; exact (((unhide SV).below ((unhide BV1) q)).hereN (unhide HN0) j hj).1)
          have BV2 : Hid (∀ q, Below V.heap.size V (((V.drewN q).alloc (Obj.cells #[] 3)).alloc (Obj.cells #[.int .i64 (k : Int)] 3))) := hide (fun q => bel2d'' q _ _)
          have AV2 : Hid (∀ q, OwnI (((V.drewN q).alloc (Obj.cells #[] 3)).alloc (Obj.cells #[.int .i64 (k : Int)] 3)) V.heap.size (.slice (some ⟨V.heap.size, 0, none⟩) 0 0) []) := hide (fun q => by simpa using ((ownI_none (w := V) (w1 := V.drewN q) (Nat.le_refl _))).below (bel1 _))
          have CV2 : Hid (∀ q j, j < n0 → (((V.drewN q).alloc (Obj.cells #[] 3)).alloc (Obj.cells #[.int .i64 (k : Int)] 3)).cell? ((⟨g0, 0, none⟩ : Addr).add j) = some (.int .i64 (nth so j))) := hide (fun q j hj => by rw [addr_addT, Nat.zero_add]; exact (((unhide SV).below ((unhide BV2) q)).hereN (unhide HN0) j hj).1)
          have KV2 : Hid (∀ q, (((V.drewN q).alloc (Obj.cells #[] 3)).alloc (Obj.cells #[.int .i64 (k : Int)] 3)).heap[(V.heap.size + 1)]? = some (Obj.cells #[.int .i64 (k : Int)] 3)) := hide (fun q => by simpa using heap_alloc_new ((V.drewN q).alloc (Obj.cells #[] 3)) (Obj.cells #[.int .i64 (k : Int)] 3))
          have BV3 : Hid (∀ q, Below V.heap.size V (((V.drewN q).alloc (Obj.cells #[.int .i64 (k : Int)] 3)).alloc (Obj.cells #[] 3))) := hide (fun q => bel2d'' q _ _)
          have AV3 : Hid (∀ q, OwnI (((V.drewN q).alloc (Obj.cells #[.int .i64 (k : Int)] 3)).alloc (Obj.cells #[] 3)) V.heap.size (.slice (some ⟨(V.heap.size + 1), 0, none⟩) 0 0) []) := hide (fun q => by simpa using (ownI_none (w := V) (w1 := (V.drewN q).alloc (Obj.cells #[.int .i64 (k : Int)] 3)) (by simp)))
          have CV3 : Hid (∀ q j, j < n0 → (((V.drewN q).alloc (Obj.cells #[.int .i64 (k : Int)] 3)).alloc (Obj.cells #[] 3)).cell? ((⟨g0, 0, none⟩ : Addr).add j) = some (.int .i64 (nth so j))) := hide (fun q j hj => by rw [addr_addT, Nat.zero_add]; exact (((unhide SV).below ((unhide BV3) q)).hereN (unhide HN0) j hj).1)
          have KV3 : Hid (∀ q, (((V.drewN q).alloc (Obj.cells #[.int .i64 (k : Int)] 3)).alloc (Obj.cells #[] 3)).heap[V.heap.size]? = some (Obj.cells #[.int .i64 (k : Int)] 3)) := hide (fun q => (Below.heap_alloc _ _ _ (by simp)).trans (heap_alloc_new (V.drewN q) (Obj.cells #[.int .i64 (k : Int)] 3)))
          go_cut [12, 13] from 20 to 60 (fun v b Wc => b = .bool (G k).isSome ∧ (∀ l, G k = some l → OwnI Wc base v (so ++ ((k : Int) :: l))) ∧ Blk Wc w.heap.size [.int .i64 (N : Int), .slice a1 l1 c1, .slice a2 l2 c2, .slice a3 l3 c3] ∧ Below w.heap.size w Wc)
          case first =>
            go_region_law (first
              | (refine step_app_ints rfl (.tmp 50) (.tmp 51) rfl (unhide AV1 _) (by simp [Act.eval]) ⟨g0, 0, none⟩ n0 d0 so (by simp [Act.eval]) (unhide HN0) ((unhide CV1) _) (unhide FSO) (by simp; omega) ((unhide BV1) _).size ?_; intro v9 w9 o9 gr9 n9; have B9 : Hid (Below V.heap.size V w9) := hide (((unhide BV1) _).grown gr9 ((unhide BV1) _).size (fun q hq => by have e3 := Option.some.inj (show some V.heap.size = some q from hq); omega)); have O9 : Hid (OwnI w9 V.heap.size v9 so) := hide (by simpa using o9); have N9 : Hid (v9 = .slice none 0 0 → False) := hide (fun e => by have := n9 e; simp at this); have Q9 : Hid (Blk w9 X [.int .i64 (N : Int), .slice a1 l1 c1, .slice (some ⟨g9, 0, none⟩) l2 d9, .slice a3 l3 c3]) := hide ((unhide QV).below (unhide B9)); have x0 : w9.cell? ⟨X, 0, none⟩ = some (.int .i64 (N : Int)) := (unhide Q9).c 0 (by simp); have x1 : w9.cell? ⟨X, 1, none⟩ = some (.slice a1 l1 c1) := (unhide Q9).c 1 (by simp); have x2 : w9.cell? ⟨X, 2, none⟩ = some (.slice (some ⟨g9, 0, none⟩) l2 d9) := (unhide Q9).c 2 (by simp); have x3 : w9.cell? ⟨X, 3, none⟩ = some (.slice a3 l3 c3) := (unhide Q9).c 3 (by simp); have xa0 : (w9.alloc (Obj.cells #[.int .i64 (k : Int)] 3)).cell? ⟨X, 0, none⟩ = some (.int .i64 (N : Int)) := ((unhide Q9).alloc (Obj.cells #[.int .i64 (k : Int)] 3)).c 0 (by simp); have xa1 : (w9.alloc (Obj.cells #[.int .i64 (k : Int)] 3)).cell? ⟨X, 1, none⟩ = some (.slice a1 l1 c1) := ((unhide Q9).alloc (Obj.cells #[.int .i64 (k : Int)] 3)).c 1 (by simp); have xa2 : (w9.alloc (Obj.cells #[.int .i64 (k : Int)] 3)).cell? ⟨X, 2, none⟩ = some (.slice (some ⟨g9, 0, none⟩) l2 d9) := ((unhide Q9).alloc (Obj.cells #[.int .i64 (k : Int)] 3)).c 2 (by simp); have xa3 : (w9.alloc (Obj.cells #[.int .i64 (k : Int)] 3)).cell? ⟨X, 3, none⟩ = some (.slice a3 l3 c3) := ((unhide Q9).alloc (Obj.cells #[.int .i64 (k : Int)] 3)).c 3 (by simp); have NW9 : Hid (∀ q, v9.ownBlock = some q → V.heap.size ≤ q) := hide (fun q hq => ((unhide O9).lies q hq).1); clear o9 gr9 n9)
              | (refine step_app_ints rfl (.tmp 50) (.tmp 51) rfl (unhide AV2 _) (by simp [Act.eval]) ⟨g0, 0, none⟩ n0 d0 so (by simp [Act.eval]) (unhide HN0) ((unhide CV2) _) (unhide FSO) (by simp; omega) ((unhide BV2) _).size ?_; intro v9 w9 o9 gr9 n9; have B9 : Hid (Below V.heap.size V w9) := hide (((unhide BV2) _).grown gr9 ((unhide BV2) _).size (fun q hq => by have e3 := Option.some.inj (show some V.heap.size = some q from hq); omega)); have O9 : Hid (OwnI w9 V.heap.size v9 so) := hide (by simpa using o9); have N9 : Hid (v9 = .slice none 0 0 → False) := hide (fun e => by have := n9 e; simp at this); have Q9 : Hid (Blk w9 X [.int .i64 (N : Int), .slice a1 l1 c1, .slice (some ⟨g9, 0, none⟩) l2 d9, .slice a3 l3 c3]) := hide ((unhide QV).below (unhide B9)); have x0 : w9.cell? ⟨X, 0, none⟩ = some (.int .i64 (N : Int)) := (unhide Q9).c 0 (by simp); have x1 : w9.cell? ⟨X, 1, none⟩ = some (.slice a1 l1 c1) := (unhide Q9).c 1 (by simp); have x2 : w9.cell? ⟨X, 2, none⟩ = some (.slice (some ⟨g9, 0, none⟩) l2 d9) := (unhide Q9).c 2 (by simp); have x3 : w9.cell? ⟨X, 3, none⟩ = some (.slice a3 l3 c3) := (unhide Q9).c 3 (by simp); have s9 : w9.cell? ⟨(V.heap.size + 1), 0, none⟩ = some (.int .i64 (k : Int)) := cell_kept gr9 ((unhide KV2) _) (fun e => by have e3 := Option.some.inj (show some (V.heap.size + 1) = some V.heap.size from e); omega); have NW9 : Hid (∀ q, v9.ownBlock = some q → V.heap.size ≤ q) := hide (fun q hq => ((unhide O9).lies q hq).1); clear o9 gr9 n9)
              | (refine step_app_ints rfl (.tmp 50) (.tmp 51) rfl (unhide AV3 _) (by simp [Act.eval]) ⟨g0, 0, none⟩ n0 d0 so (by simp [Act.eval]) (unhide HN0) ((unhide CV3) _) (unhide FSO) (by simp; omega) ((unhide BV3) _).size ?_; intro v9 w9 o9 gr9 n9; have B9 : Hid (Below V.heap.size V w9) := hide (((unhide BV3) _).grown gr9 ((unhide BV3) _).size (fun q hq => by have e3 := Option.some.inj (show some (V.heap.size + 1) = some q from hq); omega)); have O9 : Hid (OwnI w9 V.heap.size v9 so) := hide (by simpa using o9); have N9 : Hid (v9 = .slice none 0 0 → False) := hide (fun e => by have := n9 e; simp at this); have Q9 : Hid (Blk w9 X [.int .i64 (N : Int), .slice a1 l1 c1, .slice (some ⟨g9, 0, none⟩) l2 d9, .slice a3 l3 c3]) := hide ((unhide QV).below (unhide B9)); have x0 : w9.cell? ⟨X, 0, none⟩ = some (.int .i64 (N : Int)) := (unhide Q9).c 0 (by simp); have x1 : w9.cell? ⟨X, 1, none⟩ = some (.slice a1 l1 c1) := (unhide Q9).c 1 (by simp); have x2 : w9.cell? ⟨X, 2, none⟩ = some (.slice (some ⟨g9, 0, none⟩) l2 d9) := (unhide Q9).c 2 (by simp); have x3 : w9.cell? ⟨X, 3, none⟩ = some (.slice a3 l3 c3) := (unhide Q9).c 3 (by simp); have s9 : w9.cell? ⟨V.heap.size, 0, none⟩ = some (.int .i64 (k : Int)) := cell_kept gr9 ((unhide KV3) _) (fun e => by have e3 := Option.some.inj (show some V.heap.size = some (V.heap.size + 1) from e); omega); have NW9 : Hid (∀ q, v9.ownBlock = some q → V.heap.size ≤ q) := hide (fun q hq => ((unhide O9).lies q hq).1); clear o9 gr9 n9)
              | (refine step_app_ints rfl (.tmp 52) (.tmp 54) rfl ((unhide O9).below (bel1 (Obj.cells #[.int .i64 (k : Int)] 3))) (by simp [Act.eval]) ⟨w9.heap.size, 0, none⟩ 1 1 [(k : Int)] (by simp [Act.eval]) rfl (one_new w9 (k : Int)) (one_fit (by omega)) (by have := unhide HN0; omega) (by have := (unhide B9).size; simp; omega) ?_; intro v10 w10 o10 gr10 n10; have B10 : Hid (Below V.heap.size V w10) := hide (((unhide B9).trans ((bel1 (w := w9) (Obj.cells #[.int .i64 (k : Int)] 3)).mono (unhide B9).size)).grown gr10 (by have := (unhide B9).size; simp; omega) (fun q hq => (unhide NW9) q hq)); obtain ⟨g10, d10, e10, _, _⟩ := o10.some_ (fun e => (unhide N9) (n10 e)); rw [unhide HL1] at e10; subst e10; have O10 : Hid (OwnI w10 base (.slice (some ⟨g10, 0, none⟩) (n0 + 1) d10) (so ++ [(k : Int)])) := hide (o10.mono hbV); have Q10 : Hid (Blk w10 X [.int .i64 (N : Int), .slice a1 l1 c1, .slice (some ⟨g9, 0, none⟩) l2 d9, .slice a3 l3 c3]) := hide ((unhide QV).below (unhide B10)); have y0 : w10.cell? ⟨X, 0, none⟩ = some (.int .i64 (N : Int)) := (unhide Q10).c 0 (by simp); have y1 : w10.cell? ⟨X, 1, none⟩ = some (.slice a1 l1 c1) := (unhide Q10).c 1 (by simp); have y2 : w10.cell? ⟨X, 2, none⟩ = some (.slice (some ⟨g9, 0, none⟩) l2 d9) := (unhide Q10).c 2 (by simp); have y3 : w10.cell? ⟨X, 3, none⟩ = some (.slice a3 l3 c3) := (unhide Q10).c 3 (by simp); clear o10 gr10 n10)
              | (refine step_app_ints rfl (.tmp 52) (.tmp 54) rfl (unhide O9) (by simp [Act.eval]) ⟨(V.heap.size + 1), 0, none⟩ 1 1 [(k : Int)] (by simp [Act.eval]) rfl (one_old s9) (one_fit (by omega)) (by have := unhide HN0; omega) ((unhide B9).size) ?_; intro v10 w10 o10 gr10 n10; have B10 : Hid (Below V.heap.size V w10) := hide ((unhide B9).grown gr10 (unhide B9).size (fun q hq => (unhide NW9) q hq)); obtain ⟨g10, d10, e10, _, _⟩ := o10.some_ (fun e => (unhide N9) (n10 e)); rw [unhide HL1] at e10; subst e10; have O10 : Hid (OwnI w10 base (.slice (some ⟨g10, 0, none⟩) (n0 + 1) d10) (so ++ [(k : Int)])) := hide (o10.mono hbV); have Q10 : Hid (Blk w10 X [.int .i64 (N : Int), .slice a1 l1 c1, .slice (some ⟨g9, 0, none⟩) l2 d9, .slice a3 l3 c3]) := hide ((unhide QV).below (unhide B10)); have y0 : w10.cell? ⟨X, 0, none⟩ = some (.int .i64 (N : Int)) := (unhide Q10).c 0 (by simp); have y1 : w10.cell? ⟨X, 1, none⟩ = some (.slice a1 l1 c1) := (unhide Q10).c 1 (by simp); have y2 : w10.cell? ⟨X, 2, none⟩ = some (.slice (some ⟨g9, 0, none⟩) l2 d9) := (unhide Q10).c 2 (by simp); have y3 : w10.cell? ⟨X, 3, none⟩ = some (.slice a3 l3 c3) := (unhide Q10).c 3 (by simp); clear o10 gr10 n10)
              | (refine step_app_ints rfl (.tmp 52) (.tmp 54) rfl (unhide O9) (by simp [Act.eval]) ⟨V.heap.size, 0, none⟩ 1 1 [(k : Int)] (by simp [Act.eval]) rfl (one_old s9) (one_fit (by omega)) (by have := unhide HN0; omega) ((unhide B9).size) ?_; intro v10 w10 o10 gr10 n10; have B10 : Hid (Below V.heap.size V w10) := hide ((unhide B9).grown gr10 (unhide B9).size (fun q hq => (unhide NW9) q hq)); obtain ⟨g10, d10, e10, _, _⟩ := o10.some_ (fun e => (unhide N9) (n10 e)); rw [unhide HL1] at e10; subst e10; have O10 : Hid (OwnI w10 base (.slice (some ⟨g10, 0, none⟩) (n0 + 1) d10) (so ++ [(k : Int)])) := hide (o10.mono hbV); have Q10 : Hid (Blk w10 X [.int .i64 (N : Int), .slice a1 l1 c1, .slice (some ⟨g9, 0, none⟩) l2 d9, .slice a3 l3 c3]) := hide ((unhide QV).below (unhide B10)); have y0 : w10.cell? ⟨X, 0, none⟩ = some (.int .i64 (N : Int)) := (unhide Q10).c 0 (by simp); have y1 : w10.cell? ⟨X, 1, none⟩ = some (.slice a1 l1 c1) := (unhide Q10).c 1 (by simp); have y2 : w10.cell? ⟨X, 2, none⟩ = some (.slice (some ⟨g9, 0, none⟩) l2 d9) := (unhide Q10).c 2 (by simp); have y3 : w10.cell? ⟨X, 3, none⟩ = some (.slice a3 l3 c3) := (unhide Q10).c 3 (by simp); clear o10 gr10 n10)
              | (go_simp; go_wp2_with (go_at_call 37; refine ((unhide IH) (k + 1) (some ⟨g9, 0, none⟩) l2 d9 (shutT ts k) _ _ _ (so ++ [(k : Int)]) g10 (n0 + 1) d10 base (by first | exact unhide HWK | (rw [← unhide HWK, unhide HWK]; push_cast; rfl) | omega) (by first | exact unhide HWM | exact unhide HM1) ((unhide NV).below (unhide B10)) (netB_shut (unhide HOK) (unhide HKT)) hkl (by omega) (unhide O10) (unhide HL1) (by have := unhide HN3; omega) (Nat.le_trans hbV (unhide B10).size)).mono ?_; rintro e w11 ⟨v11, rfl, h11, b11⟩; have B11 := hide ((unhide B10).trans (b11.mono (unhide B10).size)); have H11 := hide h11; clear b11 h11)))
            all_goals
              go_wp2_with fail
              go_meet
              case rel => exact ⟨by rw [unhide HG], fun l hl => (by have h := (unhide H11) l (by rw [← unhide HG]; exact hl); simpa using h), (unhide PVV).below (unhide B11), (unhide BVw).trans ((unhide B11).mono (unhide BVw).size)⟩
          case rest =>
            obtain ⟨hb13, h12, KP1, HB1⟩ := hcut
            subst hb13
            have KP1 := hide KP1
            have HB1 := hide HB1
            have H12 := hide h12
            clear h12 x0 x1 x2 x3 xe0 xe1 xe2 xe3 xs0 xs1 xs2 xs3 xf0 xf1 xf2 xf3 xt0 xt1 xt2 xt3 BV1 BV2 BV3 AV1 AV2 AV3 CV1 CV2 CV3 KV2 KV3 QV PVV BVw SV NV
            cases hg : G k with
            | none =>
              have HZ1 : Hid (clIn G ts (ts.length - (k + 1)) (k + 1) = Z) := hide (by rw [← clIn_on (unhide HKT) (unhide HCL) hg]; exact unhide HZ)
              clear hg
              simp only [Option.isSome_none]
              go_wp2_with fail
              go_roundw
              case rel => exact ⟨k + 1, by go_num, by omega, by omega, KP1, HB1, HZ1⟩
              case measure => simp [intOf]; omega
            | some l =>
              have HZ1 : Hid (Z = some ((k : Int) :: l)) := hide (by rw [← unhide HZ]; exact clIn_at (unhide HKT) (unhide HCL) hg)
              have OL := hide ((unhide H12) l hg)
              clear hg H12
              simp only [Option.isSome_some]
              go_wp2_with fail
              go_ret2
              refine ⟨_, (show _ = Ending.returned (.tuple #[_, .bool true]) from rfl).trans (by rw [unhide HZ1]; rfl), fun l' hl' => ?_, unhide HB1⟩
              rw [unhide HZ1] at hl'
              cases hl'
              exact unhide OL
      · obtain rfl : k = l2 := by omega
        have hkl2 : ¬ (k : Int) < (k : Int) := by omega
        have HZ1 : Hid (Z = none) := hide (by rw [← unhide HZ]; exact clIn_end (by rw [unhide Z2]; exact Nat.le_refl _))
        have HB2 := hide ((unhide HB).trans ((bel1 (w := wr) (Obj.cells #[] 3)).mono (unhide HB).size))
        go_wp2_with fail
        go_ret2
        exact ⟨_, by rw [unhide HZ1]; rfl, fun l hl => (by rw [unhide HZ1] at hl; cases hl), unhide HB2⟩

end Go.Proofs.Ytfahhjgpgccdhac

/-
  What the program's nextBurn answers: the first tank that may be burnt from, and how much; nothing that was there is written. Right tanks, at most 8; a right dry sum and step; the sum is that of the dry sum and the tanks.
-/
import Derived.Test.YtbaocifpifbldajOrdPure
import Derived.Test.YtbaocifpifbldajLeavesImpl
namespace Go.Proofs.Ytbaocifpifbldaj
open Go.RowKit

set_option maxHeartbeats 4000000 in
theorem nextBurn_any (a1 a2 a3 : Option Addr) (l1 c1 l2 c2 l3 c3 : Nat) (ms fs gs : List Int) (dm dq step : Int) (ad : Option Addr) (len cap : Nat) (T : List (Int × Int)) (w : World) (h1 : Row w a1 l1 ms) (h2 : Row w a2 l2 fs) (h3 : Row w a3 l3 gs) (hcap1 : l1 ≤ c1) (hcap2 : l2 ≤ c2) (hcap3 : l3 ≤ c3) (hr : Row2 w ad len T) (h8 : len ≤ 8) (hd : dryB dm dq = true) (hit : ∀ j, j < T.length → itemB (fstAt T j) (sndAt T j) = true) (hst : 1 ≤ step ∧ step ≤ 10000) :
    Calls Try.prog 64 #[.agg #[.slice a1 l1 c1, .slice a2 l2 c2, .slice a3 l3 c3], .agg #[.int .i64 (dm + sumM T T.length), .int .i64 (dq + sumQ T T.length)], .slice ad len cap, .int .i64 step] w fun e w' =>
      ((∃ k, nextK ms fs gs dm dq step T = some k ∧ k < T.length ∧ 0 < manyAt step T k ∧ e = .returned (.tuple #[.agg #[.int .i64 k, .int .i64 (manyAt step T k)], .bool true])) ∨ (nextK ms fs gs dm dq step T = none ∧ e = .returned (.tuple #[.agg #[.int .i64 0, .int .i64 0], .bool false]))) ∧ Below w.heap.size w w' := by
  have hlen := hr.len_eq
  subst hlen
  have BD := hide (fuel_bd h8 hd hit)
  have HI := hide hit
  have B0 := hide (bel3 (w := w) (.cells #[.slice a1 l1 c1, .slice a2 l2 c2, .slice a3 l3 c3] 27) (.cells #[.int .i64 (dm + sumM T T.length), .int .i64 (dq + sumQ T T.length)] 34) (.cells #[.int .i64 0, .int .i64 0] 76))
  obtain ⟨W, hW⟩ : ∃ W, W = ((w.alloc (.cells #[.slice a1 l1 c1, .slice a2 l2 c2, .slice a3 l3 c3] 27)).alloc (.cells #[.int .i64 (dm + sumM T T.length), .int .i64 (dq + sumQ T T.length)] 34)).alloc (.cells #[.int .i64 0, .int .i64 0] 76) := ⟨_, rfl⟩
  have x0 : W.cell? ⟨w.heap.size, 0, none⟩ = some (.slice a1 l1 c1) := by rw [hW]; simp [go_sem]
  have x1 : W.cell? ⟨w.heap.size, 1, none⟩ = some (.slice a2 l2 c2) := by rw [hW]; simp [go_sem]
  have x2 : W.cell? ⟨w.heap.size, 2, none⟩ = some (.slice a3 l3 c3) := by rw [hW]; simp [go_sem]
  have y0 : W.cell? ⟨w.heap.size + 1, 0, none⟩ = some (.int .i64 (dm + sumM T T.length)) := by rw [hW]; simp [go_sem]
  have y1 : W.cell? ⟨w.heap.size + 1, 1, none⟩ = some (.int .i64 (dq + sumQ T T.length)) := by rw [hW]; simp [go_sem]
  have p0 : Pc W (w.heap.size + 1 + 1) 0 0 := by rw [hW]; exact ⟨by simp [go_sem], by simp [go_sem], by simp [go_sem], by simp [go_sem], by simp⟩
  have sW : W.heap.size = w.heap.size + 3 := by rw [hW]; simp
  rw [← hW] at B0
  obtain ⟨ι, f, hne, hbel, hall⟩ := belClass W
  have hW0 : ∃ x, W = f x := hall W (Below.refl _ _)
  have x0 : ∀ x, (f x).cell? ⟨w.heap.size, 0, none⟩ = some (.slice a1 l1 c1) := fun x => ((hbel x).cell (p := ⟨w.heap.size, 0, none⟩) (by simp; omega)).trans x0
  have x1 : ∀ x, (f x).cell? ⟨w.heap.size, 1, none⟩ = some (.slice a2 l2 c2) := fun x => ((hbel x).cell (p := ⟨w.heap.size, 1, none⟩) (by simp; omega)).trans x1
  have x2 : ∀ x, (f x).cell? ⟨w.heap.size, 2, none⟩ = some (.slice a3 l3 c3) := fun x => ((hbel x).cell (p := ⟨w.heap.size, 2, none⟩) (by simp; omega)).trans x2
  have y0 : ∀ x, (f x).cell? ⟨w.heap.size + 1, 0, none⟩ = some (.int .i64 (dm + sumM T T.length)) := fun x => ((hbel x).cell (p := ⟨w.heap.size + 1, 0, none⟩) (by simp; omega)).trans y0
  have y1 : ∀ x, (f x).cell? ⟨w.heap.size + 1, 1, none⟩ = some (.int .i64 (dq + sumQ T T.length)) := fun x => ((hbel x).cell (p := ⟨w.heap.size + 1, 1, none⟩) (by simp; omega)).trans y1
  have PR := hide fun x => p0.below (hbel x)
  have HB := hide fun x => (unhide B0).trans ((hbel x).mono (by omega))
  have R1 := hide fun x => h1.below (unhide HB x)
  have R2 := hide fun x => h2.below (unhide HB x)
  have R3 := hide fun x => h3.below (unhide HB x)
  have RT := hide fun x => hr.below (unhide HB x)
  have HL := hide hbel
  have HX := hide hall
  have HZ : Hid (∀ x, w.heap.size + 3 ≤ (f x).heap.size) := hide fun x => by have := (hbel x).size; omega
  clear hbel hall B0 sW h1 h2 h3 hr p0 hit
  go_enter Try.func64, Try.ntmps64
  go_wp2_with fail
  rw [← hW]
  clear hW
  obtain ⟨xw, hxw⟩ := hW0
  rw [hxw]
  clear hxw
  go_loopw [15] (fun i wr => ∃ k : Nat, ∃ x, k ≤ T.length ∧ i = .int .i64 k ∧ Hid (∀ j, j < k → candB ms fs gs dm dq step T j = false) ∧ wr = f x) (fun i _ => T.length - (intOf i).toNat)
  case atStart => exact ⟨0, xw, Nat.zero_le _, rfl, (fun j hj => by omega), rfl⟩
  case round =>
    obtain ⟨k, x, hk, rfl, hno, hwr⟩ := hrel
    subst wr
    by_cases hlt : k < T.length
    · rcases (unhide RT x).open_ with ⟨h0, _⟩ | ⟨bb, off, rfl, _, hc⟩
      · omega
      obtain ⟨ca, cb⟩ := hc k hlt
      have lca := block_lt_of_cell ca
      have hi1 : (k : Int) < (T.length : Int) := by omega
      have hit := item_facts (unhide HI k hlt)
      clear hc
      have hzx := unhide HZ x
      by_cases hle : step ≤ fstAt T k
      · have hmn : manyAt step T k = step := by unfold manyAt; omega
        have HMN := hide hmn
        clear hmn
        have hle2 : ¬ fstAt T k < step := by omega
        have hV1 : -1000000 ≤ step ∧ step ≤ 1000000 := by omega
        have hV2 : step ≤ 10000 := by omega
        have hV3 : 0 ≤ step := by omega
        have hpr := mulBd (A := 10000) (B := 1000) (s := -step) (d := sndAt T k) (by omega) (by omega) (by omega) (by omega) (by omega) (by omega)
        have bdd := unhide BD
        go_wp2_with fail
        obtain ⟨V, hV⟩ : ∃ V, V = ((f x).alloc (Obj.cells #[Value.int IntKind.i64 (fstAt T k), Value.int IntKind.i64 (sndAt T k)] 78)).alloc (Obj.cells #[Value.int IntKind.i64 k, Value.int IntKind.i64 step] 76) := ⟨_, rfl⟩
        have b0 : V.cell? ⟨(f x).heap.size + 1, 0, none⟩ = some (.int .i64 k) := by rw [hV]; simp [go_sem]
        have b1 : V.cell? ⟨(f x).heap.size + 1, 1, none⟩ = some (.int .i64 step) := by rw [hV]; simp [go_sem]
        have sV : V.heap.size = (f x).heap.size + 2 := by rw [hV]; simp
        have hVB : Below W.heap.size W V := by rw [hV]; exact (unhide HL x).trans ((bel2 _ _).mono (unhide HL x).size)
        rw [← hV]
        clear hV
        obtain ⟨κ, g, hne2, hb2, hall2⟩ := belClass V
        have hgf : ∀ y, ∃ z, g y = f z := fun y => unhide HX _ (hVB.trans ((hb2 y).mono hVB.size))
        have b0 : ∀ y, (g y).cell? ⟨(f x).heap.size + 1, 0, none⟩ = some (.int .i64 k) := fun y => ((hb2 y).cell (p := ⟨(f x).heap.size + 1, 0, none⟩) (by simp; omega)).trans b0
        have b1 : ∀ y, (g y).cell? ⟨(f x).heap.size + 1, 1, none⟩ = some (.int .i64 step) := fun y => ((hb2 y).cell (p := ⟨(f x).heap.size + 1, 1, none⟩) (by simp; omega)).trans b1
        have x0 : ∀ y, (g y).cell? ⟨w.heap.size, 0, none⟩ = some (.slice a1 l1 c1) := fun y => by obtain ⟨z, hz⟩ := hgf y; rw [hz]; exact x0 z
        have x1 : ∀ y, (g y).cell? ⟨w.heap.size, 1, none⟩ = some (.slice a2 l2 c2) := fun y => by obtain ⟨z, hz⟩ := hgf y; rw [hz]; exact x1 z
        have x2 : ∀ y, (g y).cell? ⟨w.heap.size, 2, none⟩ = some (.slice a3 l3 c3) := fun y => by obtain ⟨z, hz⟩ := hgf y; rw [hz]; exact x2 z
        have y0 : ∀ y, (g y).cell? ⟨w.heap.size + 1, 0, none⟩ = some (.int .i64 (dm + sumM T T.length)) := fun y => by obtain ⟨z, hz⟩ := hgf y; rw [hz]; exact y0 z
        have y1 : ∀ y, (g y).cell? ⟨w.heap.size + 1, 1, none⟩ = some (.int .i64 (dq + sumQ T T.length)) := fun y => by obtain ⟨z, hz⟩ := hgf y; rw [hz]; exact y1 z
        have G1 := hide fun y => show Row (g y) a1 l1 ms by obtain ⟨z, hz⟩ := hgf y; rw [hz]; exact unhide R1 z
        have G2 := hide fun y => show Row (g y) a2 l2 fs by obtain ⟨z, hz⟩ := hgf y; rw [hz]; exact unhide R2 z
        have G3 := hide fun y => show Row (g y) a3 l3 gs by obtain ⟨z, hz⟩ := hgf y; rw [hz]; exact unhide R3 z
        have GT := hide fun y => show Row2 (g y) (some ⟨bb, off, none⟩) T.length T by obtain ⟨z, hz⟩ := hgf y; rw [hz]; exact unhide RT z
        have GP := hide fun y => show Pc (g y) (w.heap.size + 1 + 1) 0 0 by obtain ⟨z, hz⟩ := hgf y; rw [hz]; exact unhide PR z
        have GB := hide fun y => show Below w.heap.size w (g y) by obtain ⟨z, hz⟩ := hgf y; rw [hz]; exact unhide HB z
        have HG := hide hgf
        have GL := hide hb2
        have GX := hide hall2
        have hsz : ¬ (f x).heap.size + 1 = w.heap.size + 1 + 1 := by omega
        have hsz2 : ¬ w.heap.size + 1 + 1 = (f x).heap.size + 1 := by omega
        clear hb2 hall2 hgf hVB sV ca cb
        by_cases hpos : 0 < step
        · have hS1 : dm + sumM (take1 T k step) T.length = dm + sumM T T.length + -step ∧ dq + sumQ (take1 T k step) T.length = dq + sumQ T T.length + -step * sndAt T k := by
            obtain ⟨e1, e2⟩ := take1_sum (n := step) hlt
            rw [e1, e2]; omega
          have SB := hide fun y => sumBehind_any (dm + sumM T T.length) (dq + sumQ T T.length) (some ⟨bb, off, none⟩) T.length cap T k step (g y) (unhide GT y) hlt h8 hV1 (by omega) (by omega) (by omega)
          have HCD : Hid (candB ms fs gs dm dq step T k = insB ms fs gs (dm + sumM T T.length + -step) (dq + sumQ T T.length + -step * sndAt T k)) := hide (by unfold candB; rw [unhide HMN, hS1.1, hS1.2]; simp [hpos])
          have HPOS := hide hpos
          clear hS1 bdd hpr
          cases hin : insB ms fs gs (dm + sumM T T.length + -step) (dq + sumQ T T.length + -step * sndAt T k)
          · have HN : Hid (candB ms fs gs dm dq step T k = false) := hide ((unhide HCD).trans hin)
            refine wp_region_bel (unhide GX) (by kernel_rfl) (by kernel_rfl) ?_
            repeat (go_big_quiet_step (first
              | (go_at_call 62; exact belQ (unhide GL) (unhide GX) (unhide SB _))
              | (go_at_call 16; exact belQ (unhide GL) (unhide GX) (implInside_is _ _ _ _ _ _ _ _ _ ms fs gs _ _ _ hin (unhide G1 _) (unhide G2 _) (unhide G3 _) hcap1 hcap2 hcap3))))
            refine wpQuiet_nil ?_
            rintro _ ⟨y, rfl⟩
            obtain ⟨z, hz⟩ := unhide HG y
            rw [hz]
            clear hz hin
            go_wp2
            go_roundw
            case rel => exact ⟨k + 1, z, by omega, by go_num, (fun j hj => by rcases Nat.lt_succ_iff_lt_or_eq.1 hj with h | h; exact hno.out j h; subst h; exact unhide HN), rfl⟩
            case measure => simp [intOf]; omega
          · have HN := hide (nextK_some hlt ((unhide HCD).trans hin) hno.out)
            refine wp_region_bel (unhide GX) (by kernel_rfl) (by kernel_rfl) ?_
            repeat (go_big_quiet_step (first
              | (go_at_call 62; exact belQ (unhide GL) (unhide GX) (unhide SB _))
              | (go_at_call 16; exact belQ (unhide GL) (unhide GX) (implInside_is _ _ _ _ _ _ _ _ _ ms fs gs _ _ _ hin (unhide G1 _) (unhide G2 _) (unhide G3 _) hcap1 hcap2 hcap3))))
            refine wpQuiet_nil ?_
            rintro _ ⟨y, rfl⟩
            have b0 := b0 y
            have b1 := b1 y
            have r0 := (unhide GP y).c0
            have r1 := (unhide GP y).c1
            have z0 := (unhide GP y).f0
            have z1 := (unhide GP y).f1
            have B9 := hide (unhide GB y)
            clear hin
            go_wp2
            refine bodyPost_ret (v := .tuple #[.agg #[.int .i64 k, .int .i64 step], .bool true]) (by simp [results, Try.results64, go_sem, *]) rfl ⟨.inl ⟨k, unhide HN, hlt, by rw [unhide HMN]; exact unhide HPOS, by rw [unhide HMN]⟩, ?_⟩
            repeat (first | exact unhide B9 | refine Below.setCell ?_ (by simp; try omega) _)
        · omega
      · have hmn : manyAt step T k = (fstAt T k) := by unfold manyAt; omega
        have HMN := hide hmn
        clear hmn
        have hle2 : fstAt T k < step := by omega
        have hV1 : -1000000 ≤ (fstAt T k) ∧ (fstAt T k) ≤ 1000000 := by omega
        have hV2 : (fstAt T k) ≤ 10000 := by omega
        have hV3 : 0 ≤ (fstAt T k) := by omega
        have hpr := mulBd (A := 10000) (B := 1000) (s := -(fstAt T k)) (d := sndAt T k) (by omega) (by omega) (by omega) (by omega) (by omega) (by omega)
        have bdd := unhide BD
        go_wp2_with fail
        obtain ⟨V, hV⟩ : ∃ V, V = ((f x).alloc (Obj.cells #[Value.int IntKind.i64 (fstAt T k), Value.int IntKind.i64 (sndAt T k)] 78)).alloc (Obj.cells #[Value.int IntKind.i64 k, Value.int IntKind.i64 (fstAt T k)] 76) := ⟨_, rfl⟩
        have b0 : V.cell? ⟨(f x).heap.size + 1, 0, none⟩ = some (.int .i64 k) := by rw [hV]; simp [go_sem]
        have b1 : V.cell? ⟨(f x).heap.size + 1, 1, none⟩ = some (.int .i64 (fstAt T k)) := by rw [hV]; simp [go_sem]
        have sV : V.heap.size = (f x).heap.size + 2 := by rw [hV]; simp
        have hVB : Below W.heap.size W V := by rw [hV]; exact (unhide HL x).trans ((bel2 _ _).mono (unhide HL x).size)
        rw [← hV]
        clear hV
        obtain ⟨κ, g, hne2, hb2, hall2⟩ := belClass V
        have hgf : ∀ y, ∃ z, g y = f z := fun y => unhide HX _ (hVB.trans ((hb2 y).mono hVB.size))
        have b0 : ∀ y, (g y).cell? ⟨(f x).heap.size + 1, 0, none⟩ = some (.int .i64 k) := fun y => ((hb2 y).cell (p := ⟨(f x).heap.size + 1, 0, none⟩) (by simp; omega)).trans b0
        have b1 : ∀ y, (g y).cell? ⟨(f x).heap.size + 1, 1, none⟩ = some (.int .i64 (fstAt T k)) := fun y => ((hb2 y).cell (p := ⟨(f x).heap.size + 1, 1, none⟩) (by simp; omega)).trans b1
        have x0 : ∀ y, (g y).cell? ⟨w.heap.size, 0, none⟩ = some (.slice a1 l1 c1) := fun y => by obtain ⟨z, hz⟩ := hgf y; rw [hz]; exact x0 z
        have x1 : ∀ y, (g y).cell? ⟨w.heap.size, 1, none⟩ = some (.slice a2 l2 c2) := fun y => by obtain ⟨z, hz⟩ := hgf y; rw [hz]; exact x1 z
        have x2 : ∀ y, (g y).cell? ⟨w.heap.size, 2, none⟩ = some (.slice a3 l3 c3) := fun y => by obtain ⟨z, hz⟩ := hgf y; rw [hz]; exact x2 z
        have y0 : ∀ y, (g y).cell? ⟨w.heap.size + 1, 0, none⟩ = some (.int .i64 (dm + sumM T T.length)) := fun y => by obtain ⟨z, hz⟩ := hgf y; rw [hz]; exact y0 z
        have y1 : ∀ y, (g y).cell? ⟨w.heap.size + 1, 1, none⟩ = some (.int .i64 (dq + sumQ T T.length)) := fun y => by obtain ⟨z, hz⟩ := hgf y; rw [hz]; exact y1 z
        have G1 := hide fun y => show Row (g y) a1 l1 ms by obtain ⟨z, hz⟩ := hgf y; rw [hz]; exact unhide R1 z
        have G2 := hide fun y => show Row (g y) a2 l2 fs by obtain ⟨z, hz⟩ := hgf y; rw [hz]; exact unhide R2 z
        have G3 := hide fun y => show Row (g y) a3 l3 gs by obtain ⟨z, hz⟩ := hgf y; rw [hz]; exact unhide R3 z
        have GT := hide fun y => show Row2 (g y) (some ⟨bb, off, none⟩) T.length T by obtain ⟨z, hz⟩ := hgf y; rw [hz]; exact unhide RT z
        have GP := hide fun y => show Pc (g y) (w.heap.size + 1 + 1) 0 0 by obtain ⟨z, hz⟩ := hgf y; rw [hz]; exact unhide PR z
        have GB := hide fun y => show Below w.heap.size w (g y) by obtain ⟨z, hz⟩ := hgf y; rw [hz]; exact unhide HB z
        have HG := hide hgf
        have GL := hide hb2
        have GX := hide hall2
        have hsz : ¬ (f x).heap.size + 1 = w.heap.size + 1 + 1 := by omega
        have hsz2 : ¬ w.heap.size + 1 + 1 = (f x).heap.size + 1 := by omega
        clear hb2 hall2 hgf hVB sV ca cb
        by_cases hpos : 0 < (fstAt T k)
        · have hS1 : dm + sumM (take1 T k (fstAt T k)) T.length = dm + sumM T T.length + -(fstAt T k) ∧ dq + sumQ (take1 T k (fstAt T k)) T.length = dq + sumQ T T.length + -(fstAt T k) * sndAt T k := by
            obtain ⟨e1, e2⟩ := take1_sum (n := (fstAt T k)) hlt
            rw [e1, e2]; omega
          have SB := hide fun y => sumBehind_any (dm + sumM T T.length) (dq + sumQ T T.length) (some ⟨bb, off, none⟩) T.length cap T k (fstAt T k) (g y) (unhide GT y) hlt h8 hV1 (by omega) (by omega) (by omega)
          have HCD : Hid (candB ms fs gs dm dq step T k = insB ms fs gs (dm + sumM T T.length + -(fstAt T k)) (dq + sumQ T T.length + -(fstAt T k) * sndAt T k)) := hide (by unfold candB; rw [unhide HMN, hS1.1, hS1.2]; simp [hpos])
          have HPOS := hide hpos
          clear hS1 bdd hpr
          cases hin : insB ms fs gs (dm + sumM T T.length + -(fstAt T k)) (dq + sumQ T T.length + -(fstAt T k) * sndAt T k)
          · have HN : Hid (candB ms fs gs dm dq step T k = false) := hide ((unhide HCD).trans hin)
            refine wp_region_bel (unhide GX) (by kernel_rfl) (by kernel_rfl) ?_
            repeat (go_big_quiet_step (first
              | (go_at_call 62; exact belQ (unhide GL) (unhide GX) (unhide SB _))
              | (go_at_call 16; exact belQ (unhide GL) (unhide GX) (implInside_is _ _ _ _ _ _ _ _ _ ms fs gs _ _ _ hin (unhide G1 _) (unhide G2 _) (unhide G3 _) hcap1 hcap2 hcap3))))
            refine wpQuiet_nil ?_
            rintro _ ⟨y, rfl⟩
            obtain ⟨z, hz⟩ := unhide HG y
            rw [hz]
            clear hz hin
            go_wp2
            go_roundw
            case rel => exact ⟨k + 1, z, by omega, by go_num, (fun j hj => by rcases Nat.lt_succ_iff_lt_or_eq.1 hj with h | h; exact hno.out j h; subst h; exact unhide HN), rfl⟩
            case measure => simp [intOf]; omega
          · have HN := hide (nextK_some hlt ((unhide HCD).trans hin) hno.out)
            refine wp_region_bel (unhide GX) (by kernel_rfl) (by kernel_rfl) ?_
            repeat (go_big_quiet_step (first
              | (go_at_call 62; exact belQ (unhide GL) (unhide GX) (unhide SB _))
              | (go_at_call 16; exact belQ (unhide GL) (unhide GX) (implInside_is _ _ _ _ _ _ _ _ _ ms fs gs _ _ _ hin (unhide G1 _) (unhide G2 _) (unhide G3 _) hcap1 hcap2 hcap3))))
            refine wpQuiet_nil ?_
            rintro _ ⟨y, rfl⟩
            have b0 := b0 y
            have b1 := b1 y
            have r0 := (unhide GP y).c0
            have r1 := (unhide GP y).c1
            have z0 := (unhide GP y).f0
            have z1 := (unhide GP y).f1
            have B9 := hide (unhide GB y)
            clear hin
            go_wp2
            refine bodyPost_ret (v := .tuple #[.agg #[.int .i64 k, .int .i64 (fstAt T k)], .bool true]) (by simp [results, Try.results64, go_sem, *]) rfl ⟨.inl ⟨k, unhide HN, hlt, by rw [unhide HMN]; exact unhide HPOS, by rw [unhide HMN]⟩, ?_⟩
            repeat (first | exact unhide B9 | refine Below.setCell ?_ (by simp; try omega) _)
        · have HN : Hid (candB ms fs gs dm dq step T k = false) := hide (by unfold candB; rw [unhide HMN]; simp [hpos])
          clear bdd hpr
          refine wp_region_bel (unhide GX) (by kernel_rfl) (by kernel_rfl) ?_
          repeat (go_big_quiet_step (fail))
          refine wpQuiet_nil ?_
          rintro _ ⟨y, rfl⟩
          obtain ⟨z, hz⟩ := unhide HG y
          rw [hz]
          clear hz
          go_wp2
          go_roundw
          case rel => exact ⟨k + 1, z, by omega, by go_num, (fun j hj => by rcases Nat.lt_succ_iff_lt_or_eq.1 hj with h | h; exact hno.out j h; subst h; exact unhide HN), rfl⟩
          case measure => simp [intOf]; omega
    · have HE := hide (nextK_none (ms := ms) (fs := fs) (gs := gs) (dm := dm) (dq := dq) (step := step) (T := T) fun j hj => hno.out j (by omega))
      have r0 := (unhide PR x).c0
      have r1 := (unhide PR x).c1
      have z0 := (unhide PR x).f0
      have z1 := (unhide PR x).f1
      go_wp2
      refine bodyPost_ret (v := .tuple #[.agg #[.int .i64 0, .int .i64 0], .bool false]) (by simp [results, Try.results64, go_sem, *]) rfl ⟨.inr ⟨unhide HE, rfl⟩, ?_⟩
      repeat (first | exact unhide HB x | refine Below.setCell ?_ (by simp; try omega) _)

end Go.Proofs.Ytbaocifpifbldaj

/-
  What the model's DrawAlert answers: a list of at most 600 numbers that it has made, and three small numbers. At every list of at most 1048576 bytes; nothing that was there is written.
-/
import Derived.Test.YtbaocifpifbldafDrawMon
import Derived.Test.YtbaocifpifbldafAppI
import Derived.Laws.MakeOwn
import Derived.Laws.OwnMore
namespace Go.Proofs.Ytbaocifpifbldaf
open Go.RowKit

theorem grs_in (i : Nat) (h : i < 4) : -1001 ≤ nth [-1001, -1000, 60000, 60001] i ∧ nth [-1001, -1000, 60000, 60001] i ≤ 60001 := by
  rcases (show i = 0 ∨ i = 1 ∨ i = 2 ∨ i = 3 by omega) with rfl | rfl | rfl | rfl <;> decide
theorem mgs_in (i : Nat) (h : i < 6) : -1 ≤ nth [0, 50, 100, 5000, 5001, -1] i ∧ nth [0, 50, 100, 5000, 5001, -1] i ≤ 5001 := by
  rcases (show i = 0 ∨ i = 1 ∨ i = 2 ∨ i = 3 ∨ i = 4 ∨ i = 5 by omega) with rfl | rfl | rfl | rfl | rfl | rfl <;> decide

set_option maxRecDepth 20000 in
set_option maxHeartbeats 8000000 in
theorem drawAlert_any (a : Option Addr) (len cap : Nat) (w : World) (hb : Bytes w a len) (hin : ∀ b off, a = some ⟨b, off, none⟩ → b < w.heap.size) :
    Calls Try.prog 5 #[.slice a len cap] w fun x w' => ∃ (ad : Option Addr) (zs : List Int) (c : Nat) (h k m : Int), x = .returned (.tuple #[.slice ad zs.length c, .int .i64 h, .int .i64 k, .int .i64 m]) ∧ OwnI w' w.heap.size (.slice ad zs.length c) zs ∧ zs.length ≤ 600 ∧ (300 ≤ h ∧ h ≤ 700) ∧ (-20 ≤ k ∧ k ≤ 20) ∧ (-1 ≤ m ∧ m ≤ 5001) ∧ Below w.heap.size w w' := by
  have HIN := hide hin
  have HBY := hide hb
  clear hb hin
  go_enter Try.func5, Try.ntmps5
  go_wp2_with fail
  obtain ⟨C, hC⟩ : ∃ C, w.heap.size = C := ⟨_, rfl⟩
  refine (drNew a len cap w (unhide HBY) (unhide HIN)).mono ?_
  rintro x w1 ⟨rfl, d, b⟩
  rw [hC] at d ⊢
  have hCW : C < w1.heap.size := d.lt
  obtain ⟨V, hV⟩ : ∃ V, V = w1.alloc (Obj.cells #[] 3) := ⟨_, rfl⟩
  have DD : Hid (Dr w C a len cap V) := hide (by rw [hV]; exact d.below (bel1 _))
  have OO : Hid (OwnI V (C + 1) (.slice (some ⟨w1.heap.size, 0, none⟩) 0 0) []) := hide (by
    rw [hV]
    exact (ownI_none (w := w1) (w1 := w1) (Nat.le_refl _)).rebase (fun g hg => by have e := Option.some.inj (show some w1.heap.size = some g from hg); omega))
  have HV := hide hV
  have HC := hide hC
  clear d b hV hC HBY
  go_wp2_with fail
  rw [← unhide HV]
  clear HV
  refine (drBelow 30 _ (unhide DD) (by omega)).mono ?_
  rintro x w3 ⟨m, rfl, hm, d, gr⟩
  have OO := hide ((unhide OO).far gr (fun g hg e => by have h1 := ((unhide OO).lies g hg).1; have e3 := Option.some.inj e; omega))
  have DD := hide d
  clear d gr
  obtain ⟨M, hM⟩ : ∃ M : Nat, m = (M : Int) := ⟨m.toNat, by omega⟩
  subst hM
  have hM60 : M ≤ 60 := by omega
  go_wp2_with fail
  go_loopw [7, 8] (fun ov i wr => ∃ (k g c : Nat) (zs : List Int), ov = .slice (some ⟨g, 0, none⟩) zs.length c ∧ i = .int .i64 (k : Int) ∧ k ≤ 60 ∧ zs.length + k ≤ 60 ∧ Dr w C a len cap wr ∧ OwnI wr (C + 1) (.slice (some ⟨g, 0, none⟩) zs.length c) zs) (fun _ i _ => (intOf i).toNat)
  case atStart => exact ⟨M, _, _, [], rfl, rfl, hM60, (by simp; omega), unhide DD, unhide OO⟩
  case round =>
    clear DD OO
    obtain ⟨k, g, c, zs, rfl, rfl, hk, hkz, hd, ho⟩ := hrel
    obtain ⟨n, hn⟩ : ∃ n, zs.length = n := ⟨_, rfl⟩
    rw [hn] at ho ⊢
    have HN := hide hn
    have hnk : n + k ≤ 60 := by omega
    have DD := hide hd
    have OO := hide ho
    have OC : Hid (∀ q, (Value.slice (some ⟨g, 0, none⟩) n c).ownBlock = some q → some q ≠ some C) := hide (fun q hq e => by have h1 := (ho.lies q hq).1; have e3 := Option.some.inj e; omega)
    clear hd ho hn hkz
    by_cases hk0 : 0 < (k : Int)
    · go_wp2_with fail
      refine (drBelow 400 _ (unhide DD) (by omega)).mono ?_
      rintro x w4 ⟨y, rfl, hy, d, gr⟩
      have OO := hide ((unhide OO).far gr (unhide OC))
      have DD := hide d
      have hCw4 : C < w4.heap.size := d.lt
      clear d gr
      go_wp2_with (at_builtin; refine wpList_app_int rfl _ _ rfl (n := n) y (unhide OO) (unhide HN) rfl rfl rfl (by omega) (by omega) (by omega) ?_; intro g' c' w9 o9 gr9)
      refine ⟨⟨k - 1, g', c', zs ++ [y], by simp [unhide HN], by go_num, by omega, by simp [unhide HN]; omega, (unhide DD).own gr9 (fun q hq => by have := ((unhide OO).lies q hq).1; omega) (unhide HIN), by simpa [unhide HN] using o9⟩, by simp [intOf]; omega⟩
    · have hC4 := (unhide DD).lt
      go_wp2_with fail
      refine (drBelow 40 _ (unhide DD) (by omega)).mono ?_
      rintro x w4 ⟨yes, rfl, hyes, d, gr⟩
      have OO := hide ((unhide OO).far gr (unhide OC))
      have DD := hide d
      have BIG : Hid (n ≤ 600) := hide (by omega)
      have hn60 : n ≤ 60 := by omega
      clear d gr hnk hk hk0
      by_cases y0 : yes = 0
      · subst y0
        obtain ⟨V6, hV6⟩ : ∃ V, V = w4.alloc (Obj.cells #[.int .i64 (-1001), .int .i64 (-1000), .int .i64 60000, .int .i64 60001] 3) := ⟨_, rfl⟩
        have b6 : Below w4.heap.size w4 V6 := by rw [hV6]; exact bel1 _
        have RL : Hid (Row V6 (some ⟨w4.heap.size, 0, none⟩) 4 [-1001, -1000, 60000, 60001]) := hide (by rw [hV6]; exact row_lit w4 [-1001, -1000, 60000, 60001] 3 (by decide) (by decide))
        have gne : Hid (w4.heap.size ≠ C) := hide (by have := (unhide DD).lt; omega)
        have OO := hide ((unhide OO).below b6)
        have DD := hide ((unhide DD).below b6)
        have HV6 := hide hV6
        clear b6 hV6
        go_wp2_with fail
        rw [← unhide HV6]
        clear HV6
        refine (drPickInt _ 4 4 [-1001, -1000, 60000, 60001] _ (unhide DD) (unhide RL) (unhide gne) (by omega)).mono ?_
        rintro x wp ⟨ip, hip, rfl, d, gr⟩
        have OO := hide ((unhide OO).far gr (unhide OC))
        have DD := hide d
        have hg4 := grs_in ip hip
        have hCp : C < wp.heap.size := d.lt
        clear d gr RL
        go_wp2_with (at_builtin; refine wpList_app_int rfl _ _ rfl (n := n) (nth [-1001, -1000, 60000, 60001] ip) (unhide OO) (unhide HN) rfl rfl rfl (by omega) (by omega) (by omega) ?_; intro g' c' wq oq grq)
        have OCq : Hid (∀ q, (Value.slice (some ⟨g', 0, none⟩) (n + 1) c').ownBlock = some q → some q ≠ some C) := hide (fun q hq e => by have h1 := (oq.lies q hq).1; have e3 := Option.some.inj e; omega)
        have DD := hide ((unhide DD).own grq (fun q hq => by have := ((unhide OO).lies q hq).1; omega) (unhide HIN))
        have OO := hide oq
        have OC := OCq
        have HN : Hid ((zs ++ [nth [-1001, -1000, 60000, 60001] ip]).length = n + 1) := hide (by simp [unhide HN])
        have BIG : Hid (n + 1 ≤ 600) := hide (by omega)
        clear oq grq OCq
        go_wp2_with fail
        refine (drBelow 400 _ (unhide DD) (by omega)).mono ?_
        rintro x w5 ⟨p, rfl, hp, d, gr⟩
        have OO := hide ((unhide OO).far gr (unhide OC))
        have DD := hide d
        clear d gr
        go_wp2_with fail
        refine (drBelow 41 _ (unhide DD) (by omega)).mono ?_
        rintro x w7 ⟨q, rfl, hq, d, gr⟩
        have OO := hide ((unhide OO).far gr (unhide OC))
        have DD := hide d
        clear d gr
        obtain ⟨V8, hV8⟩ : ∃ V, V = w7.alloc (Obj.cells #[.int .i64 0, .int .i64 50, .int .i64 100, .int .i64 5000, .int .i64 5001, .int .i64 (-1)] 3) := ⟨_, rfl⟩
        have b8 : Below w7.heap.size w7 V8 := by rw [hV8]; exact bel1 _
        have RL : Hid (Row V8 (some ⟨w7.heap.size, 0, none⟩) 6 [0, 50, 100, 5000, 5001, -1]) := hide (by rw [hV8]; exact row_lit w7 [0, 50, 100, 5000, 5001, -1] 3 (by decide) (by decide))
        have gne : Hid (w7.heap.size ≠ C) := hide (by have := (unhide DD).lt; omega)
        have OO := hide ((unhide OO).below b8)
        have DD := hide ((unhide DD).below b8)
        have HV8 := hide hV8
        clear b8 hV8
        go_wp2_with fail
        rw [← unhide HV8]
        clear HV8
        refine (drPickInt _ 6 6 [0, 50, 100, 5000, 5001, -1] _ (unhide DD) (unhide RL) (unhide gne) (by omega)).mono ?_
        rintro x w9 ⟨i, hi, rfl, d, gr⟩
        have OO := hide ((unhide OO).far gr (unhide OC))
        have DD := hide d
        have HH := hide (mgs_in i hi)
        clear d gr RL
        go_wp2_with fail
        refine bodyPost_ret (v := .tuple #[.slice (some ⟨g', 0, none⟩) (n + 1) c', .int .i64 (300 + p), .int .i64 (q - 20), .int .i64 (nth [0, 50, 100, 5000, 5001, -1] i)]) (by simp [results, Try.results5, go_sem, *]) rfl ?_
        refine ⟨(some ⟨g', 0, none⟩), (zs ++ [nth [-1001, -1000, 60000, 60001] ip]), c', 300 + p, q - 20, _, by rw [unhide HN], ?_, by rw [unhide HN]; exact unhide BIG, by omega, by omega, unhide HH, (unhide DD).bel⟩
        rw [unhide HN]
        exact (unhide OO).mono (by have := unhide HC; omega)
      by_cases y1 : yes = 1
      · subst y1
        clear OO OC BIG HN y0
        go_wp2_with fail
        refine (drBelow 2 _ (unhide DD) (by omega)).mono ?_
        rintro x wz ⟨z, rfl, hz, d, gr⟩
        have DD := hide d
        have hCz : C < wz.heap.size := d.lt
        clear d gr
        obtain ⟨N, hN⟩ : ∃ N : Nat, 200 + z = (N : Int) := ⟨(200 + z).toNat, by omega⟩
        have hN6 : N ≤ 600 := by omega
        obtain ⟨i0, hii, hz0, hz1, hz2⟩ := info_parts info_int1
        have HNN := hide hN
        go_wp2_with (at_make; refine wpList_make_full _ rfl (.tmp 37) (.tmp 37) 24 rfl (C + 1) 3 i0 (.int .i64 0) 1 Try.underlying24 hii hz0 hz1 .i64 .i64 _ _ N rfl rfl (by simp) (by simp) (by rw [hz2]; omega) (by unfold maxLen; omega) (by omega) ?_; intro w8 hown hgrow)
        have o8 := ownI_zeros hown
        have OC : Hid (∀ q, (Value.slice (some ⟨wz.heap.size, 0, none⟩) N N).ownBlock = some q → some q ≠ some C) := hide (fun q hq e => by have h1 := (o8.lies q hq).1; have e3 := Option.some.inj e; omega)
        have OO := hide o8
        have DD := hide ((unhide DD).own hgrow (fun k hk => by cases hk) (unhide HIN))
        have HN : Hid ((List.replicate N (0 : Int)).length = N) := hide (by simp)
        have BIG : Hid (N ≤ 600) := hide hN6
        clear o8 hown hgrow hii hz0 hz1 hz2 hN HNN hz
        go_wp2_with fail
        refine (drBelow 400 _ (unhide DD) (by omega)).mono ?_
        rintro x w5 ⟨p, rfl, hp, d, gr⟩
        have OO := hide ((unhide OO).far gr (unhide OC))
        have DD := hide d
        clear d gr
        go_wp2_with fail
        refine (drBelow 41 _ (unhide DD) (by omega)).mono ?_
        rintro x w7 ⟨q, rfl, hq, d, gr⟩
        have OO := hide ((unhide OO).far gr (unhide OC))
        have DD := hide d
        clear d gr
        obtain ⟨V8, hV8⟩ : ∃ V, V = w7.alloc (Obj.cells #[.int .i64 0, .int .i64 50, .int .i64 100, .int .i64 5000, .int .i64 5001, .int .i64 (-1)] 3) := ⟨_, rfl⟩
        have b8 : Below w7.heap.size w7 V8 := by rw [hV8]; exact bel1 _
        have RL : Hid (Row V8 (some ⟨w7.heap.size, 0, none⟩) 6 [0, 50, 100, 5000, 5001, -1]) := hide (by rw [hV8]; exact row_lit w7 [0, 50, 100, 5000, 5001, -1] 3 (by decide) (by decide))
        have gne : Hid (w7.heap.size ≠ C) := hide (by have := (unhide DD).lt; omega)
        have OO := hide ((unhide OO).below b8)
        have DD := hide ((unhide DD).below b8)
        have HV8 := hide hV8
        clear b8 hV8
        go_wp2_with fail
        rw [← unhide HV8]
        clear HV8
        refine (drPickInt _ 6 6 [0, 50, 100, 5000, 5001, -1] _ (unhide DD) (unhide RL) (unhide gne) (by omega)).mono ?_
        rintro x w9 ⟨i, hi, rfl, d, gr⟩
        have OO := hide ((unhide OO).far gr (unhide OC))
        have DD := hide d
        have HH := hide (mgs_in i hi)
        clear d gr RL
        go_wp2_with fail
        refine bodyPost_ret (v := .tuple #[.slice (some ⟨wz.heap.size, 0, none⟩) N N, .int .i64 (300 + p), .int .i64 (q - 20), .int .i64 (nth [0, 50, 100, 5000, 5001, -1] i)]) (by simp [results, Try.results5, go_sem, *]) rfl ?_
        refine ⟨(some ⟨wz.heap.size, 0, none⟩), (List.replicate N 0), N, 300 + p, q - 20, _, by rw [unhide HN], ?_, by rw [unhide HN]; exact unhide BIG, by omega, by omega, unhide HH, (unhide DD).bel⟩
        rw [unhide HN]
        exact (unhide OO).mono (by have := unhide HC; omega)
      have y2 : (yes == 0) = false := by simpa using y0
      have y3 : (yes == 1) = false := by simpa using y1
      go_wp2_with fail
      refine (drBelow 400 _ (unhide DD) (by omega)).mono ?_
      rintro x w5 ⟨p, rfl, hp, d, gr⟩
      have OO := hide ((unhide OO).far gr (unhide OC))
      have DD := hide d
      clear d gr
      go_wp2_with fail
      refine (drBelow 41 _ (unhide DD) (by omega)).mono ?_
      rintro x w7 ⟨q, rfl, hq, d, gr⟩
      have OO := hide ((unhide OO).far gr (unhide OC))
      have DD := hide d
      clear d gr
      obtain ⟨V8, hV8⟩ : ∃ V, V = w7.alloc (Obj.cells #[.int .i64 0, .int .i64 50, .int .i64 100, .int .i64 5000, .int .i64 5001, .int .i64 (-1)] 3) := ⟨_, rfl⟩
      have b8 : Below w7.heap.size w7 V8 := by rw [hV8]; exact bel1 _
      have RL : Hid (Row V8 (some ⟨w7.heap.size, 0, none⟩) 6 [0, 50, 100, 5000, 5001, -1]) := hide (by rw [hV8]; exact row_lit w7 [0, 50, 100, 5000, 5001, -1] 3 (by decide) (by decide))
      have gne : Hid (w7.heap.size ≠ C) := hide (by have := (unhide DD).lt; omega)
      have OO := hide ((unhide OO).below b8)
      have DD := hide ((unhide DD).below b8)
      have HV8 := hide hV8
      clear b8 hV8
      go_wp2_with fail
      rw [← unhide HV8]
      clear HV8
      refine (drPickInt _ 6 6 [0, 50, 100, 5000, 5001, -1] _ (unhide DD) (unhide RL) (unhide gne) (by omega)).mono ?_
      rintro x w9 ⟨i, hi, rfl, d, gr⟩
      have OO := hide ((unhide OO).far gr (unhide OC))
      have DD := hide d
      have HH := hide (mgs_in i hi)
      clear d gr RL
      go_wp2_with fail
      refine bodyPost_ret (v := .tuple #[.slice (some ⟨g, 0, none⟩) n c, .int .i64 (300 + p), .int .i64 (q - 20), .int .i64 (nth [0, 50, 100, 5000, 5001, -1] i)]) (by simp [results, Try.results5, go_sem, *]) rfl ?_
      refine ⟨(some ⟨g, 0, none⟩), zs, c, 300 + p, q - 20, _, by rw [unhide HN], ?_, by rw [unhide HN]; exact unhide BIG, by omega, by omega, unhide HH, (unhide DD).bel⟩
      rw [unhide HN]
      exact (unhide OO).mono (by have := unhide HC; omega)

end Go.Proofs.Ytbaocifpifbldaf

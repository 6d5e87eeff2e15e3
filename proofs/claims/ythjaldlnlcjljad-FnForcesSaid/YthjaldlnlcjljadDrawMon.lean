/-
  What the model's DrawMonitor answers: a list of at most 600 numbers that it has made, and three small numbers. At every list of at most 1048576 bytes; nothing that was there is written.
-/
import Derived.Test.YthjaldlnlcjljadDraw
import Derived.Test.YthjaldlnlcjljadAppI
import Derived.Laws.MakeOwn
import Derived.Laws.OwnMore
namespace Go.Proofs.Ythjaldlnlcjljad
open Go.RowKit

theorem OwnI.rebase {w : World} {base base' : Nat} {v : Value} {zs : List Int} (h : OwnI w base v zs) (hb : ∀ g, v.ownBlock = some g → base' ≤ g) : OwnI w base' v zs := by
  obtain ⟨xs, ⟨h1, h2⟩, hx⟩ := h.own
  refine ⟨⟨xs, ⟨h1, ?_⟩, hx⟩, h.fit⟩
  rcases h2 with h2 | ⟨g, cap, cur, rfl, b, c⟩
  · exact .inl h2
  · exact .inr ⟨g, cap, cur, rfl, hb g rfl, c⟩
theorem ownI_zeros {w1 : World} {base n : Nat} {v : Value} (h : w1.ownsRow base 3 1 v n (madeCells #[.int .i64 0] (n * 1)).toList) : OwnI w1 base v (List.replicate n 0) := by
  have hn : ∀ i, nth (List.replicate n (0 : Int)) i = 0 := fun i => by
    unfold nth
    by_cases hi : i < n
    · simp [hi]
    · have : (List.replicate n (0 : Int))[i]? = none := by simp; omega
      simp [this]
  refine ⟨⟨_, by rw [List.length_replicate]; exact h, fun j hj => ?_⟩, fun i => by rw [hn i]; omega⟩
  rw [hn j, toList_madeCells_one]
  have hj' : j < n := by simpa using hj
  simp [hj']

theorem holds_in (i : Nat) (h : i < 8) : 0 ≤ nth [1, 2, 3, 5, 100, 101, 0, 2] i ∧ nth [1, 2, 3, 5, 100, 101, 0, 2] i ≤ 101 := by
  rcases (show i = 0 ∨ i = 1 ∨ i = 2 ∨ i = 3 ∨ i = 4 ∨ i = 5 ∨ i = 6 ∨ i = 7 by omega) with rfl | rfl | rfl | rfl | rfl | rfl | rfl | rfl <;> decide

set_option maxRecDepth 20000 in
set_option maxHeartbeats 8000000 in
theorem drawMonitor_any (a : Option Addr) (len cap : Nat) (w : World) (hb : Bytes w a len) (hin : ∀ b off, a = some ⟨b, off, none⟩ → b < w.heap.size) (hl : len ≤ 1048576) :
    Calls Try.prog 14 #[.slice a len cap] w fun x w' => ∃ (ad : Option Addr) (zs : List Int) (c : Nat) (lo hi hold : Int), x = .returned (.tuple #[.slice ad zs.length c, .int .i64 lo, .int .i64 hi, .int .i64 hold]) ∧ OwnI w' w.heap.size (.slice ad zs.length c) zs ∧ zs.length ≤ 600 ∧ (0 ≤ lo ∧ lo ≤ 11) ∧ (-100 ≤ hi ∧ hi ≤ 100) ∧ (0 ≤ hold ∧ hold ≤ 101) ∧ Below w.heap.size w w' := by
  have HIN := hide hin
  have HBY := hide hb
  clear hb hin
  go_enter Try.func14, Try.ntmps14
  go_wp2_with fail
  obtain ⟨C, hC⟩ : ∃ C, w.heap.size = C := ⟨_, rfl⟩
  refine (drNew a len cap w (unhide HBY) (unhide HIN)).mono ?_
  rintro x w1 ⟨rfl, d, b⟩
  rw [hC] at d ⊢
  have hCW : C < w1.heap.size := d.lt
  obtain ⟨V, hV⟩ : ∃ V, V = w1.alloc (Obj.cells #[] 3) := ⟨_, rfl⟩
  have DD : Hid (Dr w C a len cap V) := hide (by rw [hV]; exact d.below (bel1 _))
  have OO : Hid (OwnI V (C + 1) (.slice (some ⟨w1.heap.size, 0, none⟩) 0 0) []) := hide (by
    rw [hV]
    exact (ownI_none (w := w1) (w1 := w1) (Nat.le_refl _)).rebase (fun g hg => by have e := Option.some.inj (show some w1.heap.size = some g from hg); omega))
  have HV := hide hV
  have HC := hide hC
  clear d b hV hC HBY
  go_wp2_with fail
  rw [← unhide HV]
  clear HV
  refine (l1Size_any a len cap 30 _ hl (by omega)).mono ?_
  rintro x w' ⟨s, rfl, hs, hw⟩
  subst w'
  go_wp2_with fail
  refine (drBelow (2 * s) _ (unhide DD) (by omega)).mono ?_
  rintro x w3 ⟨m, rfl, hm, d, gr⟩
  have OO := hide ((unhide OO).far gr (fun g hg e => by have h1 := ((unhide OO).lies g hg).1; have e3 := Option.some.inj e; omega))
  have DD := hide d
  clear d gr
  obtain ⟨M, hM⟩ : ∃ M : Nat, m = (M : Int) := ⟨m.toNat, by omega⟩
  subst hM
  have hM60 : M ≤ 60 := by omega
  go_wp2_with fail
  go_loopw [7, 8] (fun ov i wr => ∃ (k g c : Nat) (zs : List Int), ov = .slice (some ⟨g, 0, none⟩) zs.length c ∧ i = .int .i64 (k : Int) ∧ k ≤ 60 ∧ zs.length + k ≤ 60 ∧ Dr w C a len cap wr ∧ OwnI wr (C + 1) (.slice (some ⟨g, 0, none⟩) zs.length c) zs) (fun _ i _ => (intOf i).toNat)
  case atStart => exact ⟨M, _, _, [], rfl, rfl, hM60, (by simp; omega), unhide DD, unhide OO⟩
  case round =>
    clear DD OO
    obtain ⟨k, g, c, zs, rfl, rfl, hk, hkz, hd, ho⟩ := hrel
    obtain ⟨n, hn⟩ : ∃ n, zs.length = n := ⟨_, rfl⟩
    rw [hn] at ho ⊢
    have HN := hide hn
    have hnk : n + k ≤ 60 := by omega
    have DD := hide hd
    have OO := hide ho
    have OC : Hid (∀ q, (Value.slice (some ⟨g, 0, none⟩) n c).ownBlock = some q → some q ≠ some C) := hide (fun q hq e => by have h1 := (ho.lies q hq).1; have e3 := Option.some.inj e; omega)
    clear hd ho hn hkz
    by_cases hk0 : 0 < (k : Int)
    · go_wp2_with fail
      refine (drBelow 20 _ (unhide DD) (by omega)).mono ?_
      rintro x w4 ⟨y, rfl, hy, d, gr⟩
      have OO := hide ((unhide OO).far gr (unhide OC))
      have DD := hide d
      have hCw4 : C < w4.heap.size := d.lt
      clear d gr
      go_wp2_with (at_builtin; refine wpList_app_int rfl _ _ rfl (n := n) y (unhide OO) (unhide HN) rfl rfl (by omega) (by omega) (by omega) ?_; intro g' c' w9 o9 gr9)
      refine ⟨⟨k - 1, g', c', zs ++ [y], by simp [unhide HN], by go_num, by omega, by simp [unhide HN]; omega, (unhide DD).own gr9 (fun q hq => by have := ((unhide OO).lies q hq).1; omega) (unhide HIN), by simpa [unhide HN] using o9⟩, by simp [intOf]; omega⟩
    · have hC4 := (unhide DD).lt
      go_wp2_with fail
      refine (drOnce 40 _ (unhide DD) (by omega)).mono ?_
      rintro x w4 ⟨yes, rfl, d, gr⟩
      have OO := hide ((unhide OO).far gr (unhide OC))
      have DD := hide d
      have BIG : Hid (n ≤ 600) := hide (by omega)
      clear d gr hnk hk hk0
      cases yes with
      | false =>
        go_wp2_with fail
        refine (drBelow 12 _ (unhide DD) (by omega)).mono ?_
        rintro x w5 ⟨lo, rfl, hlo, d, gr⟩
        have OO := hide ((unhide OO).far gr (unhide OC))
        have DD := hide d
        clear d gr
        go_wp2_with fail
        refine (drBelow 10 _ (unhide DD) (by omega)).mono ?_
        rintro x w6 ⟨p, rfl, hp, d, gr⟩
        have OO := hide ((unhide OO).far gr (unhide OC))
        have DD := hide d
        clear d gr
        go_wp2_with fail
        refine (drBelow 15 _ (unhide DD) (by omega)).mono ?_
        rintro x w7 ⟨q, rfl, hq, d, gr⟩
        have OO := hide ((unhide OO).far gr (unhide OC))
        have DD := hide d
        have hq14 : 0 ≤ q / 14 ∧ q / 14 ≤ 1 := by omega
        clear d gr
        obtain ⟨V8, hV8⟩ : ∃ V, V = w7.alloc (Obj.cells #[.int .i64 1, .int .i64 2, .int .i64 3, .int .i64 5, .int .i64 100, .int .i64 101, .int .i64 0, .int .i64 2] 3) := ⟨_, rfl⟩
        have b8 : Below w7.heap.size w7 V8 := by rw [hV8]; exact bel1 _
        have RL : Hid (Row V8 (some ⟨w7.heap.size, 0, none⟩) 8 [1, 2, 3, 5, 100, 101, 0, 2]) := hide (by rw [hV8]; exact row_lit w7 [1, 2, 3, 5, 100, 101, 0, 2] 3 (by decide) (by decide))
        have gne : Hid (w7.heap.size ≠ C) := hide (by have := (unhide DD).lt; omega)
        have OO := hide ((unhide OO).below b8)
        have DD := hide ((unhide DD).below b8)
        have HV8 := hide hV8
        clear b8 hV8
        go_wp2_with fail
        rw [← unhide HV8]
        clear HV8
        refine (drPickInt _ 8 8 [1, 2, 3, 5, 100, 101, 0, 2] _ (unhide DD) (unhide RL) (unhide gne) (by omega)).mono ?_
        rintro x w9 ⟨i, hi, rfl, d, gr⟩
        have OO := hide ((unhide OO).far gr (unhide OC))
        have DD := hide d
        have HH := hide (holds_in i hi)
        clear d gr RL
        go_wp2_with fail
        refine bodyPost_ret (v := .tuple #[.slice (some ⟨g, 0, none⟩) n c, .int .i64 lo, .int .i64 (lo + p - q / 14 * 11), .int .i64 (nth [1, 2, 3, 5, 100, 101, 0, 2] i)]) (by simp [results, Try.results14, go_sem, *]) rfl ?_
        refine ⟨(some ⟨g, 0, none⟩), zs, c, lo, lo + p - q / 14 * 11, _, by rw [unhide HN], ?_, by rw [unhide HN]; exact unhide BIG, by omega, by omega, unhide HH, (unhide DD).bel⟩
        rw [unhide HN]
        exact (unhide OO).mono (by have := unhide HC; omega)
      | true =>
        clear OO OC BIG HN
        go_wp2_with fail
        refine (drBelow 2 _ (unhide DD) (by omega)).mono ?_
        rintro x wz ⟨z, rfl, hz, d, gr⟩
        have DD := hide d
        have hCz : C < wz.heap.size := d.lt
        clear d gr
        obtain ⟨N, hN⟩ : ∃ N : Nat, 500 + z = (N : Int) := ⟨(500 + z).toNat, by omega⟩
        have hN6 : N ≤ 600 := by omega
        obtain ⟨i0, hii, hz0, hz1, hz2⟩ := info_parts info_int1
        have HNN := hide hN
        go_wp2_with (at_make; refine wpList_make_full _ rfl (.tmp 31) (.tmp 31) 26 rfl (C + 1) 3 i0 (.int .i64 0) 1 Try.underlying26 hii hz0 hz1 .i64 .i64 _ _ N rfl rfl (by simp) (by simp) (by rw [hz2]; omega) (by unfold maxLen; omega) (by omega) ?_; intro w8 hown hgrow)
        have o8 := ownI_zeros hown
        have OC : Hid (∀ q, (Value.slice (some ⟨wz.heap.size, 0, none⟩) N N).ownBlock = some q → some q ≠ some C) := hide (fun q hq e => by have h1 := (o8.lies q hq).1; have e3 := Option.some.inj e; omega)
        have OO := hide o8
        have DD := hide ((unhide DD).own hgrow (fun k hk => by cases hk) (unhide HIN))
        have HN : Hid ((List.replicate N (0 : Int)).length = N) := hide (by simp)
        have BIG : Hid (N ≤ 600) := hide hN6
        clear o8 hown hgrow hii hz0 hz1 hz2 hN HNN hz
        go_wp2_with fail
        refine (drBelow 12 _ (unhide DD) (by omega)).mono ?_
        rintro x w5 ⟨lo, rfl, hlo, d, gr⟩
        have OO := hide ((unhide OO).far gr (unhide OC))
        have DD := hide d
        clear d gr
        go_wp2_with fail
        refine (drBelow 10 _ (unhide DD) (by omega)).mono ?_
        rintro x w6 ⟨p, rfl, hp, d, gr⟩
        have OO := hide ((unhide OO).far gr (unhide OC))
        have DD := hide d
        clear d gr
        go_wp2_with fail
        refine (drBelow 15 _ (unhide DD) (by omega)).mono ?_
        rintro x w7 ⟨q, rfl, hq, d, gr⟩
        have OO := hide ((unhide OO).far gr (unhide OC))
        have DD := hide d
        have hq14 : 0 ≤ q / 14 ∧ q / 14 ≤ 1 := by omega
        clear d gr
        obtain ⟨V8, hV8⟩ : ∃ V, V = w7.alloc (Obj.cells #[.int .i64 1, .int .i64 2, .int .i64 3, .int .i64 5, .int .i64 100, .int .i64 101, .int .i64 0, .int .i64 2] 3) := ⟨_, rfl⟩
        have b8 : Below w7.heap.size w7 V8 := by rw [hV8]; exact bel1 _
        have RL : Hid (Row V8 (some ⟨w7.heap.size, 0, none⟩) 8 [1, 2, 3, 5, 100, 101, 0, 2]) := hide (by rw [hV8]; exact row_lit w7 [1, 2, 3, 5, 100, 101, 0, 2] 3 (by decide) (by decide))
        have gne : Hid (w7.heap.size ≠ C) := hide (by have := (unhide DD).lt; omega)
        have OO := hide ((unhide OO).below b8)
        have DD := hide ((unhide DD).below b8)
        have HV8 := hide hV8
        clear b8 hV8
        go_wp2_with fail
        rw [← unhide HV8]
        clear HV8
        refine (drPickInt _ 8 8 [1, 2, 3, 5, 100, 101, 0, 2] _ (unhide DD) (unhide RL) (unhide gne) (by omega)).mono ?_
        rintro x w9 ⟨i, hi, rfl, d, gr⟩
        have OO := hide ((unhide OO).far gr (unhide OC))
        have DD := hide d
        have HH := hide (holds_in i hi)
        clear d gr RL
        go_wp2_with fail
        refine bodyPost_ret (v := .tuple #[.slice (some ⟨wz.heap.size, 0, none⟩) N N, .int .i64 lo, .int .i64 (lo + p - q / 14 * 11), .int .i64 (nth [1, 2, 3, 5, 100, 101, 0, 2] i)]) (by simp [results, Try.results14, go_sem, *]) rfl ?_
        refine ⟨(some ⟨wz.heap.size, 0, none⟩), (List.replicate N 0), N, lo, lo + p - q / 14 * 11, _, by rw [unhide HN], ?_, by rw [unhide HN]; exact unhide BIG, by omega, by omega, unhide HH, (unhide DD).bel⟩
        rw [unhide HN]
        exact (unhide OO).mono (by have := unhide HC; omega)

end Go.Proofs.Ythjaldlnlcjljad

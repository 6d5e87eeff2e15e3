/-
  Bytes that are drawn for reading: they lie in memory that can be read, at most 2000. At bytes of at most 1048576.
-/
import Derived.Test.YtfnnfldfnjnlfagRdAny
import Derived.Test.YtfnnfldfnjnlfagPkSpc
import Derived.Test.YtfnnfldfnjnlfagRt1
namespace Go.Proofs.Ytfnnfldfnjnlfag
open Go Go.RowKit

theorem chL_by {c : Int} (h : -60000 ≤ c ∧ c ≤ 60000) : ∀ x ∈ chL c, 0 ≤ x ∧ x ≤ 255 := by
  intro x hx
  cases q : inB c (-100) 100
  · rw [chL_n q] at hx
    simp only [List.mem_cons, List.not_mem_nil, or_false] at hx
    rcases hx with rfl | rfl | rfl | rfl <;> omega
  · rw [chL_y q] at hx
    have := of_decide_eq_true q
    rw [List.mem_singleton] at hx
    omega
theorem pkJ_by {zss : List (List Int)} (h : rcB zss = true) {i : Nat} (hi : i < zss.length) : ∀ k, k ≤ wdN zss → ∀ x ∈ pkJ zss i k, 0 ≤ x ∧ x ≤ 255
  | 0, _, x, hx => by simp [pkJ] at hx
  | k + 1, hk, x, hx => by
    rw [pkJ, List.mem_append] at hx
    rcases hx with hx | hx
    · exact pkJ_by h hi k (by omega) x hx
    · exact chL_by (chC_in h hi (by omega)) x hx
theorem pkI_by {zss : List (List Int)} (h : rcB zss = true) : ∀ i, i ≤ zss.length → ∀ x ∈ pkI zss i, 0 ≤ x ∧ x ≤ 255
  | 0, _, x, hx => by
    have a := wdN_le h
    have b := (rcB_facts h).1
    simp only [pkI, List.mem_cons, List.not_mem_nil, or_false] at hx
    rcases hx with rfl | rfl <;> omega
  | i + 1, hi, x, hx => by
    rw [pkI, List.mem_append] at hx
    rcases hx with hx | hx
    · exact pkI_by h i (by omega) x hx
    · exact pkJ_by h (by omega) _ (Nat.le_refl _) x hx
theorem pkL_by (zss : List (List Int)) : ByB (pkL zss) := by
  intro i hi
  have hm : elAt (pkL zss) i ∈ pkL zss := by
    have : elAt (pkL zss) i = (pkL zss)[i] := by simp [elAt, hi]
    rw [this]; exact List.getElem_mem hi
  cases q : pkB zss
  · rw [pkL_no q] at hi; simp at hi
  · have hr : rcB zss = true := by simp only [pkB, Bool.and_eq_true] at q; exact q.1
    rw [pkL_yes q] at hm ⊢
    exact pkI_by hr _ (Nat.le_refl _) _ hm
theorem byB_set {bs : List Int} {k : Nat} {x : Int} (h : ByB bs) (hx : 0 ≤ x ∧ x ≤ 255) : ByB (bs.set k x) := by
  intro i hi
  have hi : i < bs.length := by simpa using hi
  by_cases hk : k < bs.length
  · rw [elAt_set _ _ _ _ hk]
    by_cases e : i = k
    · rw [if_pos e]; exact hx
    · rw [if_neg e]; exact h i hi
  · rw [List.set_eq_of_length_le (by omega)]; exact h i hi
theorem byB_take {bs : List Int} (h : ByB bs) (k : Nat) : ByB (bs.take k) := by
  intro i hi
  have hi2 : i < k ∧ i < bs.length := by rw [List.length_take] at hi; omega
  have e : elAt (bs.take k) i = elAt bs i := by simp [elAt, List.getElem?_take_of_lt hi2.1]
  rw [e]; exact h i hi2.2
theorem byB_app {bs : List Int} {x : Int} (h : ByB bs) (hx : 0 ≤ x ∧ x ≤ 255) : ByB (bs ++ [x]) := by
  intro i hi
  by_cases e : i < bs.length
  · rw [(elAt_app bs x).1 i e]; exact h i e
  · obtain rfl : i = bs.length := by simp at hi; omega
    rw [(elAt_app bs x).2]; exact hx
theorem own_takeB {w : World} {base g m c k : Nat} {bs : List Int} (h : OwnE 1 byC w base 5 (.slice (some ⟨g, 0, none⟩) m c) bs) (hm : bs.length = m) (hk : k ≤ m) : OwnE 1 byC w base 5 (.slice (some ⟨g, 0, none⟩) k c) (bs.take k) := by
  obtain ⟨xs, ⟨h1, h2⟩, hx⟩ := h.own
  have hl : (bs.take k).length = k := by simp; omega
  refine ⟨⟨xs.take k, ⟨by rw [List.length_take, h1, hl]; omega, ?_⟩, fun j hj q hq => ?_⟩⟩
  · rcases h2 with ⟨e, _⟩ | ⟨g', cap, cur, e, hb, hg, hc, hmx, hs, ht⟩
    · cases e
    · simp only [Value.slice.injEq] at e
      obtain ⟨e1, e2, e3⟩ := e
      refine .inr ⟨g', cap, cur, by rw [hl]; simp [e1, e3], hb, hg, by omega, hmx, hs, ?_⟩
      rw [← ht, List.take_take]
      congr 1
      rw [hl]; omega
  · rw [hl] at hj
    obtain rfl : q = 0 := by omega
    have e : elAt (bs.take k) j = elAt bs j := by simp [elAt, List.getElem?_take_of_lt hj]
    rw [e, List.getElem?_take_of_lt (by omega)]
    exact hx j (by omega) 0 (by omega)
theorem drByte {w : World} {C : Nat} {a : Option Addr} {len cap : Nat} (W : World) (h : Dr w C a len cap W) :
    Calls Try.prog 75 #[.pointer (some ⟨C, 0, none⟩)] W fun e w' => ∃ x : Int, e = .returned (.int .i64 x) ∧ (0 ≤ x ∧ x ≤ 255) ∧ Dr w C a len cap w' ∧ W.grownBy w' (some C) := by
  refine (l1Byte_any C a len cap W h.cur h.byt h.ne).mono ?_
  rintro e w' ⟨x, rfl, hx, hc, g⟩
  exact ⟨x, rfl, hx, h.step hc g, g⟩
def DuE (w : World) (e : Ending) (w' : World) : Prop := ∃ (g m c : Nat) (bs : List Int), e = .returned (.slice (some ⟨g, 0, none⟩) m c) ∧ OwnE 1 byC w' w.heap.size 5 (.slice (some ⟨g, 0, none⟩) m c) bs ∧ bs.length = m ∧ (m ≤ 1501 ∧ (m ≤ 1500 ∨ unCo bs ≠ 0)) ∧ ByB bs ∧ Below w.heap.size w w'
set_option maxRecDepth 20000 in
set_option maxHeartbeats 8000000 in
theorem drawUnpack20_any (a : Option Addr) (len cap : Nat) (w : World) (hb : Bytes w a len) (hin : ∀ b off, a = some ⟨b, off, none⟩ → b < w.heap.size) (hl : len ≤ 1048576) :
    Calls Try.prog 24 #[.slice a len cap] w fun e w' => DuE w e w' := by
  go_enter Try.func24, Try.ntmps24
  go_wp2_with fail
  refine (drNew a len cap w hb hin).mono ?_
  rintro e w1 ⟨rfl, d1, b1⟩
  have CA := hide (l20DrawAny_any w w.heap.size a len cap w1 d1 hin hl)
  have HIN := hide hin
  clear d1 b1 hin hb
  go_wp2_with fail
  refine (unhide CA).mono ?_
  rintro e w2 ⟨g0, n0, c0, zs, rfl, rs, hn0, d2⟩
  have CP := hide (specPack20_some (some ⟨g0, 0, none⟩) n0 c0 zs w2 rs)
  have D2 := hide d2
  have hC2 : w.heap.size < w2.heap.size := d2.lt
  clear rs d2 CA
  go_wp2_with fail
  refine (unhide CP).mono ?_
  rintro e w3 ⟨g, c, rfl, o3, b3⟩
  obtain ⟨bs, hbs⟩ : ∃ bs, pkL zs = bs := ⟨_, rfl⟩
  obtain ⟨B, hB⟩ : ∃ B, pkB zs = B := ⟨_, rfl⟩
  have BB : Hid (ByB bs) := hide (by rw [← hbs]; exact pkL_by zs)
  have h1500 : bs.length ≤ 1500 := by rw [← hbs]; exact pkL_len zs
  have HT : Hid (∀ x : Int, bs ≠ [] → unCo (bs ++ [x]) ≠ 0) := hide (fun x hne => by
    rw [← hbs] at hne ⊢
    cases q : pkB zs
    · rw [pkL_no q] at hne; exact absurd rfl hne
    · have hr : rcB zs = true := by simp only [pkB, Bool.and_eq_true] at q; exact q.1
      rw [pkL_yes q]
      exact rt_tail hr (by simp))
  rw [hbs] at o3 ⊢
  rw [hB]
  obtain ⟨m, hm⟩ : ∃ m, bs.length = m := ⟨_, rfl⟩
  rw [hm] at o3 h1500 ⊢
  have ON : Hid (OwnE 1 byC w3 w.heap.size 5 (.slice (some ⟨g, 0, none⟩) m c) bs) := hide (o3.mono (by omega))
  have hg := (o3.lies g rfl).1
  have hg : w.heap.size < g := by omega
  have hmc : m ≤ c := by
    rcases o3.form with ⟨e, _⟩ | ⟨g', cp, e, _, _, hc, _⟩
    · cases e
    · simp only [Value.slice.injEq] at e; omega
  have D3 := hide ((unhide D2).below b3)
  have HL := hide hm
  clear o3 b3 hbs hB D2 CP hm
  by_cases m0 : m = 0
  · have e0 : ¬ (0 : Int) < (m : Int) := by omega
    clear m0
    go_wp2_with fail
    refine bodyPost_ret (v := .slice (some ⟨g, 0, none⟩) m c) (by simp [results, Try.results24, go_sem]) rfl ⟨g, m, c, bs, rfl, unhide ON, unhide HL, ⟨by omega, .inl (by omega)⟩, unhide BB, (unhide D3).bel⟩
  have e0 : (0 : Int) < (m : Int) := by omega
  go_wp2_with fail
  refine (drBelow (m : Int) _ (unhide D3) (by omega)).mono ?_
  rintro e w4 ⟨k, rfl, hk0, d4, g4⟩
  obtain ⟨k, rfl⟩ : ∃ kn : Nat, k = (kn : Int) := ⟨k.toNat, by omega⟩
  have hk : k < m := by omega
  have ON := hide ((unhide ON).far g4 (fun q hq e => by have e1 := fresh_own hq; simp only [Option.some.injEq] at e; omega))
  have D4 := hide d4
  clear d4 g4 D3 hk0
  go_wp2_with fail
  refine (drBelow 6 _ (unhide D4) (by omega)).mono ?_
  rintro e w5 ⟨s, rfl, hs, d5, g5⟩
  have ON := hide ((unhide ON).far g5 (fun q hq e => by have e1 := fresh_own hq; simp only [Option.some.injEq] at e; omega))
  have DN := hide d5
  have hL := unhide HL
  have hg0 : w.heap.size ≤ w.heap.size := Nat.le_refl _
  have hC5 : w.heap.size < w5.heap.size := d5.lt
  have hg5 : g < w5.heap.size := ((unhide ON).lies g rfl).2
  have hg : w.heap.size ≤ g := by omega
  clear d5 g5 D4
  by_cases s0 : s = 0
  · subst s0
    go_wp2_with fail
    refine (drByte _ (unhide DN)).mono ?_
    rintro e w6 ⟨x, rfl, hxb, d6, g6⟩
    have ON := hide ((unhide ON).far g6 (fun q hq e => by have e1 := fresh_own hq; simp only [Option.some.injEq] at e; omega))
    have BN := hide d6.bel
    clear d6 g6 DN
    have y1 : w6.cell? ⟨g, k, none⟩ = some (.int .u8 (elAt bs k)) := ((unhide ON).here1 hL k hk).1
    have f1 : w6.frozen? ⟨g, k, none⟩ = false := ((unhide ON).here1 hL k hk).2
    have hki : (k : Int) < (m : Int) := by omega
    have O9 := hide ((unhide ON).set1 hL k hk (.int .u8 x) x rfl)
    have B9 := hide ((unhide BN).setCell (p := ⟨g, k, none⟩) hg (.int .u8 x))
    go_wp2_with fail
    refine bodyPost_ret (v := .slice (some ⟨g, 0, none⟩) m c) (by simp [results, Try.results24, go_sem]) rfl ⟨g, m, c, bs.set k x, rfl, unhide O9, by simpa using hL, ⟨by omega, .inl (by omega)⟩, byB_set (unhide BB) hxb, unhide B9⟩
  by_cases s1 : s = 1
  · subst s1
    have hki : (k : Int) ≤ (m : Int) := by omega
    have hmc : (m : Int) ≤ (c : Int) := by omega
    go_wp2_with fail
    refine bodyPost_ret (v := .slice (some ⟨g, 0, none⟩) k c) (by simp [results, Try.results24, go_sem]) rfl ⟨g, k, c, bs.take k, rfl, own_takeB (unhide ON) hL (by omega), by simp; omega, ⟨by omega, .inl (by omega)⟩, byB_take (unhide BB) k, (unhide DN).bel⟩
  by_cases s2 : s = 2
  · subst s2
    go_wp2_with fail
    refine (drPickInt w5.heap.size 5 5 [0, 200, 201, 254, 255] _ ((unhide DN).below (bel1 _)) (row_lit4 w5 [0, 200, 201, 254, 255] (by simp) (fun i => by
      by_cases h : i < 5
      · rcases (show i = 0 ∨ i = 1 ∨ i = 2 ∨ i = 3 ∨ i = 4 from by omega) with rfl | rfl | rfl | rfl | rfl <;> simp [nth]
      · simp [nth, List.getElem?_eq_none (show ([0, 200, 201, 254, 255] : List Int).length ≤ i by simpa using h)])) (by omega) (by omega)).mono ?_
    rintro e w6 ⟨i, hi, rfl, d6, g6⟩
    obtain ⟨x, hp⟩ : ∃ p, nth [0, 200, 201, 254, 255] i = p := ⟨_, rfl⟩
    have hxb : 0 ≤ x ∧ x ≤ 255 := by
      subst hp
      rcases (show i = 0 ∨ i = 1 ∨ i = 2 ∨ i = 3 ∨ i = 4 from by omega) with rfl | rfl | rfl | rfl | rfl <;> simp [nth]
    rw [hp]
    have ON := hide (((unhide ON).below (bel1 _)).far g6 (fun q hq e => by have e1 := fresh_own hq; simp only [Option.some.injEq] at e; omega))
    have BN := hide d6.bel
    clear hp hi d6 g6 DN
    have y1 : w6.cell? ⟨g, k, none⟩ = some (.int .u8 (elAt bs k)) := ((unhide ON).here1 hL k hk).1
    have f1 : w6.frozen? ⟨g, k, none⟩ = false := ((unhide ON).here1 hL k hk).2
    have hki : (k : Int) < (m : Int) := by omega
    have O9 := hide ((unhide ON).set1 hL k hk (.int .u8 x) x rfl)
    have B9 := hide ((unhide BN).setCell (p := ⟨g, k, none⟩) hg (.int .u8 x))
    go_wp2_with fail
    refine bodyPost_ret (v := .slice (some ⟨g, 0, none⟩) m c) (by simp [results, Try.results24, go_sem]) rfl ⟨g, m, c, bs.set k x, rfl, unhide O9, by simpa using hL, ⟨by omega, .inl (by omega)⟩, byB_set (unhide BB) hxb, unhide B9⟩
  by_cases s3 : s = 3
  · subst s3
    go_wp2_with fail
    refine (drByte _ (unhide DN)).mono ?_
    rintro e w6 ⟨x, rfl, hxb, d6, g6⟩
    have ON := hide ((unhide ON).far g6 (fun q hq e => by have e1 := fresh_own hq; simp only [Option.some.injEq] at e; omega))
    have BN := hide d6.bel
    have hs6 := g6.size
    clear d6 g6 DN
    have LIT : Hid (RowE 1 byC (w6.alloc (Obj.cells #[.int .u8 x] 5)) (some ⟨w6.heap.size, 0, none⟩) 1 [x]) := hide (byL_lit (base := w6.heap.size) w6 [x] (Nat.le_refl _) (by simp)).row
    have BA : Hid (Below w.heap.size w (w6.alloc (Obj.cells #[.int .u8 x] 5))) := hide ((unhide BN).trans ((bel1 _).mono (unhide BN).size))
    go_wp2_with (at_builtin; refine wpList_app_by rfl _ _ rfl ((unhide ON).below (bel1 (Obj.cells #[.int .u8 x] 5))) hL rfl (some ⟨w6.heap.size, 0, none⟩) 1 1 [x] rfl (unhide LIT) (by omega) (unhide BA).size ?_; intro g9 c9 w9 o9 gr9 hg9)
    have B9 := hide ((unhide BA).grown gr9 (unhide BA).size (fun q hq => by have e1 := Option.some.inj hq; omega))
    refine bodyPost_ret (v := .slice (some ⟨g9, 0, none⟩) (m + 1) c9) (by simp [results, Try.results24, go_sem]) rfl ⟨g9, m + 1, c9, bs ++ [x], rfl, o9.mono hg0, by simp [hL], ⟨by omega, .inr ((unhide HT) x (fun e => by rw [e] at hL; simp at hL; omega))⟩, byB_app (unhide BB) hxb, unhide B9⟩
  have q0 : (s == 0) = false := by simpa using s0
  have q1 : (s == 1) = false := by simpa using s1
  have q2 : (s == 2) = false := by simpa using s2
  have q3 : (s == 3) = false := by simpa using s3
  clear s0 s1 s2 s3
  go_wp2_with fail
  refine bodyPost_ret (v := .slice (some ⟨g, 0, none⟩) m c) (by simp [results, Try.results24, go_sem]) rfl ⟨g, m, c, bs, rfl, unhide ON, hL, ⟨by omega, .inl (by omega)⟩, unhide BB, (unhide DN).bel⟩

end Go.Proofs.Ytfnnfldfnjnlfag

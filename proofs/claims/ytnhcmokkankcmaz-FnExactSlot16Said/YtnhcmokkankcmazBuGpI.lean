/-
  What the program's Gap16 answers: the plain answer, at every argument; nothing that was there is written.
-/
import Derived.Test.YtnhcmokkankcmazBuImpl
import Derived.Test.YtnhcmokkankcmazBuGap
namespace Go.Proofs.Ytnhcmokkankcmaz
open Go.RowKit

/-- The first place of a link, or none. -/
def ixR (gs : List Int) (link : Int) : Int := match (List.range gs.length).find? (fun i => nth gs i == link) with | some i => (i : Int) | none => -1
theorem ix_at {gs : List Int} {link : Int} {k : Nat} (hk : k < gs.length) (h : nth gs k = link) (hb : ∀ j, j < k → ¬ nth gs j = link) : ixR gs link = (k : Int) := by
  have : (List.range gs.length).find? (fun i => nth gs i == link) = some k := by
    rw [List.find?_range_eq_some]
    exact ⟨by simpa using h, by simpa using hk, fun j hj => by simpa using hb j hj⟩
  unfold ixR; rw [this]
theorem ix_none {gs : List Int} {link : Int} (hb : ∀ j, j < gs.length → ¬ nth gs j = link) : ixR gs link = -1 := by
  have : (List.range gs.length).find? (fun i => nth gs i == link) = none := by
    rw [List.find?_eq_none]
    intro i hi
    simpa using hb i (by simpa using hi)
  unfold ixR; rw [this]
theorem ix_cases (gs : List Int) (link : Int) : (∃ k, k < gs.length ∧ nth gs k = link ∧ (∀ j, j < k → ¬ nth gs j = link) ∧ ixR gs link = (k : Int)) ∨ ((∀ j, j < gs.length → ¬ nth gs j = link) ∧ ixR gs link = -1) := by
  cases e : (List.range gs.length).find? (fun i => nth gs i == link) with
  | none =>
    rw [List.find?_eq_none] at e
    have hb : ∀ j, j < gs.length → ¬ nth gs j = link := fun j hj => by simpa using e j (by simpa using hj)
    exact .inr ⟨hb, ix_none hb⟩
  | some k =>
    rw [List.find?_range_eq_some] at e
    have h1 : nth gs k = link := by simpa using e.1
    have h2 : k < gs.length := by simpa using e.2.1
    have h3 : ∀ j, j < k → ¬ nth gs j = link := fun j hj => by simpa using e.2.2 j hj
    exact .inl ⟨k, h2, h1, h3, ix_at h2 h1 h3⟩
theorem gpK_none {gs : List Int} {link : Int} (hb : ∀ j, j < gs.length → ¬ nth gs j = link) : ∀ k, k ≤ gs.length → gpK gs link k = 0
  | 0, _ => rfl
  | k + 1, hk => by rw [gpK, if_neg (hb k (by omega))]; exact gpK_none hb k (by omega)
theorem gpK_upper {gs : List Int} {link : Int} {M : Int} (h0 : 0 ≤ M) (h : ∀ i, i < gs.length → nth gs i = link → (gpD gs link i : Int) ≤ M) : ∀ k, k ≤ gs.length → gpK gs link k ≤ M
  | 0, _ => h0
  | k + 1, hk => by
    have ih := gpK_upper h0 h k (by omega)
    rw [gpK]
    split
    · rename_i q
      have := h k (by omega) q
      omega
    · exact ih
theorem gpK_lower {gs : List Int} {link : Int} {i : Nat} (q : nth gs i = link) : ∀ k, i < k → (gpD gs link i : Int) ≤ gpK gs link k
  | 0, hk => by omega
  | k + 1, hk => by
    rw [gpK]
    by_cases e : i = k
    · subst e; rw [if_pos q]; omega
    · have := gpK_lower (gs := gs) q k (by omega)
      split <;> omega
/-- What is known at a slot: the last one of the link, and the greatest number so far. -/
structure GpA (gs : List Int) (link : Int) (f : Nat) (G : Int) (last s : Nat) : Prop where
  a1 : f ≤ last
  a2 : last < s
  a3 : s ≤ f + gs.length + 1
  a4 : nth gs (last % gs.length) = link
  a5 : ∀ t, last < t → t < s → ¬ nth gs (t % gs.length) = link
  a6 : ∀ t, f ≤ t → t < last → nth gs (t % gs.length) = link → (gpD gs link (t % gs.length) : Int) ≤ G
  a7 : (last = f ∧ G = 0) ∨ ∃ t, f ≤ t ∧ t < last ∧ nth gs (t % gs.length) = link ∧ (gpD gs link (t % gs.length) : Int) = G
  a8 : 0 ≤ G ∧ G ≤ gs.length
theorem GpA.start {gs : List Int} {link : Int} {f : Nat} (hf : f < gs.length) (h : nth gs f = link) : GpA gs link f 0 f (f + 1) :=
  ⟨Nat.le_refl _, by omega, by omega, by rw [Nat.mod_eq_of_lt hf]; exact h, fun t h1 h2 => by omega, fun t h1 h2 => by omega, .inl ⟨rfl, rfl⟩, by omega⟩
theorem GpA.no {gs : List Int} {link : Int} {f last s : Nat} {G : Int} (h : GpA gs link f G last s) (hs : s ≤ f + gs.length) (hn : ¬ nth gs (s % gs.length) = link) : GpA gs link f G last (s + 1) :=
  ⟨h.a1, by have := h.a2; omega, by omega, h.a4, fun t h1 h2 => by
    by_cases e : t = s
    · subst e; exact hn
    · exact h.a5 t h1 (by omega), h.a6, h.a7, h.a8⟩
theorem GpA.dist {gs : List Int} {link : Int} {f last s : Nat} {G : Int} (h : GpA gs link f G last s) (hs : s ≤ f + gs.length) (hn : nth gs (s % gs.length) = link) : gpD gs link (last % gs.length) = s - last := by
  have h1 := h.a1
  have h2 := h.a2
  have e : gpD gs link (last % gs.length) = (s - last - 1) + 1 := by
    refine gpD_is (by omega) ?_ (fun j hj => ?_)
    · have e : (last % gs.length + (s - last - 1 + 1)) % gs.length = s % gs.length := by
        rw [Nat.mod_add_mod]; congr 1; omega
      rw [e]; exact hn
    · have e : (last % gs.length + (j + 1)) % gs.length = (last + (j + 1)) % gs.length := by rw [Nat.mod_add_mod]
      rw [e]; exact h.a5 _ (by omega) (by omega)
  omega
theorem GpA.yes {gs : List Int} {link : Int} {f last s : Nat} {G : Int} (h : GpA gs link f G last s) (hs : s ≤ f + gs.length) (hn : nth gs (s % gs.length) = link) : GpA gs link f (max G ((s : Int) - (last : Int))) s (s + 1) := by
  have h1 := h.a1
  have h2 := h.a2
  have h8 := h.a8
  have d := h.dist hs hn
  refine ⟨by omega, by omega, by omega, hn, fun t q1 q2 => by omega, fun t q1 q2 q3 => ?_, .inr ?_, by omega⟩
  · by_cases e : t < last
    · have := h.a6 t q1 e q3; omega
    · by_cases e2 : t = last
      · subst e2; rw [d]; omega
      · exact absurd q3 (h.a5 t (by omega) q2)
  · by_cases c : G ≤ (s : Int) - (last : Int)
    · exact ⟨last, h1, h2, h.a4, by rw [d]; omega⟩
    · rcases h.a7 with ⟨e1, e2⟩ | ⟨t, t1, t2, t3, t4⟩
      · exfalso; omega
      · exact ⟨t, t1, by omega, t3, by rw [t4]; omega⟩
theorem GpA.ends {gs : List Int} {link : Int} {f last : Nat} {G : Int} (h : GpA gs link f G last (f + gs.length + 1)) (hf : f < gs.length) (hm : nth gs f = link) : gpK gs link gs.length = G ∧ 0 < G := by
  have hl : last = f + gs.length := by
    rcases Nat.lt_or_ge last (f + gs.length) with q | q
    · exfalso
      refine h.a5 (f + gs.length) q (by omega) ?_
      rw [Nat.add_mod_right, Nat.mod_eq_of_lt hf]; exact hm
    · have := h.a2; omega
  have hup : gpK gs link gs.length ≤ G := by
    refine gpK_upper h.a8.1 (fun i hi hq => ?_) _ (Nat.le_refl _)
    by_cases c : f ≤ i
    · have := h.a6 i c (by omega) (by rw [Nat.mod_eq_of_lt hi]; exact hq)
      rw [Nat.mod_eq_of_lt hi] at this; exact this
    · have := h.a6 (i + gs.length) (by omega) (by omega) (by rw [Nat.add_mod_right, Nat.mod_eq_of_lt hi]; exact hq)
      rw [Nat.add_mod_right, Nat.mod_eq_of_lt hi] at this; exact this
  rcases h.a7 with ⟨e1, _⟩ | ⟨t, t1, t2, t3, t4⟩
  · exfalso; omega
  · have hlt : t % gs.length < gs.length := Nat.mod_lt _ (by omega)
    have := gpK_lower (gs := gs) t3 gs.length hlt
    have hp : 1 ≤ gpD gs link (t % gs.length) := by unfold gpD; omega
    constructor <;> omega

set_option maxRecDepth 20000 in
set_option maxHeartbeats 1000000 in
theorem index_is {r : Int} (ad : Option Addr) (len cap : Nat) (gs : List Int) (link : Int) (w : World) (hr : Row w ad len gs) (hc : ixR gs link = r) :
    Calls Try.prog 16 #[.slice ad len cap, .int .i64 link] w fun e w' => e = .returned (.int .i64 r) ∧ Below w.heap.size w w' := by
  have hz := hr.len_eq
  have hs := hr.small
  have HR := hide hr
  have HC := hide hc
  clear hr hc
  subst hz
  go_enter Try.func16, Try.ntmps16
  go_wp2_with fail
  go_loopw [8] (fun s wr => ∃ (k n : Nat), k ≤ gs.length ∧ s = .int .i64 (k : Int) ∧ Hid (∀ j, j < k → ¬ nth gs j = link) ∧ wr = w.drewN n) (fun s _ => gs.length - (intOf s).toNat)
  case atStart => exact ⟨0, 0, Nat.zero_le _, rfl, hide (fun j hj => by omega), rfl⟩
  case round =>
    obtain ⟨k, n, hk, rfl, HJ, rfl⟩ := hrel
    by_cases hlt : k < gs.length
    · rcases (unhide HR).open_ with ⟨q0, _⟩ | ⟨bb, off, rfl, _, hc⟩
      · omega
      have m0 : w.cell? ⟨bb, off + k, none⟩ = some (.int .i64 (nth gs k)) := hc k hlt
      have k0 : (0 : Int) ≤ (k : Int) := by omega
      have k1 : (k : Int) < (gs.length : Int) := by omega
      clear hc
      by_cases hq : nth gs k = link
      · have HV := hide ((ix_at hlt hq (unhide HJ)).symm.trans (unhide HC))
        have HQ := hide hq
        rw [hq] at m0
        clear hq
        go_wp2_with fail
        go_ret
        exact ⟨ret_int (unhide HV), bel0d n⟩
      · have q5 : (link == nth gs k) = false := by simpa using fun e => hq e.symm
        have q6 : ¬ link = nth gs k := fun e => hq e.symm
        have HQ := hide hq
        clear hq
        go_wp2_with fail
        go_roundw
        case rel => exact ⟨k + 1, n, by omega, by go_num, hide (fun i hi => by rcases Nat.lt_succ_iff_lt_or_eq.1 hi with h | h; exact unhide HJ i h; subst h; exact unhide HQ), rfl⟩
        case measure => simp [intOf]; omega
    · have hkl : k = gs.length := by omega
      have HV := hide ((ix_none (fun j hj => unhide HJ j (by omega))).symm.trans (unhide HC))
      have k1 : ¬ (k : Int) < (gs.length : Int) := by omega
      clear hkl
      go_wp2_with fail
      go_ret
      exact ⟨ret_int (unhide HV), bel0d n⟩

set_option maxRecDepth 20000 in
set_option maxHeartbeats 2000000 in
theorem implGap16_is {n : Int} {b : Bool} (ad : Option Addr) (len cap : Nat) (gs : List Int) (link : Int) (w : World) (hr : Row w ad len gs) (hn : gpR gs link = n) (hb : gpB gs link = b) :
    Calls Try.prog 10 #[.slice ad len cap, .int .i64 link] w fun e w' => e = .returned (.tuple #[.int .i64 n, .bool b]) ∧ Below w.heap.size w w' := by
  have hz := hr.len_eq
  have hs := hr.small
  have HR := hide hr
  clear hr
  subst hz
  obtain ⟨ι, fW, _, hb, hall⟩ := belClass w
  have HB := hide hb
  have HA := hide hall
  clear hb hall
  obtain ⟨x0, h0⟩ := (unhide HA) w (Below.refl _ _)
  obtain ⟨ix, hix⟩ : ∃ z, ixR gs link = z := ⟨_, rfl⟩
  have HIX := hide hix
  rcases two (plB gs) (!(link == 0)) with ⟨q1, hv⟩ | ⟨q1, q2, hv⟩ | ⟨q1, q2, hv⟩
  · have HN := hide ((gp_no hv).1.symm.trans hn)
    have HV := hide ((gp_no hv).2.symm.trans hb)
    clear hv hn hb hix
    go_enter Try.func10, Try.ntmps10
    rw [h0]
    have H0 := hide h0
    clear h0
    go_wp2_with (first | (go_at_call 13; refine (belQ (unhide HB) (unhide HA) (planOk_is _ _ _ gs _ ((unhide HR).below (unhide HB _)) (by exact q1))).mono ?_; rintro e _ ⟨rfl, y, rfl⟩) | (go_at_call 16; refine (belQ (unhide HB) (unhide HA) (index_is _ _ _ gs _ _ ((unhide HR).below (unhide HB _)) (unhide HIX))).mono ?_; rintro e _ ⟨rfl, y, rfl⟩))
    repeat (refine wp_region_bel (fun w' h => (unhide HA) w' ((unhide HB _).trans (h.mono (unhide HB _).size))) (by kernel_rfl) (by kernel_rfl) ?_; (repeat (go_big_quiet_step (first | (go_at_call 13; exact belQ (unhide HB) (unhide HA) (planOk_is _ _ _ gs _ ((unhide HR).below (unhide HB _)) (by exact q1))) | (go_at_call 16; exact belQ (unhide HB) (unhide HA) (index_is _ _ _ gs _ _ ((unhide HR).below (unhide HB _)) (unhide HIX)))))); refine wpQuiet_nil ?_; rintro _ ⟨y, rfl⟩; (first | go_wp2_with (first | (go_at_call 13; refine (belQ (unhide HB) (unhide HA) (planOk_is _ _ _ gs _ ((unhide HR).below (unhide HB _)) (by exact q1))).mono ?_; rintro e _ ⟨rfl, y, rfl⟩) | (go_at_call 16; refine (belQ (unhide HB) (unhide HA) (index_is _ _ _ gs _ _ ((unhide HR).below (unhide HB _)) (unhide HIX))).mono ?_; rintro e _ ⟨rfl, y, rfl⟩)) | go_wp2))
    go_ret2
    exact ⟨ret_ib (unhide HN) (unhide HV), (by first | (rw [← unhide H0]; exact unhide HB _) | (rw [← unhide H0]; exact Below.refl _ _))⟩
  · have HN := hide ((gp_no hv).1.symm.trans hn)
    have HV := hide ((gp_no hv).2.symm.trans hb)
    clear hv hn hb hix
    have e0 : link = 0 := by simpa using q2
    subst e0
    clear q2
    go_enter Try.func10, Try.ntmps10
    rw [h0]
    have H0 := hide h0
    clear h0
    go_wp2_with (first | (go_at_call 13; refine (belQ (unhide HB) (unhide HA) (planOk_is _ _ _ gs _ ((unhide HR).below (unhide HB _)) (by exact q1))).mono ?_; rintro e _ ⟨rfl, y, rfl⟩) | (go_at_call 16; refine (belQ (unhide HB) (unhide HA) (index_is _ _ _ gs _ _ ((unhide HR).below (unhide HB _)) (unhide HIX))).mono ?_; rintro e _ ⟨rfl, y, rfl⟩))
    repeat (refine wp_region_bel (fun w' h => (unhide HA) w' ((unhide HB _).trans (h.mono (unhide HB _).size))) (by kernel_rfl) (by kernel_rfl) ?_; (repeat (go_big_quiet_step (first | (go_at_call 13; exact belQ (unhide HB) (unhide HA) (planOk_is _ _ _ gs _ ((unhide HR).below (unhide HB _)) (by exact q1))) | (go_at_call 16; exact belQ (unhide HB) (unhide HA) (index_is _ _ _ gs _ _ ((unhide HR).below (unhide HB _)) (unhide HIX)))))); refine wpQuiet_nil ?_; rintro _ ⟨y, rfl⟩; (first | go_wp2_with (first | (go_at_call 13; refine (belQ (unhide HB) (unhide HA) (planOk_is _ _ _ gs _ ((unhide HR).below (unhide HB _)) (by exact q1))).mono ?_; rintro e _ ⟨rfl, y, rfl⟩) | (go_at_call 16; refine (belQ (unhide HB) (unhide HA) (index_is _ _ _ gs _ _ ((unhide HR).below (unhide HB _)) (unhide HIX))).mono ?_; rintro e _ ⟨rfl, y, rfl⟩)) | go_wp2))
    go_ret2
    exact ⟨ret_ib (unhide HN) (unhide HV), (by first | (rw [← unhide H0]; exact unhide HB _) | (rw [← unhide H0]; exact Below.refl _ _))⟩
  · have HNN := hide ((gp_yes hv).1.symm.trans hn)
    have HBB := hide ((gp_yes hv).2.symm.trans hb)
    clear hv hn hb
    have g1 := (plB_facts q1).1
    have e0 : ¬ link = 0 := by simpa using q2
    have e1 : (link == 0) = false := by simpa using q2
    clear q2
    rcases ix_cases gs link with ⟨f, f1, f2, f3, f4⟩ | ⟨f3, f4⟩
    · have hx : ix = (f : Int) := hix.symm.trans f4
      subst hx
      have HF := hide f2
      have HST := hide (GpA.start f1 f2)
      have n0 : ¬ (f : Int) < 0 := by omega
      clear f2 f3 f4 hix
      go_enter Try.func10, Try.ntmps10
      rw [h0]
      have H0 := hide h0
      clear h0
      go_wp2_with (first | (go_at_call 13; refine (belQ (unhide HB) (unhide HA) (planOk_is _ _ _ gs _ ((unhide HR).below (unhide HB _)) (by exact q1))).mono ?_; rintro e _ ⟨rfl, y, rfl⟩) | (go_at_call 16; refine (belQ (unhide HB) (unhide HA) (index_is _ _ _ gs _ _ ((unhide HR).below (unhide HB _)) (unhide HIX))).mono ?_; rintro e _ ⟨rfl, y, rfl⟩))
      repeat (refine wp_region_bel (fun w' h => (unhide HA) w' ((unhide HB _).trans (h.mono (unhide HB _).size))) (by kernel_rfl) (by kernel_rfl) ?_; (repeat (go_big_quiet_step (first | (go_at_call 13; exact belQ (unhide HB) (unhide HA) (planOk_is _ _ _ gs _ ((unhide HR).below (unhide HB _)) (by exact q1))) | (go_at_call 16; exact belQ (unhide HB) (unhide HA) (index_is _ _ _ gs _ _ ((unhide HR).below (unhide HB _)) (unhide HIX)))))); refine wpQuiet_nil ?_; rintro _ ⟨y, rfl⟩; (first | go_wp2_with (first | (go_at_call 13; refine (belQ (unhide HB) (unhide HA) (planOk_is _ _ _ gs _ ((unhide HR).below (unhide HB _)) (by exact q1))).mono ?_; rintro e _ ⟨rfl, y, rfl⟩) | (go_at_call 16; refine (belQ (unhide HB) (unhide HA) (index_is _ _ _ gs _ _ ((unhide HR).below (unhide HB _)) (unhide HIX))).mono ?_; rintro e _ ⟨rfl, y, rfl⟩)) | go_wp2))
      go_loopw [7, 8, 9] (fun s7 s8 s9 wr => ∃ (G : Int) (last s : Nat) (x : ι), s7 = .int .i64 G ∧ s8 = .int .i64 (last : Int) ∧ s9 = .int .i64 (s : Int) ∧ Hid (GpA gs link f G last s) ∧ wr = fW x) (fun _ _ s9 _ => f + gs.length + 1 - (intOf s9).toNat)
      case atStart => exact ⟨0, f, f + 1, _, rfl, rfl, by go_num, HST, rfl⟩
      case round =>
        obtain ⟨G, last, s, x, rfl, rfl, rfl, HG, rfl⟩ := hrel
        have b1 := (unhide HG).a2
        have b2 := (unhide HG).a3
        have b3 := (unhide HG).a8
        by_cases hlt : s ≤ f + gs.length
        · rcases (unhide HR).open_ with ⟨q0, _⟩ | ⟨bb, off, rfl, _, hc⟩
          · omega
          obtain ⟨p, hp⟩ : ∃ p, s % gs.length = p := ⟨_, rfl⟩
          have hpl : p < gs.length := by rw [← hp]; exact Nat.mod_lt _ (by omega)
          have m0 : ∀ x, (fW x).cell? ⟨bb, off + p, none⟩ = some (.int .i64 (nth gs p)) := fun x => ((unhide HB x).cell (block_lt_of_cell (hc p hpl))).trans (hc p hpl)
          clear hc
          have hpi : (s : Int) % (gs.length : Int) = (p : Int) := by rw [← hp]; simp
          have hpt : (s : Int).tmod (gs.length : Int) = (p : Int) := by rw [Int.tmod_eq_emod_of_nonneg (by omega)]; exact hpi
          have p0 : (0 : Int) ≤ (p : Int) := by omega
          have p1 : (p : Int) < (gs.length : Int) := by omega
          have hz0 : ¬ (gs.length : Int) = 0 := by omega
          have k1 : (s : Int) ≤ (f : Int) + (gs.length : Int) := by omega
          by_cases hq : nth gs p = link
          · have HY := hide ((unhide HG).yes hlt (by rw [hp]; exact hq))
            rw [hq] at m0
            clear hp hq
            go_wp2_with fail
            go_roundw
            case rel => exact ⟨max G ((s : Int) - (last : Int)), s, s + 1, _, by first | rfl | (congr 1; omega) | go_num, by go_num, by go_num, HY, rfl⟩
            case measure => simp [intOf]; omega
          · have HN2 := hide ((unhide HG).no hlt (by rw [hp]; exact hq))
            have q6 : (nth gs p == link) = false := by simpa using hq
            clear hp
            go_wp2_with fail
            go_roundw
            case rel => exact ⟨G, last, s + 1, _, rfl, rfl, by go_num, HN2, rfl⟩
            case measure => simp [intOf]; omega
        · have hsl : s = f + gs.length + 1 := by omega
          have HE1 := hide (GpA.ends (hsl ▸ unhide HG) f1 (unhide HF))
          have k1 : ¬ (s : Int) ≤ (f : Int) + (gs.length : Int) := by omega
          clear hsl
          go_wp2_with fail
          go_ret2
          exact ⟨ret_ib ((unhide HE1).1.symm.trans (unhide HNN)) (by rw [← unhide HBB, (unhide HE1).1]; exact (decide_eq_true (unhide HE1).2).symm), (by first | (rw [← unhide H0]; exact unhide HB _) | (rw [← unhide H0]; exact Below.refl _ _))⟩
    · have HN := hide ((gpK_none f3 _ (Nat.le_refl _)).symm.trans (unhide HNN))
      have HV : Hid (false = b) := hide (by rw [← unhide HBB, gpK_none f3 _ (Nat.le_refl _)]; rfl)
      have hx : ix = -1 := hix.symm.trans f4
      subst hx
      clear f3 f4 hix
      go_enter Try.func10, Try.ntmps10
      rw [h0]
      have H0 := hide h0
      clear h0
      go_wp2_with (first | (go_at_call 13; refine (belQ (unhide HB) (unhide HA) (planOk_is _ _ _ gs _ ((unhide HR).below (unhide HB _)) (by exact q1))).mono ?_; rintro e _ ⟨rfl, y, rfl⟩) | (go_at_call 16; refine (belQ (unhide HB) (unhide HA) (index_is _ _ _ gs _ _ ((unhide HR).below (unhide HB _)) (unhide HIX))).mono ?_; rintro e _ ⟨rfl, y, rfl⟩))
      repeat (refine wp_region_bel (fun w' h => (unhide HA) w' ((unhide HB _).trans (h.mono (unhide HB _).size))) (by kernel_rfl) (by kernel_rfl) ?_; (repeat (go_big_quiet_step (first | (go_at_call 13; exact belQ (unhide HB) (unhide HA) (planOk_is _ _ _ gs _ ((unhide HR).below (unhide HB _)) (by exact q1))) | (go_at_call 16; exact belQ (unhide HB) (unhide HA) (index_is _ _ _ gs _ _ ((unhide HR).below (unhide HB _)) (unhide HIX)))))); refine wpQuiet_nil ?_; rintro _ ⟨y, rfl⟩; (first | go_wp2_with (first | (go_at_call 13; refine (belQ (unhide HB) (unhide HA) (planOk_is _ _ _ gs _ ((unhide HR).below (unhide HB _)) (by exact q1))).mono ?_; rintro e _ ⟨rfl, y, rfl⟩) | (go_at_call 16; refine (belQ (unhide HB) (unhide HA) (index_is _ _ _ gs _ _ ((unhide HR).below (unhide HB _)) (unhide HIX))).mono ?_; rintro e _ ⟨rfl, y, rfl⟩)) | go_wp2))
      go_ret2
      exact ⟨ret_ib (unhide HN) (unhide HV), (by first | (rw [← unhide H0]; exact unhide HB _) | (rw [← unhide H0]; exact Below.refl _ _))⟩

end Go.Proofs.Ytnhcmokkankcmaz

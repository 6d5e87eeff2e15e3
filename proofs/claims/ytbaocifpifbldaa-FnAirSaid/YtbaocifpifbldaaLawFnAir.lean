/-
  The law FnAir returns true at every list of bytes and writes nothing that was there: the walk. No condition.
-/
import Derived.Test.YtbaocifpifbldaaAirMore
import Derived.Test.YtbaocifpifbldaaDrawAir
import Derived.Test.YtbaocifpifbldaaColdImpl
import Derived.Test.YtbaocifpifbldaaCurNew
namespace Go.Proofs.Ytbaocifpifbldaa
open Go.RowKit

set_option maxHeartbeats 1000000 in
theorem inList_yes (ad : Option Addr) (len cap : Nat) (zs : List Int) (x : Int) (w : World) (hr : Row w ad len zs) (hx : ∃ k, k < zs.length ∧ nth zs k = x) :
    Calls Try.prog 23 #[.slice ad len cap, .int .i64 x] w fun e w' => e = .returned (.bool true) ∧ w' = w := by
  have hz := hr.len_eq
  have hs := hr.small
  have hopen := hr.open_
  have HX := hide hx
  clear hr hx
  subst hz
  go_enter Try.func23, Try.ntmps23
  go_wp2
  go_loopw [5] (fun i wr => ∃ k : Nat, k ≤ zs.length ∧ i = .int .i64 k ∧ Hid (∀ j, j < k → nth zs j ≠ x) ∧ wr = w) (fun i _ => zs.length - (intOf i).toNat)
  case atStart => exact ⟨0, Nat.zero_le _, rfl, hide (fun j hj => by omega), rfl⟩
  case round =>
    obtain ⟨k, hk, rfl, hall, hwr⟩ := hrel
    subst wr
    by_cases hlt : k < zs.length
    · rcases hopen with ⟨h0, _⟩ | ⟨bb, off, rfl, _, hc⟩
      · omega
      have hcell := hc k hlt
      clear hc
      by_cases he : nth zs k = x
      · have he2 : (nth zs k == x) = true := by simp [he]
        clear he
        go_wp2
        go_ret
        exact ⟨rfl, rfl⟩
      · have he2 : (nth zs k == x) = false := by simp [he]
        have HE := hide he
        clear he
        go_wp2
        go_roundw
        case rel => exact ⟨k + 1, by omega, by go_num, hide (fun j hj => by rcases Nat.lt_succ_iff_lt_or_eq.1 hj with h | h; exact (unhide hall) j h; subst h; exact unhide HE), by first | rfl | trivial⟩
        case measure => simp [intOf]; omega
    · obtain ⟨j, hj, e⟩ := unhide HX
      exact absurd e ((unhide hall) j (by omega))

/-- What is held on to of an air in a block. -/
structure Ar (w U W : World) (b : Int) (a1 a2 : Option Addr) (l1 c1 l2 c2 : Nat) (ss ts : List Int) : Prop where
  p : Blk W U.heap.size [.int .i64 b, .slice a1 l1 c1, .slice a2 l2 c2]
  r1 : Row W a1 l1 ss
  r2 : Row W a2 l2 ts
  bel : Below w.heap.size w W
theorem Ar.below {w U W W' : World} {b : Int} {a1 a2 : Option Addr} {l1 c1 l2 c2 : Nat} {ss ts : List Int} (h : Ar w U W b a1 a2 l1 c1 l2 c2 ss ts) (k : Below W.heap.size W W') : Ar w U W' b a1 a2 l1 c1 l2 c2 ss ts :=
  ⟨h.p.below k, h.r1.below k, h.r2.below k, h.bel.trans (k.mono h.bel.size)⟩
theorem inBy {x a b : Int} (h : a ≤ x ∧ x ≤ b) : inB x a b = true := by simpa [inB] using h
theorem inBn {x a b : Int} (h : ¬ (a ≤ x ∧ x ≤ b)) : inB x a b = false := by simp only [inB, decide_eq_false_iff_not]; exact h
theorem warm_yes {b : Int} {ss ts : List Int} {h : Int} (ha : airB b ss ts = true) (hh : 0 ≤ h ∧ h ≤ nth ts (ts.length - 1)) : warmAns b ss ts h = warmT b ss ts h ts.length ∧ warmFlag b ss ts h = true := by
  unfold warmAns warmFlag
  rw [ha, inBy hh]; exact ⟨rfl, rfl⟩
theorem warm_no {b : Int} {ss ts : List Int} {h : Int} (hh : ¬ (0 ≤ h ∧ h ≤ nth ts (ts.length - 1))) : warmAns b ss ts h = 0 ∧ warmFlag b ss ts h = false := by
  unfold warmAns warmFlag
  rw [inBn hh]; simp

set_option maxRecDepth 20000 in
set_option maxHeartbeats 1000000 in
theorem lawFnAir_big (a : Option Addr) (len cap : Nat) (w : World) (h : (1048576 : Int) < len) :
    Calls Try.prog 5 #[.slice a len cap] w fun e w' => e = .returned (.bool true) ∧ Below w.heap.size w w' := by
  have hd : decide ((1048576 : Int) < len) = true := by simpa using h
  go_enter Try.func5, Try.ntmps5
  go_wp2_with fail
  refine (big_any a len cap _).mono ?_
  rintro e w' ⟨rfl, hw⟩
  subst w'
  rw [hd]
  go_wp2
  go_ret
  exact ⟨rfl, Below.refl _ _⟩

set_option maxRecDepth 20000 in
set_option maxHeartbeats 8000000 in
theorem lawFnAir_small (a : Option Addr) (len cap : Nat) (w : World) (h : ¬ (1048576 : Int) < len) (hb : Bytes w a len) (hin : ∀ b off, a = some ⟨b, off, none⟩ → b < w.heap.size) :
    Calls Try.prog 5 #[.slice a len cap] w fun e w' => e = .returned (.bool true) ∧ Below w.heap.size w w' := by
  have hd0 : decide ((1048576 : Int) < len) = false := by simpa using h
  have HB := hide hb
  have HIN := hide hin
  clear hb h hin
  go_enter Try.func5, Try.ntmps5
  go_wp2_with fail
  refine (big_any a len cap _).mono ?_
  rintro e w' ⟨rfl, hw⟩
  subst w'
  rw [hd0]
  go_wp2_with fail
  refine (drawAirOk_any a len cap _ (unhide HB) (unhide HIN)).mono ?_
  rintro e U ⟨b, a1, a2, l1, c1, l2, c2, ss, ts, rfl, r1, r2, _, bU⟩
  have A0 : Hid (Ar w U (U.alloc (Obj.cells #[.int .i64 b, .slice a1 l1 c1, .slice a2 l2 c2] 43)) b a1 a2 l1 c1 l2 c2 ss ts) := hide ⟨Blk.new _ _, r1.alloc _, r2.alloc _, bU.trans ((bel1 _).mono bU.size)⟩
  clear r1 r2 bU HB HIN
  go_wp2_with fail
  refine (implCold_any b _ _ _ _ _ _ ss ts _ (unhide A0).r1 (unhide A0).r2).mono ?_
  rintro e w1 ⟨rfl, b1⟩
  have A1 := hide ((unhide A0).below b1)
  clear b1 A0
  have q0 : w1.cell? ⟨U.heap.size, 0, none⟩ = some (.int .i64 b) := (unhide A1).p.c 0 (by simp)
  have q1 : w1.cell? ⟨U.heap.size, 1, none⟩ = some (.slice a1 l1 c1) := (unhide A1).p.c 1 (by simp)
  have q2 : w1.cell? ⟨U.heap.size, 2, none⟩ = some (.slice a2 l2 c2) := (unhide A1).p.c 2 (by simp)
  cases hA : airB b ss ts
  · rw [show coldA b ss ts = 0 by simp [coldA, hA], show coldB b ss ts = 0 by simp [coldB, hA]]
    have HA := hide hA
    clear hA
    go_wp2_with fail
    refine (specAirOk_any b _ _ _ _ _ _ ss ts _ (unhide A1).r1 (unhide A1).r2).mono ?_
    rintro e w2 ⟨rfl, b2⟩
    rw [unhide HA]
    have A2 := hide ((unhide A1).below b2)
    clear b2 A1 q0 q1 q2
    have q0 : w2.cell? ⟨U.heap.size, 0, none⟩ = some (.int .i64 b) := (unhide A2).p.c 0 (by simp)
    have q1 : w2.cell? ⟨U.heap.size, 1, none⟩ = some (.slice a1 l1 c1) := (unhide A2).p.c 1 (by simp)
    have q2 : w2.cell? ⟨U.heap.size, 2, none⟩ = some (.slice a2 l2 c2) := (unhide A2).p.c 2 (by simp)
    go_wp2_with fail
    refine (implAirOk_any b _ _ _ _ _ _ ss ts _ (unhide A2).r1 (unhide A2).r2).mono ?_
    rintro e w3 ⟨rfl, b3⟩
    rw [unhide HA]
    have A3 := hide ((unhide A2).below b3)
    clear b3 A2 q0 q1 q2
    go_wp2_with fail
    go_ret
    exact ⟨rfl, (unhide A3).bel⟩
  have fa := airB_facts hA
  have al := airLaw fa
  rw [show coldA b ss ts = coldH b ss ts ts.length by simp [coldA, hA], show coldB b ss ts = coldT b ss ts ts.length by simp [coldB, hA]]
  obtain ⟨H, hH⟩ : ∃ H, coldH b ss ts ts.length = H := ⟨_, rfl⟩
  obtain ⟨T, hT⟩ : ∃ T, coldT b ss ts ts.length = T := ⟨_, rfl⟩
  obtain ⟨P, hP⟩ : ∃ P, nth ts (ts.length - 1) = P := ⟨_, rfl⟩
  rw [hH, hT] at al
  rw [hH, hT]
  have many := fa.many
  have tp := fa.tops (ts.length - 1) (by omega)
  rw [hP] at tp
  have hin := al.inn
  rw [hP] at hin
  have AL := hide al
  have FA := hide fa
  have HA := hide hA
  have HP := hide hP
  have wb := warm_bd fa
  have HWB : Hid (∀ i, 0 ≤ i → i ≤ P → -130000 ≤ warmT b ss ts i ts.length ∧ warmT b ss ts i ts.length ≤ 130000) := hide (fun i h0 h1 => by have := (wb i h0 (by omega) ts.length (Nat.le_refl _)).2; omega)
  clear hH hT al fa hA hP wb
  go_wp2_with fail
  refine (specAirOk_any b _ _ _ _ _ _ ss ts _ (unhide A1).r1 (unhide A1).r2).mono ?_
  rintro e w2 ⟨rfl, b2⟩
  rw [unhide HA]
  have A2 := hide ((unhide A1).below b2)
  clear b2 A1 q0 q1 q2
  have q0 : w2.cell? ⟨U.heap.size, 0, none⟩ = some (.int .i64 b) := (unhide A2).p.c 0 (by simp)
  have q1 : w2.cell? ⟨U.heap.size, 1, none⟩ = some (.slice a1 l1 c1) := (unhide A2).p.c 1 (by simp)
  have q2 : w2.cell? ⟨U.heap.size, 2, none⟩ = some (.slice a2 l2 c2) := (unhide A2).p.c 2 (by simp)
  have e2 := (unhide A2).r2.len_eq
  obtain ⟨m, hm⟩ : ∃ m : Nat, l2 = m + 1 := ⟨l2 - 1, by omega⟩
  have hsub : (l2 : Int) - 1 = (m : Int) := by omega
  have hm0 : (0 : Int) ≤ (m : Int) := by omega
  have hml : (m : Int) < (l2 : Int) := by omega
  have hm6 : m ≤ 5 := by omega
  have HM : Hid (ts.length - 1 = m) := hide (by omega)
  rcases (unhide A2).r2.open_ with ⟨h0, _⟩ | ⟨b2, o2, rfl, _, hc2⟩
  · omega
  have ct : w2.cell? ⟨b2, o2 + m, none⟩ = some (.int .i64 P) := by have h := hc2 m (by omega); rw [← unhide HM, unhide HP] at h; rw [← unhide HM]; exact h
  clear hc2 e2 hm many
  have hw : warmAns b ss ts H = T ∧ warmFlag b ss ts H = true := by
    have h1 := warm_yes (unhide HA) (h := H) (by rw [unhide HP]; exact hin)
    exact ⟨h1.1.trans (unhide AL).at_, h1.2⟩
  have HW := hide hw
  clear hw
  go_wp2_with fail
  refine (implWarm_any b _ _ _ _ _ _ ss ts _ _ (unhide A2).r1 (unhide A2).r2).mono ?_
  rintro e w3 ⟨rfl, b3⟩
  rw [(unhide HW).1, (unhide HW).2]
  have A3 := hide ((unhide A2).below b3)
  have nh : ¬ H < 0 := by omega
  have nh2 : ¬ P < H := by omega
  have ntt : (T != T) = false := by simp
  clear b3 A2 HW ct q0 q1 q2
  go_wp2_with fail
  clear nh nh2 ntt
  go_loopw [10] (fun i wr => ∃ k : Nat, k ≤ 41 ∧ i = .int .i64 k ∧ Hid (Ar w U wr b a1 (some ⟨b2, o2, none⟩) l1 c1 l2 c2 ss ts)) (fun i _ => 41 - (intOf i).toNat)
  case atStart => exact ⟨0, by omega, rfl, A3⟩
  case round =>
    clear A3
    obtain ⟨k, hk, rfl, A4⟩ := hrel
    have hwP : IntKind.i64.wrap (P + 1) = P + 1 := by rw [IntKind.wrap_i64]; omega
    have q0 : wr.cell? ⟨U.heap.size, 0, none⟩ = some (.int .i64 b) := (unhide A4).p.c 0 (by simp)
    have q1 : wr.cell? ⟨U.heap.size, 1, none⟩ = some (.slice a1 l1 c1) := (unhide A4).p.c 1 (by simp)
    have q2 : wr.cell? ⟨U.heap.size, 2, none⟩ = some (.slice (some ⟨b2, o2, none⟩) l2 c2) := (unhide A4).p.c 2 (by simp)
    by_cases h40 : k ≤ 40
    case neg =>
      have n40 : ¬ (k : Int) ≤ 40 := by omega
      go_wp2_with fail
      refine (implWarm_any b _ _ _ _ _ _ ss ts _ _ (unhide A4).r1 (unhide A4).r2).mono ?_
      rintro e w9 ⟨rfl, b9⟩
      rw [(warm_no (b := b) (ss := ss) (ts := ts) (h := P + 1) (by rw [unhide HP]; omega)).1, (warm_no (b := b) (ss := ss) (ts := ts) (h := P + 1) (by rw [unhide HP]; omega)).2]
      have A9 := hide ((unhide A4).below b9)
      clear b9 A4
      go_wp2_with fail
      go_ret
      exact ⟨rfl, (unhide A9).bel⟩
    have y40 : (k : Int) ≤ 40 := by omega
    by_cases hkP : (k : Int) ≤ P
    case neg =>
      go_wp2_with fail
      refine (implWarm_any b _ _ _ _ _ _ ss ts _ _ (unhide A4).r1 (unhide A4).r2).mono ?_
      rintro e w9 ⟨rfl, b9⟩
      rw [(warm_no (b := b) (ss := ss) (ts := ts) (h := P + 1) (by rw [unhide HP]; omega)).1, (warm_no (b := b) (ss := ss) (ts := ts) (h := P + 1) (by rw [unhide HP]; omega)).2]
      have A9 := hide ((unhide A4).below b9)
      clear b9 A4
      go_wp2_with fail
      go_ret
      exact ⟨rfl, (unhide A9).bel⟩
    obtain ⟨Y, hY⟩ : ∃ Y, warmT b ss ts (k : Int) ts.length = Y := ⟨_, rfl⟩
    have hy := warm_yes (unhide HA) (h := (k : Int)) (by rw [unhide HP]; omega)
    rw [hY] at hy
    have hlow := (unhide AL).low (k : Int) (by omega) (by rw [unhide HP]; exact hkP)
    rw [hY] at hlow
    have by1 := (unhide HWB) (k : Int) (by omega) hkP
    rw [hY] at by1
    have HF : Hid ((k : Int) < H → ¬ Y = T) := hide (fun h => by have := (unhide AL).first (k : Int) (by omega) h; rw [hY] at this; exact this)
    have HYY := hide hY
    have HY := hide hy
    have nYT : ¬ Y < T := by omega
    clear hY hy hlow
    go_wp2_with fail
    refine (implWarm_any b _ _ _ _ _ _ ss ts _ _ (unhide A4).r1 (unhide A4).r2).mono ?_
    rintro e w4 ⟨rfl, b4⟩
    rw [(unhide HY).1, (unhide HY).2]
    have A5 := hide ((unhide A4).below b4)
    clear b4 A4 q0 q1 q2
    have q0 : w4.cell? ⟨U.heap.size, 0, none⟩ = some (.int .i64 b) := (unhide A5).p.c 0 (by simp)
    have q1 : w4.cell? ⟨U.heap.size, 1, none⟩ = some (.slice a1 l1 c1) := (unhide A5).p.c 1 (by simp)
    have q2 : w4.cell? ⟨U.heap.size, 2, none⟩ = some (.slice (some ⟨b2, o2, none⟩) l2 c2) := (unhide A5).p.c 2 (by simp)
    have HE : ((k : Int) < H ∧ (Y == T) = false) ∨ ¬ (k : Int) < H := by
      by_cases h : (k : Int) < H
      · exact .inl ⟨h, by simpa using (unhide HF) h⟩
      · exact .inr h
    clear HF
    by_cases hk1 : (k : Int) + 1 ≤ P
    · obtain ⟨Z, hZ⟩ : ∃ Z, warmT b ss ts ((k : Int) + 1) ts.length = Z := ⟨_, rfl⟩
      have hz := warm_yes (unhide HA) (h := (k : Int) + 1) (by rw [unhide HP]; omega)
      rw [hZ] at hz
      have HZ := hide hz
      obtain ⟨kk, hkk, ekk⟩ := (unhide AL).up (k : Int) (by omega) (by rw [unhide HP]; exact hk1)
      rw [hZ, unhide HYY] at ekk
      have sl := (unhide FA).slopes kk hkk
      rw [ekk] at sl
      have HIN : Hid (∃ j, j < ss.length ∧ nth ss j = Z - Y) := hide ⟨kk, hkk, ekk⟩
      have wzy : IntKind.i64.wrap (Z - Y) = Z - Y := by rw [IntKind.wrap_i64]; omega
      have bz := (unhide HWB) ((k : Int) + 1) (by omega) hk1
      rw [hZ] at bz
      clear hZ hz ekk hkk HYY
      rcases HE with ⟨t1, t2⟩ | t1
      all_goals
        go_wp2_with fail
        refine (implWarm_any b _ _ _ _ _ _ ss ts _ _ (unhide A5).r1 (unhide A5).r2).mono ?_
        rintro e w6 ⟨rfl, b6⟩
        rw [(unhide HZ).1, (unhide HZ).2]
        have A6 := hide ((unhide A5).below b6)
        have u1 : w6.cell? ⟨U.heap.size, 1, none⟩ = some (.slice a1 l1 c1) := (unhide A6).p.c 1 (by simp)
        clear b6 A5 q0 q1 q2
        go_wp2_with fail
        refine (inList_yes _ _ _ ss _ _ (unhide A6).r1 (unhide HIN)).mono ?_
        rintro e w7 ⟨rfl, hw7⟩
        subst w7
        go_wp2_with fail
        go_roundw
        case rel => exact ⟨k + 1, by omega, by go_num, A6⟩
        case measure => simp [intOf]; omega
    · have hz := warm_no (b := b) (ss := ss) (ts := ts) (h := (k : Int) + 1) (by rw [unhide HP]; omega)
      have HZ := hide hz
      clear hz HYY
      rcases HE with ⟨t1, _⟩ | t1
      · omega
      · skip
        go_wp2_with fail
        refine (implWarm_any b _ _ _ _ _ _ ss ts _ _ (unhide A5).r1 (unhide A5).r2).mono ?_
        rintro e w6 ⟨rfl, b6⟩
        rw [(unhide HZ).1, (unhide HZ).2]
        have A6 := hide ((unhide A5).below b6)
        clear b6 A5 q0 q1 q2
        go_wp2_with fail
        go_roundw
        case rel => exact ⟨k + 1, by omega, by go_num, A6⟩
        case measure => simp [intOf]; omega

theorem lawFnAir (a : Option Addr) (len cap : Nat) (w : World) (hb : Bytes w a len) (hin : ∀ b off, a = some ⟨b, off, none⟩ → b < w.heap.size) :
    Calls Try.prog 5 #[.slice a len cap] w fun e w' => e = .returned (.bool true) ∧ Below w.heap.size w w' := by
  by_cases h : (1048576 : Int) < len
  · exact lawFnAir_big a len cap w h
  · exact lawFnAir_small a len cap w h hb hin

end Go.Proofs.Ytbaocifpifbldaa

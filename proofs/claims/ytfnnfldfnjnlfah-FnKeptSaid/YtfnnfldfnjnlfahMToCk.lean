/-
  The law's copy and comparison of a Clock: of one value it says so. No condition.
  The law's size and copy of a Task. No condition; nothing that was there is written.
  What the model's l1Name and the program's nameOk answer: whether a text is a name. At every text; nothing is written.
-/
import Derived.Test.YtfnnfldfnjnlfahChecked
import Derived.Test.YtfnnfldfnjnlfahMBase
import Derived.Test.YtfnnfldfnjnlfahRowE
import Derived.Test.YtfnnfldfnjnlfahMWhole
import Derived.Test.YtfnnfldfnjnlfahMOwnI
import Derived.Test.YtfnnfldfnjnlfahMCkPure
import Derived.Test.YtfnnfldfnjnlfahMCur

namespace Go.Proofs.Ytfnnfldfnjnlfah
open Go.RowKit

/-- What a Clock holds. -/
structure Ck where
  a0 : Int
  a1 : Int
  a2 : Int
instance : Inhabited Ck := ⟨⟨0, 0, 0⟩⟩
/-- Its cells. -/
def ckC (m : Ck) : Nat → Value
  | 0 => .int .i64 m.a0
  | 1 => .int .i64 m.a1
  | _ => .int .i64 m.a2
def ckAlike (m n : Ck) : Prop := m.a0 = n.a0 ∧ m.a1 = n.a1 ∧ m.a2 = n.a2
theorem ckAlike_refl (m : Ck) : ckAlike m m := ⟨rfl, rfl, rfl⟩
theorem ckAlike.symm {m n : Ck} (h : ckAlike m n) : ckAlike n m := ⟨h.1.symm, h.2.1.symm, h.2.2.symm⟩
theorem ckAlike.trans {m n l : Ck} (h : ckAlike m n) (g : ckAlike n l) : ckAlike m l := ⟨h.1.trans g.1, h.2.1.trans g.2.1, h.2.2.trans g.2.2⟩



end Go.Proofs.Ytfnnfldfnjnlfah

namespace Go.Proofs.Ytfnnfldfnjnlfah
open Go Go.RowKit


end Go.Proofs.Ytfnnfldfnjnlfah

namespace Go.Proofs.Ytfnnfldfnjnlfah
open Go.RowKit

set_option maxHeartbeats 2000000 in
theorem nameByte_any (c : Int) (w : World) (h : 0 ≤ c ∧ c ≤ 255) :
    Calls Try.prog 127 #[.int .u8 c] w fun e w' => e = .returned (.bool (byteB c)) ∧ w' = w := by
  by_cases a1 : 97 ≤ c <;> by_cases a2 : c ≤ 122 <;> (try (exfalso; omega)) <;> by_cases a3 : 65 ≤ c <;> by_cases a4 : c ≤ 90 <;> (try (exfalso; omega)) <;> by_cases a5 : 48 ≤ c <;> by_cases a6 : c ≤ 57 <;> (try (exfalso; omega)) <;> by_cases a7 : c = 45 <;> (try (exfalso; omega))
  all_goals
    first
    | have HE : Hid (byteB c = true) := hide (by simp [byteB, inB]; omega)
    | have HE : Hid (byteB c = false) := hide (by simp [byteB, inB]; omega)
    go_enter Try.func127, Try.ntmps127
    go_wp2
    try rw [Exit.noGoto_ret]
    go_ret
    first
    | exact ⟨ret_bool (unhide HE).symm, rfl⟩
    | exact ⟨ret_bool (by rw [unhide HE]; simpa using a7), rfl⟩
    | exact ⟨ret_bool (by decide), rfl⟩

set_option maxHeartbeats 1000000 in
theorem nameOk_any (s : ByteArray) (w : World) (hs : s.size ≤ 9223372036854775807) :
    Calls Try.prog 111 #[.string s] w fun e w' => e = .returned (.bool (nameB s)) ∧ w' = w := by
  cases h : inB s.size 1 20 with
  | false =>
    have HE := hide (nameB_size h)
    go_enter Try.func111, Try.ntmps111
    go_wp2_with fail
    refine (within_is _ _ _ _ h).mono ?_
    rintro e w' ⟨rfl, hw⟩
    subst w'
    go_wp2_with fail
    go_ret
    exact ⟨ret_bool (unhide HE).symm, rfl⟩
  | true =>
    have hb := in_facts h
    go_enter Try.func111, Try.ntmps111
    go_wp2_with fail
    refine (within_is _ _ _ _ h).mono ?_
    rintro e w' ⟨rfl, hw⟩
    subst w'
    have HH := hide h
    clear h
    go_wp2_with fail
    go_loopw [10] (fun i wr => ∃ k : Nat, k ≤ s.size ∧ i = .int .i64 k ∧ Hid (∀ j, j < k → byteB (byAt s j) = true) ∧ wr = w) (fun i _ => s.size - (intOf i).toNat)
    case atStart => exact ⟨0, Nat.zero_le _, rfl, hide (fun j hj => by omega), rfl⟩
    case round =>
      obtain ⟨k, hk, rfl, HN, hwr⟩ := hrel
      subst wr
      by_cases hlt : k < s.size
      · have hi1 : (k : Int) < (s.size : Int) := by omega
        have hi0 : (0 : Int) ≤ (k : Int) := by omega
        have hby := byAt_is hlt
        have hbd := byAt_bd s k
        cases hc : byteB (byAt s k) with
        | false =>
          have HE := hide (nameB_at hlt hc)
          have HC := hide hc
          clear hc
          go_wp2_with fail
          refine (nameByte_any _ _ hbd).mono ?_
          rintro e w' ⟨rfl, hw⟩
          subst w'
          have hc := unhide HC
          go_wp2_with fail
          go_ret
          exact ⟨ret_bool (unhide HE).symm, rfl⟩
        | true =>
          have HC := hide hc
          clear hc
          go_wp2_with fail
          refine (nameByte_any _ _ hbd).mono ?_
          rintro e w' ⟨rfl, hw⟩
          subst w'
          have hc := unhide HC
          go_wp2_with fail
          go_roundw
          case rel => exact ⟨k + 1, by omega, by go_num, hide (fun j hj => by rcases Nat.lt_succ_iff_lt_or_eq.1 hj with h | h; exact unhide HN j h; subst h; exact unhide HC), trivial⟩
          case measure => simp [intOf]; omega
      · have HE : Hid (nameB s = true) := hide ((nameB_all (fun j hj => unhide HN j (by omega))).trans (unhide HH))
        go_wp2_with fail
        go_ret
        exact ⟨ret_bool (unhide HE).symm, rfl⟩


end Go.Proofs.Ytfnnfldfnjnlfah

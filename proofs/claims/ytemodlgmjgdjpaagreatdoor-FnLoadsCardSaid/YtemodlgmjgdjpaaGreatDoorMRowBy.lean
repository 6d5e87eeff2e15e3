/-
  The law's size, copy and comparison of a list of bytes, and its marks. The copy at lists of at most 1048576; nothing that was there is written, the marks only into the list's own memory.
  Frames over two networks, in plain lists: what is heard in turn. No program here.
  The law's size, copy and comparison of a Load18. The copy at lists of at most 1048576; nothing that was there is written.
-/
import Derived.Test.YtemodlgmjgdjpaaGreatDoorMBase
import Derived.Test.YtemodlgmjgdjpaaGreatDoorRowE
import Derived.Deep.DrawnRows
import Derived.Deep.RegionHeld3
import Derived.Test.YtemodlgmjgdjpaaGreatDoorMOnly

namespace Go.Proofs.YtemodlgmjgdjpaaGreatDoor
open Go.RowKit
attribute [local go_sem ↓] Go.wp_at_zero Go.wp_at_succ

/-- A byte's one cell. -/
def byC (x : Int) : Nat → Value | _ => .int .u8 x

theorem infoBy : (Tryz.prog.info? 5).map (fun i => (i.zero, i.size, i.bytes)) = some (some (.int .u8 0), 1, 1) := by kernel_rfl

/-- After k rounds of the copying. -/
structure CopiedBy (w wr : World) (ps : List Int) (k : Nat) : Prop where
  own : ∃ xs : List Value, wr.ownsRow w.heap.size 5 1 (.slice (some ⟨w.heap.size, 0, none⟩) ps.length ps.length) ps.length xs ∧ ∀ j, j < k → xs[j]? = some (.int .u8 (elAt ps j))
  bel : Below w.heap.size w wr
theorem CopiedBy.here {w wr : World} {ps : List Int} {k : Nat} (h : CopiedBy w wr ps k) (hk : k < ps.length) :
    (∃ v, wr.cell? ⟨w.heap.size, k, none⟩ = some v) ∧ wr.frozen? ⟨w.heap.size, k, none⟩ = false := by
  obtain ⟨xs, ho, _⟩ := h.own
  refine ⟨?_, ho.frozenAt k⟩
  rw [ho.cellAt k (by omega)]
  have := ho.1
  exact ⟨xs[k]'(by omega), List.getElem?_eq_getElem (by omega)⟩
theorem CopiedBy.step {w wr : World} {ps : List Int} {k : Nat} (h : CopiedBy w wr ps k) (hk : k < ps.length) :
    CopiedBy w (wr.setCell ⟨w.heap.size, k, none⟩ (.int .u8 (elAt ps k))) ps (k + 1) := by
  obtain ⟨xs, ho, hx⟩ := h.own
  refine ⟨⟨_, (ho.stored k _).1, fun j hj => ?_⟩, h.bel.setCell (Nat.le_refl _) _⟩
  have hl := ho.1
  by_cases e : j = k
  · subst e; rw [List.getElem?_set_self (by omega)]
  · rw [List.getElem?_set_ne (by omega)]; exact hx j (by omega)
theorem CopiedBy.ends {w wr : World} {ps : List Int} (h : CopiedBy w wr ps ps.length) : OwnE 1 byC wr w.heap.size 5 (.slice (some ⟨w.heap.size, 0, none⟩) ps.length ps.length) ps := by
  obtain ⟨xs, ho, hx⟩ := h.own
  refine ⟨⟨xs, ho, fun j hj q hq => ?_⟩⟩
  obtain rfl : q = 0 := by omega
  rw [Nat.mul_one]
  exact hx j hj

set_option maxHeartbeats 400000 in
theorem toByteS_own (ad : Option Addr) (len cap : Nat) (ps : List Int) (w : World) (hr : RowE 1 byC w ad len ps) (hlen : len ≤ 1048576) :
    Calls Tryz.prog 64 #[.slice ad len cap] w fun e w' => e = .returned (.slice (some ⟨w.heap.size, 0, none⟩) len len) ∧ OwnE 1 byC w' w.heap.size 5 (.slice (some ⟨w.heap.size, 0, none⟩) len len) ps ∧ Below w.heap.size w w' := by
  have hz := hr.len_eq
  have hopen := hr.open1
  clear hr
  subst hz
  obtain ⟨i0, hi, hz0, hz1, hz2⟩ := info_parts infoBy
  go_enter Tryz.func64, Tryz.ntmps64
  go_wp2_with (at_make; refine wpList_make_full _ rfl (.tmp 6) (.tmp 6) 22 rfl w.heap.size 5 i0 (.int .u8 0) 1 Tryz.underlying22 hi hz0 hz1 .i64 .i64 _ _ ps.length rfl rfl rfl rfl (by rw [hz2]; omega) (by unfold maxLen; omega) (Nat.le_refl _) ?_; intro w1 hown hgrow)
  have HC0 : CopiedBy w w1 ps 0 := ⟨⟨_, hown, fun j hj => by omega⟩, (Below.refl _ _).grown hgrow (Nat.le_refl _) (fun k hk => by cases hk)⟩
  clear hown hgrow hi hz0 hz1 hz2
  go_loopw [4] (fun i wr => ∃ k : Nat, k ≤ ps.length ∧ i = .int .i64 k ∧ CopiedBy w wr ps k) (fun i _ => ps.length - (intOf i).toNat)
  case atStart => exact ⟨0, Nat.zero_le _, rfl, HC0⟩
  case round =>
    obtain ⟨k, hk, rfl, hcp⟩ := hrel
    by_cases hlt : k < ps.length
    · rcases hopen with ⟨h0, _⟩ | ⟨bb, off, rfl, _, hc⟩
      · omega
      have hcw : w.cell? ⟨bb, off + k, none⟩ = some (.int .u8 (elAt ps k)) := hc k hlt
      have hcell := (hcp.bel.cell (p := ⟨bb, off + k, none⟩) (block_lt_of_cell hcw)).trans hcw
      obtain ⟨⟨vk, hsome⟩, hfroz⟩ := hcp.here hlt
      have HS := hide (hcp.step hlt)
      clear hc hcw hcp HC0
      go_wp2
      go_roundw
      case rel => exact ⟨k + 1, by omega, by go_num, unhide HS⟩
      case measure => simp [intOf]; omega
    · have hkk : k = ps.length := by omega
      subst hkk
      have HR := hide hcp.ends
      have HB := hide hcp.bel
      go_wp2
      go_ret
      exact ⟨rfl, unhide HR, unhide HB⟩

set_option maxHeartbeats 400000 in
theorem szByteS_no (ad : Option Addr) (len cap : Nat) (left : Int) (w : World) (h0 : 0 ≤ left) (h1 : left ≤ 1048576) (hl : len ≤ 9223372036854775807) (h : left < len) :
    Calls Tryz.prog 56 #[.slice ad len cap, .int .i64 left] w fun e w' => e = .returned (.int .i64 (-1)) ∧ w' = w := by
  go_enter Tryz.func56, Tryz.ntmps56
  go_wp2
  go_ret
  exact ⟨rfl, rfl⟩
set_option maxHeartbeats 400000 in
theorem szByteS_yes (ad : Option Addr) (len cap : Nat) (left : Int) (w : World) (h1 : left ≤ 1048576) (h : (len : Int) ≤ left) :
    Calls Tryz.prog 56 #[.slice ad len cap, .int .i64 left] w fun e w' => e = .returned (.int .i64 (left - len)) ∧ w' = w := by
  go_enter Tryz.func56, Tryz.ntmps56
  go_wp2
  go_ret
  exact ⟨rfl, rfl⟩

set_option maxHeartbeats 1000000 in
theorem eqByteS_same (ad bd : Option Addr) (len cap len2 cap2 : Nat) (ps : List Int) (w : World) (hr : RowE 1 byC w ad len ps) (hr2 : RowE 1 byC w bd len2 ps) :
    Calls Tryz.prog 66 #[.slice ad len cap, .slice bd len2 cap2] w fun e w' => e = .returned (.bool true) ∧ Below w.heap.size w w' := by
  have hz := hr.len_eq
  have hs := hr.small
  have HO := hide hr.open1
  have hz2 := hr2.len_eq
  have HO2 := hide hr2.open1
  clear hr hr2
  subst hz
  subst hz2
  have hb : ((ps.length : Int) != (ps.length : Int)) = false := by simp
  go_enter Tryz.func66, Tryz.ntmps66
  go_wp2
  go_loopw [5] (fun i wr => ∃ k : Nat, k ≤ ps.length ∧ i = .int .i64 k ∧ ∃ n, wr = w.drewN n) (fun i _ => ps.length - (intOf i).toNat)
  case atStart => exact ⟨0, Nat.zero_le _, rfl, 0, rfl⟩
  case round =>
    obtain ⟨k, hk, rfl, n, hwr⟩ := hrel
    subst wr
    by_cases hlt : k < ps.length
    · rcases (unhide HO) with ⟨h0, _⟩ | ⟨bb, off, rfl, _, hc⟩
      · simp [h0] at hlt
      rcases (unhide HO2) with ⟨h0, _⟩ | ⟨bb2, off2, rfl, _, hc2⟩
      · simp [h0] at hlt
      have ca : w.cell? ⟨bb, off + k, none⟩ = some (.int .u8 (elAt ps k)) := hc k hlt
      have da : w.cell? ⟨bb2, off2 + k, none⟩ = some (.int .u8 (elAt ps k)) := hc2 k hlt
      have hi1 : (0 : Int) ≤ (k : Int) := by omega
      have hi2 : (k : Int) < (ps.length : Int) := by omega
      have hq : (elAt ps k != elAt ps k) = false := by simp
      clear hc hc2
      go_wp2
      go_quiet (fail)
      go_wp2
      go_roundw
      case rel => exact ⟨k + 1, by omega, by go_num, _, rfl⟩
      case measure => simp [intOf]; omega
    · go_wp2
      go_ret
      exact ⟨rfl, bel0d n⟩

/-- The mark of a place. -/
def markY (k : Int) : Int := IntKind.u8.wrap k
/-- After n rounds of the marking. -/
def markBy (ps : List Int) (k : Int) : Nat → List Int
  | 0 => ps
  | n + 1 => (markBy ps k n).set n (markY (k + n))
theorem markBy_len (ps : List Int) (k : Int) (n : Nat) : (markBy ps k n).length = ps.length := by
  induction n with
  | zero => rfl
  | succ n ih => simp [markBy, ih]
theorem markBy_at (ps : List Int) (k : Int) : ∀ n, n ≤ ps.length → ∀ i, i < n → elAt (markBy ps k n) i = markY (k + i) := by
  intro n
  induction n with
  | zero => intro _ i hi; omega
  | succ n ih =>
    intro hn i hi
    have hl : n < (markBy ps k n).length := by rw [markBy_len]; omega
    show elAt ((markBy ps k n).set n (markY (k + n))) i = _
    rw [elAt_set _ _ _ _ hl]
    by_cases e : i = n
    · subst e; simp
    · rw [if_neg e]; exact ih (by omega) i (by omega)

set_option maxHeartbeats 1000000 in
theorem markByteS_any (base : Nat) (a : Option Addr) (len c : Nat) (ps : List Int) (k : Int) (w : World) (ho : OwnE 1 byC w base 5 (.slice a len c) ps) (hl : ps.length = len) (h1 : len ≤ 1048576) (hk0 : 0 ≤ k) (hk1 : k ≤ 1000000000) :
    Calls Tryz.prog 67 #[.slice a len c, .int .i64 k] w fun e w' => e = .returned (.int .i64 (k + len)) ∧ OwnE 1 byC w' base 5 (.slice a len c) (markBy ps k len) ∧ w.grownBy w' (Value.slice a len c).ownBlock := by
  subst hl
  go_enter Tryz.func67, Tryz.ntmps67
  go_wp2
  go_loopw [1, 5] (fun kk i wr => ∃ j : Nat, j ≤ ps.length ∧ i = .int .i64 j ∧ kk = .int .i64 (k + j) ∧ OwnE 1 byC wr base 5 (.slice a ps.length c) (markBy ps k j) ∧ w.grownBy wr (Value.slice a ps.length c).ownBlock) (fun _ i _ => ps.length - (intOf i).toNat)
  case atStart => exact ⟨0, Nat.zero_le _, rfl, by simp, ho, grown_refl _ _⟩
  case round =>
    obtain ⟨j, hj, rfl, rfl, how, hgr⟩ := hrel
    have hml := markBy_len ps k j
    by_cases hlt : j < ps.length
    · rcases how.form with ⟨_, h0⟩ | ⟨g, c', hv, hg1, hg2, hc1, _⟩
      · rw [h0] at hml; simp at hml; omega
      simp only [Value.slice.injEq] at hv
      obtain ⟨rfl, hx, rfl⟩ := hv
      clear hx hc1
      have n0 : wr.cell? ⟨g, j, none⟩ = some (.int .u8 (elAt (markBy ps k j) j)) := (how.here1 hml j hlt).1
      have z0 : wr.frozen? ⟨g, j, none⟩ = false := (how.here1 hml j hlt).2
      have O3 : Hid (OwnE 1 byC (wr.setCell ⟨g, j, none⟩ (.int .u8 (markY (k + j)))) base 5 (.slice (some ⟨g, 0, none⟩) ps.length c) (markBy ps k (j + 1))) := hide (how.set1 hml j hlt _ _ rfl)
      have G3 : Hid (w.grownBy (wr.setCell ⟨g, j, none⟩ (.int .u8 (markY (k + j)))) (Value.slice (some ⟨g, 0, none⟩) ps.length c).ownBlock) := hide (grown_set hgr _ _)
      have hi1 : (j : Int) < (ps.length : Int) := by omega
      have ht : IntKind.u8.wrap (k + (j : Int)) = markY (k + j) := rfl
      clear how hgr hml
      go_wp2
      go_roundw
      case rel => exact ⟨j + 1, by omega, by go_num, by go_num, unhide O3, unhide G3⟩
      case measure => simp [intOf]; omega
    · have hkk : j = ps.length := by omega
      subst hkk
      have O := hide how
      have G := hide hgr
      clear how hgr hml
      go_wp2
      go_ret
      exact ⟨rfl, unhide O, unhide G⟩

set_option maxHeartbeats 1000000 in
theorem heldByteS_any (base : Nat) (a : Option Addr) (len c : Nat) (ps : List Int) (k : Int) (w : World) (ho : OwnE 1 byC w base 5 (.slice a len c) (markBy ps k len)) (hl : ps.length = len) (h1 : len ≤ 1048576) (hk0 : 0 ≤ k) (hk1 : k ≤ 1000000000) :
    Calls Tryz.prog 89 #[.slice a len c, .int .i64 k] w fun e w' => e = .returned (.int .i64 (k + len)) ∧ w' = w := by
  subst hl
  have HO := hide (OwnE.row ho).open1
  clear ho
  go_enter Tryz.func89, Tryz.ntmps89
  go_wp2
  go_loopw [1, 5] (fun kk i wr => ∃ j : Nat, j ≤ ps.length ∧ i = .int .i64 j ∧ kk = .int .i64 (k + j) ∧ wr = w) (fun _ i _ => ps.length - (intOf i).toNat)
  case atStart => exact ⟨0, Nat.zero_le _, rfl, by simp, rfl⟩
  case round =>
    obtain ⟨j, hj, rfl, rfl, hwr⟩ := hrel
    subst wr
    by_cases hlt : j < ps.length
    · rcases (unhide HO) with ⟨h0, _⟩ | ⟨bb, off, rfl, _, hc⟩
      · rw [h0] at hlt; simp at hlt
      have ca : w.cell? ⟨bb, off + j, none⟩ = some (.int .u8 (elAt (markBy ps k ps.length) j)) := hc j hlt
      rw [markBy_at ps k ps.length (Nat.le_refl _) j hlt] at ca
      have hi1 : (j : Int) < (ps.length : Int) := by omega
      have ht : IntKind.u8.wrap (k + (j : Int)) = markY (k + j) := rfl
      have q0 : (markY (k + (j : Int)) != markY (k + (j : Int))) = false := by simp
      clear hc
      go_wp2
      go_roundw
      case rel => exact ⟨j + 1, by omega, by go_num, by go_num, by first | rfl | trivial⟩
      case measure => simp [intOf]; omega
    · have hkk : j = ps.length := by omega
      subst hkk
      go_wp2
      go_ret
      exact ⟨rfl, rfl⟩

end Go.Proofs.YtemodlgmjgdjpaaGreatDoor

namespace Go.Proofs.YtemodlgmjgdjpaaGreatDoor
open Go.RowKit

/-- A slice of bytes as it lies in a list: where, how long, what it reads. -/
structure Sl where
  a : Option Addr
  n : Nat
  c : Nat
  zs : List Int
instance : Inhabited Sl := ⟨⟨none, 0, 0, []⟩⟩
def slV (s : Sl) : Value := .slice s.a s.n s.c
def slC (s : Sl) (_ : Nat) : Value := slV s
/-- What can be read of it in a world. -/
structure SlIn (w : World) (s : Sl) : Prop where
  row : RowE 1 byC w s.a s.n s.zs
  cap : s.n ≤ s.c
  byt : ∀ i, i < s.n → 0 ≤ elAt s.zs i ∧ elAt s.zs i ≤ 255
theorem SlIn.below {w w' : World} {s : Sl} (h : SlIn w s) (k : Below w.heap.size w w') : SlIn w' s := ⟨h.row.below k, h.cap, h.byt⟩
/-- One of each in turn; what one lacks is passed over. -/
def inter {α : Type} : List α → List α → List α
  | [], ys => ys
  | x :: xs, ys => x :: inter ys xs
termination_by xs ys => xs.length + ys.length
theorem inter_nil {α : Type} (ys : List α) : inter [] ys = ys := by rw [inter]
theorem inter_cons {α : Type} (x : α) (xs ys : List α) : inter (x :: xs) ys = x :: inter ys xs := by rw [inter]
theorem inter_nil2 {α : Type} : ∀ xs : List α, inter xs [] = xs
  | [] => inter_nil _
  | x :: xs => by rw [inter_cons, inter_nil]
theorem inter_len {α : Type} : ∀ (n : Nat) (xs ys : List α), xs.length + ys.length = n → (inter xs ys).length = n
  | n, [], ys, h => by rw [inter_nil]; simpa using h
  | 0, x :: xs, ys, h => by simp at h
  | n + 1, x :: xs, ys, h => by
    rw [inter_cons, List.length_cons, inter_len n ys xs (by simp at h; omega)]
theorem inter_mem {α : Type} {p : α → Prop} : ∀ (n : Nat) (xs ys : List α), xs.length + ys.length = n → (∀ x, x ∈ xs → p x) → (∀ x, x ∈ ys → p x) → ∀ x, x ∈ inter xs ys → p x
  | n, [], ys, _, _, h2 => by rw [inter_nil]; exact h2
  | 0, x :: xs, ys, h, _, _ => by simp at h
  | n + 1, x :: xs, ys, h, h1, h2 => by
    rw [inter_cons]
    intro z hz
    rcases List.mem_cons.1 hz with e | e
    · subst e; exact h1 _ (List.mem_cons_self ..)
    · exact inter_mem n ys xs (by simp at h; omega) h2 (fun q hq => h1 q (List.mem_cons_of_mem _ hq)) z e
theorem slBuf (ss : List Sl) : ((ss.map slV).toArray).size = ss.length := by simp
theorem slBuf_push {ss : List Sl} {k : Nat} (hk : k < ss.length) : ((ss.take k).map slV).toArray.push (slV (elAt ss k)) = ((ss.take (k + 1)).map slV).toArray := by
  rw [List.take_add_one, List.map_append]
  have : ss[k]? = some (elAt ss k) := by simp [elAt, hk]
  rw [this]
  simp

end Go.Proofs.YtemodlgmjgdjpaaGreatDoor

namespace Go.Proofs.YtemodlgmjgdjpaaGreatDoor
open Go.RowKit
/-- Its lists, read. -/
structure LdIn (w : World) (a1 : Option Addr) (l1 : Nat) (z1 : List Int) : Prop where
  r1 : RowE 1 byC w a1 l1 z1
theorem LdIn.below {w w' : World} {a1 : Option Addr} {l1 : Nat} {z1 : List Int} (h : LdIn w a1 l1 z1) (k : Below w.heap.size w w') : LdIn w' a1 l1 z1 :=
  ⟨h.r1.below k⟩
/-- Its lists that a call has made, each in memory of its own. -/
structure LdOwn (w : World) (base : Nat) (a1 : Option Addr) (l1 c1 : Nat) (z1 : List Int) : Prop where
  o1 : OwnE 1 byC w base 5 (.slice a1 l1 c1) z1
theorem LdOwn.below {w w' : World} {base : Nat} {a1 : Option Addr} {l1 c1 : Nat} {z1 : List Int} (h : LdOwn w base a1 l1 c1 z1) (k : Below w.heap.size w w') : LdOwn w' base a1 l1 c1 z1 :=
  ⟨h.o1.below k⟩
theorem LdOwn.mono {w : World} {base : Nat} {a1 : Option Addr} {l1 c1 : Nat} {z1 : List Int} (h : LdOwn w base a1 l1 c1 z1) {base' : Nat} (hb : base' ≤ base) : LdOwn w base' a1 l1 c1 z1 :=
  ⟨h.o1.mono hb⟩
theorem LdOwn.read {w : World} {base : Nat} {a1 : Option Addr} {l1 c1 : Nat} {z1 : List Int} (h : LdOwn w base a1 l1 c1 z1) : LdIn w a1 l1 z1 :=
  ⟨h.o1.row⟩
/-- Blocks of its lists lie from base on, below a number. -/
def LdLies (base hi : Nat) (a1 : Option Addr) (l1 c1 : Nat) : Prop :=
  (∀ g, (Value.slice a1 l1 c1).ownBlock = some g → base ≤ g ∧ g < hi)
theorem LdOwn.lies {w : World} {base : Nat} {a1 : Option Addr} {l1 c1 : Nat} {z1 : List Int} (h : LdOwn w base a1 l1 c1 z1) : LdLies base w.heap.size a1 l1 c1 := h.o1.lies
theorem LdOwn.only {w w' : World} {base : Nat} {a1 : Option Addr} {l1 c1 : Nat} {z1 : List Int} {lo hi b u : Nat} (h : LdOwn w base a1 l1 c1 z1) (k : Only lo hi w w') (hl : LdLies b u a1 l1 c1) (hs : u ≤ lo ∨ hi ≤ b) : LdOwn w' base a1 l1 c1 z1 :=
  ⟨h.o1.only k (fun g hg => by have := hl g hg; omega)⟩
theorem LdOwn.set_other {w : World} {base : Nat} {a1 : Option Addr} {l1 c1 : Nat} {z1 : List Int} (h : LdOwn w base a1 l1 c1 z1) {S o : Nat} (u : Value) (n1 : (Value.slice a1 l1 c1).ownBlock ≠ some S) : LdOwn (w.setCell ⟨S, o, none⟩ u) base a1 l1 c1 z1 :=
  ⟨h.o1.set_other u n1⟩
set_option maxHeartbeats 1000000 in
theorem toFits_any (le mo : Int) (w : World) :
    Calls Tryz.prog 63 #[.agg #[.int .i64 le, .int .i64 mo]] w fun e w' => e = .returned (.agg #[.int .i64 le, .int .i64 mo]) ∧ Below w.heap.size w w' := by
  go_enter Tryz.func63, Tryz.ntmps63
  go_wp2
  refine bodyPost_ret (v := .agg #[.int .i64 le, .int .i64 mo]) (by simp [results, Tryz.results63, go_sem]) rfl ⟨rfl, ?_⟩
  repeat (first | exact bel3 _ _ _ | refine Below.setCell ?_ (by simp; try omega) _)
set_option maxHeartbeats 1000000 in
theorem eqFits_same (le mo : Int) (w : World) :
    Calls Tryz.prog 65 #[.agg #[.int .i64 le, .int .i64 mo], .agg #[.int .i64 le, .int .i64 mo]] w fun e w' => e = .returned (.bool true) ∧ Below w.heap.size w w' := by
  go_enter Tryz.func65, Tryz.ntmps65
  go_wp2_with fail
  go_ret
  exact ⟨rfl, by simpa using bel2 _ _⟩
set_option maxHeartbeats 2000000 in
theorem szLoad18_any (p : ByteArray) (nb le mo ne : Int) (a1 : Option Addr) (l1 c1 : Nat) (left : Int) (w : World) (hp : p.size ≤ 9223372036854775807) (h1 : l1 ≤ 9223372036854775807) (hl0 : 0 ≤ left) (hl1 : left ≤ 1048576) :
    Calls Tryz.prog 16 #[.agg #[.string p, .int .i64 nb, .int .i64 le, .int .i64 mo, .int .i64 ne, .slice a1 l1 c1], .int .i64 left] w fun x w' => (∃ r : Int, x = .returned (.int .i64 r) ∧ (r < 0 ∨ (0 ≤ r ∧ r ≤ left ∧ p.size ≤ 1048576 ∧ l1 ≤ 1048576))) ∧ Below w.heap.size w w' := by
  by_cases q0 : (p.size : Int) ≤ left
  · have n0 : ¬ left - (p.size : Int) < 0 := by omega
    by_cases q1 : (l1 : Int) ≤ left - (p.size : Int)
    · have n1 : ¬ left - (p.size : Int) - (l1 : Int) < 0 := by omega
      go_enter Tryz.func16, Tryz.ntmps16
      go_wp2_with fail
      refine (szByteS_yes a1 l1 c1 (left - (p.size : Int)) _ (by omega) q1).mono ?_
      rintro e w' ⟨rfl, hw⟩
      subst w'
      go_wp2_with fail
      go_ret
      exact ⟨⟨_, rfl, .inr ⟨by omega, by omega, by omega, by omega⟩⟩, bel1 _⟩
    · go_enter Tryz.func16, Tryz.ntmps16
      go_wp2_with fail
      refine (szByteS_no a1 l1 c1 (left - (p.size : Int)) _ (by omega) (by omega) h1 (by omega)).mono ?_
      rintro e w' ⟨rfl, hw⟩
      subst w'
      go_wp2_with fail
      go_ret
      exact ⟨⟨-1, rfl, .inl (by omega)⟩, bel1 _⟩
  · have n0 : left - (p.size : Int) < 0 := by omega
    go_enter Tryz.func16, Tryz.ntmps16
    go_wp2_with fail
    go_ret
    exact ⟨⟨-1, rfl, .inl (by omega)⟩, bel1 _⟩
set_option maxRecDepth 20000 in
set_option maxHeartbeats 4000000 in
theorem toLoad18_own (p : ByteArray) (nb le mo ne : Int) (a1 : Option Addr) (l1 c1 : Nat) (z1 : List Int) (w : World) (hr : LdIn w a1 l1 z1) (h1 : l1 ≤ 1048576) :
    Calls Tryz.prog 19 #[.agg #[.string p, .int .i64 nb, .int .i64 le, .int .i64 mo, .int .i64 ne, .slice a1 l1 c1]] w fun x w' => (∃ g1, x = .returned (.agg #[.string p, .int .i64 nb, .int .i64 le, .int .i64 mo, .int .i64 ne, .slice (some ⟨g1, 0, none⟩) l1 l1]) ∧ LdOwn w' w.heap.size (some ⟨g1, 0, none⟩) l1 l1 z1) ∧ Below w.heap.size w w' := by
  obtain ⟨W, hW⟩ : ∃ W, W = ((w.alloc (Obj.cells #[.string p, .int .i64 nb, .int .i64 le, .int .i64 mo, .int .i64 ne, .slice a1 l1 c1] 50)).alloc (Obj.cells #[.string ⟨#[]⟩, .int .i64 0, .int .i64 0, .int .i64 0, .int .i64 0, .slice none 0 0] 32)).alloc (Obj.cells #[.string p, .int .i64 nb, .int .i64 0, .int .i64 0, .int .i64 0, .slice none 0 0] 32) := ⟨_, rfl⟩
  have KP : Hid (Blk W w.heap.size [.string p, .int .i64 nb, .int .i64 le, .int .i64 mo, .int .i64 ne, .slice a1 l1 c1]) := hide (by
    rw [hW]; exact ((Blk.new (w := w) [.string p, .int .i64 nb, .int .i64 le, .int .i64 mo, .int .i64 ne, .slice a1 l1 c1] 50).alloc _).alloc _)
  have KR : Hid (Blk W (w.heap.size + 1) [.string ⟨#[]⟩, .int .i64 0, .int .i64 0, .int .i64 0, .int .i64 0, .slice none 0 0]) := hide (by
    rw [hW]
    have := (Blk.new (w := (w.alloc (Obj.cells #[.string p, .int .i64 nb, .int .i64 le, .int .i64 mo, .int .i64 ne, .slice a1 l1 c1] 50))) [.string ⟨#[]⟩, .int .i64 0, .int .i64 0, .int .i64 0, .int .i64 0, .slice none 0 0] 32).alloc (Obj.cells #[.string p, .int .i64 nb, .int .i64 0, .int .i64 0, .int .i64 0, .slice none 0 0] 32)
    simpa using this)
  have KO : Hid (Blk W (w.heap.size + 1 + 1) [.string p, .int .i64 nb, .int .i64 0, .int .i64 0, .int .i64 0, .slice none 0 0]) := hide (by
    rw [hW]
    have := Blk.new (w := ((w.alloc (Obj.cells #[.string p, .int .i64 nb, .int .i64 le, .int .i64 mo, .int .i64 ne, .slice a1 l1 c1] 50)).alloc (Obj.cells #[.string ⟨#[]⟩, .int .i64 0, .int .i64 0, .int .i64 0, .int .i64 0, .slice none 0 0] 32))) [.string p, .int .i64 nb, .int .i64 0, .int .i64 0, .int .i64 0, .slice none 0 0] 32
    simpa using this)
  have HB : Hid (Below w.heap.size w W) := hide (by rw [hW]; exact bel3 _ _ _)
  have hsz : w.heap.size + 1 + 1 + 1 ≤ W.heap.size := by rw [hW]; simp
  have HR0 := hide hr
  have HW := hide hW
  clear hr hW
  go_enter Tryz.func19, Tryz.ntmps19
  go_wp2_with fail
  rw [← unhide HW]
  clear HW
  refine (toFits_any le mo W).mono ?_
  rintro x v0 ⟨rfl, bw⟩
  have HB := hide ((unhide HB).trans (bw.mono (unhide HB).size))
  have KP := hide ((unhide KP).below bw)
  have KR := hide ((unhide KR).below bw)
  have KO := hide ((unhide KO).below bw)
  have hsz : w.heap.size + 1 + 1 + 1 ≤ v0.heap.size := Nat.le_trans hsz bw.size
  clear bw
  have y2 : (v0).cell? ⟨w.heap.size + 1 + 1, 2, none⟩ = some (.int .i64 0) := (unhide KO).c 2 (by simp)
  have f2 : (v0).frozen? ⟨w.heap.size + 1 + 1, 2, none⟩ = false := (unhide KO).f 2 (by simp)
  have HB := hide ((unhide HB).setCell (p := ⟨w.heap.size + 1 + 1, 2, none⟩) (by simp; omega) (.int .i64 le))
  have KO := hide ((unhide KO).set 2 (by simp) (.int .i64 le))
  have KP := hide ((unhide KP).other (p := ⟨w.heap.size + 1 + 1, 2, none⟩) (by simp; omega) (.int .i64 le))
  have KR := hide ((unhide KR).other (p := ⟨w.heap.size + 1 + 1, 2, none⟩) (by simp) (.int .i64 le))
  have y3 : (v0.setCell ⟨w.heap.size + 1 + 1, 2, none⟩ (.int .i64 le)).cell? ⟨w.heap.size + 1 + 1, 3, none⟩ = some (.int .i64 0) := (unhide KO).c 3 (by simp)
  have f3 : (v0.setCell ⟨w.heap.size + 1 + 1, 2, none⟩ (.int .i64 le)).frozen? ⟨w.heap.size + 1 + 1, 3, none⟩ = false := (unhide KO).f 3 (by simp)
  have HB := hide ((unhide HB).setCell (p := ⟨w.heap.size + 1 + 1, 3, none⟩) (by simp; omega) (.int .i64 mo))
  have KO := hide ((unhide KO).set 3 (by simp) (.int .i64 mo))
  have KP := hide ((unhide KP).other (p := ⟨w.heap.size + 1 + 1, 3, none⟩) (by simp; omega) (.int .i64 mo))
  have KR := hide ((unhide KR).other (p := ⟨w.heap.size + 1 + 1, 3, none⟩) (by simp) (.int .i64 mo))
  have y4 : ((v0.setCell ⟨w.heap.size + 1 + 1, 2, none⟩ (.int .i64 le)).setCell ⟨w.heap.size + 1 + 1, 3, none⟩ (.int .i64 mo)).cell? ⟨w.heap.size + 1 + 1, 4, none⟩ = some (.int .i64 0) := (unhide KO).c 4 (by simp)
  have f4 : ((v0.setCell ⟨w.heap.size + 1 + 1, 2, none⟩ (.int .i64 le)).setCell ⟨w.heap.size + 1 + 1, 3, none⟩ (.int .i64 mo)).frozen? ⟨w.heap.size + 1 + 1, 4, none⟩ = false := (unhide KO).f 4 (by simp)
  have p4 : ((v0.setCell ⟨w.heap.size + 1 + 1, 2, none⟩ (.int .i64 le)).setCell ⟨w.heap.size + 1 + 1, 3, none⟩ (.int .i64 mo)).cell? ⟨w.heap.size, 4, none⟩ = some (.int .i64 ne) := (unhide KP).c 4 (by simp)
  have HB := hide ((unhide HB).setCell (p := ⟨w.heap.size + 1 + 1, 4, none⟩) (by simp; omega) (.int .i64 ne))
  have KO := hide ((unhide KO).set 4 (by simp) (.int .i64 ne))
  have KP := hide ((unhide KP).other (p := ⟨w.heap.size + 1 + 1, 4, none⟩) (by simp; omega) (.int .i64 ne))
  have KR := hide ((unhide KR).other (p := ⟨w.heap.size + 1 + 1, 4, none⟩) (by simp) (.int .i64 ne))
  have p5 : (((v0.setCell ⟨w.heap.size + 1 + 1, 2, none⟩ (.int .i64 le)).setCell ⟨w.heap.size + 1 + 1, 3, none⟩ (.int .i64 mo)).setCell ⟨w.heap.size + 1 + 1, 4, none⟩ (.int .i64 ne)).cell? ⟨w.heap.size, 5, none⟩ = some (.slice a1 l1 c1) := (unhide KP).c 5 (by simp)
  obtain ⟨U, hU⟩ : ∃ U, U = ((v0.setCell ⟨w.heap.size + 1 + 1, 2, none⟩ (.int .i64 le)).setCell ⟨w.heap.size + 1 + 1, 3, none⟩ (.int .i64 mo)).setCell ⟨w.heap.size + 1 + 1, 4, none⟩ (.int .i64 ne) := ⟨_, rfl⟩
  have hszU : U.heap.size = v0.heap.size := by rw [hU]; simp [World.setCell]
  rw [← hU] at HB KO KP KR
  have HI := hide ((unhide HR0).below (unhide HB))
  have HU := hide hU
  clear hU
  go_wp2_with fail
  rw [← unhide HU]
  clear HU y2 y3 y4 f2 f3 f4 p4 p5
  obtain ⟨G1, hG1⟩ : ∃ G, U.heap.size = G := ⟨_, rfl⟩
  refine (toByteS_own a1 l1 c1 z1 U (unhide HI).r1 h1).mono ?_
  rintro x v1 ⟨rfl, ow, bw⟩
  rw [hG1] at ow ⊢
  have HB := hide ((unhide HB).trans (bw.mono (unhide HB).size))
  have KP := hide ((unhide KP).below bw)
  have KR := hide ((unhide KR).below bw)
  have KO := hide ((unhide KO).below bw)
  have sz1 : G1 < v1.heap.size := ((ow.lies G1 rfl).2)
  have O1 := hide ow
  have hsz : w.heap.size + 1 + 1 + 1 ≤ G1 := by omega
  clear ow bw HI hszU
  obtain ⟨V1, hV1⟩ : ∃ V, V = v1.setCell ⟨w.heap.size + 1 + 1, 5, none⟩ (.slice (some ⟨G1, 0, none⟩) l1 l1) := ⟨_, rfl⟩
  have y5 : v1.cell? ⟨w.heap.size + 1 + 1, 5, none⟩ = some (.slice none 0 0) := (unhide KO).c 5 (by simp)
  have f5 : v1.frozen? ⟨w.heap.size + 1 + 1, 5, none⟩ = false := (unhide KO).f 5 (by simp)
  have KO := hide ((unhide KO).set 5 (by simp) (.slice (some ⟨G1, 0, none⟩) l1 l1))
  have KR := hide ((unhide KR).other (p := ⟨w.heap.size + 1 + 1, 5, none⟩) (by simp) (.slice (some ⟨G1, 0, none⟩) l1 l1))
  have O1 := hide ((unhide O1).set_other (S := w.heap.size + 1 + 1) (o := 5) (.slice (some ⟨G1, 0, none⟩) l1 l1) (by simp only [Value.ownBlock, ne_eq, Option.some.injEq]; omega))
  have HB := hide ((unhide HB).setCell (p := ⟨w.heap.size + 1 + 1, 5, none⟩) (by simp; omega) (.slice (some ⟨G1, 0, none⟩) l1 l1))
  rw [← hV1] at KO KR HB O1
  have hO : Hid (Blk V1 (w.heap.size + 1 + 1) [(.string p), (.int .i64 nb), (.int .i64 le), (.int .i64 mo), (.int .i64 ne), (.slice (some ⟨G1, 0, none⟩) l1 l1)]) := KO
  have u0 : V1.cell? ⟨w.heap.size + 1 + 1, 0, none⟩ = some (.string p) := (unhide hO).c 0 (by simp)
  have r0 : V1.cell? ⟨w.heap.size + 1, 0, none⟩ = some (.string ⟨#[]⟩) := (unhide KR).c 0 (by simp)
  have t0 : V1.frozen? ⟨w.heap.size + 1, 0, none⟩ = false := (unhide KR).f 0 (by simp)
  have u1 : V1.cell? ⟨w.heap.size + 1 + 1, 1, none⟩ = some (.int .i64 nb) := (unhide hO).c 1 (by simp)
  have r1 : V1.cell? ⟨w.heap.size + 1, 1, none⟩ = some (.int .i64 0) := (unhide KR).c 1 (by simp)
  have t1 : V1.frozen? ⟨w.heap.size + 1, 1, none⟩ = false := (unhide KR).f 1 (by simp)
  have u2 : V1.cell? ⟨w.heap.size + 1 + 1, 2, none⟩ = some (.int .i64 le) := (unhide hO).c 2 (by simp)
  have r2 : V1.cell? ⟨w.heap.size + 1, 2, none⟩ = some (.int .i64 0) := (unhide KR).c 2 (by simp)
  have t2 : V1.frozen? ⟨w.heap.size + 1, 2, none⟩ = false := (unhide KR).f 2 (by simp)
  have u3 : V1.cell? ⟨w.heap.size + 1 + 1, 3, none⟩ = some (.int .i64 mo) := (unhide hO).c 3 (by simp)
  have r3 : V1.cell? ⟨w.heap.size + 1, 3, none⟩ = some (.int .i64 0) := (unhide KR).c 3 (by simp)
  have t3 : V1.frozen? ⟨w.heap.size + 1, 3, none⟩ = false := (unhide KR).f 3 (by simp)
  have u4 : V1.cell? ⟨w.heap.size + 1 + 1, 4, none⟩ = some (.int .i64 ne) := (unhide hO).c 4 (by simp)
  have r4 : V1.cell? ⟨w.heap.size + 1, 4, none⟩ = some (.int .i64 0) := (unhide KR).c 4 (by simp)
  have t4 : V1.frozen? ⟨w.heap.size + 1, 4, none⟩ = false := (unhide KR).f 4 (by simp)
  have u5 : V1.cell? ⟨w.heap.size + 1 + 1, 5, none⟩ = some (.slice (some ⟨G1, 0, none⟩) l1 l1) := (unhide hO).c 5 (by simp)
  have r5 : V1.cell? ⟨w.heap.size + 1, 5, none⟩ = some (.slice none 0 0) := (unhide KR).c 5 (by simp)
  have t5 : V1.frozen? ⟨w.heap.size + 1, 5, none⟩ = false := (unhide KR).f 5 (by simp)
  rw [hV1] at u0 u1 u2 u3 u4 u5 r0 r1 r2 r3 r4 r5 t0 t1 t2 t3 t4 t5
  have HB := hide ((unhide HB).setCell (p := ⟨w.heap.size + 1, 0, none⟩) (by simp) (.string p))
  have O1 := hide ((unhide O1).set_other (S := w.heap.size + 1) (o := 0) (.string p) (by simp only [Value.ownBlock, ne_eq, Option.some.injEq]; omega))
  have HB := hide ((unhide HB).setCell (p := ⟨w.heap.size + 1, 1, none⟩) (by simp) (.int .i64 nb))
  have O1 := hide ((unhide O1).set_other (S := w.heap.size + 1) (o := 1) (.int .i64 nb) (by simp only [Value.ownBlock, ne_eq, Option.some.injEq]; omega))
  have HB := hide ((unhide HB).setCell (p := ⟨w.heap.size + 1, 2, none⟩) (by simp) (.int .i64 le))
  have O1 := hide ((unhide O1).set_other (S := w.heap.size + 1) (o := 2) (.int .i64 le) (by simp only [Value.ownBlock, ne_eq, Option.some.injEq]; omega))
  have HB := hide ((unhide HB).setCell (p := ⟨w.heap.size + 1, 3, none⟩) (by simp) (.int .i64 mo))
  have O1 := hide ((unhide O1).set_other (S := w.heap.size + 1) (o := 3) (.int .i64 mo) (by simp only [Value.ownBlock, ne_eq, Option.some.injEq]; omega))
  have HB := hide ((unhide HB).setCell (p := ⟨w.heap.size + 1, 4, none⟩) (by simp) (.int .i64 ne))
  have O1 := hide ((unhide O1).set_other (S := w.heap.size + 1) (o := 4) (.int .i64 ne) (by simp only [Value.ownBlock, ne_eq, Option.some.injEq]; omega))
  have HB := hide ((unhide HB).setCell (p := ⟨w.heap.size + 1, 5, none⟩) (by simp) (.slice (some ⟨G1, 0, none⟩) l1 l1))
  have O1 := hide ((unhide O1).set_other (S := w.heap.size + 1) (o := 5) (.slice (some ⟨G1, 0, none⟩) l1 l1) (by simp only [Value.ownBlock, ne_eq, Option.some.injEq]; omega))
  rw [hV1] at HB O1
  have HN := hide (LdOwn.mk ((unhide O1).mono (base' := w.heap.size) (by omega)))
  clear O1 KO KP KR hO hV1 HR0
  go_wp2_with fail
  refine bodyPost_ret (v := .agg #[(.string p), (.int .i64 nb), (.int .i64 le), (.int .i64 mo), (.int .i64 ne), (.slice (some ⟨G1, 0, none⟩) l1 l1)]) (by simp [results, Tryz.results19, go_sem, *]) rfl ⟨⟨G1, rfl, unhide HN⟩, unhide HB⟩
set_option maxRecDepth 20000 in
set_option maxHeartbeats 2000000 in
theorem eqLoad18_same (p : ByteArray) (nb le mo ne : Int) (a1 : Option Addr) (l1 c1 : Nat) (b1 : Option Addr) (d1 : Nat) (z1 : List Int) (w : World) (hr : LdIn w a1 l1 z1) (hq : LdIn w b1 l1 z1) :
    Calls Tryz.prog 21 #[.agg #[.string p, .int .i64 nb, .int .i64 le, .int .i64 mo, .int .i64 ne, .slice a1 l1 c1], .agg #[.string p, .int .i64 nb, .int .i64 le, .int .i64 mo, .int .i64 ne, .slice b1 l1 d1]] w fun x w' => x = .returned (.bool true) ∧ Below w.heap.size w w' := by
  obtain ⟨W, hW⟩ : ∃ W, W = (w.alloc (Obj.cells #[.string p, .int .i64 nb, .int .i64 le, .int .i64 mo, .int .i64 ne, .slice a1 l1 c1] 32)).alloc (Obj.cells #[.string p, .int .i64 nb, .int .i64 le, .int .i64 mo, .int .i64 ne, .slice b1 l1 d1] 32) := ⟨_, rfl⟩
  have KA : Hid (Blk W w.heap.size [.string p, .int .i64 nb, .int .i64 le, .int .i64 mo, .int .i64 ne, .slice a1 l1 c1]) := hide (by rw [hW]; exact (Blk.new (w := w) [.string p, .int .i64 nb, .int .i64 le, .int .i64 mo, .int .i64 ne, .slice a1 l1 c1] 32).alloc _)
  have KB : Hid (Blk W (w.heap.size + 1) [.string p, .int .i64 nb, .int .i64 le, .int .i64 mo, .int .i64 ne, .slice b1 l1 d1]) := hide (by
    rw [hW]
    have := Blk.new (w := w.alloc (Obj.cells #[.string p, .int .i64 nb, .int .i64 le, .int .i64 mo, .int .i64 ne, .slice a1 l1 c1] 32)) [.string p, .int .i64 nb, .int .i64 le, .int .i64 mo, .int .i64 ne, .slice b1 l1 d1] 32
    simpa using this)
  have HB : Hid (Below w.heap.size w W) := hide (by rw [hW]; exact bel2 _ _)
  have qi0 : (nb != nb) = false := by simp
  have qi1 : (ne != ne) = false := by simp
  have HA := hide hr
  have HQ := hide hq
  have HW := hide hW
  clear hr hq hW
  go_enter Tryz.func21, Tryz.ntmps21
  go_wp2_with fail
  rw [← unhide HW]
  clear HW
  refine (eqFits_same le mo _).mono ?_
  rintro x v0 ⟨rfl, bw⟩
  have HB := hide ((unhide HB).trans (bw.mono (unhide HB).size))
  have KA := hide ((unhide KA).below bw)
  have KB := hide ((unhide KB).below bw)
  clear bw
  have a3 : v0.cell? ⟨w.heap.size, 4, none⟩ = some (.int .i64 ne) := (unhide KA).c 4 (by simp)
  have a4 : v0.cell? ⟨w.heap.size, 5, none⟩ = some (.slice a1 l1 c1) := (unhide KA).c 5 (by simp)
  have b3 : v0.cell? ⟨w.heap.size + 1, 4, none⟩ = some (.int .i64 ne) := (unhide KB).c 4 (by simp)
  have b4 : v0.cell? ⟨w.heap.size + 1, 5, none⟩ = some (.slice b1 l1 d1) := (unhide KB).c 5 (by simp)
  go_wp2_with fail
  clear a3 a4 b3 b4
  refine (eqByteS_same _ _ _ _ _ _ z1 _ ((unhide HA).below (unhide HB)).r1 ((unhide HQ).below (unhide HB)).r1).mono ?_
  rintro x x1 ⟨rfl, bw⟩
  have HB := hide ((unhide HB).trans (bw.mono (unhide HB).size))
  clear bw KA KB
  go_wp2_with fail
  go_ret
  exact ⟨rfl, unhide HB⟩

end Go.Proofs.YtemodlgmjgdjpaaGreatDoor

/-
  The law's text of a mark: a number's decimals, one text for each number. At numbers of 1 to 1000000000; nothing that was there is written.
  The law's comparison of lists of texts, its marks in one, and that they are there still. Nothing else that was there is written.
-/
import Derived.Test.YtbaocifpifbldawGreatBase
import Derived.Test.YtbaocifpifbldawGreatChecked
import Derived.Laws.IdiomStrings
import Derived.Laws.Concat
import Derived.Test.YtbaocifpifbldawGreatRows1
import Derived.Test.YtbaocifpifbldawGreatBel

namespace Go.Proofs.YtbaocifpifbldawGreat
open Go.RowKit

/-- The decimals of a number ahead of a text. -/
def digs : Nat → Int → ByteArray → ByteArray
  | 0, _, out => out
  | f + 1, k, out => if 0 < k then digs f (k / 10) ((⟨#[UInt8.ofNat (48 + k % 10).toNat]⟩ : ByteArray) ++ out) else out
theorem digs_end (f : Nat) {k : Int} (h : ¬ 0 < k) (out : ByteArray) : digs f k out = out := by
  cases f with
  | zero => rfl
  | succ f => simp [digs, h]
theorem digs_more {f : Nat} {k : Int} (h : 0 < k) (hf : k ≤ f) (out : ByteArray) : ∃ g : Nat, k / 10 ≤ g ∧ digs f k out = digs g (k / 10) ((⟨#[UInt8.ofNat (48 + k % 10).toNat]⟩ : ByteArray) ++ out) := by
  cases f with
  | zero => exfalso; simp at hf; omega
  | succ f => exact ⟨f, by simp at hf; omega, by simp [digs, h]⟩
/-- The text of a mark. -/
def mkT (k : Int) : ByteArray := (⟨#[109]⟩ : ByteArray) ++ digs k.toNat k ⟨#[]⟩

theorem run_one_byte (w : World) (n : Int) (h : 0 ≤ n) (h2 : n ≤ 255) :
    (convert 90 9 (.slice (some ⟨w.heap.size, 0, none⟩) 1 1)).run Tryz.prog (w.alloc (Obj.cells #[.int .u8 n] 5)) = .ok (.string ⟨#[UInt8.ofNat n.toNat]⟩) (w.alloc (Obj.cells #[.int .u8 n] 5)) := by
  have e : ((UInt8.ofNat n.toNat).toNat : Int) = n := by
    rw [UInt8.toNat_ofNat']
    omega
  have := run_convert_bytes_back (P := Tryz.prog) (w.alloc (Obj.cells #[.int .u8 n] 5)) 90 9 5 ⟨w.heap.size, 0, none⟩ 1 [UInt8.ofNat n.toNat] Tryz.underlying90 Tryz.underlying5 Tryz.underlying9 (fun j hj => by
    obtain rfl : j = 0 := by simp at hj; omega
    have hc : (w.alloc (Obj.cells #[.int .u8 n] 5)).cell? ⟨w.heap.size, 0, none⟩ = some (.int .u8 n) := by simp [go_sem]
    show (w.alloc (Obj.cells #[.int .u8 n] 5)).cell? ⟨w.heap.size, 0 + 0, none⟩ = _
    rw [Nat.add_zero, hc]
    simp only [List.getElem_cons_zero, e])
  simpa using this

set_option maxRecDepth 20000 in
set_option maxHeartbeats 2000000 in
theorem markText_any (k : Int) (w : World) (h1 : 1 ≤ k) (h2 : k ≤ 1000000000) :
    Calls Tryz.prog 39 #[.int .i64 k] w fun e w' => e = .returned (.string (mkT k)) ∧ Below w.heap.size w w' := by
  go_enter Tryz.func39, Tryz.ntmps39
  go_wp2_with fail
  go_loopw [0, 3] (fun kv ov wr => ∃ (q : Int) (out : ByteArray) (f : Nat), kv = .int .i64 q ∧ ov = .string out ∧ (0 ≤ q ∧ q ≤ k) ∧ ((out.size : Int) + q ≤ k) ∧ Hid (q ≤ (f : Int)) ∧ Hid (digs f q out = digs k.toNat k ⟨#[]⟩) ∧ Below w.heap.size w wr) (fun kv _ _ => (intOf kv).toNat)
  case atStart => exact ⟨k, ⟨#[]⟩, k.toNat, rfl, rfl, by omega, by show (0 : Int) + k ≤ k; omega, hide (by omega), hide rfl, Below.refl _ _⟩
  case round =>
    obtain ⟨q, out, f, rfl, rfl, hq, hsz, HF, HD, hbel⟩ := hrel
    by_cases h0 : 0 < q
    · obtain ⟨f', hf', e'⟩ := digs_more h0 (unhide HF) out
      have HF' := hide hf'
      have HD' := hide (e'.symm.trans (unhide HD))
      have hrun := run_one_byte wr (48 + q % 10) (by omega) (by omega)
      have HB := hide (hbel.alloc hbel.size (Obj.cells #[.int .u8 (48 + q % 10)] 5))
      clear hf' e' hbel
      go_wp2_with fail
      go_roundw
      case rel =>
        refine ⟨q / 10, _, f', rfl, rfl, by omega, ?_, HF', HD', unhide HB⟩
        rw [ByteArray.size_append]
        show (((1 : Nat) + out.size : Nat) : Int) + q / 10 ≤ k
        omega
      case measure => simp [intOf]; omega
    · have HE : Hid (mkT k = (⟨#[109]⟩ : ByteArray) ++ out) := hide (by unfold mkT; rw [← unhide HD, digs_end f h0])
      have HB := hide hbel
      have hsz1 : (⟨#[109]⟩ : ByteArray).size + out.size ≤ 9223372036854775807 := by
        show 1 + out.size ≤ _
        omega
      clear hbel
      go_wp2_with fail
      go_ret
      exact ⟨by rw [unhide HE]; rfl, unhide HB⟩

end Go.Proofs.YtbaocifpifbldawGreat

namespace Go.Proofs.YtbaocifpifbldawGreat
open Go.RowKit

/-- A text's one cell. -/
def stC (s : ByteArray) (_ : Nat) : Value := .string s
theorem grownB {w w' : World} (b : Below w.heap.size w w') (row : Option Nat) : w.grownBy w' row := ⟨b.os, b.tape, b.output, b.size, fun i hi _ => b.block i hi⟩
theorem grown_trans {a b c : World} {row : Option Nat} (h : a.grownBy b row) (k : b.grownBy c row) : a.grownBy c row :=
  ⟨k.os.trans h.os, k.tape.trans h.tape, k.output.trans h.output, Nat.le_trans h.size k.size, fun i hi hne => (k.block i (Nat.lt_of_lt_of_le hi h.size) hne).trans (h.block i hi hne)⟩

set_option maxHeartbeats 1000000 in
theorem eqStringS_same (ad bd : Option Addr) (len cap cap2 : Nat) (ps : List ByteArray) (w : World) (hr : RowE 1 stC w ad len ps) (hr2 : RowE 1 stC w bd len ps) :
    Calls Tryz.prog 13 #[.slice ad len cap, .slice bd len cap2] w fun e w' => e = .returned (.bool true) ∧ ∃ n, w' = w.drewN n := by
  have hs := hr.small
  have HO := hide hr.open1
  have HO2 := hide hr2.open1
  clear hr hr2
  go_enter Tryz.func13, Tryz.ntmps13
  go_wp2
  go_loopw [5] (fun i wr => ∃ k n : Nat, k ≤ len ∧ i = .int .i64 k ∧ wr = w.drewN n) (fun i _ => len - (intOf i).toNat)
  case atStart => exact ⟨0, 0, Nat.zero_le _, rfl, rfl⟩
  case round =>
    obtain ⟨k, n, hk, rfl, rfl⟩ := hrel
    by_cases hlt : k < len
    · rcases (unhide HO) with ⟨h0, _⟩ | ⟨bb, off, rfl, _, hc⟩
      · omega
      rcases (unhide HO2) with ⟨h0, _⟩ | ⟨b2, off2, rfl, _, hc2⟩
      · omega
      have c0 : w.cell? ⟨bb, off + k, none⟩ = some (.string (elAt ps k)) := hc k hlt
      have c1 : w.cell? ⟨b2, off2 + k, none⟩ = some (.string (elAt ps k)) := hc2 k hlt
      have hi1 : (k : Int) < (len : Int) := by omega
      clear hc hc2
      go_wp2
      go_quiet (fail)
      go_wp2
      go_roundw
      case rel => exact ⟨k + 1, _, by omega, by go_num, rfl⟩
      case measure => simp [intOf]; omega
    · go_wp2
      go_ret
      exact ⟨rfl, n, rfl⟩

set_option maxHeartbeats 1000000 in
theorem markStringS_any (base : Nat) (a : Option Addr) (len c : Nat) (ps : List ByteArray) (k : Int) (w : World) (ho : OwnE 1 stC w base 9 (.slice a len c) ps) (hl : ps.length = len) (h1 : len ≤ 1048576) (hk0 : 1 ≤ k) (hk1 : k ≤ 900000000) :
    Calls Tryz.prog 17 #[.slice a len c, .int .i64 k] w fun e w' => e = .returned (.int .i64 (k + len)) ∧ OwnE 1 stC w' base 9 (.slice a len c) (markL mkT 1 ps k len) ∧ w.grownBy w' (Value.slice a len c).ownBlock := by
  subst hl
  go_enter Tryz.func17, Tryz.ntmps17
  go_wp2
  go_loopw [1, 5] (fun kk i wr => ∃ j : Nat, j ≤ ps.length ∧ i = .int .i64 j ∧ kk = .int .i64 (k + j) ∧ OwnE 1 stC wr base 9 (.slice a ps.length c) (markL mkT 1 ps k j) ∧ w.grownBy wr (Value.slice a ps.length c).ownBlock) (fun _ i _ => ps.length - (intOf i).toNat)
  case atStart => exact ⟨0, Nat.zero_le _, rfl, by simp, ho, grown_refl _ _⟩
  case round =>
    obtain ⟨j, hj, rfl, rfl, how, hgr⟩ := hrel
    have hml := markL_len mkT 1 ps k j
    by_cases hlt : j < ps.length
    · have hi1 : (j : Int) < (ps.length : Int) := by omega
      have HOW := hide how
      have HGR := hide hgr
      have HML := hide hml
      clear how hgr hml
      go_wp2_with fail
      refine (markText_any _ _ (by omega) (by omega)).mono ?_
      rintro e w1 ⟨rfl, b1⟩
      have how := (unhide HOW).below b1
      have hgr := grown_trans (unhide HGR) (grownB b1 _)
      rcases how.form with ⟨_, h0⟩ | ⟨g, c', hv, hg1, hg2, hc1, _⟩
      · have := unhide HML; rw [h0] at this; simp at this; omega
      simp only [Value.slice.injEq] at hv
      obtain ⟨rfl, hx, rfl⟩ := hv
      clear hx hc1
      have n0 : w1.cell? ⟨g, j, none⟩ = some (.string (elAt (markL mkT 1 ps k j) j)) := (how.here1 (unhide HML) j hlt).1
      have z0 : w1.frozen? ⟨g, j, none⟩ = false := (how.here1 (unhide HML) j hlt).2
      have O3 : Hid (OwnE 1 stC (w1.setCell ⟨g, j, none⟩ (.string (mkT (k + j)))) base 9 (.slice (some ⟨g, 0, none⟩) ps.length c) (markL mkT 1 ps k (j + 1))) := hide (by
        have := how.set1 (unhide HML) j hlt (.string (mkT (k + j))) (mkT (k + j)) rfl
        have e : markL mkT 1 ps k (j + 1) = (markL mkT 1 ps k j).set j (mkT (k + j)) := by simp [markL]
        rw [e]; exact this)
      have G3 : Hid (w.grownBy (w1.setCell ⟨g, j, none⟩ (.string (mkT (k + j)))) (Value.slice (some ⟨g, 0, none⟩) ps.length c).ownBlock) := hide (grown_set hgr _ _)
      clear how hgr b1
      go_wp2
      go_roundw
      case rel => exact ⟨j + 1, by omega, by go_num, by go_num, unhide O3, unhide G3⟩
      case measure => simp [intOf]; omega
    · have hkk : j = ps.length := by omega
      subst hkk
      have O := hide how
      have G := hide hgr
      clear how hgr hml
      go_wp2
      go_ret
      exact ⟨rfl, unhide O, unhide G⟩

set_option maxHeartbeats 1000000 in
theorem heldStringS_any (a : Option Addr) (len c : Nat) (ps : List ByteArray) (k : Int) (w : World) (hr : RowE 1 stC w a len (markL mkT 1 ps k len)) (hl : ps.length = len) (h1 : len ≤ 1048576) (hk0 : 1 ≤ k) (hk1 : k ≤ 900000000) :
    Calls Tryz.prog 19 #[.slice a len c, .int .i64 k] w fun e w' => e = .returned (.int .i64 (k + len)) ∧ Below w.heap.size w w' := by
  subst hl
  have HR := hide hr
  clear hr
  go_enter Tryz.func19, Tryz.ntmps19
  go_wp2
  go_loopw [1, 5] (fun kk i wr => ∃ j : Nat, j ≤ ps.length ∧ i = .int .i64 j ∧ kk = .int .i64 (k + j) ∧ Below w.heap.size w wr) (fun _ i _ => ps.length - (intOf i).toNat)
  case atStart => exact ⟨0, Nat.zero_le _, rfl, by simp, Below.refl _ _⟩
  case round =>
    obtain ⟨j, hj, rfl, rfl, hbel⟩ := hrel
    by_cases hlt : j < ps.length
    · obtain ⟨bb, off, rfl, hc⟩ := ((unhide HR).below hbel).at_ j hlt
      have hm := markL_at mkT 1 ps k ps.length (Nat.le_refl _) j hlt
      have c0 : wr.cell? ⟨bb, off + j, none⟩ = some (.string (mkT (k + j))) := by
        have h := hc 0 (by omega)
        rw [hm] at h
        simpa [stC] using h
      obtain ⟨ι, f, _, hbf, hall⟩ := belClass wr
      have d0 : ∀ x, (f x).cell? ⟨bb, off + j, none⟩ = some (.string (mkT (k + j))) := fun x => ((hbf x).cell (block_lt_of_cell c0)).trans c0
      have hi1 : (j : Int) < (ps.length : Int) := by omega
      have HF := hide hbf
      have HA := hide hall
      have HB := hide hbel
      clear hc hm c0 hbf hall hbel
      go_wp2_with fail
      refine wp_region_bel (unhide HA) (by kernel_rfl) (by kernel_rfl) ?_
      repeat (go_big_quiet_step (first | (go_at_call 39; exact belQ (unhide HF) (unhide HA) (markText_any _ _ (by omega) (by omega)))))
      refine wpQuiet_nil ?_
      rintro _ ⟨x3, rfl⟩
      have HB3 := hide ((unhide HB).trans ((unhide HF x3).mono (unhide HB).size))
      go_wp2_with fail
      go_roundw
      case rel => exact ⟨j + 1, by omega, by go_num, by go_num, unhide HB3⟩
      case measure => simp [intOf]; omega
    · have hkk : j = ps.length := by omega
      subst hkk
      have HB := hide hbel
      clear hbel
      go_wp2
      go_ret
      exact ⟨rfl, unhide HB⟩

end Go.Proofs.YtbaocifpifbldawGreat

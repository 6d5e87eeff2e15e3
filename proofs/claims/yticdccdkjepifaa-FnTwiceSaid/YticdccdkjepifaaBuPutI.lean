/-
  What the program's Put16 answers: the frame of a word, in memory of its own. At every word; nothing that was there is written.
-/
import Derived.Test.YticdccdkjepifaaMBuImpl
import Derived.Test.YticdccdkjepifaaMBuSumI
import Derived.Test.YticdccdkjepifaaBuPut
namespace Go.Proofs.Yticdccdkjepifaa
open Go.RowKit

set_option maxRecDepth 20000 in
set_option maxHeartbeats 1000000 in
theorem implPut16_row (l s : Int) (da : Option Addr) (dn dc : Nat) (ds : List Int) (w : World) (hr : RowE 1 byC w da dn ds) :
    Calls Try.prog 14 #[.agg #[.int .i64 l, .int .i64 s, .slice da dn dc]] w fun e w' => ∃ p q, e = .returned (.tuple #[.slice p (ptL l s ds).length q, .bool (wdB l s ds.length)]) ∧ OwnE 1 byC w' w.heap.size 5 (.slice p (ptL l s ds).length q) (ptL l s ds) ∧ Below w.heap.size w w' := by
  have hz := hr.len_eq
  have hs := hr.small
  have HR := hide hr
  clear hr
  subst hz
  cases q1 : wdB l s ds.length with
  | false =>
    have HE : Hid (ptL l s ds = []) := hide (by rw [ptL, q1]; rfl)
    rw [unhide HE]
    go_enter Try.func14, Try.ntmps14
    go_wp2_with fail
    obtain ⟨W, hW⟩ : ∃ W, W = (w.alloc (Obj.cells #[.int .i64 l, .int .i64 s, .slice da ds.length dc] 50)) := ⟨_, rfl⟩
    rw [← hW]
    have K0 : Hid (Blk W (w.heap.size) [.int .i64 l, .int .i64 s, .slice da ds.length dc]) := hide (by rw [hW]; exact Blk.new _ _)
    have B0 : Hid (Below w.heap.size w W) := hide (by rw [hW]; exact (by repeat (first | exact Below.refl _ _ | refine Below.alloc ?_ (by simp; try omega) _ | refine Below.setCell ?_ (by simp; try omega) _ | refine taDr ?_ _)))
    clear hW
    obtain ⟨ι, fW, _, hb, hall⟩ := belClass W
    have HB := hide hb
    have HA := hide hall
    have c00 : ∀ x, (fW x).cell? ⟨w.heap.size, 0, none⟩ = some (.int .i64 l) := fun x => ((unhide K0).below (hb x)).c 0 (by simp)
    have c01 : ∀ x, (fW x).cell? ⟨w.heap.size, 1, none⟩ = some (.int .i64 s) := fun x => ((unhide K0).below (hb x)).c 1 (by simp)
    have c02 : ∀ x, (fW x).cell? ⟨w.heap.size, 2, none⟩ = some (.slice da ds.length dc) := fun x => ((unhide K0).below (hb x)).c 2 (by simp)
    clear hb hall
    obtain ⟨x0, h0⟩ := (unhide HA) W (Below.refl _ _)
    rw [h0]
    clear h0
    go_wp2_with (first | (go_at_call 36; refine (belQ (unhide HB) (unhide HA) (implWordOk_is _ _ _ _ _ _ hs (by exact q1))).mono ?_; rintro e _ ⟨rfl, y, rfl⟩))
    repeat (refine wp_region_bel (fun w' h => (unhide HA) w' ((unhide HB _).trans (h.mono (unhide HB _).size))) (by kernel_rfl) (by kernel_rfl) ?_; (repeat (go_big_quiet_step (first | (go_at_call 36; exact belQ (unhide HB) (unhide HA) (implWordOk_is _ _ _ _ _ _ hs (by exact q1)))))); refine wpQuiet_nil ?_; rintro _ ⟨y, rfl⟩; (first | go_wp2_with (first | (go_at_call 36; refine (belQ (unhide HB) (unhide HA) (implWordOk_is _ _ _ _ _ _ hs (by exact q1))).mono ?_; rintro e _ ⟨rfl, y, rfl⟩)) | go_wp2))
    refine bodyPost_ret (v := .tuple #[.slice (some ⟨(fW y).heap.size, 0, none⟩) 0 0, .bool false]) (by simp [results, Try.results14, go_sem]) rfl ⟨_, _, rfl, ?_, ?_⟩
    · exact byE_lit (fW y) [] (Nat.le_trans (unhide B0).size (unhide HB y).size) (by simp)
    · exact (unhide B0).trans ((belAl (unhide HB y) _).mono (unhide B0).size)
  | true =>
    have HE : Hid (ptL l s ds = ptH l s ds ++ [smB (ptH l s ds)]) := hide (by rw [ptL, q1, if_pos rfl])
    have g1 := wdB_facts q1
    have e1 : l % 256 = l := by omega
    have e2 : s % 256 = s := by omega
    have e3 : (ds.length : Int) % 256 = (ds.length : Int) := by omega
    go_enter Try.func14, Try.ntmps14
    go_wp2_with fail
    obtain ⟨W, hW⟩ : ∃ W, W = (w.alloc (Obj.cells #[.int .i64 l, .int .i64 s, .slice da ds.length dc] 50)) := ⟨_, rfl⟩
    rw [← hW]
    have K0 : Hid (Blk W (w.heap.size) [.int .i64 l, .int .i64 s, .slice da ds.length dc]) := hide (by rw [hW]; exact Blk.new _ _)
    have B0 : Hid (Below w.heap.size w W) := hide (by rw [hW]; exact (by repeat (first | exact Below.refl _ _ | refine Below.alloc ?_ (by simp; try omega) _ | refine Below.setCell ?_ (by simp; try omega) _ | refine taDr ?_ _)))
    clear hW
    obtain ⟨ι, fW, _, hb, hall⟩ := belClass W
    have HB := hide hb
    have HA := hide hall
    have c00 : ∀ x, (fW x).cell? ⟨w.heap.size, 0, none⟩ = some (.int .i64 l) := fun x => ((unhide K0).below (hb x)).c 0 (by simp)
    have c01 : ∀ x, (fW x).cell? ⟨w.heap.size, 1, none⟩ = some (.int .i64 s) := fun x => ((unhide K0).below (hb x)).c 1 (by simp)
    have c02 : ∀ x, (fW x).cell? ⟨w.heap.size, 2, none⟩ = some (.slice da ds.length dc) := fun x => ((unhide K0).below (hb x)).c 2 (by simp)
    clear hb hall
    obtain ⟨x0, h0⟩ := (unhide HA) W (Below.refl _ _)
    rw [h0]
    clear h0
    have d2 : ∀ x, ((fW x).alloc (Obj.cells #[.int .u8 l, .int .u8 s, .int .u8 (ds.length : Int)] 5)).cell? ⟨w.heap.size, 2, none⟩ = some (.slice da ds.length dc) := fun x => (((unhide K0).below (unhide HB x)).alloc _).c 2 (by simp)
    have HBX : Hid (∀ x, Below w.heap.size w ((fW x).alloc (Obj.cells #[.int .u8 l, .int .u8 s, .int .u8 (ds.length : Int)] 5))) := hide (fun x => (unhide B0).trans ((belAl (unhide HB x) _).mono (unhide B0).size))
    have HO : Hid (∀ x, OwnE 1 byC ((fW x).alloc (Obj.cells #[.int .u8 l, .int .u8 s, .int .u8 (ds.length : Int)] 5)) w.heap.size 5 (.slice (some ⟨(fW x).heap.size, 0, none⟩) 3 3) [l, s, (ds.length : Int)]) := hide (fun x => byE_lit (fW x) [l, s, (ds.length : Int)] (Nat.le_trans (unhide B0).size (unhide HB x).size) (by simp))
    go_wp2_with (first | (at_builtin; refine wpList_app_by rfl _ _ rfl (unhide HO _) rfl rfl da ds.length dc ds rfl ((unhide HR).below (unhide HBX _)) (by omega) (unhide HBX _).size ?_; intro g9 c9 w9 o9 gr9 hg9) | (go_at_call 36; refine (belQ (unhide HB) (unhide HA) (implWordOk_is _ _ _ _ _ _ hs (by exact q1))).mono ?_; rintro e _ ⟨rfl, y, rfl⟩))
    have HZ : Hid (OwnE 1 byC w9 w.heap.size 5 (.slice (some ⟨g9, 0, none⟩) (3 + ds.length) c9) (ptH l s ds)) := hide o9
    have BB := hide ((unhide HBX y).grown gr9 (unhide HBX y).size (fun q hq => by cases hq; exact Nat.le_trans (unhide B0).size (unhide HB y).size))
    clear o9 gr9 hg9 d2 HBX HO
    refine (frameSum_is _ _ _ (ptH l s ds) _ (unhide HZ).row rfl).mono ?_
    rintro e w10 ⟨rfl, nn, hw10⟩
    have b10 : Below w9.heap.size w9 w10 := by rw [hw10]; exact bel0d nn
    have HZ := hide ((unhide HZ).below b10)
    have BB := hide ((unhide BB).trans (b10.mono (unhide BB).size))
    clear b10 hw10
    obtain ⟨sm, hsm⟩ : ∃ z, smB (ptH l s ds) = z := ⟨_, rfl⟩
    rw [hsm] at HE ⊢
    clear hsm
    have HZ2 := hide ((unhide HZ).below (bel1 (Obj.cells #[.int .u8 sm] 5)))
    have HR1 : Hid (RowE 1 byC (w10.alloc (Obj.cells #[.int .u8 sm] 5)) (some ⟨w10.heap.size, 0, none⟩) 1 [sm]) := hide (byE_lit (base := w10.heap.size) w10 [sm] (Nat.le_refl _) (by simp)).row
    have BB2 := hide (belAl' (unhide BB) (Obj.cells #[.int .u8 sm] 5))
    go_wp2_with (at_builtin; refine wpList_app_by rfl _ _ rfl (unhide HZ2) (by simp [ptH]; omega) rfl (some ⟨w10.heap.size, 0, none⟩) 1 1 [sm] rfl (unhide HR1) (by omega) (unhide BB2).size ?_; intro g11 c11 w11 o11 gr11 hg11)
    have hl : (ptL l s ds).length = 3 + ds.length + 1 := by rw [unhide HE]; simp [ptH]; omega
    refine bodyPost_ret (v := .tuple #[.slice (some ⟨g11, 0, none⟩) (3 + ds.length + 1) c11, .bool true]) (by simp [results, Try.results14, go_sem]) rfl ⟨some ⟨g11, 0, none⟩, c11, by rw [hl], ?_, ?_⟩
    · rw [hl, unhide HE]; exact o11
    · exact (unhide BB2).grown gr11 (unhide BB2).size (fun q hq => by cases hq; exact ((unhide HZ2).lies g9 rfl).1)

end Go.Proofs.Yticdccdkjepifaa

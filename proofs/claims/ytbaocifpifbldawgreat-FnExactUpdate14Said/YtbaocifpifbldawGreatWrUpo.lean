/-
  An update that is refused, in the model: an empty panel and an empty list.
-/
import Derived.Test.YtbaocifpifbldawGreatWrUpd
namespace Go.Proofs.YtbaocifpifbldawGreat
open Go.RowKit

set_option maxRecDepth 20000 in
set_option maxHeartbeats 2000000 in
theorem specUpdate14_off (ad : Option Addr) (len cap : Nat) (rs : List Wr) (a1 a2 a3 : Option Addr) (l1 c1 l2 c2 l3 c3 : Nat) (z1 z2 z3 : List ByteArray) (ph : Int) (bd : Option Addr) (len2 cap2 : Nat) (ts : List ByteArray) (w : World) (hr : RowW w ad len rs) (hl : len ≤ 1048576) (hp : PnIn w a1 a2 a3 l1 l2 l3 z1 z2 z3) (h1 : l1 ≤ 1048576) (h2 : l2 ≤ 1048576) (h3 : l3 ≤ 1048576) (ht : RowE 1 stC w bd len2 ts) (hl2 : len2 ≤ 1048576) (hu : upB rs z1 z2 z3 ts ph = false) :
    Calls Tryz.prog 7 #[.slice ad len cap, .agg #[.slice a1 l1 c1, .slice a2 l2 c2, .slice a3 l3 c3], .int .i64 ph, .slice bd len2 cap2] w fun e w' => ∃ g, e = .returned (.tuple #[.agg #[.slice none 0 0, .slice none 0 0, .slice none 0 0], .slice (some ⟨g, 0, none⟩) 0 0, .bool false]) ∧ OwnE 1 stC w' w.heap.size 9 (.slice (some ⟨g, 0, none⟩) 0 0) [] ∧ Below w.heap.size w w' := by
  have HR := hide hr
  have HP := hide hp
  have HT := hide ht
  obtain ⟨cw, hcw⟩ : ∃ c, wrB rs = c := ⟨_, rfl⟩
  obtain ⟨cp, hcp⟩ : ∃ c, pnlB rs z1 z2 z3 = c := ⟨_, rfl⟩
  obtain ⟨ca, hca⟩ : ∃ c, nmB rs ts = c := ⟨_, rfl⟩
  obtain ⟨ci, hci⟩ : ∃ c, inB ph 0 9 = c := ⟨_, rfl⟩
  unfold upB at hu
  rw [hcw, hcp, hca, hci] at hu
  clear hr hp ht
  go_enter Tryz.func7, Tryz.ntmps7
  go_wp2_with fail
  obtain ⟨W0, hW0⟩ : ∃ W, W = (w.alloc (Obj.cells #[.slice a1 l1 c1, .slice a2 l2 c2, .slice a3 l3 c3] 29)).alloc (Obj.cells #[.slice none 0 0, .slice none 0 0, .slice none 0 0] 29) := ⟨_, rfl⟩
  have HB : Hid (Below w.heap.size w W0) := hide (by rw [hW0]; exact bel2 _ _)
  have KA : Hid (Blk W0 w.heap.size [.slice a1 l1 c1, .slice a2 l2 c2, .slice a3 l3 c3]) := hide (by rw [hW0]; exact blkAt2_0)
  have KR : Hid (Blk W0 (w.heap.size + 1) [.slice none 0 0, .slice none 0 0, .slice none 0 0]) := hide (by rw [hW0]; exact blkAt2_1)
  rw [← hW0]
  clear hW0
  refine (specRulesOk_is _ _ _ rs _ ((unhide HR).below (unhide HB)) hl hcw).mono ?_
  rintro e w1 ⟨rfl, b⟩
  have HB := hide ((unhide HB).trans (b.mono (unhide HB).size))
  have KA := hide ((unhide KA).below b)
  have KR := hide ((unhide KR).below b)
  have v0 := (unhide KA).c 0 (by simp)
  have v1 := (unhide KA).c 1 (by simp)
  have v2 := (unhide KA).c 2 (by simp)
  simp only [List.getElem_cons_zero, List.getElem_cons_succ] at v0 v1 v2
  clear b
  have HCP := hide hcp
  have HCA := hide hca
  have HCI := hide hci
  clear hcw hcp hca hci
  cases cw with
  | false =>
    clear hu
    have HKL := (unhide KR).lt
    have HKS := hide ((unhide KR).alloc (Obj.cells #[] 9))
    have HTU : Hid (OwnE 1 stC (w1.alloc (Obj.cells #[] 9)) w.heap.size 9 (.slice (some ⟨w1.heap.size, 0, none⟩) 0 0) []) := hide (stE_none (unhide HB).size)
    have HNT : Hid (∀ q, (Value.slice (some ⟨w1.heap.size, 0, none⟩) 0 0).ownBlock = some q → q ≠ w.heap.size + 1) := hide (fun q hq e => by have h9 : w1.heap.size = q := Option.some.inj hq; omega)
    have HBA := hide ((unhide HB).alloc (unhide HB).size (Obj.cells #[] 9))
    go_wp2_with (((with_reducible show wpList _ _ _ (⟨none, .store 29 _ _, _, _, _, none⟩ :: _) _ _); refine at_storeAgg (us := [.slice none 0 0, .slice none 0 0, .slice none 0 0]) (vs := [.slice none 0 0, .slice none 0 0, .slice none 0 0]) Tryz.sizeOf29 rfl rfl (unhide HKS) rfl (by intro v hv; simp at hv; subst hv; rfl) ?_; intro w9 kb gr; have RKS := hide kb; have HTO := hide ((unhide HTU).far gr (fun q hq e => unhide HNT q hq (Option.some.inj e))); have HBF := hide ((unhide HBA).grown gr (unhide HBA).size (fun k hk => by cases hk; omega)); clear kb gr))
    exact bodyPost_ret (results_cellBB (vs := [.slice none 0 0, .slice none 0 0, .slice none 0 0]) rfl Tryz.isAgg29 Tryz.sizeOf29 rfl (unhide RKS) rfl rfl) rfl ⟨_, rfl, unhide HTO, unhide HBF⟩
  | true =>
  go_wp2_with fail
  refine (l14Panel_any ad _ cap rs a1 a2 a3 l1 c1 _ c2 _ c3 z1 z2 z3 _ ((unhide HR).below (unhide HB)) hl ((unhide HP).below (unhide HB)) h1 h2 h3).mono ?_
  rintro e w2 ⟨rfl, b⟩
  rw [unhide HCP]
  have HB := hide ((unhide HB).trans (b.mono (unhide HB).size))
  have KR := hide ((unhide KR).below b)
  clear b v0 v1 v2
  cases cp with
  | false =>
    clear hu
    have HKL := (unhide KR).lt
    have HKS := hide ((unhide KR).alloc (Obj.cells #[] 9))
    have HTU : Hid (OwnE 1 stC (w2.alloc (Obj.cells #[] 9)) w.heap.size 9 (.slice (some ⟨w2.heap.size, 0, none⟩) 0 0) []) := hide (stE_none (unhide HB).size)
    have HNT : Hid (∀ q, (Value.slice (some ⟨w2.heap.size, 0, none⟩) 0 0).ownBlock = some q → q ≠ w.heap.size + 1) := hide (fun q hq e => by have h9 : w2.heap.size = q := Option.some.inj hq; omega)
    have HBA := hide ((unhide HB).alloc (unhide HB).size (Obj.cells #[] 9))
    go_wp2_with (((with_reducible show wpList _ _ _ (⟨none, .store 29 _ _, _, _, _, none⟩ :: _) _ _); refine at_storeAgg (us := [.slice none 0 0, .slice none 0 0, .slice none 0 0]) (vs := [.slice none 0 0, .slice none 0 0, .slice none 0 0]) Tryz.sizeOf29 rfl rfl (unhide HKS) rfl (by intro v hv; simp at hv; subst hv; rfl) ?_; intro w9 kb gr; have RKS := hide kb; have HTO := hide ((unhide HTU).far gr (fun q hq e => unhide HNT q hq (Option.some.inj e))); have HBF := hide ((unhide HBA).grown gr (unhide HBA).size (fun k hk => by cases hk; omega)); clear kb gr))
    exact bodyPost_ret (results_cellBB (vs := [.slice none 0 0, .slice none 0 0, .slice none 0 0]) rfl Tryz.isAgg29 Tryz.sizeOf29 rfl (unhide RKS) rfl rfl) rfl ⟨_, rfl, unhide HTO, unhide HBF⟩
  | true =>
  go_wp2_with fail
  refine (l14Names_any ad _ cap rs _ _ _ ts _ ((unhide HR).below (unhide HB)) hl ((unhide HT).below (unhide HB)) hl2).mono ?_
  rintro e w3 ⟨rfl, b⟩
  rw [unhide HCA]
  have HB := hide ((unhide HB).trans (b.mono (unhide HB).size))
  have KR := hide ((unhide KR).below b)
  clear b
  cases ca with
  | false =>
    clear hu
    have HKL := (unhide KR).lt
    have HKS := hide ((unhide KR).alloc (Obj.cells #[] 9))
    have HTU : Hid (OwnE 1 stC (w3.alloc (Obj.cells #[] 9)) w.heap.size 9 (.slice (some ⟨w3.heap.size, 0, none⟩) 0 0) []) := hide (stE_none (unhide HB).size)
    have HNT : Hid (∀ q, (Value.slice (some ⟨w3.heap.size, 0, none⟩) 0 0).ownBlock = some q → q ≠ w.heap.size + 1) := hide (fun q hq e => by have h9 : w3.heap.size = q := Option.some.inj hq; omega)
    have HBA := hide ((unhide HB).alloc (unhide HB).size (Obj.cells #[] 9))
    go_wp2_with (((with_reducible show wpList _ _ _ (⟨none, .store 29 _ _, _, _, _, none⟩ :: _) _ _); refine at_storeAgg (us := [.slice none 0 0, .slice none 0 0, .slice none 0 0]) (vs := [.slice none 0 0, .slice none 0 0, .slice none 0 0]) Tryz.sizeOf29 rfl rfl (unhide HKS) rfl (by intro v hv; simp at hv; subst hv; rfl) ?_; intro w9 kb gr; have RKS := hide kb; have HTO := hide ((unhide HTU).far gr (fun q hq e => unhide HNT q hq (Option.some.inj e))); have HBF := hide ((unhide HBA).grown gr (unhide HBA).size (fun k hk => by cases hk; omega)); clear kb gr))
    exact bodyPost_ret (results_cellBB (vs := [.slice none 0 0, .slice none 0 0, .slice none 0 0]) rfl Tryz.isAgg29 Tryz.sizeOf29 rfl (unhide RKS) rfl rfl) rfl ⟨_, rfl, unhide HTO, unhide HBF⟩
  | true =>
  cases ci with
  | true => cases hu
  | false =>
    clear hu
    have HKL := (unhide KR).lt
    have HKS := hide ((unhide KR).alloc (Obj.cells #[] 9))
    have HTU : Hid (OwnE 1 stC (w3.alloc (Obj.cells #[] 9)) w.heap.size 9 (.slice (some ⟨w3.heap.size, 0, none⟩) 0 0) []) := hide (stE_none (unhide HB).size)
    have HNT : Hid (∀ q, (Value.slice (some ⟨w3.heap.size, 0, none⟩) 0 0).ownBlock = some q → q ≠ w.heap.size + 1) := hide (fun q hq e => by have h9 : w3.heap.size = q := Option.some.inj hq; omega)
    have HBA := hide ((unhide HB).alloc (unhide HB).size (Obj.cells #[] 9))
    go_wp2_with (first | (go_at_call 24; refine (l1In_is _ _ _ _ (unhide HCI)).mono ?_; rintro e w' ⟨rfl, hw⟩; subst w') | ((with_reducible show wpList _ _ _ (⟨none, .store 29 _ _, _, _, _, none⟩ :: _) _ _); refine at_storeAgg (us := [.slice none 0 0, .slice none 0 0, .slice none 0 0]) (vs := [.slice none 0 0, .slice none 0 0, .slice none 0 0]) Tryz.sizeOf29 rfl rfl (unhide HKS) rfl (by intro v hv; simp at hv; subst hv; rfl) ?_; intro w9 kb gr; have RKS := hide kb; have HTO := hide ((unhide HTU).far gr (fun q hq e => unhide HNT q hq (Option.some.inj e))); have HBF := hide ((unhide HBA).grown gr (unhide HBA).size (fun k hk => by cases hk; omega)); clear kb gr))
    exact bodyPost_ret (results_cellBB (vs := [.slice none 0 0, .slice none 0 0, .slice none 0 0]) rfl Tryz.isAgg29 Tryz.sizeOf29 rfl (unhide RKS) rfl rfl) rfl ⟨_, rfl, unhide HTO, unhide HBF⟩

end Go.Proofs.YtbaocifpifbldawGreat

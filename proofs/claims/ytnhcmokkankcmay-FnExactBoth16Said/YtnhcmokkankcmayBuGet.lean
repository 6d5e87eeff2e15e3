/-
  What the model's Get16 answers: a code, and the word of a frame that is well, its bytes in memory of their own. At every list of bytes; nothing that was there is written.
-/
import Derived.Test.YtnhcmokkankcmayBuSpec
import Derived.Test.YtnhcmokkankcmayBuSum
import Derived.Test.YtnhcmokkankcmayBuPut
import Derived.Test.YtnhcmokkankcmayApFar
namespace Go.Proofs.Ytnhcmokkankcmay
open Go.RowKit

/-- The code of a frame; its word. -/
def gtC (zs : List Int) : Int :=
  if zs.length < 4 then 1 else if 32 < elAt zs 2 then 2 else if (zs.length : Int) < elAt zs 2 + 4 then 1 else if elAt zs 2 + 4 < (zs.length : Int) then 2
  else if elAt zs 0 = 0 then 3 else if ¬ elAt zs (zs.length - 1) = smB (zs.take (zs.length - 1)) then 4 else 0
def gtL (zs : List Int) : Int := if gtC zs = 0 then elAt zs 0 else 0
def gtS (zs : List Int) : Int := if gtC zs = 0 then elAt zs 1 else 0
def gtD (zs : List Int) : List Int := if gtC zs = 0 then (zs.drop 3).take (zs.length - 4) else []
theorem gt_no {zs : List Int} {c : Int} (h : gtC zs = c) (hc : ¬ c = 0) : gtL zs = 0 ∧ gtS zs = 0 ∧ gtD zs = [] := by
  subst h
  simp [gtL, gtS, gtD, hc]
theorem ownE_nl {α : Type} [Inhabited α] {K : Nat} {cells : α → Nat → Value} (w : World) (base : Nat) (T : TypeId) : OwnE K cells w base T (.slice none 0 0) ([] : List α) := ⟨⟨[], ⟨by simp, .inl ⟨rfl, rfl⟩⟩, fun j hj => by simp at hj⟩⟩

set_option maxRecDepth 20000 in
set_option maxHeartbeats 1000000 in
theorem specGet16_short (ad : Option Addr) (len cap : Nat) (zs : List Int) (w : World) (hr : RowE 1 byC w ad len zs) (hz : ∀ i, i < len → 0 ≤ elAt zs i ∧ elAt zs i ≤ 255) (h : len < 4) :
    Calls Try.prog 20 #[.slice ad len cap] w fun e w' => ∃ p q, e = .returned (.tuple #[.agg #[.int .i64 (gtL zs), .int .i64 (gtS zs), .slice p (gtD zs).length q], .int .i64 (gtC zs)]) ∧ OwnE 1 byC w' w.heap.size 5 (.slice p (gtD zs).length q) (gtD zs) ∧ Below w.heap.size w w' := by
  have hlen := hr.len_eq
  have hs := hr.small
  have HR := hide hr
  clear hr
  subst hlen
  have HE : Hid (gtC zs = 1) := hide (by unfold gtC; rw [if_pos h])
  rw [(gt_no (unhide HE) (by decide)).1, (gt_no (unhide HE) (by decide)).2.1, (gt_no (unhide HE) (by decide)).2.2, unhide HE]
  have h1 : (zs.length : Int) < 4 := by omega
  go_enter Try.func20, Try.ntmps20
  go_wp2_with fail
  obtain ⟨W, hW⟩ : ∃ W, W = (w.alloc (Obj.cells #[.int .i64 0, .int .i64 0, .slice none 0 0] 27)) := ⟨_, rfl⟩
  rw [← hW]
  have K0 : Hid (Blk W (w.heap.size) [.int .i64 0, .int .i64 0, .slice none 0 0]) := hide (by rw [hW]; exact Blk.new _ _)
  have B0 : Hid (Below w.heap.size w W) := hide (by rw [hW]; exact (by repeat (first | exact Below.refl _ _ | refine Below.alloc ?_ (by simp; try omega) _ | refine Below.setCell ?_ (by simp; try omega) _ | refine taDr ?_ _)))
  clear hW
  obtain ⟨ι, fW, _, hb, hall⟩ := belClass W
  have HB := hide hb
  have HA := hide hall
  have c00 : ∀ x, (fW x).cell? ⟨w.heap.size, 0, none⟩ = some (.int .i64 0) := fun x => ((unhide K0).below (hb x)).c 0 (by simp)
  have c01 : ∀ x, (fW x).cell? ⟨w.heap.size, 1, none⟩ = some (.int .i64 0) := fun x => ((unhide K0).below (hb x)).c 1 (by simp)
  have c02 : ∀ x, (fW x).cell? ⟨w.heap.size, 2, none⟩ = some (.slice none 0 0) := fun x => ((unhide K0).below (hb x)).c 2 (by simp)
  have z0 : ∀ x, (fW x).frozen? ⟨w.heap.size, 0, none⟩ = false := fun x => ((unhide K0).below (hb x)).f 0 (by simp)
  have z1 : ∀ x, (fW x).frozen? ⟨w.heap.size, 1, none⟩ = false := fun x => ((unhide K0).below (hb x)).f 1 (by simp)
  have z2 : ∀ x, (fW x).frozen? ⟨w.heap.size, 2, none⟩ = false := fun x => ((unhide K0).below (hb x)).f 2 (by simp)
  clear hb hall
  obtain ⟨x0, h0⟩ := (unhide HA) W (Below.refl _ _)
  rw [h0]
  clear h0
  go_wp2_with fail
  repeat (refine wp_region_bel (fun w' h => (unhide HA) w' ((unhide HB _).trans (h.mono (unhide HB _).size))) (by kernel_rfl) (by kernel_rfl) ?_; (repeat (go_big_quiet_step (fail))); refine wpQuiet_nil ?_; rintro _ ⟨y, rfl⟩; (first | go_wp2_with (fail) | go_wp2))
  exact bodyPost_ret (results_cellB (vs := [.int .i64 0, .int .i64 0, .slice none 0 0]) rfl Try.isAgg27 Try.sizeOf27 rfl ((unhide K0).below (unhide HB _)) rfl) rfl ⟨none, 0, rfl, ownE_nl _ _ _, ((unhide B0).trans ((unhide HB _).mono (unhide B0).size))⟩

set_option maxRecDepth 20000 in
set_option maxHeartbeats 1000000 in
theorem specGet16_long (ad : Option Addr) (len cap : Nat) (zs : List Int) (w : World) (hr : RowE 1 byC w ad len zs) (hz : ∀ i, i < len → 0 ≤ elAt zs i ∧ elAt zs i ≤ 255) (h0 : ¬ len < 4) (h : 32 < elAt zs 2) :
    Calls Try.prog 20 #[.slice ad len cap] w fun e w' => ∃ p q, e = .returned (.tuple #[.agg #[.int .i64 (gtL zs), .int .i64 (gtS zs), .slice p (gtD zs).length q], .int .i64 (gtC zs)]) ∧ OwnE 1 byC w' w.heap.size 5 (.slice p (gtD zs).length q) (gtD zs) ∧ Below w.heap.size w w' := by
  have hlen := hr.len_eq
  have hs := hr.small
  have HR := hide hr
  clear hr
  subst hlen
  have HE : Hid (gtC zs = 2) := hide (by unfold gtC; rw [if_neg h0, if_pos h])
  rw [(gt_no (unhide HE) (by decide)).1, (gt_no (unhide HE) (by decide)).2.1, (gt_no (unhide HE) (by decide)).2.2, unhide HE]
  have h1 : ¬ (zs.length : Int) < 4 := by omega
  have b0 := hz 0 (by omega)
  have b1 := hz 1 (by omega)
  have b2 := hz 2 (by omega)
  rcases (unhide HR).open1 with ⟨q0, _⟩ | ⟨bb, off, rfl, _, hc⟩
  · omega
  have m0 : (w.alloc (Obj.cells #[.int .i64 0, .int .i64 0, .slice none 0 0] 27)).cell? ⟨bb, off, none⟩ = some (.int .u8 (elAt zs 0)) := ((bel1 _).cell (block_lt_of_cell (hc 0 (by omega)))).trans (hc 0 (by omega))
  have m1 : (w.alloc (Obj.cells #[.int .i64 0, .int .i64 0, .slice none 0 0] 27)).cell? ⟨bb, off + 1, none⟩ = some (.int .u8 (elAt zs 1)) := ((bel1 _).cell (block_lt_of_cell (hc 1 (by omega)))).trans (hc 1 (by omega))
  have m2 : (w.alloc (Obj.cells #[.int .i64 0, .int .i64 0, .slice none 0 0] 27)).cell? ⟨bb, off + 2, none⟩ = some (.int .u8 (elAt zs 2)) := ((bel1 _).cell (block_lt_of_cell (hc 2 (by omega)))).trans (hc 2 (by omega))
  clear hc
  go_enter Try.func20, Try.ntmps20
  go_wp2_with fail
  exact bodyPost_ret (results_cellB (vs := [.int .i64 0, .int .i64 0, .slice none 0 0]) rfl Try.isAgg27 Try.sizeOf27 rfl (Blk.new _ _) rfl) rfl ⟨none, 0, rfl, ownE_nl _ _ _, bel1 _⟩

set_option maxRecDepth 20000 in
set_option maxHeartbeats 1000000 in
theorem specGet16_few (ad : Option Addr) (len cap : Nat) (zs : List Int) (w : World) (hr : RowE 1 byC w ad len zs) (hz : ∀ i, i < len → 0 ≤ elAt zs i ∧ elAt zs i ≤ 255) (h0 : ¬ len < 4) (h2 : ¬ 32 < elAt zs 2) (h : (len : Int) < elAt zs 2 + 4) :
    Calls Try.prog 20 #[.slice ad len cap] w fun e w' => ∃ p q, e = .returned (.tuple #[.agg #[.int .i64 (gtL zs), .int .i64 (gtS zs), .slice p (gtD zs).length q], .int .i64 (gtC zs)]) ∧ OwnE 1 byC w' w.heap.size 5 (.slice p (gtD zs).length q) (gtD zs) ∧ Below w.heap.size w w' := by
  have hlen := hr.len_eq
  have hs := hr.small
  have HR := hide hr
  clear hr
  subst hlen
  have HE : Hid (gtC zs = 1) := hide (by unfold gtC; rw [if_neg h0, if_neg h2, if_pos h])
  rw [(gt_no (unhide HE) (by decide)).1, (gt_no (unhide HE) (by decide)).2.1, (gt_no (unhide HE) (by decide)).2.2, unhide HE]
  have h1 : ¬ (zs.length : Int) < 4 := by omega
  have b0 := hz 0 (by omega)
  have b1 := hz 1 (by omega)
  have b2 := hz 2 (by omega)
  rcases (unhide HR).open1 with ⟨q0, _⟩ | ⟨bb, off, rfl, _, hc⟩
  · omega
  have m0 : (w.alloc (Obj.cells #[.int .i64 0, .int .i64 0, .slice none 0 0] 27)).cell? ⟨bb, off, none⟩ = some (.int .u8 (elAt zs 0)) := ((bel1 _).cell (block_lt_of_cell (hc 0 (by omega)))).trans (hc 0 (by omega))
  have m1 : (w.alloc (Obj.cells #[.int .i64 0, .int .i64 0, .slice none 0 0] 27)).cell? ⟨bb, off + 1, none⟩ = some (.int .u8 (elAt zs 1)) := ((bel1 _).cell (block_lt_of_cell (hc 1 (by omega)))).trans (hc 1 (by omega))
  have m2 : (w.alloc (Obj.cells #[.int .i64 0, .int .i64 0, .slice none 0 0] 27)).cell? ⟨bb, off + 2, none⟩ = some (.int .u8 (elAt zs 2)) := ((bel1 _).cell (block_lt_of_cell (hc 2 (by omega)))).trans (hc 2 (by omega))
  clear hc
  go_enter Try.func20, Try.ntmps20
  go_wp2_with fail
  exact bodyPost_ret (results_cellB (vs := [.int .i64 0, .int .i64 0, .slice none 0 0]) rfl Try.isAgg27 Try.sizeOf27 rfl (Blk.new _ _) rfl) rfl ⟨none, 0, rfl, ownE_nl _ _ _, bel1 _⟩

set_option maxRecDepth 20000 in
set_option maxHeartbeats 1000000 in
theorem specGet16_many (ad : Option Addr) (len cap : Nat) (zs : List Int) (w : World) (hr : RowE 1 byC w ad len zs) (hz : ∀ i, i < len → 0 ≤ elAt zs i ∧ elAt zs i ≤ 255) (h0 : ¬ len < 4) (h2 : ¬ 32 < elAt zs 2) (h3 : ¬ (len : Int) < elAt zs 2 + 4) (h : elAt zs 2 + 4 < (len : Int)) :
    Calls Try.prog 20 #[.slice ad len cap] w fun e w' => ∃ p q, e = .returned (.tuple #[.agg #[.int .i64 (gtL zs), .int .i64 (gtS zs), .slice p (gtD zs).length q], .int .i64 (gtC zs)]) ∧ OwnE 1 byC w' w.heap.size 5 (.slice p (gtD zs).length q) (gtD zs) ∧ Below w.heap.size w w' := by
  have hlen := hr.len_eq
  have hs := hr.small
  have HR := hide hr
  clear hr
  subst hlen
  have HE : Hid (gtC zs = 2) := hide (by unfold gtC; rw [if_neg h0, if_neg h2, if_neg h3, if_pos h])
  rw [(gt_no (unhide HE) (by decide)).1, (gt_no (unhide HE) (by decide)).2.1, (gt_no (unhide HE) (by decide)).2.2, unhide HE]
  have h1 : ¬ (zs.length : Int) < 4 := by omega
  have b0 := hz 0 (by omega)
  have b1 := hz 1 (by omega)
  have b2 := hz 2 (by omega)
  rcases (unhide HR).open1 with ⟨q0, _⟩ | ⟨bb, off, rfl, _, hc⟩
  · omega
  have m0 : (w.alloc (Obj.cells #[.int .i64 0, .int .i64 0, .slice none 0 0] 27)).cell? ⟨bb, off, none⟩ = some (.int .u8 (elAt zs 0)) := ((bel1 _).cell (block_lt_of_cell (hc 0 (by omega)))).trans (hc 0 (by omega))
  have m1 : (w.alloc (Obj.cells #[.int .i64 0, .int .i64 0, .slice none 0 0] 27)).cell? ⟨bb, off + 1, none⟩ = some (.int .u8 (elAt zs 1)) := ((bel1 _).cell (block_lt_of_cell (hc 1 (by omega)))).trans (hc 1 (by omega))
  have m2 : (w.alloc (Obj.cells #[.int .i64 0, .int .i64 0, .slice none 0 0] 27)).cell? ⟨bb, off + 2, none⟩ = some (.int .u8 (elAt zs 2)) := ((bel1 _).cell (block_lt_of_cell (hc 2 (by omega)))).trans (hc 2 (by omega))
  clear hc
  go_enter Try.func20, Try.ntmps20
  go_wp2_with fail
  exact bodyPost_ret (results_cellB (vs := [.int .i64 0, .int .i64 0, .slice none 0 0]) rfl Try.isAgg27 Try.sizeOf27 rfl (Blk.new _ _) rfl) rfl ⟨none, 0, rfl, ownE_nl _ _ _, bel1 _⟩

set_option maxRecDepth 20000 in
set_option maxHeartbeats 1000000 in
theorem specGet16_link (ad : Option Addr) (len cap : Nat) (zs : List Int) (w : World) (hr : RowE 1 byC w ad len zs) (hz : ∀ i, i < len → 0 ≤ elAt zs i ∧ elAt zs i ≤ 255) (h0 : ¬ len < 4) (h2 : ¬ 32 < elAt zs 2) (h3 : ¬ (len : Int) < elAt zs 2 + 4) (h4 : ¬ elAt zs 2 + 4 < (len : Int)) (h : elAt zs 0 = 0) :
    Calls Try.prog 20 #[.slice ad len cap] w fun e w' => ∃ p q, e = .returned (.tuple #[.agg #[.int .i64 (gtL zs), .int .i64 (gtS zs), .slice p (gtD zs).length q], .int .i64 (gtC zs)]) ∧ OwnE 1 byC w' w.heap.size 5 (.slice p (gtD zs).length q) (gtD zs) ∧ Below w.heap.size w w' := by
  have hlen := hr.len_eq
  have hs := hr.small
  have HR := hide hr
  clear hr
  subst hlen
  have HE : Hid (gtC zs = 3) := hide (by unfold gtC; rw [if_neg h0, if_neg h2, if_neg h3, if_neg h4, if_pos h])
  rw [(gt_no (unhide HE) (by decide)).1, (gt_no (unhide HE) (by decide)).2.1, (gt_no (unhide HE) (by decide)).2.2, unhide HE]
  have h1 : ¬ (zs.length : Int) < 4 := by omega
  have b0 := hz 0 (by omega)
  have b1 := hz 1 (by omega)
  have b2 := hz 2 (by omega)
  rcases (unhide HR).open1 with ⟨q0, _⟩ | ⟨bb, off, rfl, _, hc⟩
  · omega
  have m0 : (w.alloc (Obj.cells #[.int .i64 0, .int .i64 0, .slice none 0 0] 27)).cell? ⟨bb, off, none⟩ = some (.int .u8 (elAt zs 0)) := ((bel1 _).cell (block_lt_of_cell (hc 0 (by omega)))).trans (hc 0 (by omega))
  have m1 : (w.alloc (Obj.cells #[.int .i64 0, .int .i64 0, .slice none 0 0] 27)).cell? ⟨bb, off + 1, none⟩ = some (.int .u8 (elAt zs 1)) := ((bel1 _).cell (block_lt_of_cell (hc 1 (by omega)))).trans (hc 1 (by omega))
  have m2 : (w.alloc (Obj.cells #[.int .i64 0, .int .i64 0, .slice none 0 0] 27)).cell? ⟨bb, off + 2, none⟩ = some (.int .u8 (elAt zs 2)) := ((bel1 _).cell (block_lt_of_cell (hc 2 (by omega)))).trans (hc 2 (by omega))
  clear hc
  go_enter Try.func20, Try.ntmps20
  rw [h] at m0
  have HH := hide h
  clear h
  go_wp2_with fail
  exact bodyPost_ret (results_cellB (vs := [.int .i64 0, .int .i64 0, .slice none 0 0]) rfl Try.isAgg27 Try.sizeOf27 rfl (Blk.new _ _) rfl) rfl ⟨none, 0, rfl, ownE_nl _ _ _, bel1 _⟩

theorem elAt_takeB (zs : List Int) (k i : Nat) (h : i < k) : elAt (zs.take k) i = elAt zs i := by simp [elAt, h]
theorem rowE_takeB {w : World} {a : Option Addr} {len : Nat} {zs : List Int} (h : RowE 1 byC w a len zs) (k : Nat) (hk : k ≤ len) : RowE 1 byC w a k (zs.take k) := by
  have hz := h.len_eq
  have hs := h.small
  refine ⟨by simp; omega, by omega, fun i hi => ?_⟩
  obtain ⟨b, off, ha, hc⟩ := h.at_ i (by omega)
  exact ⟨b, off, ha, fun q hq => by rw [elAt_takeB zs k i hi]; exact hc q hq⟩
theorem rowE_dropB {w : World} {b off len : Nat} {zs : List Int} (h : RowE 1 byC w (some ⟨b, off, none⟩) len zs) (d k : Nat) (hk : d + k ≤ len) : RowE 1 byC w (some ⟨b, off + d, none⟩) k ((zs.drop d).take k) := by
  have hz := h.len_eq
  have hs := h.small
  refine ⟨by simp; omega, by omega, fun i hi => ⟨b, off + d, rfl, fun q hq => ?_⟩⟩
  obtain ⟨b', off', ha, hc⟩ := h.at_ (d + i) (by omega)
  simp only [Option.some.injEq, Addr.mk.injEq, and_true] at ha
  obtain ⟨rfl, rfl⟩ := ha
  have e : elAt ((zs.drop d).take k) i = elAt zs (d + i) := by simp [elAt, hi, List.getElem?_drop]
  rw [e]
  have := hc q hq
  rw [show off + d + i * 1 + q = off + (d + i) * 1 + q by omega]
  exact this

set_option maxRecDepth 20000 in
set_option maxHeartbeats 1000000 in
theorem specGet16_sum (ad : Option Addr) (len cap : Nat) (zs : List Int) (w : World) (hr : RowE 1 byC w ad len zs) (hz : ∀ i, i < len → 0 ≤ elAt zs i ∧ elAt zs i ≤ 255) (hcap : len ≤ cap) (h0 : ¬ len < 4) (h2 : ¬ 32 < elAt zs 2) (h3 : ¬ (len : Int) < elAt zs 2 + 4) (h4 : ¬ elAt zs 2 + 4 < (len : Int)) (h5 : ¬ elAt zs 0 = 0) (h : ¬ elAt zs (len - 1) = smB (zs.take (len - 1))) :
    Calls Try.prog 20 #[.slice ad len cap] w fun e w' => ∃ p q, e = .returned (.tuple #[.agg #[.int .i64 (gtL zs), .int .i64 (gtS zs), .slice p (gtD zs).length q], .int .i64 (gtC zs)]) ∧ OwnE 1 byC w' w.heap.size 5 (.slice p (gtD zs).length q) (gtD zs) ∧ Below w.heap.size w w' := by
  have hlen := hr.len_eq
  have hs := hr.small
  have HR := hide hr
  clear hr
  subst hlen
  have HE : Hid (gtC zs = 4) := hide (by unfold gtC; rw [if_neg h0, if_neg h2, if_neg h3, if_neg h4, if_neg h5, if_pos h])
  rw [(gt_no (unhide HE) (by decide)).1, (gt_no (unhide HE) (by decide)).2.1, (gt_no (unhide HE) (by decide)).2.2, unhide HE]
  obtain ⟨N, hNN⟩ : ∃ N, zs.length - 1 = N := ⟨_, rfl⟩
  rw [hNN] at h
  have hN0 : (0 : Int) ≤ (N : Int) := by omega
  have hN1 : (N : Int) < (zs.length : Int) := by omega
  have hsub : (zs.length : Int) - 1 = (N : Int) := by omega
  have hNc : (N : Int) ≤ (cap : Int) := by omega
  have bN := hz N (by omega)
  obtain ⟨sm, hsm⟩ : ∃ z, smB (zs.take N) = z := ⟨_, rfl⟩
  rw [hsm] at h
  have HSM := hide hsm
  have HNN := hide hNN
  have HRT := hide (rowE_takeB (unhide HR) N (by omega))
  clear hsm hNN
  have h1 : ¬ (zs.length : Int) < 4 := by omega
  have b0 := hz 0 (by omega)
  have b1 := hz 1 (by omega)
  have b2 := hz 2 (by omega)
  rcases (unhide HR).open1 with ⟨q0, _⟩ | ⟨bb, off, rfl, _, hc⟩
  · omega
  have m0 : (w.alloc (Obj.cells #[.int .i64 0, .int .i64 0, .slice none 0 0] 27)).cell? ⟨bb, off, none⟩ = some (.int .u8 (elAt zs 0)) := ((bel1 _).cell (block_lt_of_cell (hc 0 (by omega)))).trans (hc 0 (by omega))
  have m1 : (w.alloc (Obj.cells #[.int .i64 0, .int .i64 0, .slice none 0 0] 27)).cell? ⟨bb, off + 1, none⟩ = some (.int .u8 (elAt zs 1)) := ((bel1 _).cell (block_lt_of_cell (hc 1 (by omega)))).trans (hc 1 (by omega))
  have m2 : (w.alloc (Obj.cells #[.int .i64 0, .int .i64 0, .slice none 0 0] 27)).cell? ⟨bb, off + 2, none⟩ = some (.int .u8 (elAt zs 2)) := ((bel1 _).cell (block_lt_of_cell (hc 2 (by omega)))).trans (hc 2 (by omega))
  have m3 : (w.alloc (Obj.cells #[.int .i64 0, .int .i64 0, .slice none 0 0] 27)).cell? ⟨bb, off + N, none⟩ = some (.int .u8 (elAt zs N)) := ((bel1 _).cell (block_lt_of_cell (hc N (by omega)))).trans (hc N (by omega))
  clear hc
  have h7 : (elAt zs N != sm) = true := by simpa using h
  go_enter Try.func20, Try.ntmps20
  go_wp2_with fail
  obtain ⟨V, hV⟩ : ∃ V, V = (w.alloc (Obj.cells #[.int .i64 0, .int .i64 0, .slice none 0 0] 27)) := ⟨_, rfl⟩
  rw [← hV]
  have B0 : Hid (Below w.heap.size w V) := hide (by rw [hV]; exact bel1 _)
  have K0 : Hid (Blk V w.heap.size [.int .i64 0, .int .i64 0, .slice none 0 0]) := hide (by rw [hV]; exact Blk.new _ _)
  rw [← hV] at m0 m1 m2 m3
  clear hV
  obtain ⟨ι, fW, _, hb, hall⟩ := belClass V
  have HB := hide hb
  have HA := hide hall
  have c00 : ∀ x, (fW x).cell? ⟨w.heap.size, 0, none⟩ = some (.int .i64 0) := fun x => ((unhide K0).below (hb x)).c 0 (by simp)
  have c01 : ∀ x, (fW x).cell? ⟨w.heap.size, 1, none⟩ = some (.int .i64 0) := fun x => ((unhide K0).below (hb x)).c 1 (by simp)
  have c02 : ∀ x, (fW x).cell? ⟨w.heap.size, 2, none⟩ = some (.slice none 0 0) := fun x => ((unhide K0).below (hb x)).c 2 (by simp)
  have z0 : ∀ x, (fW x).frozen? ⟨w.heap.size, 0, none⟩ = false := fun x => ((unhide K0).below (hb x)).f 0 (by simp)
  have z1 : ∀ x, (fW x).frozen? ⟨w.heap.size, 1, none⟩ = false := fun x => ((unhide K0).below (hb x)).f 1 (by simp)
  have z2 : ∀ x, (fW x).frozen? ⟨w.heap.size, 2, none⟩ = false := fun x => ((unhide K0).below (hb x)).f 2 (by simp)
  have n0 : ∀ x, (fW x).cell? ⟨bb, off, none⟩ = some (.int .u8 (elAt zs 0)) := fun x => ((hb x).cell (block_lt_of_cell m0)).trans m0
  have n1 : ∀ x, (fW x).cell? ⟨bb, off + 1, none⟩ = some (.int .u8 (elAt zs 1)) := fun x => ((hb x).cell (block_lt_of_cell m1)).trans m1
  have n2 : ∀ x, (fW x).cell? ⟨bb, off + 2, none⟩ = some (.int .u8 (elAt zs 2)) := fun x => ((hb x).cell (block_lt_of_cell m2)).trans m2
  have n3 : ∀ x, (fW x).cell? ⟨bb, off + N, none⟩ = some (.int .u8 (elAt zs N)) := fun x => ((hb x).cell (block_lt_of_cell m3)).trans m3
  have HRT : Hid (∀ x, RowE 1 byC (fW x) (some ⟨bb, off, none⟩) N (zs.take N)) := hide (fun x => (unhide HRT).below ((unhide B0).trans ((hb x).mono (unhide B0).size)))
  clear hb hall m0 m1 m2 m3
  obtain ⟨x0, h0⟩ := (unhide HA) V (Below.refl _ _)
  rw [h0]
  clear h0
  repeat (refine wp_region_bel (fun w' h => (unhide HA) w' ((unhide HB _).trans (h.mono (unhide HB _).size))) (by kernel_rfl) (by kernel_rfl) ?_; (repeat (go_big_quiet_step (first | (go_at_call 42; exact belN (unhide HB) (unhide HA) (l16Sum_is _ _ _ (zs.take N) _ (unhide HRT _) (unhide HSM)))))); refine wpQuiet_nil ?_; rintro _ ⟨y, rfl⟩; (first | go_wp2_with (first | (go_at_call 42; refine (belN (unhide HB) (unhide HA) (l16Sum_is _ _ _ (zs.take N) _ (unhide HRT _) (unhide HSM))).mono ?_; rintro e _ ⟨rfl, y, rfl⟩)) | go_wp2))
  exact bodyPost_ret (results_cellB (vs := [.int .i64 0, .int .i64 0, .slice none 0 0]) rfl Try.isAgg27 Try.sizeOf27 rfl (((((unhide K0).below (unhide HB _)).set 0 (by simp) _).set 1 (by simp) _).set 2 (by simp) _) rfl) rfl ⟨none, 0, rfl, ownE_nl _ _ _, (((((unhide B0).trans ((unhide HB _).mono (unhide B0).size)).setCell (p := ⟨w.heap.size, 0, none⟩) (by simp) _).setCell (p := ⟨w.heap.size, 1, none⟩) (by simp) _).setCell (p := ⟨w.heap.size, 2, none⟩) (by simp) _)⟩

end Go.Proofs.Ytnhcmokkankcmay

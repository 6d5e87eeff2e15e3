/-
  Where a window fits into a plan, in plain numbers and lists. No program here.
  A plan's copy in the program: its windows in memory of their own. At lists of at most 1048576; nothing that was there is written.
  Where a window fits, in the program: the plain answer, at every plan that is so; nothing that was there is written.
-/
import Derived.Test.YtndhiecakojjgafPure1
import Derived.Test.YtndhiecakojjgafInsW
import Derived.Test.YtndhiecakojjgafAppM
import Derived.Test.YtndhiecakojjgafSq1

namespace Go.Proofs.Ytndhiecakojjgaf
open Go

/-- Where the window at place k starts, the frame's end behind the last. -/
def ftN (fr : Int) (ws : List Wn) (k : Nat) : Int := if k < ws.length then (elAt ws k).a1 else fr
/-- Whether so long a window fits ahead of place k. -/
def ftG (fr : Int) (ws : List Wn) (lg : Int) (k : Nat) : Bool := decide (pwE ws k + lg ≤ ftN fr ws k)
/-- The first such place, or one more than there are. -/
def ftK (fr : Int) (ws : List Wn) (lg : Int) : Nat := ((List.range (ws.length + 1)).find? fun k => ftG fr ws lg k).getD (ws.length + 1)
def ftA (fr pa : Int) (ws : List Wn) (p lg : Int) : Bool := ppB fr pa ws && !decide (ws.length = 40) && inB p 0 (pa - 1) && inB lg 1 10000
def ftB (fr pa : Int) (ws : List Wn) (p lg : Int) : Bool := ftA fr pa ws p lg && decide (ftK fr ws lg ≤ ws.length)
def ftL (fr pa : Int) (ws : List Wn) (p lg : Int) : List Wn :=
  if ftB fr pa ws p lg = true then ws.take (ftK fr ws lg) ++ ([⟨p, pwE ws (ftK fr ws lg), lg⟩] ++ ws.drop (ftK fr ws lg)) else ws
theorem ftK_at {fr lg : Int} {ws : List Wn} {k : Nat} (hk : k ≤ ws.length) (h : ftG fr ws lg k = true) (hb : ∀ j, j < k → ftG fr ws lg j = false) : ftK fr ws lg = k := by
  have : (List.range (ws.length + 1)).find? (fun k => ftG fr ws lg k) = some k := by
    rw [List.find?_range_eq_some]
    exact ⟨h, by simp; omega, fun j hj => by simpa using hb j hj⟩
  unfold ftK; rw [this]; rfl
theorem ftK_none {fr lg : Int} {ws : List Wn} (hb : ∀ j, j ≤ ws.length → ftG fr ws lg j = false) : ftK fr ws lg = ws.length + 1 := by
  have : (List.range (ws.length + 1)).find? (fun k => ftG fr ws lg k) = none := by
    rw [List.find?_eq_none]
    intro i hi
    simpa using hb i (by have := List.mem_range.1 hi; omega)
  unfold ftK; rw [this]; rfl
theorem ft_no {fr pa p lg : Int} {ws : List Wn} (h : ftA fr pa ws p lg = false) : ftB fr pa ws p lg = false ∧ ftL fr pa ws p lg = ws := by
  have e : ftB fr pa ws p lg = false := by simp [ftB, h]
  exact ⟨e, by simp [ftL, e]⟩
theorem ft_at {fr pa p lg : Int} {ws : List Wn} {k : Nat} (h : ftA fr pa ws p lg = true) (hk : k ≤ ws.length) (e : ftK fr ws lg = k) : ftB fr pa ws p lg = true ∧ ftL fr pa ws p lg = ws.take k ++ ([⟨p, pwE ws k, lg⟩] ++ ws.drop k) := by
  have e1 : ftB fr pa ws p lg = true := by simp [ftB, h, e, hk]
  exact ⟨e1, by simp [ftL, e1, e]⟩
theorem ft_none {fr pa p lg : Int} {ws : List Wn} (e : ftK fr ws lg = ws.length + 1) : ftB fr pa ws p lg = false ∧ ftL fr pa ws p lg = ws := by
  have e1 : ftB fr pa ws p lg = false := by simp [ftB, e]
  exact ⟨e1, by simp [ftL, e1]⟩
theorem ftA_facts {fr pa p lg : Int} {ws : List Wn} (h : ftA fr pa ws p lg = true) : ppB fr pa ws = true ∧ ws.length ≠ 40 ∧ inB p 0 (pa - 1) = true ∧ inB lg 1 10000 = true := by
  simp only [ftA, Bool.and_eq_true, Bool.not_eq_true', decide_eq_false_iff_not] at h
  exact ⟨h.1.1.1, h.1.1.2, h.1.2, h.2⟩
/-- The ends lie in the frame. -/
theorem pwE_in {fr pa : Int} {ws : List Wn} (h : ppB fr pa ws = true) : ∀ k, k ≤ ws.length → 0 ≤ pwE ws k ∧ pwE ws k ≤ 100000
  | 0, _ => by simp [pwE]
  | k + 1, hk => by
    have q := ppB_all h (show k < ws.length by omega)
    have f := (ppB_facts h).1
    show 0 ≤ (elAt ws k).a1 + (elAt ws k).a2 ∧ (elAt ws k).a1 + (elAt ws k).a2 ≤ 100000
    omega

end Go.Proofs.Ytndhiecakojjgaf

namespace Go.Proofs.Ytndhiecakojjgaf
open Go.RowKit

theorem own_shape {w : World} {base : Nat} {T : TypeId} {v v0 : Value} {ps : List Wn} (h : OwnE 3 wnC w base T v ps) (hn : v = .slice none 0 0 → v0 = .slice none 0 0) (h0 : v0 ≠ .slice none 0 0) : ∃ g cp, v = .slice (some ⟨g, 0, none⟩) ps.length cp ∧ base ≤ g := by
  rcases h.form with ⟨e, _⟩ | ⟨g, cp, e, hb, _⟩
  · exact absurd (hn e) h0
  · exact ⟨g, cp, e, hb⟩

set_option maxRecDepth 20000 in
set_option maxHeartbeats 2000000 in
theorem copied17_is (fr pa : Int) (da : Option Addr) (dn dc : Nat) (ws : List Wn) (w : World) (hl : dn ≤ 1048576) (hr : RowE 3 wnC w da dn ws) :
    Calls Try.prog 56 #[.agg #[.int .i64 fr, .int .i64 pa, .slice da dn dc]] w fun e w' => ∃ g cp : Nat, e = .returned (.agg #[.int .i64 fr, .int .i64 pa, .slice (some ⟨g, 0, none⟩) ws.length cp]) ∧ OwnE 3 wnC w' w.heap.size 91 (.slice (some ⟨g, 0, none⟩) ws.length cp) ws ∧ Below w.heap.size w w' := by
  have hz := hr.len_eq
  subst hz
  obtain ⟨W, hW⟩ : ∃ W, W = (w.alloc (Obj.cells #[.int .i64 fr, .int .i64 pa, .slice da ws.length dc] 53)).alloc (Obj.cells #[.int .i64 0, .int .i64 0, .slice none 0 0] 53) := ⟨_, rfl⟩
  have hWs : W.heap.size = w.heap.size + 2 := by rw [hW]; simp
  have KP : Hid (Blk W w.heap.size [.int .i64 fr, .int .i64 pa, .slice da ws.length dc]) := hide (by rw [hW]; exact blkAt2_0)
  have KR : Hid (Blk W (w.heap.size + 1) [.int .i64 0, .int .i64 0, .slice none 0 0]) := hide (by rw [hW]; exact blkAt2_1)
  have B0 : Hid (Below w.heap.size w W) := hide (by rw [hW]; exact bel2 _ _)
  obtain ⟨V, hV⟩ : ∃ V, V = W.alloc (Obj.cells #[] 91) := ⟨_, rfl⟩
  have bV : Below W.heap.size W V := by rw [hV]; exact bel1 _
  have OV : Hid (OwnE 3 wnC V W.heap.size 91 (.slice (some ⟨W.heap.size, 0, none⟩) 0 0) []) := hide (by rw [hV]; exact ownE_none (Nat.le_refl _))
  have RV : Hid (RowE 3 wnC V da ws.length ws) := hide ((hr.below (unhide B0)).below bV)
  have SV : Hid (W.heap.size ≤ V.heap.size) := hide bV.size
  have KP := hide ((unhide KP).below bV)
  have KR := hide ((unhide KR).below bV)
  have B0 := hide ((unhide B0).trans (bV.mono (unhide B0).size))
  have n1 : W.cell? ⟨w.heap.size, 2, none⟩ = some (.slice da ws.length dc) := by rw [hW]; exact (blkAt2_0 (v1 := [.int .i64 fr, .int .i64 pa, .slice da ws.length dc])).c 2 (by simp)
  have n2 : V.cell? ⟨w.heap.size, 2, none⟩ = some (.slice da ws.length dc) := (unhide KP).c 2 (by simp)
  have HW := hide hW
  have HV := hide hV
  have HWS := hide hWs
  have HH : Hid (w.heap.size + 1 + 1 = W.heap.size) := hide (by omega)
  clear hW hV bV hr hWs
  rw [unhide HV] at n2 OV RV SV KP KR B0
  go_enter Try.func56, Try.ntmps56
  go_upto_region 1 with fail
  rw [← unhide HW]
  clear HW
  go_upto_region 2 with (at_builtin; (refine wpList_app_elsM (K := 3) (cells := wnC) (by kernel_rfl) _ _ 51 91 rfl Try.underlying51 infoWn rfl (by decide) (by decide) wnCell1 (unhide OV) rfl da ws.length dc ws rfl (unhide RV) (by simp; omega) (unhide SV) ?_; intro v9 w9 o9 gr9 nn9; obtain ⟨g, cp, rfl, hbg⟩ := own_shape o9 nn9 (by simp); rw [List.nil_append] at o9; have hnp : some w.heap.size ≠ (Value.slice (some ⟨W.heap.size, 0, none⟩) 0 0).ownBlock := (by simp [Value.ownBlock, unhide HWS]); have hnr : some (w.heap.size + 1) ≠ (Value.slice (some ⟨W.heap.size, 0, none⟩) 0 0).ownBlock := (by simp [Value.ownBlock, unhide HWS]); have KP9 := hide ((unhide KP).apart gr9 hnp); have KR9 := hide ((unhide KR).apart gr9 hnr); have B9 := hide ((unhide B0).grown gr9 (unhide B0).size (fun q hq => by simp [Value.ownBlock] at hq; have := unhide HWS; omega)); have O9 := hide o9; have HBG : Hid (w.heap.size + 2 ≤ g) := hide (by have := unhide HWS; omega); have y1 : w9.cell? ⟨w.heap.size, 2, none⟩ = some (.slice da ws.length dc) := (unhide KP9).c 2 (by simp); have y2 : w9.frozen? ⟨w.heap.size, 2, none⟩ = false := (unhide KP9).f 2 (by simp); clear o9 gr9 nn9 hnp hnr hbg))
  obtain ⟨U, hU⟩ : ∃ U, U = w9.setCell ⟨w.heap.size, 2, none⟩ (.slice (some ⟨g, 0, none⟩) ws.length cp) := ⟨_, rfl⟩
  have KPU : Hid (Blk U w.heap.size [.int .i64 fr, .int .i64 pa, .slice (some ⟨g, 0, none⟩) ws.length cp]) := hide (by rw [hU]; exact (unhide KP9).set 2 (by simp) _)
  have KRU : Hid (Blk U (w.heap.size + 1) [.int .i64 0, .int .i64 0, .slice none 0 0]) := hide (by rw [hU]; exact (unhide KR9).other (p := ⟨w.heap.size, 2, none⟩) (by show w.heap.size ≠ w.heap.size + 1; omega) _)
  have OU : Hid (OwnE 3 wnC U W.heap.size 91 (.slice (some ⟨g, 0, none⟩) ws.length cp) ws) := hide (by rw [hU]; exact (unhide O9).set_other _ (by intro e; simp [Value.ownBlock] at e; have := unhide HBG; omega))
  have BU : Hid (Below w.heap.size w U) := hide (by rw [hU]; exact (unhide B9).setCell (p := ⟨w.heap.size, 2, none⟩) (by simp) _)
  rw [← hU]
  clear hU y1 y2 KP9 KR9 O9 B9 n1 n2
  have p0 : U.cell? ⟨w.heap.size, 0, none⟩ = some (.int .i64 fr) := (unhide KPU).c 0 (by simp)
  have p1 : U.cell? ⟨w.heap.size, 1, none⟩ = some (.int .i64 pa) := (unhide KPU).c 1 (by simp)
  have p2 : U.cell? ⟨w.heap.size, 2, none⟩ = some (.slice (some ⟨g, 0, none⟩) ws.length cp) := (unhide KPU).c 2 (by simp)
  go_wp2_with (((with_reducible show wpList _ _ _ (⟨none, .store 53 _ _, _, _, _, none⟩ :: _) _ _); refine at_storeAgg (us := [.int .i64 0, .int .i64 0, .slice none 0 0]) (vs := [.int .i64 fr, .int .i64 pa, .slice (some ⟨g, 0, none⟩) ws.length cp]) Try.sizeOf53 rfl rfl (unhide KRU) rfl (fun v hv => by simp at hv; rcases hv with rfl | rfl | rfl <;> rfl) ?_; intro w2 k2 g2; have K2 := hide k2; have G2 := hide g2; clear k2 g2))
  refine bodyPost_ret (results_cell (vs := [.int .i64 fr, .int .i64 pa, .slice (some ⟨g, 0, none⟩) ws.length cp]) rfl Try.isAgg53 Try.sizeOf53 rfl (unhide K2)) rfl ⟨g, cp, rfl, ?_, ?_⟩
  · exact ((unhide OU).far (unhide G2) (fun q hq => by simp [Value.ownBlock] at hq; have := unhide HBG; simp; omega)).mono (by have := unhide HWS; omega)
  · exact (unhide BU).grown (unhide G2) (unhide BU).size (fun q hq => by simp at hq; omega)

end Go.Proofs.Ytndhiecakojjgaf

namespace Go.Proofs.Ytndhiecakojjgaf
open Go.RowKit

/-- The place that is told: where it fits, or how many windows there are. -/
def ftP (fr : Int) (ws : List Wn) (lg : Int) : Nat := if ftK fr ws lg ≤ ws.length then ftK fr ws lg else ws.length
theorem ftP_at {fr lg : Int} {ws : List Wn} {k : Nat} (hk : k ≤ ws.length) (h : ftG fr ws lg k = true) (hb : ∀ j, j < k → ftG fr ws lg j = false) : ftP fr ws lg = k ∧ decide (ftK fr ws lg ≤ ws.length) = true := by
  have e := ftK_at hk h hb
  rw [ftP, e, if_pos hk]
  exact ⟨rfl, decide_eq_true hk⟩
theorem ftP_none {fr lg : Int} {ws : List Wn} (hb : ∀ j, j ≤ ws.length → ftG fr ws lg j = false) : ftP fr ws lg = ws.length ∧ decide (ftK fr ws lg ≤ ws.length) = false := by
  have e := ftK_none hb
  rw [ftP, e, if_neg (by omega)]
  exact ⟨rfl, decide_eq_false (by omega)⟩
theorem ret_ff {a b a' b' : Int} {c c' : Bool} (h1 : a = a') (h2 : b = b') (h3 : c = c') : Ending.returned (.tuple #[.int .i64 a, .int .i64 b, .bool c]) = .returned (.tuple #[.int .i64 a', .int .i64 b', .bool c']) := by rw [h1, h2, h3]

set_option maxRecDepth 20000 in
set_option maxHeartbeats 2000000 in
theorem freeFor_is {K : Nat} {b : Bool} (fr pa : Int) (da : Option Addr) (dn dc : Nat) (ws : List Wn) (lg : Int) (w : World) (hr : RowE 3 wnC w da dn ws) (hp : ppB fr pa ws = true) (hlg : 1 ≤ lg ∧ lg ≤ 10000) (hK : ftP fr ws lg = K) (hb : decide (ftK fr ws lg ≤ ws.length) = b) :
    Calls Try.prog 58 #[.agg #[.int .i64 fr, .int .i64 pa, .slice da dn dc], .int .i64 lg] w fun e w' => e = .returned (.tuple #[.int .i64 (pwE ws K), .int .i64 (K : Int), .bool b]) ∧ Below w.heap.size w w' := by
  have hz := hr.len_eq
  have hs := hr.small
  have HR := hide hr
  clear hr
  subst hz
  obtain ⟨W, hW⟩ : ∃ W, W = w.alloc (Obj.cells #[.int .i64 fr, .int .i64 pa, .slice da ws.length dc] 53) := ⟨_, rfl⟩
  have K0 : Hid (Blk W w.heap.size [.int .i64 fr, .int .i64 pa, .slice da ws.length dc]) := hide (by rw [hW]; exact Blk.new _ _)
  have B0 : Hid (Below w.heap.size w W) := hide (by rw [hW]; exact bel1 _)
  have HW := hide hW
  clear hW
  have HKK := hide hK
  have HBB := hide hb
  have HPP := hide hp
  have f0 := ppB_facts hp
  have f1 := f0.1
  have l1 := f0.2.2.1
  clear hK hb hp f0
  go_enter Try.func58, Try.ntmps58
  go_upto_region 1 with fail
  rw [← unhide HW]
  clear HW
  have p0 : W.cell? ⟨w.heap.size, 0, none⟩ = some (.int .i64 fr) := (unhide K0).c 0 (by simp)
  have p1 : W.cell? ⟨w.heap.size, 1, none⟩ = some (.int .i64 pa) := (unhide K0).c 1 (by simp)
  have p2 : W.cell? ⟨w.heap.size, 2, none⟩ = some (.slice da ws.length dc) := (unhide K0).c 2 (by simp)
  go_wp2_with fail
  clear p0 p1 p2
  go_loopw [7, 13] (fun s7 s13 wr => ∃ (k : Nat) (E : Int), k ≤ ws.length ∧ s7 = .int .i64 E ∧ s13 = .int .i64 (k : Int) ∧ (0 ≤ E ∧ E ≤ 100000) ∧ Hid (pwE ws k = E) ∧ Hid (∀ j, j < k → ftG fr ws lg j = false) ∧ Hid (Blk wr w.heap.size [.int .i64 fr, .int .i64 pa, .slice da ws.length dc]) ∧ Hid (Below w.heap.size w wr)) (fun _ s13 _ => ws.length - (intOf s13).toNat)
  case atStart => exact ⟨0, 0, Nat.zero_le _, rfl, rfl, by omega, hide rfl, hide (fun j hj => by omega), K0, B0⟩
  case round =>
    clear K0 B0
    obtain ⟨k, E, hk, rfl, rfl, hE, HPE, HJ, KB0, BB⟩ := hrel
    by_cases hlt : k < ws.length
    · have hall := ppB_all (unhide HPP) hlt
      rcases ((unhide HR).below (unhide BB)).wn3 with ⟨z0, _⟩ | ⟨bb, off, rfl, _, hcs⟩
      · omega
      have m0 := (hcs k hlt).1
      have m1 := (hcs k hlt).2.1
      have m2 := (hcs k hlt).2.2
      obtain ⟨x0, hx0⟩ : ∃ z, (elAt ws k).a0 = z := ⟨_, rfl⟩
      obtain ⟨x1, hx1⟩ : ∃ z, (elAt ws k).a1 = z := ⟨_, rfl⟩
      obtain ⟨x2, hx2⟩ : ∃ z, (elAt ws k).a2 = z := ⟨_, rfl⟩
      have hxx : elAt ws k = ⟨x0, x1, x2⟩ := by rw [← hx0, ← hx1, ← hx2]
      rw [hx0] at m0
      rw [hx1] at m1
      rw [hx2] at m2
      have k0 : (0 : Int) ≤ (k : Int) := by omega
      have k1 : (k : Int) < (ws.length : Int) := by omega
      obtain ⟨V, hV⟩ : ∃ V, V = wr.alloc (Obj.cells #[.int .i64 x0, .int .i64 x1, .int .i64 x2] 91) := ⟨_, rfl⟩
      have bV : Below wr.heap.size wr V := by rw [hV]; exact bel1 _
      have K0 := hide ((unhide KB0).below bV)
      have BV := hide ((unhide BB).trans (bV.mono (unhide BB).size))
      have K1 : Hid (Blk V wr.heap.size [.int .i64 x0, .int .i64 x1, .int .i64 x2]) := hide (by rw [hV]; exact Blk.new _ _)
      obtain ⟨X, hX⟩ : ∃ X, wr.heap.size = X := ⟨_, rfl⟩
      rw [hX] at K1
      have HV := hide hV
      have HX := hide hX
      have HXX := hide hxx
      clear hcs hV hX bV hx0 hx1 hx2 hxx
      have hall2 : (0 ≤ x1 ∧ x1 ≤ 100000) ∧ (1 ≤ x2 ∧ x2 ≤ 10000) ∧ x1 + x2 ≤ fr := by
        rw [unhide HXX] at hall
        exact ⟨hall.2.2.1, hall.2.1, hall.2.2.2⟩
      have HG : Hid (ftG fr ws lg k = decide (E + lg ≤ x1)) := hide (by rw [ftG, ftN, if_pos hlt, unhide HPE, unhide HXX])
      clear hall
      go_upto_region 5 with fail
      rw [← unhide HV, unhide HX]
      clear HV HX m0 m1 m2
      obtain ⟨ι, fW, _, hb, hall⟩ := belClass V
      have HB := hide hb
      have HA := hide hall
      have c00 : ∀ x, (fW x).cell? ⟨w.heap.size, 0, none⟩ = some (.int .i64 fr) := fun x => ((unhide K0).below (hb x)).c 0 (by simp)
      have c01 : ∀ x, (fW x).cell? ⟨w.heap.size, 1, none⟩ = some (.int .i64 pa) := fun x => ((unhide K0).below (hb x)).c 1 (by simp)
      have c02 : ∀ x, (fW x).cell? ⟨w.heap.size, 2, none⟩ = some (.slice (some ⟨bb, off, none⟩) ws.length dc) := fun x => ((unhide K0).below (hb x)).c 2 (by simp)
      have c10 : ∀ x, (fW x).cell? ⟨X, 0, none⟩ = some (.int .i64 x0) := fun x => ((unhide K1).below (hb x)).c 0 (by simp)
      have c11 : ∀ x, (fW x).cell? ⟨X, 1, none⟩ = some (.int .i64 x1) := fun x => ((unhide K1).below (hb x)).c 1 (by simp)
      have c12 : ∀ x, (fW x).cell? ⟨X, 2, none⟩ = some (.int .i64 x2) := fun x => ((unhide K1).below (hb x)).c 2 (by simp)
      clear hb hall
      obtain ⟨y0, h0⟩ := (unhide HA) V (Below.refl _ _)
      rw [h0]
      clear h0
      by_cases q : lg ≤ x1 - E
      · have q2 : decide (lg ≤ x1 - E) = true := decide_eq_true q
        have HC := hide (ftP_at hk ((unhide HG).trans (decide_eq_true (by omega))) (unhide HJ))
        go_wp2_with fail
        go_ret3
        exact ⟨ret_ff (by rw [← unhide HKK, (unhide HC).1, unhide HPE]) (by rw [← unhide HKK, (unhide HC).1]) ((unhide HC).2.symm.trans (unhide HBB)), (unhide BV).trans ((unhide HB _).mono (unhide BV).size)⟩
      · have q2 : decide (lg ≤ x1 - E) = false := decide_eq_false q
        go_wp2_with (first | (go_at_call 53; refine (belQ (unhide HB) (unhide HA) (windowEnd_is _ _ _ _ (by omega) (by omega))).mono ?_; rintro e _ ⟨rfl, y, rfl⟩))
        go_roundw
        case rel => exact ⟨k + 1, x1 + x2, by omega, rfl, by go_num, by omega, hide (by show (elAt ws k).a1 + (elAt ws k).a2 = _; rw [unhide HXX]), hide (fun j hj => by rcases Nat.lt_succ_iff_lt_or_eq.1 hj with h | h; exact unhide HJ j h; subst h; rw [unhide HG]; exact decide_eq_false (by omega)), hide ((unhide K0).below (unhide HB _)), hide ((unhide BV).trans ((unhide HB _).mono (unhide BV).size))⟩
        case measure => simp [intOf]; omega
    · have hkl : k = ws.length := by omega
      have k1 : ¬ (k : Int) < (ws.length : Int) := by omega
      have HG : Hid (ftG fr ws lg ws.length = decide (E + lg ≤ fr)) := hide (by rw [ftG, ftN, if_neg (by omega), ← hkl, unhide HPE])
      rw [hkl] at HPE HJ
      clear hkl
      have p0 : wr.cell? ⟨w.heap.size, 0, none⟩ = some (.int .i64 fr) := (unhide KB0).c 0 (by simp)
      have p1 : wr.cell? ⟨w.heap.size, 1, none⟩ = some (.int .i64 pa) := (unhide KB0).c 1 (by simp)
      have p2 : wr.cell? ⟨w.heap.size, 2, none⟩ = some (.slice da ws.length dc) := (unhide KB0).c 2 (by simp)
      by_cases q : lg ≤ fr - E
      · have q2 : decide (lg ≤ fr - E) = true := decide_eq_true q
        have HC := hide (ftP_at (Nat.le_refl _) ((unhide HG).trans (decide_eq_true (by omega))) (unhide HJ))
        go_wp2_with fail
        go_quiet (fail)
        go_wp2_with fail
        go_ret3
        exact ⟨ret_ff (by rw [← unhide HKK, (unhide HC).1, unhide HPE]) (by rw [← unhide HKK, (unhide HC).1]) ((unhide HC).2.symm.trans (unhide HBB)), (unhide BB).trans (bel0d' _)⟩
      · have q2 : decide (lg ≤ fr - E) = false := decide_eq_false q
        have HC := hide (ftP_none (fun j hj => by rcases Nat.lt_or_ge j ws.length with h | h; exact unhide HJ j h; rw [show j = ws.length by omega, unhide HG]; exact decide_eq_false (by omega)))
        go_wp2_with fail
        go_quiet (fail)
        go_wp2_with fail
        go_ret3
        exact ⟨ret_ff (by rw [← unhide HKK, (unhide HC).1, unhide HPE]) (by rw [← unhide HKK, (unhide HC).1]) ((unhide HC).2.symm.trans (unhide HBB)), (unhide BB).trans (bel0d' _)⟩

end Go.Proofs.Ytndhiecakojjgaf

/-
  What Events20 answers, in the model and in the program: the rows at which a column comes above a limit. At every list of rows, place and limit; the answer owns its memory, nothing that was there is written.
-/
import Derived.Test.YtfnnfldfnjnlfagCoIs
namespace Go.Proofs.Ytfnnfldfnjnlfag
open Go.RowKit

/-- Whether the row ahead was above. -/
def evW (L : List Int) (m : Int) : Nat → Bool
  | 0 => false
  | k + 1 => decide (m < nth L k)
def evL (zss : List (List Int)) (t m : Int) : List Int := evK (coL zss t) m (coL zss t).length
theorem evL_len (zss : List (List Int)) (t m : Int) : (evL zss t m).length ≤ 200 := Nat.le_trans (evK_len _ _ _) (coL_len zss t)
theorem evI_is (L : List Int) (m : Int) (k : Nat) : evI L m k = (decide (m < nth L k) && !evW L m k) := by
  cases k with
  | zero => simp [evI, evW]
  | succ k =>
    simp only [evI, evW, Nat.add_sub_cancel]
    by_cases h : m < nth L k
    · rw [show decide (nth L k ≤ m) = false by simp; omega]; simp [h]
    · rw [show decide (nth L k ≤ m) = true by simp; omega]; simp [h]
theorem evK_yes {L : List Int} {m : Int} {k : Nat} (h : evI L m k = true) : evK L m (k + 1) = evK L m k ++ [(k : Int)] := by rw [evK_succ, if_pos h]
theorem evK_not {L : List Int} {m : Int} {k : Nat} (h : evI L m k = false) : evK L m (k + 1) = evK L m k := by rw [evK_succ, if_neg (by rw [h]; simp)]
/-- A list made, and one that grows beside it. -/
structure EvAt (w wr : World) (base : Nat) (a : Option Addr) (n c : Nat) (L : List Int) (g k e : Nat) (zs : List Int) : Prop where
  r : Row wr a n L
  d : ∀ b o, a = some ⟨b, o, none⟩ → b < base
  l : LoopAt w wr [] base g k e zs
theorem row_apart {w w' : World} {a : Option Addr} {n : Nat} {L : List Int} {row : Option Nat} (h : Row w a n L) (k : w.grownBy w' row) (hne : ∀ b o, a = some ⟨b, o, none⟩ → some b ≠ row) : Row w' a n L := by
  refine ⟨h.len_eq, h.small, fun i hi => ?_, h.fit⟩
  obtain ⟨b, off, ha, hc⟩ := h.cells i hi
  refine ⟨b, off, ha, ?_⟩
  rw [World.cell?_of_block (a := ⟨b, off + i, none⟩) (k.block b (block_lt_of_cell hc) (hne b off ha))]
  exact hc
theorem EvAt.step {w wr w' : World} {base : Nat} {a : Option Addr} {n c : Nat} {L : List Int} {g k e g' e' : Nat} {zs : List Int} {x : Int} (h : EvAt w wr base a n c L g k e zs) (o : OwnI w' base (.slice (some ⟨g', 0, none⟩) (k + 1) e') (zs ++ [x])) (gr : wr.grownBy w' (Value.slice (some ⟨g, 0, none⟩) k e).ownBlock) : EvAt w w' base a n c L g' (k + 1) e' (zs ++ [x]) :=
  ⟨row_apart h.r gr (fun b o hb e => by have := (h.l.o.lies b e.symm).1; have := h.d b o hb; omega), h.d, h.l.step o gr⟩
set_option maxRecDepth 20000 in
set_option maxHeartbeats 2000000 in
theorem implEvents20_any (ad : Option Addr) (len cap : Nat) (zss : List (List Int)) (t m : Int) (w : World) (hr : RowS w ad len zss) :
    Calls Try.prog 27 #[.slice ad len cap, .int .i64 t, .int .i64 m] w fun e w' => ∃ a1 c1, e = .returned (.tuple #[.slice a1 (evL zss t m).length c1, .bool (coB zss t)]) ∧ OwnI w' w.heap.size (.slice a1 (evL zss t m).length c1) (evL zss t m) ∧ Below w.heap.size w w' := by
  go_enter Try.func27, Try.ntmps27
  go_wp2_with fail
  refine (implColumn_any _ _ _ zss t _ hr).mono ?_
  rintro e w1 ⟨a1, c1, rfl, o1, b1⟩
  have hlen := coL_len zss t
  obtain ⟨L, hL⟩ : ∃ L, L = coL zss t := ⟨_, rfl⟩
  have HLE : Hid (evL zss t m = evK L m L.length) := hide (by rw [hL]; rfl)
  rw [← hL] at o1 hlen ⊢
  clear hL hr
  obtain ⟨ok, hok⟩ : ∃ ok, ok = coB zss t := ⟨_, rfl⟩
  rw [← hok]
  have HOK := hide hok
  clear hok
  have r1 := o1.row
  have lz := o1.lies
  have S0 : Hid (EvAt w (w1.alloc (Obj.cells #[] 3)) w1.heap.size a1 L.length c1 L w1.heap.size 0 0 (evK L m 0)) := hide ⟨r1.alloc _, fun b o hb => (lz b (by subst hb; rfl)).2, ⟨by simp, (ownI_none (w := w1) (Nat.le_refl _)), rfl, b1.alloc b1.size _, b1.size, by simp⟩⟩
  clear r1 lz o1 b1
  go_wp2_with fail
  obtain ⟨W, hW⟩ : ∃ W, W = w1.alloc (Obj.cells #[] 3) := ⟨_, rfl⟩
  obtain ⟨G, hG⟩ : ∃ G, G = w1.heap.size := ⟨_, rfl⟩
  rw [← hW] at S0 ⊢
  rw [← hG] at S0 ⊢
  clear hW hG
  go_loopw [10, 11, 24] (fun o q i wr => ∃ (k g j c : Nat), k ≤ L.length ∧ i = .int .i64 k ∧ o = .slice (some ⟨g, 0, none⟩) j c ∧ q = .bool (evW L m k) ∧ Hid ((evK L m k).length = j) ∧ EvAt w wr G a1 L.length c1 L g j c (evK L m k)) (fun o q i _ => L.length - (intOf i).toNat)
  case atStart => exact ⟨0, _, _, _, Nat.zero_le _, rfl, rfl, rfl, hide rfl, unhide S0⟩
  case round =>
    clear S0
    obtain ⟨k, g, j, c, hk, rfl, rfl, rfl, HJ, hev⟩ := hrel
    have EV := hide hev
    clear hev
    by_cases hlt : k < L.length
    · rcases (unhide EV).r.open_ with ⟨h0, _⟩ | ⟨b2, o2, rfl, _, hc2⟩
      · omega
      have x2 := hc2 k hlt
      have hjk : j ≤ k := by rw [← unhide HJ]; exact evK_len L m k
      have i0 : (0 : Int) ≤ (k : Int) := by omega
      have i1 : (k : Int) < (L.length : Int) := by omega
      obtain ⟨v, hv⟩ : ∃ v, v = nth L k := ⟨_, rfl⟩
      have HI : Hid (evI L m k = (decide (m < v) && !evW L m k)) := hide (by rw [hv]; exact evI_is L m k)
      have HN : Hid (evW L m (k + 1) = decide (m < v)) := hide (by rw [hv]; rfl)
      rw [← hv] at x2
      clear hc2 hv
      obtain ⟨q, hq⟩ : ∃ q, q = evW L m k := ⟨_, rfl⟩
      rw [← hq] at HI ⊢
      clear hq
      by_cases h1 : m < v
      · have HM : decide (m < v) = true := by simpa using h1
        cases q
        · have HY : Hid (evI L m k = true) := hide (by rw [unhide HI, HM]; rfl)
          go_wp2_with (at_builtin; refine wpList_app_int rfl _ _ rfl (k : Int) (unhide EV).l.o (unhide EV).l.l rfl rfl rfl (unhide EV).l.t (by omega) (by omega) ?_; intro g9 c9 w9 o9 gr9)
          have N := hide ((unhide EV).step o9 gr9)
          clear o9 gr9
          go_roundw
          case rel => exact ⟨k + 1, g9, j + 1, c9, by omega, by go_num, rfl, by rw [unhide HN, HM], hide (by rw [evK_yes (unhide HY), List.length_append, unhide HJ]; rfl), by rw [evK_yes (unhide HY)]; exact unhide N⟩
          case measure => simp [intOf]; omega
        · have HY : Hid (evI L m k = false) := hide (by rw [unhide HI, HM]; rfl)
          go_wp2_with fail
          go_roundw
          case rel => exact ⟨k + 1, g, j, c, by omega, by go_num, rfl, by rw [unhide HN, HM], hide (by rw [evK_not (unhide HY), unhide HJ]), by rw [evK_not (unhide HY)]; exact unhide EV⟩
          case measure => simp [intOf]; omega
      · have HM : decide (m < v) = false := by simpa using h1
        have HY : Hid (evI L m k = false) := hide (by rw [unhide HI, HM]; rfl)
        go_wp2_with fail
        go_roundw
        case rel => exact ⟨k + 1, g, j, c, by omega, by go_num, rfl, by rw [unhide HN, HM], hide (by rw [evK_not (unhide HY), unhide HJ]), by rw [evK_not (unhide HY)]; exact unhide EV⟩
        case measure => simp [intOf]; omega
    · have hkk : Hid (k = L.length) := hide (by omega)
      have i1 : ¬ (k : Int) < (L.length : Int) := by omega
      go_wp2_with fail
      refine bodyPost_ret (v := .tuple #[.slice (some ⟨g, 0, none⟩) j c, .bool ok]) (by simp [results, Try.results27, go_sem]) rfl ?_
      have z := unhide EV
      have e := unhide hkk
      have ej := unhide HJ
      rw [e] at ej z
      rw [unhide HLE, ej, ← unhide HOK]
      exact ⟨_, _, rfl, z.l.o.mono z.l.s, z.l.b⟩

end Go.Proofs.Ytfnnfldfnjnlfag

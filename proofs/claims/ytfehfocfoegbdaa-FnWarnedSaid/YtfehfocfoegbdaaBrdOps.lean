/-
  A name taken: what the program's take answers. Nothing but the board's own sets is written.
-/
import Derived.Test.YtfehfocfoegbdaaSetOf
import Derived.Test.YtfehfocfoegbdaaMMake
namespace Go.Proofs.Ytfehfocfoegbdaa
open Go.RowKit Go.Maps Go.WideMaps

theorem Only.turned {w w' : World} {b lo hi : Nat} (h : w.mapTurned w' b) (h1 : lo ≤ b) (h2 : b < hi) : Only lo hi w w' := Only.of_row h.grown (fun g hg => by cases hg; exact ⟨h1, h2⟩)
theorem Blk.turned {w w' : World} {B b : Nat} {vs : List Value} (h : Blk w B vs) (k : w.mapTurned w' b) (hne : B ≠ b) : Blk w' B vs := h.apart k.grown (by simp [hne])
theorem SetIs.clear {w : World} {b n : Nat} {S : ByteArray → Bool} (h : SetIs w b n S) : ∃ w', (∀ ty, (Builtin.clear_ #[54] ty #[.map (some b)]).run Try.prog w = .ok (.tuple #[]) w') ∧ SetIs w' b 0 (fun _ => false) ∧ w.mapTurned w' b := by
  obtain ⟨w', h1, h2, h3⟩ := MapIs.clear h Try.underlying54
  exact ⟨w', h1, by unfold SetIs; rw [← setF_none]; exact h2, h3⟩
theorem SetIs.drop {w : World} {b n : Nat} {S : ByteArray → Bool} (h : SetIs w b n S) {s : ByteArray} (hs : s.size ≤ 9223372036854775807) : ∃ w', (∀ ty, (Builtin.delete_ #[54, 9] ty #[.map (some b), .string s]).run Try.prog w = .ok (.tuple #[]) w') ∧ SetIs w' b n (delS S s) ∧ w.mapTurned w' b := by
  obtain ⟨w', h1, h2, h3⟩ := MapIs.drop h Try.underlying54 hs
  exact ⟨w', h1, by unfold SetIs; rw [← setF_del]; exact h2, h3⟩
/-- What is taken then. -/
def tkS (c : Bool) (S : ByteArray → Bool) (s : ByteArray) : ByteArray → Bool := if c = true then addS S s else S
set_option maxRecDepth 20000 in
set_option maxHeartbeats 2000000 in
theorem take_any (b1 b2 b3 n1 n2 n3 : Nat) (S1 S2 S3 : ByteArray → Bool) (s : ByteArray) (w : World) (hb : Brd w b1 b2 b3 n1 n2 n3 S1 S2 S3) (hs : s.size ≤ 9223372036854775807) (hn : n3 < 9223372036854775807) :
    Calls Try.prog 27 #[.agg #[.map (some b1), .map (some b2), .map (some b3)], .string s] w fun e w' => e = .returned (.bool (S2 s || S1 s)) ∧ Brd w' b1 b2 b3 n1 n2 (n3 + 1) S1 (delS S2 s) (tkS (S1 s) S3 s) ∧ Only b1 (b3 + 1) w w' := by
  have HS := hide hs
  have q1 := MapIs.lt hb.s1
  have q2 := MapIs.lt hb.s2
  have q3 := MapIs.lt hb.s3
  have HB := hide hb
  clear hb hs
  go_enter Try.func27, Try.ntmps27
  go_wp2_with fail
  obtain ⟨V, hV⟩ : ∃ V, V = w.alloc (Obj.cells #[.map (some b1), .map (some b2), .map (some b3)] 56) := ⟨_, rfl⟩
  have KV : Hid (Blk V w.heap.size [.map (some b1), .map (some b2), .map (some b3)]) := hide (by rw [hV]; exact Blk.new _ _)
  have BV : Hid (Brd V b1 b2 b3 n1 n2 n3 S1 S2 S3) := hide (by rw [hV]; exact (unhide HB).below (bel1 _))
  have bV : Below w.heap.size w V := by rw [hV]; exact bel1 _
  have HBV := hide bV
  rw [← hV]
  clear hV bV HB
  obtain ⟨ι, f, _, hbf, hall⟩ := belClass V
  have HF := hide hbf
  have HAL := hide hall
  have v0 : ∀ y, (f y).cell? ⟨w.heap.size, 0, none⟩ = some (.map (some b1)) := fun y => ((unhide KV).below (hbf y)).c 0 (by simp)
  have v1 : ∀ y, (f y).cell? ⟨w.heap.size, 1, none⟩ = some (.map (some b2)) := fun y => ((unhide KV).below (hbf y)).c 1 (by simp)
  have C1 : Hid (∀ y, Calls Try.prog 38 #[.map (some b2), .string s] (f y) fun e w' => e = .returned (.bool (S2 s)) ∧ Below (f y).heap.size (f y) w') := hide (fun y => has_any b2 n2 S2 s (f y) ((unhide BV).below (hbf y)).s2 (unhide HS))
  have C2 : Hid (∀ y, Calls Try.prog 38 #[.map (some b1), .string s] (f y) fun e w' => e = .returned (.bool (S1 s)) ∧ Below (f y).heap.size (f y) w') := hide (fun y => has_any b1 n1 S1 s (f y) ((unhide BV).below (hbf y)).s1 (unhide HS))
  clear hbf hall
  refine wp_region_bel (unhide HAL) (by kernel_rfl) (by kernel_rfl) ?_
  repeat (go_big_quiet_step ((first | (go_at_call_of 38 (Value.map (some b2)); exact belQ (unhide HF) (unhide HAL) (unhide C1 _)) | (go_at_call_of 38 (Value.map (some b1)); exact belQ (unhide HF) (unhide HAL) (unhide C2 _)))))
  refine wpQuiet_nil ?_
  rintro _ ⟨y, rfl⟩
  obtain ⟨U, hU⟩ : ∃ U, U = f y := ⟨_, rfl⟩
  have KU := (unhide KV).below (unhide HF y)
  have BU := (unhide BV).below (unhide HF y)
  have OU : Only b1 (b3 + 1) w (f y) := (Only.of_below (unhide HBV)).trans (Only.of_below (unhide HF y))
  rw [← hU] at KU BU OU ⊢
  clear hU v0 v1 C1 C2 HF HAL KV BV HBV
  have l1 := BU.l1
  have l2 := BU.l2
  obtain ⟨U1, r1, s1, t1⟩ := BU.s2.drop (unhide HS)
  have k1 := KU.turned t1 (by omega)
  have x1 := BU.s1.turned t1 (by omega)
  have x3 := BU.s3.turned t1 (by omega)
  have u1 : U.cell? ⟨w.heap.size, 1, none⟩ = some (.map (some b2)) := KU.c 1 (by simp)
  have u2 : U1.cell? ⟨w.heap.size, 2, none⟩ = some (.map (some b3)) := k1.c 2 (by simp)
  have O1 : Hid (Only b1 (b3 + 1) w U1) := hide (OU.trans (Only.turned t1 (by omega) (by omega)))
  cases g1 : S1 s with
  | true =>
    have HC := hide (add_any b3 n3 S3 s U1 x3 (unhide HS) hn)
    have HX1 := hide x1
    have HX2 := hide s1
    have HL := hide (And.intro l1 l2)
    clear x1 x3 s1 t1 k1 KU BU OU
    have G1 := hide g1
    clear g1
    cases g2 : S2 s with
    | true =>
      have G2 := hide g2
      go_wp2_with (go_at_call 34; refine (unhide HC).mono ?_; rintro e w5 ⟨rfl, s5, t5⟩; have H5 := hide (And.intro s5 t5); clear s5 t5)
      go_ret
      obtain ⟨s5, t5⟩ := unhide H5
      have ll := unhide HL
      exact ⟨ret_bool (by rw [unhide G1, unhide G2]; rfl), ⟨(unhide HX1).turned t5 (by omega), (unhide HX2).turned t5 (by omega), by first | exact s5 | (rw [unhide G1]; exact s5), ll.1, ll.2⟩, (unhide O1).trans (Only.turned t5 (by omega) (by omega))⟩
    | false =>
      have G2 := hide g2
      go_wp2_with (go_at_call 34; refine (unhide HC).mono ?_; rintro e w5 ⟨rfl, s5, t5⟩; have H5 := hide (And.intro s5 t5); clear s5 t5)
      go_ret
      obtain ⟨s5, t5⟩ := unhide H5
      have ll := unhide HL
      exact ⟨ret_bool (by rw [unhide G1, unhide G2]; rfl), ⟨(unhide HX1).turned t5 (by omega), (unhide HX2).turned t5 (by omega), by first | exact s5 | (rw [unhide G1]; exact s5), ll.1, ll.2⟩, (unhide O1).trans (Only.turned t5 (by omega) (by omega))⟩
  | false =>
    have HBD : Hid (Brd U1 b1 b2 b3 n1 n2 (n3 + 1) S1 (delS S2 s) S3) := hide ⟨x1, s1, MapIs.mono x3 (Nat.le_succ _), l1, l2⟩
    clear x1 x3 s1 t1 k1 KU BU OU
    have G1 := hide g1
    clear g1
    cases g2 : S2 s with
    | true =>
      have G2 := hide g2
      go_wp2_with fail
      go_ret
      exact ⟨ret_bool (by rw [unhide G1, unhide G2]; rfl), by first | exact unhide HBD | (rw [unhide G1]; exact unhide HBD), unhide O1⟩
    | false =>
      have G2 := hide g2
      go_wp2_with fail
      go_ret
      exact ⟨ret_bool (by rw [unhide G1, unhide G2]; rfl), by first | exact unhide HBD | (rw [unhide G1]; exact unhide HBD), unhide O1⟩

end Go.Proofs.Ytfehfocfoegbdaa

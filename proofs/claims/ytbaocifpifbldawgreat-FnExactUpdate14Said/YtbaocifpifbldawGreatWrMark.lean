/-
  The law's marks in a list of rules that a call has made: they write into the list's own memory and its phases' alone.
-/
import Derived.Test.YtbaocifpifbldawGreatKp1
import Derived.Test.YtbaocifpifbldawGreatText1
namespace Go.Proofs.YtbaocifpifbldawGreat
open Go.RowKit

/-- Some rules of the same lengths, in the same blocks. -/
structure SomeW (w wr : World) (B hi len : Nat) (gs ns : Nat → Nat) : Prop where
  o : ∃ ys : List Wg, ys.length = len ∧ (∀ i, i < len → (elAt ys i).g = gs i ∧ (elAt ys i).p.q.length = ns i) ∧ OwnE 5 wgC wr B 51 (.slice (some ⟨B, 0, none⟩) len len) ys
  i : ∀ i, i < len → ∃ zs : List Int, zs.length = ns i ∧ OwnI wr (B + 1) (.slice (some ⟨gs i, 0, none⟩) (ns i) (ns i)) zs
  l : ∀ i, i < len → gs i < hi
  y : Only B hi w wr
theorem SomeW.below {w wr w' : World} {B hi len : Nat} {gs ns : Nat → Nat} (h : SomeW w wr B hi len gs ns) (b : Below wr.heap.size wr w') : SomeW w w' B hi len gs ns := by
  obtain ⟨ys, h1, h2, h3⟩ := h.o
  exact ⟨⟨ys, h1, h2, h3.below b⟩, fun i hi => let ⟨zs, a, c⟩ := h.i i hi; ⟨zs, a, c.below b⟩, h.l, h.y.trans (Only.of_below b)⟩
theorem SomeW.cell {w wr : World} {B hi len : Nat} {gs ns : Nat → Nat} (h : SomeW w wr B hi len gs ns) {j : Nat} (hj : j < len) (q : Nat) (hq : q < 5) : (∃ v, wr.cell? ⟨B, j * 5 + q, none⟩ = some v) ∧ wr.frozen? ⟨B, j * 5 + q, none⟩ = false := by
  obtain ⟨ys, h1, h2, h3⟩ := h.o
  have := h3.here h1 j hj q hq
  exact ⟨⟨_, this.1⟩, this.2⟩
theorem SomeW.quiet {w wr : World} {B hi len : Nat} {gs ns : Nat → Nat} (h : SomeW w wr B hi len gs ns) {j : Nat} (hj : j < len) : wr.cell? ⟨B, j * 5 + 2, none⟩ = some (.slice (some ⟨gs j, 0, none⟩) (ns j) (ns j)) := by
  obtain ⟨ys, h1, h2, h3⟩ := h.o
  have := (h3.here h1 j hj 2 (by omega)).1
  rw [this]
  show some (Value.slice (some ⟨(elAt ys j).g, 0, none⟩) (elAt ys j).p.q.length (elAt ys j).p.q.length) = _
  rw [(h2 j hj).1, (h2 j hj).2]
theorem SomeW.put {w wr : World} {B hi len : Nat} {gs ns : Nat → Nat} (h : SomeW w wr B hi len gs ns) {j : Nat} (hj : j < len) (hB : B < hi) (q : Nat) (hq : q < 5) (v : Value) (F : Wg → Wg) (hg : ∀ x, (F x).g = x.g) (hn : ∀ x, (F x).p.q.length = x.p.q.length) (hx : ∀ x p, p < 5 → wgC (F x) p = if p = q then v else wgC x p) : SomeW w (wr.setCell ⟨B, j * 5 + q, none⟩ v) B hi len gs ns := by
  obtain ⟨ys, h1, h2, h3⟩ := h.o
  have o := h3.setOne h1 j hj q hq v (F (elAt ys j)) (fun p hp => hx _ p hp)
  refine ⟨⟨ys.set j (F (elAt ys j)), by simp [h1], fun i hi => ?_, o⟩, fun i hi => ?_, h.l, h.y.trans (Only.of_row (row := some B) (grown_set (grown_refl _ _) _ _) (fun g hg => by cases hg; exact ⟨Nat.le_refl _, hB⟩))⟩
  · rw [elAt_set _ _ _ _ (by omega)]
    by_cases e : i = j
    · rw [if_pos e, hg, hn, ← e]; exact h2 i hi
    · rw [if_neg e]; exact h2 i hi
  · obtain ⟨zs, a, c⟩ := h.i i hi
    exact ⟨zs, a, c.set_other _ (by have := (c.lies (gs i) rfl).1; simp [Value.ownBlock]; omega)⟩
theorem SomeW.putN {w wr : World} {B hi len : Nat} {gs ns : Nat → Nat} (h : SomeW w wr B hi len gs ns) {j : Nat} (hj : j < len) (hB : B < hi) (s : ByteArray) : SomeW w (wr.setCell ⟨B, j * 5, none⟩ (.string s)) B hi len gs ns :=
  h.put hj hB 0 (by omega) (.string s) (fun x => ⟨⟨s, x.p.r, x.p.q, x.p.l, x.p.d⟩, x.g⟩) (fun _ => rfl) (fun _ => rfl) (fun x p hp => by match p, hp with | 0, _ => rfl | 1, _ => rfl | 2, _ => rfl | 3, _ => rfl | 4, _ => rfl)
theorem SomeW.putR {w wr : World} {B hi len : Nat} {gs ns : Nat → Nat} (h : SomeW w wr B hi len gs ns) {j : Nat} (hj : j < len) (hB : B < hi) (r : Int) : SomeW w (wr.setCell ⟨B, j * 5 + 1, none⟩ (.int .i64 r)) B hi len gs ns :=
  h.put hj hB 1 (by omega) (.int .i64 r) (fun x => ⟨⟨x.p.n, r, x.p.q, x.p.l, x.p.d⟩, x.g⟩) (fun _ => rfl) (fun _ => rfl) (fun x p hp => by match p, hp with | 0, _ => rfl | 1, _ => rfl | 2, _ => rfl | 3, _ => rfl | 4, _ => rfl)
theorem SomeW.putL {w wr : World} {B hi len : Nat} {gs ns : Nat → Nat} (h : SomeW w wr B hi len gs ns) {j : Nat} (hj : j < len) (hB : B < hi) (b : Bool) : SomeW w (wr.setCell ⟨B, j * 5 + 3, none⟩ (.bool b)) B hi len gs ns :=
  h.put hj hB 3 (by omega) (.bool b) (fun x => ⟨⟨x.p.n, x.p.r, x.p.q, b, x.p.d⟩, x.g⟩) (fun _ => rfl) (fun _ => rfl) (fun x p hp => by match p, hp with | 0, _ => rfl | 1, _ => rfl | 2, _ => rfl | 3, _ => rfl | 4, _ => rfl)
theorem SomeW.putD {w wr : World} {B hi len : Nat} {gs ns : Nat → Nat} (h : SomeW w wr B hi len gs ns) {j : Nat} (hj : j < len) (hB : B < hi) (s : ByteArray) : SomeW w (wr.setCell ⟨B, j * 5 + 4, none⟩ (.string s)) B hi len gs ns :=
  h.put hj hB 4 (by omega) (.string s) (fun x => ⟨⟨x.p.n, x.p.r, x.p.q, x.p.l, s⟩, x.g⟩) (fun _ => rfl) (fun _ => rfl) (fun x p hp => by match p, hp with | 0, _ => rfl | 1, _ => rfl | 2, _ => rfl | 3, _ => rfl | 4, _ => rfl)
theorem SomeW.mark {w wr w' : World} {B hi len : Nat} {gs ns : Nat → Nat} (h : SomeW w wr B hi len gs ns) (hG : ∀ i j, i < j → j < len → gs i < gs j) {j : Nat} (hj : j < len) {zs : List Int} (hz : zs.length = ns j) (o : OwnI w' (B + 1) (.slice (some ⟨gs j, 0, none⟩) (ns j) (ns j)) zs) (gr : wr.grownBy w' (some (gs j))) : SomeW w w' B hi len gs ns := by
  obtain ⟨ys, h1, h2, h3⟩ := h.o
  have lj := (o.lies (gs j) rfl).1
  refine ⟨⟨ys, h1, h2, h3.far gr (fun q hq e => ?_)⟩, fun i hi => ?_, h.l, h.y.trans (Only.of_row gr (fun g hg => by cases hg; exact ⟨by omega, h.l j hj⟩))⟩
  · have e1 : B = q := Option.some.inj hq
    have e2 : q = gs j := Option.some.inj e
    omega
  · by_cases e : i = j
    · subst e; exact ⟨zs, hz, o⟩
    · obtain ⟨ws, a, c⟩ := h.i i hi
      refine ⟨ws, a, c.far gr (fun q hq e2 => ?_)⟩
      have e3 : gs i = q := Option.some.inj hq
      have e4 : q = gs j := Option.some.inj e2
      rcases Nat.lt_or_gt_of_ne e with c | c
      · have := hG i j c hj; omega
      · have := hG j i c hi; omega

set_option maxRecDepth 20000 in
set_option maxHeartbeats 1000000 in
theorem markWarnRuleS_own (B hi len : Nat) (rs : List Wr) (k0 : Int) (w : World) (h : OwnW w B hi len rs) (hB : B < hi) (hk0 : 1 ≤ k0) (hk1 : k0 ≤ 100000000) (hall : ∀ i, i < len → (elAt rs i).q.length ≤ 1048576) (htot : wrTot rs len ≤ 1048576) :
    Calls Tryz.prog 15 #[.slice (some ⟨B, 0, none⟩) len len, .int .i64 k0] w fun e w' => e = .returned (.int .i64 (k0 + 4 * len + wrTot rs len)) ∧ Only B hi w w' := by
  have hsm := h.small
  obtain ⟨xs, h1, h2, h3, h4, h5, h6⟩ := h.own
  have S0 : Hid (SomeW w w B hi len (fun i => (elAt xs i).g) (fun i => (elAt rs i).q.length)) := hide ⟨⟨xs, h1, fun i hi => ⟨rfl, by rw [h2 i hi]⟩, h3⟩, fun i hi => ⟨(elAt rs i).q, rfl, by have := h4 i hi; rw [h2 i hi] at this; exact this⟩, h6, Only.refl _ _ _⟩
  obtain ⟨gs, hgs⟩ : ∃ gs : Nat → Nat, (fun i => (elAt xs i).g) = gs := ⟨_, rfl⟩
  obtain ⟨ns, hns⟩ : ∃ ns : Nat → Nat, (fun i => (elAt rs i).q.length) = ns := ⟨_, rfl⟩
  have HG : Hid (∀ i j, i < j → j < len → gs i < gs j) := hide (by rw [← hgs]; exact h5)
  have HNS : Hid (∀ i, (elAt rs i).q.length = ns i) := hide (fun i => by rw [← hns])
  have HA := hide hall
  rw [hgs, hns] at S0
  clear h h1 h2 h3 h4 h5 h6 hgs hns hall
  go_enter Tryz.func15, Tryz.ntmps15
  go_wp2_with fail
  go_loopw [1, 5] (fun kv i wr => ∃ j : Nat, j ≤ len ∧ i = .int .i64 (j : Int) ∧ kv = .int .i64 (k0 + 4 * j + wrTot rs j) ∧ Hid (SomeW w wr B hi len gs ns)) (fun _ i _ => len - (intOf i).toNat)
  case atStart => exact ⟨0, Nat.zero_le _, rfl, by simp [wrTot], S0⟩
  case round =>
    clear S0
    obtain ⟨j, hj, rfl, rfl, HS⟩ := hrel
    have tj := wrTot_mono rs hj
    by_cases hl : j < len
    · have hl' : (j : Int) < (len : Int) := by omega
      have hj0 : (0 : Int) ≤ (j : Int) := by omega
      have hla := (unhide HA) j hl
      have hn := (unhide HNS) j
      rw [hn] at hla
      have t2 := wrTot_mono rs (show j + 1 ≤ len by omega)
      have ES : wrTot rs (j + 1) = wrTot rs j + ns j := by show wrTot rs j + (elAt rs j).q.length = _; rw [hn]
      rw [ES] at t2
      have ES := hide ES
      obtain ⟨n, hnn⟩ : ∃ n, ns j = n := ⟨_, rfl⟩
      have HNN := hide hnn
      obtain ⟨T, hT⟩ : ∃ T : Int, k0 + 4 * (j : Int) + (wrTot rs j : Int) = T := ⟨_, rfl⟩
      have bT : 1 ≤ T ∧ T ≤ 110000000 := by omega
      have HT := hide hT
      rw [hT]
      rw [hnn] at hla t2
      clear hT hn hnn tj
      go_wp2_with fail
      refine (markText_any _ _ (by omega) (by omega)).mono ?_
      rintro e w1 ⟨rfl, b1⟩
      have S1 := hide ((unhide HS).below b1)
      have c2 := (unhide S1).quiet hl
      rw [unhide HNN] at c2
      obtain ⟨⟨v0, c0⟩, z0⟩ := (unhide S1).cell hl 0 (by omega)
      obtain ⟨⟨v1, c1⟩, z1⟩ := (unhide S1).cell hl 1 (by omega)
      rw [Nat.add_zero] at c0 z0
      clear b1 HS
      go_wp2_with fail
      obtain ⟨U, hU⟩ : ∃ U, U = (w1.setCell ⟨B, j * 5, none⟩ (.string (mkT T))).setCell ⟨B, j * 5 + 1, none⟩ (.int .i64 (T + 1)) := ⟨_, rfl⟩
      have S2 : Hid (SomeW w U B hi len gs ns) := hide (by rw [hU]; exact ((unhide S1).putN hl hB _).putR hl hB _)
      rw [← hU]
      clear hU c0 c1 c2 z0 z1 S1
      obtain ⟨zs, hz, ho⟩ := (unhide S2).i j hl
      rw [unhide HNN] at hz ho
      refine (markIntS_own (B + 1) _ _ _ zs _ _ ho hz hla (by omega) (by omega)).mono ?_
      rintro e w2 ⟨rfl, o2, gr⟩
      have S3 := hide ((unhide S2).mark (unhide HG) hl (zs := markI zs (T + 1 + 1) n) (by rw [markI_len, unhide HNN]; exact hz) (by rw [unhide HNN]; exact o2) gr)
      obtain ⟨⟨v3, c3⟩, z3⟩ := (unhide S3).cell hl 3 (by omega)
      clear o2 gr hz ho S2
      go_wp2_with fail
      refine (markText_any _ _ (by omega) (by omega)).mono ?_
      rintro e w4 ⟨rfl, b4⟩
      have S4 := hide (((unhide S3).putL hl hB _).below b4)
      obtain ⟨⟨v4, c4⟩, z4⟩ := (unhide S4).cell hl 4 (by omega)
      clear b4 c3 z3 S3
      go_wp2_with fail
      go_roundw
      case rel => exact ⟨j + 1, by omega, by go_num, congrArg (Value.int .i64) (by have e := unhide ES; have t := unhide HT; have m := unhide HNN; rw [e, m]; omega), hide ((unhide S4).putD hl hB _)⟩
      case measure => simp [intOf]; omega
    · have hl' : ¬ (j : Int) < (len : Int) := by omega
      have EJ : Hid (j = len) := hide (by omega)
      go_wp2_with fail
      go_ret
      exact ⟨ret_int (by rw [unhide EJ]), (unhide HS).y⟩

end Go.Proofs.YtbaocifpifbldawGreat

/-
  The program's walk: what lies where while it goes forth and back, and one step forth.
-/
import Derived.Test.YtbaocifpifbldaePwIs
import Derived.Deep.RegionLaw
namespace Go.Proofs.Ytbaocifpifbldae
open Go.RowKit

/-- The walk's own block, the points, what can be had at the first k of them, what leads on. -/
structure Wk (w wr : World) (P : Nat) (ps : List Po) (up down : Int) (ad : Option Addr) (cap g k cp h c2 : Nat) (ls : List Po) : Prop where
  blk : Blk wr P [.int .i64 up, .int .i64 down, .slice ad ps.length cap, .slice (some ⟨g, 0, none⟩) k cp, .slice (some ⟨h, 0, none⟩) ps.length c2]
  row : RowE 3 poC w ad ps.length ps
  had : OwnE 3 poC wr w.heap.size 53 (.slice (some ⟨g, 0, none⟩) k cp) (rcL ps up down k)
  led : OwnE 3 poC wr w.heap.size 53 (.slice (some ⟨h, 0, none⟩) ps.length c2) ls
  ll : ls.length = ps.length
  gp : g ≠ P
  hp : h ≠ P
  gh : g ≠ h
  pl : w.heap.size ≤ P
  bel : Below w.heap.size w wr
theorem Wk.below {w wr w' : World} {P : Nat} {ps : List Po} {up down : Int} {ad : Option Addr} {cap g k cp h c2 : Nat} {ls : List Po} (K : Wk w wr P ps up down ad cap g k cp h c2 ls) (b : Below wr.heap.size wr w') : Wk w w' P ps up down ad cap g k cp h c2 ls :=
  ⟨K.blk.below b, K.row, K.had.below b, K.led.below b, K.ll, K.gp, K.hp, K.gh, K.pl, K.bel.trans (b.mono K.bel.size)⟩
/-- One point more is had; the walk does not know of it yet. -/
structure Wk2 (w wr : World) (P : Nat) (ps : List Po) (up down : Int) (ad : Option Addr) (cap g0 cp0 g k cp h c2 : Nat) (ls : List Po) : Prop where
  blk : Blk wr P [.int .i64 up, .int .i64 down, .slice ad ps.length cap, .slice (some ⟨g0, 0, none⟩) k cp0, .slice (some ⟨h, 0, none⟩) ps.length c2]
  row : RowE 3 poC w ad ps.length ps
  had : OwnE 3 poC wr w.heap.size 53 (.slice (some ⟨g, 0, none⟩) (k + 1) cp) (rcL ps up down (k + 1))
  led : OwnE 3 poC wr w.heap.size 53 (.slice (some ⟨h, 0, none⟩) ps.length c2) ls
  ll : ls.length = ps.length
  gp : g ≠ P
  hp : h ≠ P
  gh : g ≠ h
  pl : w.heap.size ≤ P
  bel : Below w.heap.size w wr
theorem Wk2.below {w wr w' : World} {P : Nat} {ps : List Po} {up down : Int} {ad : Option Addr} {cap g0 cp0 g k cp h c2 : Nat} {ls : List Po} (K : Wk2 w wr P ps up down ad cap g0 cp0 g k cp h c2 ls) (b : Below wr.heap.size wr w') : Wk2 w w' P ps up down ad cap g0 cp0 g k cp h c2 ls :=
  ⟨K.blk.below b, K.row, K.had.below b, K.led.below b, K.ll, K.gp, K.hp, K.gh, K.pl, K.bel.trans (b.mono K.bel.size)⟩
theorem Wk.app {w wr w' : World} {P : Nat} {ps : List Po} {up down : Int} {ad : Option Addr} {cap g k cp h c2 g' cp' : Nat} {ls : List Po} {z : Po} (K : Wk w wr P ps up down ad cap g k cp h c2 ls) (hz : rcA ps up down k = z)
    (o : OwnE 3 poC w' w.heap.size 53 (.slice (some ⟨g', 0, none⟩) (k + 1) cp') (rcL ps up down k ++ [z])) (gr : wr.grownBy w' (Value.slice (some ⟨g, 0, none⟩) k cp).ownBlock) (hg : (Value.slice (some ⟨g, 0, none⟩) k cp).ownBlock = some g' ∨ wr.heap.size < g') : Wk2 w w' P ps up down ad cap g cp g' k cp' h c2 ls := by
  have hP := K.blk.lt
  have hh := (K.led.lies h rfl).2
  have e : g' = g ∨ wr.heap.size < g' := hg.imp (fun e => (Option.some.inj e).symm) id
  have n1 := K.gp
  have n2 := K.gh
  refine ⟨K.blk.apart gr (by intro e; exact n1 (Option.some.inj e).symm), K.row, by rw [rcL_next, hz]; exact o, K.led.far gr (fun q hq => by
    intro e2
    have e3 : h = q := Option.some.inj hq
    have e4 : q = g := Option.some.inj e2
    omega), K.ll, by omega, K.hp, by omega, K.pl, K.bel.grown gr K.bel.size (fun q hq => (K.had.lies q hq).1)⟩
theorem Wk2.put {w wr : World} {P : Nat} {ps : List Po} {up down : Int} {ad : Option Addr} {cap g0 cp0 g k cp h c2 : Nat} {ls : List Po} (K : Wk2 w wr P ps up down ad cap g0 cp0 g k cp h c2 ls) : Wk w (wr.setCell ⟨P, 3, none⟩ (.slice (some ⟨g, 0, none⟩) (k + 1) cp)) P ps up down ad cap g (k + 1) cp h c2 ls := by
  refine ⟨by simpa using K.blk.set 3 (by simp) (.slice (some ⟨g, 0, none⟩) (k + 1) cp), K.row, K.had.set_other _ ?_, K.led.set_other _ ?_, K.ll, K.gp, K.hp, K.gh, K.pl, K.bel.setCell K.pl _⟩
  · intro e
    exact K.gp (Option.some.inj e)
  · intro e
    exact K.hp (Option.some.inj e)
theorem Wk.setQ {w wr : World} {P : Nat} {ps : List Po} {up down : Int} {ad : Option Addr} {cap g k cp h c2 : Nat} {ls : List Po} (K : Wk w wr P ps up down ad cap g k cp h c2 ls) {Q : Nat} (o : Nat) (v : Value) (h1 : ¬ Q = P) (h2 : ¬ Q = g) (h3 : ¬ Q = h) (h4 : w.heap.size ≤ Q) : Wk w (wr.setCell ⟨Q, o, none⟩ v) P ps up down ad cap g k cp h c2 ls := by
  refine ⟨K.blk.other (p := ⟨Q, o, none⟩) h1 v, K.row, K.had.set_other _ ?_, K.led.set_other _ ?_, K.ll, K.gp, K.hp, K.gh, K.pl, K.bel.setCell h4 _⟩
  · intro e
    exact h2 (Option.some.inj e).symm
  · intro e
    exact h3 (Option.some.inj e).symm
theorem Wk.pt {w wr : World} {P : Nat} {ps : List Po} {up down : Int} {ad : Option Addr} {cap g k cp h c2 : Nat} {ls : List Po} (K : Wk w wr P ps up down ad cap g k cp h c2 ls) {i : Nat} (hi : i < ps.length) : ∃ bb off, ad = some ⟨bb, off, none⟩ ∧ bb < w.heap.size ∧ ∀ q, q < 3 → wr.cell? ⟨bb, off + i * 3 + q, none⟩ = some (poC (elAt ps i) q) := by
  rcases K.row.open_ with ⟨h0, _⟩ | ⟨bb, off, e, _, hcs⟩
  · omega
  · exact ⟨bb, off, e, block_lt_of_cell (hcs i hi 0 (by omega)), fun q hq => (K.bel.cell (block_lt_of_cell (hcs i hi q hq))).trans (hcs i hi q hq)⟩
theorem Wk.hd {w wr : World} {P : Nat} {ps : List Po} {up down : Int} {ad : Option Addr} {cap g k cp h c2 : Nat} {ls : List Po} (K : Wk w wr P ps up down ad cap g k cp h c2 ls) {i : Nat} (hi : i < k) : ∀ q, q < 3 → wr.cell? ⟨g, i * 3 + q, none⟩ = some (poC (rcA ps up down i) q) := by
  intro q hq
  have := (K.had.here (rcL_len _ _ _ _) i hi q hq).1
  rw [rcL_at hi] at this
  exact this
theorem Wk.ld {w wr : World} {P : Nat} {ps : List Po} {up down : Int} {ad : Option Addr} {cap g k cp h c2 : Nat} {ls : List Po} (K : Wk w wr P ps up down ad cap g k cp h c2 ls) {i : Nat} (hi : i < ps.length) : ∀ q, q < 3 → wr.cell? ⟨h, i * 3 + q, none⟩ = some (poC (elAt ls i) q) ∧ wr.frozen? ⟨h, i * 3 + q, none⟩ = false :=
  fun q hq => K.led.here K.ll i hi q hq

set_option maxRecDepth 20000 in
set_option maxHeartbeats 1000000 in
theorem stepForth_first (w wr : World) (P : Nat) (ps : List Po) (up down : Int) (ad : Option Addr) (cap g cp h c2 : Nat) (ls : List Po) (K : Wk w wr P ps up down ad cap g 0 cp h c2 ls) (q1 : poB ps = true) (_q2 : slB up down = true) :
    Calls Try.prog 134 #[.pointer (some ⟨P, 0, none⟩), .int .i64 0] wr fun e w' => ∃ g' cp', e = .returned (.bool true) ∧ Wk w w' P ps up down ad cap g' 1 cp' h c2 ls := by
  have pf := poB_facts q1
  have h0 : 0 < ps.length := by omega
  have i0 : (0 : Int) < (ps.length : Int) := by omega
  have pa := poAt_facts (pf.1 0 h0)
  obtain ⟨bb, off, rfl, hbb, hc⟩ := K.pt h0
  have p0 := hc 0 (by omega)
  have p1 := hc 1 (by omega)
  have p2 := hc 2 (by omega)
  have c0 := K.blk.c 0 (by simp)
  have c1 := K.blk.c 1 (by simp)
  have c2' := K.blk.c 2 (by simp)
  have c3 := K.blk.c 3 (by simp)
  have c4 := K.blk.c 4 (by simp)
  have z3 := K.blk.f 3 (by simp)
  simp only [List.getElem_cons_zero, List.getElem_cons_succ, poC, Nat.zero_mul, Nat.add_zero] at p0 p1 p2 c0 c1 c2' c3 c4
  have HK := hide K
  have nh : ¬ (elAt ps 0).a2 < (elAt ps 0).a1 := by omega
  clear K hc pf
  go_enter Try.func134, Try.ntmps134
  go_wp2_with fail
  have HA : Hid (rcA ps up down 0 = ⟨(elAt ps 0).a0, (elAt ps 0).a1, (elAt ps 0).a2⟩) := hide rfl
  obtain ⟨W1, hW1⟩ : ∃ W, W = wr.alloc (Obj.cells #[.int .i64 (elAt ps 0).a0, .int .i64 (elAt ps 0).a1, .int .i64 (elAt ps 0).a2] 53) := ⟨_, rfl⟩
  have KP1 : Hid (Blk W1 wr.heap.size [.int .i64 (elAt ps 0).a0, .int .i64 (elAt ps 0).a1, .int .i64 (elAt ps 0).a2]) := hide (by rw [hW1]; exact Blk.new _ _)
  have K1 : Hid (Wk w W1 P ps up down (some ⟨bb, off, none⟩) cap g 0 cp h c2 ls) := hide (by rw [hW1]; exact (unhide HK).below (bel1 _))
  rw [← hW1]
  clear hW1 c0 c1 c2' c3 c4 z3
  have y0 := (unhide KP1).c 0 (by simp)
  have y1 := (unhide KP1).c 1 (by simp)
  have y2 := (unhide KP1).c 2 (by simp)
  have c3 := (unhide K1).blk.c 3 (by simp)
  have c3a := ((unhide K1).below (bel1 (Obj.cells #[.int .i64 (elAt ps 0).a0, .int .i64 (elAt ps 0).a1, .int .i64 (elAt ps 0).a2] 53))).blk.c 3 (by simp)
  simp only [List.getElem_cons_zero, List.getElem_cons_succ] at y0 y1 y2 c3 c3a
  go_region_law (first
    | (refine step_app_elG (K := 3) (cells := poC) rfl (.tmp 38) (.tmp 40) 47 53 rfl Try.underlying47 infoPo rfl (by decide) (by decide) ⟨(elAt ps 0).a0, (elAt ps 0).a1, (elAt ps 0).a2⟩ [.int .i64 (elAt ps 0).a0, .int .i64 (elAt ps 0).a1, .int .i64 (elAt ps 0).a2] rfl (fun q hq => by match q, hq with | 0, _ => rfl | 1, _ => rfl | 2, _ => rfl) (fun u hu => by simp at hu; rcases hu with rfl | rfl | rfl <;> rfl) (unhide K1).had (rcL_len _ _ _ _) (by simp [Act.eval]) rfl (by simp [Act.eval]) (unhide K1).bel.size (by omega) ?_; intro g9 c9 w9 o9 gr9 ha9; have K9 := hide ((unhide K1).app (unhide HA) o9 gr9 ha9); have d3 := (unhide K9).blk.c 3 (by simp); have z3 := (unhide K9).blk.f 3 (by simp); simp only [List.getElem_cons_zero, List.getElem_cons_succ] at d3)
    | (refine step_app_elD (K := 3) (cells := poC) rfl (.tmp 38) (.tmp 40) 47 53 rfl Try.underlying47 infoPo rfl (by decide) (by decide) ⟨(elAt ps 0).a0, (elAt ps 0).a1, (elAt ps 0).a2⟩ [.int .i64 (elAt ps 0).a0, .int .i64 (elAt ps 0).a1, .int .i64 (elAt ps 0).a2] rfl (fun q hq => by match q, hq with | 0, _ => rfl | 1, _ => rfl | 2, _ => rfl) (fun u hu => by simp at hu; rcases hu with rfl | rfl | rfl <;> rfl) (unhide K1).had (rcL_len _ _ _ _) (by simp [Act.eval]) rfl (by simp [Act.eval]) (unhide K1).bel.size (by omega) ?_; intro g9 c9 w9 o9 gr9 ha9; have K9 := hide ((unhide K1).app (unhide HA) o9 gr9 ha9); have d3 := (unhide K9).blk.c 3 (by simp); have z3 := (unhide K9).blk.f 3 (by simp); simp only [List.getElem_cons_zero, List.getElem_cons_succ] at d3))
  all_goals
    go_wp2_with fail
    go_ret
    first
      | exact ⟨g9, c9, rfl, (unhide K9).put⟩
      | exact ⟨g9, c9, rfl, (unhide K9).put.below (bel0d 1)⟩
      | exact ⟨g9, c9, rfl, ((unhide K9).below (bel0d 1)).put⟩
      | exact ⟨g9, c9, rfl, ((unhide K9).below (bel0d 1)).put.below (bel0d 1)⟩
      | exact ⟨g9, c9, rfl, ((unhide K9).below (bel0d 2)).put⟩
      | skip

end Go.Proofs.Ytbaocifpifbldae

/-
  The program's packer: bytes put behind bytes, or a panic where there is no room; a change. Nothing is written but the packer's own memory.
  What the program's packer does of a record: all its bytes, or a panic where they are more than there is room for. At every record that is right; nothing is written but the packer's own memory.
-/
import Derived.Test.YtfnnfldfnjnlfahMMakeS
import Derived.Test.YtfnnfldfnjnlfahMDraw
import Derived.Test.YtfnnfldfnjnlfahAppM
import Derived.Test.YtfnnfldfnjnlfahAppBy
import Derived.Test.YtfnnfldfnjnlfahMRowBo
import Derived.WalkLawsBesides

namespace Go.Proofs.Ytfnnfldfnjnlfah
open Go Go.RowKit

/-- A list of whole numbers and one of bytes lie apart. -/
theorem ownI_by {w : World} {base base' : Nat} {v v' : Value} {L zs : List Int} (h : OwnI w base v L) (h' : OwnE 1 byC w base' 5 v' zs) : ∀ g, v.ownBlock = some g → v'.ownBlock ≠ some g := by
  intro g hg hg'
  obtain ⟨xs, ho, _⟩ := h.own
  obtain ⟨ys, ho', _⟩ := h'.own
  rcases ho.2 with ⟨e, _⟩ | ⟨g1, c1, cur1, rfl, _, hb1, _⟩
  · rw [e] at hg; simp [Value.ownBlock] at hg
  rcases ho'.2 with ⟨e, _⟩ | ⟨g2, c2, cur2, rfl, _, hb2, _⟩
  · rw [e] at hg'; simp [Value.ownBlock] at hg'
  have e1 : g1 = g := Option.some.inj hg
  have e2 : g2 = g := Option.some.inj hg'
  rw [e1] at hb1
  rw [e2, hb1] at hb2
  simp only [Option.some.injEq, Obj.cells.injEq] at hb2
  exact absurd hb2.2.1 (by decide)
/-- The packer at block P, and the bytes that it holds. -/
structure Pk (w : World) (P : Nat) (b : Option Addr) (n d : Nat) (zs : List Int) : Prop where
  p : Blk w P [.slice b n d]
  o : OwnE 1 byC w (P + 1) 5 (.slice b n d) zs
  l : zs.length = n
/-- What stays: memory ahead of the packer, and lists of whole numbers behind it. -/
structure PkS (P : Nat) (w w' : World) : Prop where
  b : Below P w w'
  i : ∀ a k c L, OwnI w (P + 1) (.slice a k c) L → OwnI w' (P + 1) (.slice a k c) L
theorem PkS.refl (P : Nat) (w : World) : PkS P w w := ⟨Below.refl _ _, fun _ _ _ _ h => h⟩
theorem PkS.trans {P : Nat} {w w1 w2 : World} (h : PkS P w w1) (k : PkS P w1 w2) : PkS P w w2 := ⟨h.b.trans k.b, fun a n c L o => k.i a n c L (h.i a n c L o)⟩
theorem PkS.new {P : Nat} {w w' : World} (h : Below w.heap.size w w') (hP : P < w.heap.size) : PkS P w w' := ⟨h.mono (by omega), fun _ _ _ _ o => o.below h⟩
theorem Pk.below {w w' : World} {P : Nat} {b : Option Addr} {n d : Nat} {zs : List Int} (h : Pk w P b n d zs) (k : Below w.heap.size w w') : Pk w' P b n d zs := ⟨h.p.below k, h.o.below k, h.l⟩
/-- The world behind an append and the store of what it gave. -/
theorem Pk.put {w w9 : World} {P : Nat} {b b' : Option Addr} {n d m d' : Nat} {zs ys : List Int} (h : Pk w P b n d zs) (gr : w.grownBy w9 (Value.slice b n d).ownBlock) (o : OwnE 1 byC w9 (P + 1) 5 (.slice b' m d') (zs ++ ys)) (hm : (zs ++ ys).length = m) :
    Pk (w9.setCell ⟨P, 0, none⟩ (.slice b' m d')) P b' m d' (zs ++ ys) ∧ PkS P w (w9.setCell ⟨P, 0, none⟩ (.slice b' m d')) := by
  have lz := h.o.lies
  have lo := o.lies
  have hP := h.p.lt
  have k9 := h.p.apart gr (fun e => by have := (lz P e.symm).1; omega)
  refine ⟨⟨k9.set 0 (by simp) _, o.set_other _ (fun e => by have := (lo P e).1; omega), hm⟩, ⟨?_, fun a k c L oi => ?_⟩⟩
  · exact (((Below.refl P w).grown gr (by omega) (fun k hk => by have := (lz k hk).1; omega))).setCell (by simp) _
  · refine (oi.far gr (fun g hg e => ownI_by oi h.o g hg e.symm)).set_other _ (fun e => ?_)
    have := (oi.lies P e).1; omega

set_option maxHeartbeats 400000 in
theorem isSmall_is {b : Bool} (c : Int) (w : World) (h : inB c (-100) 100 = b) :
    Calls Try.prog 77 #[.int .i64 c] w fun e w' => e = .returned (.bool b) ∧ w' = w := by
  go_enter Try.func77, Try.ntmps77
  go_wp2_with fail
  refine (within_is _ _ _ _ h).mono ?_
  rintro e w' ⟨rfl, rfl⟩
  go_wp2_with fail
  go_ret
  exact ⟨rfl, rfl⟩
def noRm : Value := .iface 65 (.agg #[])
set_option maxHeartbeats 1000000 in
theorem put_no (P : Nat) (b xa : Option Addr) (n d m c : Nat) (zs : List Int) (w : World) (h : Pk w P b n d zs) (hm : m ≤ 10) (hn : n ≤ 7000) (hf : 1500 < n + m) :
    Calls Try.prog 60 #[.pointer (some ⟨P, 0, none⟩), .slice xa m c] w fun e w' => e = .panicked [{ v := noRm, recovered := false }] ∧ w' = w := by
  have c0 : w.cell? ⟨P, 0, none⟩ = some (.slice b n d) := h.p.c 0 (by simp)
  have hg : (1500 : Int) < (n : Int) + (m : Int) := by omega
  clear h
  go_enter Try.func60, Try.ntmps60
  go_wp2_with fail
  exact ⟨rfl, rfl, rfl⟩
theorem byC_one (x : Int) (q : Nat) : (byC x q).oneCell' = true := rfl
set_option maxRecDepth 20000 in
set_option maxHeartbeats 2000000 in
theorem put_yes (P : Nat) (b xa : Option Addr) (n d m c : Nat) (zs ys : List Int) (w : World) (h : Pk w P b n d zs) (hy : RowE 1 byC w xa m ys) (hf : n + m ≤ 1500) :
    Calls Try.prog 60 #[.pointer (some ⟨P, 0, none⟩), .slice xa m c] w fun e w' => e = .returned (.tuple #[]) ∧ (∃ b' d', Pk w' P b' (n + m) d' (zs ++ ys)) ∧ PkS P w w' := by
  have c0 : w.cell? ⟨P, 0, none⟩ = some (.slice b n d) := h.p.c 0 (by simp)
  have hg : ¬ (1500 : Int) < (n : Int) + (m : Int) := by omega
  have H := hide h
  have HY := hide hy
  have hP : P < w.heap.size := h.p.lt
  have HL : Hid ((zs ++ ys).length = n + m) := hide (by rw [List.length_append, h.l, hy.len_eq])
  have HL0 := hide h.l
  clear h hy
  go_enter Try.func60, Try.ntmps60
  go_wp2_with (at_builtin; refine wpList_app_elsM (K := 1) (cells := byC) (by kernel_rfl) _ _ 22 5 rfl Try.underlying22 info_by3 rfl (by decide) (by decide) byC_one (unhide H).o rfl xa m c ys rfl (unhide HY) (by rw [unhide HL0]; omega) (by omega) ?_; intro v9 w9 o9 gr9 nn9; obtain ⟨b9, d9, ev9, _, _⟩ := o9.slice; rw [unhide HL] at ev9; subst ev9; have N9 := hide ((unhide H).put gr9 o9 (unhide HL)); have k9 := (unhide H).p.apart gr9 (fun e => by have := ((unhide H).o.lies P e.symm).1; omega); have y0 : w9.cell? ⟨P, 0, none⟩ = some (.slice b n d) := k9.c 0 (by simp); have z0 : w9.frozen? ⟨P, 0, none⟩ = false := k9.f 0 (by simp); clear o9 gr9 nn9 k9)
  go_end0
  exact ⟨rfl, ⟨b9, d9, (unhide N9).1⟩, (unhide N9).2⟩
set_option maxRecDepth 20000 in
set_option maxHeartbeats 1000000 in
theorem putCh_sy (P : Nat) (b : Option Addr) (n d : Nat) (zs : List Int) (c : Int) (w : World) (h : Pk w P b n d zs) (hc : -60000 ≤ c ∧ c ≤ 60000) (_hn : n ≤ 7000) (hs : inB c (-100) 100 = true) (hf : n + 1 ≤ 1500) :
    Calls Try.prog 61 #[.pointer (some ⟨P, 0, none⟩), .int .i64 c] w fun e w' => e = .returned (.tuple #[]) ∧ (∃ b' d', Pk w' P b' (n + 1) d' (zs ++ chL c)) ∧ PkS P w w' := by
  have H := hide h
  have hP : P < w.heap.size := h.p.lt
  have HC := hide (chL_y hs)
  have hin := in_facts hs
  clear h
  have e1 : (c + 100) % 256 = c + 100 := by omega
  go_enter Try.func61, Try.ntmps61
  go_wp2_with fail
  refine (isSmall_is _ _ hs).mono ?_
  rintro e w1 ⟨rfl, hw1⟩
  subst w1
  clear hs
  go_wp2_with fail
  obtain ⟨V, hV⟩ : ∃ V, V = w.alloc (Obj.cells #[.int .u8 (c + 100)] 5) := ⟨_, rfl⟩
  have BV : Hid (Below w.heap.size w V) := hide (by rw [hV]; exact bel1 _)
  have OV : Hid (RowE 1 byC V (some ⟨w.heap.size, 0, none⟩) 1 (chL c)) := hide (by rw [hV, unhide HC]; exact (byL_lit (base := w.heap.size) w [c + 100] (Nat.le_refl _) (by simp)).row)
  rw [← hV]
  clear hV
  refine (put_yes _ _ _ _ _ _ _ zs (chL c) _ ((unhide H).below (unhide BV)) (unhide OV) (by omega)).mono ?_
  rintro e w2 ⟨rfl, ⟨b2, d2, k2⟩, s2⟩
  have K2 := hide k2
  have S2 := hide s2
  clear k2 s2
  go_wp2_with fail
  refine bodyPost_ret (results_none rfl _ _ _) rfl ?_
  exact ⟨rfl, ⟨b2, d2, unhide K2⟩, (PkS.new (unhide BV) hP).trans (unhide S2)⟩
set_option maxRecDepth 20000 in
set_option maxHeartbeats 1000000 in
theorem putCh_sn (P : Nat) (b : Option Addr) (n d : Nat) (zs : List Int) (c : Int) (w : World) (h : Pk w P b n d zs) (hc : -60000 ≤ c ∧ c ≤ 60000) (hn : n ≤ 7000) (hs : inB c (-100) 100 = true) (hf : 1500 < n + 1) :
    Calls Try.prog 61 #[.pointer (some ⟨P, 0, none⟩), .int .i64 c] w fun e w' => e = .panicked [{ v := noRm, recovered := false }] ∧ PkS P w w' := by
  have H := hide h
  have hP : P < w.heap.size := h.p.lt
  have HC := hide (chL_y hs)
  have hin := in_facts hs
  clear h
  have e1 : (c + 100) % 256 = c + 100 := by omega
  go_enter Try.func61, Try.ntmps61
  go_wp2_with fail
  refine (isSmall_is _ _ hs).mono ?_
  rintro e w1 ⟨rfl, hw1⟩
  subst w1
  clear hs
  go_wp2_with fail
  obtain ⟨V, hV⟩ : ∃ V, V = w.alloc (Obj.cells #[.int .u8 (c + 100)] 5) := ⟨_, rfl⟩
  have BV : Hid (Below w.heap.size w V) := hide (by rw [hV]; exact bel1 _)
  have OV : Hid (RowE 1 byC V (some ⟨w.heap.size, 0, none⟩) 1 (chL c)) := hide (by rw [hV, unhide HC]; exact (byL_lit (base := w.heap.size) w [c + 100] (Nat.le_refl _) (by simp)).row)
  rw [← hV]
  clear hV
  refine (put_no _ _ _ _ _ _ _ zs _ ((unhide H).below (unhide BV)) (by omega) hn (by omega)).mono ?_
  rintro e w2 ⟨rfl, hw2⟩
  subst w2
  go_wp2_with fail
  exact ⟨rfl, rfl, PkS.new (unhide BV) hP⟩
set_option maxRecDepth 20000 in
set_option maxHeartbeats 1000000 in
theorem putCh_ly (P : Nat) (b : Option Addr) (n d : Nat) (zs : List Int) (c : Int) (w : World) (h : Pk w P b n d zs) (hc : -60000 ≤ c ∧ c ≤ 60000) (_hn : n ≤ 7000) (hs : inB c (-100) 100 = false) (hf : n + 4 ≤ 1500) :
    Calls Try.prog 61 #[.pointer (some ⟨P, 0, none⟩), .int .i64 c] w fun e w' => e = .returned (.tuple #[]) ∧ (∃ b' d', Pk w' P b' (n + 4) d' (zs ++ chL c)) ∧ PkS P w w' := by
  have H := hide h
  have hP : P < w.heap.size := h.p.lt
  have HC := hide (chL_n hs)
  clear h
  go_enter Try.func61, Try.ntmps61
  go_wp2_with fail
  refine (isSmall_is _ _ hs).mono ?_
  rintro e w1 ⟨rfl, hw1⟩
  subst w1
  clear hs
  go_wp2_with fail
  obtain ⟨V, hV⟩ : ∃ V, V = w.alloc (Obj.cells #[.int .u8 255, .int .u8 ((c + 60000) / 65536), .int .u8 ((c + 60000) / 256 % 256), .int .u8 ((c + 60000) % 256)] 5) := ⟨_, rfl⟩
  have BV : Hid (Below w.heap.size w V) := hide (by rw [hV]; exact bel1 _)
  have OV : Hid (RowE 1 byC V (some ⟨w.heap.size, 0, none⟩) 4 (chL c)) := hide (by rw [hV, unhide HC]; exact (byL_lit (base := w.heap.size) w [255, (c + 60000) / 65536, (c + 60000) / 256 % 256, (c + 60000) % 256] (Nat.le_refl _) (by simp)).row)
  rw [← hV]
  clear hV
  refine (put_yes _ _ _ _ _ _ _ zs (chL c) _ ((unhide H).below (unhide BV)) (unhide OV) (by omega)).mono ?_
  rintro e w2 ⟨rfl, ⟨b2, d2, k2⟩, s2⟩
  have K2 := hide k2
  have S2 := hide s2
  clear k2 s2
  go_wp2_with fail
  go_end0
  exact ⟨rfl, ⟨b2, d2, unhide K2⟩, (PkS.new (unhide BV) hP).trans (unhide S2)⟩
set_option maxRecDepth 20000 in
set_option maxHeartbeats 1000000 in
theorem putCh_ln (P : Nat) (b : Option Addr) (n d : Nat) (zs : List Int) (c : Int) (w : World) (h : Pk w P b n d zs) (hc : -60000 ≤ c ∧ c ≤ 60000) (hn : n ≤ 7000) (hs : inB c (-100) 100 = false) (hf : 1500 < n + 4) :
    Calls Try.prog 61 #[.pointer (some ⟨P, 0, none⟩), .int .i64 c] w fun e w' => e = .panicked [{ v := noRm, recovered := false }] ∧ PkS P w w' := by
  have H := hide h
  have hP : P < w.heap.size := h.p.lt
  have HC := hide (chL_n hs)
  clear h
  go_enter Try.func61, Try.ntmps61
  go_wp2_with fail
  refine (isSmall_is _ _ hs).mono ?_
  rintro e w1 ⟨rfl, hw1⟩
  subst w1
  clear hs
  go_wp2_with fail
  obtain ⟨V, hV⟩ : ∃ V, V = w.alloc (Obj.cells #[.int .u8 255, .int .u8 ((c + 60000) / 65536), .int .u8 ((c + 60000) / 256 % 256), .int .u8 ((c + 60000) % 256)] 5) := ⟨_, rfl⟩
  have BV : Hid (Below w.heap.size w V) := hide (by rw [hV]; exact bel1 _)
  have OV : Hid (RowE 1 byC V (some ⟨w.heap.size, 0, none⟩) 4 (chL c)) := hide (by rw [hV, unhide HC]; exact (byL_lit (base := w.heap.size) w [255, (c + 60000) / 65536, (c + 60000) / 256 % 256, (c + 60000) % 256] (Nat.le_refl _) (by simp)).row)
  rw [← hV]
  clear hV
  refine (put_no _ _ _ _ _ _ _ zs _ ((unhide H).below (unhide BV)) (by omega) hn (by omega)).mono ?_
  rintro e w2 ⟨rfl, hw2⟩
  subst w2
  go_wp2_with fail
  exact ⟨rfl, rfl, PkS.new (unhide BV) hP⟩
theorem putCh_yes (P : Nat) (b : Option Addr) (n d : Nat) (zs : List Int) (c : Int) (w : World) (h : Pk w P b n d zs) (hc : -60000 ≤ c ∧ c ≤ 60000) (hf : n + (chL c).length ≤ 1500) :
    Calls Try.prog 61 #[.pointer (some ⟨P, 0, none⟩), .int .i64 c] w fun e w' => e = .returned (.tuple #[]) ∧ (∃ b' d', Pk w' P b' (n + (chL c).length) d' (zs ++ chL c)) ∧ PkS P w w' := by
  cases hs : inB c (-100) 100
  · have e : (chL c).length = 4 := by rw [chL_n hs]; rfl
    rw [e] at hf ⊢
    exact putCh_ly P b n d zs c w h hc (by omega) hs hf
  · have e : (chL c).length = 1 := by rw [chL_y hs]; rfl
    rw [e] at hf ⊢
    exact putCh_sy P b n d zs c w h hc (by omega) hs hf
theorem putCh_no (P : Nat) (b : Option Addr) (n d : Nat) (zs : List Int) (c : Int) (w : World) (h : Pk w P b n d zs) (hc : -60000 ≤ c ∧ c ≤ 60000) (hn : n ≤ 7000) (hf : 1500 < n + (chL c).length) :
    Calls Try.prog 61 #[.pointer (some ⟨P, 0, none⟩), .int .i64 c] w fun e w' => e = .panicked [{ v := noRm, recovered := false }] ∧ PkS P w w' := by
  cases hs : inB c (-100) 100
  · have e : (chL c).length = 4 := by rw [chL_n hs]; rfl
    rw [e] at hf
    exact putCh_ln P b n d zs c w h hc hn hs hf
  · have e : (chL c).length = 1 := by rw [chL_y hs]; rfl
    rw [e] at hf
    exact putCh_sn P b n d zs c w h hc hn hs hf

end Go.Proofs.Ytfnnfldfnjnlfah

namespace Go.Proofs.Ytfnnfldfnjnlfah
open Go Go.RowKit

/-- The row ahead: one of zeros made here, or one of the record. -/
def AhR (w0 wr : World) (P : Nat) (a : Option Addr) (n c : Nat) (L : List Int) : Prop := OwnI wr (P + 1) (.slice a n c) L ∨ Row w0 a n L
theorem AhR.row {w0 wr : World} {P : Nat} {a : Option Addr} {n c : Nat} {L : List Int} (h : AhR w0 wr P a n c L) (hb : Below w0.heap.size w0 wr) : Row wr a n L := by
  rcases h with h | h
  · exact h.row
  · exact h.below hb
theorem AhR.step {w0 wr w' : World} {P : Nat} {a : Option Addr} {n c : Nat} {L : List Int} (h : AhR w0 wr P a n c L) (s : PkS P wr w') : AhR w0 w' P a n c L := by
  rcases h with h | h
  · exact .inl (s.i _ _ _ _ h)
  · exact .inr h
theorem madeI_own (W : World) {L base : Nat} (hL : L ≤ 1048576) (hb : base ≤ W.heap.size) : OwnI (W.alloc (.cells (madeCells #[.int .i64 0] L) 3)) base (.slice (some ⟨W.heap.size, 0, none⟩) L L) (List.replicate L 0) := by
  have e : madeCells #[.int .i64 0] L = (List.replicate L (Value.int .i64 0)).toArray := by
    apply Array.ext'
    rw [toList_madeCells_one]
  rw [e]
  refine ⟨⟨List.replicate L (Value.int .i64 0), ?_, fun j hj => ?_⟩, fun i => by rw [nthZ]; omega⟩
  · rw [List.length_replicate]
    exact World.ownsRow_lit W _ L hb (by unfold maxLen; omega) (by simp)
  · rw [List.length_replicate] at hj
    simp [hj, nthZ]
def PkE (zss : List (List Int)) (P : Nat) (w : World) (e : Ending) (w' : World) : Prop :=
  ((e = .returned (.tuple #[]) ∧ (pkF zss).length ≤ 1500 ∧ ∃ b d, Pk w' P b (pkF zss).length d (pkF zss)) ∨ (e = .panicked [{ v := noRm, recovered := false }] ∧ 1500 < (pkF zss).length)) ∧ PkS P w w'

set_option maxRecDepth 20000 in
set_option maxHeartbeats 4000000 in
theorem putRecord_any (P : Nat) (b : Option Addr) (d : Nat) (ad : Option Addr) (len cap : Nat) (zss : List (List Int)) (w0 w : World) (hr : RowS w0 ad len zss) (hb : Below w0.heap.size w0 w) (hP : w0.heap.size ≤ P) (hk : Pk w P b 0 d []) (hc : rcB zss = true) :
    Calls Try.prog 29 #[.pointer (some ⟨P, 0, none⟩), .slice ad len cap] w fun e w' => PkE zss P w e w' := by
  have hz := hr.len_eq
  have HR := hide hr
  have HB0 := hide hb
  have HK0 := hide hk
  have HC := hide hc
  have hPw : P < w.heap.size := hk.p.lt
  have hl200 : zss.length ≤ 200 := (rcB_facts hc).1
  obtain ⟨N, hN⟩ : ∃ N, wdN zss = N := ⟨_, rfl⟩
  have HN := hide hN
  have hN8 : N ≤ 8 := by rw [← hN]; exact wdN_le hc
  have HI0 : Hid (pkI zss 0 = [(N : Int), (zss.length : Int)]) := hide (by rw [← hN]; rfl)
  clear hr hb hk hc hN
  subst hz
  have e1 : (N : Int) % 256 = (N : Int) := by omega
  have e2 : (zss.length : Int) % 256 = (zss.length : Int) := by omega
  have hmk := fun W => madeI_run (L := N) (by omega) W
  go_enter Try.func29, Try.ntmps29
  go_wp2_with fail
  refine (wideOf_is _ _ _ zss _ ((unhide HR).below (unhide HB0)) (unhide HN)).mono ?_
  rintro e w1 ⟨rfl, hw1⟩
  subst w1
  go_wp2_with fail
  obtain ⟨V, hV⟩ : ∃ V, V = w.alloc (Obj.cells #[.int .u8 (N : Int), .int .u8 (zss.length : Int)] 5) := ⟨_, rfl⟩
  have BV : Hid (Below w.heap.size w V) := hide (by rw [hV]; exact bel1 _)
  have OV : Hid (RowE 1 byC V (some ⟨w.heap.size, 0, none⟩) 2 (pkI zss 0)) := hide (by rw [hV, unhide HI0]; exact (byL_lit (base := w.heap.size) w [(N : Int), (zss.length : Int)] (Nat.le_refl _) (by simp)).row)
  rw [← hV]
  clear hV
  refine (put_yes _ _ _ _ _ _ _ [] (pkI zss 0) _ ((unhide HK0).below (unhide BV)) (unhide OV) (by omega)).mono ?_
  rintro e w2 ⟨rfl, ⟨b2, d2, k2⟩, s2⟩
  rw [List.nil_append, Nat.zero_add] at k2
  have K2 := hide k2
  have S2 := hide ((PkS.new (unhide BV) hPw).trans s2)
  clear k2 s2 BV OV HK0 e1 e2
  go_wp2_with fail
  refine (wideOf_is _ _ _ zss _ ((unhide HR).below ((unhide HB0).trans ((unhide S2).b.mono hP))) (unhide HN)).mono ?_
  rintro e w3 ⟨rfl, hw3⟩
  subst w3
  go_wp2_with fail
  have hPw2 : P < w2.heap.size := (unhide K2).p.lt
  have AH : Hid (AhR w0 (w2.alloc (.cells (madeCells #[.int .i64 0] N) 3)) P (some ⟨w2.heap.size, 0, none⟩) N N (ahL zss 0)) := hide (.inl (by have := madeI_own w2 (L := N) (base := P + 1) (by omega) (by omega); rw [show ahL zss 0 = List.replicate N 0 by rw [← unhide HN]; rfl]; exact this))
  have K3 : Hid (Pk (w2.alloc (.cells (madeCells #[.int .i64 0] N) 3)) P b2 2 d2 (pkI zss 0)) := hide ((unhide K2).below (bel1 _))
  have S3 := hide ((unhide S2).trans (PkS.new (bel1 (w := w2) (.cells (madeCells #[.int .i64 0] N) 3)) hPw2))
  clear K2 S2 hmk
  go_loopw [4, 23] (fun o i wr => ∃ (k : Nat) (a : Option Addr) (n c m : Nat) (b : Option Addr) (d : Nat), k ≤ zss.length ∧ i = .int .i64 k ∧ o = .slice a n c ∧ (k < zss.length → AhR w0 wr P a n c (ahL zss k)) ∧ m ≤ 1500 ∧ Pk wr P b m d (pkI zss k) ∧ PkS P w wr) (fun _ i _ => zss.length - (intOf i).toNat)
  case atStart => exact ⟨0, _, _, _, _, _, _, Nat.zero_le _, rfl, rfl, fun _ => unhide AH, by omega, unhide K3, unhide S3⟩
  case round =>
    clear AH K3 S3
    obtain ⟨k, a, n, c, m, b, d, hk, rfl, rfl, hah, hm, hpk, hps⟩ := hrel
    have PK := hide hpk
    have PS := hide hps
    have AH0 := hide hah
    clear hpk hps hah
    by_cases hlt : k < zss.length
    · have i0 : (0 : Int) ≤ (k : Int) := by omega
      have i1 : (k : Int) < (zss.length : Int) := by omega
      have AH := hide ((unhide AH0) hlt)
      clear AH0
      have BR := hide ((unhide HB0).trans ((unhide PS).b.mono hP))
      rcases (unhide HR).open_ with ⟨h0, _⟩ | ⟨bb, off, rfl, _, hc⟩
      · omega
      obtain ⟨ai, li, ci, ck, rk, _⟩ := hc k hlt
      have x1 := ((unhide BR).cell (block_lt_of_cell ck)).trans ck
      have RK := hide rk
      have hliN : li = N := by have e1 := ((rcB_facts (unhide HC)).2 k hlt).1; have e2 := unhide HN; have e3 := rk.len_eq; unfold wdN at e2; omega
      have hnN : n = N := by have e := ((unhide AH).row (unhide BR)).len_eq; rw [ahL_len (unhide HC) hlt, unhide HN] at e; omega
      subst hliN
      subst hnN
      clear hc ck rk
      go_wp2_with fail
      go_loopw [29] (fun i wr => ∃ (j m : Nat) (b : Option Addr) (d : Nat), j ≤ n ∧ i = .int .i64 j ∧ AhR w0 wr P a n c (ahL zss k) ∧ m ≤ 1500 ∧ Pk wr P b m d (pkK zss k j) ∧ PkS P w wr) (fun i _ => n - (intOf i).toNat)
      case atStart => exact ⟨0, _, _, _, Nat.zero_le _, rfl, unhide AH, hm, by rw [pkK_zero]; exact unhide PK, unhide PS⟩
      case round =>
        clear AH PK PS BR hm x1
        obtain ⟨j, m, b, d, hj, rfl, hah, hm, hpk, hps⟩ := hrel
        have PK := hide hpk
        have PS := hide hps
        have AH := hide hah
        clear hpk hps hah
        by_cases hlj : j < n
        · have j0 : (0 : Int) ≤ (j : Int) := by omega
          have j1 : (j : Int) < (n : Int) := by omega
          have br := (unhide HB0).trans ((unhide PS).b.mono hP)
          have ra := (unhide AH).row br
          have rr := (unhide RK).below br
          rcases ra.open_ with ⟨h0, _⟩ | ⟨b3, o3, rfl, _, hc3⟩
          · omega
          rcases rr.open_ with ⟨h0, _⟩ | ⟨b4, o4, rfl, _, hc4⟩
          · omega
          have x3 := hc3 j hlj
          have x4 := hc4 j hlj
          obtain ⟨u, hu⟩ : ∃ u, u = nth (nthS zss k) j := ⟨_, rfl⟩
          obtain ⟨v, hv⟩ : ∃ v, v = nth (ahL zss k) j := ⟨_, rfl⟩
          have HCC : Hid (chC zss k j = u - v) := hide (by rw [hu, hv]; rfl)
          have hu2 : -30000 ≤ u ∧ u ≤ 30000 := by rw [hu]; exact row_in (unhide HC) hlt (by rw [unhide HN]; exact hlj)
          have hv2 : -30000 ≤ v ∧ v ≤ 30000 := by rw [hv]; exact ahL_in (unhide HC) hlt (by rw [unhide HN]; exact hlj)
          rw [← hu] at x4
          rw [← hv] at x3
          have HKS : Hid (pkK zss k (j + 1) = pkK zss k j ++ chL (u - v)) := hide (by rw [← unhide HCC]; exact pkK_succ zss k j)
          have HLM := hide (unhide PK).l
          have HMN : Hid ((pkK zss k (j + 1)).length ≤ (pkF zss).length) := hide (pkK_mono zss hlt (by rw [unhide HN]; omega))
          have hcl := chL_len (u - v)
          clear br ra rr hc3 hc4 hu hv HCC
          by_cases hf : m + (chL (u - v)).length ≤ 1500
          · have HF := hide hf
            have HCL := hide hcl
            clear hf hcl
            go_wp2_with fail
            refine (putCh_yes _ _ _ _ (pkK zss k j) (u - v) _ (unhide PK) (by omega) (unhide HF)).mono ?_
            rintro e w5 ⟨rfl, ⟨b5, d5, k5⟩, s5⟩
            have K5 : Hid (Pk w5 P b5 (m + (chL (u - v)).length) d5 (pkK zss k (j + 1))) := hide (by rw [unhide HKS]; exact k5)
            have S5 := hide ((unhide PS).trans s5)
            have A5 := hide ((unhide AH).step s5)
            clear k5 s5
            go_wp2_with fail
            go_roundw
            case rel => exact ⟨j + 1, _, b5, d5, by omega, by go_num, unhide A5, unhide HF, unhide K5, unhide S5⟩
            case measure => simp [intOf]; omega
          · have HF := hide hf
            have HCL := hide hcl
            clear hf hcl
            go_wp2_with fail
            refine (putCh_no _ _ _ _ (pkK zss k j) (u - v) _ (unhide PK) (by omega) (by omega) (by have := unhide HF; omega)).mono ?_
            rintro e w5 ⟨rfl, s5⟩
            have S5 := hide ((unhide PS).trans s5)
            clear s5
            go_wp2_with fail
            exact ⟨rfl, .inr ⟨rfl, by have a1 := unhide HMN; have a2 := unhide HF; have a3 := unhide HLM; rw [unhide HKS, List.length_append] at a1; omega⟩, unhide S5⟩
        · have j1 : ¬ (j : Int) < (n : Int) := by omega
          have hjn : j = n := by omega
          have K6 : Hid (Pk wr P b m d (pkI zss (k + 1))) := hide (by have := unhide PK; rw [hjn, ← unhide HN, pkK_row] at this; exact this)
          have A6 : Hid (AhR w0 wr P ai n ci (ahL zss (k + 1))) := hide (.inr (unhide RK))
          clear hjn
          go_wp2_with fail
          go_roundw
          case rel => exact ⟨k + 1, _, _, _, m, b, d, by omega, by go_num, rfl, fun _ => unhide A6, hm, unhide K6, unhide PS⟩
          case measure => simp [intOf]; omega
    · have i1 : ¬ (k : Int) < (zss.length : Int) := by omega
      have hkk : Hid (k = zss.length) := hide (by omega)
      go_wp2_with fail
      go_end0
      have z := unhide PK
      rw [unhide hkk] at z
      have zl : (pkF zss).length = m := z.l
      exact ⟨.inl ⟨rfl, by omega, b, d, by rw [zl]; exact z⟩, unhide PS⟩

end Go.Proofs.Ytfnnfldfnjnlfah

/-
  The program's packer: bytes put behind bytes, or a panic where there is no room; a change. Nothing is written but the packer's own memory.
-/
import Derived.Test.YtfnnfldfnjnlfagPk1
import Derived.Test.YtfnnfldfnjnlfagRcOk
import Derived.Test.YtfnnfldfnjnlfagLoopAt
import Derived.Test.YtfnnfldfnjnlfagApp1
import Derived.Test.YtfnnfldfnjnlfagBuLit
import Derived.WalkLawsBesides
namespace Go.Proofs.Ytfnnfldfnjnlfag
open Go Go.RowKit

/-- A list of whole numbers and one of bytes lie apart. -/
theorem ownI_by {w : World} {base base' : Nat} {v v' : Value} {L zs : List Int} (h : OwnI w base v L) (h' : OwnE 1 byC w base' 5 v' zs) : ∀ g, v.ownBlock = some g → v'.ownBlock ≠ some g := by
  intro g hg hg'
  obtain ⟨xs, ho, _⟩ := h.own
  obtain ⟨ys, ho', _⟩ := h'.own
  rcases ho.2 with ⟨e, _⟩ | ⟨g1, c1, cur1, rfl, _, hb1, _⟩
  · rw [e] at hg; simp [Value.ownBlock] at hg
  rcases ho'.2 with ⟨e, _⟩ | ⟨g2, c2, cur2, rfl, _, hb2, _⟩
  · rw [e] at hg'; simp [Value.ownBlock] at hg'
  have e1 : g1 = g := Option.some.inj hg
  have e2 : g2 = g := Option.some.inj hg'
  rw [e1] at hb1
  rw [e2, hb1] at hb2
  simp only [Option.some.injEq, Obj.cells.injEq] at hb2
  exact absurd hb2.2.1 (by decide)
/-- The packer at block P, and the bytes that it holds. -/
structure Pk (w : World) (P : Nat) (b : Option Addr) (n d : Nat) (zs : List Int) : Prop where
  p : Blk w P [.slice b n d]
  o : OwnE 1 byC w (P + 1) 5 (.slice b n d) zs
  l : zs.length = n
/-- What stays: memory ahead of the packer, and lists of whole numbers behind it. -/
structure PkS (P : Nat) (w w' : World) : Prop where
  b : Below P w w'
  i : ∀ a k c L, OwnI w (P + 1) (.slice a k c) L → OwnI w' (P + 1) (.slice a k c) L
theorem PkS.refl (P : Nat) (w : World) : PkS P w w := ⟨Below.refl _ _, fun _ _ _ _ h => h⟩
theorem PkS.trans {P : Nat} {w w1 w2 : World} (h : PkS P w w1) (k : PkS P w1 w2) : PkS P w w2 := ⟨h.b.trans k.b, fun a n c L o => k.i a n c L (h.i a n c L o)⟩
theorem PkS.new {P : Nat} {w w' : World} (h : Below w.heap.size w w') (hP : P < w.heap.size) : PkS P w w' := ⟨h.mono (by omega), fun _ _ _ _ o => o.below h⟩
theorem Pk.below {w w' : World} {P : Nat} {b : Option Addr} {n d : Nat} {zs : List Int} (h : Pk w P b n d zs) (k : Below w.heap.size w w') : Pk w' P b n d zs := ⟨h.p.below k, h.o.below k, h.l⟩
/-- The world behind an append and the store of what it gave. -/
theorem Pk.put {w w9 : World} {P : Nat} {b b' : Option Addr} {n d m d' : Nat} {zs ys : List Int} (h : Pk w P b n d zs) (gr : w.grownBy w9 (Value.slice b n d).ownBlock) (o : OwnE 1 byC w9 (P + 1) 5 (.slice b' m d') (zs ++ ys)) (hm : (zs ++ ys).length = m) :
    Pk (w9.setCell ⟨P, 0, none⟩ (.slice b' m d')) P b' m d' (zs ++ ys) ∧ PkS P w (w9.setCell ⟨P, 0, none⟩ (.slice b' m d')) := by
  have lz := h.o.lies
  have lo := o.lies
  have hP := h.p.lt
  have k9 := h.p.apart gr (fun e => by have := (lz P e.symm).1; omega)
  refine ⟨⟨k9.set 0 (by simp) _, o.set_other _ (fun e => by have := (lo P e).1; omega), hm⟩, ⟨?_, fun a k c L oi => ?_⟩⟩
  · exact (((Below.refl P w).grown gr (by omega) (fun k hk => by have := (lz k hk).1; omega))).setCell (by simp) _
  · refine (oi.far gr (fun g hg e => ownI_by oi h.o g hg e.symm)).set_other _ (fun e => ?_)
    have := (oi.lies P e).1; omega

set_option maxHeartbeats 400000 in
theorem isSmall_is {b : Bool} (c : Int) (w : World) (h : inB c (-100) 100 = b) :
    Calls Try.prog 116 #[.int .i64 c] w fun e w' => e = .returned (.bool b) ∧ w' = w := by
  go_enter Try.func116, Try.ntmps116
  go_wp2_with fail
  refine (within_is _ _ _ _ h).mono ?_
  rintro e w' ⟨rfl, rfl⟩
  go_wp2_with fail
  go_ret
  exact ⟨rfl, rfl⟩
def noRm : Value := .iface 107 (.agg #[])
set_option maxHeartbeats 1000000 in
theorem put_no (P : Nat) (b xa : Option Addr) (n d m c : Nat) (zs : List Int) (w : World) (h : Pk w P b n d zs) (hm : m ≤ 10) (hn : n ≤ 7000) (hf : 1500 < n + m) :
    Calls Try.prog 103 #[.pointer (some ⟨P, 0, none⟩), .slice xa m c] w fun e w' => e = .panicked [{ v := noRm, recovered := false }] ∧ w' = w := by
  have c0 : w.cell? ⟨P, 0, none⟩ = some (.slice b n d) := h.p.c 0 (by simp)
  have hg : (1500 : Int) < (n : Int) + (m : Int) := by omega
  clear h
  go_enter Try.func103, Try.ntmps103
  go_wp2_with fail
  exact ⟨rfl, rfl, rfl⟩
theorem byC_one (x : Int) (q : Nat) : (byC x q).oneCell' = true := rfl
set_option maxRecDepth 20000 in
set_option maxHeartbeats 2000000 in
theorem put_yes (P : Nat) (b xa : Option Addr) (n d m c : Nat) (zs ys : List Int) (w : World) (h : Pk w P b n d zs) (hy : RowE 1 byC w xa m ys) (hf : n + m ≤ 1500) :
    Calls Try.prog 103 #[.pointer (some ⟨P, 0, none⟩), .slice xa m c] w fun e w' => e = .returned (.tuple #[]) ∧ (∃ b' d', Pk w' P b' (n + m) d' (zs ++ ys)) ∧ PkS P w w' := by
  have c0 : w.cell? ⟨P, 0, none⟩ = some (.slice b n d) := h.p.c 0 (by simp)
  have hg : ¬ (1500 : Int) < (n : Int) + (m : Int) := by omega
  have H := hide h
  have HY := hide hy
  have hP : P < w.heap.size := h.p.lt
  have HL : Hid ((zs ++ ys).length = n + m) := hide (by rw [List.length_append, h.l, hy.len_eq])
  have HL0 := hide h.l
  clear h hy
  go_enter Try.func103, Try.ntmps103
  go_wp2_with (at_builtin; refine wpList_app_elsM (K := 1) (cells := byC) (by kernel_rfl) _ _ 22 5 rfl Try.underlying22 info_by3 rfl (by decide) (by decide) byC_one (unhide H).o rfl xa m c ys rfl (unhide HY) (by rw [unhide HL0]; omega) (by omega) ?_; intro v9 w9 o9 gr9 nn9; obtain ⟨b9, d9, ev9, _, _⟩ := o9.slice; rw [unhide HL] at ev9; subst ev9; have N9 := hide ((unhide H).put gr9 o9 (unhide HL)); have k9 := (unhide H).p.apart gr9 (fun e => by have := ((unhide H).o.lies P e.symm).1; omega); have y0 : w9.cell? ⟨P, 0, none⟩ = some (.slice b n d) := k9.c 0 (by simp); have z0 : w9.frozen? ⟨P, 0, none⟩ = false := k9.f 0 (by simp); clear o9 gr9 nn9 k9)
  go_end0
  exact ⟨rfl, ⟨b9, d9, (unhide N9).1⟩, (unhide N9).2⟩
set_option maxRecDepth 20000 in
set_option maxHeartbeats 1000000 in
theorem putCh_sy (P : Nat) (b : Option Addr) (n d : Nat) (zs : List Int) (c : Int) (w : World) (h : Pk w P b n d zs) (hc : -60000 ≤ c ∧ c ≤ 60000) (_hn : n ≤ 7000) (hs : inB c (-100) 100 = true) (hf : n + 1 ≤ 1500) :
    Calls Try.prog 104 #[.pointer (some ⟨P, 0, none⟩), .int .i64 c] w fun e w' => e = .returned (.tuple #[]) ∧ (∃ b' d', Pk w' P b' (n + 1) d' (zs ++ chL c)) ∧ PkS P w w' := by
  have H := hide h
  have hP : P < w.heap.size := h.p.lt
  have HC := hide (chL_y hs)
  have hin := in_facts hs
  clear h
  have e1 : (c + 100) % 256 = c + 100 := by omega
  go_enter Try.func104, Try.ntmps104
  go_wp2_with fail
  refine (isSmall_is _ _ hs).mono ?_
  rintro e w1 ⟨rfl, hw1⟩
  subst w1
  clear hs
  go_wp2_with fail
  obtain ⟨V, hV⟩ : ∃ V, V = w.alloc (Obj.cells #[.int .u8 (c + 100)] 5) := ⟨_, rfl⟩
  have BV : Hid (Below w.heap.size w V) := hide (by rw [hV]; exact bel1 _)
  have OV : Hid (RowE 1 byC V (some ⟨w.heap.size, 0, none⟩) 1 (chL c)) := hide (by rw [hV, unhide HC]; exact (byL_lit (base := w.heap.size) w [c + 100] (Nat.le_refl _) (by simp)).row)
  rw [← hV]
  clear hV
  refine (put_yes _ _ _ _ _ _ _ zs (chL c) _ ((unhide H).below (unhide BV)) (unhide OV) (by omega)).mono ?_
  rintro e w2 ⟨rfl, ⟨b2, d2, k2⟩, s2⟩
  have K2 := hide k2
  have S2 := hide s2
  clear k2 s2
  go_wp2_with fail
  refine bodyPost_ret (results_none rfl _ _ _) rfl ?_
  exact ⟨rfl, ⟨b2, d2, unhide K2⟩, (PkS.new (unhide BV) hP).trans (unhide S2)⟩
set_option maxRecDepth 20000 in
set_option maxHeartbeats 1000000 in
theorem putCh_sn (P : Nat) (b : Option Addr) (n d : Nat) (zs : List Int) (c : Int) (w : World) (h : Pk w P b n d zs) (hc : -60000 ≤ c ∧ c ≤ 60000) (hn : n ≤ 7000) (hs : inB c (-100) 100 = true) (hf : 1500 < n + 1) :
    Calls Try.prog 104 #[.pointer (some ⟨P, 0, none⟩), .int .i64 c] w fun e w' => e = .panicked [{ v := noRm, recovered := false }] ∧ PkS P w w' := by
  have H := hide h
  have hP : P < w.heap.size := h.p.lt
  have HC := hide (chL_y hs)
  have hin := in_facts hs
  clear h
  have e1 : (c + 100) % 256 = c + 100 := by omega
  go_enter Try.func104, Try.ntmps104
  go_wp2_with fail
  refine (isSmall_is _ _ hs).mono ?_
  rintro e w1 ⟨rfl, hw1⟩
  subst w1
  clear hs
  go_wp2_with fail
  obtain ⟨V, hV⟩ : ∃ V, V = w.alloc (Obj.cells #[.int .u8 (c + 100)] 5) := ⟨_, rfl⟩
  have BV : Hid (Below w.heap.size w V) := hide (by rw [hV]; exact bel1 _)
  have OV : Hid (RowE 1 byC V (some ⟨w.heap.size, 0, none⟩) 1 (chL c)) := hide (by rw [hV, unhide HC]; exact (byL_lit (base := w.heap.size) w [c + 100] (Nat.le_refl _) (by simp)).row)
  rw [← hV]
  clear hV
  refine (put_no _ _ _ _ _ _ _ zs _ ((unhide H).below (unhide BV)) (by omega) hn (by omega)).mono ?_
  rintro e w2 ⟨rfl, hw2⟩
  subst w2
  go_wp2_with fail
  exact ⟨rfl, rfl, PkS.new (unhide BV) hP⟩
set_option maxRecDepth 20000 in
set_option maxHeartbeats 1000000 in
theorem putCh_ly (P : Nat) (b : Option Addr) (n d : Nat) (zs : List Int) (c : Int) (w : World) (h : Pk w P b n d zs) (hc : -60000 ≤ c ∧ c ≤ 60000) (_hn : n ≤ 7000) (hs : inB c (-100) 100 = false) (hf : n + 4 ≤ 1500) :
    Calls Try.prog 104 #[.pointer (some ⟨P, 0, none⟩), .int .i64 c] w fun e w' => e = .returned (.tuple #[]) ∧ (∃ b' d', Pk w' P b' (n + 4) d' (zs ++ chL c)) ∧ PkS P w w' := by
  have H := hide h
  have hP : P < w.heap.size := h.p.lt
  have HC := hide (chL_n hs)
  clear h
  go_enter Try.func104, Try.ntmps104
  go_wp2_with fail
  refine (isSmall_is _ _ hs).mono ?_
  rintro e w1 ⟨rfl, hw1⟩
  subst w1
  clear hs
  go_wp2_with fail
  obtain ⟨V, hV⟩ : ∃ V, V = w.alloc (Obj.cells #[.int .u8 255, .int .u8 ((c + 60000) / 65536), .int .u8 ((c + 60000) / 256 % 256), .int .u8 ((c + 60000) % 256)] 5) := ⟨_, rfl⟩
  have BV : Hid (Below w.heap.size w V) := hide (by rw [hV]; exact bel1 _)
  have OV : Hid (RowE 1 byC V (some ⟨w.heap.size, 0, none⟩) 4 (chL c)) := hide (by rw [hV, unhide HC]; exact (byL_lit (base := w.heap.size) w [255, (c + 60000) / 65536, (c + 60000) / 256 % 256, (c + 60000) % 256] (Nat.le_refl _) (by simp)).row)
  rw [← hV]
  clear hV
  refine (put_yes _ _ _ _ _ _ _ zs (chL c) _ ((unhide H).below (unhide BV)) (unhide OV) (by omega)).mono ?_
  rintro e w2 ⟨rfl, ⟨b2, d2, k2⟩, s2⟩
  have K2 := hide k2
  have S2 := hide s2
  clear k2 s2
  go_wp2_with fail
  go_end0
  exact ⟨rfl, ⟨b2, d2, unhide K2⟩, (PkS.new (unhide BV) hP).trans (unhide S2)⟩
set_option maxRecDepth 20000 in
set_option maxHeartbeats 1000000 in
theorem putCh_ln (P : Nat) (b : Option Addr) (n d : Nat) (zs : List Int) (c : Int) (w : World) (h : Pk w P b n d zs) (hc : -60000 ≤ c ∧ c ≤ 60000) (hn : n ≤ 7000) (hs : inB c (-100) 100 = false) (hf : 1500 < n + 4) :
    Calls Try.prog 104 #[.pointer (some ⟨P, 0, none⟩), .int .i64 c] w fun e w' => e = .panicked [{ v := noRm, recovered := false }] ∧ PkS P w w' := by
  have H := hide h
  have hP : P < w.heap.size := h.p.lt
  have HC := hide (chL_n hs)
  clear h
  go_enter Try.func104, Try.ntmps104
  go_wp2_with fail
  refine (isSmall_is _ _ hs).mono ?_
  rintro e w1 ⟨rfl, hw1⟩
  subst w1
  clear hs
  go_wp2_with fail
  obtain ⟨V, hV⟩ : ∃ V, V = w.alloc (Obj.cells #[.int .u8 255, .int .u8 ((c + 60000) / 65536), .int .u8 ((c + 60000) / 256 % 256), .int .u8 ((c + 60000) % 256)] 5) := ⟨_, rfl⟩
  have BV : Hid (Below w.heap.size w V) := hide (by rw [hV]; exact bel1 _)
  have OV : Hid (RowE 1 byC V (some ⟨w.heap.size, 0, none⟩) 4 (chL c)) := hide (by rw [hV, unhide HC]; exact (byL_lit (base := w.heap.size) w [255, (c + 60000) / 65536, (c + 60000) / 256 % 256, (c + 60000) % 256] (Nat.le_refl _) (by simp)).row)
  rw [← hV]
  clear hV
  refine (put_no _ _ _ _ _ _ _ zs _ ((unhide H).below (unhide BV)) (by omega) hn (by omega)).mono ?_
  rintro e w2 ⟨rfl, hw2⟩
  subst w2
  go_wp2_with fail
  exact ⟨rfl, rfl, PkS.new (unhide BV) hP⟩
theorem putCh_yes (P : Nat) (b : Option Addr) (n d : Nat) (zs : List Int) (c : Int) (w : World) (h : Pk w P b n d zs) (hc : -60000 ≤ c ∧ c ≤ 60000) (hf : n + (chL c).length ≤ 1500) :
    Calls Try.prog 104 #[.pointer (some ⟨P, 0, none⟩), .int .i64 c] w fun e w' => e = .returned (.tuple #[]) ∧ (∃ b' d', Pk w' P b' (n + (chL c).length) d' (zs ++ chL c)) ∧ PkS P w w' := by
  cases hs : inB c (-100) 100
  · have e : (chL c).length = 4 := by rw [chL_n hs]; rfl
    rw [e] at hf ⊢
    exact putCh_ly P b n d zs c w h hc (by omega) hs hf
  · have e : (chL c).length = 1 := by rw [chL_y hs]; rfl
    rw [e] at hf ⊢
    exact putCh_sy P b n d zs c w h hc (by omega) hs hf
theorem putCh_no (P : Nat) (b : Option Addr) (n d : Nat) (zs : List Int) (c : Int) (w : World) (h : Pk w P b n d zs) (hc : -60000 ≤ c ∧ c ≤ 60000) (hn : n ≤ 7000) (hf : 1500 < n + (chL c).length) :
    Calls Try.prog 104 #[.pointer (some ⟨P, 0, none⟩), .int .i64 c] w fun e w' => e = .panicked [{ v := noRm, recovered := false }] ∧ PkS P w w' := by
  cases hs : inB c (-100) 100
  · have e : (chL c).length = 4 := by rw [chL_n hs]; rfl
    rw [e] at hf
    exact putCh_ln P b n d zs c w h hc hn hs hf
  · have e : (chL c).length = 1 := by rw [chL_y hs]; rfl
    rw [e] at hf
    exact putCh_sn P b n d zs c w h hc hn hs hf

end Go.Proofs.Ytfnnfldfnjnlfag

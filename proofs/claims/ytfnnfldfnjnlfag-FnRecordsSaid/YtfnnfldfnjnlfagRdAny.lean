/-
  A record that is drawn, right or not: it can be read, and has at most 300 rows. At bytes of at most 1048576.
-/
import Derived.Test.YtfnnfldfnjnlfagRcDr
import Derived.Test.YtfnnfldfnjnlfagRdPure
import Derived.Deep.DrawnRows
namespace Go.Proofs.Ytfnnfldfnjnlfag
open Go Go.RowKit

def DaE (w : World) (C : Nat) (a : Option Addr) (len cap : Nat) (e : Ending) (w' : World) : Prop := ∃ (g n c : Nat) (zs : List (List Int)), e = .returned (.slice (some ⟨g, 0, none⟩) n c) ∧ RowS w' (some ⟨g, 0, none⟩) n zs ∧ n ≤ 300 ∧ Dr w C a len cap w'
set_option maxRecDepth 20000 in
set_option maxHeartbeats 8000000 in
theorem l20DrawAny_any (w : World) (C : Nat) (a : Option Addr) (len cap : Nat) (W : World) (h : Dr w C a len cap W) (hin : ∀ b off, a = some ⟨b, off, none⟩ → b < w.heap.size) (hl : len ≤ 1048576) :
    Calls Try.prog 74 #[.pointer (some ⟨C, 0, none⟩), .slice a len cap] W fun e w' => DaE w C a len cap e w' := by
  have CALL := hide (l20Draw_any w C a len cap W h hin hl)
  have HIN := hide hin
  have hCW : C < W.heap.size := h.lt
  clear h hin
  go_enter Try.func74, Try.ntmps74
  go_wp2_with fail
  refine (unhide CALL).mono ?_
  rintro e w1 ⟨g, c, us, z, rfl, ⟨o1, rc⟩, d1⟩
  obtain ⟨n, hn⟩ : ∃ n, z.length = n := ⟨_, rfl⟩
  have hul : us.length = n := by rw [← hn, ← o1.con]; simp [rxZ]
  have hn39 : n ≤ 39 := by obtain ⟨_, _, q, _⟩ := rc; omega
  rw [hn] at o1 ⊢
  have RG : Hid (RrG W w1 g n c us z) := hide ⟨o1.o, hul, o1.con⟩
  have RL : Hid (RrLies W.heap.size w1.heap.size (.slice (some ⟨g, 0, none⟩) n c) us) := hide o1.o.lies
  have hW1 : W.heap.size ≤ w1.heap.size := by have := (unhide RL).1 g rfl; omega
  have D1 := hide d1
  clear o1 rc d1 hn hul CALL
  go_wp2_with fail
  refine (drBelow 30 _ (unhide D1) (by omega)).mono ?_
  rintro e w2 ⟨x, rfl, hx, d2, g2⟩
  have RG := hide ((unhide RG).far (unhide RL) g2 (.inl hCW))
  have D2 := hide d2
  have hs2 : w1.heap.size ≤ w2.heap.size := g2.size
  clear d2 g2 D1
  by_cases x0 : x = 0
  · subst x0
    go_wp2_with fail
    refine (drBelow 10 _ ((unhide D2).below (bel1 _)) (by omega)).mono ?_
    rintro e w3 ⟨k, rfl, hk, d3, g3⟩
    obtain ⟨kn, rfl⟩ : ∃ kn : Nat, k = (kn : Int) := ⟨k.toNat, by omega⟩
    have hkn : kn ≤ 9 := by omega
    have OL : Hid (OwnI w3 w1.heap.size (.slice (some ⟨w2.heap.size, 0, none⟩) kn 9) ([1, 2, 3, 4, 5, 6, 7, 8, 9].take kn)) := hide ((ownI_lit (w := w2) (base := w1.heap.size) (k := kn) (zs := [1, 2, 3, 4, 5, 6, 7, 8, 9]) hs2 (by simpa using hkn) (by simp) (by decide)).far g3 (fun q hq e => by have e1 := fresh_own hq; simp only [Option.some.injEq] at e; omega))
    have RG := hide (((unhide RG).below (bel1 _)).far (unhide RL) g3 (.inl hCW))
    have D3 := hide d3
    have hs3 : w2.heap.size + 1 ≤ w3.heap.size := by have := g3.size; simpa using this
    clear d3 g3 D2
    go_wp2_with (at_builtin; refine wpList_app_elG (K := 1) (cells := rxC) rfl _ _ 57 68 rfl Try.underlying57 infoRx rfl (by decide) (by decide) (⟨some ⟨w2.heap.size, 0, none⟩, kn, 9, [1, 2, 3, 4, 5, 6, 7, 8, 9].take kn⟩ : Rx) [.slice (some ⟨w2.heap.size, 0, none⟩) kn 9] rfl (fun q hq => by match q, hq with | 0, _ => rfl) (fun u hu => by simp at hu; rcases hu with rfl; rfl) (unhide RG).o.out (unhide RG).l rfl rfl rfl (by omega) (by omega) ?_; intro g9 c9 w9 o9 gr9 hg9)
    have gr9' : w3.grownBy w9 (some g) := gr9
    have gl := (unhide RL).1 g rfl
    have RG9 := hide ((unhide RG).push (unhide RL) (x := ⟨some ⟨w2.heap.size, 0, none⟩, kn, 9, [1, 2, 3, 4, 5, 6, 7, 8, 9].take kn⟩) (unhide OL) hW1 o9 gr9 hg9)
    have DR9 := hide ((unhide D3).own gr9' (fun p hp => by have := Option.some.inj hp; omega) (unhide HIN))
    refine bodyPost_ret (v := .slice (some ⟨g9, 0, none⟩) (n + 1) c9) (by simp [results, Try.results74, go_sem]) rfl ⟨g9, n + 1, c9, _, rfl, (unhide RG9).o.read (by have := (unhide RG9).l; omega), by omega, unhide DR9⟩
  by_cases x1 : x = 1
  · subst x1
    go_wp2_with fail
    refine (drPickInt w2.heap.size 4 4 [-30001, -30000, 30000, 30001] _ ((unhide D2).below (bel1 _)) (row_lit4 w2 [-30001, -30000, 30000, 30001] (by simp) (fun i => by
      by_cases h : i < 4
      · rcases (show i = 0 ∨ i = 1 ∨ i = 2 ∨ i = 3 from by omega) with rfl | rfl | rfl | rfl <;> simp [nth]
      · simp [nth, List.getElem?_eq_none (show ([-30001, -30000, 30000, 30001] : List Int).length ≤ i by simpa using h)])) (by omega) (by omega)).mono ?_
    rintro e w3 ⟨i, hi, rfl, d3, g3⟩
    obtain ⟨p, hp⟩ : ∃ p, nth [-30001, -30000, 30000, 30001] i = p := ⟨_, rfl⟩
    have hpb : -30001 ≤ p ∧ p ≤ 30001 := by
      subst hp
      rcases (show i = 0 ∨ i = 1 ∨ i = 2 ∨ i = 3 from by omega) with rfl | rfl | rfl | rfl <;> simp [nth]
    rw [hp]
    clear hp hi
    have hs3 : w2.heap.size + 1 ≤ w3.heap.size := by have := g3.size; simpa using this
    have OL : Hid (OwnI (w3.alloc (Obj.cells #[.int .i64 p] 3)) w1.heap.size (.slice (some ⟨w3.heap.size, 0, none⟩) 1 1) [p]) := hide (ownI_lit (w := w3) (base := w1.heap.size) (k := 1) (zs := [p]) (by omega) (by simp) (by simp) (by intro x hx; rw [List.mem_singleton] at hx; omega))
    have RG := hide ((((unhide RG).below (bel1 _)).far (unhide RL) g3 (.inl hCW)).below (bel1 (Obj.cells #[.int .i64 p] 3)))
    have D3 : Hid (Dr w C a len cap (w3.alloc (Obj.cells #[.int .i64 p] 3))) := hide (d3.below (bel1 _))
    clear d3 g3 D2
    go_wp2_with (at_builtin; refine wpList_app_elG (K := 1) (cells := rxC) rfl _ _ 57 68 rfl Try.underlying57 infoRx rfl (by decide) (by decide) (⟨some ⟨w3.heap.size, 0, none⟩, 1, 1, [p]⟩ : Rx) [.slice (some ⟨w3.heap.size, 0, none⟩) 1 1] rfl (fun q hq => by match q, hq with | 0, _ => rfl) (fun u hu => by simp at hu; rcases hu with rfl; rfl) (unhide RG).o.out (unhide RG).l rfl (H := w3.heap.size + 1) (by simp) rfl (by simp; omega) (by omega) ?_; intro g9 c9 w9 o9 gr9 hg9)
    have gr9' : (w3.alloc (Obj.cells #[.int .i64 p] 3)).grownBy w9 (some g) := gr9
    have gl := (unhide RL).1 g rfl
    have RG9 := hide ((unhide RG).push (unhide RL) (x := ⟨some ⟨w3.heap.size, 0, none⟩, 1, 1, [p]⟩) (unhide OL) hW1 o9 gr9 hg9)
    have DR9 := hide ((unhide D3).own gr9' (fun p hp => by have := Option.some.inj hp; omega) (unhide HIN))
    refine bodyPost_ret (v := .slice (some ⟨g9, 0, none⟩) (n + 1) c9) (by simp [results, Try.results74, go_sem]) rfl ⟨g9, n + 1, c9, _, rfl, (unhide RG9).o.read (by have := (unhide RG9).l; omega), by omega, unhide DR9⟩
  by_cases x2 : x = 2
  · subst x2
    go_wp2_with fail
    refine (drBelow 2 _ (unhide D2) (by omega)).mono ?_
    rintro e w3 ⟨y, rfl, hy, d3, g3⟩
    obtain ⟨N, hN⟩ : ∃ N : Nat, 200 + y = (N : Int) := ⟨(200 + y).toNat, by omega⟩
    have hN2 : 200 ≤ N ∧ N ≤ 201 := by omega
    have D3 := hide d3
    have hs3 : w2.heap.size ≤ w3.heap.size := g3.size
    clear d3 g3 D2 RG RL hy
    obtain ⟨i0, hi, hz0, hz1, hz2⟩ := info_parts infoRx
    go_wp2_with (at_make; refine wpList_make_full _ rfl (.tmp 34) (.tmp 34) 57 rfl w3.heap.size 68 i0 (.slice none 0 0) 1 Try.underlying57 hi hz0 hz1 .i64 .i64 _ _ N rfl rfl rfl rfl (by rw [hz2]; omega) (by unfold maxLen; omega) (Nat.le_refl _) ?_; intro w4 hown hgrow)
    clear hi hz0 hz1 hz2 hN
    have hxs : (madeCells (Value.slice none 0 0).cells (N * 1)).toList = List.replicate N (.slice none 0 0) := by rw [Nat.mul_one]; exact toList_madeCells_one _ _
    rw [hxs] at hown
    have OR0 : Hid (OwnRr w4 w3.heap.size (.slice (some ⟨w3.heap.size, 0, none⟩) N N) (List.replicate N ⟨none, 0, 0, []⟩)) := hide (ownRr_made w3.heap.size ⟨⟨_, by simpa using hown, fun j hj q hq => by
      have hj : j < N := by simpa using hj
      obtain rfl : q = 0 := by omega
      rw [Nat.mul_one, Nat.add_zero, List.getElem?_replicate_of_lt hj]
      simp [elAt, hj, rxC, rxV]⟩⟩)
    have DR0 : Hid (Dr w C a len cap w4) := hide ((unhide D3).own hgrow (fun k hk => by cases hk) (unhide HIN))
    have hs4 : w3.heap.size < w4.heap.size := ((unhide OR0).out.lies w3.heap.size rfl).2
    have hCG : C < w3.heap.size := by omega
    clear hown hgrow hxs D3
    go_loopw [6] (fun i wr => ∃ (k : Nat) (us : List Rx), k ≤ N ∧ i = .int .i64 k ∧ us.length = N ∧ OwnRr wr w3.heap.size (.slice (some ⟨w3.heap.size, 0, none⟩) N N) us ∧ Dr w C a len cap wr) (fun i _ => N - (intOf i).toNat)
    case atStart => exact ⟨0, _, Nat.zero_le _, rfl, by simp, unhide OR0, unhide DR0⟩
    case round =>
      clear OR0 DR0 hs4
      obtain ⟨k, us, hk, rfl, hul, hor, hdr⟩ := hrel
      have OR := hide hor
      have DR := hide hdr
      have hGr : w3.heap.size < wr.heap.size := (hor.out.lies w3.heap.size rfl).2
      clear hor hdr
      by_cases hlt : k < N
      · have yk : ∀ o, (wr.alloc o).cell? ⟨w3.heap.size, k, none⟩ = some (rxV (elAt us k)) := fun o => (((unhide OR).out.below (bel1 o)).here1 hul k hlt).1
        have fk : ∀ o, (wr.alloc o).frozen? ⟨w3.heap.size, k, none⟩ = false := fun o => (((unhide OR).out.below (bel1 o)).here1 hul k hlt).2
        have hk0 : (0 : Int) ≤ (k : Int) := by omega
        have hi1 : (k : Int) < (N : Int) := by omega
        go_wp2_with fail
        obtain ⟨V5, hV5⟩ : ∃ V, V = ((wr.alloc (Obj.cells #[.int .i64 ((k : Int) % 3), .int .i64 0, .int .i64 0, .int .i64 0, .int .i64 0, .int .i64 0, .int .i64 0] 3)).setCell ⟨w3.heap.size, k, none⟩ (.slice (some ⟨wr.heap.size, 0, none⟩) 7 7)) := ⟨_, rfl⟩
        rw [← World.setCell_alloc_past _ _ _ _ hGr, ← hV5]
        have D5 : Hid (Dr w C a len cap V5) := hide (by rw [hV5]; exact ((unhide DR).below (bel1 _)).own (grown_set (grown_refl _ (some w3.heap.size)) k _) (fun q hq => by have := Option.some.inj hq; omega) (unhide HIN))
        have lit : OwnI (wr.alloc (Obj.cells #[.int .i64 ((k : Int) % 3), .int .i64 0, .int .i64 0, .int .i64 0, .int .i64 0, .int .i64 0, .int .i64 0] 3)) w3.heap.size (.slice (some ⟨wr.heap.size, 0, none⟩) 7 7) [(k : Int) % 3, 0, 0, 0, 0, 0, 0] := ownI_lit (w := wr) (base := w3.heap.size) (k := 7) (zs := [(k : Int) % 3, 0, 0, 0, 0, 0, 0]) (by omega) (by simp) (by simp) (by intro x hx; simp only [List.mem_cons, List.not_mem_nil, or_false] at hx; rcases hx with rfl | rfl | rfl | rfl | rfl | rfl | rfl <;> omega)
        have O5 : Hid (OwnRr V5 w3.heap.size (.slice (some ⟨w3.heap.size, 0, none⟩) N N) (us.set k ⟨some ⟨wr.heap.size, 0, none⟩, 7, 7, [(k : Int) % 3, 0, 0, 0, 0, 0, 0]⟩)) := hide (by
          rw [hV5]
          exact ((unhide OR).below (bel1 _)).put (x := ⟨some ⟨wr.heap.size, 0, none⟩, 7, 7, [(k : Int) % 3, 0, 0, 0, 0, 0, 0]⟩) hul hlt lit (fun e => by have e1 : wr.heap.size = w3.heap.size := Option.some.inj e; omega) (fun j hj q hq e => by have e1 : wr.heap.size = q := Option.some.inj e; have := (((unhide OR).dat j (by omega)).lies q hq).2; omega))
        have s5 : wr.heap.size < V5.heap.size := by rw [hV5]; simp [World.setCell]
        clear lit hV5 yk fk OR DR
        refine (drOnce 9 _ (unhide D5) (by omega)).mono ?_
        rintro e w6 ⟨b, rfl, d6, g6⟩
        have O6 := hide ((unhide O5).far g6 (fun q hq e => by have := ((unhide O5).out.lies q hq).1; simp only [Option.some.injEq] at e; omega) (fun j hj q hq e => by have := (((unhide O5).dat j hj).lies q hq).1; simp only [Option.some.injEq] at e; omega))
        have D6 := hide d6
        have hul6 : (us.set k ⟨some ⟨wr.heap.size, 0, none⟩, 7, 7, [(k : Int) % 3, 0, 0, 0, 0, 0, 0]⟩).length = N := by simpa using hul
        have he : elAt (us.set k ⟨some ⟨wr.heap.size, 0, none⟩, 7, 7, [(k : Int) % 3, 0, 0, 0, 0, 0, 0]⟩) k = ⟨some ⟨wr.heap.size, 0, none⟩, 7, 7, [(k : Int) % 3, 0, 0, 0, 0, 0, 0]⟩ := by rw [elAt_set _ _ _ _ (by omega), if_pos rfl]
        clear d6 g6 D5 O5
        cases b
        · go_wp2_with fail
          go_roundw
          case rel => exact ⟨k + 1, _, by omega, by go_num, hul6, unhide O6, unhide D6⟩
          case measure => simp [intOf]; omega
        · have yk : w6.cell? ⟨w3.heap.size, k, none⟩ = some (.slice (some ⟨wr.heap.size, 0, none⟩) 7 7) := by have := ((unhide O6).out.here1 hul6 k hlt).1; rw [he] at this; exact this
          have dk := (unhide O6).dat k (by omega)
          rw [he] at dk
          have y1 : w6.cell? ⟨wr.heap.size, 1, none⟩ = some (.int .i64 0) := (OwnI.here (show OwnI w6 w3.heap.size (.slice (some ⟨wr.heap.size, 0, none⟩) ([(k : Int) % 3, 0, 0, 0, 0, 0, 0] : List Int).length 7) [(k : Int) % 3, 0, 0, 0, 0, 0, 0] from dk) 1 (by simp)).1
          have f1 : w6.frozen? ⟨wr.heap.size, 1, none⟩ = false := (OwnI.here (show OwnI w6 w3.heap.size (.slice (some ⟨wr.heap.size, 0, none⟩) ([(k : Int) % 3, 0, 0, 0, 0, 0, 0] : List Int).length 7) [(k : Int) % 3, 0, 0, 0, 0, 0, 0] from dk) 1 (by simp)).2
          have O7 := hide ((unhide O6).turn (by omega) he rfl (q := 1) (by omega) (x := 500) (by omega))
          have D7 : Hid (Dr w C a len cap (w6.setCell ⟨wr.heap.size, 1, none⟩ (.int .i64 500))) := hide ((unhide D6).own (grown_set (grown_refl _ (some wr.heap.size)) 1 _) (fun q hq => by have := Option.some.inj hq; omega) (unhide HIN))
          clear dk O6 D6
          go_wp2_with fail
          go_roundw
          case rel => exact ⟨k + 1, _, by omega, by go_num, by simpa using hul6, unhide O7, unhide D7⟩
          case measure => simp [intOf]; omega
      · have hkk : k = N := by omega
        subst hkk
        have hnl : ¬ (k : Int) < (k : Int) := by omega
        go_wp2_with fail
        refine bodyPost_ret (v := .slice (some ⟨w3.heap.size, 0, none⟩) k k) (by simp [results, Try.results74, go_sem]) rfl ⟨_, k, k, _, rfl, (unhide OR).read (by omega), by omega, unhide DR⟩
  have e0 : (x == 0) = false := by simpa using x0
  have e1 : (x == 1) = false := by simpa using x1
  have e2 : (x == 2) = false := by simpa using x2
  clear x0 x1 x2
  go_wp2_with fail
  refine bodyPost_ret (v := .slice (some ⟨g, 0, none⟩) n c) (by simp [results, Try.results74, go_sem]) rfl ⟨g, n, c, _, rfl, (unhide RG).o.read (by have := (unhide RG).l; omega), by omega, unhide D2⟩

end Go.Proofs.Ytfnnfldfnjnlfag

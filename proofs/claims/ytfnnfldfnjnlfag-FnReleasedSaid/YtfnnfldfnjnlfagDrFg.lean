/-
  A fleet as it is drawn: it is so. At every cursor; nothing that was there is written but the cursor.
-/
import Derived.Test.YtfnnfldfnjnlfagDrCa
import Derived.Test.YtfnnfldfnjnlfagTxTs
import Derived.Test.YtfnnfldfnjnlfagTxDf
import Derived.Deep.CutRange
namespace Go.Proofs.Ytfnnfldfnjnlfag
open Go Go.RowKit

theorem own_slice {α : Type} [Inhabited α] {K : Nat} {cells : α → Nat → Value} {w : World} {base : Nat} {T : TypeId} {v : Value} {ps : List α} (h : OwnE K cells w base T v ps) : ∃ a c, v = .slice a ps.length c := by
  rcases h.form with ⟨e, e0⟩ | ⟨g, cap, e, _⟩
  · exact ⟨none, 0, by rw [e, e0]; rfl⟩
  · exact ⟨_, _, e⟩
theorem own_nilF {α : Type} [Inhabited α] {K : Nat} {cells : α → Nat → Value} (w : World) (base : Nat) (T : TypeId) : OwnE K cells w base T (.slice none 0 0) ([] : List α) :=
  ⟨⟨[], by simpa using World.ownsRow_nil w base T K, fun j hj => by simp at hj⟩⟩
/-- What l19Draw answers. -/
def FgE (w : World) (C : Nat) (a : Option Addr) (len cap : Nat) (W : World) (e : Ending) (w' : World) : Prop := ∃ (a1 a2 a3 : Option Addr) (e1 e2 e3 : Nat) (f : Fl), e = .returned (.agg #[.slice a1 f.ts.length e1, .slice a2 f.cs.length e2, .slice a3 f.ds.length e3, .int .i64 f.nh, .int .i64 f.nc, .int .i64 f.nd]) ∧ FlOwn w' W.heap.size a1 a2 a3 f.ts.length e1 f.cs.length e2 f.ds.length e3 f.ts f.cs f.ds ∧ flB f = true ∧ Dr w C a len cap w' ∧ W.grownBy w' (some C)
set_option maxRecDepth 20000 in
set_option maxHeartbeats 8000000 in
theorem l19Draw_any {w : World} {C : Nat} {a : Option Addr} {len cap : Nat} (W : World) (h : Dr w C a len cap W) (hin : ∀ b off, a = some ⟨b, off, none⟩ → b < w.heap.size) :
    Calls Try.prog 30 #[.pointer (some ⟨C, 0, none⟩)] W fun e w' => FgE w C a len cap W e w' := by
  have hC : W.heap.size ≠ C := Nat.ne_of_gt h.lt
  have hCl := h.lt
  have HIN := hide hin
  obtain ⟨V0, hV0⟩ : ∃ V, V = W.alloc (Obj.cells #[.slice none 0 0, .slice none 0 0, .slice none 0 0, .int .i64 0, .int .i64 0, .int .i64 0] 30) := ⟨_, rfl⟩
  have b0 : Below W.heap.size W V0 := by rw [hV0]; exact bel1 _
  have hs0 : V0.heap.size = W.heap.size + 1 := by rw [hV0]; simp
  have K0 : Hid (Dk w C a len cap W V0) := hide ((Dk.start h hin).below b0)
  have R0 : Hid (Blk V0 W.heap.size [.slice none 0 0, .slice none 0 0, .slice none 0 0, .int .i64 0, .int .i64 0, .int .i64 0]) := hide (by rw [hV0]; exact Blk.new _ _)
  have HW := hide hV0
  clear hV0 b0 h hin
  go_enter Try.func30, Try.ntmps30
  go_upto_region 1 with fail
  rw [← unhide HW]
  clear HW
  go_wp2_with fail
  refine (drCarries _ (unhide K0).d (unhide HIN)).mono ?_
  rintro e w1 ⟨g2, n2, c2, cs, rfl, o2, ⟨l2, i2⟩, d, gr⟩
  have K1 := hide ((unhide K0).call gr d)
  have R1 := hide ((unhide R0).apart gr (fun e => hC (Option.some.inj e)))
  have hg2 := (o2.lies g2 rfl).1
  have O1 := hide o2
  have HL2 := hide l2
  have HI2 := hide i2
  clear d gr K0 R0 o2 l2 i2
  go_wp2_with fail
  refine (drBelow 100 _ (unhide K1).d (by omega)).mono ?_
  rintro e w2 ⟨x1, rfl, hx1, d, gr⟩
  have K2 := hide ((unhide K1).call gr d)
  have R2 := hide ((unhide R1).apart gr (fun e => hC (Option.some.inj e)))
  have O2 := hide ((unhide O1).far gr (fun q hq e => by have := Option.some.inj e; have := ((unhide O1).lies q hq).1; omega))
  obtain ⟨nh, hx1'⟩ : ∃ y, 50 + x1 = y := ⟨_, rfl⟩
  clear d gr K1 R1 O1
  go_wp2_with fail
  refine (drBelow 60 _ (unhide K2).d (by omega)).mono ?_
  rintro e w3 ⟨x2, rfl, hx2, d, gr⟩
  have K3 := hide ((unhide K2).call gr d)
  have R3 := hide ((unhide R2).apart gr (fun e => hC (Option.some.inj e)))
  have O3 := hide ((unhide O2).far gr (fun q hq e => by have := Option.some.inj e; have := ((unhide O2).lies q hq).1; omega))
  obtain ⟨nc, hx2'⟩ : ∃ y, 50 + x2 = y := ⟨_, rfl⟩
  clear d gr K2 R2 O2
  go_wp2_with fail
  refine (drBelow 100 _ (unhide K3).d (by omega)).mono ?_
  rintro e w4 ⟨x3, rfl, hx3, d, gr⟩
  have K4 := hide ((unhide K3).call gr d)
  have R4 := hide ((unhide R3).apart gr (fun e => hC (Option.some.inj e)))
  have O4 := hide ((unhide O3).far gr (fun q hq e => by have := Option.some.inj e; have := ((unhide O3).lies q hq).1; omega))
  obtain ⟨nd, hx3'⟩ : ∃ y, 50 + x3 = y := ⟨_, rfl⟩
  clear d gr K3 R3 O3
  have hnb : (50 ≤ nh ∧ nh ≤ 200) ∧ (50 ≤ nc ∧ nc ≤ 200) ∧ (50 ≤ nd ∧ nd ≤ 200) := by omega
  obtain ⟨V6, hV6⟩ : ∃ V, V = (w4.alloc (Obj.cells #[.slice none 0 0, .slice (some ⟨g2, 0, none⟩) n2 c2, .slice none 0 0, .int .i64 nh, .int .i64 nc, .int .i64 nd] 30)).alloc (Obj.cells #[.string ⟨#[101, 110, 103, 105, 110, 101]⟩, .string ⟨#[102, 114, 97, 109, 101]⟩, .string ⟨#[103, 101, 97, 114]⟩, .string ⟨#[119, 105, 110, 103]⟩] 9) := ⟨_, rfl⟩
  have b6 : Below w4.heap.size w4 V6 := by rw [hV6]; exact bel2 _ _
  obtain ⟨B, hB⟩ : ∃ B, B = w4.heap.size := ⟨_, rfl⟩
  obtain ⟨gn, hgn⟩ : ∃ gn, gn = w4.heap.size + 1 := ⟨_, rfl⟩
  have hRB : W.heap.size < B := by rw [hB]; exact (unhide R4).lt
  have hl2 := ((unhide O4).lies g2 rfl).2
  have S0 : Hid (Fg w C W.heap.size B gn a len cap W V6 nh nc nd (.slice none 0 0) (.slice (some ⟨g2, 0, none⟩) n2 c2) (.slice none 0 0) [] cs []) := hide ⟨(unhide K4).below b6, by omega, (unhide R4).below b6, by rw [hV6, hB]; exact (Blk.new (w := w4) [.slice none 0 0, .slice (some ⟨g2, 0, none⟩) n2 c2, .slice none 0 0, .int .i64 nh, .int .i64 nc, .int .i64 nd] _).alloc _,
    by rw [hV6, hgn]; have k := Blk.new (w := w4.alloc (Obj.cells #[.slice none 0 0, .slice (some ⟨g2, 0, none⟩) n2 c2, .slice none 0 0, .int .i64 nh, .int .i64 nc, .int .i64 nd] 30)) (nmT.map Value.string) 9; rw [show (w4.alloc (Obj.cells #[.slice none 0 0, .slice (some ⟨g2, 0, none⟩) n2 c2, .slice none 0 0, .int .i64 nh, .int .i64 nc, .int .i64 nd] 30)).heap.size = w4.heap.size + 1 by simp] at k; exact k,
    own_nilF _ _ _, ((unhide O4).below b6).mono (by omega), own_nilF _ _ _, fun q hq => by simp [Value.ownBlock] at hq, fun q hq => by have e : g2 = q := Option.some.inj hq; omega, fun q hq => by simp [Value.ownBlock] at hq⟩
  have HW := hide hV6
  have HB := hide hB
  have HG := hide hgn
  have hBl : B < V6.heap.size := (unhide S0).p.lt
  clear hV6 b6 K4 R4 O4 hg2 hl2 hs0 hB hgn
  go_upto_region 3 with fail
  rw [← unhide HW, ← unhide HG, ← unhide HB]
  clear HW HB HG hx1' hx2' hx3'
  go_wp2_with fail
  go_loopw [5] (fun i wr => ∃ (k : Nat) (v1 : Value) (ts : List Ts), i = .int .i64 k ∧ k ≤ 4 ∧ Hid (TaI ts k) ∧ Hid (Fg w C W.heap.size B gn a len cap W wr nh nc nd v1 (.slice (some ⟨g2, 0, none⟩) n2 c2) (.slice none 0 0) ts cs [])) (fun i _ => 4 - (intOf i).toNat)
  case atStart => exact ⟨0, _, [], rfl, by omega, hide TaI.nil, S0⟩
  case round =>
    clear S0
    obtain ⟨k, v1, ts, rfl, hk, HI, HS⟩ := hrel
    by_cases hlt : k < 4
    · have i0 : (0 : Int) ≤ (k : Int) := by omega
      have i1 : (k : Int) < 4 := by omega
      go_wp2_with fail
      refine (drOnce 4 _ (unhide HS).k.d (by omega)).mono ?_
      rintro e wb ⟨b, rfl, d, gr⟩
      have HS := hide ((unhide HS).call gr d)
      clear d gr
      cases b
      · obtain ⟨s, hs⟩ : ∃ s, elAt nmT k = s := ⟨_, rfl⟩
        have HSN := hide hs
        have NC : Hid (∀ V : World, Blk V gn (nmT.map Value.string) → V.cell? ⟨gn, k, none⟩ = some (.string s)) := hide (fun V hb => by
          rw [hb.c k (by simpa [nmT] using hlt), ← hs]
          simp [elAt, show k < nmT.length by simpa [nmT] using hlt])
        have n0 : wb.cell? ⟨gn, k, none⟩ = some (.string s) := (unhide NC) _ (unhide HS).n
        have p0 : wb.cell? ⟨B, 0, none⟩ = some v1 := (unhide HS).p.c 0 (by simp)
        obtain ⟨n, hn⟩ : ∃ n, ts.length = n := ⟨_, rfl⟩
        have hnn : n ≤ 4 := by have := (unhide HI).len; omega
        have HN := hide hn
        clear hs hn
        go_wp2_with fail
        go_region_law (first
          | ((fail_if_success have := D1); go_simp; go_wp2_with (go_at_call 79; refine (drTask (w := w) (a := a) (len := len) (cap := cap) s 51 _ (by first | exact (unhide HS).k.d | exact ((unhide HS).below (bel0d 1)).k.d) (unhide HIN) (by omega)).mono ?_; rintro e u1 ⟨t, rfl, ht, d, gr⟩; have D1 : Hid (Fg w C W.heap.size B gn a len cap W u1 nh nc nd v1 (.slice (some ⟨g2, 0, none⟩) n2 c2) (.slice none 0 0) ts cs []) := hide (Fg.call (by first | exact unhide HS | exact (unhide HS).below (bel0d 1)) gr d); have p1a : u1.cell? ⟨B, 0, none⟩ = some v1 := (unhide D1).p.c 0 (by simp); have p1b : ∀ o, (u1.alloc o).cell? ⟨B, 0, none⟩ = some v1 := (fun o => ((unhide D1).p.alloc o).c 0 (by simp)); have HT := hide ht; clear d gr ht))
          | (refine step_app_elG (K := 7) (cells := tsC) rfl (.tmp 32) (.tmp 39) 24 44 rfl Try.underlying24 infoTs rfl (by decide) (by decide) t [.string t.nm, .int .i64 t.h, .int .i64 t.c, .int .i64 t.d, .int .i64 t.dh, .int .i64 t.dc, .int .i64 t.dd] rfl (fun q hq => by rcases (by omega : q = 0 ∨ q = 1 ∨ q = 2 ∨ q = 3 ∨ q = 4 ∨ q = 5 ∨ q = 6) with rfl | rfl | rfl | rfl | rfl | rfl | rfl <;> rfl) (by simp [Value.oneCell']) (unhide D1).o1 (unhide HN) (by simp [Act.eval]) rfl (by simp [Act.eval]) (unhide D1).k.g.size (by omega) ?_; intro g9 c9 w9 o9 gr9 at9; have P9 := hide ((unhide D1).p.apart gr9 (fun e => ((unhide D1).f1 B e.symm).2.1 rfl)); have p9 : w9.cell? ⟨B, 0, none⟩ = some v1 := (unhide P9).c 0 (by simp); have q9 : w9.frozen? ⟨B, 0, none⟩ = false := (unhide P9).f 0 (by simp)))
        all_goals
          go_wp2_with fail
          go_roundw
          case rel => exact ⟨k + 1, _, ts ++ [t], by go_num, by omega, hide (by have q := unhide HT; rw [← unhide HSN] at q; exact (unhide HI).push hlt q), hide ((unhide D1).push1 o9 gr9 at9)⟩
          case measure => simp [intOf]; omega
      · go_wp2_with fail
        go_roundw
        case rel => exact ⟨k + 1, v1, ts, by go_num, by omega, hide (unhide HI).skip, HS⟩
        case measure => simp [intOf]; omega
    · have i1 : ¬ (k : Int) < 4 := by omega
      have hk4 : k = 4 := by omega
      have HTA : Hid (TaI ts 4) := hide (by rw [← hk4]; exact unhide HI)
      clear hk4 HI
      obtain ⟨U, hU⟩ : ∃ U, U = wr := ⟨_, rfl⟩
      rw [← hU] at HS ⊢
      clear hU
      go_upto_region 9 with fail
      go_wp2_with fail
      refine (drBelow 4 _ (unhide HS).k.d (by omega)).mono ?_
      rintro e wa ⟨ka, rfl, hka, d, gr⟩
      have S1 : Hid (Fg w C W.heap.size B gn a len cap W wa nh nc nd v1 (.slice (some ⟨g2, 0, none⟩) n2 c2) (.slice none 0 0) ts cs []) := hide ((unhide HS).call gr d)
      obtain ⟨kk, rfl⟩ : ∃ kk : Nat, ka = (kk : Int) := ⟨ka.toNat, by omega⟩
      clear d gr HS
      go_wp2_with fail
      go_loopw [6, 7] (fun it i wr => ∃ (item : Int) (k : Nat) (v3 : Value) (ds : List Df), it = .int .i64 item ∧ i = .int .i64 k ∧ (ds.length + k ≤ 3 ∧ 0 ≤ item ∧ item ≤ 9) ∧ Hid (DfI nd ds item) ∧ Hid (Fg w C W.heap.size B gn a len cap W wr nh nc nd v1 (.slice (some ⟨g2, 0, none⟩) n2 c2) v3 ts cs ds)) (fun _ i _ => (intOf i).toNat)
      case atStart => exact ⟨0, kk, _, [], rfl, rfl, ⟨by simp; omega, by omega, by omega⟩, hide (DfI.nil nd), S1⟩
      case round =>
        clear S1 hka
        obtain ⟨item, k, v3, ds, rfl, rfl, hk, HI, HS⟩ := hrel
        by_cases hk0 : 0 < k
        · have k0 : (0 : Int) < (k : Int) := by omega
          obtain ⟨n, hn⟩ : ∃ n, ds.length = n := ⟨_, rfl⟩
          rw [hn] at hk
          have hnn : n ≤ 2 := by omega
          have HN := hide hn
          obtain ⟨j, hj⟩ : ∃ j, k = j + 1 := ⟨k - 1, by omega⟩
          have hsub : (k : Int) - 1 = (j : Int) := by omega
          have hwr : IntKind.i64.wrap (j : Int) = (j : Int) := by rw [IntKind.wrap_i64]; omega
          have HJ := hide hj
          clear hn hj
          go_wp2_with fail
          refine (drBelow 3 _ (unhide HS).k.d (by omega)).mono ?_
          rintro e wb ⟨x, rfl, hx, d, gr⟩
          have HS := hide ((unhide HS).call gr d)
          obtain ⟨y, hy⟩ : ∃ y, item + 1 + x = y := ⟨_, rfl⟩
          have hyb : item + 1 ≤ y ∧ y ≤ item + 3 := by omega
          clear d gr
          have p0 : wb.cell? ⟨B, 2, none⟩ = some v3 := (unhide HS).p.c 2 (by simp)
          have p5 : wb.cell? ⟨B, 5, none⟩ = some (.int .i64 nd) := (unhide HS).p.c 5 (by simp)
          have p0b : ∀ o, (wb.alloc o).cell? ⟨B, 2, none⟩ = some v3 := fun o => ((unhide HS).p.alloc o).c 2 (by simp)
          have p5b : ∀ o, (wb.alloc o).cell? ⟨B, 5, none⟩ = some (.int .i64 nd) := fun o => ((unhide HS).p.alloc o).c 5 (by simp)
          have NB : Hid (Blk (wb.alloc (Obj.cells #[.string ⟨#[98, 101, 108, 116]⟩, .string ⟨#[108, 97, 109, 112]⟩, .string ⟨#[114, 97, 100, 105, 111]⟩, .string ⟨#[115, 101, 97, 116]⟩, .string ⟨#[108, 97, 109, 112]⟩] 9)) wb.heap.size (nmD.map Value.string)) := hide (Blk.new (w := wb) (nmD.map Value.string) _)
          have HSA := hide ((unhide HS).below (bel1 (w := wb) (Obj.cells #[.string ⟨#[98, 101, 108, 116]⟩, .string ⟨#[108, 97, 109, 112]⟩, .string ⟨#[114, 97, 100, 105, 111]⟩, .string ⟨#[115, 101, 97, 116]⟩, .string ⟨#[108, 97, 109, 112]⟩] 9)))
          have gne : Hid (wb.heap.size ≠ C) := hide (by have := (unhide HS).k.d.lt; omega)
          go_upto_region 13 with fail
          clear hy
          go_region_law (first
            | ((fail_if_success have := D1); go_simp; go_wp2_with (go_at_call 80; refine (drPick (w := w) (a := a) (len := len) (cap := cap) wb.heap.size 5 5 nmD _ (by first | exact (unhide HSA).k.d | exact ((unhide HSA).below (bel0d 1)).k.d) (by first | exact unhide NB | exact (unhide NB).below (bel0d 1)) rfl (unhide gne) (by omega)).mono ?_; rintro e u1 ⟨q, hq, rfl, d, gr⟩; have D1 : Hid (Fg w C W.heap.size B gn a len cap W u1 nh nc nd v1 (.slice (some ⟨g2, 0, none⟩) n2 c2) v3 ts cs ds) := hide (Fg.call (by first | exact unhide HSA | exact (unhide HSA).below (bel0d 1)) gr d); have p1a : u1.cell? ⟨B, 2, none⟩ = some v3 := (unhide D1).p.c 2 (by simp); have p1b : u1.cell? ⟨B, 5, none⟩ = some (.int .i64 nd) := (unhide D1).p.c 5 (by simp); obtain ⟨s, hs⟩ : ∃ s, elAt nmD q = s := ⟨_, rfl⟩; have HSQ : Hid (nameB s = true) := hide (by rw [← hs]; exact nmD_name hq); rw [hs]; clear d gr hs hq))
            | ((fail_if_success (fail_if_success have := D1)); (fail_if_success have := D2); go_simp; go_wp2_with (go_at_call 31; refine (drBelow (w := w) (a := a) (len := len) (cap := cap) 50 _ (by first | exact (unhide D1).k.d | exact ((unhide D1).below (bel0d 1)).k.d) (by omega)).mono ?_; rintro e u2 ⟨x2, rfl, hx2, d, gr⟩; have D2 : Hid (Fg w C W.heap.size B gn a len cap W u2 nh nc nd v1 (.slice (some ⟨g2, 0, none⟩) n2 c2) v3 ts cs ds) := hide (Fg.call (by first | exact unhide D1 | exact (unhide D1).below (bel0d 1)) gr d); have p2a : u2.cell? ⟨B, 2, none⟩ = some v3 := (unhide D2).p.c 2 (by simp); have p2b : u2.cell? ⟨B, 5, none⟩ = some (.int .i64 nd) := (unhide D2).p.c 5 (by simp); have p2c : ∀ o, (u2.alloc o).cell? ⟨B, 2, none⟩ = some v3 := (fun o => ((unhide D2).p.alloc o).c 2 (by simp)); clear d gr))
            | (refine step_app_elG (K := 3) (cells := dfC) rfl (.tmp 54) (.tmp 66) 26 56 rfl Try.underlying26 infoDf rfl (by decide) (by decide) (⟨s, y, IntKind.i64.wrap (nd - x2)⟩ : Df) [.string s, .int .i64 y, .int .i64 (IntKind.i64.wrap (nd - x2))] rfl (fun q hq => by rcases (by omega : q = 0 ∨ q = 1 ∨ q = 2) with rfl | rfl | rfl <;> rfl) (by simp [Value.oneCell']) (unhide D2).o3 (unhide HN) (by simp [Act.eval]) rfl (by simp [Act.eval]) (unhide D2).k.g.size (by omega) ?_; intro g9 c9 w9 o9 gr9 at9; have P9 := hide ((unhide D2).p.apart gr9 (fun e => ((unhide D2).f3 B e.symm).2.1 rfl)); have p9 : w9.cell? ⟨B, 2, none⟩ = some v3 := (unhide P9).c 2 (by simp); have q9 : w9.frozen? ⟨B, 2, none⟩ = false := (unhide P9).f 2 (by simp)))
          all_goals
            go_wp2_with fail
            have hw : IntKind.i64.wrap (nd - x2) = nd - x2 := by rw [IntKind.wrap_i64]; omega
            have HW := hide hw
            clear hw
            go_roundw
            case rel => exact ⟨y, j, _, ds ++ [⟨s, y, nd - x2⟩], rfl, rfl, by have q1 := unhide HJ; have q2 := unhide HN; have q3 := (unhide HI).2.2.2.1; rw [q2] at q3; exact ⟨by simp; omega, by omega, by omega⟩, hide ((unhide HI).push (by have := unhide HN; omega) (unhide HSQ) hyb (by omega)), hide (by have k := (unhide D2).push3 o9 gr9 at9; rw [unhide HW] at k; exact k)⟩
            case measure => simp [intOf]; have := unhide HJ; omega
        · have k0 : ¬ (0 : Int) < (k : Int) := by omega
          obtain ⟨a1, e1, rfl⟩ := own_slice (unhide HS).o1
          obtain ⟨a3, e3, rfl⟩ := own_slice (unhide HS).o3
          have KP : Hid (Blk wr B [.slice a1 ts.length e1, .slice (some ⟨g2, 0, none⟩) n2 c2, .slice a3 ds.length e3, .int .i64 nh, .int .i64 nc, .int .i64 nd]) := hide (unhide HS).p
          have KR : Hid (Blk wr W.heap.size [.slice none 0 0, .slice none 0 0, .slice none 0 0, .int .i64 0, .int .i64 0, .int .i64 0]) := hide (unhide HS).r
          go_wp2_with (first
            | ((with_reducible show wpList _ _ _ (⟨_, .load 30 _, _, _, _, none⟩ :: _) _ _); refine at_loadAgg (vs := [.slice a1 ts.length e1, .slice (some ⟨g2, 0, none⟩) n2 c2, .slice a3 ds.length e3, .int .i64 nh, .int .i64 nc, .int .i64 nd]) Try.isAgg30 Try.sizeOf30 rfl (unhide KP) ?_)
            | ((with_reducible show wpList _ _ _ (⟨none, .store 30 _ _, _, _, _, none⟩ :: _) _ _); refine at_storeAgg (us := [.slice none 0 0, .slice none 0 0, .slice none 0 0, .int .i64 0, .int .i64 0, .int .i64 0]) (vs := [.slice a1 ts.length e1, .slice (some ⟨g2, 0, none⟩) n2 c2, .slice a3 ds.length e3, .int .i64 nh, .int .i64 nc, .int .i64 nd]) Try.sizeOf30 rfl rfl (unhide KR) rfl (fun v hv => by simp at hv; rcases hv with rfl | rfl | rfl | rfl | rfl | rfl <;> rfl) ?_; intro wz k9 g9; have K9 := hide k9; have G9 := hide g9; clear k9 g9))
          have KZ := (unhide HS).k.own (unhide G9) (Nat.le_refl _)
          have f1 := (unhide HS).o1.far (unhide G9) (fun q hq e => by have e1 : q = W.heap.size := Option.some.inj e; exact ((unhide HS).f1 q hq).1 e1)
          have f2 := (unhide HS).o2.far (unhide G9) (fun q hq e => by have e1 : q = W.heap.size := Option.some.inj e; exact ((unhide HS).f2 q hq).1 e1)
          have f3 := (unhide HS).o3.far (unhide G9) (fun q hq e => by have e1 : q = W.heap.size := Option.some.inj e; exact ((unhide HS).f3 q hq).1 e1)
          refine bodyPost_ret (results_cell (vs := [.slice a1 ts.length e1, .slice (some ⟨g2, 0, none⟩) n2 c2, .slice a3 ds.length e3, .int .i64 nh, .int .i64 nc, .int .i64 nd]) rfl Try.isAgg30 Try.sizeOf30 rfl (unhide K9)) rfl ?_
          rw [← unhide HL2] at f2 ⊢
          exact ⟨a1, some ⟨g2, 0, none⟩, a3, e1, c2, e3, ⟨ts, cs, ds, nh, nc, nd⟩, rfl, ⟨f1, f2, f3, own_neF f1 f2 (by decide), own_neF f1 f3 (by decide), own_neF f2 f3 (by decide)⟩, drawn_flB hnb (unhide HTA) (unhide HI2) (unhide HI), KZ.d, KZ.gr⟩

end Go.Proofs.Ytfnnfldfnjnlfag

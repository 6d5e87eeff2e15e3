/-
  DrawFleet: a fleet that is so, and deeds whose names are short. At bytes of at most 1048576; nothing that was there is written.
-/
import Derived.Test.YtfnnfldfnjnlfagDrFg
import Derived.Test.YtfnnfldfnjnlfagDwDe
import Derived.Test.YtfnnfldfnjnlfagTxDe
namespace Go.Proofs.Ytfnnfldfnjnlfag
open Go Go.RowKit

structure Fq (V0 : World) (C R P : Nat) (a : Option Addr) (len cap : Nat) (W0 W : World) (a1 a2 a3 : Option Addr) (e1 e2 e3 : Nat) (f : Fl) (g n c : Nat) (es : List De) : Prop where
  kk : Dk V0 C a len cap W0 W
  r : Blk W R [.slice none 0 0, .slice none 0 0, .slice none 0 0, .int .i64 0, .int .i64 0, .int .i64 0]
  p : Blk W P [.slice a1 f.ts.length e1, .slice a2 f.cs.length e2, .slice a3 f.ds.length e3, .int .i64 f.nh, .int .i64 f.nc, .int .i64 f.nd]
  o : FlOwn W W0.heap.size a1 a2 a3 f.ts.length e1 f.cs.length e2 f.ds.length e3 f.ts f.cs f.ds
  l : OwnE 4 deC W W0.heap.size 42 (.slice (some ⟨g, 0, none⟩) n c) es
  ln : es.length = n
  gp : g ≠ P
  rc : R < C
  pc : W0.heap.size ≤ P
theorem Fq.below {V0 : World} {C R P : Nat} {a : Option Addr} {len cap : Nat} {W0 W : World} {a1 a2 a3 : Option Addr} {e1 e2 e3 : Nat} {f : Fl} {g n c : Nat} {es : List De} {W' : World} (h : Fq V0 C R P a len cap W0 W a1 a2 a3 e1 e2 e3 f g n c es) (b : Below W.heap.size W W') : Fq V0 C R P a len cap W0 W' a1 a2 a3 e1 e2 e3 f g n c es := ⟨h.kk.below b, h.r.below b, h.p.below b, h.o.below b, h.l.below b, h.ln, h.gp, h.rc, h.pc⟩
theorem Fq.call {V0 : World} {C R P : Nat} {a : Option Addr} {len cap : Nat} {W0 W : World} {a1 a2 a3 : Option Addr} {e1 e2 e3 : Nat} {f : Fl} {g n c : Nat} {es : List De} {W' : World} (h : Fq V0 C R P a len cap W0 W a1 a2 a3 e1 e2 e3 f g n c es) (gr : W.grownBy W' (some C)) (d : Dr V0 C a len cap W') : Fq V0 C R P a len cap W0 W' a1 a2 a3 e1 e2 e3 f g n c es := by
  have lo := h.kk.lo
  have rc := h.rc
  have pc := h.pc
  refine ⟨h.kk.call gr d, h.r.apart gr (fun e => by have := Option.some.inj e; omega), h.p.apart gr (fun e => by have := Option.some.inj e; omega), ⟨h.o.o1.far gr ?_, h.o.o2.far gr ?_, h.o.o3.far gr ?_, h.o.p12, h.o.p13, h.o.p23⟩, h.l.far gr ?_, h.ln, h.gp, h.rc, h.pc⟩
  · intro q hq e; have := Option.some.inj e; have := (h.o.o1.lies q hq).1; omega
  · intro q hq e; have := Option.some.inj e; have := (h.o.o2.lies q hq).1; omega
  · intro q hq e; have := Option.some.inj e; have := (h.o.o3.lies q hq).1; omega
  · intro q hq e; have := Option.some.inj e; have := (h.l.lies q hq).1; omega
theorem Fq.push {V0 : World} {C R P : Nat} {a : Option Addr} {len cap : Nat} {W0 W : World} {a1 a2 a3 : Option Addr} {e1 e2 e3 : Nat} {f : Fl} {g n c : Nat} {es : List De} {W' : World} {g9 c9 : Nat} {x : De} (h : Fq V0 C R P a len cap W0 W a1 a2 a3 e1 e2 e3 f g n c es) (o : OwnE 4 deC W' W0.heap.size 42 (.slice (some ⟨g9, 0, none⟩) (n + 1) c9) (es ++ [x])) (gr : W.grownBy W' (Value.slice (some ⟨g, 0, none⟩) n c).ownBlock) (hat : (Value.slice (some ⟨g, 0, none⟩) n c).ownBlock = some g9 ∨ W.heap.size < g9) : Fq V0 C R P a len cap W0 W' a1 a2 a3 e1 e2 e3 f g9 (n + 1) c9 (es ++ [x]) := by
  have gr2 : W.grownBy W' (some g) := gr
  have lo := h.kk.lo
  have rc := h.rc
  have gp := h.gp
  have lp := h.p.lt
  have hl := (h.l.lies g rfl).1
  have x1 : ∀ {p : Nat}, some p = some g → (Value.slice (some ⟨g, 0, none⟩) n c).ownBlock = some p := fun e => by rw [e]; rfl
  refine ⟨h.kk.row gr2 (fun q hq => by have e : g = q := Option.some.inj hq; omega), h.r.apart gr2 (fun e => by have := Option.some.inj e; omega), h.p.apart gr2 (fun e => gp (Option.some.inj e).symm), ⟨h.o.o1.far gr2 (fun q hq e => own_neF h.o.o1 h.l (by decide) q hq (x1 e)), h.o.o2.far gr2 (fun q hq e => own_neF h.o.o2 h.l (by decide) q hq (x1 e)), h.o.o3.far gr2 (fun q hq e => own_neF h.o.o3 h.l (by decide) q hq (x1 e)), h.o.p12, h.o.p13, h.o.p23⟩, o, by simp [h.ln], ?_, h.rc, h.pc⟩
  rcases hat with e | e
  · have e : g = g9 := Option.some.inj e
    omega
  · omega
/-- What DrawFleet answers. -/
def DflE (w : World) (e : Ending) (w' : World) : Prop := ∃ (a1 a2 a3 : Option Addr) (e1 e2 e3 : Nat) (f : Fl) (g n c : Nat) (es : List De), e = .returned (.tuple #[.agg #[.slice a1 f.ts.length e1, .slice a2 f.cs.length e2, .slice a3 f.ds.length e3, .int .i64 f.nh, .int .i64 f.nc, .int .i64 f.nd], .slice (some ⟨g, 0, none⟩) n c]) ∧ FlOwn w' w.heap.size a1 a2 a3 f.ts.length e1 f.cs.length e2 f.ds.length e3 f.ts f.cs f.ds ∧ OwnE 4 deC w' w.heap.size 42 (.slice (some ⟨g, 0, none⟩) n c) es ∧ (es.length = n ∧ n ≤ 24) ∧ flB f = true ∧ (∀ i, fitT (elAt es i).n) ∧ Below w.heap.size w w'
theorem fit_push {es : List De} {x : De} (h : ∀ i, fitT (elAt es i).n) (hx : fitT x.n) (i : Nat) : fitT (elAt (es ++ [x]) i).n := by
  have e := elAt_app es x
  rcases Nat.lt_trichotomy i es.length with h1 | h1 | h1
  · rw [e.1 i h1]; exact h i
  · rw [h1, e.2]; exact hx
  · have : elAt (es ++ [x]) i = default := by unfold elAt; rw [List.getElem?_eq_none (by simp; omega)]; rfl
    rw [this]; show fitT (⟨#[]⟩ : ByteArray); unfold fitT; decide
set_option maxRecDepth 20000 in
set_option maxHeartbeats 4000000 in
theorem drawFleet_any (a : Option Addr) (len cap : Nat) (w : World) (hb : Bytes w a len) (hin : ∀ b off, a = some ⟨b, off, none⟩ → b < w.heap.size) :
    Calls Try.prog 8 #[.slice a len cap] w fun e w' => DflE w e w' := by
  obtain ⟨V0, hV0⟩ : ∃ V, V = w.alloc (Obj.cells #[.slice none 0 0, .slice none 0 0, .slice none 0 0, .int .i64 0, .int .i64 0, .int .i64 0] 30) := ⟨_, rfl⟩
  have b0 : Below w.heap.size w V0 := by rw [hV0]; exact bel1 _
  have hs0 : V0.heap.size = w.heap.size + 1 := by rw [hV0]; simp
  have R0 : Hid (Blk V0 w.heap.size [.slice none 0 0, .slice none 0 0, .slice none 0 0, .int .i64 0, .int .i64 0, .int .i64 0]) := hide (by rw [hV0]; exact Blk.new _ _)
  have hin0 : ∀ b off, a = some ⟨b, off, none⟩ → b < V0.heap.size := fun b off e => by have := hin b off e; omega
  have DN := hide (drNew a len cap V0 (hb.below b0) hin0)
  have HIN := hide hin0
  have B0 := hide b0
  have HW := hide hV0
  have HS0 := hide hs0
  clear hV0 b0 hb hin hin0 hs0
  go_enter Try.func8, Try.ntmps8
  go_upto_region 1 with fail
  rw [← unhide HW]
  clear HW
  go_wp2_with fail
  refine (unhide DN).mono ?_
  rintro e w1 ⟨rfl, d1, b1⟩
  have D1 := hide d1
  have R1 := hide ((unhide R0).below b1)
  clear b1 R0 DN d1
  go_wp2_with fail
  refine (l19Draw_any w1 (unhide D1) (unhide HIN)).mono ?_
  rintro e w2 ⟨a1, a2, a3, e1, e2, e3, f, rfl, o2, hf, d2, gr⟩
  have hC1 := (unhide D1).lt
  have K2 := hide ((Dk.start (unhide D1) (unhide HIN)).call gr d2)
  have R2 := hide ((unhide R1).apart gr (fun e => by have := Option.some.inj e; have := unhide HS0; omega))
  have O2 := hide o2
  have HF := hide hf
  clear o2 hf d2 gr R1
  obtain ⟨V3, hV3⟩ : ∃ V, V = (w2.alloc (Obj.cells #[.slice a1 f.ts.length e1, .slice a2 f.cs.length e2, .slice a3 f.ds.length e3, .int .i64 f.nh, .int .i64 f.nc, .int .i64 f.nd] 30)).alloc (Obj.cells #[] 42) := ⟨_, rfl⟩
  have b3 : Below w2.heap.size w2 V3 := by rw [hV3]; exact bel2 _ _
  have hw12 : w1.heap.size ≤ w2.heap.size := (unhide K2).g.size
  have S0 : Hid (Fq V0 V0.heap.size w.heap.size w2.heap.size a len cap w1 V3 a1 a2 a3 e1 e2 e3 f (w2.heap.size + 1) 0 0 []) := hide ⟨(unhide K2).below b3, (unhide R2).below b3, by rw [hV3]; exact (Blk.new (w := w2) [.slice a1 f.ts.length e1, .slice a2 f.cs.length e2, .slice a3 f.ds.length e3, .int .i64 f.nh, .int .i64 f.nc, .int .i64 f.nd] _).alloc _, (unhide O2).below b3, by
      rw [hV3]
      have k := ownE_none (K := 4) (cells := deC) (w := w1) (w1 := w2.alloc (Obj.cells #[.slice a1 f.ts.length e1, .slice a2 f.cs.length e2, .slice a3 f.ds.length e3, .int .i64 f.nh, .int .i64 f.nc, .int .i64 f.nd] 30)) (T := 42) (by simp; omega)
      rw [show (w2.alloc (Obj.cells #[.slice a1 f.ts.length e1, .slice a2 f.cs.length e2, .slice a3 f.ds.length e3, .int .i64 f.nh, .int .i64 f.nc, .int .i64 f.nd] 30)).heap.size = w2.heap.size + 1 by simp] at k
      exact k, rfl, by omega, by have := unhide HS0; omega, by omega⟩
  have HV3 := hide hV3
  clear hV3 b3 R2 O2 K2
  go_upto_region 4 with fail
  rw [← unhide HV3]
  clear HV3
  go_wp2_with fail
  refine (drBelow 25 _ (unhide S0).kk.d (by omega)).mono ?_
  rintro e wa ⟨ka, rfl, hka, d, gr⟩
  have S1 := hide ((unhide S0).call gr d)
  obtain ⟨kk, rfl⟩ : ∃ kk : Nat, ka = (kk : Int) := ⟨ka.toNat, by omega⟩
  obtain ⟨P, hP⟩ : ∃ P, w2.heap.size = P := ⟨_, rfl⟩
  rw [hP] at S1 ⊢
  clear d gr S0 hP hw12
  go_wp2_with fail
  go_loopw [6, 7] (fun o i wr => ∃ (k g n c : Nat) (es : List De), o = .slice (some ⟨g, 0, none⟩) n c ∧ i = .int .i64 k ∧ n + k ≤ 24 ∧ Hid (∀ i, fitT (elAt es i).n) ∧ Hid (Fq V0 V0.heap.size w.heap.size P a len cap w1 wr a1 a2 a3 e1 e2 e3 f g n c es)) (fun _ i _ => (intOf i).toNat)
  case atStart => exact ⟨kk, _, 0, _, [], rfl, rfl, by omega, hide (fun i => by show fitT (⟨#[]⟩ : ByteArray); unfold fitT; decide), S1⟩
  case round =>
    clear S1 hka
    obtain ⟨k, g, n, c, es, rfl, rfl, hk, HE, HS⟩ := hrel
    by_cases hk0 : 0 < k
    · have k0 : (0 : Int) < (k : Int) := by omega
      obtain ⟨j, hj⟩ : ∃ j, k = j + 1 := ⟨k - 1, by omega⟩
      have hsub : (k : Int) - 1 = (j : Int) := by omega
      have hwr : IntKind.i64.wrap (j : Int) = (j : Int) := by rw [IntKind.wrap_i64]; omega
      have HJ := hide hj
      clear hj
      go_wp2_with fail
      refine (drDeed _ (unhide HS).kk.d (unhide HIN)).mono ?_
      rintro e wb ⟨x, rfl, hx, d, gr⟩
      have HS := hide ((unhide HS).call gr d)
      have HX := hide hx
      clear d gr hx
      go_wp2_with (at_builtin; refine wpList_app_elG (K := 4) (cells := deC) rfl _ _ 31 42 rfl Try.underlying31 infoDe rfl (by decide) (by decide) x [.int .i64 x.k, .string x.n, .int .i64 x.i, .int .i64 x.m] rfl (fun q hq => by rcases (by omega : q = 0 ∨ q = 1 ∨ q = 2 ∨ q = 3) with rfl | rfl | rfl | rfl <;> rfl) (by simp [Value.oneCell']) (unhide HS).l (unhide HS).ln rfl rfl rfl (unhide HS).kk.g.size (by omega) ?_; intro g9 c9 w9 o9 gr9 at9)
      have S9 := hide ((unhide HS).push o9 gr9 at9)
      clear o9 gr9 at9
      go_roundw
      case rel => exact ⟨j, g9, n + 1, c9, es ++ [x], rfl, rfl, by have := unhide HJ; omega, hide (fit_push (unhide HE) (unhide HX)), S9⟩
      case measure => simp [intOf]; have := unhide HJ; omega
    · have k0 : ¬ (0 : Int) < (k : Int) := by omega
      have KP : Hid (Blk wr P [.slice a1 f.ts.length e1, .slice a2 f.cs.length e2, .slice a3 f.ds.length e3, .int .i64 f.nh, .int .i64 f.nc, .int .i64 f.nd]) := hide (unhide HS).p
      have KR : Hid (Blk wr w.heap.size [.slice none 0 0, .slice none 0 0, .slice none 0 0, .int .i64 0, .int .i64 0, .int .i64 0]) := hide (unhide HS).r
      have hsw := (unhide HS).kk.g.size
      go_wp2_with (first
        | ((with_reducible show wpList _ _ _ (⟨_, .load 30 _, _, _, _, none⟩ :: _) _ _); refine at_loadAgg (vs := [.slice a1 f.ts.length e1, .slice a2 f.cs.length e2, .slice a3 f.ds.length e3, .int .i64 f.nh, .int .i64 f.nc, .int .i64 f.nd]) Try.isAgg30 Try.sizeOf30 rfl (unhide KP) ?_)
        | ((with_reducible show wpList _ _ _ (⟨none, .store 30 _ _, _, _, _, none⟩ :: _) _ _); refine at_storeAgg (us := [.slice none 0 0, .slice none 0 0, .slice none 0 0, .int .i64 0, .int .i64 0, .int .i64 0]) (vs := [.slice a1 f.ts.length e1, .slice a2 f.cs.length e2, .slice a3 f.ds.length e3, .int .i64 f.nh, .int .i64 f.nc, .int .i64 f.nd]) Try.sizeOf30 rfl rfl (unhide KR) rfl (fun v hv => by simp at hv; rcases hv with rfl | rfl | rfl | rfl | rfl | rfl <;> rfl) ?_; intro wz k9 g9; have K9 := hide k9; have G9 := hide g9; clear k9 g9))
      have nn : ∀ {q : Nat}, w1.heap.size ≤ q → some q ≠ some w.heap.size := fun h e => by have := Option.some.inj e; have := unhide HS0; omega
      have f1 := (unhide HS).o.o1.far (unhide G9) (fun q hq => nn ((unhide HS).o.o1.lies q hq).1)
      have f2 := (unhide HS).o.o2.far (unhide G9) (fun q hq => nn ((unhide HS).o.o2.lies q hq).1)
      have f3 := (unhide HS).o.o3.far (unhide G9) (fun q hq => nn ((unhide HS).o.o3.lies q hq).1)
      have f4 := (unhide HS).l.far (unhide G9) (fun q hq => nn ((unhide HS).l.lies q hq).1)
      refine bodyPost_ret (results_cellB (vs := [.slice a1 f.ts.length e1, .slice a2 f.cs.length e2, .slice a3 f.ds.length e3, .int .i64 f.nh, .int .i64 f.nc, .int .i64 f.nd]) rfl Try.isAgg30 Try.sizeOf30 rfl (unhide K9) rfl) rfl ?_
      have hlow : w.heap.size ≤ w1.heap.size := by have := unhide HS0; omega
      have bA := (unhide B0).trans ((unhide HS).kk.d.bel.mono (unhide B0).size)
      exact ⟨a1, a2, a3, e1, e2, e3, f, g, n, c, es, rfl, ⟨f1.mono hlow, f2.mono hlow, f3.mono hlow, (unhide HS).o.p12, (unhide HS).o.p13, (unhide HS).o.p23⟩, f4.mono hlow, ⟨(unhide HS).ln, by omega⟩, unhide HF, unhide HE, bA.grown (unhide G9) bA.size (fun q hq => by have e : w.heap.size = q := Option.some.inj hq; omega)⟩

end Go.Proofs.Ytfnnfldfnjnlfag

/-
  Two networks that grow frame by frame, and the words that came over either: what is known of memory. No condition.
-/
import Derived.Test.YticdccdkjepifaaTwDr
import Derived.Test.YticdccdkjepifaaMAppI
namespace Go.Proofs.Yticdccdkjepifaa
open Go Go.RowKit

theorem infoBs : (Try.prog.info? 22).map (fun i => (i.zero, i.size, i.bytes)) = some (some (.slice none 0 0), 1, 24) := by kernel_rfl
/-- A frame in memory of its own. -/
def FrO (B W : World) (s : Sl) : Prop := OwnE 1 byC W B.heap.size 5 (slV s) s.zs ∧ s.n ≤ s.c ∧ (∀ i, i < s.n → 0 ≤ elAt s.zs i ∧ elAt s.zs i ≤ 255)
theorem FrO.below {B W W' : World} {s : Sl} (h : FrO B W s) (k : Below W.heap.size W W') : FrO B W' s := ⟨h.1.below k, h.2⟩
theorem FrO.sl {B W : World} {s : Sl} (h : FrO B W s) : SlIn W s := ⟨OwnE.row h.1, h.2.1, h.2.2⟩
structure TwM (B : World) (k1 k2 gx cx gy cy gz nz cz : Nat) (xs ys : List Sl) (zs : List Wx) (W : World) : Prop where
  bel : Below B.heap.size B W
  X : OwnE 1 slC W B.heap.size 22 (.slice (some ⟨gx, 0, none⟩) k1 cx) xs
  Y : OwnE 1 slC W B.heap.size 22 (.slice (some ⟨gy, 0, none⟩) k2 cy) ys
  Z : OwnE 3 wxC W B.heap.size 50 (.slice (some ⟨gz, 0, none⟩) nz cz) zs
  xd : ∀ s ∈ xs, FrO B W s
  yd : ∀ s ∈ ys, FrO B W s
  ne : gx ≠ gy
theorem TwM.below {B : World} {k1 k2 gx cx gy cy gz nz cz : Nat} {xs ys : List Sl} {zs : List Wx} {W W' : World} (h : TwM B k1 k2 gx cx gy cy gz nz cz xs ys zs W) (k : Below W.heap.size W W') : TwM B k1 k2 gx cx gy cy gz nz cz xs ys zs W' := ⟨h.bel.trans (k.mono h.bel.size), h.X.below k, h.Y.below k, h.Z.below k, fun s hs => (h.xd s hs).below k, fun s hs => (h.yd s hs).below k, h.ne⟩
theorem FrO.far {B W W' : World} {s : Sl} {g n c : Nat} {α : Type} [Inhabited α] {K : Nat} {cells : α → Nat → Value} {T : TypeId} {ps : List α} {base : Nat} (h : FrO B W s) (o : OwnE K cells W base T (.slice (some ⟨g, 0, none⟩) n c) ps) (hT : 5 ≠ T) (gr : W.grownBy W' (some g)) : FrO B W' s :=
  ⟨h.1.far gr (fun q hq e => own_ty h.1 o hT q hq (by rw [e]; rfl)), h.2⟩
theorem TwM.pushX {B : World} {k1 k2 gx cx gy cy gz nz cz : Nat} {xs ys : List Sl} {zs : List Wx} {W W' : World} {s : Sl} {g c : Nat} (h : TwM B k1 k2 gx cx gy cy gz nz cz xs ys zs W) (hs : FrO B W s) (o9 : OwnE 1 slC W' B.heap.size 22 (.slice (some ⟨g, 0, none⟩) (k1 + 1) c) (xs ++ [s])) (gr : W.grownBy W' (some gx)) (hg9 : some gx = some g ∨ W.heap.size < g) : TwM B (k1 + 1) k2 g c gy cy gz nz cz (xs ++ [s]) ys zs W' := by
  have hl := h.X.lies gx rfl
  have hy := h.Y.lies gy rfl
  have hne := h.ne
  refine ⟨h.bel.grown gr h.bel.size (fun q hq => by have e : gx = q := Option.some.inj hq; omega), o9, h.Y.far gr (fun q hq e => by have e1 : gy = q := Option.some.inj hq; have e2 := Option.some.inj e; omega), h.Z.far gr (fun q hq e => own_ty h.Z h.X (by decide) q hq (by rw [e]; rfl)), fun x hx => ?_, fun x hx => (h.yd x hx).far h.X (by decide) gr, ?_⟩
  · rcases List.mem_append.1 hx with hx | hx
    · exact (h.xd x hx).far h.X (by decide) gr
    · rw [List.mem_singleton] at hx; rw [hx]; exact hs.far h.X (by decide) gr
  · rcases hg9 with e | e
    · have e : gx = g := Option.some.inj e
      omega
    · omega
theorem TwM.pushY {B : World} {k1 k2 gx cx gy cy gz nz cz : Nat} {xs ys : List Sl} {zs : List Wx} {W W' : World} {s : Sl} {g c : Nat} (h : TwM B k1 k2 gx cx gy cy gz nz cz xs ys zs W) (hs : FrO B W s) (o9 : OwnE 1 slC W' B.heap.size 22 (.slice (some ⟨g, 0, none⟩) (k2 + 1) c) (ys ++ [s])) (gr : W.grownBy W' (some gy)) (hg9 : some gy = some g ∨ W.heap.size < g) : TwM B k1 (k2 + 1) gx cx g c gz nz cz xs (ys ++ [s]) zs W' := by
  have hl := h.Y.lies gy rfl
  have hy := h.X.lies gx rfl
  have hne := h.ne
  refine ⟨h.bel.grown gr h.bel.size (fun q hq => by have e : gy = q := Option.some.inj hq; omega), h.X.far gr (fun q hq e => by have e1 : gx = q := Option.some.inj hq; have e2 := Option.some.inj e; omega), o9, h.Z.far gr (fun q hq e => own_ty h.Z h.Y (by decide) q hq (by rw [e]; rfl)), fun x hx => (h.xd x hx).far h.Y (by decide) gr, fun x hx => ?_, ?_⟩
  · rcases List.mem_append.1 hx with hx | hx
    · exact (h.yd x hx).far h.Y (by decide) gr
    · rw [List.mem_singleton] at hx; rw [hx]; exact hs.far h.Y (by decide) gr
  · rcases hg9 with e | e
    · have e : gy = g := Option.some.inj e
      omega
    · omega
theorem TwM.pushZ {B : World} {k1 k2 gx cx gy cy gz nz cz : Nat} {xs ys : List Sl} {zs : List Wx} {W W' : World} {x : Wx} {g c : Nat} (h : TwM B k1 k2 gx cx gy cy gz nz cz xs ys zs W) (o9 : OwnE 3 wxC W' B.heap.size 50 (.slice (some ⟨g, 0, none⟩) (nz + 1) c) (zs ++ [x])) (gr : W.grownBy W' (some gz)) : TwM B k1 k2 gx cx gy cy g (nz + 1) c xs ys (zs ++ [x]) W' := by
  have hl := h.Z.lies gz rfl
  exact ⟨h.bel.grown gr h.bel.size (fun q hq => by have e : gz = q := Option.some.inj hq; omega), h.X.far gr (fun q hq e => own_ty h.X h.Z (by decide) q hq (by rw [e]; rfl)), h.Y.far gr (fun q hq e => own_ty h.Y h.Z (by decide) q hq (by rw [e]; rfl)), o9, fun x hx => (h.xd x hx).far h.Z (by decide) gr, fun x hx => (h.yd x hx).far h.Z (by decide) gr, h.ne⟩
/-- What the lists are behind k words. -/
structure TwP (ws : List Wx) (la lb : List Bool) (N k nz : Nat) (xs ys : List Sl) (zs : List Wx) : Prop where
  x : xs.map (·.zs) = twX (ws.map wxW) la k
  y : ys.map (·.zs) = twX (ws.map wxW) lb k
  z : zs.map wxW = twC (ws.map wxW) la lb k
  lx : xs.length = k
  ly : ys.length = k
  lz : zs.length = nz
  nz : nz ≤ k
  zi : ∀ x ∈ zs, ∃ i, i < N ∧ x = elAt ws i
theorem elAt_mapW {ws : List Wx} {k : Nat} (h : k < ws.length) : elAt (ws.map wxW) k = wxW (elAt ws k) := by simp [elAt, h]
theorem TwP.next {ws : List Wx} {la lb : List Bool} {N k nz : Nat} {xs ys : List Sl} {zs : List Wx} {s1 s2 : Sl} {p q : Bool} (h : TwP ws la lb N k nz xs ys zs) (hk : k < N) (hw : ws.length = N) (hp : elAt la k = p) (hq : elAt lb k = q) (h1 : s1.zs = bif p then [] else twF (wxW (elAt ws k))) (h2 : s2.zs = bif q then [] else twF (wxW (elAt ws k))) :
    ((p && q) = true → TwP ws la lb N (k + 1) nz (xs ++ [s1]) (ys ++ [s2]) zs) ∧ ((p && q) = false → TwP ws la lb N (k + 1) (nz + 1) (xs ++ [s1]) (ys ++ [s2]) (zs ++ [elAt ws k])) := by
  have e := elAt_mapW (ws := ws) (k := k) (by omega)
  have hx : (xs ++ [s1]).map (·.zs) = twX (ws.map wxW) la (k + 1) := by rw [List.map_append, twX, h.x, hp, e]; simp [h1]
  have hy : (ys ++ [s2]).map (·.zs) = twX (ws.map wxW) lb (k + 1) := by rw [List.map_append, twX, h.y, hq, e]; simp [h2]
  refine ⟨fun c => ⟨hx, hy, by rw [twC, hp, hq, c]; exact h.z, by simp [h.lx], by simp [h.ly], h.lz, by have := h.nz; omega, h.zi⟩, fun c => ⟨hx, hy, by rw [twC, hp, hq, c, List.map_append, h.z, e]; rfl, by simp [h.lx], by simp [h.ly], by simp [h.lz], by have := h.nz; omega, fun x hx => ?_⟩⟩
  rcases List.mem_append.1 hx with hx | hx
  · exact h.zi x hx
  · rw [List.mem_singleton] at hx; exact ⟨k, hk, hx⟩
def TwQ (B : World) (ws : List Wx) (la lb : List Bool) (N : Nat) (t6 t7 t8 t9 t10 t11 : Value) (W : World) : Prop := ∃ (k gx cx gy cy gz nz cz : Nat) (G : Int) (S : Bool) (xs ys : List Sl) (zs : List Wx), t6 = .slice (some ⟨gx, 0, none⟩) k cx ∧ t7 = .slice (some ⟨gy, 0, none⟩) k cy ∧ t8 = .slice (some ⟨gz, 0, none⟩) nz cz ∧ t9 = .int .i64 G ∧ t10 = .bool S ∧ t11 = .int .i64 (k : Int) ∧ k ≤ N ∧ (0 ≤ G ∧ G ≤ 20) ∧ Hid (G = twG la lb k) ∧ Hid (S = twB la lb k) ∧ Hid (TwP ws la lb N k nz xs ys zs) ∧ Hid (TwM B k k gx cx gy cy gz nz cz xs ys zs W)

end Go.Proofs.Yticdccdkjepifaa

/-
  The model's generator comes from any number to any other one, and so a curve in order is drawn at last. Plain numbers, no program.
-/
import Derived.Test.YtikhfacgoglcfaaBase
namespace Go.Proofs.Ytikhfacgoglcfaa

def gnx (n : Nat) : Nat := (n * 6364136223846793005 + 1442695040888963407) % 18446744073709551616
/-- So many steps of f. -/
def gits (f : Nat → Nat) : Nat → Nat → Nat
  | 0, n => n
  | k + 1, n => gits f k (f n)
theorem gits_add (f : Nat → Nat) (j : Nat) : ∀ (k n : Nat), gits f (k + j) n = gits f j (gits f k n)
  | 0, n => by rw [Nat.zero_add]; rfl
  | k + 1, n => by
    have e : k + 1 + j = (k + j) + 1 := by omega
    rw [e]
    exact gits_add f j k (f n)
theorem gits_one (f : Nat → Nat) (n : Nat) : gits f (2 ^ 0) n = f n := rfl
theorem gnx_is (n : Nat) : gnx n = (n * 6364136223846793005 + 1442695040888963407) % 18446744073709551616 := rfl
/-- The generator's 2^j steps at once: times the first, and the second more. -/
def gjumps : List (Nat × Nat) := [
  (6364136223846793005, 1442695040888963407),
  (7520897724310334953, 1876011003808476466),
  (18108194425815612945, 7401132627792533940),
  (13086856194709077281, 6566661184467396264),
  (10186629832379121217, 3646985772805368400),
  (10828933358287359105, 982119659650238624),
  (4910590176156014849, 10607473198416945472),
  (9908147928152388097, 6914523672464851584),
  (146241703003251713, 4689171378020353280),
  (7321387688379467777, 8103286608563669504),
  (12255457568021647361, 7710372194127975424),
  (9867978473775767553, 16043993925053589504),
  (5088048636545613825, 1993901509916512256),
  (2150478223927705601, 13175896319671181312),
  (9196835419631190017, 1993366741509554176),
  (5957860013156466689, 7241871532530761728),
  (10389140232424652801, 9829074100562493440),
  (13023643825678581761, 7211655632440131584),
  (288945459443007489, 14014807304630960128),
  (13413133364217511937, 15586959662575517696),
  (8991946233350193153, 5614651135149211648),
  (1986842707489718273, 10449321915693662208),
  (13772462672974970881, 17778722412968280064),
  (11399802156803424257, 4631015078550831104),
  (13559343778149433345, 14683519683525607424),
  (8604389488178757633, 14159509325327892480),
  (16938562998715285505, 4382386631181598720),
  (14349518013152100353, 5251965553014210560),
  (5928836310318972929, 14899444342342025216),
  (13010594125244792833, 10487453482519363584),
  (12186130195207421953, 17516142451218186240),
  (5925516316705292289, 2750482773444657152),
  (11851032633410584577, 5500965546889314304),
  (5255321193111617537, 11001931093778628608),
  (10510642386223235073, 3557118113847705600),
  (2574540698736918529, 7114236227695411200),
  (5149081397473837057, 14228472455390822400),
  (10298162794947674113, 10010200837072093184),
  (2149581516185796609, 1573657600434634752),
  (4299163032371593217, 3147315200869269504),
  (8598326064743186433, 6294630401738539008),
  (17196652129486372865, 12589260803477078016),
  (15946560185263194113, 6731777533244604416),
  (13446376296816836609, 13463555066489208832),
  (8446008519924121601, 8480366059268866048),
  (16892017039848243201, 16960732118537732096),
  (15337290005986934785, 15474720163365912576),
  (12227835938264317953, 12502696253022273536),
  (6008927802819084289, 6558648432334995456),
  (12017855605638168577, 13117296864669990912),
  (5588967137566785537, 7787849655630430208),
  (11177934275133571073, 15575699311260860416),
  (3909124476557590529, 12704654548812169216),
  (7818248953115181057, 6962565023914786816),
  (15636497906230362113, 13925130047829573632),
  (12826251738751172609, 9403516021949595648),
  (7205759403792793601, 360287970189639680),
  (14411518807585587201, 720575940379279360),
  (10376293541461622785, 1441151880758558720),
  (2305843009213693953, 2882303761517117440),
  (4611686018427387905, 5764607523034234880),
  (9223372036854775809, 11529215046068469760),
  (1, 4611686018427387904),
  (1, 9223372036854775808)]
def gjump (j : Nat) : Nat × Nat := (gjumps[j]?).getD (0, 0)
theorem gjump_step : ∀ j : Fin 63, gjump (j.val + 1) = ((gjump j.val).1 * (gjump j.val).1 % 18446744073709551616, ((gjump j.val).1 * (gjump j.val).2 + (gjump j.val).2) % 18446744073709551616) := by decide +kernel
theorem glin_mod (A B n M : Nat) : (A % M * n + B % M) % M = (A * n + B) % M := by
  rw [Nat.add_mod, Nat.mod_mod, ← Nat.add_mod, Nat.add_mod, Nat.mul_mod, Nat.mod_mod, ← Nat.mul_mod, ← Nat.add_mod]
theorem gmod_lin (a c x M : Nat) : (a * (x % M) + c) % M = (a * x + c) % M := by
  rw [Nat.add_mod, Nat.mul_mod, Nat.mod_mod, ← Nat.mul_mod, ← Nat.add_mod]
theorem gits_jump : ∀ (j n : Nat), j < 64 → gits gnx (2 ^ j) n % 18446744073709551616 = ((gjump j).1 * n + (gjump j).2) % 18446744073709551616
  | 0, n, _ => by
    rw [gits_one, gnx_is, Nat.mod_mod, Nat.mul_comm]
    rfl
  | j + 1, n, h => by
    have e : (2 : Nat) ^ (j + 1) = 2 ^ j + 2 ^ j := by rw [Nat.pow_succ]; omega
    rw [e, gits_add gnx, gits_jump j (gits gnx (2 ^ j) n) (by omega)]
    rw [← gmod_lin, gits_jump j n (by omega), gmod_lin, gjump_step ⟨j, by omega⟩]
    generalize (gjump j).1 = a
    generalize (gjump j).2 = c
    have h1 : (a * (a * n + c) + c) = (a * a * n + (a * c + c)) := by rw [Nat.mul_add, Nat.mul_assoc]; omega
    rw [h1]
    exact (glin_mod _ _ _ _).symm
theorem gjump_odd : ∀ j : Fin 64, (gjump j.val).1 % 2 ^ (j.val + 1) = 1 ∧ (gjump j.val).2 % 2 ^ (j.val + 1) = 2 ^ j.val := by decide +kernel
theorem gmod_of {x y j : Nat} (hj : j ≤ 64) (h : x % 18446744073709551616 = y % 18446744073709551616) : x % 2 ^ j = y % 2 ^ j := by
  have e : (18446744073709551616 : Nat) = 2 ^ j * 2 ^ (64 - j) := by rw [← Nat.pow_add, show j + (64 - j) = 64 by omega]
  rw [e] at h
  rw [← Nat.mod_mul_right_mod x (2 ^ j) (2 ^ (64 - j)), h, Nat.mod_mul_right_mod]
/-- 2^j steps turn the bit j and leave those below. -/
theorem gits_bit {j : Nat} (hj : j < 64) (n : Nat) : gits gnx (2 ^ j) n % 2 ^ (j + 1) = (n + 2 ^ j) % 2 ^ (j + 1) := by
  rw [gmod_of (by omega) (gits_jump j n hj)]
  obtain ⟨h1, h2⟩ := gjump_odd ⟨j, hj⟩
  rw [Nat.add_mod, Nat.mul_mod, h1, h2, Nat.add_mod n]
  simp
/-- From any number the generator comes to any other. -/
theorem gits_bits (s n : Nat) : ∀ j, j ≤ 64 → ∃ k, k < 2 ^ j ∧ gits gnx k n % 2 ^ j = s % 2 ^ j
  | 0, _ => ⟨0, by simp, by simp [Nat.mod_one]⟩
  | j + 1, h => by
    obtain ⟨k, hk, e⟩ := gits_bits s n j (by omega)
    by_cases h2 : gits gnx k n % 2 ^ (j + 1) = s % 2 ^ (j + 1)
    · exact ⟨k, by rw [Nat.pow_succ]; omega, h2⟩
    · refine ⟨k + 2 ^ j, by rw [Nat.pow_succ]; omega, ?_⟩
      rw [gits_add gnx, gits_bit (by omega)]
      generalize gits gnx k n = x at *
      have a1 := Nat.mod_mul_right_mod x (2 ^ j) 2
      have a2 := Nat.mod_mul_right_mod s (2 ^ j) 2
      rw [← Nat.pow_succ] at a1 a2
      rw [Nat.pow_succ] at *
      have hp : 0 < 2 ^ j := Nat.pow_pos (by omega)
      generalize 2 ^ j = P at *
      have b1 := Nat.mod_lt x (show 0 < P * 2 by omega)
      have b2 := Nat.mod_lt s (show 0 < P * 2 by omega)
      rw [Nat.add_mod x P, Nat.mod_eq_of_lt (show P < P * 2 by omega)]
      generalize x % (P * 2) = u at *
      generalize s % (P * 2) = v at *
      have c1 : u % P = v % P := by rw [a1, a2]; exact e
      by_cases hu : u < P
      · by_cases hv : v < P
        · rw [Nat.mod_eq_of_lt hu, Nat.mod_eq_of_lt hv] at c1; exact absurd c1 h2
        · rw [Nat.mod_eq_of_lt hu, Nat.mod_eq_sub_mod (by omega), Nat.mod_eq_of_lt (by omega : v - P < P)] at c1
          rw [Nat.mod_eq_of_lt (by omega)]; omega
      · by_cases hv : v < P
        · rw [Nat.mod_eq_of_lt hv, Nat.mod_eq_sub_mod (by omega), Nat.mod_eq_of_lt (by omega : u - P < P)] at c1
          rw [Nat.mod_eq_sub_mod (by omega), Nat.mod_eq_of_lt (by omega)]; omega
        · rw [Nat.mod_eq_sub_mod (show P ≤ u by omega), Nat.mod_eq_of_lt (by omega : u - P < P), Nat.mod_eq_sub_mod (show P ≤ v by omega), Nat.mod_eq_of_lt (by omega : v - P < P)] at c1
          omega
theorem gits_succ (f : Nat → Nat) (k n : Nat) : gits f (k + 1) n = gits f k (f n) := rfl
theorem gnx_lt (n : Nat) : gnx n < 18446744073709551616 := by
  rw [gnx_is]
  exact Nat.mod_lt _ (by omega)
theorem gits_lt (k n : Nat) (h : n < 18446744073709551616) : gits gnx k n < 18446744073709551616 := by
  induction k generalizing n with
  | zero => exact h
  | succ k ih => rw [gits_succ]; exact ih _ (gnx_lt n)
theorem gits_reach (s n : Nat) (hs : s < 18446744073709551616) (hn : n < 18446744073709551616) : ∃ k, k < 18446744073709551616 ∧ gits gnx k n = s := by
  obtain ⟨k, hk, e⟩ := gits_bits s n 64 (by omega)
  refine ⟨k, by simpa using hk, ?_⟩
  have e2 : (2 : Nat) ^ 64 = 18446744073709551616 := by decide
  rw [e2, Nat.mod_eq_of_lt (gits_lt k n hn), Nat.mod_eq_of_lt hs] at e
  exact e

/-! Drawn numbers: a source tells a number below 256 and goes on. -/
section
variable {σ τ : Type}
def blG (b : σ → Nat × σ) (n : Nat) (s : σ) : Nat × σ := ((b s).1 % n, (b s).2)
/-- A rising list of k places from x on. -/
def riG (b : σ → Nat × σ) (st : Nat) : Nat → Int → σ → List Int × σ
  | 0, _, s => ([], s)
  | k + 1, x, s => (x :: (riG b st k (x + 1 + ((blG b st s).1 : Int)) (blG b st s).2).1, (riG b st k (x + 1 + ((blG b st s).1 : Int)) (blG b st s).2).2)
def ysG (b : σ → Nat × σ) : Nat → σ → List Int × σ
  | 0, s => ([], s)
  | k + 1, s => ((((blG b 81 s).1 : Int) - 40) :: (ysG b k (blG b 81 s).2).1, (ysG b k (blG b 81 s).2).2)
def pk0 (q : Nat) : Int := nth [-100000, -100001, 50] q
def pk1 (q : Nat) : Int := nth [-100000, 100000, 100001] q
/-- What is drawn last turns the curve. -/
def cuE (b : σ → Nat × σ) (c : Nat) (xs ys : List Int) (s : σ) : (List Int × List Int) × σ :=
  if c = 0 then ((xs.set 0 (pk0 (blG b 3 s).1), ys), (blG b 3 s).2)
  else if c = 1 then ((xs, ys.set 1 (pk1 (blG b 3 s).1)), (blG b 3 s).2)
  else if c = 2 then ((xs, ys ++ [3]), s)
  else if c = 3 then (((riG b 3 (20 + (blG b 2 s).1) 0 (blG b 2 s).2).1, List.replicate (20 + (blG b 2 s).1) 0), (riG b 3 (20 + (blG b 2 s).1) 0 (blG b 2 s).2).2)
  else if c = 4 then (([4], [5]), s)
  else ((xs, ys), s)
def cuD (b : σ → Nat × σ) (k : Nat) (r : List Int × σ) : (List Int × List Int) × σ :=
  cuE b (blG b 30 (ysG b k r.2).2).1 r.1 (ysG b k r.2).1 (blG b 30 (ysG b k r.2).2).2
/-- A drawn curve. -/
def cuG (b : σ → Nat × σ) (s : σ) : (List Int × List Int) × σ :=
  cuD b (2 + (blG b 6 s).1) (riG b 12 (2 + (blG b 6 s).1) (((blG b 30 (blG b 6 s).2).1 : Int) - 15) (blG b 30 (blG b 6 s).2).2)
def okG (b : σ → Nat × σ) (s : σ) : Bool := curveB (cuG b s).1.1 (cuG b s).1.2
/-- Is one of the next t curves in order? -/
def tryG (b : σ → Nat × σ) : Nat → σ → Bool
  | 0, _ => false
  | t + 1, s => okG b s || tryG b t (cuG b s).2
end
def outN (m : Nat) : Nat := ((m / 8589934592) ^^^ (m / 35184372088832)) % 256
def byN (n : Nat) : Nat × Nat := (outN (gnx n), gnx n)
theorem gwindow : ∀ j : Fin 61, tryG byN 12 (gits gnx j.val 0) = true := by decide +kernel

attribute [local irreducible] gnx
/-- From here the generator has gone on by between lo and hi steps. -/
def GAdv (lo hi : Nat) (s s' : Nat) : Prop := ∃ m, lo ≤ m ∧ m ≤ hi ∧ s' = gits gnx m s
theorem gits_one1 (f : Nat → Nat) (n : Nat) : gits f 1 n = f n := rfl
theorem gits_zero (f : Nat → Nat) (n : Nat) : gits f 0 n = n := rfl
theorem GAdv.refl (s : Nat) : GAdv 0 0 s s := ⟨0, Nat.le_refl _, Nat.le_refl _, (gits_zero gnx s).symm⟩
theorem GAdv.trans {a b c d s t u : Nat} (h : GAdv a b s t) (k : GAdv c d t u) : GAdv (a + c) (b + d) s u := by
  obtain ⟨m, h1, h2, h3⟩ := h
  obtain ⟨q, k1, k2, k3⟩ := k
  exact ⟨m + q, by omega, by omega, by rw [gits_add, ← h3]; exact k3⟩
theorem GAdv.wide {a b c d s t : Nat} (h : GAdv a b s t) (h1 : c ≤ a) (h2 : b ≤ d) : GAdv c d s t := by
  obtain ⟨m, k1, k2, k3⟩ := h
  exact ⟨m, by omega, by omega, k3⟩
theorem bl_snd {σ : Type} (b : σ → Nat × σ) (n : Nat) (s : σ) : (blG b n s).2 = (b s).2 := rfl
theorem bl_lt {σ : Type} (b : σ → Nat × σ) {n : Nat} (s : σ) (h : 0 < n) : (blG b n s).1 < n := Nat.mod_lt _ h
theorem riG_zero {σ : Type} (b : σ → Nat × σ) (st : Nat) (x : Int) (s : σ) : riG b st 0 x s = ([], s) := rfl
theorem riG_succ {σ : Type} (b : σ → Nat × σ) (st k : Nat) (x : Int) (s : σ) : riG b st (k + 1) x s = (x :: (riG b st k (x + 1 + ((blG b st s).1 : Int)) (blG b st s).2).1, (riG b st k (x + 1 + ((blG b st s).1 : Int)) (blG b st s).2).2) := rfl
theorem ysG_zero {σ : Type} (b : σ → Nat × σ) (s : σ) : ysG b 0 s = ([], s) := rfl
theorem ysG_succ {σ : Type} (b : σ → Nat × σ) (k : Nat) (s : σ) : ysG b (k + 1) s = ((((blG b 81 s).1 : Int) - 40) :: (ysG b k (blG b 81 s).2).1, (ysG b k (blG b 81 s).2).2) := rfl
/-! What each step of the source keeps, a whole curve keeps. -/
section
variable {σ : Type} {b : σ → Nat × σ} {R : Nat → Nat → σ → σ → Prop} (r0 : ∀ s, R 0 0 s s) (rt : ∀ p q p' q' s t u, R p q s t → R p' q' t u → R (p + p') (q + q') s u) (rx : ∀ p q p' q' s t, R p q s t → p' ≤ p → q ≤ q' → R p' q' s t) (rs : ∀ s, R 1 1 s (b s).2)
include r0 rt rx rs
omit r0 rt rx in
theorem run_bl (n : Nat) (s : σ) : R 1 1 s (blG b n s).2 := rs s
theorem run_ri (st : Nat) : ∀ (k : Nat) (x : Int) (s : σ), R k k s (riG b st k x s).2
  | 0, x, s => r0 s
  | k + 1, x, s => rx _ _ _ _ _ _ (rt _ _ _ _ _ _ _ (run_bl rs st s) (run_ri st k (x + 1 + ((blG b st s).1 : Int)) (blG b st s).2)) (by omega) (by omega)
theorem run_ys : ∀ (k : Nat) (s : σ), R k k s (ysG b k s).2
  | 0, s => r0 s
  | k + 1, s => rx _ _ _ _ _ _ (rt _ _ _ _ _ _ _ (run_bl rs 81 s) (run_ys k (blG b 81 s).2)) (by omega) (by omega)
theorem run_cuE (c : Nat) (xs ys : List Int) (s : σ) : R 0 22 s (cuE b c xs ys s).2 := by
  unfold cuE
  split
  · exact rx _ _ _ _ _ _ (run_bl rs 3 s) (by omega) (by omega)
  split
  · exact rx _ _ _ _ _ _ (run_bl rs 3 s) (by omega) (by omega)
  split
  · exact rx _ _ _ _ _ _ (r0 s) (by omega) (by omega)
  split
  · have h := bl_lt b s (show 0 < 2 by omega)
    exact rx _ _ _ _ _ _ (rt _ _ _ _ _ _ _ (run_bl rs 2 s) (run_ri r0 rt rx rs 3 (20 + (blG b 2 s).1) 0 (blG b 2 s).2)) (by omega) (by omega)
  split
  · exact rx _ _ _ _ _ _ (r0 s) (by omega) (by omega)
  · exact rx _ _ _ _ _ _ (r0 s) (by omega) (by omega)
theorem run_cu (s : σ) : R 0 59 (blG b 6 s).2 (cuG b s).2 := by
  have h := bl_lt b s (show 0 < 6 by omega)
  unfold cuG cuD
  generalize (blG b 6 s).1 = n at *
  generalize (blG b 6 s).2 = s1 at *
  have h1 := rt _ _ _ _ _ _ _ (run_bl rs 30 s1) (run_ri r0 rt rx rs 12 (2 + n) (((blG b 30 s1).1 : Int) - 15) (blG b 30 s1).2)
  generalize riG b 12 (2 + n) (((blG b 30 s1).1 : Int) - 15) (blG b 30 s1).2 = r at *
  have h2 := rt _ _ _ _ _ _ _ h1 (run_ys r0 rt rx rs (2 + n) r.2)
  generalize ysG b (2 + n) r.2 = y at *
  have h3 := rt _ _ _ _ _ _ _ h2 (run_bl rs 30 y.2)
  have h4 := rt _ _ _ _ _ _ _ h3 (run_cuE r0 rt rx rs (blG b 30 y.2).1 r.1 y.1 (blG b 30 y.2).2)
  exact rx _ _ _ _ _ _ h4 (by omega) (by omega)
end
theorem by_snd (s : Nat) : (byN s).2 = gnx s := rfl
theorem adv_cuG (s : Nat) : GAdv 1 60 s (cuG byN s).2 := by
  have rs : ∀ s, GAdv 1 1 s (byN s).2 := fun s => ⟨1, Nat.le_refl _, Nat.le_refl _, by rw [by_snd, gits_one1]⟩
  have h := run_cu (b := byN) (R := GAdv) GAdv.refl (fun _ _ _ _ _ _ _ h k => h.trans k) (fun _ _ _ _ _ _ h a c => h.wide a c) rs s
  have k := rs s
  rw [← bl_snd byN 6] at k
  exact (k.trans h).wide (by omega) (by omega)
theorem tryG_succ {σ : Type} (b : σ → Nat × σ) (t : Nat) (s : σ) : tryG b (t + 1) s = (okG b s || tryG b t (cuG b s).2) := rfl
/-- Wherever the generator stands, a curve in order is drawn at last. -/
theorem try_N : ∀ (k n : Nat), gits gnx k n = 0 → ∃ t, tryG byN t n = true := by
  intro k
  induction k using Nat.strongRecOn with
  | ind k ih =>
    intro n hk
    obtain ⟨m, h1, h2, h3⟩ := adv_cuG n
    by_cases hm : m ≤ k
    · have e : gits gnx (k - m) (cuG byN n).2 = 0 := by
        rw [h3, ← gits_add, show m + (k - m) = k by omega]
        exact hk
      obtain ⟨t, ht⟩ := ih (k - m) (by omega) _ e
      exact ⟨t + 1, by rw [tryG_succ, ht, Bool.or_true]⟩
    · have e : (cuG byN n).2 = gits gnx (m - k) 0 := by
        rw [h3, ← hk, ← gits_add, show k + (m - k) = m by omega]
      have hw := gwindow ⟨m - k, by omega⟩
      exact ⟨13, by rw [tryG_succ, e, hw, Bool.or_true]⟩
theorem try_any (n : Nat) (h : n < 18446744073709551616) : ∃ t, tryG byN t n = true := by
  obtain ⟨k, _, e⟩ := gits_reach 0 n (by omega) h
  exact try_N k n e

/-! The same over a source whose states tell a state of another one. -/
section
variable {σ τ : Type} {b : σ → Nat × σ} {d : τ → Nat × τ} {f : σ → τ}
theorem sim_bl (h : ∀ s, d (f s) = ((b s).1, f (b s).2)) (n : Nat) (s : σ) : blG d n (f s) = ((blG b n s).1, f (blG b n s).2) := by
  unfold blG
  rw [h]
theorem sim_ri (h : ∀ s, d (f s) = ((b s).1, f (b s).2)) (st : Nat) : ∀ (k : Nat) (x : Int) (s : σ), riG d st k x (f s) = ((riG b st k x s).1, f (riG b st k x s).2)
  | 0, _, _ => rfl
  | k + 1, x, s => by
    rw [riG_succ, riG_succ, sim_bl h, sim_ri h st k]
theorem sim_ys (h : ∀ s, d (f s) = ((b s).1, f (b s).2)) : ∀ (k : Nat) (s : σ), ysG d k (f s) = ((ysG b k s).1, f (ysG b k s).2)
  | 0, _ => rfl
  | k + 1, s => by
    rw [ysG_succ, ysG_succ, sim_bl h, sim_ys h k]
theorem sim_cuE (h : ∀ s, d (f s) = ((b s).1, f (b s).2)) (c : Nat) (xs ys : List Int) (s : σ) : cuE d c xs ys (f s) = ((cuE b c xs ys s).1, f (cuE b c xs ys s).2) := by
  unfold cuE
  simp only [sim_bl h, sim_ri h]
  split
  · rfl
  split
  · rfl
  split
  · rfl
  split
  · rfl
  split
  · rfl
  · rfl
theorem sim_cu (h : ∀ s, d (f s) = ((b s).1, f (b s).2)) (s : σ) : cuG d (f s) = ((cuG b s).1, f (cuG b s).2) := by
  unfold cuG cuD
  simp only [sim_bl h, sim_ri h, sim_ys h, sim_cuE h]
theorem sim_try (h : ∀ s, d (f s) = ((b s).1, f (b s).2)) : ∀ (t : Nat) (s : σ), tryG d t (f s) = tryG b t s
  | 0, _ => rfl
  | t + 1, s => by
    unfold tryG okG
    rw [sim_cu h, sim_try h t]
end
/-- The cursor's own source: the bytes, as long as there are some, turn what the generator g tells. -/
def byQ (g o : Nat → Nat) (bs : Nat → Nat) (len : Nat) (s : Nat × Nat) : Nat × (Nat × Nat) :=
  if s.1 < len then ((o (g s.2) + bs s.1) % 256, (s.1 + 1, g s.2)) else (o (g s.2), (s.1, g s.2))
def byS (bs : Nat → Nat) (len : Nat) (s : Nat × Nat) : Nat × (Nat × Nat) := byQ gnx outN bs len s
/-- No state goes back; as long as bytes are left some are taken. -/
structure GGoes (len : Nat) (s s' : Nat × Nat) : Prop where
  le : s.1 ≤ len → s'.1 ≤ len
  up : s.1 ≤ s'.1
  lt : s'.2 < 18446744073709551616 ∨ s' = s
theorem GGoes.refl (len : Nat) (s : Nat × Nat) : GGoes len s s := ⟨id, Nat.le_refl _, .inr rfl⟩
theorem GGoes.trans {len : Nat} {a b c : Nat × Nat} (h : GGoes len a b) (k : GGoes len b c) : GGoes len a c :=
  ⟨fun x => k.le (h.le x), Nat.le_trans h.up k.up, by
    rcases k.lt with x | x
    · exact .inl x
    · rw [x]; exact h.lt⟩
theorem goes_byQ {g : Nat → Nat} (hg : ∀ n, g n < 18446744073709551616) (o bs : Nat → Nat) (len : Nat) (s : Nat × Nat) : GGoes len s (byQ g o bs len s).2 := by
  unfold byQ
  split
  · exact ⟨fun _ => by show s.1 + 1 ≤ len; omega, by show s.1 ≤ s.1 + 1; omega, .inl (hg _)⟩
  · exact ⟨fun h => h, Nat.le_refl _, .inl (hg _)⟩
theorem more_byQ (g o bs : Nat → Nat) (len : Nat) (s : Nat × Nat) (h : s.1 < len) : s.1 < (byQ g o bs len s).2.1 := by
  unfold byQ
  rw [if_pos h]
  show s.1 < s.1 + 1
  omega
theorem end_byQ (g o bs : Nat → Nat) (len n : Nat) : byQ g o bs len (len, n) = (o (g n), (len, g n)) := by
  unfold byQ
  rw [if_neg (by show ¬ len < len; omega)]
theorem goes_by (bs : Nat → Nat) (len : Nat) (s : Nat × Nat) : GGoes len s (byS bs len s).2 := goes_byQ gnx_lt outN bs len s
theorem by_more (bs : Nat → Nat) (len : Nat) (s : Nat × Nat) (h : s.1 < len) : s.1 < (byS bs len s).2.1 := more_byQ gnx outN bs len s h
theorem goes_cu (bs : Nat → Nat) (len : Nat) (s : Nat × Nat) : GGoes len (blG (byS bs len) 6 s).2 (cuG (byS bs len) s).2 :=
  run_cu (b := byS bs len) (R := fun _ _ s t => GGoes len s t) (GGoes.refl len) (fun _ _ _ _ _ _ _ h k => h.trans k) (fun _ _ _ _ _ _ h _ _ => h) (goes_by bs len) s
/-- Whatever the cursor's state, a curve in order is drawn at last. -/
theorem try_cur (bs : Nat → Nat) (len : Nat) : ∀ (k : Nat) (s : Nat × Nat), len - s.1 ≤ k → s.1 ≤ len → s.2 < 18446744073709551616 → ∃ t, tryG (byS bs len) t s = true
  | 0, s, hk, hl, hn => by
    obtain ⟨t, ht⟩ := try_any s.2 hn
    have hs : s = (len, s.2) := by
      have : s.1 = len := by omega
      rw [← this]
    have hsim : ∀ n, byS bs len (len, n) = ((byN n).1, (len, (byN n).2)) := end_byQ gnx outN bs len
    refine ⟨t, ?_⟩
    rw [hs, sim_try (f := fun n => (len, n)) hsim]
    exact ht
  | k + 1, s, hk, hl, hn => by
    by_cases h : s.1 = len
    · exact try_cur bs len 0 s (by omega) hl hn
    · have g1 : GGoes len s (blG (byS bs len) 6 s).2 := by rw [bl_snd]; exact goes_by bs len s
      have g2 := goes_cu bs len s
      have m : s.1 < (blG (byS bs len) 6 s).2.1 := by rw [bl_snd]; exact by_more bs len s (by omega)
      have u := g2.up
      have v := g2.le (g1.le hl)
      have n2 : (cuG (byS bs len) s).2.2 < 18446744073709551616 := by
        rcases (g1.trans g2).lt with x | x
        · exact x
        · rw [x]; exact hn
      obtain ⟨t, ht⟩ := try_cur bs len k (cuG (byS bs len) s).2 (by omega) v n2
      exact ⟨t + 1, by rw [tryG_succ, ht, Bool.or_true]⟩

end Go.Proofs.Ytikhfacgoglcfaa

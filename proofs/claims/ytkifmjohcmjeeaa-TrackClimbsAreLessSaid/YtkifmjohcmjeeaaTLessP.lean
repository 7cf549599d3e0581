/- Climb's line is worth most, and with a greater threshold it is not longer: purely. -/
import Derived.Test.YtkifmjohcmjeeaaTClimbO
namespace Go.Proofs.Ytkifmjohcmjeeaa

/-- How far a height is from another one. -/
def farI (a b : Int) : Int := if a < b then b - a else a - b
/-- Turns, once a line goes on from a sample. -/
def leave (j : Nat) (k : Int) : Int := if j = 0 then k else k + 1
/-- A line from the first sample to one, its length and its turns. -/
inductive LineTo (z : Nat → Int) : Nat → Int → Int → Prop
  | start : LineTo z 0 0 0
  | go {j i : Nat} {T k : Int} : LineTo z j T k → j < i → LineTo z i (T + farI (z j) (z i)) (leave j k)
theorem line_zero {z : Nat → Int} {T k : Int} (h : LineTo z 0 T k) : T = 0 ∧ k = 0 := by
  cases h with
  | start => exact ⟨rfl, rfl⟩
  | go _ h => exact absurd h (by omega)
theorem line_inv {z : Nat → Int} {i : Nat} {T k : Int} (h : LineTo z (i + 1) T k) : ∃ j T' k', j ≤ i ∧ LineTo z j T' k' ∧ T = T' + farI (z j) (z (i + 1)) ∧ k = leave j k' := by
  cases h with
  | go h hj => exact ⟨_, _, _, by omega, h, rfl, rfl⟩

theorem go_far (z : Int) (l : Ln) : (l.go z).up + (l.go z).down = l.up + l.down + farI l.z z := by
  unfold Ln.go farI
  split
  · simp only; omega
  · simp only; omega
theorem go_wfar (th z : Int) (l : Ln) : (l.go z).worth th = l.worth th + farI l.z z := by
  have := go_far z l
  unfold Ln.worth
  rw [go_turns]; omega

structure Opt (th : Int) (z : Nat → Int) (i : Nat) (s : St) : Prop where
  lo : ∀ j T k, j ≤ i → LineTo z j T k → T - th * leave j k - z j ≤ s.low.worth th - s.low.z ∧ T - th * leave j k + z j ≤ s.high.worth th + s.high.z
  al : ∃ j T k, j ≤ i ∧ LineTo z j T k ∧ s.low.up + s.low.down = T ∧ s.low.turns = leave j k ∧ s.low.z = z j
  ah : ∃ j T k, j ≤ i ∧ LineTo z j T k ∧ s.high.up + s.high.down = T ∧ s.high.turns = leave j k ∧ s.high.z = z j
structure OptB (th : Int) (z : Nat → Int) (i : Nat) (b : Ln) : Prop where
  best : ∀ T k, LineTo z i T k → T - th * k ≤ b.worth th
  is : LineTo z i (b.up + b.down) b.turns
  z : b.z = z i
theorem opt_start (th : Int) (z : Nat → Int) : Opt th z 0 ⟨Ln.first (z 0), Ln.first (z 0), Ln.first (z 0)⟩ := by
  have e : leave 0 0 = 0 := rfl
  refine ⟨fun j T k hj h => ?_, ⟨0, 0, 0, Nat.le_refl _, .start, rfl, rfl, rfl⟩, ⟨0, 0, 0, Nat.le_refl _, .start, rfl, rfl, rfl⟩⟩
  obtain rfl : j = 0 := by omega
  obtain ⟨rfl, rfl⟩ := line_zero h
  rw [e]
  simp [Ln.first, Ln.worth]
theorem far_two (a b : Int) : farI a b = b - a ∨ farI a b = a - b := by unfold farI; split <;> simp
theorem far_ge (a b : Int) : b - a ≤ farI a b ∧ a - b ≤ farI a b := by unfold farI; split <;> omega
theorem opt_next {th : Int} {z : Nat → Int} {i : Nat} {s : St} (h : Opt th z i s) : Opt th z (i + 1) (s.next th (z (i + 1))) ∧ OptB th z (i + 1) (s.next th (z (i + 1))).best := by
  obtain ⟨lo, ⟨jl, Tl, kl, hjl, hl, el1, el2, el3⟩, ⟨jh, Th, kh, hjh, hh, eh1, eh2, eh3⟩⟩ := h
  have eb : (s.next th (z (i + 1))).best = betterL th 0 (s.low.go (z (i + 1))) (s.high.go (z (i + 1))) := rfl
  have elow : (s.next th (z (i + 1))).low = betterL th (-1) s.low (s.next th (z (i + 1))).best.more := rfl
  have ehigh : (s.next th (z (i + 1))).high = betterL th 1 s.high (s.next th (z (i + 1))).best.more := rfl
  have gb := better_ge th 0 (s.low.go (z (i + 1))) (s.high.go (z (i + 1)))
  rw [← eb, key_0, key_0, key_0, go_wfar, go_wfar] at gb
  have hz : (s.next th (z (i + 1))).best.z = z (i + 1) := by
    rw [eb]
    rcases better_or th 0 (s.low.go (z (i + 1))) (s.high.go (z (i + 1))) with e | e <;> rw [e] <;> exact go_z _ _
  have his : LineTo z (i + 1) ((s.next th (z (i + 1))).best.up + (s.next th (z (i + 1))).best.down) (s.next th (z (i + 1))).best.turns := by
    rw [eb]
    rcases better_or th 0 (s.low.go (z (i + 1))) (s.high.go (z (i + 1))) with e | e
    · rw [e, go_far, go_turns, el1, el2, el3]; exact .go hl (by omega)
    · rw [e, go_far, go_turns, eh1, eh2, eh3]; exact .go hh (by omega)
  generalize (s.next th (z (i + 1))).best = b at *
  have hB : OptB th z (i + 1) b := by
    refine ⟨fun T k h => ?_, his, hz⟩
    obtain ⟨j, T', k', hj, h', rfl, rfl⟩ := line_inv h
    obtain ⟨p1, p2⟩ := lo j T' k' hj h'
    have f1 := far_ge s.low.z (z (i + 1))
    have f2 := far_ge s.high.z (z (i + 1))
    rcases far_two (z j) (z (i + 1)) with e | e <;> rw [e] <;> omega
  refine ⟨⟨fun j T k hj h => ?_, ?_, ?_⟩, hB⟩
  · have g1 := (better_ge th (-1) s.low b.more)
    have g2 := (better_ge th 1 s.high b.more)
    rw [← elow, key_m1, key_m1, key_m1, more_worth, show b.more.z = b.z from rfl, hz] at g1
    rw [← ehigh, key_1, key_1, key_1, more_worth, show b.more.z = b.z from rfl, hz] at g2
    by_cases hji : j ≤ i
    · have := lo j T k hji h
      omega
    · obtain rfl : j = i + 1 := by omega
      have := hB.best T k h
      have e : th * leave (i + 1) k = th * k + th := by unfold leave; rw [if_neg (by omega), Int.mul_add]; omega
      rw [e]
      omega
  · rw [elow]
    rcases better_or th (-1) s.low b.more with e | e
    · rw [e]; exact ⟨jl, Tl, kl, by omega, hl, el1, el2, el3⟩
    · rw [e]; exact ⟨i + 1, _, _, Nat.le_refl _, his, rfl, by unfold leave; rw [if_neg (by omega)]; rfl, hz⟩
  · rw [ehigh]
    rcases better_or th 1 s.high b.more with e | e
    · rw [e]; exact ⟨jh, Th, kh, by omega, hh, eh1, eh2, eh3⟩
    · rw [e]; exact ⟨i + 1, _, _, Nat.le_refl _, his, rfl, by unfold leave; rw [if_neg (by omega)]; rfl, hz⟩

theorem opt_all {th : Int} {ss : List Smp} : ∀ (r : List Smp) (i : Nat) (s : St), r = ss.drop (i + 1) → i < ss.length → Opt th (fun k => (smpD ss k).z) i s → (r ≠ [] ∨ OptB th (fun k => (smpD ss k).z) i s.best) → OptB th (fun k => (smpD ss k).z) (ss.length - 1) (climbS th s r).best
  | [], i, s, hr, hi, _, hb => by
    have hl : ss.length ≤ i + 1 := by
      have := congrArg List.length hr; simp at this; omega
    have : ss.length - 1 = i := by omega
    rw [this, climbS]
    exact hb.resolve_left (fun h => h rfl)
  | x :: r, i, s, hr, hi, ho, _ => by
    have hlt : i + 1 < ss.length := by
      have := congrArg List.length hr; simp at this; omega
    rw [List.drop_eq_getElem_cons hlt] at hr
    injection hr with hx hr
    have hxz : x.z = (fun k => (smpD ss k).z) (i + 1) := by rw [hx]; simp only; rw [smpD_at hlt]
    rw [climbS, hxz]
    have := opt_next ho
    exact opt_all r (i + 1) _ hr hlt this.1 (.inr this.2)
/-- Climb's line is a line, and worth most. -/
theorem climb_opt {th : Int} {ss : List Smp} (h2 : 2 ≤ ss.length) {r : Ln} (hr : climbL th ss = r) : OptB th (fun k => (smpD ss k).z) (ss.length - 1) r := by
  cases ss with
  | nil => simp at h2
  | cons x t =>
    have ho := opt_start th (fun k => (smpD (x :: t) k).z)
    have hne : t ≠ [] := by intro e; rw [e] at h2; simp at h2
    have := opt_all t 0 _ rfl (by simp) ho (.inl hne)
    rw [← hr]; exact this
theorem climbS_ok {th z0 : Int} : ∀ (l : List Smp) (s : St), s.low.ok z0 → s.high.ok z0 → s.best.ok z0 → (climbS th s l).best.ok z0
  | [], s, _, _, hb => hb
  | x :: r, s, hl, hh, _ => by
    have hb := (best_ok (th := th) hl hh x.z).1
    rw [climbS]
    refine climbS_ok r _ ?_ ?_ hb
    · show (betterL th (-1) s.low (s.next th x.z).best.more).ok z0
      rcases better_or th (-1) s.low (s.next th x.z).best.more with e | e <;> rw [e]
      · exact hl
      · exact more_ok hb
    · show (betterL th 1 s.high (s.next th x.z).best.more).ok z0
      rcases better_or th 1 s.high (s.next th x.z).best.more with e | e <;> rw [e]
      · exact hh
      · exact more_ok hb
theorem climb_ok {th : Int} {ss : List Smp} (h1 : 1 ≤ ss.length) {r : Ln} (hr : climbL th ss = r) : r.ok (smpD ss 0).z := by
  cases ss with
  | nil => simp at h1
  | cons x t =>
    rw [← hr]
    have : (Ln.first x.z).ok (smpD (x :: t) 0).z := by
      show (Ln.first x.z).ok x.z
      simp [Ln.ok, Ln.first]
    exact climbS_ok t _ this this this
/-- A greater threshold: no longer line. -/
theorem climb_less {lo hi : Int} {ss : List Smp} (h2 : 2 ≤ ss.length) (h0 : 0 ≤ lo) (hle : lo ≤ hi) {x y : Ln} (hx : climbL lo ss = x) (hy : climbL hi ss = y) : y.up + y.down ≤ x.up + x.down := by
  have ox := climb_opt h2 hx
  have oy := climb_opt h2 hy
  have p := ox.best _ _ oy.is
  have q := oy.best _ _ ox.is
  unfold Ln.worth at p q
  by_cases e : lo = hi
  · subst e
    rw [hx] at hy; subst hy; exact Int.le_refl _
  · by_cases hk : y.turns ≤ x.turns
    · have := Int.mul_le_mul_of_nonneg_left hk h0
      omega
    · have hd : 0 ≤ hi - lo - 1 := by omega
      have hk2 : 0 ≤ y.turns - x.turns := by omega
      have m := Int.mul_nonneg hd hk2
      have e1 : (hi - lo - 1) * (y.turns - x.turns) = hi * y.turns - hi * x.turns - lo * y.turns + lo * x.turns - (y.turns - x.turns) := by
        rw [Int.sub_mul, Int.sub_mul, Int.mul_sub, Int.mul_sub, Int.one_mul]; omega
      rw [e1] at m
      omega

theorem line_bd {z : Nat → Int} (hz : ∀ k, -100000 ≤ z k ∧ z k ≤ 100000) {i : Nat} {T k : Int} (h : LineTo z i T k) : 0 ≤ T ∧ T ≤ i * 200000 ∧ 0 ≤ k ∧ leave i k ≤ i := by
  induction h with
  | start => simp [leave]
  | @go j i T k _ hj ih =>
    have a := hz j
    have b := hz i
    have hf : 0 ≤ farI (z j) (z i) ∧ farI (z j) (z i) ≤ 200000 := by unfold farI; split <;> omega
    have e : leave i (leave j k) = leave j k + 1 := by unfold leave; rw [if_neg (by omega)]
    rw [e]
    have hk : 0 ≤ leave j k := by unfold leave; split <;> omega
    omega
theorem far_max (a b : Int) : max (b - a) (a - b) = farI a b := by unfold farI; split <;> omega

/-- All that the law asks of Climb's two answers. -/
structure LessOk (z : Nat → Int) (m : Nat) (th xu xd yu yd yt : Int) : Prop where
  u : yu ≤ xu
  d : yd ≤ xd
  x : xu - xd = z m - z 0
  y : yu - yd = z m - z 0
  x0 : 0 ≤ xu
  x1 : xu ≤ 4000000000
  d0 : 0 ≤ xd
  d1 : xd ≤ 4000000000
  yu0 : 0 ≤ yu
  yd0 : 0 ≤ yd
  t0 : 0 ≤ yt
  t1 : yt ≤ 20000
  best : ∀ T k, LineTo z m T k → T - th * k ≤ yu + yd - th * yt
theorem less_ok {a : Act} {tl th : Int} {x y : Ln} (hx : climbE a tl = (x, 0)) (hy : climbE a th = (y, 0)) (hle : tl ≤ th) (h2 : 2 ≤ a.ss.length) : LessOk (fun k => (smpD a.ss k).z) (a.ss.length - 1) th x.up x.down y.up y.down y.turns := by
  obtain ⟨_, f2, f3, f4, f5, f6⟩ := climb_facts hx
  obtain ⟨_, g2, g3, g4, _, _⟩ := climb_facts hy
  have ox := climb_opt h2 f4
  have oy := climb_opt h2 g4
  have kx := climb_ok (by omega) f4
  have ky := climb_ok (by omega) g4
  have l := climb_less h2 f2 hle f4 g4
  have bx := line_bd f6 ox.is
  have by_ := line_bd f6 oy.is
  unfold Ln.ok at kx ky
  have ex : x.z = (smpD a.ss (a.ss.length - 1)).z := ox.z
  have ey : y.z = (smpD a.ss (a.ss.length - 1)).z := oy.z
  have hlv : y.turns ≤ leave (a.ss.length - 1) y.turns := by unfold leave; split <;> omega
  refine ⟨by omega, by omega, ?_, ?_, by omega, by omega, by omega, by omega, by omega, by omega, by omega, by omega, fun T k h => ?_⟩
  · show x.up - x.down = (smpD a.ss (a.ss.length - 1)).z - (smpD a.ss 0).z; omega
  · show y.up - y.down = (smpD a.ss (a.ss.length - 1)).z - (smpD a.ss 0).z; omega
  · have := oy.best T k h
    unfold Ln.worth at this; exact this

end Go.Proofs.Ytkifmjohcmjeeaa

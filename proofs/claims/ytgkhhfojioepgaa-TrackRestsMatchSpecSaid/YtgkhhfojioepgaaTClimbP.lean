/- Lines over heights, plainly: the ones that Climb keeps, and the ones that the reference keeps. No program. -/
import Derived.Test.YtgkhhfojioepgaaBaseA
namespace Go.Proofs.Ytgkhhfojioepgaa
set_option linter.unusedSimpArgs false
set_option linter.unusedVariables false

structure Ln where
  up : Int
  down : Int
  turns : Int
  z : Int
  deriving DecidableEq

def Ln.go (l : Ln) (z : Int) : Ln := if l.z < z then ⟨l.up + (z - l.z), l.down, l.turns, z⟩ else ⟨l.up, l.down + (l.z - z), l.turns, z⟩
def Ln.worth (th : Int) (l : Ln) : Int := l.up + l.down - th * l.turns
def Ln.more (l : Ln) : Ln := ⟨l.up, l.down, l.turns + 1, l.z⟩
def Ln.key (th how : Int) (l : Ln) : Int := l.worth th + how * l.z
def betterL (th how : Int) (l m : Ln) : Ln := if m.key th how < l.key th how ∨ l.key th how = m.key th how ∧ l.turns ≤ m.turns then l else m

structure St where
  best : Ln
  low : Ln
  high : Ln
def St.next (th : Int) (s : St) (z : Int) : St :=
  ⟨betterL th 0 (s.low.go z) (s.high.go z),
   betterL th (-1) s.low (betterL th 0 (s.low.go z) (s.high.go z)).more,
   betterL th 1 s.high (betterL th 0 (s.low.go z) (s.high.go z)).more⟩
def climbS (th : Int) : St → List Smp → St
  | s, [] => s
  | s, x :: r => climbS th (s.next th x.z) r
def Ln.first (z : Int) : Ln := ⟨0, 0, 0, z⟩
def climbL (th : Int) : List Smp → Ln
  | [] => Ln.first 0
  | x :: r => (climbS th ⟨Ln.first x.z, Ln.first x.z, Ln.first x.z⟩ r).best

/-- The reference's states: sums and turns. -/
structure Wt where
  sum : Int
  turns : Int
def better2 (a b : Wt) : Bool := decide (b.sum < a.sum ∨ a.sum = b.sum ∧ a.turns < b.turns)
def pickC2 (a b : Wt) : Wt := if better2 a b = true then a else b
structure RSt where
  rising : Wt
  falling : Wt
  last : Wt
def RSt.next (th : Int) (s : RSt) (z : Int) : RSt :=
  let last := pickC2 ⟨s.falling.sum - z, s.falling.turns⟩ ⟨s.rising.sum + z, s.rising.turns⟩
  ⟨pickC2 ⟨last.sum - th - z, last.turns + 1⟩ s.rising, pickC2 ⟨last.sum - th + z, last.turns + 1⟩ s.falling, last⟩
def climbR (th : Int) : RSt → List Smp → RSt
  | s, [] => s
  | s, x :: r => climbR th (s.next th x.z) r

/-- What a line has of its own: its numbers are at least 0; what it rose less what it fell is where it is less where it began. -/
def Ln.ok (z0 : Int) (l : Ln) : Prop := 0 ≤ l.up ∧ 0 ≤ l.down ∧ 0 ≤ l.turns ∧ l.up - l.down = l.z - z0

/-- The two states tell the same. -/
structure Same2 (th z0 : Int) (s : St) (r : RSt) : Prop where
  hr : r.rising = ⟨s.low.key th (-1), s.low.turns⟩
  hf : r.falling = ⟨s.high.key th 1, s.high.turns⟩
  lo : s.high.key th (-1) < s.low.key th (-1) ∨ s.high.key th (-1) = s.low.key th (-1) ∧ s.low.turns ≤ s.high.turns
  hi : s.low.key th 1 < s.high.key th 1 ∨ s.low.key th 1 = s.high.key th 1 ∧ s.high.turns ≤ s.low.turns
  ol : s.low.ok z0
  oh : s.high.ok z0

theorem go_ok {z0 z : Int} {l : Ln} (h : l.ok z0) : (l.go z).ok z0 := by
  unfold Ln.go Ln.ok at *
  split
  · simp only; omega
  · simp only; omega
theorem go_z (z : Int) (l : Ln) : (l.go z).z = z := by unfold Ln.go; split <;> rfl
theorem go_up {z : Int} {l : Ln} (h : l.z < z) : (l.go z) = ⟨l.up + (z - l.z), l.down, l.turns, z⟩ := by unfold Ln.go; rw [if_pos h]
theorem go_down {z : Int} {l : Ln} (h : ¬ l.z < z) : (l.go z) = ⟨l.up, l.down + (l.z - z), l.turns, z⟩ := by unfold Ln.go; rw [if_neg h]
theorem go_worth (th z : Int) (l : Ln) : (l.z < z → (l.go z).worth th = l.worth th + (z - l.z)) ∧ (¬ l.z < z → (l.go z).worth th = l.worth th + (l.z - z)) := by
  refine ⟨fun h => ?_, fun h => ?_⟩
  · rw [go_up h]; unfold Ln.worth; simp only; omega
  · rw [go_down h]; unfold Ln.worth; simp only; omega
theorem go_turns (z : Int) (l : Ln) : (l.go z).turns = l.turns := by
  unfold Ln.go; split <;> rfl
theorem more_worth (th : Int) (l : Ln) : l.more.worth th = l.worth th - th := by
  unfold Ln.more Ln.worth
  simp only
  rw [Int.mul_add]; omega
theorem more_ok {z0 : Int} {l : Ln} (h : l.ok z0) : l.more.ok z0 := by
  unfold Ln.more Ln.ok at *; simp only; omega
theorem better_or (th how : Int) (l m : Ln) : betterL th how l m = l ∨ betterL th how l m = m := by
  unfold betterL; split <;> simp
theorem better_ge (th how : Int) (l m : Ln) : (l.key th how < (betterL th how l m).key th how ∨ l.key th how = (betterL th how l m).key th how ∧ (betterL th how l m).turns ≤ l.turns) ∧
    (m.key th how < (betterL th how l m).key th how ∨ m.key th how = (betterL th how l m).key th how ∧ (betterL th how l m).turns ≤ m.turns) := by
  by_cases h : m.key th how < l.key th how ∨ l.key th how = m.key th how ∧ l.turns ≤ m.turns
  · have e : betterL th how l m = l := if_pos h
    rw [e]; omega
  · have e : betterL th how l m = m := if_neg h
    rw [e]; omega
theorem pick_better (th how : Int) (l m : Ln) : pickC2 ⟨m.key th how, m.turns⟩ ⟨l.key th how, l.turns⟩ = ⟨(betterL th how l m).key th how, (betterL th how l m).turns⟩ := by
  by_cases h : m.key th how < l.key th how ∨ l.key th how = m.key th how ∧ l.turns ≤ m.turns
  · have e : betterL th how l m = l := if_pos h
    rw [e]; unfold pickC2 better2
    rw [if_neg (by simp only [decide_eq_true_eq]; omega)]
  · have e : betterL th how l m = m := if_neg h
    rw [e]; unfold pickC2 better2
    rw [if_pos (by simp only [decide_eq_true_eq]; omega)]

theorem last_eq {a b c d zl zh z x y : Int} (hx : (zl < z → x = a + (z - zl)) ∧ (¬ zl < z → x = a + (zl - z))) (hy : (zh < z → y = b + (z - zh)) ∧ (¬ zh < z → y = b + (zh - z)))
    (lo : b - zh < a - zl ∨ b - zh = a - zl ∧ c ≤ d) (hi : a + zl < b + zh ∨ a + zl = b + zh ∧ d ≤ c) :
    pickC2 ⟨b + zh - z, d⟩ ⟨a - zl + z, c⟩ = if y < x ∨ x = y ∧ c ≤ d then ⟨x, c⟩ else ⟨y, d⟩ := by
  unfold pickC2 better2
  simp only [decide_eq_true_eq]
  by_cases c1 : zl < z <;> by_cases c2 : zh < z
  · have e1 := hx.1 c1; have e2 := hy.1 c2; clear hx hy; subst e1 e2
    split <;> split <;> rw [Wt.mk.injEq] <;> constructor <;> omega
  · have e1 := hx.1 c1; have e2 := hy.2 c2; clear hx hy; subst e1 e2
    split <;> split <;> rw [Wt.mk.injEq] <;> constructor <;> omega
  · have e1 := hx.2 c1; have e2 := hy.1 c2; clear hx hy; subst e1 e2
    split <;> split <;> rw [Wt.mk.injEq] <;> constructor <;> omega
  · have e1 := hx.2 c1; have e2 := hy.2 c2; clear hx hy; subst e1 e2
    split <;> split <;> rw [Wt.mk.injEq] <;> constructor <;> omega

theorem key_m1 (th : Int) (l : Ln) : l.key th (-1) = l.worth th - l.z := by unfold Ln.key; omega
theorem key_1 (th : Int) (l : Ln) : l.key th 1 = l.worth th + l.z := by unfold Ln.key; omega
theorem key_0 (th : Int) (l : Ln) : l.key th 0 = l.worth th := by unfold Ln.key; omega

theorem next_last {th z0 : Int} {s : St} {r : RSt} (h : Same2 th z0 s r) (z : Int) : (r.next th z).last = ⟨(s.next th z).best.worth th, (s.next th z).best.turns⟩ := by
  have e : (r.next th z).last = pickC2 ⟨r.falling.sum - z, r.falling.turns⟩ ⟨r.rising.sum + z, r.rising.turns⟩ := rfl
  have e2 : (s.next th z).best = betterL th 0 (s.low.go z) (s.high.go z) := rfl
  have lo := h.lo; have hi := h.hi
  rw [key_m1, key_m1] at lo
  rw [key_1, key_1] at hi
  have q := last_eq (go_worth th z s.low) (go_worth th z s.high) lo hi
  rw [e, e2, h.hr, h.hf, key_m1, key_1, q]
  by_cases c : (s.high.go z).key th 0 < (s.low.go z).key th 0 ∨ (s.low.go z).key th 0 = (s.high.go z).key th 0 ∧ (s.low.go z).turns ≤ (s.high.go z).turns
  · have eb : betterL th 0 (s.low.go z) (s.high.go z) = s.low.go z := if_pos c
    rw [eb, if_pos (by simpa only [key_0, go_turns] using c), go_turns]
  · have eb : betterL th 0 (s.low.go z) (s.high.go z) = s.high.go z := if_neg c
    rw [eb, if_neg (by simpa only [key_0, go_turns] using c), go_turns]

theorem best_ok {th z0 : Int} {s : St} (h : s.low.ok z0) (h' : s.high.ok z0) (z : Int) : (s.next th z).best.ok z0 ∧ (s.next th z).best.z = z := by
  have e2 : (s.next th z).best = betterL th 0 (s.low.go z) (s.high.go z) := rfl
  rw [e2]
  rcases better_or th 0 (s.low.go z) (s.high.go z) with e | e
  · rw [e]; exact ⟨go_ok h, go_z _ _⟩
  · rw [e]; exact ⟨go_ok h', go_z _ _⟩

theorem same_next {th z0 : Int} {s : St} {r : RSt} (h : Same2 th z0 s r) (z : Int) : Same2 th z0 (s.next th z) (r.next th z) := by
  have hl := next_last h z
  have hb := (best_ok (th := th) h.ol h.oh z).1
  have mk : ∀ how, (s.next th z).best.more.key th how = (s.next th z).best.worth th - th + how * z := fun how => by
    unfold Ln.key; rw [more_worth]
    have : (s.next th z).best.more.z = z := (best_ok (th := th) h.ol h.oh z).2
    rw [this]
  have mt : (s.next th z).best.more.turns = (s.next th z).best.turns + 1 := rfl
  have e1 : (r.next th z).rising = pickC2 ⟨(r.next th z).last.sum - th - z, (r.next th z).last.turns + 1⟩ r.rising := rfl
  have e2 : (r.next th z).falling = pickC2 ⟨(r.next th z).last.sum - th + z, (r.next th z).last.turns + 1⟩ r.falling := rfl
  have e3 : (s.next th z).low = betterL th (-1) s.low (s.next th z).best.more := rfl
  have e4 : (s.next th z).high = betterL th 1 s.high (s.next th z).best.more := rfl
  have g1 := better_ge th (-1) s.low (s.next th z).best.more
  have g2 := better_ge th 1 s.high (s.next th z).best.more
  have o1 := better_or th (-1) s.low (s.next th z).best.more
  have o2 := better_or th 1 s.high (s.next th z).best.more
  have p1 := pick_better th (-1) s.low (s.next th z).best.more
  have p2 := pick_better th 1 s.high (s.next th z).best.more
  rw [← e3] at g1 o1 p1
  rw [← e4] at g2 o2 p2
  have lo := h.lo; have hi := h.hi
  refine ⟨?_, ?_, ?_, ?_, ?_, ?_⟩
  · rw [← p1, e1, hl, h.hr, mk, mt]
    dsimp only
    congr 2; omega
  · rw [← p2, e2, hl, h.hf, mk, mt]
    dsimp only
    congr 2; omega
  · rcases o2 with e | e
    · rw [e]; omega
    · rw [e]; exact g1.2
  · rcases o1 with e | e
    · rw [e]; omega
    · rw [e]; exact g2.2
  · rcases o1 with e | e
    · rw [e]; exact h.ol
    · rw [e]; exact more_ok hb
  · rcases o2 with e | e
    · rw [e]; exact h.oh
    · rw [e]; exact more_ok hb

/-- How great a line's numbers can be behind so many rounds. -/
structure Ln.bd (k : Int) (l : Ln) : Prop where
  u0 : 0 ≤ l.up
  u1 : l.up ≤ k * 200000
  d0 : 0 ≤ l.down
  d1 : l.down ≤ k * 200000
  t0 : 0 ≤ l.turns
  t1 : l.turns ≤ k
  z0 : -100000 ≤ l.z
  z1 : l.z ≤ 100000
theorem bd_go {k : Int} {l : Ln} (h : l.bd k) {z : Int} (z0 : -100000 ≤ z) (z1 : z ≤ 100000) : (l.go z).bd (k + 1) ∧ (l.go z).turns ≤ k := by
  obtain ⟨a, b, c, d, e, f, g, i⟩ := h
  unfold Ln.go
  split
  · exact ⟨⟨by simp only; omega, by simp only; omega, by simp only; omega, by simp only; omega, e, by simp only; omega, z0, z1⟩, f⟩
  · exact ⟨⟨by simp only; omega, by simp only; omega, by simp only; omega, by simp only; omega, e, by simp only; omega, z0, z1⟩, f⟩
theorem bd_more {k : Int} {l : Ln} (h : l.bd (k + 1)) (ht : l.turns ≤ k) : l.more.bd (k + 1) := by
  obtain ⟨a, b, c, d, e, f, g, i⟩ := h
  exact ⟨a, b, c, d, by unfold Ln.more; simp only; omega, by unfold Ln.more; simp only; omega, g, i⟩
theorem bd_succ {k : Int} {l : Ln} (h : l.bd k) : l.bd (k + 1) := by
  obtain ⟨a, b, c, d, e, f, g, i⟩ := h
  exact ⟨a, by omega, c, by omega, e, by omega, g, i⟩
theorem bd_better {k th how : Int} {l m : Ln} (h : l.bd k) (h' : m.bd k) : (betterL th how l m).bd k := by
  rcases better_or th how l m with e | e
  · rw [e]; exact h
  · rw [e]; exact h'
theorem bd_next {k th : Int} {s : St} (hl : s.low.bd k) (hh : s.high.bd k) {z : Int} (z0 : -100000 ≤ z) (z1 : z ≤ 100000) :
    (s.low.go z).bd (k + 1) ∧ (s.high.go z).bd (k + 1) ∧ (s.next th z).best.bd (k + 1) ∧ (s.next th z).best.more.bd (k + 1) ∧ (s.next th z).low.bd (k + 1) ∧ (s.next th z).high.bd (k + 1) := by
  obtain ⟨a, ta⟩ := bd_go hl z0 z1
  obtain ⟨b, tb⟩ := bd_go hh z0 z1
  have hb : (s.next th z).best.bd (k + 1) := bd_better a b
  have ht : (s.next th z).best.turns ≤ k := by
    have e2 : (s.next th z).best = betterL th 0 (s.low.go z) (s.high.go z) := rfl
    rw [e2]
    rcases better_or th 0 (s.low.go z) (s.high.go z) with e | e
    · rw [e]; exact ta
    · rw [e]; exact tb
  have hm := bd_more hb ht
  exact ⟨a, b, hb, hm, bd_better (bd_succ hl) hm, bd_better (bd_succ hh) hm⟩

end Go.Proofs.Ytgkhhfojioepgaa

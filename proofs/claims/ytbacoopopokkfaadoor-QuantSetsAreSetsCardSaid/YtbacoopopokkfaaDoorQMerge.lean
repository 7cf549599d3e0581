
/- The mathematics of the stable sort: swaps, rotations, and merges of neighbouring runs, said of functions of places. No program. -/
namespace Go.Proofs.YtbacoopopokkfaaDoor
set_option linter.unusedSimpArgs false
set_option linter.unusedVariables false

/-- Two places swapped. -/
def swp (f : Nat → Nat) (i j : Nat) : Nat → Nat := fun k => if k = i then f j else if k = j then f i else f k
/-- Two ranges of n places swapped. -/
def swr (f : Nat → Nat) (a b n : Nat) : Nat → Nat := fun k => if a ≤ k ∧ k < a + n then f (k - a + b) else if b ≤ k ∧ k < b + n then f (k - b + a) else f k
/-- The places from m to b come ahead of those from a to m. -/
def rot (f : Nat → Nat) (a m b : Nat) : Nat → Nat := fun k => if a ≤ k ∧ k < a + (b - m) then f (k + (m - a)) else if a + (b - m) ≤ k ∧ k < b then f (k - (b - m)) else f k

theorem swr_zero (f : Nat → Nat) (a b : Nat) : swr f a b 0 = f := by
  funext k; unfold swr; rw [if_neg (by omega), if_neg (by omega)]
theorem swr_succ (f : Nat → Nat) (a b n : Nat) (h : a + n < b) : swp (swr f a b n) (a + n) (b + n) = swr f a b (n + 1) := by
  funext k; unfold swp swr
  repeat' split
  all_goals first | rfl | omega | (congr 1; omega)

theorem rot_left (f : Nat → Nat) (a b : Nat) : rot f a a b = f := by
  funext k; unfold rot
  repeat' split
  all_goals first | rfl | omega | (congr 1; omega)
theorem rot_right (f : Nat → Nat) (a b : Nat) : rot f a b b = f := by
  funext k; unfold rot
  repeat' split
  all_goals first | rfl | omega | (congr 1; omega)
theorem rot_gt (f : Nat → Nat) (m i j : Nat) (h1 : i ≤ m) (h2 : j < i) : rot f (m - i) m (m + j) = rot (swr f (m - i) m j) (m - (i - j)) m (m + j) := by
  funext k; unfold rot swr
  repeat' split
  all_goals first | rfl | omega | (congr 1; omega)
theorem rot_lt (f : Nat → Nat) (m i j : Nat) (h1 : i ≤ m) (h2 : i < j) : rot f (m - i) m (m + j) = rot (swr f (m - i) (m + j - i) i) (m - i) m (m + (j - i)) := by
  funext k; unfold rot swr
  repeat' split
  all_goals first | rfl | omega | (congr 1; omega)
theorem rot_eq (f : Nat → Nat) (m i : Nat) (h1 : i ≤ m) : rot f (m - i) m (m + i) = swr f (m - i) m i := by
  funext k; unfold rot swr
  repeat' split
  all_goals first | rfl | omega | (congr 1; omega)
theorem rot_up (f : Nat → Nat) (a k : Nat) (h : a ≤ k) : swp (rot f a (a + 1) (k + 1)) k (k + 1) = rot f a (a + 1) (k + 2) := by
  funext x; unfold swp rot
  repeat' split
  all_goals first | rfl | omega | (congr 1; omega)
theorem rot_down (f : Nat → Nat) (k m : Nat) (h : k < m) : swp (rot f (k + 1) m (m + 1)) (k + 1) k = rot f k m (m + 1) := by
  funext x; unfold swp rot
  repeat' split
  all_goals first | rfl | omega | (congr 1; omega)

/-- Greater keys first, of equal ones the smaller number. -/
def Bef (key : Nat → Int) (x y : Nat) : Prop := key y < key x ∨ (key x = key y ∧ x < y)

theorem Bef.trans {key : Nat → Int} {x y z : Nat} (h : Bef key x y) (h' : Bef key y z) : Bef key x z := by
  unfold Bef at *; omega
theorem bef_iff {key : Nat → Int} {x y : Nat} (h : x < y) : Bef key y x ↔ key x < key y := by unfold Bef; omega
theorem bef_not {key : Nat → Int} {x y : Nat} (h : x < y) : Bef key x y ↔ ¬ key x < key y := by unfold Bef; omega

def Srt (key : Nat → Int) (f : Nat → Nat) (a b : Nat) : Prop := ∀ i j, a ≤ i → i < j → j < b → Bef key (f i) (f j)

/-- g holds in [a, b) what f held there, each once, and elsewhere what f holds. -/
structure Mv (a b : Nat) (f g : Nat → Nat) : Prop where
  out : ∀ k, (k < a ∨ b ≤ k) → g k = f k
  into : ∀ k, a ≤ k → k < b → ∃ k', a ≤ k' ∧ k' < b ∧ g k = f k'
  inj : (∀ i j, f i = f j → i = j) → ∀ i j, g i = g j → i = j

theorem Mv.refl (a b : Nat) (f : Nat → Nat) : Mv a b f f := ⟨fun _ _ => rfl, fun k h1 h2 => ⟨k, h1, h2, rfl⟩, fun h => h⟩
theorem Mv.trans {a b : Nat} {f g h : Nat → Nat} (h1 : Mv a b f g) (h2 : Mv a b g h) : Mv a b f h := by
  refine ⟨fun k hk => (h2.out k hk).trans (h1.out k hk), fun k l u => ?_, fun hi => h2.inj (h1.inj hi)⟩
  obtain ⟨k1, l1, u1, e1⟩ := h2.into k l u
  obtain ⟨k2, l2, u2, e2⟩ := h1.into k1 l1 u1
  exact ⟨k2, l2, u2, e1.trans e2⟩
theorem Mv.mono {a b a' b' : Nat} {f g : Nat → Nat} (h : Mv a b f g) (h1 : a' ≤ a) (h2 : b ≤ b') : Mv a' b' f g := by
  refine ⟨fun k hk => h.out k (by omega), fun k l u => ?_, h.inj⟩
  by_cases hk : a ≤ k ∧ k < b
  · obtain ⟨k1, l1, u1, e1⟩ := h.into k hk.1 hk.2
    exact ⟨k1, by omega, by omega, e1⟩
  · exact ⟨k, l, u, h.out k (by omega)⟩
theorem Mv.rot (f : Nat → Nat) (a m b : Nat) (h1 : a ≤ m) (h2 : m ≤ b) : Mv a b f (rot f a m b) := by
  refine ⟨fun k hk => ?_, fun k l u => ?_, fun hi i j h => ?_⟩
  · unfold Go.Proofs.YtbacoopopokkfaaDoor.rot; rw [if_neg (by omega), if_neg (by omega)]
  · unfold Go.Proofs.YtbacoopopokkfaaDoor.rot
    by_cases hk : k < a + (b - m)
    · rw [if_pos ⟨l, hk⟩]; exact ⟨_, by omega, by omega, rfl⟩
    · rw [if_neg (by omega), if_pos (by omega)]; exact ⟨_, by omega, by omega, rfl⟩
  · unfold Go.Proofs.YtbacoopopokkfaaDoor.rot at h
    by_cases c1 : a ≤ i ∧ i < a + (b - m)
    · rw [if_pos c1] at h
      by_cases d1 : a ≤ j ∧ j < a + (b - m)
      · rw [if_pos d1] at h; have := hi _ _ h; omega
      · rw [if_neg d1] at h
        by_cases d2 : a + (b - m) ≤ j ∧ j < b
        · rw [if_pos d2] at h; have := hi _ _ h; omega
        · rw [if_neg d2] at h; have := hi _ _ h; omega
    · rw [if_neg c1] at h
      by_cases c2 : a + (b - m) ≤ i ∧ i < b
      · rw [if_pos c2] at h
        by_cases d1 : a ≤ j ∧ j < a + (b - m)
        · rw [if_pos d1] at h; have := hi _ _ h; omega
        · rw [if_neg d1] at h
          by_cases d2 : a + (b - m) ≤ j ∧ j < b
          · rw [if_pos d2] at h; have := hi _ _ h; omega
          · rw [if_neg d2] at h; have := hi _ _ h; omega
      · rw [if_neg c2] at h
        by_cases d1 : a ≤ j ∧ j < a + (b - m)
        · rw [if_pos d1] at h; have := hi _ _ h; omega
        · rw [if_neg d1] at h
          by_cases d2 : a + (b - m) ≤ j ∧ j < b
          · rw [if_pos d2] at h; have := hi _ _ h; omega
          · rw [if_neg d2] at h; exact hi _ _ h

theorem rot_lo {f : Nat → Nat} {a m b k : Nat} (h : k < a) (_ : a ≤ m) (_ : m ≤ b) : rot f a m b k = f k := by
  unfold rot; rw [if_neg (by omega), if_neg (by omega)]
theorem rot_1 {f : Nat → Nat} {a m b k : Nat} (h : a ≤ k) (h' : k < a + (b - m)) : rot f a m b k = f (k + (m - a)) := by
  unfold rot; rw [if_pos ⟨h, h'⟩]
theorem rot_2 {f : Nat → Nat} {a m b k : Nat} (h : a + (b - m) ≤ k) (h' : k < b) : rot f a m b k = f (k - (b - m)) := by
  unfold rot; rw [if_neg (by omega), if_pos ⟨h, h'⟩]
theorem rot_hi {f : Nat → Nat} {a m b k : Nat} (h : b ≤ k) (_ : a ≤ m) (_ : m ≤ b) : rot f a m b k = f k := by
  unfold rot; rw [if_neg (by omega), if_neg (by omega)]

/-- Runs that are to be merged: both in order, and each number on the left is smaller than each on the right. -/
structure Runs (key : Nat → Int) (f : Nat → Nat) (a m b : Nat) : Prop where
  am : a ≤ m
  mb : m ≤ b
  left : Srt key f a m
  right : Srt key f m b
  cross : ∀ i j, a ≤ i → i < m → m ≤ j → j < b → f i < f j

theorem Srt.le {key : Nat → Int} {f : Nat → Nat} {a b i j : Nat} (h : Srt key f a b) (h1 : a ≤ i) (h2 : i ≤ j) (h3 : j < b) {z : Nat} (hz : Bef key (f j) z) : Bef key (f i) z := by
  rcases Nat.lt_or_ge i j with h | h'
  · exact (h_1 h).trans hz
  · rw [show i = j by omega]; exact hz
where h_1 (q : i < j) := h i j h1 q h3
theorem Srt.ge {key : Nat → Int} {f : Nat → Nat} {a b i j : Nat} (h : Srt key f a b) (h1 : a ≤ i) (h2 : i ≤ j) (h3 : j < b) {z : Nat} (hz : Bef key z (f i)) : Bef key z (f j) := by
  rcases Nat.lt_or_ge i j with h | h'
  · exact hz.trans (h_1 h)
  · rw [show j = i by omega]; exact hz
where h_1 (q : i < j) := h i j h1 q h3

/-- One on the left: it moves to its place. -/
theorem merge_left {key : Nat → Int} {f : Nat → Nat} {a b i : Nat} (h : Runs key f a (a + 1) b) (h1 : a + 1 ≤ i) (h2 : i ≤ b)
    (hl : i = a + 1 ∨ Bef key (f (i - 1)) (f a)) (hr : i = b ∨ Bef key (f a) (f i)) : Srt key (rot f a (a + 1) i) a b := by
  intro x y hx hxy hy
  have e1 : ∀ k, a ≤ k → k < i - 1 → rot f a (a + 1) i k = f (k + 1) := fun k q1 q2 => by rw [rot_1 q1 (by omega)]; congr 1; omega
  have e2 : rot f a (a + 1) i (i - 1) = f a := by rw [rot_2 (by omega) (by omega)]; congr 1; omega
  have e3 : ∀ k, i ≤ k → rot f a (a + 1) i k = f k := fun k q => rot_hi q (by omega) (by omega)
  rcases (show x < i - 1 ∨ x = i - 1 ∨ i ≤ x by omega) with c | c | c
  · rw [e1 x hx c]
    have hxa : Bef key (f (x + 1)) (f a) := by
      rcases hl with q | q
      · omega
      · exact h.right.le (by omega) (by omega) (by omega) q
    rcases (show y < i - 1 ∨ y = i - 1 ∨ i ≤ y by omega) with d | d | d
    · rw [e1 y (by omega) d]; exact h.right _ _ (by omega) (by omega) (by omega)
    · rw [d, e2]; exact hxa
    · rw [e3 y d]; exact h.right _ _ (by omega) (by omega) (by omega)
  · rw [c, e2, e3 y (by omega)]
    rcases hr with q | q
    · omega
    · exact h.right.ge (by omega) (by omega) (by omega) q
  · rw [e3 x c, e3 y (by omega)]; exact h.right _ _ (by omega) (by omega) (by omega)

/-- One on the right: it moves to its place. -/
theorem merge_right {key : Nat → Int} {f : Nat → Nat} {a m i : Nat} (h : Runs key f a m (m + 1)) (h1 : a ≤ i) (h2 : i ≤ m)
    (hl : i = a ∨ Bef key (f (i - 1)) (f m)) (hr : i = m ∨ Bef key (f m) (f i)) : Srt key (rot f i m (m + 1)) a (m + 1) := by
  intro x y hx hxy hy
  have e0 : ∀ k, k < i → rot f i m (m + 1) k = f k := fun k q => rot_lo q (by omega) (by omega)
  have e1 : rot f i m (m + 1) i = f m := by rw [rot_1 (by omega) (by omega)]; congr 1; omega
  have e2 : ∀ k, i < k → k < m + 1 → rot f i m (m + 1) k = f (k - 1) := fun k q1 q2 => by rw [rot_2 (by omega) q2]; congr 1; omega
  rcases (show x < i ∨ x = i ∨ i < x by omega) with c | c | c
  · rw [e0 x c]
    have hxa : Bef key (f x) (f m) := by
      rcases hl with q | q
      · omega
      · exact h.left.le (by omega) (by omega) (by omega) q
    rcases (show y < i ∨ y = i ∨ i < y by omega) with d | d | d
    · rw [e0 y d]; exact h.left _ _ (by omega) (by omega) (by omega)
    · rw [d, e1]; exact hxa
    · rw [e2 y d hy]; exact h.left _ _ (by omega) (by omega) (by omega)
  · rw [c, e1, e2 y (by omega) hy]
    rcases hr with q | q
    · omega
    · exact h.left.ge (by omega) (by omega) (by omega) q
  · rw [e2 x c (by omega), e2 y (by omega) hy]; exact h.left _ _ (by omega) (by omega) (by omega)

/-- What the search of symMerge finds. -/
structure Found (key : Nat → Int) (f : Nat → Nat) (a m b start : Nat) : Prop where
  lo : a ≤ start
  lm : start ≤ m
  mid : start ≤ (a + b) / 2
  hi : (a + b) / 2 + m ≤ start + b
  below : start = a ∨ start + b = (a + b) / 2 + m ∨ Bef key (f (start - 1)) (f ((a + b) / 2 + m - start))
  above : start = m ∨ start = (a + b) / 2 ∨ Bef key (f ((a + b) / 2 + m - 1 - start)) (f start)

section
variable {key : Nat → Int} {f : Nat → Nat} {a m b s : Nat}

theorem half_low (h : Runs key f a m b) (hf : Found key f a m b s) : Runs key (rot f s m ((a + b) / 2 + m - s)) a s ((a + b) / 2) := by
  have := hf.lo; have := hf.lm; have := hf.mid; have := hf.hi; have := h.am; have := h.mb
  refine ⟨by omega, by omega, fun i j h1 h2 h3 => ?_, fun i j h1 h2 h3 => ?_, fun i j h1 h2 h3 h4 => ?_⟩
  · rw [rot_lo (by omega) (by omega) (by omega), rot_lo (by omega) (by omega) (by omega)]; exact h.left _ _ (by omega) (by omega) (by omega)
  · rw [rot_1 (by omega) (by omega), rot_1 (by omega) (by omega)]; exact h.right _ _ (by omega) (by omega) (by omega)
  · rw [rot_lo (by omega) (by omega) (by omega), rot_1 (by omega) (by omega)]; exact h.cross _ _ (by omega) (by omega) (by omega) (by omega)
theorem half_high (h : Runs key f a m b) (hf : Found key f a m b s) : Runs key (rot f s m ((a + b) / 2 + m - s)) ((a + b) / 2) ((a + b) / 2 + m - s) b := by
  have := hf.lo; have := hf.lm; have := hf.mid; have := hf.hi; have := h.am; have := h.mb
  refine ⟨by omega, by omega, fun i j h1 h2 h3 => ?_, fun i j h1 h2 h3 => ?_, fun i j h1 h2 h3 h4 => ?_⟩
  · rw [rot_2 (by omega) (by omega), rot_2 (by omega) (by omega)]; exact h.left _ _ (by omega) (by omega) (by omega)
  · rw [rot_hi (by omega) (by omega) (by omega), rot_hi (by omega) (by omega) (by omega)]; exact h.right _ _ (by omega) (by omega) (by omega)
  · rw [rot_2 (by omega) (by omega), rot_hi (by omega) (by omega) (by omega)]; exact h.cross _ _ (by omega) (by omega) (by omega) (by omega)
theorem halves (h : Runs key f a m b) (hf : Found key f a m b s) {i j : Nat} (h1 : a ≤ i) (h2 : i < (a + b) / 2) (h3 : (a + b) / 2 ≤ j) (h4 : j < b) :
    Bef key (rot f s m ((a + b) / 2 + m - s) i) (rot f s m ((a + b) / 2 + m - s) j) := by
  have := hf.lo; have := hf.lm; have := hf.mid; have := hf.hi; have := h.am; have := h.mb
  by_cases ci : i < s
  · rw [rot_lo ci (by omega) (by omega)]
    by_cases cj : j < (a + b) / 2 + m - s
    · rw [rot_2 (by omega) cj]; exact h.left _ _ (by omega) (by omega) (by omega)
    · rw [rot_hi (by omega) (by omega) (by omega)]
      rcases hf.below with q | q | q
      · omega
      · omega
      · exact h.left.le (by omega) (show i ≤ s - 1 by omega) (by omega) (h.right.ge (by omega) (show (a + b) / 2 + m - s ≤ j by omega) (by omega) q)
  · rw [rot_1 (by omega) (by omega)]
    by_cases cj : j < (a + b) / 2 + m - s
    · rw [rot_2 (by omega) cj]
      rcases hf.above with q | q | q
      · omega
      · omega
      · exact h.right.le (by omega) (show i + (m - s) ≤ (a + b) / 2 + m - 1 - s by omega) (by omega) (h.left.ge (by omega) (show s ≤ j - ((a + b) / 2 + m - s - m) by omega) (by omega) q)
    · rw [rot_hi (by omega) (by omega) (by omega)]; exact h.right _ _ (by omega) (by omega) (by omega)
theorem Runs.sorted (h : Runs key f a m b) (hq : a = m ∨ m = b) : Srt key f a b := by
  rcases hq with rfl | rfl
  · exact h.right
  · exact h.left
end

/-- Two halves in order, all of the first ahead of all of the second. -/
theorem join_halves {key : Nat → Int} {g0 g : Nat → Nat} {a c b : Nat} (h0 : ∀ i j, a ≤ i → i < c → c ≤ j → j < b → Bef key (g0 i) (g0 j))
    {g1 : Nat → Nat} (m1 : Mv a c g0 g1) (s1 : Srt key g1 a c) (m2 : Mv c b g1 g) (s2 : Srt key g c b) : Srt key g a b := by
  intro x y hx hxy hy
  by_cases cx : x < c
  · rw [m2.out x (by omega)]
    by_cases cy : y < c
    · rw [m2.out y (by omega)]; exact s1 x y hx hxy cy
    · obtain ⟨x', p1, p2, e1⟩ := m1.into x hx cx
      obtain ⟨y', q1, q2, e2⟩ := m2.into y (by omega) hy
      rw [e1, e2, m1.out y' (by omega)]
      exact h0 _ _ p1 p2 q1 q2
  · exact s2 x y (by omega) hxy hy

/-- A block that is in order, and holds its own numbers. -/
structure Blk (key : Nat → Int) (f : Nat → Nat) (a b : Nat) : Prop where
  srt : Srt key f a b
  own : ∀ k, a ≤ k → k < b → a ≤ f k ∧ f k < b

theorem Blk.runs {key : Nat → Int} {f : Nat → Nat} {a m b : Nat} (h1 : Blk key f a m) (h2 : Blk key f m b) (ham : a ≤ m) (hmb : m ≤ b) : Runs key f a m b :=
  ⟨ham, hmb, h1.srt, h2.srt, fun i j q1 q2 q3 q4 => by have := h1.own i q1 q2; have := h2.own j q3 q4; omega⟩
theorem Blk.merged {key : Nat → Int} {f g : Nat → Nat} {a m b : Nat} (h1 : Blk key f a m) (h2 : Blk key f m b) (ham : a ≤ m) (hmb : m ≤ b) (hm : Mv a b f g) (hs : Srt key g a b) : Blk key g a b := by
  refine ⟨hs, fun k l u => ?_⟩
  obtain ⟨k', l', u', e⟩ := hm.into k l u
  rw [e]
  by_cases c : k' < m
  · have := h1.own k' l' c; omega
  · have := h2.own k' (by omega) u'; omega
theorem Blk.keep {key : Nat → Int} {f g : Nat → Nat} {a b c d : Nat} (h : Blk key f a b) (hm : Mv c d f g) (hd : b ≤ c ∨ d ≤ a) : Blk key g a b := by
  have e : ∀ k, a ≤ k → k < b → g k = f k := fun k h1 h2 => hm.out k (by omega)
  refine ⟨fun i j h1 h2 h3 => ?_, fun k h1 h2 => ?_⟩
  · rw [e i h1 (by omega), e j (by omega) h3]; exact h.srt i j h1 h2 h3
  · rw [e k h1 h2]; exact h.own k h1 h2

end Go.Proofs.YtbacoopopokkfaaDoor

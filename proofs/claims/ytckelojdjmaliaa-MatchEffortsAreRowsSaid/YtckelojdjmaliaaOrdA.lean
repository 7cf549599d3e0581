/- Texts that all laws of this seat use, one behind the other. -/
import Derived.Shelf.SlSortCmp.KitK
import Derived.Laws.AppendOwn
import Derived.Test.YtckelojdjmaliaaBaseA
import Derived.Sort.OwnSorted
import Derived.Test.YtckelojdjmaliaaProg
import Derived.WalkKit
import Derived.WalkSpells
import Derived.WalkLawsBesides
import Derived.Handy
import Derived.Lib.Hide
import Derived.Deep.QuietTactic
import Derived.BigQuiet
import Derived.Deep.RegionWith
import Derived.BigRegion
import Derived.Shelf.RegionOpenPlain
import Derived.Shelf.SlSortCmp.QuietGrown
import Derived.Deep.CutBlock
import Derived.Deep.DeepCutAuto
/- The mathematics of the stable sort: swaps, rotations, and merges of neighbouring runs, said of functions of places. No program. -/
namespace Go.Proofs.Ytckelojdjmaliaa

/-- Two places swapped. -/
def swp (f : Nat → Nat) (i j : Nat) : Nat → Nat := fun k => if k = i then f j else if k = j then f i else f k
/-- Two ranges of n places swapped. -/
def swr (f : Nat → Nat) (a b n : Nat) : Nat → Nat := fun k => if a ≤ k ∧ k < a + n then f (k - a + b) else if b ≤ k ∧ k < b + n then f (k - b + a) else f k
/-- The places from m to b come ahead of those from a to m. -/
def rot (f : Nat → Nat) (a m b : Nat) : Nat → Nat := fun k => if a ≤ k ∧ k < a + (b - m) then f (k + (m - a)) else if a + (b - m) ≤ k ∧ k < b then f (k - (b - m)) else f k

theorem swr_zero (f : Nat → Nat) (a b : Nat) : swr f a b 0 = f := by
  funext k; unfold swr; rw [if_neg (by omega), if_neg (by omega)]
theorem swr_succ (f : Nat → Nat) (a b n : Nat) (h : a + n < b) : swp (swr f a b n) (a + n) (b + n) = swr f a b (n + 1) := by
  funext k; unfold swp swr
  repeat' split
  all_goals first | rfl | omega | (congr 1; omega)

theorem rot_left (f : Nat → Nat) (a b : Nat) : rot f a a b = f := by
  funext k; unfold rot
  repeat' split
  all_goals first | rfl | omega | (congr 1; omega)
theorem rot_right (f : Nat → Nat) (a b : Nat) : rot f a b b = f := by
  funext k; unfold rot
  repeat' split
  all_goals first | rfl | omega | (congr 1; omega)
theorem rot_gt (f : Nat → Nat) (m i j : Nat) (h1 : i ≤ m) (h2 : j < i) : rot f (m - i) m (m + j) = rot (swr f (m - i) m j) (m - (i - j)) m (m + j) := by
  funext k; unfold rot swr
  repeat' split
  all_goals first | rfl | omega | (congr 1; omega)
theorem rot_lt (f : Nat → Nat) (m i j : Nat) (h1 : i ≤ m) (h2 : i < j) : rot f (m - i) m (m + j) = rot (swr f (m - i) (m + j - i) i) (m - i) m (m + (j - i)) := by
  funext k; unfold rot swr
  repeat' split
  all_goals first | rfl | omega | (congr 1; omega)
theorem rot_eq (f : Nat → Nat) (m i : Nat) (h1 : i ≤ m) : rot f (m - i) m (m + i) = swr f (m - i) m i := by
  funext k; unfold rot swr
  repeat' split
  all_goals first | rfl | omega | (congr 1; omega)
theorem rot_up (f : Nat → Nat) (a k : Nat) (h : a ≤ k) : swp (rot f a (a + 1) (k + 1)) k (k + 1) = rot f a (a + 1) (k + 2) := by
  funext x; unfold swp rot
  repeat' split
  all_goals first | rfl | omega | (congr 1; omega)
theorem rot_down (f : Nat → Nat) (k m : Nat) (h : k < m) : swp (rot f (k + 1) m (m + 1)) (k + 1) k = rot f k m (m + 1) := by
  funext x; unfold swp rot
  repeat' split
  all_goals first | rfl | omega | (congr 1; omega)

/-- Greater keys first, of equal ones the smaller number. -/
def Bef (key : Nat → Int) (x y : Nat) : Prop := key y < key x ∨ (key x = key y ∧ x < y)

theorem Bef.trans {key : Nat → Int} {x y z : Nat} (h : Bef key x y) (h' : Bef key y z) : Bef key x z := by
  unfold Bef at *; omega
theorem bef_iff {key : Nat → Int} {x y : Nat} (h : x < y) : Bef key y x ↔ key x < key y := by unfold Bef; omega
theorem bef_not {key : Nat → Int} {x y : Nat} (h : x < y) : Bef key x y ↔ ¬ key x < key y := by unfold Bef; omega

def Srt (key : Nat → Int) (f : Nat → Nat) (a b : Nat) : Prop := ∀ i j, a ≤ i → i < j → j < b → Bef key (f i) (f j)

/-- g holds in [a, b) what f held there, each once, and elsewhere what f holds. -/
structure Mv (a b : Nat) (f g : Nat → Nat) : Prop where
  out : ∀ k, (k < a ∨ b ≤ k) → g k = f k
  into : ∀ k, a ≤ k → k < b → ∃ k', a ≤ k' ∧ k' < b ∧ g k = f k'
  inj : (∀ i j, f i = f j → i = j) → ∀ i j, g i = g j → i = j

theorem Mv.refl (a b : Nat) (f : Nat → Nat) : Mv a b f f := ⟨fun _ _ => rfl, fun k h1 h2 => ⟨k, h1, h2, rfl⟩, fun h => h⟩
theorem Mv.trans {a b : Nat} {f g h : Nat → Nat} (h1 : Mv a b f g) (h2 : Mv a b g h) : Mv a b f h := by
  refine ⟨fun k hk => (h2.out k hk).trans (h1.out k hk), fun k l u => ?_, fun hi => h2.inj (h1.inj hi)⟩
  obtain ⟨k1, l1, u1, e1⟩ := h2.into k l u
  obtain ⟨k2, l2, u2, e2⟩ := h1.into k1 l1 u1
  exact ⟨k2, l2, u2, e1.trans e2⟩
theorem Mv.mono {a b a' b' : Nat} {f g : Nat → Nat} (h : Mv a b f g) (h1 : a' ≤ a) (h2 : b ≤ b') : Mv a' b' f g := by
  refine ⟨fun k hk => h.out k (by omega), fun k l u => ?_, h.inj⟩
  by_cases hk : a ≤ k ∧ k < b
  · obtain ⟨k1, l1, u1, e1⟩ := h.into k hk.1 hk.2
    exact ⟨k1, by omega, by omega, e1⟩
  · exact ⟨k, l, u, h.out k (by omega)⟩
theorem Mv.rot (f : Nat → Nat) (a m b : Nat) (h1 : a ≤ m) (h2 : m ≤ b) : Mv a b f (rot f a m b) := by
  refine ⟨fun k hk => ?_, fun k l u => ?_, fun hi i j h => ?_⟩
  · unfold Go.Proofs.Ytckelojdjmaliaa.rot; rw [if_neg (by omega), if_neg (by omega)]
  · unfold Go.Proofs.Ytckelojdjmaliaa.rot
    by_cases hk : k < a + (b - m)
    · rw [if_pos ⟨l, hk⟩]; exact ⟨_, by omega, by omega, rfl⟩
    · rw [if_neg (by omega), if_pos (by omega)]; exact ⟨_, by omega, by omega, rfl⟩
  · unfold Go.Proofs.Ytckelojdjmaliaa.rot at h
    by_cases c1 : a ≤ i ∧ i < a + (b - m)
    · rw [if_pos c1] at h
      by_cases d1 : a ≤ j ∧ j < a + (b - m)
      · rw [if_pos d1] at h; have := hi _ _ h; omega
      · rw [if_neg d1] at h
        by_cases d2 : a + (b - m) ≤ j ∧ j < b
        · rw [if_pos d2] at h; have := hi _ _ h; omega
        · rw [if_neg d2] at h; have := hi _ _ h; omega
    · rw [if_neg c1] at h
      by_cases c2 : a + (b - m) ≤ i ∧ i < b
      · rw [if_pos c2] at h
        by_cases d1 : a ≤ j ∧ j < a + (b - m)
        · rw [if_pos d1] at h; have := hi _ _ h; omega
        · rw [if_neg d1] at h
          by_cases d2 : a + (b - m) ≤ j ∧ j < b
          · rw [if_pos d2] at h; have := hi _ _ h; omega
          · rw [if_neg d2] at h; have := hi _ _ h; omega
      · rw [if_neg c2] at h
        by_cases d1 : a ≤ j ∧ j < a + (b - m)
        · rw [if_pos d1] at h; have := hi _ _ h; omega
        · rw [if_neg d1] at h
          by_cases d2 : a + (b - m) ≤ j ∧ j < b
          · rw [if_pos d2] at h; have := hi _ _ h; omega
          · rw [if_neg d2] at h; exact hi _ _ h

theorem rot_lo {f : Nat → Nat} {a m b k : Nat} (h : k < a) (_ : a ≤ m) (_ : m ≤ b) : rot f a m b k = f k := by
  unfold rot; rw [if_neg (by omega), if_neg (by omega)]
theorem rot_1 {f : Nat → Nat} {a m b k : Nat} (h : a ≤ k) (h' : k < a + (b - m)) : rot f a m b k = f (k + (m - a)) := by
  unfold rot; rw [if_pos ⟨h, h'⟩]
theorem rot_2 {f : Nat → Nat} {a m b k : Nat} (h : a + (b - m) ≤ k) (h' : k < b) : rot f a m b k = f (k - (b - m)) := by
  unfold rot; rw [if_neg (by omega), if_pos ⟨h, h'⟩]
theorem rot_hi {f : Nat → Nat} {a m b k : Nat} (h : b ≤ k) (_ : a ≤ m) (_ : m ≤ b) : rot f a m b k = f k := by
  unfold rot; rw [if_neg (by omega), if_neg (by omega)]

/-- Runs that are to be merged: both in order, and each number on the left is smaller than each on the right. -/
structure Runs (key : Nat → Int) (f : Nat → Nat) (a m b : Nat) : Prop where
  am : a ≤ m
  mb : m ≤ b
  left : Srt key f a m
  right : Srt key f m b
  cross : ∀ i j, a ≤ i → i < m → m ≤ j → j < b → f i < f j

theorem Srt.le {key : Nat → Int} {f : Nat → Nat} {a b i j : Nat} (h : Srt key f a b) (h1 : a ≤ i) (h2 : i ≤ j) (h3 : j < b) {z : Nat} (hz : Bef key (f j) z) : Bef key (f i) z := by
  rcases Nat.lt_or_ge i j with h | h'
  · exact (h_1 h).trans hz
  · rw [show i = j by omega]; exact hz
where h_1 (q : i < j) := h i j h1 q h3
theorem Srt.ge {key : Nat → Int} {f : Nat → Nat} {a b i j : Nat} (h : Srt key f a b) (h1 : a ≤ i) (h2 : i ≤ j) (h3 : j < b) {z : Nat} (hz : Bef key z (f i)) : Bef key z (f j) := by
  rcases Nat.lt_or_ge i j with h | h'
  · exact hz.trans (h_1 h)
  · rw [show j = i by omega]; exact hz
where h_1 (q : i < j) := h i j h1 q h3

/-- One on the left: it moves to its place. -/
theorem merge_left {key : Nat → Int} {f : Nat → Nat} {a b i : Nat} (h : Runs key f a (a + 1) b) (h1 : a + 1 ≤ i) (h2 : i ≤ b)
    (hl : i = a + 1 ∨ Bef key (f (i - 1)) (f a)) (hr : i = b ∨ Bef key (f a) (f i)) : Srt key (rot f a (a + 1) i) a b := by
  intro x y hx hxy hy
  have e1 : ∀ k, a ≤ k → k < i - 1 → rot f a (a + 1) i k = f (k + 1) := fun k q1 q2 => by rw [rot_1 q1 (by omega)]; congr 1; omega
  have e2 : rot f a (a + 1) i (i - 1) = f a := by rw [rot_2 (by omega) (by omega)]; congr 1; omega
  have e3 : ∀ k, i ≤ k → rot f a (a + 1) i k = f k := fun k q => rot_hi q (by omega) (by omega)
  rcases (show x < i - 1 ∨ x = i - 1 ∨ i ≤ x by omega) with c | c | c
  · rw [e1 x hx c]
    have hxa : Bef key (f (x + 1)) (f a) := by
      rcases hl with q | q
      · omega
      · exact h.right.le (by omega) (by omega) (by omega) q
    rcases (show y < i - 1 ∨ y = i - 1 ∨ i ≤ y by omega) with d | d | d
    · rw [e1 y (by omega) d]; exact h.right _ _ (by omega) (by omega) (by omega)
    · rw [d, e2]; exact hxa
    · rw [e3 y d]; exact h.right _ _ (by omega) (by omega) (by omega)
  · rw [c, e2, e3 y (by omega)]
    rcases hr with q | q
    · omega
    · exact h.right.ge (by omega) (by omega) (by omega) q
  · rw [e3 x c, e3 y (by omega)]; exact h.right _ _ (by omega) (by omega) (by omega)

/-- One on the right: it moves to its place. -/
theorem merge_right {key : Nat → Int} {f : Nat → Nat} {a m i : Nat} (h : Runs key f a m (m + 1)) (h1 : a ≤ i) (h2 : i ≤ m)
    (hl : i = a ∨ Bef key (f (i - 1)) (f m)) (hr : i = m ∨ Bef key (f m) (f i)) : Srt key (rot f i m (m + 1)) a (m + 1) := by
  intro x y hx hxy hy
  have e0 : ∀ k, k < i → rot f i m (m + 1) k = f k := fun k q => rot_lo q (by omega) (by omega)
  have e1 : rot f i m (m + 1) i = f m := by rw [rot_1 (by omega) (by omega)]; congr 1; omega
  have e2 : ∀ k, i < k → k < m + 1 → rot f i m (m + 1) k = f (k - 1) := fun k q1 q2 => by rw [rot_2 (by omega) q2]; congr 1; omega
  rcases (show x < i ∨ x = i ∨ i < x by omega) with c | c | c
  · rw [e0 x c]
    have hxa : Bef key (f x) (f m) := by
      rcases hl with q | q
      · omega
      · exact h.left.le (by omega) (by omega) (by omega) q
    rcases (show y < i ∨ y = i ∨ i < y by omega) with d | d | d
    · rw [e0 y d]; exact h.left _ _ (by omega) (by omega) (by omega)
    · rw [d, e1]; exact hxa
    · rw [e2 y d hy]; exact h.left _ _ (by omega) (by omega) (by omega)
  · rw [c, e1, e2 y (by omega) hy]
    rcases hr with q | q
    · omega
    · exact h.left.ge (by omega) (by omega) (by omega) q
  · rw [e2 x c (by omega), e2 y (by omega) hy]; exact h.left _ _ (by omega) (by omega) (by omega)

/-- What the search of symMerge finds. -/
structure Found (key : Nat → Int) (f : Nat → Nat) (a m b start : Nat) : Prop where
  lo : a ≤ start
  lm : start ≤ m
  mid : start ≤ (a + b) / 2
  hi : (a + b) / 2 + m ≤ start + b
  below : start = a ∨ start + b = (a + b) / 2 + m ∨ Bef key (f (start - 1)) (f ((a + b) / 2 + m - start))
  above : start = m ∨ start = (a + b) / 2 ∨ Bef key (f ((a + b) / 2 + m - 1 - start)) (f start)

section
variable {key : Nat → Int} {f : Nat → Nat} {a m b s : Nat}

theorem half_low (h : Runs key f a m b) (hf : Found key f a m b s) : Runs key (rot f s m ((a + b) / 2 + m - s)) a s ((a + b) / 2) := by
  have := hf.lo; have := hf.lm; have := hf.mid; have := hf.hi; have := h.am; have := h.mb
  refine ⟨by omega, by omega, fun i j h1 h2 h3 => ?_, fun i j h1 h2 h3 => ?_, fun i j h1 h2 h3 h4 => ?_⟩
  · rw [rot_lo (by omega) (by omega) (by omega), rot_lo (by omega) (by omega) (by omega)]; exact h.left _ _ (by omega) (by omega) (by omega)
  · rw [rot_1 (by omega) (by omega), rot_1 (by omega) (by omega)]; exact h.right _ _ (by omega) (by omega) (by omega)
  · rw [rot_lo (by omega) (by omega) (by omega), rot_1 (by omega) (by omega)]; exact h.cross _ _ (by omega) (by omega) (by omega) (by omega)
theorem half_high (h : Runs key f a m b) (hf : Found key f a m b s) : Runs key (rot f s m ((a + b) / 2 + m - s)) ((a + b) / 2) ((a + b) / 2 + m - s) b := by
  have := hf.lo; have := hf.lm; have := hf.mid; have := hf.hi; have := h.am; have := h.mb
  refine ⟨by omega, by omega, fun i j h1 h2 h3 => ?_, fun i j h1 h2 h3 => ?_, fun i j h1 h2 h3 h4 => ?_⟩
  · rw [rot_2 (by omega) (by omega), rot_2 (by omega) (by omega)]; exact h.left _ _ (by omega) (by omega) (by omega)
  · rw [rot_hi (by omega) (by omega) (by omega), rot_hi (by omega) (by omega) (by omega)]; exact h.right _ _ (by omega) (by omega) (by omega)
  · rw [rot_2 (by omega) (by omega), rot_hi (by omega) (by omega) (by omega)]; exact h.cross _ _ (by omega) (by omega) (by omega) (by omega)
theorem halves (h : Runs key f a m b) (hf : Found key f a m b s) {i j : Nat} (h1 : a ≤ i) (h2 : i < (a + b) / 2) (h3 : (a + b) / 2 ≤ j) (h4 : j < b) :
    Bef key (rot f s m ((a + b) / 2 + m - s) i) (rot f s m ((a + b) / 2 + m - s) j) := by
  have := hf.lo; have := hf.lm; have := hf.mid; have := hf.hi; have := h.am; have := h.mb
  by_cases ci : i < s
  · rw [rot_lo ci (by omega) (by omega)]
    by_cases cj : j < (a + b) / 2 + m - s
    · rw [rot_2 (by omega) cj]; exact h.left _ _ (by omega) (by omega) (by omega)
    · rw [rot_hi (by omega) (by omega) (by omega)]
      rcases hf.below with q | q | q
      · omega
      · omega
      · exact h.left.le (by omega) (show i ≤ s - 1 by omega) (by omega) (h.right.ge (by omega) (show (a + b) / 2 + m - s ≤ j by omega) (by omega) q)
  · rw [rot_1 (by omega) (by omega)]
    by_cases cj : j < (a + b) / 2 + m - s
    · rw [rot_2 (by omega) cj]
      rcases hf.above with q | q | q
      · omega
      · omega
      · exact h.right.le (by omega) (show i + (m - s) ≤ (a + b) / 2 + m - 1 - s by omega) (by omega) (h.left.ge (by omega) (show s ≤ j - ((a + b) / 2 + m - s - m) by omega) (by omega) q)
    · rw [rot_hi (by omega) (by omega) (by omega)]; exact h.right _ _ (by omega) (by omega) (by omega)
theorem Runs.sorted (h : Runs key f a m b) (hq : a = m ∨ m = b) : Srt key f a b := by
  rcases hq with rfl | rfl
  · exact h.right
  · exact h.left
end

/-- Two halves in order, all of the first ahead of all of the second. -/
theorem join_halves {key : Nat → Int} {g0 g : Nat → Nat} {a c b : Nat} (h0 : ∀ i j, a ≤ i → i < c → c ≤ j → j < b → Bef key (g0 i) (g0 j))
    {g1 : Nat → Nat} (m1 : Mv a c g0 g1) (s1 : Srt key g1 a c) (m2 : Mv c b g1 g) (s2 : Srt key g c b) : Srt key g a b := by
  intro x y hx hxy hy
  by_cases cx : x < c
  · rw [m2.out x (by omega)]
    by_cases cy : y < c
    · rw [m2.out y (by omega)]; exact s1 x y hx hxy cy
    · obtain ⟨x', p1, p2, e1⟩ := m1.into x hx cx
      obtain ⟨y', q1, q2, e2⟩ := m2.into y (by omega) hy
      rw [e1, e2, m1.out y' (by omega)]
      exact h0 _ _ p1 p2 q1 q2
  · exact s2 x y (by omega) hxy hy

/-- A block that is in order, and holds its own numbers. -/
structure Blk (key : Nat → Int) (f : Nat → Nat) (a b : Nat) : Prop where
  srt : Srt key f a b
  own : ∀ k, a ≤ k → k < b → a ≤ f k ∧ f k < b

theorem Blk.runs {key : Nat → Int} {f : Nat → Nat} {a m b : Nat} (h1 : Blk key f a m) (h2 : Blk key f m b) (ham : a ≤ m) (hmb : m ≤ b) : Runs key f a m b :=
  ⟨ham, hmb, h1.srt, h2.srt, fun i j q1 q2 q3 q4 => by have := h1.own i q1 q2; have := h2.own j q3 q4; omega⟩
theorem Blk.merged {key : Nat → Int} {f g : Nat → Nat} {a m b : Nat} (h1 : Blk key f a m) (h2 : Blk key f m b) (ham : a ≤ m) (hmb : m ≤ b) (hm : Mv a b f g) (hs : Srt key g a b) : Blk key g a b := by
  refine ⟨hs, fun k l u => ?_⟩
  obtain ⟨k', l', u', e⟩ := hm.into k l u
  rw [e]
  by_cases c : k' < m
  · have := h1.own k' l' c; omega
  · have := h2.own k' (by omega) u'; omega
theorem Blk.keep {key : Nat → Int} {f g : Nat → Nat} {a b c d : Nat} (h : Blk key f a b) (hm : Mv c d f g) (hd : b ≤ c ∨ d ≤ a) : Blk key g a b := by
  have e : ∀ k, a ≤ k → k < b → g k = f k := fun k h1 h2 => hm.out k (by omega)
  refine ⟨fun i j h1 h2 h3 => ?_, fun k h1 h2 => ?_⟩
  · rw [e i h1 (by omega), e j (by omega) h3]; exact h.srt i j h1 h2 h3
  · rw [e k h1 h2]; exact h.own k h1 h2

end Go.Proofs.Ytckelojdjmaliaa
namespace Go.Proofs.Ytckelojdjmaliaa

/-- All blocks of a size from lo on, before hi. -/
def Blks (key : Nat → Int) (f : Nat → Nat) (n size lo hi : Nat) : Prop := ∀ x, lo ≤ x → x < hi → size ∣ x → Blk key f x (min (x + size) n)

theorem dvd_gap {s x a : Nat} (hx : s ∣ x) (ha : s ∣ a) (h : x < a) : x + s ≤ a := by
  obtain ⟨p, rfl⟩ := hx
  obtain ⟨q, rfl⟩ := ha
  have hpq : p < q := Nat.lt_of_mul_lt_mul_left h
  have := Nat.mul_le_mul_left s hpq
  rw [Nat.mul_succ] at this
  exact this

/-- A block more is in order. -/
theorem Blks.more {key : Nat → Int} {f g : Nat → Nat} {n size a b : Nat} (h : Blks key f n size 0 a) (hd : size ∣ a) (hm : Mv a b f g) (hb : Blk key g a (min (a + size) n)) : Blks key g n size 0 (a + size) := by
  intro x _ hx hs
  rcases Nat.lt_or_ge x a with c | c
  · exact (h x (by omega) c hs).keep hm (.inl (by have := dvd_gap hs hd c; omega))
  · have : x = a := by
      rcases Nat.lt_or_ge a x with d | d
      · have := dvd_gap hd hs d; omega
      · omega
    rw [this]; exact hb

/-- Within a pass: up to a the blocks are twice as long. -/
structure Pass (key : Nat → Int) (f : Nat → Nat) (n size a : Nat) : Prop where
  dv : 2 * size ∣ a
  big : Blks key f n (2 * size) 0 a
  small : Blks key f n size a n
  pos : 0 < size
  an : a ≤ n + 2 * size

theorem Pass.start {key : Nat → Int} {f : Nat → Nat} {n size : Nat} (h : Blks key f n size 0 n) (hp : 0 < size) : Pass key f n size 0 :=
  ⟨Nat.dvd_zero _, fun x _ h => by omega, h, hp, by omega⟩
theorem Pass.dv1 {key : Nat → Int} {f : Nat → Nat} {n size a : Nat} (h : Pass key f n size a) : size ∣ a := Nat.dvd_trans (Nat.dvd_mul_left size 2) h.dv
/-- The runs that are merged next. -/
theorem Pass.runs {key : Nat → Int} {f : Nat → Nat} {n size a b : Nat} (h : Pass key f n size a) (hb : b = min (a + 2 * size) n) (hm : a + size < n) : Runs key f a (a + size) b := by
  have hp := h.pos
  have h1 := h.small a (Nat.le_refl _) (by omega) h.dv1
  have h2 := h.small (a + size) (by omega) hm (Nat.dvd_add h.dv1 (Nat.dvd_refl _))
  rw [show min (a + size) n = a + size by omega] at h1
  rw [show min (a + size + size) n = b by omega] at h2
  exact Blk.runs h1 h2 (by omega) (by omega)
theorem Pass.step {key : Nat → Int} {f g : Nat → Nat} {n size a b : Nat} (h : Pass key f n size a) (hb : b = min (a + 2 * size) n) (hm : a + size < n) (hv : Mv a b f g) (hs : Srt key g a b) : Blk key g a b := by
  have hp := h.pos
  have h1 := h.small a (Nat.le_refl _) (by omega) h.dv1
  have h2 := h.small (a + size) (by omega) hm (Nat.dvd_add h.dv1 (Nat.dvd_refl _))
  rw [show min (a + size) n = a + size by omega] at h1
  rw [show min (a + size + size) n = b by omega] at h2
  exact Blk.merged h1 h2 (by omega) (by omega) hv hs
theorem Pass.next {key : Nat → Int} {f g : Nat → Nat} {n size a : Nat} (h : Pass key f n size a) (hn : a + 2 * size ≤ n) (hv : Mv a (a + 2 * size) f g) (hs : Srt key g a (a + 2 * size)) : Pass key g n size (a + 2 * size) := by
  have hp := h.pos
  have hb := h.step (b := a + 2 * size) (by omega) (by omega) hv hs
  refine ⟨Nat.dvd_add h.dv (Nat.dvd_refl _), h.big.more h.dv hv (by rw [show min (a + 2 * size) n = a + 2 * size by omega]; exact hb), fun x h1 h2 h3 => ?_, hp, by omega⟩
  exact (h.small x (by omega) h2 h3).keep hv (.inr h1)
/-- The end of a pass, where a last pair is merged. -/
theorem Pass.last {key : Nat → Int} {f g : Nat → Nat} {n size a : Nat} (h : Pass key f n size a) (hn : n < a + 2 * size) (hm : a + size < n) (hv : Mv a n f g) (hs : Srt key g a n) : Blks key g n (2 * size) 0 n := by
  have hp := h.pos
  have hb := h.step (b := n) (by omega) hm hv hs
  intro x h1 h2 h3
  exact (h.big.more h.dv hv (by rw [show min (a + 2 * size) n = n by omega]; exact hb)) x h1 (by omega) h3
/-- The end of a pass, where nothing, or one block, is left. -/
theorem Pass.done {key : Nat → Int} {f : Nat → Nat} {n size a : Nat} (h : Pass key f n size a) (hn : n < a + 2 * size) (hm : n ≤ a + size) : Blks key f n (2 * size) 0 n := by
  have hp := h.pos
  intro x h1 h2 h3
  rcases Nat.lt_or_ge x a with c | c
  · exact h.big x h1 c h3
  · have e : x = a := by
      rcases Nat.lt_or_ge a x with d | d
      · have := dvd_gap h.dv h3 d; omega
      · omega
    subst e
    have h4 := h.small x (Nat.le_refl _) h2 h.dv1
    rw [show min (x + size) n = n by omega] at h4
    rw [show min (x + 2 * size) n = n by omega]
    exact h4
theorem Blks.all {key : Nat → Int} {f : Nat → Nat} {n size : Nat} (h : Blks key f n size 0 n) (hn : 0 < n) (hs : n ≤ size) : Srt key f 0 n := by
  have := h 0 (Nat.le_refl _) hn (Nat.dvd_zero _)
  rw [show min (0 + size) n = n by omega] at this
  exact this.srt

/-- The state of an insertion sort: from a up to i in order; from i on nothing has moved. -/
structure Ins (key : Nat → Int) (f0 f : Nat → Nat) (a i : Nat) : Prop where
  ai : a ≤ i
  mv : Mv a i f0 f
  srt : Srt key f a i
  own : ∀ k, a ≤ k → f0 k = k

theorem Ins.runs {key : Nat → Int} {f0 f : Nat → Nat} {a i : Nat} (h : Ins key f0 f a i) : Runs key f a i (i + 1) := by
  refine ⟨h.ai, by omega, h.srt, fun x y h1 h2 h3 => by omega, fun x y h1 h2 h3 h4 => ?_⟩
  obtain ⟨x', l, u, e⟩ := h.mv.into x h1 h2
  rw [e, h.own x' l, h.mv.out y (by omega), h.own y (by have := h.ai; omega)]
  omega
theorem Ins.next {key : Nat → Int} {f0 f : Nat → Nat} {a i j : Nat} (h : Ins key f0 f a i) (h1 : a ≤ j) (h2 : j ≤ i) (hl : j = a ∨ Bef key (f (j - 1)) (f i)) (hr : j = i ∨ Bef key (f i) (f j)) : Ins key f0 (rot f j i (i + 1)) a (i + 1) := by
  have := h.ai
  exact ⟨by omega, (h.mv.mono (Nat.le_refl _) (by omega)).trans ((Mv.rot f j i (i + 1) h2 (by omega)).mono h1 (by omega)), merge_right h.runs h1 h2 hl hr, h.own⟩
theorem Ins.blk {key : Nat → Int} {f0 f : Nat → Nat} {a b : Nat} (h : Ins key f0 f a b) : Blk key f a b := by
  refine ⟨h.srt, fun k l u => ?_⟩
  obtain ⟨k', l', u', e⟩ := h.mv.into k l u
  rw [e, h.own k' l']; omega
theorem Ins.start {key : Nat → Int} {f : Nat → Nat} {a : Nat} (h : ∀ k, a ≤ k → f k = k) : Ins key f f a (a + 1) :=
  ⟨by omega, Mv.refl _ _ _, fun i j h1 h2 h3 => by omega, h⟩
end Go.Proofs.Ytckelojdjmaliaa
namespace Go.Proofs.Ytckelojdjmaliaa
open Go.RowKit

/-- The numbers in the first n places. -/
def fA (n : Nat) (f : Nat → Nat) : Array Nat := ((List.range n).map f).toArray
theorem fA_size (n : Nat) (f : Nat → Nat) : (fA n f).size = n := by simp [fA]
theorem fA_get {n : Nat} {f : Nat → Nat} {k : Nat} (h : k < n) : (fA n f)[k]! = f k := by
  rw [getElem!_pos _ k (by rw [fA_size]; exact h)]; simp [fA]
theorem fA_ext {n : Nat} {d : Array Nat} {f : Nat → Nat} (hs : d.size = n) (h : ∀ k, k < n → d[k]! = f k) : d = fA n f := by
  apply Array.ext
  · rw [hs, fA_size]
  · intro i h1 h2
    have q := h i (by omega)
    rw [getElem!_pos d i h1] at q
    rw [q, ← fA_get (f := f) (show i < n by omega), getElem!_pos _ i h2]
theorem fA_swp {n : Nat} {f : Nat → Nat} {i j : Nat} (hi : i < n) (hj : j < n) : Go.Sort.swp (fA n f) i j = fA n (swp f i j) := by
  apply fA_ext
  · rw [Go.Sort.size_swp, fA_size]
  · intro k hk
    rw [Go.Sort.swp_get _ (by rw [fA_size]; exact hi) (by rw [fA_size]; exact hj)]
    unfold swp
    by_cases e1 : k = i
    · by_cases e2 : k = j
      · subst e1; subst e2; simp [fA_get hk]
      · subst e1; simp [e2, fA_get hj]
    · by_cases e2 : k = j
      · subst e2; simp [e1, fA_get hi]
      · simp [e1, e2, fA_get hk]

/-- What the sort is told, once: the row at first, the comparison, and the keys (the greater ones come first). -/
structure SBase (P : Program) (enc : Nat → List Value) (K n g off : Nat) (w0 : World) (G : Nat) (CB : Array Value) (cf : Nat → Nat → Int) (key : Nat → Int) : Prop where
  row : RowK enc K w0 g off (fA n fun k => k)
  cmp : CmpLays P G CB enc K cf g off n w0
  eg : ∀ args w, (callFunc G args).run P w = .ok (.enter G args) w
  hcf : ∀ x y, x < n → y < n → (cf x y < 0 ↔ key y < key x)
  hn : n ≤ 20000

/-- A world of the sort's: place k holds element f k. -/
structure SorK (enc : Nat → List Value) (K n g off : Nat) (w0 : World) (f : Nat → Nat) (W : World) : Prop where
  S : SWK enc K w0 g off (fA n f) W
  lt : ∀ k, k < n → f k < n

section
variable {P : Program} {enc : Nat → List Value} {K n g off : Nat} {w0 W : World} {G : Nat} {CB : Array Value} {cf : Nat → Nat → Int} {key : Nat → Int} {f : Nat → Nat}
theorem SorK.start (B : SBase P enc K n g off w0 G CB cf key) : SorK enc K n g off w0 (fun k => k) w0 := ⟨SWK.start B.row.hH, fun _ h => h⟩
theorem SorK.grown (h : SorK enc K n g off w0 f W) (q : Nat) (os : Array Obj) : SorK enc K n g off w0 f (Go.Sort.grow (W.drewN q) os) := ⟨h.S.grown q os, h.lt⟩
theorem SorK.drew (h : SorK enc K n g off w0 f W) : SorK enc K n g off w0 f W.drew := ⟨h.S.drew, h.lt⟩
theorem SorK.drewN (h : SorK enc K n g off w0 f W) (q : Nat) : SorK enc K n g off w0 f (W.drewN q) := ⟨h.S.drewN q, h.lt⟩
theorem SorK.cell (h : SorK enc K n g off w0 f W) (B : SBase P enc K n g off w0 G CB cf key) {k c : Nat} (hk : k < n) (hc : c < K) :
    W.cell? ⟨g, off + k * K + c, none⟩ = some (enc (f k))[c]! := by
  have q := (Go.Sort.HoldsK.cell (h.S.holds B.row.hblk B.row.hH (by rw [fA_size, fA_size])) (i := k) (c := c) (by rw [fA_size]; exact hk) hc).1
  rwa [fA_get hk] at q
theorem SorK.free (h : SorK enc K n g off w0 f W) (B : SBase P enc K n g off w0 G CB cf key) {k c : Nat} (hk : k < n) (hc : c < K) :
    W.frozen? ⟨g, off + k * K + c, none⟩ = false :=
  (Go.Sort.HoldsK.cell (h.S.holds B.row.hblk B.row.hH (by rw [fA_size, fA_size])) (i := k) (c := c) (by rw [fA_size]; exact hk) hc).2
theorem SorK.calls (h : SorK enc K n g off w0 f W) (B : SBase P enc K n g off w0 G CB cf key) (x y : Nat) (q : Nat) (os : Array Obj) :
    Calls P G (#[.agg (enc x).toArray, .agg (enc y).toArray] ++ CB) (Go.Sort.grow (W.drewN q) os) fun e w' => e = .returned (.int .i64 (cf x y)) ∧ ∃ q' os', w' = Go.Sort.grow ((Go.Sort.grow (W.drewN q) os).drewN q') os' :=
  h.S.cmp B.cmp (fA_size n f) x y q os
theorem SorK.swap (h : SorK enc K n g off w0 f W) (B : SBase P enc K n g off w0 G CB cf key) {i j : Nat} (hi : i < n) (hj : j < n) :
    SorK enc K n g off w0 (swp f i j) ((W.drew.setCells g (off + i * K) (enc (f j))).setCells g (off + j * K) (enc (f i))) := by
  have q := h.S.swapped B.row i j (by rw [fA_size]; exact hi) (by rw [fA_size]; exact hj)
  rw [fA_get hi, fA_get hj, fA_swp hi hj] at q
  refine ⟨q, fun k hk => ?_⟩
  unfold swp
  split
  · exact h.lt _ hj
  · split
    · exact h.lt _ hi
    · exact h.lt _ hk
theorem SorK.swapD (h : SorK enc K n g off w0 f W) (B : SBase P enc K n g off w0 G CB cf key) {i j : Nat} (hi : i < n) (hj : j < n) :
    SorK enc K n g off w0 (swp f i j) (((W.setCells g (off + i * K) (enc (f j))).setCells g (off + j * K) (enc (f i)))).drew := by
  have q := h.S.swap B.row.hk B.row.hblk i j (by rw [fA_size]; exact hi) (by rw [fA_size]; exact hj)
  rw [fA_get hi, fA_get hj, fA_swp hi hj] at q
  exact ⟨q.drewN 1, (h.swap B hi hj).lt⟩
/-- A cell in the worlds of a test. -/
theorem SorK.gcell (h : SorK enc K n g off w0 f W) (B : SBase P enc K n g off w0 G CB cf key) {k c x : Nat} (hk : k < n) (hc : c < K) (hx : f k = x) (q : Nat) (os : Array Obj) :
    (Go.Sort.grow (W.drewN q) os).cell? ⟨g, off + k * K + c, none⟩ = some (enc x)[c]! := by
  have := (h.grown q os).cell B hk hc
  rwa [hx] at this
end
end Go.Proofs.Ytckelojdjmaliaa
namespace Go.Proofs.Ytckelojdjmaliaa
open Go.RowKit

theorem heap_sortedV {w : World} {g n : Nat} {os : Array Obj} {cur : Array Value} {e : TypeId} {fr : Nat × Nat} (d : Array Value) (hb : w.heap[g]? = some (.cells cur e fr)) :
    (Go.Sort.grow (Go.Sort.putRow id (Go.Sort.ahead w n) g 0 d) os).heap[g]? = some (.cells (Go.Sort.putCells id 0 d cur) e fr) := by
  have hg : g < w.heap.size := (Array.getElem?_eq_some_iff.1 hb).1
  rw [Go.Sort.heap_grow_old _ _ (by simpa using hg)]
  simp [Go.Sort.putRow, Go.Sort.mapBlock, Go.Sort.ahead, Array.getElem?_modify, hb, Go.Sort.onCells]
theorem grownBy_sortedV {w : World} {g n : Nat} {os : Array Obj} (d : Array Value) : w.grownBy (Go.Sort.grow (Go.Sort.putRow id (Go.Sort.ahead w n) g 0 d) os) (some g) := by
  refine ⟨rfl, rfl, rfl, by simp, fun k hk hne => ?_⟩
  rw [Go.Sort.heap_grow_old _ _ (by simpa using hk)]
  have : g ≠ k := fun e => hne (by rw [e])
  simp [Go.Sort.putRow, Go.Sort.mapBlock, Go.Sort.ahead, Array.getElem?_modify, this]

section
variable {P : Program} {enc : Nat → List Value} {K n g : Nat} {w0 W : World} {G : Nat} {CB : Array Value} {cf : Nat → Nat → Int} {key : Nat → Int} {f : Nat → Nat}
theorem flat_at (hk : ∀ x, (enc x).length = K) (f : Nat → Nat) {j : Nat} (hj : j < n * K) : (((List.range n).map f).flatMap enc)[j]? = some (Go.Sort.flatK enc K (fA n f))[j]! := by
  have hK : 0 < K := by
    rcases Nat.eq_zero_or_pos K with h | h
    · subst h; simp at hj
    · exact h
  have h1 : j % K < K := Nat.mod_lt _ hK
  have h2 : j / K < n := Nat.div_lt_of_lt_mul (by rw [Nat.mul_comm]; exact hj)
  have he : j = j / K * K + j % K := by have := Nat.div_add_mod j K; rw [Nat.mul_comm]; exact this.symm
  rw [Go.Sort.get_flatK _ _ _ _ (by rw [fA_size]; exact hj), fA_get h2]
  rw [show (((List.range n).map f).flatMap enc)[j]? = (((List.range n).map f).flatMap enc)[j / K * K + j % K]? from by rw [← he]]
  rw [mflat_at enc K hk _ _ _ (by simpa using h2) h1]
  simp only [List.getElem_map, List.getElem_range]
  rw [List.getElem?_eq_getElem (by rw [hk]; exact h1), getElem!_pos _ _ (by rw [hk]; exact h1)]
/-- Out of a sort's world: the row is owned, and holds the elements in their new places. -/
theorem SorK.owns {base cap : Nat} {e : TypeId} {cur : Array Value} (h : SorK enc K n g 0 w0 f W) (hk : ∀ x, (enc x).length = K) (hbase : base ≤ g) (hb : w0.heap[g]? = some (.cells cur e (0, 0)))
    (h1 : n ≤ cap) (h2 : cap ≤ maxLen) (h3 : cur.size = cap * K) : W.ownsRow base e K (.slice (some ⟨g, 0, none⟩) n cap) n (((List.range n).map f).flatMap enc) := by
  obtain ⟨m, os, hW⟩ := h.S
  subst hW
  have hle : n * K ≤ cur.size := by rw [h3]; exact Nat.mul_le_mul_right K h1
  refine ⟨by rw [mflat_len enc K hk]; simp, .inr ⟨g, cap, _, rfl, hbase, heap_sortedV _ hb, h1, h2, by simp [Go.Sort.putCells, h3], ?_⟩⟩
  apply List.ext_getElem?
  intro j
  by_cases hj : j < n * K
  · rw [List.getElem?_take_of_lt hj, Array.getElem?_toList, flat_at hk f hj]
    have hs : (Go.Sort.flatK enc K (fA n f)).size = n * K := by rw [Go.Sort.size_flatK, fA_size]
    simp only [Go.Sort.putCells, Array.getElem?_mapIdx, Array.getElem?_eq_getElem (show j < cur.size by omega), Option.map_some, Nat.zero_add, Nat.zero_le, true_and, hs, hj, if_true, Nat.sub_zero, id]
  · rw [List.getElem?_take_eq_none (by omega), List.getElem?_eq_none (by rw [mflat_len enc K hk]; simp; omega)]
theorem SorK.keeps (h : SorK enc K n g 0 w0 f W) : w0.grownBy W (some g) := by
  obtain ⟨m, os, hW⟩ := h.S
  subst hW
  exact grownBy_sortedV _
/-- Into a sort's world: a row that is owned holds its elements. -/
theorem own_holds {base cap : Nat} {e : TypeId} (hk : ∀ x, (enc x).length = K) (h : w0.ownsRow base e K (.slice (some ⟨g, 0, none⟩) n cap) n ((List.range n).flatMap enc)) :
    Go.Sort.HoldsK enc K w0 g 0 (fA n fun k => k) ∧ g < w0.heap.size ∧ base ≤ g ∧ n ≤ cap ∧ cap ≤ maxLen ∧ ∃ cur, w0.heap[g]? = some (.cells cur e (0, 0)) ∧ cur.size = cap * K := by
  rcases h.2 with ⟨hv, _⟩ | ⟨g', cap', cur, hv, hbase, hg, h1, h2, h3, h4⟩
  · cases hv
  · injection hv with e1 e2 e3
    injection e1 with e1; injection e1 with e1 _ _
    subst e1; subst e3
    refine ⟨?_, (Array.getElem?_eq_some_iff.1 hg).1, hbase, h1, h2, cur, hg, h3⟩
    intro j hj
    rw [Go.Sort.size_flatK, fA_size] at hj
    refine ⟨?_, by simp [World.frozen?, hg]⟩
    have hle : n * K ≤ cur.size := by rw [h3]; exact Nat.mul_le_mul_right K h1
    have q := flat_at (n := n) hk (fun k => k) hj
    rw [show (List.range n).map (fun k => k) = List.range n from List.map_id _] at q
    rw [← h4, List.getElem?_take_of_lt hj, Array.getElem?_toList] at q
    simp only [World.cell?, hg, Nat.zero_add, Option.isSome_none, Bool.false_eq_true, if_false, id]
    exact q
end
end Go.Proofs.Ytckelojdjmaliaa
namespace Go.Proofs.Ytckelojdjmaliaa

def nth (l : List Int) (i : Nat) : Int := l[i]?.getD 0
theorem nth_get {l : List Int} {i : Nat} (h : i < l.length) : nth l i = l[i] := by simp [nth, h]

def okW (w : Int) : Prop := 0 ≤ w ∧ w ≤ 1000000
def goodWs (ws : List Int) : Prop := ∀ i, i < ws.length → okW (nth ws i)

theorem sum_take_succ (l : List Int) (j : Nat) (h : j < l.length) : (l.take (j + 1)).sum = (l.take j).sum + nth l j := by
  rw [List.take_succ_eq_append_getElem h, List.sum_append, nth_get h]; simp
theorem sum_bd (l : List Int) (m : Int) (h : ∀ i, i < l.length → 0 ≤ nth l i ∧ nth l i ≤ m) : 0 ≤ l.sum ∧ l.sum ≤ m * l.length := by
  induction l with
  | nil => simp
  | cons x r ih =>
    have h0 := h 0 (by simp)
    have hr := ih fun i hi => by have := h (i + 1) (by simpa using hi); simpa [nth] using this
    simp only [nth, List.getElem?_cons_zero, Option.getD_some] at h0
    rw [List.sum_cons, List.length_cons]
    push_cast
    rw [Int.mul_add]
    omega
theorem nth_take {l : List Int} {i j : Nat} (h : i < j) : nth (l.take j) i = nth l i := by simp [nth, h]
theorem sum_take_bd (l : List Int) (j : Nat) (m : Int) (hm : 0 ≤ m) (h : ∀ i, i < l.length → 0 ≤ nth l i ∧ nth l i ≤ m) : 0 ≤ (l.take j).sum ∧ (l.take j).sum ≤ m * j := by
  have := sum_bd (l.take j) m fun i hi => by
    rw [List.length_take] at hi
    rw [nth_take (by omega)]; exact h i (by omega)
  refine ⟨this.1, Int.le_trans this.2 (Int.mul_le_mul_of_nonneg_left ?_ hm)⟩
  rw [List.length_take]; omega
theorem sum_take_le (l : List Int) (h : ∀ i, i < l.length → 0 ≤ nth l i) (j : Nat) : (l.take j).sum ≤ l.sum := by
  have e : l.sum = (l.take j).sum + (l.drop j).sum := by rw [← List.sum_append, List.take_append_drop]
  have : 0 ≤ (l.drop j).sum := by
    have : ∀ (r : List Int), (∀ i, i < r.length → 0 ≤ nth r i) → 0 ≤ r.sum := by
      intro r
      induction r with
      | nil => simp
      | cons x r ih =>
        intro hr
        have h0 := hr 0 (by simp)
        have h1 := ih fun i hi => by have := hr (i + 1) (by simpa using hi); simpa [nth] using this
        simp only [nth, List.getElem?_cons_zero, Option.getD_some] at h0
        rw [List.sum_cons]; omega
    refine this _ fun i hi => ?_
    rw [List.length_drop] at hi
    have := h (j + i) (by omega)
    simpa [nth, List.getElem?_drop] using this
  omega

def partOf (t s w : Int) : Int := t * w / s
def restOf (t s w : Int) : Int := t * w % s
def partsL (t s : Int) (ws : List Int) : List Int := ws.map (partOf t s)
def restsL (t s : Int) (ws : List Int) : List Int := ws.map (restOf t s)
def keyOf (t s : Int) (ws : List Int) (i : Nat) : Int := restOf t s (nth ws i)

theorem nth_parts {t s : Int} {ws : List Int} {i : Nat} (h : i < ws.length) : nth (partsL t s ws) i = partOf t s (nth ws i) := by simp [nth, partsL, h]
theorem nth_rests {t s : Int} {ws : List Int} {i : Nat} (h : i < ws.length) : nth (restsL t s ws) i = keyOf t s ws i := by simp [nth, restsL, h, keyOf]

theorem parts_rests (t s : Int) (ws : List Int) : s * (partsL t s ws).sum + (restsL t s ws).sum = t * ws.sum := by
  induction ws with
  | nil => simp [partsL, restsL]
  | cons w r ih =>
    have := Int.mul_ediv_add_emod (t * w) s
    simp only [partsL, restsL, List.map_cons, List.sum_cons] at ih ⊢
    rw [Int.mul_add, Int.mul_add, ← ih]
    unfold partOf restOf at *
    omega

section
variable {t s : Int} {ws : List Int}

theorem rest_bd (hs : 0 < s) (w : Int) : 0 ≤ restOf t s w ∧ restOf t s w < s := ⟨Int.emod_nonneg _ (by omega), Int.emod_lt_of_pos _ hs⟩
theorem part_bd (ht : 0 ≤ t) (hs : 0 < s) {w : Int} (hw : 0 ≤ w) (hws : w ≤ s) : 0 ≤ partOf t s w ∧ partOf t s w ≤ t := by
  refine ⟨Int.ediv_nonneg (Int.mul_nonneg ht hw) (by omega), ?_⟩
  unfold partOf
  have h1 : t * w ≤ t * s := Int.mul_le_mul_of_nonneg_left hws ht
  calc t * w / s ≤ t * s / s := Int.ediv_le_ediv hs h1
    _ = t := Int.mul_ediv_cancel _ (by omega)
theorem parts_nonneg (ht : 0 ≤ t) (hs : 0 < s) (hg : ∀ i, i < ws.length → 0 ≤ nth ws i) : ∀ i, i < (partsL t s ws).length → 0 ≤ nth (partsL t s ws) i := fun i hi => by
  have hi' : i < ws.length := by simpa [partsL] using hi
  rw [nth_parts hi']
  exact Int.ediv_nonneg (Int.mul_nonneg ht (hg i hi')) (by omega)

/-- What is left behind the first j. -/
def leftAt (t s : Int) (ws : List Int) (j : Nat) : Int := t - ((partsL t s ws).take j).sum
theorem left_zero : leftAt t s ws 0 = t := by simp [leftAt]
theorem left_succ {j : Nat} (h : j < ws.length) : leftAt t s ws (j + 1) = leftAt t s ws j - partOf t s (nth ws j) := by
  unfold leftAt
  rw [sum_take_succ _ _ (by simpa [partsL] using h), nth_parts h]; omega
theorem left_bd (ht : 0 ≤ t) (hs : 0 < s) (hg : ∀ i, i < ws.length → 0 ≤ nth ws i) (he : ws.sum = s) (j : Nat) : 0 ≤ leftAt t s ws j ∧ leftAt t s ws j ≤ t := by
  have h0 := parts_nonneg (t := t) (s := s) ht hs hg
  have h1 := sum_take_le _ h0 j
  have h3 : 0 ≤ ((partsL t s ws).take j).sum := by
    have := sum_take_le ((partsL t s ws).take j) (fun i hi => by rw [List.length_take] at hi; rw [nth_take (by omega)]; exact h0 i (by omega)) 0
    simpa using this
  have h2 : (partsL t s ws).sum ≤ t := by
    have e := parts_rests t s ws
    rw [he] at e
    have hr : 0 ≤ (restsL t s ws).sum := (sum_bd (restsL t s ws) s fun i hi => by
      have hi' : i < ws.length := by simpa [restsL] using hi
      rw [nth_rests hi']
      have := rest_bd (t := t) hs (nth ws i)
      unfold keyOf; omega).1
    have : s * (partsL t s ws).sum ≤ s * t := by rw [Int.mul_comm s t]; omega
    exact Int.le_of_mul_le_mul_left this hs
  unfold leftAt; omega
theorem left_lt (hs : 0 < s) (he : ws.sum = s) (hn : 0 < ws.length) : leftAt t s ws ws.length < ws.length := by
  have e := parts_rests t s ws
  rw [he] at e
  have hr : (restsL t s ws).sum ≤ (s - 1) * (restsL t s ws).length := (sum_bd (restsL t s ws) (s - 1) fun i hi => by
    have hi' : i < ws.length := by simpa [restsL] using hi
    rw [nth_rests hi']
    have := rest_bd (t := t) hs (nth ws i)
    unfold keyOf; omega).2
  have hl : (restsL t s ws).length = ws.length := by simp [restsL]
  rw [hl] at hr
  unfold leftAt
  rw [show (partsL t s ws).take ws.length = partsL t s ws by rw [List.take_of_length_le]; simp [partsL]]
  have hlt : s * (t - (partsL t s ws).sum) < s * ws.length := by
    rw [Int.mul_sub, Int.mul_comm s t]
    have h1 : (s - 1) * (ws.length : Int) < s * ws.length := Int.mul_lt_mul_of_pos_right (by omega) (by omega)
    omega
  exact Int.lt_of_mul_lt_mul_left hlt (by omega)
end

/-- One more for the first j of an order. -/
def bumped (ps : List Int) (f : Nat → Nat) : Nat → List Int
  | 0 => ps
  | j + 1 => (bumped ps f j).set (f j) (nth (bumped ps f j) (f j) + 1)
theorem bumped_len (ps : List Int) (f : Nat → Nat) : ∀ j, (bumped ps f j).length = ps.length
  | 0 => rfl
  | j + 1 => by rw [bumped, List.length_set]; exact bumped_len ps f j
theorem nth_set {l : List Int} {i k : Nat} {x : Int} (h : k < l.length) : nth (l.set k x) i = if k = i then x else nth l i := by
  unfold nth
  rw [List.getElem?_set]
  split
  · rfl
  · rfl
theorem sum_set {l : List Int} {k : Nat} {x : Int} (h : k < l.length) : (l.set k x).sum = l.sum + x - nth l k := by
  induction l generalizing k with
  | nil => simp at h
  | cons y r ih =>
    cases k with
    | zero => simp [nth]; omega
    | succ k =>
      have := ih (k := k) (by simpa using h)
      simp only [List.set_cons_succ, List.sum_cons, this]
      simp [nth]; omega
theorem bumped_sum (ps : List Int) (f : Nat → Nat) (hf : ∀ k, k < ps.length → f k < ps.length) : ∀ j, j ≤ ps.length → (bumped ps f j).sum = ps.sum + j
  | 0, _ => by simp [bumped]
  | j + 1, h => by
    rw [bumped, sum_set (by rw [bumped_len]; exact hf j (by omega)), bumped_sum ps f hf j (by omega)]
    push_cast; omega
theorem bumped_nth (ps : List Int) (f : Nat → Nat) (hi : ∀ i j, f i = f j → i = j) (hf : ∀ k, k < ps.length → f k < ps.length) : ∀ j, j ≤ ps.length → ∀ i,
    (nth (bumped ps f j) i = nth ps i + 1 ∧ ∃ k, k < j ∧ f k = i) ∨ (nth (bumped ps f j) i = nth ps i ∧ ∀ k, k < j → f k ≠ i)
  | 0, _, i => .inr ⟨rfl, fun k h => by omega⟩
  | j + 1, h, i => by
    have ih := bumped_nth ps f hi hf j (by omega)
    rw [bumped, nth_set (by rw [bumped_len]; exact hf j (by omega))]
    by_cases c : f j = i
    · rw [if_pos c]
      left
      rcases ih (f j) with ⟨_, k, h1, h2⟩ | ⟨h1, _⟩
      · have := hi _ _ h2; omega
      · exact ⟨by rw [h1, c], j, by omega, c⟩
    · rw [if_neg c]
      rcases ih i with ⟨h1, k, h2, h3⟩ | ⟨h1, h2⟩
      · exact .inl ⟨h1, k, by omega, h3⟩
      · refine .inr ⟨h1, fun k hk => ?_⟩
        rcases Nat.lt_or_ge k j with q | q
        · exact h2 k q
        · rw [show k = j by omega]; exact c

/-- An order of the numbers below n. -/
structure Ord (key : Nat → Int) (n : Nat) (f : Nat → Nat) : Prop where
  mv : Mv 0 n (fun k => k) f
  srt : Srt key f 0 n
theorem Ord.lt {key : Nat → Int} {n : Nat} {f : Nat → Nat} (h : Ord key n f) {k : Nat} (hk : k < n) : f k < n := by
  obtain ⟨k', _, u, e⟩ := h.mv.into k (by omega) hk
  rw [e]; exact u
theorem Ord.inj {key : Nat → Int} {n : Nat} {f : Nat → Nat} (h : Ord key n f) : ∀ i j, f i = f j → i = j := h.mv.inj fun _ _ h => h
theorem sub_len : ∀ (l m : List Nat), l.Nodup → l ⊆ m → l.length ≤ m.length
  | [], _, _, _ => by simp
  | x :: r, m, hd, hs => by
    rw [List.nodup_cons] at hd
    have hx : x ∈ m := hs (by simp)
    have h := sub_len r (m.erase x) hd.2 fun y hy => (List.mem_erase_of_ne (fun e : y = x => hd.1 (e ▸ hy))).2 (hs (List.mem_cons_of_mem _ hy))
    rw [List.length_erase_of_mem hx] at h
    have := List.length_pos_of_mem hx
    simp only [List.length_cons]
    omega
/-- Each number has its place. -/
theorem Ord.place {key : Nat → Int} {n : Nat} {f : Nat → Nat} (h : Ord key n f) {i : Nat} (hi : i < n) : ∃ k, k < n ∧ f k = i := by
  refine Classical.byContradiction fun hno => ?_
  have hall : ∀ k, k < n → f k ≠ i := fun k hk e => hno ⟨k, hk, e⟩
  have hl : ((List.range n).map f).Nodup := List.pairwise_map.2 (List.nodup_range.imp fun hab e => hab (h.inj _ _ e))
  have hs : (List.range n).map f ⊆ (List.range n).erase i := by
    intro x hx
    obtain ⟨k, hk, rfl⟩ := List.mem_map.1 hx
    have hk := List.mem_range.1 hk
    exact (List.mem_erase_of_ne (hall k hk)).2 (List.mem_range.2 (h.lt hk))
  have hle := sub_len _ _ hl hs
  rw [List.length_erase_of_mem (List.mem_range.2 hi)] at hle
  simp at hle
  omega

/-- A greater weight does not get less. -/
theorem share_order {t s : Int} {ws : List Int} {f : Nat → Nat} (ht : 0 ≤ t) (hs : 0 < s) (ho : Ord (keyOf t s ws) ws.length f) {L : Nat} (hL : L ≤ ws.length) (hL0 : t = 0 → L = 0)
    {i k : Nat} (hi : i < ws.length) (hk : k < ws.length) (hw : nth ws i < nth ws k) :
    nth (bumped (partsL t s ws) f L) i ≤ nth (bumped (partsL t s ws) f L) k := by
  have hlen : (partsL t s ws).length = ws.length := by simp [partsL]
  have bi := bumped_nth (partsL t s ws) f ho.inj (fun k hk => by rw [hlen] at hk ⊢; exact ho.lt hk) L (by omega) i
  have bk := bumped_nth (partsL t s ws) f ho.inj (fun k hk => by rw [hlen] at hk ⊢; exact ho.lt hk) L (by omega) k
  rw [nth_parts hi] at bi
  rw [nth_parts hk] at bk
  have hmul : t * nth ws i ≤ t * nth ws k := Int.mul_le_mul_of_nonneg_left (by omega) ht
  have hpart : partOf t s (nth ws i) ≤ partOf t s (nth ws k) := Int.ediv_le_ediv hs hmul
  rcases bi with ⟨e1, p, hp, hfp⟩ | ⟨e1, _⟩
  · rcases bk with ⟨e2, _⟩ | ⟨e2, hno⟩
    · omega
    · -- i is among those that get one more, k is not
      rcases (show partOf t s (nth ws i) < partOf t s (nth ws k) ∨ partOf t s (nth ws i) = partOf t s (nth ws k) by omega) with c | c
      · omega
      · exfalso
        have htp : 0 < t := by
          rcases (show t = 0 ∨ 0 < t by omega) with z | z
          · have := hL0 z; omega
          · exact z
        have hlt : t * nth ws i < t * nth ws k := Int.mul_lt_mul_of_pos_left hw htp
        have d1 := Int.mul_ediv_add_emod (t * nth ws i) s
        have d2 := Int.mul_ediv_add_emod (t * nth ws k) s
        unfold partOf at c
        rw [c] at d1
        have hrest : keyOf t s ws i < keyOf t s ws k := by unfold keyOf restOf; omega
        obtain ⟨q, hq, hfq⟩ := ho.place hk
        have hqL : L ≤ q := by
          rcases Nat.lt_or_ge q L with z | z
          · exact absurd hfq (hno q z)
          · exact z
        have := ho.srt p q (by omega) (by omega) hq
        rw [hfp, hfq] at this
        unfold Bef at this; omega
  · rcases bk with ⟨e2, _⟩ | ⟨e2, _⟩ <;> omega

end Go.Proofs.Ytckelojdjmaliaa
namespace Go.Proofs.Ytckelojdjmaliaa

/-- How many of a list an element comes before. -/
def rankK {α : Type} (lt : α → α → Bool) (L : List α) (x : α) : Int := ((L.countP fun z => lt x z : Nat) : Int)
theorem countP_lt {α : Type} {p q : α → Bool} : ∀ {L : List α}, (∀ z ∈ L, p z = true → q z = true) → ∀ {y : α}, y ∈ L → p y = false → q y = true → L.countP p < L.countP q
  | [], _, _, hy, _, _ => by cases hy
  | a :: r, h, y, hy, h1, h2 => by
    have hm : r.countP p ≤ r.countP q := List.countP_mono_left fun z hz => h z (List.mem_cons_of_mem _ hz)
    rw [List.countP_cons, List.countP_cons]
    rcases List.mem_cons.1 hy with e | e
    · subst e; rw [h1, h2]; simp; omega
    · have ih := countP_lt (fun z hz => h z (List.mem_cons_of_mem _ hz)) e h1 h2
      have ha := h a (by simp)
      cases hp : p a <;> cases hq : q a <;> simp_all <;> omega
/-- Ranks tell the order. -/
theorem rank_iff {α : Type} {lt : α → α → Bool} {L : List α} (hir : ∀ x ∈ L, lt x x = false) (htr : ∀ x ∈ L, ∀ y ∈ L, ∀ z ∈ L, lt x y = true → lt y z = true → lt x z = true)
    (hnt : ∀ x ∈ L, ∀ y ∈ L, ∀ z ∈ L, lt x z = true → lt x y = true ∨ lt y z = true) {x y : α} (hx : x ∈ L) (hy : y ∈ L) : rankK lt L y < rankK lt L x ↔ lt x y = true := by
  unfold rankK
  constructor
  · intro h
    cases hc : lt x y with
    | true => rfl
    | false =>
      have : L.countP (fun z => lt x z) ≤ L.countP (fun z => lt y z) := List.countP_mono_left fun z hz e => by
        rcases hnt x hx y hy z hz e with q | q
        · rw [hc] at q; cases q
        · exact q
      omega
  · intro h
    have := countP_lt (p := fun z => lt y z) (q := fun z => lt x z) (fun z hz e => htr x hx y hy z hz h e) hy (hir y hy) h
    omega

/-- The numbers below n, in the order of their keys, each behind those of its key that are less. -/
structure Sti (key : Nat → Int) (n : Nat) (l : List Nat) : Prop where
  perm : l.Perm (List.range n)
  srt : l.Pairwise (Bef key)
theorem Bef.not {key : Nat → Int} {x y : Nat} (h : Bef key x y) : ¬ Bef key y x := by unfold Bef at *; omega
theorem Sti.one {key : Nat → Int} {n : Nat} {a b : List Nat} (ha : Sti key n a) (hb : Sti key n b) : a = b :=
  List.Perm.eq_of_pairwise (le := Bef key) (fun _ _ _ _ h1 h2 => absurd h2 h1.not) ha.srt hb.srt (ha.perm.trans hb.perm.symm)
theorem Sti.len {key : Nat → Int} {n : Nat} {l : List Nat} (h : Sti key n l) : l.length = n := by rw [h.perm.length_eq, List.length_range]
theorem Sti.lt {key : Nat → Int} {n : Nat} {l : List Nat} (h : Sti key n l) {x : Nat} (hx : x ∈ l) : x < n := List.mem_range.1 (h.perm.mem_iff.1 hx)
theorem Sti.nil (key : Nat → Int) : Sti key 0 [] := ⟨List.Perm.refl _, List.Pairwise.nil⟩
theorem Sti.ofOrd {key : Nat → Int} {n : Nat} {f : Nat → Nat} (h : Ord key n f) : Sti key n ((List.range n).map f) := by
  refine ⟨?_, ?_⟩
  · refine (List.perm_ext_iff_of_nodup ?_ List.nodup_range).2 fun x => ?_
    · exact List.pairwise_map.2 (List.nodup_range.imp fun hab e => hab (h.inj _ _ e))
    · constructor
      · intro hx
        obtain ⟨k, hk, rfl⟩ := List.mem_map.1 hx
        exact List.mem_range.2 (h.lt (List.mem_range.1 hk))
      · intro hx
        obtain ⟨k, hk, e⟩ := h.place (List.mem_range.1 hx)
        exact List.mem_map.2 ⟨k, List.mem_range.2 hk, e⟩
  · refine List.pairwise_map.2 ?_
    rw [List.pairwise_iff_getElem]
    intro i j hi hj hij
    simp only [List.length_range] at hi hj
    simp only [List.getElem_range]
    exact h.srt i j (Nat.zero_le _) hij hj
/-- One more is put where it belongs. -/
theorem Sti.put {key : Nat → Int} {n : Nat} {l : List Nat} (h : Sti key n l) {p : Nat} (hp : p ≤ n) (hl : p = 0 ∨ ¬ key (l.getD (p - 1) 0) < key n) (hr : p = n ∨ key (l.getD p 0) < key n) :
    Sti key (n + 1) (l.take p ++ n :: l.drop p) := by
  have hlen := h.len
  refine ⟨?_, ?_⟩
  · rw [List.range_succ]
    have e : (l.take p ++ n :: l.drop p).Perm (n :: (l.take p ++ l.drop p)) := List.perm_middle
    rw [List.take_append_drop] at e
    exact e.trans ((List.Perm.cons n h.perm).trans (List.perm_append_comm (l₁ := [n]) (l₂ := List.range n)))
  · have hs : (l.take p ++ l.drop p).Pairwise (Bef key) := by rw [List.take_append_drop]; exact h.srt
    obtain ⟨s1, s2, s3⟩ := List.pairwise_append.1 hs
    have hbl : ∀ x ∈ l.take p, Bef key x n := by
      intro x hx
      rcases hl with e | e
      · subst e; simp at hx
      · have hp0 : 0 < p := by rcases Nat.eq_zero_or_pos p with q | q; · subst q; simp at hx
                               · exact q
        obtain ⟨i, hi, ex⟩ := List.mem_iff_getElem.1 hx
        rw [List.length_take] at hi
        have hxn : x < n := h.lt (List.mem_of_mem_take hx)
        have hp1 : p - 1 < l.length := by omega
        rw [List.getD_eq_getElem?_getD, List.getElem?_eq_getElem hp1] at e
        simp only [Option.getD_some] at e
        have hq : Bef key l[p - 1] n := (bef_not (h.lt (List.getElem_mem hp1))).2 e
        have hxi : x = l[i] := by rw [← ex, List.getElem_take]
        rcases Nat.lt_or_ge i (p - 1) with c | c
        · have := List.pairwise_iff_getElem.1 h.srt i (p - 1) (by omega) hp1 c
          rw [hxi]; exact this.trans hq
        · have : i = p - 1 := by omega
          subst this; rw [hxi]; exact hq
    have hbr : ∀ x ∈ l.drop p, Bef key n x := by
      intro x hx
      obtain ⟨i, hi, ex⟩ := List.mem_iff_getElem.1 hx
      rw [List.length_drop] at hi
      rcases hr with e | e
      · omega
      · have hp1 : p < l.length := by omega
        rw [List.getD_eq_getElem?_getD, List.getElem?_eq_getElem hp1] at e
        simp only [Option.getD_some] at e
        have hq : Bef key n l[p] := (bef_iff (h.lt (List.getElem_mem hp1))).2 e
        have hxi : x = l[p + i] := by rw [← ex, List.getElem_drop]
        rcases Nat.eq_zero_or_pos i with c | c
        · subst c; rw [hxi]; exact hq
        · have := List.pairwise_iff_getElem.1 h.srt p (p + i) hp1 (by omega) (by omega)
          rw [hxi]; exact hq.trans this
    refine List.pairwise_append.2 ⟨s1, List.pairwise_cons.2 ⟨hbr, s2⟩, fun x hx y hy => ?_⟩
    rcases List.mem_cons.1 hy with e | e
    · subst e; exact hbl x hx
    · exact s3 x hx y e
/-- Where it belongs: ahead of those at the end that it comes before. -/
def insP (key : Nat → Int) (l : List Nat) (z : Int) : Nat → Nat
  | 0 => 0
  | p + 1 => if key (l.getD p 0) < z then insP key l z p else p + 1
theorem insP_is (key : Nat → Int) (l : List Nat) (z : Int) : ∀ p, insP key l z p ≤ p ∧ (insP key l z p = 0 ∨ ¬ key (l.getD (insP key l z p - 1) 0) < z) ∧ (∀ i, insP key l z p ≤ i → i < p → key (l.getD i 0) < z)
  | 0 => ⟨Nat.le_refl _, .inl rfl, fun i h1 h2 => by omega⟩
  | p + 1 => by
    by_cases c : key (l.getD p 0) < z
    · have e : insP key l z (p + 1) = insP key l z p := by unfold insP; rw [if_pos c]; cases p <;> rfl
      obtain ⟨h1, h2, h3⟩ := insP_is key l z p
      rw [e]
      exact ⟨by omega, h2, fun i a b => by
        rcases Nat.lt_or_ge i p with d | d
        · exact h3 i a d
        · rw [show i = p by omega]; exact c⟩
    · have e : insP key l z (p + 1) = p + 1 := by unfold insP; rw [if_neg c]
      rw [e]
      exact ⟨Nat.le_refl _, .inr (by simpa using c), fun i a b => by omega⟩
/-- The order of the numbers below n. -/
def stI (key : Nat → Int) : Nat → List Nat
  | 0 => []
  | n + 1 => (stI key n).take (insP key (stI key n) (key n) n) ++ n :: (stI key n).drop (insP key (stI key n) (key n) n)
theorem stI_is (key : Nat → Int) : ∀ n, Sti key n (stI key n)
  | 0 => Sti.nil key
  | n + 1 => by
    have h := stI_is key n
    obtain ⟨h1, h2, h3⟩ := insP_is key (stI key n) (key n) n
    exact h.put h1 h2 (by
      rcases Nat.lt_or_ge (insP key (stI key n) (key n) n) n with c | c
      · exact .inr (h3 _ (Nat.le_refl _) c)
      · exact .inl (by omega))
theorem stI_of {key : Nat → Int} {n : Nat} {l : List Nat} (h : Sti key n l) : l = stI key n := h.one (stI_is key n)
end Go.Proofs.Ytckelojdjmaliaa
namespace Go.Proofs.Ytckelojdjmaliaa
open Go.RowKit

def setL : List Value → Nat → List Value → List Value
  | xs, _, [] => xs
  | xs, o, v :: r => setL (xs.set o v) (o + 1) r
theorem own_setV {w : World} {base e s g cap n : Nat} {xs : List Value} (h : w.ownsRow base e s (.slice (some ⟨g, 0, none⟩) n cap) n xs) {i : Nat} (v : Value) : (w.setCell ⟨g, i, none⟩ v).ownsRow base e s (.slice (some ⟨g, 0, none⟩) n cap) n (xs.set i v) := by
  rcases h.2 with ⟨hv, _⟩ | ⟨g', cap', cur, hv, hb, hg, h1, h2, h3, h4⟩
  · cases hv
  · injection hv with e1 e2 e3
    injection e1 with e1; injection e1 with e1 _ _
    subst e1; subst e3
    refine ⟨by rw [List.length_set]; exact h.1, .inr ⟨g, cap, cur.setIfInBounds i v, rfl, hb, mblock_set hg _, h1, h2, by rw [Array.size_setIfInBounds]; exact h3, ?_⟩⟩
    rw [Array.toList_setIfInBounds, List.take_set, h4]
theorem own_setCells {base e s g cap n : Nat} : ∀ (vs : List Value) (o : Nat) {w : World} {xs : List Value}, w.ownsRow base e s (.slice (some ⟨g, 0, none⟩) n cap) n xs → (w.setCells g o vs).ownsRow base e s (.slice (some ⟨g, 0, none⟩) n cap) n (setL xs o vs)
  | [], _, _, _, h => h
  | v :: r, o, _, _, h => own_setCells r (o + 1) (own_setV h v)
theorem setL_mid : ∀ (vs B A C : List Value), B.length = vs.length → setL (A ++ B ++ C) A.length vs = A ++ vs ++ C
  | [], [], A, C, _ => by simp [setL]
  | [], b :: B, A, C, h => by simp at h
  | v :: r, [], A, C, h => by simp at h
  | v :: r, b :: B, A, C, h => by
    have e : (A ++ b :: B ++ C).set A.length v = (A ++ [v]) ++ B ++ C := by simp
    show setL ((A ++ b :: B ++ C).set A.length v) (A.length + 1) r = _
    rw [e, show A.length + 1 = (A ++ [v]).length by simp, setL_mid r B (A ++ [v]) C (by simpa using h)]
    simp
theorem setL_flat {α : Type} (cs : α → List Value) (K : Nat) (hk : ∀ x, (cs x).length = K) (L : List α) (i : Nat) (x : α) (hi : i < L.length) : setL (L.flatMap cs) (i * K) (cs x) = (L.set i x).flatMap cs := by
  have e1 : L = L.take i ++ L[i] :: L.drop (i + 1) := by
    rw [← List.drop_eq_getElem_cons hi, List.take_append_drop]
  have e2 : L.set i x = L.take i ++ x :: L.drop (i + 1) := List.set_eq_take_append_cons_drop.trans (by rw [if_pos hi])
  have e3 : ((L.take i).flatMap cs).length = i * K := by rw [mflat_len cs K hk, List.length_take]; congr 1; omega
  rw [e2]
  have e4 : L.flatMap cs = (L.take i).flatMap cs ++ cs L[i] ++ (L.drop (i + 1)).flatMap cs := by
    have q := congrArg (List.flatMap cs) e1
    rw [List.flatMap_append, List.flatMap_cons] at q
    rw [List.append_assoc]; exact q
  rw [e4, ← e3, setL_mid _ _ _ _ (by rw [hk, hk])]
  simp
theorem setCells_grown (g : Nat) : ∀ (vs : List Value) (o : Nat) (w : World), w.grownBy (w.setCells g o vs) (some g)
  | [], _, w => World.grownBy.refl _ _
  | v :: r, o, w => by
    have h : w.grownBy (w.setCell ⟨g, o, none⟩ v) (some g) := ⟨rfl, rfl, rfl, by simp [World.setCell], fun j hj hne => Below.heap_setCell _ _ _ _ (by show j ≠ g; exact fun e => hne (by rw [e]))⟩
    exact h.trans (setCells_grown g r (o + 1) _)
section
variable {α : Type} {cs : α → List Value} {K : Nat} {w : World} {base e g cap n : Nat} {L : List α}
theorem own_set (hk : ∀ x, (cs x).length = K) (h : w.ownsRow base e K (.slice (some ⟨g, 0, none⟩) n cap) n (L.flatMap cs)) (hl : L.length = n) {i : Nat} (hi : i < n) (x : α) :
    (w.setCells g (i * K) (cs x)).ownsRow base e K (.slice (some ⟨g, 0, none⟩) n cap) n ((L.set i x).flatMap cs) := by
  have q := own_setCells (cs x) (i * K) h
  rwa [setL_flat cs K hk L i x (by omega)] at q
theorem own_cellK (hk : ∀ x, (cs x).length = K) (h : w.ownsRow base e K (.slice (some ⟨g, 0, none⟩) n cap) n (L.flatMap cs)) (hl : L.length = n) {i c : Nat} (hi : i < n) {x : α} (hx : L[i]? = some x) {v : Value} (hv : (cs x)[c]? = some v) :
    w.cell? ⟨g, i * K + c, none⟩ = some v := by
  subst hl
  obtain ⟨ao, cp, hs, _, hr, _⟩ := own_rows (cs := cs) hk h
  injection hs with e1 _ _
  subst e1
  have hx2 : L[i] = x := by rw [List.getElem?_eq_getElem hi] at hx; exact Option.some.inj hx
  have q := hr.cells _ rfl i hi c v (by rw [hx2]; exact hv)
  simpa using q
theorem own_freeK (h : w.ownsRow base e K (.slice (some ⟨g, 0, none⟩) n cap) n (L.flatMap cs)) (j : Nat) : w.frozen? ⟨g, j, none⟩ = false := by
  rcases h.2 with ⟨hv, _⟩ | ⟨g', cap', cur, hv, hb, hg, _⟩
  · cases hv
  · injection hv with e1 e2 e3
    injection e1 with e1; injection e1 with e1 _ _
    subst e1
    exact mblock_free hg
end

/-- One more number at a place. -/
def insAt (l : List Nat) (n p : Nat) : List Nat := l.take p ++ n :: l.drop p
theorem insAt_len (l : List Nat) (n p : Nat) : (insAt l n p).length = l.length + 1 := by
  unfold insAt; simp only [List.length_append, List.length_take, List.length_cons, List.length_drop]; omega
theorem insAt_end (l : List Nat) (n : Nat) : insAt l n l.length = l ++ [n] := by unfold insAt; simp
theorem insAt_at {l : List Nat} {n p : Nat} (h : p ≤ l.length) : (insAt l n p)[p]? = some n := by
  unfold insAt
  rw [List.getElem?_append_right (by rw [List.length_take]; omega), List.length_take, show p - min p l.length = 0 by omega]
  rfl
theorem insAt_before {l : List Nat} {n p i : Nat} (h : p ≤ l.length) (hi : i < p) : (insAt l n p)[i]? = some (l.getD i 0) := by
  unfold insAt
  rw [List.getElem?_append_left (by rw [List.length_take]; omega), List.getElem?_take_of_lt hi, List.getD_eq_getElem?_getD, List.getElem?_eq_getElem (by omega)]
  rfl
theorem insAt_move {α : Type} (c : Nat → α) (l : List Nat) (n p : Nat) (h : p + 1 ≤ l.length) : (((insAt l n (p + 1)).map c).set (p + 1) (c (l.getD p 0))).set p (c n) = (insAt l n p).map c := by
  have hp : l.getD p 0 = l[p] := by rw [List.getD_eq_getElem?_getD, List.getElem?_eq_getElem (by omega)]; rfl
  have e1 : l.take (p + 1) = l.take p ++ [l[p]] := List.take_succ_eq_append_getElem (by omega)
  have e2 : l.drop p = l[p] :: l.drop (p + 1) := List.drop_eq_getElem_cons (by omega)
  have e3 : insAt l n (p + 1) = l.take p ++ l[p] :: n :: l.drop (p + 1) := by unfold insAt; rw [e1, List.append_assoc]; rfl
  have e4 : insAt l n p = l.take p ++ n :: l[p] :: l.drop (p + 1) := by unfold insAt; rw [e2]
  have hl : ((l.take p).map c).length = p := by rw [List.length_map, List.length_take]; omega
  rw [e3, e4, hp]
  simp only [List.map_append, List.map_cons]
  rw [List.set_append_right _ _ (by omega), List.set_append_right _ _ (by omega), hl, show p + 1 - p = 1 by omega, Nat.sub_self]
  rfl
theorem set_behind {α : Type} (C X : List α) (k : Nat) (x : α) : (C ++ X).set (C.length + k) x = C ++ X.set k x := by
  rw [List.set_append_right _ _ (by omega), Nat.add_sub_cancel_left]
end Go.Proofs.Ytckelojdjmaliaa
/- The plain reading of texts: what a taker takes, what numbers, pairs, digits, words and sixties are read, said of the list of bytes that is left. No program. -/
namespace Go.Proofs.Ytckelojdjmaliaa

/-- The next byte, if it lies from lo to hi. -/
def tkV (lo hi : Int) : List Nat → Option Nat
  | [] => none
  | c :: _ => if lo ≤ (c : Int) ∧ (c : Int) ≤ hi then some c else none

/-- What is read: the value, whether all was there, how many bytes were taken. -/
structure Got where
  val : Int
  ok : Bool
  used : Nat

/-- More digits of a number that is to stay at most 'most'. -/
def numMore (most : Int) : List Nat → Int → Int × Nat
  | [], n => (n, 0)
  | c :: r, n => if 0 < n ∧ 10 * n ≤ most ∧ 48 ≤ (c : Int) ∧ (c : Int) ≤ 48 + min (most - 10 * n) 9 then ((numMore most r (10 * n + ((c : Int) - 48))).1, (numMore most r (10 * n + ((c : Int) - 48))).2 + 1) else (n, 0)

def numV (least most : Int) (R : List Nat) : Got :=
  match tkV (48 + least) 57 R with
  | none => ⟨0, false, 0⟩
  | some c => ⟨(numMore most R.tail ((c : Int) - 48)).1, true, (numMore most R.tail ((c : Int) - 48)).2 + 1⟩

def wordV : List Nat → List Nat → Bool × Nat
  | [], _ => (true, 0)
  | _ :: _, [] => (false, 0)
  | c :: w, d :: r => if d = c then ((wordV w r).1, (wordV w r).2 + 1) else (false, 0)

def pairV (most : Int) (R : List Nat) : Got :=
  match tkV 48 (48 + most / 10) R with
  | none => ⟨0, false, 0⟩
  | some t =>
    match tkV 48 (if (t : Int) = 48 + most / 10 then 48 + most % 10 else 57) R.tail with
    | none => ⟨0, false, 1⟩
    | some o => ⟨10 * ((t : Int) - 48) + ((o : Int) - 48), true, 2⟩

/-- The rounds of a time with colons: so many pairs are to come; whether all was there so far; so many seconds; so many bytes taken. -/
def sixtyV : Nat → Bool → List Nat → Int → Nat → Got
  | 0, ok, _, n, u => ⟨n, ok, u⟩
  | _ + 1, false, _, _, u => ⟨0, false, u⟩
  | p + 1, true, R, n, u =>
    if (wordV [58] R).1 then sixtyV p (pairV 59 (R.drop (wordV [58] R).2)).ok (R.drop ((wordV [58] R).2 + (pairV 59 (R.drop (wordV [58] R).2)).used)) (60 * n + (pairV 59 (R.drop (wordV [58] R).2)).val) (u + (wordV [58] R).2 + (pairV 59 (R.drop (wordV [58] R).2)).used)
    else ⟨0, false, u + (wordV [58] R).2⟩

def inSixtiesV (least most : Int) (pairs : Nat) (R : List Nat) : Got :=
  sixtyV pairs (numV least most R).ok (R.drop (numV least most R).used) (numV least most R).val (numV least most R).used

def letterAt (j : Nat) : Nat := if j = 0 then 104 else if j = 1 then 109 else 115
def sizeAt (j : Nat) : Int := if j = 0 then 3600 else if j = 1 then 60 else 1

/-- The first letter from the j-th one on that stands here; 3: none. -/
def findV (j : Nat) (R : List Nat) : Nat :=
  if j < 3 then (if (wordV [letterAt j] R).1 then j else findV (j + 1) R) else j
termination_by 3 - j

theorem findV_ge (j : Nat) (R : List Nat) : j ≤ findV j R := by
  unfold findV; split
  · split
    · omega
    · have := findV_ge (j + 1) R; omega
  · omega
termination_by 3 - j

/-- Numbers with letters, from the j-th letter on. -/
def partsV (j : Nat) (R : List Nat) (sec : Int) (u : Nat) : Got :=
  if j < 3 then
    if (numV 0 9999999 R).ok then
      if findV j (R.drop (numV 0 9999999 R).used) < 3 then
        partsV (findV j (R.drop (numV 0 9999999 R).used) + 1) (R.drop ((numV 0 9999999 R).used + 1)) (sec + (numV 0 9999999 R).val * sizeAt (findV j (R.drop (numV 0 9999999 R).used))) (u + (numV 0 9999999 R).used + 1)
      else ⟨0, false, u + (numV 0 9999999 R).used⟩
    else ⟨sec, decide (0 < j), u⟩
  else ⟨sec, true, u⟩
termination_by 3 - j
decreasing_by have := findV_ge j (R.drop (numV 0 9999999 R).used); omega

theorem tkV_bd {lo hi : Int} {R : List Nat} {c : Nat} (h : tkV lo hi R = some c) : lo ≤ (c : Int) ∧ (c : Int) ≤ hi ∧ R = c :: R.tail := by
  cases R with
  | nil => simp [tkV] at h
  | cons d r =>
    simp only [tkV] at h
    split at h
    · simp at h; subst h; simp_all
    · simp at h

theorem numMore_le (most : Int) : ∀ (R : List Nat) (n : Int), (numMore most R n).2 ≤ R.length
  | [], n => by simp [numMore]
  | c :: r, n => by
    unfold numMore; split
    · have := numMore_le most r (10 * n + ((c : Int) - 48)); simp; omega
    · simp

theorem numMore_bd (most : Int) : ∀ (R : List Nat) (n : Int), 0 ≤ n → n ≤ most → 0 ≤ (numMore most R n).1 ∧ (numMore most R n).1 ≤ most
  | [], n, h0, h1 => by simp [numMore]; omega
  | c :: r, n, h0, h1 => by
    unfold numMore; split
    · exact numMore_bd most r (10 * n + ((c : Int) - 48)) (by omega) (by omega)
    · exact ⟨h0, h1⟩

theorem numV_le (least most : Int) (R : List Nat) : (numV least most R).used ≤ R.length := by
  unfold numV; split
  · simp
  · rename_i c h
    have := (tkV_bd h).2.2
    have h2 := numMore_le most R.tail ((c : Int) - 48)
    rw [this]; simp; simpa using h2

theorem numV_bd (least most : Int) (R : List Nat) (h0 : 0 ≤ least) (h9 : 9 ≤ most) : 0 ≤ (numV least most R).val ∧ (numV least most R).val ≤ most := by
  unfold numV; split
  · simp; omega
  · rename_i c h
    have := tkV_bd h
    exact numMore_bd most R.tail _ (by omega) (by omega)

theorem wordV_le : ∀ (w R : List Nat), (wordV w R).2 ≤ R.length
  | [], R => by simp [wordV]
  | _ :: _, [] => by simp [wordV]
  | c :: w, d :: r => by
    unfold wordV; split
    · have := wordV_le w r; simp; omega
    · simp

theorem pairV_le (most : Int) (R : List Nat) : (pairV most R).used ≤ R.length := by
  unfold pairV; split
  · simp
  · rename_i t h
    have h1 := (tkV_bd h).2.2
    split
    · rw [h1]; simp
    · rename_i o h'
      have h2 := (tkV_bd h').2.2
      rw [h1, h2]; simp

theorem pairV_bd (most : Int) (R : List Nat) (h0 : 0 ≤ most) (h9 : most ≤ 99) : 0 ≤ (pairV most R).val ∧ (pairV most R).val ≤ most := by
  unfold pairV; split
  · simp; omega
  · rename_i t h
    have h1 := tkV_bd h
    split
    · simp; omega
    · rename_i o h'
      have h2 := tkV_bd h'
      simp only
      split at h2 <;> omega

theorem wordV_no {c : Nat} {w R : List Nat} (h : tkV c c R = none) : wordV (c :: w) R = (false, 0) := by
  cases R with
  | nil => rfl
  | cons d r =>
    simp only [tkV] at h
    split at h
    · simp at h
    · unfold wordV; rw [if_neg (by omega)]
theorem wordV_yes {c x : Nat} {w R : List Nat} (h : tkV c c R = some x) : wordV (c :: w) R = ((wordV w R.tail).1, (wordV w R.tail).2 + 1) := by
  cases R with
  | nil => simp [tkV] at h
  | cons d r =>
    simp only [tkV] at h
    split at h
    · rw [wordV, if_pos (by omega)]; rfl
    · simp at h
theorem numMore_no {most n : Int} {R : List Nat} (h : 0 < n → 10 * n ≤ most → tkV 48 (48 + min (most - 10 * n) 9) R = none) : numMore most R n = (n, 0) := by
  cases R with
  | nil => rfl
  | cons c r =>
    unfold numMore; rw [if_neg]
    rintro ⟨h1, h2, h3, h4⟩
    have := h h1 h2
    simp only [tkV] at this
    rw [if_pos ⟨h3, h4⟩] at this; simp at this
theorem numMore_yes {most n : Int} {R : List Nat} {c : Nat} (h1 : 0 < n) (h2 : 10 * n ≤ most) (h : tkV 48 (48 + min (most - 10 * n) 9) R = some c) :
    numMore most R n = ((numMore most R.tail (10 * n + ((c : Int) - 48))).1, (numMore most R.tail (10 * n + ((c : Int) - 48))).2 + 1) := by
  cases R with
  | nil => simp [tkV] at h
  | cons d r =>
    simp only [tkV] at h
    split at h
    · rename_i h3; simp at h; subst h
      rw [numMore, if_pos ⟨h1, h2, h3.1, h3.2⟩]; rfl
    · simp at h

theorem findV_yes {j : Nat} {R : List Nat} (hj : j < 3) (h : (wordV [letterAt j] R).1 = true) : findV j R = j := by rw [findV, if_pos hj, if_pos h]
theorem findV_no {j : Nat} {R : List Nat} (hj : j < 3) (h : (wordV [letterAt j] R).1 = false) : findV j R = findV (j + 1) R := by rw [findV, if_pos hj, if_neg (by simp [h])]
theorem findV_end (R : List Nat) : findV 3 R = 3 := by rw [findV, if_neg (by omega)]
theorem word1_no {c : Nat} {R : List Nat} (h : (wordV [c] R).1 = false) : wordV [c] R = (false, 0) := by
  cases R with
  | nil => rfl
  | cons d r =>
    unfold wordV at h ⊢
    split
    · rename_i e; rw [if_pos e] at h; simp [wordV] at h
    · rfl
theorem word1_yes {c : Nat} {R : List Nat} (h : (wordV [c] R).1 = true) : wordV [c] R = (true, 1) := by
  cases R with
  | nil => simp [wordV] at h
  | cons d r =>
    unfold wordV at h ⊢
    split
    · simp [wordV]
    · rename_i e; rw [if_neg e] at h; simp at h
theorem numV_no {least most : Int} {R : List Nat} (h : (numV least most R).ok = false) : (numV least most R).used = 0 := by
  unfold numV at h ⊢; split
  · rfl
  · rename_i h'; rw [h'] at h; simp at h

end Go.Proofs.Ytckelojdjmaliaa
namespace Go.Proofs.Ytckelojdjmaliaa
open Go.RowKit

theorem ret_uu {a b c d : Int} (h : a = b) (h' : c = d) : Ending.returned (.tuple #[.int .u64 a, .int .u64 c]) = .returned (.tuple #[.int .u64 b, .int .u64 d]) := by rw [h, h']
theorem ret_iii {k k' k'' : IntKind} {a b c d e f : Int} (h : a = b) (h' : c = d) (h'' : e = f) : Ending.returned (.tuple #[.int k a, .int k' c, .int k'' e]) = .returned (.tuple #[.int k b, .int k' d, .int k'' f]) := by rw [h, h', h'']

/-- The place of a taker lies in block a, its text in block b. -/
structure At (w : World) (a b : Nat) (s : ByteArray) (k : Nat) : Prop where
  hA : w.heap[a]? = some (.cells #[.int .i64 k] 3 (0, 0))
  hB : w.heap[b]? = some (.cells #[.string s] 9 (0, 0))
  sz : s.size ≤ 140737488351232
  le : k ≤ s.size

structure Moved (w w' : World) (a b : Nat) (s : ByteArray) (k : Nat) : Prop where
  pos : At w' a b s k
  g : w.grownBy w' (some a)

/-- The bytes that are left from a place on. -/
def rem (s : ByteArray) (k : Nat) : List Nat := (s.data.toList.drop k).map UInt8.toNat

theorem grown_drew (w : World) (r : Option Nat) : w.grownBy w.drew r := ⟨rfl, rfl, rfl, Nat.le_refl _, fun _ _ _ => rfl⟩

theorem At.lt {w : World} {a b : Nat} {s : ByteArray} {k : Nat} (h : At w a b s k) : a < w.heap.size ∧ b < w.heap.size ∧ a ≠ b :=
  ⟨lt_of_block h.hA, lt_of_block h.hB, fun e => by have h1 := h.hA; have h2 := h.hB; rw [e, h2] at h1; simp at h1⟩
theorem At.refl {w : World} {a b : Nat} {s : ByteArray} {k : Nat} (h : At w a b s k) : Moved w w a b s k := ⟨h, grown_refl _ _⟩
theorem At.drewN {w : World} {a b : Nat} {s : ByteArray} {k : Nat} (h : At w a b s k) (n : Nat) : At (w.drewN n) a b s k := ⟨h.hA, h.hB, h.sz, h.le⟩
theorem Moved.drew {w w' : World} {a b : Nat} {s : ByteArray} {k : Nat} (h : Moved w w' a b s k) : Moved w w'.drew a b s k := ⟨⟨h.pos.hA, h.pos.hB, h.pos.sz, h.pos.le⟩, h.g.os, h.g.tape, h.g.output, h.g.size, h.g.block⟩
theorem Moved.drewN {w w' : World} {a b : Nat} {s : ByteArray} {k : Nat} (h : Moved w w' a b s k) (n : Nat) : Moved w (w'.drewN n) a b s k := ⟨⟨h.pos.hA, h.pos.hB, h.pos.sz, h.pos.le⟩, h.g.os, h.g.tape, h.g.output, h.g.size, h.g.block⟩
theorem At.drew {w : World} {a b : Nat} {s : ByteArray} {k : Nat} (h : At w a b s k) : At w.drew a b s k := ⟨h.hA, h.hB, h.sz, h.le⟩
theorem Moved.eq {w w' : World} {a b : Nat} {s : ByteArray} {k k' : Nat} (h : Moved w w' a b s k) (e : k = k') : Moved w w' a b s k' := e ▸ h
theorem Moved.trans {w1 w2 w3 : World} {a b : Nat} {s : ByteArray} {k k' : Nat} (h : Moved w1 w2 a b s k) (h' : Moved w2 w3 a b s k') : Moved w1 w3 a b s k' := ⟨h'.pos, grown_trans h.g h'.g⟩
theorem At.step {w : World} {a b : Nat} {s : ByteArray} {k : Nat} (h : At w a b s k) (hk : k < s.size) : Moved w (w.setCell ⟨a, 0, none⟩ (.int .i64 (k + 1 : Nat))) a b s (k + 1) := by
  have hl := h.lt
  refine ⟨⟨one_setCell h.hA, ?_, h.sz, by omega⟩, rfl, rfl, rfl, by simp [World.setCell], fun j _ hr => Below.heap_setCell _ _ _ _ (fun e => hr (by rw [e]))⟩
  rw [Below.heap_setCell _ _ _ _ (fun e => hl.2.2 e.symm)]; exact h.hB
/-- A new block leaves the place. -/
theorem At.grown {w w' : World} {a b : Nat} {s : ByteArray} {k : Nat} (h : At w a b s k) (g : w.grownBy w' none) : Moved w w' a b s k :=
  ⟨⟨by rw [g.block a h.lt.1 (by simp)]; exact h.hA, by rw [g.block b h.lt.2.1 (by simp)]; exact h.hB, h.sz, h.le⟩, g.os, g.tape, g.output, g.size, fun j hj _ => g.block j hj (by simp)⟩

theorem Moved.block {w w' : World} {a b : Nat} {s : ByteArray} {k z : Nat} {o : Obj} (h : Moved w w' a b s k) (hz : w.heap[z]? = some o) (ne : z ≠ a) : w'.heap[z]? = some o := by
  rw [h.g.block z (lt_of_block hz) (fun e => ne (by simpa using e))]; exact hz
/-- Draws on the way. -/
theorem Moved.from {w w' w1 : World} {a b : Nat} {s : ByteArray} {k k' : Nat} (h : Moved w w' a b s k) (h' : Moved w'.drew w1 a b s k') : Moved w w1 a b s k' := h.drew.trans h'

theorem rem_nil {s : ByteArray} {k : Nat} (h : s.size ≤ k) : rem s k = [] := by
  unfold rem; rw [List.drop_eq_nil_of_le (by simpa using h)]; rfl
theorem rem_cons {s : ByteArray} {k : Nat} (h : k < s.size) : rem s k = s[k].toNat :: rem s (k + 1) := by
  unfold rem
  have h' : k < s.data.toList.length := by simpa using h
  rw [List.drop_eq_getElem_cons h']; rfl
theorem rem_tail (s : ByteArray) (k : Nat) : (rem s k).tail = rem s (k + 1) := by
  unfold rem; rw [← List.map_tail, List.tail_drop]
theorem rem_drop (s : ByteArray) (k n : Nat) : (rem s k).drop n = rem s (k + n) := by
  unfold rem; rw [← List.map_drop, List.drop_drop]
theorem rem_len (s : ByteArray) (k : Nat) : (rem s k).length = s.size - k := by unfold rem; simp
end Go.Proofs.Ytckelojdjmaliaa
namespace Go.Proofs.Ytckelojdjmaliaa
open Go.RowKit
set_option linter.unusedSimpArgs false
set_option linter.unusedVariables false

def psg_E (e0 : Nat → Int) (e1 : Nat → Int) (e2 : Nat → Int) (x : Nat) : List Value := [.int .i64 (e0 x), .int .i64 (e1 x), .int .i64 (e2 x)]

set_option maxRecDepth 100000 in
set_option maxHeartbeats 3200000 in
theorem psg_swapRange {w0 : World} {g off n G : Nat} {CB : Array Value} {cf : Nat → Nat → Int} {key : Nat → Int} {e0 : Nat → Int} {e1 : Nat → Int} {e2 : Nat → Int} {W : World} {f : Nat → Nat} (B : Hid (SBase Try.prog (psg_E e0 e1 e2) 3 n g off w0 G CB cf key)) (h : Hid (SorK (psg_E e0 e1 e2) 3 n g off w0 f W)) {a b m : Nat} (hab : a + m ≤ b) (hb : b + m ≤ n) (cap : Nat) (cv : Value) :
    Calls Try.prog 128 #[.slice (some ⟨g, off, none⟩) n cap, .int .i64 (a : Int), .int .i64 (b : Int), .int .i64 (m : Int), cv] W fun e w' => e = .returned (.tuple #[]) ∧ Hid (SorK (psg_E e0 e1 e2) 3 n g off w0 (swr f a b m) w') := by
  have hn := B.out.hn
  have mixed : Try.prog.follows .mixedOrders = true := by kernel_rfl
  go_enter Try.func128, Try.ntmps128
  go_wp2
  go_loopw [10] (fun iv wr => ∃ j : Nat, j ≤ m ∧ iv = .int .i64 j ∧ Hid (SorK (psg_E e0 e1 e2) 3 n g off w0 (swr f a b j) wr)) (fun iv _ => m - (intOf iv).toNat)
  case atStart => exact ⟨0, Nat.zero_le _, rfl, by rw [swr_zero]; exact h⟩
  case round =>
    obtain ⟨j, hj, rfl, hs⟩ := hrel
    by_cases hlt : j < m
    · obtain ⟨x, hx⟩ : ∃ x, swr f a b j (a + j) = x := ⟨_, rfl⟩
      obtain ⟨y, hy⟩ : ∃ y, swr f a b j (b + j) = y := ⟨_, rfl⟩
      have dx0 : wr.cell? ⟨g, off + (a + j) * 3, none⟩ = some (.int .i64 (e0 x)) := by have q := hs.out.cell B.out (k := (a + j)) (c := 0) (by omega) (by decide); rw [hx] at q; exact q
      have ux0 : wr.frozen? ⟨g, off + (a + j) * 3, none⟩ = false := hs.out.free B.out (k := (a + j)) (c := 0) (by omega) (by decide)
      have dx1 : wr.cell? ⟨g, off + (a + j) * 3 + 1, none⟩ = some (.int .i64 (e1 x)) := by have q := hs.out.cell B.out (k := (a + j)) (c := 1) (by omega) (by decide); rw [hx] at q; exact q
      have ux1 : wr.frozen? ⟨g, off + (a + j) * 3 + 1, none⟩ = false := hs.out.free B.out (k := (a + j)) (c := 1) (by omega) (by decide)
      have dx2 : wr.cell? ⟨g, off + (a + j) * 3 + 2, none⟩ = some (.int .i64 (e2 x)) := by have q := hs.out.cell B.out (k := (a + j)) (c := 2) (by omega) (by decide); rw [hx] at q; exact q
      have ux2 : wr.frozen? ⟨g, off + (a + j) * 3 + 2, none⟩ = false := hs.out.free B.out (k := (a + j)) (c := 2) (by omega) (by decide)
      have dy0 : wr.cell? ⟨g, off + (b + j) * 3, none⟩ = some (.int .i64 (e0 y)) := by have q := hs.out.cell B.out (k := (b + j)) (c := 0) (by omega) (by decide); rw [hy] at q; exact q
      have uy0 : wr.frozen? ⟨g, off + (b + j) * 3, none⟩ = false := hs.out.free B.out (k := (b + j)) (c := 0) (by omega) (by decide)
      have dy1 : wr.cell? ⟨g, off + (b + j) * 3 + 1, none⟩ = some (.int .i64 (e1 y)) := by have q := hs.out.cell B.out (k := (b + j)) (c := 1) (by omega) (by decide); rw [hy] at q; exact q
      have uy1 : wr.frozen? ⟨g, off + (b + j) * 3 + 1, none⟩ = false := hs.out.free B.out (k := (b + j)) (c := 1) (by omega) (by decide)
      have dy2 : wr.cell? ⟨g, off + (b + j) * 3 + 2, none⟩ = some (.int .i64 (e2 y)) := by have q := hs.out.cell B.out (k := (b + j)) (c := 2) (by omega) (by decide); rw [hy] at q; exact q
      have uy2 : wr.frozen? ⟨g, off + (b + j) * 3 + 2, none⟩ = false := hs.out.free B.out (k := (b + j)) (c := 2) (by omega) (by decide)
      have hsw := hs.out.swapD B.out (i := a + j) (j := b + j) (by omega) (by omega)
      rw [hx, hy, swr_succ f a b j (by omega)] at hsw
      have HSW := Lib.hid hsw
      clear hsw hx hy hs h
      have ea : ((a : Int) + (j : Int)).toNat = a + j := by omega
      have eb : ((b : Int) + (j : Int)).toNat = b + j := by omega
      have pa : (0 : Int) ≤ (a : Int) + (j : Int) := by omega
      have pb : (0 : Int) ≤ (b : Int) + (j : Int) := by omega
      have ba : (a : Int) + (j : Int) < (n : Int) := by omega
      have bb : (b : Int) + (j : Int) < (n : Int) := by omega
      have wa : IntKind.i64.wrap ((a : Int) + (j : Int)) = (a : Int) + (j : Int) := IntWalk.i64_in _ (by omega)
      have wb : IntKind.i64.wrap ((b : Int) + (j : Int)) = (b : Int) + (j : Int) := IntWalk.i64_in _ (by omega)
      go_wp2_with fail
      go_big_region_o
      clear dx0 dx1 dx2 dy0 dy1 dy2 ux0 ux1 ux2 uy0 uy1 uy2
      all_goals go_wp2_with fail
      all_goals exact ⟨⟨j + 1, by omega, by go_num, HSW⟩, by simp [intOf]; omega⟩
    · have hjm : j = m := by omega
      subst hjm
      clear h
      go_wp2_with fail
      refine bodyPost_end (results_none rfl _ _ _) rfl ?_
      exact ⟨rfl, hs⟩

set_option maxRecDepth 100000 in
set_option maxHeartbeats 3200000 in
theorem psg_rotate {w0 : World} {g off n G : Nat} {CB : Array Value} {cf : Nat → Nat → Int} {key : Nat → Int} {e0 : Nat → Int} {e1 : Nat → Int} {e2 : Nat → Int} {W : World} {f : Nat → Nat} (B : Hid (SBase Try.prog (psg_E e0 e1 e2) 3 n g off w0 G CB cf key)) (h : Hid (SorK (psg_E e0 e1 e2) 3 n g off w0 f W)) {a m b : Nat} (ham : a < m) (hmb : m < b) (hb : b ≤ n) (cap : Nat) (cv : Value) :
    Calls Try.prog 124 #[.slice (some ⟨g, off, none⟩) n cap, .int .i64 (a : Int), .int .i64 (m : Int), .int .i64 (b : Int), cv] W fun e w' => e = .returned (.tuple #[]) ∧ Hid (SorK (psg_E e0 e1 e2) 3 n g off w0 (rot f a m b) w') := by
  have hn := B.out.hn
  go_enter Try.func124, Try.ntmps124
  go_wp2
  go_loopw [10, 11] (fun iv jv wr => ∃ (i j : Nat) (fr : Nat → Nat), 0 < i ∧ 0 < j ∧ a + i ≤ m ∧ m + j ≤ b ∧ iv = .int .i64 i ∧ jv = .int .i64 j ∧ Hid (SorK (psg_E e0 e1 e2) 3 n g off w0 fr wr) ∧ Hid (rot f a m b = rot fr (m - i) m (m + j))) (fun iv jv _ => (intOf iv).toNat + (intOf jv).toNat)
  case atStart => exact ⟨m - a, b - m, f, by omega, by omega, by omega, by omega, by go_num, by go_num, h, by show _ = _; rw [show m - (m - a) = a by omega, show m + (b - m) = b by omega]⟩
  case round =>
    obtain ⟨i, j, fr, hi, hj, hi1, hj1, rfl, rfl, hs, hw⟩ := hrel
    clear h
    obtain ⟨x, hx⟩ : ∃ x, m = i + x := ⟨m - i, by omega⟩
    have hxi : (m : Int) - (i : Int) = (x : Int) := by omega
    have HX := Lib.hid hx; clear hx
    by_cases hij : i = j
    · subst hij
      go_wp2_with fail
      try rw [hxi]
      refine (psg_swapRange B hs (a := x) (b := m) (m := i) (by have := HX.out; omega) (by omega) _ _).mono ?_
      rintro e w1 ⟨rfl, hs1⟩
      go_wp2
      refine bodyPost_end (results_none rfl _ _ _) rfl ?_
      refine ⟨rfl, ?_⟩
      show SorK (psg_E e0 e1 e2) 3 n g off w0 _ _
      rw [hw.out, rot_eq fr m i (by omega), show m - i = x by have := HX.out; omega]
      exact hs1.out
    · by_cases hgt : j < i
      · go_wp2_with fail
        try rw [hxi]
        refine (psg_swapRange B hs (a := x) (b := m) (m := j) (by have := HX.out; omega) (by omega) _ _).mono ?_
        rintro e w1 ⟨rfl, hs1⟩
        go_wp2
        refine ⟨⟨i - j, j, _, by omega, by omega, by omega, by omega, by go_num, rfl, hs1, ?_⟩, by simp [intOf]; omega⟩
        show _ = _
        rw [hw.out, rot_gt fr m i j (by omega) hgt, show m - i = x by have := HX.out; omega]
      · have hlt : i < j := by omega
        clear hgt
        have hyi : (m : Int) + (j : Int) - (i : Int) = ((m + j - i : Nat) : Int) := by omega
        go_wp2_with fail
        try rw [hxi]
        try rw [hyi]
        refine (psg_swapRange B hs (a := x) (b := m + j - i) (m := i) (by have := HX.out; omega) (by omega) _ _).mono ?_
        rintro e w1 ⟨rfl, hs1⟩
        go_wp2
        refine ⟨⟨i, j - i, _, by omega, by omega, by omega, by omega, rfl, by go_num, hs1, ?_⟩, by simp [intOf]; omega⟩
        show _ = _
        rw [hw.out, rot_lt fr m i j (by omega) hlt, show m - i = x by have := HX.out; omega]
end Go.Proofs.Ytckelojdjmaliaa
namespace Go.Proofs.Ytckelojdjmaliaa
open Go.RowKit
set_option linter.unusedSimpArgs false
set_option linter.unusedVariables false

set_option maxRecDepth 100000 in
set_option maxHeartbeats 3200000 in
theorem psg_insert {w0 : World} {g off n G : Nat} {CB : Array Value} {cf : Nat → Nat → Int} {key : Nat → Int} {e0 : Nat → Int} {e1 : Nat → Int} {e2 : Nat → Int} {W : World} {f : Nat → Nat} (B : Hid (SBase Try.prog (psg_E e0 e1 e2) 3 n g off w0 G CB cf key)) (h : Hid (SorK (psg_E e0 e1 e2) 3 n g off w0 f W)) {a b : Nat} (hown : ∀ k, a ≤ k → f k = k) (hab : a ≤ b) (hb : b ≤ n) (cap : Nat) :
    Calls Try.prog 115 #[.slice (some ⟨g, off, none⟩) n cap, .int .i64 (a : Int), .int .i64 (b : Int), .func (.func G) #[] CB] W fun e w' => e = .returned (.tuple #[]) ∧ ∃ f', Hid (SorK (psg_E e0 e1 e2) 3 n g off w0 f' w') ∧ Hid (Mv a b f f' ∧ Blk key f' a b) := by
  have hn := B.out.hn
  have eg := B.out.eg
  have mixed : Try.prog.follows .mixedOrders = true := by kernel_rfl
  have HO := Lib.hid hown; clear hown
  rcases Nat.eq_or_lt_of_le hab with he | hlt0
  · subst he
    go_enter Try.func115, Try.ntmps115
    go_wp2
    go_loopw [8] (fun iv wr => iv = .int .i64 ((a : Int) + 1) ∧ W = wr) (fun _ _ => 0)
    case atStart => exact ⟨rfl, rfl⟩
    case round =>
      obtain ⟨rfl, rfl⟩ := hrel
      go_wp2
      refine bodyPost_end (results_none rfl _ _ _) rfl ?_
      exact ⟨rfl, f, h, Mv.refl _ _ _, ⟨fun i j h1 h2 h3 => by omega, fun k h1 h2 => by omega⟩⟩
  · go_enter Try.func115, Try.ntmps115
    go_wp2
    go_loopw [8] (fun iv wr => ∃ (i : Nat) (fi : Nat → Nat), a + 1 ≤ i ∧ i ≤ b ∧ iv = .int .i64 i ∧ Hid (SorK (psg_E e0 e1 e2) 3 n g off w0 fi wr) ∧ Hid (Ins key f fi a i)) (fun iv _ => b - (intOf iv).toNat)
    case atStart => exact ⟨a + 1, f, by omega, by omega, by go_num, h, Ins.start HO.out⟩
    case round =>
      obtain ⟨i, fi, hi0, hi1, rfl, hs, hins⟩ := hrel
      clear h
      by_cases hlt : i < b
      · go_wp2_with fail
        go_loopw [9] (fun jv wt => ∃ j : Nat, a ≤ j ∧ j ≤ i ∧ jv = .int .i64 j ∧ Hid (SorK (psg_E e0 e1 e2) 3 n g off w0 (rot fi j i (i + 1)) wt) ∧ Hid (j = i ∨ Bef key (fi i) (fi j))) (fun jv _ => (intOf jv).toNat)
        case atStart => exact ⟨i, by omega, Nat.le_refl _, rfl, by show SorK (psg_E e0 e1 e2) 3 n g off w0 _ _; rw [rot_left]; exact hs.out, .inl rfl⟩
        case round =>
          obtain ⟨j, hj0, hj1, rfl, ht, hr⟩ := hrel
          by_cases hja : a < j
          · obtain ⟨q, rfl⟩ : ∃ q, j = q + 1 := ⟨j - 1, by omega⟩
            have hcross := hins.out.runs.cross q i (by omega) (by omega) (Nat.le_refl _) (by omega)
            have rx : rot fi (q + 1) i (i + 1) (q + 1) = fi i := by rw [rot_1 (Nat.le_refl _) (by omega)]; congr 1; omega
            have ry : rot fi (q + 1) i (i + 1) q = fi q := rot_lo (by omega) (by omega) (by omega)
            obtain ⟨x, hx'⟩ : ∃ x, fi i = x := ⟨_, rfl⟩
            obtain ⟨y, hy'⟩ : ∃ y, fi q = y := ⟨_, rfl⟩
            have hx : rot fi (q + 1) i (i + 1) (q + 1) = x := rx.trans hx'
            have hy : rot fi (q + 1) i (i + 1) q = y := ry.trans hy'
            rw [hx', hy'] at hcross
            have HXI := Lib.hid (And.intro hx' hy'); have HC := Lib.hid hcross
            clear rx ry hx' hy' hcross
            have cx0 : ∀ dq dos, (Go.Sort.grow (wr.drewN dq) dos).cell? ⟨g, off + (q + 1) * 3, none⟩ = some (.int .i64 (e0 x)) := fun dq dos => by have t := ht.out.gcell B.out (k := (q + 1)) (c := 0) (by omega) (by decide) hx dq dos; exact t
            have cx1 : ∀ dq dos, (Go.Sort.grow (wr.drewN dq) dos).cell? ⟨g, off + (q + 1) * 3 + 1, none⟩ = some (.int .i64 (e1 x)) := fun dq dos => by have t := ht.out.gcell B.out (k := (q + 1)) (c := 1) (by omega) (by decide) hx dq dos; exact t
            have cx2 : ∀ dq dos, (Go.Sort.grow (wr.drewN dq) dos).cell? ⟨g, off + (q + 1) * 3 + 2, none⟩ = some (.int .i64 (e2 x)) := fun dq dos => by have t := ht.out.gcell B.out (k := (q + 1)) (c := 2) (by omega) (by decide) hx dq dos; exact t
            have cy0 : ∀ dq dos, (Go.Sort.grow (wr.drewN dq) dos).cell? ⟨g, off + q * 3, none⟩ = some (.int .i64 (e0 y)) := fun dq dos => by have t := ht.out.gcell B.out (k := q) (c := 0) (by omega) (by decide) hy dq dos; exact t
            have cy1 : ∀ dq dos, (Go.Sort.grow (wr.drewN dq) dos).cell? ⟨g, off + q * 3 + 1, none⟩ = some (.int .i64 (e1 y)) := fun dq dos => by have t := ht.out.gcell B.out (k := q) (c := 1) (by omega) (by decide) hy dq dos; exact t
            have cy2 : ∀ dq dos, (Go.Sort.grow (wr.drewN dq) dos).cell? ⟨g, off + q * 3 + 2, none⟩ = some (.int .i64 (e2 y)) := fun dq dos => by have t := ht.out.gcell B.out (k := q) (c := 2) (by omega) (by decide) hy dq dos; exact t
            obtain ⟨z, hz⟩ : ∃ z, cf x y = z := ⟨_, rfl⟩
            have HZ1 : Hid (z < 0 ↔ key y < key x) := by show _ ↔ _; rw [← hz]; exact B.out.hcf x y (hx ▸ ht.out.lt _ (by omega)) (hy ▸ ht.out.lt _ (by omega))
            have hcg : ∀ q os, Calls Try.prog G (#[.agg #[.int .i64 (e0 x), .int .i64 (e1 x), .int .i64 (e2 x)], .agg #[.int .i64 (e0 y), .int .i64 (e1 y), .int .i64 (e2 y)]] ++ CB) (Go.Sort.grow (wr.drewN q) os) fun e w' => e = .returned (.int .i64 z) ∧ ∃ q' os', w' = Go.Sort.grow ((Go.Sort.grow (wr.drewN q) os).drewN q') os' := fun q os => by have := ht.out.calls B.out x y q os; rw [hz] at this; exact this
            have HXY := Lib.hid (And.intro hx hy)
            clear hx hy hz
            have hwp : IntKind.i64.wrap (q : Int) = (q : Int) := IntWalk.i64_in _ (by omega)
            have ea : ((q : Int) + 1).toNat = q + 1 := by omega
            have pa : (0 : Int) ≤ (q : Int) + 1 := by omega
            have ba : (q : Int) + 1 < (n : Int) := by omega
            have pc : (0 : Int) ≤ (q : Int) := by omega
            have bc : (q : Int) < (n : Int) := by omega
            have hk1 : (((q + 1 : Nat)) : Int) = (q : Int) + 1 := by omega
            have hgt1 : (a : Int) < (q : Int) + 1 := by omega
            rw [hk1]
            clear hk1
            by_cases hz0 : z < 0
            · go_wp2_with fail
              go_quiet_grown (first | (go_at_fn G; refine Calls.grown_of (hcg _ _)))
              have ht1 := Lib.hid (ht.out.grown nq osq)
              clear hcg cx0 cx1 cx2 cy0 cy1 cy2
              clear ht hs
              generalize Go.Sort.grow (wr.drewN nq) osq = w1 at *
              obtain ⟨hx, hy⟩ := HXY.out
              have dx0 : w1.cell? ⟨g, off + (q + 1) * 3, none⟩ = some (.int .i64 (e0 x)) := by have q := ht1.out.cell B.out (k := (q + 1)) (c := 0) (by omega) (by decide); rw [hx] at q; exact q
              have ux0 : w1.frozen? ⟨g, off + (q + 1) * 3, none⟩ = false := ht1.out.free B.out (k := (q + 1)) (c := 0) (by omega) (by decide)
              have dx1 : w1.cell? ⟨g, off + (q + 1) * 3 + 1, none⟩ = some (.int .i64 (e1 x)) := by have q := ht1.out.cell B.out (k := (q + 1)) (c := 1) (by omega) (by decide); rw [hx] at q; exact q
              have ux1 : w1.frozen? ⟨g, off + (q + 1) * 3 + 1, none⟩ = false := ht1.out.free B.out (k := (q + 1)) (c := 1) (by omega) (by decide)
              have dx2 : w1.cell? ⟨g, off + (q + 1) * 3 + 2, none⟩ = some (.int .i64 (e2 x)) := by have q := ht1.out.cell B.out (k := (q + 1)) (c := 2) (by omega) (by decide); rw [hx] at q; exact q
              have ux2 : w1.frozen? ⟨g, off + (q + 1) * 3 + 2, none⟩ = false := ht1.out.free B.out (k := (q + 1)) (c := 2) (by omega) (by decide)
              have dy0 : w1.cell? ⟨g, off + q * 3, none⟩ = some (.int .i64 (e0 y)) := by have q := ht1.out.cell B.out (k := q) (c := 0) (by omega) (by decide); rw [hy] at q; exact q
              have uy0 : w1.frozen? ⟨g, off + q * 3, none⟩ = false := ht1.out.free B.out (k := q) (c := 0) (by omega) (by decide)
              have dy1 : w1.cell? ⟨g, off + q * 3 + 1, none⟩ = some (.int .i64 (e1 y)) := by have q := ht1.out.cell B.out (k := q) (c := 1) (by omega) (by decide); rw [hy] at q; exact q
              have uy1 : w1.frozen? ⟨g, off + q * 3 + 1, none⟩ = false := ht1.out.free B.out (k := q) (c := 1) (by omega) (by decide)
              have dy2 : w1.cell? ⟨g, off + q * 3 + 2, none⟩ = some (.int .i64 (e2 y)) := by have q := ht1.out.cell B.out (k := q) (c := 2) (by omega) (by decide); rw [hy] at q; exact q
              have uy2 : w1.frozen? ⟨g, off + q * 3 + 2, none⟩ = false := ht1.out.free B.out (k := q) (c := 2) (by omega) (by decide)
              have hsw := ht1.out.swapD B.out (i := q + 1) (j := q) (by omega) (by omega)
              rw [hx, hy, rot_down fi q i (by omega)] at hsw
              have HSW := Lib.hid hsw
              clear hsw hx hy
              go_wp2_with fail
              go_big_region_o
              clear dx0 dx1 dx2 dy0 dy1 dy2 ux0 ux1 ux2 uy0 uy1 uy2
              all_goals go_wp2_with fail
              all_goals
                refine ⟨⟨q, by omega, by omega, rfl, HSW, .inr ?_⟩, by simp [intOf]⟩
                rw [HXI.out.1, HXI.out.2]
                exact (bef_iff HC.out).2 (HZ1.out.1 hz0)
            · go_wp2_with fail
              go_quiet_grown (first | (go_at_fn G; refine Calls.grown_of (hcg _ _)))
              have ht1 := Lib.hid (ht.out.grown nq osq)
              clear hcg cx0 cx1 cx2 cy0 cy1 cy2
              clear ht hs
              generalize Go.Sort.grow (wr.drewN nq) osq = w1 at *
              go_wp2_with fail
              refine ⟨⟨i + 1, _, by omega, by omega, by simp, ht1, hins.out.next hj0 hj1 (.inr ?_) hr.out⟩, by simp [intOf]; omega⟩
              rw [Nat.add_sub_cancel, HXI.out.1, HXI.out.2]
              exact (bef_not HC.out).2 (fun q => by have := HZ1.out.2 q; omega)
          · have hje : j = a := by omega
            subst hje
            have ht1 := Lib.hid ht.out.drew
            have hjaz : decide ((j : Int) > (j : Int)) = false := decide_eq_false (by omega)
            have hjaz' : ¬ (j : Int) < (j : Int) := by omega
            clear ht hs
            go_wp2_with fail
            go_big_region_o
            all_goals go_wp2_with fail
            all_goals exact ⟨⟨i + 1, _, by omega, by omega, by simp, ht1, hins.out.next hj0 hj1 (.inl rfl) hr.out⟩, by simp [intOf]; omega⟩
      · have hib : i = b := by omega
        subst hib
        go_wp2_with fail
        refine bodyPost_end (results_none rfl _ _ _) rfl ?_
        exact ⟨rfl, fi, hs, hins.out.mv, hins.out.blk⟩
end Go.Proofs.Ytckelojdjmaliaa
namespace Go.Proofs.Ytckelojdjmaliaa
open Go.RowKit
set_option linter.unusedSimpArgs false
set_option linter.unusedVariables false

set_option maxRecDepth 100000 in
set_option maxHeartbeats 3200000 in
theorem psg_merge_left {w0 : World} {g off n G : Nat} {CB : Array Value} {cf : Nat → Nat → Int} {key : Nat → Int} {e0 : Nat → Int} {e1 : Nat → Int} {e2 : Nat → Int} {W : World} {f : Nat → Nat} (B : Hid (SBase Try.prog (psg_E e0 e1 e2) 3 n g off w0 G CB cf key)) (h : Hid (SorK (psg_E e0 e1 e2) 3 n g off w0 f W)) {a b : Nat} (hb : b ≤ n) (hruns : Hid (Runs key f a (a + 1) b)) (m : Int) (hm : m = (a : Int) + 1) (hab : a + 1 < b) (cap : Nat) :
    Calls Try.prog 116 #[.slice (some ⟨g, off, none⟩) n cap, .int .i64 (a : Int), .int .i64 m, .int .i64 (b : Int), .func (.func G) #[] CB] W fun e w' => e = .returned (.tuple #[]) ∧ ∃ f', Hid (SorK (psg_E e0 e1 e2) 3 n g off w0 f' w') ∧ Hid (Mv a b f f' ∧ Srt key f' a b) := by
  have hn := B.out.hn
  have eg := B.out.eg
  have mixed : Try.prog.follows .mixedOrders = true := by kernel_rfl
  have hq : m - (a : Int) = 1 := by omega
  obtain ⟨M, hM⟩ : ∃ M : Nat, M = a + 1 := ⟨_, rfl⟩
  have hmM : m = (M : Int) := by omega
  subst hmM
  clear hm
  have HM := Lib.hid hM; clear hM
  go_enter Try.func116, Try.ntmps116
  go_wp2
  go_loopw [10, 11] (fun iv jv wr => ∃ (i j : Nat), a + 1 ≤ i ∧ i ≤ j ∧ j ≤ b ∧ iv = .int .i64 i ∧ jv = .int .i64 j ∧ Hid (SorK (psg_E e0 e1 e2) 3 n g off w0 f wr) ∧ Hid (i = a + 1 ∨ Bef key (f (i - 1)) (f a)) ∧ Hid (j = b ∨ Bef key (f a) (f j))) (fun iv jv _ => (intOf jv).toNat - (intOf iv).toNat)
  case atStart => exact ⟨M, b, by have := HM.out; omega, by have := HM.out; omega, Nat.le_refl _, rfl, rfl, h, .inl HM.out, .inl rfl⟩
  case round =>
    obtain ⟨i, j, hi, hij, hj, rfl, rfl, hs, hl, hr⟩ := hrel
    clear h
    by_cases hlt : i < j
    · obtain ⟨H, hH⟩ : ∃ H : Nat, H = (i + j) / 2 := ⟨_, rfl⟩
      have hHi : ((i : Int) + (j : Int)) / 2 = (H : Int) := by omega
      have hH0 : i ≤ H := by omega
      have hH1 : H < j := by omega
      have hcross := hruns.out.cross a H (Nat.le_refl _) (by omega) (by omega) (by omega)
      obtain ⟨x, hx⟩ : ∃ x, f H = x := ⟨_, rfl⟩
      obtain ⟨y, hy⟩ : ∃ y, f a = y := ⟨_, rfl⟩
      rw [hx, hy] at hcross
      have HC := Lib.hid hcross
      have cx0 : ∀ dq dos, (Go.Sort.grow (wr.drewN dq) dos).cell? ⟨g, off + H * 3, none⟩ = some (.int .i64 (e0 x)) := fun dq dos => by have t := hs.out.gcell B.out (k := H) (c := 0) (by omega) (by decide) hx dq dos; exact t
      have cx1 : ∀ dq dos, (Go.Sort.grow (wr.drewN dq) dos).cell? ⟨g, off + H * 3 + 1, none⟩ = some (.int .i64 (e1 x)) := fun dq dos => by have t := hs.out.gcell B.out (k := H) (c := 1) (by omega) (by decide) hx dq dos; exact t
      have cx2 : ∀ dq dos, (Go.Sort.grow (wr.drewN dq) dos).cell? ⟨g, off + H * 3 + 2, none⟩ = some (.int .i64 (e2 x)) := fun dq dos => by have t := hs.out.gcell B.out (k := H) (c := 2) (by omega) (by decide) hx dq dos; exact t
      have cy0 : ∀ dq dos, (Go.Sort.grow (wr.drewN dq) dos).cell? ⟨g, off + a * 3, none⟩ = some (.int .i64 (e0 y)) := fun dq dos => by have t := hs.out.gcell B.out (k := a) (c := 0) (by omega) (by decide) hy dq dos; exact t
      have cy1 : ∀ dq dos, (Go.Sort.grow (wr.drewN dq) dos).cell? ⟨g, off + a * 3 + 1, none⟩ = some (.int .i64 (e1 y)) := fun dq dos => by have t := hs.out.gcell B.out (k := a) (c := 1) (by omega) (by decide) hy dq dos; exact t
      have cy2 : ∀ dq dos, (Go.Sort.grow (wr.drewN dq) dos).cell? ⟨g, off + a * 3 + 2, none⟩ = some (.int .i64 (e2 y)) := fun dq dos => by have t := hs.out.gcell B.out (k := a) (c := 2) (by omega) (by decide) hy dq dos; exact t
      obtain ⟨z, hz⟩ : ∃ z, cf x y = z := ⟨_, rfl⟩
      have HZ1 : Hid (z < 0 ↔ key y < key x) := by show _ ↔ _; rw [← hz]; exact B.out.hcf x y (hx ▸ hs.out.lt _ (by omega)) (hy ▸ hs.out.lt _ (by omega))
      have hcg : ∀ q os, Calls Try.prog G (#[.agg #[.int .i64 (e0 x), .int .i64 (e1 x), .int .i64 (e2 x)], .agg #[.int .i64 (e0 y), .int .i64 (e1 y), .int .i64 (e2 y)]] ++ CB) (Go.Sort.grow (wr.drewN q) os) fun e w' => e = .returned (.int .i64 z) ∧ ∃ q' os', w' = Go.Sort.grow ((Go.Sort.grow (wr.drewN q) os).drewN q') os' := fun q os => by have := hs.out.calls B.out x y q os; rw [hz] at this; exact this
      have HXY := Lib.hid (And.intro hx hy)
      clear hx hy hz
      have pa : (0 : Int) ≤ (H : Int) := by omega
      have ba : (H : Int) < (n : Int) := by omega
      have pc : (0 : Int) ≤ (a : Int) := by omega
      have bc : (a : Int) < (n : Int) := by omega
      clear hcross hH
      by_cases hz0 : z < 0
      · go_wp2_with fail
        try rw [hHi]
        go_quiet_grown (first | (go_at_fn G; refine Calls.grown_of (hcg _ _)))
        have hs1 := Lib.hid (hs.out.grown nq osq)
        clear hcg cx0 cx1 cx2 cy0 cy1 cy2
        clear hs
        generalize Go.Sort.grow (wr.drewN nq) osq = w1 at *
        go_wp2_with fail
        refine ⟨⟨H + 1, j, by omega, by omega, hj, by go_num, rfl, hs1, .inr ?_, hr⟩, by simp [intOf]; omega⟩
        rw [Nat.add_sub_cancel, HXY.out.1, HXY.out.2]
        exact (bef_iff HC.out).2 (HZ1.out.1 hz0)
      · go_wp2_with fail
        try rw [hHi]
        go_quiet_grown (first | (go_at_fn G; refine Calls.grown_of (hcg _ _)))
        have hs1 := Lib.hid (hs.out.grown nq osq)
        clear hcg cx0 cx1 cx2 cy0 cy1 cy2
        clear hs
        generalize Go.Sort.grow (wr.drewN nq) osq = w1 at *
        go_wp2_with fail
        go_roundw
        case rel =>
          refine ⟨i, H, hi, hH0, by omega, rfl, rfl, hs1, hl, .inr ?_⟩
          rw [HXY.out.1, HXY.out.2]
          exact (bef_not HC.out).2 (fun q => by have := HZ1.out.2 q; omega)
        case measure => simp [intOf]; omega
    · have hie : j = i := by omega
      subst hie
      go_wp2_with fail
      go_loopw [13] (fun kv wt => ∃ k : Nat, a ≤ k ∧ k + 1 ≤ j ∧ kv = .int .i64 k ∧ Hid (SorK (psg_E e0 e1 e2) 3 n g off w0 (rot f a (a + 1) (k + 1)) wt)) (fun kv _ => j - (intOf kv).toNat)
      case atStart => exact ⟨a, Nat.le_refl _, by omega, rfl, by show SorK (psg_E e0 e1 e2) 3 n g off w0 _ _; rw [rot_right]; exact hs.out⟩
      case round =>
        obtain ⟨k, hk0, hk1, rfl, ht⟩ := hrel
        clear hs
        by_cases hlk : k + 1 < j
        · obtain ⟨x, hx⟩ : ∃ x, rot f a (a + 1) (k + 1) k = x := ⟨_, rfl⟩
          obtain ⟨y, hy⟩ : ∃ y, rot f a (a + 1) (k + 1) (k + 1) = y := ⟨_, rfl⟩
          have dx0 : wr.cell? ⟨g, off + k * 3, none⟩ = some (.int .i64 (e0 x)) := by have q := ht.out.cell B.out (k := k) (c := 0) (by omega) (by decide); rw [hx] at q; exact q
          have ux0 : wr.frozen? ⟨g, off + k * 3, none⟩ = false := ht.out.free B.out (k := k) (c := 0) (by omega) (by decide)
          have dx1 : wr.cell? ⟨g, off + k * 3 + 1, none⟩ = some (.int .i64 (e1 x)) := by have q := ht.out.cell B.out (k := k) (c := 1) (by omega) (by decide); rw [hx] at q; exact q
          have ux1 : wr.frozen? ⟨g, off + k * 3 + 1, none⟩ = false := ht.out.free B.out (k := k) (c := 1) (by omega) (by decide)
          have dx2 : wr.cell? ⟨g, off + k * 3 + 2, none⟩ = some (.int .i64 (e2 x)) := by have q := ht.out.cell B.out (k := k) (c := 2) (by omega) (by decide); rw [hx] at q; exact q
          have ux2 : wr.frozen? ⟨g, off + k * 3 + 2, none⟩ = false := ht.out.free B.out (k := k) (c := 2) (by omega) (by decide)
          have dy0 : wr.cell? ⟨g, off + (k + 1) * 3, none⟩ = some (.int .i64 (e0 y)) := by have q := ht.out.cell B.out (k := (k + 1)) (c := 0) (by omega) (by decide); rw [hy] at q; exact q
          have uy0 : wr.frozen? ⟨g, off + (k + 1) * 3, none⟩ = false := ht.out.free B.out (k := (k + 1)) (c := 0) (by omega) (by decide)
          have dy1 : wr.cell? ⟨g, off + (k + 1) * 3 + 1, none⟩ = some (.int .i64 (e1 y)) := by have q := ht.out.cell B.out (k := (k + 1)) (c := 1) (by omega) (by decide); rw [hy] at q; exact q
          have uy1 : wr.frozen? ⟨g, off + (k + 1) * 3 + 1, none⟩ = false := ht.out.free B.out (k := (k + 1)) (c := 1) (by omega) (by decide)
          have dy2 : wr.cell? ⟨g, off + (k + 1) * 3 + 2, none⟩ = some (.int .i64 (e2 y)) := by have q := ht.out.cell B.out (k := (k + 1)) (c := 2) (by omega) (by decide); rw [hy] at q; exact q
          have uy2 : wr.frozen? ⟨g, off + (k + 1) * 3 + 2, none⟩ = false := ht.out.free B.out (k := (k + 1)) (c := 2) (by omega) (by decide)
          have hsw := ht.out.swapD B.out (i := k) (j := k + 1) (by omega) (by omega)
          rw [hx, hy, rot_up f a k hk0] at hsw
          have HSW := Lib.hid hsw; clear hsw hx hy ht
          have hlk1 : (k : Int) < (j : Int) - 1 := by omega
          have ea : ((k : Int) + 1).toNat = k + 1 := by omega
          have pa : (0 : Int) ≤ (k : Int) + 1 := by omega
          have ba : (k : Int) + 1 < (n : Int) := by omega
          have bc : (k : Int) < (n : Int) := by omega
          go_wp2_with fail
          go_big_region_o
          clear dx0 dx1 dx2 dy0 dy1 dy2 ux0 ux1 ux2 uy0 uy1 uy2
          all_goals go_wp2_with fail
          all_goals exact ⟨⟨k + 1, by omega, by omega, by go_num, HSW⟩, by simp [intOf]; omega⟩
        · have hke : j = k + 1 := by omega
          have hlk1 : ¬ (k : Int) < (j : Int) - 1 := by omega
          have HKE := Lib.hid hke; clear hke
          go_wp2_with fail
          (try simp only [Exit.inBlock, Exit.then])
          refine bodyPost_ret (results_none rfl _ _ _) rfl ?_
          refine ⟨rfl, _, ht, ?_, ?_⟩
          · exact (Mv.rot f a (a + 1) (k + 1) (by omega) (by omega)).mono (Nat.le_refl _) (by omega)
          · have e := HKE.out
            rw [← e]
            exact merge_left hruns.out hi hj hl.out hr.out
end Go.Proofs.Ytckelojdjmaliaa
namespace Go.Proofs.Ytckelojdjmaliaa
open Go.RowKit
set_option linter.unusedSimpArgs false
set_option linter.unusedVariables false

set_option maxRecDepth 100000 in
set_option maxHeartbeats 3200000 in
theorem psg_merge_right {w0 : World} {g off n G : Nat} {CB : Array Value} {cf : Nat → Nat → Int} {key : Nat → Int} {e0 : Nat → Int} {e1 : Nat → Int} {e2 : Nat → Int} {W : World} {f : Nat → Nat} (B : Hid (SBase Try.prog (psg_E e0 e1 e2) 3 n g off w0 G CB cf key)) (h : Hid (SorK (psg_E e0 e1 e2) 3 n g off w0 f W)) {a m : Nat} (hb : m + 1 ≤ n) (hruns : Hid (Runs key f a m (m + 1))) (b : Int) (hbm : b = (m : Int) + 1) (ham : a + 1 < m) (cap : Nat) :
    Calls Try.prog 116 #[.slice (some ⟨g, off, none⟩) n cap, .int .i64 (a : Int), .int .i64 (m : Int), .int .i64 b, .func (.func G) #[] CB] W fun e w' => e = .returned (.tuple #[]) ∧ ∃ f', Hid (SorK (psg_E e0 e1 e2) 3 n g off w0 f' w') ∧ Hid (Mv a (m + 1) f f' ∧ Srt key f' a (m + 1)) := by
  have hn := B.out.hn
  have eg := B.out.eg
  have mixed : Try.prog.follows .mixedOrders = true := by kernel_rfl
  have hq0 : ((m : Int) - (a : Int) == 1) = false := by simp; omega
  have hq : b - (m : Int) = 1 := by omega
  obtain ⟨B2, hB⟩ : ∃ B2 : Nat, B2 = m + 1 := ⟨_, rfl⟩
  have hbB : b = (B2 : Int) := by omega
  subst hbB
  have hB1 : B2 ≤ 20000 := by omega
  clear hbm hB
  go_enter Try.func116, Try.ntmps116
  go_wp2
  go_loopw [14, 15] (fun iv jv wr => ∃ (i j : Nat), a ≤ i ∧ i ≤ j ∧ j ≤ m ∧ iv = .int .i64 i ∧ jv = .int .i64 j ∧ Hid (SorK (psg_E e0 e1 e2) 3 n g off w0 f wr) ∧ Hid (i = a ∨ Bef key (f (i - 1)) (f m)) ∧ Hid (j = m ∨ Bef key (f m) (f j))) (fun iv jv _ => (intOf jv).toNat - (intOf iv).toNat)
  case atStart => exact ⟨a, m, Nat.le_refl _, by omega, Nat.le_refl _, rfl, rfl, h, .inl rfl, .inl rfl⟩
  case round =>
    obtain ⟨i, j, hi, hij, hj, rfl, rfl, hs, hl, hr⟩ := hrel
    clear h
    by_cases hlt : i < j
    · obtain ⟨H, hH⟩ : ∃ H : Nat, H = (i + j) / 2 := ⟨_, rfl⟩
      have hHi : ((i : Int) + (j : Int)) / 2 = (H : Int) := by omega
      have hH0 : i ≤ H := by omega
      have hH1 : H < j := by omega
      have hcross := hruns.out.cross H m (by omega) (by omega) (Nat.le_refl _) (by omega)
      obtain ⟨x, hx⟩ : ∃ x, f m = x := ⟨_, rfl⟩
      obtain ⟨y, hy⟩ : ∃ y, f H = y := ⟨_, rfl⟩
      rw [hx, hy] at hcross
      have HC := Lib.hid hcross
      have cx0 : ∀ dq dos, (Go.Sort.grow (wr.drewN dq) dos).cell? ⟨g, off + m * 3, none⟩ = some (.int .i64 (e0 x)) := fun dq dos => by have t := hs.out.gcell B.out (k := m) (c := 0) (by omega) (by decide) hx dq dos; exact t
      have cx1 : ∀ dq dos, (Go.Sort.grow (wr.drewN dq) dos).cell? ⟨g, off + m * 3 + 1, none⟩ = some (.int .i64 (e1 x)) := fun dq dos => by have t := hs.out.gcell B.out (k := m) (c := 1) (by omega) (by decide) hx dq dos; exact t
      have cx2 : ∀ dq dos, (Go.Sort.grow (wr.drewN dq) dos).cell? ⟨g, off + m * 3 + 2, none⟩ = some (.int .i64 (e2 x)) := fun dq dos => by have t := hs.out.gcell B.out (k := m) (c := 2) (by omega) (by decide) hx dq dos; exact t
      have cy0 : ∀ dq dos, (Go.Sort.grow (wr.drewN dq) dos).cell? ⟨g, off + H * 3, none⟩ = some (.int .i64 (e0 y)) := fun dq dos => by have t := hs.out.gcell B.out (k := H) (c := 0) (by omega) (by decide) hy dq dos; exact t
      have cy1 : ∀ dq dos, (Go.Sort.grow (wr.drewN dq) dos).cell? ⟨g, off + H * 3 + 1, none⟩ = some (.int .i64 (e1 y)) := fun dq dos => by have t := hs.out.gcell B.out (k := H) (c := 1) (by omega) (by decide) hy dq dos; exact t
      have cy2 : ∀ dq dos, (Go.Sort.grow (wr.drewN dq) dos).cell? ⟨g, off + H * 3 + 2, none⟩ = some (.int .i64 (e2 y)) := fun dq dos => by have t := hs.out.gcell B.out (k := H) (c := 2) (by omega) (by decide) hy dq dos; exact t
      obtain ⟨z, hz⟩ : ∃ z, cf x y = z := ⟨_, rfl⟩
      have HZ1 : Hid (z < 0 ↔ key y < key x) := by show _ ↔ _; rw [← hz]; exact B.out.hcf x y (hx ▸ hs.out.lt _ (by omega)) (hy ▸ hs.out.lt _ (by omega))
      have hcg : ∀ q os, Calls Try.prog G (#[.agg #[.int .i64 (e0 x), .int .i64 (e1 x), .int .i64 (e2 x)], .agg #[.int .i64 (e0 y), .int .i64 (e1 y), .int .i64 (e2 y)]] ++ CB) (Go.Sort.grow (wr.drewN q) os) fun e w' => e = .returned (.int .i64 z) ∧ ∃ q' os', w' = Go.Sort.grow ((Go.Sort.grow (wr.drewN q) os).drewN q') os' := fun q os => by have := hs.out.calls B.out x y q os; rw [hz] at this; exact this
      have HXY := Lib.hid (And.intro hx hy)
      clear hx hy hz
      have pa : (0 : Int) ≤ (H : Int) := by omega
      have ba : (H : Int) < (n : Int) := by omega
      have pc : (0 : Int) ≤ (m : Int) := by omega
      have bc : (m : Int) < (n : Int) := by omega
      clear hcross hH
      by_cases hz0 : z < 0
      · go_wp2_with fail
        try rw [hHi]
        go_quiet_grown (first | (go_at_fn G; refine Calls.grown_of (hcg _ _)))
        have hs1 := Lib.hid (hs.out.grown nq osq)
        clear hcg cx0 cx1 cx2 cy0 cy1 cy2
        clear hs
        generalize Go.Sort.grow (wr.drewN nq) osq = w1 at *
        go_wp2_with fail
        go_roundw
        case rel =>
          refine ⟨i, H, hi, hH0, by omega, rfl, rfl, hs1, hl, .inr ?_⟩
          rw [HXY.out.1, HXY.out.2]
          exact (bef_iff HC.out).2 (HZ1.out.1 hz0)
        case measure => simp [intOf]; omega
      · have hz3 : decide (z < 0) = false := by simpa using hz0
        go_wp2_with fail
        try rw [hHi]
        go_quiet_grown (first | (go_at_fn G; refine Calls.grown_of (hcg _ _)))
        have hs1 := Lib.hid (hs.out.grown nq osq)
        clear hcg cx0 cx1 cx2 cy0 cy1 cy2
        clear hs
        generalize Go.Sort.grow (wr.drewN nq) osq = w1 at *
        go_wp2_with fail
        go_roundw
        case rel =>
          refine ⟨H + 1, j, by omega, by omega, hj, by go_num, rfl, hs1, .inr ?_, hr⟩
          rw [Nat.add_sub_cancel, HXY.out.1, HXY.out.2]
          exact (bef_not HC.out).2 (fun q => by have := HZ1.out.2 q; omega)
        case measure => simp [intOf]; omega
    · have hie : j = i := by omega
      subst hie
      go_wp2_with fail
      go_loopw [17] (fun kv wt => ∃ k : Nat, j ≤ k ∧ k ≤ m ∧ kv = .int .i64 k ∧ Hid (SorK (psg_E e0 e1 e2) 3 n g off w0 (rot f k m (m + 1)) wt)) (fun kv _ => (intOf kv).toNat)
      case atStart => exact ⟨m, hj, Nat.le_refl _, rfl, by show SorK (psg_E e0 e1 e2) 3 n g off w0 _ _; rw [rot_left]; exact hs.out⟩
      case round =>
        obtain ⟨k, hk0, hk1, rfl, ht⟩ := hrel
        clear hs
        by_cases hlk : j < k
        · obtain ⟨q, rfl⟩ : ∃ q, k = q + 1 := ⟨k - 1, by omega⟩
          obtain ⟨x, hx⟩ : ∃ x, rot f (q + 1) m (m + 1) (q + 1) = x := ⟨_, rfl⟩
          obtain ⟨y, hy⟩ : ∃ y, rot f (q + 1) m (m + 1) q = y := ⟨_, rfl⟩
          have dx0 : wr.cell? ⟨g, off + (q + 1) * 3, none⟩ = some (.int .i64 (e0 x)) := by have q := ht.out.cell B.out (k := (q + 1)) (c := 0) (by omega) (by decide); rw [hx] at q; exact q
          have ux0 : wr.frozen? ⟨g, off + (q + 1) * 3, none⟩ = false := ht.out.free B.out (k := (q + 1)) (c := 0) (by omega) (by decide)
          have dx1 : wr.cell? ⟨g, off + (q + 1) * 3 + 1, none⟩ = some (.int .i64 (e1 x)) := by have q := ht.out.cell B.out (k := (q + 1)) (c := 1) (by omega) (by decide); rw [hx] at q; exact q
          have ux1 : wr.frozen? ⟨g, off + (q + 1) * 3 + 1, none⟩ = false := ht.out.free B.out (k := (q + 1)) (c := 1) (by omega) (by decide)
          have dx2 : wr.cell? ⟨g, off + (q + 1) * 3 + 2, none⟩ = some (.int .i64 (e2 x)) := by have q := ht.out.cell B.out (k := (q + 1)) (c := 2) (by omega) (by decide); rw [hx] at q; exact q
          have ux2 : wr.frozen? ⟨g, off + (q + 1) * 3 + 2, none⟩ = false := ht.out.free B.out (k := (q + 1)) (c := 2) (by omega) (by decide)
          have dy0 : wr.cell? ⟨g, off + q * 3, none⟩ = some (.int .i64 (e0 y)) := by have q := ht.out.cell B.out (k := q) (c := 0) (by omega) (by decide); rw [hy] at q; exact q
          have uy0 : wr.frozen? ⟨g, off + q * 3, none⟩ = false := ht.out.free B.out (k := q) (c := 0) (by omega) (by decide)
          have dy1 : wr.cell? ⟨g, off + q * 3 + 1, none⟩ = some (.int .i64 (e1 y)) := by have q := ht.out.cell B.out (k := q) (c := 1) (by omega) (by decide); rw [hy] at q; exact q
          have uy1 : wr.frozen? ⟨g, off + q * 3 + 1, none⟩ = false := ht.out.free B.out (k := q) (c := 1) (by omega) (by decide)
          have dy2 : wr.cell? ⟨g, off + q * 3 + 2, none⟩ = some (.int .i64 (e2 y)) := by have q := ht.out.cell B.out (k := q) (c := 2) (by omega) (by decide); rw [hy] at q; exact q
          have uy2 : wr.frozen? ⟨g, off + q * 3 + 2, none⟩ = false := ht.out.free B.out (k := q) (c := 2) (by omega) (by decide)
          have hsw := ht.out.swapD B.out (i := q + 1) (j := q) (by omega) (by omega)
          rw [hx, hy, rot_down f q m (by omega)] at hsw
          have HSW := Lib.hid hsw; clear hsw hx hy ht
          have hlk1 : (j : Int) < (q : Int) + 1 := by omega
          have hwp : IntKind.i64.wrap (q : Int) = (q : Int) := IntWalk.i64_in _ (by omega)
          have ea : ((q : Int) + 1).toNat = q + 1 := by omega
          have pa : (0 : Int) ≤ (q : Int) + 1 := by omega
          have ba : (q : Int) + 1 < (n : Int) := by omega
          have bc : (q : Int) < (n : Int) := by omega
          have hk1' : (((q + 1 : Nat)) : Int) = (q : Int) + 1 := by omega
          rw [hk1']
          clear hk1'
          go_wp2_with fail
          go_big_region_o
          clear dx0 dx1 dx2 dy0 dy1 dy2 ux0 ux1 ux2 uy0 uy1 uy2
          all_goals go_wp2_with fail
          all_goals exact ⟨⟨q, by omega, by omega, rfl, HSW⟩, by simp [intOf]⟩
        · have hke : k = j := by omega
          have HKE := Lib.hid hke; clear hke
          go_wp2_with fail
          (try simp only [Exit.inBlock, Exit.then])
          refine bodyPost_ret (results_none rfl _ _ _) rfl ?_
          have e := HKE.out
          subst e
          exact ⟨rfl, _, ht, (Mv.rot f k m (m + 1) (by omega) (by omega)).mono hi (Nat.le_refl _), merge_right hruns.out hi hj hl.out hr.out⟩
end Go.Proofs.Ytckelojdjmaliaa
namespace Go.Proofs.Ytckelojdjmaliaa
open Go.RowKit
set_option linter.unusedSimpArgs false
set_option linter.unusedVariables false

/-- From where to where the place is searched. -/
structure psg_Srch (a m b s0 r0 : Nat) : Prop where
  le : s0 ≤ r0
  lo : a ≤ s0
  rm : r0 ≤ m
  rd : r0 ≤ (a + b) / 2
  hi : (a + b) / 2 + m ≤ s0 + b
  s : s0 = a ∨ s0 + b = (a + b) / 2 + m
  r : r0 = m ∨ r0 = (a + b) / 2

/-- What a merge says. -/
def psg_Merges (cap n g off : Nat) (w0 : World) (G : Nat) (CB : Array Value) (key : Nat → Int) (e0 : Nat → Int) (e1 : Nat → Int) (e2 : Nat → Int) (a m b : Nat) : Prop :=
  ∀ (W : World) (f : Nat → Nat), Hid (SorK (psg_E e0 e1 e2) 3 n g off w0 f W) → Hid (Runs key f a m b) →
    Calls Try.prog 116 #[.slice (some ⟨g, off, none⟩) n cap, .int .i64 (a : Int), .int .i64 (m : Int), .int .i64 (b : Int), .func (.func G) #[] CB] W fun e w' => e = .returned (.tuple #[]) ∧ ∃ f', Hid (SorK (psg_E e0 e1 e2) 3 n g off w0 f' w') ∧ Hid (Mv a b f f' ∧ Srt key f' a b)

set_option maxRecDepth 100000 in
set_option maxHeartbeats 3200000 in
theorem psg_merge_gen {w0 : World} {g off n G : Nat} {CB : Array Value} {cf : Nat → Nat → Int} {key : Nat → Int} {e0 : Nat → Int} {e1 : Nat → Int} {e2 : Nat → Int} {W : World} {f : Nat → Nat} (B : Hid (SBase Try.prog (psg_E e0 e1 e2) 3 n g off w0 G CB cf key)) (h : Hid (SorK (psg_E e0 e1 e2) 3 n g off w0 f W)) {a m b : Nat} (hb : b ≤ n) (hruns : Hid (Runs key f a m b)) (ham : a + 1 < m) (hmb : m + 1 < b)
    (cap : Nat) (ih : Hid (∀ a' m' b', b' - a' < b - a → a' < m' → m' < b' → b' ≤ n → psg_Merges cap n g off w0 G CB key e0 e1 e2 a' m' b')) :
    Calls Try.prog 116 #[.slice (some ⟨g, off, none⟩) n cap, .int .i64 (a : Int), .int .i64 (m : Int), .int .i64 (b : Int), .func (.func G) #[] CB] W fun e w' => e = .returned (.tuple #[]) ∧ ∃ f', Hid (SorK (psg_E e0 e1 e2) 3 n g off w0 f' w') ∧ Hid (Mv a b f f' ∧ Srt key f' a b) := by
  have hn := B.out.hn
  have eg := B.out.eg
  have mixed : Try.prog.follows .mixedOrders = true := by kernel_rfl
  have hq0 : ((m : Int) - (a : Int) == 1) = false := by simp; omega
  have hq1 : ((b : Int) - (m : Int) == 1) = false := by simp; omega
  obtain ⟨D, hD⟩ : ∃ D : Nat, (a + b) / 2 = D := ⟨_, rfl⟩
  have hDi : ((a : Int) + (b : Int)) / 2 = (D : Int) := by omega
  have hD0 : a < D := by omega
  have hD1 : D < b := by omega
  obtain ⟨N, hN⟩ : ∃ N : Nat, N = D + m := ⟨_, rfl⟩
  have hNi : (D : Int) + (m : Int) = (N : Int) := by omega
  have hNb : N ≤ 40000 := by omega
  have HD := Lib.hid hD; have HN := Lib.hid hN; clear hD hN
  go_enter Try.func116, Try.ntmps116
  go_upto_if 140 with (fail)
  clear hq0 hq1 hDi hNi
  go_cut [20, 21] (fun sv rv wx => ∃ s0 r0 : Nat, sv = .int .i64 s0 ∧ rv = .int .i64 r0 ∧ Hid (psg_Srch a m b s0 r0) ∧ W = wx)
  case first => as_aux_lemma =>
    by_cases hgt : D < m
    · obtain ⟨S, hS⟩ : ∃ S : Nat, S + b = D + m := ⟨D + m - b, by have := HD.out; omega⟩
      have hSi : (N : Int) - (b : Int) = (S : Int) := by have := HN.out; omega
      have HS := Lib.hid hS; clear hS
      go_wp2_with fail
      go_meet
      exact ⟨S, D, by first | rfl | rw [hSi], rfl, by have := HS.out; have := HD.out; exact ⟨by omega, by omega, by omega, by omega, by omega, by omega, by omega⟩, rfl⟩
    · go_wp2_with fail
      go_meet
      exact ⟨a, m, rfl, rfl, by have := HD.out; exact ⟨by omega, by omega, by omega, by omega, by omega, by omega, by omega⟩, rfl⟩
  case rest => as_aux_lemma =>
    obtain ⟨s0, r0, rfl, rfl, hS, rfl⟩ := hcut
    obtain ⟨P, hP⟩ : ∃ P : Nat, P + 1 = N := ⟨N - 1, by have := HN.out; omega⟩
    have hPi : (N : Int) - 1 = (P : Int) := by omega
    have HP := Lib.hid hP; clear hP
    go_wp2_with fail
    clear hPi
    go_loopw [20, 21] (fun sv rv wr => ∃ (st rr : Nat), s0 ≤ st ∧ st ≤ rr ∧ rr ≤ r0 ∧ sv = .int .i64 st ∧ rv = .int .i64 rr ∧ Hid (SorK (psg_E e0 e1 e2) 3 n g off w0 f wr) ∧ Hid (st = s0 ∨ Bef key (f (st - 1)) (f (N - st))) ∧ Hid (rr = r0 ∨ Bef key (f (P - rr)) (f rr))) (fun sv rv _ => (intOf rv).toNat - (intOf sv).toNat)
    case atStart => exact ⟨s0, r0, Nat.le_refl _, hS.out.le, Nat.le_refl _, rfl, rfl, h, .inl rfl, .inl rfl⟩
    case round =>
      obtain ⟨st, rr, hst, hsr, hrr, rfl, rfl, hs, hl, hr⟩ := hrel
      have hs1 := hS.out.lo
      have hs2 := hS.out.rm
      have hs3 := hS.out.rd
      rw [HD.out] at hs3
      by_cases hlt : st < rr
      · obtain ⟨H, hH⟩ : ∃ H : Nat, H = (st + rr) / 2 := ⟨_, rfl⟩
        have hHi : ((st : Int) + (rr : Int)) / 2 = (H : Int) := by omega
        have hH0 : st ≤ H := by omega
        have hH1 : H < rr := by omega
        obtain ⟨E, hE⟩ : ∃ E : Nat, E = P - H := ⟨_, rfl⟩
        have hE1 : E + H = P := by have := HN.out; have := HP.out; omega
        have hE2 : m ≤ E := by have := HN.out; have := HP.out; omega
        have hE3 : E < b := by have := HN.out; have := HP.out; have := hS.out.hi; rw [HD.out] at this; omega
        have hEi : (P : Int) - (H : Int) = (E : Int) := by omega
        have hcross := hruns.out.cross H E (by omega) (by omega) hE2 hE3
        obtain ⟨x, hx⟩ : ∃ x, f E = x := ⟨_, rfl⟩
        obtain ⟨y, hy⟩ : ∃ y, f H = y := ⟨_, rfl⟩
        rw [hx, hy] at hcross
        have HC := Lib.hid hcross; have HE := Lib.hid (And.intro hE1 hE)
        have cx0 : ∀ dq dos, (Go.Sort.grow (wr.drewN dq) dos).cell? ⟨g, off + E * 3, none⟩ = some (.int .i64 (e0 x)) := fun dq dos => by have t := hs.out.gcell B.out (k := E) (c := 0) (by omega) (by decide) hx dq dos; exact t
        have cx1 : ∀ dq dos, (Go.Sort.grow (wr.drewN dq) dos).cell? ⟨g, off + E * 3 + 1, none⟩ = some (.int .i64 (e1 x)) := fun dq dos => by have t := hs.out.gcell B.out (k := E) (c := 1) (by omega) (by decide) hx dq dos; exact t
        have cx2 : ∀ dq dos, (Go.Sort.grow (wr.drewN dq) dos).cell? ⟨g, off + E * 3 + 2, none⟩ = some (.int .i64 (e2 x)) := fun dq dos => by have t := hs.out.gcell B.out (k := E) (c := 2) (by omega) (by decide) hx dq dos; exact t
        have cy0 : ∀ dq dos, (Go.Sort.grow (wr.drewN dq) dos).cell? ⟨g, off + H * 3, none⟩ = some (.int .i64 (e0 y)) := fun dq dos => by have t := hs.out.gcell B.out (k := H) (c := 0) (by omega) (by decide) hy dq dos; exact t
        have cy1 : ∀ dq dos, (Go.Sort.grow (wr.drewN dq) dos).cell? ⟨g, off + H * 3 + 1, none⟩ = some (.int .i64 (e1 y)) := fun dq dos => by have t := hs.out.gcell B.out (k := H) (c := 1) (by omega) (by decide) hy dq dos; exact t
        have cy2 : ∀ dq dos, (Go.Sort.grow (wr.drewN dq) dos).cell? ⟨g, off + H * 3 + 2, none⟩ = some (.int .i64 (e2 y)) := fun dq dos => by have t := hs.out.gcell B.out (k := H) (c := 2) (by omega) (by decide) hy dq dos; exact t
        obtain ⟨z, hz⟩ : ∃ z, cf x y = z := ⟨_, rfl⟩
        have HZ1 : Hid (z < 0 ↔ key y < key x) := by show _ ↔ _; rw [← hz]; exact B.out.hcf x y (hx ▸ hs.out.lt _ (by omega)) (hy ▸ hs.out.lt _ (by omega))
        have hcg : ∀ q os, Calls Try.prog G (#[.agg #[.int .i64 (e0 x), .int .i64 (e1 x), .int .i64 (e2 x)], .agg #[.int .i64 (e0 y), .int .i64 (e1 y), .int .i64 (e2 y)]] ++ CB) (Go.Sort.grow (wr.drewN q) os) fun e w' => e = .returned (.int .i64 z) ∧ ∃ q' os', w' = Go.Sort.grow ((Go.Sort.grow (wr.drewN q) os).drewN q') os' := fun q os => by have := hs.out.calls B.out x y q os; rw [hz] at this; exact this
        have HXY := Lib.hid (And.intro hx hy)
        clear hx hy hz
        have pa : (0 : Int) ≤ (H : Int) := by omega
        have ba : (H : Int) < (n : Int) := by omega
        have pc : (0 : Int) ≤ (E : Int) := by omega
        have bc : (E : Int) < (n : Int) := by omega
        have rc : IntKind.i64.wrap ((E : Int)) = (E : Int) := by rw [IntKind.wrap_i64]; omega
        clear hcross hH hE hE1
        by_cases hz0 : z < 0
        · as_aux_lemma =>
          have hz3 : decide (z < 0) = true := by simpa using hz0
          go_wp2_with fail
          try rw [hHi]
          go_quiet_grown (first | (go_at_fn G; refine Calls.grown_of (hcg _ _)))
          have hs1 := Lib.hid (hs.out.grown nq osq)
          clear hcg cx0 cx1 cx2 cy0 cy1 cy2
          clear hs
          generalize Go.Sort.grow (wr.drewN nq) osq = w1 at *
          go_wp2_with fail
          go_roundw
          case rel =>
            refine ⟨st, H, hst, hH0, by omega, rfl, rfl, hs1, hl, .inr ?_⟩
            rw [show P - H = E by have := HE.out; omega, HXY.out.1, HXY.out.2]
            exact (bef_iff HC.out).2 (HZ1.out.1 hz0)
          case measure => simp [intOf]; omega
        · as_aux_lemma =>
          have hz3 : decide (z < 0) = false := by simpa using hz0
          go_wp2_with fail
          try rw [hHi]
          go_quiet_grown (first | (go_at_fn G; refine Calls.grown_of (hcg _ _)))
          have hs1 := Lib.hid (hs.out.grown nq osq)
          clear hcg cx0 cx1 cx2 cy0 cy1 cy2
          clear hs
          generalize Go.Sort.grow (wr.drewN nq) osq = w1 at *
          go_wp2_with fail
          go_roundw
          case rel =>
            refine ⟨H + 1, rr, by omega, by omega, hrr, by go_num, rfl, hs1, .inr ?_, hr⟩
            rw [Nat.add_sub_cancel, show N - (H + 1) = E by have := HE.out; have := HP.out; omega, HXY.out.1, HXY.out.2]
            exact (bef_not HC.out).2 (fun q => by have := HZ1.out.2 q; omega)
          case measure => simp [intOf]; omega
      · have hie : rr = st := by omega
        subst hie
        have hF : Found key f a m b rr := by
          have e1 := HD.out
          have e2 := HN.out
          have e3 := HP.out
          have q1 := hS.out.hi
          refine ⟨by omega, by omega, by omega, by omega, ?_, ?_⟩
          · rcases hl.out with q | q
            · rcases hS.out.s with z | z
              · exact .inl (by omega)
              · exact .inr (.inl (by omega))
            · refine .inr (.inr ?_)
              rw [e1, ← e2]; exact q
          · rcases hr.out with q | q
            · rcases hS.out.r with z | z
              · exact .inl (by omega)
              · exact .inr (.inl (by omega))
            · refine .inr (.inr ?_)
              rw [e1, ← e2, show N - 1 - rr = P - rr by omega]; exact q
        obtain ⟨T, hT⟩ : ∃ T : Nat, T = D + m - rr := ⟨_, rfl⟩
        have hTi : (N : Int) - (rr : Int) = (T : Int) := by have := HN.out; omega
        have HF := Lib.hid hF; have HT := Lib.hid hT; clear hF hT
        go_upto_region 39 with (fail)
        clear hTi
        go_cut [24, 185] (fun ev bv wx => ev = .int .i64 T ∧ (∃ B : Bool, bv = .bool B ∧ Hid (B = true ↔ rr < m ∧ m < T)) ∧ wr = wx)
        case first => as_aux_lemma =>
          by_cases c1 : rr < m
          · by_cases c2 : m < T
            · go_wp2_with fail
              go_meet
              exact ⟨rfl, ⟨true, rfl, by show _ ↔ _; simp [c1, c2]⟩, rfl⟩
            · go_wp2_with fail
              go_meet
              exact ⟨rfl, ⟨false, rfl, by show _ ↔ _; simp; omega⟩, rfl⟩
          · go_wp2_with fail
            go_meet
            exact ⟨rfl, ⟨false, rfl, by show _ ↔ _; simp; omega⟩, rfl⟩
        case rest => as_aux_lemma =>
          obtain ⟨rfl, ⟨B, rfl, hB⟩, rfl⟩ := hcut
          go_upto_if 185 with (fail)
          go_cut [24] (fun ev wx => ev = .int .i64 T ∧ Hid (SorK (psg_E e0 e1 e2) 3 n g off w0 (rot f rr m T) wx))
          case first => as_aux_lemma =>
            cases B with
            | true =>
              obtain ⟨c1, c2⟩ := hB.out.1 rfl
              go_wp2_with fail
              refine (psg_rotate B hs c1 c2 (by have := HT.out; have q := HF.out.hi; rw [HD.out] at q; omega) _ _).mono ?_
              rintro e w1 ⟨rfl, hs1⟩
              go_wp2_with fail
              go_meet
              exact ⟨rfl, hs1⟩
            | false =>
              have hq : rr = m ∨ T = m := by have := (not_congr hB.out).1 (by simp); have := HT.out; omega
              go_wp2_with fail
              go_meet
              refine ⟨rfl, ?_⟩
              show SorK (psg_E e0 e1 e2) 3 n g off w0 _ _
              rcases hq with q | q
              · rw [q, rot_left]; exact hs.out
              · rw [q, rot_right]; exact hs.out
          case rest => as_aux_lemma =>
            obtain ⟨rfl, hs1⟩ := hcut
            clear hB hs hl hr
            have hlow : Runs key (rot f rr m T) a rr D := by have q := half_low hruns.out HF.out; rw [HD.out] at q; rw [HT.out]; exact q
            have hhigh : Runs key (rot f rr m T) D T b := by have q := half_high hruns.out HF.out; rw [HD.out] at q; rw [HT.out]; exact q
            have hhalf : ∀ i j, a ≤ i → i < D → D ≤ j → j < b → Bef key (rot f rr m T i) (rot f rr m T j) := fun i j q1 q2 q3 q4 => by
              have q := halves hruns.out HF.out (i := i) (j := j) q1 (by rw [HD.out]; exact q2) (by rw [HD.out]; exact q3) q4
              rw [HD.out] at q; rw [HT.out]; exact q
            have hmv : Mv a b f (rot f rr m T) := by
              have q := HF.out
              have q1 := q.lo; have q2 := q.lm; have q3 := q.mid; have q4 := q.hi
              rw [HD.out] at q3 q4
              have := HT.out
              exact (Mv.rot f rr m T (by omega) (by omega)).mono (by omega) (by omega)
            have hrn := hlow.am
            have hrn2 := hlow.mb
            have hTn := hhigh.am
            have hTn2 := hhigh.mb
            have HLOW := Lib.hid hlow; have HHIGH := Lib.hid hhigh; have HHALF := Lib.hid hhalf; have HMV := Lib.hid hmv
            clear hlow hhigh hhalf hmv
            go_upto_region 41 with (fail)
            go_cut [24, 199] (fun ev bv wx => ev = .int .i64 T ∧ (∃ B : Bool, bv = .bool B ∧ Hid (B = true ↔ a < rr ∧ rr < D)) ∧ wc = wx)
            case first => as_aux_lemma =>
              by_cases c1 : a < rr
              · by_cases c2 : rr < D
                · go_wp2_with fail
                  go_meet
                  exact ⟨rfl, ⟨true, rfl, by show _ ↔ _; simp [c1, c2]⟩, rfl⟩
                · go_wp2_with fail
                  go_meet
                  exact ⟨rfl, ⟨false, rfl, by show _ ↔ _; simp; omega⟩, rfl⟩
              · go_wp2_with fail
                go_meet
                exact ⟨rfl, ⟨false, rfl, by show _ ↔ _; simp; omega⟩, rfl⟩
            case rest => as_aux_lemma =>
              obtain ⟨rfl, ⟨B, rfl, hB⟩, rfl⟩ := hcut
              go_upto_if 199 with (fail)
              go_cut [24] (fun ev wx => ev = .int .i64 T ∧ (∃ f1, Hid (SorK (psg_E e0 e1 e2) 3 n g off w0 f1 wx) ∧ Hid (Mv a D (rot f rr m T) f1 ∧ Srt key f1 a D)))
              case first => as_aux_lemma =>
                cases B with
                | true =>
                  obtain ⟨c1, c2⟩ := hB.out.1 rfl
                  go_wp2_with fail
                  refine (ih.out a rr D (by omega) c1 c2 (by omega) _ _ hs1 HLOW).mono ?_
                  rintro e w1 ⟨rfl, f1, hs2, hm2⟩
                  go_wp2_with fail
                  go_meet
                  exact ⟨rfl, f1, hs2, hm2⟩
                | false =>
                  have hq : a = rr ∨ rr = D := by have := (not_congr hB.out).1 (by simp); omega
                  go_wp2_with fail
                  go_meet
                  exact ⟨rfl, _, hs1, Mv.refl _ _ _, HLOW.out.sorted hq⟩
              case rest => as_aux_lemma =>
                obtain ⟨rfl, f1, hs2, hm2⟩ := hcut
                clear hs1 hB
                have hh2 : Runs key f1 D T b := by
                  have e : ∀ k, D ≤ k → f1 k = rot f rr m T k := fun k hk => hm2.out.1.out k (.inr hk)
                  have q := HHIGH.out
                  refine ⟨q.am, q.mb, fun i j q1 q2 q3 => ?_, fun i j q1 q2 q3 => ?_, fun i j q1 q2 q3 q4 => ?_⟩
                  · rw [e i (by omega), e j (by omega)]; exact q.left i j q1 q2 q3
                  · rw [e i (by omega), e j (by omega)]; exact q.right i j q1 q2 q3
                  · rw [e i (by omega), e j (by omega)]; exact q.cross i j q1 q2 q3 q4
                have HH2 := Lib.hid hh2; clear hh2
                go_upto_region 43 with (fail)
                go_cut [24, 213] (fun ev bv wx => ev = .int .i64 T ∧ (∃ B : Bool, bv = .bool B ∧ Hid (B = true ↔ D < T ∧ T < b)) ∧ wc = wx)
                case first => as_aux_lemma =>
                  by_cases c1 : D < T
                  · by_cases c2 : T < b
                    · go_wp2_with fail
                      go_meet
                      exact ⟨rfl, ⟨true, rfl, by show _ ↔ _; simp [c1, c2]⟩, rfl⟩
                    · go_wp2_with fail
                      go_meet
                      exact ⟨rfl, ⟨false, rfl, by show _ ↔ _; simp; omega⟩, rfl⟩
                  · go_wp2_with fail
                    go_meet
                    exact ⟨rfl, ⟨false, rfl, by show _ ↔ _; simp; omega⟩, rfl⟩
                case rest => as_aux_lemma =>
                  obtain ⟨rfl, ⟨B, rfl, hB⟩, rfl⟩ := hcut
                  cases B with
                  | true =>
                    obtain ⟨c1, c2⟩ := hB.out.1 rfl
                    go_wp2_with fail
                    refine (ih.out D T b (by omega) c1 c2 hb _ _ hs2 HH2).mono ?_
                    rintro e w1 ⟨rfl, f2, hs3, hm3⟩
                    go_wp2_with fail
                    refine bodyPost_end (results_none rfl _ _ _) rfl ?_
                    refine ⟨rfl, f2, hs3, ?_, join_halves HHALF.out hm2.out.1 hm2.out.2 hm3.out.1 hm3.out.2⟩
                    exact (HMV.out.trans (hm2.out.1.mono (Nat.le_refl _) (by omega))).trans (hm3.out.1.mono (by omega) (Nat.le_refl _))
                  | false =>
                    have hq : D = T ∨ T = b := by have := (not_congr hB.out).1 (by simp); omega
                    go_wp2_with fail
                    refine bodyPost_end (results_none rfl _ _ _) rfl ?_
                    refine ⟨rfl, f1, hs2, ?_, join_halves HHALF.out hm2.out.1 hm2.out.2 (Mv.refl _ _ _) (HH2.out.sorted hq)⟩
                    exact HMV.out.trans (hm2.out.1.mono (Nat.le_refl _) (by omega))

theorem psg_merge {w0 : World} {g off n G : Nat} {CB : Array Value} {cf : Nat → Nat → Int} {key : Nat → Int} {e0 : Nat → Int} {e1 : Nat → Int} {e2 : Nat → Int} (B : Hid (SBase Try.prog (psg_E e0 e1 e2) 3 n g off w0 G CB cf key)) (cap : Nat) : ∀ (d a m b : Nat), b - a ≤ d → a < m → m < b → b ≤ n → psg_Merges cap n g off w0 G CB key e0 e1 e2 a m b
  | 0, a, m, b, h0, h1, h2, h3 => by omega
  | d + 1, a, m, b, h0, h1, h2, h3 => by
    intro W f hs hr
    by_cases c1 : m = a + 1
    · subst c1
      exact psg_merge_left B hs h3 hr _ (by omega) h2 cap
    · by_cases c2 : b = m + 1
      · subst c2
        exact psg_merge_right B hs h3 hr _ (by omega) (by omega) cap
      · exact psg_merge_gen B hs h3 hr (by omega) (by omega) cap (fun a' m' b' q0 q1 q2 q3 => psg_merge B cap d a' m' b' (by omega) q1 q2 q3)
end Go.Proofs.Ytckelojdjmaliaa
namespace Go.Proofs.Ytckelojdjmaliaa
open Go.RowKit
set_option linter.unusedSimpArgs false
set_option linter.unusedVariables false

set_option maxRecDepth 100000 in
set_option maxHeartbeats 3200000 in
theorem psg_stable {w0 : World} {g off n G : Nat} {CB : Array Value} {cf : Nat → Nat → Int} {key : Nat → Int} {e0 : Nat → Int} {e1 : Nat → Int} {e2 : Nat → Int} {W : World} (B : Hid (SBase Try.prog (psg_E e0 e1 e2) 3 n g off w0 G CB cf key)) (h : Hid (SorK (psg_E e0 e1 e2) 3 n g off w0 (fun k => k) W)) (h0 : 0 < n) (cap : Nat) :
    Calls Try.prog 97 #[.slice (some ⟨g, off, none⟩) n cap, .int .i64 (n : Int), .func (.func G) #[] CB] W fun e w' => e = .returned (.tuple #[]) ∧ ∃ f', Hid (SorK (psg_E e0 e1 e2) 3 n g off w0 f' w') ∧ Ord key n f' := by
  have hn := B.out.hn
  go_enter Try.func97, Try.ntmps97
  go_wp2
  go_loopw [7, 8] (fun av bv wr => ∃ (x : Nat) (f : Nat → Nat), x ≤ n ∧ av = .int .i64 x ∧ bv = .int .i64 ((x : Int) + 20) ∧ Hid (SorK (psg_E e0 e1 e2) 3 n g off w0 f wr) ∧ Hid (Mv 0 x (fun k => k) f ∧ Blks key f n 20 0 x ∧ 20 ∣ x)) (fun av _ _ => n - (intOf av).toNat)
  case atStart => exact ⟨0, fun k => k, by omega, rfl, rfl, h, ⟨Mv.refl _ _ _, fun x _ hx => by omega, Nat.dvd_zero _⟩⟩
  case round =>
    obtain ⟨x, f, hx, rfl, rfl, hs, hh⟩ := hrel
    have hown : ∀ k, x ≤ k → f k = k := fun k hk => hh.out.1.out k (.inr hk)
    have HO := Lib.hid hown; clear hown
    by_cases hlt : x + 20 ≤ n
    · have hlti : (x : Int) + 20 ≤ (n : Int) := by omega
      have hx20 : ((x + 20 : Nat) : Int) = (x : Int) + 20 := by omega
      go_wp2_with fail
      rw [← hx20]
      refine (psg_insert B hs (a := x) (b := x + 20) HO.out (by omega) hlt cap).mono ?_
      rintro e w1 ⟨rfl, f1, hs1, hmb⟩
      obtain ⟨hm1, hb1⟩ := hmb.out
      have HM1 := Lib.hid hm1; have HB1 := Lib.hid hb1
      go_wp2_with fail
      refine ⟨⟨x + 20, f1, by omega, by first | rfl | go_num, by first | rfl | go_num, hs1, ⟨?_, ?_, Nat.dvd_add hh.out.2.2 (Nat.dvd_refl _)⟩⟩, by simp [intOf]; omega⟩
      · exact (hh.out.1.mono (Nat.le_refl _) (by omega)).trans (hm1.mono (by omega) (Nat.le_refl _))
      · exact hh.out.2.1.more hh.out.2.2 hm1 (by rw [show min (x + 20) n = x + 20 by omega]; exact hb1)
    · have hlti : ¬ (x : Int) + 20 ≤ (n : Int) := by omega
      go_wp2_with fail
      refine (psg_insert B hs (a := x) (b := n) HO.out hx (Nat.le_refl _) cap).mono ?_
      rintro e w1 ⟨rfl, f1, hs1, hmb⟩
      obtain ⟨hm1, hb1⟩ := hmb.out
      have HM1 := Lib.hid hm1; have HB1 := Lib.hid hb1
      have hmv : Mv 0 n (fun k => k) f1 := (hh.out.1.mono (Nat.le_refl _) hx).trans (hm1.mono (by omega) (Nat.le_refl _))
      have hbl : Blks key f1 n 20 0 n := by
        have q := hh.out.2.1.more hh.out.2.2 hm1 (by rw [show min (x + 20) n = n by omega]; exact hb1)
        intro y q1 q2 q3
        exact q y q1 (by omega) q3
      have HM := Lib.hid (And.intro hmv hbl)
      clear hmv hbl hs hh hm1 hb1 HO HM1 HB1 hmb
      go_wp2_with fail
      go_loopw [6] (fun sv wr2 => ∃ (size : Nat) (f : Nat → Nat), 20 ≤ size ∧ size ≤ 40000 ∧ sv = .int .i64 size ∧ Hid (SorK (psg_E e0 e1 e2) 3 n g off w0 f wr2) ∧ Hid (Mv 0 n (fun k => k) f ∧ Blks key f n size 0 n)) (fun sv _ => n - (intOf sv).toNat)
      case atStart => exact ⟨20, f1, Nat.le_refl _, by omega, rfl, hs1, HM.out⟩
      case round =>
        obtain ⟨size, f2, hz0, hz1, rfl, hs2, hh2⟩ := hrel
        clear hs1 HM hlti
        by_cases hsn : size < n
        · go_wp2_with fail
          go_loopw [7, 8] (fun av bv wt => ∃ (y : Nat) (f : Nat → Nat), y ≤ n ∧ av = .int .i64 y ∧ bv = .int .i64 ((y : Int) + 2 * (size : Int)) ∧ Hid (SorK (psg_E e0 e1 e2) 3 n g off w0 f wt) ∧ Hid (Mv 0 n (fun k => k) f ∧ Pass key f n size y)) (fun av _ _ => n - (intOf av).toNat)
          case atStart => exact ⟨0, f2, by omega, rfl, by first | rfl | go_num, hs2, ⟨hh2.out.1, Pass.start hh2.out.2 (by omega)⟩⟩
          case round =>
            obtain ⟨y, f3, hy, rfl, rfl, hs3, hh3⟩ := hrel
            by_cases hyl : y + 2 * size ≤ n
            · have hyi : (y : Int) + 2 * (size : Int) ≤ (n : Int) := by omega
              have hym : ((y + size : Nat) : Int) = (y : Int) + (size : Int) := by omega
              have hyb : ((y + 2 * size : Nat) : Int) = (y : Int) + 2 * (size : Int) := by omega
              have hruns := hh3.out.2.runs (b := y + 2 * size) (by omega) (by omega)
              have HR := Lib.hid hruns; clear hruns
              go_wp2_with fail
              rw [← hym, ← hyb]
              refine (psg_merge B cap n y (y + size) (y + 2 * size) (by omega) (by omega) (by omega) hyl _ _ hs3 HR).mono ?_
              rintro e w2 ⟨rfl, f4, hs4, hmo⟩
              go_wp2_with fail
              refine ⟨⟨y + 2 * size, f4, hyl, by first | rfl | go_num, by first | rfl | go_num, hs4, ⟨?_, ?_⟩⟩, by simp [intOf]; omega⟩
              · exact hh3.out.1.trans (hmo.out.1.mono (by omega) hyl)
              · exact hh3.out.2.next hyl hmo.out.1 hmo.out.2
            · have hyi : ¬ (y : Int) + 2 * (size : Int) ≤ (n : Int) := by omega
              by_cases hml : y + size < n
              · have hmi : (y : Int) + (size : Int) < (n : Int) := by omega
                have hym : ((y + size : Nat) : Int) = (y : Int) + (size : Int) := by omega
                have hruns := hh3.out.2.runs (b := n) (by omega) hml
                have HR := Lib.hid hruns; clear hruns
                go_wp2_with fail
                rw [← hym]
                refine (psg_merge B cap n y (y + size) n (by omega) (by omega) hml (Nat.le_refl _) _ _ hs3 HR).mono ?_
                rintro e w2 ⟨rfl, f4, hs4, hmo⟩
                go_wp2_with fail
                refine ⟨⟨2 * size, f4, by omega, by omega, by go_num, hs4, ⟨?_, ?_⟩⟩, by simp [intOf]; omega⟩
                · exact hh3.out.1.trans (hmo.out.1.mono (by omega) (Nat.le_refl _))
                · exact hh3.out.2.last (by omega) hml hmo.out.1 hmo.out.2
              · have hmi : ¬ (y : Int) + (size : Int) < (n : Int) := by omega
                go_wp2_with fail
                refine ⟨⟨2 * size, f3, by omega, by omega, by go_num, hs3, ⟨hh3.out.1, hh3.out.2.done (by omega) (by omega)⟩⟩, by simp [intOf]; omega⟩
        · go_wp2_with fail
          refine bodyPost_end (results_none rfl _ _ _) rfl ?_
          exact ⟨rfl, f2, hs2, hh2.out.1, hh2.out.2.all h0 (by omega)⟩
end Go.Proofs.Ytckelojdjmaliaa

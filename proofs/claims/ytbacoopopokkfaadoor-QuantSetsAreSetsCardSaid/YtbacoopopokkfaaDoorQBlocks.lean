/- The mathematics of the stable sort: blocks, and passes that merge them two by two; one insertion. No program. -/
import Derived.Test.YtbacoopopokkfaaDoorQMerge
namespace Go.Proofs.YtbacoopopokkfaaDoor
set_option linter.unusedSimpArgs false
set_option linter.unusedVariables false

/-- All blocks of a size from lo on, before hi. -/
def Blks (key : Nat → Int) (f : Nat → Nat) (n size lo hi : Nat) : Prop := ∀ x, lo ≤ x → x < hi → size ∣ x → Blk key f x (min (x + size) n)

theorem dvd_gap {s x a : Nat} (hx : s ∣ x) (ha : s ∣ a) (h : x < a) : x + s ≤ a := by
  obtain ⟨p, rfl⟩ := hx
  obtain ⟨q, rfl⟩ := ha
  have hpq : p < q := Nat.lt_of_mul_lt_mul_left h
  have := Nat.mul_le_mul_left s hpq
  rw [Nat.mul_succ] at this
  exact this

/-- A block more is in order. -/
theorem Blks.more {key : Nat → Int} {f g : Nat → Nat} {n size a b : Nat} (h : Blks key f n size 0 a) (hd : size ∣ a) (hm : Mv a b f g) (hb : Blk key g a (min (a + size) n)) : Blks key g n size 0 (a + size) := by
  intro x _ hx hs
  rcases Nat.lt_or_ge x a with c | c
  · exact (h x (by omega) c hs).keep hm (.inl (by have := dvd_gap hs hd c; omega))
  · have : x = a := by
      rcases Nat.lt_or_ge a x with d | d
      · have := dvd_gap hd hs d; omega
      · omega
    rw [this]; exact hb

/-- Within a pass: up to a the blocks are twice as long. -/
structure Pass (key : Nat → Int) (f : Nat → Nat) (n size a : Nat) : Prop where
  dv : 2 * size ∣ a
  big : Blks key f n (2 * size) 0 a
  small : Blks key f n size a n
  pos : 0 < size
  an : a ≤ n + 2 * size

theorem Pass.start {key : Nat → Int} {f : Nat → Nat} {n size : Nat} (h : Blks key f n size 0 n) (hp : 0 < size) : Pass key f n size 0 :=
  ⟨Nat.dvd_zero _, fun x _ h => by omega, h, hp, by omega⟩
theorem Pass.dv1 {key : Nat → Int} {f : Nat → Nat} {n size a : Nat} (h : Pass key f n size a) : size ∣ a := Nat.dvd_trans (Nat.dvd_mul_left size 2) h.dv
/-- The runs that are merged next. -/
theorem Pass.runs {key : Nat → Int} {f : Nat → Nat} {n size a b : Nat} (h : Pass key f n size a) (hb : b = min (a + 2 * size) n) (hm : a + size < n) : Runs key f a (a + size) b := by
  have hp := h.pos
  have h1 := h.small a (Nat.le_refl _) (by omega) h.dv1
  have h2 := h.small (a + size) (by omega) hm (Nat.dvd_add h.dv1 (Nat.dvd_refl _))
  rw [show min (a + size) n = a + size by omega] at h1
  rw [show min (a + size + size) n = b by omega] at h2
  exact Blk.runs h1 h2 (by omega) (by omega)
theorem Pass.step {key : Nat → Int} {f g : Nat → Nat} {n size a b : Nat} (h : Pass key f n size a) (hb : b = min (a + 2 * size) n) (hm : a + size < n) (hv : Mv a b f g) (hs : Srt key g a b) : Blk key g a b := by
  have hp := h.pos
  have h1 := h.small a (Nat.le_refl _) (by omega) h.dv1
  have h2 := h.small (a + size) (by omega) hm (Nat.dvd_add h.dv1 (Nat.dvd_refl _))
  rw [show min (a + size) n = a + size by omega] at h1
  rw [show min (a + size + size) n = b by omega] at h2
  exact Blk.merged h1 h2 (by omega) (by omega) hv hs
theorem Pass.next {key : Nat → Int} {f g : Nat → Nat} {n size a : Nat} (h : Pass key f n size a) (hn : a + 2 * size ≤ n) (hv : Mv a (a + 2 * size) f g) (hs : Srt key g a (a + 2 * size)) : Pass key g n size (a + 2 * size) := by
  have hp := h.pos
  have hb := h.step (b := a + 2 * size) (by omega) (by omega) hv hs
  refine ⟨Nat.dvd_add h.dv (Nat.dvd_refl _), h.big.more h.dv hv (by rw [show min (a + 2 * size) n = a + 2 * size by omega]; exact hb), fun x h1 h2 h3 => ?_, hp, by omega⟩
  exact (h.small x (by omega) h2 h3).keep hv (.inr h1)
/-- The end of a pass, where a last pair is merged. -/
theorem Pass.last {key : Nat → Int} {f g : Nat → Nat} {n size a : Nat} (h : Pass key f n size a) (hn : n < a + 2 * size) (hm : a + size < n) (hv : Mv a n f g) (hs : Srt key g a n) : Blks key g n (2 * size) 0 n := by
  have hp := h.pos
  have hb := h.step (b := n) (by omega) hm hv hs
  intro x h1 h2 h3
  exact (h.big.more h.dv hv (by rw [show min (a + 2 * size) n = n by omega]; exact hb)) x h1 (by omega) h3
/-- The end of a pass, where nothing, or one block, is left. -/
theorem Pass.done {key : Nat → Int} {f : Nat → Nat} {n size a : Nat} (h : Pass key f n size a) (hn : n < a + 2 * size) (hm : n ≤ a + size) : Blks key f n (2 * size) 0 n := by
  have hp := h.pos
  intro x h1 h2 h3
  rcases Nat.lt_or_ge x a with c | c
  · exact h.big x h1 c h3
  · have e : x = a := by
      rcases Nat.lt_or_ge a x with d | d
      · have := dvd_gap h.dv h3 d; omega
      · omega
    subst e
    have h4 := h.small x (Nat.le_refl _) h2 h.dv1
    rw [show min (x + size) n = n by omega] at h4
    rw [show min (x + 2 * size) n = n by omega]
    exact h4
theorem Blks.all {key : Nat → Int} {f : Nat → Nat} {n size : Nat} (h : Blks key f n size 0 n) (hn : 0 < n) (hs : n ≤ size) : Srt key f 0 n := by
  have := h 0 (Nat.le_refl _) hn (Nat.dvd_zero _)
  rw [show min (0 + size) n = n by omega] at this
  exact this.srt

/-- The state of an insertion sort: from a up to i in order; from i on nothing has moved. -/
structure Ins (key : Nat → Int) (f0 f : Nat → Nat) (a i : Nat) : Prop where
  ai : a ≤ i
  mv : Mv a i f0 f
  srt : Srt key f a i
  own : ∀ k, a ≤ k → f0 k = k

theorem Ins.runs {key : Nat → Int} {f0 f : Nat → Nat} {a i : Nat} (h : Ins key f0 f a i) : Runs key f a i (i + 1) := by
  refine ⟨h.ai, by omega, h.srt, fun x y h1 h2 h3 => by omega, fun x y h1 h2 h3 h4 => ?_⟩
  obtain ⟨x', l, u, e⟩ := h.mv.into x h1 h2
  rw [e, h.own x' l, h.mv.out y (by omega), h.own y (by have := h.ai; omega)]
  omega
theorem Ins.next {key : Nat → Int} {f0 f : Nat → Nat} {a i j : Nat} (h : Ins key f0 f a i) (h1 : a ≤ j) (h2 : j ≤ i) (hl : j = a ∨ Bef key (f (j - 1)) (f i)) (hr : j = i ∨ Bef key (f i) (f j)) : Ins key f0 (rot f j i (i + 1)) a (i + 1) := by
  have := h.ai
  exact ⟨by omega, (h.mv.mono (Nat.le_refl _) (by omega)).trans ((Mv.rot f j i (i + 1) h2 (by omega)).mono h1 (by omega)), merge_right h.runs h1 h2 hl hr, h.own⟩
theorem Ins.blk {key : Nat → Int} {f0 f : Nat → Nat} {a b : Nat} (h : Ins key f0 f a b) : Blk key f a b := by
  refine ⟨h.srt, fun k l u => ?_⟩
  obtain ⟨k', l', u', e⟩ := h.mv.into k l u
  rw [e, h.own k' l']; omega
theorem Ins.start {key : Nat → Int} {f : Nat → Nat} {a : Nat} (h : ∀ k, a ≤ k → f k = k) : Ins key f f a (a + 1) :=
  ⟨by omega, Mv.refl _ _ _, fun i j h1 h2 h3 => by omega, h⟩
end Go.Proofs.YtbacoopopokkfaaDoor

/- The shortest window that has at least a sum, purely. -/
import Derived.Test.YtdihmcbjoociiaaFHardW
namespace Go.Proofs.Ytdihmcbjoociiaa
open Go.RowKit

/-- From b on, at most n places further: the first place from which less than s is left till e. -/
def upTo (l : List Int) (s : Int) (e : Nat) (b : Nat) : Nat → Nat
  | 0 => b
  | n + 1 => if svN l e - svN l b < s then b else upTo l s e (b + 1) n
theorem upTo_ge (l : List Int) (s : Int) (e : Nat) : ∀ n b, b ≤ upTo l s e b n
  | 0, _ => Nat.le_refl _
  | n + 1, b => by
    rw [upTo]; split
    · exact Nat.le_refl _
    · have := upTo_ge l s e n (b + 1); omega
theorem upTo_le (l : List Int) (s : Int) (e : Nat) : ∀ n b, upTo l s e b n ≤ b + n
  | 0, _ => Nat.le_refl _
  | n + 1, b => by
    rw [upTo]; split
    · omega
    · have := upTo_le l s e n (b + 1); omega
/-- Ahead of that place all has s or more; at it less, or it is the end. -/
theorem upTo_is (l : List Int) (s : Int) (e : Nat) : ∀ n b, (∀ j, b ≤ j → j < upTo l s e b n → s ≤ svN l e - svN l j) ∧ (upTo l s e b n = b + n ∨ svN l e - svN l (upTo l s e b n) < s)
  | 0, b => ⟨fun j h1 h2 => by rw [upTo] at h2; omega, .inl rfl⟩
  | n + 1, b => by
    rw [upTo]; split
    · rename_i h
      exact ⟨fun j h1 h2 => by omega, .inr h⟩
    · rename_i h
      obtain ⟨a, c⟩ := upTo_is l s e n (b + 1)
      refine ⟨fun j h1 h2 => ?_, by omega⟩
      rcases Nat.eq_or_lt_of_le h1 with q | q
      · subst q; omega
      · exact a j q h2
/-- Where the reference's windows begin, behind so many seconds. -/
def beg (l : List Int) (s : Int) : Nat → Nat
  | 0 => 0
  | k + 1 => if nthI l k < 0 then k + 1 else upTo l s (k + 1) (beg l s k) (k + 1 - beg l s k)
theorem beg_le (l : List Int) (s : Int) : ∀ k, beg l s k ≤ k
  | 0 => Nat.le_refl _
  | k + 1 => by
    rw [beg]; split
    · exact Nat.le_refl _
    · have h := beg_le l s k
      have := upTo_le l s (k + 1) (k + 1 - beg l s k) (beg l s k)
      omega

/-- What is told so far. -/
structure LSt where
  from_ : Int
  to_ : Int
  ok : Bool
/-- A window is told if it is the first or shorter. -/
def LSt.tell (b : LSt) (p q : Int) : LSt := if b.ok = false ∨ q - p < b.to_ - b.from_ then ⟨p, q, true⟩ else b
/-- One window behind another that begins later: the later alone counts. -/
theorem tell_two (b : LSt) {p p2 q : Int} (hp : p < p2) : (b.tell p q).tell p2 q = b.tell p2 q := by
  unfold LSt.tell
  by_cases h : b.ok = false ∨ q - p < b.to_ - b.from_
  · rw [if_pos h, if_pos (by right; simp only; omega), if_pos (by rcases h with h | h; exact .inl h; right; omega)]
  · rw [if_neg h]
/-- So many windows that begin from b on, told one behind the other. -/
def tells (e : Int) (b : Nat) : Nat → LSt → LSt
  | 0, x => x
  | n + 1, x => tells e (b + 1) n (x.tell b e)
theorem tells_last (e : Int) : ∀ n b x, tells e b (n + 1) x = x.tell ((b + n : Nat) : Int) e
  | 0, b, x => rfl
  | n + 1, b, x => by
    rw [tells, tells_last e n (b + 1), show b + 1 + n = b + (n + 1) by omega]
    exact tell_two x (by omega)
/-- What is told behind so many seconds. -/
def lst (l : List Int) (s : Int) : Nat → LSt
  | 0 => ⟨0, 0, false⟩
  | k + 1 => if nthI l k < 0 then lst l s k else tells ((k + 1 : Nat) : Int) (beg l s k) (beg l s (k + 1) - beg l s k) (lst l s k)

theorem sv_mono (l : List Int) {a b : Nat} (h : a ≤ b) : svN l a ≤ svN l b := by
  induction h with
  | refl => omega
  | step _ ih => rw [svN]; split <;> omega

/-- Where the program's window begins, behind so many seconds. -/
def PFirst (l : List Int) (s : Int) (k f : Nat) : Prop :=
  f ≤ k ∧ ((f = beg l s k ∧ svN l k - svN l f < s) ∨ (f + 1 = beg l s k ∧ s ≤ svN l k - svN l f ∧ (lst l s k).ok = true ∧ (lst l s k).to_ - (lst l s k).from_ ≤ (k : Int) - (f : Int)))
theorem pfirst_start (l : List Int) {s : Int} (hs : 1 ≤ s) : PFirst l s 0 0 := ⟨Nat.le_refl _, .inl ⟨rfl, by omega⟩⟩
theorem pfirst_gap {l : List Int} {s : Int} (hs : 1 ≤ s) {k : Nat} (hk : nthI l k < 0) : PFirst l s (k + 1) (k + 1) ∧ lst l s (k + 1) = lst l s k :=
  ⟨⟨Nat.le_refl _, .inl ⟨by rw [beg, if_pos hk], by omega⟩⟩, by rw [lst, if_pos hk]⟩
theorem tell_ok (b : LSt) (p q : Int) : (b.tell p q).ok = true ∧ (b.tell p q).to_ - (b.tell p q).from_ ≤ q - p := by
  unfold LSt.tell
  split
  · exact ⟨rfl, Int.le_refl _⟩
  · rename_i h
    obtain ⟨h1, h2⟩ := not_or.1 h
    exact ⟨by simpa using h1, by omega⟩

/-- Where it begins behind one second more, and what is told then. -/
theorem pfirst_next {l : List Int} {s : Int} {k f : Nat} (h : PFirst l s k f) (hk : 0 ≤ nthI l k) :
    ∃ f2, upTo l s (k + 1) (f + 1) (k - f) = f2 + 1 ∧ PFirst l s (k + 1) f2 ∧ f ≤ f2 ∧ f2 ≤ k ∧
      ((svN l (k + 1) - svN l f2 < s ∧ lst l s (k + 1) = lst l s k) ∨ (s ≤ svN l (k + 1) - svN l f2 ∧ lst l s (k + 1) = (lst l s k).tell f2 ((k : Int) + 1))) := by
  obtain ⟨hf, hc⟩ := h
  have hn : ¬ nthI l k < 0 := by omega
  have hge := upTo_ge l s (k + 1) (k - f) (f + 1)
  have hle := upTo_le l s (k + 1) (k - f) (f + 1)
  obtain ⟨hall, hend⟩ := upTo_is l s (k + 1) (k - f) (f + 1)
  obtain ⟨f2, hf2⟩ : ∃ f2, upTo l s (k + 1) (f + 1) (k - f) = f2 + 1 := ⟨upTo l s (k + 1) (f + 1) (k - f) - 1, by omega⟩
  have hb : beg l s (k + 1) = upTo l s (k + 1) (beg l s k) (k + 1 - beg l s k) := by rw [beg, if_neg hn]
  have hl : lst l s (k + 1) = tells ((k + 1 : Nat) : Int) (beg l s k) (beg l s (k + 1) - beg l s k) (lst l s k) := by rw [lst, if_neg hn]
  have hsv : svN l (k + 1) = svN l k + nthI l k := by rw [svN, if_neg hn]
  rw [hf2] at hge hle hall hend
  refine ⟨f2, hf2, ?_⟩
  rcases hc with ⟨he, hlt⟩ | ⟨he, hge2, hok, hlen⟩
  · rw [← he] at hb hl
    rw [show k + 1 - f = (k - f) + 1 by omega, upTo] at hb
    by_cases hq : svN l (k + 1) - svN l f < s
    · rw [if_pos hq] at hb
      have hff : f2 = f := by
        rcases Nat.lt_or_ge f f2 with q | q
        · have h1 := hall (f + 1) (Nat.le_refl _) (by omega)
          have h2 := sv_mono l (show f ≤ f + 1 by omega)
          omega
        · omega
      subst hff
      rw [hb, Nat.sub_self, tells] at hl
      exact ⟨⟨by omega, .inl ⟨hb.symm, hq⟩⟩, Nat.le_refl _, hf, .inl ⟨hq, hl⟩⟩
    · rw [if_neg hq, hf2] at hb
      have hs2 : s ≤ svN l (k + 1) - svN l f2 := by
        rcases Nat.eq_or_lt_of_le (show f ≤ f2 by omega) with q | q
        · subst q; omega
        · exact hall f2 (by omega) (by omega)
      rw [hb, show f2 + 1 - f = (f2 - f) + 1 by omega, tells_last, show f + (f2 - f) = f2 by omega, Int.natCast_add] at hl
      have hl2 : lst l s (k + 1) = (lst l s k).tell f2 ((k : Int) + 1) := hl
      have ht := tell_ok (lst l s k) f2 ((k : Int) + 1)
      rw [← hl2] at ht
      exact ⟨⟨by omega, .inr ⟨hb.symm, hs2, ht.1, by omega⟩⟩, by omega, by omega, .inr ⟨hs2, hl2⟩⟩
  · rw [← he] at hb hl
    rw [show k + 1 - (f + 1) = k - f by omega, hf2] at hb
    have hs2 : s ≤ svN l (k + 1) - svN l f2 := by
      rcases Nat.eq_or_lt_of_le (show f ≤ f2 by omega) with q | q
      · subst q; omega
      · exact hall f2 (by omega) (by omega)
    have hl2 : lst l s (k + 1) = (lst l s k).tell f2 ((k : Int) + 1) := by
      rcases Nat.eq_or_lt_of_le (show f ≤ f2 by omega) with q | q
      · subst q
        rw [hb, Nat.sub_self, tells] at hl
        rw [hl]
        unfold LSt.tell
        rw [if_neg (by rw [hok]; simp; omega)]
      · rw [hb, show f2 + 1 - (f + 1) = (f2 - f - 1) + 1 by omega, tells_last, show f + 1 + (f2 - f - 1) = f2 by omega, Int.natCast_add] at hl
        exact hl
    have ht := tell_ok (lst l s k) f2 ((k : Int) + 1)
    rw [← hl2] at ht
    exact ⟨⟨by omega, .inr ⟨hb.symm, hs2, ht.1, by omega⟩⟩, by omega, by omega, .inr ⟨hs2, hl2⟩⟩
end Go.Proofs.Ytdihmcbjoociiaa

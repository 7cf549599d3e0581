/- Texts that all laws of this seat use, one behind the other. -/
import Derived.Deep.OwnRows
import Derived.Test.YtgkhhfojioepgaaBaseA
import Derived.RangeFuncNested
import Derived.RangeFuncBound
import Derived.RangeFuncCalls
import Derived.RangeFuncLeaves
import Derived.RangeFuncBox
import Derived.Shelf.Abstract
import Derived.Shelf.RegionOpen
import Derived.OwnWalkIn
import Derived.TacticsInMore
import Derived.LoopNIn
import Derived.LoopIn
import Derived.Deep.RegionHeld3
import Derived.Test.YtgkhhfojioepgaaOrdA
import Derived.Deep.CutBlock
import Derived.Deep.DeepCutAuto
import Derived.Test.YtgkhhfojioepgaaShelf
import Derived.WalkKit
import Derived.WalkSpells
import Derived.WalkLawsBesides
import Derived.Handy
import Derived.Lib.Hide
import Derived.Deep.QuietTactic
import Derived.BigQuiet
import Derived.Test.YtgkhhfojioepgaaProg
import Derived.Deep.RegionWith
import Derived.Lib.ItoaNum
import Derived.Laws.BitsAllLaws
import Derived.Laws.EntriesVeiled
namespace Go.Proofs.Ytgkhhfojioepgaa
set_option linter.unusedSimpArgs false
set_option linter.unusedVariables false

/-- A span of seconds. -/
structure SpV where
  fr : Int
  to_ : Int
instance : Inhabited SpV := ⟨⟨0, 0⟩⟩
def spCs (x : SpV) : List Value := [.int .i64 x.fr, .int .i64 x.to_]
def spLast (l : List SpV) : SpV := l.getD (l.length - 1) ⟨0, 0⟩
theorem spLast_app (l : List SpV) (x : SpV) : spLast (l ++ [x]) = x := by unfold spLast; simp
/-- One step more. -/
def rowS (T : Nat → Int) (acc : List SpV) (k : Nat) (m : Bool) : List SpV :=
  if m = true then (if 0 < acc.length ∧ (spLast acc).to_ = T k - 1 then acc.set (acc.length - 1) ⟨(spLast acc).fr, T (k + 1) - 1⟩ else acc ++ [⟨T k, T (k + 1) - 1⟩]) else acc
def rowL (T : Nat → Int) (M : Nat → Bool) : Nat → List SpV
  | 0 => []
  | k + 1 => rowS T (rowL T M k) k (M k)
def keepR (least : Int) (x : SpV) : Bool := !decide (x.to_ - x.fr + 1 < least)
def restL (T : Nat → Int) (M : Nat → Bool) (least : Int) (n : Nat) : List SpV := (rowL T M n).filter (keepR least)

theorem rise_le {T : Nat → Int} {n : Nat} (h : ∀ k, k < n → T k < T (k + 1)) : ∀ {a b : Nat}, a ≤ b → b ≤ n → T a ≤ T b
  | a, 0, hab, _ => by
    obtain rfl : a = 0 := (by omega)
    exact Int.le_refl _
  | a, b + 1, hab, hb => by
    rcases Nat.eq_or_lt_of_le hab with rfl | hlt
    · exact Int.le_refl _
    · have := rise_le h (show a ≤ b by omega) (by omega); have := h b (by omega); omega
theorem rise_lt {T : Nat → Int} {n : Nat} (h : ∀ k, k < n → T k < T (k + 1)) {a b : Nat} (hab : a < b) (hb : b ≤ n) : T a < T b := by
  have := h a (by omega); have := rise_le h (show a + 1 ≤ b by omega) hb; omega

/-- What the rows so far are. -/
structure RowOk (T : Nat → Int) (M : Nat → Bool) (k : Nat) (L : List SpV) : Prop where
  al : ∀ x ∈ L, ∃ a b, a < b ∧ b ≤ k ∧ x = ⟨T a, T b - 1⟩
  pw : L.Pairwise fun x y => x.to_ < y.fr
  last : 0 < k → M (k - 1) = true → 0 < L.length ∧ (spLast L).to_ = T k - 1
  no : (k = 0 ∨ M (k - 1) = false) → ∀ x ∈ L, x.to_ < T k - 1
  len : L.length ≤ k
theorem spLast_mem {l : List SpV} (h : 0 < l.length) : spLast l ∈ l := by
  unfold spLast; rw [List.getD_eq_getElem?_getD, List.getElem?_eq_getElem (by omega)]; exact List.getElem_mem _
theorem set_last {l : List SpV} (h : 0 < l.length) (y : SpV) : l.set (l.length - 1) y = l.dropLast ++ [y] := by
  apply List.ext_getElem
  · simp; omega
  · intro i h1 h2
    simp only [List.length_set] at h1
    rw [List.getElem_set]
    split
    · rename_i e; subst e; rw [List.getElem_append_right (by simp)]; simp
    · rw [List.getElem_append_left (by simp; omega)]; simp
theorem split_last {l : List SpV} (h : 0 < l.length) : l = l.dropLast ++ [spLast l] := by
  have := set_last h (spLast l)
  rw [← this]
  apply List.ext_getElem (by simp)
  intro i h1 h2
  rw [List.getElem_set]
  split
  · rename_i e; subst e; unfold spLast; rw [List.getD_eq_getElem?_getD, List.getElem?_eq_getElem h1]; rfl
  · rfl
theorem row_ok {T : Nat → Int} {M : Nat → Bool} {n : Nat} (hT : ∀ k, k < n → T k < T (k + 1)) : ∀ k, k ≤ n → RowOk T M k (rowL T M k)
  | 0, _ => ⟨fun _ h => (by cases h), List.Pairwise.nil, fun h => absurd h (by omega), fun _ _ h => (by cases h), Nat.le_refl _⟩
  | k + 1, hk => by
    have ih := row_ok (M := M) hT k (by omega)
    have hs := hT k (by omega)
    show RowOk T M (k + 1) (rowS T (rowL T M k) k (M k))
    generalize rowL T M k = L at ih
    unfold rowS
    by_cases hm : M k = true
    · rw [if_pos hm]
      by_cases hc : 0 < L.length ∧ (spLast L).to_ = T k - 1
      · rw [if_pos hc, set_last hc.1]
        obtain ⟨h0, hto⟩ := hc
        have hsp := split_last h0
        obtain ⟨a, b, hab, hbk, he⟩ := ih.al _ (spLast_mem h0)
        have hpw := ih.pw
        rw [hsp] at hpw
        obtain ⟨p1, _, p3⟩ := List.pairwise_append.1 hpw
        refine ⟨fun x hx => ?_, List.pairwise_append.2 ⟨p1, List.pairwise_singleton _ _, fun x hx y hy => ?_⟩, fun _ _ => ⟨by simp, by rw [spLast_app]⟩, fun h => ?_, by have := ih.len; simp; omega⟩
        · rcases List.mem_append.1 hx with h | h
          · obtain ⟨a', b', q1, q2, q3⟩ := ih.al x ((List.dropLast_sublist L).subset h)
            exact ⟨a', b', q1, by omega, q3⟩
          · rw [List.mem_singleton.1 h, he]; exact ⟨a, k + 1, by omega, Nat.le_refl _, rfl⟩
        · rw [List.mem_singleton.1 hy]; exact p3 x hx (spLast L) (by simp)
        · rcases h with h | h
          · omega
          · rw [Nat.add_sub_cancel, hm] at h; cases h
      · rw [if_neg hc]
        have hno : ∀ x ∈ L, x.to_ < T k - 1 := by
          apply ih.no
          rcases Nat.eq_zero_or_pos k with h | h
          · exact .inl h
          · right
            cases hq : M (k - 1) with
            | false => rfl
            | true => exact absurd (ih.last h hq) hc
        refine ⟨fun x hx => ?_, List.pairwise_append.2 ⟨ih.pw, List.pairwise_singleton _ _, fun x hx y hy => ?_⟩, fun _ _ => ⟨by simp, by rw [spLast_app]⟩, fun h => ?_, by have := ih.len; simp; omega⟩
        · rcases List.mem_append.1 hx with h | h
          · obtain ⟨a', b', q1, q2, q3⟩ := ih.al x h
            exact ⟨a', b', q1, by omega, q3⟩
          · rw [List.mem_singleton.1 h]; exact ⟨k, k + 1, by omega, Nat.le_refl _, rfl⟩
        · rw [List.mem_singleton.1 hy]; have := hno x hx; simp only; omega
        · rcases h with h | h
          · omega
          · rw [Nat.add_sub_cancel, hm] at h; cases h
    · rw [if_neg hm]
      refine ⟨fun x hx => ?_, ih.pw, fun _ h => ?_, fun _ x hx => ?_, by have := ih.len; omega⟩
      · obtain ⟨a', b', q1, q2, q3⟩ := ih.al x hx
        exact ⟨a', b', q1, by omega, q3⟩
      · rw [Nat.add_sub_cancel] at h; exact absurd h hm
      · obtain ⟨a', b', q1, q2, q3⟩ := ih.al x hx
        have := rise_le hT q2 (by omega)
        rw [q3]; simp only; omega
/-- A run of steps that are meant. -/
theorem row_run {T : Nat → Int} {M : Nat → Bool} {n i : Nat} (hT : ∀ k, k < n → T k < T (k + 1)) (hi : i = 0 ∨ M (i - 1) = false) : ∀ j, i ≤ j → j < n → (∀ t, i ≤ t → t ≤ j → M t = true) → rowL T M (j + 1) = rowL T M i ++ [⟨T i, T (j + 1) - 1⟩]
  | j, hij, hjn, hM => by
    rcases Nat.eq_or_lt_of_le hij with rfl | hlt
    · show rowS T (rowL T M i) i (M i) = _
      unfold rowS
      rw [if_pos (hM i (Nat.le_refl _) (Nat.le_refl _)), if_neg]
      rintro ⟨h0, h1⟩
      have := (row_ok (M := M) hT i (by omega)).no hi _ (spLast_mem h0)
      omega
    · obtain ⟨m, rfl⟩ : ∃ m, j = m + 1 := ⟨j - 1, by omega⟩
      have ih := row_run hT hi m (by omega) (by omega) (fun t h1 h2 => hM t h1 (by omega))
      show rowS T (rowL T M (m + 1)) (m + 1) (M (m + 1)) = _
      unfold rowS
      rw [if_pos (hM (m + 1) hij (Nat.le_refl _)), ih, spLast_app, if_pos ⟨by simp, rfl⟩, set_last (by simp)]
      simp
theorem rest_al {T : Nat → Int} {M : Nat → Bool} {n : Nat} (hT : ∀ k, k < n → T k < T (k + 1)) (least : Int) : ∀ x ∈ restL T M least n, ∃ a b, a < b ∧ b ≤ n ∧ x = ⟨T a, T b - 1⟩ := fun x hx => (row_ok hT n (Nat.le_refl _)).al x (List.mem_filter.1 hx).1
theorem rest_pw {T : Nat → Int} {M : Nat → Bool} {n : Nat} (hT : ∀ k, k < n → T k < T (k + 1)) (least : Int) : (restL T M least n).Pairwise fun x y => x.to_ < y.fr := (row_ok hT n (Nat.le_refl _)).pw.sublist List.filter_sublist
theorem rest_len {T : Nat → Int} {M : Nat → Bool} {n : Nat} (hT : ∀ k, k < n → T k < T (k + 1)) (least : Int) : (restL T M least n).length ≤ n := Nat.le_trans (List.length_filter_le _ _) (row_ok hT n (Nat.le_refl _)).len

/-- How many seconds from 0 on, below N, are so. -/
def cntS (f : Int → Bool) : Nat → Int
  | 0 => 0
  | n + 1 => cntS f n + if f n = true then 1 else 0
def inSp (x : SpV) (s : Int) : Bool := decide (x.fr ≤ s ∧ s ≤ x.to_)
def covS (L : List SpV) (s : Int) : Bool := L.any fun x => inSp x s
theorem cnt_congr {f g : Int → Bool} : ∀ {n : Nat}, (∀ s : Nat, s < n → f s = g s) → cntS f n = cntS g n
  | 0, _ => rfl
  | n + 1, h => by unfold cntS; rw [cnt_congr fun s hs => h s (by omega), h n (by omega)]
theorem cnt_not (f : Int → Bool) : ∀ n : Nat, cntS f n + cntS (fun s => !f s) n = n
  | 0 => rfl
  | n + 1 => by
    have := cnt_not f n
    unfold cntS
    cases f n <;> simp <;> omega
theorem cnt_bd (f : Int → Bool) : ∀ n : Nat, 0 ≤ cntS f n ∧ cntS f n ≤ n
  | 0 => by simp [cntS]
  | n + 1 => by
    have := cnt_bd f n
    unfold cntS
    cases f n <;> simp <;> omega
/-- More seconds, all alike. -/
theorem cnt_more (f : Int → Bool) (b : Bool) : ∀ {n m : Nat}, n ≤ m → (∀ s : Nat, n ≤ s → s < m → f s = b) → cntS f m = cntS f n + if b = true then (m : Int) - n else 0
  | n, 0, h, _ => by obtain rfl : n = 0 := by omega
                     simp
  | n, m + 1, h, hs => by
    rcases Nat.eq_or_lt_of_le h with rfl | hlt
    · simp
    · have ih := cnt_more f b (show n ≤ m by omega) (fun s h1 h2 => hs s h1 (by omega))
      show cntS f m + _ = _
      rw [ih, hs m (by omega) (by omega)]
      cases b <;> simp <;> omega
/-- With one interval more. -/
theorem cnt_add {f g : Int → Bool} {u v : Int} (hu : 0 ≤ u) : ∀ {n : Nat}, v ≤ n → (∀ s : Int, 0 ≤ s → g s = (f s || decide (u ≤ s ∧ s < v))) → (∀ s : Int, u ≤ s → s < v → f s = false) → cntS g n = cntS f n + max (v - u) 0 := by
  intro n hv hg hf
  have key : ∀ m : Nat, cntS g m = cntS f m + max (min v m - u) 0 := by
    intro m
    induction m with
    | zero => simp [cntS]; omega
    | succ m ih =>
      show cntS g m + _ = cntS f m + _ + _
      rw [ih, hg m (by omega)]
      by_cases h : u ≤ (m : Int) ∧ (m : Int) < v
      · rw [hf m h.1 h.2, decide_eq_true h]
        simp; omega
      · rw [decide_eq_false h, Bool.or_false]
        have e : max (min v ((m + 1 : Nat) : Int) - u) 0 = max (min v (m : Int) - u) 0 := by omega
        rw [e]; omega
  rw [key n]
  have : min v (n : Int) = v := by omega
  rw [this]
/-- What is left of N seconds behind some spans: the sum, and where the last one ends. -/
def movS (st : Int × Int) (x : SpV) : Int × Int := (st.1 - max (x.to_ + 1 - max x.fr st.2) 0, max st.2 (x.to_ + 1))
def movF (N : Int) (L : List SpV) : Int × Int := L.foldl movS (N, 0)
theorem mov_snoc (N : Int) (L : List SpV) (x : SpV) : movF N (L ++ [x]) = movS (movF N L) x := by unfold movF; rw [List.foldl_append]; rfl
theorem cov_app (L : List SpV) (x : SpV) (s : Int) : covS (L ++ [x]) s = (covS L s || inSp x s) := by unfold covS; simp
theorem cov_apps (L K : List SpV) (s : Int) : covS (L ++ K) s = (covS L s || covS K s) := by unfold covS; simp
theorem cov_perm {L K : List SpV} (h : L.Perm K) (s : Int) : covS L s = covS K s := by
  unfold covS
  rw [Bool.eq_iff_iff, List.any_eq_true, List.any_eq_true]
  constructor
  · rintro ⟨x, hx, e⟩; exact ⟨x, h.mem_iff.1 hx, e⟩
  · rintro ⟨x, hx, e⟩; exact ⟨x, h.mem_iff.2 hx, e⟩
theorem mov_is (N : Nat) : ∀ (m : Nat) (L : List SpV), L.length ≤ m → L.Pairwise (fun x y => x.fr ≤ y.fr) → (∀ x ∈ L, 0 ≤ x.fr ∧ x.fr ≤ x.to_ ∧ x.to_ < N) →
    (movF N L).1 = N - cntS (covS L) N ∧ 0 ≤ (movF N L).2 ∧ (movF N L).2 ≤ N ∧ (∀ x ∈ L, x.to_ < (movF N L).2) ∧ (∀ s, (∀ x ∈ L, x.fr ≤ s) → covS L s = decide (L ≠ [] ∧ s < (movF N L).2)) := by
  intro m
  induction m with
  | zero =>
    intro L hm _ _
    have e : L = [] := List.eq_nil_of_length_eq_zero (by omega)
    subst e
    have hc : cntS (covS []) N = 0 := by
      have := cnt_more (covS []) false (n := 0) (m := N) (by omega) (fun _ _ _ => rfl)
      simpa [cntS] using this
    refine ⟨?_, by simp [movF], by simp [movF], fun _ h => (by cases h), fun s _ => by simp [covS]⟩
    rw [hc]; simp [movF]
  | succ m ih =>
    intro L hm hp hb
    rcases Nat.lt_or_ge L.length (m + 1) with h | h
    · exact ih L (by omega) hp hb
    · obtain ⟨K, x, rfl⟩ : ∃ K x, L = K ++ [x] := ⟨L.dropLast, L.getLast (fun e => by subst e; simp at h), (List.dropLast_concat_getLast _).symm⟩
      simp only [List.length_append, List.length_cons, List.length_nil] at hm
      obtain ⟨p1, _, p3⟩ := List.pairwise_append.1 hp
      obtain ⟨i1, i2, i3, i4, i5⟩ := ih K (by omega) p1 (fun y hy => hb y (by simp [hy]))
      obtain ⟨b1, b2, b3⟩ := hb x (by simp)
      have hKx : ∀ y ∈ K, y.fr ≤ x.fr := fun y hy => p3 y hy x (by simp)
      rw [mov_snoc]
      obtain ⟨⟨q, e⟩, hq⟩ : ∃ p, movF N K = p := ⟨_, rfl⟩
      rw [hq] at i1 i2 i3 i4 i5
      rw [hq]
      simp only [movS] at i1 i2 i3 i4 i5 ⊢
      have hcov : ∀ s, x.fr ≤ s → covS K s = decide (K ≠ [] ∧ s < e) := fun s hs => i5 s fun y hy => by have := hKx y hy; omega
      have hce : ∀ s, x.fr ≤ s → covS K s = decide (s < e) := fun s hs => by
        rw [hcov s hs]
        by_cases hk : K = []
        · subst hk
          have : e = 0 := by have := congrArg Prod.snd hq; simpa [movF] using this.symm
          have h2 : ¬ s < e := by omega
          simp [h2]
        · simp [hk]
      refine ⟨?_, by omega, by omega, fun y hy => ?_, fun s hs => ?_⟩
      · have := cnt_add (f := covS K) (g := covS (K ++ [x])) (u := max x.fr e) (v := x.to_ + 1) (by omega) (n := N) (by omega) (fun s h0 => ?_) (fun s h1 h2 => ?_)
        · rw [this, i1]; omega
        · rw [cov_app]
          by_cases hs : x.fr ≤ s
          · rw [hce s hs]
            unfold inSp
            by_cases h1 : s < e
            · simp [h1]
            · have : (x.fr ≤ s ∧ s ≤ x.to_) ↔ (max x.fr e ≤ s ∧ s < x.to_ + 1) := by omega
              rw [decide_eq_decide.2 this]
          · unfold inSp
            rw [decide_eq_false (fun h => hs h.1), decide_eq_false (fun h => hs (by have := h.1; omega))]
        · rw [hce s (by omega)]; simp; omega
      · rcases List.mem_append.1 hy with h | h
        · have := i4 y h; omega
        · rw [List.mem_singleton.1 h]; omega
      · have hxs : x.fr ≤ s := hs x (by simp)
        rw [cov_app, hce s hxs]
        unfold inSp
        by_cases h1 : s < e <;> by_cases h2 : s ≤ x.to_ <;> simp [h1, h2, hxs] <;> omega
/-- What the other way counts: steps that begin in no span. -/
def movR (T : Nat → Int) (L K : List SpV) : Nat → Int
  | 0 => 0
  | k + 1 => movR T L K k + if covS L (T k) = false ∧ covS K (T k) = false then T (k + 1) - T k else 0
theorem movR_is {T : Nat → Int} {n : Nat} (hT : ∀ k, k < n → T k < T (k + 1)) (h0 : T 0 = 0) {L K : List SpV} (hL : ∀ x ∈ L ++ K, ∃ a b, a < b ∧ b ≤ n ∧ x = ⟨T a, T b - 1⟩) : ∀ k, k ≤ n → movR T L K k = cntS (fun s => !covS (L ++ K) s) (T k).toNat
  | 0, _ => by rw [h0]; rfl
  | k + 1, hk => by
    have ih := movR_is hT h0 hL k (by omega)
    have hs := hT k (by omega)
    have hk0 : 0 ≤ T k := by have := rise_le hT (Nat.zero_le k) (by omega); omega
    have same : ∀ s : Nat, (T k).toNat ≤ s → s < (T (k + 1)).toNat → covS (L ++ K) s = covS (L ++ K) (T k) := fun s h1 h2 => by
      unfold covS
      rw [Bool.eq_iff_iff, List.any_eq_true, List.any_eq_true]
      have one : ∀ x ∈ L ++ K, inSp x s = inSp x (T k) := fun x hx => by
        obtain ⟨a, b, hab, hb, rfl⟩ := hL x hx
        unfold inSp
        rw [decide_eq_decide]
        simp only
        constructor
        · rintro ⟨g1, g2⟩
          have ha : a ≤ k := by
            rcases Nat.lt_or_ge k a with h | h
            · have := rise_le hT (show k + 1 ≤ a by omega) (by omega); omega
            · exact h
          have hb2 : k < b := by
            rcases Nat.lt_or_ge k b with h | h
            · exact h
            · have := rise_le hT h (by omega); omega
          have := rise_le hT ha (by omega)
          have := rise_lt hT hb2 hb
          omega
        · rintro ⟨g1, g2⟩
          have hb2 : k < b := by
            rcases Nat.lt_or_ge k b with h | h
            · exact h
            · have := rise_le hT h (by omega); omega
          have := rise_le hT (show k + 1 ≤ b by omega) hb
          omega
      constructor
      · rintro ⟨x, hx, e⟩; exact ⟨x, hx, by rw [← one x hx]; exact e⟩
      · rintro ⟨x, hx, e⟩; exact ⟨x, hx, by rw [one x hx]; exact e⟩
    rw [cnt_more (fun s => !covS (L ++ K) s) (!covS (L ++ K) (T k)) (n := (T k).toNat) (m := (T (k + 1)).toNat) (by omega) (fun s h1 h2 => by rw [same s h1 h2])]
    unfold movR
    rw [ih, cov_apps]
    have e1 : ((T (k + 1)).toNat : Int) = T (k + 1) := by omega
    have e2 : ((T k).toNat : Int) = T k := by omega
    rw [e1, e2]
    cases covS L (T k) <;> cases covS K (T k) <;> simp
/-- Both ways count the same. -/
theorem moving_is {T : Nat → Int} {n : Nat} (hT : ∀ k, k < n → T k < T (k + 1)) (h0 : T 0 = 0) {L K S : List SpV} (hL : ∀ x ∈ L ++ K, ∃ a b, a < b ∧ b ≤ n ∧ x = ⟨T a, T b - 1⟩) (hp : S.Perm (L ++ K)) (hs : S.Pairwise fun x y => x.fr ≤ y.fr) : (movF (T n) S).1 = movR T L K n := by
  have hN : 0 ≤ T n := by have := rise_le hT (Nat.zero_le n) (Nat.le_refl _); omega
  obtain ⟨N, hNN⟩ : ∃ N : Nat, (N : Int) = T n := ⟨(T n).toNat, by omega⟩
  have hb : ∀ x ∈ S, 0 ≤ x.fr ∧ x.fr ≤ x.to_ ∧ x.to_ < N := fun x hx => by
    obtain ⟨a, b, hab, hbn, rfl⟩ := hL x (hp.mem_iff.1 hx)
    have := rise_le hT (Nat.zero_le a) (by omega); have := rise_lt hT hab hbn; have := rise_le hT hbn (Nat.le_refl _)
    simp only; omega
  have h1 := (mov_is N S.length S (Nat.le_refl _) hs hb).1
  rw [← hNN, h1, movR_is hT h0 hL n (Nat.le_refl _), ← hNN, Int.toNat_natCast, cnt_congr (f := covS S) (g := covS (L ++ K)) (fun s _ => cov_perm hp s)]
  have := cnt_not (covS (L ++ K)) N
  omega
end Go.Proofs.Ytgkhhfojioepgaa
namespace Go.Proofs.Ytgkhhfojioepgaa
open Go.RowKit Go.Shelf
set_option linter.unusedSimpArgs false
set_option linter.unusedVariables false

attribute [local go_sem] Oper.semAt_some

/-- The number of a step. -/
abbrev StepNo (ss : List Smp) : Type := { k : Nat // k + 1 < ss.length }
def stepV (ss : List Smp) (k : Nat) : Value :=
  .agg #[.int .i64 k, .int .i64 (smpD ss k).t, .int .i64 (smpD ss k).x, .int .i64 (smpD ss k).y, .int .i64 (smpD ss k).z, .int .i64 (smpD ss k).p, .int .i64 (smpD ss k).q, .int .i64 (smpD ss k).s,
    .int .i64 (smpD ss (k + 1)).t, .int .i64 (smpD ss (k + 1)).x, .int .i64 (smpD ss (k + 1)).y, .int .i64 (smpD ss (k + 1)).z, .int .i64 (smpD ss (k + 1)).p, .int .i64 (smpD ss (k + 1)).q, .int .i64 (smpD ss (k + 1)).s]

/-- What a round keeps that goes on: what lay below n, and block b. -/
def KpB (n b : Nat) (W W' : World) : Prop := Below n W W' ∧ W'.heap[b]? = W.heap[b]?
theorem kpB_t {n b : Nat} {A B C : World} (h : KpB n b A B) (k : KpB n b B C) : KpB n b A C := ⟨h.1.trans k.1, k.2.trans h.2⟩

theorem steps_any (ao : Option Addr) (len cap : Nat) (w : World) :
    Calls Try.prog 111 #[.slice ao len cap] w fun e w' => e = .returned (.func (.func 148) #[] #[.pointer (some ⟨w.heap.size, 0, none⟩)]) ∧ w' = w.alloc (.cells #[.slice ao len cap] 22) := by
  have hmf : ∀ (fn : Fn) (first cap : Array Value) (w : World), (Instr.makeFunc fn first cap).run Try.prog w = .ok (.func fn first cap) w := fun _ _ _ _ => rfl
  go_enter Try.func111, Try.ntmps111
  go_wp2
  go_ret
  exact ⟨rfl, rfl⟩

set_option maxRecDepth 100000 in
set_option maxHeartbeats 4000000 in
theorem steps1_in (n : Nat) (hn : 1 ≤ n) (l Bs n₀ : Nat) (ao : Option Addr) (cap : Nat) (ss : List Smp) (hl : (ss.length : Int) ≤ 20000) (hb : ∀ a, ao = some a → ss ≠ [] → a.block < n₀) (J Jx : List (StepNo ss) → World → Prop)
    (hJ : ∀ pre W m, J pre W → J pre (W.drewN m))
    (hY : ∀ pre (x : StepNo ss) W, J pre W → pre.length < ss.length → YieldAt Fence.wide (n - 1) Try.prog l #[stepV ss x.1] W fun e W' =>
      (e = .returned (.bool true) ∧ J (pre ++ [x]) W' ∧ KpB n₀ Bs W W') ∨ (e = .returned (.bool false) ∧ Jx (pre ++ [x]) W'))
    (W : World) (hBs : W.cell? ⟨Bs, 0, none⟩ = some (.slice ao ss.length cap)) (hs : SmpsAt W ao ss) (h0 : J [] W) :
    CallsIn Fence.wide n Try.prog 148 #[.func (.yield l) #[] #[], .pointer (some ⟨Bs, 0, none⟩)] W fun e W' => (∃ v, e = .returned v) ∧
      ((∃ ys : List (StepNo ss), ys.map (·.1) = List.range (ss.length - 1) ∧ J ys W') ∨ (∃ pre : List (StepNo ss), (∃ k, k < ss.length ∧ pre.map (·.1) = List.range k) ∧ Jx pre W')) := by
  refine callsIn_of_wp Try.func148 rfl trivial ?_ rfl
  simp only [Try.ntmps148, List.size_toArray, List.length_cons, List.length_nil, Nat.reduceAdd, Nat.reduceSub, Array.replicate_succ, Array.replicate_zero, List.push_toArray, List.append_toArray, List.nil_append, List.cons_append]
  have HS := Lib.hid hs; have HB := Lib.hid hb; have HJ := Lib.hid hJ; have HY := Lib.hid hY; have HH := Lib.hid hBs
  clear hs hb hJ hY hBs
  gi_wp2
  gi_loopw [3] (fun i wr => ∃ (k m : Nat) (pre : List (StepNo ss)), Hid (m = k + 1) ∧ i = .int .i64 m ∧ Hid (k = 0 ∨ k < ss.length) ∧ Hid (pre.map (·.1) = List.range k) ∧ Hid (J pre wr) ∧ Hid (KpB n₀ Bs W wr))
    (fun i _ => ss.length - (intOf i).toNat)
  case atStart => exact ⟨0, 1, [], rfl, rfl, .inl rfl, rfl, h0, Below.refl _ _, rfl⟩
  case round =>
    obtain ⟨k, m, pre, hmk, rfl, hk, hpre, hJs, hnx⟩ := hrel
    have cB := (World.cell?_of_block (a := ⟨Bs, 0, none⟩) hnx.out.2).trans HH.out
    by_cases hlt : m < ss.length
    · have hmk1 := hmk.out
      have hne : ss ≠ [] := by intro e; rw [e] at hlt; simp at hlt
      obtain ⟨b, off, hao⟩ : ∃ b off, ao = some ⟨b, off, none⟩ := by
        cases hto : ao with
        | none => exact absurd (HS.out.nil hto) hne
        | some q => obtain ⟨b, off, s3⟩ := q; have := HS.out.spot _ hto hne; simp only at this; subst this; exact ⟨b, off, rfl⟩
      subst hao
      have hbn := HB.out _ rfl hne
      obtain ⟨p0, p1, p2, p3, p4, p5, p6⟩ := HS.out.cells _ rfl k (by omega)
      obtain ⟨q0, q1, q2, q3, q4, q5, q6⟩ := HS.out.cells _ rfl m hlt
      rw [← smpD_at (by omega : k < ss.length)] at p0 p1 p2 p3 p4 p5 p6
      rw [← smpD_at hlt] at q0 q1 q2 q3 q4 q5 q6
      simp only at p0 p1 p2 p3 p4 p5 p6 q0 q1 q2 q3 q4 q5 q6 hbn
      replace p0 := (hnx.out.1.cell (p := ⟨b, off + k * 7, none⟩) hbn).trans p0
      replace p1 := (hnx.out.1.cell (p := ⟨b, off + k * 7 + 1, none⟩) hbn).trans p1
      replace p2 := (hnx.out.1.cell (p := ⟨b, off + k * 7 + 2, none⟩) hbn).trans p2
      replace p3 := (hnx.out.1.cell (p := ⟨b, off + k * 7 + 3, none⟩) hbn).trans p3
      replace p4 := (hnx.out.1.cell (p := ⟨b, off + k * 7 + 4, none⟩) hbn).trans p4
      replace p5 := (hnx.out.1.cell (p := ⟨b, off + k * 7 + 5, none⟩) hbn).trans p5
      replace p6 := (hnx.out.1.cell (p := ⟨b, off + k * 7 + 6, none⟩) hbn).trans p6
      replace q0 := (hnx.out.1.cell (p := ⟨b, off + m * 7, none⟩) hbn).trans q0
      replace q1 := (hnx.out.1.cell (p := ⟨b, off + m * 7 + 1, none⟩) hbn).trans q1
      replace q2 := (hnx.out.1.cell (p := ⟨b, off + m * 7 + 2, none⟩) hbn).trans q2
      replace q3 := (hnx.out.1.cell (p := ⟨b, off + m * 7 + 3, none⟩) hbn).trans q3
      replace q4 := (hnx.out.1.cell (p := ⟨b, off + m * 7 + 4, none⟩) hbn).trans q4
      replace q5 := (hnx.out.1.cell (p := ⟨b, off + m * 7 + 5, none⟩) hbn).trans q5
      replace q6 := (hnx.out.1.cell (p := ⟨b, off + m * 7 + 6, none⟩) hbn).trans q6
      have hpl : pre.length = k := by have := congrArg List.length hpre.out; simpa using this
      obtain ⟨x, hx⟩ : ∃ x : StepNo ss, x.1 = k := ⟨⟨k, by omega⟩, rfl⟩
      have hX : Hid ((pre ++ [x]).map (·.1) = List.range m) := by
        show _ = _
        rw [List.map_append, hpre.out, hmk1, List.range_succ]
        simp [hx]
      obtain ⟨fn, tmps, assign, body, hy, hR⟩ := HY.out pre x wr.drew (HJ.out _ _ 1 hJs.out) (by omega)
      rw [hx] at hy
      have hR2 := hR.mono (R' := fun e W' => ∃ c : Bool, e = .returned (.bool c) ∧ Hid ((c = true ∧ J (pre ++ [x]) W' ∧ KpB n₀ Bs wr.drew W') ∨ (c = false ∧ Jx (pre ++ [x]) W'))) (by
        rintro e W' (⟨h1, h2, h3⟩ | ⟨h1, h2⟩)
        · exact ⟨true, h1, .inl ⟨rfl, h2, h3⟩⟩
        · exact ⟨false, h1, .inr ⟨rfl, h2⟩⟩)
      unfold stepV at hy
      rw [← hmk1] at hy
      have HR := Lib.hid hR2
      clear hR hR2 hpl hx
      have em : (m : Int) - 1 = (k : Int) := by omega
      have rk : IntKind.i64.wrap (k : Int) = (k : Int) := IntWalk.i64_in _ (by omega)
      have hkl : (k : Int) < (ss.length : Int) := by omega
      have hkl2 : k < ss.length := by omega
      clear hmk1
      have hmx : Try.prog.follows .mixedOrders = true := by kernel_rfl
      gi_wp2
      gi_region_with_o (refine HR.out.mono ?_; rintro e W3 ⟨c, rfl, hc⟩)
      all_goals
        rcases hc.out with ⟨rfl, h2, h3⟩ | ⟨rfl, h2⟩
        · have H2 := Lib.hid h2
          have HB2 := Lib.hid (kpB_t hnx.out (kpB_t ⟨(Below.refl n₀ wr).drew, rfl⟩ h3))
          clear h2 h3 hc
          gi_wp2
          go_roundw
          case rel => exact ⟨m, m + 1, pre ++ [x], rfl, by go_num, .inr hlt, hX, H2, HB2⟩
          case measure => simp [intOf]; omega
        · have H2 := Lib.hid h2
          clear h2 hc
          gi_wp2
          refine bodyPost_ret (results_none rfl _ _ _) rfl ?_
          exact ⟨⟨_, rfl⟩, .inr ⟨pre ++ [x], ⟨m, hlt, hX.out⟩, H2.out⟩⟩
    · have hkm : k = ss.length - 1 := by have := hmk.out; have := hk.out; omega
      have HK := Lib.hid hkm
      clear hkm
      gi_wp2
      go_end0
      exact ⟨⟨_, rfl⟩, .inl ⟨pre, by rw [hpre.out, HK.out], hJs.out⟩⟩

end Go.Proofs.Ytgkhhfojioepgaa
namespace Go.Proofs.Ytgkhhfojioepgaa
open Go.RowKit Go.Shelf
set_option linter.unusedSimpArgs false
set_option linter.unusedVariables false

theorem rowsIn_wide {n : Nat} {P : Program} {row : String} {args : Array Value} {w : World} {R : Value → World → Prop} (h : Rows P row args w R) : RowsIn Fence.wide n P row args w R :=
  fun c cs _ => let ⟨v, w', r, s⟩ := h c cs; ⟨v, w', r, stepsIn_wide.2 s⟩

section
variable {P : Program} {ops : Array Oper} {Q : Exit → Go.Act → World → Prop} {md : Region.Mode} {l n : Nat}

theorem operIn_of {o : Oper} {K : Go.Act → World → Prop} {a : Go.Act} {w : World} (hd : ∀ c, o.op ≠ .defer c) (h : o.wp P a w K Q) : o.wpIn (Fence.wide.inRound l) n P a w K Q := by
  unfold Oper.wp at h
  unfold Oper.wpIn
  refine ⟨fun _ _ => trivial, ?_⟩
  rw [Oper.semAt_plain _ _ _ hd]
  generalize (execOp a.eval o).run P w = r at *
  cases r with
  | ok x w' =>
    cases x with
    | value v => exact h
    | skip => exact h
    | defer d => exact h
    | enter f args => exact ⟨fun q => by simp [Fence.wide, Fence.inRound] at q, CallsIn.inRound l (callsIn_wide.2 h)⟩
    | row r args => exact ⟨fun q => by simp [Fence.wide, Fence.inRound] at q, rowsIn_wide h⟩
    | _ => exact h.elim
  | halt x w' =>
    cases x <;> first | exact h | exact h.elim

theorem opIn_of {i : Nat} {K : Go.Act → World → Prop} {a : Go.Act} {w : World} (hd : ∀ (j : Nat) (o : Oper), ops[j]? = some o → ∀ c, o.op ≠ .defer c) (hno : ¬ LetsOut Q) (h : wpOp P ops Q i K a w) : wpOpIn (Fence.wide.inRound l) n P ops Q i K a w := by
  unfold wpOp at h
  unfold wpOpIn
  cases ho : ops[i]? with
  | none => simpa [ho] using h
  | some o =>
    simp only [ho] at h ⊢
    by_cases hw : Region.wanted o (yielded ops a.tmps) = true
    · rw [if_pos hw] at h ⊢
      rcases h with h | h
      · exact operIn_of (hd i o ho) h
      · exact absurd h.2 hno
    · rw [if_neg hw] at h ⊢
      exact ⟨fun _ _ => trivial, h⟩

theorem anyIn_of (hd : ∀ (j : Nat) (o : Oper), ops[j]? = some o → ∀ c, o.op ≠ .defer c) (hno : ¬ LetsOut Q) : ∀ (fuel : Nat) (listed : Array Bool) (a : Go.Act) (w : World), wpAny P md ops Q fuel listed a w → wpAnyIn (Fence.wide.inRound l) n P md ops Q fuel listed a w
  | 0, _, _, _, h => h
  | fuel + 1, _, _, _, h => ⟨h.1, fun i hi => opIn_of hd hno (wpOp_mono (fun a' w' h' => anyIn_of hd hno fuel _ a' w' h') (h.2 i hi))⟩

/-- A region's operations, none of which is a defer statement. -/
def noDefer (ops : Array Oper) : Bool := ops.all fun o => match o.op with | .defer _ => false | _ => true
theorem noDefer_spec (h : noDefer ops = true) : ∀ (j : Nat) (o : Oper), ops[j]? = some o → ∀ c, o.op ≠ .defer c := by
  intro j o ho c hc
  unfold noDefer at h
  rw [Array.all_eq_true] at h
  obtain ⟨hj, he⟩ := Array.getElem?_eq_some_iff.1 ho
  have := h j hj
  rw [he, hc] at this
  cases this

/-- A region in a round: from the world behind the draw, a condition being kept. -/
theorem region_in_round {S : World → Prop} {id : Nat} {a : Go.Act} {w : World} (hm : P.follows .mixedOrders = true) (hd : noDefer ops = true) (hno : ¬ LetsOut Q) (hS : S w.drew)
    (h : S w.drew → wpAnyH P .any ops Q S ops.size (Array.replicate ops.size false) a w.drew) : (Code.region id ops true).wpIn (Fence.wide.inRound l) n P Q a w :=
  wpIn_region_any hm (anyIn_of (noDefer_spec hd) hno _ _ _ _ (wpAny_of_held _ _ _ _ (h hS)))
end
end Go.Proofs.Ytgkhhfojioepgaa
namespace Go.Proofs.Ytgkhhfojioepgaa
open Go.RowKit Go.Shelf
set_option linter.unusedSimpArgs false
set_option linter.unusedVariables false

attribute [local go_sem] Oper.semAt_some

/-- How far was gone up to a sample. -/
noncomputable def wayN (ss : List Smp) : Nat → Int
  | 0 => 0
  | k + 1 => wayN ss k + stepW (smpD ss k) (smpD ss (k + 1))
/-- One step more is laid into the row. -/
noncomputable def layW (ss : List Smp) (F : Nat → Int) (k : Nat) : Nat → Int := updI F (k + 1) (F k + stepW (smpD ss k) (smpD ss (k + 1)))
noncomputable def rowW (ss : List Smp) (pre : List (StepNo ss)) : Nat → Int := pre.foldl (fun F x => layW ss F x.1) fun _ => 0
theorem rowW_snoc (ss : List Smp) (pre : List (StepNo ss)) (x : StepNo ss) : rowW ss (pre ++ [x]) = layW ss (rowW ss pre) x.1 := by simp [rowW]

theorem rowW_bd {ss : List Smp} (hp : ∀ x ∈ ss, inPlane x) : ∀ (pre : List (StepNo ss)) (F : Nat → Int), (∀ j, 0 ≤ F j ∧ F j ≤ j * 300000000) → ∀ j, 0 ≤ pre.foldl (fun F x => layW ss F x.1) F j ∧ pre.foldl (fun F x => layW ss F x.1) F j ≤ j * 300000000
  | [], F, h, j => h j
  | x :: r, F, h, j => by
    refine rowW_bd hp r (layW ss F x.1) (fun i => ?_) j
    unfold layW updI
    split
    · rename_i e
      have := h x.1
      have := stepW_bd (smpD_plane hp x.1) (smpD_plane hp (x.1 + 1))
      subst e
      omega
    · exact h i
theorem rowW_done {ss : List Smp} : ∀ (m : Nat) (pre : List (StepNo ss)), pre.map (·.1) = List.range m → ∀ j, j ≤ m → rowW ss pre j = wayN ss j := by
  intro m
  induction m with
  | zero =>
    intro pre h j hj
    have : pre = [] := List.eq_nil_of_length_eq_zero (by have := congrArg List.length h; rwa [List.length_map, List.length_range] at this)
    subst this
    obtain rfl : j = 0 := by omega
    rfl
  | succ m ih =>
    intro pre h j hj
    rcases List.eq_nil_or_concat pre with rfl | ⟨ini, x, rfl⟩
    · have := congrArg List.length h; rw [List.length_map, List.length_range] at this; simp at this
    · rw [List.concat_eq_append] at h ⊢
      rw [List.map_append, List.range_succ] at h
      have hx := List.append_inj_right' h rfl
      have hi := List.append_inj_left' h rfl
      simp only [List.map_cons, List.map_nil, List.cons.injEq, and_true] at hx
      rw [rowW_snoc, hx]
      unfold layW updI
      split
      · rename_i e
        subst e
        rw [ih ini hi m (Nat.le_refl _)]; rfl
      · exact ih ini hi j (by omega)

theorem block_kept {W W' : World} {row : Option Nat} {B : Nat} {o : Obj} (h : W.heap[B]? = some o) (hc : o.isCells = true) (hg : W.grownBy W' row) (hrow : ∀ r, row = some r → ∃ o : Obj, W.heap[r]? = some o ∧ o.isCells = false) : W'.heap[B]? = some o :=
  (hg.block B (Array.getElem?_eq_some_iff.1 h).1 (fun e => by
    obtain ⟨o', ho, hc'⟩ := hrow B e.symm
    rw [h] at ho; cases ho; rw [hc] at hc'; cases hc')).trans h
theorem row_own {β : Type} (g n : Nat) (F : β → Nat → Int) : Own (fun s W => W.heap[g]? = some (.cells (iRow n (F s)) 3 (0, 0))) := fun _ _ _ _ hs hg hr => block_kept (B := g) hs rfl hg hr
def stepC (ss : List Smp) (k : Nat) : Array Value :=
  #[.int .i64 k, .int .i64 (smpD ss k).t, .int .i64 (smpD ss k).x, .int .i64 (smpD ss k).y, .int .i64 (smpD ss k).z, .int .i64 (smpD ss k).p, .int .i64 (smpD ss k).q, .int .i64 (smpD ss k).s,
    .int .i64 (smpD ss (k + 1)).t, .int .i64 (smpD ss (k + 1)).x, .int .i64 (smpD ss (k + 1)).y, .int .i64 (smpD ss (k + 1)).z, .int .i64 (smpD ss (k + 1)).p, .int .i64 (smpD ss (k + 1)).q, .int .i64 (smpD ss (k + 1)).s]

set_option maxRecDepth 100000 in
set_option maxHeartbeats 4000000 in
theorem waysOf_any (ao : Option Addr) (cap : Nat) (ss : List Smp) (hl : (ss.length : Int) ≤ 20000) (w : World) (hs : SmpsAt w ao ss) (hao : ∀ a, ao = some a → ss ≠ [] → a.block < w.heap.size) (hp : ∀ x ∈ ss, inPlane x) :
    Calls Try.prog 109 #[.slice ao ss.length cap] w fun e w' => (e = .returned (.slice (some ⟨w.heap.size, 0, none⟩) ss.length ss.length) ∧ RowAt w' w.heap.size ss.length (wayN ss)) ∧ Below w.heap.size w w' := by
  have hll : ss.length ≤ 20000 := by omega
  have hmk := run_make_row' (P := Try.prog) 48 3 (.int .i64 0) 8 Try.underlying48 info_int rfl .i64 .i64 ss.length (by omega) (by omega)
  have HS := Lib.hid hs; have HAO := Lib.hid hao; have HP := Lib.hid hp
  clear hs hao hp
  refine (callsIn_wide (n := 4)).1 ?_
  refine callsIn_of_wp_marks Try.func109 rfl trivial ?_ rfl
  simp only [Try.ntmps109, List.size_toArray, List.length_cons, List.length_nil, Nat.reduceAdd, Nat.reduceSub, Array.replicate_succ, Array.replicate_zero, List.push_toArray, List.append_toArray, List.nil_append, List.cons_append]
  gi_wp2_with (refine ⟨trivial, ?_⟩; gi_at_call 111; refine (callsIn_wide.2 (steps_any _ _ _ _)).mono ?_; rintro e w' ⟨rfl, rfl⟩)
  have hn0 : w.heap.size ≤ w.heap.size := Nat.le_refl _
  obtain ⟨W0, hW0⟩ : ∃ W0, (((w.alloc (.cells (madeCells #[.int .i64 0] ss.length) 3)).alloc (.cells #[.slice (some ⟨w.heap.size, 0, none⟩) ss.length ss.length] 48)).alloc (.cells #[.slice ao ss.length cap] 22)) = W0 := ⟨_, rfl⟩
  have bR : W0.heap[w.heap.size]? = some (.cells (iRow ss.length (fun _ => 0)) 3 (0, 0)) := by
    rw [← hW0, Below.heap_alloc _ _ _ (by simp; omega), Below.heap_alloc _ _ _ (by simp), ← iRow_zero]; exact World.alloc_heap_new w _
  have bV : Boxed W0 (w.heap.size + 1) 48 (.slice (some ⟨w.heap.size, 0, none⟩) ss.length ss.length) := by
    rw [← hW0]
    have := (Boxed.new (w.alloc (.cells (madeCells #[.int .i64 0] ss.length) 3)) 48 (.slice (some ⟨w.heap.size, 0, none⟩) ss.length ss.length)).alloc (.cells #[.slice ao ss.length cap] 22)
    simpa using this
  have bS : Boxed W0 (w.heap.size + 1 + 1) 22 (.slice ao ss.length cap) := by
    rw [← hW0]
    have := Boxed.new ((w.alloc (.cells (madeCells #[.int .i64 0] ss.length) 3)).alloc (.cells #[.slice (some ⟨w.heap.size, 0, none⟩) ss.length ss.length] 48)) 22 (.slice ao ss.length cap)
    simpa using this
  have hB0 : Below w.heap.size w W0 := by
    rw [← hW0]; exact (((Below.refl _ w).alloc (Nat.le_refl _) _).alloc (by simp) _).alloc (by simp; omega) _
  have hsz : W0.heap.size = w.heap.size + 3 := by rw [← hW0]; simp
  have hs0 : SmpsAt W0 ao ss := HS.out.grown (grown_below hB0)
  rw [hW0]
  clear hW0
  refine wpIn_rangeFunc_ownH (α := StepNo ss) rfl (by omega) (gf := 148) (lb := #[.pointer (some ⟨w.heap.size + 1 + 1, 0, none⟩)]) rfl trivial (enters_of Try.func148 (by kernel_rfl) rfl)
    (encs := fun x => #[stepV ss x.1]) (Kp := KpB w.heap.size (w.heap.size + 1 + 1)) (S := fun ys => ys.map (·.1) = List.range (ss.length - 1)) (Sp := fun _ => True) (N := ss.length) (w0 := W0) ?seq kpB_t ?kb (Below.refl _ _) (fun _ => rfl)
    (fun pre W => ((Boxed W (w.heap.size + 1) 48 (.slice (some ⟨w.heap.size, 0, none⟩) ss.length ss.length) ∧ Boxed W (w.heap.size + 1 + 1) 22 (.slice ao ss.length cap)) ∧ W.heap[w.heap.size]? = some (.cells (iRow ss.length (rowW ss pre)) 3 (0, 0))) ∧ Below w.heap.size w W)
    (fun _ _ _ => False)
    (OwnFrom.and (OwnFrom.and (OwnFrom.and (Own.from (boxed_own _ _ _) _) (Own.from (boxed_own _ _ _) _)) (Own.from (row_own _ _ (rowW ss)) _)) (ownFrom_below (Nat.le_refl _) (by omega)))
    (fun _ _ _ _ _ hs _ _ => hs)
    ⟨⟨⟨bV, bS⟩, bR⟩, hB0⟩
    (fun x a' W => ∃ Bx, w.heap.size + 2 < Bx ∧ W.heap[Bx]? = some (.cells (stepC ss x.1) 85 (0, 0)) ∧ a' = { tmps := #[.slice ao ss.length cap, undef, .slice none 0 0, .pointer (some ⟨w.heap.size + 1, 0, none⟩), .pointer (some ⟨Bx, 0, none⟩), .slice ao ss.length cap, .int .i64 ss.length, .slice (some ⟨w.heap.size, 0, none⟩) ss.length ss.length, .slice ao ss.length cap, .func (.func 148) #[] #[.pointer (some ⟨w.heap.size + 1 + 1, 0, none⟩)], stepV ss x.1, undef, undef, undef, undef, undef, undef, undef, undef, undef, undef, undef, undef, undef, undef], defers := [] })
    (fun x a' _ X Y row hs hg hr => by obtain ⟨Bx, h1, h2, h3⟩ := hs; exact ⟨Bx, h1, block_kept h2 rfl hg (fun r e => (hr r e).2), h3⟩)
    ?assign ?body ?done ?stop
  case seq =>
    intro l J Jx W hW hJ _ hY h0
    have hbW : W.heap[w.heap.size + 1 + 1]? = W0.heap[w.heap.size + 1 + 1]? := hW.block _ (by omega)
    refine (steps1_in 3 (by omega) l (w.heap.size + 1 + 1) w.heap.size ao cap ss hl HAO.out J Jx (fun pre V m hj => hJ pre V _ none hj (grown_drewN V none m) (fun r h => by cases h)) hY W ((World.cell?_of_block (a := ⟨w.heap.size + 1 + 1, 0, none⟩) hbW).trans bS.cell) (hs0.grown (grown_below hW)) h0).mono ?_
    rintro e W' ⟨he, h | ⟨pre, _, hj⟩⟩
    · exact ⟨he, .inl h⟩
    · exact ⟨he, .inr ⟨pre, trivial, hj⟩⟩
  case kb =>
    intro W l o o' hlW ho hc hwk
    exact ⟨belowK_b (w := W0) (by omega) W l o o' hlW ho hc hwk, World.putObj_heap_other (by omega)⟩
  case assign =>
    rintro l pre x W K ⟨⟨⟨bV1, bS1⟩, bR1⟩, hB1⟩ hK
    unfold stepV at *
    gi_wp2
    have hnb := bS1.lt
    refine hK _ _ ((KeepsOthers.alloc _ _).from _) ⟨(Below.refl _ W).alloc hB1.size _, ?_⟩ ⟨⟨⟨bV1.alloc _, bS1.alloc _⟩, (Below.heap_alloc _ _ _ (lt_of_block bR1)).trans bR1⟩, hB1.alloc hB1.size _⟩ ⟨W.heap.size, ?_, World.alloc_heap_new W _, rfl⟩
    · exact Below.heap_alloc _ _ _ hnb
    · omega
  case body =>
    rintro l pre x a' W hlr ⟨r, hr⟩ ⟨⟨⟨bV1, bS1⟩, bR1⟩, hB1⟩ ⟨Bx, hBx, bX, rfl⟩ hlt
    obtain ⟨k, hk⟩ : ∃ k, x.1 = k := ⟨_, rfl⟩
    have hkl : k + 1 < ss.length := by rw [← hk]; exact x.2
    rw [hk] at bX
    have hb0 := rowW_bd HP.out pre (fun _ => 0) (fun j => by omega) k
    obtain ⟨Fk, hFk⟩ : ∃ v, rowW ss pre k = v := ⟨_, rfl⟩
    have hb : 0 ≤ Fk ∧ Fk ≤ k * 300000000 := by rw [← hFk]; exact hb0
    have hsw := stepW_bd (smpD_plane HP.out k) (smpD_plane HP.out (k + 1))
    obtain ⟨wk, hwk⟩ : ∃ v, stepW (smpD ss k) (smpD ss (k + 1)) = v := ⟨_, rfl⟩
    rw [hwk] at hsw
    have HWK := Lib.hid hwk
    have cR : W.cell? ⟨w.heap.size, k, none⟩ = some (.int .i64 Fk) := by rw [← hFk]; exact RowAt.cell (n := ss.length) bR1 (by omega)
    have cX : ∀ (i : Nat) (v : Value), (stepC ss k)[i]? = some v → W.cell? ⟨Bx, i, none⟩ = some v := fun i v h => by
      simp [World.cell?, bX, h]
    have HC : Hid (∀ V, (W.drew.grownBy V (some w.heap.size) ∧ V.cell? ⟨w.heap.size, k, none⟩ = some (.int .i64 Fk)) → V.cell? ⟨w.heap.size + 1, 0, none⟩ = some (.slice (some ⟨w.heap.size, 0, none⟩) ss.length ss.length) ∧ V.cell? ⟨w.heap.size, k, none⟩ = some (.int .i64 Fk) ∧ V.cell? ⟨Bx, 0, none⟩ = some (.int .i64 k) ∧ V.cell? ⟨Bx, 1, none⟩ = some (.int .i64 (smpD ss k).t) ∧ V.cell? ⟨Bx, 2, none⟩ = some (.int .i64 (smpD ss k).x) ∧ V.cell? ⟨Bx, 3, none⟩ = some (.int .i64 (smpD ss k).y) ∧ V.cell? ⟨Bx, 4, none⟩ = some (.int .i64 (smpD ss k).z) ∧ V.cell? ⟨Bx, 5, none⟩ = some (.int .i64 (smpD ss k).p) ∧ V.cell? ⟨Bx, 6, none⟩ = some (.int .i64 (smpD ss k).q) ∧ V.cell? ⟨Bx, 7, none⟩ = some (.int .i64 (smpD ss k).s) ∧ V.cell? ⟨Bx, 8, none⟩ = some (.int .i64 (smpD ss (k + 1)).t) ∧ V.cell? ⟨Bx, 9, none⟩ = some (.int .i64 (smpD ss (k + 1)).x) ∧ V.cell? ⟨Bx, 10, none⟩ = some (.int .i64 (smpD ss (k + 1)).y) ∧ V.cell? ⟨Bx, 11, none⟩ = some (.int .i64 (smpD ss (k + 1)).z) ∧ V.cell? ⟨Bx, 12, none⟩ = some (.int .i64 (smpD ss (k + 1)).p) ∧ V.cell? ⟨Bx, 13, none⟩ = some (.int .i64 (smpD ss (k + 1)).q) ∧ V.cell? ⟨Bx, 14, none⟩ = some (.int .i64 (smpD ss (k + 1)).s)) := fun V hV => by
      have keep : ∀ (b i : Nat) (v : Value), b ≠ w.heap.size → W.cell? ⟨b, i, none⟩ = some v → V.cell? ⟨b, i, none⟩ = some v := fun b i v hne h => hV.1.cell (w := W.drew) h (fun e => hne (by injection e))
      exact ⟨keep _ _ _ (by omega) bV1.cell, hV.2, keep _ _ _ (by omega) (cX 0 _ rfl), keep _ _ _ (by omega) (cX 1 _ rfl), keep _ _ _ (by omega) (cX 2 _ rfl), keep _ _ _ (by omega) (cX 3 _ rfl), keep _ _ _ (by omega) (cX 4 _ rfl), keep _ _ _ (by omega) (cX 5 _ rfl), keep _ _ _ (by omega) (cX 6 _ rfl), keep _ _ _ (by omega) (cX 7 _ rfl), keep _ _ _ (by omega) (cX 8 _ rfl), keep _ _ _ (by omega) (cX 9 _ rfl), keep _ _ _ (by omega) (cX 10 _ rfl), keep _ _ _ (by omega) (cX 11 _ rfl), keep _ _ _ (by omega) (cX 12 _ rfl), keep _ _ _ (by omega) (cX 13 _ rfl), keep _ _ _ (by omega) (cX 14 _ rfl)⟩
    have hS0 : (W.drew.grownBy W.drew (some w.heap.size) ∧ W.drew.cell? ⟨w.heap.size, k, none⟩ = some (.int .i64 Fk)) := ⟨World.grownBy.refl _ _, cR⟩
    obtain ⟨k1, hk1⟩ : ∃ k1, k1 = k + 1 := ⟨_, rfl⟩
    have HK1 := Lib.hid hk1
    have ek : (k : Int) + 1 = (k1 : Int) := by omega
    have rk : IntKind.i64.wrap (k : Int) = (k : Int) := IntWalk.i64_in _ (by omega)
    have rk1 : IntKind.i64.wrap (k1 : Int) = (k1 : Int) := IntWalk.i64_in _ (by omega)
    have k1l : (k1 : Int) < (ss.length : Int) := by omega
    have kl : (k : Int) < (ss.length : Int) := by omega
    have k1n : k1 < ss.length := by omega
    have kn : k < ss.length := by omega
    have KX := Lib.hid bX; have KV := Lib.hid bV1; have KR := Lib.hid bR1; have KB := Lib.hid hB1; have KS := Lib.hid bS1; have KF := Lib.hid hFk; have KCR := Lib.hid cR; have KLR := Lib.hid hr
    have KB0 := Lib.hid hb; have KSW := Lib.hid hsw; have KHX := Lib.hid hBx; have KK := Lib.hid hk; have HM := Lib.hid hmk
    have hmx : Try.prog.follows .mixedOrders = true := by kernel_rfl
    unfold stepV
    rw [hk]
    clear bX bV1 bR1 hB1 bS1 hFk cR hr hb hb0 hsw hBx cX hwk hs0 hB0 bV bR bS hk1 hlt hlr hk hmk
    gi_wp2
    refine region_in_round (S := fun V => (W.drew.grownBy V (some w.heap.size) ∧ V.cell? ⟨w.heap.size, k, none⟩ = some (.int .i64 Fk))) hmx (by kernel_rfl) (fun ⟨_, _, h⟩ => h) hS0 (fun hHeld => ?_)
    clear hS0 hmx
    refine wpAnyH_take (i := 0) (v := .slice (some ⟨w.heap.size, 0, none⟩) ss.length ss.length) rfl (by kernel_rfl) (by kernel_rfl) (by kernel_rfl) (fun _ _ _ h => h) (Or.inl ⟨by rfl, fun V hV => ?_⟩) hHeld ?_
    · have q1 := (HC.out V hV).1
      clear hV
      go_simp
    simp only [Go.Act.put, List.setIfInBounds_toArray]
    refine wpAnyH_take (i := 1) (v := .pointer (some ⟨Bx, 0, none⟩)) rfl (by kernel_rfl) (by kernel_rfl) (by kernel_rfl) (fun _ _ _ h => h) (Or.inl ⟨by rfl, fun V hV => ?_⟩) hHeld ?_
    · clear hV
      go_simp
    simp only [Go.Act.put]
    refine wpAnyH_take (i := 2) (v := .int .i64 (k : Int)) rfl (by kernel_rfl) (by kernel_rfl) (by kernel_rfl) (fun _ _ _ h => h) (Or.inl ⟨by rfl, fun V hV => ?_⟩) hHeld ?_
    · have q1 := (HC.out V hV).2.2.1
      clear hV
      go_simp
    simp only [Go.Act.put]
    refine wpAnyH_take (i := 3) (v := .int .i64 (k1 : Int)) rfl (by kernel_rfl) (by kernel_rfl) (by kernel_rfl) (fun _ _ _ h => h) (Or.inl ⟨by rfl, fun V hV => ?_⟩) hHeld ?_
    · clear hV
      go_simp
    simp only [Go.Act.put]
    refine wpAnyH_take (i := 4) (v := .slice (some ⟨w.heap.size, 0, none⟩) ss.length ss.length) rfl (by kernel_rfl) (by kernel_rfl) (by kernel_rfl) (fun _ _ _ h => h) (Or.inl ⟨by rfl, fun V hV => ?_⟩) hHeld ?_
    · have q1 := (HC.out V hV).1
      clear hV
      go_simp
    simp only [Go.Act.put]
    refine wpAnyH_take (i := 5) (v := .pointer (some ⟨Bx, 0, none⟩)) rfl (by kernel_rfl) (by kernel_rfl) (by kernel_rfl) (fun _ _ _ h => h) (Or.inl ⟨by rfl, fun V hV => ?_⟩) hHeld ?_
    · clear hV
      go_simp
    simp only [Go.Act.put]
    refine wpAnyH_take (i := 6) (v := .int .i64 (k : Int)) rfl (by kernel_rfl) (by kernel_rfl) (by kernel_rfl) (fun _ _ _ h => h) (Or.inl ⟨by rfl, fun V hV => ?_⟩) hHeld ?_
    · have q1 := (HC.out V hV).2.2.1
      clear hV
      go_simp
    simp only [Go.Act.put]
    refine wpAnyH_take (i := 7) (v := .pointer (some ⟨w.heap.size, k, none⟩)) rfl (by kernel_rfl) (by kernel_rfl) (by kernel_rfl) (fun _ _ _ h => h) (Or.inl ⟨by rfl, fun V hV => ?_⟩) hHeld ?_
    · clear hV
      go_simp
    simp only [Go.Act.put]
    refine wpAnyH_take (i := 8) (v := .int .i64 Fk) rfl (by kernel_rfl) (by kernel_rfl) (by kernel_rfl) (fun _ _ _ h => h) (Or.inl ⟨by rfl, fun V hV => ?_⟩) hHeld ?_
    · have q1 := (HC.out V hV).2.1
      clear hV
      go_simp
    simp only [Go.Act.put]
    refine wpAnyH_take (i := 9) (v := .agg #[.int .i64 k, .int .i64 (smpD ss k).t, .int .i64 (smpD ss k).x, .int .i64 (smpD ss k).y, .int .i64 (smpD ss k).z, .int .i64 (smpD ss k).p, .int .i64 (smpD ss k).q, .int .i64 (smpD ss k).s, .int .i64 (smpD ss (k + 1)).t, .int .i64 (smpD ss (k + 1)).x, .int .i64 (smpD ss (k + 1)).y, .int .i64 (smpD ss (k + 1)).z, .int .i64 (smpD ss (k + 1)).p, .int .i64 (smpD ss (k + 1)).q, .int .i64 (smpD ss (k + 1)).s]) rfl (by kernel_rfl) (by kernel_rfl) (by kernel_rfl) (fun _ _ _ h => h) (Or.inl ⟨by rfl, fun V hV => ?_⟩) hHeld ?_
    · obtain ⟨_, _, v0, v1, v2, v3, v4, v5, v6, v7, v8, v9, v10, v11, v12, v13, v14⟩ := HC.out V hV
      clear hV
      go_simp
    simp only [Go.Act.put]
    refine wpAnyH_ready (rs := [10]) (by kernel_rfl) (by simp) ?_
    refine AllReadyH.cons rfl (fun K hK => ?_) AllReadyH.nil
    go_simp
    refine (way_is (k : Int) (smpD ss k) (smpD ss (k + 1)) (smpD_plane HP.out k) (smpD_plane HP.out (k + 1)) _ HWK).mono ?_
    rintro e w1 ⟨rfl, hg1⟩
    have hR1 : RowAt w1 w.heap.size ss.length (rowW ss pre) := RowAt.grown (w := W.drew) KR.out hg1
    have hS1 : (W.drew.grownBy w1 (some w.heap.size) ∧ w1.cell? ⟨w.heap.size, k, none⟩ = some (.int .i64 Fk)) := ⟨⟨hg1.os, hg1.tape, hg1.output, hg1.size, fun i hi _ => hg1.block i hi (by simp)⟩, grown_cell hg1 KCR.out⟩
    refine hK.out _ _ hS1 (fun hHeld1 => ?_)
    have b0 : 0 ≤ Fk := KB0.out.1
    have b1 : Fk ≤ 6000000000000 := by have := KB0.out.2; omega
    have b2 : 0 ≤ wk := KSW.out.1
    have b3 : wk ≤ 300000000 := KSW.out.2
    have rs : IntKind.i64.wrap (Fk + wk) = Fk + wk := IntWalk.i64_in _ (by omega)
    have HG1 := Lib.hid hg1; have HR1 := Lib.hid hR1
    have cS := hR1.cell (k := k1) k1n
    have fS := hR1.free k1
    clear hK hS1 hR1 hg1
    refine wpAnyH_take (i := 11) (v := .int .i64 (Fk + wk)) rfl (by kernel_rfl) (by kernel_rfl) (by kernel_rfl) (fun _ _ _ h => h) (Or.inl ⟨by rfl, fun V hV => ?_⟩) hHeld1 ?_
    · clear hV
      go_simp
    simp only [Go.Act.put, List.setIfInBounds_toArray]
    refine wpAnyH_take (i := 12) (v := .pointer (some ⟨w.heap.size, k1, none⟩)) rfl (by kernel_rfl) (by kernel_rfl) (by kernel_rfl) (fun _ _ _ h => h) (Or.inl ⟨by rfl, fun V hV => ?_⟩) hHeld1 ?_
    · clear hV
      go_simp
    simp only [Go.Act.put]
    refine wpAnyH_ready (rs := [13]) (by kernel_rfl) (by simp) ?_
    refine AllReadyH.cons rfl (fun K hK => ?_) AllReadyH.nil
    go_simp
    refine hK.out _ _ ⟨?_, ?_⟩ (fun _ => ?_)
    · exact ⟨hHeld1.1.os, hHeld1.1.tape, hHeld1.1.output, Nat.le_trans hHeld1.1.size (by simp [World.setCell]), fun i hi hne => by
        rw [Below.heap_setCell _ _ _ _ (fun e => hne (by rw [e]))]; exact hHeld1.1.block i hi hne⟩
    · rw [World.cell?_setCell_other _ _ _ _ (fun e => by injection e with _ e2 _; have := HK1.out; omega)]; exact hHeld1.2
    refine wpAnyH_done (by kernel_rfl) ?_ _
    have hb01 : Below w.heap.size W.drew w1 := (below_grown HG1.out).mono (by have := KV.out.lt; show _ ≤ W.heap.size; omega)
    refine ⟨?_, ⟨?_, ?_⟩, ⟨⟨?_, ?_⟩, ?_⟩, ?_⟩
    · exact (((KeepsOthers.drew W).trans (KeepsOthers.of_grownBy HG1.out (fun j o e => by cases e))).trans (KeepsOthers.setCell _ _ _)).from _
    · exact (((Below.refl _ W).drew).trans hb01).setCell (p := ⟨w.heap.size, k1, none⟩) (Nat.le_refl _) _
    · rw [Below.heap_setCell _ _ _ _ (by show _ ≠ w.heap.size; omega), HG1.out.block _ (by show _ < W.heap.size; exact KS.out.lt) (by simp)]; rfl
    · show (w1.setCell _ _).heap[_]? = _
      rw [Below.heap_setCell _ _ _ _ (by show _ ≠ w.heap.size; omega)]; exact Boxed.kept (W := W.drew) KV.out HG1.out (by simp)
    · show (w1.setCell _ _).heap[_]? = _
      rw [Below.heap_setCell _ _ _ _ (by show _ ≠ w.heap.size; omega)]; exact Boxed.kept (W := W.drew) KS.out HG1.out (by simp)
    · have q := HR1.out.set k1 (Fk + wk)
      rw [rowW_snoc, KK.out]
      unfold layW
      rw [KF.out, HWK.out, ← HK1.out]
      exact q
    · exact (KB.out.trans (((Below.refl _ W).drew).trans hb01)).setCell (p := ⟨w.heap.size, k1, none⟩) (Nat.le_refl _) _
  case done =>
    rintro D ys W hD hS ⟨⟨⟨bV1, bS1⟩, bR1⟩, hB1⟩ hK
    have cV := bV1.cell
    gi_wp2
    refine ⟨by simp, .inl ⟨_, _, rfl, run_takeDeferred hK, ?_⟩⟩
    refine ⟨_, results_tmp rfl _ _ _, ⟨rfl, ?_⟩, hB1.trans (belowK_b (w := w) (Nat.le_refl _) W D _ _ (by omega) hK rfl rfl)⟩
    show (W.putObj D _).heap[w.heap.size]? = _
    rw [World.putObj_heap_other (by omega), bR1, iRow_congr (fun j hj => rowW_done (ss.length - 1) ys hS j (by omega))]
  case stop =>
    rintro D c pre W _ _ h _
    exact h.elim

end Go.Proofs.Ytgkhhfojioepgaa
namespace Go.Proofs.Ytgkhhfojioepgaa
open Go.RowKit
set_option linter.unusedSimpArgs false
set_option linter.unusedVariables false

theorem spCs_len (x : SpV) : (spCs x).length = 2 := rfl
theorem sp_at {w : World} {ao : Option Addr} {L : List SpV} (h : RowsAt spCs 2 w ao L) (hl : 0 < L.length) : ∃ g o, ao = some ⟨g, o, none⟩ ∧ ∀ i (hi : i < L.length),
    w.cell? ⟨g, o + i * 2, none⟩ = some (.int .i64 L[i].fr) ∧ w.cell? ⟨g, o + i * 2 + 1, none⟩ = some (.int .i64 L[i].to_) := by
  obtain ⟨g, o, e, hc⟩ := rows_at h hl
  exact ⟨g, o, e, fun i hi => ⟨hc i hi 0 _ rfl, hc i hi 1 _ rfl⟩⟩
/-- What a predicate of spans hands back, wherever the world has come. -/
def PredSp (P : Program) (g : Nat) (cb : Array Value) (p : SpV → Bool) (L : List SpV) (w : World) (row : Option Nat) : Prop :=
  ∀ x ∈ L, ∀ W, w.grownBy W row → Calls P g (#[.agg #[.int .i64 x.fr, .int .i64 x.to_]] ++ cb) W fun e W' => e = .returned (.bool (p x)) ∧ W.grownBy W' none
def idxR (L : List SpV) (p : SpV → Bool) : Int := if L.findIdx p < L.length then (L.findIdx p : Int) else -1
theorem keptR {w w' : World} {base : Nat} {e : TypeId} {size : Nat} {v : Value} {n : Nat} {xs : List Value} (h : w.ownsRow base e size v n xs) (g : w.grownBy w' none) : w'.ownsRow base e size v n xs := h.kept g (by by_cases h : v.ownBlock = none <;> simp [h])
theorem grown_thenR {w W W' : World} {row : Option Nat} (h : w.grownBy W row) (g : W.grownBy W' none) : w.grownBy W' row := ⟨g.os.trans h.os, g.tape.trans h.tape, g.output.trans h.output, Nat.le_trans h.size g.size, fun k hk hne => (g.block k (Nat.lt_of_lt_of_le hk h.size) (by simp)).trans (h.block k hk hne)⟩
theorem grown_low2 {w w' : World} {r : Option Nat} (h : w.grownBy w' none) : w.grownBy w' r := ⟨h.os, h.tape, h.output, h.size, fun k hk _ => h.block k hk (by simp)⟩

set_option maxRecDepth 100000 in
set_option maxHeartbeats 1600000 in
theorem idxSp_is (ao : Option Addr) (cap : Nat) (L : List SpV) (hl : (L.length : Int) ≤ 1000000) (g : Nat) (cb : Array Value) (p : SpV → Bool) (w : World) (row : Option Nat) (hs : RowsAt spCs 2 w ao L) (eg : ∀ args w, (callFunc g args).run Try.prog w = .ok (.enter g args) w)
    (hf : PredSp Try.prog g cb p L w row) {i : Int} (hi : idxR L p = i) :
    Calls Try.prog 163 #[.slice ao L.length cap, .func (.func g) #[] cb] w fun e w' => e = .returned (.int .i64 i) ∧ w.grownBy w' none := by
  have HS := Lib.hid hs; have HF := Lib.hid hf; have HI := Lib.hid hi
  obtain ⟨k0, hk0⟩ : ∃ k0, L.findIdx p = k0 := ⟨_, rfl⟩
  have HK0 := Lib.hid hk0
  have HLE : Hid (k0 ≤ L.length) := by show _ ≤ _; rw [← hk0]; exact List.findIdx_le_length
  clear hs hf hi hk0
  go_enter Try.func163, Try.ntmps163
  go_wp2_with fail
  go_loopw [8] (fun iv wr => ∃ k : Nat, k ≤ k0 ∧ iv = .int .i64 k ∧ Hid (w.grownBy wr none))
    (fun iv _ => L.length - (intOf iv).toNat)
  case atStart => exact ⟨0, Nat.zero_le _, rfl, grown_refl _ _⟩
  case round =>
    obtain ⟨k, hk2, rfl, hg⟩ := hrel
    have hkl := HLE.out
    by_cases hlt : k < L.length
    · obtain ⟨b, off, rfl, hc⟩ := sp_at HS.out (by omega)
      obtain ⟨c0, c1⟩ := hc k hlt
      replace c0 := grown_cell hg.out c0; replace c1 := grown_cell hg.out c1
      have hcall := HF.out L[k] (List.getElem_mem hlt) wr (grown_low2 hg.out)
      by_cases he : k = k0
      · have hp : p L[k] = true := by
          have q := List.findIdx_getElem (xs := L) (p := p) (w := by rw [HK0.out, ← he]; exact hlt)
          have e : L.findIdx p = k := by rw [HK0.out, he]
          simpa only [e] using q
        have HV : Hid (i = (k : Int)) := by
          show _ = _
          rw [← HI.out]; unfold idxR; rw [HK0.out, ← he, if_pos hlt]
        rw [hp] at hcall
        have HC := Lib.hid hcall
        clear hc hcall hp he hkl hk2
        generalize L[k] = x at *
        go_wp2_with (go_at_fn g; refine HC.out.mono ?_; rintro e w1 ⟨rfl, hg1⟩)
        have HG1 : Hid (w.grownBy w1 none) := grown_trans hg.out hg1
        clear hg1
        go_wp2_with fail
        go_ret
        exact ⟨ret_int HV.out.symm, HG1.out⟩
      · have hp : p L[k] = false := by
          have q := List.not_of_lt_findIdx (p := p) (xs := L) (i := k) (by rw [HK0.out]; omega)
          simpa using q
        have hk3 : k + 1 ≤ k0 := by omega
        rw [hp] at hcall
        have HC := Lib.hid hcall
        clear hc hcall hp he
        generalize L[k] = x at *
        go_wp2_with (go_at_fn g; refine HC.out.mono ?_; rintro e w1 ⟨rfl, hg1⟩)
        have HG1 : Hid (w.grownBy w1 none) := grown_trans hg.out hg1
        clear hg1
        go_wp2_with fail
        go_roundw
        case rel => exact ⟨k + 1, hk3, by go_num, HG1.out⟩
        case measure => simp [intOf]; omega
    · have HV : Hid (i = -1) := by
        show _ = _
        rw [← HI.out]; unfold idxR; rw [HK0.out, if_neg (by omega)]
      go_wp2_with fail
      go_ret
      exact ⟨ret_int HV.out.symm, hg.out⟩
theorem filt_none {L : List SpV} {p : SpV → Bool} (h : ¬ L.findIdx p < L.length) : L.filter (fun x => !p x) = L := by
  rw [List.filter_eq_self]
  intro x hx
  obtain ⟨i, hi, rfl⟩ := List.mem_iff_getElem.1 hx
  have := List.not_of_lt_findIdx (p := p) (xs := L) (i := i) (by omega)
  simpa using this
theorem filt_take {L : List SpV} {p : SpV → Bool} {k : Nat} (h : k ≤ L.findIdx p) : (L.take k).filter (fun x => !p x) = L.take k := by
  rw [List.filter_eq_self]
  intro x hx
  obtain ⟨i, hi, rfl⟩ := List.mem_iff_getElem.1 hx
  rw [List.length_take] at hi
  rw [List.getElem_take]
  have := List.not_of_lt_findIdx (p := p) (xs := L) (i := i) (by omega)
  simpa using this
theorem zero_sp : (Try.prog.info? 45).map (fun i => (i.zero, i.size, i.bytes)) = some (some (.agg #[.int .i64 0, .int .i64 0]), 2, 16) := by kernel_rfl

set_option maxRecDepth 100000 in
set_option maxHeartbeats 3200000 in
theorem delSp_is (base : Nat) (v : Value) (L : List SpV) (hl : (L.length : Int) ≤ 1000000) (g : Nat) (cb : Array Value) (p : SpV → Bool) (w : World) (ho : w.ownsRow base 45 2 v L.length (L.flatMap spCs)) (eg : ∀ args w, (callFunc g args).run Try.prog w = .ok (.enter g args) w)
    (hf : PredSp Try.prog g cb p L w v.ownBlock) {R : List SpV} (hR : L.filter (fun x => !p x) = R) :
    Calls Try.prog 131 #[v, .func (.func g) #[] cb] w fun e w' => (∃ v', e = .returned v' ∧ w'.ownsRow base 45 2 v' R.length (R.flatMap spCs)) ∧ w.grownBy w' v.ownBlock := by
  obtain ⟨ao, cap, rfl, hcap, hrow, _⟩ := own_rows (cs := spCs) (K := 2) (fun _ => rfl) ho
  obtain ⟨k0, hk0⟩ : ∃ k0, L.findIdx p = k0 := ⟨_, rfl⟩
  obtain ⟨i0, hi0⟩ : ∃ i, idxR L p = i := ⟨_, rfl⟩
  have HO := Lib.hid ho; have HF := Lib.hid hf; have HRW := Lib.hid hrow; have HR := Lib.hid hR; have HI := Lib.hid hi0
  clear ho hf hrow hR
  by_cases hlt0 : k0 < L.length
  · have e0 : i0 = (k0 : Int) := by rw [← hi0]; unfold idxR; rw [hk0, if_pos hlt0]
    subst e0
    obtain ⟨gb, rfl⟩ : ∃ gb, ao = some ⟨gb, 0, none⟩ := by
      rcases HO.out.2 with ⟨e, q⟩ | ⟨g', c', cur, e, _⟩
      · omega
      · cases e; exact ⟨g', rfl⟩
    obtain ⟨n, hn⟩ : ∃ n, L.length = n := ⟨_, rfl⟩
    have HK0 := Lib.hid hk0; have HN := Lib.hid hn
    have hob : (Value.slice (some ⟨gb, 0, none⟩) L.length cap).ownBlock = some gb := rfl
    rw [hob] at HF
    rw [hob]
    have HO1 : Hid (w.ownsRow base 45 2 (.slice (some ⟨gb, 0, none⟩) n cap) n (L.flatMap spCs)) := by rw [← hn]; exact HO.out
    have HLT : Hid (gb < w.heap.size) := by
      rcases HO1.out.2 with ⟨e, _⟩ | ⟨g', c', cur, e, _, hgg, _⟩
      · cases e
      · cases e; exact (Array.getElem?_eq_some_iff.1 hgg).1
    have hix := idxSp_is (some ⟨gb, 0, none⟩) cap L hl g cb p w (some gb) HRW.out eg HF.out HI.out
    rw [hn] at hl hcap hlt0 hix
    rw [hn]
    have HIX := Lib.hid hix
    clear hk0 hi0 hob HO hn hix
    go_enter Try.func131, Try.ntmps131
    go_wp2_with fail
    refine HIX.out.mono ?_; rintro e w1 ⟨rfl, hg1⟩
    have HG1 : Hid (w.grownBy w1 (some gb)) := grown_low2 hg1
    have HO2 := Lib.hid (keptR HO1.out hg1)
    have hne : ((k0 : Int) == -1) = false := by rw [beq_eq_false_iff_ne]; omega
    clear hg1 HO1 HRW HI HIX
    go_wp2_with fail
    go_loopw [5, 6] (fun iv jv wr => ∃ (i j : Nat) (X : List SpV), i < j ∧ j ≤ n ∧ iv = .int .i64 i ∧ jv = .int .i64 j ∧ Hid (X.length = n) ∧ Hid (X.take i = (L.take j).filter (fun x => !p x)) ∧ Hid (((L.take j).filter (fun x => !p x)).length = i) ∧ Hid (X.drop j = L.drop j) ∧ Hid (w.grownBy wr (some gb)) ∧ Hid (wr.ownsRow base 45 2 (.slice (some ⟨gb, 0, none⟩) n cap) n (X.flatMap spCs)))
      (fun _ jv _ => n - (intOf jv).toNat)
    case atStart =>
      refine ⟨k0, k0 + 1, L, by omega, by omega, rfl, by go_num, HN.out, ?_, ?_, rfl, HG1.out, HO2.out⟩
      · have hn2 := HN.out
        have e1 : L.take (k0 + 1) = L.take k0 ++ [L[k0]'(by omega)] := List.take_succ_eq_append_getElem (by omega)
        have hp : p (L[k0]'(by omega)) = true := by
          have q := List.findIdx_getElem (xs := L) (p := p) (w := by rw [HK0.out]; omega)
          simpa only [HK0.out] using q
        show _ = _
        rw [e1, List.filter_append, filt_take (by rw [HK0.out]; exact Nat.le_refl _)]
        simp [hp]
      · have hn2 := HN.out
        have e1 : L.take (k0 + 1) = L.take k0 ++ [L[k0]'(by omega)] := List.take_succ_eq_append_getElem (by omega)
        have hp : p (L[k0]'(by omega)) = true := by
          have q := List.findIdx_getElem (xs := L) (p := p) (w := by rw [HK0.out]; omega)
          simpa only [HK0.out] using q
        show _ = _
        rw [e1, List.filter_append, filt_take (by rw [HK0.out]; exact Nat.le_refl _)]
        simp [hp]; omega
    case round =>
      clear HG1 HO2 hlt0 hne
      obtain ⟨i, j, X, hij, hjn, rfl, rfl, hX, hT, hIL, hD, hg, ho⟩ := hrel
      by_cases hlt : j < n
      · have hjL : j < L.length := by rw [HN.out]; exact hlt
        have hXj : X[j]? = some L[j] := by
          have q := congrArg (fun l => l[0]?) hD.out
          simpa [List.getElem?_drop, List.getElem?_eq_getElem hjL] using q
        have c0 := own_cellK spCs_len ho.out hX.out hlt hXj (c := 0) rfl
        have c1 := own_cellK spCs_len ho.out hX.out hlt hXj (c := 1) rfl
        simp only [Nat.add_zero] at c0
        have hcall := HF.out L[j] (List.getElem_mem hjL) (wr.alloc (.cells #[.int .i64 L[j].fr, .int .i64 L[j].to_] 45)) (grown_thenR hg.out (World.grownBy_alloc _ _ none))
        have e1 : L.take (j + 1) = L.take j ++ [L[j]] := List.take_succ_eq_append_getElem hjL
        have HSN : Hid ((L.take (j + 1)).filter (fun x => !p x) = (L.take j).filter (fun x => !p x) ++ (if p L[j] = true then [] else [L[j]])) := by
          show _ = _
          rw [e1, List.filter_append]
          congr 1
          by_cases hp : p L[j] = true <;> simp [hp]
        obtain ⟨q, hq⟩ : ∃ q, p L[j] = q := ⟨_, rfl⟩
        rw [hq] at hcall HSN
        have HC := Lib.hid hcall
        have HLJ : Hid (gb < wr.heap.size) := Nat.lt_of_lt_of_le HLT.out hg.out.size
        clear hcall e1 hq
        generalize L[j] = x at *
        obtain ⟨xf, xt⟩ := x
        simp only at c0 c1 HC
        go_wp2_with fail
        go_at_fn g
        refine HC.out.mono ?_; rintro e w2 ⟨rfl, hg2⟩
        have hgA : wr.grownBy w2 none := grown_trans (World.grownBy_alloc _ _ _) hg2
        have hb2 : w2.heap[wr.heap.size]? = some (.cells #[.int .i64 xf, .int .i64 xt] 45 (0, 0)) := mblock_at (World.alloc_heap_new wr _) hg2 (by simp)
        have x0 : w2.cell? ⟨wr.heap.size, 0, none⟩ = some (.int .i64 xf) := mblock_cell hb2 0 _ rfl
        have x1 : w2.cell? ⟨wr.heap.size, 1, none⟩ = some (.int .i64 xt) := mblock_cell hb2 1 _ rfl
        have HG2 : Hid (w.grownBy w2 (some gb)) := grown_thenR hg.out hgA
        have HO2 := Lib.hid (keptR ho.out hgA)
        clear hg2 hgA hb2 c0 c1 HC
        cases q
        · have hiX : X[i]? = some (X[i]'(by rw [hX.out]; omega)) := List.getElem?_eq_getElem _
          have d0 := own_cellK spCs_len HO2.out hX.out (show i < n by omega) hiX (c := 0) rfl
          have d1 := own_cellK spCs_len HO2.out hX.out (show i < n by omega) hiX (c := 1) rfl
          simp only [Nat.add_zero] at d0
          have f0 := own_freeK HO2.out (i * 2)
          have f1 := own_freeK HO2.out (i * 2 + 1)
          have HO3 : Hid ((w2.setCells gb (i * 2) (spCs ⟨xf, xt⟩)).ownsRow base 45 2 (.slice (some ⟨gb, 0, none⟩) n cap) n ((X.set i ⟨xf, xt⟩).flatMap spCs)) := own_set spCs_len HO2.out hX.out (by omega) ⟨xf, xt⟩
          have HG3 : Hid (w.grownBy (w2.setCells gb (i * 2) (spCs ⟨xf, xt⟩)) (some gb)) := grown_setCells _ _ HG2.out
          have HW3 : Hid (w2.setCells gb (i * 2) (spCs ⟨xf, xt⟩) = (w2.setCell ⟨gb, i * 2, none⟩ (.int .i64 xf)).setCell ⟨gb, i * 2 + 1, none⟩ (.int .i64 xt)) := rfl
          have hi1 : (i : Int) < n := by omega
          clear hiX HO2 HG2 ho hg
          go_wp2_with fail
          go_roundw
          case rel => exact ⟨i + 1, j + 1, X.set i ⟨xf, xt⟩, by omega, by omega, by go_num, by go_num, by show _ = _; rw [List.length_set]; exact hX.out, by
            show _ = _
            rw [HSN.out, if_neg (by decide), ← hT.out, List.take_set, List.take_succ_eq_append_getElem (by rw [hX.out]; omega), List.set_append_right _ _ (by simp [hX.out]; omega)]
            simp [hX.out]
            have : min i n = i := by omega
            simp [this], by show _ = _; rw [HSN.out, if_neg (by decide), List.length_append, hIL.out]; rfl, by
            have q := congrArg (List.drop 1) hD.out
            show _ = _
            rw [List.drop_set_of_lt (by omega)]
            simpa [List.drop_drop] using q, HG3.out, HO3.out⟩
          case measure => simp [intOf]; omega
        · go_wp2_with fail
          go_roundw
          case rel => exact ⟨i, j + 1, X, by omega, by omega, rfl, by go_num, hX.out, by show _ = _; rw [hT.out, HSN.out]; simp, by show _ = _; rw [HSN.out]; simpa using hIL.out, by
            have q := congrArg (List.drop 1) hD.out
            show _ = _
            simpa [List.drop_drop] using q, HG2.out, HO2.out⟩
          case measure => simp [intOf]; omega
      · obtain rfl : n = j := by omega
        have hXX : X = X.take i ++ X.drop i := (List.take_append_drop i X).symm
        have hRR : Hid (X.take i = R) := by
          show _ = _
          rw [hT.out, ← HR.out, ← HN.out, List.take_length]
        have HIR : Hid (R.length = i) := by
          show _ = _
          rw [← hRR.out, List.length_take, hX.out]; omega
        have hz := info_parts zero_sp
        obtain ⟨z0, zi, zz0, zz1, zz2⟩ := hz
        have HCL : Hid (∀ ty, (Builtin.clear_ #[37] ty #[.slice (some ⟨gb, i * 2, none⟩) (n - i) (cap - i)]).run Try.prog wr = .ok (.tuple #[]) (wr.setCells gb (i * 2) (Builtin.zeroCells (Value.agg #[.int .i64 0, .int .i64 0]).cells (n - i)).toList)) := fun ty =>
          run_clear_rows wr 37 45 ty (.agg #[.int .i64 0, .int .i64 0]) Try.underlying37 (fun w => by kernel_rfl) (K := 2) rfl (by omega) (by intro v hv; simp [Value.cells] at hv; rcases hv with rfl | rfl <;> rfl) gb (i * 2) (n - i) (cap - i) (by omega)
            (fun k hk => by
              have hkn : i * 2 + k < n * 2 := by omega
              have hq : (i * 2 + k) / 2 < X.length := by rw [hX.out]; omega
              have hm : (i * 2 + k) % 2 < 2 := Nat.mod_lt _ (by omega)
              have c := own_cellK spCs_len ho.out hX.out (i := (i * 2 + k) / 2) (by rw [← hX.out]; exact hq) (List.getElem?_eq_getElem hq) (c := (i * 2 + k) % 2) (v := (spCs X[(i * 2 + k) / 2])[(i * 2 + k) % 2]'(by rw [spCs_len]; exact hm)) (List.getElem?_eq_getElem _)
              have e : (i * 2 + k) / 2 * 2 + (i * 2 + k) % 2 = i * 2 + k := by omega
              rw [e] at c
              rw [c]; rfl)
            (fun k hk => own_freeK ho.out _)
        have HOC : Hid ((wr.setCells gb (i * 2) (Builtin.zeroCells (Value.agg #[.int .i64 0, .int .i64 0]).cells (n - i)).toList).ownsRow base 45 2 (.slice (some ⟨gb, 0, none⟩) i cap) i (R.flatMap spCs)) := by
          have q := own_clear spCs_len ho.out hX.out (m := i) (by omega) (Builtin.zeroCells (Value.agg #[.int .i64 0, .int .i64 0]).cells (n - i)).toList
          rw [hRR.out] at q
          exact q
        have HGC : Hid (w.grownBy (wr.setCells gb (i * 2) (Builtin.zeroCells (Value.agg #[.int .i64 0, .int .i64 0]).cells (n - i)).toList) (some gb)) := grown_setCells _ _ hg.out
        have w1 : ¬ cap = i := by omega
        have w2 : (i : Int) ≤ (n : Int) := by omega
        have w3 : (n : Int) ≤ (cap : Int) := by omega
        have w4 : i ≤ n := by omega
        have w5 : (i : Int) ≤ (cap : Int) := by omega
        generalize (wr.setCells gb (i * 2) (Builtin.zeroCells (Value.agg #[.int .i64 0, .int .i64 0]).cells (n - i)).toList) = WC at *
        clear hT hIL hD hg ho hXX hRR zi zz0 zz1 zz2 hjn
        have hcl := HCL.out
        go_wp2_with fail
        go_ret
        exact ⟨⟨_, rfl, by rw [HIR.out]; exact HOC.out⟩, HGC.out⟩
  · have e0 : i0 = -1 := by rw [← hi0]; unfold idxR; rw [hk0, if_neg hlt0]
    subst e0
    have hRL : R = L := by rw [← HR.out]; exact filt_none (by rw [hk0]; exact hlt0)
    have hix := idxSp_is ao cap L hl g cb p w _ HRW.out eg HF.out HI.out
    obtain ⟨n, hn⟩ : ∃ n, L.length = n := ⟨_, rfl⟩
    have HOF : Hid (w.ownsRow base 45 2 (.slice ao n cap) R.length (R.flatMap spCs)) := by rw [hRL, ← hn]; exact HO.out
    rw [hn] at hix
    rw [hn]
    have HIX := Lib.hid hix
    clear hk0 hi0 hn hix hRL HO HF HRW hlt0 hcap hl
    go_enter Try.func131, Try.ntmps131
    go_wp2_with fail
    refine HIX.out.mono ?_; rintro e w1 ⟨rfl, hg1⟩
    have HG1 : Hid (w.grownBy w1 (Value.slice ao n cap).ownBlock) := grown_low2 hg1
    have HO2 := Lib.hid (keptR HOF.out hg1)
    clear hg1
    go_wp2_with fail
    go_ret
    exact ⟨⟨_, rfl, HO2.out⟩, HG1.out⟩
end Go.Proofs.Ytgkhhfojioepgaa
/- The mathematics of the long division by two digits. No program. -/
namespace Go.Proofs.Ytgkhhfojioepgaa
set_option linter.unusedSimpArgs false
set_option linter.unusedVariables false

/-- One digit of the long division: B = 2^32, y = y1*B + y0 normalised, u < y, d < B; (q, r) stands at the head of a round. -/
structure DivInv (y1 y0 u d q r : Nat) : Prop where
  eq : q * y1 + r = u
  ge : (u * 4294967296 + d) / (y1 * 4294967296 + y0) ≤ q
  le : q ≤ 4294967297

theorem div_start (y1 y0 u : Nat) (d : Nat) (h1 : 2147483648 ≤ y1) (h0 : y0 < 4294967296) (hu : u < y1 * 4294967296 + y0) (hd : d < 4294967296) :
    DivInv y1 y0 u d (u / y1) (u - u / y1 * y1) ∧ u - u / y1 * y1 < y1 := by
  have hm := Nat.div_add_mod u y1
  have hlt := Nat.mod_lt u (show 0 < y1 by omega)
  have hc : u / y1 * y1 = y1 * (u / y1) := Nat.mul_comm _ _
  refine ⟨⟨by omega, ?_, ?_⟩, by omega⟩
  · have hy : 0 < y1 * 4294967296 + y0 := by omega
    have hs : (u * 4294967296 + d) / (y1 * 4294967296 + y0) < u / y1 + 1 := by
      rw [Nat.div_lt_iff_lt_mul hy]
      have e : (u / y1 + 1) * (y1 * 4294967296 + y0) = (y1 * (u / y1) + y1) * 4294967296 + (u / y1 + 1) * y0 := by
        rw [Nat.mul_add, Nat.add_mul, Nat.add_mul, Nat.add_mul, ← Nat.mul_assoc, Nat.mul_comm (u / y1) y1]; omega
      rw [e]
      have : 0 ≤ (u / y1 + 1) * y0 := Nat.zero_le _
      omega
    omega
  · have : u / y1 < 4294967298 := by
      rw [Nat.div_lt_iff_lt_mul (by omega)]; omega
    omega

theorem div_true1 {y1 y0 u d q r : Nat} (h : DivInv y1 y0 u d q r) (_h1 : 2147483648 ≤ y1) (hu : u < y1 * 4294967296 + y0) (hd : d < 4294967296)
    (hq : 4294967296 ≤ q) : DivInv y1 y0 u d (q - 1) (r + y1) := by
  obtain ⟨he, hg, hl⟩ := h
  refine ⟨?_, ?_, by omega⟩
  · have : (q - 1) * y1 = q * y1 - y1 := Nat.sub_one_mul q y1
    have : y1 ≤ q * y1 := Nat.le_mul_of_pos_left _ (by omega)
    omega
  · have hs : (u * 4294967296 + d) / (y1 * 4294967296 + y0) < 4294967296 := by
      rw [Nat.div_lt_iff_lt_mul (by omega)]; omega
    omega

theorem div_key {y1 y0 u q r : Nat} (he : q * y1 + r = u) (d : Nat) : q * (y1 * 4294967296 + y0) + (r * 4294967296 + d) = u * 4294967296 + d + q * y0 := by
  have e : q * (y1 * 4294967296 + y0) = q * y1 * 4294967296 + q * y0 := by rw [Nat.mul_add, ← Nat.mul_assoc]
  rw [e]; omega

theorem div_true2 {y1 y0 u d q r : Nat} (h : DivInv y1 y0 u d q r) (h1 : 2147483648 ≤ y1) 
    (hq : 4294967296 * r + d < q * y0) : DivInv y1 y0 u d (q - 1) (r + y1) := by
  obtain ⟨he, hg, hl⟩ := h
  have hpos : 0 < q := by
    rcases Nat.eq_zero_or_pos q with h0 | h0
    · subst h0; omega
    · exact h0
  refine ⟨?_, ?_, by omega⟩
  · have : (q - 1) * y1 = q * y1 - y1 := Nat.sub_one_mul q y1
    have : y1 ≤ q * y1 := Nat.le_mul_of_pos_left _ hpos
    omega
  · have hk := div_key (y0 := y0) he d
    have hs : (u * 4294967296 + d) / (y1 * 4294967296 + y0) < q := by
      rw [Nat.div_lt_iff_lt_mul (by omega)]; omega
    omega

/-- The tests say no, or the rest has outgrown B: q is the digit. -/
theorem div_end {y1 y0 u d q r : Nat} (h : DivInv y1 y0 u d q r) (h1 : 2147483648 ≤ y1) 
    (hq : q * y0 ≤ 4294967296 * r + d) : (u * 4294967296 + d) / (y1 * 4294967296 + y0) = q := by
  obtain ⟨he, hg, hl⟩ := h
  refine Nat.le_antisymm hg ?_
  have hk := div_key (y0 := y0) he d
  rw [Nat.le_div_iff_mul_le (by omega)]; omega

theorem div_break {y0 d q r : Nat} (h0 : y0 < 4294967296) (hq : q ≤ 4294967296) (hr : 4294967296 ≤ r) : q * y0 ≤ 4294967296 * r + d := by
  have : q * y0 ≤ 4294967296 * y0 := Nat.mul_le_mul_right _ hq
  omega

/-- What is left behind a digit. -/
theorem div_rest {y1 y0 u d q : Nat} (h1 : 2147483648 ≤ y1) (hq : (u * 4294967296 + d) / (y1 * 4294967296 + y0) = q) :
    (u * 4294967296 + d) - q * (y1 * 4294967296 + y0) = (u * 4294967296 + d) % (y1 * 4294967296 + y0) ∧ q * (y1 * 4294967296 + y0) ≤ u * 4294967296 + d ∧ (u * 4294967296 + d) % (y1 * 4294967296 + y0) < y1 * 4294967296 + y0 := by
  have hm := Nat.div_add_mod (u * 4294967296 + d) (y1 * 4294967296 + y0)
  have hlt := Nat.mod_lt (u * 4294967296 + d) (show 0 < y1 * 4294967296 + y0 by omega)
  rw [hq] at hm
  have : q * (y1 * 4294967296 + y0) = (y1 * 4294967296 + y0) * q := Nat.mul_comm _ _
  omega

/-- Two digits make the quotient. -/
theorem div_two (y N1 d : Nat) (hy : 0 < y) : (N1 * 4294967296 + d) / y = N1 / y * 4294967296 + (N1 % y * 4294967296 + d) / y ∧ (N1 * 4294967296 + d) % y = (N1 % y * 4294967296 + d) % y := by
  have hm := Nat.div_add_mod N1 y
  have e : N1 * 4294967296 + d = (N1 % y * 4294967296 + d) + y * (N1 / y * 4294967296) := by
    have : y * (N1 / y * 4294967296) = y * (N1 / y) * 4294967296 := by rw [Nat.mul_assoc]
    omega
  constructor
  · rw [e, Nat.add_mul_div_left _ _ hy]; omega
  · rw [e, Nat.add_mul_mod_self_left]

/-- A division shifted on both sides. -/
theorem div_shift (N y s : Nat) (_hy : 0 < y) : N * 2 ^ s / (y * 2 ^ s) = N / y ∧ N * 2 ^ s % (y * 2 ^ s) / 2 ^ s = N % y := by
  have hp : 0 < 2 ^ s := Nat.two_pow_pos s
  constructor
  · exact Nat.mul_div_mul_right _ _ hp
  · rw [Nat.mul_mod_mul_right]; exact Nat.mul_div_cancel _ hp


end Go.Proofs.Ytgkhhfojioepgaa
namespace Go.Proofs.Ytgkhhfojioepgaa
open Go.RowKit
set_option linter.unusedSimpArgs false
set_option linter.unusedVariables false
set_option maxRecDepth 100000 in
set_option maxHeartbeats 3200000 in
theorem div_core (hi lo y s Y y1 y0 H U N d1 d0 q0 p0 r0 Q1 A B C U2 q2 p2 r2 Q2 F QQ A2 B2 C2 R2 RR : Nat) (w : World) (hh : 0 < hi) (hy : hi < y)
    (hs : ∀ w, Calls Try.prog 182 #[.int .u64 y] w fun e w' => e = .returned (.int .i64 s) ∧ w = w') (hs63 : s ≤ 63)
    (eY : IntKind.u64.wrap ((y : Int) * 2 ^ s) = Y) (e1 : (Y : Int) / 4294967296 = y1) (e0 : bits .and .u64 (Y : Int) 4294967295 = y0)
    (eH : IntKind.u64.wrap ((hi : Int) * 2 ^ s) = H) (eN : IntKind.u64.wrap ((lo : Int) * 2 ^ s) = N)
    (eU : bits .or .u64 (H : Int) ((lo : Int) / 2 ^ (64 - s)) = U) (eN1 : (N : Int) / 4294967296 = d1) (eN0 : bits .and .u64 (N : Int) 4294967295 = d0)
    (hyy1 : y1 < 4294967296) (hyy0 : y0 < 4294967296) (hd1 : d1 < 4294967296) (hd0 : d0 < 4294967296)
    (hy1 : 2147483648 ≤ y1) (hUY : U < y1 * 4294967296 + y0)
    (eq0 : IntKind.u64.wrap ((U : Int) / (y1 : Int)) = q0) (ep0 : IntKind.u64.wrap ((q0 : Int) * (y1 : Int)) = p0) (er0 : IntKind.u64.wrap ((U : Int) - (p0 : Int)) = r0)
    (eA : IntKind.u64.wrap ((U : Int) * 4294967296) = A) (eB : IntKind.u64.wrap ((A : Int) + (d1 : Int)) = B) (eC : IntKind.u64.wrap ((Q1 : Int) * (Y : Int)) = C) (eD : IntKind.u64.wrap ((B : Int) - (C : Int)) = U2)
    (eq2 : IntKind.u64.wrap ((U2 : Int) / (y1 : Int)) = q2) (ep2 : IntKind.u64.wrap ((q2 : Int) * (y1 : Int)) = p2) (er2 : IntKind.u64.wrap ((U2 : Int) - (p2 : Int)) = r2)
    (eF : IntKind.u64.wrap ((Q1 : Int) * 4294967296) = F) (eG : IntKind.u64.wrap ((F : Int) + (Q2 : Int)) = QQ)
    (eA2 : IntKind.u64.wrap ((U2 : Int) * 4294967296) = A2) (eB2 : IntKind.u64.wrap ((A2 : Int) + (d0 : Int)) = B2) (eC2 : IntKind.u64.wrap ((Q2 : Int) * (Y : Int)) = C2) (eD2 : IntKind.u64.wrap ((B2 : Int) - (C2 : Int)) = R2) (eE : (R2 : Int) / 2 ^ s = RR)
    (hUY2 : U2 < y1 * 4294967296 + y0) (hi2 : Hid (DivInv y1 y0 U2 d0 q2 r2)) (hr2 : r2 < 4294967296) (HQ2 : Hid ((U2 * 4294967296 + d0) / (y1 * 4294967296 + y0) = Q2))
    (hi1 : Hid (DivInv y1 y0 U d1 q0 r0)) (hr0 : r0 < 4294967296) (HQ1 : Hid ((U * 4294967296 + d1) / (y1 * 4294967296 + y0) = Q1)) :
    Calls Try.prog 154 #[.int .u64 hi, .int .u64 lo, .int .u64 y] w fun e w' => e = .returned (.tuple #[.int .u64 QQ, .int .u64 RR]) ∧ w = w' := by
  have h0 : ((y : Int) == 0) = false := by simp; omega
  have h1 : ((hi : Int) == 0) = false := by simp; omega
  have HS := Lib.hid hs; clear hs
  go_enter Try.func154, Try.ntmps154
  have hy1' : ¬ (y1 = 0) := by omega
  go_upto_block 0 with (go_at_call 182; refine (HS.out _).mono ?_; rintro e w1 ⟨rfl, rfl⟩)
  clear eY e1 e0 eH eN eU eN1 eN0
  go_cut [15] (fun qv wx => (qv = .int .u64 Q1) ∧ w = wx)
  case first =>
    go_wp2_with fail
    go_loop [15, 16] (fun qv rv => ∃ q r : Nat, qv = .int .u64 q ∧ rv = .int .u64 r ∧ Hid (DivInv y1 y0 U d1 q r) ∧ q ≤ 4294967297 ∧ r < 4294967296) (fun qv _ => (intOf qv).toNat)
    case atStart => exact ⟨q0, r0, rfl, rfl, hi1.out, by have := (hi1.out).le; omega, hr0⟩
    case round =>
      obtain ⟨q, r, rfl, rfl, hinv, hq9n, hr9n⟩ := hrel
      have hq9 : (q : Int) ≤ 4294967297 := by omega
      have hr9 : (r : Int) < 4294967296 := by omega
      clear hq9n hr9n
      obtain ⟨P, hP⟩ : ∃ P, P = q * y0 := ⟨_, rfl⟩
      have hPb : P < 18446744073709551616 := by
        rw [hP]
        have : q * y0 ≤ 4294967297 * y0 := Nat.mul_le_mul_right _ (by omega)
        omega
      have eP : IntKind.u64.wrap ((q : Int) * (y0 : Int)) = (P : Int) := by
        rw [hP, IntKind.wrap_u64, ← Int.natCast_mul]
        rw [hP] at hPb
        omega
      have HP := Lib.hid hP; clear hP hPb
      by_cases hB : (4294967296 : Int) ≤ (q : Int)
      · have hnext := div_true1 hinv.out hy1 hUY hd1 (by omega)
        have HN := Lib.hid hnext; clear hnext
        by_cases hb : (4294967296 : Int) ≤ (r : Int) + (y1 : Int)
        · have hend : (U * 4294967296 + d1) / (y1 * 4294967296 + y0) = q - 1 := div_end HN.out hy1 (div_break hyy0 (by omega) (by omega))
          have HE := Lib.hid hend; clear hend
          go_wp2_with fail
          go_meet
          exact ⟨by rw [← HQ1.out, HE.out]; exact congrArg _ (by omega), rfl⟩
        · go_wp2
          go_round
          case rel => exact ⟨q - 1, r + y1, by go_num, by go_num, HN.out, by omega, by omega⟩
          case measure => simp [intOf]; omega
      · by_cases hT : 4294967296 * (r : Int) + (d1 : Int) < (P : Int)
        · have hnext := div_true2 hinv.out hy1 (by rw [← HP.out]; omega)
          have hq1 : 1 ≤ q := by
            rcases Nat.eq_zero_or_pos q with h0 | h0
            · have := HP.out; rw [h0, Nat.zero_mul] at this; omega
            · exact h0
          have HN := Lib.hid hnext; clear hnext
          by_cases hb : (4294967296 : Int) ≤ (r : Int) + (y1 : Int)
          · have hend : (U * 4294967296 + d1) / (y1 * 4294967296 + y0) = q - 1 := div_end HN.out hy1 (div_break hyy0 (by omega) (by omega))
            have HE := Lib.hid hend; clear hend
            go_wp2_with fail
            go_meet
            exact ⟨by rw [← HQ1.out, HE.out]; exact congrArg _ (by omega), rfl⟩
          · go_wp2
            go_round
            case rel => exact ⟨q - 1, r + y1, by go_num, by go_num, HN.out, by omega, by omega⟩
            case measure => simp [intOf]; omega
        · have hend : (U * 4294967296 + d1) / (y1 * 4294967296 + y0) = q := div_end hinv.out hy1 (by rw [← HP.out]; omega)
          have HE := Lib.hid hend; clear hend
          go_wp2_with fail
          go_meet
          exact ⟨by rw [← HQ1.out, HE.out], rfl⟩
  case rest =>
    obtain ⟨rfl, rfl⟩ := hcut
    go_upto_block 2 with fail
    go_cut [18] (fun qv wy => (qv = .int .u64 Q2) ∧ w = wy)
    case first =>
      go_wp2_with fail
      go_loop [18, 16] (fun qv rv => ∃ q r : Nat, qv = .int .u64 q ∧ rv = .int .u64 r ∧ Hid (DivInv y1 y0 U2 d0 q r) ∧ q ≤ 4294967297 ∧ r < 4294967296) (fun qv _ => (intOf qv).toNat)
      case atStart => exact ⟨q2, r2, rfl, rfl, hi2.out, by have := (hi2.out).le; omega, hr2⟩
      case round =>
        obtain ⟨q, r, rfl, rfl, hinv, hq9n, hr9n⟩ := hrel
        have hq9 : (q : Int) ≤ 4294967297 := by omega
        have hr9 : (r : Int) < 4294967296 := by omega
        clear hq9n hr9n
        obtain ⟨P, hP⟩ : ∃ P, P = q * y0 := ⟨_, rfl⟩
        have hPb : P < 18446744073709551616 := by
          rw [hP]
          have : q * y0 ≤ 4294967297 * y0 := Nat.mul_le_mul_right _ (by omega)
          omega
        have eP : IntKind.u64.wrap ((q : Int) * (y0 : Int)) = (P : Int) := by
          rw [hP, IntKind.wrap_u64, ← Int.natCast_mul]
          rw [hP] at hPb
          omega
        have HP := Lib.hid hP; clear hP hPb
        by_cases hB : (4294967296 : Int) ≤ (q : Int)
        · have hnext := div_true1 hinv.out hy1 hUY2 hd0 (by omega)
          have HN := Lib.hid hnext; clear hnext
          by_cases hb : (4294967296 : Int) ≤ (r : Int) + (y1 : Int)
          · have hend : (U2 * 4294967296 + d0) / (y1 * 4294967296 + y0) = q - 1 := div_end HN.out hy1 (div_break hyy0 (by omega) (by omega))
            have HE := Lib.hid hend; clear hend
            go_wp2_with fail
            go_meet
            exact ⟨by rw [← HQ2.out, HE.out]; exact congrArg _ (by omega), rfl⟩
          · go_wp2
            go_round
            case rel => exact ⟨q - 1, r + y1, by go_num, by go_num, HN.out, by omega, by omega⟩
            case measure => simp [intOf]; omega
        · by_cases hT : 4294967296 * (r : Int) + (d0 : Int) < (P : Int)
          · have hnext := div_true2 hinv.out hy1 (by rw [← HP.out]; omega)
            have hq1 : 1 ≤ q := by
              rcases Nat.eq_zero_or_pos q with h0 | h0
              · have := HP.out; rw [h0, Nat.zero_mul] at this; omega
              · exact h0
            have HN := Lib.hid hnext; clear hnext
            by_cases hb : (4294967296 : Int) ≤ (r : Int) + (y1 : Int)
            · have hend : (U2 * 4294967296 + d0) / (y1 * 4294967296 + y0) = q - 1 := div_end HN.out hy1 (div_break hyy0 (by omega) (by omega))
              have HE := Lib.hid hend; clear hend
              go_wp2_with fail
              go_meet
              exact ⟨by rw [← HQ2.out, HE.out]; exact congrArg _ (by omega), rfl⟩
            · go_wp2
              go_round
              case rel => exact ⟨q - 1, r + y1, by go_num, by go_num, HN.out, by omega, by omega⟩
              case measure => simp [intOf]; omega
          · have hend : (U2 * 4294967296 + d0) / (y1 * 4294967296 + y0) = q := div_end hinv.out hy1 (by rw [← HP.out]; omega)
            have HE := Lib.hid hend; clear hend
            go_wp2_with fail
            go_meet
            exact ⟨by rw [← HQ2.out, HE.out], rfl⟩
    case rest =>
      obtain ⟨rfl, rfl⟩ := hcut
      go_wp2
      go_ret2
      exact ⟨rfl, rfl⟩
end Go.Proofs.Ytgkhhfojioepgaa
/- The plain reading of texts: what a taker takes, what numbers, pairs, digits, words and sixties are read, said of the list of bytes that is left. No program. -/
namespace Go.Proofs.Ytgkhhfojioepgaa
set_option linter.unusedSimpArgs false
set_option linter.unusedVariables false

/-- The next byte, if it lies from lo to hi. -/
def tkV (lo hi : Int) : List Nat → Option Nat
  | [] => none
  | c :: _ => if lo ≤ (c : Int) ∧ (c : Int) ≤ hi then some c else none

/-- What is read: the value, whether all was there, how many bytes were taken. -/
structure Got where
  val : Int
  ok : Bool
  used : Nat

/-- More digits of a number that is to stay at most 'most'. -/
def numMore (most : Int) : List Nat → Int → Int × Nat
  | [], n => (n, 0)
  | c :: r, n => if 0 < n ∧ 10 * n ≤ most ∧ 48 ≤ (c : Int) ∧ (c : Int) ≤ 48 + min (most - 10 * n) 9 then ((numMore most r (10 * n + ((c : Int) - 48))).1, (numMore most r (10 * n + ((c : Int) - 48))).2 + 1) else (n, 0)

def numV (least most : Int) (R : List Nat) : Got :=
  match tkV (48 + least) 57 R with
  | none => ⟨0, false, 0⟩
  | some c => ⟨(numMore most R.tail ((c : Int) - 48)).1, true, (numMore most R.tail ((c : Int) - 48)).2 + 1⟩

def wordV : List Nat → List Nat → Bool × Nat
  | [], _ => (true, 0)
  | _ :: _, [] => (false, 0)
  | c :: w, d :: r => if d = c then ((wordV w r).1, (wordV w r).2 + 1) else (false, 0)

def pairV (most : Int) (R : List Nat) : Got :=
  match tkV 48 (48 + most / 10) R with
  | none => ⟨0, false, 0⟩
  | some t =>
    match tkV 48 (if (t : Int) = 48 + most / 10 then 48 + most % 10 else 57) R.tail with
    | none => ⟨0, false, 1⟩
    | some o => ⟨10 * ((t : Int) - 48) + ((o : Int) - 48), true, 2⟩

/-- The rounds of a time with colons: so many pairs are to come; whether all was there so far; so many seconds; so many bytes taken. -/
def sixtyV : Nat → Bool → List Nat → Int → Nat → Got
  | 0, ok, _, n, u => ⟨n, ok, u⟩
  | _ + 1, false, _, _, u => ⟨0, false, u⟩
  | p + 1, true, R, n, u =>
    if (wordV [58] R).1 then sixtyV p (pairV 59 (R.drop (wordV [58] R).2)).ok (R.drop ((wordV [58] R).2 + (pairV 59 (R.drop (wordV [58] R).2)).used)) (60 * n + (pairV 59 (R.drop (wordV [58] R).2)).val) (u + (wordV [58] R).2 + (pairV 59 (R.drop (wordV [58] R).2)).used)
    else ⟨0, false, u + (wordV [58] R).2⟩

def inSixtiesV (least most : Int) (pairs : Nat) (R : List Nat) : Got :=
  sixtyV pairs (numV least most R).ok (R.drop (numV least most R).used) (numV least most R).val (numV least most R).used

def letterAt (j : Nat) : Nat := if j = 0 then 104 else if j = 1 then 109 else 115
def sizeAt (j : Nat) : Int := if j = 0 then 3600 else if j = 1 then 60 else 1

/-- The first letter from the j-th one on that stands here; 3: none. -/
def findV (j : Nat) (R : List Nat) : Nat :=
  if j < 3 then (if (wordV [letterAt j] R).1 then j else findV (j + 1) R) else j
termination_by 3 - j

theorem findV_ge (j : Nat) (R : List Nat) : j ≤ findV j R := by
  unfold findV; split
  · split
    · omega
    · have := findV_ge (j + 1) R; omega
  · omega
termination_by 3 - j

/-- Numbers with letters, from the j-th letter on. -/
def partsV (j : Nat) (R : List Nat) (sec : Int) (u : Nat) : Got :=
  if j < 3 then
    if (numV 0 9999999 R).ok then
      if findV j (R.drop (numV 0 9999999 R).used) < 3 then
        partsV (findV j (R.drop (numV 0 9999999 R).used) + 1) (R.drop ((numV 0 9999999 R).used + 1)) (sec + (numV 0 9999999 R).val * sizeAt (findV j (R.drop (numV 0 9999999 R).used))) (u + (numV 0 9999999 R).used + 1)
      else ⟨0, false, u + (numV 0 9999999 R).used⟩
    else ⟨sec, decide (0 < j), u⟩
  else ⟨sec, true, u⟩
termination_by 3 - j
decreasing_by have := findV_ge j (R.drop (numV 0 9999999 R).used); omega

theorem tkV_bd {lo hi : Int} {R : List Nat} {c : Nat} (h : tkV lo hi R = some c) : lo ≤ (c : Int) ∧ (c : Int) ≤ hi ∧ R = c :: R.tail := by
  cases R with
  | nil => simp [tkV] at h
  | cons d r =>
    simp only [tkV] at h
    split at h
    · simp at h; subst h; simp_all
    · simp at h

theorem numMore_le (most : Int) : ∀ (R : List Nat) (n : Int), (numMore most R n).2 ≤ R.length
  | [], n => by simp [numMore]
  | c :: r, n => by
    unfold numMore; split
    · have := numMore_le most r (10 * n + ((c : Int) - 48)); simp; omega
    · simp

theorem numMore_bd (most : Int) : ∀ (R : List Nat) (n : Int), 0 ≤ n → n ≤ most → 0 ≤ (numMore most R n).1 ∧ (numMore most R n).1 ≤ most
  | [], n, h0, h1 => by simp [numMore]; omega
  | c :: r, n, h0, h1 => by
    unfold numMore; split
    · exact numMore_bd most r (10 * n + ((c : Int) - 48)) (by omega) (by omega)
    · exact ⟨h0, h1⟩

theorem numV_le (least most : Int) (R : List Nat) : (numV least most R).used ≤ R.length := by
  unfold numV; split
  · simp
  · rename_i c h
    have := (tkV_bd h).2.2
    have h2 := numMore_le most R.tail ((c : Int) - 48)
    rw [this]; simp; simpa using h2

theorem numV_bd (least most : Int) (R : List Nat) (h0 : 0 ≤ least) (h9 : 9 ≤ most) : 0 ≤ (numV least most R).val ∧ (numV least most R).val ≤ most := by
  unfold numV; split
  · simp; omega
  · rename_i c h
    have := tkV_bd h
    exact numMore_bd most R.tail _ (by omega) (by omega)

theorem wordV_le : ∀ (w R : List Nat), (wordV w R).2 ≤ R.length
  | [], R => by simp [wordV]
  | _ :: _, [] => by simp [wordV]
  | c :: w, d :: r => by
    unfold wordV; split
    · have := wordV_le w r; simp; omega
    · simp

theorem pairV_le (most : Int) (R : List Nat) : (pairV most R).used ≤ R.length := by
  unfold pairV; split
  · simp
  · rename_i t h
    have h1 := (tkV_bd h).2.2
    split
    · rw [h1]; simp
    · rename_i o h'
      have h2 := (tkV_bd h').2.2
      rw [h1, h2]; simp

theorem pairV_bd (most : Int) (R : List Nat) (h0 : 0 ≤ most) (h9 : most ≤ 99) : 0 ≤ (pairV most R).val ∧ (pairV most R).val ≤ most := by
  unfold pairV; split
  · simp; omega
  · rename_i t h
    have h1 := tkV_bd h
    split
    · simp; omega
    · rename_i o h'
      have h2 := tkV_bd h'
      simp only
      split at h2 <;> omega

theorem wordV_no {c : Nat} {w R : List Nat} (h : tkV c c R = none) : wordV (c :: w) R = (false, 0) := by
  cases R with
  | nil => rfl
  | cons d r =>
    simp only [tkV] at h
    split at h
    · simp at h
    · unfold wordV; rw [if_neg (by omega)]
theorem wordV_yes {c x : Nat} {w R : List Nat} (h : tkV c c R = some x) : wordV (c :: w) R = ((wordV w R.tail).1, (wordV w R.tail).2 + 1) := by
  cases R with
  | nil => simp [tkV] at h
  | cons d r =>
    simp only [tkV] at h
    split at h
    · rw [wordV, if_pos (by omega)]; rfl
    · simp at h
theorem numMore_no {most n : Int} {R : List Nat} (h : 0 < n → 10 * n ≤ most → tkV 48 (48 + min (most - 10 * n) 9) R = none) : numMore most R n = (n, 0) := by
  cases R with
  | nil => rfl
  | cons c r =>
    unfold numMore; rw [if_neg]
    rintro ⟨h1, h2, h3, h4⟩
    have := h h1 h2
    simp only [tkV] at this
    rw [if_pos ⟨h3, h4⟩] at this; simp at this
theorem numMore_yes {most n : Int} {R : List Nat} {c : Nat} (h1 : 0 < n) (h2 : 10 * n ≤ most) (h : tkV 48 (48 + min (most - 10 * n) 9) R = some c) :
    numMore most R n = ((numMore most R.tail (10 * n + ((c : Int) - 48))).1, (numMore most R.tail (10 * n + ((c : Int) - 48))).2 + 1) := by
  cases R with
  | nil => simp [tkV] at h
  | cons d r =>
    simp only [tkV] at h
    split at h
    · rename_i h3; simp at h; subst h
      rw [numMore, if_pos ⟨h1, h2, h3.1, h3.2⟩]; rfl
    · simp at h

theorem findV_yes {j : Nat} {R : List Nat} (hj : j < 3) (h : (wordV [letterAt j] R).1 = true) : findV j R = j := by rw [findV, if_pos hj, if_pos h]
theorem findV_no {j : Nat} {R : List Nat} (hj : j < 3) (h : (wordV [letterAt j] R).1 = false) : findV j R = findV (j + 1) R := by rw [findV, if_pos hj, if_neg (by simp [h])]
theorem findV_end (R : List Nat) : findV 3 R = 3 := by rw [findV, if_neg (by omega)]
theorem word1_no {c : Nat} {R : List Nat} (h : (wordV [c] R).1 = false) : wordV [c] R = (false, 0) := by
  cases R with
  | nil => rfl
  | cons d r =>
    unfold wordV at h ⊢
    split
    · rename_i e; rw [if_pos e] at h; simp [wordV] at h
    · rfl
theorem word1_yes {c : Nat} {R : List Nat} (h : (wordV [c] R).1 = true) : wordV [c] R = (true, 1) := by
  cases R with
  | nil => simp [wordV] at h
  | cons d r =>
    unfold wordV at h ⊢
    split
    · simp [wordV]
    · rename_i e; rw [if_neg e] at h; simp at h
theorem numV_no {least most : Int} {R : List Nat} (h : (numV least most R).ok = false) : (numV least most R).used = 0 := by
  unfold numV at h ⊢; split
  · rfl
  · rename_i h'; rw [h'] at h; simp at h

end Go.Proofs.Ytgkhhfojioepgaa
namespace Go.Proofs.Ytgkhhfojioepgaa
open Go.RowKit
set_option linter.unusedSimpArgs false
set_option linter.unusedVariables false

theorem ret_uu {a b c d : Int} (h : a = b) (h' : c = d) : Ending.returned (.tuple #[.int .u64 a, .int .u64 c]) = .returned (.tuple #[.int .u64 b, .int .u64 d]) := by rw [h, h']
theorem ret_iii {k k' k'' : IntKind} {a b c d e f : Int} (h : a = b) (h' : c = d) (h'' : e = f) : Ending.returned (.tuple #[.int k a, .int k' c, .int k'' e]) = .returned (.tuple #[.int k b, .int k' d, .int k'' f]) := by rw [h, h', h'']

/-- The place of a taker lies in block a, its text in block b. -/
structure At (w : World) (a b : Nat) (s : ByteArray) (k : Nat) : Prop where
  hA : w.heap[a]? = some (.cells #[.int .i64 k] 3 (0, 0))
  hB : w.heap[b]? = some (.cells #[.string s] 9 (0, 0))
  sz : s.size ≤ 140737488351232
  le : k ≤ s.size

structure Moved (w w' : World) (a b : Nat) (s : ByteArray) (k : Nat) : Prop where
  pos : At w' a b s k
  g : w.grownBy w' (some a)

/-- The bytes that are left from a place on. -/
def rem (s : ByteArray) (k : Nat) : List Nat := (s.data.toList.drop k).map UInt8.toNat

theorem grown_drew (w : World) (r : Option Nat) : w.grownBy w.drew r := ⟨rfl, rfl, rfl, Nat.le_refl _, fun _ _ _ => rfl⟩

theorem At.lt {w : World} {a b : Nat} {s : ByteArray} {k : Nat} (h : At w a b s k) : a < w.heap.size ∧ b < w.heap.size ∧ a ≠ b :=
  ⟨lt_of_block h.hA, lt_of_block h.hB, fun e => by have h1 := h.hA; have h2 := h.hB; rw [e, h2] at h1; simp at h1⟩
theorem At.refl {w : World} {a b : Nat} {s : ByteArray} {k : Nat} (h : At w a b s k) : Moved w w a b s k := ⟨h, grown_refl _ _⟩
theorem At.drewN {w : World} {a b : Nat} {s : ByteArray} {k : Nat} (h : At w a b s k) (n : Nat) : At (w.drewN n) a b s k := ⟨h.hA, h.hB, h.sz, h.le⟩
theorem Moved.drew {w w' : World} {a b : Nat} {s : ByteArray} {k : Nat} (h : Moved w w' a b s k) : Moved w w'.drew a b s k := ⟨⟨h.pos.hA, h.pos.hB, h.pos.sz, h.pos.le⟩, h.g.os, h.g.tape, h.g.output, h.g.size, h.g.block⟩
theorem Moved.drewN {w w' : World} {a b : Nat} {s : ByteArray} {k : Nat} (h : Moved w w' a b s k) (n : Nat) : Moved w (w'.drewN n) a b s k := ⟨⟨h.pos.hA, h.pos.hB, h.pos.sz, h.pos.le⟩, h.g.os, h.g.tape, h.g.output, h.g.size, h.g.block⟩
theorem At.drew {w : World} {a b : Nat} {s : ByteArray} {k : Nat} (h : At w a b s k) : At w.drew a b s k := ⟨h.hA, h.hB, h.sz, h.le⟩
theorem Moved.eq {w w' : World} {a b : Nat} {s : ByteArray} {k k' : Nat} (h : Moved w w' a b s k) (e : k = k') : Moved w w' a b s k' := e ▸ h
theorem Moved.trans {w1 w2 w3 : World} {a b : Nat} {s : ByteArray} {k k' : Nat} (h : Moved w1 w2 a b s k) (h' : Moved w2 w3 a b s k') : Moved w1 w3 a b s k' := ⟨h'.pos, grown_trans h.g h'.g⟩
theorem At.step {w : World} {a b : Nat} {s : ByteArray} {k : Nat} (h : At w a b s k) (hk : k < s.size) : Moved w (w.setCell ⟨a, 0, none⟩ (.int .i64 (k + 1 : Nat))) a b s (k + 1) := by
  have hl := h.lt
  refine ⟨⟨one_setCell h.hA, ?_, h.sz, by omega⟩, rfl, rfl, rfl, by simp [World.setCell], fun j _ hr => Below.heap_setCell _ _ _ _ (fun e => hr (by rw [e]))⟩
  rw [Below.heap_setCell _ _ _ _ (fun e => hl.2.2 e.symm)]; exact h.hB
/-- A new block leaves the place. -/
theorem At.grown {w w' : World} {a b : Nat} {s : ByteArray} {k : Nat} (h : At w a b s k) (g : w.grownBy w' none) : Moved w w' a b s k :=
  ⟨⟨by rw [g.block a h.lt.1 (by simp)]; exact h.hA, by rw [g.block b h.lt.2.1 (by simp)]; exact h.hB, h.sz, h.le⟩, g.os, g.tape, g.output, g.size, fun j hj _ => g.block j hj (by simp)⟩

theorem Moved.block {w w' : World} {a b : Nat} {s : ByteArray} {k z : Nat} {o : Obj} (h : Moved w w' a b s k) (hz : w.heap[z]? = some o) (ne : z ≠ a) : w'.heap[z]? = some o := by
  rw [h.g.block z (lt_of_block hz) (fun e => ne (by simpa using e))]; exact hz
/-- Draws on the way. -/
theorem Moved.from {w w' w1 : World} {a b : Nat} {s : ByteArray} {k k' : Nat} (h : Moved w w' a b s k) (h' : Moved w'.drew w1 a b s k') : Moved w w1 a b s k' := h.drew.trans h'

theorem rem_nil {s : ByteArray} {k : Nat} (h : s.size ≤ k) : rem s k = [] := by
  unfold rem; rw [List.drop_eq_nil_of_le (by simpa using h)]; rfl
theorem rem_cons {s : ByteArray} {k : Nat} (h : k < s.size) : rem s k = s[k].toNat :: rem s (k + 1) := by
  unfold rem
  have h' : k < s.data.toList.length := by simpa using h
  rw [List.drop_eq_getElem_cons h']; rfl
theorem rem_tail (s : ByteArray) (k : Nat) : (rem s k).tail = rem s (k + 1) := by
  unfold rem; rw [← List.map_tail, List.tail_drop]
theorem rem_drop (s : ByteArray) (k n : Nat) : (rem s k).drop n = rem s (k + n) := by
  unfold rem; rw [← List.map_drop, List.drop_drop]
theorem rem_len (s : ByteArray) (k : Nat) : (rem s k).length = s.size - k := by unfold rem; simp
end Go.Proofs.Ytgkhhfojioepgaa
namespace Go.Proofs.Ytgkhhfojioepgaa
open Go.RowKit
set_option linter.unusedSimpArgs false
set_option linter.unusedVariables false

theorem u64_wrap (n m : Nat) (h : n % 18446744073709551616 = m) : IntKind.u64.wrap (n : Int) = (m : Int) := by rw [IntKind.wrap_u64]; omega
theorem u64_self (n : Nat) (h : n < 18446744073709551616) : IntKind.u64.wrap (n : Int) = (n : Int) := u64_wrap n n (Nat.mod_eq_of_lt h)
theorem u64_sub (a b c : Nat) (h : (c + b) % 18446744073709551616 = a % 18446744073709551616) (hc : c < 18446744073709551616) : IntKind.u64.wrap ((a : Int) - (b : Int)) = (c : Int) := by rw [IntKind.wrap_u64]; omega

/-- What the shifts are. -/
theorem shifted (y L : Nat) (h1 : 2 ^ (L - 1) ≤ y) (h2 : y < 2 ^ L) (hL : 1 ≤ L) (h64 : L ≤ 64) :
    9223372036854775808 ≤ y * 2 ^ (64 - L) ∧ y * 2 ^ (64 - L) < 18446744073709551616 := by
  have e1 : (2 : Nat) ^ (L - 1) * 2 ^ (64 - L) = 9223372036854775808 := by rw [← Nat.pow_add, show L - 1 + (64 - L) = 63 by omega]
  have e2 : (2 : Nat) ^ L * 2 ^ (64 - L) = 18446744073709551616 := by rw [← Nat.pow_add, show L + (64 - L) = 64 by omega]
  have hp : 0 < 2 ^ (64 - L) := Nat.two_pow_pos _
  constructor
  · rw [← e1]; exact Nat.mul_le_mul_right _ h1
  · rw [← e2]; exact Nat.mul_lt_mul_of_pos_right h2 hp

theorem parted (lo L : Nat) (hl : lo < 18446744073709551616) (hL : 1 ≤ L) (h64 : L ≤ 64) :
    lo / 2 ^ L < 2 ^ (64 - L) ∧ lo * 2 ^ (64 - L) = lo / 2 ^ L * 18446744073709551616 + lo * 2 ^ (64 - L) % 18446744073709551616 := by
  have e2 : (2 : Nat) ^ (64 - L) * 2 ^ L = 18446744073709551616 := by rw [← Nat.pow_add, show 64 - L + L = 64 by omega]
  have hp : 0 < 2 ^ (64 - L) := Nat.two_pow_pos _
  constructor
  · rw [Nat.div_lt_iff_lt_mul (Nat.two_pow_pos _), e2]; exact hl
  · have : lo * 2 ^ (64 - L) / 18446744073709551616 = lo / 2 ^ L := by
      rw [← e2, Nat.mul_comm (2 ^ (64 - L)) (2 ^ L)]; exact Nat.mul_div_mul_right _ _ hp
    have hm := Nat.div_add_mod (lo * 2 ^ (64 - L)) 18446744073709551616
    rw [this] at hm
    omega

theorem or_add (a t s : Nat) (ha : a * 2 ^ s < 18446744073709551616) (ht : t < 2 ^ s) (hs : s ≤ 63) : bits .or .u64 ((a * 2 ^ s : Nat) : Int) (t : Int) = ((a * 2 ^ s + t : Nat) : Int) := by
  have hb : t < 18446744073709551616 := Nat.lt_of_lt_of_le ht (by
    have : (2 : Nat) ^ s ≤ 2 ^ 63 := Nat.pow_le_pow_right (by decide) hs
    omega)
  rw [u64_or_nat _ _ ha hb]
  rw [nat_join s _ _ (Nat.mul_mod_left _ _) ht]

theorem mask32 (n : Nat) (h : n < 18446744073709551616) : bits .and .u64 (n : Int) 4294967295 = ((n % 4294967296 : Nat) : Int) := by
  have := u64_and_nat n 4294967295 h (by decide)
  rw [nat_mask32] at this
  exact this
theorem cast_two_pow_mul (a s : Nat) : ((a * 2 ^ s : Nat) : Int) = (a : Int) * 2 ^ s := by push_cast; rfl
theorem cast_div_two_pow (a s : Nat) : (a : Int) / 2 ^ s = ((a / 2 ^ s : Nat) : Int) := by push_cast; rfl

theorem digits_of (Q1 U d1 Y : Nat) (hY : Y < 18446744073709551616) (hU : U < Y) (hd : d1 < 4294967296) (hq : (U * 4294967296 + d1) / Y = Q1) :
    Q1 < 4294967296 ∧ U * 4294967296 + d1 = Q1 * Y + (U * 4294967296 + d1) % Y ∧ (U * 4294967296 + d1) % Y < Y := by
  have hm := Nat.div_add_mod (U * 4294967296 + d1) Y
  have hl := Nat.mod_lt (U * 4294967296 + d1) (show 0 < Y by omega)
  rw [hq, Nat.mul_comm] at hm
  refine ⟨?_, by omega, hl⟩
  rw [← hq, Nat.div_lt_iff_lt_mul (by omega)]
  omega

set_option maxHeartbeats 800000 in
theorem div64_any (hi lo y : Nat) (w : World) (hy : hi < y) (hy2 : y < 18446744073709551616) (hl : lo < 18446744073709551616) :
    Calls Try.prog 154 #[.int .u64 hi, .int .u64 lo, .int .u64 y] w fun e w' => e = .returned (.tuple #[.int .u64 ((hi * 18446744073709551616 + lo) / y : Nat), .int .u64 ((hi * 18446744073709551616 + lo) % y : Nat)]) ∧ w.grownBy w' none := by
  rcases Nat.eq_zero_or_pos hi with h0 | hpos
  · subst h0
    have hb : ((y : Int) == 0) = false := by simp; omega
    have hq : (lo / y) % 18446744073709551616 = lo / y := Nat.mod_eq_of_lt (Nat.lt_of_le_of_lt (Nat.div_le_self _ _) hl)
    have eq : IntKind.u64.wrap ((lo : Int) / (y : Int)) = ((lo / y : Nat) : Int) := by rw [← Int.natCast_ediv]; exact u64_wrap _ _ hq
    clear hq
    go_enter Try.func154, Try.ntmps154
    go_wp2
    go_quiet (fail)
    go_wp2
    go_ret2
    refine ⟨ret_uu ?_ ?_, grown_drewN _ _ _⟩
    · simp
    · simp
  · obtain ⟨L, hLd⟩ : ∃ L, L = Lib.bitLen y := ⟨_, rfl⟩
    have hbd := Lib.bitLenAux_bounds 64 y hy2 (by omega)
    have hL64 : L ≤ 64 := by rw [hLd]; exact Lib.bitLen_le y 64 (by omega) (by omega)
    rw [show Lib.bitLenAux 64 y = L from hLd.symm] at hbd
    obtain ⟨hL1, hlo2, hhi2⟩ := hbd
    obtain ⟨hY1, hY2⟩ := shifted y L hlo2 hhi2 hL1 hL64
    obtain ⟨hT, hN⟩ := parted lo L hl hL1 hL64
    have hlz : ∀ w, Calls Try.prog 182 #[.int .u64 y] w fun e w' => e = .returned (.int .i64 ((64 - L : Nat) : Int)) ∧ w = w' := by
      intro w
      refine (Try.bits_LeadingZeros64 y w (by omega) (by omega)).mono ?_
      rintro e w' ⟨h1, h2⟩
      refine ⟨?_, h2.symm⟩
      rw [h1, Int.toNat_natCast, ← hLd]
      exact ret_int (by omega)
    obtain ⟨s, hs⟩ : ∃ s, s = 64 - L := ⟨_, rfl⟩
    have hsL : 64 - s = L := by omega
    rw [← hs] at hY1 hY2 hT hN hlz
    have hp : 0 < 2 ^ s := Nat.two_pow_pos _
    obtain ⟨Y, hY⟩ : ∃ Y, Y = y * 2 ^ s := ⟨_, rfl⟩
    obtain ⟨T, hTd⟩ : ∃ T, T = lo / 2 ^ L := ⟨_, rfl⟩
    obtain ⟨N, hNd⟩ : ∃ N, N = lo * 2 ^ s % 18446744073709551616 := ⟨_, rfl⟩
    have hU : hi * 2 ^ s + T < Y := by
      have : (hi + 1) * 2 ^ s ≤ y * 2 ^ s := Nat.mul_le_mul_right _ hy
      rw [Nat.add_mul] at this
      omega
    have hM : (hi * 18446744073709551616 + lo) * 2 ^ s = (hi * 2 ^ s + T) * 18446744073709551616 + N := by
      rw [Nat.add_mul, Nat.mul_right_comm, hN, ← hTd, ← hNd]; omega
    have hN64 : N < 18446744073709551616 := by rw [hNd]; exact Nat.mod_lt _ (by decide)
    have hH : hi * 2 ^ s < 18446744073709551616 := by omega
    have hor := or_add hi T s hH (by rw [hTd]; exact hT) (by omega)
    have hdiv := div_shift (hi * 18446744073709551616 + lo) y s (by omega)
    rw [hM, ← hY] at hdiv
    obtain ⟨U, hUd⟩ : ∃ U, U = hi * 2 ^ s + T := ⟨_, rfl⟩
    rw [← hUd] at hU hM hor hdiv
    rw [← hY] at hY1 hY2
    have hsp : U * 18446744073709551616 + N = (U * 4294967296 + N / 4294967296) * 4294967296 + N % 4294967296 := by omega
    obtain ⟨g1, g2, g3⟩ := digits_of _ U (N / 4294967296) Y hY2 hU (by omega) rfl
    obtain ⟨Q1, hQ1⟩ : ∃ Q, Q = (U * 4294967296 + N / 4294967296) / Y := ⟨_, rfl⟩
    obtain ⟨U2, hU2⟩ : ∃ Q, Q = (U * 4294967296 + N / 4294967296) % Y := ⟨_, rfl⟩
    rw [← hQ1] at g1 g2
    rw [← hU2] at g2 g3
    obtain ⟨k1, k2, k3⟩ := digits_of _ U2 (N % 4294967296) Y hY2 g3 (by omega) rfl
    obtain ⟨Q2, hQ2⟩ : ∃ Q, Q = (U2 * 4294967296 + N % 4294967296) / Y := ⟨_, rfl⟩
    obtain ⟨R2, hR2⟩ : ∃ Q, Q = (U2 * 4294967296 + N % 4294967296) % Y := ⟨_, rfl⟩
    rw [← hQ2] at k1 k2
    rw [← hR2] at k2 k3
    have htwo := div_two Y (U * 4294967296 + N / 4294967296) (N % 4294967296) (by omega)
    rw [← hsp, ← hQ1, ← hU2, ← hQ2, ← hR2] at htwo
    rw [htwo.1, htwo.2] at hdiv
    have hys : Y = Y / 4294967296 * 4294967296 + Y % 4294967296 := by omega
    have hst1 := div_start (Y / 4294967296) (Y % 4294967296) U (N / 4294967296) (by omega) (by omega) (by omega) (by omega)
    have hst2 := div_start (Y / 4294967296) (Y % 4294967296) U2 (N % 4294967296) (by omega) (by omega) (by omega) (by omega)
    have m1 : U / (Y / 4294967296) * (Y / 4294967296) ≤ U := Nat.div_mul_le_self _ _
    have m2 : U2 / (Y / 4294967296) * (Y / 4294967296) ≤ U2 := Nat.div_mul_le_self _ _
    have n1 : U / (Y / 4294967296) ≤ U := Nat.div_le_self _ _
    have n2 : U2 / (Y / 4294967296) ≤ U2 := Nat.div_le_self _ _
    rw [← hdiv.1, ← hdiv.2]
    refine (div_core hi lo y s Y (Y / 4294967296) (Y % 4294967296) (hi * 2 ^ s) U N (N / 4294967296) (N % 4294967296) (U / (Y / 4294967296)) (U / (Y / 4294967296) * (Y / 4294967296)) (U - U / (Y / 4294967296) * (Y / 4294967296)) Q1
      (U * 4294967296 % 18446744073709551616) ((U * 4294967296 % 18446744073709551616 + N / 4294967296) % 18446744073709551616) (Q1 * Y % 18446744073709551616) U2
      (U2 / (Y / 4294967296)) (U2 / (Y / 4294967296) * (Y / 4294967296)) (U2 - U2 / (Y / 4294967296) * (Y / 4294967296)) Q2 (Q1 * 4294967296) (Q1 * 4294967296 + Q2)
      (U2 * 4294967296 % 18446744073709551616) ((U2 * 4294967296 % 18446744073709551616 + N % 4294967296) % 18446744073709551616) (Q2 * Y % 18446744073709551616) R2 (R2 / 2 ^ s) w hpos hy hlz (hs63 := ?hs63) (eY := ?eY) (e1 := ?e1) (e0 := ?e0) (eH := ?eH) (eN := ?eN) (eU := ?eU) (eN1 := ?eN1) (eN0 := ?eN0) (hyy1 := ?hyy1) (hyy0 := ?hyy0) (hd1 := ?hd1) (hd0 := ?hd0) (hy1 := ?hy1) (hUY := ?hUY) (eq0 := ?eq0) (ep0 := ?ep0) (er0 := ?er0) (eA := ?eA) (eB := ?eB) (eC := ?eC) (eD := ?eD) (eq2 := ?eq2) (ep2 := ?ep2) (er2 := ?er2) (eF := ?eF) (eG := ?eG) (eA2 := ?eA2) (eB2 := ?eB2) (eC2 := ?eC2) (eD2 := ?eD2) (eE := ?eE) (hUY2 := ?hUY2) (hi2 := ?hi2) (hr2 := ?hr2) (HQ2 := ?HQ2) (hi1 := ?hi1) (hr0 := ?hr0) (HQ1 := ?HQ1)).mono ?_
    case hs63 => omega
    case eY => rw [← cast_two_pow_mul y s, ← hY]; exact u64_self _ hY2
    case e1 => exact (Int.natCast_ediv _ _).symm
    case e0 => exact mask32 _ hY2
    case eH => rw [← cast_two_pow_mul]; exact u64_self _ hH
    case eN => rw [← cast_two_pow_mul, hNd]; exact u64_wrap _ _ rfl
    case eU => rw [hsL, cast_div_two_pow, ← hTd]; exact hor
    case eN1 => exact (Int.natCast_ediv _ _).symm
    case eN0 => exact mask32 _ hN64
    case hyy1 => omega
    case hyy0 => omega
    case hd1 => omega
    case hd0 => omega
    case hy1 => omega
    case hUY => omega
    case eq0 => rw [← Int.natCast_ediv]; exact u64_self _ (by omega)
    case ep0 => rw [← Int.natCast_mul]; exact u64_self _ (by omega)
    case er0 => exact u64_sub _ _ _ (by omega) (by omega)
    case eA => exact u64_wrap (U * 4294967296) _ rfl
    case eB => exact u64_wrap (U * 4294967296 % 18446744073709551616 + N / 4294967296) _ rfl
    case eC => rw [← Int.natCast_mul]; exact u64_wrap _ _ rfl
    case eD => exact u64_sub _ _ _ (by omega) (by omega)
    case eq2 => rw [← Int.natCast_ediv]; exact u64_self _ (by omega)
    case ep2 => rw [← Int.natCast_mul]; exact u64_self _ (by omega)
    case er2 => exact u64_sub _ _ _ (by omega) (by omega)
    case eF => exact u64_self (Q1 * 4294967296) (by omega)
    case eG => exact u64_self (Q1 * 4294967296 + Q2) (by omega)
    case eA2 => exact u64_wrap (U2 * 4294967296) _ rfl
    case eB2 => exact u64_wrap (U2 * 4294967296 % 18446744073709551616 + N % 4294967296) _ rfl
    case eC2 => rw [← Int.natCast_mul]; exact u64_wrap _ _ rfl
    case eD2 => exact u64_sub _ _ _ (by omega) (by omega)
    case eE => exact cast_div_two_pow _ _
    case hUY2 => omega
    case hi2 => exact hst2.1
    case hr2 => omega
    case HQ2 => show _ = _; rw [← hys]; exact hQ2.symm
    case hi1 => exact hst1.1
    case hr0 => omega
    case HQ1 => show _ = _; rw [← hys]; exact hQ1.symm
    rintro e w' ⟨h1, rfl⟩
    exact ⟨h1, grown_refl _ _⟩
end Go.Proofs.Ytgkhhfojioepgaa
/- Rounded quotients: as the program rounds (up from the whole number below), and as the other way has it (without a sign first). No program. -/
namespace Go.Proofs.Ytgkhhfojioepgaa
set_option linter.unusedSimpArgs false
set_option linter.unusedVariables false
def big : Int := 4611686018427387904

/-- Is the whole number above q taken? n = q * d + r. -/
def upB (how q r d : Int) : Bool :=
  if how = 1 then false
  else if how = 2 then decide (0 < r)
  else if how = 3 then decide (0 < r) && decide (q < 0)
  else if how = 4 then decide (d - r ≤ r)
  else decide (d - r < r) || (decide (r = d - r) && decide (q % 2 = 1))

def rndV (how n d : Int) : Int := n / d + (if upB how (n / d) (n % d) d then 1 else 0)

def scaleV (a num den how : Int) : Int × Int :=
  if how < 1 ∨ 5 < how then (0, 7)
  else if den < 1 ∨ num < 0 then (0, 1)
  else if rndV how (a * num) den < -big ∨ big < rndV how (a * num) den then (0, 9)
  else (rndV how (a * num) den, 0)

theorem neg_div_of (N d : Int) (hd : 0 < d) (h : N % d = 0) : -N / d = -(N / d) ∧ -N % d = 0 := by
  have hm := Int.mul_ediv_add_emod N d
  have e : -N = d * (-(N / d)) := by rw [Int.mul_neg]; omega
  constructor
  · rw [e, Int.mul_ediv_cancel_left _ (by omega)]
    
  · rw [e]; exact Int.mul_emod_right _ _

theorem neg_div_of' (N d : Int) (hd : 0 < d) (h : N % d ≠ 0) : -N / d = -(N / d) - 1 ∧ -N % d = d - N % d := by
  have hm := Int.mul_ediv_add_emod N d
  have h1 := Int.emod_nonneg N (show d ≠ 0 by omega)
  have h2 := Int.emod_lt_of_pos N hd
  have e : -N = (d - N % d) + d * (-(N / d) - 1) := by
    rw [Int.mul_sub, Int.mul_neg]; omega
  constructor
  · rw [e, Int.add_mul_ediv_left _ _ (by omega), Int.ediv_eq_zero_of_lt (by omega) (by omega)]; omega
  · rw [e, Int.add_mul_emod_self_left, Int.emod_eq_of_lt (by omega) (by omega)]

theorem rnd_near (how n d : Int) : n / d ≤ rndV how n d ∧ rndV how n d ≤ n / d + 1 := by
  unfold rndV; split <;> omega

theorem up_zero (how q d : Int) (hd : 0 < d) : upB how q 0 d = false := by
  unfold upB
  repeat' split
  all_goals simp
  all_goals omega

/-- A quotient too great is no result, however rounded. -/
theorem scale_no (a num den how : Int) (h1 : 1 ≤ how) (h5 : how ≤ 5) (hd : 1 ≤ den) (hn : 0 ≤ num) (hb : big < (a.natAbs * num) / den) : scaleV a num den how = (0, 9) := by
  unfold scaleV
  rw [if_neg (by omega), if_neg (by omega), if_pos]
  have hr := rnd_near how (a * num) den
  rcases (show a < 0 ∨ 0 ≤ a by omega) with ha | ha
  · left
    have en : (a.natAbs : Int) = -a := by omega
    have e : a * num = -((a.natAbs : Int) * num) := by rw [en, Int.neg_mul, Int.neg_neg]
    rw [e] at hr ⊢
    generalize (a.natAbs : Int) * num = N at *
    unfold rndV at hr ⊢
    by_cases hz : N % den = 0
    · obtain ⟨e1, e2⟩ := neg_div_of N den (by omega) hz
      rw [e1, e2, up_zero _ _ _ (by omega)]
      simp; omega
    · obtain ⟨e1, e2⟩ := neg_div_of' N den (by omega) hz
      rw [e1]; split <;> omega
  · right
    have e : (a.natAbs : Int) = a := by omega
    rw [e] at hb
    omega

/-- The other way of it: without a sign, and rounded up if it is to be. -/
def moreB (quo rest den : Int) (minus : Bool) (how : Int) : Bool :=
  if rest = 0 then false
  else if how = 1 then minus
  else if how = 2 then !minus
  else if how = 3 then false
  else if rest = den - rest then (if how = 4 then !minus else decide (quo % 2 = 1))
  else decide (den - rest < rest)

theorem more_pos (how q r d : Int) (h1 : 1 ≤ how) (h5 : how ≤ 5) (hq : 0 ≤ q) (h0 : 0 ≤ r) (hr : r < d) : upB how q r d = moreB q r d false how := by
  unfold upB moreB
  by_cases c0 : r = 0
  · subst c0; repeat' split
    all_goals (simp; try omega)
  rcases (show how = 1 ∨ how = 2 ∨ how = 3 ∨ how = 4 ∨ how = 5 by omega) with rfl | rfl | rfl | rfl | rfl
  · simp [c0]
  · simp [c0]; omega
  · simp [c0]; omega
  · simp [c0]; rw [Bool.eq_iff_iff]; simp; omega
  · by_cases c : r = d - r
    · have c' : ¬ d - r < r := by omega
      simp [c0, ← c]
    · simp [c0, if_neg c]; intro h; omega

theorem more_neg (how q r d : Int) (h1 : 1 ≤ how) (h5 : how ≤ 5) (hq : 0 ≤ q) (h0 : 0 < r) (hr : r < d) : upB how (-q - 1) (d - r) d = !moreB q r d true how := by
  unfold upB moreB
  have c0 : r ≠ 0 := by omega
  rcases (show how = 1 ∨ how = 2 ∨ how = 3 ∨ how = 4 ∨ how = 5 by omega) with rfl | rfl | rfl | rfl | rfl
  · simp [c0]
  · simp [c0]; omega
  · simp [c0]; omega
  · simp [c0]; rw [Bool.eq_iff_iff]; simp; omega
  · by_cases c : r = d - r
    · simp [c0]; rw [if_pos c]; rw [Bool.eq_iff_iff]; simp; omega
    · simp [c0]; rw [if_neg c]; rw [Bool.eq_iff_iff]; simp; omega

def quoV (a num den how : Int) : Int :=
  (a.natAbs * num) / den + (if moreB ((a.natAbs * num) / den) ((a.natAbs * num) % den) den (decide (a < 0)) how then 1 else 0)

theorem scale_ref (a num den how : Int) (h1 : 1 ≤ how) (h5 : how ≤ 5) (hd : 1 ≤ den) (hn : 0 ≤ num) :
    scaleV a num den how = if big < quoV a num den how then (0, 9) else ((if a < 0 then -quoV a num den how else quoV a num den how), 0) := by
  have key : rndV how (a * num) den = (if a < 0 then -quoV a num den how else quoV a num den how) ∧ 0 ≤ quoV a num den how := by
    rcases (show a < 0 ∨ 0 ≤ a by omega) with ha | ha
    · have en : (a.natAbs : Int) = -a := by omega
      have e : a * num = -((a.natAbs : Int) * num) := by rw [en, Int.neg_mul, Int.neg_neg]
      have hN : 0 ≤ (a.natAbs : Int) * num := Int.mul_nonneg (by omega) hn
      rw [e, if_pos ha]
      unfold quoV
      generalize (a.natAbs : Int) * num = N at *
      have hq : 0 ≤ N / den := Int.ediv_nonneg hN (by omega)
      have hr0 := Int.emod_nonneg N (show den ≠ 0 by omega)
      have hr1 := Int.emod_lt_of_pos N (show 0 < den by omega)
      rw [decide_eq_true ha]
      unfold rndV
      by_cases hz : N % den = 0
      · obtain ⟨e1, e2⟩ := neg_div_of N den (by omega) hz
        rw [e1, e2, up_zero _ _ _ (by omega), hz]
        simp [moreB]; omega
      · obtain ⟨e1, e2⟩ := neg_div_of' N den (by omega) hz
        rw [e1, e2, more_neg how _ _ _ h1 h5 hq (by omega) hr1]
        cases moreB (N / den) (N % den) den true how <;> simp <;> omega
    · have e : (a.natAbs : Int) = a := by omega
      have hN : 0 ≤ a * num := Int.mul_nonneg (by omega) hn
      unfold quoV
      rw [e, if_neg (by omega), decide_eq_false (by omega)]
      generalize a * num = N at *
      have hq : 0 ≤ N / den := Int.ediv_nonneg hN (by omega)
      have hr0 := Int.emod_nonneg N (show den ≠ 0 by omega)
      have hr1 := Int.emod_lt_of_pos N (show 0 < den by omega)
      unfold rndV
      rw [more_pos how _ _ _ h1 h5 hq hr0 hr1]
      exact ⟨rfl, by split <;> omega⟩
  unfold scaleV
  obtain ⟨k1, k2⟩ := key
  rw [if_neg (by omega), if_neg (by omega), k1]
  unfold big at *
  split <;> split <;> split <;> first | rfl | omega | (exfalso; omega)

end Go.Proofs.Ytgkhhfojioepgaa
namespace Go.Proofs.Ytgkhhfojioepgaa
open Go.RowKit
set_option linter.unusedSimpArgs false
set_option linter.unusedVariables false

theorem back (M num : Nat) : M * num / 18446744073709551616 * 18446744073709551616 + M * num % 18446744073709551616 = M * num := by omega

/-- The quotient without a sign, from the product on. -/
theorem mul_any (x y : Nat) (hx : x < 18446744073709551616) (hy : y < 18446744073709551616) (w : World) {H L : Nat} (hH : Hid (x * y / 18446744073709551616 = H)) (hL : Hid (x * y % 18446744073709551616 = L)) :
    Calls Try.prog 152 #[.int .u64 x, .int .u64 y] w fun e w' => e = .returned (.tuple #[.int .u64 H, .int .u64 L]) ∧ w = w' := by
  refine (Try.bits_Mul64 x y hx hy w).mono ?_
  rintro e w' ⟨h1, h2⟩
  exact ⟨by rw [h1, hH.out, hL.out], h2.symm⟩
theorem div_any {hi lo y : Nat} (w : World) (hy : hi < y) (hy2 : y < 18446744073709551616) (hl : lo < 18446744073709551616) {Q R : Nat} (hQ : Hid ((hi * 18446744073709551616 + lo) / y = Q)) (hR : Hid ((hi * 18446744073709551616 + lo) % y = R)) :
    Calls Try.prog 154 #[.int .u64 hi, .int .u64 lo, .int .u64 y] w fun e w' => e = .returned (.tuple #[.int .u64 Q, .int .u64 R]) ∧ w.grownBy w' none := by
  refine (div64_any hi lo y w hy hy2 hl).mono ?_
  rintro e w' ⟨h1, h2⟩
  exact ⟨by rw [h1, hQ.out, hR.out], h2⟩


theorem neg_wrap (a : Int) (M : Nat) (hM : M = a.natAbs) (ha : a < 0) (ha0 : -9223372036854775808 ≤ a) : IntKind.u64.wrap a = (((18446744073709551616 - M : Nat) : Nat) : Int) ∧ IntKind.u64.wrap (-(((18446744073709551616 - M : Nat) : Nat) : Int)) = (M : Int) := by
  rw [IntKind.wrap_u64, IntKind.wrap_u64]; omega

def TooBig (M num den : Nat) : Prop := 4611686018427387904 < M * num / den

set_option maxHeartbeats 1600000 in
theorem quot_no (a : Int) (num den : Nat) (ha0 : -9223372036854775808 ≤ a) (ha1 : a ≤ 9223372036854775807) (hn : num ≤ 9223372036854775807) (hd0 : 1 ≤ den) (hd1 : den ≤ 9223372036854775807) (hbig : TooBig a.natAbs num den) (w : World) :
    Calls Try.prog 149 #[.int .i64 a, .int .u64 num, .int .u64 den] w fun e w' => (e = .returned (.tuple #[.int .i64 0, .int .u64 0, .bool false])) ∧ w.grownBy w' none := by
  obtain ⟨M, hM⟩ : ∃ M, M = a.natAbs := ⟨_, rfl⟩
  obtain ⟨H, hH⟩ : ∃ H, M * num / 18446744073709551616 = H := ⟨_, rfl⟩
  obtain ⟨L, hL⟩ : ∃ H, M * num % 18446744073709551616 = H := ⟨_, rfl⟩
  have hM64 : M ≤ 9223372036854775808 := by omega
  have hL64 : L < 18446744073709551616 := by rw [← hL]; exact Nat.mod_lt _ (by decide)
  have hback := back M num
  rw [hH, hL] at hback
  rw [← hM] at hbig
  obtain ⟨Q, hQ⟩ : ∃ Q, (H * 18446744073709551616 + L) / den = Q := ⟨_, rfl⟩
  obtain ⟨R, hR⟩ : ∃ Q, (H * 18446744073709551616 + L) % den = Q := ⟨_, rfl⟩
  have hQb : 4611686018427387904 < Q := by unfold TooBig at hbig; rw [← hback, hQ] at hbig; exact hbig
  have hQi : (4611686018427387904 : Int) < (Q : Int) := by omega
  have HH := Lib.hid hH; have HL := Lib.hid hL; have HB := Lib.hid hback; have HQ := Lib.hid hQ; have HR := Lib.hid hR; have HM := Lib.hid hM; have HBIG := Lib.hid hbig
  clear hH hL hback hQ hR hQb hbig
  by_cases hhd : (den : Int) ≤ (H : Int)
  · by_cases hneg : a < 0
    · obtain ⟨e1, e2⟩ := neg_wrap a M hM hneg ha0
      obtain ⟨A1, hA1⟩ : ∃ A1, 18446744073709551616 - M = A1 := ⟨_, rfl⟩
      rw [hA1] at e1 e2
      clear hA1 hM
      go_enter Try.func149, Try.ntmps149
      go_wp2_with (go_at_call 152; refine (mul_any M num (by omega) (by omega) _ HH HL).mono ?_; rintro e w1 ⟨rfl, rfl⟩)
      go_ret3
      exact ⟨rfl, grown_refl _ _⟩
    · obtain rfl : a = (M : Int) := by omega
      clear hM
      go_enter Try.func149, Try.ntmps149
      go_wp2_with (go_at_call 152; refine (mul_any M num (by omega) (by omega) _ HH HL).mono ?_; rintro e w1 ⟨rfl, rfl⟩)
      go_ret3
      exact ⟨rfl, grown_refl _ _⟩
  · by_cases hneg : a < 0
    · obtain ⟨e1, e2⟩ := neg_wrap a M hM hneg ha0
      obtain ⟨A1, hA1⟩ : ∃ A1, 18446744073709551616 - M = A1 := ⟨_, rfl⟩
      rw [hA1] at e1 e2
      clear hA1 hM
      go_enter Try.func149, Try.ntmps149
      go_wp2_with (first | (go_at_call 152; refine (mul_any M num (by omega) (by omega) _ HH HL).mono ?_; rintro e w1 ⟨rfl, rfl⟩) | (go_at_call 154; refine (div_any _ (by omega) (by omega) hL64 HQ HR).mono ?_; rintro e w2 ⟨rfl, hg⟩))
      go_ret3
      exact ⟨rfl, by assumption⟩
    · obtain rfl : a = (M : Int) := by omega
      clear hM
      go_enter Try.func149, Try.ntmps149
      go_wp2_with (first | (go_at_call 152; refine (mul_any M num (by omega) (by omega) _ HH HL).mono ?_; rintro e w1 ⟨rfl, rfl⟩) | (go_at_call 154; refine (div_any _ (by omega) (by omega) hL64 HQ HR).mono ?_; rintro e w2 ⟨rfl, hg⟩))
      go_ret3
      exact ⟨rfl, by assumption⟩

theorem ret_iub {a b c d : Int} {x y : Bool} (h : a = b) (h' : c = d) (h'' : x = y) : Ending.returned (.tuple #[.int .i64 a, .int .u64 c, .bool x]) = .returned (.tuple #[.int .i64 b, .int .u64 d, .bool y]) := by rw [h, h', h'']

set_option maxHeartbeats 1600000 in
theorem quot_yes (a : Int) (num den : Nat) (ha0 : -9223372036854775808 ≤ a) (ha1 : a ≤ 9223372036854775807) (hn : num ≤ 9223372036854775807) (hd0 : 1 ≤ den) (hd1 : den ≤ 9223372036854775807) (hbig : ¬ TooBig a.natAbs num den) (w : World) :
    Calls Try.prog 149 #[.int .i64 a, .int .u64 num, .int .u64 den] w fun e w' => (e = .returned (.tuple #[.int .i64 (a * num / den), .int .u64 (a * num % den), .bool true])) ∧ w.grownBy w' none := by
  obtain ⟨M, hM⟩ : ∃ M, M = a.natAbs := ⟨_, rfl⟩
  obtain ⟨H, hH⟩ : ∃ H, M * num / 18446744073709551616 = H := ⟨_, rfl⟩
  obtain ⟨L, hL⟩ : ∃ H, M * num % 18446744073709551616 = H := ⟨_, rfl⟩
  have hM64 : M ≤ 9223372036854775808 := by omega
  have hL64 : L < 18446744073709551616 := by rw [← hL]; exact Nat.mod_lt _ (by decide)
  have hback := back M num
  rw [hH, hL] at hback
  rw [← hM] at hbig
  obtain ⟨Q, hQ⟩ : ∃ Q, (H * 18446744073709551616 + L) / den = Q := ⟨_, rfl⟩
  obtain ⟨R, hR⟩ : ∃ Q, (H * 18446744073709551616 + L) % den = Q := ⟨_, rfl⟩
  have hQ' := hQ
  have hR' := hR
  rw [hback] at hQ' hR'
  have hQb : Q ≤ 4611686018427387904 := by unfold TooBig at hbig; rw [hQ'] at hbig; omega
  have hQi : (Q : Int) ≤ 4611686018427387904 := by omega
  have hRd : R < den := by rw [← hR]; exact Nat.mod_lt _ hd0
  have hHd : H < den := by
    rcases Nat.lt_or_ge H den with h | h
    · exact h
    · exfalso
      have h1 : den * 18446744073709551616 ≤ M * num := by omega
      have h2 : 18446744073709551616 ≤ M * num / den := by rw [Nat.le_div_iff_mul_le (by omega), Nat.mul_comm]; exact h1
      omega
  have hHi : (H : Int) < (den : Int) := by omega
  have hcast : ((M * num : Nat) : Int) = (M : Int) * (num : Int) := by push_cast; rfl
  have hq : ((M : Int) * (num : Int)) / (den : Int) = (Q : Int) := by rw [← hcast, ← Int.natCast_ediv, hQ']
  have hr : ((M : Int) * (num : Int)) % (den : Int) = (R : Int) := by rw [← hcast, ← Int.natCast_emod, hR']
  have HH := Lib.hid hH; have HL := Lib.hid hL; have HQ := Lib.hid hQ; have HR := Lib.hid hR
  have Hq := Lib.hid hq; have Hr := Lib.hid hr
  clear hH hL hback hQ hR hQb hbig hQ' hR' hcast hq hr
  by_cases hneg : a < 0
  · obtain ⟨e1, e2⟩ := neg_wrap a M hM hneg ha0
    obtain ⟨A1, hA1⟩ : ∃ A1, 18446744073709551616 - M = A1 := ⟨_, rfl⟩
    rw [hA1] at e1 e2
    have haM : a * (num : Int) = -((M : Int) * (num : Int)) := by
      have : a = -(M : Int) := by omega
      rw [this, Int.neg_mul]
    have HA := Lib.hid haM
    clear hA1 hM haM
    by_cases hz : R = 0
    · subst hz
      have hd := neg_div_of ((M : Int) * (num : Int)) den (by omega) (by rw [Hr.out]; rfl)
      have HD := Lib.hid hd; clear hd
      go_enter Try.func149, Try.ntmps149
      go_wp2_with (first | (go_at_call 152; refine (mul_any M num (by omega) (by omega) _ HH HL).mono ?_; rintro e w1 ⟨rfl, rfl⟩) | (go_at_call 154; refine (div_any _ (by omega) (by omega) hL64 HQ HR).mono ?_; rintro e w2 ⟨rfl, hg⟩))
      go_ret3
      exact ⟨ret_iub (by rw [HA.out, HD.out.1, Hq.out]) (by rw [HA.out, HD.out.2]) rfl, by assumption⟩
    · have hz1 : ((R : Int) == 0) = false := by simp; omega
      have hd := neg_div_of' ((M : Int) * (num : Int)) den (by omega) (by rw [Hr.out]; omega)
      have HD := Lib.hid hd; clear hd
      go_enter Try.func149, Try.ntmps149
      go_wp2_with (first | (go_at_call 152; refine (mul_any M num (by omega) (by omega) _ HH HL).mono ?_; rintro e w1 ⟨rfl, rfl⟩) | (go_at_call 154; refine (div_any _ (by omega) (by omega) hL64 HQ HR).mono ?_; rintro e w2 ⟨rfl, hg⟩))
      go_ret3
      exact ⟨ret_iub (by rw [HA.out, HD.out.1, Hq.out]) (by rw [HA.out, HD.out.2, Hr.out]) rfl, by assumption⟩
  · obtain rfl : a = (M : Int) := by omega
    clear hM
    go_enter Try.func149, Try.ntmps149
    go_wp2_with (first | (go_at_call 152; refine (mul_any M num (by omega) (by omega) _ HH HL).mono ?_; rintro e w1 ⟨rfl, rfl⟩) | (go_at_call 154; refine (div_any _ (by omega) (by omega) hL64 HQ HR).mono ?_; rintro e w2 ⟨rfl, hg⟩))
    go_ret3
    exact ⟨ret_iub (by rw [Hq.out]) (by rw [Hr.out]) rfl, by assumption⟩
end Go.Proofs.Ytgkhhfojioepgaa
namespace Go.Proofs.Ytgkhhfojioepgaa
open Go.RowKit
set_option linter.unusedSimpArgs false
set_option linter.unusedVariables false

theorem roundings_any (w : World) :
    Calls Try.prog 150 #[] w fun e w' => e = .returned (.agg #[.nilFunc, .func (.func 177) #[] #[], .func (.func 178) #[] #[], .func (.func 179) #[] #[], .func (.func 180) #[] #[], .func (.func 181) #[] #[]]) ∧ w.grownBy w' none := by
  go_enter Try.func150, Try.ntmps150
  go_wp2
  exact bodyPost_ret (v := .agg #[.nilFunc, .func (.func 177) #[] #[], .func (.func 178) #[] #[], .func (.func 179) #[] #[], .func (.func 180) #[] #[], .func (.func 181) #[] #[]]) (by simp [results, Try.results150, go_sem]) rfl ⟨rfl, World.grownBy_alloc _ _ _⟩

theorem round1_any (q : Int) (r d : Nat) (w : World) :
    Calls Try.prog 177 #[.int .i64 q, .int .u64 r, .int .u64 d] w fun e w' => e = .returned (.bool (upB 1 q r d)) ∧ w = w' := by
  go_enter Try.func177, Try.ntmps177
  go_wp2
  go_ret
  exact ⟨rfl, rfl⟩
theorem round2_any (q : Int) (r d : Nat) (w : World) :
    Calls Try.prog 178 #[.int .i64 q, .int .u64 r, .int .u64 d] w fun e w' => e = .returned (.bool (upB 2 q r d)) ∧ w = w' := by
  go_enter Try.func178, Try.ntmps178
  go_wp2
  go_ret
  exact ⟨ret_bool (by simp [upB]), rfl⟩
theorem round3_any (q : Int) (r d : Nat) (w : World) :
    Calls Try.prog 179 #[.int .i64 q, .int .u64 r, .int .u64 d] w fun e w' => e = .returned (.bool (upB 3 q r d)) ∧ w = w' := by
  go_enter Try.func179, Try.ntmps179
  go_wp2
  all_goals go_ret
  all_goals exact ⟨ret_bool (by simp [upB, *]), rfl⟩
theorem round4_any (q : Int) (r d : Nat) (hr : (r : Int) ≤ (d : Int)) (hd : (d : Int) ≤ 9223372036854775807) (w : World) :
    Calls Try.prog 180 #[.int .i64 q, .int .u64 r, .int .u64 d] w fun e w' => e = .returned (.bool (upB 4 q r d)) ∧ w = w' := by
  go_enter Try.func180, Try.ntmps180
  go_wp2
  go_ret
  exact ⟨ret_bool (by simp [upB]), rfl⟩
theorem tmod2 (q : Int) : (q.tmod 2 != 0) = decide (q % 2 = 1) := by
  rw [Bool.eq_iff_iff, bne_iff_ne, Ne, ← Int.dvd_iff_tmod_eq_zero, decide_eq_true_iff]; omega
set_option maxHeartbeats 400000 in
theorem round5_any (q : Int) (r d : Nat) (hr : (r : Int) ≤ (d : Int)) (hd : (d : Int) ≤ 9223372036854775807) (w : World) :
    Calls Try.prog 181 #[.int .i64 q, .int .u64 r, .int .u64 d] w fun e w' => e = .returned (.bool (upB 5 q r d)) ∧ w = w' := by
  by_cases h1 : (d : Int) - (r : Int) < (r : Int)
  · go_enter Try.func181, Try.ntmps181
    go_wp2
    go_ret
    exact ⟨ret_bool (by simp [upB, h1]), rfl⟩
  · by_cases h2 : (r : Int) = (d : Int) - (r : Int)
    · have h3 : ((r : Int) == (d : Int) - (r : Int)) = true := by simpa using h2
      have H2 := Lib.hid h2; clear h2
      go_enter Try.func181, Try.ntmps181
      go_wp2
      go_ret
      exact ⟨ret_bool (by rw [tmod2]; simp [upB, ← H2.out]), rfl⟩
    · have h3 : ((r : Int) == (d : Int) - (r : Int)) = false := by simpa using h2
      have H2 := Lib.hid h2; clear h2
      go_enter Try.func181, Try.ntmps181
      go_wp2
      go_ret
      exact ⟨ret_bool (by have := H2.out; simp [upB, h1, this]), rfl⟩

theorem round1_is (q : Int) (r d : Nat) (w : World) {b : Bool} (h : Hid (upB 1 q r d = b)) :
    Calls Try.prog 177 #[.int .i64 q, .int .u64 r, .int .u64 d] w fun e w' => e = .returned (.bool b) ∧ w = w' := by
  have := round1_any q r d w
  rw [h.out] at this; exact this
theorem round2_is (q : Int) (r d : Nat) (w : World) {b : Bool} (h : Hid (upB 2 q r d = b)) :
    Calls Try.prog 178 #[.int .i64 q, .int .u64 r, .int .u64 d] w fun e w' => e = .returned (.bool b) ∧ w = w' := by
  have := round2_any q r d w
  rw [h.out] at this; exact this
theorem round3_is (q : Int) (r d : Nat) (w : World) {b : Bool} (h : Hid (upB 3 q r d = b)) :
    Calls Try.prog 179 #[.int .i64 q, .int .u64 r, .int .u64 d] w fun e w' => e = .returned (.bool b) ∧ w = w' := by
  have := round3_any q r d w
  rw [h.out] at this; exact this
theorem round4_is (q : Int) (r d : Nat) (hr : (r : Int) ≤ (d : Int)) (hd : (d : Int) ≤ 9223372036854775807) (w : World) {b : Bool} (h : Hid (upB 4 q r d = b)) :
    Calls Try.prog 180 #[.int .i64 q, .int .u64 r, .int .u64 d] w fun e w' => e = .returned (.bool b) ∧ w = w' := by
  have := round4_any q r d hr hd w
  rw [h.out] at this; exact this
theorem round5_is (q : Int) (r d : Nat) (hr : (r : Int) ≤ (d : Int)) (hd : (d : Int) ≤ 9223372036854775807) (w : World) {b : Bool} (h : Hid (upB 5 q r d = b)) :
    Calls Try.prog 181 #[.int .i64 q, .int .u64 r, .int .u64 d] w fun e w' => e = .returned (.bool b) ∧ w = w' := by
  have := round5_any q r d hr hd w
  rw [h.out] at this; exact this
theorem pick1 (w : World) : (Instr.index 164 (.agg #[.nilFunc, .func (.func 177) #[] #[], .func (.func 178) #[] #[], .func (.func 179) #[] #[], .func (.func 180) #[] #[], .func (.func 181) #[] #[]]) (.int .i64 1)).run Try.prog w = .ok (.func (.func 177) #[] #[]) w := by kernel_rfl
theorem pick2 (w : World) : (Instr.index 164 (.agg #[.nilFunc, .func (.func 177) #[] #[], .func (.func 178) #[] #[], .func (.func 179) #[] #[], .func (.func 180) #[] #[], .func (.func 181) #[] #[]]) (.int .i64 2)).run Try.prog w = .ok (.func (.func 178) #[] #[]) w := by kernel_rfl
theorem pick3 (w : World) : (Instr.index 164 (.agg #[.nilFunc, .func (.func 177) #[] #[], .func (.func 178) #[] #[], .func (.func 179) #[] #[], .func (.func 180) #[] #[], .func (.func 181) #[] #[]]) (.int .i64 3)).run Try.prog w = .ok (.func (.func 179) #[] #[]) w := by kernel_rfl
theorem pick4 (w : World) : (Instr.index 164 (.agg #[.nilFunc, .func (.func 177) #[] #[], .func (.func 178) #[] #[], .func (.func 179) #[] #[], .func (.func 180) #[] #[], .func (.func 181) #[] #[]]) (.int .i64 4)).run Try.prog w = .ok (.func (.func 180) #[] #[]) w := by kernel_rfl
theorem pick5 (w : World) : (Instr.index 164 (.agg #[.nilFunc, .func (.func 177) #[] #[], .func (.func 178) #[] #[], .func (.func 179) #[] #[], .func (.func 180) #[] #[], .func (.func 181) #[] #[]]) (.int .i64 5)).run Try.prog w = .ok (.func (.func 181) #[] #[]) w := by kernel_rfl

theorem big_is (a : Int) (num den : Nat) : TooBig a.natAbs num den ↔ big < ((a.natAbs : Int) * (num : Int)) / (den : Int) := by
  unfold TooBig big
  rw [← Int.natCast_mul, ← Int.natCast_ediv]; omega

theorem rnd_bd (a : Int) (num den : Nat) (hd : 1 ≤ den) (hb : ¬ TooBig a.natAbs num den) : -4611686018427387905 ≤ a * num / den ∧ a * num / den ≤ 4611686018427387904 := by
  rw [big_is] at hb
  unfold big at hb
  rcases (show a < 0 ∨ 0 ≤ a by omega) with ha | ha
  · have en : (a.natAbs : Int) = -a := by omega
    have e : a * num = -((a.natAbs : Int) * num) := by rw [en, Int.neg_mul, Int.neg_neg]
    have hN : 0 ≤ (a.natAbs : Int) * num := Int.mul_nonneg (by omega) (by omega)
    rw [e]
    generalize (a.natAbs : Int) * num = N at *
    have hq : 0 ≤ N / den := Int.ediv_nonneg hN (by omega)
    by_cases hz : N % den = 0
    · rw [(neg_div_of N den (by omega) hz).1]; omega
    · rw [(neg_div_of' N den (by omega) hz).1]; omega
  · have e : (a.natAbs : Int) = a := by omega
    have hN : 0 ≤ a * num := Int.mul_nonneg (by omega) (by omega)
    rw [e] at hb
    have hq : 0 ≤ a * num / den := Int.ediv_nonneg hN (by omega)
    omega

set_option maxHeartbeats 1600000 in
theorem scale_any (a num den how : Int) (ha0 : -9223372036854775808 ≤ a) (ha1 : a ≤ 9223372036854775807) (hn0 : -9223372036854775808 ≤ num) (hn1 : num ≤ 9223372036854775807) (hd0 : -9223372036854775808 ≤ den) (hd1 : den ≤ 9223372036854775807) (w : World) :
    Calls Try.prog 112 #[.int .i64 a, .int .i64 num, .int .i64 den, .int .i64 how] w fun e w' => e = .returned (.tuple #[.int .i64 (scaleV a num den how).1, .int .i64 (scaleV a num den how).2]) ∧ w.grownBy w' none := by
  by_cases hk : how < 1
  · have hv : scaleV a num den how = (0, 7) := by unfold scaleV; rw [if_pos (.inl hk)]
    have HV := Lib.hid hv; clear hv
    go_enter Try.func112, Try.ntmps112
    go_wp2
    go_ret2
    exact ⟨ret_ii (by rw [HV.out]) (by rw [HV.out]), grown_refl _ _⟩
  by_cases hk5 : 5 < how
  · have hv : scaleV a num den how = (0, 7) := by unfold scaleV; rw [if_pos (.inr hk5)]
    have HV := Lib.hid hv; clear hv
    go_enter Try.func112, Try.ntmps112
    go_wp2
    go_ret2
    exact ⟨ret_ii (by rw [HV.out]) (by rw [HV.out]), grown_refl _ _⟩
  by_cases hdn : den ≤ 0
  · have hv : scaleV a num den how = (0, 1) := by unfold scaleV; rw [if_neg (by omega), if_pos (.inl (by omega))]
    have HV := Lib.hid hv; clear hv
    go_enter Try.func112, Try.ntmps112
    go_wp2
    go_ret2
    exact ⟨ret_ii (by rw [HV.out]) (by rw [HV.out]), grown_refl _ _⟩
  by_cases hnn : num < 0
  · have hv : scaleV a num den how = (0, 1) := by unfold scaleV; rw [if_neg (by omega), if_pos (.inr (by omega))]
    have HV := Lib.hid hv; clear hv
    go_enter Try.func112, Try.ntmps112
    go_wp2
    go_ret2
    exact ⟨ret_ii (by rw [HV.out]) (by rw [HV.out]), grown_refl _ _⟩
  obtain ⟨n, rfl⟩ : ∃ n : Nat, (n : Int) = num := ⟨num.toNat, by omega⟩
  obtain ⟨d, rfl⟩ : ∃ n : Nat, (n : Int) = den := ⟨den.toNat, by omega⟩
  by_cases hbig : TooBig a.natAbs n d
  · have hv : scaleV a n d how = (0, 9) := scale_no a n d how (by omega) (by omega) (by omega) (by omega) ((big_is a n d).1 hbig)
    have HV := Lib.hid hv; clear hv
    have HB := Lib.hid hbig; clear hbig
    go_enter Try.func112, Try.ntmps112
    go_wp2_with (go_at_call 149; refine (quot_no a n d ha0 ha1 (by omega) (by omega) (by omega) HB.out _).mono ?_; rintro e w1 ⟨rfl, hg⟩)
    go_ret2
    exact ⟨ret_ii (by rw [HV.out]) (by rw [HV.out]), by assumption⟩
  have hqb := rnd_bd a n d (by omega) hbig
  obtain ⟨q, hq⟩ : ∃ q, a * n / d = q := ⟨_, rfl⟩
  obtain ⟨r, hr⟩ : ∃ r : Nat, a * n % d = (r : Int) := ⟨(a * n % d).toNat, by have := Int.emod_nonneg (a * n) (show (d : Int) ≠ 0 by omega); omega⟩
  have hrd : (r : Int) < (d : Int) := by rw [← hr]; exact Int.emod_lt_of_pos _ (by omega)
  have hquot := quot_yes a n d ha0 ha1 (by omega) (by omega) (by omega) hbig
  rw [hq] at hqb
  rw [hq, hr] at hquot
  have HQ := Lib.hid hquot; clear hquot hbig
  have i1 := pick1
  have i2 := pick2
  have i3 := pick3
  have i4 := pick4
  have i5 := pick5
  have h15 : how = 1 ∨ how = 2 ∨ how = 3 ∨ how = 4 ∨ how = 5 := by omega
  rcases hu : upB how q r d with _ | _
  · have hv : scaleV a n d how = if q < -big ∨ big < q then (0, 9) else (q, 0) := by
      unfold scaleV rndV; rw [if_neg (by omega), if_neg (by omega), hq, hr, hu]; simp
    have HU := Lib.hid hu; clear hu hq hr
    by_cases hc : q < -4611686018427387904
    · rw [if_pos (by unfold big; omega)] at hv
      have HV := Lib.hid hv; clear hv
      rcases h15 with rfl | rfl | rfl | rfl | rfl
      all_goals
        go_enter Try.func112, Try.ntmps112
        go_wp2_with (first | (go_at_call 149; refine (HQ.out _).mono ?_; rintro e w1 ⟨rfl, hg1⟩) | (go_at_call 150; refine (roundings_any _).mono ?_; rintro e w2 ⟨rfl, hg2⟩) | (go_at_call 177; refine (round1_is q r d _ HU).mono ?_; rintro e w3 ⟨rfl, rfl⟩) | (go_at_call 178; refine (round2_is q r d _ HU).mono ?_; rintro e w3 ⟨rfl, rfl⟩) | (go_at_call 179; refine (round3_is q r d _ HU).mono ?_; rintro e w3 ⟨rfl, rfl⟩) | (go_at_call 180; refine (round4_is q r d (by omega) (by omega) _ HU).mono ?_; rintro e w3 ⟨rfl, rfl⟩) | (go_at_call 181; refine (round5_is q r d (by omega) (by omega) _ HU).mono ?_; rintro e w3 ⟨rfl, rfl⟩))
        all_goals
          go_ret2
          exact ⟨ret_ii (by rw [HV.out]) (by rw [HV.out]), grown_trans (by assumption) (by assumption)⟩
    · rw [if_neg (by unfold big; omega)] at hv
      have HV := Lib.hid hv; clear hv
      rcases h15 with rfl | rfl | rfl | rfl | rfl
      all_goals
        go_enter Try.func112, Try.ntmps112
        go_wp2_with (first | (go_at_call 149; refine (HQ.out _).mono ?_; rintro e w1 ⟨rfl, hg1⟩) | (go_at_call 150; refine (roundings_any _).mono ?_; rintro e w2 ⟨rfl, hg2⟩) | (go_at_call 177; refine (round1_is q r d _ HU).mono ?_; rintro e w3 ⟨rfl, rfl⟩) | (go_at_call 178; refine (round2_is q r d _ HU).mono ?_; rintro e w3 ⟨rfl, rfl⟩) | (go_at_call 179; refine (round3_is q r d _ HU).mono ?_; rintro e w3 ⟨rfl, rfl⟩) | (go_at_call 180; refine (round4_is q r d (by omega) (by omega) _ HU).mono ?_; rintro e w3 ⟨rfl, rfl⟩) | (go_at_call 181; refine (round5_is q r d (by omega) (by omega) _ HU).mono ?_; rintro e w3 ⟨rfl, rfl⟩))
        all_goals
          go_ret2
          exact ⟨ret_ii (by rw [HV.out]) (by rw [HV.out]), grown_trans (by assumption) (by assumption)⟩
  · have hv : scaleV a n d how = if q + 1 < -big ∨ big < q + 1 then (0, 9) else (q + 1, 0) := by
      unfold scaleV rndV; rw [if_neg (by omega), if_neg (by omega), hq, hr, hu]; simp
    have HU := Lib.hid hu; clear hu hq hr
    by_cases hc : 4611686018427387904 < q + 1
    · rw [if_pos (by unfold big; omega)] at hv
      have HV := Lib.hid hv; clear hv
      rcases h15 with rfl | rfl | rfl | rfl | rfl
      all_goals
        go_enter Try.func112, Try.ntmps112
        go_wp2_with (first | (go_at_call 149; refine (HQ.out _).mono ?_; rintro e w1 ⟨rfl, hg1⟩) | (go_at_call 150; refine (roundings_any _).mono ?_; rintro e w2 ⟨rfl, hg2⟩) | (go_at_call 177; refine (round1_is q r d _ HU).mono ?_; rintro e w3 ⟨rfl, rfl⟩) | (go_at_call 178; refine (round2_is q r d _ HU).mono ?_; rintro e w3 ⟨rfl, rfl⟩) | (go_at_call 179; refine (round3_is q r d _ HU).mono ?_; rintro e w3 ⟨rfl, rfl⟩) | (go_at_call 180; refine (round4_is q r d (by omega) (by omega) _ HU).mono ?_; rintro e w3 ⟨rfl, rfl⟩) | (go_at_call 181; refine (round5_is q r d (by omega) (by omega) _ HU).mono ?_; rintro e w3 ⟨rfl, rfl⟩))
        all_goals
          go_ret2
          exact ⟨ret_ii (by rw [HV.out]) (by rw [HV.out]), grown_trans (by assumption) (by assumption)⟩
    · rw [if_neg (by unfold big; omega)] at hv
      have HV := Lib.hid hv; clear hv
      rcases h15 with rfl | rfl | rfl | rfl | rfl
      all_goals
        go_enter Try.func112, Try.ntmps112
        go_wp2_with (first | (go_at_call 149; refine (HQ.out _).mono ?_; rintro e w1 ⟨rfl, hg1⟩) | (go_at_call 150; refine (roundings_any _).mono ?_; rintro e w2 ⟨rfl, hg2⟩) | (go_at_call 177; refine (round1_is q r d _ HU).mono ?_; rintro e w3 ⟨rfl, rfl⟩) | (go_at_call 178; refine (round2_is q r d _ HU).mono ?_; rintro e w3 ⟨rfl, rfl⟩) | (go_at_call 179; refine (round3_is q r d _ HU).mono ?_; rintro e w3 ⟨rfl, rfl⟩) | (go_at_call 180; refine (round4_is q r d (by omega) (by omega) _ HU).mono ?_; rintro e w3 ⟨rfl, rfl⟩) | (go_at_call 181; refine (round5_is q r d (by omega) (by omega) _ HU).mono ?_; rintro e w3 ⟨rfl, rfl⟩))
        all_goals
          go_ret2
          exact ⟨ret_ii (by rw [HV.out]) (by rw [HV.out]), grown_trans (by assumption) (by assumption)⟩
end Go.Proofs.Ytgkhhfojioepgaa

/- Rows of steps that are meant, as spans; how many seconds lie in none of two lists of them. Purely, no program. -/
import Derived.Deep.OwnRows
namespace Go.Proofs.YtbacoopopokkfaaDoor
set_option linter.unusedSimpArgs false
set_option linter.unusedVariables false

/-- A span of seconds. -/
structure SpV where
  fr : Int
  to_ : Int
instance : Inhabited SpV := ⟨⟨0, 0⟩⟩
def spCs (x : SpV) : List Value := [.int .i64 x.fr, .int .i64 x.to_]
def spLast (l : List SpV) : SpV := l.getD (l.length - 1) ⟨0, 0⟩
theorem spLast_app (l : List SpV) (x : SpV) : spLast (l ++ [x]) = x := by unfold spLast; simp
/-- One step more. -/
def rowS (T : Nat → Int) (acc : List SpV) (k : Nat) (m : Bool) : List SpV :=
  if m = true then (if 0 < acc.length ∧ (spLast acc).to_ = T k - 1 then acc.set (acc.length - 1) ⟨(spLast acc).fr, T (k + 1) - 1⟩ else acc ++ [⟨T k, T (k + 1) - 1⟩]) else acc
def rowL (T : Nat → Int) (M : Nat → Bool) : Nat → List SpV
  | 0 => []
  | k + 1 => rowS T (rowL T M k) k (M k)
def keepR (least : Int) (x : SpV) : Bool := !decide (x.to_ - x.fr + 1 < least)
def restL (T : Nat → Int) (M : Nat → Bool) (least : Int) (n : Nat) : List SpV := (rowL T M n).filter (keepR least)

theorem rise_le {T : Nat → Int} {n : Nat} (h : ∀ k, k < n → T k < T (k + 1)) : ∀ {a b : Nat}, a ≤ b → b ≤ n → T a ≤ T b
  | a, 0, hab, _ => by
    obtain rfl : a = 0 := (by omega)
    exact Int.le_refl _
  | a, b + 1, hab, hb => by
    rcases Nat.eq_or_lt_of_le hab with rfl | hlt
    · exact Int.le_refl _
    · have := rise_le h (show a ≤ b by omega) (by omega); have := h b (by omega); omega
theorem rise_lt {T : Nat → Int} {n : Nat} (h : ∀ k, k < n → T k < T (k + 1)) {a b : Nat} (hab : a < b) (hb : b ≤ n) : T a < T b := by
  have := h a (by omega); have := rise_le h (show a + 1 ≤ b by omega) hb; omega

/-- What the rows so far are. -/
structure RowOk (T : Nat → Int) (M : Nat → Bool) (k : Nat) (L : List SpV) : Prop where
  al : ∀ x ∈ L, ∃ a b, a < b ∧ b ≤ k ∧ x = ⟨T a, T b - 1⟩
  pw : L.Pairwise fun x y => x.to_ < y.fr
  last : 0 < k → M (k - 1) = true → 0 < L.length ∧ (spLast L).to_ = T k - 1
  no : (k = 0 ∨ M (k - 1) = false) → ∀ x ∈ L, x.to_ < T k - 1
  len : L.length ≤ k
theorem spLast_mem {l : List SpV} (h : 0 < l.length) : spLast l ∈ l := by
  unfold spLast; rw [List.getD_eq_getElem?_getD, List.getElem?_eq_getElem (by omega)]; exact List.getElem_mem _
theorem set_last {l : List SpV} (h : 0 < l.length) (y : SpV) : l.set (l.length - 1) y = l.dropLast ++ [y] := by
  apply List.ext_getElem
  · simp; omega
  · intro i h1 h2
    simp only [List.length_set] at h1
    rw [List.getElem_set]
    split
    · rename_i e; subst e; rw [List.getElem_append_right (by simp)]; simp
    · rw [List.getElem_append_left (by simp; omega)]; simp
theorem split_last {l : List SpV} (h : 0 < l.length) : l = l.dropLast ++ [spLast l] := by
  have := set_last h (spLast l)
  rw [← this]
  apply List.ext_getElem (by simp)
  intro i h1 h2
  rw [List.getElem_set]
  split
  · rename_i e; subst e; unfold spLast; rw [List.getD_eq_getElem?_getD, List.getElem?_eq_getElem h1]; rfl
  · rfl
theorem row_ok {T : Nat → Int} {M : Nat → Bool} {n : Nat} (hT : ∀ k, k < n → T k < T (k + 1)) : ∀ k, k ≤ n → RowOk T M k (rowL T M k)
  | 0, _ => ⟨fun _ h => (by cases h), List.Pairwise.nil, fun h => absurd h (by omega), fun _ _ h => (by cases h), Nat.le_refl _⟩
  | k + 1, hk => by
    have ih := row_ok (M := M) hT k (by omega)
    have hs := hT k (by omega)
    show RowOk T M (k + 1) (rowS T (rowL T M k) k (M k))
    generalize rowL T M k = L at ih
    unfold rowS
    by_cases hm : M k = true
    · rw [if_pos hm]
      by_cases hc : 0 < L.length ∧ (spLast L).to_ = T k - 1
      · rw [if_pos hc, set_last hc.1]
        obtain ⟨h0, hto⟩ := hc
        have hsp := split_last h0
        obtain ⟨a, b, hab, hbk, he⟩ := ih.al _ (spLast_mem h0)
        have hpw := ih.pw
        rw [hsp] at hpw
        obtain ⟨p1, _, p3⟩ := List.pairwise_append.1 hpw
        refine ⟨fun x hx => ?_, List.pairwise_append.2 ⟨p1, List.pairwise_singleton _ _, fun x hx y hy => ?_⟩, fun _ _ => ⟨by simp, by rw [spLast_app]⟩, fun h => ?_, by have := ih.len; simp; omega⟩
        · rcases List.mem_append.1 hx with h | h
          · obtain ⟨a', b', q1, q2, q3⟩ := ih.al x ((List.dropLast_sublist L).subset h)
            exact ⟨a', b', q1, by omega, q3⟩
          · rw [List.mem_singleton.1 h, he]; exact ⟨a, k + 1, by omega, Nat.le_refl _, rfl⟩
        · rw [List.mem_singleton.1 hy]; exact p3 x hx (spLast L) (by simp)
        · rcases h with h | h
          · omega
          · rw [Nat.add_sub_cancel, hm] at h; cases h
      · rw [if_neg hc]
        have hno : ∀ x ∈ L, x.to_ < T k - 1 := by
          apply ih.no
          rcases Nat.eq_zero_or_pos k with h | h
          · exact .inl h
          · right
            cases hq : M (k - 1) with
            | false => rfl
            | true => exact absurd (ih.last h hq) hc
        refine ⟨fun x hx => ?_, List.pairwise_append.2 ⟨ih.pw, List.pairwise_singleton _ _, fun x hx y hy => ?_⟩, fun _ _ => ⟨by simp, by rw [spLast_app]⟩, fun h => ?_, by have := ih.len; simp; omega⟩
        · rcases List.mem_append.1 hx with h | h
          · obtain ⟨a', b', q1, q2, q3⟩ := ih.al x h
            exact ⟨a', b', q1, by omega, q3⟩
          · rw [List.mem_singleton.1 h]; exact ⟨k, k + 1, by omega, Nat.le_refl _, rfl⟩
        · rw [List.mem_singleton.1 hy]; have := hno x hx; simp only; omega
        · rcases h with h | h
          · omega
          · rw [Nat.add_sub_cancel, hm] at h; cases h
    · rw [if_neg hm]
      refine ⟨fun x hx => ?_, ih.pw, fun _ h => ?_, fun _ x hx => ?_, by have := ih.len; omega⟩
      · obtain ⟨a', b', q1, q2, q3⟩ := ih.al x hx
        exact ⟨a', b', q1, by omega, q3⟩
      · rw [Nat.add_sub_cancel] at h; exact absurd h hm
      · obtain ⟨a', b', q1, q2, q3⟩ := ih.al x hx
        have := rise_le hT q2 (by omega)
        rw [q3]; simp only; omega
/-- A run of steps that are meant. -/
theorem row_run {T : Nat → Int} {M : Nat → Bool} {n i : Nat} (hT : ∀ k, k < n → T k < T (k + 1)) (hi : i = 0 ∨ M (i - 1) = false) : ∀ j, i ≤ j → j < n → (∀ t, i ≤ t → t ≤ j → M t = true) → rowL T M (j + 1) = rowL T M i ++ [⟨T i, T (j + 1) - 1⟩]
  | j, hij, hjn, hM => by
    rcases Nat.eq_or_lt_of_le hij with rfl | hlt
    · show rowS T (rowL T M i) i (M i) = _
      unfold rowS
      rw [if_pos (hM i (Nat.le_refl _) (Nat.le_refl _)), if_neg]
      rintro ⟨h0, h1⟩
      have := (row_ok (M := M) hT i (by omega)).no hi _ (spLast_mem h0)
      omega
    · obtain ⟨m, rfl⟩ : ∃ m, j = m + 1 := ⟨j - 1, by omega⟩
      have ih := row_run hT hi m (by omega) (by omega) (fun t h1 h2 => hM t h1 (by omega))
      show rowS T (rowL T M (m + 1)) (m + 1) (M (m + 1)) = _
      unfold rowS
      rw [if_pos (hM (m + 1) hij (Nat.le_refl _)), ih, spLast_app, if_pos ⟨by simp, rfl⟩, set_last (by simp)]
      simp
theorem rest_al {T : Nat → Int} {M : Nat → Bool} {n : Nat} (hT : ∀ k, k < n → T k < T (k + 1)) (least : Int) : ∀ x ∈ restL T M least n, ∃ a b, a < b ∧ b ≤ n ∧ x = ⟨T a, T b - 1⟩ := fun x hx => (row_ok hT n (Nat.le_refl _)).al x (List.mem_filter.1 hx).1
theorem rest_pw {T : Nat → Int} {M : Nat → Bool} {n : Nat} (hT : ∀ k, k < n → T k < T (k + 1)) (least : Int) : (restL T M least n).Pairwise fun x y => x.to_ < y.fr := (row_ok hT n (Nat.le_refl _)).pw.sublist List.filter_sublist
theorem rest_len {T : Nat → Int} {M : Nat → Bool} {n : Nat} (hT : ∀ k, k < n → T k < T (k + 1)) (least : Int) : (restL T M least n).length ≤ n := Nat.le_trans (List.length_filter_le _ _) (row_ok hT n (Nat.le_refl _)).len

/-- How many seconds from 0 on, below N, are so. -/
def cntS (f : Int → Bool) : Nat → Int
  | 0 => 0
  | n + 1 => cntS f n + if f n = true then 1 else 0
def inSp (x : SpV) (s : Int) : Bool := decide (x.fr ≤ s ∧ s ≤ x.to_)
def covS (L : List SpV) (s : Int) : Bool := L.any fun x => inSp x s
theorem cnt_congr {f g : Int → Bool} : ∀ {n : Nat}, (∀ s : Nat, s < n → f s = g s) → cntS f n = cntS g n
  | 0, _ => rfl
  | n + 1, h => by unfold cntS; rw [cnt_congr fun s hs => h s (by omega), h n (by omega)]
theorem cnt_not (f : Int → Bool) : ∀ n : Nat, cntS f n + cntS (fun s => !f s) n = n
  | 0 => rfl
  | n + 1 => by
    have := cnt_not f n
    unfold cntS
    cases f n <;> simp <;> omega
theorem cnt_bd (f : Int → Bool) : ∀ n : Nat, 0 ≤ cntS f n ∧ cntS f n ≤ n
  | 0 => by simp [cntS]
  | n + 1 => by
    have := cnt_bd f n
    unfold cntS
    cases f n <;> simp <;> omega
/-- More seconds, all alike. -/
theorem cnt_more (f : Int → Bool) (b : Bool) : ∀ {n m : Nat}, n ≤ m → (∀ s : Nat, n ≤ s → s < m → f s = b) → cntS f m = cntS f n + if b = true then (m : Int) - n else 0
  | n, 0, h, _ => by obtain rfl : n = 0 := by omega
                     simp
  | n, m + 1, h, hs => by
    rcases Nat.eq_or_lt_of_le h with rfl | hlt
    · simp
    · have ih := cnt_more f b (show n ≤ m by omega) (fun s h1 h2 => hs s h1 (by omega))
      show cntS f m + _ = _
      rw [ih, hs m (by omega) (by omega)]
      cases b <;> simp <;> omega
/-- With one interval more. -/
theorem cnt_add {f g : Int → Bool} {u v : Int} (hu : 0 ≤ u) : ∀ {n : Nat}, v ≤ n → (∀ s : Int, 0 ≤ s → g s = (f s || decide (u ≤ s ∧ s < v))) → (∀ s : Int, u ≤ s → s < v → f s = false) → cntS g n = cntS f n + max (v - u) 0 := by
  intro n hv hg hf
  have key : ∀ m : Nat, cntS g m = cntS f m + max (min v m - u) 0 := by
    intro m
    induction m with
    | zero => simp [cntS]; omega
    | succ m ih =>
      show cntS g m + _ = cntS f m + _ + _
      rw [ih, hg m (by omega)]
      by_cases h : u ≤ (m : Int) ∧ (m : Int) < v
      · rw [hf m h.1 h.2, decide_eq_true h]
        simp; omega
      · rw [decide_eq_false h, Bool.or_false]
        have e : max (min v ((m + 1 : Nat) : Int) - u) 0 = max (min v (m : Int) - u) 0 := by omega
        rw [e]; omega
  rw [key n]
  have : min v (n : Int) = v := by omega
  rw [this]
/-- What is left of N seconds behind some spans: the sum, and where the last one ends. -/
def movS (st : Int × Int) (x : SpV) : Int × Int := (st.1 - max (x.to_ + 1 - max x.fr st.2) 0, max st.2 (x.to_ + 1))
def movF (N : Int) (L : List SpV) : Int × Int := L.foldl movS (N, 0)
theorem mov_snoc (N : Int) (L : List SpV) (x : SpV) : movF N (L ++ [x]) = movS (movF N L) x := by unfold movF; rw [List.foldl_append]; rfl
theorem cov_app (L : List SpV) (x : SpV) (s : Int) : covS (L ++ [x]) s = (covS L s || inSp x s) := by unfold covS; simp
theorem cov_apps (L K : List SpV) (s : Int) : covS (L ++ K) s = (covS L s || covS K s) := by unfold covS; simp
theorem cov_perm {L K : List SpV} (h : L.Perm K) (s : Int) : covS L s = covS K s := by
  unfold covS
  rw [Bool.eq_iff_iff, List.any_eq_true, List.any_eq_true]
  constructor
  · rintro ⟨x, hx, e⟩; exact ⟨x, h.mem_iff.1 hx, e⟩
  · rintro ⟨x, hx, e⟩; exact ⟨x, h.mem_iff.2 hx, e⟩
theorem mov_is (N : Nat) : ∀ (m : Nat) (L : List SpV), L.length ≤ m → L.Pairwise (fun x y => x.fr ≤ y.fr) → (∀ x ∈ L, 0 ≤ x.fr ∧ x.fr ≤ x.to_ ∧ x.to_ < N) →
    (movF N L).1 = N - cntS (covS L) N ∧ 0 ≤ (movF N L).2 ∧ (movF N L).2 ≤ N ∧ (∀ x ∈ L, x.to_ < (movF N L).2) ∧ (∀ s, (∀ x ∈ L, x.fr ≤ s) → covS L s = decide (L ≠ [] ∧ s < (movF N L).2)) := by
  intro m
  induction m with
  | zero =>
    intro L hm _ _
    have e : L = [] := List.eq_nil_of_length_eq_zero (by omega)
    subst e
    have hc : cntS (covS []) N = 0 := by
      have := cnt_more (covS []) false (n := 0) (m := N) (by omega) (fun _ _ _ => rfl)
      simpa [cntS] using this
    refine ⟨?_, by simp [movF], by simp [movF], fun _ h => (by cases h), fun s _ => by simp [covS]⟩
    rw [hc]; simp [movF]
  | succ m ih =>
    intro L hm hp hb
    rcases Nat.lt_or_ge L.length (m + 1) with h | h
    · exact ih L (by omega) hp hb
    · obtain ⟨K, x, rfl⟩ : ∃ K x, L = K ++ [x] := ⟨L.dropLast, L.getLast (fun e => by subst e; simp at h), (List.dropLast_concat_getLast _).symm⟩
      simp only [List.length_append, List.length_cons, List.length_nil] at hm
      obtain ⟨p1, _, p3⟩ := List.pairwise_append.1 hp
      obtain ⟨i1, i2, i3, i4, i5⟩ := ih K (by omega) p1 (fun y hy => hb y (by simp [hy]))
      obtain ⟨b1, b2, b3⟩ := hb x (by simp)
      have hKx : ∀ y ∈ K, y.fr ≤ x.fr := fun y hy => p3 y hy x (by simp)
      rw [mov_snoc]
      obtain ⟨⟨q, e⟩, hq⟩ : ∃ p, movF N K = p := ⟨_, rfl⟩
      rw [hq] at i1 i2 i3 i4 i5
      rw [hq]
      simp only [movS] at i1 i2 i3 i4 i5 ⊢
      have hcov : ∀ s, x.fr ≤ s → covS K s = decide (K ≠ [] ∧ s < e) := fun s hs => i5 s fun y hy => by have := hKx y hy; omega
      have hce : ∀ s, x.fr ≤ s → covS K s = decide (s < e) := fun s hs => by
        rw [hcov s hs]
        by_cases hk : K = []
        · subst hk
          have : e = 0 := by have := congrArg Prod.snd hq; simpa [movF] using this.symm
          have h2 : ¬ s < e := by omega
          simp [h2]
        · simp [hk]
      refine ⟨?_, by omega, by omega, fun y hy => ?_, fun s hs => ?_⟩
      · have := cnt_add (f := covS K) (g := covS (K ++ [x])) (u := max x.fr e) (v := x.to_ + 1) (by omega) (n := N) (by omega) (fun s h0 => ?_) (fun s h1 h2 => ?_)
        · rw [this, i1]; omega
        · rw [cov_app]
          by_cases hs : x.fr ≤ s
          · rw [hce s hs]
            unfold inSp
            by_cases h1 : s < e
            · simp [h1]
            · have : (x.fr ≤ s ∧ s ≤ x.to_) ↔ (max x.fr e ≤ s ∧ s < x.to_ + 1) := by omega
              rw [decide_eq_decide.2 this]
          · unfold inSp
            rw [decide_eq_false (fun h => hs h.1), decide_eq_false (fun h => hs (by have := h.1; omega))]
        · rw [hce s (by omega)]; simp; omega
      · rcases List.mem_append.1 hy with h | h
        · have := i4 y h; omega
        · rw [List.mem_singleton.1 h]; omega
      · have hxs : x.fr ≤ s := hs x (by simp)
        rw [cov_app, hce s hxs]
        unfold inSp
        by_cases h1 : s < e <;> by_cases h2 : s ≤ x.to_ <;> simp [h1, h2, hxs] <;> omega
/-- What the other way counts: steps that begin in no span. -/
def movR (T : Nat → Int) (L K : List SpV) : Nat → Int
  | 0 => 0
  | k + 1 => movR T L K k + if covS L (T k) = false ∧ covS K (T k) = false then T (k + 1) - T k else 0
theorem movR_is {T : Nat → Int} {n : Nat} (hT : ∀ k, k < n → T k < T (k + 1)) (h0 : T 0 = 0) {L K : List SpV} (hL : ∀ x ∈ L ++ K, ∃ a b, a < b ∧ b ≤ n ∧ x = ⟨T a, T b - 1⟩) : ∀ k, k ≤ n → movR T L K k = cntS (fun s => !covS (L ++ K) s) (T k).toNat
  | 0, _ => by rw [h0]; rfl
  | k + 1, hk => by
    have ih := movR_is hT h0 hL k (by omega)
    have hs := hT k (by omega)
    have hk0 : 0 ≤ T k := by have := rise_le hT (Nat.zero_le k) (by omega); omega
    have same : ∀ s : Nat, (T k).toNat ≤ s → s < (T (k + 1)).toNat → covS (L ++ K) s = covS (L ++ K) (T k) := fun s h1 h2 => by
      unfold covS
      rw [Bool.eq_iff_iff, List.any_eq_true, List.any_eq_true]
      have one : ∀ x ∈ L ++ K, inSp x s = inSp x (T k) := fun x hx => by
        obtain ⟨a, b, hab, hb, rfl⟩ := hL x hx
        unfold inSp
        rw [decide_eq_decide]
        simp only
        constructor
        · rintro ⟨g1, g2⟩
          have ha : a ≤ k := by
            rcases Nat.lt_or_ge k a with h | h
            · have := rise_le hT (show k + 1 ≤ a by omega) (by omega); omega
            · exact h
          have hb2 : k < b := by
            rcases Nat.lt_or_ge k b with h | h
            · exact h
            · have := rise_le hT h (by omega); omega
          have := rise_le hT ha (by omega)
          have := rise_lt hT hb2 hb
          omega
        · rintro ⟨g1, g2⟩
          have hb2 : k < b := by
            rcases Nat.lt_or_ge k b with h | h
            · exact h
            · have := rise_le hT h (by omega); omega
          have := rise_le hT (show k + 1 ≤ b by omega) hb
          omega
      constructor
      · rintro ⟨x, hx, e⟩; exact ⟨x, hx, by rw [← one x hx]; exact e⟩
      · rintro ⟨x, hx, e⟩; exact ⟨x, hx, by rw [one x hx]; exact e⟩
    rw [cnt_more (fun s => !covS (L ++ K) s) (!covS (L ++ K) (T k)) (n := (T k).toNat) (m := (T (k + 1)).toNat) (by omega) (fun s h1 h2 => by rw [same s h1 h2])]
    unfold movR
    rw [ih, cov_apps]
    have e1 : ((T (k + 1)).toNat : Int) = T (k + 1) := by omega
    have e2 : ((T k).toNat : Int) = T k := by omega
    rw [e1, e2]
    cases covS L (T k) <;> cases covS K (T k) <;> simp
/-- Both ways count the same. -/
theorem moving_is {T : Nat → Int} {n : Nat} (hT : ∀ k, k < n → T k < T (k + 1)) (h0 : T 0 = 0) {L K S : List SpV} (hL : ∀ x ∈ L ++ K, ∃ a b, a < b ∧ b ≤ n ∧ x = ⟨T a, T b - 1⟩) (hp : S.Perm (L ++ K)) (hs : S.Pairwise fun x y => x.fr ≤ y.fr) : (movF (T n) S).1 = movR T L K n := by
  have hN : 0 ≤ T n := by have := rise_le hT (Nat.zero_le n) (Nat.le_refl _); omega
  obtain ⟨N, hNN⟩ : ∃ N : Nat, (N : Int) = T n := ⟨(T n).toNat, by omega⟩
  have hb : ∀ x ∈ S, 0 ≤ x.fr ∧ x.fr ≤ x.to_ ∧ x.to_ < N := fun x hx => by
    obtain ⟨a, b, hab, hbn, rfl⟩ := hL x (hp.mem_iff.1 hx)
    have := rise_le hT (Nat.zero_le a) (by omega); have := rise_lt hT hab hbn; have := rise_le hT hbn (Nat.le_refl _)
    simp only; omega
  have h1 := (mov_is N S.length S (Nat.le_refl _) hs hb).1
  rw [← hNN, h1, movR_is hT h0 hL n (Nat.le_refl _), ← hNN, Int.toNat_natCast, cnt_congr (f := covS S) (g := covS (L ++ K)) (fun s _ => cov_perm hp s)]
  have := cnt_not (covS (L ++ K)) N
  omega
end Go.Proofs.YtbacoopopokkfaaDoor

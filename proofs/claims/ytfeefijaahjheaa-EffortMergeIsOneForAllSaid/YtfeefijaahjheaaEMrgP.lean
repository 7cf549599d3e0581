/- Curves: their checks, what two make when merged, and the sizes at which one beats the other, purely. -/
import Derived.Test.YtfeefijaahjheaaECurP
import Derived.Test.YtfeefijaahjheaaOPure
namespace Go.Proofs.Ytfeefijaahjheaa
open Go.RowKit
set_option linter.unusedSimpArgs false
set_option linter.unusedVariables false

def bestE (x : BestV) : Int := if x.b.found = false ∧ (x.b.sum ≠ 0 ∨ x.b.at_ ≠ 0) then 2 else if (0 ≤ x.b.sum ∧ x.b.sum ≤ x.sz * 1000000000) ∧ (0 ≤ x.b.at_ ∧ x.b.at_ ≤ 1000000 - x.sz) then 0 else 9
def bestsE : List BestV → Int
  | [] => 0
  | x :: r => if bestE x = 0 then bestsE r else bestE x
def szs (L : List BestV) : List Int := L.map (·.sz)
def crvE (L : List BestV) : Int := if sizesE (szs L) = 0 then bestsE L else sizesE (szs L)
theorem bestsE_at {L : List BestV} {k : Nat} (h : k < L.length) : bestsE (L.drop k) = if bestE L[k] = 0 then bestsE (L.drop (k + 1)) else bestE L[k] := by
  rw [List.drop_eq_getElem_cons h]; rfl
theorem bestsE_end {L : List BestV} {k : Nat} (h : L.length ≤ k) : bestsE (L.drop k) = 0 := by rw [List.drop_eq_nil_of_le h]; rfl
theorem bestsE_in : ∀ {L : List BestV}, bestsE L = 0 → ∀ x ∈ L, bestE x = 0
  | [], _, x, hx => by cases hx
  | y :: r, h, x, hx => by
    unfold bestsE at h
    split at h
    · rename_i h0
      rcases List.mem_cons.1 hx with rfl | hx
      · exact h0
      · exact bestsE_in h x hx
    · rename_i h0; exact absurd h h0
theorem bestE_in {x : BestV} (h : bestE x = 0) (h1 : x.sz ≤ 1000000) : 0 ≤ x.b.sum ∧ x.b.sum ≤ 1000000000000000 := by
  unfold bestE at h
  split at h
  · omega
  · split at h
    · omega
    · omega
theorem rising_pw {lo hi : Int} : ∀ {l : List Int} {p : Option Int}, risingE lo hi p l = 0 → l.Pairwise (· < ·) ∧ ∀ y, p = some y → ∀ x ∈ l, y < x
  | [], _, _ => ⟨List.Pairwise.nil, fun _ _ _ h => by cases h⟩
  | y :: r, p, h => by
    unfold risingE at h
    split at h
    · split at h
      · omega
      · rename_i hy hs
        obtain ⟨h1, h2⟩ := rising_pw h
        have hlt : ∀ x ∈ r, y < x := h2 y rfl
        refine ⟨List.pairwise_cons.2 ⟨hlt, h1⟩, fun z hz x hx => ?_⟩
        subst hz
        have hzy : z < y := by
          simp only [soonI, decide_eq_true_eq] at hs; omega
        rcases List.mem_cons.1 hx with rfl | hx
        · exact hzy
        · have := hlt x hx; omega
    · omega
/-- A curve that is right. -/
structure CrvIn (L : List BestV) : Prop where
  len : L.length ≤ 100
  pos : 0 < L.length
  sz : ∀ x ∈ L, 1 ≤ x.sz ∧ x.sz ≤ 1000000
  pw : L.Pairwise fun x y => x.sz < y.sz
  ok : ∀ x ∈ L, bestE x = 0
theorem szs_len (L : List BestV) : (szs L).length = L.length := by simp [szs]
theorem szs_at {L : List BestV} {k : Nat} (h : k < L.length) : nthI (szs L) k = L[k].sz := by
  rw [nthI_at (by rw [szs_len]; exact h)]; simp [szs]
theorem crv_in {L : List BestV} (h : crvE L = 0) : CrvIn L := by
  unfold crvE at h
  split at h
  · rename_i h0
    obtain ⟨h1, h2, h3⟩ := sizes_ok h0
    rw [szs_len] at h1 h2 h3
    refine ⟨by omega, h2, ?_, ?_, bestsE_in h⟩
    · intro x hx
      obtain ⟨i, hi, rfl⟩ := List.mem_iff_getElem.1 hx
      have q := h3 i hi
      rwa [szs_at hi] at q
    · unfold sizesE at h0
      split at h0
      · omega
      · split at h0
        · have q := (rising_pw h0).1
          unfold szs at q
          exact List.pairwise_map.1 q
        · omega
  · rename_i h0; exact absurd h h0

def nthB (L : List BestV) (i : Nat) : BestV := L.getD i ⟨0, 0, 0, false⟩
theorem nthB_at {L : List BestV} {i : Nat} (h : i < L.length) : nthB L i = L[i] := by unfold nthB; rw [List.getD_eq_getElem?_getD, List.getElem?_eq_getElem h]; rfl
theorem nthB_map (l : List BestV) : (List.range l.length).map (nthB l) = l := by
  apply List.ext_getElem (by simp)
  intro i h1 h2
  simp only [List.getElem_map, List.getElem_range]
  exact nthB_at h2

/-- The stable order by sizes is the merge of two rising lists. -/
def bstKey (l : List BestV) (i : Nat) : Int := - (nthB l i).sz
def srtB (l : List BestV) : List BestV := (stI (bstKey l) l.length).map (nthB l)
def szLe (x y : BestV) : Bool := decide (x.sz ≤ y.sz)
theorem srtB_len (l : List BestV) : (srtB l).length = l.length := by unfold srtB; rw [List.length_map, (stI_is _ _).len]
theorem srt_merge {a b : List BestV} (ha : a.Pairwise fun x y => x.sz < y.sz) (hb : b.Pairwise fun x y => x.sz < y.sz) : srtB (a ++ b) = a.merge b szLe := by
  have e1 : (List.range a.length).map (nthB (a ++ b)) = a := by
    apply List.ext_getElem (by simp)
    intro i h1 h2
    simp only [List.getElem_map, List.getElem_range]
    rw [nthB_at (by rw [List.length_append]; omega), List.getElem_append_left h2]
  have e2 : (List.range' a.length b.length).map (nthB (a ++ b)) = b := by
    apply List.ext_getElem (by simp)
    intro i h1 h2
    simp only [List.getElem_map, List.getElem_range', Nat.one_mul]
    rw [nthB_at (by rw [List.length_append]; omega), List.getElem_append_right (by omega)]
    simp
  obtain ⟨l, hl⟩ : ∃ l, a ++ b = l := ⟨_, rfl⟩
  rw [hl] at e1 e2 ⊢
  have hlen : l.length = a.length + b.length := by rw [← hl, List.length_append]
  let le : Nat → Nat → Bool := fun i j => decide ((nthB l i).sz < (nthB l j).sz ∨ ((nthB l i).sz = (nthB l j).sz ∧ i ≤ j))
  have htr : ∀ i j k, le i j = true → le j k = true → le i k = true := fun i j k h1 h2 => by
    simp only [le, decide_eq_true_eq] at *; omega
  have hto : ∀ i j, (le i j || le j i) = true := fun i j => by
    simp only [le, Bool.or_eq_true, decide_eq_true_eq]; omega
  have p1 : (List.range a.length).Pairwise fun i j => le i j = true := by
    have q := ha
    rw [← e1, List.pairwise_map] at q
    exact q.imp fun h => by simp only [le, decide_eq_true_eq]; exact .inl h
  have p2 : (List.range' a.length b.length).Pairwise fun i j => le i j = true := by
    have q := hb
    rw [← e2, List.pairwise_map] at q
    exact q.imp fun h => by simp only [le, decide_eq_true_eq]; exact .inl h
  have hm := List.pairwise_merge (le := le) htr hto _ _ p1 p2
  have hp : (List.merge (List.range a.length) (List.range' a.length b.length) le).Perm (List.range l.length) := by
    refine (List.merge_perm_append (le := le)).trans ?_
    rw [hlen, List.range_eq_range', List.range_eq_range']
    have := List.range'_append (s := 0) (m := a.length) (n := b.length) (step := 1)
    simp only [Nat.one_mul, Nat.zero_add] at this
    rw [this]
  have hS : Sti (bstKey l) l.length (List.merge (List.range a.length) (List.range' a.length b.length) le) := by
    refine ⟨hp, ?_⟩
    have hnd : (List.merge (List.range a.length) (List.range' a.length b.length) le).Nodup := hp.nodup_iff.2 List.nodup_range
    have h2 := hm.and hnd
    exact h2.imp fun {i j} h => by
      obtain ⟨h3, h4⟩ := h
      simp only [le, decide_eq_true_eq] at h3
      unfold Bef bstKey
      omega
  unfold srtB
  rw [← stI_of hS]
  conv => rhs; rw [← e1, ← e2]
  refine List.map_merge ?_
  intro i hi j hj
  have q1 := List.mem_range.1 hi
  obtain ⟨k, q2, q3⟩ := List.mem_range'.1 hj
  simp only [le, szLe, decide_eq_decide]
  omega

/-- One more in a merged curve. -/
def stpM (M : List BestV) (x : BestV) : List BestV :=
  if M.length = 0 ∨ (nthB M (M.length - 1)).sz ≠ x.sz then M ++ [x] else if betB x.b (nthB M (M.length - 1)).b = true then M.set (M.length - 1) x else M
def mrgM (a b : List BestV) : List BestV := (srtB (a ++ b)).foldl stpM []
def twoE (a b : List BestV) : Int := if crvE a = 0 then crvE b else crvE a
def mrgOut (a b : List BestV) : List BestV × Int := if twoE a b = 0 then (if (mrgM a b).length ≤ 100 then (mrgM a b, 0) else ([], 3)) else ([], twoE a b)
theorem two_in {a b : List BestV} (h : twoE a b = 0) : CrvIn a ∧ CrvIn b := by
  unfold twoE at h
  split at h
  · rename_i h0; exact ⟨crv_in h0, crv_in h⟩
  · rename_i h0; exact absurd h h0
theorem stpM_len (M : List BestV) (x : BestV) : (stpM M x).length ≤ M.length + 1 := by
  unfold stpM
  split
  · simp
  · split
    · simp
    · omega
theorem foldM_len : ∀ (L M : List BestV), (L.foldl stpM M).length ≤ M.length + L.length
  | [], M => by simp
  | x :: r, M => by
    have h1 := foldM_len r (stpM M x)
    have h2 := stpM_len M x
    simp only [List.foldl_cons, List.length_cons]; omega
theorem foldM_snoc {L : List BestV} {k : Nat} (h : k < L.length) : (L.take (k + 1)).foldl stpM [] = stpM ((L.take k).foldl stpM []) (nthB L k) := by
  rw [List.take_succ_eq_append_getElem h, List.foldl_append, nthB_at h]; rfl
/-- A step of the other way: two lists, from the front. -/
def remM (out a b : List BestV) : List BestV := (a.merge b szLe).foldl stpM out
structure Rem (out a b : List BestV) : Prop where
  pa : a.Pairwise fun x y => x.sz < y.sz
  pb : b.Pairwise fun x y => x.sz < y.sz
  la : ∀ x ∈ out, ∀ y ∈ a, x.sz < y.sz
  lb : ∀ x ∈ out, ∀ y ∈ b, x.sz < y.sz
theorem stp_app {out : List BestV} {x : BestV} (h : ∀ z ∈ out, z.sz < x.sz) : stpM out x = out ++ [x] := by
  unfold stpM
  rw [if_pos]
  rcases Nat.eq_zero_or_pos out.length with e | e
  · exact .inl e
  · right
    rw [nthB_at (by omega)]
    have := h _ (List.getElem_mem (show out.length - 1 < out.length by omega))
    omega
theorem stp_same {out : List BestV} {x y : BestV} (h : x.sz = y.sz) : stpM (out ++ [x]) y = out ++ [if betB y.b x.b = true then y else x] := by
  have e : nthB (out ++ [x]) ((out ++ [x]).length - 1) = x := by
    rw [nthB_at (by simp)]; simp
  unfold stpM
  rw [e, if_neg (by simp [h])]
  split
  · simp
  · rfl
theorem rem_out {out a b : List BestV} {x : BestV} (hx : ∀ y ∈ a, x.sz < y.sz) (hy : ∀ y ∈ b, x.sz < y.sz) (h : Rem out a b) : Rem (out ++ [x]) a b :=
  ⟨h.pa, h.pb, fun z hz y hy' => by
    rcases List.mem_append.1 hz with q | q
    · exact h.la z q y hy'
    · rw [List.mem_singleton.1 q]; exact hx y hy', fun z hz y hy' => by
    rcases List.mem_append.1 hz with q | q
    · exact h.lb z q y hy'
    · rw [List.mem_singleton.1 q]; exact hy y hy'⟩
theorem rem_a {out a b : List BestV} {x : BestV} (h : Rem out (x :: a) b) (hc : ∀ y, b.head? = some y → x.sz < y.sz) : remM out (x :: a) b = remM (out ++ [x]) a b ∧ Rem (out ++ [x]) a b := by
  have hb : ∀ y ∈ b, x.sz < y.sz := by
    cases b with
    | nil => intro y hy; cases hy
    | cons z r =>
      have h0 := hc z rfl
      intro y hy
      rcases List.mem_cons.1 hy with rfl | hy
      · exact h0
      · have := (List.pairwise_cons.1 h.pb).1 y hy; omega
  obtain ⟨p1, p2⟩ := List.pairwise_cons.1 h.pa
  refine ⟨?_, rem_out p1 hb ⟨p2, h.pb, fun z hz y hy => h.la z hz y (List.mem_cons_of_mem _ hy), h.lb⟩⟩
  unfold remM
  have e : (x :: a).merge b szLe = x :: a.merge b szLe := by
    cases b with
    | nil => simp
    | cons z r => rw [List.cons_merge_cons_pos szLe _ _ (by unfold szLe; simp; have := hc z rfl; omega)]
  rw [e, List.foldl_cons, stp_app (fun z hz => h.la z hz x (by simp))]
theorem rem_b {out a b : List BestV} {x : BestV} (h : Rem out a (x :: b)) (hc : ∀ y, a.head? = some y → x.sz < y.sz) : remM out a (x :: b) = remM (out ++ [x]) a b ∧ Rem (out ++ [x]) a b := by
  have ha : ∀ y ∈ a, x.sz < y.sz := by
    cases a with
    | nil => intro y hy; cases hy
    | cons z r =>
      have h0 := hc z rfl
      intro y hy
      rcases List.mem_cons.1 hy with rfl | hy
      · exact h0
      · have := (List.pairwise_cons.1 h.pa).1 y hy; omega
  obtain ⟨p1, p2⟩ := List.pairwise_cons.1 h.pb
  refine ⟨?_, rem_out ha p1 ⟨h.pa, p2, h.la, fun z hz y hy => h.lb z hz y (List.mem_cons_of_mem _ hy)⟩⟩
  unfold remM
  have e : a.merge (x :: b) szLe = x :: a.merge b szLe := by
    cases a with
    | nil => simp
    | cons z r => rw [List.cons_merge_cons_neg szLe _ _ (by unfold szLe; simp; have := hc z rfl; omega)]
  rw [e, List.foldl_cons, stp_app (fun z hz => h.lb z hz x (by simp))]
theorem rem_ab {out a b : List BestV} {x y : BestV} (h : Rem out (x :: a) (y :: b)) (hc : x.sz = y.sz) : remM out (x :: a) (y :: b) = remM (out ++ [if betB y.b x.b = true then y else x]) a b ∧ Rem (out ++ [if betB y.b x.b = true then y else x]) a b := by
  obtain ⟨p1, p2⟩ := List.pairwise_cons.1 h.pa
  obtain ⟨p3, p4⟩ := List.pairwise_cons.1 h.pb
  have hs : (if betB y.b x.b = true then y else x).sz = x.sz := by split <;> simp [hc]
  refine ⟨?_, rem_out (by rw [hs]; exact p1) (by rw [hs, hc]; exact p3) ⟨p2, p4, fun z hz q hq => h.la z hz q (List.mem_cons_of_mem _ hq), fun z hz q hq => h.lb z hz q (List.mem_cons_of_mem _ hq)⟩⟩
  unfold remM
  have e1 : (x :: a).merge (y :: b) szLe = x :: a.merge (y :: b) szLe := by
    rw [List.cons_merge_cons_pos szLe _ _ (by unfold szLe; simp; omega)]
  have e2 : a.merge (y :: b) szLe = y :: a.merge b szLe := by
    cases a with
    | nil => simp
    | cons z r => rw [List.cons_merge_cons_neg szLe _ _ (by unfold szLe; simp; have := p1 z (by simp); omega)]
  rw [e1, e2, List.foldl_cons, List.foldl_cons, stp_app (fun z hz => h.la z hz x (by simp)), stp_same hc]
theorem rem_start {a b : List BestV} (ha : a.Pairwise fun x y => x.sz < y.sz) (hb : b.Pairwise fun x y => x.sz < y.sz) : Rem [] a b ∧ remM [] a b = mrgM a b :=
  ⟨⟨ha, hb, fun _ h => (by cases h), fun _ h => (by cases h)⟩, by unfold remM mrgM; rw [srt_merge ha hb]⟩

/-- What a curve has of a size. -/
def bOf (c : List BestV) (s : Int) : BSt := ((c.find? fun y => decide (y.sz = s)).map (·.b)).getD ⟨0, 0, false⟩
theorem bOf_hit {c : List BestV} (h : c.Pairwise fun x y => x.sz < y.sz) {k : Nat} (hk : k < c.length) : bOf c c[k].sz = c[k].b := by
  unfold bOf
  have : c.find? (fun y => decide (y.sz = c[k].sz)) = some c[k] := by
    rw [List.find?_eq_some_iff_getElem]
    refine ⟨by simp, k, hk, rfl, fun j hj => ?_⟩
    have := List.pairwise_iff_getElem.1 h j k (by omega) hk hj
    simp; omega
  rw [this]; rfl
theorem bOf_miss {c : List BestV} {s : Int} (h : ∀ x ∈ c, x.sz ≠ s) : bOf c s = ⟨0, 0, false⟩ := by
  unfold bOf
  have : c.find? (fun y => decide (y.sz = s)) = none := by
    rw [List.find?_eq_none]; intro x hx; simpa using h x hx
  rw [this]; rfl
def btsL (a b : List BestV) : List Int := (a.filter fun x => betB x.b (bOf b x.sz)).map (·.sz)
def btsOut (a b : List BestV) : List Int × Int := if twoE a b = 0 then (btsL a b, 0) else ([], twoE a b)
theorem bts_snoc {a b : List BestV} {k : Nat} (h : k < a.length) : btsL (a.take (k + 1)) b = btsL (a.take k) b ++ (if betB a[k].b (bOf b a[k].sz) = true then [a[k].sz] else []) := by
  unfold btsL
  rw [List.take_succ_eq_append_getElem h, List.filter_append, List.map_append]
  congr 1
  by_cases c : betB a[k].b (bOf b a[k].sz) = true <;> simp [List.filter_cons, c]
theorem bts_len (a b : List BestV) (k : Nat) : (btsL (a.take k) b).length ≤ k := by
  unfold btsL
  rw [List.length_map]
  have := List.length_filter_le (fun x => betB x.b (bOf b x.sz)) (a.take k)
  simp at this; omega
end Go.Proofs.Ytfeefijaahjheaa

/- The text of a set is read as this set; sizes of sets, and what is in them. Purely, no program. -/
import Derived.Test.YtbacoopopokkfaaDoorQRdS
import Derived.Test.YtbacoopopokkfaaDoorQSetS
import Derived.Test.YtbacoopopokkfaaDoorQSetU
namespace Go.Proofs.YtbacoopopokkfaaDoor
set_option linter.unusedSimpArgs false
set_option linter.unusedVariables false

theorem nd_le : ∀ (k u : Nat), u < 10 ^ (k + 1) → Lib.nDigits u ≤ k + 1
  | 0, u, h => by rw [Lib.nDigits_small (by simpa using h)]; exact Nat.le_refl _
  | k + 1, u, h => by
    by_cases h1 : u < 10
    · rw [Lib.nDigits_small h1]; omega
    · rw [Lib.nDigits_big h1]
      have : u / 10 < 10 ^ (k + 1) := by
        rw [Nat.pow_succ] at h
        omega
      have := nd_le k (u / 10) this
      omega
def dgB (n : Int) : List Nat := (Lib.itoa n).map UInt8.toNat
theorem dg_one {u : Nat} (h : u < 10) : (Lib.decDigits u).map UInt8.toNat = [48 + u] := by
  rw [Lib.decDigits, dif_pos h]
  simp only [List.map_cons, List.map_nil, UInt8.toNat_ofNat']
  congr 1; omega
theorem dg_more {u : Nat} (h : ¬ u < 10) : (Lib.decDigits u).map UInt8.toNat = (Lib.decDigits (u / 10)).map UInt8.toNat ++ [48 + u % 10] := by
  rw [Lib.decDigits, dif_neg h]
  simp only [List.map_append, List.map_cons, List.map_nil, UInt8.toNat_ofNat']
  congr 2; omega
theorem num_dig (M : Int) : ∀ (m u : Nat), u ≤ m → (u : Int) ≤ M → 9 ≤ M → ∀ R : List Nat, numV 0 M ((Lib.decDigits u).map UInt8.toNat ++ R) = ⟨(numMore M R u).1, true, (Lib.decDigits u).length + (numMore M R u).2⟩ := by
  intro m
  induction m with
  | zero =>
    intro u hu _ _ R
    obtain rfl : u = 0 := by omega
    rw [dg_one (by omega), Lib.decDigits, dif_pos (by omega)]
    show numV 0 M (48 :: R) = _
    unfold numV tkV
    simp [Nat.add_comm]
  | succ m ih =>
    intro u hu hM h9 R
    by_cases h1 : u < 10
    · rw [dg_one h1, Lib.decDigits, dif_pos h1]
      show numV 0 M ((48 + u) :: R) = _
      unfold numV tkV
      have hc : (48 + (0 : Int) ≤ ((48 + u : Nat) : Int)) ∧ ((48 + u : Nat) : Int) ≤ 57 := by omega
      simp only [hc, and_self, if_true, List.tail_cons]
      have e : ((48 + u : Nat) : Int) - 48 = (u : Int) := by omega
      rw [e]
      simp [Nat.add_comm]
    · rw [dg_more h1, List.append_assoc, ih (u / 10) (by omega) (by omega) h9]
      have hl : (Lib.decDigits u).length = (Lib.decDigits (u / 10)).length + 1 := by
        conv => lhs; rw [Lib.decDigits, dif_neg h1]
        simp
      rw [hl]
      have hcond : (0 : Int) < ((u / 10 : Nat) : Int) ∧ 10 * ((u / 10 : Nat) : Int) ≤ M ∧ (48 : Int) ≤ ((48 + u % 10 : Nat) : Int) ∧ ((48 + u % 10 : Nat) : Int) ≤ 48 + min (M - 10 * ((u / 10 : Nat) : Int)) 9 := by omega
      have e : 10 * ((u / 10 : Nat) : Int) + (((48 + u % 10 : Nat) : Int) - 48) = (u : Int) := by omega
      show Got.mk (numMore M ((48 + u % 10) :: R) ((u / 10 : Nat) : Int)).1 true _ = _
      have en : numMore M ((48 + u % 10) :: R) ((u / 10 : Nat) : Int) = ((numMore M R u).1, (numMore M R u).2 + 1) := by
        rw [numMore, if_pos hcond, e]
      show Got.mk _ true ((Lib.decDigits (u / 10)).length + (numMore M ((48 + u % 10) :: R) ((u / 10 : Nat) : Int)).2) = _
      rw [en]
      simp only [Got.mk.injEq, true_and]
      omega
def Stops (R : List Nat) : Prop := R = [] ∨ ∃ c r, R = c :: r ∧ c < 48
theorem more_stop {M n : Int} {R : List Nat} (h : Stops R) : numMore M R n = (n, 0) := by
  rcases h with rfl | ⟨c, r, rfl, hc⟩
  · rfl
  · rw [numMore, if_neg (by omega)]
theorem num_text {n : Int} (h0 : 0 ≤ n) (h1 : n ≤ 9999999999999) {R : List Nat} (hR : Stops R) : numV 0 9999999999999 (dgB n ++ R) = ⟨n, true, (dgB n).length⟩ := by
  have e : Lib.itoa n = Lib.decDigits n.toNat := by unfold Lib.itoa; rw [if_neg (by omega)]
  have q := num_dig 9999999999999 n.toNat n.toNat (Nat.le_refl _) (by omega) (by omega) R
  unfold dgB
  rw [e, q, more_stop hR]
  simp only [Got.mk.injEq, true_and, List.length_map]
  omega
def wdB (x : SpV) : List Nat := (wordL x).map UInt8.toNat
theorem wd_is (x : SpV) : wdB x = if x.fr < x.to_ then dgB x.fr ++ 45 :: dgB x.to_ else dgB x.fr := by
  unfold wdB wordL wordB iB dgB
  split
  · simp
  · simp
theorem dg_len {n : Int} (h0 : 0 ≤ n) (h1 : n ≤ 1000000000000) : (dgB n).length ≤ 13 := by
  have e : Lib.itoa n = Lib.decDigits n.toNat := by unfold Lib.itoa; rw [if_neg (by omega)]
  unfold dgB
  rw [List.length_map, e, Lib.decDigits_length]
  exact nd_le 12 _ (by
    have : n.toNat ≤ 1000000000000 := by omega
    have e2 : 10 ^ (12 + 1) = 10000000000000 := by decide
    omega)
theorem wd_len {x : SpV} (h : 0 ≤ x.fr ∧ x.fr ≤ x.to_ ∧ x.to_ ≤ 1000000000000) : (wdB x).length ≤ 27 := by
  have a := dg_len h.1 (by omega); have b := dg_len (n := x.to_) (by omega) h.2.2
  rw [wd_is]
  split
  · simp only [List.length_append, List.length_cons]; omega
  · omega
theorem one_text {x : SpV} (h : 0 ≤ x.fr ∧ x.fr ≤ x.to_ ∧ x.to_ ≤ 1000000000000) {R : List Nat} (hR : R = [] ∨ ∃ r, R = 44 :: r) : oneV (wdB x ++ R) = (true, (wdB x).length, x) := by
  have hS : Stops R := by
    rcases hR with rfl | ⟨r, rfl⟩
    · exact .inl rfl
    · exact .inr ⟨44, r, rfl, by omega⟩
  rw [wd_is]
  by_cases hc : x.fr < x.to_
  · rw [if_pos hc]
    have e1 : numV 0 9999999999999 ((dgB x.fr ++ 45 :: dgB x.to_) ++ R) = ⟨x.fr, true, (dgB x.fr).length⟩ := by
      rw [List.append_assoc]
      exact num_text h.1 (by omega) (.inr ⟨45, dgB x.to_ ++ R, rfl, by omega⟩)
    have e2 : ((dgB x.fr ++ 45 :: dgB x.to_) ++ R).drop (dgB x.fr).length = 45 :: (dgB x.to_ ++ R) := by
      rw [List.append_assoc, List.drop_left]; rfl
    have e3 : ((dgB x.fr ++ 45 :: dgB x.to_) ++ R).drop ((dgB x.fr).length + 1) = dgB x.to_ ++ R := by
      rw [← List.drop_drop, e2]; rfl
    have e4 := num_text (n := x.to_) (by omega) (by omega) hS
    have e5 : wordV [45] (45 :: (dgB x.to_ ++ R)) = (true, 1) := by simp [wordV]
    unfold oneV
    simp only [e1, e2, e3, e4, e5, if_true]
    simp only [List.length_append, List.length_cons, Prod.mk.injEq, true_and]
    exact ⟨by omega, trivial⟩
  · rw [if_neg hc]
    have e1 := num_text (n := x.fr) h.1 (by omega) hS
    have e2 : (dgB x.fr ++ R).drop (dgB x.fr).length = R := List.drop_left
    have e5 : (wordV [45] R).1 = false := by
      rcases hR with rfl | ⟨r, rfl⟩
      · rfl
      · simp [wordV]
    unfold oneV
    simp only [e1, e2, e5, if_true]
    simp only [Bool.false_eq_true, if_false, Prod.mk.injEq, true_and]
    obtain ⟨f, t⟩ := x
    simp only at h hc ⊢
    exact congrArg _ (by omega)
def txB : List SpV → List Nat
  | [] => []
  | [x] => wdB x
  | x :: y :: r => wdB x ++ 44 :: txB (y :: r)
theorem tx_len : ∀ {L : List SpV}, InB L → (txB L).length ≤ 28 * L.length
  | [], _ => by simp [txB]
  | [x], h => by have := wd_len (h x (by simp)); simp [txB]; omega
  | x :: y :: r, h => by
    have a := wd_len (h x (by simp))
    have b := tx_len (L := y :: r) (fun z hz => h z (by simp [List.mem_cons.1 hz]))
    simp only [txB, List.length_append, List.length_cons] at *
    omega
theorem sps_text : ∀ {L : List SpV} (l : List SpV) (u : Nat), InB L → L ≠ [] → spsV (txB L) l u = (l ++ L, u + (txB L).length, true)
  | [], _, _, _, h => absurd rfl h
  | [x], l, u, h, _ => by
    have e := one_text (h x (by simp)) (R := []) (.inl rfl)
    rw [List.append_nil] at e
    show spsV (wdB x) l u = _
    rw [spsV_last (by rw [e]) (by rw [e]; simp [wordV]), e]
    rfl
  | x :: y :: r, l, u, h, _ => by
    have e := one_text (h x (by simp)) (R := 44 :: txB (y :: r)) (.inr ⟨_, rfl⟩)
    have ih := sps_text (L := y :: r) (l ++ [x]) (u + (wdB x).length + 1) (fun z hz => h z (by simp [List.mem_cons.1 hz])) (by simp)
    show spsV (wdB x ++ 44 :: txB (y :: r)) l u = _
    have ed : (wdB x ++ 44 :: txB (y :: r)).drop (wdB x).length = 44 :: txB (y :: r) := List.drop_left
    rw [spsV_more (by rw [e]) (by rw [e]; simp only [ed]; simp [wordV]), e]
    show spsV ((wdB x ++ 44 :: txB (y :: r)).drop ((wdB x).length + 1)) (l ++ [x]) (u + (wdB x).length + 1) = _
    rw [← List.drop_drop, ed]
    show spsV (txB (y :: r)) (l ++ [x]) (u + (wdB x).length + 1) = _
    rw [ih]
    simp only [txB, List.append_assoc, List.cons_append, List.nil_append, List.length_append, List.length_cons, Prod.mk.injEq, true_and, and_true]
    omega
theorem text_bytes : ∀ L : List SpV, (Lib.join (L.map wordL) [44]).map UInt8.toNat = txB L
  | [] => rfl
  | [x] => by simp [Lib.join_one, txB, wdB]
  | x :: y :: r => by
    have ih := text_bytes (y :: r)
    rw [List.map_cons, Lib.join_cons] at ih ⊢
    rw [List.map_cons]
    simp only [Lib.joinTail, List.map_cons, List.flatten_cons, List.map_append] at ih ⊢
    rw [txB, ← ih]
    simp only [wdB, List.append_assoc, List.cons_append, List.nil_append]
    rfl
theorem rem_text (L : List SpV) : rem (textB L) 0 = txB L := by
  unfold rem textB
  simp only [List.drop_zero]
  rw [← text_bytes]
theorem size_text (L : List SpV) : (textB L).size = (txB L).length := by
  rw [← rem_text, rem_len]; omega
theorem jn_self {A : List SpV} (hc : Canon A) : jnL (srtS A) = A := by
  obtain ⟨b1, b2, _⟩ := jn_ok (srtS A).length (Nat.le_refl _) (srtS_pw A) (fun x hx => hc.1 x ((srtS_perm A).mem_iff.1 hx))
  exact canon_ext b1 hc fun s => by rw [b2 s, cov_perm (srtS_perm A) s]
theorem read_text {A : List SpV} (h : chkS A = 0) : rdsR (textB A) = (A, 0, 0) := by
  obtain ⟨h1, h2, h3⟩ := chkS_ok h
  have hl := tx_len h2
  have e : rdR (textB A) = (A, 0, 0) := by
    unfold rdR
    rw [size_text, rem_text, if_neg (by omega)]
    by_cases hn : A = []
    · subst hn
      have e0 : spsV (txB []) [] 0 = ([], 0, true) := spsV_none rfl rfl
      rw [e0]; rfl
    · rw [sps_text [] 0 h2 hn, if_pos ⟨rfl, by simp⟩]; rfl
  unfold rdsR
  rw [e]
  simp only [↓reduceIte]
  have o1 : A.any outB = false := by
    rw [List.any_eq_false]
    intro x hx
    have := h2 x hx
    unfold outB
    rw [decide_eq_true (by omega), decide_eq_true (by omega)]; simp
  have o2 : A.any revB = false := by
    rw [List.any_eq_false]
    intro x hx
    have := h2 x hx
    unfold revB
    simp; omega
  rw [o1, o2, jn_self h3, if_neg (by simp), if_neg (by simp), if_neg (by omega)]

/-- What is made of sets is a set. -/
theorem chk_of {L : List SpV} (h1 : L.length ≤ 1000) (h2 : InB L) (h3 : Canon L) : chkS L = 0 := by
  have key : ∀ (L : List SpV) (f : Int), InB L → Canon L → (∀ x ∈ L, f ≤ x.fr) → spErr f L = 0 := by
    intro L
    induction L with
    | nil => intro _ _ _ _; rfl
    | cons x r ih =>
      intro f hb hc hf
      have a := hb x (by simp)
      have b := hf x (by simp)
      rw [spErr_cons, if_pos ⟨⟨by omega, by omega⟩, ⟨by omega, by omega⟩⟩, if_neg (by omega)]
      exact ih _ (fun y hy => hb y (by simp [hy])) hc.tail (fun y hy => hc.head.2 y hy)
  unfold chkS
  rw [if_neg (by omega)]
  exact key L 0 h2 h3 (fun x hx => (h2 x hx).1)
theorem cmb_inB {A B : List SpV} (ia : InB A) (ib : InB B) (ca : Canon A) (cb : Canon B) (how : Nat) : InB (cmbL A B how) := by
  obtain ⟨c1, c2, _⟩ := cmb_ok ca cb how
  intro x hx
  have hv := c1.1 x hx
  have pt : ∀ s, x.fr ≤ s → s ≤ x.to_ → 0 ≤ s ∧ s ≤ 1000000000000 := fun s h1 h2 => by
    have q := c2 s
    rw [cov_in.2 ⟨x, hx, h1, h2⟩] at q
    have : covS A s = true ∨ covS B s = true := by
      unfold keepH at q
      cases ha' : covS A s <;> cases hb' : covS B s <;> simp [ha', hb'] at q ⊢
    rcases this with h | h
    · obtain ⟨y, hy, e1, e2⟩ := cov_in.1 h; have := ia y hy; omega
    · obtain ⟨y, hy, e1, e2⟩ := cov_in.1 h; have := ib y hy; omega
  have a := pt x.fr (Int.le_refl _) hv; have b := pt x.to_ hv (Int.le_refl _)
  omega
theorem com_tight : ∀ (m : Nat) {a b : List SpV}, a.length + b.length ≤ m → (comL a b).length ≤ a.length + b.length - 1 := by
  intro m
  induction m with
  | zero =>
    intro a b hm
    have e : a = [] := List.eq_nil_of_length_eq_zero (by omega)
    subst e
    rw [comL]; simp
  | succ m ih =>
    intro a b hm
    match a, b, hm with
    | [], b, _ => rw [comL]; simp
    | x :: a, [], _ => rw [com_nil]; simp
    | x :: a, y :: b, hm =>
      simp only [List.length_cons] at hm
      rw [com_cons, List.length_append]
      have h1 : (if max x.fr y.fr ≤ min x.to_ y.to_ then [(⟨max x.fr y.fr, min x.to_ y.to_⟩ : SpV)] else []).length ≤ 1 := by split <;> simp
      have h2 : (if x.to_ < y.to_ then comL a (y :: b) else comL (x :: a) b).length ≤ a.length + b.length := by
        split
        · have := ih (a := a) (b := y :: b) (by simp only [List.length_cons]; omega)
          simp only [List.length_cons] at this; omega
        · have := ih (a := x :: a) (b := b) (by simp only [List.length_cons]; omega)
          simp only [List.length_cons] at this; omega
      simp only [List.length_cons]; omega
theorem cmb_len {A B : List SpV} (ia : InB A) (ib : InB B) (ca : Canon A) (cb : Canon B) : (cmbL A B 1).length ≤ A.length + B.length ∧ (cmbL A B 2).length ≤ A.length + B.length ∧ (cmbL A B 3).length ≤ A.length + B.length := by
  refine ⟨?_, ?_, ?_⟩
  · rw [← uni_is ca cb (srtS_perm (A ++ B)) (srtS_pw (A ++ B))]
    have hv : ∀ x ∈ srtS (A ++ B), x.fr ≤ x.to_ := fun x hx => by
      rcases List.mem_append.1 ((srtS_perm (A ++ B)).mem_iff.1 hx) with h | h
      · exact ca.1 x h
      · exact cb.1 x h
    have q := (jn_ok (srtS (A ++ B)).length (Nat.le_refl _) (srtS_pw (A ++ B)) hv).2.2.2
    have e := (srtS_perm (A ++ B)).length_eq
    rw [List.length_append] at e
    omega
  · rw [← com_is ca cb]
    have := com_tight _ (a := A) (b := B) (Nat.le_refl _); omega
  · rw [← less_is_ ca cb ia ib]
    have g := (gap_ok (L := B) (f := 0) (Int.le_refl _) cb ib (fun x hx => (ib x hx).1)).2.2.2
    have := com_tight _ (a := A) (b := gapL 0 B) (Nat.le_refl _); omega
/-- A set's size is how many numbers are in it. -/
theorem siz_cnt (N : Nat) : ∀ (m : Nat) {L : List SpV}, L.length ≤ m → Canon L → (∀ x ∈ L, 0 ≤ x.fr ∧ x.to_ < N) → sizS L = cntS (covS L) N := by
  intro m
  induction m with
  | zero =>
    intro L hm _ _
    have e : L = [] := List.eq_nil_of_length_eq_zero (by omega)
    subst e
    have := cnt_more (covS []) false (n := 0) (m := N) (by omega) (fun _ _ _ => rfl)
    rw [this]; simp [sizS, cntS]
  | succ m ih =>
    intro L hm hc hb
    rcases Nat.lt_or_ge L.length (m + 1) with h | h
    · exact ih (by omega) hc hb
    · obtain ⟨K, x, rfl⟩ : ∃ K x, L = K ++ [x] := ⟨L.dropLast, L.getLast (fun e => by subst e; simp at h), (List.dropLast_concat_getLast _).symm⟩
      simp only [List.length_append, List.length_cons, List.length_nil] at hm
      obtain ⟨p1, _, p3⟩ := List.pairwise_append.1 hc.2
      have hK : Canon K := ⟨fun y hy => hc.1 y (by simp [hy]), p1⟩
      have i1 := ih (L := K) (by omega) hK (fun y hy => hb y (by simp [hy]))
      have bx := hb x (by simp)
      have vx := hc.1 x (by simp)
      have q := cnt_add (f := covS K) (g := covS (K ++ [x])) (u := x.fr) (v := x.to_ + 1) bx.1 (n := N) (by omega) (fun s h0 => by
        rw [cov_app]
        congr 1
        unfold inSp
        rw [decide_eq_decide]; omega) (fun s h1 h2 => cov_gt fun y hy => by have := p3 y hy x (by simp); omega)
      rw [q, ← i1]
      unfold sizS
      rw [List.foldl_append]
      simp only [List.foldl_cons, List.foldl_nil]
      omega
theorem cnt_lin {f g h k : Int → Bool} : ∀ {n : Nat}, (∀ s : Int, ((if f s = true then 1 else 0 : Int) + if g s = true then 1 else 0) = (if h s = true then 1 else 0) + if k s = true then 1 else 0) → cntS f n + cntS g n = cntS h n + cntS k n
  | 0, _ => rfl
  | n + 1, H => by
    have ih := cnt_lin (n := n) H
    have := H n
    unfold cntS
    omega
theorem siz_adds {A B : List SpV} (ia : InB A) (ib : InB B) (ca : Canon A) (cb : Canon B) :
    sizS (cmbL A B 1) + sizS (cmbL A B 2) = sizS A + sizS B ∧ sizS (cmbL A B 3) + sizS (cmbL A B 2) = sizS A := by
  obtain ⟨N, hN⟩ : ∃ N : Nat, (N : Int) = 1000000000001 := ⟨1000000000001, rfl⟩
  have cnt : ∀ {L : List SpV}, Canon L → InB L → sizS L = cntS (covS L) N := fun {L} hc hb => siz_cnt N _ (Nat.le_refl _) hc (fun x hx => by have := hb x hx; omega)
  obtain ⟨u1, u2, _⟩ := cmb_ok ca cb 1
  obtain ⟨c1, c2, _⟩ := cmb_ok ca cb 2
  obtain ⟨l1, l2, _⟩ := cmb_ok ca cb 3
  have eu := cnt u1 (cmb_inB ia ib ca cb 1); have ec := cnt c1 (cmb_inB ia ib ca cb 2); have el := cnt l1 (cmb_inB ia ib ca cb 3)
  have ea := cnt ca ia; have eb := cnt cb ib
  rw [eu, ec, el, ea, eb]
  refine ⟨cnt_lin fun s => ?_, ?_⟩
  · rw [u2 s, c2 s]
    unfold keepH
    cases covS A s <;> cases covS B s <;> rfl
  · have z : cntS (fun _ => false) N = 0 := by
      have := cnt_more (fun _ => false) false (n := 0) (m := N) (by omega) (fun _ _ _ => rfl)
      rw [this]; simp [cntS]
    have q := cnt_lin (f := covS (cmbL A B 3)) (g := covS (cmbL A B 2)) (h := covS A) (k := fun _ => false) (n := N) (fun s => by
      rw [l2 s, c2 s]
      unfold keepH
      cases covS A s <;> cases covS B s <;> rfl)
    rw [z, Int.add_zero] at q
    exact q
end Go.Proofs.YtbacoopopokkfaaDoor

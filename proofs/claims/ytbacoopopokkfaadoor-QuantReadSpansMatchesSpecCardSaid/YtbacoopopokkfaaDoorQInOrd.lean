/- The contract of the reference's inOrder. -/
import Derived.Test.YtbacoopopokkfaaDoorQSetG
import Derived.Deep.RegionHeld3
import Derived.BigQuiet
namespace Go.Proofs.YtbacoopopokkfaaDoor
open Go.RowKit Go.Shelf
set_option linter.unusedSimpArgs false
set_option linter.unusedVariables false

attribute [local go_sem] Oper.semAt_some
theorem rows_takeS {w : World} {ao : Option Addr} {L : List SpV} (h : RowsAt spCs 2 w ao L) (m : Nat) (hm : m ≤ L.length) : RowsAt spCs 2 w ao (L.take m) :=
  ⟨fun e => by rw [h.nil e]; simp, fun a e hne => h.spot a e (fun e2 => hne (by rw [e2]; simp)), fun a e i hi k v hv => by
    have hi2 : i < L.length := by simp only [List.length_take] at hi; omega
    exact h.cells a e i hi2 k v (by rw [List.getElem_take] at hv; exact hv)⟩
theorem rows_dropS {w : World} {b o : Nat} {L : List SpV} (h : RowsAt spCs 2 w (some ⟨b, o, none⟩) L) (m : Nat) : RowsAt spCs 2 w (some ⟨b, o + m * 2, none⟩) (L.drop m) :=
  ⟨fun e => (by cases e), fun a e _ => (by cases e; rfl), fun a e i hi k v hv => by
    cases e
    have hi2 : m + i < L.length := by simp only [List.length_drop] at hi; omega
    have q := h.cells _ rfl (m + i) hi2 k v (by rw [List.getElem_drop] at hv; exact hv)
    have e : o + (m + i) * 2 + k = o + m * 2 + i * 2 + k := by rw [Nat.add_mul]; omega
    simp only at q ⊢
    rw [e] at q; exact q⟩
def leS (x y : SpV) : Bool := decide (x.fr ≤ y.fr)
theorem mrgS_nil (l : List SpV) : List.merge l [] leS = l := by cases l <;> simp [List.merge]
theorem mrgS_nil2 (l : List SpV) : List.merge [] l leS = l := by cases l <;> simp [List.merge]
theorem mrgS_a {x y : SpV} {xs ys : List SpV} (h : x.fr ≤ y.fr) : List.merge (x :: xs) (y :: ys) leS = x :: List.merge xs (y :: ys) leS := by rw [List.cons_merge_cons, if_pos (show leS x y = true from decide_eq_true h)]
theorem mrgS_b {x y : SpV} {xs ys : List SpV} (h : ¬ x.fr ≤ y.fr) : List.merge (x :: xs) (y :: ys) leS = y :: List.merge (x :: xs) ys leS := by rw [List.cons_merge_cons, if_neg (by unfold leS; simp only [decide_eq_true_eq]; exact h)]
theorem mrgS_ok {A B L1 L2 : List SpV} (ha : A.Perm L1) (hb : B.Perm L2) (sa : A.Pairwise fun x y => x.fr ≤ y.fr) (sb : B.Pairwise fun x y => x.fr ≤ y.fr) : (List.merge A B leS).Perm (L1 ++ L2) ∧ (List.merge A B leS).Pairwise fun x y => x.fr ≤ y.fr := by
  refine ⟨(List.merge_perm_append leS).trans (List.Perm.append ha hb), ?_⟩
  have q := List.pairwise_merge (le := leS) (fun x y z h1 h2 => by unfold leS at *; simp only [decide_eq_true_eq] at *; omega) (fun x y => by unfold leS; simp only [Bool.or_eq_true, decide_eq_true_eq]; omega) A B (sa.imp fun h => decide_eq_true h) (sb.imp fun h => decide_eq_true h)
  exact q.imp fun h => of_decide_eq_true h

def lenS (v : Value) : Nat := match v with | .slice _ n _ => n | _ => 0
theorem rows_nextS {w : World} {g o c : Nat} {x : SpV} {A : List SpV} (h : RowsAt spCs 2 w (some ⟨g, o, none⟩) (x :: A)) (hc : A.length + 1 ≤ c) : RowsAt spCs 2 w (if c = 1 then some ⟨g, o, none⟩ else some ⟨g, o + 2, none⟩) A := by
  split
  · have e : A = [] := List.eq_nil_of_length_eq_zero (by omega)
    subst e
    exact rows_empty _
  · exact rows_dropS h 1

set_option maxRecDepth 100000 in
set_option maxHeartbeats 6400000 in
theorem inOrder_is : ∀ (m : Nat) (ao : Option Addr) (cap : Nat) (L : List SpV), L.length ≤ m → L.length ≤ 100000 → L.length ≤ cap → ∀ (w : World), RowsAt spCs 2 w ao L →
    Calls Tryd.prog 36 #[.slice ao L.length cap] w fun e w' => (∃ (po : Option Addr) (pc : Nat) (S : List SpV), e = .returned (.slice po S.length pc) ∧ S.length ≤ pc ∧ RowsAt spCs 2 w' po S ∧ S.Perm L ∧ S.Pairwise fun x y => x.fr ≤ y.fr) ∧ w.grownBy w' none := by
  intro m
  induction m with
  | zero =>
    intro ao cap L hm hl hc w hs
    have e : L = [] := List.eq_nil_of_length_eq_zero (by omega)
    subst e
    go_enter Tryd.func36, Tryd.ntmps36
    go_wp2_with fail
    go_ret
    exact ⟨⟨ao, cap, [], rfl, Nat.zero_le _, hs, List.Perm.refl _, List.Pairwise.nil⟩, World.grownBy.refl _ _⟩
  | succ m ih =>
    intro ao cap L hm hl hc w hs
    by_cases h2 : L.length < 2
    · have h2i : (L.length : Int) < 2 := by omega
      have HP : Hid (L.Pairwise fun x y => x.fr ≤ y.fr) := by
        match L, h2 with
        | [], _ => exact List.Pairwise.nil
        | [x], _ => exact List.pairwise_singleton _ _
      have HS := Lib.hid hs
      clear hs ih
      go_enter Tryd.func36, Tryd.ntmps36
      go_wp2_with fail
      go_ret
      exact ⟨⟨ao, cap, L, rfl, hc, HS.out, List.Perm.refl _, HP.out⟩, World.grownBy.refl _ _⟩
    · obtain ⟨b1, o1, rfl, _⟩ := sp_at hs (by omega)
      obtain ⟨h, hh⟩ : ∃ h, L.length / 2 = h := ⟨_, rfl⟩
      have h2i : ¬ (L.length : Int) < 2 := by omega
      have hq : (L.length : Int) / 2 = (h : Int) := by omega
      have rw2 : IntKind.i64.wrap (h : Int) = (h : Int) := IntWalk.i64_in _ (by omega)
      have g0 : (0 : Int) ≤ (h : Int) := by omega
      have g1 : (h : Int) ≤ (L.length : Int) := by omega
      have g2 : h ≤ L.length := by omega
      have g3 : h ≤ cap := by omega
      have g4 : ¬ cap = h := by omega
      have g5 : ¬ cap - h = 0 := by omega
      have HC1 : Hid (∀ W, w.grownBy W none → Calls Tryd.prog 36 #[.slice (some ⟨b1, o1, none⟩) h cap] W fun e w' => (∃ (po : Option Addr) (pc : Nat) (S : List SpV), e = .returned (.slice po S.length pc) ∧ S.length ≤ pc ∧ RowsAt spCs 2 w' po S ∧ S.Perm (L.take h) ∧ S.Pairwise fun x y => x.fr ≤ y.fr) ∧ W.grownBy w' none) := fun W hg => by
        have q := ih (some ⟨b1, o1, none⟩) cap (L.take h) (by simp; omega) (by simp; omega) (by simp; omega) W ((rows_takeS hs h g2).grown hg)
        have e : (L.take h).length = h := by simp; omega
        rw [e] at q; exact q
      have HC2 : Hid (∀ W, w.grownBy W none → Calls Tryd.prog 36 #[.slice (some ⟨b1, o1 + h * 2, none⟩) (L.length - h) (cap - h)] W fun e w' => (∃ (po : Option Addr) (pc : Nat) (S : List SpV), e = .returned (.slice po S.length pc) ∧ S.length ≤ pc ∧ RowsAt spCs 2 w' po S ∧ S.Perm (L.drop h) ∧ S.Pairwise fun x y => x.fr ≤ y.fr) ∧ W.grownBy w' none) := fun W hg => by
        have q := ih (some ⟨b1, o1 + h * 2, none⟩) (cap - h) (L.drop h) (by simp; omega) (by simp; omega) (by simp; omega) W ((rows_dropS hs h).grown hg)
        rw [List.length_drop] at q; exact q
      have HLS : Hid (L.take h ++ L.drop h = L) := List.take_append_drop h L
      obtain ⟨i0, hi, hz0, hz1, hz2⟩ := info_parts zero_sp
      have HI0 := Lib.hid hi; have HZ0 := Lib.hid hz0; have HZ1 := Lib.hid hz1; have HZ2 := Lib.hid hz2
      clear hi hz0 hz1 hz2 hs ih hh
      go_enter Tryd.func36, Tryd.ntmps36
      go_wp2_with fail
      refine wp_region_noPanic ?_
      refine wp_region_held_drew (S := fun V => World.grownBy w V none) (by kernel_rfl) (⟨rfl, rfl, rfl, Nat.le_refl _, fun _ _ _ => rfl⟩) (fun hHeld => ?_)
      refine wpAnyH_take (i := 0) (oi := ?oi0) (v := .slice (some ⟨b1, o1, none⟩) L.length cap) ?hi0 (by kernel_rfl) (by kernel_rfl) (by kernel_rfl) ?hq0 ?hy0 hHeld ?rest0
      case hi0 => simp only [List.getElem?_toArray, List.getElem?_cons_succ, List.getElem?_cons_zero, Option.some.injEq]; rfl
      case hq0 => exact fun _ _ _ h => h
      case hy0 =>
        refine Or.inl ⟨by kernel_rfl, fun V hV => ?_⟩
        clear hV hHeld
        go_simp
      try simp only [Go.Act.put, List.setIfInBounds_toArray, List.set_cons_zero, List.set_cons_succ]
      refine wpAnyH_take (i := 1) (oi := ?oi1) (v := .slice (some ⟨b1, o1, none⟩) L.length cap) ?hi1 (by kernel_rfl) (by kernel_rfl) (by kernel_rfl) ?hq1 ?hy1 hHeld ?rest1
      case hi1 => simp only [List.getElem?_toArray, List.getElem?_cons_succ, List.getElem?_cons_zero, Option.some.injEq]; rfl
      case hq1 => exact fun _ _ _ h => h
      case hy1 =>
        refine Or.inl ⟨by kernel_rfl, fun V hV => ?_⟩
        clear hV hHeld
        go_simp
      try simp only [Go.Act.put, List.setIfInBounds_toArray, List.set_cons_zero, List.set_cons_succ]
      refine wpAnyH_take (i := 2) (oi := ?oi2) (v := .int .i64 (L.length : Int)) ?hi2 (by kernel_rfl) (by kernel_rfl) (by kernel_rfl) ?hq2 ?hy2 hHeld ?rest2
      case hi2 => simp only [List.getElem?_toArray, List.getElem?_cons_succ, List.getElem?_cons_zero, Option.some.injEq]; rfl
      case hq2 => exact fun _ _ _ h => h
      case hy2 =>
        refine Or.inl ⟨by kernel_rfl, fun V hV => ?_⟩
        clear hV hHeld
        go_simp
      try simp only [Go.Act.put, List.setIfInBounds_toArray, List.set_cons_zero, List.set_cons_succ]
      refine wpAnyH_take (i := 3) (oi := ?oi3) (v := .int .i64 (h : Int)) ?hi3 (by kernel_rfl) (by kernel_rfl) (by kernel_rfl) ?hq3 ?hy3 hHeld ?rest3
      case hi3 => simp only [List.getElem?_toArray, List.getElem?_cons_succ, List.getElem?_cons_zero, Option.some.injEq]; rfl
      case hq3 => exact fun _ _ _ h => h
      case hy3 =>
        refine Or.inl ⟨by kernel_rfl, fun V hV => ?_⟩
        clear hV hHeld
        go_simp
      try simp only [Go.Act.put, List.setIfInBounds_toArray, List.set_cons_zero, List.set_cons_succ]
      refine wpAnyH_take (i := 4) (oi := ?oi4) (v := .slice (some ⟨b1, o1, none⟩) h cap) ?hi4 (by kernel_rfl) (by kernel_rfl) (by kernel_rfl) ?hq4 ?hy4 hHeld ?rest4
      case hi4 => simp only [List.getElem?_toArray, List.getElem?_cons_succ, List.getElem?_cons_zero, Option.some.injEq]; rfl
      case hq4 => exact fun _ _ _ h => h
      case hy4 =>
        refine Or.inl ⟨by kernel_rfl, fun V hV => ?_⟩
        clear hV hHeld
        go_simp
      try simp only [Go.Act.put, List.setIfInBounds_toArray, List.set_cons_zero, List.set_cons_succ]
      refine wpAnyH_take (i := 6) (oi := ?oi6) (v := .slice (some ⟨b1, o1, none⟩) L.length cap) ?hi6 (by kernel_rfl) (by kernel_rfl) (by kernel_rfl) ?hq6 ?hy6 hHeld ?rest6
      case hi6 => simp only [List.getElem?_toArray, List.getElem?_cons_succ, List.getElem?_cons_zero, Option.some.injEq]; rfl
      case hq6 => exact fun _ _ _ h => h
      case hy6 =>
        refine Or.inl ⟨by kernel_rfl, fun V hV => ?_⟩
        clear hV hHeld
        go_simp
      try simp only [Go.Act.put, List.setIfInBounds_toArray, List.set_cons_zero, List.set_cons_succ]
      refine wpAnyH_take (i := 7) (oi := ?oi7) (v := .slice (some ⟨b1, o1, none⟩) L.length cap) ?hi7 (by kernel_rfl) (by kernel_rfl) (by kernel_rfl) ?hq7 ?hy7 hHeld ?rest7
      case hi7 => simp only [List.getElem?_toArray, List.getElem?_cons_succ, List.getElem?_cons_zero, Option.some.injEq]; rfl
      case hq7 => exact fun _ _ _ h => h
      case hy7 =>
        refine Or.inl ⟨by kernel_rfl, fun V hV => ?_⟩
        clear hV hHeld
        go_simp
      try simp only [Go.Act.put, List.setIfInBounds_toArray, List.set_cons_zero, List.set_cons_succ]
      refine wpAnyH_take (i := 8) (oi := ?oi8) (v := .int .i64 (L.length : Int)) ?hi8 (by kernel_rfl) (by kernel_rfl) (by kernel_rfl) ?hq8 ?hy8 hHeld ?rest8
      case hi8 => simp only [List.getElem?_toArray, List.getElem?_cons_succ, List.getElem?_cons_zero, Option.some.injEq]; rfl
      case hq8 => exact fun _ _ _ h => h
      case hy8 =>
        refine Or.inl ⟨by kernel_rfl, fun V hV => ?_⟩
        clear hV hHeld
        go_simp
      try simp only [Go.Act.put, List.setIfInBounds_toArray, List.set_cons_zero, List.set_cons_succ]
      refine wpAnyH_take (i := 9) (oi := ?oi9) (v := .int .i64 (h : Int)) ?hi9 (by kernel_rfl) (by kernel_rfl) (by kernel_rfl) ?hq9 ?hy9 hHeld ?rest9
      case hi9 => simp only [List.getElem?_toArray, List.getElem?_cons_succ, List.getElem?_cons_zero, Option.some.injEq]; rfl
      case hq9 => exact fun _ _ _ h => h
      case hy9 =>
        refine Or.inl ⟨by kernel_rfl, fun V hV => ?_⟩
        clear hV hHeld
        go_simp
      try simp only [Go.Act.put, List.setIfInBounds_toArray, List.set_cons_zero, List.set_cons_succ]
      refine wpAnyH_take (i := 10) (oi := ?oi10) (v := .slice (some ⟨b1, o1 + h * 2, none⟩) (L.length - h) (cap - h)) ?hi10 (by kernel_rfl) (by kernel_rfl) (by kernel_rfl) ?hq10 ?hy10 hHeld ?rest10
      case hi10 => simp only [List.getElem?_toArray, List.getElem?_cons_succ, List.getElem?_cons_zero, Option.some.injEq]; rfl
      case hq10 => exact fun _ _ _ h => h
      case hy10 =>
        refine Or.inl ⟨by kernel_rfl, fun V hV => ?_⟩
        clear hV hHeld
        go_simp
      try simp only [Go.Act.put, List.setIfInBounds_toArray, List.set_cons_zero, List.set_cons_succ]
      refine wpAnyH_ready (rs := [5]) (by kernel_rfl) (by simp) ?_
      refine AllReadyH.cons rfl (fun K hK => ?_) AllReadyH.nil
      go_simp
      refine (HC1.out w.drew (grown_drewN w none 1)).mono ?_
      rintro e w1 ⟨⟨pa, ca, A, rfl, hla, hra, hpa, hsa⟩, hg1⟩
      have HG1 : Hid (w.grownBy w1 none) := grown_trans (show World.grownBy w w.drew none from grown_drewN w none 1) hg1
      refine hK.out _ _ HG1.out (fun hHeld => ?_)
      have HRA := Lib.hid hra; have HPA := Lib.hid hpa; have HSA := Lib.hid hsa; have HLA := Lib.hid hla
      clear hK hra hpa hsa hla hg1
      try simp only [Go.Act.put, List.getElem_toArray, List.getElem_cons_zero, List.getElem_cons_succ, List.setIfInBounds_toArray, List.set_cons_zero, List.set_cons_succ]
      refine wpAnyH_ready (rs := [11]) (by kernel_rfl) (by simp) ?_
      refine AllReadyH.cons rfl (fun K hK => ?_) AllReadyH.nil
      go_simp
      refine (HC2.out w1 HG1.out).mono ?_
      rintro e w2 ⟨⟨pb, cb, B, rfl, hlb, hrb, hpb, hsb⟩, hg2⟩
      have HG2 := Lib.hid (grown_trans HG1.out hg2)
      have HRA2 := Lib.hid (HRA.out.grown hg2)
      refine hK.out _ _ HG2.out (fun hHeld => ?_)
      have HRB := Lib.hid hrb; have HPB := Lib.hid hpb; have HSB := Lib.hid hsb; have HLB := Lib.hid hlb
      clear hK hrb hpb hsb hlb hg2 HRA HG1 HC1 HC2
      try simp only [Go.Act.put, List.getElem_toArray, List.getElem_cons_zero, List.getElem_cons_succ, List.setIfInBounds_toArray, List.set_cons_zero, List.set_cons_succ]
      refine wpAnyH_take (i := 12) (oi := ?oi12) (v := .slice pa A.length ca) ?hi12 (by kernel_rfl) (by kernel_rfl) (by kernel_rfl) ?hq12 ?hy12 hHeld ?rest12
      case hi12 => simp only [List.getElem?_toArray, List.getElem?_cons_succ, List.getElem?_cons_zero, Option.some.injEq]; rfl
      case hq12 => exact fun _ _ _ h => h
      case hy12 =>
        refine Or.inl ⟨by kernel_rfl, fun V hV => ?_⟩
        clear hV hHeld
        go_simp
      try simp only [Go.Act.put, List.setIfInBounds_toArray, List.set_cons_zero, List.set_cons_succ]
      refine wpAnyH_take (i := 13) (oi := ?oi13) (v := .slice pb B.length cb) ?hi13 (by kernel_rfl) (by kernel_rfl) (by kernel_rfl) ?hq13 ?hy13 hHeld ?rest13
      case hi13 => simp only [List.getElem?_toArray, List.getElem?_cons_succ, List.getElem?_cons_zero, Option.some.injEq]; rfl
      case hq13 => exact fun _ _ _ h => h
      case hy13 =>
        refine Or.inl ⟨by kernel_rfl, fun V hV => ?_⟩
        clear hV hHeld
        go_simp
      try simp only [Go.Act.put, List.setIfInBounds_toArray, List.set_cons_zero, List.set_cons_succ]
      refine wpAnyH_done (by kernel_rfl) ?_ _
      refine NoPanic.normal ?_
      clear hHeld
      go_wp2_with fail
      have HBA0 : Hid (∀ a, pa = some a → A ≠ [] → a.block < w2.heap.size) := fun a e hne => by
        subst e
        obtain ⟨g, o, e2, hc⟩ := sp_at HRA2.out (List.length_pos_iff.2 hne)
        cases e2
        exact World.block_lt_of_cell? w2 _ (hc 0 (List.length_pos_iff.2 hne)).1
      have HBB0 : Hid (∀ a, pb = some a → B ≠ [] → a.block < w2.heap.size) := fun a e hne => by
        subst e
        obtain ⟨g, o, e2, hc⟩ := sp_at HRB.out (List.length_pos_iff.2 hne)
        cases e2
        exact World.block_lt_of_cell? w2 _ (hc 0 (List.length_pos_iff.2 hne)).1
      have HAB : Hid (A.length + B.length = L.length) := by
        show _ = _
        have q1 := HPA.out.length_eq; have q2 := HPB.out.length_eq
        have q3 := congrArg List.length HLS.out
        rw [List.length_append] at q3
        omega
      go_loopw [3, 4, 5] (fun av bv ov wr => (∃ (A' B' out : List SpV) (pa' pb' : Option Addr) (ca' cb' : Nat) (v : Value), av = .slice pa' A'.length ca' ∧ bv = .slice pb' B'.length cb' ∧ v = ov ∧ Hid (A'.length ≤ ca') ∧ Hid (B'.length ≤ cb') ∧ Hid (RowsAt spCs 2 wr pa' A') ∧ Hid (RowsAt spCs 2 wr pb' B') ∧ Hid (out ++ List.merge A' B' leS = List.merge A B leS) ∧ Hid (SpOwn w2.heap.size wr v out) ∧ Hid (∀ a, pa' = some a → A' ≠ [] → a.block < w2.heap.size) ∧ Hid (∀ a, pb' = some a → B' ≠ [] → a.block < w2.heap.size) ∧ Hid (out.length + A'.length + B'.length ≤ 100000)) ∧ Hid (w2.grownBy wr none)) (fun av bv _ _ => lenS av + lenS bv)
      case atStart => exact ⟨⟨A, B, [], pa, pb, ca, cb, _, rfl, rfl, rfl, HLA.out, HLB.out, HRA2.out, HRB.out, rfl, SpOwn.nil _ _, HBA0.out, HBB0.out, (by have := HAB.out; show _ ≤ _; simp; omega)⟩, World.grownBy.refl _ _⟩
      case round =>
        clear HRA2 HRB HBA0 HBB0 HLA HLB
        obtain ⟨⟨A', B', out, pa', pb', ca', cb', v, rfl, rfl, rfl, hca, hcb, hra, hrb, hd, ho, HBA, HBB, hlen⟩, hg⟩ := hrel
        have HOL2 := Lib.hid hlen.out
        have HOL : Hid (out.length ≤ 100000) := by have := hlen.out; show _ ≤ _; omega
        cases A' with
        | nil =>
          cases B' with
          | nil =>
            have HD : Hid (out = List.merge A B leS) := by
              have q := hd.out
              rw [mrgS_nil, List.append_nil] at q; exact q
            obtain ⟨vo, vc, rfl, hvr⟩ := ho.out.rows
            obtain ⟨po, pc, e, hle, _, _⟩ := own_rows spCs_len (show wr.ownsRow w2.heap.size 37 2 (.slice vo out.length vc) out.length (out.flatMap spCs) from ho.out)
            have HLE : Hid (out.length ≤ vc) := by
              simp only [Value.slice.injEq] at e
              show _ ≤ _; omega
            have HVR := Lib.hid hvr
            have HM := Lib.hid (mrgS_ok HPA.out HPB.out HSA.out HSB.out)
            clear hd e hle hvr
            go_wp2_with fail
            go_ret
            exact ⟨⟨vo, vc, out, rfl, HLE.out, HVR.out, by rw [HD.out, ← HLS.out]; exact HM.out.1, by rw [HD.out]; exact HM.out.2⟩, grown_trans HG2.out hg.out⟩
          | cons y B2 =>
            obtain ⟨gb, ob, rfl, qb⟩ := sp_at hrb.out (by simp)
            obtain ⟨y0, y1⟩ := qb 0 (by simp)
            simp only [List.getElem_cons_zero, Nat.zero_mul, Nat.add_zero] at y0 y1
            have HD : Hid ((out ++ [y]) ++ List.merge [] B2 leS = List.merge A B leS) := by
              have q := hd.out
              rw [mrgS_nil2] at q
              show _ = _
              rw [mrgS_nil2, List.append_assoc]; exact q
            obtain ⟨yf, yt⟩ := y
            simp only at y0 y1
            simp only [List.length_cons, List.length_nil] at *
            have qb0 : ((B2.length : Int) + 1 == 0) = false := by rw [beq_eq_false_iff_ne]; omega
            have qb1 : decide ((0 : Int) < (B2.length : Int) + 1) = true := decide_eq_true (by omega)
            clear qb hd
            as_aux_lemma =>
              go_wp2_with fail
              go_quiet (fail)
              have G6 : Hid (wr.grownBy (wr.drewN nq) none) := grown_drewN _ none nq
              generalize wr.drewN nq = W6 at *
              have HG6 := Lib.hid (grown_trans hg.out G6.out)
              have HO6 := Lib.hid (ho.out.keep G6.out)
              have HA6 := Lib.hid (hra.out.grown G6.out); have HB6 := Lib.hid (hrb.out.grown G6.out)
              have HSZ6 := Lib.hid HG6.out.size
              have HL6 := Lib.hid HO6.out.lt
              have f0 := G6.out.cell y0 (by simp); have f1 := G6.out.cell y1 (by simp)
              clear y0 y1 hg ho hra hrb G6
              obtain ⟨nx, hnx⟩ : ∃ nx, (if cb' = 1 then some (⟨gb, ob, none⟩ : Addr) else some ⟨gb, ob + 2, none⟩) = nx := ⟨_, rfl⟩
              have HNXR : Hid (RowsAt spCs 2 W6 nx B2) := by show RowsAt _ _ _ _ _; rw [← hnx]; exact rows_nextS HB6.out hcb.out
              have HBN : Hid (∀ a, nx = some a → B2 ≠ [] → a.block < w2.heap.size) := fun a e hne => by
                rw [← hnx] at e
                split at e
                · exact HBB.out ⟨gb, ob, none⟩ rfl (by simp) |> fun q => by cases e; exact q
                · exact HBB.out ⟨gb, ob, none⟩ rfl (by simp) |> fun q => by cases e; exact q
              have hn1 : B2.length + 1 ≤ cb' := hcb.out
              have hnI : (1 : Int) ≤ (B2.length : Int) + 1 := by omega
              have hnI0 : (0 : Int) < (B2.length : Int) + 1 := by omega
              have hout : out.length ≤ 100000 := HOL.out
              have hi := HI0.out; have hz0 := HZ0.out; have hz1 := HZ1.out; have hz2 := HZ2.out
              go_wp2_with (at_builtin; refine wpList_append_own _ rfl _ _ 22 rfl w2.heap.size 37 i0 (.agg #[.int .i64 0, .int .i64 0]) 2 16 Tryd.underlying22 hi hz0 hz1 hz2 rfl (by decide) _ out.length _ rfl (HO6.out.alloc _) ⟨W6.heap.size, 0, none⟩ 1 1 [.int .i64 yf, .int .i64 yt] rfl rfl (World.news_of_block (cs := #[.int .i64 yf, .int .i64 yt]) (t := 37) (fr := (0, 0)) (mheap_new W6 _)) (by simp [Value.oneCell']) (by unfold maxLen; omega) (by omega) (by have := HSZ6.out; simp; omega) ?_; intro v' w3 hown' hgrow' _; have HN := Lib.hid (SpOwn.more hown'); have GX := World.grownBy_alloc W6 (.cells #[.int .i64 yf, .int .i64 yt] 37) none; have HG10 := Lib.hid (grown_anyS (grown_trans HG6.out GX) hgrow' (fun r e => (HL6.out r e).1)); have KR := Lib.hid (fun (po : Option Addr) (Z : List SpV) (hz : RowsAt spCs 2 W6 po Z) (hb : ∀ a, po = some a → Z ≠ [] → a.block < w2.heap.size) => (hz.grown GX).kept hgrow' (fun a e hne => fun e2 => absurd (hb a e hne) (Nat.not_lt.2 (HL6.out _ e2.symm).1))); clear hown' hgrow' hi hz0 hz1 hz2 GX)
              go_wp2_with fail
              go_roundw
              case rel => exact ⟨⟨([] : List SpV), B2, _, pa', nx, ca', _, v', rfl, rfl, rfl, hca.out, (by show _ ≤ _; have := hcb.out; omega), KR.out _ _ HA6.out HBA.out, KR.out _ _ HNXR.out HBN.out, HD.out, HN.out, HBA.out, HBN.out, (by have := HOL.out; have := HOL2.out; show _ ≤ _; simp at *; omega)⟩, HG10.out⟩
              case measure => simp [lenS]
        | cons x A2 =>
          obtain ⟨ga, oa, rfl, qa⟩ := sp_at hra.out (by simp)
          obtain ⟨x0, x1⟩ := qa 0 (by simp)
          simp only [List.getElem_cons_zero, Nat.zero_mul, Nat.add_zero] at x0 x1
          obtain ⟨xf, xt⟩ := x
          simp only at x0 x1
          have qa0 : ((A2.length : Int) + 1 == 0) = false := by rw [beq_eq_false_iff_ne]; omega
          have qa1 : decide ((0 : Int) < (A2.length : Int) + 1) = true := decide_eq_true (by omega)
          clear qa
          cases B' with
          | nil =>
            have HD : Hid ((out ++ [⟨xf, xt⟩]) ++ List.merge A2 [] leS = List.merge A B leS) := by
              have q := hd.out
              rw [mrgS_nil] at q
              show _ = _
              rw [mrgS_nil, List.append_assoc]; exact q
            simp only [List.length_cons, List.length_nil] at *
            clear hd
            as_aux_lemma =>
              go_wp2_with fail
              go_quiet (fail)
              have G6 : Hid (wr.grownBy (wr.drewN nq) none) := grown_drewN _ none nq
              generalize wr.drewN nq = W6 at *
              have HG6 := Lib.hid (grown_trans hg.out G6.out)
              have HO6 := Lib.hid (ho.out.keep G6.out)
              have HA6 := Lib.hid (hra.out.grown G6.out); have HB6 := Lib.hid (hrb.out.grown G6.out)
              have HSZ6 := Lib.hid HG6.out.size
              have HL6 := Lib.hid HO6.out.lt
              have f0 := G6.out.cell x0 (by simp); have f1 := G6.out.cell x1 (by simp)
              clear x0 x1 hg ho hra hrb G6
              obtain ⟨nx, hnx⟩ : ∃ nx, (if ca' = 1 then some (⟨ga, oa, none⟩ : Addr) else some ⟨ga, oa + 2, none⟩) = nx := ⟨_, rfl⟩
              have HNXR : Hid (RowsAt spCs 2 W6 nx A2) := by show RowsAt _ _ _ _ _; rw [← hnx]; exact rows_nextS HA6.out hca.out
              have HBN : Hid (∀ a, nx = some a → A2 ≠ [] → a.block < w2.heap.size) := fun a e hne => by
                rw [← hnx] at e
                split at e
                · exact HBA.out ⟨ga, oa, none⟩ rfl (by simp) |> fun q => by cases e; exact q
                · exact HBA.out ⟨ga, oa, none⟩ rfl (by simp) |> fun q => by cases e; exact q
              have hn1 : A2.length + 1 ≤ ca' := hca.out
              have hnI : (1 : Int) ≤ (A2.length : Int) + 1 := by omega
              have hnI0 : (0 : Int) < (A2.length : Int) + 1 := by omega
              have hout : out.length ≤ 100000 := HOL.out
              have hi := HI0.out; have hz0 := HZ0.out; have hz1 := HZ1.out; have hz2 := HZ2.out
              go_wp2_with (at_builtin; refine wpList_append_own _ rfl _ _ 22 rfl w2.heap.size 37 i0 (.agg #[.int .i64 0, .int .i64 0]) 2 16 Tryd.underlying22 hi hz0 hz1 hz2 rfl (by decide) _ out.length _ rfl (HO6.out.alloc _) ⟨W6.heap.size, 0, none⟩ 1 1 [.int .i64 xf, .int .i64 xt] rfl rfl (World.news_of_block (cs := #[.int .i64 xf, .int .i64 xt]) (t := 37) (fr := (0, 0)) (mheap_new W6 _)) (by simp [Value.oneCell']) (by unfold maxLen; omega) (by omega) (by have := HSZ6.out; simp; omega) ?_; intro v' w3 hown' hgrow' _; have HN := Lib.hid (SpOwn.more hown'); have GX := World.grownBy_alloc W6 (.cells #[.int .i64 xf, .int .i64 xt] 37) none; have HG10 := Lib.hid (grown_anyS (grown_trans HG6.out GX) hgrow' (fun r e => (HL6.out r e).1)); have KR := Lib.hid (fun (po : Option Addr) (Z : List SpV) (hz : RowsAt spCs 2 W6 po Z) (hb : ∀ a, po = some a → Z ≠ [] → a.block < w2.heap.size) => (hz.grown GX).kept hgrow' (fun a e hne => fun e2 => absurd (hb a e hne) (Nat.not_lt.2 (HL6.out _ e2.symm).1))); clear hown' hgrow' hi hz0 hz1 hz2 GX)
              go_wp2_with fail
              go_roundw
              case rel => exact ⟨⟨A2, ([] : List SpV), _, nx, pb', _, cb', v', rfl, rfl, rfl, (by show _ ≤ _; have := hca.out; omega), hcb.out, KR.out _ _ HNXR.out HBN.out, KR.out _ _ HB6.out HBB.out, HD.out, HN.out, HBN.out, HBB.out, (by have := HOL.out; have := HOL2.out; show _ ≤ _; simp at *; omega)⟩, HG10.out⟩
              case measure => simp [lenS]
          | cons y B2 =>
            obtain ⟨gb, ob, rfl, qb⟩ := sp_at hrb.out (by simp)
            obtain ⟨y0, y1⟩ := qb 0 (by simp)
            simp only [List.getElem_cons_zero, Nat.zero_mul, Nat.add_zero] at y0 y1
            obtain ⟨yf, yt⟩ := y
            simp only at y0 y1
            have qb0 : ((B2.length : Int) + 1 == 0) = false := by rw [beq_eq_false_iff_ne]; omega
            have qb1 : decide ((0 : Int) < (B2.length : Int) + 1) = true := decide_eq_true (by omega)
            clear qb
            by_cases hc : xf ≤ yf
            · have qc : decide (xf ≤ yf) = true := decide_eq_true hc
              have HD : Hid ((out ++ [⟨xf, xt⟩]) ++ List.merge A2 (⟨yf, yt⟩ :: B2) leS = List.merge A B leS) := by
                have q := hd.out
                rw [mrgS_a hc] at q
                show _ = _
                rw [List.append_assoc]; exact q
              simp only [List.length_cons] at *
              clear hd hc
              as_aux_lemma =>
                go_wp2_with fail
                go_quiet (fail)
                have G6 : Hid (wr.grownBy (wr.drewN nq) none) := grown_drewN _ none nq
                generalize wr.drewN nq = W6 at *
                have HG6 := Lib.hid (grown_trans hg.out G6.out)
                have HO6 := Lib.hid (ho.out.keep G6.out)
                have HA6 := Lib.hid (hra.out.grown G6.out); have HB6 := Lib.hid (hrb.out.grown G6.out)
                have HSZ6 := Lib.hid HG6.out.size
                have HL6 := Lib.hid HO6.out.lt
                have f0 := G6.out.cell x0 (by simp); have f1 := G6.out.cell x1 (by simp)
                clear x0 x1 y0 y1 hg ho hra hrb G6
                obtain ⟨nx, hnx⟩ : ∃ nx, (if ca' = 1 then some (⟨ga, oa, none⟩ : Addr) else some ⟨ga, oa + 2, none⟩) = nx := ⟨_, rfl⟩
                have HNXR : Hid (RowsAt spCs 2 W6 nx A2) := by show RowsAt _ _ _ _ _; rw [← hnx]; exact rows_nextS HA6.out hca.out
                have HBN : Hid (∀ a, nx = some a → A2 ≠ [] → a.block < w2.heap.size) := fun a e hne => by
                  rw [← hnx] at e
                  split at e
                  · exact HBA.out ⟨ga, oa, none⟩ rfl (by simp) |> fun q => by cases e; exact q
                  · exact HBA.out ⟨ga, oa, none⟩ rfl (by simp) |> fun q => by cases e; exact q
                have hn1 : A2.length + 1 ≤ ca' := hca.out
                have hnI : (1 : Int) ≤ (A2.length : Int) + 1 := by omega
                have hnI0 : (0 : Int) < (A2.length : Int) + 1 := by omega
                have hout : out.length ≤ 100000 := HOL.out
                have hi := HI0.out; have hz0 := HZ0.out; have hz1 := HZ1.out; have hz2 := HZ2.out
                go_wp2_with (at_builtin; refine wpList_append_own _ rfl _ _ 22 rfl w2.heap.size 37 i0 (.agg #[.int .i64 0, .int .i64 0]) 2 16 Tryd.underlying22 hi hz0 hz1 hz2 rfl (by decide) _ out.length _ rfl (HO6.out.alloc _) ⟨W6.heap.size, 0, none⟩ 1 1 [.int .i64 xf, .int .i64 xt] rfl rfl (World.news_of_block (cs := #[.int .i64 xf, .int .i64 xt]) (t := 37) (fr := (0, 0)) (mheap_new W6 _)) (by simp [Value.oneCell']) (by unfold maxLen; omega) (by omega) (by have := HSZ6.out; simp; omega) ?_; intro v' w3 hown' hgrow' _; have HN := Lib.hid (SpOwn.more hown'); have GX := World.grownBy_alloc W6 (.cells #[.int .i64 xf, .int .i64 xt] 37) none; have HG10 := Lib.hid (grown_anyS (grown_trans HG6.out GX) hgrow' (fun r e => (HL6.out r e).1)); have KR := Lib.hid (fun (po : Option Addr) (Z : List SpV) (hz : RowsAt spCs 2 W6 po Z) (hb : ∀ a, po = some a → Z ≠ [] → a.block < w2.heap.size) => (hz.grown GX).kept hgrow' (fun a e hne => fun e2 => absurd (hb a e hne) (Nat.not_lt.2 (HL6.out _ e2.symm).1))); clear hown' hgrow' hi hz0 hz1 hz2 GX)
                go_wp2_with fail
                go_roundw
                case rel => exact ⟨⟨A2, (⟨yf, yt⟩ :: B2), _, nx, some ⟨gb, ob, none⟩, _, cb', v', rfl, rfl, rfl, (by show _ ≤ _; have := hca.out; omega), hcb.out, KR.out _ _ HNXR.out HBN.out, KR.out _ _ HB6.out HBB.out, HD.out, HN.out, HBN.out, HBB.out, (by have := HOL.out; have := HOL2.out; show _ ≤ _; simp at *; omega)⟩, HG10.out⟩
                case measure => simp [lenS]
            · have qc : decide (xf ≤ yf) = false := decide_eq_false hc
              have HD : Hid ((out ++ [⟨yf, yt⟩]) ++ List.merge (⟨xf, xt⟩ :: A2) B2 leS = List.merge A B leS) := by
                have q := hd.out
                rw [mrgS_b hc] at q
                show _ = _
                rw [List.append_assoc]; exact q
              simp only [List.length_cons] at *
              clear hd hc
              as_aux_lemma =>
                go_wp2_with fail
                go_quiet (fail)
                have G6 : Hid (wr.grownBy (wr.drewN nq) none) := grown_drewN _ none nq
                generalize wr.drewN nq = W6 at *
                have HG6 := Lib.hid (grown_trans hg.out G6.out)
                have HO6 := Lib.hid (ho.out.keep G6.out)
                have HA6 := Lib.hid (hra.out.grown G6.out); have HB6 := Lib.hid (hrb.out.grown G6.out)
                have HSZ6 := Lib.hid HG6.out.size
                have HL6 := Lib.hid HO6.out.lt
                have f0 := G6.out.cell y0 (by simp); have f1 := G6.out.cell y1 (by simp)
                clear x0 x1 y0 y1 hg ho hra hrb G6
                obtain ⟨nx, hnx⟩ : ∃ nx, (if cb' = 1 then some (⟨gb, ob, none⟩ : Addr) else some ⟨gb, ob + 2, none⟩) = nx := ⟨_, rfl⟩
                have HNXR : Hid (RowsAt spCs 2 W6 nx B2) := by show RowsAt _ _ _ _ _; rw [← hnx]; exact rows_nextS HB6.out hcb.out
                have HBN : Hid (∀ a, nx = some a → B2 ≠ [] → a.block < w2.heap.size) := fun a e hne => by
                  rw [← hnx] at e
                  split at e
                  · exact HBB.out ⟨gb, ob, none⟩ rfl (by simp) |> fun q => by cases e; exact q
                  · exact HBB.out ⟨gb, ob, none⟩ rfl (by simp) |> fun q => by cases e; exact q
                have hn1 : B2.length + 1 ≤ cb' := hcb.out
                have hnI : (1 : Int) ≤ (B2.length : Int) + 1 := by omega
                have hnI0 : (0 : Int) < (B2.length : Int) + 1 := by omega
                have hout : out.length ≤ 100000 := HOL.out
                have hi := HI0.out; have hz0 := HZ0.out; have hz1 := HZ1.out; have hz2 := HZ2.out
                go_wp2_with (at_builtin; refine wpList_append_own _ rfl _ _ 22 rfl w2.heap.size 37 i0 (.agg #[.int .i64 0, .int .i64 0]) 2 16 Tryd.underlying22 hi hz0 hz1 hz2 rfl (by decide) _ out.length _ rfl (HO6.out.alloc _) ⟨W6.heap.size, 0, none⟩ 1 1 [.int .i64 yf, .int .i64 yt] rfl rfl (World.news_of_block (cs := #[.int .i64 yf, .int .i64 yt]) (t := 37) (fr := (0, 0)) (mheap_new W6 _)) (by simp [Value.oneCell']) (by unfold maxLen; omega) (by omega) (by have := HSZ6.out; simp; omega) ?_; intro v' w3 hown' hgrow' _; have HN := Lib.hid (SpOwn.more hown'); have GX := World.grownBy_alloc W6 (.cells #[.int .i64 yf, .int .i64 yt] 37) none; have HG10 := Lib.hid (grown_anyS (grown_trans HG6.out GX) hgrow' (fun r e => (HL6.out r e).1)); have KR := Lib.hid (fun (po : Option Addr) (Z : List SpV) (hz : RowsAt spCs 2 W6 po Z) (hb : ∀ a, po = some a → Z ≠ [] → a.block < w2.heap.size) => (hz.grown GX).kept hgrow' (fun a e hne => fun e2 => absurd (hb a e hne) (Nat.not_lt.2 (HL6.out _ e2.symm).1))); clear hown' hgrow' hi hz0 hz1 hz2 GX)
                go_wp2_with fail
                go_roundw
                case rel => exact ⟨⟨(⟨xf, xt⟩ :: A2), B2, _, some ⟨ga, oa, none⟩, nx, ca', _, v', rfl, rfl, rfl, hca.out, (by show _ ≤ _; have := hcb.out; omega), KR.out _ _ HA6.out HBA.out, KR.out _ _ HNXR.out HBN.out, HD.out, HN.out, HBA.out, HBN.out, (by have := HOL.out; have := HOL2.out; show _ ≤ _; simp at *; omega)⟩, HG10.out⟩
                case measure => simp [lenS]
end Go.Proofs.YtbacoopopokkfaaDoor

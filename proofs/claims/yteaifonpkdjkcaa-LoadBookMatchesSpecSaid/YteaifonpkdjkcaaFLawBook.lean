/- For all first days and calls, a book returns what the reference's book returns: the walk. -/
import Derived.Test.YteaifonpkdjkcaaFTwo
import Derived.Test.YteaifonpkdjkcaaFCalls
import Derived.Test.YteaifonpkdjkcaaFTold
import Derived.Test.YteaifonpkdjkcaaTLate
namespace Go.Proofs.Yteaifonpkdjkcaa
open Go.RowKit
set_option linter.unusedSimpArgs false
set_option linter.unusedVariables false

def pickF (b : Bool) (F1 F : Int → Int) : Int → Int := match b with | true => F1 | false => F
/-- What the region of Add or Take keeps: it depends on which of the two calls has come up. -/
def addS (w : World) (g rb bm n X : Nat) (first f0 g0 op x y : Int) (F F1 : Int → Int) (L : Array Bool) (V : World) : Prop :=
  V.heap[X]? = some (.cells #[.int .i64 op, .int .i64 x, .int .i64 y] 100 (0, 0)) ∧ ∃ n', n' ≤ n + (L.getD 11 false).toNat ∧ TwoS w V g rb bm n' first f0 g0 (pickF (L.getD 5 false) F1 F) (pickF (L.getD 11 false) F1 F)
theorem addS_of {w V : World} {g rb bm n X n' : Nat} {first f0 g0 op x y : Int} {F F1 : Int → Int} {L : Array Bool} (b5 b11 : Bool) (h5 : L.getD 5 false = b5) (h11 : L.getD 11 false = b11)
    (hb : V.heap[X]? = some (.cells #[.int .i64 op, .int .i64 x, .int .i64 y] 100 (0, 0))) (hn : n' ≤ n + b11.toNat) (ht : TwoS w V g rb bm n' first f0 g0 (pickF b5 F1 F) (pickF b11 F1 F)) : addS w g rb bm n X first f0 g0 op x y F F1 L V := by
  subst h5; subst h11
  exact ⟨hb, n', hn, ht⟩
theorem addS_iff {w : World} {g rb bm n X i : Nat} {first f0 g0 op x y : Int} {F F1 : Int → Int} (h5 : i ≠ 5) (h11 : i ≠ 11) (L : Array Bool) (V : World) : addS w g rb bm n X first f0 g0 op x y F F1 (L.setIfInBounds i true) V ↔ addS w g rb bm n X first f0 g0 op x y F F1 L V := by
  unfold addS
  rw [getD_set_ne false h5, getD_set_ne false h11]
theorem newE_zero {first f0 g0 : Int} (h : newE first f0 g0 = 0) : (0 ≤ first ∧ first ≤ 999999) ∧ (0 ≤ f0 ∧ f0 ≤ 10000000) ∧ 0 ≤ g0 ∧ g0 ≤ 10000000 := by
  unfold newE at h
  split at h
  · assumption
  · omega
theorem betL_bd {F : Int → Int} {first f0 g0 a b E : Int} {R : List StV} (hE : betE first a b = E) (hR : betL F first f0 g0 a b E = R) : (R.length : Int) ≤ 9223372036854775807 := by
  subst hR
  unfold betL
  split
  · rename_i h
    subst h
    rw [stL_len]
    unfold betE HasD at hE
    split at hE
    · omega
    · omega
  · simp
set_option maxRecDepth 100000 in
set_option maxHeartbeats 6400000 in
theorem book_law (first f0 g0 : Int) (ao : Option Addr) (cap : Nat) (l : List CallV) (hl : (l.length : Int) ≤ 9223372036854775807) (w : World) (hs : CallsAt w ao l) (_ : l.length ≤ cap) :
    Calls Try.prog 12 #[.int .i64 first, .int .i64 f0, .int .i64 g0, .slice ao l.length cap] w fun e w' => e = .returned (.bool true) ∧ w.grownBy w' none := by
  obtain ⟨E, hE⟩ : ∃ e, newE first f0 g0 = e := ⟨_, rfl⟩
  have HE := Lib.hid hE; have HS := Lib.hid hs
  clear hs
  by_cases e0 : E = 0
  · subst e0
    have hb := newE_zero hE
    have HF := Lib.hid hb.1; have HB1 := Lib.hid hb.2.1; have HB2 := Lib.hid hb.2.2
    clear hb hE
    go_enter Try.func12, Try.ntmps12
    go_wp2_with fail
    refine (newBook_is first f0 g0 w HE).mono ?_; rintro e w1 ⟨⟨p1, rfl, hp1⟩, hg1⟩
    obtain ⟨rfl, hpb⟩ := hp1 rfl
    have HP := Lib.hid hpb; have K1 := Lib.hid hg1
    clear hpb hp1 hg1
    go_wp2_with fail
    refine (rnewBook_is first f0 g0 w1 HE).mono ?_; rintro e w2 ⟨⟨p2, rfl, hp2⟩, hg2⟩
    obtain ⟨rfl, hrb⟩ := hp2 rfl
    have T0 : Hid (TwoS w w2 w.heap.size (w1.heap.size + 1) w1.heap.size 0 first f0 g0 (fun _ => 0) (fun _ => 0)) := two_new HP.out K1.out hrb hg2
    clear HP K1 hrb hp2 hg2
    generalize w1.heap.size + 1 = rb at *
    generalize w1.heap.size = bm at *
    obtain ⟨g, hg⟩ : ∃ g, w.heap.size = g := ⟨_, rfl⟩
    rw [hg] at T0
    simp only [hg]
    clear hg
    go_wp2_with fail
    go_loopw [52] (fun iv wr => ∃ k : Nat, k ≤ l.length ∧ iv = .int .i64 k ∧ ∃ (F : Int → Int) (n : Nat), n ≤ k ∧ Hid (TwoS w wr g rb bm n first f0 g0 F F)) (fun iv _ => l.length - (intOf iv).toNat)
    case atStart => exact ⟨0, Nat.zero_le _, rfl, _, 0, Nat.le_refl _, T0⟩
    case round =>
      clear T0
      obtain ⟨k, hk, rfl, F, n, hn, HT⟩ := hrel
      by_cases hlt : k < l.length
      · obtain ⟨b, off, rfl, hc⟩ := HS.out.at (by omega)
        obtain ⟨x0, x1, x2⟩ := hc k hlt
        replace x0 := grown_cell HT.out.fr x0; replace x1 := grown_cell HT.out.fr x1; replace x2 := grown_cell HT.out.fr x2
        clear hc
        generalize callD l k = q at *
        obtain ⟨op, x, y⟩ := q
        simp only at x0 x1 x2
        go_upto_region 10 with (fail)
        obtain ⟨VC, hV⟩ : ∃ V, wr.alloc (.cells #[.int .i64 op, .int .i64 x, .int .i64 y] 100) = V := ⟨_, rfl⟩
        have gV : wr.grownBy VC none := by rw [← hV]; exact World.grownBy_alloc _ _ _
        have BC : Hid (VC.heap[wr.heap.size]? = some (.cells #[.int .i64 op, .int .i64 x, .int .i64 y] 100 (0, 0))) := by rw [← hV]; exact heap_alloc_new _ _
        rw [hV]
        replace HT := Lib.hid (HT.out.grown gV)
        clear hV gV
        generalize wr.heap.size = XC at *
        clear x0 x1 x2
        by_cases o0 : op = 0
        · subst o0
          obtain ⟨e1, he⟩ : ∃ v, addE first F x y = v := ⟨_, rfl⟩
          obtain ⟨F1, hF1⟩ : ∃ f, updF F e1 x (F x + y) = f := ⟨_, rfl⟩
          have HEE := Lib.hid he; have HF1 := Lib.hid hF1; have HBD := Lib.hid HT.out.bd
          clear he hF1
          have bc0 := blk_cell BC.out 0 _ rfl
          have bc1 := blk_cell BC.out 1 _ rfl
          have bc2 := blk_cell BC.out 2 _ rfl
          go_wp2_with fail
          clear bc0 bc1 bc2
          obtain ⟨VD, hVD⟩ : ∃ V, VC.drew = V := ⟨_, rfl⟩
          have gD : VC.grownBy VD none := by rw [← hVD]; exact grown_drewN VC none 1
          replace HT := Lib.hid (HT.out.grown gD); replace BC := Lib.hid (blk_at BC.out gD (by simp))
          clear gD
          have HS0 : Hid (addS w g rb bm n XC first f0 g0 0 x y F F1 (Array.replicate 14 false) VD) := addS_of false false (by rfl) (by rfl) BC.out (Nat.le_refl _) HT.out
          refine region_late (addS w g rb bm n XC first f0 g0 0 x y F F1) (by kernel_rfl) (by rw [hVD]; exact HS0.out) (fun hCa0 hSa0 => ?_)
          rw [hVD] at hSa0 ⊢
          clear HS0 hVD
          refine wpAnyS_take (i := 0) (oi := ?oia1) (v := .pointer (some ⟨g, 0, none⟩)) ?hia1 (by kernel_rfl) (by kernel_rfl) (by kernel_rfl) (addS_iff (by decide) (by decide)) ?hqa1 ?hya1 hCa0 hSa0 ?resta1
          case hia1 => simp only [List.getElem?_toArray, List.getElem?_cons_succ, List.getElem?_cons_zero, Option.some.injEq]; rfl
          case hqa1 => exact fun _ _ _ h => h
          case hya1 =>
            refine Or.inl ⟨by kernel_rfl, fun V hV => ?_⟩
            clear hV
            go_simp
          intro hCa1 hSa1
          clear hCa0 hSa0
          try simp only [Go.Act.put, List.setIfInBounds_toArray, List.set_cons_zero, List.set_cons_succ]
          refine wpAnyS_take (i := 1) (oi := ?oia2) (v := .pointer (some ⟨XC, 1, none⟩)) ?hia2 (by kernel_rfl) (by kernel_rfl) (by kernel_rfl) (addS_iff (by decide) (by decide)) ?hqa2 ?hya2 hCa1 hSa1 ?resta2
          case hia2 => simp only [List.getElem?_toArray, List.getElem?_cons_succ, List.getElem?_cons_zero, Option.some.injEq]; rfl
          case hqa2 => exact fun _ _ _ h => h
          case hya2 =>
            refine Or.inl ⟨by kernel_rfl, fun V hV => ?_⟩
            clear hV
            go_simp
          intro hCa2 hSa2
          clear hCa1 hSa1
          try simp only [Go.Act.put, List.setIfInBounds_toArray, List.set_cons_zero, List.set_cons_succ]
          refine wpAnyS_take (i := 2) (oi := ?oia3) (v := .int .i64 x) ?hia3 (by kernel_rfl) (by kernel_rfl) (by kernel_rfl) (addS_iff (by decide) (by decide)) ?hqa3 ?hya3 hCa2 hSa2 ?resta3
          case hia3 => simp only [List.getElem?_toArray, List.getElem?_cons_succ, List.getElem?_cons_zero, Option.some.injEq]; rfl
          case hqa3 => exact fun _ _ _ h => h
          case hya3 =>
            refine Or.inl ⟨by kernel_rfl, fun V hV => ?_⟩
            obtain ⟨_, _, _, hq⟩ := id hV; have z1 := blk_cell hq.1 1 _ rfl; clear hq; clear hV
            go_simp
          intro hCa3 hSa3
          clear hCa2 hSa2
          try simp only [Go.Act.put, List.setIfInBounds_toArray, List.set_cons_zero, List.set_cons_succ]
          refine wpAnyS_take (i := 3) (oi := ?oia4) (v := .pointer (some ⟨XC, 2, none⟩)) ?hia4 (by kernel_rfl) (by kernel_rfl) (by kernel_rfl) (addS_iff (by decide) (by decide)) ?hqa4 ?hya4 hCa3 hSa3 ?resta4
          case hia4 => simp only [List.getElem?_toArray, List.getElem?_cons_succ, List.getElem?_cons_zero, Option.some.injEq]; rfl
          case hqa4 => exact fun _ _ _ h => h
          case hya4 =>
            refine Or.inl ⟨by kernel_rfl, fun V hV => ?_⟩
            clear hV
            go_simp
          intro hCa4 hSa4
          clear hCa3 hSa3
          try simp only [Go.Act.put, List.setIfInBounds_toArray, List.set_cons_zero, List.set_cons_succ]
          refine wpAnyS_take (i := 4) (oi := ?oia5) (v := .int .i64 y) ?hia5 (by kernel_rfl) (by kernel_rfl) (by kernel_rfl) (addS_iff (by decide) (by decide)) ?hqa5 ?hya5 hCa4 hSa4 ?resta5
          case hia5 => simp only [List.getElem?_toArray, List.getElem?_cons_succ, List.getElem?_cons_zero, Option.some.injEq]; rfl
          case hqa5 => exact fun _ _ _ h => h
          case hya5 =>
            refine Or.inl ⟨by kernel_rfl, fun V hV => ?_⟩
            obtain ⟨_, _, _, hq⟩ := id hV; have z1 := blk_cell hq.1 2 _ rfl; clear hq; clear hV
            go_simp
          intro hCa5 hSa5
          clear hCa4 hSa4
          try simp only [Go.Act.put, List.setIfInBounds_toArray, List.set_cons_zero, List.set_cons_succ]
          refine wpAnyS_take (i := 6) (oi := ?oia6) (v := .pointer (some ⟨rb, 0, none⟩)) ?hia6 (by kernel_rfl) (by kernel_rfl) (by kernel_rfl) (addS_iff (by decide) (by decide)) ?hqa6 ?hya6 hCa5 hSa5 ?resta6
          case hia6 => simp only [List.getElem?_toArray, List.getElem?_cons_succ, List.getElem?_cons_zero, Option.some.injEq]; rfl
          case hqa6 => exact fun _ _ _ h => h
          case hya6 =>
            refine Or.inl ⟨by kernel_rfl, fun V hV => ?_⟩
            clear hV
            go_simp
          intro hCa6 hSa6
          clear hCa5 hSa5
          try simp only [Go.Act.put, List.setIfInBounds_toArray, List.set_cons_zero, List.set_cons_succ]
          refine wpAnyS_take (i := 7) (oi := ?oia7) (v := .pointer (some ⟨XC, 1, none⟩)) ?hia7 (by kernel_rfl) (by kernel_rfl) (by kernel_rfl) (addS_iff (by decide) (by decide)) ?hqa7 ?hya7 hCa6 hSa6 ?resta7
          case hia7 => simp only [List.getElem?_toArray, List.getElem?_cons_succ, List.getElem?_cons_zero, Option.some.injEq]; rfl
          case hqa7 => exact fun _ _ _ h => h
          case hya7 =>
            refine Or.inl ⟨by kernel_rfl, fun V hV => ?_⟩
            clear hV
            go_simp
          intro hCa7 hSa7
          clear hCa6 hSa6
          try simp only [Go.Act.put, List.setIfInBounds_toArray, List.set_cons_zero, List.set_cons_succ]
          refine wpAnyS_take (i := 8) (oi := ?oia8) (v := .int .i64 x) ?hia8 (by kernel_rfl) (by kernel_rfl) (by kernel_rfl) (addS_iff (by decide) (by decide)) ?hqa8 ?hya8 hCa7 hSa7 ?resta8
          case hia8 => simp only [List.getElem?_toArray, List.getElem?_cons_succ, List.getElem?_cons_zero, Option.some.injEq]; rfl
          case hqa8 => exact fun _ _ _ h => h
          case hya8 =>
            refine Or.inl ⟨by kernel_rfl, fun V hV => ?_⟩
            obtain ⟨_, _, _, hq⟩ := id hV; have z1 := blk_cell hq.1 1 _ rfl; clear hq; clear hV
            go_simp
          intro hCa8 hSa8
          clear hCa7 hSa7
          try simp only [Go.Act.put, List.setIfInBounds_toArray, List.set_cons_zero, List.set_cons_succ]
          refine wpAnyS_take (i := 9) (oi := ?oia9) (v := .pointer (some ⟨XC, 2, none⟩)) ?hia9 (by kernel_rfl) (by kernel_rfl) (by kernel_rfl) (addS_iff (by decide) (by decide)) ?hqa9 ?hya9 hCa8 hSa8 ?resta9
          case hia9 => simp only [List.getElem?_toArray, List.getElem?_cons_succ, List.getElem?_cons_zero, Option.some.injEq]; rfl
          case hqa9 => exact fun _ _ _ h => h
          case hya9 =>
            refine Or.inl ⟨by kernel_rfl, fun V hV => ?_⟩
            clear hV
            go_simp
          intro hCa9 hSa9
          clear hCa8 hSa8
          try simp only [Go.Act.put, List.setIfInBounds_toArray, List.set_cons_zero, List.set_cons_succ]
          refine wpAnyS_take (i := 10) (oi := ?oia10) (v := .int .i64 y) ?hia10 (by kernel_rfl) (by kernel_rfl) (by kernel_rfl) (addS_iff (by decide) (by decide)) ?hqa10 ?hya10 hCa9 hSa9 ?resta10
          case hia10 => simp only [List.getElem?_toArray, List.getElem?_cons_succ, List.getElem?_cons_zero, Option.some.injEq]; rfl
          case hqa10 => exact fun _ _ _ h => h
          case hya10 =>
            refine Or.inl ⟨by kernel_rfl, fun V hV => ?_⟩
            obtain ⟨_, _, _, hq⟩ := id hV; have z1 := blk_cell hq.1 2 _ rfl; clear hq; clear hV
            go_simp
          intro hCa10 hSa10
          clear hCa9 hSa9
          try simp only [Go.Act.put, List.setIfInBounds_toArray, List.set_cons_zero, List.set_cons_succ]
          refine wpAnyS_ready (rs := [5]) (by kernel_rfl) (by simp) ?_
          refine AllReadyS.cons rfl hCa10 (fun K hK => ?_) AllReadyS.nil
          go_simp
          refine (two_add HT.out HF.out x y HEE).mono ?_
          rintro e w3 ⟨rfl, ht3, hk3⟩
          rw [HF1.out] at ht3
          replace BC := Lib.hid (hk3 _ _ _ BC.out); replace HT := Lib.hid ht3
          refine hK.out _ _ (addS_of true false (by rfl) (by rfl) BC.out (Nat.le_refl _) HT.out) (fun hCa11 hSa11 => ?_)
          clear hK hCa10 hSa10 K
          clear ht3 hk3
          try simp only [Go.Act.put, List.setIfInBounds_toArray, List.set_cons_zero, List.set_cons_succ]
          refine wpAnyS_ready (rs := [11]) (by kernel_rfl) (by simp) ?_
          refine AllReadyS.cons rfl hCa11 (fun K hK => ?_) AllReadyS.nil
          go_simp
          refine (two_radd HT.out HF.out (by omega) HBD.out x y HEE).mono ?_
          rintro e w4 ⟨rfl, ⟨n2, hn2, ht4⟩, hk4⟩
          rw [HF1.out] at ht4
          replace BC := Lib.hid (hk4 _ _ _ BC.out); replace HT := Lib.hid ht4
          refine hK.out _ _ (addS_of true true (by rfl) (by rfl) BC.out hn2 HT.out) (fun hCa12 hSa12 => ?_)
          clear hK hCa11 hSa11 K
          clear ht4 hk4
          try simp only [Go.Act.put, List.setIfInBounds_toArray, List.set_cons_zero, List.set_cons_succ]
          refine wpAnyS_take (i := 12) (oi := ?oia13) (v := .bool true) ?hia13 (by kernel_rfl) (by kernel_rfl) (by kernel_rfl) (addS_iff (by decide) (by decide)) ?hqa13 ?hya13 hCa12 hSa12 ?resta13
          case hia13 => simp only [List.getElem?_toArray, List.getElem?_cons_succ, List.getElem?_cons_zero, Option.some.injEq]; rfl
          case hqa13 => exact fun _ _ _ h => h
          case hya13 =>
            refine Or.inl ⟨by kernel_rfl, fun V hV => ?_⟩
            clear hV
            go_simp
          intro hCa13 hSa13
          clear hCa12 hSa12
          try simp only [Go.Act.put, List.setIfInBounds_toArray, List.set_cons_zero, List.set_cons_succ]
          refine wpAnyS_take (i := 13) (oi := ?oia14) (v := .bool true) ?hia14 (by kernel_rfl) (by kernel_rfl) (by kernel_rfl) (addS_iff (by decide) (by decide)) ?hqa14 ?hya14 hCa13 hSa13 ?resta14
          case hia14 => simp only [List.getElem?_toArray, List.getElem?_cons_succ, List.getElem?_cons_zero, Option.some.injEq]; rfl
          case hqa14 => exact fun _ _ _ h => h
          case hya14 =>
            refine Or.inl ⟨by kernel_rfl, fun V hV => ?_⟩
            clear hV
            go_simp
          intro hCa14 hSa14
          clear hCa13 hSa13
          try simp only [Go.Act.put, List.setIfInBounds_toArray, List.set_cons_zero, List.set_cons_succ]
          refine wpAnyS_done (by kernel_rfl) ?_ _
          clear hCa14 hSa14
          go_wp2_with fail
          go_roundw
          case rel => exact ⟨k + 1, by omega, by go_num, F1, n2, by omega, HT⟩
          case measure => simp [intOf]; omega
        have p0 : (op == 0) = false := by simpa using o0
        clear o0
        by_cases o1 : op = 1
        · subst o1
          obtain ⟨e1, he⟩ : ∃ v, takeE first F x y = v := ⟨_, rfl⟩
          obtain ⟨F1, hF1⟩ : ∃ f, updF F e1 x (F x - y) = f := ⟨_, rfl⟩
          have HEE := Lib.hid he; have HF1 := Lib.hid hF1; have HBD := Lib.hid HT.out.bd
          clear he hF1
          have bc0 := blk_cell BC.out 0 _ rfl
          have bc1 := blk_cell BC.out 1 _ rfl
          have bc2 := blk_cell BC.out 2 _ rfl
          go_wp2_with fail
          clear bc0 bc1 bc2
          obtain ⟨VD, hVD⟩ : ∃ V, VC.drew = V := ⟨_, rfl⟩
          have gD : VC.grownBy VD none := by rw [← hVD]; exact grown_drewN VC none 1
          replace HT := Lib.hid (HT.out.grown gD); replace BC := Lib.hid (blk_at BC.out gD (by simp))
          clear gD
          have HS0 : Hid (addS w g rb bm n XC first f0 g0 1 x y F F1 (Array.replicate 14 false) VD) := addS_of false false (by rfl) (by rfl) BC.out (Nat.le_refl _) HT.out
          refine region_late (addS w g rb bm n XC first f0 g0 1 x y F F1) (by kernel_rfl) (by rw [hVD]; exact HS0.out) (fun hCb0 hSb0 => ?_)
          rw [hVD] at hSb0 ⊢
          clear HS0 hVD
          refine wpAnyS_take (i := 0) (oi := ?oib1) (v := .pointer (some ⟨g, 0, none⟩)) ?hib1 (by kernel_rfl) (by kernel_rfl) (by kernel_rfl) (addS_iff (by decide) (by decide)) ?hqb1 ?hyb1 hCb0 hSb0 ?restb1
          case hib1 => simp only [List.getElem?_toArray, List.getElem?_cons_succ, List.getElem?_cons_zero, Option.some.injEq]; rfl
          case hqb1 => exact fun _ _ _ h => h
          case hyb1 =>
            refine Or.inl ⟨by kernel_rfl, fun V hV => ?_⟩
            clear hV
            go_simp
          intro hCb1 hSb1
          clear hCb0 hSb0
          try simp only [Go.Act.put, List.setIfInBounds_toArray, List.set_cons_zero, List.set_cons_succ]
          refine wpAnyS_take (i := 1) (oi := ?oib2) (v := .pointer (some ⟨XC, 1, none⟩)) ?hib2 (by kernel_rfl) (by kernel_rfl) (by kernel_rfl) (addS_iff (by decide) (by decide)) ?hqb2 ?hyb2 hCb1 hSb1 ?restb2
          case hib2 => simp only [List.getElem?_toArray, List.getElem?_cons_succ, List.getElem?_cons_zero, Option.some.injEq]; rfl
          case hqb2 => exact fun _ _ _ h => h
          case hyb2 =>
            refine Or.inl ⟨by kernel_rfl, fun V hV => ?_⟩
            clear hV
            go_simp
          intro hCb2 hSb2
          clear hCb1 hSb1
          try simp only [Go.Act.put, List.setIfInBounds_toArray, List.set_cons_zero, List.set_cons_succ]
          refine wpAnyS_take (i := 2) (oi := ?oib3) (v := .int .i64 x) ?hib3 (by kernel_rfl) (by kernel_rfl) (by kernel_rfl) (addS_iff (by decide) (by decide)) ?hqb3 ?hyb3 hCb2 hSb2 ?restb3
          case hib3 => simp only [List.getElem?_toArray, List.getElem?_cons_succ, List.getElem?_cons_zero, Option.some.injEq]; rfl
          case hqb3 => exact fun _ _ _ h => h
          case hyb3 =>
            refine Or.inl ⟨by kernel_rfl, fun V hV => ?_⟩
            obtain ⟨_, _, _, hq⟩ := id hV; have z1 := blk_cell hq.1 1 _ rfl; clear hq; clear hV
            go_simp
          intro hCb3 hSb3
          clear hCb2 hSb2
          try simp only [Go.Act.put, List.setIfInBounds_toArray, List.set_cons_zero, List.set_cons_succ]
          refine wpAnyS_take (i := 3) (oi := ?oib4) (v := .pointer (some ⟨XC, 2, none⟩)) ?hib4 (by kernel_rfl) (by kernel_rfl) (by kernel_rfl) (addS_iff (by decide) (by decide)) ?hqb4 ?hyb4 hCb3 hSb3 ?restb4
          case hib4 => simp only [List.getElem?_toArray, List.getElem?_cons_succ, List.getElem?_cons_zero, Option.some.injEq]; rfl
          case hqb4 => exact fun _ _ _ h => h
          case hyb4 =>
            refine Or.inl ⟨by kernel_rfl, fun V hV => ?_⟩
            clear hV
            go_simp
          intro hCb4 hSb4
          clear hCb3 hSb3
          try simp only [Go.Act.put, List.setIfInBounds_toArray, List.set_cons_zero, List.set_cons_succ]
          refine wpAnyS_take (i := 4) (oi := ?oib5) (v := .int .i64 y) ?hib5 (by kernel_rfl) (by kernel_rfl) (by kernel_rfl) (addS_iff (by decide) (by decide)) ?hqb5 ?hyb5 hCb4 hSb4 ?restb5
          case hib5 => simp only [List.getElem?_toArray, List.getElem?_cons_succ, List.getElem?_cons_zero, Option.some.injEq]; rfl
          case hqb5 => exact fun _ _ _ h => h
          case hyb5 =>
            refine Or.inl ⟨by kernel_rfl, fun V hV => ?_⟩
            obtain ⟨_, _, _, hq⟩ := id hV; have z1 := blk_cell hq.1 2 _ rfl; clear hq; clear hV
            go_simp
          intro hCb5 hSb5
          clear hCb4 hSb4
          try simp only [Go.Act.put, List.setIfInBounds_toArray, List.set_cons_zero, List.set_cons_succ]
          refine wpAnyS_take (i := 6) (oi := ?oib6) (v := .pointer (some ⟨rb, 0, none⟩)) ?hib6 (by kernel_rfl) (by kernel_rfl) (by kernel_rfl) (addS_iff (by decide) (by decide)) ?hqb6 ?hyb6 hCb5 hSb5 ?restb6
          case hib6 => simp only [List.getElem?_toArray, List.getElem?_cons_succ, List.getElem?_cons_zero, Option.some.injEq]; rfl
          case hqb6 => exact fun _ _ _ h => h
          case hyb6 =>
            refine Or.inl ⟨by kernel_rfl, fun V hV => ?_⟩
            clear hV
            go_simp
          intro hCb6 hSb6
          clear hCb5 hSb5
          try simp only [Go.Act.put, List.setIfInBounds_toArray, List.set_cons_zero, List.set_cons_succ]
          refine wpAnyS_take (i := 7) (oi := ?oib7) (v := .pointer (some ⟨XC, 1, none⟩)) ?hib7 (by kernel_rfl) (by kernel_rfl) (by kernel_rfl) (addS_iff (by decide) (by decide)) ?hqb7 ?hyb7 hCb6 hSb6 ?restb7
          case hib7 => simp only [List.getElem?_toArray, List.getElem?_cons_succ, List.getElem?_cons_zero, Option.some.injEq]; rfl
          case hqb7 => exact fun _ _ _ h => h
          case hyb7 =>
            refine Or.inl ⟨by kernel_rfl, fun V hV => ?_⟩
            clear hV
            go_simp
          intro hCb7 hSb7
          clear hCb6 hSb6
          try simp only [Go.Act.put, List.setIfInBounds_toArray, List.set_cons_zero, List.set_cons_succ]
          refine wpAnyS_take (i := 8) (oi := ?oib8) (v := .int .i64 x) ?hib8 (by kernel_rfl) (by kernel_rfl) (by kernel_rfl) (addS_iff (by decide) (by decide)) ?hqb8 ?hyb8 hCb7 hSb7 ?restb8
          case hib8 => simp only [List.getElem?_toArray, List.getElem?_cons_succ, List.getElem?_cons_zero, Option.some.injEq]; rfl
          case hqb8 => exact fun _ _ _ h => h
          case hyb8 =>
            refine Or.inl ⟨by kernel_rfl, fun V hV => ?_⟩
            obtain ⟨_, _, _, hq⟩ := id hV; have z1 := blk_cell hq.1 1 _ rfl; clear hq; clear hV
            go_simp
          intro hCb8 hSb8
          clear hCb7 hSb7
          try simp only [Go.Act.put, List.setIfInBounds_toArray, List.set_cons_zero, List.set_cons_succ]
          refine wpAnyS_take (i := 9) (oi := ?oib9) (v := .pointer (some ⟨XC, 2, none⟩)) ?hib9 (by kernel_rfl) (by kernel_rfl) (by kernel_rfl) (addS_iff (by decide) (by decide)) ?hqb9 ?hyb9 hCb8 hSb8 ?restb9
          case hib9 => simp only [List.getElem?_toArray, List.getElem?_cons_succ, List.getElem?_cons_zero, Option.some.injEq]; rfl
          case hqb9 => exact fun _ _ _ h => h
          case hyb9 =>
            refine Or.inl ⟨by kernel_rfl, fun V hV => ?_⟩
            clear hV
            go_simp
          intro hCb9 hSb9
          clear hCb8 hSb8
          try simp only [Go.Act.put, List.setIfInBounds_toArray, List.set_cons_zero, List.set_cons_succ]
          refine wpAnyS_take (i := 10) (oi := ?oib10) (v := .int .i64 y) ?hib10 (by kernel_rfl) (by kernel_rfl) (by kernel_rfl) (addS_iff (by decide) (by decide)) ?hqb10 ?hyb10 hCb9 hSb9 ?restb10
          case hib10 => simp only [List.getElem?_toArray, List.getElem?_cons_succ, List.getElem?_cons_zero, Option.some.injEq]; rfl
          case hqb10 => exact fun _ _ _ h => h
          case hyb10 =>
            refine Or.inl ⟨by kernel_rfl, fun V hV => ?_⟩
            obtain ⟨_, _, _, hq⟩ := id hV; have z1 := blk_cell hq.1 2 _ rfl; clear hq; clear hV
            go_simp
          intro hCb10 hSb10
          clear hCb9 hSb9
          try simp only [Go.Act.put, List.setIfInBounds_toArray, List.set_cons_zero, List.set_cons_succ]
          refine wpAnyS_ready (rs := [5]) (by kernel_rfl) (by simp) ?_
          refine AllReadyS.cons rfl hCb10 (fun K hK => ?_) AllReadyS.nil
          go_simp
          refine (two_take HT.out HF.out x y HEE).mono ?_
          rintro e w3 ⟨rfl, ht3, hk3⟩
          rw [HF1.out] at ht3
          replace BC := Lib.hid (hk3 _ _ _ BC.out); replace HT := Lib.hid ht3
          refine hK.out _ _ (addS_of true false (by rfl) (by rfl) BC.out (Nat.le_refl _) HT.out) (fun hCb11 hSb11 => ?_)
          clear hK hCb10 hSb10 K
          clear ht3 hk3
          try simp only [Go.Act.put, List.setIfInBounds_toArray, List.set_cons_zero, List.set_cons_succ]
          refine wpAnyS_ready (rs := [11]) (by kernel_rfl) (by simp) ?_
          refine AllReadyS.cons rfl hCb11 (fun K hK => ?_) AllReadyS.nil
          go_simp
          refine (two_rtake HT.out HF.out (by omega) HBD.out x y HEE).mono ?_
          rintro e w4 ⟨rfl, ⟨n2, hn2, ht4⟩, hk4⟩
          rw [HF1.out] at ht4
          replace BC := Lib.hid (hk4 _ _ _ BC.out); replace HT := Lib.hid ht4
          refine hK.out _ _ (addS_of true true (by rfl) (by rfl) BC.out hn2 HT.out) (fun hCb12 hSb12 => ?_)
          clear hK hCb11 hSb11 K
          clear ht4 hk4
          try simp only [Go.Act.put, List.setIfInBounds_toArray, List.set_cons_zero, List.set_cons_succ]
          refine wpAnyS_take (i := 12) (oi := ?oib13) (v := .bool true) ?hib13 (by kernel_rfl) (by kernel_rfl) (by kernel_rfl) (addS_iff (by decide) (by decide)) ?hqb13 ?hyb13 hCb12 hSb12 ?restb13
          case hib13 => simp only [List.getElem?_toArray, List.getElem?_cons_succ, List.getElem?_cons_zero, Option.some.injEq]; rfl
          case hqb13 => exact fun _ _ _ h => h
          case hyb13 =>
            refine Or.inl ⟨by kernel_rfl, fun V hV => ?_⟩
            clear hV
            go_simp
          intro hCb13 hSb13
          clear hCb12 hSb12
          try simp only [Go.Act.put, List.setIfInBounds_toArray, List.set_cons_zero, List.set_cons_succ]
          refine wpAnyS_take (i := 13) (oi := ?oib14) (v := .bool true) ?hib14 (by kernel_rfl) (by kernel_rfl) (by kernel_rfl) (addS_iff (by decide) (by decide)) ?hqb14 ?hyb14 hCb13 hSb13 ?restb14
          case hib14 => simp only [List.getElem?_toArray, List.getElem?_cons_succ, List.getElem?_cons_zero, Option.some.injEq]; rfl
          case hqb14 => exact fun _ _ _ h => h
          case hyb14 =>
            refine Or.inl ⟨by kernel_rfl, fun V hV => ?_⟩
            clear hV
            go_simp
          intro hCb14 hSb14
          clear hCb13 hSb13
          try simp only [Go.Act.put, List.setIfInBounds_toArray, List.set_cons_zero, List.set_cons_succ]
          refine wpAnyS_done (by kernel_rfl) ?_ _
          clear hCb14 hSb14
          go_wp2_with fail
          go_roundw
          case rel => exact ⟨k + 1, by omega, by go_num, F1, n2, by omega, HT⟩
          case measure => simp [intOf]; omega
        have p1 : (op == 1) = false := by simpa using o1
        clear o1
        by_cases o2 : op = 2
        · subst o2
          obtain ⟨v, hv⟩ : ∃ v, onV F first f0 g0 x = v := ⟨_, rfl⟩
          obtain ⟨e1, he⟩ : ∃ v, onE first x = v := ⟨_, rfl⟩
          have HV := Lib.hid hv; have HEE := Lib.hid he
          clear hv he
          have bc0 := blk_cell BC.out 0 _ rfl
          have bc1 := blk_cell BC.out 1 _ rfl
          have bc2 := blk_cell BC.out 2 _ rfl
          go_wp2_with fail
          refine (two_on HT.out HF.out HB1.out HB2.out x HV HEE).mono ?_; rintro e w3 ⟨rfl, hg3, ht3⟩
          clear bc0 bc1 bc2
          replace HT := Lib.hid ht3
          replace BC := Lib.hid (blk_at BC.out hg3 (by simp))
          clear hg3 ht3
          go_upto_region 21 with (fail)
          obtain ⟨VP, hV⟩ : ∃ V, w3.alloc (.cells #[.int .i64 v.d, .int .i64 v.l, .int .i64 v.f, .int .i64 v.g, .int .i64 v.m] 103) = V := ⟨_, rfl⟩
          have gV : w3.grownBy VP none := by rw [← hV]; exact World.grownBy_alloc _ _ _
          have BP : Hid (VP.heap[w3.heap.size]? = some (.cells #[.int .i64 v.d, .int .i64 v.l, .int .i64 v.f, .int .i64 v.g, .int .i64 v.m] 103 (0, 0))) := by rw [← hV]; exact heap_alloc_new _ _
          rw [hV]
          replace HT := Lib.hid (HT.out.grown gV)
          replace BC := Lib.hid (blk_at BC.out gV (by simp))
          clear hV gV
          generalize w3.heap.size = XP at *
          have bc0 := blk_cell BC.out 0 _ rfl
          have bc1 := blk_cell BC.out 1 _ rfl
          have bc2 := blk_cell BC.out 2 _ rfl
          go_wp2_with fail
          refine (two_ron HT.out HF.out HB1.out HB2.out x HV HEE).mono ?_; rintro e w4 ⟨rfl, hg4, ht4⟩
          clear bc0 bc1 bc2
          replace HT := Lib.hid ht4
          replace BC := Lib.hid (blk_at BC.out hg4 (by simp))
          replace BP := Lib.hid (blk_at BP.out hg4 (by simp))
          clear hg4 ht4
          go_upto_region 22 with (fail)
          obtain ⟨VR, hV⟩ : ∃ V, w4.alloc (.cells #[.int .i64 v.d, .int .i64 v.l, .int .i64 v.f, .int .i64 v.g, .int .i64 v.m] 103) = V := ⟨_, rfl⟩
          have gV : w4.grownBy VR none := by rw [← hV]; exact World.grownBy_alloc _ _ _
          have BR : Hid (VR.heap[w4.heap.size]? = some (.cells #[.int .i64 v.d, .int .i64 v.l, .int .i64 v.f, .int .i64 v.g, .int .i64 v.m] 103 (0, 0))) := by rw [← hV]; exact heap_alloc_new _ _
          rw [hV]
          replace HT := Lib.hid (HT.out.grown gV)
          replace BC := Lib.hid (blk_at BC.out gV (by simp))
          replace BP := Lib.hid (blk_at BP.out gV (by simp))
          clear hV gV
          generalize w4.heap.size = XR at *
          have bp0 := blk_cell BP.out 0 _ rfl
          have bp1 := blk_cell BP.out 1 _ rfl
          have bp2 := blk_cell BP.out 2 _ rfl
          have bp3 := blk_cell BP.out 3 _ rfl
          have bp4 := blk_cell BP.out 4 _ rfl
          have br0 := blk_cell BR.out 0 _ rfl
          have br1 := blk_cell BR.out 1 _ rfl
          have br2 := blk_cell BR.out 2 _ rfl
          have br3 := blk_cell BR.out 3 _ rfl
          have br4 := blk_cell BR.out 4 _ rfl
          go_wp2_with fail
          go_roundw
          case rel => exact ⟨k + 1, by omega, by go_num, F, n, by omega, HT⟩
          case measure => simp [intOf]; omega
        have p2 : (op == 2) = false := by simpa using o2
        clear o2
        by_cases o3 : op = 3
        · subst o3
          obtain ⟨e1, he⟩ : ∃ v, betE first x y = v := ⟨_, rfl⟩
          obtain ⟨R, hR⟩ : ∃ v, betL F first f0 g0 x y e1 = v := ⟨_, rfl⟩
          have HEE := Lib.hid he; have HR := Lib.hid hR
          clear he hR
          have bc0 := blk_cell BC.out 0 _ rfl
          have bc1 := blk_cell BC.out 1 _ rfl
          have bc2 := blk_cell BC.out 2 _ rfl
          go_wp2_with fail
          refine (two_between HT.out HF.out HB1.out HB2.out x y HEE HR.out).mono ?_; rintro e w3 ⟨⟨v3, rfl, hr3⟩, hg3, ht3⟩
          have R3 := Lib.hid hr3
          clear bc0 bc1 bc2 hr3
          replace HT := Lib.hid ht3
          replace BC := Lib.hid (blk_at BC.out hg3 (by simp))
          clear hg3 ht3
          have bc0 := blk_cell BC.out 0 _ rfl
          have bc1 := blk_cell BC.out 1 _ rfl
          have bc2 := blk_cell BC.out 2 _ rfl
          go_wp2_with fail
          refine (two_rbetween HT.out HF.out HB1.out HB2.out x y HEE HR.out).mono ?_; rintro e w4 ⟨⟨v4, rfl, hr4⟩, hg4, ht4⟩
          have R4 := Lib.hid hr4
          replace R3 := Lib.hid (R3.out.kept hg4 (by cases v3.ownBlock <;> simp))
          clear bc0 bc1 bc2 hr4
          replace HT := Lib.hid ht4
          clear hg4 ht4
          obtain ⟨a3, c3, rfl, s3⟩ := own_sts R3.out
          obtain ⟨a4, c4, rfl, s4⟩ := own_sts R4.out
          have S3 := Lib.hid s3; have S4 := Lib.hid s4
          have HN : Hid ((R.length : Int) ≤ 9223372036854775807) := betL_bd HEE.out HR.out
          clear R3 R4 s3 s4
          go_wp2_with fail
          refine (equal_sts S3.out S4.out HN.out).mono ?_; rintro e w5 ⟨rfl, hg5⟩
          replace HT := Lib.hid (HT.out.grown hg5)
          clear hg5 S3 S4
          go_wp2_with fail
          go_roundw
          case rel => exact ⟨k + 1, by omega, by go_num, F, n, by omega, HT⟩
          case measure => simp [intOf]; omega
        have p3 : (op == 3) = false := by simpa using o3
        clear o3
        obtain ⟨v, hv⟩ : ∃ v, ratV F first x = v := ⟨_, rfl⟩
        have HV := Lib.hid hv
        clear hv
        have bc0 := blk_cell BC.out 0 _ rfl
        have bc1 := blk_cell BC.out 1 _ rfl
        have bc2 := blk_cell BC.out 2 _ rfl
        go_wp2_with fail
        refine (two_ratio HT.out HF.out x HV).mono ?_; rintro e w3 ⟨rfl, hg3, ht3⟩
        clear bc0 bc1 bc2
        replace HT := Lib.hid ht3
        replace BC := Lib.hid (blk_at BC.out hg3 (by simp))
        clear hg3 ht3
        go_upto_region 13 with (fail)
        obtain ⟨VP, hV⟩ : ∃ V, w3.alloc (.cells #[.int .i64 v.p, .int .i64 v.q] 111) = V := ⟨_, rfl⟩
        have gV : w3.grownBy VP none := by rw [← hV]; exact World.grownBy_alloc _ _ _
        have BP : Hid (VP.heap[w3.heap.size]? = some (.cells #[.int .i64 v.p, .int .i64 v.q] 111 (0, 0))) := by rw [← hV]; exact heap_alloc_new _ _
        rw [hV]
        replace HT := Lib.hid (HT.out.grown gV)
        replace BC := Lib.hid (blk_at BC.out gV (by simp))
        clear hV gV
        generalize w3.heap.size = XP at *
        have bc0 := blk_cell BC.out 0 _ rfl
        have bc1 := blk_cell BC.out 1 _ rfl
        have bc2 := blk_cell BC.out 2 _ rfl
        go_wp2_with fail
        refine (two_rratio HT.out HF.out x HV).mono ?_; rintro e w4 ⟨rfl, hg4, ht4⟩
        clear bc0 bc1 bc2
        replace HT := Lib.hid ht4
        replace BC := Lib.hid (blk_at BC.out hg4 (by simp))
        replace BP := Lib.hid (blk_at BP.out hg4 (by simp))
        clear hg4 ht4
        go_upto_region 14 with (fail)
        obtain ⟨VR, hV⟩ : ∃ V, w4.alloc (.cells #[.int .i64 v.p, .int .i64 v.q] 111) = V := ⟨_, rfl⟩
        have gV : w4.grownBy VR none := by rw [← hV]; exact World.grownBy_alloc _ _ _
        have BR : Hid (VR.heap[w4.heap.size]? = some (.cells #[.int .i64 v.p, .int .i64 v.q] 111 (0, 0))) := by rw [← hV]; exact heap_alloc_new _ _
        rw [hV]
        replace HT := Lib.hid (HT.out.grown gV)
        replace BC := Lib.hid (blk_at BC.out gV (by simp))
        replace BP := Lib.hid (blk_at BP.out gV (by simp))
        clear hV gV
        generalize w4.heap.size = XR at *
        have bp0 := blk_cell BP.out 0 _ rfl
        have bp1 := blk_cell BP.out 1 _ rfl
        have br0 := blk_cell BR.out 0 _ rfl
        have br1 := blk_cell BR.out 1 _ rfl
        go_wp2_with fail
        go_roundw
        case rel => exact ⟨k + 1, by omega, by go_num, F, n, by omega, HT⟩
        case measure => simp [intOf]; omega
      · go_wp2_with fail
        refine (ftold_any _).mono ?_; rintro e w6 ⟨rfl, hg6⟩
        have HK := Lib.hid (grown_trans HT.out.fr hg6)
        clear hg6
        go_wp2_with fail
        go_ret
        exact ⟨by first | rfl | simp, HK.out⟩
  · have n1 : (E == 0) = false := by simpa using e0
    go_enter Try.func12, Try.ntmps12
    go_wp2_with fail
    refine (newBook_is first f0 g0 w HE).mono ?_; rintro e w1 ⟨⟨p1, rfl, _⟩, hg1⟩
    have K1 := Lib.hid hg1
    clear hg1
    go_wp2_with fail
    refine (rnewBook_is first f0 g0 w1 HE).mono ?_; rintro e w2 ⟨⟨p2, rfl, _⟩, hg2⟩
    replace K1 := Lib.hid (grown_trans K1.out hg2)
    clear hg2
    go_wp2_with fail
    refine (ftold_any _).mono ?_; rintro e w6 ⟨rfl, hg6⟩
    replace K1 := Lib.hid (grown_trans K1.out hg6)
    clear hg6
    go_wp2_with fail
    go_ret
    exact ⟨by first | rfl | simp, K1.out⟩
end Go.Proofs.Yteaifonpkdjkcaa


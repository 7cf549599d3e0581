/- The contract of the reference's ends: the numbers at which something can begin, in order. -/
import Derived.Test.YtbacoopopokkfaaGreatDoorQSetJ
namespace Go.Proofs.YtbacoopopokkfaaGreatDoor
open Go.RowKit Go.Shelf
set_option linter.unusedSimpArgs false
set_option linter.unusedVariables false

def intCs (x : Int) : List Value := [.int .i64 x]
theorem intCs_len (x : Int) : (intCs x).length = 1 := rfl
theorem zero_int : (Tryz.prog.info? 3).map (fun i => (i.zero, i.size, i.bytes)) = some (some (.int .i64 0), 1, 8) := by kernel_rfl
/-- A row of numbers of one's own. -/
def IntOwn (b : Nat) (w : World) (v : Value) (L : List Int) : Prop := w.ownsRow b 3 1 v L.length (L.flatMap intCs)
theorem IntOwn.nil (b : Nat) (w : World) : IntOwn b w (.slice none 0 0) [] := World.ownsRow_nil _ _ _ _
theorem IntOwn.more {b : Nat} {w : World} {v : Value} {L : List Int} {f : Int} (h : w.ownsRow b 3 1 v (L.length + 1) (L.flatMap intCs ++ [.int .i64 f])) : IntOwn b w v (L ++ [f]) := by
  unfold IntOwn
  rw [List.length_append, mflat_snoc]; exact h
theorem IntOwn.lt {b : Nat} {w : World} {v : Value} {L : List Int} (h : IntOwn b w v L) : ∀ k, v.ownBlock = some k → b ≤ k ∧ k < w.heap.size := World.ownsRow.lt (h : World.ownsRow _ _ _ _ _ _ _)
theorem IntOwn.alloc {b : Nat} {w : World} {v : Value} {L : List Int} (h : IntOwn b w v L) (o : Obj) : (w.alloc o).ownsRow b 3 1 v L.length (L.flatMap intCs) := World.ownsRow.alloc (h : World.ownsRow _ _ _ _ _ _ _) o
theorem IntOwn.rows {b : Nat} {w : World} {v : Value} {L : List Int} (h : IntOwn b w v L) : ∃ ao cap, v = .slice ao L.length cap ∧ RowsAt intCs 1 w ao L := by
  obtain ⟨p, q, e, _, r, _⟩ := own_rows intCs_len h
  exact ⟨p, q, e, r⟩
def leI (x y : Int) : Bool := decide (x ≤ y)
theorem mrg_nil (l : List Int) : List.merge l [] leI = l := by cases l <;> simp [List.merge]
theorem mrg_nil2 (l : List Int) : List.merge [] l leI = l := by cases l <;> simp [List.merge]
theorem mrg_a {x y : Int} {xs ys : List Int} (h : x ≤ y) : List.merge (x :: xs) (y :: ys) leI = x :: List.merge xs (y :: ys) leI := by rw [List.cons_merge_cons, if_pos (show leI x y = true from decide_eq_true h)]
theorem mrg_b {x y : Int} {xs ys : List Int} (h : ¬ x ≤ y) : List.merge (x :: xs) (y :: ys) leI = y :: List.merge (x :: xs) ys leI := by rw [List.cons_merge_cons, if_neg (by unfold leI; simp only [decide_eq_true_eq]; exact h)]

set_option maxRecDepth 100000 in
set_option maxHeartbeats 3200000 in
theorem ends_is (ao bo : Option Addr) (ac bc : Nat) (A B : List SpV) (hla : A.length ≤ 1000) (hlb : B.length ≤ 1000) (ia : InB A) (ib : InB B) (w : World) (ha : RowsAt spCs 2 w ao A) (hb : RowsAt spCs 2 w bo B) :
    Calls Tryz.prog 64 #[.slice ao A.length ac, .slice bo B.length bc] w fun x w' => (∃ v, x = .returned v ∧ IntOwn w.heap.size w' v (endL A B)) ∧ w.grownBy w' none := by
  obtain ⟨i0, hi, hz0, hz1, hz2⟩ := info_parts zero_int
  have HI0 := Lib.hid hi; have HZ0 := Lib.hid hz0; have HZ1 := Lib.hid hz1; have HZ2 := Lib.hid hz2
  have HA := Lib.hid ha; have HB := Lib.hid hb; have HIA := Lib.hid ia; have HIB := Lib.hid ib
  have ra : IntKind.i64.wrap (2 * (A.length : Int)) = 2 * (A.length : Int) := IntWalk.i64_in _ (by omega)
  have rb : IntKind.i64.wrap (2 * (B.length : Int)) = 2 * (B.length : Int) := IntWalk.i64_in _ (by omega)
  have HEL : Hid (endL A B = List.merge (endsV A) (endsV B) leI) := rfl
  clear hi hz0 hz1 hz2 ha hb ia ib
  go_enter Tryz.func64, Tryz.ntmps64
  go_wp2_with fail
  go_loopw [5, 6, 7] (fun sv iv kv wr => (∃ (i k : Nat) (acc : List Int) (v : Value), i ≤ 2 * A.length ∧ k ≤ 2 * B.length ∧ iv = .int .i64 i ∧ kv = .int .i64 k ∧ v = sv ∧ Hid (acc.length ≤ i + k) ∧ Hid (acc ++ List.merge ((endsV A).drop i) ((endsV B).drop k) leI = endL A B) ∧ Hid (IntOwn w.heap.size wr v acc)) ∧ Hid (w.grownBy wr none)) (fun _ iv kv _ => 2 * A.length + 2 * B.length - (intOf iv).toNat - (intOf kv).toNat)
  case atStart => exact ⟨⟨0, 0, [], _, Nat.zero_le _, Nat.zero_le _, rfl, rfl, rfl, Nat.le_refl _, (by rw [List.drop_zero, List.drop_zero]; exact HEL.out.symm), IntOwn.nil _ _⟩, World.grownBy.refl _ _⟩
  case round =>
    obtain ⟨⟨i, k, acc, v, hi2, hk2, rfl, rfl, rfl, hal, hd, ho⟩, hg⟩ := hrel
    have HSZ := Lib.hid hg.out.size
    by_cases hli2 : i < 2 * A.length
    · have hea : nthE A i = nthE A i := rfl
      generalize hna : nthE A i = ea at hea
      replace hea := hna
      have DA := Lib.hid (ends_at A i hli2)
      rw [hna] at DA
      have qa1 : (i : Int) < 2 * (A.length : Int) := by omega
      by_cases hlk2 : k < 2 * B.length
      · generalize hnb : nthE B k = eb
        have heb := hnb
        have DB := Lib.hid (ends_at B k hlk2)
        rw [hnb] at DB
        have qb1 : (k : Int) < 2 * (B.length : Int) := by omega
        have qb2 : ¬ (k : Int) = 2 * (B.length : Int) := by omega
        have qb3 : ((k : Int) == 2 * (B.length : Int)) = false := by simp; omega
        by_cases hc : ea ≤ eb
        · have qc : decide (ea ≤ eb) = true := decide_eq_true hc
          have hi := HI0.out; have hz0 := HZ0.out; have hz1 := HZ1.out; have hz2 := HZ2.out
          have hacc : acc.length ≤ 4000 := by have := hal.out; omega
          have HL := Lib.hid ho.out.lt
          have HD : Hid (acc ++ ([ea] ++ List.merge ((endsV A).drop (i + 1)) ((endsV B).drop k) leI) = endL A B) := by
            have q := hd.out
            rw [DA.out, DB.out, mrg_a hc, ← DB.out] at q
            exact q
          clear hd DA DB hna hnb
          go_wp2_with fail
          refine (end_is _ _ A hla HIA.out i hli2 _ (HA.out.grown hg.out) hea).mono ?_; rintro e w1 ⟨rfl, rfl⟩
          go_wp2_with fail
          refine (end_is _ _ B hlb HIB.out k hlk2 _ (HB.out.grown hg.out) heb).mono ?_; rintro e w1 ⟨rfl, rfl⟩
          go_wp2_with fail
          refine (end_is _ _ A hla HIA.out i hli2 _ (HA.out.grown hg.out) hea).mono ?_; rintro e w1 ⟨rfl, rfl⟩
          go_wp2_with (at_builtin; refine wpList_append_own _ rfl _ _ 90 rfl w.heap.size 3 i0 (.int .i64 0) 1 8 Tryz.underlying90 hi hz0 hz1 hz2 rfl (by decide) _ acc.length _ rfl (ho.out.alloc _) ⟨wr.heap.size, 0, none⟩ 1 1 [.int .i64 ea] rfl rfl (World.news_of_block (cs := #[.int .i64 ea]) (t := 3) (fr := (0, 0)) (mheap_new wr _)) (by simp [Value.oneCell']) (by unfold maxLen; omega) (by omega) (by have := HSZ.out; simp; omega) ?_; intro v' w3 hown' hgrow' _; have HN := Lib.hid (IntOwn.more hown'); have HN2 := Lib.hid (grown_anyS (grown_trans hg.out (World.grownBy_alloc _ _ none)) hgrow' (fun r e => (HL.out r e).1)); clear hown' hgrow' hi hz0 hz1 hz2)
          go_wp2_with fail
          go_roundw
          case rel => exact ⟨⟨i + 1, k, _, v', by omega, by omega, by go_num, by go_num, rfl, (by have := hal.out; show _ ≤ _; simp; omega), (by show _ = _; rw [List.append_assoc]; exact HD.out), HN.out⟩, HN2.out⟩
          case measure => simp [intOf]; omega
        · have qc : decide (ea ≤ eb) = false := decide_eq_false hc
          have hi := HI0.out; have hz0 := HZ0.out; have hz1 := HZ1.out; have hz2 := HZ2.out
          have hacc : acc.length ≤ 4000 := by have := hal.out; omega
          have HL := Lib.hid ho.out.lt
          have HD : Hid (acc ++ ([eb] ++ List.merge ((endsV A).drop i) ((endsV B).drop (k + 1)) leI) = endL A B) := by
            have q := hd.out
            rw [DA.out, DB.out, mrg_b hc, ← DA.out] at q
            exact q
          clear hd DA DB hna hnb
          go_wp2_with fail
          refine (end_is _ _ A hla HIA.out i hli2 _ (HA.out.grown hg.out) hea).mono ?_; rintro e w1 ⟨rfl, rfl⟩
          go_wp2_with fail
          refine (end_is _ _ B hlb HIB.out k hlk2 _ (HB.out.grown hg.out) heb).mono ?_; rintro e w1 ⟨rfl, rfl⟩
          go_wp2_with fail
          refine (end_is _ _ B hlb HIB.out k hlk2 _ (HB.out.grown hg.out) heb).mono ?_; rintro e w1 ⟨rfl, rfl⟩
          go_wp2_with (at_builtin; refine wpList_append_own _ rfl _ _ 90 rfl w.heap.size 3 i0 (.int .i64 0) 1 8 Tryz.underlying90 hi hz0 hz1 hz2 rfl (by decide) _ acc.length _ rfl (ho.out.alloc _) ⟨wr.heap.size, 0, none⟩ 1 1 [.int .i64 eb] rfl rfl (World.news_of_block (cs := #[.int .i64 eb]) (t := 3) (fr := (0, 0)) (mheap_new wr _)) (by simp [Value.oneCell']) (by unfold maxLen; omega) (by omega) (by have := HSZ.out; simp; omega) ?_; intro v' w3 hown' hgrow' _; have HN := Lib.hid (IntOwn.more hown'); have HN2 := Lib.hid (grown_anyS (grown_trans hg.out (World.grownBy_alloc _ _ none)) hgrow' (fun r e => (HL.out r e).1)); clear hown' hgrow' hi hz0 hz1 hz2)
          go_wp2_with fail
          go_roundw
          case rel => exact ⟨⟨i, k + 1, _, v', by omega, by omega, by go_num, by go_num, rfl, (by have := hal.out; show _ ≤ _; simp; omega), (by show _ = _; rw [List.append_assoc]; exact HD.out), HN.out⟩, HN2.out⟩
          case measure => simp [intOf]; omega
      · have qb1 : ¬ (k : Int) < 2 * (B.length : Int) := by omega
        have qb2 : (k : Int) = 2 * (B.length : Int) := by omega
        have qb3 : ((k : Int) == 2 * (B.length : Int)) = true := by simp; omega
        have DBn : (endsV B).drop k = [] := List.drop_eq_nil_of_le (by rw [endsV_len]; omega)
        have hi := HI0.out; have hz0 := HZ0.out; have hz1 := HZ1.out; have hz2 := HZ2.out
        have hacc : acc.length ≤ 4000 := by have := hal.out; omega
        have HL := Lib.hid ho.out.lt
        have HD : Hid (acc ++ ([ea] ++ List.merge ((endsV A).drop (i + 1)) ((endsV B).drop k) leI) = endL A B) := by
          have q := hd.out
          rw [DBn, mrg_nil, DA.out] at q
          show _ = _
          rw [DBn, mrg_nil]; exact q
        clear hd DA DBn hna
        go_wp2_with fail
        refine (end_is _ _ A hla HIA.out i hli2 _ (HA.out.grown hg.out) hea).mono ?_; rintro e w1 ⟨rfl, rfl⟩
        go_wp2_with (at_builtin; refine wpList_append_own _ rfl _ _ 90 rfl w.heap.size 3 i0 (.int .i64 0) 1 8 Tryz.underlying90 hi hz0 hz1 hz2 rfl (by decide) _ acc.length _ rfl (ho.out.alloc _) ⟨wr.heap.size, 0, none⟩ 1 1 [.int .i64 ea] rfl rfl (World.news_of_block (cs := #[.int .i64 ea]) (t := 3) (fr := (0, 0)) (mheap_new wr _)) (by simp [Value.oneCell']) (by unfold maxLen; omega) (by omega) (by have := HSZ.out; simp; omega) ?_; intro v' w3 hown' hgrow' _; have HN := Lib.hid (IntOwn.more hown'); have HN2 := Lib.hid (grown_anyS (grown_trans hg.out (World.grownBy_alloc _ _ none)) hgrow' (fun r e => (HL.out r e).1)); clear hown' hgrow' hi hz0 hz1 hz2)
        go_wp2_with fail
        go_roundw
        case rel => exact ⟨⟨i + 1, k, _, v', by omega, by omega, by go_num, by go_num, rfl, (by have := hal.out; show _ ≤ _; simp; omega), (by show _ = _; rw [List.append_assoc]; exact HD.out), HN.out⟩, HN2.out⟩
        case measure => simp [intOf]; omega
    · have qa1 : ¬ (i : Int) < 2 * (A.length : Int) := by omega
      have DAn : (endsV A).drop i = [] := List.drop_eq_nil_of_le (by rw [endsV_len]; omega)
      by_cases hlk2 : k < 2 * B.length
      · generalize hnb : nthE B k = eb
        have heb := hnb
        have DB := Lib.hid (ends_at B k hlk2)
        rw [hnb] at DB
        have qb1 : (k : Int) < 2 * (B.length : Int) := by omega
        have qb2 : ¬ (k : Int) = 2 * (B.length : Int) := by omega
        have qb3 : ((k : Int) == 2 * (B.length : Int)) = false := by simp; omega
        have hi := HI0.out; have hz0 := HZ0.out; have hz1 := HZ1.out; have hz2 := HZ2.out
        have hacc : acc.length ≤ 4000 := by have := hal.out; omega
        have HL := Lib.hid ho.out.lt
        have HD : Hid (acc ++ ([eb] ++ List.merge ((endsV A).drop i) ((endsV B).drop (k + 1)) leI) = endL A B) := by
          have q := hd.out
          rw [DAn, mrg_nil2, DB.out] at q
          show _ = _
          rw [DAn, mrg_nil2]; exact q
        clear hd DAn DB hnb
        go_wp2_with fail
        refine (end_is _ _ B hlb HIB.out k hlk2 _ (HB.out.grown hg.out) heb).mono ?_; rintro e w1 ⟨rfl, rfl⟩
        go_wp2_with (at_builtin; refine wpList_append_own _ rfl _ _ 90 rfl w.heap.size 3 i0 (.int .i64 0) 1 8 Tryz.underlying90 hi hz0 hz1 hz2 rfl (by decide) _ acc.length _ rfl (ho.out.alloc _) ⟨wr.heap.size, 0, none⟩ 1 1 [.int .i64 eb] rfl rfl (World.news_of_block (cs := #[.int .i64 eb]) (t := 3) (fr := (0, 0)) (mheap_new wr _)) (by simp [Value.oneCell']) (by unfold maxLen; omega) (by omega) (by have := HSZ.out; simp; omega) ?_; intro v' w3 hown' hgrow' _; have HN := Lib.hid (IntOwn.more hown'); have HN2 := Lib.hid (grown_anyS (grown_trans hg.out (World.grownBy_alloc _ _ none)) hgrow' (fun r e => (HL.out r e).1)); clear hown' hgrow' hi hz0 hz1 hz2)
        go_wp2_with fail
        go_roundw
        case rel => exact ⟨⟨i, k + 1, _, v', by omega, by omega, by go_num, by go_num, rfl, (by have := hal.out; show _ ≤ _; simp; omega), (by show _ = _; rw [List.append_assoc]; exact HD.out), HN.out⟩, HN2.out⟩
        case measure => simp [intOf]; omega
      · have qb1 : ¬ (k : Int) < 2 * (B.length : Int) := by omega
        have DBn : (endsV B).drop k = [] := List.drop_eq_nil_of_le (by rw [endsV_len]; omega)
        have HD : Hid (acc = endL A B) := by
          have q := hd.out
          rw [DAn, DBn, mrg_nil, List.append_nil] at q; exact q
        clear hd DAn DBn
        go_wp2_with fail
        go_ret
        exact ⟨⟨v, rfl, by rw [← HD.out]; exact ho.out⟩, hg.out⟩
end Go.Proofs.YtbacoopopokkfaaGreatDoor

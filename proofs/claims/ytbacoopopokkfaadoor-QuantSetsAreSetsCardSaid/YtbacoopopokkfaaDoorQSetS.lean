/- The contracts of SpansText, of both sides. -/
import Derived.Test.YtbacoopopokkfaaDoorQSetJ
import Derived.Test.YtbacoopopokkfaaDoorShelf
import Derived.Lib.ItoaLen
import Derived.Lib.Join
import Derived.Lib.LaidTab
namespace Go.Proofs.YtbacoopopokkfaaDoor
open Go.RowKit Go.Shelf
set_option linter.unusedSimpArgs false
set_option linter.unusedVariables false

abbrev PowTab (w : World) : Prop := Lib.TabIs Tryd.prog w "internal/strconv.uint64pow10" .u64 Lib.pow10Tab
theorem tab_grownS {name : String} {k : IntKind} {zs : List Int} {w w' : World} (h : Lib.TabIs Tryd.prog w name k zs) (g : w.grownBy w' none) : Lib.TabIs Tryd.prog w' name k zs := by
  unfold Lib.TabIs World.var? at h ⊢
  rcases hn : Tryd.prog.globalNamed name with _ | b
  · rw [hn] at h; simp at h
  · simp only [hn, Option.bind_some] at h ⊢
    rcases hb : w.heap[b]? with _ | o
    · rw [hb] at h; simp at h
    · rw [g.block b (lt_of_block hb) (by simp), hb]
      rw [hb] at h
      exact h
theorem grown_growS (w : World) (k : Nat) (os : Array Obj) : w.grownBy (Go.Sort.grow (w.drewN k) os) none := by
  refine ⟨rfl, rfl, rfl, by simp [Go.Sort.grow], fun i hi _ => ?_⟩
  show (w.heap ++ os)[i]? = _
  rw [Array.getElem?_append_left hi]
def iB (n : Int) : ByteArray := ⟨(Lib.itoa n).toArray⟩
theorem itoaS_is (n : Int) (h0 : 0 ≤ n) (h1 : n ≤ 1000000000000) (w : World) (ht : PowTab w) : Calls Tryd.prog 27 #[.int .i64 n] w fun e w' => e = .returned (.string (iB n)) ∧ w.grownBy w' none := by
  refine (Tryd.strconv_Itoa n (by omega) (by omega) w ht).mono ?_
  rintro e w' ⟨h2, k, os, rfl⟩
  exact ⟨h2, grown_growS w k os⟩

def wordB (x : SpV) : ByteArray := if x.fr < x.to_ then iB x.fr ++ ((⟨#[45]⟩ : ByteArray) ++ iB x.to_) else iB x.fr
def wordL (x : SpV) : List UInt8 := (wordB x).data.toList
def textB (L : List SpV) : ByteArray := ⟨(Lib.join (L.map wordL) [44]).toArray⟩
def txtR (L : List SpV) : ByteArray × Int := if chkS L = 0 then (textB L, 0) else (⟨#[]⟩, chkS L)
theorem join_snoc (l : List (List UInt8)) (x sep : List UInt8) : Lib.join (l ++ [x]) sep = if l = [] then x else Lib.join l sep ++ (sep ++ x) := by
  cases l with
  | nil => rw [if_pos rfl]; exact Lib.join_one x sep
  | cons y r =>
    rw [if_neg (by simp), List.cons_append, Lib.join_cons, Lib.join_cons]
    unfold Lib.joinTail
    simp [List.append_assoc]
theorem bytes_addS (a b : List UInt8) : (⟨a.toArray⟩ : ByteArray) ++ ⟨b.toArray⟩ = ⟨(a ++ b).toArray⟩ := by
  apply ByteArray.ext
  simp
theorem empty_add (a : ByteArray) : (⟨#[]⟩ : ByteArray) ++ a = a := by
  apply ByteArray.ext
  simp
theorem text_nil : textB [] = ⟨#[]⟩ := rfl
theorem text_one (L : List SpV) (h : 0 < L.length) : textB (L.take 1) = wordB L[0] := by
  obtain ⟨x, r, rfl⟩ : ∃ x r, L = x :: r := by
    cases L with
    | nil => simp at h
    | cons x r => exact ⟨x, r, rfl⟩
  unfold textB wordL
  simp only [List.take_succ_cons, List.take_zero, List.map_cons, List.map_nil, Lib.join_one, List.getElem_cons_zero]
theorem text_snoc (L : List SpV) (k : Nat) (hk : k + 1 < L.length) : textB (L.take (k + 1 + 1)) = textB (L.take (k + 1)) ++ (⟨#[44]⟩ : ByteArray) ++ wordB L[k + 1] := by
  rw [List.take_succ_eq_append_getElem hk]
  unfold textB
  rw [List.map_append, List.map_cons, List.map_nil, join_snoc, if_neg (by
    intro e
    have := congrArg List.length e
    rw [List.length_map, List.length_take, List.length_nil] at this; omega)]
  have e : wordB L[k + 1] = ⟨(wordL L[k + 1]).toArray⟩ := by unfold wordL; rfl
  rw [e, show (⟨#[44]⟩ : ByteArray) = ⟨([44] : List UInt8).toArray⟩ from rfl, bytes_addS, bytes_addS, List.append_assoc]
theorem iB_len {n : Int} (h0 : 0 ≤ n) (h1 : n ≤ 1000000000000) : (iB n).data.toList.length ≤ 21 := by
  have := Lib.itoa_length_le n (by omega) (by omega)
  unfold iB
  simpa using this
theorem iB_size {n : Int} (h0 : 0 ≤ n) (h1 : n ≤ 1000000000000) : (iB n).size ≤ 21 := by
  have := iB_len h0 h1
  rw [Array.length_toList] at this; exact this
theorem word_len {x : SpV} (h : 0 ≤ x.fr ∧ x.fr ≤ x.to_ ∧ x.to_ ≤ 1000000000000) : (wordL x).length ≤ 50 := by
  have a := iB_len h.1 (by omega); have b := iB_len (n := x.to_) (by omega) h.2.2
  unfold wordL wordB
  split
  · simp only [ByteArray.data_append, Array.toList_append, List.length_append] at *
    simp only [List.length_cons, List.length_nil]; omega
  · omega
theorem join_len : ∀ {L : List SpV}, InB L → (Lib.join (L.map wordL) [44]).length ≤ 51 * L.length := by
  intro L hb
  have tail : ∀ L : List SpV, InB L → (Lib.joinTail [44] (L.map wordL)).length ≤ 51 * L.length := by
    intro L
    induction L with
    | nil => intro _; simp [Lib.joinTail]
    | cons x r ih =>
      intro hb
      have := ih (fun y hy => hb y (by simp [hy]))
      have := word_len (hb x (by simp))
      unfold Lib.joinTail at *
      simp only [List.map_cons, List.flatten_cons, List.length_append, List.length_cons, List.length_nil] at *
      omega
  cases L with
  | nil => simp [Lib.join_nil]
  | cons x r =>
    rw [List.map_cons, Lib.join_cons, List.length_append]
    have := tail r (fun y hy => hb y (by simp [hy]))
    have := word_len (hb x (by simp))
    simp only [List.length_cons]; omega
theorem text_size {L : List SpV} (hb : InB L) : (textB L).size ≤ 51 * L.length := by
  have := join_len hb
  show (Lib.join (L.map wordL) [44]).toArray.size ≤ _
  simpa using this
/-- Words in a row of one's own. -/
def txCs (x : SpV) : List Value := [.string (wordB x)]
theorem txCs_len (x : SpV) : (txCs x).length = 1 := rfl
theorem zero_str : (Tryd.prog.info? 9).map (fun i => (i.zero, i.size, i.bytes)) = some (some (.string ⟨#[]⟩), 1, 16) := by kernel_rfl
def TxOwn (b : Nat) (w : World) (v : Value) (L : List SpV) : Prop := w.ownsRow b 9 1 v L.length (L.flatMap txCs)

set_option maxRecDepth 100000 in
set_option maxHeartbeats 3200000 in
theorem SpansText_is (ao : Option Addr) (cap : Nat) (L : List SpV) (hl : (L.length : Int) ≤ 9223372036854775807) (w : World) (hs : RowsAt spCs 2 w ao L) (ht : PowTab w) {s : ByteArray} {e : Int} (hv : txtR L = (s, e)) :
    Calls Tryd.prog 11 #[.slice ao L.length cap] w fun x w' => x = .returned (.tuple #[.string s, .int .i64 e]) ∧ w.grownBy w' none := by
  obtain ⟨i0, hi, hz0, hz1, hz2⟩ := info_parts zero_str
  have HI0 := Lib.hid hi; have HZ0 := Lib.hid hz0; have HZ1 := Lib.hid hz1; have HZ2 := Lib.hid hz2
  have HS := Lib.hid hs; have HT := Lib.hid ht
  obtain ⟨e1, he1⟩ : ∃ e1, chkS L = e1 := ⟨_, rfl⟩
  unfold txtR at hv
  have HE := Lib.hid he1
  clear hi hz0 hz1 hz2 ht
  by_cases c1 : e1 = 0
  · subst c1
    rw [he1] at hv
    simp only [↓reduceIte, Prod.mk.injEq] at hv
    obtain ⟨hv, rfl⟩ := hv
    have HV := Lib.hid hv
    have hl2 := (chkS_ok he1).1
    have HIB := Lib.hid (chkS_ok he1).2.1
    clear hs he1 hv
    go_enter Tryd.func11, Tryd.ntmps11
    go_wp2_with fail
    refine (checkSp_is ao cap L hl _ HS.out HE.out).mono ?_; rintro x w1 ⟨rfl, hg1⟩
    have HG1 := Lib.hid hg1
    clear hg1
    go_wp2_with fail
    go_loopw [5, 16] (fun sv iv wr => (∃ (k : Nat) (v : Value), k ≤ L.length ∧ iv = .int .i64 k ∧ v = sv ∧ Hid (TxOwn w.heap.size wr v (L.take k))) ∧ Hid (w.grownBy wr none)) (fun _ iv _ => L.length - (intOf iv).toNat)
    case atStart => exact ⟨⟨0, _, Nat.zero_le _, rfl, rfl, World.ownsRow_nil _ _ _ _⟩, HG1.out⟩
    case round =>
      obtain ⟨⟨k, v, hk, rfl, rfl, ho⟩, hg⟩ := hrel
      by_cases hlt : k < L.length
      · obtain ⟨b1, o1, rfl, q1⟩ := sp_at (HS.out.grown hg.out) (by omega)
        obtain ⟨x0, x1⟩ := q1 k hlt
        have hx := HIB.out _ (List.getElem_mem hlt)
        have HTK := Lib.hid (List.take_succ_eq_append_getElem hlt)
        have hlk : (L.take k).length = k := by simp; omega
        generalize L[k] = x at *
        obtain ⟨xf, xt⟩ := x
        simp only at x0 x1 hx
        have sz1 := iB_size (n := xf) hx.1 (by omega)
        have sz2 := iB_size (n := xt) (by omega) hx.2.2
        have GA := Lib.hid (World.grownBy_alloc wr (.cells #[.int .i64 xf, .int .i64 xt] 37) none)
        have HG := Lib.hid (grown_trans hg.out GA.out)
        have z0 := Lib.hid (mblock_cell (c := #[.int .i64 xf, .int .i64 xt]) (t := 37) (mheap_new wr _) 0 _ rfl)
        have z1 := Lib.hid (mblock_cell (c := #[.int .i64 xf, .int .i64 xt]) (t := 37) (mheap_new wr _) 1 _ rfl)
        have HO1 : Hid (World.ownsRow (wr.alloc (.cells #[.int .i64 xf, .int .i64 xt] 37)) w.heap.size 9 1 v k ((L.take k).flatMap txCs)) := by
          have q : wr.ownsRow w.heap.size 9 1 v (L.take k).length ((L.take k).flatMap txCs) := ho.out
          rw [hlk] at q; exact keptR q GA.out
        clear q1 hg ho
        go_wp2_with fail
        refine (itoaS_is xf hx.1 (by omega) _ (tab_grownS HT.out HG.out)).mono ?_; rintro e w2 ⟨rfl, hg2⟩
        have HG2 := Lib.hid (grown_trans HG.out hg2)
        have HO2 := Lib.hid (keptR HO1.out hg2)
        have y0 := hg2.cell z0.out (by simp); have y1 := hg2.cell z1.out (by simp)
        have HZ1' := Lib.hid y1
        clear hg2 HG HO1 x0 x1
        by_cases hc : xf < xt
        · have HW : Hid (wordB ⟨xf, xt⟩ = iB xf ++ ((⟨#[45]⟩ : ByteArray) ++ iB xt)) := by show _ = _; unfold wordB; rw [if_pos hc]
          go_wp2_with fail
          refine (itoaS_is xt (by omega) hx.2.2 _ (tab_grownS HT.out HG2.out)).mono ?_; rintro e w3 ⟨rfl, hg3⟩
          have HG3 := Lib.hid (grown_trans HG2.out hg3)
          have HO3 := Lib.hid (keptR HO2.out hg3)
          have HSZ := Lib.hid HG3.out.size
          clear hg3 y0 y1 HG2 HO2
          have hi := HI0.out; have hz0 := HZ0.out; have hz1 := HZ1.out; have hz2 := HZ2.out
          go_wp2_with (at_builtin; refine wpList_append_own _ rfl _ _ 50 rfl w.heap.size 9 i0 (.string ⟨#[]⟩) 1 16 Tryd.underlying50 hi hz0 hz1 hz2 rfl (by decide) _ k _ rfl (HO3.out.alloc _) ⟨w3.heap.size, 0, none⟩ 1 1 [.string (iB xf ++ ((⟨#[45]⟩ : ByteArray) ++ iB xt))] rfl rfl (World.news_of_block (cs := #[.string (iB xf ++ ((⟨#[45]⟩ : ByteArray) ++ iB xt))]) (t := 9) (fr := (0, 0)) (mheap_new w3 _)) (by simp [Value.oneCell']) (by unfold maxLen; omega) (by omega) (by have := HSZ.out; simp; omega) ?_; intro v' w4 hown' hgrow' _; have HN : Hid (TxOwn w.heap.size w4 v' (L.take (k + 1))) := (by show World.ownsRow _ _ _ _ _ _ _; rw [HTK.out, List.length_append, hlk, mflat_snoc]; show World.ownsRow _ _ _ _ _ _ (_ ++ [.string (wordB _)]); rw [HW.out]; exact hown'); have HN2 := Lib.hid (grown_anyS (grown_trans HG3.out (World.grownBy_alloc _ _ none)) hgrow' (fun r e => (HO3.out.lt r e).1)); clear hown' hgrow' hi hz0 hz1 hz2)
          go_wp2_with fail
          go_roundw
          case rel => exact ⟨⟨k + 1, v', by omega, by go_num, rfl, HN.out⟩, HN2.out⟩
          case measure => simp [intOf]; omega
        · have HW : Hid (wordB ⟨xf, xt⟩ = iB xf) := by show _ = _; unfold wordB; rw [if_neg hc]
          have HSZ := Lib.hid HG2.out.size
          have hi := HI0.out; have hz0 := HZ0.out; have hz1 := HZ1.out; have hz2 := HZ2.out
          go_wp2_with (at_builtin; refine wpList_append_own _ rfl _ _ 50 rfl w.heap.size 9 i0 (.string ⟨#[]⟩) 1 16 Tryd.underlying50 hi hz0 hz1 hz2 rfl (by decide) _ k _ rfl (HO2.out.alloc _) ⟨w2.heap.size, 0, none⟩ 1 1 [.string (iB xf)] rfl rfl (World.news_of_block (cs := #[.string (iB xf)]) (t := 9) (fr := (0, 0)) (mheap_new w2 _)) (by simp [Value.oneCell']) (by unfold maxLen; omega) (by omega) (by have := HSZ.out; simp; omega) ?_; intro v' w4 hown' hgrow' _; have HN : Hid (TxOwn w.heap.size w4 v' (L.take (k + 1))) := (by show World.ownsRow _ _ _ _ _ _ _; rw [HTK.out, List.length_append, hlk, mflat_snoc]; show World.ownsRow _ _ _ _ _ _ (_ ++ [.string (wordB _)]); rw [HW.out]; exact hown'); have HN2 := Lib.hid (grown_anyS (grown_trans HG2.out (World.grownBy_alloc _ _ none)) hgrow' (fun r e => (HO2.out.lt r e).1)); clear hown' hgrow' hi hz0 hz1 hz2)
          go_wp2_with fail
          go_roundw
          case rel => exact ⟨⟨k + 1, v', by omega, by go_num, rfl, HN.out⟩, HN2.out⟩
          case measure => simp [intOf]; omega
      · have ho2 : wr.ownsRow w.heap.size 9 1 v L.length (L.flatMap txCs) := by
          have q : wr.ownsRow w.heap.size 9 1 v (L.take k).length ((L.take k).flatMap txCs) := ho.out
          rw [List.take_of_length_le (by omega)] at q; exact q
        obtain ⟨po, pc, rfl, hcap, hr, _⟩ := own_rows txCs_len ho2
        have HJ : Hid (∀ W, wr = W → Calls Tryd.prog 28 #[.slice po L.length pc, .string ⟨#[44]⟩] W fun e w' => e = .returned (.string s) ∧ W.grownBy w' none) := by
          rintro W rfl
          rcases Nat.eq_zero_or_pos L.length with h0 | h0
          · have e : L = [] := List.eq_nil_of_length_eq_zero h0
            subst e
            refine (Tryd.strings_Join_none po pc ⟨#[44]⟩ wr).mono ?_
            rintro e w' ⟨rfl, rfl⟩
            exact ⟨by rw [← HV.out, text_nil], World.grownBy.refl _ _⟩
          · obtain ⟨g, o, rfl, hc⟩ := rows_at hr h0
            have hb : g < wr.heap.size := World.block_lt_of_cell? wr _ (hc 0 h0 0 _ rfl)
            have q := Tryd.strings_Join g o pc (L.map wordB) ⟨#[44]⟩ wr (fun j x hx => by
              rw [List.getElem?_map] at hx
              rcases hj : L[j]? with _ | y
              · rw [hj] at hx; cases hx
              · rw [hj] at hx
                obtain ⟨hlt, rfl⟩ := List.getElem?_eq_some_iff.1 hj
                simp only [Option.map_some, Option.some.injEq] at hx
                have := hc j hlt 0 _ rfl
                rw [← hx]
                simpa using this) hb (by rw [List.length_map]; omega) (by rw [List.length_map]; omega) (by
                have := join_len HIB.out
                have e : (L.map wordB).map (fun x => x.data.toList) = L.map wordL := by rw [List.map_map]; rfl
                rw [e]
                show (Lib.join (L.map wordL) [44]).length ≤ _
                omega)
            rw [List.length_map] at q
            refine q.mono ?_
            rintro e w' ⟨rfl, hb2⟩
            refine ⟨?_, grown_below hb2⟩
            rw [← HV.out]
            unfold textB
            rw [List.map_map]; rfl
        clear ho2 hr hcap ho HV
        go_wp2_with fail
        refine (HJ.out _ rfl).mono ?_
        rintro x w9 ⟨rfl, hg9⟩
        go_wp2_with fail
        go_ret2
        exact ⟨rfl, grown_trans hg.out hg9⟩
  · rw [he1, if_neg c1] at hv
    simp only [Prod.mk.injEq] at hv
    obtain ⟨rfl, rfl⟩ := hv
    have hne : (e1 != 0) = true := by simpa using c1
    clear hs he1 c1
    go_enter Tryd.func11, Tryd.ntmps11
    go_wp2_with fail
    refine (checkSp_is ao cap L hl _ HS.out HE.out).mono ?_; rintro x w1 ⟨rfl, hg1⟩
    go_wp2_with fail
    go_ret2
    exact ⟨rfl, hg1⟩

end Go.Proofs.YtbacoopopokkfaaDoor

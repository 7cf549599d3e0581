/- What Join returns, purely. -/
import Derived.Test.YtgkhhfojioepgaaTJoinP
import Derived.Test.YtgkhhfojioepgaaTCutP
import Derived.Test.YtgkhhfojioepgaaBaseB
import Derived.Sort.OwnSorted
import Derived.Sort.Walk0
namespace Go.Proofs.Ytgkhhfojioepgaa
open Go.RowKit
set_option linter.unusedSimpArgs false
set_option linter.unusedVariables false

/-- Texts as lists of bytes, and back. -/
def bsL (l : List ByteArray) : List (List UInt8) := l.map fun x => x.data.toList
def ofL (l : List (List UInt8)) : List ByteArray := l.map fun x => ⟨x.toArray⟩
theorem ofL_bsL (l : List ByteArray) : ofL (bsL l) = l := by
  unfold ofL bsL
  rw [List.map_map]
  exact (List.map_congr_left (g := id) fun x _ => by simp).trans (List.map_id _)
theorem tagRw_bs (l : List ByteArray) : tagRw l = (bsL l).map encStr := by
  unfold tagRw bsL
  rw [List.map_map]
  exact List.map_congr_left fun x _ => by simp
theorem tagRw_of (l : List (List UInt8)) : tagRw (ofL l) = l.map encStr := by
  unfold tagRw ofL
  rw [List.map_map]; rfl
theorem bsL_app (l m : List ByteArray) : bsL (l ++ m) = bsL l ++ bsL m := List.map_append
theorem ofL_len (l : List (List UInt8)) : (ofL l).length = l.length := List.length_map _
theorem bsL_len (l : List ByteArray) : (bsL l).length = l.length := List.length_map _
def mrgB (xs ys : List (List UInt8)) : List (List UInt8) := mrg (fun x y : List UInt8 => x < y) xs ys
/-- The tags of two lists, in order, each once. -/
def tagsJ (a b : List ByteArray) : List ByteArray := ofL (mrgB (bsL a) (bsL b))

theorem mrg_len {α : Type} [DecidableEq α] (lt : α → α → Prop) [DecidableRel lt] : ∀ xs ys : List α, (mrg lt xs ys).length ≤ xs.length + ys.length
  | [], ys => by simp [mrg]
  | a :: xs, [] => by simp [mrg]
  | a :: xs, b :: ys => by
    unfold mrg
    split
    · have := mrg_len lt xs (b :: ys); simp only [List.length_cons] at *; omega
    · split
      · have := mrg_len lt xs ys; simp only [List.length_cons] at *; omega
      · have := mrg_len lt (a :: xs) ys; simp only [List.length_cons] at *; omega
termination_by xs ys => xs.length + ys.length
theorem tagsJ_len (a b : List ByteArray) : (tagsJ a b).length ≤ a.length + b.length := by
  unfold tagsJ mrgB
  rw [ofL_len]
  have := mrg_len (fun x y : List UInt8 => x < y) (bsL a) (bsL b)
  rw [bsL_len, bsL_len] at this
  exact this
theorem tagsJ_mem {a b : List ByteArray} {x : ByteArray} (h : x ∈ tagsJ a b) : x ∈ a ∨ x ∈ b := by
  unfold tagsJ ofL at h
  obtain ⟨y, hy, rfl⟩ := List.mem_map.1 h
  unfold mrgB at hy
  rw [mem_mrg] at hy
  rcases hy with hy | hy
  · obtain ⟨z, hz, rfl⟩ := List.mem_map.1 hy
    left; simpa using hz
  · obtain ⟨z, hz, rfl⟩ := List.mem_map.1 hy
    right; simpa using hz

theorem leT_false {x y : ByteArray} (h : leT x y = false) : y.data.toList < x.data.toList := by
  unfold leT at h
  rw [bytesLess_eq, Lib.toList_data, Lib.toList_data, Bool.or_eq_false_iff] at h
  have h1 := of_decide_eq_false h.1
  have h2 : ¬ x.data.toList = y.data.toList := by simpa using h.2
  rcases strict_bytes.tri x.data.toList y.data.toList with h3 | h3 | h3
  · exact absurd h3 h1
  · exact absurd h3 h2
  · exact h3
theorem tags_from : ∀ (ts : List ByteArray) (b : Option ByteArray), tagsE b ts = 0 → (∀ p, b = some p → ∀ x ∈ bsL ts, p.data.toList < x) ∧ (bsL ts).Pairwise (· < ·)
  | [], _, _ => ⟨fun _ _ x hx => by simp [bsL] at hx, by simp [bsL]⟩
  | x :: r, b, h => by
    unfold tagsE at h
    split at h
    · split at h
      · omega
      · rename_i hn hs
        obtain ⟨h1, h2⟩ := tags_from r (some x) h
        have h3 := h1 x rfl
        refine ⟨fun p hp y hy => ?_, List.pairwise_cons.2 ⟨h3, h2⟩⟩
        subst hp
        have hpx := leT_false (x := x) (y := p) (by simpa [soonT] using hs)
        rcases List.mem_cons.1 hy with rfl | hy
        · exact hpx
        · exact List.lt_trans hpx (h3 y hy)
    · omega

/-- What the library makes of both lists of tags. -/
theorem tags_lib {a b : List ByteArray} (ha : tagsE none a = 0) (hb : tagsE none b = 0) : Lib.compact ((bsL (a ++ b)).mergeSort fun x y => decide (x ≤ y)) = mrgB (bsL a) (bsL b) := by
  rw [bsL_app]
  exact tags_mrg (tags_from a none ha).2 (tags_from b none hb).2

def lapMv (d : Int) (x : LapV) : LapV := ⟨x.fr + d, x.to_ + d, x.name⟩
/-- Is the first sample that is taken over left out? -/
def jC (sa : List Smp) (d : Int) (sb : List Smp) : Bool := decide (0 < sa.length) && decide (0 < sb.length) && decide (firstT sb + d = spanL sa)
def jK (sa : List Smp) (d : Int) (sb : List Smp) (k : Nat) : List Smp := if jC sa d sb = true then ((sb.take k).map (mvS d)).drop 1 else (sb.take k).map (mvS d)
def jS (sa : List Smp) (d : Int) (sb : List Smp) : List Smp := jK sa d sb sb.length
theorem jK_zero (sa : List Smp) (d : Int) (sb : List Smp) : jK sa d sb 0 = [] := by unfold jK; split <;> simp
theorem jS_no {sa sb : List Smp} {d : Int} (h : jC sa d sb = false) : jS sa d sb = sb.map (mvS d) := by unfold jS jK; rw [if_neg (by simp [h])]; simp
theorem jS_yes {sa sb : List Smp} {d : Int} (h : jC sa d sb = true) : jS sa d sb = (sb.map (mvS d)).drop 1 := by unfold jS jK; rw [if_pos h]; simp
theorem jK_len (sa : List Smp) (d : Int) (sb : List Smp) (k : Nat) : (jK sa d sb k).length ≤ k := by
  unfold jK
  split <;> simp <;> omega
theorem jS_len (sa : List Smp) (d : Int) (sb : List Smp) : (jS sa d sb).length ≤ sb.length := jK_len sa d sb sb.length
theorem firstT_at {l : List Smp} (h : 0 < l.length) : firstT l = l[0].t := by
  cases l with
  | nil => simp at h
  | cons x r => rfl
theorem jK_in {sa sb : List Smp} {d : Int} {k : Nat} (h : k < sb.length) (h1 : 0 < k ∨ sa.length = 0 ∨ spanL sa < sb[k].t + d) : jK sa d sb (k + 1) = jK sa d sb k ++ [mvS d sb[k]] := by
  have e : (sb.take (k + 1)).map (mvS d) = (sb.take k).map (mvS d) ++ [mvS d sb[k]] := by rw [List.take_succ_eq_append_getElem h, List.map_append]; rfl
  unfold jK
  by_cases hc : jC sa d sb = true
  · rw [if_pos hc, if_pos hc, e]
    have hk : 0 < k := by
      rcases Nat.eq_zero_or_pos k with rfl | hk
      · unfold jC at hc
        simp only [Bool.and_eq_true, decide_eq_true_eq] at hc
        rw [firstT_at h] at hc
        omega
      · exact hk
    rw [List.drop_append_of_le_length (by simp; omega)]
  · rw [if_neg hc, if_neg hc, e]
theorem jK_out {sa sb : List Smp} {d : Int} {k : Nat} (h : k < sb.length) (h1 : ¬ (0 < k ∨ sa.length = 0 ∨ spanL sa < sb[k].t + d)) (h2 : spanL sa ≤ sb[k].t + d) : jK sa d sb (k + 1) = jK sa d sb k := by
  have hk : k = 0 := by omega
  subst hk
  have hc : jC sa d sb = true := by
    unfold jC
    simp only [Bool.and_eq_true, decide_eq_true_eq]
    rw [firstT_at h]
    omega
  unfold jK
  rw [if_pos hc, if_pos hc]
  have : ((sb.take (0 + 1)).map (mvS d)).length ≤ 1 := by simp; omega
  rw [List.drop_of_length_le this]
  simp

/-- Two activities, the second one behind the first. -/
def joinV (a b : Act) : Act := { a with ss := a.ss ++ jS a.ss (b.start - a.start) b.ss, ls := a.ls ++ b.ls.map (lapMv (b.start - a.start)), ts := tagsJ a.ts b.ts }
open Classical in
/-- What Join returns. -/
noncomputable def joinO (a b : Act) : Act × Int :=
  if chkE a = 0 then
    if chkE b = 0 then if a.sport = b.sport then if spanL a.ss ≤ b.start - a.start then okV (joinV a b) else (act0, 11) else (act0, 7)
    else (act0, chkE b)
  else (act0, chkE a)
theorem join_size {a b : Act} (ha : ActOk a) (h : ¬ (((joinV a b).ss.length : Int) ≤ 20000 ∧ ((joinV a b).ls.length : Int) ≤ 200 ∧ ((joinV a b).ts.length : Int) ≤ 20)) : chkE (joinV a b) = 3 := by
  unfold chkE
  rw [if_pos (show nameB (joinV a b).name = true from ha.name), if_pos (show 1 ≤ (joinV a b).sport ∧ (joinV a b).sport ≤ 5 from ⟨ha.sp0, ha.sp1⟩), if_pos (show 0 ≤ (joinV a b).start ∧ (joinV a b).start ≤ 86399999999 from ⟨ha.st0, ha.st1⟩), if_neg h]
theorem chk_only {a c : Act} (h : (⟨a.name, a.sport, a.start, none, 0, a.ss, none, 0, a.ls, none, 0, a.ts⟩ : Act) = ⟨c.name, c.sport, c.start, none, 0, c.ss, none, 0, c.ls, none, 0, c.ts⟩) : chkE a = chkE c := by
  injection h with a1 a2 a3 a4 a5 a6 a7 a8 a9 a10 a11 a12
  unfold chkE
  rw [a1, a2, a3, a6, a9, a12]
end Go.Proofs.Ytgkhhfojioepgaa

/- The contract of JoinTags. -/
import Derived.Test.YtgkhhfojioepgaaTTagS
import Derived.Test.YtgkhhfojioepgaaTJoinB
import Derived.Deep.Light
namespace Go.Proofs.Ytgkhhfojioepgaa
open Go.RowKit
set_option linter.unusedSimpArgs false
set_option linter.unusedVariables false

theorem blk_farT {a1 : Option Addr} {n1 c1 K : Nat} (h : ∀ p, a1 = some p → K ≤ p.block) : ∀ r, (Value.slice a1 n1 c1).ownBlock = some r → K ≤ r := fun r e => by
  cases a1 with
  | none => cases e
  | some p => cases e; exact h p rfl

set_option maxRecDepth 100000 in
set_option maxHeartbeats 3200000 in
theorem joinTags_is (a1 a2 : Option Addr) (c1 c2 : Nat) (ts ts2 : List ByteArray) (n1 : ts.length ≤ 20) (n2 : ts2.length ≤ 20) (k1 : tagsE none ts = 0) (k2 : tagsE none ts2 = 0) (w : World) (h1 : TagsAt w a1 ts) (h2 : TagsAt w a2 ts2) :
    Calls Try.prog 86 #[.slice a1 ts.length c1, .slice a2 ts2.length c2] w fun e w' => (∃ x k base, e = .returned (.slice x (tagsJ ts ts2).length k) ∧ w.heap.size ≤ base ∧ w'.ownsRow base 9 1 (.slice x (tagsJ ts ts2).length k) (tagsJ ts ts2).length (tagRw (tagsJ ts ts2))) ∧ w.grownBy w' none := by
  have H1 := Lib.hid h1; have H2 := Lib.hid h2
  have K1 := Lib.hid k1; have K2 := Lib.hid k2
  have N1 := Lib.hid n1; have N2 := Lib.hid n2
  clear h1 h2 k1 k2 n1 n2
  obtain ⟨LT, hLT⟩ : ∃ l, ts ++ ts2 = l := ⟨_, rfl⟩
  have HLT := Lib.hid hLT
  have LN : Hid (LT.length ≤ 40) := by show _ ≤ _; rw [← hLT, List.length_append]; have := N1.out; have := N2.out; omega
  clear hLT
  have TSZ : Hid (∀ i (h : i < LT.length), LT[i].size ≤ 140737488355328) := by have q := tags_app H1.out.sizes H2.out.sizes (t := ts ++ ts2) (fun x hx => List.mem_append.1 hx); rw [HLT.out] at q; exact q
  have TSJ : Hid (∀ i (h : i < (tagsJ ts ts2).length), (tagsJ ts ts2)[i].size ≤ 140737488355328) := tags_app H1.out.sizes H2.out.sizes (fun x hx => tagsJ_mem hx)
  go_enter Try.func86, Try.ntmps86
  go_wp2_with fail
  have gA := World.grownBy_alloc w (.cells #[.slice a1 ts.length c1, .slice a2 ts2.length c2] 24) none
  refine (concat_tags w.heap.size 2 a1 a2 c1 c2 ts ts2 (by have := N1.out; omega) (by have := N2.out; omega) _ (block_cell (heap_alloc_new w _) 0 _ rfl) (block_cell (heap_alloc_new w _) 1 _ rfl) (by simp) (H1.out.grown gA) (H2.out.grown gA)).mono ?_; rintro e w7 ⟨⟨v7, rfl, ho7⟩, hg7⟩
  rw [HLT.out] at ho7
  obtain ⟨x3, k3, rfl, _, hb7⟩ := own_tags ho7 TSZ.out
  have hsz : w.heap.size + 1 ≤ (w.alloc (.cells #[.slice a1 ts.length c1, .slice a2 ts2.length c2] 24)).heap.size := by simp
  have X3 : Hid (∀ p, x3 = some p → w.heap.size ≤ p.block) := fun p e => by have := (hb7 p e).1; omega
  have G7 := Lib.hid (grown_trans gA hg7)
  obtain ⟨base, hbase⟩ : ∃ B, (w.alloc (.cells #[.slice a1 ts.length c1, .slice a2 ts2.length c2] 24)).heap.size = B := ⟨_, rfl⟩
  rw [hbase] at ho7 hsz
  have HB : Hid (w.heap.size ≤ base) := by show _ ≤ _; omega
  have OZ := Lib.hid ho7
  clear hb7 hg7 gA hbase hsz ho7
  have KSORT : Hid (Calls Try.prog 141 #[.slice x3 LT.length k3] w7 fun e w' => e = .returned (.tuple #[]) ∧ w'.ownsRow base 9 1 (.slice x3 LT.length k3) LT.length (((bsL LT).mergeSort fun x y => decide (x ≤ y)).map encStr) ∧ w7.grownBy w' (Value.slice x3 LT.length k3).ownBlock) := by
    have q := sort_row base (.slice x3 LT.length k3) (bsL LT) w7 (by rw [bsL_len, ← tagRw_bs]; exact OZ.out) (by rw [bsL_len]; have := LN.out; omega)
    rw [show ((bsL LT).mergeSort fun x y => decide (x ≤ y)).length = LT.length by rw [List.length_mergeSort, bsL_len]] at q
    exact q
  clear OZ
  go_wp2_with fail
  refine KSORT.out.mono ?_; rintro e w11 ⟨rfl, ho11, hg11⟩
  have G11 : Hid (w.grownBy w11 none) := grown_rowR G7.out hg11 (fun r e => blk_farT X3.out r e)
  have KCOMP : Hid (Calls Try.prog 142 #[.slice x3 LT.length k3] w11 fun e w' => (∃ x4 k4, e = .returned (.slice x4 (tagsJ ts ts2).length k4) ∧ w'.ownsRow base 9 1 (.slice x4 (tagsJ ts ts2).length k4) (tagsJ ts ts2).length (tagRw (tagsJ ts ts2))) ∧ w11.grownBy w' (Value.slice x3 LT.length k3).ownBlock) := by
    have hl : ((bsL LT).mergeSort fun x y => decide (x ≤ y)).length = LT.length := by rw [List.length_mergeSort, bsL_len]
    refine (compact_row base (.slice x3 LT.length k3) ((bsL LT).mergeSort fun x y => decide (x ≤ y)) w11 (by rw [hl]; exact ho11) (by rw [hl]; have := LN.out; omega)).mono ?_
    rintro e w' ⟨⟨v', rfl, ho⟩, hg⟩
    have hc := tags_lib K1.out K2.out
    rw [HLT.out] at hc
    rw [hc] at ho
    have ht : (mrgB (bsL ts) (bsL ts2)).length = (tagsJ ts ts2).length := (ofL_len _).symm
    rw [ht, ← tagRw_of] at ho
    obtain ⟨x4, k4, rfl⟩ : ∃ x4 k4, v' = .slice x4 (tagsJ ts ts2).length k4 := by
      rcases ho.2 with ⟨e, e2⟩ | ⟨g, cap, _, e, _⟩
      · exact ⟨none, 0, by rw [e, e2]⟩
      · exact ⟨_, _, e⟩
    exact ⟨⟨x4, k4, rfl, ho⟩, hg⟩
  clear ho11 hg11 KSORT G7
  go_wp2_with fail
  refine KCOMP.out.mono ?_; rintro e w12 ⟨⟨x4, k4, rfl, ho12⟩, hg12⟩
  have G12 := grown_rowR G11.out hg12 (fun r e => blk_farT X3.out r e)
  have OZ := Lib.hid ho12
  have HBB := HB.out
  clear ho12 hg12 KCOMP
  go_wp2_with fail
  go_ret
  exact ⟨⟨x4, k4, base, rfl, HBB, OZ.out⟩, G12⟩
end Go.Proofs.Ytgkhhfojioepgaa

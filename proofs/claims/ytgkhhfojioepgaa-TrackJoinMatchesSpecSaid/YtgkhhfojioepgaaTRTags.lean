/- The contract of the reference's Tags. -/
import Derived.Test.YtgkhhfojioepgaaTJoinV
import Derived.Test.YtgkhhfojioepgaaBaseD
import Derived.Test.YtgkhhfojioepgaaBaseE
import Derived.Test.YtgkhhfojioepgaaTPtB
import Derived.Test.YtgkhhfojioepgaaTMvB
import Derived.BigQuiet
import Derived.MapKept
namespace Go.Proofs.Ytgkhhfojioepgaa
open Go.RowKit
set_option linter.unusedSimpArgs false
set_option linter.unusedVariables false

theorem tags_nil (w : World) (ao : Option Addr) : TagsAt w ao [] := ⟨fun _ => rfl, fun _ _ h => absurd rfl h, fun _ _ i h => absurd h (Nat.not_lt_zero i), fun i h => absurd h (Nat.not_lt_zero i)⟩
theorem tags_tail {w : World} {b o : Nat} {x : ByteArray} {X : List ByteArray} (h : TagsAt w (some ⟨b, o, none⟩) (x :: X)) : TagsAt w (some ⟨b, o + 1, none⟩) X :=
  ⟨fun e => absurd e (by simp), fun a ha _ => (by cases ha; rfl), fun a ha i hi => by
    cases ha
    have := h.cells _ rfl (i + 1) (by simpa using hi)
    simpa [Nat.add_assoc, Nat.add_comm 1 i] using this, fun i hi => by
    have := h.sizes (i + 1) (by simpa using hi)
    simpa using this⟩
theorem bs_inj {x y : ByteArray} (h : x.data.toList = y.data.toList) : x = y := by
  cases x; cases y; simpa using h
theorem tJ_nil : tagsJ [] [] = [] := by simp [tagsJ, bsL, mrgB, mrg, ofL]
theorem tJ_left (x : ByteArray) (X : List ByteArray) : tagsJ (x :: X) [] = x :: tagsJ X [] := by
  have e : ∀ l : List ByteArray, tagsJ l [] = l := fun l => by
    have : mrgB (bsL l) [] = bsL l := by unfold mrgB; cases bsL l <;> simp [mrg]
    unfold tagsJ
    rw [show bsL ([] : List ByteArray) = [] from rfl, this, ofL_bsL]
  rw [e, e]
theorem tJ_right (y : ByteArray) (Y : List ByteArray) : tagsJ [] (y :: Y) = y :: tagsJ [] Y := by
  have e : ∀ l : List ByteArray, tagsJ [] l = l := fun l => by
    have : mrgB [] (bsL l) = bsL l := by unfold mrgB; simp [mrg]
    unfold tagsJ
    rw [show bsL ([] : List ByteArray) = [] from rfl, this, ofL_bsL]
  rw [e, e]
theorem ofL_cons (x : ByteArray) (l : List (List UInt8)) : ofL (x.data.toList :: l) = x :: ofL l := by simp [ofL]
theorem tJ_lt {x y : ByteArray} {X Y : List ByteArray} (h : x.data.toList < y.data.toList) : tagsJ (x :: X) (y :: Y) = x :: tagsJ X (y :: Y) := by
  unfold tagsJ mrgB
  rw [show bsL (x :: X) = x.data.toList :: bsL X from rfl, show bsL (y :: Y) = y.data.toList :: bsL Y from rfl, mrg, if_pos h, ofL_cons]
theorem tJ_eq {x : ByteArray} {X Y : List ByteArray} : tagsJ (x :: X) (x :: Y) = x :: tagsJ X Y := by
  unfold tagsJ mrgB
  rw [show bsL (x :: X) = x.data.toList :: bsL X from rfl, show bsL (x :: Y) = x.data.toList :: bsL Y from rfl, mrg, if_neg (List.lt_irrefl _), if_pos rfl, ofL_cons]
theorem tJ_gt {x y : ByteArray} {X Y : List ByteArray} (h : ¬ x.data.toList < y.data.toList) (h2 : ¬ x = y) : tagsJ (x :: X) (y :: Y) = y :: tagsJ (x :: X) Y := by
  unfold tagsJ mrgB
  rw [show bsL (x :: X) = x.data.toList :: bsL X from rfl, show bsL (y :: Y) = y.data.toList :: bsL Y from rfl, mrg, if_neg h, if_neg (fun e => h2 (bs_inj e)), ofL_cons]

/-- The length of a slice. -/
def lenV : Value → Nat | .slice _ n _ => n | _ => 0
theorem grown_pre {w wt w2 : World} {r : Option Nat} (h : w.grownBy wt none) (g : wt.grownBy w2 r) : w.grownBy w2 r :=
  ⟨g.os.trans h.os, g.tape.trans h.tape, g.output.trans h.output, Nat.le_trans h.size g.size, fun k hk hne => (g.block k (Nat.lt_of_lt_of_le hk h.size) hne).trans (h.block k hk (by simp))⟩
/-- A window of a list of tags, below a block. -/
def TgW (B : Nat) (w : World) (v : Value) (X : List ByteArray) : Prop := ∃ ao c, v = .slice ao X.length c ∧ X.length ≤ c ∧ X.length ≤ 20 ∧ TagsAt w ao X ∧ (∀ p, ao = some p → X ≠ [] → p.block < B)
theorem TgW.kept {B : Nat} {w w' : World} {v : Value} {X : List ByteArray} (h : TgW B w v X) {row : Option Nat} (hg : w.grownBy w' row) (hr : ∀ r, row = some r → B ≤ r) : TgW B w' v X := by
  obtain ⟨ao, c, h1, h2, h3, h4, h5⟩ := h
  exact ⟨ao, c, h1, h2, h3, h4.kept hg (fun a e e2 q => by have := h5 a e e2; have := hr a.block q.symm; omega), h5⟩
theorem TgW.tail {B : Nat} {w : World} {b o n c : Nat} {x : ByteArray} {X : List ByteArray} (ht : TagsAt w (some ⟨b, o, none⟩) (x :: X)) (hb : b < B) (hn : X.length = n) (hc : n + 1 ≤ c) (h20 : n + 1 ≤ 20) (hc1 : ¬ c = 1) : TgW B w (.slice (some ⟨b, o + 1, none⟩) n (c - 1)) X :=
  ⟨_, _, by rw [hn], by omega, by omega, tags_tail ht, fun p e _ => (by cases e; exact hb)⟩
theorem TgW.last {B : Nat} {w : World} (ao : Option Addr) {X : List ByteArray} {n : Nat} (hn : X.length = n) (hc : n + 1 ≤ 1) : TgW B w (.slice ao 0 0) X := by
  have : X = [] := List.eq_nil_of_length_eq_zero (by omega)
  subst this
  exact ⟨_, _, rfl, Nat.le_refl _, Nat.zero_le _, tags_nil _ _, fun _ _ h => absurd rfl h⟩

set_option maxRecDepth 100000 in
set_option maxHeartbeats 3200000 in
theorem rtags_is (ao bo : Option Addr) (ac bc : Nat) (xs ys : List ByteArray) (hx : xs.length ≤ 20) (hy : ys.length ≤ 20) (hxc : xs.length ≤ ac) (hyc : ys.length ≤ bc) (w : World) (h1 : TagsAt w ao xs) (h2 : TagsAt w bo ys) :
    Calls Try.prog 87 #[.slice ao xs.length ac, .slice bo ys.length bc] w fun e w' => (∃ v, e = .returned v ∧ w'.ownsRow w.heap.size 9 1 v (tagsJ xs ys).length (tagRw (tagsJ xs ys))) ∧ w.grownBy w' none := by
  have WX : Hid (TgW w.heap.size w (.slice ao xs.length ac) xs) := ⟨ao, ac, rfl, hxc, hx, h1, fun p e h => h1.blk p e h⟩
  have WY : Hid (TgW w.heap.size w (.slice bo ys.length bc) ys) := ⟨bo, bc, rfl, hyc, hy, h2, fun p e h => h2.blk p e h⟩
  obtain ⟨i0, hi, hz0, hz1, hz2⟩ := info_parts cinfo_tags
  have HI := Lib.hid hi; have HZ0 := Lib.hid hz0; have HZ1 := Lib.hid hz1; have HZ2 := Lib.hid hz2
  clear h1 h2 hi hz0 hz1 hz2 hxc hyc hx hy
  go_enter Try.func87, Try.ntmps87
  go_wp2_with fail
  go_loopw [0, 1, 5] (fun av bv lv wr => ∃ (X Y L : List ByteArray) (v : Value), v = lv ∧ Hid (TgW w.heap.size wr av X) ∧ Hid (TgW w.heap.size wr bv Y) ∧ Hid (tagsJ xs ys = L ++ tagsJ X Y) ∧ Hid (L.length + X.length + Y.length ≤ 40) ∧ Hid (wr.ownsRow w.heap.size 9 1 v L.length (tagRw L)) ∧ Hid (w.grownBy wr none))
    (fun av bv _ _ => lenV av + lenV bv)
  case atStart => exact ⟨xs, ys, [], _, rfl, WX, WY, rfl, by obtain ⟨_, _, _, _, a, _⟩ := WX.out; obtain ⟨_, _, _, _, b, _⟩ := WY.out; show _ ≤ _; simp; omega, World.ownsRow_nil _ _ _ _, World.grownBy.refl _ _⟩
  case round =>
    obtain ⟨X, Y, L, v, rfl, hX, hY, hT, hN, hO, hG⟩ := hrel
    obtain ⟨a1, c1, rfl, xc, x20, xt, xb⟩ := hX.out
    obtain ⟨a2, c2, rfl, yc, y20, yt, yb⟩ := hY.out
    have XT := Lib.hid xt; have YT := Lib.hid yt; have XB := Lib.hid xb; have YB := Lib.hid yb
    clear xt yt xb yb WX WY
    rcases X with _ | ⟨x, X⟩
    · rcases Y with _ | ⟨y, Y⟩
      · have HE : Hid (tagsJ xs ys = L) := by show _ = _; rw [hT.out, tJ_nil, List.append_nil]
        go_wp2_with fail
        go_ret
        exact ⟨⟨_, rfl, by rw [HE.out]; exact hO.out⟩, hG.out⟩
      · obtain ⟨b2, o2, rfl, q2⟩ := tagsS_at YT.out (by simp)
        have p2 := q2 0 (by simp)
        simp only [List.getElem_cons_zero, Nat.add_zero] at p2
        simp only [List.length_cons] at yc y20
        have B2 : Hid (b2 < w.heap.size) := YB.out _ rfl (by simp)
        obtain ⟨n2, hn2⟩ : ∃ n, Y.length = n := ⟨_, rfl⟩
        have HN2 := Lib.hid hn2
        try simp only [List.length_cons]
        rw [hn2] at yc y20 ⊢
        clear hn2 q2 YB
        have z2 : (((n2 + 1 : Nat) : Int) == 0) = false := by rw [beq_eq_false_iff_ne]; omega
        have y2 : ((n2 : Int) + 1 == 0) = false := by rw [beq_eq_false_iff_ne]; omega
        have w2 : (0 : Int) < (n2 : Int) + 1 := by omega
        have v2 : decide ((0 : Int) < (n2 : Int) + 1) = true := decide_eq_true (by omega)
        have l2 : decide ((0 : Int) < ((n2 + 1 : Nat) : Int)) = true := decide_eq_true (by omega)
        have i2 : (0 : Int) < ((n2 + 1 : Nat) : Int) := by omega
        have j2 : (1 : Int) ≤ ((n2 + 1 : Nat) : Int) := by omega
        have k2 : 1 ≤ n2 + 1 := by omega
        have HLN := hN.out
        have HNL : Hid (L.length ≤ 39) := by show _ ≤ _; have := hN.out; (try simp only [List.length_cons, List.length_nil] at this); omega
        have HN3 : Hid ((L ++ [y]).length + ([] : List ByteArray).length + Y.length ≤ 40) := by show _ ≤ _; have := hN.out; (try simp only [List.length_cons, List.length_nil] at this); (try simp only [List.length_append, List.length_cons, List.length_nil]); omega
        clear HLN
        have OD : Hid (∀ q, (wr.drewN q).ownsRow w.heap.size 9 1 v L.length (tagRw L)) := fun q => hO.out.kept (grown_drewN wr none q) (by cases v.ownBlock <;> simp)
        have HXW := Lib.hid hX.out
        simp only [List.length_nil] at *
        by_cases hc : c2 = 1
        · subst hc
          have h0 : n2 = 0 := by omega
          have H0 := Lib.hid h0; clear h0
          go_wp2_with fail
          go_quiet (fail)
          go_wp2_with fail
          go_quiet (fail)
          go_wp2_with (at_builtin; go_loud (refine wpList_append_own _ rfl _ _ 24 rfl w.heap.size 9 i0 (.string ⟨#[]⟩) 1 16 Try.underlying24 HI.out HZ0.out HZ1.out HZ2.out rfl (by decide) _ _ _ rfl ((OD.out _).alloc _) ⟨wr.heap.size, 0, none⟩ 1 1 [.string y] rfl rfl (World.news_of_block (cs := #[.string y]) (t := 9) (fr := (0, 0)) (heap_alloc_new _ _)) (by simp [Value.oneCell']) (by have := HNL.out; unfold maxLen; omega) (by have := HNL.out; omega) (Nat.le_trans hG.out.size (World.grownBy_alloc (wr.drewN _) _ none).size) ?_); intro v' w10 ho10 hg10 hnil; have O3 := Lib.hid ho10; have G3 := Lib.hid (grown_pre (grown_trans (grown_drewN wr none _) (World.grownBy_alloc _ _ none)) hg10); clear ho10 hg10 hnil)
          have O4 : Hid (w10.ownsRow w.heap.size 9 1 v' (L ++ [y]).length (tagRw (L ++ [y]))) := by
            show World.ownsRow _ _ _ _ _ _ _
            rw [List.length_append, show tagRw (L ++ [y]) = tagRw L ++ [.string y] by simp [tagRw]]; exact O3.out
          have GN : Hid (w.grownBy w10 none) := grown_rowR hG.out G3.out (fun r hr => (hO.out.lt r hr).1)
          have KP : Hid (∀ {v : Value} {Z : List ByteArray}, TgW w.heap.size wr v Z → TgW w.heap.size w10 v Z) := fun h => h.kept G3.out (fun r hr => (hO.out.lt r hr).1)
          go_roundw
          case rel => exact ⟨_, _, _, _, rfl, Lib.hid (KP.out HXW.out), Lib.hid (KP.out (TgW.last _ HN2.out (by have := H0.out; omega))), by show _ = _; rw [hT.out, tJ_right, List.append_assoc]; rfl, HN3, O4, GN⟩
          case measure => simp [lenV]; try omega
        · have m2 : (1 : Int) ≤ (c2 : Int) := by omega
          have m2' : 1 ≤ c2 := by omega
          have m2'' : ¬ (c2 : Int) = 1 := by omega
          go_wp2_with fail
          go_quiet (fail)
          go_wp2_with fail
          go_quiet (fail)
          go_wp2_with (at_builtin; go_loud (refine wpList_append_own _ rfl _ _ 24 rfl w.heap.size 9 i0 (.string ⟨#[]⟩) 1 16 Try.underlying24 HI.out HZ0.out HZ1.out HZ2.out rfl (by decide) _ _ _ rfl ((OD.out _).alloc _) ⟨wr.heap.size, 0, none⟩ 1 1 [.string y] rfl rfl (World.news_of_block (cs := #[.string y]) (t := 9) (fr := (0, 0)) (heap_alloc_new _ _)) (by simp [Value.oneCell']) (by have := HNL.out; unfold maxLen; omega) (by have := HNL.out; omega) (Nat.le_trans hG.out.size (World.grownBy_alloc (wr.drewN _) _ none).size) ?_); intro v' w10 ho10 hg10 hnil; have O3 := Lib.hid ho10; have G3 := Lib.hid (grown_pre (grown_trans (grown_drewN wr none _) (World.grownBy_alloc _ _ none)) hg10); clear ho10 hg10 hnil)
          have O4 : Hid (w10.ownsRow w.heap.size 9 1 v' (L ++ [y]).length (tagRw (L ++ [y]))) := by
            show World.ownsRow _ _ _ _ _ _ _
            rw [List.length_append, show tagRw (L ++ [y]) = tagRw L ++ [.string y] by simp [tagRw]]; exact O3.out
          have GN : Hid (w.grownBy w10 none) := grown_rowR hG.out G3.out (fun r hr => (hO.out.lt r hr).1)
          have KP : Hid (∀ {v : Value} {Z : List ByteArray}, TgW w.heap.size wr v Z → TgW w.heap.size w10 v Z) := fun h => h.kept G3.out (fun r hr => (hO.out.lt r hr).1)
          go_roundw
          case rel => exact ⟨_, _, _, _, rfl, Lib.hid (KP.out HXW.out), Lib.hid (KP.out (TgW.tail YT.out B2.out HN2.out yc y20 hc)), by show _ = _; rw [hT.out, tJ_right, List.append_assoc]; rfl, HN3, O4, GN⟩
          case measure => simp [lenV]; try omega
    · rcases Y with _ | ⟨y, Y⟩
      · obtain ⟨b1, o1, rfl, q1⟩ := tagsS_at XT.out (by simp)
        have p1 := q1 0 (by simp)
        simp only [List.getElem_cons_zero, Nat.add_zero] at p1
        simp only [List.length_cons] at xc x20
        have B1 : Hid (b1 < w.heap.size) := XB.out _ rfl (by simp)
        obtain ⟨n1, hn1⟩ : ∃ n, X.length = n := ⟨_, rfl⟩
        have HN1 := Lib.hid hn1
        try simp only [List.length_cons]
        rw [hn1] at xc x20 ⊢
        clear hn1 q1 XB
        have z1 : (((n1 + 1 : Nat) : Int) == 0) = false := by rw [beq_eq_false_iff_ne]; omega
        have y1 : ((n1 : Int) + 1 == 0) = false := by rw [beq_eq_false_iff_ne]; omega
        have w1 : (0 : Int) < (n1 : Int) + 1 := by omega
        have v1 : decide ((0 : Int) < (n1 : Int) + 1) = true := decide_eq_true (by omega)
        have l1 : decide ((0 : Int) < ((n1 + 1 : Nat) : Int)) = true := decide_eq_true (by omega)
        have i1 : (0 : Int) < ((n1 + 1 : Nat) : Int) := by omega
        have j1 : (1 : Int) ≤ ((n1 + 1 : Nat) : Int) := by omega
        have k1 : 1 ≤ n1 + 1 := by omega
        have HLN := hN.out
        have HNL : Hid (L.length ≤ 39) := by show _ ≤ _; have := hN.out; (try simp only [List.length_cons, List.length_nil] at this); omega
        have HN3 : Hid ((L ++ [x]).length + X.length + ([] : List ByteArray).length ≤ 40) := by show _ ≤ _; have := hN.out; (try simp only [List.length_cons, List.length_nil] at this); (try simp only [List.length_append, List.length_cons, List.length_nil]); omega
        clear HLN
        have OD : Hid (∀ q, (wr.drewN q).ownsRow w.heap.size 9 1 v L.length (tagRw L)) := fun q => hO.out.kept (grown_drewN wr none q) (by cases v.ownBlock <;> simp)
        have HYW := Lib.hid hY.out
        simp only [List.length_nil] at *
        by_cases hc : c1 = 1
        · subst hc
          have h0 : n1 = 0 := by omega
          have H0 := Lib.hid h0; clear h0
          go_wp2_with fail
          go_quiet (fail)
          go_wp2_with (at_builtin; go_loud (refine wpList_append_own _ rfl _ _ 24 rfl w.heap.size 9 i0 (.string ⟨#[]⟩) 1 16 Try.underlying24 HI.out HZ0.out HZ1.out HZ2.out rfl (by decide) _ _ _ rfl ((OD.out _).alloc _) ⟨wr.heap.size, 0, none⟩ 1 1 [.string x] rfl rfl (World.news_of_block (cs := #[.string x]) (t := 9) (fr := (0, 0)) (heap_alloc_new _ _)) (by simp [Value.oneCell']) (by have := HNL.out; unfold maxLen; omega) (by have := HNL.out; omega) (Nat.le_trans hG.out.size (World.grownBy_alloc (wr.drewN _) _ none).size) ?_); intro v' w10 ho10 hg10 hnil; have O3 := Lib.hid ho10; have G3 := Lib.hid (grown_pre (grown_trans (grown_drewN wr none _) (World.grownBy_alloc _ _ none)) hg10); clear ho10 hg10 hnil)
          have O4 : Hid (w10.ownsRow w.heap.size 9 1 v' (L ++ [x]).length (tagRw (L ++ [x]))) := by
            show World.ownsRow _ _ _ _ _ _ _
            rw [List.length_append, show tagRw (L ++ [x]) = tagRw L ++ [.string x] by simp [tagRw]]; exact O3.out
          have GN : Hid (w.grownBy w10 none) := grown_rowR hG.out G3.out (fun r hr => (hO.out.lt r hr).1)
          have KP : Hid (∀ {v : Value} {Z : List ByteArray}, TgW w.heap.size wr v Z → TgW w.heap.size w10 v Z) := fun h => h.kept G3.out (fun r hr => (hO.out.lt r hr).1)
          go_roundw
          case rel => exact ⟨_, _, _, _, rfl, Lib.hid (KP.out (TgW.last _ HN1.out (by have := H0.out; omega))), Lib.hid (KP.out HYW.out), by show _ = _; rw [hT.out, tJ_left, List.append_assoc]; rfl, HN3, O4, GN⟩
          case measure => simp [lenV]; try omega
        · have m1 : (1 : Int) ≤ (c1 : Int) := by omega
          have m1' : 1 ≤ c1 := by omega
          have m1'' : ¬ (c1 : Int) = 1 := by omega
          go_wp2_with fail
          go_quiet (fail)
          go_wp2_with (at_builtin; go_loud (refine wpList_append_own _ rfl _ _ 24 rfl w.heap.size 9 i0 (.string ⟨#[]⟩) 1 16 Try.underlying24 HI.out HZ0.out HZ1.out HZ2.out rfl (by decide) _ _ _ rfl ((OD.out _).alloc _) ⟨wr.heap.size, 0, none⟩ 1 1 [.string x] rfl rfl (World.news_of_block (cs := #[.string x]) (t := 9) (fr := (0, 0)) (heap_alloc_new _ _)) (by simp [Value.oneCell']) (by have := HNL.out; unfold maxLen; omega) (by have := HNL.out; omega) (Nat.le_trans hG.out.size (World.grownBy_alloc (wr.drewN _) _ none).size) ?_); intro v' w10 ho10 hg10 hnil; have O3 := Lib.hid ho10; have G3 := Lib.hid (grown_pre (grown_trans (grown_drewN wr none _) (World.grownBy_alloc _ _ none)) hg10); clear ho10 hg10 hnil)
          have O4 : Hid (w10.ownsRow w.heap.size 9 1 v' (L ++ [x]).length (tagRw (L ++ [x]))) := by
            show World.ownsRow _ _ _ _ _ _ _
            rw [List.length_append, show tagRw (L ++ [x]) = tagRw L ++ [.string x] by simp [tagRw]]; exact O3.out
          have GN : Hid (w.grownBy w10 none) := grown_rowR hG.out G3.out (fun r hr => (hO.out.lt r hr).1)
          have KP : Hid (∀ {v : Value} {Z : List ByteArray}, TgW w.heap.size wr v Z → TgW w.heap.size w10 v Z) := fun h => h.kept G3.out (fun r hr => (hO.out.lt r hr).1)
          go_roundw
          case rel => exact ⟨_, _, _, _, rfl, Lib.hid (KP.out (TgW.tail XT.out B1.out HN1.out xc x20 hc)), Lib.hid (KP.out HYW.out), by show _ = _; rw [hT.out, tJ_left, List.append_assoc]; rfl, HN3, O4, GN⟩
          case measure => simp [lenV]; try omega
      · have HXW := Lib.hid hX.out; have HYW := Lib.hid hY.out
        obtain ⟨b1, o1, rfl, q1⟩ := tagsS_at XT.out (by simp)
        have p1 := q1 0 (by simp)
        simp only [List.getElem_cons_zero, Nat.add_zero] at p1
        simp only [List.length_cons] at xc x20
        have B1 : Hid (b1 < w.heap.size) := XB.out _ rfl (by simp)
        obtain ⟨n1, hn1⟩ : ∃ n, X.length = n := ⟨_, rfl⟩
        have HN1 := Lib.hid hn1
        try simp only [List.length_cons]
        rw [hn1] at xc x20 ⊢
        clear hn1 q1 XB
        have z1 : (((n1 + 1 : Nat) : Int) == 0) = false := by rw [beq_eq_false_iff_ne]; omega
        have y1 : ((n1 : Int) + 1 == 0) = false := by rw [beq_eq_false_iff_ne]; omega
        have w1 : (0 : Int) < (n1 : Int) + 1 := by omega
        have v1 : decide ((0 : Int) < (n1 : Int) + 1) = true := decide_eq_true (by omega)
        have l1 : decide ((0 : Int) < ((n1 + 1 : Nat) : Int)) = true := decide_eq_true (by omega)
        have i1 : (0 : Int) < ((n1 + 1 : Nat) : Int) := by omega
        have j1 : (1 : Int) ≤ ((n1 + 1 : Nat) : Int) := by omega
        have k1 : 1 ≤ n1 + 1 := by omega
        obtain ⟨b2, o2, rfl, q2⟩ := tagsS_at YT.out (by simp)
        have p2 := q2 0 (by simp)
        simp only [List.getElem_cons_zero, Nat.add_zero] at p2
        simp only [List.length_cons] at yc y20
        have B2 : Hid (b2 < w.heap.size) := YB.out _ rfl (by simp)
        obtain ⟨n2, hn2⟩ : ∃ n, Y.length = n := ⟨_, rfl⟩
        have HN2 := Lib.hid hn2
        try simp only [List.length_cons]
        rw [hn2] at yc y20 ⊢
        clear hn2 q2 YB
        have z2 : (((n2 + 1 : Nat) : Int) == 0) = false := by rw [beq_eq_false_iff_ne]; omega
        have y2 : ((n2 : Int) + 1 == 0) = false := by rw [beq_eq_false_iff_ne]; omega
        have w2 : (0 : Int) < (n2 : Int) + 1 := by omega
        have v2 : decide ((0 : Int) < (n2 : Int) + 1) = true := decide_eq_true (by omega)
        have l2 : decide ((0 : Int) < ((n2 + 1 : Nat) : Int)) = true := decide_eq_true (by omega)
        have i2 : (0 : Int) < ((n2 + 1 : Nat) : Int) := by omega
        have j2 : (1 : Int) ≤ ((n2 + 1 : Nat) : Int) := by omega
        have k2 : 1 ≤ n2 + 1 := by omega
        by_cases hlt : x.data.toList < y.data.toList
        · have f1 : Op.bytesLess x.toList y.toList = true := by rw [bytesLess_eq, Lib.toList_data, Lib.toList_data]; simpa using hlt
          have HLT := Lib.hid hlt; clear hlt
          have HLN := hN.out
          have HNL : Hid (L.length ≤ 39) := by show _ ≤ _; have := hN.out; (try simp only [List.length_cons, List.length_nil] at this); omega
          have HN3 : Hid ((L ++ [x]).length + X.length + (y :: Y).length ≤ 40) := by show _ ≤ _; have := hN.out; (try simp only [List.length_cons, List.length_nil] at this); (try simp only [List.length_append, List.length_cons, List.length_nil]); omega
          clear HLN
          have OD : Hid (∀ q, (wr.drewN q).ownsRow w.heap.size 9 1 v L.length (tagRw L)) := fun q => hO.out.kept (grown_drewN wr none q) (by cases v.ownBlock <;> simp)
          by_cases hc : c1 = 1
          · subst hc
            have h0 : n1 = 0 := by omega
            have H0 := Lib.hid h0; clear h0
            go_wp2_with fail
            go_quiet (fail)
            go_wp2_with (at_builtin; go_loud (refine wpList_append_own _ rfl _ _ 24 rfl w.heap.size 9 i0 (.string ⟨#[]⟩) 1 16 Try.underlying24 HI.out HZ0.out HZ1.out HZ2.out rfl (by decide) _ _ _ rfl ((OD.out _).alloc _) ⟨wr.heap.size, 0, none⟩ 1 1 [.string x] rfl rfl (World.news_of_block (cs := #[.string x]) (t := 9) (fr := (0, 0)) (heap_alloc_new _ _)) (by simp [Value.oneCell']) (by have := HNL.out; unfold maxLen; omega) (by have := HNL.out; omega) (Nat.le_trans hG.out.size (World.grownBy_alloc (wr.drewN _) _ none).size) ?_); intro v' w10 ho10 hg10 hnil; have O3 := Lib.hid ho10; have G3 := Lib.hid (grown_pre (grown_trans (grown_drewN wr none _) (World.grownBy_alloc _ _ none)) hg10); clear ho10 hg10 hnil)
            have O4 : Hid (w10.ownsRow w.heap.size 9 1 v' (L ++ [x]).length (tagRw (L ++ [x]))) := by
              show World.ownsRow _ _ _ _ _ _ _
              rw [List.length_append, show tagRw (L ++ [x]) = tagRw L ++ [.string x] by simp [tagRw]]; exact O3.out
            have GN : Hid (w.grownBy w10 none) := grown_rowR hG.out G3.out (fun r hr => (hO.out.lt r hr).1)
            have KP : Hid (∀ {v : Value} {Z : List ByteArray}, TgW w.heap.size wr v Z → TgW w.heap.size w10 v Z) := fun h => h.kept G3.out (fun r hr => (hO.out.lt r hr).1)
            go_roundw
            case rel => exact ⟨_, _, _, _, rfl, Lib.hid (KP.out (TgW.last _ HN1.out (by have := H0.out; omega))), Lib.hid (KP.out (by have q := HYW.out; simp only [List.length_cons, HN2.out] at q; exact q)), by show _ = _; rw [hT.out, tJ_lt HLT.out, List.append_assoc]; rfl, HN3, O4, GN⟩
            case measure => simp [lenV]; try omega
          · have m1 : (1 : Int) ≤ (c1 : Int) := by omega
            have m1' : 1 ≤ c1 := by omega
            have m1'' : ¬ (c1 : Int) = 1 := by omega
            go_wp2_with fail
            go_quiet (fail)
            go_wp2_with (at_builtin; go_loud (refine wpList_append_own _ rfl _ _ 24 rfl w.heap.size 9 i0 (.string ⟨#[]⟩) 1 16 Try.underlying24 HI.out HZ0.out HZ1.out HZ2.out rfl (by decide) _ _ _ rfl ((OD.out _).alloc _) ⟨wr.heap.size, 0, none⟩ 1 1 [.string x] rfl rfl (World.news_of_block (cs := #[.string x]) (t := 9) (fr := (0, 0)) (heap_alloc_new _ _)) (by simp [Value.oneCell']) (by have := HNL.out; unfold maxLen; omega) (by have := HNL.out; omega) (Nat.le_trans hG.out.size (World.grownBy_alloc (wr.drewN _) _ none).size) ?_); intro v' w10 ho10 hg10 hnil; have O3 := Lib.hid ho10; have G3 := Lib.hid (grown_pre (grown_trans (grown_drewN wr none _) (World.grownBy_alloc _ _ none)) hg10); clear ho10 hg10 hnil)
            have O4 : Hid (w10.ownsRow w.heap.size 9 1 v' (L ++ [x]).length (tagRw (L ++ [x]))) := by
              show World.ownsRow _ _ _ _ _ _ _
              rw [List.length_append, show tagRw (L ++ [x]) = tagRw L ++ [.string x] by simp [tagRw]]; exact O3.out
            have GN : Hid (w.grownBy w10 none) := grown_rowR hG.out G3.out (fun r hr => (hO.out.lt r hr).1)
            have KP : Hid (∀ {v : Value} {Z : List ByteArray}, TgW w.heap.size wr v Z → TgW w.heap.size w10 v Z) := fun h => h.kept G3.out (fun r hr => (hO.out.lt r hr).1)
            go_roundw
            case rel => exact ⟨_, _, _, _, rfl, Lib.hid (KP.out (TgW.tail XT.out B1.out HN1.out xc x20 hc)), Lib.hid (KP.out (by have q := HYW.out; simp only [List.length_cons, HN2.out] at q; exact q)), by show _ = _; rw [hT.out, tJ_lt HLT.out, List.append_assoc]; rfl, HN3, O4, GN⟩
            case measure => simp [lenV]; try omega
        · have f1 : Op.bytesLess x.toList y.toList = false := by rw [bytesLess_eq, Lib.toList_data, Lib.toList_data]; simpa using hlt
          have HLT := Lib.hid hlt; clear hlt
          by_cases he : x = y
          · subst he
            have f2 : (x == x) = true := (Go.MapKept.bytes_beq x x).2 rfl
            have HLN := hN.out
            have HNL : Hid (L.length ≤ 39) := by show _ ≤ _; have := hN.out; (try simp only [List.length_cons, List.length_nil] at this); omega
            have HN3 : Hid ((L ++ [x]).length + X.length + Y.length ≤ 40) := by show _ ≤ _; have := hN.out; (try simp only [List.length_cons, List.length_nil] at this); (try simp only [List.length_append, List.length_cons, List.length_nil]); omega
            clear HLN
            have OD : Hid (∀ q, (wr.drewN q).ownsRow w.heap.size 9 1 v L.length (tagRw L)) := fun q => hO.out.kept (grown_drewN wr none q) (by cases v.ownBlock <;> simp)
            by_cases hd : c1 = 1
            · subst hd
              have h1 : n1 = 0 := by omega
              have H1 := Lib.hid h1; clear h1
              by_cases hc : c2 = 1
              · subst hc
                have h0 : n2 = 0 := by omega
                have H0 := Lib.hid h0; clear h0
                go_wp2_with fail
                go_quiet (fail)
                go_wp2_with fail
                go_quiet (fail)
                go_wp2_with (at_builtin; go_loud (refine wpList_append_own _ rfl _ _ 24 rfl w.heap.size 9 i0 (.string ⟨#[]⟩) 1 16 Try.underlying24 HI.out HZ0.out HZ1.out HZ2.out rfl (by decide) _ _ _ rfl ((OD.out _).alloc _) ⟨wr.heap.size, 0, none⟩ 1 1 [.string x] rfl rfl (World.news_of_block (cs := #[.string x]) (t := 9) (fr := (0, 0)) (heap_alloc_new _ _)) (by simp [Value.oneCell']) (by have := HNL.out; unfold maxLen; omega) (by have := HNL.out; omega) (Nat.le_trans hG.out.size (World.grownBy_alloc (wr.drewN _) _ none).size) ?_); intro v' w10 ho10 hg10 hnil; have O3 := Lib.hid ho10; have G3 := Lib.hid (grown_pre (grown_trans (grown_drewN wr none _) (World.grownBy_alloc _ _ none)) hg10); clear ho10 hg10 hnil)
                have O4 : Hid (w10.ownsRow w.heap.size 9 1 v' (L ++ [x]).length (tagRw (L ++ [x]))) := by
                  show World.ownsRow _ _ _ _ _ _ _
                  rw [List.length_append, show tagRw (L ++ [x]) = tagRw L ++ [.string x] by simp [tagRw]]; exact O3.out
                have GN : Hid (w.grownBy w10 none) := grown_rowR hG.out G3.out (fun r hr => (hO.out.lt r hr).1)
                have KP : Hid (∀ {v : Value} {Z : List ByteArray}, TgW w.heap.size wr v Z → TgW w.heap.size w10 v Z) := fun h => h.kept G3.out (fun r hr => (hO.out.lt r hr).1)
                go_roundw
                case rel => exact ⟨_, _, _, _, rfl, Lib.hid (KP.out (TgW.last _ HN1.out (by have := H1.out; omega))), Lib.hid (KP.out (TgW.last _ HN2.out (by have := H0.out; omega))), by show _ = _; rw [hT.out, tJ_eq, List.append_assoc]; rfl, HN3, O4, GN⟩
                case measure => simp [lenV]; try omega
              · have m2 : (1 : Int) ≤ (c2 : Int) := by omega
                have m2' : 1 ≤ c2 := by omega
                have m2'' : ¬ (c2 : Int) = 1 := by omega
                go_wp2_with fail
                go_quiet (fail)
                go_wp2_with fail
                go_quiet (fail)
                go_wp2_with (at_builtin; go_loud (refine wpList_append_own _ rfl _ _ 24 rfl w.heap.size 9 i0 (.string ⟨#[]⟩) 1 16 Try.underlying24 HI.out HZ0.out HZ1.out HZ2.out rfl (by decide) _ _ _ rfl ((OD.out _).alloc _) ⟨wr.heap.size, 0, none⟩ 1 1 [.string x] rfl rfl (World.news_of_block (cs := #[.string x]) (t := 9) (fr := (0, 0)) (heap_alloc_new _ _)) (by simp [Value.oneCell']) (by have := HNL.out; unfold maxLen; omega) (by have := HNL.out; omega) (Nat.le_trans hG.out.size (World.grownBy_alloc (wr.drewN _) _ none).size) ?_); intro v' w10 ho10 hg10 hnil; have O3 := Lib.hid ho10; have G3 := Lib.hid (grown_pre (grown_trans (grown_drewN wr none _) (World.grownBy_alloc _ _ none)) hg10); clear ho10 hg10 hnil)
                have O4 : Hid (w10.ownsRow w.heap.size 9 1 v' (L ++ [x]).length (tagRw (L ++ [x]))) := by
                  show World.ownsRow _ _ _ _ _ _ _
                  rw [List.length_append, show tagRw (L ++ [x]) = tagRw L ++ [.string x] by simp [tagRw]]; exact O3.out
                have GN : Hid (w.grownBy w10 none) := grown_rowR hG.out G3.out (fun r hr => (hO.out.lt r hr).1)
                have KP : Hid (∀ {v : Value} {Z : List ByteArray}, TgW w.heap.size wr v Z → TgW w.heap.size w10 v Z) := fun h => h.kept G3.out (fun r hr => (hO.out.lt r hr).1)
                go_roundw
                case rel => exact ⟨_, _, _, _, rfl, Lib.hid (KP.out (TgW.last _ HN1.out (by have := H1.out; omega))), Lib.hid (KP.out (TgW.tail YT.out B2.out HN2.out yc y20 hc)), by show _ = _; rw [hT.out, tJ_eq, List.append_assoc]; rfl, HN3, O4, GN⟩
                case measure => simp [lenV]; try omega
            · have m1 : (1 : Int) ≤ (c1 : Int) := by omega
              have m1' : 1 ≤ c1 := by omega
              have m1'' : ¬ (c1 : Int) = 1 := by omega
              by_cases hc : c2 = 1
              · subst hc
                have h0 : n2 = 0 := by omega
                have H0 := Lib.hid h0; clear h0
                go_wp2_with fail
                go_quiet (fail)
                go_wp2_with fail
                go_quiet (fail)
                go_wp2_with (at_builtin; go_loud (refine wpList_append_own _ rfl _ _ 24 rfl w.heap.size 9 i0 (.string ⟨#[]⟩) 1 16 Try.underlying24 HI.out HZ0.out HZ1.out HZ2.out rfl (by decide) _ _ _ rfl ((OD.out _).alloc _) ⟨wr.heap.size, 0, none⟩ 1 1 [.string x] rfl rfl (World.news_of_block (cs := #[.string x]) (t := 9) (fr := (0, 0)) (heap_alloc_new _ _)) (by simp [Value.oneCell']) (by have := HNL.out; unfold maxLen; omega) (by have := HNL.out; omega) (Nat.le_trans hG.out.size (World.grownBy_alloc (wr.drewN _) _ none).size) ?_); intro v' w10 ho10 hg10 hnil; have O3 := Lib.hid ho10; have G3 := Lib.hid (grown_pre (grown_trans (grown_drewN wr none _) (World.grownBy_alloc _ _ none)) hg10); clear ho10 hg10 hnil)
                have O4 : Hid (w10.ownsRow w.heap.size 9 1 v' (L ++ [x]).length (tagRw (L ++ [x]))) := by
                  show World.ownsRow _ _ _ _ _ _ _
                  rw [List.length_append, show tagRw (L ++ [x]) = tagRw L ++ [.string x] by simp [tagRw]]; exact O3.out
                have GN : Hid (w.grownBy w10 none) := grown_rowR hG.out G3.out (fun r hr => (hO.out.lt r hr).1)
                have KP : Hid (∀ {v : Value} {Z : List ByteArray}, TgW w.heap.size wr v Z → TgW w.heap.size w10 v Z) := fun h => h.kept G3.out (fun r hr => (hO.out.lt r hr).1)
                go_roundw
                case rel => exact ⟨_, _, _, _, rfl, Lib.hid (KP.out (TgW.tail XT.out B1.out HN1.out xc x20 hd)), Lib.hid (KP.out (TgW.last _ HN2.out (by have := H0.out; omega))), by show _ = _; rw [hT.out, tJ_eq, List.append_assoc]; rfl, HN3, O4, GN⟩
                case measure => simp [lenV]; try omega
              · have m2 : (1 : Int) ≤ (c2 : Int) := by omega
                have m2' : 1 ≤ c2 := by omega
                have m2'' : ¬ (c2 : Int) = 1 := by omega
                go_wp2_with fail
                go_quiet (fail)
                go_wp2_with fail
                go_quiet (fail)
                go_wp2_with (at_builtin; go_loud (refine wpList_append_own _ rfl _ _ 24 rfl w.heap.size 9 i0 (.string ⟨#[]⟩) 1 16 Try.underlying24 HI.out HZ0.out HZ1.out HZ2.out rfl (by decide) _ _ _ rfl ((OD.out _).alloc _) ⟨wr.heap.size, 0, none⟩ 1 1 [.string x] rfl rfl (World.news_of_block (cs := #[.string x]) (t := 9) (fr := (0, 0)) (heap_alloc_new _ _)) (by simp [Value.oneCell']) (by have := HNL.out; unfold maxLen; omega) (by have := HNL.out; omega) (Nat.le_trans hG.out.size (World.grownBy_alloc (wr.drewN _) _ none).size) ?_); intro v' w10 ho10 hg10 hnil; have O3 := Lib.hid ho10; have G3 := Lib.hid (grown_pre (grown_trans (grown_drewN wr none _) (World.grownBy_alloc _ _ none)) hg10); clear ho10 hg10 hnil)
                have O4 : Hid (w10.ownsRow w.heap.size 9 1 v' (L ++ [x]).length (tagRw (L ++ [x]))) := by
                  show World.ownsRow _ _ _ _ _ _ _
                  rw [List.length_append, show tagRw (L ++ [x]) = tagRw L ++ [.string x] by simp [tagRw]]; exact O3.out
                have GN : Hid (w.grownBy w10 none) := grown_rowR hG.out G3.out (fun r hr => (hO.out.lt r hr).1)
                have KP : Hid (∀ {v : Value} {Z : List ByteArray}, TgW w.heap.size wr v Z → TgW w.heap.size w10 v Z) := fun h => h.kept G3.out (fun r hr => (hO.out.lt r hr).1)
                go_roundw
                case rel => exact ⟨_, _, _, _, rfl, Lib.hid (KP.out (TgW.tail XT.out B1.out HN1.out xc x20 hd)), Lib.hid (KP.out (TgW.tail YT.out B2.out HN2.out yc y20 hc)), by show _ = _; rw [hT.out, tJ_eq, List.append_assoc]; rfl, HN3, O4, GN⟩
                case measure => simp [lenV]; try omega
          · have f2 : (x == y) = false := by rw [Bool.eq_false_iff]; exact fun h => he ((Go.MapKept.bytes_beq x y).1 h)
            have f4 : decide (x = y) = false := decide_eq_false he
            have f5 : (x.toList == y.toList) = false := by rw [Bool.eq_false_iff]; exact fun h => he (bs_inj (by rw [← Lib.toList_data, ← Lib.toList_data]; exact beq_iff_eq.1 h))
            have HE := Lib.hid he
            have HLN := hN.out
            have HNL : Hid (L.length ≤ 39) := by show _ ≤ _; have := hN.out; (try simp only [List.length_cons, List.length_nil] at this); omega
            have HN3 : Hid ((L ++ [y]).length + (x :: X).length + Y.length ≤ 40) := by show _ ≤ _; have := hN.out; (try simp only [List.length_cons, List.length_nil] at this); (try simp only [List.length_append, List.length_cons, List.length_nil]); omega
            clear HLN
            have OD : Hid (∀ q, (wr.drewN q).ownsRow w.heap.size 9 1 v L.length (tagRw L)) := fun q => hO.out.kept (grown_drewN wr none q) (by cases v.ownBlock <;> simp)
            by_cases hc : c2 = 1
            · subst hc
              have h0 : n2 = 0 := by omega
              have H0 := Lib.hid h0; clear h0
              go_wp2_with fail
              go_quiet (fail)
              go_wp2_with fail
              go_quiet (fail)
              go_wp2_with (at_builtin; go_loud (refine wpList_append_own _ rfl _ _ 24 rfl w.heap.size 9 i0 (.string ⟨#[]⟩) 1 16 Try.underlying24 HI.out HZ0.out HZ1.out HZ2.out rfl (by decide) _ _ _ rfl ((OD.out _).alloc _) ⟨wr.heap.size, 0, none⟩ 1 1 [.string y] rfl rfl (World.news_of_block (cs := #[.string y]) (t := 9) (fr := (0, 0)) (heap_alloc_new _ _)) (by simp [Value.oneCell']) (by have := HNL.out; unfold maxLen; omega) (by have := HNL.out; omega) (Nat.le_trans hG.out.size (World.grownBy_alloc (wr.drewN _) _ none).size) ?_); intro v' w10 ho10 hg10 hnil; have O3 := Lib.hid ho10; have G3 := Lib.hid (grown_pre (grown_trans (grown_drewN wr none _) (World.grownBy_alloc _ _ none)) hg10); clear ho10 hg10 hnil)
              have O4 : Hid (w10.ownsRow w.heap.size 9 1 v' (L ++ [y]).length (tagRw (L ++ [y]))) := by
                show World.ownsRow _ _ _ _ _ _ _
                rw [List.length_append, show tagRw (L ++ [y]) = tagRw L ++ [.string y] by simp [tagRw]]; exact O3.out
              have GN : Hid (w.grownBy w10 none) := grown_rowR hG.out G3.out (fun r hr => (hO.out.lt r hr).1)
              have KP : Hid (∀ {v : Value} {Z : List ByteArray}, TgW w.heap.size wr v Z → TgW w.heap.size w10 v Z) := fun h => h.kept G3.out (fun r hr => (hO.out.lt r hr).1)
              go_roundw
              case rel => exact ⟨_, _, _, _, rfl, Lib.hid (KP.out (by have q := HXW.out; simp only [List.length_cons, HN1.out] at q; exact q)), Lib.hid (KP.out (TgW.last _ HN2.out (by have := H0.out; omega))), by show _ = _; rw [hT.out, tJ_gt HLT.out HE.out, List.append_assoc]; rfl, HN3, O4, GN⟩
              case measure => simp [lenV]; try omega
            · have m2 : (1 : Int) ≤ (c2 : Int) := by omega
              have m2' : 1 ≤ c2 := by omega
              have m2'' : ¬ (c2 : Int) = 1 := by omega
              go_wp2_with fail
              go_quiet (fail)
              go_wp2_with fail
              go_quiet (fail)
              go_wp2_with (at_builtin; go_loud (refine wpList_append_own _ rfl _ _ 24 rfl w.heap.size 9 i0 (.string ⟨#[]⟩) 1 16 Try.underlying24 HI.out HZ0.out HZ1.out HZ2.out rfl (by decide) _ _ _ rfl ((OD.out _).alloc _) ⟨wr.heap.size, 0, none⟩ 1 1 [.string y] rfl rfl (World.news_of_block (cs := #[.string y]) (t := 9) (fr := (0, 0)) (heap_alloc_new _ _)) (by simp [Value.oneCell']) (by have := HNL.out; unfold maxLen; omega) (by have := HNL.out; omega) (Nat.le_trans hG.out.size (World.grownBy_alloc (wr.drewN _) _ none).size) ?_); intro v' w10 ho10 hg10 hnil; have O3 := Lib.hid ho10; have G3 := Lib.hid (grown_pre (grown_trans (grown_drewN wr none _) (World.grownBy_alloc _ _ none)) hg10); clear ho10 hg10 hnil)
              have O4 : Hid (w10.ownsRow w.heap.size 9 1 v' (L ++ [y]).length (tagRw (L ++ [y]))) := by
                show World.ownsRow _ _ _ _ _ _ _
                rw [List.length_append, show tagRw (L ++ [y]) = tagRw L ++ [.string y] by simp [tagRw]]; exact O3.out
              have GN : Hid (w.grownBy w10 none) := grown_rowR hG.out G3.out (fun r hr => (hO.out.lt r hr).1)
              have KP : Hid (∀ {v : Value} {Z : List ByteArray}, TgW w.heap.size wr v Z → TgW w.heap.size w10 v Z) := fun h => h.kept G3.out (fun r hr => (hO.out.lt r hr).1)
              go_roundw
              case rel => exact ⟨_, _, _, _, rfl, Lib.hid (KP.out (by have q := HXW.out; simp only [List.length_cons, HN1.out] at q; exact q)), Lib.hid (KP.out (TgW.tail YT.out B2.out HN2.out yc y20 hc)), by show _ = _; rw [hT.out, tJ_gt HLT.out HE.out, List.append_assoc]; rfl, HN3, O4, GN⟩
              case measure => simp [lenV]; try omega

end Go.Proofs.Ytgkhhfojioepgaa

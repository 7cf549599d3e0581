/- The contract of the reference's moved. -/
import Derived.Test.YtgkhhfojioepgaaTMvB
import Derived.Test.YtgkhhfojioepgaaBaseB
namespace Go.Proofs.Ytgkhhfojioepgaa
open Go.RowKit
set_option linter.unusedSimpArgs false
set_option linter.unusedVariables false

attribute [local go_sem] Oper.semAt_some

theorem map_take {L : List Smp} {d : Int} {k : Nat} (h : k < L.length) : (L.take (k + 1)).map (mvS d) = (L.take k).map (mvS d) ++ [mvS d L[k]] := by
  rw [List.take_succ_eq_append_getElem h, List.map_append]; rfl

theorem own_ne {v1 v2 : Value} (h : ∀ r1 r2, v1.ownBlock = some r1 → v2.ownBlock = some r2 → r1 ≠ r2) : v1.ownBlock = none ∨ v1.ownBlock ≠ v2.ownBlock := by
  cases h1 : v1.ownBlock with
  | none => exact .inl rfl
  | some r => exact .inr (fun e => h r r h1 e.symm rfl)
theorem own_ne2 {w : World} {base e s n : Nat} {v1 v2 v3 : Value} {xs : List Value} (h1 : w.ownsRow base e s v1 n xs) (h : ∀ r1 r2, v1.ownBlock = some r1 → v2.ownBlock = some r2 → r1 ≠ r2) (hl : v3.ownBlock = v2.ownBlock ∨ v3.ownBlock = some w.heap.size) : ∀ r1 r2, v1.ownBlock = some r1 → v3.ownBlock = some r2 → r1 ≠ r2 := fun r1 r2 e1 e2 => by
  rcases hl with hl | hl
  · exact h r1 r2 e1 (hl ▸ e2)
  · have := (h1.lt r1 e1).2
    rw [hl] at e2; injection e2 with e2; omega

set_option maxRecDepth 100000 in
set_option maxHeartbeats 6400000 in
theorem moved_is (a : Act) (hok : ActOk a) (D : Int) (hd0 : 0 ≤ D) (hd1 : D ≤ 1000000) (w : World) (ha : ActAt w a) (aol : Option Addr) (cpl : Nat) (L : List Smp) (hn : L.length ≤ 20002) (hb : ∀ x ∈ L, 0 ≤ x.t ∧ x.t ≤ 1000000) (hL : SmpsAt w aol L) (hD : D = firstT L) :
    Calls Try.prog 82 #[a.val, .slice aol L.length cpl, .int .i64 D] w fun e w' => (∃ v', e = .returned v' ∧ ActNew w.heap.size w' v' (partV a (firstT L) L)) ∧ w.grownBy w' none := by
  obtain ⟨nm, sp, st, so, sc, ss, lo, lc, ls, to_, tc, ts⟩ := a
  simp only [Act.val] at *
  have hl : (ss.length : Int) ≤ 20000 := hok.sl
  have hl2 : (ls.length : Int) ≤ 200 := hok.ll
  have hl3 : (ts.length : Int) ≤ 20 := hok.tl
  have hs0 : 0 ≤ st := hok.st0
  have hs1 : st ≤ 86399999999 := hok.st1
  have HLB : Hid (∀ x ∈ ls, 0 ≤ x.fr ∧ x.fr < x.to_ ∧ x.to_ ≤ 1000000) := fun x hx => by
    have q := laps_in_bd ls 0 hok.laps x hx
    have q2 : x.to_ ≤ spanL ss := q.2.2
    have q3 : spanL ss ≤ 1000000 := (span_bd2 (sok_of hok)).2
    omega
  have HA := Lib.hid ha; have HB := Lib.hid hb; have HSL := Lib.hid hL
  rw [← hD]
  have M0 := Lib.hid (ClB.new w #[.string nm, .int .i64 sp, .int .i64 st, .slice so ss.length sc, .slice lo ls.length lc, .slice to_ ts.length tc] #[.string ⟨#[]⟩, .int .i64 0, .int .i64 0, .slice none 0 0, .slice none 0 0, .slice none 0 0])
  obtain ⟨i0, hi, hz0, hz1, hz2⟩ := info_parts cinfo_laps
  have HI0 := Lib.hid hi; have HZ0 := Lib.hid hz0; have HZ1 := Lib.hid hz1; have HZ2 := Lib.hid hz2
  clear hi hz0 hz1 hz2
  obtain ⟨j0, hi, hz0, hz1, hz2⟩ := info_parts cinfo_smps
  have HJ0 := Lib.hid hi; have HY0 := Lib.hid hz0; have HY1 := Lib.hid hz1; have HY2 := Lib.hid hz2
  clear hi hz0 hz1 hz2 ha hb hL hok hD
  go_enter Try.func82, Try.ntmps82
  go_wp2_with fail
  refine (copied_any ⟨nm, sp, st, so, sc, ss, lo, lc, ls, to_, tc, ts⟩ (by show ss.length ≤ _; omega) (by show ls.length ≤ _; omega) (by show ts.length ≤ _; omega) _ (HA.out.grown M0.out.g)).mono ?_; rintro e w4 ⟨⟨vv, rfl, hvv⟩, hg4⟩
  obtain ⟨a1, c1, a2, c2, a3, c3, rfl, hat, hfar⟩ := hvv
  have hC := M0.out.grown hg4
  have hk := hC.lt
  have MC : Hid (MvB w #[.string nm, .int .i64 sp, .int .i64 st, .slice so ss.length sc, .slice lo ls.length lc, .slice to_ ts.length tc] #[.string ⟨#[]⟩, .int .i64 0, .int .i64 0, .slice none 0 0, .slice none 0 0, .slice none 0 0] w4.heap.size a2 ls a3 ts w4) := ⟨hC, hk, hat.hl, fun p e e2 => ⟨by have := hfar.l p e; have := M0.out.lt; omega, hat.hl.blk p e e2⟩, hat.ht, fun p e e2 => ⟨by have := hfar.t p e; have := M0.out.lt; omega, hat.ht.blk p e e2⟩⟩
  have HFT : Hid (∀ p, a3 = some p → w.heap.size ≤ p.block) := fun p e => by have := hfar.t p e; have := M0.out.g.size; omega
  clear hg4 hat hfar M0 hC hk
  obtain ⟨K, hK⟩ : ∃ K, w4.heap.size = K := ⟨_, rfl⟩
  have HK : Hid (K ≤ w4.heap.size) := by show _ ≤ _; omega
  rw [hK] at MC
  clear hK
  have u0 := block_cell MC.out.c.a 0 _ rfl
  have v0 := block_free (k := 0) MC.out.c.a
  have u1 := block_cell MC.out.c.a 1 _ rfl
  have v1 := block_free (k := 1) MC.out.c.a
  have u2 := block_cell MC.out.c.a 2 _ rfl
  have v2 := block_free (k := 2) MC.out.c.a
  have u3 := block_cell MC.out.c.a 3 _ rfl
  have v3 := block_free (k := 3) MC.out.c.a
  have u4 := block_cell MC.out.c.a 4 _ rfl
  have v4 := block_free (k := 4) MC.out.c.a
  have u5 := block_cell MC.out.c.a 5 _ rfl
  have v5 := block_free (k := 5) MC.out.c.a
  go_upto_region 2 with (fail)
  have M1 : Hid (MvB w #[.string nm, .int .i64 sp, .int .i64 st, .slice a1 ss.length c1, .slice a2 ls.length c2, .slice a3 ts.length c3] #[.string ⟨#[]⟩, .int .i64 0, .int .i64 0, .slice none 0 0, .slice none 0 0, .slice none 0 0] K a2 ls a3 ts ((((((w4.setCell ⟨w.heap.size, 0, none⟩ (.string nm)).setCell ⟨w.heap.size, 1, none⟩ (.int .i64 sp)).setCell ⟨w.heap.size, 2, none⟩ (.int .i64 st)).setCell ⟨w.heap.size, 3, none⟩ (.slice a1 ss.length c1)).setCell ⟨w.heap.size, 4, none⟩ (.slice a2 ls.length c2)).setCell ⟨w.heap.size, 5, none⟩ (.slice a3 ts.length c3))) := (((((MC.out.setA 0 _).setA 1 _).setA 2 _).setA 3 _).setA 4 _).setA 5 _
  obtain ⟨W1, hW1⟩ : ∃ W, ((((((w4.setCell ⟨w.heap.size, 0, none⟩ (.string nm)).setCell ⟨w.heap.size, 1, none⟩ (.int .i64 sp)).setCell ⟨w.heap.size, 2, none⟩ (.int .i64 st)).setCell ⟨w.heap.size, 3, none⟩ (.slice a1 ss.length c1)).setCell ⟨w.heap.size, 4, none⟩ (.slice a2 ls.length c2)).setCell ⟨w.heap.size, 5, none⟩ (.slice a3 ts.length c3)) = W := ⟨_, rfl⟩
  have HK1 : Hid (K ≤ W1.heap.size) := by
    have q := HK.out
    show _ ≤ _; rw [← hW1]; simpa [World.setCell] using q
  rw [hW1] at M1 ⊢
  clear hW1 MC HK u0 u1 u2 u3 u4 u5 v0 v1 v2 v3 v4 v5
  have u2 := block_cell M1.out.c.a 2 _ rfl
  have v2 := block_free (k := 2) M1.out.c.a
  have u3 := block_cell M1.out.c.a 3 _ rfl
  have v3 := block_free (k := 3) M1.out.c.a
  have r2 : IntKind.i64.wrap (st + D) = st + D := IntWalk.i64_in _ (by omega)
  go_upto_region 4 with (fail)
  have M2 : Hid (MvB w #[.string nm, .int .i64 sp, .int .i64 (st + D), .slice none 0 0, .slice a2 ls.length c2, .slice a3 ts.length c3] #[.string ⟨#[]⟩, .int .i64 0, .int .i64 0, .slice none 0 0, .slice none 0 0, .slice none 0 0] K a2 ls a3 ts ((W1.setCell ⟨w.heap.size, 2, none⟩ (.int .i64 (st + D))).setCell ⟨w.heap.size, 3, none⟩ (.slice none 0 0))) := (M1.out.setA 2 _).setA 3 _
  obtain ⟨W2, hW2⟩ : ∃ W, ((W1.setCell ⟨w.heap.size, 2, none⟩ (.int .i64 (st + D))).setCell ⟨w.heap.size, 3, none⟩ (.slice none 0 0)) = W := ⟨_, rfl⟩
  have HK2 : Hid (K ≤ W2.heap.size) := by
    have q := HK1.out
    show _ ≤ _; rw [← hW2]; simpa [World.setCell] using q
  rw [hW2] at M2 ⊢
  clear hW2 M1 HK1 u2 u3 v2 v3
  go_wp2_with fail
  go_loopw [23] (fun iv wr => ∃ (k : Nat) (al : Option Addr) (cl : Nat) (M : List Smp), iv = .int .i64 k ∧ k ≤ L.length ∧ Hid (M = (L.take k).map (mvS (-D))) ∧ Hid (MvB w #[.string nm, .int .i64 sp, .int .i64 (st + D), .slice al M.length cl, .slice a2 ls.length c2, .slice a3 ts.length c3] #[.string ⟨#[]⟩, .int .i64 0, .int .i64 0, .slice none 0 0, .slice none 0 0, .slice none 0 0] K a2 ls a3 ts wr) ∧ Hid (World.ownsRow wr K 28 7 (.slice al M.length cl) M.length (smpRw M)) ∧ Hid (K ≤ wr.heap.size))
    (fun iv _ => L.length - (intOf iv).toNat)
  case atStart => exact ⟨0, none, 0, [], rfl, Nat.zero_le _, by show _ = _; simp, M2, World.ownsRow_nil _ _ _ _, HK2⟩
  case round =>
    obtain ⟨k, al, cl, M, rfl, hk, hMe, hM, hO, hK⟩ := hrel
    by_cases hlt : k < L.length
    · obtain ⟨b, off, rfl, hcl⟩ := smps_at (HSL.out.grown hM.out.c.g) (by show 0 < L.length; omega)
      obtain ⟨s0, s1, s2, s3, s4, s5, s6⟩ := hcl k hlt
      have hxb := HB.out L[k] (List.getElem_mem hlt)
      have hMn : Hid ((L.take (k + 1)).map (mvS (-D)) = M ++ [mvS (-D) L[k]]) := by show _ = _; rw [hMe.out]; exact map_take hlt
      have hMl : Hid (M.length = k) := by show _ = _; rw [hMe.out]; simp; omega
      generalize L[k] = x at *
      obtain ⟨xt, xx, xy, xz, xp, xq, xs⟩ := x
      simp only at s0 s1 s2 s3 s4 s5 s6 hxb
      have hx0 := hxb.1; have hx1 := hxb.2
      have r5 : IntKind.i64.wrap (xt - D) = xt - D := IntWalk.i64_in _ (by omega)
      clear hcl hMe hxb
      go_upto_region 7 with (fail)
      obtain ⟨X, hX⟩ : ∃ X, wr.heap.size = X := ⟨_, rfl⟩
      have gX := World.grownBy_alloc wr (.cells #[.int .i64 xt, .int .i64 xx, .int .i64 xy, .int .i64 xz, .int .i64 xp, .int .i64 xq, .int .i64 xs] 28) none
      have M1 := Lib.hid (hM.out.grown gX)
      have O1 : Hid (World.ownsRow (wr.alloc (.cells #[.int .i64 xt, .int .i64 xx, .int .i64 xy, .int .i64 xz, .int .i64 xp, .int .i64 xq, .int .i64 xs] 28)) K 28 7 (.slice al M.length cl) M.length (smpRw M)) := hO.out.alloc _
      have X1 : Hid ((wr.alloc (.cells #[.int .i64 xt, .int .i64 xx, .int .i64 xy, .int .i64 xz, .int .i64 xp, .int .i64 xq, .int .i64 xs] 28)).heap[X]? = some (.cells #[.int .i64 xt, .int .i64 xx, .int .i64 xy, .int .i64 xz, .int .i64 xp, .int .i64 xq, .int .i64 xs] 28 (0, 0))) := by rw [← hX]; exact heap_alloc_new wr _
      have KX : Hid (K ≤ X) := by have := hK.out; show _ ≤ _; omega
      have XO : Hid (∀ r, (Value.slice al M.length cl).ownBlock = some r → r ≠ X) := fun r hr => by have := (hO.out.lt r hr).2; omega
      rw [hX]
      clear hX gX hM hO hK s0 s1 s2 s3 s4 s5 s6
      generalize wr.alloc (.cells #[.int .i64 xt, .int .i64 xx, .int .i64 xy, .int .i64 xz, .int .i64 xp, .int .i64 xq, .int .i64 xs] 28) = V1 at *
      have x0 := block_cell X1.out 0 _ rfl
      have f0 := block_free (k := 0) X1.out
      go_upto_region 8 with (fail)
      have M2 : Hid (MvB w #[.string nm, .int .i64 sp, .int .i64 (st + D), .slice al M.length cl, .slice a2 ls.length c2, .slice a3 ts.length c3] #[.string ⟨#[]⟩, .int .i64 0, .int .i64 0, .slice none 0 0, .slice none 0 0, .slice none 0 0] K a2 ls a3 ts (V1.setCell ⟨X, 0, none⟩ (.int .i64 (xt - D)))) := M1.out.kept (setcR_grown _ X 0 _) (fun r hr => by have := KX.out; injection hr with hr; omega)
      have O2 := Lib.hid (own_out O1.out XO.out 0 (.int .i64 (xt - D)))
      have X2 : Hid ((V1.setCell ⟨X, 0, none⟩ (.int .i64 (xt - D))).heap[X]? = some (.cells #[.int .i64 (xt - D), .int .i64 xx, .int .i64 xy, .int .i64 xz, .int .i64 xp, .int .i64 xq, .int .i64 xs] 28 (0, 0))) := block_set X1.out _
      clear x0 f0 M1 O1 X1
      generalize World.setCell V1 ⟨X, 0, none⟩ (.int .i64 (xt - D)) = V2 at *
      have x0 := block_cell X2.out 0 _ rfl
      have x1 := block_cell X2.out 1 _ rfl
      have x2 := block_cell X2.out 2 _ rfl
      have x3 := block_cell X2.out 3 _ rfl
      have x4 := block_cell X2.out 4 _ rfl
      have x5 := block_cell X2.out 5 _ rfl
      have x6 := block_cell X2.out 6 _ rfl
      have u3 := block_cell M2.out.c.a 3 _ rfl
      have HN : Hid (M ++ [(⟨xt - D, xx, xy, xz, xp, xq, xs⟩ : Smp)] = (L.take (k + 1)).map (mvS (-D))) := by show _ = _; rw [hMn.out]; unfold mvS; simp only; rw [Int.sub_eq_add_neg]
      have HLT := Lib.hid hlt
      clear hMn
      go_wp2_with (at_builtin; go_loud (refine wpList_append_own _ rfl _ _ 22 rfl K 28 j0 (.agg #[.int .i64 0, .int .i64 0, .int .i64 0, .int .i64 0, .int .i64 0, .int .i64 0, .int .i64 0]) 7 56 Try.underlying22 HJ0.out HY0.out HY1.out HY2.out rfl (by decide) _ _ _ rfl (O2.out.alloc _) ⟨V2.heap.size, 0, none⟩ 1 1 [.int .i64 (xt - D), .int .i64 xx, .int .i64 xy, .int .i64 xz, .int .i64 xp, .int .i64 xq, .int .i64 xs] rfl rfl (World.news_of_block (cs := #[.int .i64 (xt - D), .int .i64 xx, .int .i64 xy, .int .i64 xz, .int .i64 xp, .int .i64 xq, .int .i64 xs]) (t := 28) (fr := (0, 0)) (heap_alloc_new V2 _)) (by simp [Value.oneCell']) (by have := hMl.out; unfold maxLen; omega) (by have := hMl.out; omega) (Nat.le_trans (Nat.le_trans KX.out (Nat.le_of_lt (lt_of_block X2.out))) (World.grownBy_alloc _ _ none).size) ?_); go_loud (intro v' w10 ho10 hg10 hnil; obtain ⟨gg, cap2, rfl, hgb, _⟩ := ho10.form (by omega); have M3 : Hid (MvB w #[.string nm, .int .i64 sp, .int .i64 (st + D), .slice al M.length cl, .slice a2 ls.length c2, .slice a3 ts.length c3] #[.string ⟨#[]⟩, .int .i64 0, .int .i64 0, .slice none 0 0, .slice none 0 0, .slice none 0 0] K a2 ls a3 ts w10) := (M2.out.grown (World.grownBy_alloc _ _ _)).kept hg10 (fun r hr => (O2.out.lt r hr).1); have O3 := Lib.hid ho10; have v3 := block_free (k := 3) M3.out.c.a; have u3' := block_cell M3.out.c.a 3 _ rfl; have K3 : Hid (K ≤ w10.heap.size) := Nat.le_trans (Nat.le_trans (Nat.le_trans KX.out (Nat.le_of_lt (lt_of_block X2.out))) (World.grownBy_alloc _ _ none).size) hg10.size; clear ho10 hg10 hnil M2 O2 X2 u3))
      have M4 : Hid (MvB w #[.string nm, .int .i64 sp, .int .i64 (st + D), .slice (some ⟨gg, 0, none⟩) (M.length + 1) cap2, .slice a2 ls.length c2, .slice a3 ts.length c3] #[.string ⟨#[]⟩, .int .i64 0, .int .i64 0, .slice none 0 0, .slice none 0 0, .slice none 0 0] K a2 ls a3 ts (w10.setCell ⟨w.heap.size, 3, none⟩ (.slice (some ⟨gg, 0, none⟩) (M.length + 1) cap2))) := M3.out.setA 3 _
      have O4 := Lib.hid (own_out O3.out (P := w.heap.size) (fun r hr => by have := (O3.out.lt r hr).1; have := M4.out.k; omega) 3 (.slice (some ⟨gg, 0, none⟩) (M.length + 1) cap2))
      go_roundw
      case rel => exact ⟨k + 1, some ⟨gg, 0, none⟩, cap2, M ++ [⟨xt - D, xx, xy, xz, xp, xq, xs⟩], by go_num, HLT.out, HN, by have q := M4; rw [List.length_append]; exact q, by have q := O4; rw [List.length_append, smpRw_snoc]; exact q, by have q := K3.out; show _ ≤ _; simpa [World.setCell] using q⟩
      case measure => have := HLT.out; simp [intOf]; omega
    · obtain rfl : k = L.length := by omega
      have hMf : Hid (M = L.map (mvS (-D))) := by show _ = _; rw [hMe.out, List.take_length]
      have hMl : Hid (M.length = L.length) := by show _ = _; rw [hMf.out, List.length_map]
      clear hMe
      obtain ⟨sv, hsv⟩ : ∃ e, spanL M = e := ⟨_, rfl⟩
      have HSV := Lib.hid hsv
      clear hsv
      have u0 := block_cell hM.out.c.a 0 _ rfl
      have u1 := block_cell hM.out.c.a 1 _ rfl
      have u2 := block_cell hM.out.c.a 2 _ rfl
      have u3 := block_cell hM.out.c.a 3 _ rfl
      have u4 := block_cell hM.out.c.a 4 _ rfl
      have u5 := block_cell hM.out.c.a 5 _ rfl
      go_wp2_with fail
      have hsm : SmpsAt wr al M := by
        obtain ⟨ao2, cp2, hv2, hs2, _⟩ := own_smps hO.out
        injection hv2 with e1 _ _
        rw [e1]; exact hs2
      refine (rspan_any ⟨nm, sp, st + D, al, cl, M, a2, c2, ls, a3, c3, ts⟩ (by show (M.length : Int) ≤ _; have := hMl.out; omega) _ hsm HSV).mono ?_; rintro e w6 ⟨rfl, hg6⟩
      have M3 := Lib.hid (hM.out.grown hg6)
      have O3 := Lib.hid (hO.out.kept hg6 (by cases (Value.slice al M.length cl).ownBlock <;> simp))
      have K3 : Hid (K ≤ w6.heap.size) := Nat.le_trans hK.out hg6.size
      clear hsm hg6 u0 u1 u2 u3 u4 u5 hM hO hK
      have u4 := block_cell M3.out.c.a 4 _ rfl
      have v4 := block_free (k := 4) M3.out.c.a
      go_upto_region 13 with (fail)
      have M4 : Hid (MvB w #[.string nm, .int .i64 sp, .int .i64 (st + D), .slice al M.length cl, .slice none 0 0, .slice a3 ts.length c3] #[.string ⟨#[]⟩, .int .i64 0, .int .i64 0, .slice none 0 0, .slice none 0 0, .slice none 0 0] K a2 ls a3 ts (w6.setCell ⟨w.heap.size, 4, none⟩ (.slice none 0 0))) := M3.out.setA 4 _
      have O4 := Lib.hid (own_out O3.out (P := w.heap.size) (fun r hr => by have := (O3.out.lt r hr).1; have := M4.out.k; omega) 4 (.slice none 0 0))
      have K4 : Hid (K ≤ (w6.setCell ⟨w.heap.size, 4, none⟩ (.slice none 0 0)).heap.size) := by have q := K3.out; show _ ≤ _; simpa [World.setCell] using q
      clear u4 v4 M3 O3 K3
      generalize World.setCell w6 ⟨w.heap.size, 4, none⟩ (.slice none 0 0) = W8 at *
      go_wp2_with fail
      go_loopw [46] (fun iv wr => ∃ (k : Nat) (al2 : Option Addr) (cl2 : Nat) (Q : List LapV), iv = .int .i64 k ∧ k ≤ ls.length ∧ Hid (Q = lapsM D sv (ls.take k)) ∧ Hid (MvB w #[.string nm, .int .i64 sp, .int .i64 (st + D), .slice al M.length cl, .slice al2 Q.length cl2, .slice a3 ts.length c3] #[.string ⟨#[]⟩, .int .i64 0, .int .i64 0, .slice none 0 0, .slice none 0 0, .slice none 0 0] K a2 ls a3 ts wr) ∧ Hid (World.ownsRow wr K 77 3 (.slice al2 Q.length cl2) Q.length (lapRw Q)) ∧ Hid (World.ownsRow wr K 28 7 (.slice al M.length cl) M.length (smpRw M)) ∧ Hid (K ≤ wr.heap.size) ∧ Hid (∀ r1 r2, (Value.slice al M.length cl).ownBlock = some r1 → (.slice al2 Q.length cl2 : Value).ownBlock = some r2 → r1 ≠ r2))
        (fun iv _ => ls.length - (intOf iv).toNat)
      case atStart => exact ⟨0, none, 0, [], rfl, Nat.zero_le _, by show _ = _; simp [lapsM], M4, World.ownsRow_nil _ _ _ _, O4, K4, fun r1 r2 _ h2 => by simp [Value.ownBlock] at h2⟩
      case round =>
        obtain ⟨k, al2, cl2, Q, rfl, hk, hQe, hM, hOL, hOS, hK, hNE⟩ := hrel
        by_cases hlt : k < ls.length
        · obtain ⟨b, off, rfl, hcl⟩ := lapsS_at hM.out.l (by show 0 < ls.length; omega)
          obtain ⟨x0, x1, x2⟩ := hcl k hlt
          have hlb := HLB.out ls[k] (List.getElem_mem hlt)
          have hMn : Hid (lapsM D sv (ls.take (k + 1)) = Q ++ (lapM D sv ls[k]).toList) := by show _ = _; rw [hQe.out]; exact lapsM_take hlt
          have hQl : Hid (Q.length ≤ 200) := by show _ ≤ _; rw [hQe.out]; have := lapsM_le D sv (ls.take k); simp at this; omega
          generalize ls[k] = x at *
          obtain ⟨fr, to2, nml⟩ := x
          simp only at x0 x1 x2 hlb
          obtain ⟨p0, p1, p2⟩ := hlb
          obtain ⟨F1, hF1⟩ : ∃ F, max (fr - D) 0 = F := ⟨_, rfl⟩
          obtain ⟨E1, hE1⟩ : ∃ E, max (to2 - D) 0 = E := ⟨_, rfl⟩
          obtain ⟨F, hF⟩ : ∃ F, min F1 sv = F := ⟨_, rfl⟩
          obtain ⟨E, hE⟩ : ∃ E, min E1 sv = E := ⟨_, rfl⟩
          have HLM : Hid (lapM D sv ⟨fr, to2, nml⟩ = if F < E then some ⟨F, E, nml⟩ else none) := by show _ = _; rw [← lapM_ref]; simp only; rw [hF1, hE1, hF, hE]
          have r5 : IntKind.i64.wrap (fr - D) = fr - D := IntWalk.i64_in _ (by omega)
          have r6 : IntKind.i64.wrap (to2 - D) = to2 - D := IntWalk.i64_in _ (by omega)
          clear hcl hQe
          go_upto_region 16 with (fail)
          obtain ⟨X, hX⟩ : ∃ X, wr.heap.size = X := ⟨_, rfl⟩
          have gX := World.grownBy_alloc wr (.cells #[.int .i64 fr, .int .i64 to2, .string nml] 77) none
          have M1 := Lib.hid (hM.out.grown gX)
          have OL1 : Hid (World.ownsRow (wr.alloc (.cells #[.int .i64 fr, .int .i64 to2, .string nml] 77)) K 77 3 (.slice al2 Q.length cl2) Q.length (lapRw Q)) := hOL.out.alloc _
          have OS1 : Hid (World.ownsRow (wr.alloc (.cells #[.int .i64 fr, .int .i64 to2, .string nml] 77)) K 28 7 (.slice al M.length cl) M.length (smpRw M)) := hOS.out.alloc _
          have X1 : Hid ((wr.alloc (.cells #[.int .i64 fr, .int .i64 to2, .string nml] 77)).heap[X]? = some (.cells #[.int .i64 fr, .int .i64 to2, .string nml] 77 (0, 0))) := by rw [← hX]; exact heap_alloc_new wr _
          have KX : Hid (K ≤ X) := by have := hK.out; show _ ≤ _; omega
          have XL : Hid (∀ r, (.slice al2 Q.length cl2 : Value).ownBlock = some r → r ≠ X) := fun r hr => by have := (hOL.out.lt r hr).2; omega
          have XS : Hid (∀ r, (Value.slice al M.length cl).ownBlock = some r → r ≠ X) := fun r hr => by have := (hOS.out.lt r hr).2; omega
          rw [hX]
          clear hX gX hM hOL hOS hK x0 x1 x2
          generalize wr.alloc (.cells #[.int .i64 fr, .int .i64 to2, .string nml] 77) = V1 at *
          have x0 := block_cell X1.out 0 _ rfl
          have f0 := block_free (k := 0) X1.out
          have x1 := block_cell X1.out 1 _ rfl
          have f1 := block_free (k := 1) X1.out
          go_upto_region 17 with (fail)
          have M2 : Hid (MvB w #[.string nm, .int .i64 sp, .int .i64 (st + D), .slice al M.length cl, .slice al2 Q.length cl2, .slice a3 ts.length c3] #[.string ⟨#[]⟩, .int .i64 0, .int .i64 0, .slice none 0 0, .slice none 0 0, .slice none 0 0] K (some ⟨b, off, none⟩) ls a3 ts ((V1.setCell ⟨X, 0, none⟩ (.int .i64 F)).setCell ⟨X, 1, none⟩ (.int .i64 E))) := (M1.out.kept (setcR_grown _ X 0 _) (fun r hr => by have := KX.out; injection hr with hr; omega)).kept (setcR_grown _ X 1 _) (fun r hr => by have := KX.out; injection hr with hr; omega)
          have OL2 := Lib.hid (own_out (own_out OL1.out XL.out 0 (.int .i64 F)) XL.out 1 (.int .i64 E))
          have OS2 := Lib.hid (own_out (own_out OS1.out XS.out 0 (.int .i64 F)) XS.out 1 (.int .i64 E))
          have X3 : Hid (((V1.setCell ⟨X, 0, none⟩ (.int .i64 F)).setCell ⟨X, 1, none⟩ (.int .i64 E)).heap[X]? = some (.cells #[.int .i64 F, .int .i64 E, .string nml] 77 (0, 0))) := block_set (block_set X1.out _) _
          clear x0 f0 x1 f1 M1 OL1 OS1 X1
          generalize (V1.setCell ⟨X, 0, none⟩ (.int .i64 F)).setCell ⟨X, 1, none⟩ (.int .i64 E) = V2 at *
          have x0 := block_cell X3.out 0 _ rfl
          have x1 := block_cell X3.out 1 _ rfl
          have x2 := block_cell X3.out 2 _ rfl
          clear hF1 hE1 hF hE
          have HLT := Lib.hid hlt
          by_cases hc : F < E
          · have HNs : Hid (Q ++ [(⟨F, E, nml⟩ : LapV)] = lapsM D sv (ls.take (k + 1))) := by show _ = _; rw [hMn.out, HLM.out, if_pos hc]; rfl
            have u4 := block_cell M2.out.c.a 4 _ rfl
            clear hMn HLM
            go_wp2_with (at_builtin; go_loud (refine wpList_append_own_at _ rfl _ _ 23 rfl K 77 i0 (.agg #[.int .i64 0, .int .i64 0, .string ⟨#[]⟩]) 3 32 Try.underlying23 HI0.out HZ0.out HZ1.out HZ2.out rfl (by decide) _ _ _ rfl (OL2.out.alloc _) ⟨V2.heap.size, 0, none⟩ 1 1 [.int .i64 F, .int .i64 E, .string nml] rfl rfl (World.news_of_block (cs := #[.int .i64 F, .int .i64 E, .string nml]) (t := 77) (fr := (0, 0)) (heap_alloc_new V2 _)) (by simp [Value.oneCell']) (by have := hQl.out; unfold maxLen; omega) (by have := hQl.out; omega) (Nat.le_trans (Nat.le_trans KX.out (Nat.le_of_lt (lt_of_block X3.out))) (World.grownBy_alloc _ _ none).size) ?_); go_loud (intro v' w10 ho10 hg10 hnil hloc; obtain ⟨gg, cap2, rfl, hgb, _⟩ := ho10.form (by omega); have M3 : Hid (MvB w #[.string nm, .int .i64 sp, .int .i64 (st + D), .slice al M.length cl, .slice al2 Q.length cl2, .slice a3 ts.length c3] #[.string ⟨#[]⟩, .int .i64 0, .int .i64 0, .slice none 0 0, .slice none 0 0, .slice none 0 0] K (some ⟨b, off, none⟩) ls a3 ts w10) := (M2.out.grown (World.grownBy_alloc _ _ _)).kept hg10 (fun r hr => (OL2.out.lt r hr).1); have OL3 := Lib.hid ho10; have OS3 := Lib.hid ((OS2.out.alloc (.cells #[.int .i64 F, .int .i64 E, .string nml] 77)).kept hg10 (own_ne hNE.out)); have NE3 : Hid (∀ r1 r2, (Value.slice al M.length cl).ownBlock = some r1 → (Value.slice (some ⟨gg, 0, none⟩) (Q.length + 1) cap2).ownBlock = some r2 → r1 ≠ r2) := (own_ne2 (OS2.out.alloc (.cells #[.int .i64 F, .int .i64 E, .string nml] 77)) hNE.out hloc); have v4 := block_free (k := 4) M3.out.c.a; have u4' := block_cell M3.out.c.a 4 _ rfl; have K3 : Hid (K ≤ w10.heap.size) := Nat.le_trans (Nat.le_trans (Nat.le_trans KX.out (Nat.le_of_lt (lt_of_block X3.out))) (World.grownBy_alloc _ _ none).size) hg10.size; clear ho10 hg10 hnil hloc M2 OL2 OS2 X3 u4 hNE))
            have M4 : Hid (MvB w #[.string nm, .int .i64 sp, .int .i64 (st + D), .slice al M.length cl, .slice (some ⟨gg, 0, none⟩) (Q.length + 1) cap2, .slice a3 ts.length c3] #[.string ⟨#[]⟩, .int .i64 0, .int .i64 0, .slice none 0 0, .slice none 0 0, .slice none 0 0] K (some ⟨b, off, none⟩) ls a3 ts (w10.setCell ⟨w.heap.size, 4, none⟩ (.slice (some ⟨gg, 0, none⟩) (Q.length + 1) cap2))) := M3.out.setA 4 _
            have OL4 := Lib.hid (own_out OL3.out (P := w.heap.size) (fun r hr => by have := (OL3.out.lt r hr).1; have := M4.out.k; omega) 4 (.slice (some ⟨gg, 0, none⟩) (Q.length + 1) cap2))
            have OS4 := Lib.hid (own_out OS3.out (P := w.heap.size) (fun r hr => by have := (OS3.out.lt r hr).1; have := M4.out.k; omega) 4 (.slice (some ⟨gg, 0, none⟩) (Q.length + 1) cap2))
            go_roundw
            case rel => exact ⟨k + 1, some ⟨gg, 0, none⟩, cap2, Q ++ [⟨F, E, nml⟩], by go_num, HLT.out, HNs, by have q := M4; rw [List.length_append]; exact q, by have q := OL4; rw [List.length_append]; unfold lapRw at q ⊢; rw [List.flatMap_append]; exact q, OS4, by have q := K3.out; show _ ≤ _; simpa [World.setCell] using q, by rw [List.length_append]; exact NE3⟩
            case measure => have := HLT.out; simp [intOf]; omega
          · have HNs : Hid (Q = lapsM D sv (ls.take (k + 1))) := by show _ = _; rw [hMn.out, HLM.out, if_neg hc]; simp
            have K3 : Hid (K ≤ V2.heap.size) := Nat.le_trans KX.out (Nat.le_of_lt (lt_of_block X3.out))
            clear hMn HLM
            go_wp2_with fail
            go_roundw
            case rel => exact ⟨k + 1, al2, cl2, Q, by go_num, HLT.out, HNs, M2, OL2, OS2, K3, hNE⟩
            case measure => have := HLT.out; simp [intOf]; omega
        · obtain rfl : k = ls.length := by omega
          have hMl2 : Hid (Q = lapsM D sv ls) := by show _ = _; rw [hQe.out, List.take_length]
          clear hQe
          have u0 := block_cell hM.out.c.a 0 _ rfl
          have u1 := block_cell hM.out.c.a 1 _ rfl
          have u2 := block_cell hM.out.c.a 2 _ rfl
          have u3 := block_cell hM.out.c.a 3 _ rfl
          have u4 := block_cell hM.out.c.a 4 _ rfl
          have u5 := block_cell hM.out.c.a 5 _ rfl
          have z0 := block_cell hM.out.c.z 0 _ rfl
          have y0 := block_free (k := 0) hM.out.c.z
          have z1 := block_cell hM.out.c.z 1 _ rfl
          have y1 := block_free (k := 1) hM.out.c.z
          have z2 := block_cell hM.out.c.z 2 _ rfl
          have y2 := block_free (k := 2) hM.out.c.z
          have z3 := block_cell hM.out.c.z 3 _ rfl
          have y3 := block_free (k := 3) hM.out.c.z
          have z4 := block_cell hM.out.c.z 4 _ rfl
          have y4 := block_free (k := 4) hM.out.c.z
          have z5 := block_cell hM.out.c.z 5 _ rfl
          have y5 := block_free (k := 5) hM.out.c.z
          go_wp2_with fail
          refine bodyPost_ret (v := .agg #[.string nm, .int .i64 sp, .int .i64 (st + D), .slice al M.length cl, .slice al2 Q.length cl2, .slice a3 ts.length c3]) (by simp [results, Try.results82, go_sem, z0, z1, z2, z3, z4, z5]) rfl ⟨⟨_, rfl, ?_⟩, ((((((hM.out.setZ 0 _).setZ 1 _).setZ 2 _).setZ 3 _).setZ 4 _).setZ 5 _).c.g⟩
          have hME := hMl2.out
          have hMF := hMf.out
          subst hME
          obtain ⟨ao2, cp2, hv2, hs2, hb2⟩ := own_smps hOS.out
          injection hv2 with e1 _ e3
          subst e1; subst e3
          obtain ⟨al3, cl3, hv3, hs3, hb3⟩ := own_lapsR hOL.out (lapsM_name hM.out.l.sizes)
          injection hv3 with e1 _ e3
          subst e1; subst e3
          have hpv : partV ⟨nm, sp, st, so, sc, ss, lo, lc, ls, to_, tc, ts⟩ D L = ⟨nm, sp, st + D, so, sc, M, lo, lc, lapsM D sv ls, to_, tc, ts⟩ := by unfold partV; simp only; rw [← hMF, HSV.out]
          rw [hpv]
          refine ⟨al, cl, al2, cl2, a3, c3, rfl, ?_, ⟨fun p hp => by have := (hb2 p hp).1; have := hM.out.k; omega, fun p hp => by have := (hb3 p hp).1; have := hM.out.k; omega, HFT.out⟩⟩
          have hlt1 := hM.out.k
          refine ⟨HA.out.ns, by show (M.length : Int) ≤ _; have := hMl.out; omega, by show ((lapsM D sv ls).length : Int) ≤ _; have := lapsM_le D sv ls; omega, HA.out.tl, hs2.eq fun p hp o => ?_, hs3.eq fun p hp o => ?_, ((((((hM.out.setZ 0 _).setZ 1 _).setZ 2 _).setZ 3 _).setZ 4 _).setZ 5 _).t⟩
          · have := (hb2 p hp).1
            iterate 6 rw [World.cell?_setCell_other _ _ _ _ (fun e => by injection e with e; omega)]
          · have := (hb3 p hp).1
            iterate 6 rw [World.cell?_setCell_other _ _ _ _ (fun e => by injection e with e; omega)]

end Go.Proofs.Ytgkhhfojioepgaa

/- The contract of the reference's Join, for any two activities. -/
import Derived.Test.YtgkhhfojioepgaaTRJoinE
import Derived.Test.YtgkhhfojioepgaaTJoinE
import Derived.Deep.Light
namespace Go.Proofs.Ytgkhhfojioepgaa
open Go.RowKit
set_option linter.unusedSimpArgs false
set_option linter.unusedVariables false

attribute [local go_sem] Oper.semAt_some

theorem own_mono {w : World} {b b0 e s n : Nat} {v : Value} {xs : List Value} (h : w.ownsRow b0 e s v n xs) (hb : b ≤ b0) : w.ownsRow b e s v n xs := by
  refine ⟨h.1, ?_⟩
  rcases h.2 with h2 | ⟨g, cap, cur, h1, h2, h3⟩
  · exact .inl h2
  · exact .inr ⟨g, cap, cur, h1, Nat.le_trans hb h2, h3⟩
theorem own_blk_ne {w : World} {base e s n K t : Nat} {v : Value} {xs : List Value} {C : Array Value} {fr : Nat × Nat} (h : w.ownsRow base e s v n xs) (hk : w.heap[K]? = some (.cells C t fr)) (ne : e ≠ t) : ∀ r, v.ownBlock = some r → r ≠ K := fun r hr hrk => by
  subst hrk
  rcases h.2 with ⟨hv, _⟩ | ⟨g, c, cur, hv, _, hg, _⟩
  · rw [hv] at hr; cases hr
  · rw [hv] at hr; cases hr
    rw [hg] at hk
    injection hk with hk; injection hk with _ hk _
    exact ne hk
/-- Three boxes and one more. -/
structure RjB (w : World) (A B Z : Array Value) (K : Nat) (C : Array Value) (W : World) : Prop where
  j : JnB w A B Z W
  k : W.heap[K]? = some (.cells C 26 (0, 0))
  lt : w.heap.size + 3 ≤ K
section
variable {w W W' : World} {A B Z C : Array Value} {K : Nat}
theorem RjB.kept (h : RjB w A B Z K C W) {row : Option Nat} (hg : W.grownBy W' row) (hr : ∀ r, row = some r → w.heap.size + 3 ≤ r ∧ r ≠ K) : RjB w A B Z K C W' :=
  ⟨h.j.kept hg (fun r e => (hr r e).1), block_at h.k hg (fun e => (hr K e.symm).2 rfl), h.lt⟩
theorem RjB.grown (h : RjB w A B Z K C W) (hg : W.grownBy W' none) : RjB w A B Z K C W' := h.kept hg (fun r e => by cases e)
theorem RjB.setK (h : RjB w A B Z K C W) (k : Nat) (v : Value) : RjB w A B Z K (C.setIfInBounds k v) (W.setCell ⟨K, k, none⟩ v) :=
  ⟨h.j.kept (setcR_grown W K k v) (fun r e => by injection e with e; have := h.lt; omega), block_set h.k v, h.lt⟩
end

set_option maxRecDepth 100000 in
set_option maxHeartbeats 12800000 in
theorem rJoin_any (a b : Act) (w : World) (ha : ActAt w a) (hb : ActAt w b) (hta : a.ts.length ≤ a.tc) (htb : b.ts.length ≤ b.tc) {c : Act} {E : Int} (hE : Hid (joinO a b = (c, E))) :
    Calls Try.prog 33 #[a.val, b.val] w fun e w' => (∃ v, e = .returned (.tuple #[v, .int .i64 E]) ∧ ActIs w' v c) ∧ w.grownBy w' none := by
  obtain ⟨ce, hce⟩ : ∃ e, chkE a = e := ⟨_, rfl⟩
  obtain ⟨cf, hcf⟩ : ∃ e, chkE b = e := ⟨_, rfl⟩
  have hv := hE.out
  unfold joinO at hv
  rw [hce, hcf] at hv
  have HCE := Lib.hid hce; have HCF := Lib.hid hcf; have HA := Lib.hid ha; have HB := Lib.hid hb
  have HTA := Lib.hid hta; have HTB := Lib.hid htb
  clear hE ha hb hta htb
  by_cases d1 : ce = 0
  · rw [if_pos d1] at hv
    subst d1
    have HOK := Lib.hid (chk_ok hce)
    clear hce
    by_cases d2 : cf = 0
    · rw [if_pos d2] at hv
      subst d2
      have HOK2 := Lib.hid (chk_ok hcf)
      clear hcf
      by_cases d3 : a.sport = b.sport
      · rw [if_pos d3] at hv
        obtain ⟨sv, hsv⟩ : ∃ s, spanL a.ss = s := ⟨_, rfl⟩
        rw [hsv] at hv
        have HSV := Lib.hid hsv
        have hsb := span_bd2 (sok_of HOK.out)
        rw [hsv] at hsb
        have s1 := HOK.out.st0; have s2 := HOK.out.st1; have s3 := HOK2.out.st0; have s4 := HOK2.out.st1
        have n1 : (a.ss.length : Int) ≤ 20000 := HOK.out.sl
        have n2 : (b.ss.length : Int) ≤ 20000 := HOK2.out.sl
        have n3 : (a.ls.length : Int) ≤ 200 := HOK.out.ll
        have n4 : (b.ls.length : Int) ≤ 200 := HOK2.out.ll
        have n5 : (a.ts.length : Int) ≤ 20 := HOK.out.tl
        have n6 : (b.ts.length : Int) ≤ 20 := HOK2.out.tl
        obtain ⟨D, hD⟩ : ∃ d, b.start - a.start = d := ⟨_, rfl⟩
        rw [hD] at hv
        have HV := Lib.hid hv
        clear hsv hv
        obtain ⟨nm, sp, st, so, sc, ss, lo, lc, ls, to_, tc, ts⟩ := a
        obtain ⟨nm2, sp2, st2, so2, sc2, ss2, lo2, lc2, ls2, to2, tc2, ts2⟩ := b
        simp only [Act.val] at *
        subst d3
        have r1 : IntKind.i64.wrap (st2 - st) = D := by rw [hD]; exact IntWalk.i64_in _ (by omega)
        have hd0 : -86399999999 ≤ D ∧ D ≤ 86399999999 := by omega
        have HD := Lib.hid hD
        obtain ⟨i0, hi, hz0, hz1, hz2⟩ := info_parts cinfo_smps
        have HI0 := Lib.hid hi; have HZ0 := Lib.hid hz0; have HZ1 := Lib.hid hz1; have HZ2 := Lib.hid hz2
        clear hi hz0 hz1 hz2
        obtain ⟨j0, hi, hz0, hz1, hz2⟩ := info_parts cinfo_laps
        have HJ0 := Lib.hid hi; have HY0 := Lib.hid hz0; have HY1 := Lib.hid hz1; have HY2 := Lib.hid hz2
        clear hi hz0 hz1 hz2 hD
        have M0 : Hid (JnB w #[.string nm, .int .i64 sp, .int .i64 st, .slice so ss.length sc, .slice lo ls.length lc, .slice to_ ts.length tc] #[.string nm2, .int .i64 sp, .int .i64 st2, .slice so2 ss2.length sc2, .slice lo2 ls2.length lc2, .slice to2 ts2.length tc2] #[.string ⟨#[]⟩, .int .i64 0, .int .i64 0, .slice none 0 0, .slice none 0 0, .slice none 0 0] (((w.alloc (.cells #[.string nm, .int .i64 sp, .int .i64 st, .slice so ss.length sc, .slice lo ls.length lc, .slice to_ ts.length tc] 26)).alloc (.cells #[.string nm2, .int .i64 sp, .int .i64 st2, .slice so2 ss2.length sc2, .slice lo2 ls2.length lc2, .slice to2 ts2.length tc2] 26)).alloc (.cells #[.string ⟨#[]⟩, .int .i64 0, .int .i64 0, .slice none 0 0, .slice none 0 0, .slice none 0 0] 26))) := JnB.new w #[.string nm, .int .i64 sp, .int .i64 st, .slice so ss.length sc, .slice lo ls.length lc, .slice to_ ts.length tc] #[.string nm2, .int .i64 sp, .int .i64 st2, .slice so2 ss2.length sc2, .slice lo2 ls2.length lc2, .slice to2 ts2.length tc2] #[.string ⟨#[]⟩, .int .i64 0, .int .i64 0, .slice none 0 0, .slice none 0 0, .slice none 0 0]
        go_enter Try.func33, Try.ntmps33
        go_wp2_with fail
        refine (rcheck_any ⟨nm, sp, st, so, sc, ss, lo, lc, ls, to_, tc, ts⟩ _ (HA.out.grown M0.out.g) HCE).mono ?_; rintro e w1 ⟨rfl, hg1⟩
        have M1 := Lib.hid (M0.out.grown hg1)
        clear hg1 M0
        have b0 := block_cell M1.out.b 0 _ rfl
        have b1 := block_cell M1.out.b 1 _ rfl
        have b2 := block_cell M1.out.b 2 _ rfl
        have b3 := block_cell M1.out.b 3 _ rfl
        have b4 := block_cell M1.out.b 4 _ rfl
        have b5 := block_cell M1.out.b 5 _ rfl
        go_wp2_with fail
        refine (rcheck_any ⟨nm2, sp, st2, so2, sc2, ss2, lo2, lc2, ls2, to2, tc2, ts2⟩ _ (HB.out.grown M1.out.g) HCF).mono ?_; rintro e w2 ⟨rfl, hg1⟩
        have M2 := Lib.hid (M1.out.grown hg1)
        clear hg1 M1
        clear b0 b1 b2 b3 b4 b5
        have u0 := block_cell M2.out.a 0 _ rfl
        have u1 := block_cell M2.out.a 1 _ rfl
        have u2 := block_cell M2.out.a 2 _ rfl
        have u3 := block_cell M2.out.a 3 _ rfl
        have u4 := block_cell M2.out.a 4 _ rfl
        have u5 := block_cell M2.out.a 5 _ rfl
        have b1 := block_cell M2.out.b 1 _ rfl
        have b2 := block_cell M2.out.b 2 _ rfl
        go_wp2_with fail
        refine (rspan_any ⟨nm, sp, st, so, sc, ss, lo, lc, ls, to_, tc, ts⟩ (by show (ss.length : Int) ≤ _; omega) _ (HA.out.hs.grown M2.out.g) HSV).mono ?_; rintro e w3 ⟨rfl, hg2⟩
        have M3 := Lib.hid (M2.out.grown hg2)
        clear hg2 M2 u0 u1 u2 u3 u4 u5 b1 b2
        by_cases d4 : sv ≤ D
        · have hlt : decide (D < sv) = false := decide_eq_false (by omega)
          have hv := HV.out
          rw [if_pos d4] at hv
          have HV := Lib.hid hv
          clear hv
          have u0 := block_cell M3.out.a 0 _ rfl
          have u1 := block_cell M3.out.a 1 _ rfl
          have u2 := block_cell M3.out.a 2 _ rfl
          have u3 := block_cell M3.out.a 3 _ rfl
          have u4 := block_cell M3.out.a 4 _ rfl
          have u5 := block_cell M3.out.a 5 _ rfl
          go_wp2_with fail
          refine (copied_own2 ⟨nm, sp, st, so, sc, ss, lo, lc, ls, to_, tc, ts⟩ (by show ss.length ≤ _; omega) (by show ls.length ≤ _; omega) (by show ts.length ≤ _; omega) _ (HA.out.grown M3.out.g)).mono ?_; rintro e w4 ⟨⟨vv, rfl, hvv⟩, hg4⟩
          obtain ⟨a1, c1, a2, c2, a3, c3, rfl, hat, hfar, ⟨bs, hbs, ho1⟩, ⟨bl, hbl, ho2⟩, _, _, _⟩ := hvv
          simp only at hat hfar ho1 ho2
          have hlt2 := M3.out.lt
          have M4 := Lib.hid (M3.out.grown hg4)
          have O1 := Lib.hid (own_mono (b := w.heap.size + 3) ho1 (by omega)); have O2 := Lib.hid (own_mono (b := w.heap.size + 3) ho2 (by omega))
          clear hat hfar ho1 ho2 hg4 M3 hlt2 hbs hbl u0 u1 u2 u3 u4 u5
          have lt4 := M4.out.lt
          go_upto_region 14 with (fail)
          have gK := World.grownBy_alloc w4 (.cells #[.string nm, .int .i64 sp, .int .i64 st, .slice a1 ss.length c1, .slice a2 ls.length c2, .slice a3 ts.length c3] 26) none
          obtain ⟨K, hK⟩ : ∃ K, w4.heap.size = K := ⟨_, rfl⟩
          have M5 : Hid (RjB w #[.string nm, .int .i64 sp, .int .i64 st, .slice so ss.length sc, .slice lo ls.length lc, .slice to_ ts.length tc] #[.string nm2, .int .i64 sp, .int .i64 st2, .slice so2 ss2.length sc2, .slice lo2 ls2.length lc2, .slice to2 ts2.length tc2] #[.string ⟨#[]⟩, .int .i64 0, .int .i64 0, .slice none 0 0, .slice none 0 0, .slice none 0 0] K #[.string nm, .int .i64 sp, .int .i64 st, .slice a1 ss.length c1, .slice a2 ls.length c2, .slice a3 ts.length c3] (w4.alloc (.cells #[.string nm, .int .i64 sp, .int .i64 st, .slice a1 ss.length c1, .slice a2 ls.length c2, .slice a3 ts.length c3] 26))) := ⟨M4.out.grown gK, by rw [← hK]; exact heap_alloc_new _ _, by omega⟩
          replace O1 := Lib.hid (own_kept O1.out gK); replace O2 := Lib.hid (own_kept O2.out gK)
          rw [hK]
          clear hK gK M4 lt4
          generalize w4.alloc (.cells #[.string nm, .int .i64 sp, .int .i64 st, .slice a1 ss.length c1, .slice a2 ls.length c2, .slice a3 ts.length c3] 26) = W5 at *
          have b3 := block_cell M5.out.j.b 3 _ rfl
          have SB : Hid (∀ x ∈ ss2, 0 ≤ x.t ∧ x.t ≤ 1000000) := fun x hx => smp_bd HOK2.out x hx
          go_wp2_with fail
          go_loopw [49] (fun iv wr => ∃ (k : Nat) (al : Option Addr) (cl : Nat) (L : List Smp), iv = .int .i64 k ∧ k ≤ ss2.length ∧ Hid (L = ss ++ jK ss D ss2 k) ∧ Hid (RjB w #[.string nm, .int .i64 sp, .int .i64 st, .slice so ss.length sc, .slice lo ls.length lc, .slice to_ ts.length tc] #[.string nm2, .int .i64 sp, .int .i64 st2, .slice so2 ss2.length sc2, .slice lo2 ls2.length lc2, .slice to2 ts2.length tc2] #[.string ⟨#[]⟩, .int .i64 0, .int .i64 0, .slice none 0 0, .slice none 0 0, .slice none 0 0] K #[.string nm, .int .i64 sp, .int .i64 st, .slice al L.length cl, .slice a2 ls.length c2, .slice a3 ts.length c3] wr) ∧ Hid (World.ownsRow wr (w.heap.size + 3) 28 7 (.slice al L.length cl) L.length (smpRw L)) ∧ Hid (World.ownsRow wr (w.heap.size + 3) 77 3 (.slice a2 ls.length c2) ls.length (lapRw ls)))
            (fun iv _ => ss2.length - (intOf iv).toNat)
          case atStart => exact ⟨0, a1, c1, ss, rfl, Nat.zero_le _, by show _ = _; rw [jK_zero, List.append_nil], M5, O1, O2⟩
          case round =>
            clear M5 O1 O2 b3
            obtain ⟨k, al, cl, L, rfl, hk, hLe, hM, hO, hY⟩ := hrel
            by_cases hlt2 : k < ss2.length
            · obtain ⟨b, off, rfl, hcl⟩ := smps_at (HB.out.hs.grown hM.out.j.g) (by show 0 < ss2.length; omega)
              obtain ⟨s0, s1', s2', s3', s4', s5, s6⟩ := hcl k hlt2
              have hxb := SB.out ss2[k] (List.getElem_mem hlt2)
              have HIN : Hid ((0 < k ∨ ss.length = 0 ∨ sv < ss2[k].t + D) → jK ss D ss2 (k + 1) = jK ss D ss2 k ++ [mvS D ss2[k]]) := fun h => jK_in hlt2 (by rw [HSV.out]; exact h)
              have HOUT : Hid (¬ (0 < k ∨ ss.length = 0 ∨ sv < ss2[k].t + D) → jK ss D ss2 (k + 1) = jK ss D ss2 k) := fun h => jK_out hlt2 (by rw [HSV.out]; exact h) (by rw [HSV.out]; omega)
              have HLl : Hid (L.length ≤ 40000) := by show _ ≤ _; rw [hLe.out, List.length_append]; have := jK_len ss D ss2 k; omega
              generalize ss2[k] = x at *
              obtain ⟨xt, xx, xy, xz, xp, xq, xs⟩ := x
              simp only at s0 s1' s2' s3' s4' s5 s6 hxb HIN HOUT
              have hx0 := hxb.1; have hx1 := hxb.2
              have r5 : IntKind.i64.wrap (xt + D) = xt + D := IntWalk.i64_in _ (by omega)
              have HLT := Lib.hid hlt2
              clear hcl hxb
              go_upto_region 17 with (fail)
              obtain ⟨X, hX⟩ : ∃ X, wr.heap.size = X := ⟨_, rfl⟩
              have gX := World.grownBy_alloc wr (.cells #[.int .i64 xt, .int .i64 xx, .int .i64 xy, .int .i64 xz, .int .i64 xp, .int .i64 xq, .int .i64 xs] 28) none
              have KX : Hid (K < X ∧ w.heap.size + 3 ≤ X) := by have q1 := lt_of_block hM.out.k; have q2 := hM.out.lt; show _ ∧ _; omega
              have M1 := Lib.hid (hM.out.grown gX)
              have O1 := Lib.hid (own_kept hO.out gX); have Y1 := Lib.hid (own_kept hY.out gX)
              have X1 : Hid ((wr.alloc (.cells #[.int .i64 xt, .int .i64 xx, .int .i64 xy, .int .i64 xz, .int .i64 xp, .int .i64 xq, .int .i64 xs] 28)).heap[X]? = some (.cells #[.int .i64 xt, .int .i64 xx, .int .i64 xy, .int .i64 xz, .int .i64 xp, .int .i64 xq, .int .i64 xs] 28 (0, 0))) := by rw [← hX]; exact heap_alloc_new wr _
              have XO : Hid (∀ r, (Value.slice al L.length cl).ownBlock = some r → r ≠ X) := fun r hr => by have := (hO.out.lt r hr).2; omega
              have XY : Hid (∀ r, (Value.slice a2 ls.length c2).ownBlock = some r → r ≠ X) := fun r hr => by have := (hY.out.lt r hr).2; omega
              rw [hX]
              clear hX gX hM hO hY s0 s1' s2' s3' s4' s5 s6
              generalize wr.alloc (.cells #[.int .i64 xt, .int .i64 xx, .int .i64 xy, .int .i64 xz, .int .i64 xp, .int .i64 xq, .int .i64 xs] 28) = V1 at *
              have x0 := block_cell X1.out 0 _ rfl
              have f0 := block_free (k := 0) X1.out
              go_upto_region 18 with (fail)
              have M2 := Lib.hid (M1.out.kept (setcR_grown V1 X 0 (.int .i64 (xt + D))) (fun r hr => by injection hr with hr; have := KX.out; omega))
              have O2 := Lib.hid (own_out O1.out XO.out 0 (.int .i64 (xt + D))); have Y2 := Lib.hid (own_out Y1.out XY.out 0 (.int .i64 (xt + D)))
              have X2 : Hid ((V1.setCell ⟨X, 0, none⟩ (.int .i64 (xt + D))).heap[X]? = some (.cells #[.int .i64 (xt + D), .int .i64 xx, .int .i64 xy, .int .i64 xz, .int .i64 xp, .int .i64 xq, .int .i64 xs] 28 (0, 0))) := block_set X1.out _
              clear x0 f0 M1 O1 Y1 X1
              generalize World.setCell V1 ⟨X, 0, none⟩ (.int .i64 (xt + D)) = V2 at *
              have x0 := block_cell X2.out 0 _ rfl
              have x1 := block_cell X2.out 1 _ rfl
              have x2 := block_cell X2.out 2 _ rfl
              have x3 := block_cell X2.out 3 _ rfl
              have x4 := block_cell X2.out 4 _ rfl
              have x5 := block_cell X2.out 5 _ rfl
              have x6 := block_cell X2.out 6 _ rfl
              have u3 := block_cell M2.out.j.a 3 _ rfl
              obtain ⟨q, hq⟩ : ∃ q : Bool, decide (0 < k ∨ ss.length = 0 ∨ sv < xt + D) = q := ⟨_, rfl⟩
              have HQ := Lib.hid hq
              go_cut [72] (fun s72 wx => s72 = .bool q ∧ V2 = wx)
              case first =>
                clear hq
                by_cases e1 : 0 < k
                · have g1 : decide ((0 : Int) < (k : Int)) = true := decide_eq_true (by omega)
                  have g2 : (0 : Int) < (k : Int) := by omega
                  go_wp2_with fail
                  go_meet
                  exact ⟨by rw [← HQ.out, decide_eq_true (Or.inl e1)], by first | rfl | trivial⟩
                · obtain rfl : k = 0 := by omega
                  by_cases e2 : ss.length = 0
                  · have g2 : ((ss.length : Int) == 0) = true := beq_iff_eq.2 (by omega)
                    have HE := Lib.hid e2
                    clear e2 e1
                    go_wp2_with fail
                    go_meet
                    exact ⟨by rw [← HQ.out, decide_eq_true (Or.inr (Or.inl HE.out))], by first | rfl | trivial⟩
                  · have g2 : ((ss.length : Int) == 0) = false := beq_eq_false_iff_ne.2 (by omega)
                    have HE := Lib.hid e2
                    clear e2 e1
                    by_cases e3 : sv < xt + D
                    · have g3 : decide (sv < xt + D) = true := decide_eq_true e3
                      go_wp2_with fail
                      go_meet
                      exact ⟨by rw [← HQ.out, decide_eq_true (Or.inr (Or.inr e3))], by first | rfl | trivial⟩
                    · have g3 : decide (sv < xt + D) = false := decide_eq_false e3
                      go_wp2_with fail
                      go_meet
                      exact ⟨by rw [← HQ.out, decide_eq_false (fun h => h.elim (fun h => absurd h (by omega)) fun h => h.elim (fun h => HE.out h) fun h => absurd h (by omega))], by first | rfl | trivial⟩
              case rest =>
                obtain ⟨rfl, rfl⟩ := hcut
                clear hq u3
                cases q
                · have HN : Hid (L = ss ++ jK ss D ss2 (k + 1)) := by show _ = _; rw [HOUT.out (of_decide_eq_false HQ.out)]; exact hLe.out
                  go_wp2_with fail
                  go_roundw
                  case rel => exact ⟨k + 1, al, cl, L, by go_num, HLT.out, HN, M2, O2, Y2⟩
                  case measure => have := HLT.out; simp [intOf]; omega
                · have HN : Hid (L ++ [(⟨xt + D, xx, xy, xz, xp, xq, xs⟩ : Smp)] = ss ++ jK ss D ss2 (k + 1)) := by show _ = _; rw [HIN.out (of_decide_eq_true HQ.out), hLe.out, List.append_assoc]; rfl
                  have k3 := block_cell M2.out.k 3 _ rfl
                  go_wp2_with (at_builtin; go_loud (refine wpList_append_own _ rfl _ _ 22 rfl (w.heap.size + 3) 28 i0 (.agg #[.int .i64 0, .int .i64 0, .int .i64 0, .int .i64 0, .int .i64 0, .int .i64 0, .int .i64 0]) 7 56 Try.underlying22 HI0.out HZ0.out HZ1.out HZ2.out rfl (by decide) _ _ _ rfl (O2.out.alloc _) ⟨V2.heap.size, 0, none⟩ 1 1 [.int .i64 (xt + D), .int .i64 xx, .int .i64 xy, .int .i64 xz, .int .i64 xp, .int .i64 xq, .int .i64 xs] rfl rfl (World.news_of_block (cs := #[.int .i64 (xt + D), .int .i64 xx, .int .i64 xy, .int .i64 xz, .int .i64 xp, .int .i64 xq, .int .i64 xs]) (t := 28) (fr := (0, 0)) (heap_alloc_new V2 _)) (by simp [Value.oneCell']) (by have := HLl.out; unfold maxLen; omega) (by have := HLl.out; omega) (Nat.le_trans (Nat.le_trans KX.out.2 (Nat.le_of_lt (lt_of_block X2.out))) (World.grownBy_alloc _ _ none).size) ?_); intro v' w10 ho10 hg10 hnil; obtain ⟨gg, cap2, rfl, hgb, _⟩ := ho10.form (by omega); have gA := World.grownBy_alloc V2 (.cells #[.int .i64 (xt + D), .int .i64 xx, .int .i64 xy, .int .i64 xz, .int .i64 xp, .int .i64 xq, .int .i64 xs] 28) none; have M3 := Lib.hid ((M2.out.grown gA).kept hg10 (fun r hr => ⟨(O2.out.lt r hr).1, own_blk_ne O2.out M2.out.k (by decide) r hr⟩)); have O3 := Lib.hid ho10; have Y3 := Lib.hid (own_keptO (own_kept Y2.out gA) hg10 (blk_ne (rows_apart Y2.out O2.out (by decide)))); have kf3 := block_free (k := 3) M3.out.k; have k3' := block_cell M3.out.k 3 _ rfl; clear ho10 hg10 hnil gA M2 O2 Y2 X2 k3)
                  have M4 : Hid (RjB w #[.string nm, .int .i64 sp, .int .i64 st, .slice so ss.length sc, .slice lo ls.length lc, .slice to_ ts.length tc] #[.string nm2, .int .i64 sp, .int .i64 st2, .slice (some ⟨b, off, none⟩) ss2.length sc2, .slice lo2 ls2.length lc2, .slice to2 ts2.length tc2] #[.string ⟨#[]⟩, .int .i64 0, .int .i64 0, .slice none 0 0, .slice none 0 0, .slice none 0 0] K #[.string nm, .int .i64 sp, .int .i64 st, .slice (some ⟨gg, 0, none⟩) (L.length + 1) cap2, .slice a2 ls.length c2, .slice a3 ts.length c3] (w10.setCell ⟨K, 3, none⟩ (.slice (some ⟨gg, 0, none⟩) (L.length + 1) cap2))) := M3.out.setK 3 _
                  have O4 := Lib.hid (own_out O3.out (P := K) (own_blk_ne O3.out M3.out.k (by decide)) 3 (.slice (some ⟨gg, 0, none⟩) (L.length + 1) cap2))
                  have Y4 := Lib.hid (own_out Y3.out (P := K) (own_blk_ne Y3.out M3.out.k (by decide)) 3 (.slice (some ⟨gg, 0, none⟩) (L.length + 1) cap2))
                  go_roundw
                  case rel => exact ⟨k + 1, some ⟨gg, 0, none⟩, cap2, L ++ [⟨xt + D, xx, xy, xz, xp, xq, xs⟩], by go_num, HLT.out, HN, by have q := M4; rw [List.length_append]; exact q, by have q := O4; rw [List.length_append, smpRw_snoc]; exact q, Y4⟩
                  case measure => have := HLT.out; simp [intOf]; omega
            · obtain rfl : k = ss2.length := by omega
              have HLs : Hid (L = ss ++ jS ss D ss2) := hLe
              clear hLe hlt2 hk
              have b4 := block_cell hM.out.j.b 4 _ rfl
              have LBD : Hid (∀ x ∈ ls2, 0 ≤ x.fr ∧ x.to_ ≤ 1000000 ∧ x.fr ≤ 1000000 ∧ 0 ≤ x.to_) := fun x hx => by
                have q := laps_in_bd ls2 0 HOK2.out.laps x hx
                have q2 : x.to_ ≤ spanL ss2 := q.2.2
                have q3 : spanL ss2 ≤ 1000000 := (span_bd2 (sok_of HOK2.out)).2
                omega
              go_wp2_with fail
              go_loopw [83] (fun iv wr => ∃ (k : Nat) (al2 : Option Addr) (cl2 : Nat) (Q : List LapV), iv = .int .i64 k ∧ k ≤ ls2.length ∧ Hid (Q = ls ++ (ls2.take k).map (lapMv D)) ∧ Hid (RjB w #[.string nm, .int .i64 sp, .int .i64 st, .slice so ss.length sc, .slice lo ls.length lc, .slice to_ ts.length tc] #[.string nm2, .int .i64 sp, .int .i64 st2, .slice so2 ss2.length sc2, .slice lo2 ls2.length lc2, .slice to2 ts2.length tc2] #[.string ⟨#[]⟩, .int .i64 0, .int .i64 0, .slice none 0 0, .slice none 0 0, .slice none 0 0] K #[.string nm, .int .i64 sp, .int .i64 st, .slice al L.length cl, .slice al2 Q.length cl2, .slice a3 ts.length c3] wr) ∧ Hid (World.ownsRow wr (w.heap.size + 3) 77 3 (.slice al2 Q.length cl2) Q.length (lapRw Q)) ∧ Hid (World.ownsRow wr (w.heap.size + 3) 28 7 (.slice al L.length cl) L.length (smpRw L)))
                (fun iv _ => ls2.length - (intOf iv).toNat)
              case atStart => exact ⟨0, a2, c2, ls, rfl, Nat.zero_le _, by show _ = _; simp, hM, hY, hO⟩
              case round =>
                clear hM hY hO b4
                obtain ⟨k, al2, cl2, Q, rfl, hk, hQe, hM, hY, hO⟩ := hrel
                by_cases hlt2 : k < ls2.length
                · obtain ⟨b, off, rfl, hcl⟩ := lapsS_at (HB.out.hl.grown hM.out.j.g) (by show 0 < ls2.length; omega)
                  obtain ⟨s0, s1', s2'⟩ := hcl k hlt2
                  have hx := LBD.out ls2[k] (List.getElem_mem hlt2)
                  have HN0 : Hid (Q ++ [lapMv D ls2[k]] = ls ++ (ls2.take (k + 1)).map (lapMv D)) := by show _ = _; rw [hQe.out, List.append_assoc, List.take_succ_eq_append_getElem hlt2, List.map_append]; rfl
                  have HQl : Hid (Q.length ≤ 400) := by
                    have q := List.length_take_le k ls2
                    show _ ≤ _; rw [hQe.out, List.length_append, List.length_map]; omega
                  generalize ls2[k] = x at *
                  obtain ⟨fr, to3, nml⟩ := x
                  simp only at s0 s1' s2' hx
                  have hx1 := hx.1; have hx2 := hx.2.1; have hx3 := hx.2.2.1; have hx4 := hx.2.2.2
                  have r5 : IntKind.i64.wrap (fr + D) = fr + D := IntWalk.i64_in _ (by omega)
                  have r6 : IntKind.i64.wrap (to3 + D) = to3 + D := IntWalk.i64_in _ (by omega)
                  have HLT := Lib.hid hlt2
                  clear hcl hx
                  go_upto_region 24 with (fail)
                  obtain ⟨X, hX⟩ : ∃ X, wr.heap.size = X := ⟨_, rfl⟩
                  have gX := World.grownBy_alloc wr (.cells #[.int .i64 fr, .int .i64 to3, .string nml] 77) none
                  have KX : Hid (K < X ∧ w.heap.size + 3 ≤ X) := by have q1 := lt_of_block hM.out.k; have q2 := hM.out.lt; show _ ∧ _; omega
                  have M1 := Lib.hid (hM.out.grown gX)
                  have O1 := Lib.hid (own_kept hO.out gX); have Y1 := Lib.hid (own_kept hY.out gX)
                  have X1 : Hid ((wr.alloc (.cells #[.int .i64 fr, .int .i64 to3, .string nml] 77)).heap[X]? = some (.cells #[.int .i64 fr, .int .i64 to3, .string nml] 77 (0, 0))) := by rw [← hX]; exact heap_alloc_new wr _
                  rw [hX]
                  clear hX gX hM hO hY s0 s1' s2'
                  generalize wr.alloc (.cells #[.int .i64 fr, .int .i64 to3, .string nml] 77) = V1 at *
                  have x0 := block_cell X1.out 0 _ rfl
                  have x1 := block_cell X1.out 1 _ rfl
                  have x2 := block_cell X1.out 2 _ rfl
                  have k4 := block_cell M1.out.k 4 _ rfl
                  go_wp2_with (at_builtin; go_loud (refine wpList_append_own _ rfl _ _ 23 rfl (w.heap.size + 3) 77 j0 (.agg #[.int .i64 0, .int .i64 0, .string ⟨#[]⟩]) 3 32 Try.underlying23 HJ0.out HY0.out HY1.out HY2.out rfl (by decide) _ _ _ rfl (Y1.out.alloc _) ⟨V1.heap.size, 0, none⟩ 1 1 [.int .i64 (fr + D), .int .i64 (to3 + D), .string nml] rfl rfl (World.news_of_block (cs := #[.int .i64 (fr + D), .int .i64 (to3 + D), .string nml]) (t := 77) (fr := (0, 0)) (heap_alloc_new V1 _)) (by simp [Value.oneCell']) (by have := HQl.out; unfold maxLen; omega) (by have := HQl.out; omega) (Nat.le_trans (Nat.le_trans KX.out.2 (Nat.le_of_lt (lt_of_block X1.out))) (World.grownBy_alloc _ _ none).size) ?_); intro v' w10 ho10 hg10 hnil; obtain ⟨gg, cap2, rfl, hgb, _⟩ := ho10.form (by omega); have gA := World.grownBy_alloc V1 (.cells #[.int .i64 (fr + D), .int .i64 (to3 + D), .string nml] 77) none; have M3 := Lib.hid ((M1.out.grown gA).kept hg10 (fun r hr => ⟨(Y1.out.lt r hr).1, own_blk_ne Y1.out M1.out.k (by decide) r hr⟩)); have Y3 := Lib.hid ho10; have O3 := Lib.hid (own_keptO (own_kept O1.out gA) hg10 (blk_ne (rows_apart O1.out Y1.out (by decide)))); have kf4 := block_free (k := 4) M3.out.k; have k4' := block_cell M3.out.k 4 _ rfl; clear ho10 hg10 hnil gA M1 O1 Y1 X1 k4)
                  have M4 : Hid (RjB w #[.string nm, .int .i64 sp, .int .i64 st, .slice so ss.length sc, .slice lo ls.length lc, .slice to_ ts.length tc] #[.string nm2, .int .i64 sp, .int .i64 st2, .slice so2 ss2.length sc2, .slice (some ⟨b, off, none⟩) ls2.length lc2, .slice to2 ts2.length tc2] #[.string ⟨#[]⟩, .int .i64 0, .int .i64 0, .slice none 0 0, .slice none 0 0, .slice none 0 0] K #[.string nm, .int .i64 sp, .int .i64 st, .slice al L.length cl, .slice (some ⟨gg, 0, none⟩) (Q.length + 1) cap2, .slice a3 ts.length c3] (w10.setCell ⟨K, 4, none⟩ (.slice (some ⟨gg, 0, none⟩) (Q.length + 1) cap2))) := M3.out.setK 4 _
                  have O4 := Lib.hid (own_out O3.out (P := K) (own_blk_ne O3.out M3.out.k (by decide)) 4 (.slice (some ⟨gg, 0, none⟩) (Q.length + 1) cap2))
                  have Y4 := Lib.hid (own_out Y3.out (P := K) (own_blk_ne Y3.out M3.out.k (by decide)) 4 (.slice (some ⟨gg, 0, none⟩) (Q.length + 1) cap2))
                  go_roundw
                  case rel => exact ⟨k + 1, some ⟨gg, 0, none⟩, cap2, Q ++ [⟨fr + D, to3 + D, nml⟩], by go_num, HLT.out, HN0, by have q := M4; rw [List.length_append]; exact q, by have q := Y4; rw [List.length_append, lapRw_snoc]; exact q, O4⟩
                  case measure => have := HLT.out; simp [intOf]; omega
                · obtain rfl : k = ls2.length := by omega
                  have HQs : Hid (Q = ls ++ ls2.map (lapMv D)) := by show _ = _; rw [hQe.out, List.take_length]
                  clear hQe hlt2 hk
                  have TSJ : Hid (∀ i (h : i < (tagsJ ts ts2).length), (tagsJ ts ts2)[i].size ≤ 140737488355328) := tags_app HA.out.ht.sizes HB.out.ht.sizes (fun x hx => tagsJ_mem hx)
                  go_upto_region 26 with (fail)
                  go_cut [] (fun wx => ∃ (x3 : Option Addr) (k3 : Nat), Hid (RjB w #[.string nm, .int .i64 sp, .int .i64 st, .slice so ss.length sc, .slice lo ls.length lc, .slice to_ ts.length tc] #[.string nm2, .int .i64 sp, .int .i64 st2, .slice so2 ss2.length sc2, .slice lo2 ls2.length lc2, .slice to2 ts2.length tc2] #[.string ⟨#[]⟩, .int .i64 0, .int .i64 0, .slice none 0 0, .slice none 0 0, .slice none 0 0] K #[.string nm, .int .i64 sp, .int .i64 st, .slice al L.length cl, .slice al2 Q.length cl2, .slice x3 (tagsJ ts ts2).length k3] wx) ∧ Hid (World.ownsRow wx (w.heap.size + 3) 28 7 (.slice al L.length cl) L.length (smpRw L)) ∧ Hid (World.ownsRow wx (w.heap.size + 3) 77 3 (.slice al2 Q.length cl2) Q.length (lapRw Q)) ∧ Hid (World.ownsRow wx (w.heap.size + 3) 9 1 (.slice x3 (tagsJ ts ts2).length k3) (tagsJ ts ts2).length (tagRw (tagsJ ts ts2))))
                  case first =>
                    have u5 := block_cell hM.out.j.a 5 _ rfl
                    have b5 := block_cell hM.out.j.b 5 _ rfl
                    go_wp2_with fail
                    refine (rtags_is to_ to2 tc tc2 ts ts2 (by omega) (by omega) HTA.out HTB.out _ (HA.out.ht.grown hM.out.j.g) (HB.out.ht.grown hM.out.j.g)).mono ?_; rintro e w7 ⟨⟨v7, rfl, ho7⟩, hg7⟩
                    obtain ⟨x3, k3, rfl, _, _⟩ := own_tags ho7 TSJ.out
                    have sz7 : w.heap.size + 3 ≤ wr.heap.size := by have q1 := lt_of_block hM.out.k; have q2 := hM.out.lt; omega
                    have M7 := Lib.hid (hM.out.grown hg7)
                    have OX := Lib.hid (own_kept hO.out hg7); have OY := Lib.hid (own_kept hY.out hg7)
                    have OZ := Lib.hid (own_mono ho7 sz7)
                    clear ho7 hg7 sz7 hM hO hY u5 b5
                    have k5 := block_cell M7.out.k 5 _ rfl
                    have kf5 := block_free (k := 5) M7.out.k
                    have M8 : Hid (RjB w #[.string nm, .int .i64 sp, .int .i64 st, .slice so ss.length sc, .slice lo ls.length lc, .slice to_ ts.length tc] #[.string nm2, .int .i64 sp, .int .i64 st2, .slice so2 ss2.length sc2, .slice lo2 ls2.length lc2, .slice to2 ts2.length tc2] #[.string ⟨#[]⟩, .int .i64 0, .int .i64 0, .slice none 0 0, .slice none 0 0, .slice none 0 0] K #[.string nm, .int .i64 sp, .int .i64 st, .slice al L.length cl, .slice al2 Q.length cl2, .slice x3 (tagsJ ts ts2).length k3] (w7.setCell ⟨K, 5, none⟩ (.slice x3 (tagsJ ts ts2).length k3))) := M7.out.setK 5 _
                    have NX := Lib.hid (own_blk_ne OX.out M7.out.k (by decide)); have NY := Lib.hid (own_blk_ne OY.out M7.out.k (by decide)); have NZ := Lib.hid (own_blk_ne OZ.out M7.out.k (by decide))
                    replace OX := Lib.hid (own_out OX.out (P := K) NX.out 5 (.slice x3 (tagsJ ts ts2).length k3))
                    replace OY := Lib.hid (own_out OY.out (P := K) NY.out 5 (.slice x3 (tagsJ ts ts2).length k3))
                    replace OZ := Lib.hid (own_out OZ.out (P := K) NZ.out 5 (.slice x3 (tagsJ ts ts2).length k3))
                    go_wp2_with fail
                    go_meet
                    exact ⟨x3, k3, M8, OX, OY, OZ⟩
                  case rest =>
                    obtain ⟨x3, k3, M8, OX, OY, OZ⟩ := hcut
                    have X3 : Hid (∀ p, x3 = some p → w.heap.size + 3 ≤ p.block) := fun p e => (OZ.out.lt p.block (by rw [e]; rfl)).1
                    clear hM hO hY
                    obtain ⟨p, hp⟩ : ∃ p, joinV ⟨nm, sp, st, so, sc, ss, lo, lc, ls, to_, tc, ts⟩ ⟨nm2, sp, st2, so2, sc2, ss2, lo2, lc2, ls2, to2, tc2, ts2⟩ = p := ⟨_, rfl⟩
                    have HP : Hid (p = ⟨nm, sp, st, so, sc, L, lo, lc, Q, to_, tc, tagsJ ts ts2⟩) := by show _ = _; rw [← hp, HLs.out, HQs.out, ← HD.out]; rfl
                    have hv := HV.out
                    rw [hp] at hv
                    unfold okV at hv
                    simp only [Prod.mk.injEq] at hv
                    obtain ⟨hc1, hc2⟩ := hv
                    have HCC : Hid ((if E = 0 then p else act0) = c) := by show _ = _; rw [← hc1, hc2]
                    have HEP : Hid (chkE p = E) := hc2
                    have HSZ : Hid (¬ ((L.length : Int) ≤ 20000 ∧ (Q.length : Int) ≤ 200 ∧ ((tagsJ ts ts2).length : Int) ≤ 20) → E = 3) := fun h => by
                      rw [← HEP.out, ← hp]
                      refine join_size HOK.out ?_
                      rw [hp, HP.out]
                      exact h
                    have ln1 : Hid ((L.length : Int) ≤ 100000) := by show _ ≤ _; rw [HLs.out, List.length_append]; have := jS_len ss D ss2; omega
                    have ln2 : Hid ((Q.length : Int) ≤ 100000) := by show _ ≤ _; rw [HQs.out, List.length_append, List.length_map]; omega
                    have ln3 : Hid (((tagsJ ts ts2).length : Int) ≤ 100000) := by show _ ≤ _; have := tagsJ_len ts ts2; omega
                    clear hp hc1 hc2
                    have kc3 := block_cell M8.out.k 3 _ rfl
                    have kc4 := block_cell M8.out.k 4 _ rfl
                    have kc5 := block_cell M8.out.k 5 _ rfl
                    by_cases w1 : (L.length : Int) ≤ 20000
                    · have y1 : decide ((20000 : Int) < (L.length : Int)) = false := decide_eq_false (by omega)
                      by_cases w2 : (Q.length : Int) ≤ 200
                      · have y2 : decide ((200 : Int) < (Q.length : Int)) = false := decide_eq_false (by omega)
                        by_cases w3 : ((tagsJ ts ts2).length : Int) ≤ 20
                        · have y3 : decide ((20 : Int) < ((tagsJ ts ts2).length : Int)) = false := decide_eq_false (by omega)
                          have HE2 : Hid (chkE ⟨nm, sp, st, al, cl, L, al2, cl2, Q, x3, k3, tagsJ ts ts2⟩ = E) := by show _ = _; rw [← HEP.out]; exact chk_only (by rw [HP.out])
                          have XF : Hid ((∀ q, al = some q → w.heap.size + 3 ≤ q.block) ∧ (∀ q, al2 = some q → w.heap.size + 3 ≤ q.block)) := by
                            refine ⟨fun q e => ?_, fun q e => ?_⟩
                            · exact (OX.out.lt q.block (by rw [e]; rfl)).1
                            · exact (OY.out.lt q.block (by rw [e]; rfl)).1
                          have hat : ActAt wc ⟨nm, sp, st, al, cl, L, al2, cl2, Q, x3, k3, tagsJ ts ts2⟩ := by
                            obtain ⟨ao, cp, hv1, hs, _⟩ := own_smps OX.out
                            injection hv1 with e1 _ _; subst e1
                            obtain ⟨ao, cp, hv1, hl, _⟩ := own_lapsR OY.out (by rw [HQs.out]; exact laps_app HA.out.hl.sizes (lapMv_name HB.out.hl.sizes))
                            injection hv1 with e1 _ _; subst e1
                            obtain ⟨ao, cp, hv1, ht, _⟩ := own_tags OZ.out TSJ.out
                            injection hv1 with e1 _ _; subst e1
                            exact ⟨HA.out.ns, by show (L.length : Int) ≤ _; omega, by show (Q.length : Int) ≤ _; omega, by show ((tagsJ ts ts2).length : Int) ≤ _; omega, hs, hl, ht⟩
                          have HAT := Lib.hid hat
                          clear hat OX OY OZ kc3 kc4 kc5 HSZ
                          have kc0 := block_cell M8.out.k 0 _ rfl
                          have kc1 := block_cell M8.out.k 1 _ rfl
                          have kc2 := block_cell M8.out.k 2 _ rfl
                          have kc3 := block_cell M8.out.k 3 _ rfl
                          have kc4 := block_cell M8.out.k 4 _ rfl
                          have kc5 := block_cell M8.out.k 5 _ rfl
                          go_wp2_with fail
                          refine (rchecked_any ⟨nm, sp, st, al, cl, L, al2, cl2, Q, x3, k3, tagsJ ts ts2⟩ _ HAT.out (N := w.heap.size + 3) ⟨XF.out.1, XF.out.2, X3.out⟩ HE2).mono ?_; rintro e w14 ⟨⟨v, rfl, hnew⟩, hg14⟩
                          have HNW : Hid (ActNew (w.heap.size + 3) w14 v c) := by
                            have q := ActNew.same (p := ⟨nm, sp, st, al, cl, L, al2, cl2, Q, x3, k3, tagsJ ts ts2⟩) (q := p) hnew (fun _ => by rw [HP.out])
                            rw [HCC.out] at q; exact q
                          have M12 := Lib.hid (M8.out.j.grown hg14)
                          clear hnew hg14 M8 kc0 kc1 kc2 kc3 kc4 kc5
                          obtain ⟨so9, sc9, lo9, lc9, to9, tc9, rfl, ha9, hf9⟩ := HNW.out
                          have HA9 := Lib.hid ha9; have HF9 := Lib.hid hf9
                          clear ha9 hf9 HNW
                          have z0 := block_cell M12.out.z 0 _ rfl
                          have zf0 := block_free (k := 0) M12.out.z
                          have z1 := block_cell M12.out.z 1 _ rfl
                          have zf1 := block_free (k := 1) M12.out.z
                          have z2 := block_cell M12.out.z 2 _ rfl
                          have zf2 := block_free (k := 2) M12.out.z
                          have z3 := block_cell M12.out.z 3 _ rfl
                          have zf3 := block_free (k := 3) M12.out.z
                          have z4 := block_cell M12.out.z 4 _ rfl
                          have zf4 := block_free (k := 4) M12.out.z
                          have z5 := block_cell M12.out.z 5 _ rfl
                          have zf5 := block_free (k := 5) M12.out.z
                          go_wp2_with fail
                          refine bodyPost_ret (v := .tuple #[.agg #[.string c.name, .int .i64 c.sport, .int .i64 c.start, .slice so9 c.ss.length sc9, .slice lo9 c.ls.length lc9, .slice to9 c.ts.length tc9], .int .i64 E]) (by simp [results, Try.results33, go_sem, z0, z1, z2, z3, z4, z5]) rfl ⟨⟨_, rfl, so9, sc9, lo9, lc9, to9, tc9, rfl, ?_⟩, ((((((M12.out.setZ 0 _).setZ 1 _).setZ 2 _).setZ 3 _).setZ 4 _).setZ 5 _).g⟩
                          exact HA9.out.far HF9.out fun p hp => by
                            iterate 6 rw [World.cell?_setCell_other _ _ _ _ (fun e => by subst e; exact absurd hp (by show ¬ w.heap.size + 3 ≤ w.heap.size + 2; omega))]
                        · have y3 : decide ((20 : Int) < ((tagsJ ts ts2).length : Int)) = true := decide_eq_true (by omega)
                          have he := HSZ.out (by omega)
                          have HC3 : Hid (c = act0) := by show _ = _; rw [← HCC.out, if_neg (by rw [he]; decide)]
                          clear HCC HSZ HP HV
                          have hc3 := HC3.out
                          subst he
                          subst hc3
                          clear HC3
                          have z0 := block_cell M8.out.j.z 0 _ rfl
                          have zf0 := block_free (k := 0) M8.out.j.z
                          have z1 := block_cell M8.out.j.z 1 _ rfl
                          have zf1 := block_free (k := 1) M8.out.j.z
                          have z2 := block_cell M8.out.j.z 2 _ rfl
                          have zf2 := block_free (k := 2) M8.out.j.z
                          have z3 := block_cell M8.out.j.z 3 _ rfl
                          have zf3 := block_free (k := 3) M8.out.j.z
                          have z4 := block_cell M8.out.j.z 4 _ rfl
                          have zf4 := block_free (k := 4) M8.out.j.z
                          have z5 := block_cell M8.out.j.z 5 _ rfl
                          have zf5 := block_free (k := 5) M8.out.j.z
                          go_wp2_with fail
                          refine bodyPost_ret (v := .tuple #[.agg #[.string ⟨#[]⟩, .int .i64 0, .int .i64 0, .slice none 0 0, .slice none 0 0, .slice none 0 0], .int .i64 3]) (by simp [results, Try.results33, go_sem, z0, z1, z2, z3, z4, z5]) rfl ⟨⟨_, rfl, act0_is _⟩, ((((((M8.out.j.setZ 0 _).setZ 1 _).setZ 2 _).setZ 3 _).setZ 4 _).setZ 5 _).g⟩
                      · have y2 : decide ((200 : Int) < (Q.length : Int)) = true := decide_eq_true (by omega)
                        have he := HSZ.out (by omega)
                        have HC3 : Hid (c = act0) := by show _ = _; rw [← HCC.out, if_neg (by rw [he]; decide)]
                        clear HCC HSZ HP HV
                        have hc3 := HC3.out
                        subst he
                        subst hc3
                        clear HC3
                        have z0 := block_cell M8.out.j.z 0 _ rfl
                        have zf0 := block_free (k := 0) M8.out.j.z
                        have z1 := block_cell M8.out.j.z 1 _ rfl
                        have zf1 := block_free (k := 1) M8.out.j.z
                        have z2 := block_cell M8.out.j.z 2 _ rfl
                        have zf2 := block_free (k := 2) M8.out.j.z
                        have z3 := block_cell M8.out.j.z 3 _ rfl
                        have zf3 := block_free (k := 3) M8.out.j.z
                        have z4 := block_cell M8.out.j.z 4 _ rfl
                        have zf4 := block_free (k := 4) M8.out.j.z
                        have z5 := block_cell M8.out.j.z 5 _ rfl
                        have zf5 := block_free (k := 5) M8.out.j.z
                        go_wp2_with fail
                        refine bodyPost_ret (v := .tuple #[.agg #[.string ⟨#[]⟩, .int .i64 0, .int .i64 0, .slice none 0 0, .slice none 0 0, .slice none 0 0], .int .i64 3]) (by simp [results, Try.results33, go_sem, z0, z1, z2, z3, z4, z5]) rfl ⟨⟨_, rfl, act0_is _⟩, ((((((M8.out.j.setZ 0 _).setZ 1 _).setZ 2 _).setZ 3 _).setZ 4 _).setZ 5 _).g⟩
                    · have y1 : decide ((20000 : Int) < (L.length : Int)) = true := decide_eq_true (by omega)
                      have he := HSZ.out (by omega)
                      have HC3 : Hid (c = act0) := by show _ = _; rw [← HCC.out, if_neg (by rw [he]; decide)]
                      clear HCC HSZ HP HV
                      have hc3 := HC3.out
                      subst he
                      subst hc3
                      clear HC3
                      have z0 := block_cell M8.out.j.z 0 _ rfl
                      have zf0 := block_free (k := 0) M8.out.j.z
                      have z1 := block_cell M8.out.j.z 1 _ rfl
                      have zf1 := block_free (k := 1) M8.out.j.z
                      have z2 := block_cell M8.out.j.z 2 _ rfl
                      have zf2 := block_free (k := 2) M8.out.j.z
                      have z3 := block_cell M8.out.j.z 3 _ rfl
                      have zf3 := block_free (k := 3) M8.out.j.z
                      have z4 := block_cell M8.out.j.z 4 _ rfl
                      have zf4 := block_free (k := 4) M8.out.j.z
                      have z5 := block_cell M8.out.j.z 5 _ rfl
                      have zf5 := block_free (k := 5) M8.out.j.z
                      go_wp2_with fail
                      refine bodyPost_ret (v := .tuple #[.agg #[.string ⟨#[]⟩, .int .i64 0, .int .i64 0, .slice none 0 0, .slice none 0 0, .slice none 0 0], .int .i64 3]) (by simp [results, Try.results33, go_sem, z0, z1, z2, z3, z4, z5]) rfl ⟨⟨_, rfl, act0_is _⟩, ((((((M8.out.j.setZ 0 _).setZ 1 _).setZ 2 _).setZ 3 _).setZ 4 _).setZ 5 _).g⟩
        · have hlt : decide (D < sv) = true := decide_eq_true (by omega)
          have hv := HV.out
          rw [if_neg d4] at hv
          simp only [Prod.mk.injEq] at hv
          obtain ⟨rfl, rfl⟩ := hv
          have z0 := block_cell M3.out.z 0 _ rfl
          have zf0 := block_free (k := 0) M3.out.z
          have z1 := block_cell M3.out.z 1 _ rfl
          have zf1 := block_free (k := 1) M3.out.z
          have z2 := block_cell M3.out.z 2 _ rfl
          have zf2 := block_free (k := 2) M3.out.z
          have z3 := block_cell M3.out.z 3 _ rfl
          have zf3 := block_free (k := 3) M3.out.z
          have z4 := block_cell M3.out.z 4 _ rfl
          have zf4 := block_free (k := 4) M3.out.z
          have z5 := block_cell M3.out.z 5 _ rfl
          have zf5 := block_free (k := 5) M3.out.z
          go_wp2_with fail
          refine bodyPost_ret (v := .tuple #[.agg #[.string ⟨#[]⟩, .int .i64 0, .int .i64 0, .slice none 0 0, .slice none 0 0, .slice none 0 0], .int .i64 11]) (by simp [results, Try.results33, go_sem, z0, z1, z2, z3, z4, z5]) rfl ⟨⟨_, rfl, act0_is _⟩, ((((((M3.out.setZ 0 _).setZ 1 _).setZ 2 _).setZ 3 _).setZ 4 _).setZ 5 _).g⟩
      · rw [if_neg d3] at hv
        simp only [Prod.mk.injEq] at hv
        obtain ⟨rfl, rfl⟩ := hv
        exact rJoin_e3 _ _ w HA.out HB.out HCE HCF (by simpa using d3)
    · rw [if_neg d2] at hv
      simp only [Prod.mk.injEq] at hv
      obtain ⟨rfl, rfl⟩ := hv
      exact rJoin_e2 _ _ w HA.out HB.out HCE HCF (by simpa using d2)
  · rw [if_neg d1] at hv
    simp only [Prod.mk.injEq] at hv
    obtain ⟨rfl, rfl⟩ := hv
    exact rJoin_e1 _ _ w HA.out HB.out HCE (by simpa using d1)
end Go.Proofs.Ytgkhhfojioepgaa


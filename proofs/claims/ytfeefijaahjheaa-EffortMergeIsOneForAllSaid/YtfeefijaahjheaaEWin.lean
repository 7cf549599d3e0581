/- The iterator over windows: its contract. -/
import Derived.Test.YtfeefijaahjheaaEChk
import Derived.Deep.OwnRows
import Derived.OwnWalk
import Derived.Test.YtfeefijaahjheaaEWinP
import Derived.RangeFuncNested
import Derived.RangeFuncBound
import Derived.RangeFuncCalls
import Derived.RangeFuncLeaves
import Derived.RangeFuncBox
import Derived.Shelf.Abstract
import Derived.Shelf.RegionOpen
import Derived.OwnWalkIn
import Derived.TacticsInMore
import Derived.LoopNIn
import Derived.LoopIn
namespace Go.Proofs.Ytfeefijaahjheaa
open Go.RowKit Go.Shelf
set_option linter.unusedSimpArgs false
set_option linter.unusedVariables false

attribute [local go_sem] Oper.semAt_some

/-- What a round keeps that goes on: what lay below n, and two blocks. -/
def KpE (n b c : Nat) (W W' : World) : Prop := Below n W W' ∧ W'.heap[b]? = W.heap[b]? ∧ W'.heap[c]? = W.heap[c]?
theorem kpE_t {n b c : Nat} {A B C : World} (h : KpE n b c A B) (k : KpE n b c B C) : KpE n b c A C := ⟨h.1.trans k.1, k.2.1.trans h.2.1, k.2.2.trans h.2.2⟩

theorem windows_any (ao : Option Addr) (len cap : Nat) (sz : Int) (w : World) :
    Calls Try.prog 55 #[.slice ao len cap, .int .i64 sz] w fun e w' => e = .returned (.func (.func 81) #[] #[.pointer (some ⟨w.heap.size, 0, none⟩), .pointer (some ⟨w.heap.size + 1, 0, none⟩)]) ∧ w' = (w.alloc (.cells #[.slice ao len cap] 22)).alloc (.cells #[.int .i64 sz] 3) := by
  have hmf : ∀ (fn : Fn) (first cap : Array Value) (w : World), (Instr.makeFunc fn first cap).run Try.prog w = .ok (.func fn first cap) w := fun _ _ _ _ => rfl
  go_enter Try.func55, Try.ntmps55
  go_wp2
  go_ret
  exact ⟨by simp, rfl⟩

set_option maxRecDepth 100000 in
set_option maxHeartbeats 4000000 in
theorem windows1_in (n : Nat) (hn : 1 ≤ n) (l Bl Bs n₀ : Nat) (ao : Option Addr) (cap : Nat) (ls : List Int) (hl : (ls.length : Int) ≤ 1000000) (hv : ∀ k, k < ls.length → -1 ≤ nthI ls k ∧ nthI ls k ≤ 1000000000) (hb : ∀ a, ao = some a → ls ≠ [] → a.block < n₀) (sz : Nat) (h1 : 1 ≤ sz) (h2 : sz ≤ 1000000) (J Jx : List (WinNo ls sz) → World → Prop)
    (hJ : ∀ pre W m, J pre W → J pre (W.drewN m))
    (hY : ∀ pre (x : WinNo ls sz) W, J pre W → pre.length < ls.length → YieldAt Fence.wide (n - 1) Try.prog l #[.int .i64 x.1.1, .int .i64 x.1.2] W fun e W' =>
      (e = .returned (.bool true) ∧ J (pre ++ [x]) W' ∧ KpE n₀ Bl Bs W W') ∨ (e = .returned (.bool false) ∧ Jx (pre ++ [x]) W'))
    (W : World) (hBl : W.cell? ⟨Bl, 0, none⟩ = some (.slice ao ls.length cap)) (hBs : W.cell? ⟨Bs, 0, none⟩ = some (.int .i64 sz)) (hs : IntsAt W ao ls) (h0 : J [] W) :
    CallsIn Fence.wide n Try.prog 81 #[.func (.yield l) #[] #[], .pointer (some ⟨Bl, 0, none⟩), .pointer (some ⟨Bs, 0, none⟩)] W fun e W' => (∃ v, e = .returned v) ∧
      ((∃ ys : List (WinNo ls sz), ys.map (·.1) = wins ls sz ls.length ∧ J ys W') ∨ (∃ pre : List (WinNo ls sz), (∃ k, k ≤ ls.length ∧ pre.map (·.1) = wins ls sz k) ∧ Jx pre W')) := by
  refine callsIn_of_wp Try.func81 rfl trivial ?_ rfl
  simp only [Try.ntmps81, List.size_toArray, List.length_cons, List.length_nil, Nat.reduceAdd, Nat.reduceSub, Array.replicate_succ, Array.replicate_zero, List.push_toArray, List.append_toArray, List.nil_append, List.cons_append]
  have HS := Lib.hid hs; have HB := Lib.hid hb; have HJ := Lib.hid hJ; have HY := Lib.hid hY; have HL := Lib.hid hBl; have HZ := Lib.hid hBs; have HV := Lib.hid hv
  clear hs hb hJ hY hBs hBl hv
  have cBl := HL.out; have cBs := HZ.out
  gi_wp2
  have hmx : Try.prog.follows .mixedOrders = true := by kernel_rfl
  have HMX := Lib.hid hmx
  gi_loopw [4, 5, 10] (fun kv sv iv wr => ∃ (k : Nat) (s : WSt) (pre : List (WinNo ls sz)), k ≤ ls.length ∧ kv = .int .i64 s.known ∧ sv = .int .i64 s.sum ∧ iv = .int .i64 k ∧ Hid (wst ls sz k = s) ∧ Hid (pre.map (·.1) = wins ls sz k) ∧ Hid (J pre wr) ∧ Hid (KpE n₀ Bl Bs W wr))
    (fun _ _ iv _ => ls.length - (intOf iv).toNat)
  case atStart => exact ⟨0, ⟨0, 0⟩, [], Nat.zero_le _, rfl, rfl, rfl, rfl, rfl, h0, Below.refl _ _, rfl, rfl⟩
  case round =>
    obtain ⟨k, s, pre, hk, rfl, rfl, rfl, hst, hpre, hJs, hkp⟩ := hrel
    have cL := (World.cell?_of_block (a := ⟨Bl, 0, none⟩) hkp.out.2.1).trans HL.out
    have cZ := (World.cell?_of_block (a := ⟨Bs, 0, none⟩) hkp.out.2.2).trans HZ.out
    by_cases hlt : k < ls.length
    · have hne : ls ≠ [] := by intro e; rw [e] at hlt; simp at hlt
      obtain ⟨b, off, hao, hc⟩ := HS.out.at (by omega : 0 < ls.length)
      subst hao
      have hbn := HB.out _ rfl hne
      simp only at hbn
      have cx := (hkp.out.1.cell (p := ⟨b, off + k, none⟩) hbn).trans (hc k hlt)
      have hb0 := wst_bd h1 (i := k) (by omega) hl HV.out
      have hb1 := wst_bd h1 (i := k + 1) (by omega) hl HV.out
      have hvx := HV.out k hlt
      have hs1 : wst ls sz (k + 1) = s.next ls sz k := by rw [wst, hst.out]
      rw [hst.out] at hb0
      rw [hs1] at hb1
      obtain ⟨kn, sm⟩ := s
      simp only at hb0
      have hkl : (k : Int) < (ls.length : Int) := by omega
      by_cases a1 : nthI ls k < 0
      · have e1 : WSt.next ls sz ⟨kn, sm⟩ k = ⟨0, 0⟩ := by unfold WSt.next; rw [if_pos a1]
        rw [e1] at hs1
        have HS1 : Hid (wst ls sz (k + 1) = ⟨0, 0⟩) := hs1
        have HP1 : Hid (pre.map (·.1) = wins ls sz (k + 1)) := by show _ = _; rw [hpre.out, wins, hs1, if_neg (by simp only; omega)]
        clear hc hs1 hb1 e1
        generalize nthI ls k = x at *
        gi_wp2
        go_roundw
        case rel => exact ⟨k + 1, ⟨0, 0⟩, pre, by omega, rfl, rfl, by go_num, HS1, HP1, hJs, hkp⟩
        case measure => simp [intOf]; omega
      · by_cases a2 : sz < kn + 1
        · have e1 : WSt.next ls sz ⟨kn, sm⟩ k = ⟨sz, sm + nthI ls k - nthI ls (k - sz)⟩ := by unfold WSt.next; rw [if_neg a1, if_pos a2]
          have hkz : sz ≤ k := by omega
          have cy := (hkp.out.1.cell (p := ⟨b, off + (k - sz), none⟩) hbn).trans (hc (k - sz) (by omega))
          have hvy := HV.out (k - sz) (by omega)
          rw [e1] at hs1 hb1
          have HS1 := Lib.hid hs1
          clear hc e1
          generalize nthI ls k = x at *
          generalize nthI ls (k - sz) = y at *
          obtain ⟨S, hS⟩ : ∃ S, sm + x - y = S := ⟨_, rfl⟩
          rw [hS] at hs1 hb1 HS1
          simp only at hb1
          have HKN : ({ known := sz, sum := S : WSt }).known = sz := rfl
          have hpl : pre.length ≤ k := by have h := congrArg List.length hpre.out; rw [List.length_map] at h; have := wins_len ls sz k; omega
          obtain ⟨x1, hx1⟩ : ∃ x1 : WinNo ls sz, x1.1 = (k + 1 - sz, S) := ⟨⟨(k + 1 - sz, S), by simp only; omega, ⟨by simp only; omega, by simp only; omega⟩, wins_more (n := k + 1) (by rw [wins, hs1, if_pos (by first | exact HKN | rfl)]; simp) _ (by omega)⟩, rfl⟩
          have hX : Hid ((pre ++ [x1]).map (·.1) = wins ls sz (k + 1)) := by
            show _ = _
            rw [List.map_append, hpre.out, wins, hs1, if_pos HKN]
            simp [hx1]
          obtain ⟨fn, tmps, assign, body, hy, hR⟩ := HY.out pre x1 wr.drew (HJ.out _ _ 1 hJs.out) (by omega)
          rw [hx1] at hy
          simp only at hy
          have hR2 := hR.mono (R' := fun e W' => ∃ c : Bool, e = .returned (.bool c) ∧ Hid ((c = true ∧ J (pre ++ [x1]) W' ∧ KpE n₀ Bl Bs wr.drew W') ∨ (c = false ∧ Jx (pre ++ [x1]) W'))) (by
            rintro e W' (⟨h1, h2, h3⟩ | ⟨h1, h2⟩)
            · exact ⟨true, h1, .inl ⟨rfl, h2, h3⟩⟩
            · exact ⟨false, h1, .inr ⟨rfl, h2⟩⟩)
          have HR := Lib.hid hR2
          clear hR hR2 hpl hx1

          have hks : kn = sz := by omega
          have ed : (k : Int) - (sz : Int) = ((k - sz : Nat) : Int) := by omega
          have rd : IntKind.i64.wrap ((k - sz : Nat) : Int) = ((k - sz : Nat) : Int) := IntWalk.i64_in _ (by omega)
          have ee : (k : Int) + 1 - (sz : Int) = ((k + 1 - sz : Nat) : Int) := by omega
          have re : IntKind.i64.wrap ((k + 1 - sz : Nat) : Int) = ((k + 1 - sz : Nat) : Int) := IntWalk.i64_in _ (by omega)
          have hd1 : ((k - sz : Nat) : Int) < (ls.length : Int) := by omega
          clear hs1 hkz HKN
          gi_wp2
          gi_region_o
          all_goals
            gi_wp2_with fail
            refine HR.out.mono ?_; rintro e W3 ⟨c, rfl, hc⟩
            rcases hc.out with ⟨rfl, h2, h3⟩ | ⟨rfl, h2⟩
            · have H2 := Lib.hid h2
              have HB2 := Lib.hid (kpE_t hkp.out (kpE_t ⟨(Below.refl n₀ wr).drew, rfl, rfl⟩ h3))
              clear h2 h3 hc
              gi_wp2
              go_roundw
              case rel => exact ⟨k + 1, ⟨sz, S⟩, pre ++ [x1], by omega, rfl, rfl, by go_num, HS1, hX, H2, HB2⟩
              case measure => simp [intOf]; omega
            · have H2 := Lib.hid h2
              clear h2 hc
              gi_wp2
              refine bodyPost_ret (results_none rfl _ _ _) rfl ?_
              exact ⟨⟨_, rfl⟩, .inr ⟨pre ++ [x1], ⟨k + 1, by omega, hX.out⟩, H2.out⟩⟩
        · have e1 : WSt.next ls sz ⟨kn, sm⟩ k = ⟨kn + 1, sm + nthI ls k⟩ := by unfold WSt.next; rw [if_neg a1, if_neg a2]
          rw [e1] at hs1 hb1
          have HS1 := Lib.hid hs1
          clear hc e1
          generalize nthI ls k = x at *
          obtain ⟨S, hS⟩ : ∃ S, sm + x = S := ⟨_, rfl⟩
          rw [hS] at hs1 hb1 HS1
          simp only at hb1
          by_cases a3 : kn + 1 = sz
          · rw [a3] at hs1 HS1 hb1
            have HKN : ({ known := sz, sum := S : WSt }).known = sz := rfl
            have hpl : pre.length ≤ k := by have h := congrArg List.length hpre.out; rw [List.length_map] at h; have := wins_len ls sz k; omega
            obtain ⟨x1, hx1⟩ : ∃ x1 : WinNo ls sz, x1.1 = (k + 1 - sz, S) := ⟨⟨(k + 1 - sz, S), by simp only; omega, ⟨by simp only; omega, by simp only; omega⟩, wins_more (n := k + 1) (by rw [wins, hs1, if_pos (by first | exact HKN | rfl)]; simp) _ (by omega)⟩, rfl⟩
            have hX : Hid ((pre ++ [x1]).map (·.1) = wins ls sz (k + 1)) := by
              show _ = _
              rw [List.map_append, hpre.out, wins, hs1, if_pos HKN]
              simp [hx1]
            obtain ⟨fn, tmps, assign, body, hy, hR⟩ := HY.out pre x1 wr (hJs.out) (by omega)
            rw [hx1] at hy
            simp only at hy
            have hR2 := hR.mono (R' := fun e W' => ∃ c : Bool, e = .returned (.bool c) ∧ Hid ((c = true ∧ J (pre ++ [x1]) W' ∧ KpE n₀ Bl Bs wr W') ∨ (c = false ∧ Jx (pre ++ [x1]) W'))) (by
              rintro e W' (⟨h1, h2, h3⟩ | ⟨h1, h2⟩)
              · exact ⟨true, h1, .inl ⟨rfl, h2, h3⟩⟩
              · exact ⟨false, h1, .inr ⟨rfl, h2⟩⟩)
            have HR := Lib.hid hR2
            clear hR hR2 hpl hx1
            have ek : (kn : Int) + 1 = (sz : Int) := by omega
            have rz : IntKind.i64.wrap (sz : Int) = (sz : Int) := IntWalk.i64_in _ (by omega)
            have ee : (k : Int) + 1 - (sz : Int) = ((k + 1 - sz : Nat) : Int) := by omega
            have re : IntKind.i64.wrap ((k + 1 - sz : Nat) : Int) = ((k + 1 - sz : Nat) : Int) := IntWalk.i64_in _ (by omega)
            clear hs1 HKN a3 a2
            gi_wp2_with fail
            refine HR.out.mono ?_; rintro e W3 ⟨c, rfl, hc⟩
            rcases hc.out with ⟨rfl, h2, h3⟩ | ⟨rfl, h2⟩
            · have H2 := Lib.hid h2
              have HB2 := Lib.hid (kpE_t hkp.out h3)
              clear h2 h3 hc
              gi_wp2
              go_roundw
              case rel => exact ⟨k + 1, ⟨sz, S⟩, pre ++ [x1], by omega, rfl, rfl, by go_num, HS1, hX, H2, HB2⟩
              case measure => simp [intOf]; omega
            · have H2 := Lib.hid h2
              clear h2 hc
              gi_wp2
              refine bodyPost_ret (results_none rfl _ _ _) rfl ?_
              exact ⟨⟨_, rfl⟩, .inr ⟨pre ++ [x1], ⟨k + 1, by omega, hX.out⟩, H2.out⟩⟩

          · have HS1' : Hid (wst ls sz (k + 1) = ⟨kn + 1, S⟩) := HS1
            have HP1 : Hid (pre.map (·.1) = wins ls sz (k + 1)) := by show _ = _; rw [hpre.out, wins, hs1, if_neg (by simp only; omega)]
            have a4 : kn + 1 < sz := by omega
            have a5 : (kn : Int) + 1 < (sz : Int) := by omega
            have a6 : ((kn : Int) + 1 == (sz : Int)) = false := by rw [beq_eq_false_iff_ne]; omega
            clear hs1
            gi_wp2
            refine ⟨fun _ h => (by cases h), ?_⟩
            gi_wp2
            go_roundw
            case rel => exact ⟨k + 1, ⟨kn + 1, S⟩, pre, by omega, by go_num, rfl, by go_num, HS1', HP1, hJs, hkp⟩
            case measure => simp [intOf]; omega
    · have hkl : k = ls.length := by omega
      have HK := Lib.hid hkl
      clear hkl
      gi_wp2
      go_end0
      exact ⟨⟨_, rfl⟩, .inl ⟨pre, by rw [hpre.out, HK.out], hJs.out⟩⟩

end Go.Proofs.Ytfeefijaahjheaa

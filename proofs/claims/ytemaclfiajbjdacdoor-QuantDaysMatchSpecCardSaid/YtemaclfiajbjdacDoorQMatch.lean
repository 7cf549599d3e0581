/- The contract of match: a text along a form. -/
import Derived.Test.YtemaclfiajbjdacDoorQRunLit
import Derived.Test.YtemaclfiajbjdacDoorQForms
namespace Go.Proofs.YtemaclfiajbjdacDoor
open Go.RowKit

theorem info_int : (Tryd.prog.info? 3).map (fun i => (i.zero, i.size, i.bytes)) = some (some (.int .i64 0), 1, 8) := by kernel_rfl
theorem own_grown {w w' : World} {b : Nat} {e : TypeId} {size n : Nat} {v : Value} {xs : List Value} (h : w.ownsRow b e size v n xs) (g : w.grownBy w' none) : w'.ownsRow b e size v n xs := by
  refine ⟨h.1, h.2.imp id ?_⟩
  rintro ⟨k, cap, cur, h1, h2, h3, h4⟩
  refine ⟨k, cap, cur, h1, h2, ?_, h4⟩
  rw [g.block k (Array.getElem?_eq_some_iff.1 h3).1 (by simp)]
  exact h3

theorem ret_ivb {a b : Int} {v : Value} {c : Bool} (h : a = b) : Ending.returned (.tuple #[.int .i64 a, v, .bool c]) = .returned (.tuple #[.int .i64 b, v, .bool c]) := by rw [h]

def kindOf : Tok → Int
  | .lit _ => 1
  | .two _ => 3
  | .num _ _ _ => 2
  | .frac _ => 4

/-- The five cells of a token. -/
def TokIs (T : Tok) (b : ByteArray) (x2 x3 x4 : Int) : Prop :=
  match T with
  | .lit t => b.size ≤ 1000 ∧ rem b 0 = t ∧ x2 = 0 ∧ x3 = 0 ∧ x4 = 0
  | .two h => 0 ≤ h ∧ h ≤ 99 ∧ b = ⟨#[]⟩ ∧ x2 = 0 ∧ x3 = h ∧ x4 = 0
  | _ => False

theorem tokV_le {T : Tok} {b : ByteArray} {x2 x3 x4 : Int} (hT : TokIs T b x2 x3 x4) (R : List Nat) : (T.V R).used ≤ R.length := by
  cases T with
  | lit t => exact wordV_le _ _
  | two h => exact pairV_le _ _
  | num _ _ _ => exact absurd hT (by simp [TokIs])
  | frac _ => exact absurd hT (by simp [TokIs])
theorem tokV_bd {T : Tok} {b : ByteArray} {x2 x3 x4 : Int} (hT : TokIs T b x2 x3 x4) (R : List Nat) : 0 ≤ (T.V R).val ∧ (T.V R).val ≤ 99 := by
  cases T with
  | lit t => exact ⟨Int.le_refl _, by show (0 : Int) ≤ 99; omega⟩
  | two h =>
    have q := pairV_bd h R hT.1 hT.2.1
    have := hT.2.1
    exact ⟨q.1, by show (pairV h R).val ≤ 99; omega⟩
  | num _ _ _ => exact absurd hT (by simp [TokIs])
  | frac _ => exact absurd hT (by simp [TokIs])

theorem run_any {T : Tok} {b : ByteArray} {x2 x3 x4 : Int} (hT : TokIs T b x2 x3 x4) (s : ByteArray) (hs : s.size ≤ 1000) (k : Nat) (hk : k ≤ s.size) (w : World) {v : Int} {ok : Bool} {u : Nat} (hp : Hid (T.V (rem s k) = ⟨v, ok, u⟩)) :
    Calls Tryd.prog 84 #[.agg #[.int .i64 (kindOf T), .string b, .int .i64 x2, .int .i64 x3, .int .i64 x4], .string s, .int .i64 (k : Int)] w fun e w' => e = .returned (.tuple #[.int .i64 ((k + u : Nat) : Int), .int .i64 v, .bool ok]) ∧ w.grownBy w' none := by
  cases T with
  | lit t =>
    obtain ⟨hb, ht, rfl, rfl, rfl⟩ := hT
    have h' := hp.out
    simp only [Tok.V, Got.mk.injEq] at h'
    obtain ⟨rfl, h2, h3⟩ := h'
    exact runLit_any b hb s hs k hk w (by show _ = _; rw [ht]; exact Prod.ext h2 h3)
  | two h =>
    obtain ⟨h0, h9, rfl, rfl, rfl, rfl⟩ := hT
    exact runTwo_any _ h0 h9 s hs k hk w hp
  | num _ _ _ => exact absurd hT (by simp [TokIs])
  | frac _ => exact absurd hT (by simp [TokIs])

/-- Tokens that lie in block g. -/
def ToksAt (w : World) (g : Nat) (ts : List Tok) : Prop :=
  ∀ i (h : i < ts.length), ∃ (b : ByteArray) (x2 x3 x4 : Int), TokIs ts[i] b x2 x3 x4 ∧ w.cell? ⟨g, i * 5, none⟩ = some (.int .i64 (kindOf ts[i])) ∧ w.cell? ⟨g, i * 5 + 1, none⟩ = some (.string b) ∧ w.cell? ⟨g, i * 5 + 2, none⟩ = some (.int .i64 x2) ∧ w.cell? ⟨g, i * 5 + 3, none⟩ = some (.int .i64 x3) ∧ w.cell? ⟨g, i * 5 + 4, none⟩ = some (.int .i64 x4)

theorem kind_lit (T : Tok) : kindOf T ≠ 1 ↔ T.isLit = false := by cases T <;> simp [kindOf, Tok.isLit]

set_option maxRecDepth 100000 in
set_option maxHeartbeats 3200000 in
theorem match_any (s : ByteArray) (hs : s.size ≤ 1000) (g C : Nat) (ts : List Tok) (hn : ts.length ≤ 100) (w : World) (ht : Hid (ToksAt w g ts)) {S : Seq} (hS : Hid (seqV ts (rem s 0) = S)) :
    Calls Tryd.prog 72 #[.string s, .slice (some ⟨g, 0, none⟩) ts.length C] w fun e w' => (∃ lv b, e = .returned (.tuple #[.int .i64 (S.used : Int), lv, .bool b]) ∧ ((S.ok = false ∧ b = false) ∨ (S.ok = true ∧ b = decide (S.used = s.size) ∧ w'.ownsRow w.heap.size 3 1 lv S.vals.length (S.vals.map (Value.int .i64))))) ∧ S.used ≤ s.size ∧ w.grownBy w' none := by
  go_enter Tryd.func72, Tryd.ntmps72
  go_wp2_with fail
  go_loopw [7, 8, 16] (fun av lv iv wr => ∃ (j k : Nat) (xs : List Int), j ≤ ts.length ∧ k ≤ s.size ∧ av = .int .i64 (k : Int) ∧ iv = .int .i64 (j : Int) ∧ Hid (wr.ownsRow w.heap.size 3 1 lv xs.length (xs.map (Value.int .i64))) ∧ Hid (xs.length ≤ j) ∧ w.grownBy wr none ∧ Hid (S = ⟨k + (seqV (ts.drop j) (rem s k)).used, xs ++ (seqV (ts.drop j) (rem s k)).vals, (seqV (ts.drop j) (rem s k)).ok⟩)) (fun _ _ iv _ => ts.length - (intOf iv).toNat)
  case atStart => exact ⟨0, 0, [], Nat.zero_le _, Nat.zero_le _, rfl, rfl, World.ownsRow_nil _ _ _ _, Nat.zero_le _, grown_refl _ _, by show S = _; rw [← hS.out]; simp⟩
  case round =>
    obtain ⟨j, k, xs, hj, hk, rfl, rfl, hown, hxl, hg, hw⟩ := hrel
    by_cases hlt : j < ts.length
    · have hd : ts.drop j = ts[j] :: ts.drop (j + 1) := List.drop_eq_getElem_cons hlt
      obtain ⟨tb, x2, x3, x4, hT, h0, h1, h2, h3, h4⟩ := ht.out j hlt
      have k0 := hg.cell h0 (by simp)
      have k1 := hg.cell h1 (by simp)
      have k2 := hg.cell h2 (by simp)
      have k3 := hg.cell h3 (by simp)
      have k4 := hg.cell h4 (by simp)
      clear h0 h1 h2 h3 h4
      obtain ⟨T, hTT⟩ : ∃ T, ts[j] = T := ⟨_, rfl⟩
      rw [hTT] at hd hT k0
      rcases hv : T.V (rem s k) with ⟨v, ok, u⟩
      have hul := tokV_le hT (rem s k)
      have hvb := tokV_bd hT (rem s k)
      rw [hv] at hul hvb
      simp only [rem_len] at hul hvb
      have hw' := hw.out
      rw [hd] at hw'
      obtain ⟨K, hK⟩ : ∃ K, kindOf T = K := ⟨_, rfl⟩
      have hlit := kind_lit T
      rw [hK] at k0 hlit
      have hrun := fun W => run_any hT s hs k hk W (Lib.hid hv)
      rw [hK] at hrun
      have HRUN := Lib.hid hrun; have HV := Lib.hid hv; have HT := Lib.hid hT; have HW := Lib.hid hw'; have HLIT := Lib.hid hlit
      have jl : (j : Int) < (ts.length : Int) := by omega
      clear hrun hv hT hw hw' hd hTT hK hlit
      have hgA := grown_trans hg (World.grownBy_alloc wr (.cells #[.int .i64 K, .string tb, .int .i64 x2, .int .i64 x3, .int .i64 x4] 61) none)
      go_wp2_with fail
      refine (HRUN.out _).mono ?_; rintro e w1 ⟨rfl, hg1⟩
      have hb0 : w1.cell? ⟨wr.heap.size, 0, none⟩ = some (.int .i64 K) := hg1.cell (by simp) (by simp)
      have hgw := grown_trans hgA hg1
      have hown1 := own_grown hown.out (grown_trans (World.grownBy_alloc wr (.cells #[.int .i64 K, .string tb, .int .i64 x2, .int .i64 x3, .int .i64 x4] 61) none) hg1)
      have HOWN := Lib.hid hown1; clear hown hown1 hgA hg1 hg
      cases ok with
      | false =>
        have hS' := HW.out
        rw [seq_no HV.out rfl] at hS'
        have HS' := Lib.hid hS'; clear hS'
        go_wp2_with fail
        go_ret3
        exact ⟨⟨_, false, ret_ivb (by rw [HS'.out]; push_cast; rfl), .inl ⟨by rw [HS'.out], rfl⟩⟩, by rw [HS'.out]; show k + u ≤ s.size; omega, hgw⟩
      | true =>
        have hS' := HW.out
        rw [seq_yes HV.out rfl] at hS'
        simp only [rem_drop] at hS'
        by_cases hkl : K = 1
        · have hil : T.isLit = true := by
            rcases hi : T.isLit with _ | _
            · exact absurd hkl (HLIT.out.2 hi)
            · rfl
          rw [hil, if_pos rfl, List.nil_append] at hS'
          have hq : (K != 1) = false := by simp [hkl]
          have HS' := Lib.hid hS'; clear hS' hkl hil
          go_wp2_with fail
          refine ⟨⟨j + 1, k + u, xs, by omega, by omega, rfl, by go_num, HOWN.out, by show _ ≤ _; have := hxl.out; omega, hgw, ?_⟩, by simp [intOf]; omega⟩
          show S = _
          rw [HS'.out, Nat.add_assoc]
        · have hil : T.isLit = false := HLIT.out.1 hkl
          rw [hil, if_neg (by simp)] at hS'
          have hq : (K != 1) = true := by simpa using hkl
          have hxi : (xs.length : Int) ≤ 100 := by have := hxl.out; omega
          have HS' := Lib.hid hS'; have HXL := Lib.hid hxl.out; clear hS' hkl hil hxl
          obtain ⟨i0, hi0, hz0, hz1, hz2⟩ := info_parts info_int
          go_wp2_with (at_builtin; refine wpList_append_own _ rfl _ _ 48 rfl w.heap.size 3 i0 (.int .i64 0) 1 8 Tryd.underlying48 hi0 hz0 hz1 hz2 rfl (by decide) _ _ _ rfl (HOWN.out.alloc _) ⟨_, 0, none⟩ 1 1 [.int .i64 v] rfl rfl ?d1 ?d2 ?d3 ?d4 ?d5 ?_)
          case d1 =>
            intro j u hj
            match j, hj with
            | 0, hj => simp at hj; subst hj; simp [Addr.add]
          case d2 => intro u hu; simp at hu; subst hu; rfl
          case d3 => unfold maxLen; omega
          case d4 => omega
          case d5 => have := hgw.size; simp; omega
          intro v' w4 hown' hgrow' _
          have hlt4 := HOWN.out.lt
          have hg4 : w.grownBy w4 none := (grown_trans hgw (World.grownBy_alloc _ _ _)).andThen hgrow' (fun j hj => .inl (hlt4 j hj).1)
          have HO4 := Lib.hid hown'; clear hown' hgrow' hi0 hz0 hz1 hz2 hlt4
          go_wp2_with fail
          refine ⟨⟨j + 1, k + u, xs ++ [v], by omega, by omega, by first | rfl | go_num, by go_num, ?_, by show _ ≤ _; rw [List.length_append]; have := HXL.out; simp; omega, hg4, ?_⟩, by simp [intOf]; omega⟩
          · show World.ownsRow _ _ _ _ _ _ _
            rw [List.length_append, List.map_append]
            exact HO4.out
          · show S = _
            rw [HS'.out, Nat.add_assoc, List.append_assoc]
    · have hje : j = ts.length := by omega
      have hS' := hw.out
      rw [List.drop_eq_nil_of_le (by omega)] at hS'
      simp only [seqV, Nat.add_zero, List.append_nil] at hS'
      have HS' := Lib.hid hS'; clear hS'
      by_cases hkk : k = s.size
      · have hq : ((k : Int) == (s.size : Int)) = true := by simp [hkk]
        have HK := Lib.hid hkk; clear hkk
        go_wp2_with fail
        go_ret3
        exact ⟨⟨_, true, ret_ivb (by rw [HS'.out]), .inr ⟨by rw [HS'.out], by rw [HS'.out]; simp [HK.out], by rw [HS'.out]; exact hown.out⟩⟩, by rw [HS'.out]; exact hk, hg⟩
      · have hq : ((k : Int) == (s.size : Int)) = false := by simp; omega
        have HK := Lib.hid hkk; clear hkk
        go_wp2_with fail
        go_ret3
        exact ⟨⟨_, false, ret_ivb (by rw [HS'.out]), .inr ⟨by rw [HS'.out], by rw [HS'.out]; simp [HK.out], by rw [HS'.out]; exact hown.out⟩⟩, by rw [HS'.out]; exact hk, hg⟩
end Go.Proofs.YtemaclfiajbjdacDoor

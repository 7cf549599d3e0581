/- The contract of read over the form of spans. -/
import Derived.Test.YtbacoopopokkfaaDoorQRdF
import Derived.Test.YtbacoopopokkfaaDoorQForms
namespace Go.Proofs.YtbacoopopokkfaaDoor
open Go.RowKit Go.Shelf
set_option linter.unusedSimpArgs false
set_option linter.unusedVariables false

/-- What read returns: the spans, where, what is wrong. -/
def rdR (s : ByteArray) : List SpV × Int × Int :=
  if 40000 < s.size then ([], 0, 3) else if (spsV (rem s 0) [] 0).2.2 = true ∧ (spsV (rem s 0) [] 0).2.1 = s.size then ((spsV (rem s 0) [] 0).1, 0, 0) else ([], ((spsV (rem s 0) [] 0).2.1 : Int), 6)

set_option maxRecDepth 100000 in
set_option maxHeartbeats 3200000 in
theorem readSp_is (s : ByteArray) (hs : s.size ≤ 140737488351232) (p C : Nat) (w : World) (hp : w.cell? ⟨p, 0, none⟩ = some (.func (.func 30) #[] #[])) {l : List SpV} {at_ e : Int} (hr : rdR s = (l, at_, e)) :
    Calls Tryd.prog 29 #[.string s, .int .i64 40000, .slice (some ⟨p, 0, none⟩) 1 C] w fun x w' => (∃ v, x = .returned (.tuple #[v, .int .i64 at_, .int .i64 e]) ∧ SpOwn w.heap.size w' v l) ∧ w.grownBy w' none := by
  have HP := Lib.hid hp; have HR := Lib.hid hr
  clear hp hr
  unfold rdR at HR
  by_cases hbig : 40000 < s.size
  · have hr := HR.out
    rw [if_pos hbig] at hr
    simp only [Prod.mk.injEq] at hr
    obtain ⟨rfl, rfl, rfl⟩ := hr
    have hb : (40000 : Int) < (s.size : Int) := by omega
    clear HR
    go_enter Tryd.func29, Tryd.ntmps29
    go_wp2_with fail
    go_ret3
    exact ⟨⟨_, rfl, SpOwn.nil _ _⟩, World.grownBy.refl _ _⟩
  · have hr := HR.out
    rw [if_neg hbig] at hr
    have hb : ¬ (40000 : Int) < (s.size : Int) := by omega
    have hs1 : s.size ≤ 40000 := by omega
    obtain ⟨l1, u, ok, hsp⟩ : ∃ l1 u ok, spsV (rem s 0) [] 0 = (l1, u, ok) := ⟨_, _, _, rfl⟩
    rw [hsp] at hr
    simp only at hr
    have HSP := Lib.hid hsp; have HRR := Lib.hid hr
    clear HR hr hsp
    go_enter Tryd.func29, Tryd.ntmps29
    go_wp2_with fail
    go_loopw [10, 24] (fun fr iv wr => ((fr = .int .i64 0 ∧ iv = .int .i64 0) ∨ (fr = .int .i64 (u : Int) ∧ iv = .int .i64 1 ∧ Hid (([], (u : Int), 6) = (l, at_, e)))) ∧ Hid (w.grownBy wr none)) (fun _ iv _ => 1 - (intOf iv).toNat)
    case atStart => exact ⟨.inl ⟨rfl, rfl⟩, World.grownBy.refl _ _⟩
    case round =>
      obtain ⟨⟨rfl, rfl⟩ | ⟨rfl, rfl, hend⟩, hg⟩ := hrel
      · have hcell := grown_cell hg.out HP.out
        have hat := opened s wr hs
        have hsz : w.heap.size ≤ wr.heap.size := hg.out.size
        have hga : w.grownBy ((wr.alloc (.cells #[.string s] 9)).alloc (.cells #[.int .i64 0] 3)) none := grown_trans (grown_trans hg.out (World.grownBy_alloc _ _ _)) (World.grownBy_alloc _ _ _)
        have HC := Lib.hid (spansForm_is hat (by omega) HSP.out)
        have HGA := Lib.hid hga
        have HSZ := Lib.hid hsz
        clear hat hga hsz
        go_wp2_with (go_at_call 53; refine (open_any s wr).mono ?_; rintro e w1 ⟨rfl, rfl⟩)
        clear hcell
        refine (HC.out).mono ?_
        rintro x w2 ⟨⟨v, rfl, ho⟩, hm2⟩
        have HG2 : Hid (w.grownBy w2 none) := hm2.none HGA.out (by have := HSZ.out; omega)
        have hm3 := hm2.eq (Nat.zero_add u)
        have HT := Lib.hid hm3.pos
        have HO := Lib.hid (ho.low HGA.out.size)
        obtain ⟨vo, vc, rfl, _⟩ := ho.rows
        have hx := hm3.pos.le
        clear ho hm2 hm3 HC HGA
        cases ok with
        | false =>
          have hr := HRR.out
          rw [if_neg (by simp)] at hr
          have HE := Lib.hid hr
          clear hr HRR
          have hmx : max (0 : Int) (u : Int) = (u : Int) := by omega
          go_wp2_with (go_at_call 74; refine (place_any HT.out).mono ?_; rintro e w3 ⟨rfl, rfl⟩)
          go_roundw
          case rel => exact ⟨.inr ⟨by first | rfl | (rw [hmx]) | simp, by go_num, HE.out⟩, HG2.out⟩
          case measure => simp [intOf]
        | true =>
          by_cases hxs : u = s.size
          · have hr := HRR.out
            rw [if_pos ⟨rfl, hxs⟩] at hr
            simp only [Prod.mk.injEq] at hr
            obtain ⟨rfl, rfl, rfl⟩ := hr
            have hq : ((u : Int) == (s.size : Int)) = true := by simp [hxs]
            clear hxs HRR
            go_wp2_with (go_at_call 74; refine (place_any HT.out).mono ?_; rintro e w3 ⟨rfl, rfl⟩)
            go_ret3
            exact ⟨⟨_, rfl, HO.out⟩, HG2.out⟩
          · have hr := HRR.out
            rw [if_neg (fun h => hxs h.2)] at hr
            have HE := Lib.hid hr
            have hq : ((u : Int) == (s.size : Int)) = false := by simp; omega
            have hmx : max (0 : Int) (u : Int) = (u : Int) := by omega
            clear hr HRR hxs
            go_wp2_with (go_at_call 74; refine (place_any HT.out).mono ?_; rintro e w3 ⟨rfl, rfl⟩)
            go_roundw
            case rel => exact ⟨.inr ⟨by first | rfl | (rw [hmx]) | simp, by go_num, HE.out⟩, HG2.out⟩
            case measure => simp [intOf]
      · have hr := hend.out
        simp only [Prod.mk.injEq] at hr
        obtain ⟨rfl, rfl, rfl⟩ := hr
        clear hend HRR
        go_wp2_with fail
        go_ret3
        exact ⟨⟨_, rfl, SpOwn.nil _ _⟩, hg.out⟩
end Go.Proofs.YtbacoopopokkfaaDoor

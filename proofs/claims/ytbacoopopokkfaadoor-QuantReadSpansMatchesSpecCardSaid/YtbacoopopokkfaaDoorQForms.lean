/- The contract of read over forms that give an int. -/
import Derived.Test.YtbacoopopokkfaaDoorQPair
namespace Go.Proofs.YtbacoopopokkfaaDoor
open Go.RowKit
set_option linter.unusedSimpArgs false
set_option linter.unusedVariables false

/-- A function value that reads as V says, in every world that has grown out of w0. -/
def FormIs (w0 : World) (fv : Value) (V : List Nat → Got) : Prop :=
  ∃ (n : Nat) (cap : Array Value), fv = .func (.func n) #[] cap ∧ (∀ args w, (callFunc n args).run Tryd.prog w = .ok (.enter n args) w) ∧ ∀ (w : World) (s : ByteArray) (a b k : Nat), w0.grownBy w none → w0.heap.size ≤ a → At w a b s k →
    Calls Tryd.prog n (#[.func (.func 73) #[] #[.pointer (some ⟨a, 0, none⟩), .pointer (some ⟨b, 0, none⟩)]] ++ cap) w fun e w' => e = .returned (.tuple #[.int .i64 (V (rem s k)).val, .bool (V (rem s k)).ok]) ∧ Moved w w' a b s (k + (V (rem s k)).used)

def readG : List (List Nat → Got) → List Nat → Nat → Int × Int × Int
  | [], _, far => (0, far, 6)
  | V :: Vs, L, far => if (V L).ok = true ∧ (V L).used = L.length then ((V L).val, 0, 0) else readG Vs L (max far (V L).used)

def readV (most : Int) (Vs : List (List Nat → Got)) (L : List Nat) : Int × Int × Int :=
  if most < (L.length : Int) then (0, 0, 3) else readG Vs L 0

theorem rem_zero_len (s : ByteArray) : (rem s 0).length = s.size := by rw [rem_len]; rfl

theorem Moved.none {w0 w w' : World} {a b : Nat} {s : ByteArray} {k : Nat} (h : Moved w w' a b s k) (g : w0.grownBy w none) (ha : w0.heap.size ≤ a) : w0.grownBy w' none :=
  ⟨h.g.os.trans g.os, h.g.tape.trans g.tape, h.g.output.trans g.output, Nat.le_trans g.size h.g.size, fun j hj _ => (h.g.block j (Nat.lt_of_lt_of_le hj g.size) (fun e => by have := Option.some.inj e; omega)).trans (g.block j hj (by simp))⟩

theorem grown_cell {w w' : World} (g : w.grownBy w' none) {p : Addr} {v : Value} (h : w.cell? p = some v) : w'.cell? p = some v := g.cell h (by simp)

set_option maxHeartbeats 800000 in
theorem read_any (s : ByteArray) (hs : s.size ≤ 140737488351232) (most : Int) (fs : List (Value × (List Nat → Got))) (hfl : fs.length ≤ 1000) (p C : Nat) (w : World)
    (hp : ∀ i (h : i < fs.length), w.cell? ⟨p, i, none⟩ = some fs[i].1) (hf : ∀ i (h : i < fs.length), FormIs w fs[i].1 fs[i].2) :
    Calls Tryd.prog 43 #[.string s, .int .i64 most, .slice (some ⟨p, 0, none⟩) fs.length C] w fun e w' => e = .returned (.tuple #[.int .i64 (readV most (fs.map (·.2)) (rem s 0)).1, .int .i64 (readV most (fs.map (·.2)) (rem s 0)).2.1, .int .i64 (readV most (fs.map (·.2)) (rem s 0)).2.2]) ∧ w.grownBy w' none := by
  have HP := Lib.hid hp; clear hp
  have HF := Lib.hid hf; clear hf
  by_cases hbig : most < (s.size : Int)
  · have hv : readV most (fs.map (·.2)) (rem s 0) = (0, 0, 3) := by unfold readV; rw [rem_zero_len, if_pos hbig]
    have HV := Lib.hid hv; clear hv
    go_enter Tryd.func43, Tryd.ntmps43
    go_wp2
    go_ret3
    exact ⟨ret_iii (by rw [HV.out]) (by rw [HV.out]) (by rw [HV.out]), grown_refl _ _⟩
  · have hv : readV most (fs.map (·.2)) (rem s 0) = readG (fs.map (·.2)) (rem s 0) 0 := by unfold readV; rw [rem_zero_len, if_neg hbig]
    have HV := Lib.hid hv; clear hv
    go_enter Tryd.func43, Tryd.ntmps43
    go_wp2
    go_loopw [10, 24] (fun fr i wr => ∃ (j far : Nat), j ≤ fs.length ∧ fr = .int .i64 far ∧ i = .int .i64 j ∧ w.grownBy wr none ∧ far ≤ s.size ∧ Hid (readV most (fs.map (·.2)) (rem s 0) = readG ((fs.drop j).map (·.2)) (rem s 0) far))
      (fun _ i _ => fs.length - (intOf i).toNat)
    case atStart => exact ⟨0, 0, Nat.zero_le _, rfl, rfl, grown_refl _ _, Nat.zero_le _, HV.out⟩
    case round =>
      obtain ⟨j, far, hj, rfl, rfl, hg, hfar, hw⟩ := hrel
      by_cases hlt : j < fs.length
      · have hd : fs.drop j = fs[j] :: fs.drop (j + 1) := List.drop_eq_getElem_cons hlt
        have hcell := grown_cell hg (HP.out j hlt)
        obtain ⟨n, cap, hfv, hen, hform⟩ := HF.out j hlt
        rw [hfv] at hcell
        have hat := opened s wr hs
        have hsz : w.heap.size ≤ wr.heap.size := hg.size
        have hga : w.grownBy ((wr.alloc (.cells #[.string s] 9)).alloc (.cells #[.int .i64 0] 3)) none := grown_trans (grown_trans hg (World.grownBy_alloc _ _ _)) (World.grownBy_alloc _ _ _)
        rcases hV : fs[j].2 (rem s 0) with ⟨v, ok, x⟩
        have hc := hform _ s (wr.heap.size + 1) wr.heap.size 0 hga (by omega) hat
        rw [hV] at hc
        have HC := Lib.hid hc; clear hc
        have HD := Lib.hid hd; clear hd hfv hform
        have HVV := Lib.hid hV; clear hV
        go_wp2_with (go_at_call 53; refine (open_any s wr).mono ?_; rintro e w1 ⟨rfl, rfl⟩)
        clear hcell
        refine (HC.out).mono ?_
        rintro e w2 ⟨rfl, hm2⟩
        have hg2 : w.grownBy w2 none := hm2.none hga (by omega)
        have hm2 := hm2.eq (Nat.zero_add x)
        have hx := hm2.pos.le
        have ht := hm2.pos
        clear hen hat hga HC hm2
        cases ok with
        | false =>
          have hr : readG ((fs.drop j).map (·.2)) (rem s 0) far = readG ((fs.drop (j + 1)).map (·.2)) (rem s 0) (max far x) := by
            rw [HD.out, List.map_cons, readG, HVV.out]; simp
          have HR := Lib.hid hr; clear hr
          by_cases hfx : far < x
          · go_wp2_with (go_at_call 74; refine (place_any ht).mono ?_; rintro e w3 ⟨rfl, rfl⟩)
            go_roundw
            case rel => exact ⟨j + 1, x, by omega, rfl, by go_num, hg2, hx, by show _ = _; rw [hw.out, HR.out, Nat.max_eq_right (by omega)]⟩
            case measure => simp [intOf]; omega
          · go_wp2_with (go_at_call 74; refine (place_any ht).mono ?_; rintro e w3 ⟨rfl, rfl⟩)
            go_roundw
            case rel => exact ⟨j + 1, far, by omega, by go_num, by go_num, hg2, hfar, by show _ = _; rw [hw.out, HR.out, Nat.max_eq_left (by omega)]⟩
            case measure => simp [intOf]; omega
        | true =>
          by_cases hxs : x = s.size
          · have hr : readG ((fs.drop j).map (·.2)) (rem s 0) far = (v, 0, 0) := by
              rw [HD.out, List.map_cons, readG, HVV.out, rem_zero_len]; simp [hxs]
            have HR := Lib.hid hr; clear hr
            have hq : ((x : Int) == (s.size : Int)) = true := by simp [hxs]
            clear hxs
            go_wp2_with (go_at_call 74; refine (place_any ht).mono ?_; rintro e w3 ⟨rfl, rfl⟩)
            go_ret3
            exact ⟨ret_iii (by rw [hw.out, HR.out]) (by rw [hw.out, HR.out]) (by rw [hw.out, HR.out]), hg2⟩
          · have hr : readG ((fs.drop j).map (·.2)) (rem s 0) far = readG ((fs.drop (j + 1)).map (·.2)) (rem s 0) (max far x) := by
              rw [HD.out, List.map_cons, readG, HVV.out, rem_zero_len]; simp [hxs]
            have HR := Lib.hid hr; clear hr
            have hq : ((x : Int) == (s.size : Int)) = false := by simp; omega
            by_cases hfx : far < x
            · go_wp2_with (go_at_call 74; refine (place_any ht).mono ?_; rintro e w3 ⟨rfl, rfl⟩)
              go_roundw
              case rel => exact ⟨j + 1, x, by omega, rfl, by go_num, hg2, hx, by show _ = _; rw [hw.out, HR.out, Nat.max_eq_right (by omega)]⟩
              case measure => simp [intOf]; omega
            · go_wp2_with (go_at_call 74; refine (place_any ht).mono ?_; rintro e w3 ⟨rfl, rfl⟩)
              go_roundw
              case rel => exact ⟨j + 1, far, by omega, by go_num, by go_num, hg2, hfar, by show _ = _; rw [hw.out, HR.out, Nat.max_eq_left (by omega)]⟩
              case measure => simp [intOf]; omega
      · have hr : readG ((fs.drop j).map (·.2)) (rem s 0) far = (0, (far : Int), 6) := by
          rw [List.drop_eq_nil_of_le (by omega)]; rfl
        have HR := Lib.hid hr; clear hr
        go_wp2
        go_ret3
        exact ⟨ret_iii (by rw [hw.out, HR.out]) (by rw [hw.out, HR.out]) (by rw [hw.out, HR.out]), hg⟩
end Go.Proofs.YtbacoopopokkfaaDoor

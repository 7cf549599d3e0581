/- The contract of Hills. -/
import Derived.Test.YtimfgplihppeeaaTHillsA
import Derived.Test.YtimfgplihppeeaaTWaysM
import Derived.Maps.AppendAt
import Derived.Deep.RegionHeld3
import Derived.Deep.AppendLies
import Derived.Laws.Pointers
namespace Go.Proofs.Ytimfgplihppeeaa
open Go.RowKit

def hillCs (h : HillV) : List Value := [.int .i64 h.fr, .int .i64 h.to_, .int .i64 h.rise, .int .i64 h.way]
def hillsVs (L : List HillV) : List Value := L.flatMap hillCs
theorem hillsVs_snoc (L : List HillV) (h : HillV) : hillsVs (L ++ [h]) = hillsVs L ++ hillCs h := by simp [hillsVs]
theorem hillCs_one (h : HillV) : ∀ u ∈ hillCs h, u.oneCell' = true := by
  intro u hu
  unfold hillCs at hu
  simp only [List.mem_cons, List.not_mem_nil, or_false] at hu
  rcases hu with rfl | rfl | rfl | rfl <;> rfl
theorem hillCs_new (w : World) (h : HillV) (t : TypeId) : ∀ j u, (hillCs h)[j]? = some u → (w.alloc (.cells #[.int .i64 h.fr, .int .i64 h.to_, .int .i64 h.rise, .int .i64 h.way] t)).cell? ((⟨w.heap.size, 0, none⟩ : Addr).add j) = some u := by
  intro j u hu
  have e : (⟨w.heap.size, 0, none⟩ : Addr).add j = ⟨w.heap.size, j, none⟩ := by unfold Addr.add; split <;> simp_all
  rw [e]
  have hh := heap_alloc_new w (.cells #[.int .i64 h.fr, .int .i64 h.to_, .int .i64 h.rise, .int .i64 h.way] t)
  unfold hillCs at hu
  exact (cell_of_row _ _ j _ _ (0, 0) hh).trans (by simpa using hu)
theorem info_hill : (Try.prog.info? 33).map (fun i => (i.zero, i.size, i.bytes)) = some (some (.agg #[.int .i64 0, .int .i64 0, .int .i64 0, .int .i64 0]), 4, 32) := by kernel_rfl

theorem own_low {w : World} {base base' : Nat} {e : TypeId} {size : Nat} {v : Value} {n : Nat} {xs : List Value} (h : w.ownsRow base e size v n xs) (hb : base' ≤ base) : w.ownsRow base' e size v n xs :=
  ⟨h.1, h.2.imp id fun ⟨g, cap, cur, h1, h2, h3⟩ => ⟨g, cap, cur, h1, Nat.le_trans hb h2, h3⟩⟩

/-- What Hills returns. -/
noncomputable def hillsL (ss : List Smp) (least dip : Int) : List HillV := hillsP (zOf ss) (wayN ss) ss.length least dip (ss.length - 0) 0
noncomputable def hillsOut (a : Act) (least dip : Int) : List HillV × Int :=
  if chkE a = 0 then (if (1 ≤ least ∧ least ≤ 200000) ∧ 0 ≤ dip ∧ dip ≤ 200000 then (hillsL a.ss least dip, 0) else ([], 9)) else ([], chkE a)
theorem z_bd {a : Act} (h : ActOk a) (k : Nat) : -100000 ≤ zOf a.ss k ∧ zOf a.ss k ≤ 100000 := by
  unfold zOf smpD
  rcases Nat.lt_or_ge k a.ss.length with hk | hk
  · rw [List.getD_eq_getElem?_getD, List.getElem?_eq_getElem hk]
    have := smps_ok _ _ h.smps _ (List.getElem_mem hk)
    unfold smpIn at this
    simp only [Option.getD_some]; omega
  · rw [List.getD_eq_getElem?_getD, List.getElem?_eq_none hk]
    simp
theorem hillsP_at {Z W : Nat → Int} {n : Nat} {least dip : Int} (hd : 0 ≤ dip) {fr p e : Nat} (h : fr < n) (hr : asc Z n dip fr = (p, e)) :
    hillsP Z W n least dip (n - fr) fr = if Z p - Z fr < least then hillsP Z W n least dip (n - e) e else hillV Z W fr p :: hillsP Z W n least dip (n - (p + 1)) (p + 1) := by
  obtain ⟨a, b, c⟩ := asc_fwd (Z := Z) hd h
  rw [hr] at a b c
  simp only at a b c
  rw [show n - fr = (n - (fr + 1)) + 1 by omega, hillsP, if_neg (by omega), hr]
  simp only
  rw [hillsP_fuel hd (n - (fr + 1)) e (by omega) (n - e) (by omega), hillsP_fuel hd (n - (fr + 1)) (p + 1) (by omega) (n - (p + 1)) (by omega)]
theorem hillsP_end {Z W : Nat → Int} {n : Nat} {least dip : Int} {fr : Nat} (h : n ≤ fr) : hillsP Z W n least dip (n - fr) fr = [] := by
  rw [show n - fr = 0 by omega, hillsP]

set_option maxRecDepth 100000 in
set_option maxHeartbeats 1600000 in
theorem Hills_ok (nm : ByteArray) (sp st : Int) (so : Option Addr) (sc : Nat) (ss : List Smp) (lo : Option Addr) (lc : Nat) (ls : List LapV) (to_ : Option Addr) (tc : Nat) (ts : List ByteArray) (least dip : Int) (l0 : 1 ≤ least) (l1 : least ≤ 200000) (d0 : 0 ≤ dip) (d1 : dip ≤ 200000) (hl : (ss.length : Int) ≤ 20000) (w : World)
    (HA : Hid (ActAt w ⟨nm, sp, st, so, sc, ss, lo, lc, ls, to_, tc, ts⟩)) (HCE : Hid (chkE ⟨nm, sp, st, so, sc, ss, lo, lc, ls, to_, tc, ts⟩ = 0)) (HP : Hid (∀ x ∈ ss, inPlane x)) (HZ : Hid (∀ k, -100000 ≤ zOf ss k ∧ zOf ss k ≤ 100000)) {L : List HillV} (hr : Hid (hillsL ss least dip = L)) :
    Calls Try.prog 15 #[.agg #[.string nm, .int .i64 sp, .int .i64 st, .slice so ss.length sc, .slice lo ls.length lc, .slice to_ ts.length tc], .int .i64 least, .int .i64 dip] w fun x w' => (∃ v, x = .returned (.tuple #[v, .int .i64 0]) ∧ w'.ownsRow w.heap.size 33 4 v L.length (hillsVs L)) ∧ w.grownBy w' none := by
  obtain ⟨i0, hi, hz0, hz1, hz2⟩ := info_parts info_hill
  have HI := Lib.hid hi; have HZ0 := Lib.hid hz0; have HZ1 := Lib.hid hz1; have HZ2 := Lib.hid hz2
  clear hi hz0 hz1 hz2
  go_enter Try.func15, Try.ntmps15
  go_wp2_with fail
  refine (check_any ⟨nm, sp, st, so, sc, ss, lo, lc, ls, to_, tc, ts⟩ _ (HA.out.grown (World.grownBy_alloc _ _ _)) HCE).mono ?_; rintro e w1 ⟨rfl, hg1⟩
  have G1 : w.grownBy w1 none := grown_trans (World.grownBy_alloc w (.cells #[.string nm, .int .i64 sp, .int .i64 st, .slice so ss.length sc, .slice lo ls.length lc, .slice to_ ts.length tc] 26) none) hg1
  have b3 : w1.cell? ⟨w.heap.size, 3, none⟩ = some (.slice so ss.length sc) := grown_cell hg1 (by go_simp)
  clear hg1
  go_wp2_with fail
  refine (twithin_yes _ _ _ l0 l1 _).mono ?_; rintro e w2 ⟨rfl, rfl⟩
  go_wp2_with fail
  refine (twithin_yes _ _ _ d0 d1 _).mono ?_; rintro e w2 ⟨rfl, rfl⟩
  go_wp2_with fail
  refine (waysOf_any so sc ss hl w1 (HA.out.grown G1).hs ((HA.out.grown G1).hs).block HP.out).mono ?_; rintro e w2 ⟨⟨rfl, hR⟩, hg2⟩
  have G2 := Lib.hid (grown_trans G1 (grown_below hg2))
  have b32 : w2.cell? ⟨w.heap.size, 3, none⟩ = some (.slice so ss.length sc) := grown_cell (grown_below hg2) b3
  have HB3 := Lib.hid b32
  have HR := Lib.hid hR
  have HS2 := Lib.hid ((HA.out.grown G2.out).hs)
  have HR0 : Hid ([] ++ hillsP (zOf ss) (wayN ss) ss.length least dip (ss.length - 0) 0 = L) := hr.out
  have HRL : Hid (w1.heap.size < w2.heap.size) := lt_of_block hR
  clear b3 b32 hR hg2 G1 hr
  generalize w1.heap.size = R at *
  go_wp2_with fail
  go_loopw [10, 11] (fun lv fv wr => ∃ (fr : Nat) (M : List HillV) (v : Value), v = lv ∧ fv = .int .i64 fr ∧ fr ≤ ss.length ∧ Hid (M.length ≤ fr) ∧ Hid (wr.ownsRow w2.heap.size 33 4 v M.length (hillsVs M)) ∧ Hid (w2.grownBy wr none) ∧ Hid (M ++ hillsP (zOf ss) (wayN ss) ss.length least dip (ss.length - fr) fr = L))
    (fun _ fv _ => ss.length - (intOf fv).toNat)
  case atStart => exact ⟨0, [], _, rfl, rfl, Nat.zero_le _, by show _ ≤ _; simp, World.ownsRow_nil _ _ _ _, grown_refl _ _, HR0.out⟩
  case round =>
    obtain ⟨fr, M, v, rfl, rfl, hfr, hml, hown, hg, hw⟩ := hrel
    have b3 := grown_cell hg.out HB3.out
    by_cases hlt : fr < ss.length
    · have HSR := Lib.hid (HS2.out.grown hg.out)
      obtain ⟨b, off, rfl⟩ : ∃ b off, so = some ⟨b, off, none⟩ := by
        have hne : ss ≠ [] := fun h => by rw [h] at hlt; simp at hlt
        cases so with
        | none => exact absurd (HS2.out.nil rfl) hne
        | some p =>
          obtain ⟨b, off, spot⟩ := p
          have hsp := HS2.out.spot _ rfl hne
          simp only at hsp
          subst hsp
          exact ⟨b, off, rfl⟩
      rcases hpe : asc (zOf ss) ss.length dip fr with ⟨p, e⟩
      obtain ⟨f1, f2, f3⟩ := asc_fwd (Z := zOf ss) d0 hlt
      rw [hpe] at f1 f2 f3
      simp only at f1 f2 f3
      have HPE := Lib.hid hpe
      have hw2 := hw.out
      rw [hillsP_at d0 hlt hpe] at hw2
      have hpl : p < ss.length := by omega
      have cp := z_cell HSR.out hpl
      have cf := z_cell HSR.out hlt
      have bp := HZ.out p
      have bf := HZ.out fr
      have hrow := HR.out.grown hg.out
      have yp := hrow.cell hpl
      have yf := hrow.cell hlt
      have wp := wayN_bd HP.out p
      have wf := wayN_bd HP.out fr
      have hhv : hillV (zOf ss) (wayN ss) fr p = ⟨fr, p, zOf ss p - zOf ss fr, wayN ss p - wayN ss fr⟩ := rfl
      rw [hhv] at hw2
      have HW2 := Lib.hid hw2
      clear hpe hw hw2 hhv hrow
      generalize zOf ss p = zp at *
      generalize zOf ss fr = zf at *
      generalize wayN ss p = ap at *
      generalize wayN ss fr = af at *
      have rz : IntKind.i64.wrap (zp - zf) = zp - zf := IntWalk.i64_in _ (by omega)
      have ra : IntKind.i64.wrap (ap - af) = ap - af := IntWalk.i64_in _ (by omega)
      go_wp2_with fail
      refine (ascent_any b off sc ss hl fr hlt dip d0 d1 _ HSR.out HZ HPE).mono ?_; rintro x w3 ⟨rfl, rfl⟩
      by_cases hlow : zp - zf < least
      · have HW3 : Hid (M ++ hillsP (zOf ss) (wayN ss) ss.length least dip (ss.length - e) e = L) := by
          have q := HW2.out; rw [if_pos hlow] at q; exact q
        have hml2 : Hid (M.length ≤ e) := by show _ ≤ _; have := hml.out; omega
        clear HW2 hml
        go_wp2_with fail
        go_quiet (fail)
        go_wp2_with fail
        go_roundw
        case rel => exact ⟨e, M, _, rfl, rfl, by omega, hml2.out, hown.out, grown_trans hg.out (grown_drewN _ _ _), HW3.out⟩
        case measure => simp [intOf]; omega
      · have HW3 : Hid ((M ++ [⟨fr, p, zp - zf, ap - af⟩]) ++ hillsP (zOf ss) (wayN ss) ss.length least dip (ss.length - (p + 1)) (p + 1) = L) := by
          have q := HW2.out; rw [if_neg hlow] at q
          show _ = _; rw [List.append_assoc]; exact q
        have hml2 : Hid (M.length ≤ 20000) := by show _ ≤ _; have := hml.out; omega
        have hml3 : Hid ((M ++ [(⟨fr, p, zp - zf, ap - af⟩ : HillV)]).length ≤ p + 1) := by show _ ≤ _; have := hml.out; simp; omega
        clear HW2 hml
        go_wp2_with fail
        go_quiet (fail)
        go_wp2_with fail
        obtain ⟨W, hWq⟩ : ∃ W, W = wr.drewN nq := ⟨_, rfl⟩
        have xp : W.cell? ⟨R, p, none⟩ = some (.int .i64 ap) := by rw [hWq]; exact yp
        have xf : W.cell? ⟨R, fr, none⟩ = some (.int .i64 af) := by rw [hWq]; exact yf
        have HGW : Hid (w2.grownBy W none) := by rw [hWq]; exact grown_trans hg.out (grown_drewN _ _ _)
        have HOWN : Hid (W.ownsRow w2.heap.size 33 4 v M.length (hillsVs M)) := by rw [hWq]; exact hown.out
        rw [← hWq]
        clear hWq b3 cp cf yp yf
        have hrl := HRL.out
        have hsz2 := HGW.out.size
        have own_ne : v.ownBlock ≠ some R := fun h => by have := (HOWN.out.lt R h).1; omega
        have hi := HI.out; have hz0 := HZ0.out; have hz1 := HZ1.out; have hz2 := HZ2.out
        have fr0 : (0 : Int) ≤ (fr : Int) := by omega
        have fr1 : (fr : Int) < (ss.length : Int) := by omega
        have p0 : (0 : Int) ≤ (p : Int) := by omega
        have p1 : (p : Int) < (ss.length : Int) := by omega
        have lR : R < W.heap.size := by omega
        have hm20 := hml2.out
        go_region_held3 (fun V => V.cell? ⟨R, p, none⟩ = some (.int .i64 ap) ∧ V.cell? ⟨R, fr, none⟩ = some (.int .i64 af))
          (first
            | go_keep
            | (go_split_ands
               refine ⟨?_, ?_⟩
               · (rw [hgrow.cell_far _ (by simp; omega) (Ne.symm own_ne)]; assumption)
               · (rw [hgrow.cell_far _ (by simp; omega) (Ne.symm own_ne)]; assumption)))
          ((refine step_append_lies _ (by rfl) _ _ _ (by rfl) w2.heap.size 33 i0 _ 4 32 Try.underlying27 hi hz0 hz1 hz2 rfl (by omega) v M.length (hillsVs M) (by rfl) ((HOWN.out.alloc _).drew)
              ⟨W.heap.size, 0, none⟩ 1 1 [.int .i64 fr, .int .i64 p, .int .i64 (zp - zf), .int .i64 (ap - af)] (by rfl) (by rfl) (World.news_of_block (cs := #[.int .i64 fr, .int .i64 p, .int .i64 (zp - zf), .int .i64 (ap - af)]) (t := 33) (fr := (0, 0)) (heap_alloc_new W _)) (by simp [Value.oneCell'])
              (by omega) (by unfold maxLen; omega) (by omega) (by simp; omega) (W.heap.size + 1) (by simp) ?_; intro gg cap w4 hown1 hgrow hat hlt4))
        have HOW4 : Hid (w4.ownsRow w2.heap.size 33 4 (.slice (some ⟨gg, 0, none⟩) (M.length + 1) cap) (M ++ [(⟨fr, p, zp - zf, ap - af⟩ : HillV)]).length (hillsVs (M ++ [⟨fr, p, zp - zf, ap - af⟩]))) := by
          show World.ownsRow _ _ _ _ _ _ _; rw [hillsVs_snoc, List.length_append]; exact hown1
        have HG4 : Hid (w2.grownBy w4 none) := grown_own (w := w2) (wr := W) HGW.out (g := ⟨hgrow.os, hgrow.tape, hgrow.output, hgrow.size, hgrow.block⟩) (fun k hk => (HOWN.out.lt k hk).1)
        clear hown1 hgrow hat hlt4 hi hz0 hz1 hz2 xp xf own_ne hrl lR
        go_wp2_with fail
        go_roundw
        case rel => exact ⟨p + 1, M ++ [HillV.mk fr p (zp - zf) (ap - af)], _, rfl, by go_num, by omega, hml3.out, HOW4.out, HG4.out, HW3.out⟩
        case measure => simp [intOf]; omega
    · have hf := hw.out
      rw [hillsP_end (by omega), List.append_nil] at hf
      subst hf
      have HOW : Hid (wr.ownsRow w.heap.size 33 4 v M.length (hillsVs M)) := own_low hown.out G2.out.size
      go_wp2_with fail
      go_ret2
      exact ⟨⟨_, rfl, HOW.out⟩, grown_trans G2.out hg.out⟩

end Go.Proofs.Ytimfgplihppeeaa

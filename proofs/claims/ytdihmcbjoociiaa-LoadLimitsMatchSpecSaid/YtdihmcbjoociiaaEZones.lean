/- The contract of Zones, of both sides. -/
import Derived.Test.YtdihmcbjoociiaaEChecks
import Derived.Test.YtdihmcbjoociiaaEZoneP
import Derived.Deep.OwnRows
import Derived.OwnWalk
namespace Go.Proofs.Ytdihmcbjoociiaa
open Go.RowKit

set_option maxHeartbeats 800000 in
theorem zoneOf_any (n : Int) (ao : Option Addr) (cap : Nat) (zs : List Int) (hl : (zs.length : Int) ≤ 1000000) (w : World) (hs : IntsAt w ao zs) {Z : Nat} (hZ : Hid (zoneN n zs = Z)) :
    Calls Try.prog 130 #[.int .i64 n, .slice ao zs.length cap] w fun e w' => e = .returned (.int .i64 Z) ∧ w = w' := by
  have HS := Lib.hid hs; clear hs
  go_enter Try.func130, Try.ntmps130
  go_wp2
  go_loopw [5] (fun iv wr => ∃ k : Nat, k ≤ zs.length ∧ iv = .int .i64 k ∧ w = wr ∧ Hid (zoneN n (zs.drop k) + k = Z))
    (fun iv _ => zs.length - (intOf iv).toNat)
  case atStart => exact ⟨0, Nat.zero_le _, rfl, rfl, hZ.out⟩
  case round =>
    obtain ⟨k, hk, rfl, rfl, hw⟩ := hrel
    by_cases hlt : k < zs.length
    · obtain ⟨b, off, rfl, hc⟩ := HS.out.at (by omega)
      have c0 := hc k hlt
      have hz := zoneN_at (n := n) hlt
      clear hc
      generalize nthI zs k = x at *
      by_cases a1 : x ≤ n
      · rw [if_pos a1] at hz
        have HE : Hid (zoneN n (zs.drop (k + 1)) + (k + 1) = Z) := by show _ = _; rw [← hw.out, hz]; omega
        clear hw hz
        go_wp2
        go_roundw
        case rel => exact ⟨k + 1, by omega, by go_num, by first | rfl | trivial, HE⟩
        case measure => simp [intOf]; omega
      · rw [if_neg a1] at hz
        have HE : Hid ((k : Int) = (Z : Int)) := by show _ = _; rw [← hw.out, hz]; omega
        clear hw hz
        go_wp2
        go_ret
        exact ⟨ret_int HE.out, rfl⟩
    · have HE : Hid ((k : Int) = (Z : Int)) := by show _ = _; rw [← hw.out, zoneN_end (by omega)]; omega
      go_wp2
      go_ret
      exact ⟨ret_int HE.out, rfl⟩

/-- What Zones returns. -/
def zonesOut (l zs : List Int) : Nat × (Nat → Int) × Int × Int :=
  if streamE l = 0 then (if zonesE zs = 0 then (zs.length + 1, (zonesS zs .init l).F, (zonesS zs .init l).u, 0) else (0, fun _ => 0, 0, zonesE zs)) else (0, fun _ => 0, 0, streamE l)
/-- A list that was made: nothing, or a row. -/
def RowV (w : World) (v : Value) (n : Nat) (F : Nat → Int) : Prop := (n = 0 ∧ v = .slice none 0 0) ∨ ∃ g, v = .slice (some ⟨g, 0, none⟩) n n ∧ RowF w g n F
theorem RowV.grown {w w' : World} {v : Value} {n : Nat} {F : Nat → Int} (r : RowV w v n F) (hg : w.grownBy w' none) : RowV w' v n F := by
  rcases r with r | ⟨g, h, r⟩
  · exact .inl r
  · exact .inr ⟨g, h, r.grown hg⟩

set_option maxRecDepth 100000 in
set_option maxHeartbeats 1600000 in
theorem zones_any (ao : Option Addr) (cap : Nat) (l : List Int) (hl : (l.length : Int) ≤ 9223372036854775807) (zo : Option Addr) (zc : Nat) (zs : List Int) (hz : (zs.length : Int) ≤ 9223372036854775807) (w : World) (hs : IntsAt w ao l) (hzs : IntsAt w zo zs)
    {n : Nat} {F : Nat → Int} {u E : Int} (hE : Hid (zonesOut l zs = (n, F, u, E))) :
    Calls Try.prog 85 #[.slice ao l.length cap, .slice zo zs.length zc] w fun e w' => (∃ v, e = .returned (.tuple #[v, .int .i64 u, .int .i64 E]) ∧ RowV w' v n F) ∧ w.grownBy w' none := by
  obtain ⟨se, hse⟩ : ∃ e, streamE l = e := ⟨_, rfl⟩
  obtain ⟨ze, hze⟩ : ∃ e, zonesE zs = e := ⟨_, rfl⟩
  have hv := hE.out
  unfold zonesOut at hv
  have HSE := Lib.hid hse; have HZE := Lib.hid hze
  have HS := Lib.hid hs; have HZ := Lib.hid hzs
  rw [hse, hze] at hv
  clear hE hs hzs
  by_cases h0 : se = 0
  · rw [if_pos h0] at hv
    subst h0
    have hok := stream_ok hse
    by_cases h1 : ze = 0
    · rw [if_pos h1] at hv
      subst h1
      simp only [Prod.mk.injEq] at hv
      obtain ⟨rfl, rfl, rfl, rfl⟩ := hv
      have hzl := zones_len hze
      have hll := hok.1
      have HNT := Lib.hid hok.2
      clear hse hze hok
      have hmk := run_make_row' (P := Try.prog) 28 3 (.int .i64 0) 8 Try.underlying28 einfo_int rfl .i64 .i64 (zs.length + 1) (by omega) (by omega)
      simp only [Int.natCast_add, Int.natCast_one] at hmk
      obtain ⟨fin, hfin⟩ : ∃ s, zonesS zs .init l = s := ⟨_, rfl⟩
      have HF0 : Hid (zonesS zs .init (l.drop 0) = fin) := hfin
      rw [hfin]
      clear hfin
      go_enter Try.func85, Try.ntmps85
      go_wp2_with (first
        | (go_at_call 74; refine (checkStream_any _ _ _ hl _ HS.out HSE).mono ?_; rintro e w1 ⟨rfl, rfl⟩)
        | (go_at_call 80; refine (checkZones_any _ _ _ hz _ HZ.out HZE).mono ?_; rintro e w1 ⟨rfl, rfl⟩))
      have HR0 : Hid (RowF (w.alloc (.cells (madeCells #[.int .i64 0] (zs.length + 1)) 3)) w.heap.size (zs.length + 1) (fun _ => 0)) := by
        refine ⟨?_⟩
        have q := heap_alloc_new w (.cells (madeCells #[.int .i64 0] (zs.length + 1)) 3)
        rw [rowI_zero] at q ⊢
        exact q
      have HG0 : Hid (w.grownBy (w.alloc (.cells (madeCells #[.int .i64 0] (zs.length + 1)) 3)) none) := World.grownBy_alloc _ _ _
      have HOK0 : Hid (ZSt.init.Ok zs 0) := zok_init zs
      clear hmk
      go_loopw [10, 29] (fun uv iv wr => ∃ (k : Nat) (s : ZSt), k ≤ l.length ∧ uv = .int .i64 s.u ∧ iv = .int .i64 k ∧ Hid (w.grownBy wr none) ∧ Hid (RowF wr w.heap.size (zs.length + 1) s.F) ∧ Hid (s.Ok zs k) ∧ Hid (zonesS zs s (l.drop k) = fin))
        (fun _ iv _ => l.length - (intOf iv).toNat)
      case atStart => exact ⟨0, .init, Nat.zero_le _, rfl, rfl, HG0.out, HR0.out, HOK0.out, HF0.out⟩
      case round =>
        obtain ⟨k, s, hk, rfl, rfl, hg, hr, hok, hw⟩ := hrel
        by_cases hlt : k < l.length
        · obtain ⟨b, off, rfl, hc⟩ := HS.out.at (by omega)
          have c0 := grown_cell hg.out (hc k hlt)
          have HW : Hid (zonesS zs (s.next zs (nthI l k)) (l.drop (k + 1)) = fin) := by show _ = _; rw [← hw.out, zonesS_at hlt]
          have HOK : Hid ((s.next zs (nthI l k)).Ok zs (k + 1)) := zok_next hok.out _
          have hub : s.u ≤ 1000000 := by have := hok.out.u1; omega
          have hub0 := hok.out.u0
          clear hc hw
          generalize nthI l k = x at *
          by_cases a1 : x < 0
          · have e : s.next zs x = ⟨s.F, s.u + 1⟩ := by unfold ZSt.next; rw [if_pos a1]
            rw [e] at HW HOK
            go_wp2
            go_roundw
            case rel => exact ⟨k + 1, ⟨s.F, s.u + 1⟩, by omega, rfl, by go_num, hg.out, hr.out, HOK.out, HW.out⟩
            case measure => simp [intOf]; omega
          · have e : s.next zs x = ⟨upI s.F (zoneN x zs) (s.F (zoneN x zs) + 1), s.u⟩ := by unfold ZSt.next; rw [if_neg a1]
            rw [e] at HW HOK
            have hzle := zoneN_le x zs
            obtain ⟨Z, hZ⟩ : ∃ Z, zoneN x zs = Z := ⟨_, rfl⟩
            have HZN := Lib.hid hZ
            rw [hZ] at HW HOK hzle
            have hzlt : Z < zs.length + 1 := by omega
            have d0 := hr.out.cell hzlt
            have f0 := hr.out.free Z
            have hf0 := hok.out.pos Z
            have hf1 : s.F Z ≤ 1000000 := by have := hok.out.le Z; omega
            have HR1 : Hid (RowF (wr.setCell ⟨w.heap.size, Z, none⟩ (.int .i64 (s.F Z + 1))) w.heap.size (zs.length + 1) (upI s.F Z (s.F Z + 1))) := hr.out.set Z _
            have HG1 : Hid (w.grownBy (wr.setCell ⟨w.heap.size, Z, none⟩ (.int .i64 (s.F Z + 1))) none) := egrown_set hg.out (Nat.le_refl _) _ _
            have hzl2 : (zs.length : Int) ≤ 1000000 := by omega
            have HZ2 : Hid (IntsAt wr zo zs) := HZ.out.grown hg.out
            clear hZ e hok
            generalize s.F Z = y at *
            go_wp2_with (go_at_call 130; refine (zoneOf_any _ _ _ _ hzl2 _ HZ2.out HZN).mono ?_; rintro e w1 ⟨rfl, rfl⟩)
            go_roundw
            case rel => exact ⟨k + 1, ⟨upI s.F Z (y + 1), s.u⟩, by omega, rfl, by go_num, HG1.out, HR1.out, HOK.out, HW.out⟩
            case measure => simp [intOf]; omega
        · have hf := hw.out
          rw [zonesS_end (by omega)] at hf
          subst hf
          go_wp2
          go_ret3
          exact ⟨⟨_, rfl, .inr ⟨_, rfl, hr.out⟩⟩, hg.out⟩
    · rw [if_neg h1] at hv
      simp only [Prod.mk.injEq] at hv
      obtain ⟨rfl, rfl, rfl, rfl⟩ := hv
      have hne : (ze != 0) = true := by simpa using h1
      clear hse hze hok h1
      go_enter Try.func85, Try.ntmps85
      go_wp2_with (first
        | (go_at_call 74; refine (checkStream_any _ _ _ hl _ HS.out HSE).mono ?_; rintro e w1 ⟨rfl, rfl⟩)
        | (go_at_call 80; refine (checkZones_any _ _ _ hz _ HZ.out HZE).mono ?_; rintro e w1 ⟨rfl, rfl⟩))
      go_ret3
      exact ⟨⟨_, rfl, .inl ⟨rfl, rfl⟩⟩, grown_refl _ _⟩
  · rw [if_neg h0] at hv
    simp only [Prod.mk.injEq] at hv
    obtain ⟨rfl, rfl, rfl, rfl⟩ := hv
    have hne : (se != 0) = true := by simpa using h0
    clear hse hze h0
    go_enter Try.func85, Try.ntmps85
    go_wp2_with (go_at_call 74; refine (checkStream_any _ _ _ hl _ HS.out HSE).mono ?_; rintro e w1 ⟨rfl, rfl⟩)
    go_ret3
    exact ⟨⟨_, rfl, .inl ⟨rfl, rfl⟩⟩, grown_refl _ _⟩

end Go.Proofs.Ytdihmcbjoociiaa

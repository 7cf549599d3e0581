/- Texts that all laws of this seat use, one behind the other. -/
import Derived.Test.YtgkhhfojioepgaaBaseC
import Derived.Test.YtgkhhfojioepgaaShelf
import Derived.Maps.AppendAt
import Derived.Deep.AppendLies
import Derived.OwnWalk
import Derived.WalkKit
import Derived.WalkSpells
import Derived.WalkLawsBesides
import Derived.Handy
import Derived.Lib.Hide
import Derived.Deep.QuietTactic
import Derived.BigQuiet
import Derived.Deep.CutBlock
import Derived.Deep.DeepCutAuto
import Derived.Test.YtgkhhfojioepgaaProg
import Derived.Deep.RegionWith
import Derived.Lib.ItoaNum
import Derived.Laws.BitsAllLaws
import Derived.Laws.EntriesVeiled
import Derived.Test.YtgkhhfojioepgaaBaseB
import Derived.Laws.Rows
namespace Go.Proofs.Ytgkhhfojioepgaa
open Go.RowKit
set_option linter.unusedSimpArgs false
set_option linter.unusedVariables false

theorem equal_ints {w : World} {ao1 ao2 : Option Addr} {n c1 c2 : Nat} {F G : Nat → Int} (h1 : IntsC w ao1 n F) (h2 : IntsC w ao2 n G) (hFG : ∀ j, j < n → F j = G j) (hn : n ≤ 9223372036854775807) :
    Calls Try.prog 44 #[.slice ao1 n c1, .slice ao2 n c2] w fun e w' => e = .returned (.bool true) ∧ w.grownBy w' none := by
  rcases Nat.eq_zero_or_pos n with h0 | h0
  · subst h0
    refine (Try.slices_Equal_int_empty ao1 ao2 c1 0 c2 w (by omega)).mono ?_
    rintro e w' ⟨rfl, rfl⟩
    exact ⟨rfl, grown_refl _ _⟩
  · obtain ⟨g1, rfl, _⟩ := h1 0 h0
    obtain ⟨g2, rfl, _⟩ := h2 0 h0
    have hc1 : ∀ j, j < n → w.cell? ⟨g1, j, none⟩ = some (.int .i64 (F j)) := fun j hj => by
      obtain ⟨g, e, h⟩ := h1 j hj
      injection e with e; injection e with e1 _ _; subst e1; exact h
    have hc2 : ∀ j, j < n → w.cell? ⟨g2, j, none⟩ = some (.int .i64 (F j)) := fun j hj => by
      obtain ⟨g, e, h⟩ := h2 j hj
      injection e with e; injection e with e1 _ _; subst e1; rw [hFG j hj]; exact h
    have hlen : ((List.range n).map F).length = n := by simp
    refine (Try.slices_Equal_int g1 0 n c1 g2 0 n c2 ((List.range n).map F) ((List.range n).map F) w (by omega) (by omega) hn hn (fun j hj => ?_) (fun j hj => ?_)).mono ?_
    · rw [hlen] at hj
      rw [List.getD_eq_getElem?_getD]
      simpa [hj] using hc1 j hj
    · rw [hlen] at hj
      rw [List.getD_eq_getElem?_getD]
      simpa [hj] using hc2 j hj
    · rintro e w' ⟨rfl, q, rfl⟩
      exact ⟨by simp, grown_drewN _ _ _⟩

def hillA (g cap : Nat) : Act := ⟨⟨#[97]⟩, 1, 0, some ⟨g, 0, none⟩, cap, hillL, none, 0, [], none, 0, []⟩
theorem hill_chk (g cap : Nat) : chkE (hillA g cap) = 0 := by rfl
theorem hill_at {w : World} {base g cap : Nat} (h : w.ownsRow base 28 7 (.slice (some ⟨g, 0, none⟩) 4 cap) 4 (hillVs 4)) : ActAt w (hillA g cap) := by
  have hc : ∀ (n : Nat) (u : Value), (hillVs 4)[n]? = some u → w.cell? ⟨g, n, none⟩ = some u := fun n u hu => by
    have q := h.cells (g := g) rfl n u hu
    have e : (⟨g, 0, none⟩ : Addr).add n = ⟨g, n, none⟩ := by unfold Addr.add; split <;> simp_all
    rw [e] at q; exact q
  refine ⟨(by show (1 : Nat) ≤ 140737488355328; decide), (by show ((4 : Nat) : Int) ≤ 9223372036854775807; decide), (by show ((0 : Nat) : Int) ≤ 9223372036854775807; decide), (by show ((0 : Nat) : Int) ≤ 9223372036854775807; decide), ⟨fun h => (by cases h), fun a ha _ => (by cases ha; rfl), fun a ha i hi => ?_⟩, ⟨fun _ => rfl, fun a ha => (by cases ha), fun a ha => (by cases ha), fun i hi => absurd hi (by simp [hillA])⟩, ⟨fun _ => rfl, fun a ha => (by cases ha), fun a ha => (by cases ha), fun i hi => absurd hi (by simp [hillA])⟩⟩
  cases ha
  have h4 : i < 4 := hi
  match i, h4 with
  | 0, _ => exact ⟨hc 0 _ rfl, hc 1 _ rfl, hc 2 _ rfl, hc 3 _ rfl, hc 4 _ rfl, hc 5 _ rfl, hc 6 _ rfl⟩
  | 1, _ => exact ⟨hc 7 _ rfl, hc 8 _ rfl, hc 9 _ rfl, hc 10 _ rfl, hc 11 _ rfl, hc 12 _ rfl, hc 13 _ rfl⟩
  | 2, _ => exact ⟨hc 14 _ rfl, hc 15 _ rfl, hc 16 _ rfl, hc 17 _ rfl, hc 18 _ rfl, hc 19 _ rfl, hc 20 _ rfl⟩
  | 3, _ => exact ⟨hc 21 _ rfl, hc 22 _ rfl, hc 23 _ rfl, hc 24 _ rfl, hc 25 _ rfl, hc 26 _ rfl, hc 27 _ rfl⟩

theorem root_2500 : rootI 2500 = 50 := by
  obtain ⟨r, hr, hi⟩ := rootI_is 2500
  have h50 : IsRoot (2500 : Int).toNat 50 := by unfold IsRoot; decide
  have := root_one hi h50
  omega
theorem hill_ways (j : Nat) (hj : j < 4) : wayN hillL j = 50 * j := by
  have s : ∀ k, k < 3 → stepW (smpD hillL k) (smpD hillL (k + 1)) = 50 := fun k hk => by
    have e : sqP (smpD hillL k) (smpD hillL (k + 1)) = 2500 := by
      match k, hk with
      | 0, _ => decide
      | 1, _ => decide
      | 2, _ => decide
    unfold stepW; rw [e]; exact root_2500
  match j, hj with
  | 0, _ => rfl
  | 1, _ => have a := s 0 (by omega); simp only [wayN]; simp only [Nat.zero_add] at *; rw [a]; rfl
  | 2, _ => have a := s 0 (by omega); have b := s 1 (by omega); simp only [wayN]; simp only [Nat.zero_add, Nat.reduceAdd] at *; rw [a, b]; rfl
  | 3, _ => have a := s 0 (by omega); have b := s 1 (by omega); have c := s 2 (by omega); simp only [wayN]; simp only [Nat.zero_add, Nat.reduceAdd] at *; rw [a, b, c]; rfl
theorem hill_z (k : Nat) : -100000 ≤ (smpD hillL k).z ∧ (smpD hillL k).z ≤ 100000 := by
  match k with
  | 0 => decide
  | 1 => decide
  | 2 => decide
  | 3 => decide
  | n + 4 => exact ⟨by show -100000 ≤ (0 : Int); decide, by show (0 : Int) ≤ 100000; decide⟩

set_option maxHeartbeats 1600000 in
theorem told_any (w : World) : Calls Try.prog 20 #[] w fun x w' => x = .returned (.bool true) ∧ w.grownBy w' none := by
  go_enter Try.func20, Try.ntmps20
  go_wp2_with fail
  refine (hill_any _).mono ?_; rintro x w1 ⟨⟨g, cap, rfl, hown⟩, hg1⟩
  have hA := hill_at hown
  have HA := Lib.hid hA
  clear hown hA
  go_wp2_with fail
  refine (ways_any (hillA g cap) w1 HA.out (n := 4) (E := 0) rfl).mono ?_; rintro x w2 ⟨⟨ao, cap2, rfl, hI⟩, hg2⟩
  have HI := Lib.hid hI
  have G2 := Lib.hid (grown_trans hg1 hg2)
  clear hI HA hg1 hg2
  go_wp2_with fail
  refine (hill_any _).mono ?_; rintro x w3 ⟨⟨g3, cap3, rfl, hown⟩, hg3⟩
  have hcap : 4 ≤ cap3 := by
    rcases hown.2 with ⟨hx, _⟩ | ⟨g', c', cur, hx, _, _, hle, _⟩
    · cases hx
    · injection hx with _ _ h3; omega
  have HA := Lib.hid (hill_at hown)
  have HI3 := Lib.hid (HI.out.grown hg3)
  have G3 := Lib.hid (grown_trans G2.out hg3)
  clear hown HI G2 hg3
  go_wp2_with fail
  refine (climb_two ⟨#[97]⟩ 1 0 g3 0 cap3 hillL none 0 [] none 0 [] 11 (by omega) (by omega) (by decide) (by decide) hcap w3 HA (Lib.hid (hill_chk g3 cap3)) (Lib.hid hill_z) (r := ⟨15, 0, 0, 15⟩) (by show _ = _; decide)).mono ?_; rintro x w4 ⟨rfl, hg4⟩
  have HI4 := Lib.hid (HI3.out.grown hg4)
  have G4 := Lib.hid (grown_trans G3.out hg4)
  clear HA HI3 G3 hg4
  go_wp2_with fail
  have IB : IntsC ((w4.alloc (.cells #[.int .i64 15, .int .i64 0, .int .i64 0] 81)).alloc (.cells #[.int .i64 0, .int .i64 50, .int .i64 100, .int .i64 150] 3)) (some ⟨w4.heap.size + 1, 0, none⟩) 4 (fun j => 50 * j) := fun j hj => by
    refine ⟨_, rfl, ?_⟩
    match j, hj with
    | 0, _ => go_simp
    | 1, _ => go_simp
    | 2, _ => go_simp
    | 3, _ => go_simp
  refine (equal_ints (HI4.out.grown (grown_trans (World.grownBy_alloc _ _ _) (World.grownBy_alloc _ _ _))) IB (fun j hj => hill_ways j hj) (by omega)).mono ?_; rintro e w5 ⟨rfl, hg5⟩
  have c0 : w5.cell? ⟨w4.heap.size, 0, none⟩ = some (.int .i64 15) := grown_cell hg5 (by go_simp)
  have c1 : w5.cell? ⟨w4.heap.size, 1, none⟩ = some (.int .i64 0) := grown_cell hg5 (by go_simp)
  have c2 : w5.cell? ⟨w4.heap.size, 2, none⟩ = some (.int .i64 0) := grown_cell hg5 (by go_simp)
  have G5 := Lib.hid (grown_trans G4.out (grown_trans (grown_trans (World.grownBy_alloc _ _ _) (World.grownBy_alloc _ _ _)) hg5))
  clear IB hg5 HI4 G4
  go_wp2_with fail
  go_ret
  exact ⟨rfl, G5.out⟩
end Go.Proofs.Ytgkhhfojioepgaa
namespace Go.Proofs.Ytgkhhfojioepgaa
open Go.RowKit
set_option linter.unusedSimpArgs false
set_option linter.unusedVariables false

theorem smps_at {w : World} {ao : Option Addr} {l : List Smp} (h : SmpsAt w ao l) (hne : 0 < l.length) : ∃ b off, ao = some ⟨b, off, none⟩ ∧ ∀ i (h : i < l.length), w.cell? ⟨b, off + i * 7, none⟩ = some (.int .i64 l[i].t) ∧ w.cell? ⟨b, off + i * 7 + 1, none⟩ = some (.int .i64 l[i].x) ∧ w.cell? ⟨b, off + i * 7 + 2, none⟩ = some (.int .i64 l[i].y) ∧ w.cell? ⟨b, off + i * 7 + 3, none⟩ = some (.int .i64 l[i].z) ∧ w.cell? ⟨b, off + i * 7 + 4, none⟩ = some (.int .i64 l[i].p) ∧ w.cell? ⟨b, off + i * 7 + 5, none⟩ = some (.int .i64 l[i].q) ∧ w.cell? ⟨b, off + i * 7 + 6, none⟩ = some (.int .i64 l[i].s) := by
  have hn : l ≠ [] := fun e => by rw [e] at hne; simp at hne
  cases hao : ao with
  | none => exact absurd (h.nil hao) hn
  | some p =>
    obtain ⟨b, off, spot⟩ := p
    have hsp := h.spot _ hao hn
    simp only at hsp
    subst hsp
    exact ⟨b, off, rfl, fun i hi => h.cells _ hao i hi⟩
theorem lapsS_at {w : World} {ao : Option Addr} {l : List LapV} (h : LapsAt w ao l) (hne : 0 < l.length) : ∃ b off, ao = some ⟨b, off, none⟩ ∧ ∀ i (h : i < l.length), w.cell? ⟨b, off + i * 3, none⟩ = some (.int .i64 l[i].fr) ∧ w.cell? ⟨b, off + i * 3 + 1, none⟩ = some (.int .i64 l[i].to_) ∧ w.cell? ⟨b, off + i * 3 + 2, none⟩ = some (.string l[i].name) := by
  have hn : l ≠ [] := fun e => by rw [e] at hne; simp at hne
  cases hao : ao with
  | none => exact absurd (h.nil hao) hn
  | some p =>
    obtain ⟨b, off, spot⟩ := p
    have hsp := h.spot _ hao hn
    simp only at hsp
    subst hsp
    exact ⟨b, off, rfl, fun i hi => h.cells _ hao i hi⟩

set_option maxHeartbeats 1600000 in
theorem equal_smps {w : World} {a1 a2 : Option Addr} {c1 c2 : Nat} {L : List Smp} (h1 : SmpsAt w a1 L) (h2 : SmpsAt w a2 L) (hn : (L.length : Int) ≤ 9223372036854775807) :
    Calls Try.prog 64 #[.slice a1 L.length c1, .slice a2 L.length c2] w fun e w' => e = .returned (.bool true) ∧ w.grownBy w' none := by
  have Q1 := Lib.hid h1; have Q2 := Lib.hid h2
  clear h1 h2
  go_enter Try.func64, Try.ntmps64
  go_wp2_with fail
  go_loopw [13] (fun iv wr => ∃ k : Nat, k ≤ L.length ∧ iv = .int .i64 k ∧ Hid (w.grownBy wr none)) (fun iv _ => L.length - (intOf iv).toNat)
  case atStart => exact ⟨0, Nat.zero_le _, rfl, grown_refl _ _⟩
  case round =>
    obtain ⟨k, hk, rfl, hg⟩ := hrel
    by_cases hlt : k < L.length
    · obtain ⟨b1, o1, rfl, q1⟩ := smps_at (Q1.out.grown hg.out) (by omega)
      obtain ⟨b2, o2, rfl, q2⟩ := smps_at (Q2.out.grown hg.out) (by omega)
      obtain ⟨x0, x1, x2, x3, x4, x5, x6⟩ := q1 k hlt
      obtain ⟨y0, y1, y2, y3, y4, y5, y6⟩ := q2 k hlt
      generalize L[k] = h at *
      obtain ⟨z0, z1, z2, z3, z4, z5, z6⟩ := h
      simp only at x0 x1 x2 x3 x4 x5 x6 y0 y1 y2 y3 y4 y5 y6
      clear q1 q2
      go_wp2_with fail
      go_quiet (fail)
      go_wp2_with fail
      go_roundw
      case rel => exact ⟨k + 1, by omega, by go_num, grown_trans hg.out (grown_drewN _ _ _)⟩
      case measure => simp [intOf]; omega
    · go_wp2_with fail
      go_ret
      exact ⟨rfl, hg.out⟩

set_option maxHeartbeats 1600000 in
theorem equal_laps {w : World} {a1 a2 : Option Addr} {c1 c2 : Nat} {L : List LapV} (h1 : LapsAt w a1 L) (h2 : LapsAt w a2 L) (hn : (L.length : Int) ≤ 9223372036854775807) :
    Calls Try.prog 65 #[.slice a1 L.length c1, .slice a2 L.length c2] w fun e w' => e = .returned (.bool true) ∧ w.grownBy w' none := by
  have Q1 := Lib.hid h1; have Q2 := Lib.hid h2
  clear h1 h2
  go_enter Try.func65, Try.ntmps65
  go_wp2_with fail
  go_loopw [13] (fun iv wr => ∃ k : Nat, k ≤ L.length ∧ iv = .int .i64 k ∧ Hid (w.grownBy wr none)) (fun iv _ => L.length - (intOf iv).toNat)
  case atStart => exact ⟨0, Nat.zero_le _, rfl, grown_refl _ _⟩
  case round =>
    obtain ⟨k, hk, rfl, hg⟩ := hrel
    by_cases hlt : k < L.length
    · obtain ⟨b1, o1, rfl, q1⟩ := lapsS_at (Q1.out.grown hg.out) (by omega)
      obtain ⟨b2, o2, rfl, q2⟩ := lapsS_at (Q2.out.grown hg.out) (by omega)
      obtain ⟨x0, x1, x2⟩ := q1 k hlt
      obtain ⟨y0, y1, y2⟩ := q2 k hlt
      generalize L[k] = h at *
      obtain ⟨z0, z1, z2⟩ := h
      simp only at x0 x1 x2 y0 y1 y2
      clear q1 q2
      go_wp2_with fail
      go_quiet (fail)
      go_wp2_with fail
      go_roundw
      case rel => exact ⟨k + 1, by omega, by go_num, grown_trans hg.out (grown_drewN _ _ _)⟩
      case measure => simp [intOf]; omega
    · go_wp2_with fail
      go_ret
      exact ⟨rfl, hg.out⟩
end Go.Proofs.Ytgkhhfojioepgaa
namespace Go.Proofs.Ytgkhhfojioepgaa
open Go.RowKit
set_option linter.unusedSimpArgs false
set_option linter.unusedVariables false

def smpCs (x : Smp) : List Value := [.int .i64 x.t, .int .i64 x.x, .int .i64 x.y, .int .i64 x.z, .int .i64 x.p, .int .i64 x.q, .int .i64 x.s]
def lapRc (x : LapV) : List Value := [.int .i64 x.fr, .int .i64 x.to_, .string x.name]
def smpRw (l : List Smp) : List Value := l.flatMap smpCs
def lapRw (l : List LapV) : List Value := l.flatMap lapRc
def tagRw (l : List ByteArray) : List Value := l.map Value.string

theorem flat_len {α : Type} (f : α → List Value) (c : Nat) (hf : ∀ x, (f x).length = c) : ∀ l : List α, (l.flatMap f).length = l.length * c
  | [] => by simp
  | x :: r => by rw [List.flatMap_cons, List.length_append, hf, flat_len f c hf r, List.length_cons, Nat.add_mul]; omega
theorem flatR_at {α : Type} (f : α → List Value) (c : Nat) (hf : ∀ x, (f x).length = c) : ∀ (l : List α) (j i : Nat) (hj : j < l.length), i < c → (l.flatMap f)[j * c + i]? = (f l[j])[i]?
  | x :: r, 0, i, _, hi => by
    rw [List.flatMap_cons, List.getElem?_append_left (by rw [hf]; omega)]; simp
  | x :: r, j + 1, i, hj, hi => by
    rw [List.flatMap_cons, List.getElem?_append_right (by rw [hf, Nat.add_mul]; omega), hf]
    have e : (j + 1) * c + i - c = j * c + i := by rw [Nat.add_mul]; omega
    rw [e]
    exact flatR_at f c hf r j i (by simpa using hj) hi
theorem smpRw_len (l : List Smp) : (smpRw l).length = l.length * 7 := flat_len smpCs 7 (fun _ => rfl) l
theorem lapRw_len (l : List LapV) : (lapRw l).length = l.length * 3 := flat_len lapRc 3 (fun _ => rfl) l
theorem tagRw_len (l : List ByteArray) : (tagRw l).length = l.length * 1 := by unfold tagRw; simp
theorem smpRw_snoc (l : List Smp) (x : Smp) : smpRw (l ++ [x]) = smpRw l ++ smpCs x := by unfold smpRw; simp
theorem lapRw_snoc (l : List LapV) (x : LapV) : lapRw (l ++ [x]) = lapRw l ++ lapRc x := by unfold lapRw; simp
theorem smpRw_one (l : List Smp) : ∀ u ∈ smpRw l, u.oneCell' = true := fun u hu => by
  obtain ⟨x, _, h⟩ := List.mem_flatMap.1 hu
  simp only [smpCs, List.mem_cons, List.not_mem_nil, or_false] at h
  rcases h with rfl | rfl | rfl | rfl | rfl | rfl | rfl <;> rfl
theorem lapRw_one (l : List LapV) : ∀ u ∈ lapRw l, u.oneCell' = true := fun u hu => by
  obtain ⟨x, _, h⟩ := List.mem_flatMap.1 hu
  simp only [lapRc, List.mem_cons, List.not_mem_nil, or_false] at h
  rcases h with rfl | rfl | rfl <;> rfl
theorem tagRw_one (l : List ByteArray) : ∀ u ∈ tagRw l, u.oneCell' = true := fun u hu => by
  obtain ⟨x, _, rfl⟩ := List.mem_map.1 hu; rfl

theorem add_off (b o k : Nat) : (⟨b, o, none⟩ : Addr).add k = ⟨b, o + k, none⟩ := by unfold Addr.add; split <;> simp_all
theorem row_split {c k : Nat} (hc : 0 < c) : k = (k / c) * c + k % c ∧ k % c < c := ⟨by have := Nat.div_add_mod k c; rw [Nat.mul_comm] at this; omega, Nat.mod_lt _ hc⟩

theorem SmpsAt.row {w : World} {a : Addr} {l : List Smp} (h : SmpsAt w (some a) l) : ∀ k u, (smpRw l)[k]? = some u → w.cell? (a.add k) = some u := fun k u hu => by
  have hk : k < (smpRw l).length := (List.getElem?_eq_some_iff.1 hu).1
  rw [smpRw_len] at hk
  obtain ⟨he, hi⟩ := row_split (c := 7) (k := k) (by omega)
  have hj : k / 7 < l.length := by omega
  have hne : l ≠ [] := fun e => by rw [e] at hj; simp at hj
  have hsp := h.spot _ rfl hne
  obtain ⟨b, o, sp⟩ := a
  simp only at hsp; subst hsp
  obtain ⟨h0, h1, h2, h3, h4, h5, h6⟩ := h.cells _ rfl (k / 7) hj
  rw [he, show smpRw l = l.flatMap smpCs from rfl, flatR_at smpCs 7 (fun _ => rfl) l _ _ hj hi] at hu
  rw [add_off]
  simp only at h0 h1 h2 h3 h4 h5 h6
  generalize hq : k % 7 = q at *
  rw [he, ← Nat.add_assoc]
  match q, hi, hu with
  | 0, _, hu => cases hu; simpa using h0
  | 1, _, hu => cases hu; exact h1
  | 2, _, hu => cases hu; exact h2
  | 3, _, hu => cases hu; exact h3
  | 4, _, hu => cases hu; exact h4
  | 5, _, hu => cases hu; exact h5
  | 6, _, hu => cases hu; exact h6
theorem LapsAt.row {w : World} {a : Addr} {l : List LapV} (h : LapsAt w (some a) l) : ∀ k u, (lapRw l)[k]? = some u → w.cell? (a.add k) = some u := fun k u hu => by
  have hk : k < (lapRw l).length := (List.getElem?_eq_some_iff.1 hu).1
  rw [lapRw_len] at hk
  obtain ⟨he, hi⟩ := row_split (c := 3) (k := k) (by omega)
  have hj : k / 3 < l.length := by omega
  have hne : l ≠ [] := fun e => by rw [e] at hj; simp at hj
  have hsp := h.spot _ rfl hne
  obtain ⟨b, o, sp⟩ := a
  simp only at hsp; subst hsp
  obtain ⟨h0, h1, h2⟩ := h.cells _ rfl (k / 3) hj
  rw [he, show lapRw l = l.flatMap lapRc from rfl, flatR_at lapRc 3 (fun _ => rfl) l _ _ hj hi] at hu
  rw [add_off]
  simp only at h0 h1 h2
  generalize hq : k % 3 = q at *
  rw [he, ← Nat.add_assoc]
  match q, hi, hu with
  | 0, _, hu => cases hu; simpa using h0
  | 1, _, hu => cases hu; exact h1
  | 2, _, hu => cases hu; exact h2
theorem TagsAt.row {w : World} {a : Addr} {l : List ByteArray} (h : TagsAt w (some a) l) : ∀ k u, (tagRw l)[k]? = some u → w.cell? (a.add k) = some u := fun k u hu => by
  have hk : k < (tagRw l).length := (List.getElem?_eq_some_iff.1 hu).1
  rw [tagRw_len, Nat.mul_one] at hk
  have hne : l ≠ [] := fun e => by rw [e] at hk; simp at hk
  have hsp := h.spot _ rfl hne
  obtain ⟨b, o, sp⟩ := a
  simp only at hsp; subst hsp
  have h0 := h.cells _ rfl k hk
  unfold tagRw at hu
  rw [List.getElem?_map, List.getElem?_eq_getElem hk] at hu
  rw [add_off]; cases hu; exact h0

theorem own_smps {w : World} {base : Nat} {v : Value} {l : List Smp} (h : w.ownsRow base 28 7 v l.length (smpRw l)) : ∃ ao cap, v = .slice ao l.length cap ∧ SmpsAt w ao l ∧ (∀ a, ao = some a → base ≤ a.block ∧ a.block < w.heap.size) := by
  have hlt := h.lt
  rcases h.2 with ⟨hv, h0⟩ | ⟨g, cap, cur, hv, hb, hg, _⟩
  · have hl : l = [] := List.eq_nil_of_length_eq_zero h0
    subst hl
    exact ⟨none, 0, hv, ⟨fun _ => rfl, fun a h => by simp at h, fun a h => by simp at h⟩, fun a h => by simp at h⟩
  · refine ⟨some ⟨g, 0, none⟩, cap, hv, ⟨fun h => by simp at h, fun a ha _ => by cases ha; rfl, fun a ha i hi => ?_⟩, fun a ha => by cases ha; exact hlt g (by rw [hv]; rfl)⟩
    cases ha
    have q : ∀ (k : Nat) (u : Value), k < 7 → (smpCs l[i])[k]? = some u → w.cell? ⟨g, 0 + i * 7 + k, none⟩ = some u := fun k u hk hu => by
      have := h.cells (g := g) (by rw [hv]; rfl) (i * 7 + k) u (by rw [show smpRw l = l.flatMap smpCs from rfl, flatR_at smpCs 7 (fun _ => rfl) l i k hi hk]; exact hu)
      rw [add_off] at this; simpa [Nat.add_assoc] using this
    exact ⟨q 0 _ (by omega) rfl, q 1 _ (by omega) rfl, q 2 _ (by omega) rfl, q 3 _ (by omega) rfl, q 4 _ (by omega) rfl, q 5 _ (by omega) rfl, q 6 _ (by omega) rfl⟩
theorem own_lapsR {w : World} {base : Nat} {v : Value} {l : List LapV} (h : w.ownsRow base 77 3 v l.length (lapRw l)) (hz : ∀ i (h : i < l.length), l[i].name.size ≤ 140737488355328) : ∃ ao cap, v = .slice ao l.length cap ∧ LapsAt w ao l ∧ (∀ a, ao = some a → base ≤ a.block ∧ a.block < w.heap.size) := by
  have hlt := h.lt
  rcases h.2 with ⟨hv, h0⟩ | ⟨g, cap, cur, hv, hb, hg, _⟩
  · have hl : l = [] := List.eq_nil_of_length_eq_zero h0
    subst hl
    exact ⟨none, 0, hv, ⟨fun _ => rfl, fun a h => by simp at h, fun a h => by simp at h, hz⟩, fun a h => by simp at h⟩
  · refine ⟨some ⟨g, 0, none⟩, cap, hv, ⟨fun h => by simp at h, fun a ha _ => by cases ha; rfl, fun a ha i hi => ?_, hz⟩, fun a ha => by cases ha; exact hlt g (by rw [hv]; rfl)⟩
    cases ha
    have q : ∀ (k : Nat) (u : Value), k < 3 → (lapRc l[i])[k]? = some u → w.cell? ⟨g, 0 + i * 3 + k, none⟩ = some u := fun k u hk hu => by
      have := h.cells (g := g) (by rw [hv]; rfl) (i * 3 + k) u (by rw [show lapRw l = l.flatMap lapRc from rfl, flatR_at lapRc 3 (fun _ => rfl) l i k hi hk]; exact hu)
      rw [add_off] at this; simpa [Nat.add_assoc] using this
    exact ⟨q 0 _ (by omega) rfl, q 1 _ (by omega) rfl, q 2 _ (by omega) rfl⟩
theorem own_tags {w : World} {base : Nat} {v : Value} {l : List ByteArray} (h : w.ownsRow base 9 1 v l.length (tagRw l)) (hz : ∀ i (h : i < l.length), l[i].size ≤ 140737488355328) : ∃ ao cap, v = .slice ao l.length cap ∧ TagsAt w ao l ∧ (∀ a, ao = some a → base ≤ a.block ∧ a.block < w.heap.size) := by
  have hlt := h.lt
  rcases h.2 with ⟨hv, h0⟩ | ⟨g, cap, cur, hv, hb, hg, _⟩
  · have hl : l = [] := List.eq_nil_of_length_eq_zero h0
    subst hl
    exact ⟨none, 0, hv, ⟨fun _ => rfl, fun a h => by simp at h, fun a h => by simp at h, hz⟩, fun a h => by simp at h⟩
  · refine ⟨some ⟨g, 0, none⟩, cap, hv, ⟨fun h => by simp at h, fun a ha _ => by cases ha; rfl, fun a ha i hi => ?_, hz⟩, fun a ha => by cases ha; exact hlt g (by rw [hv]; rfl)⟩
    cases ha
    have := h.cells (g := g) (by rw [hv]; rfl) i (.string l[i]) (by unfold tagRw; rw [List.getElem?_map, List.getElem?_eq_getElem hi]; rfl)
    rw [add_off] at this; simpa using this

/-- A value is an activity of this content. -/
def ActIs (w : World) (v : Value) (c : Act) : Prop := ∃ so sc lo lc to_ tc, v = (⟨c.name, c.sport, c.start, so, sc, c.ss, lo, lc, c.ls, to_, tc, c.ts⟩ : Act).val ∧ ActAt w ⟨c.name, c.sport, c.start, so, sc, c.ss, lo, lc, c.ls, to_, tc, c.ts⟩
theorem ActIs.grown {w w' : World} {v : Value} {c : Act} (h : ActIs w v c) (g : w.grownBy w' none) : ActIs w' v c := by
  obtain ⟨so, sc, lo, lc, to_, tc, hv, ha⟩ := h
  exact ⟨so, sc, lo, lc, to_, tc, hv, ha.grown g⟩
theorem ActAt.is {w : World} {a : Act} (h : ActAt w a) : ActIs w a.val a := ⟨a.so, a.sc, a.lo, a.lc, a.to_, a.tc, rfl, h⟩
def act0 : Act := ⟨⟨#[]⟩, 0, 0, none, 0, [], none, 0, [], none, 0, []⟩
theorem act0_at (w : World) : ActAt w act0 := by
  have q : ∀ a : Addr, ¬ ((none : Option Addr) = some a) := fun a h => by simp at h
  refine ⟨by show (0 : Nat) ≤ _; omega, by show ((0 : Nat) : Int) ≤ _; omega, by show ((0 : Nat) : Int) ≤ _; omega, by show ((0 : Nat) : Int) ≤ _; omega, ⟨fun _ => rfl, fun a h => absurd h (q a), fun a h => absurd h (q a)⟩, ⟨fun _ => rfl, fun a h => absurd h (q a), fun a h => absurd h (q a), fun i h => absurd h (Nat.not_lt_zero i)⟩, ⟨fun _ => rfl, fun a h => absurd h (q a), fun a h => absurd h (q a), fun i h => absurd h (Nat.not_lt_zero i)⟩⟩
theorem act0_is (w : World) : ActIs w (.agg #[.string ⟨#[]⟩, .int .i64 0, .int .i64 0, .slice none 0 0, .slice none 0 0, .slice none 0 0]) act0 := (act0_at w).is
end Go.Proofs.Ytgkhhfojioepgaa
namespace Go.Proofs.Ytgkhhfojioepgaa
open Go.RowKit
set_option linter.unusedSimpArgs false
set_option linter.unusedVariables false

theorem tagsS_at {w : World} {ao : Option Addr} {l : List ByteArray} (h : TagsAt w ao l) (hne : 0 < l.length) : ∃ b off, ao = some ⟨b, off, none⟩ ∧ ∀ i (h : i < l.length), w.cell? ⟨b, off + i, none⟩ = some (.string l[i]) := by
  have hn : l ≠ [] := fun e => by rw [e] at hne; simp at hne
  cases hao : ao with
  | none => exact absurd (h.nil hao) hn
  | some p =>
    obtain ⟨b, off, spot⟩ := p
    have hsp := h.spot _ hao hn
    simp only at hsp
    subst hsp
    exact ⟨b, off, rfl, fun i hi => h.cells _ hao i hi⟩

theorem equal_tags {w : World} {a1 a2 : Option Addr} {c1 c2 : Nat} {L : List ByteArray} (h1 : TagsAt w a1 L) (h2 : TagsAt w a2 L) (hn : L.length ≤ 9223372036854775807) :
    Calls Try.prog 66 #[.slice a1 L.length c1, .slice a2 L.length c2] w fun e w' => e = .returned (.bool true) ∧ w.grownBy w' none := by
  rcases Nat.eq_zero_or_pos L.length with h0 | h0
  · rw [h0]
    refine (Try.slices_Equal_string_empty a1 a2 c1 0 c2 w (by omega)).mono ?_
    rintro e w' ⟨rfl, rfl⟩
    exact ⟨rfl, grown_refl _ _⟩
  · obtain ⟨b1, o1, rfl, q1⟩ := tagsS_at h1 h0
    obtain ⟨b2, o2, rfl, q2⟩ := tagsS_at h2 h0
    have gd : ∀ j (hj : j < L.length), L.getD j ByteArray.empty = L[j] := fun j hj => by
      rw [List.getD_eq_getElem?_getD, List.getElem?_eq_getElem hj]; rfl
    refine (Try.slices_Equal_string b1 o1 L.length c1 b2 o2 L.length c2 L L w (Nat.le_refl _) (Nat.le_refl _) hn hn (fun j hj => by rw [gd j hj]; exact q1 j hj) (fun j hj => by rw [gd j hj]; exact q2 j hj)).mono ?_
    rintro e w' ⟨rfl, q, rfl⟩
    exact ⟨by simp, grown_drewN _ _ _⟩
end Go.Proofs.Ytgkhhfojioepgaa
namespace Go.Proofs.Ytgkhhfojioepgaa
open Go.RowKit
set_option linter.unusedSimpArgs false
set_option linter.unusedVariables false

set_option maxRecDepth 100000 in
set_option maxHeartbeats 1600000 in
theorem same_is {w : World} {x y : Value} {c : Act} (hx : ActIs w x c) (hy : ActIs w y c) :
    Calls Try.prog 19 #[x, y] w fun e w' => e = .returned (.bool true) ∧ w.grownBy w' none := by
  obtain ⟨so, sc, lo, lc, to_, tc, rfl, ha⟩ := hx
  obtain ⟨so2, sc2, lo2, lc2, to2, tc2, rfl, hb⟩ := hy
  obtain ⟨nm, sp, st, _, _, ss, _, _, ls, _, _, ts⟩ := c
  simp only [Act.val] at *
  have HA := Lib.hid ha; have HB := Lib.hid hb
  clear ha hb
  have GB := Lib.hid (grown_trans (World.grownBy_alloc w (.cells #[.string nm, .int .i64 sp, .int .i64 st, .slice so ss.length sc, .slice lo ls.length lc, .slice to_ ts.length tc] 26) none) (World.grownBy_alloc _ (.cells #[.string nm, .int .i64 sp, .int .i64 st, .slice so2 ss.length sc2, .slice lo2 ls.length lc2, .slice to2 ts.length tc2] 26) none))
  have K0 : ∀ V : World, ((w.alloc (.cells #[.string nm, .int .i64 sp, .int .i64 st, .slice so ss.length sc, .slice lo ls.length lc, .slice to_ ts.length tc] 26)).alloc (.cells #[.string nm, .int .i64 sp, .int .i64 st, .slice so2 ss.length sc2, .slice lo2 ls.length lc2, .slice to2 ts.length tc2] 26)).grownBy V none → (V.cell? ⟨w.heap.size, 4, none⟩ = some (.slice lo ls.length lc) ∧ V.cell? ⟨w.heap.size, 5, none⟩ = some (.slice to_ ts.length tc)) ∧ V.cell? ⟨w.heap.size + 1, 4, none⟩ = some (.slice lo2 ls.length lc2) ∧ V.cell? ⟨w.heap.size + 1, 5, none⟩ = some (.slice to2 ts.length tc2) := fun V g =>
    ⟨⟨grown_cell g (by go_simp), grown_cell g (by go_simp)⟩, grown_cell g (by go_simp), grown_cell g (by go_simp)⟩
  have KK := Lib.hid K0
  clear K0
  go_enter Try.func19, Try.ntmps19
  go_wp2_with fail
  refine (equal_smps (HA.out.hs.grown GB.out) (HB.out.hs.grown GB.out) (by have := HA.out.sl; exact this)).mono ?_; rintro e w1 ⟨rfl, hg1⟩
  obtain ⟨⟨a4, a5⟩, b4, b5⟩ := KK.out _ hg1
  have G1 := Lib.hid hg1
  have GW1 := Lib.hid (grown_trans GB.out hg1)
  clear hg1
  go_wp2_with fail
  refine (equal_laps (HA.out.hl.grown GW1.out) (HB.out.hl.grown GW1.out) (by have := HA.out.ll; exact this)).mono ?_; rintro e w2 ⟨rfl, hg2⟩
  clear a4 a5 b4 b5
  obtain ⟨⟨a4, a5⟩, b4, b5⟩ := KK.out _ (grown_trans G1.out hg2)
  have GW2 := Lib.hid (grown_trans GW1.out hg2)
  clear hg2
  go_wp2_with fail
  refine (equal_tags (HA.out.ht.grown GW2.out) (HB.out.ht.grown GW2.out) (by have : (ts.length : Int) ≤ 9223372036854775807 := HA.out.tl; show ts.length ≤ _; omega)).mono ?_; rintro e w3 ⟨rfl, hg3⟩
  have GW3 := Lib.hid (grown_trans GW2.out hg3)
  clear hg3 a4 a5 b4 b5
  go_wp2_with fail
  go_ret
  exact ⟨rfl, GW3.out⟩
end Go.Proofs.Ytgkhhfojioepgaa
namespace Go.Proofs.Ytgkhhfojioepgaa
open Go.RowKit
set_option linter.unusedSimpArgs false
set_option linter.unusedVariables false
section
variable {P : Program} (w : World)

/-- Cells of a list, at an address or nowhere. -/
def SrcAt (w : World) (ao : Option Addr) (m : Nat) (news : List Value) : Prop := (ao = none ∧ m = 0 ∧ news = []) ∨ ∃ ad, ao = some ad ∧ ∀ j u, news[j]? = some u → w.cell? (ad.add j) = some u

theorem run_app_nil_nil (t ty e : TypeId) (i : TypeInfo) (ht : P.underlying t = some (.slice e)) (hi : P.info? e = some i) (c : Nat) : (Builtin.append_ #[t, t] ty #[.slice none 0 0, .slice none 0 c]).run P w = .ok (.slice none 0 0) w := by
  simp [Builtin.append_, run_underlying ht, sizeOf, typeInfo, hi, Builtin.lenOf, Builtin.firstCells]

theorem wpList_append_src {ops : Array Oper} {rest : List Oper} {o : Oper} {a : Go.Act} {Q : Exit → Go.Act → World → Prop} (hgd : o.guard = none) (s x : Operand) (t : TypeId)
    (ho : o.op = .call { callee := .builtin .append, args := #[s, x], argTypes := #[t, t] })
    (base : Nat) (e : TypeId) (i : TypeInfo) (z : Value) (size bytes : Nat) (ht : P.underlying t = some (.slice e)) (hi : P.info? e = some i) (hz : i.zero = some z)
    (hsize : i.size = size) (hby : i.bytes = bytes) (hzs : z.cells.size = size) (hsz : 0 < size)
    (hs : a.eval s = .slice none 0 0)
    (ao : Option Addr) (m c : Nat) (news : List Value) (hx : a.eval x = .slice ao m c) (hr : SrcAt w ao m news) (hl : news.length = m * size) (h1 : ∀ u ∈ news, u.oneCell' = true)
    (h63 : m ≤ maxLen) (hbytes : m * bytes ≤ 140737488355328) (hbase : base ≤ w.heap.size)
    (h : ∀ v' w', w'.ownsRow base e size v' m news → w.grownBy w' none → wpList P ops Q rest (a.put o.dst v') w') : wpList P ops Q (o :: rest) a w := by
  rcases hr with ⟨rfl, rfl, rfl⟩ | ⟨ad, rfl, hc⟩
  · refine wpList_plain hgd fun _ hK => ?_
    have hr := run_app_nil_nil (P := P) w t o.type e i ht hi c
    unfold Oper.wp execOp
    simp only [ho, resolve, invoke, builtin, Sem.run_bind, Sem.run_pure, Result.andThen_ok, List.map_toArray, List.map_cons, List.map_nil, hs, hx, hr]
    exact hK _ _ (h _ _ (World.ownsRow_nil _ _ _ _) (World.grownBy.refl _ _))
  · refine wpList_append_own w hgd s x t ho base e i z size bytes ht hi hz hsize hby hzs hsz (.slice none 0 0) 0 [] hs (World.ownsRow_nil _ _ _ _) ad m c news hx hl hc h1 (by omega) (by rw [Nat.zero_add]; exact hbytes) hbase fun v' w' h2 h3 _ => h v' w' ?_ h3
    simpa using h2
end
end Go.Proofs.Ytgkhhfojioepgaa
/- The mathematics of the long division by two digits. No program. -/
namespace Go.Proofs.Ytgkhhfojioepgaa
set_option linter.unusedSimpArgs false
set_option linter.unusedVariables false

/-- One digit of the long division: B = 2^32, y = y1*B + y0 normalised, u < y, d < B; (q, r) stands at the head of a round. -/
structure DivInv (y1 y0 u d q r : Nat) : Prop where
  eq : q * y1 + r = u
  ge : (u * 4294967296 + d) / (y1 * 4294967296 + y0) ≤ q
  le : q ≤ 4294967297

theorem div_start (y1 y0 u : Nat) (d : Nat) (h1 : 2147483648 ≤ y1) (h0 : y0 < 4294967296) (hu : u < y1 * 4294967296 + y0) (hd : d < 4294967296) :
    DivInv y1 y0 u d (u / y1) (u - u / y1 * y1) ∧ u - u / y1 * y1 < y1 := by
  have hm := Nat.div_add_mod u y1
  have hlt := Nat.mod_lt u (show 0 < y1 by omega)
  have hc : u / y1 * y1 = y1 * (u / y1) := Nat.mul_comm _ _
  refine ⟨⟨by omega, ?_, ?_⟩, by omega⟩
  · have hy : 0 < y1 * 4294967296 + y0 := by omega
    have hs : (u * 4294967296 + d) / (y1 * 4294967296 + y0) < u / y1 + 1 := by
      rw [Nat.div_lt_iff_lt_mul hy]
      have e : (u / y1 + 1) * (y1 * 4294967296 + y0) = (y1 * (u / y1) + y1) * 4294967296 + (u / y1 + 1) * y0 := by
        rw [Nat.mul_add, Nat.add_mul, Nat.add_mul, Nat.add_mul, ← Nat.mul_assoc, Nat.mul_comm (u / y1) y1]; omega
      rw [e]
      have : 0 ≤ (u / y1 + 1) * y0 := Nat.zero_le _
      omega
    omega
  · have : u / y1 < 4294967298 := by
      rw [Nat.div_lt_iff_lt_mul (by omega)]; omega
    omega

theorem div_true1 {y1 y0 u d q r : Nat} (h : DivInv y1 y0 u d q r) (_h1 : 2147483648 ≤ y1) (hu : u < y1 * 4294967296 + y0) (hd : d < 4294967296)
    (hq : 4294967296 ≤ q) : DivInv y1 y0 u d (q - 1) (r + y1) := by
  obtain ⟨he, hg, hl⟩ := h
  refine ⟨?_, ?_, by omega⟩
  · have : (q - 1) * y1 = q * y1 - y1 := Nat.sub_one_mul q y1
    have : y1 ≤ q * y1 := Nat.le_mul_of_pos_left _ (by omega)
    omega
  · have hs : (u * 4294967296 + d) / (y1 * 4294967296 + y0) < 4294967296 := by
      rw [Nat.div_lt_iff_lt_mul (by omega)]; omega
    omega

theorem div_key {y1 y0 u q r : Nat} (he : q * y1 + r = u) (d : Nat) : q * (y1 * 4294967296 + y0) + (r * 4294967296 + d) = u * 4294967296 + d + q * y0 := by
  have e : q * (y1 * 4294967296 + y0) = q * y1 * 4294967296 + q * y0 := by rw [Nat.mul_add, ← Nat.mul_assoc]
  rw [e]; omega

theorem div_true2 {y1 y0 u d q r : Nat} (h : DivInv y1 y0 u d q r) (h1 : 2147483648 ≤ y1) 
    (hq : 4294967296 * r + d < q * y0) : DivInv y1 y0 u d (q - 1) (r + y1) := by
  obtain ⟨he, hg, hl⟩ := h
  have hpos : 0 < q := by
    rcases Nat.eq_zero_or_pos q with h0 | h0
    · subst h0; omega
    · exact h0
  refine ⟨?_, ?_, by omega⟩
  · have : (q - 1) * y1 = q * y1 - y1 := Nat.sub_one_mul q y1
    have : y1 ≤ q * y1 := Nat.le_mul_of_pos_left _ hpos
    omega
  · have hk := div_key (y0 := y0) he d
    have hs : (u * 4294967296 + d) / (y1 * 4294967296 + y0) < q := by
      rw [Nat.div_lt_iff_lt_mul (by omega)]; omega
    omega

/-- The tests say no, or the rest has outgrown B: q is the digit. -/
theorem div_end {y1 y0 u d q r : Nat} (h : DivInv y1 y0 u d q r) (h1 : 2147483648 ≤ y1) 
    (hq : q * y0 ≤ 4294967296 * r + d) : (u * 4294967296 + d) / (y1 * 4294967296 + y0) = q := by
  obtain ⟨he, hg, hl⟩ := h
  refine Nat.le_antisymm hg ?_
  have hk := div_key (y0 := y0) he d
  rw [Nat.le_div_iff_mul_le (by omega)]; omega

theorem div_break {y0 d q r : Nat} (h0 : y0 < 4294967296) (hq : q ≤ 4294967296) (hr : 4294967296 ≤ r) : q * y0 ≤ 4294967296 * r + d := by
  have : q * y0 ≤ 4294967296 * y0 := Nat.mul_le_mul_right _ hq
  omega

/-- What is left behind a digit. -/
theorem div_rest {y1 y0 u d q : Nat} (h1 : 2147483648 ≤ y1) (hq : (u * 4294967296 + d) / (y1 * 4294967296 + y0) = q) :
    (u * 4294967296 + d) - q * (y1 * 4294967296 + y0) = (u * 4294967296 + d) % (y1 * 4294967296 + y0) ∧ q * (y1 * 4294967296 + y0) ≤ u * 4294967296 + d ∧ (u * 4294967296 + d) % (y1 * 4294967296 + y0) < y1 * 4294967296 + y0 := by
  have hm := Nat.div_add_mod (u * 4294967296 + d) (y1 * 4294967296 + y0)
  have hlt := Nat.mod_lt (u * 4294967296 + d) (show 0 < y1 * 4294967296 + y0 by omega)
  rw [hq] at hm
  have : q * (y1 * 4294967296 + y0) = (y1 * 4294967296 + y0) * q := Nat.mul_comm _ _
  omega

/-- Two digits make the quotient. -/
theorem div_two (y N1 d : Nat) (hy : 0 < y) : (N1 * 4294967296 + d) / y = N1 / y * 4294967296 + (N1 % y * 4294967296 + d) / y ∧ (N1 * 4294967296 + d) % y = (N1 % y * 4294967296 + d) % y := by
  have hm := Nat.div_add_mod N1 y
  have e : N1 * 4294967296 + d = (N1 % y * 4294967296 + d) + y * (N1 / y * 4294967296) := by
    have : y * (N1 / y * 4294967296) = y * (N1 / y) * 4294967296 := by rw [Nat.mul_assoc]
    omega
  constructor
  · rw [e, Nat.add_mul_div_left _ _ hy]; omega
  · rw [e, Nat.add_mul_mod_self_left]

/-- A division shifted on both sides. -/
theorem div_shift (N y s : Nat) (_hy : 0 < y) : N * 2 ^ s / (y * 2 ^ s) = N / y ∧ N * 2 ^ s % (y * 2 ^ s) / 2 ^ s = N % y := by
  have hp : 0 < 2 ^ s := Nat.two_pow_pos s
  constructor
  · exact Nat.mul_div_mul_right _ _ hp
  · rw [Nat.mul_mod_mul_right]; exact Nat.mul_div_cancel _ hp


end Go.Proofs.Ytgkhhfojioepgaa
namespace Go.Proofs.Ytgkhhfojioepgaa
open Go.RowKit
set_option linter.unusedSimpArgs false
set_option linter.unusedVariables false
set_option maxRecDepth 100000 in
set_option maxHeartbeats 3200000 in
theorem div_core (hi lo y s Y y1 y0 H U N d1 d0 q0 p0 r0 Q1 A B C U2 q2 p2 r2 Q2 F QQ A2 B2 C2 R2 RR : Nat) (w : World) (hh : 0 < hi) (hy : hi < y)
    (hs : ∀ w, Calls Try.prog 182 #[.int .u64 y] w fun e w' => e = .returned (.int .i64 s) ∧ w = w') (hs63 : s ≤ 63)
    (eY : IntKind.u64.wrap ((y : Int) * 2 ^ s) = Y) (e1 : (Y : Int) / 4294967296 = y1) (e0 : bits .and .u64 (Y : Int) 4294967295 = y0)
    (eH : IntKind.u64.wrap ((hi : Int) * 2 ^ s) = H) (eN : IntKind.u64.wrap ((lo : Int) * 2 ^ s) = N)
    (eU : bits .or .u64 (H : Int) ((lo : Int) / 2 ^ (64 - s)) = U) (eN1 : (N : Int) / 4294967296 = d1) (eN0 : bits .and .u64 (N : Int) 4294967295 = d0)
    (hyy1 : y1 < 4294967296) (hyy0 : y0 < 4294967296) (hd1 : d1 < 4294967296) (hd0 : d0 < 4294967296)
    (hy1 : 2147483648 ≤ y1) (hUY : U < y1 * 4294967296 + y0)
    (eq0 : IntKind.u64.wrap ((U : Int) / (y1 : Int)) = q0) (ep0 : IntKind.u64.wrap ((q0 : Int) * (y1 : Int)) = p0) (er0 : IntKind.u64.wrap ((U : Int) - (p0 : Int)) = r0)
    (eA : IntKind.u64.wrap ((U : Int) * 4294967296) = A) (eB : IntKind.u64.wrap ((A : Int) + (d1 : Int)) = B) (eC : IntKind.u64.wrap ((Q1 : Int) * (Y : Int)) = C) (eD : IntKind.u64.wrap ((B : Int) - (C : Int)) = U2)
    (eq2 : IntKind.u64.wrap ((U2 : Int) / (y1 : Int)) = q2) (ep2 : IntKind.u64.wrap ((q2 : Int) * (y1 : Int)) = p2) (er2 : IntKind.u64.wrap ((U2 : Int) - (p2 : Int)) = r2)
    (eF : IntKind.u64.wrap ((Q1 : Int) * 4294967296) = F) (eG : IntKind.u64.wrap ((F : Int) + (Q2 : Int)) = QQ)
    (eA2 : IntKind.u64.wrap ((U2 : Int) * 4294967296) = A2) (eB2 : IntKind.u64.wrap ((A2 : Int) + (d0 : Int)) = B2) (eC2 : IntKind.u64.wrap ((Q2 : Int) * (Y : Int)) = C2) (eD2 : IntKind.u64.wrap ((B2 : Int) - (C2 : Int)) = R2) (eE : (R2 : Int) / 2 ^ s = RR)
    (hUY2 : U2 < y1 * 4294967296 + y0) (hi2 : Hid (DivInv y1 y0 U2 d0 q2 r2)) (hr2 : r2 < 4294967296) (HQ2 : Hid ((U2 * 4294967296 + d0) / (y1 * 4294967296 + y0) = Q2))
    (hi1 : Hid (DivInv y1 y0 U d1 q0 r0)) (hr0 : r0 < 4294967296) (HQ1 : Hid ((U * 4294967296 + d1) / (y1 * 4294967296 + y0) = Q1)) :
    Calls Try.prog 154 #[.int .u64 hi, .int .u64 lo, .int .u64 y] w fun e w' => e = .returned (.tuple #[.int .u64 QQ, .int .u64 RR]) ∧ w = w' := by
  have h0 : ((y : Int) == 0) = false := by simp; omega
  have h1 : ((hi : Int) == 0) = false := by simp; omega
  have HS := Lib.hid hs; clear hs
  go_enter Try.func154, Try.ntmps154
  have hy1' : ¬ (y1 = 0) := by omega
  go_upto_block 0 with (go_at_call 182; refine (HS.out _).mono ?_; rintro e w1 ⟨rfl, rfl⟩)
  clear eY e1 e0 eH eN eU eN1 eN0
  go_cut [15] (fun qv wx => (qv = .int .u64 Q1) ∧ w = wx)
  case first =>
    go_wp2_with fail
    go_loop [15, 16] (fun qv rv => ∃ q r : Nat, qv = .int .u64 q ∧ rv = .int .u64 r ∧ Hid (DivInv y1 y0 U d1 q r) ∧ q ≤ 4294967297 ∧ r < 4294967296) (fun qv _ => (intOf qv).toNat)
    case atStart => exact ⟨q0, r0, rfl, rfl, hi1.out, by have := (hi1.out).le; omega, hr0⟩
    case round =>
      obtain ⟨q, r, rfl, rfl, hinv, hq9n, hr9n⟩ := hrel
      have hq9 : (q : Int) ≤ 4294967297 := by omega
      have hr9 : (r : Int) < 4294967296 := by omega
      clear hq9n hr9n
      obtain ⟨P, hP⟩ : ∃ P, P = q * y0 := ⟨_, rfl⟩
      have hPb : P < 18446744073709551616 := by
        rw [hP]
        have : q * y0 ≤ 4294967297 * y0 := Nat.mul_le_mul_right _ (by omega)
        omega
      have eP : IntKind.u64.wrap ((q : Int) * (y0 : Int)) = (P : Int) := by
        rw [hP, IntKind.wrap_u64, ← Int.natCast_mul]
        rw [hP] at hPb
        omega
      have HP := Lib.hid hP; clear hP hPb
      by_cases hB : (4294967296 : Int) ≤ (q : Int)
      · have hnext := div_true1 hinv.out hy1 hUY hd1 (by omega)
        have HN := Lib.hid hnext; clear hnext
        by_cases hb : (4294967296 : Int) ≤ (r : Int) + (y1 : Int)
        · have hend : (U * 4294967296 + d1) / (y1 * 4294967296 + y0) = q - 1 := div_end HN.out hy1 (div_break hyy0 (by omega) (by omega))
          have HE := Lib.hid hend; clear hend
          go_wp2_with fail
          go_meet
          exact ⟨by rw [← HQ1.out, HE.out]; exact congrArg _ (by omega), rfl⟩
        · go_wp2
          go_round
          case rel => exact ⟨q - 1, r + y1, by go_num, by go_num, HN.out, by omega, by omega⟩
          case measure => simp [intOf]; omega
      · by_cases hT : 4294967296 * (r : Int) + (d1 : Int) < (P : Int)
        · have hnext := div_true2 hinv.out hy1 (by rw [← HP.out]; omega)
          have hq1 : 1 ≤ q := by
            rcases Nat.eq_zero_or_pos q with h0 | h0
            · have := HP.out; rw [h0, Nat.zero_mul] at this; omega
            · exact h0
          have HN := Lib.hid hnext; clear hnext
          by_cases hb : (4294967296 : Int) ≤ (r : Int) + (y1 : Int)
          · have hend : (U * 4294967296 + d1) / (y1 * 4294967296 + y0) = q - 1 := div_end HN.out hy1 (div_break hyy0 (by omega) (by omega))
            have HE := Lib.hid hend; clear hend
            go_wp2_with fail
            go_meet
            exact ⟨by rw [← HQ1.out, HE.out]; exact congrArg _ (by omega), rfl⟩
          · go_wp2
            go_round
            case rel => exact ⟨q - 1, r + y1, by go_num, by go_num, HN.out, by omega, by omega⟩
            case measure => simp [intOf]; omega
        · have hend : (U * 4294967296 + d1) / (y1 * 4294967296 + y0) = q := div_end hinv.out hy1 (by rw [← HP.out]; omega)
          have HE := Lib.hid hend; clear hend
          go_wp2_with fail
          go_meet
          exact ⟨by rw [← HQ1.out, HE.out], rfl⟩
  case rest =>
    obtain ⟨rfl, rfl⟩ := hcut
    go_upto_block 2 with fail
    go_cut [18] (fun qv wy => (qv = .int .u64 Q2) ∧ w = wy)
    case first =>
      go_wp2_with fail
      go_loop [18, 16] (fun qv rv => ∃ q r : Nat, qv = .int .u64 q ∧ rv = .int .u64 r ∧ Hid (DivInv y1 y0 U2 d0 q r) ∧ q ≤ 4294967297 ∧ r < 4294967296) (fun qv _ => (intOf qv).toNat)
      case atStart => exact ⟨q2, r2, rfl, rfl, hi2.out, by have := (hi2.out).le; omega, hr2⟩
      case round =>
        obtain ⟨q, r, rfl, rfl, hinv, hq9n, hr9n⟩ := hrel
        have hq9 : (q : Int) ≤ 4294967297 := by omega
        have hr9 : (r : Int) < 4294967296 := by omega
        clear hq9n hr9n
        obtain ⟨P, hP⟩ : ∃ P, P = q * y0 := ⟨_, rfl⟩
        have hPb : P < 18446744073709551616 := by
          rw [hP]
          have : q * y0 ≤ 4294967297 * y0 := Nat.mul_le_mul_right _ (by omega)
          omega
        have eP : IntKind.u64.wrap ((q : Int) * (y0 : Int)) = (P : Int) := by
          rw [hP, IntKind.wrap_u64, ← Int.natCast_mul]
          rw [hP] at hPb
          omega
        have HP := Lib.hid hP; clear hP hPb
        by_cases hB : (4294967296 : Int) ≤ (q : Int)
        · have hnext := div_true1 hinv.out hy1 hUY2 hd0 (by omega)
          have HN := Lib.hid hnext; clear hnext
          by_cases hb : (4294967296 : Int) ≤ (r : Int) + (y1 : Int)
          · have hend : (U2 * 4294967296 + d0) / (y1 * 4294967296 + y0) = q - 1 := div_end HN.out hy1 (div_break hyy0 (by omega) (by omega))
            have HE := Lib.hid hend; clear hend
            go_wp2_with fail
            go_meet
            exact ⟨by rw [← HQ2.out, HE.out]; exact congrArg _ (by omega), rfl⟩
          · go_wp2
            go_round
            case rel => exact ⟨q - 1, r + y1, by go_num, by go_num, HN.out, by omega, by omega⟩
            case measure => simp [intOf]; omega
        · by_cases hT : 4294967296 * (r : Int) + (d0 : Int) < (P : Int)
          · have hnext := div_true2 hinv.out hy1 (by rw [← HP.out]; omega)
            have hq1 : 1 ≤ q := by
              rcases Nat.eq_zero_or_pos q with h0 | h0
              · have := HP.out; rw [h0, Nat.zero_mul] at this; omega
              · exact h0
            have HN := Lib.hid hnext; clear hnext
            by_cases hb : (4294967296 : Int) ≤ (r : Int) + (y1 : Int)
            · have hend : (U2 * 4294967296 + d0) / (y1 * 4294967296 + y0) = q - 1 := div_end HN.out hy1 (div_break hyy0 (by omega) (by omega))
              have HE := Lib.hid hend; clear hend
              go_wp2_with fail
              go_meet
              exact ⟨by rw [← HQ2.out, HE.out]; exact congrArg _ (by omega), rfl⟩
            · go_wp2
              go_round
              case rel => exact ⟨q - 1, r + y1, by go_num, by go_num, HN.out, by omega, by omega⟩
              case measure => simp [intOf]; omega
          · have hend : (U2 * 4294967296 + d0) / (y1 * 4294967296 + y0) = q := div_end hinv.out hy1 (by rw [← HP.out]; omega)
            have HE := Lib.hid hend; clear hend
            go_wp2_with fail
            go_meet
            exact ⟨by rw [← HQ2.out, HE.out], rfl⟩
    case rest =>
      obtain ⟨rfl, rfl⟩ := hcut
      go_wp2
      go_ret2
      exact ⟨rfl, rfl⟩
end Go.Proofs.Ytgkhhfojioepgaa
/- The plain reading of texts: what a taker takes, what numbers, pairs, digits, words and sixties are read, said of the list of bytes that is left. No program. -/
namespace Go.Proofs.Ytgkhhfojioepgaa
set_option linter.unusedSimpArgs false
set_option linter.unusedVariables false

/-- The next byte, if it lies from lo to hi. -/
def tkV (lo hi : Int) : List Nat → Option Nat
  | [] => none
  | c :: _ => if lo ≤ (c : Int) ∧ (c : Int) ≤ hi then some c else none

/-- What is read: the value, whether all was there, how many bytes were taken. -/
structure Got where
  val : Int
  ok : Bool
  used : Nat

/-- More digits of a number that is to stay at most 'most'. -/
def numMore (most : Int) : List Nat → Int → Int × Nat
  | [], n => (n, 0)
  | c :: r, n => if 0 < n ∧ 10 * n ≤ most ∧ 48 ≤ (c : Int) ∧ (c : Int) ≤ 48 + min (most - 10 * n) 9 then ((numMore most r (10 * n + ((c : Int) - 48))).1, (numMore most r (10 * n + ((c : Int) - 48))).2 + 1) else (n, 0)

def numV (least most : Int) (R : List Nat) : Got :=
  match tkV (48 + least) 57 R with
  | none => ⟨0, false, 0⟩
  | some c => ⟨(numMore most R.tail ((c : Int) - 48)).1, true, (numMore most R.tail ((c : Int) - 48)).2 + 1⟩

def wordV : List Nat → List Nat → Bool × Nat
  | [], _ => (true, 0)
  | _ :: _, [] => (false, 0)
  | c :: w, d :: r => if d = c then ((wordV w r).1, (wordV w r).2 + 1) else (false, 0)

def pairV (most : Int) (R : List Nat) : Got :=
  match tkV 48 (48 + most / 10) R with
  | none => ⟨0, false, 0⟩
  | some t =>
    match tkV 48 (if (t : Int) = 48 + most / 10 then 48 + most % 10 else 57) R.tail with
    | none => ⟨0, false, 1⟩
    | some o => ⟨10 * ((t : Int) - 48) + ((o : Int) - 48), true, 2⟩

/-- The rounds of a time with colons: so many pairs are to come; whether all was there so far; so many seconds; so many bytes taken. -/
def sixtyV : Nat → Bool → List Nat → Int → Nat → Got
  | 0, ok, _, n, u => ⟨n, ok, u⟩
  | _ + 1, false, _, _, u => ⟨0, false, u⟩
  | p + 1, true, R, n, u =>
    if (wordV [58] R).1 then sixtyV p (pairV 59 (R.drop (wordV [58] R).2)).ok (R.drop ((wordV [58] R).2 + (pairV 59 (R.drop (wordV [58] R).2)).used)) (60 * n + (pairV 59 (R.drop (wordV [58] R).2)).val) (u + (wordV [58] R).2 + (pairV 59 (R.drop (wordV [58] R).2)).used)
    else ⟨0, false, u + (wordV [58] R).2⟩

def inSixtiesV (least most : Int) (pairs : Nat) (R : List Nat) : Got :=
  sixtyV pairs (numV least most R).ok (R.drop (numV least most R).used) (numV least most R).val (numV least most R).used

def letterAt (j : Nat) : Nat := if j = 0 then 104 else if j = 1 then 109 else 115
def sizeAt (j : Nat) : Int := if j = 0 then 3600 else if j = 1 then 60 else 1

/-- The first letter from the j-th one on that stands here; 3: none. -/
def findV (j : Nat) (R : List Nat) : Nat :=
  if j < 3 then (if (wordV [letterAt j] R).1 then j else findV (j + 1) R) else j
termination_by 3 - j

theorem findV_ge (j : Nat) (R : List Nat) : j ≤ findV j R := by
  unfold findV; split
  · split
    · omega
    · have := findV_ge (j + 1) R; omega
  · omega
termination_by 3 - j

/-- Numbers with letters, from the j-th letter on. -/
def partsV (j : Nat) (R : List Nat) (sec : Int) (u : Nat) : Got :=
  if j < 3 then
    if (numV 0 9999999 R).ok then
      if findV j (R.drop (numV 0 9999999 R).used) < 3 then
        partsV (findV j (R.drop (numV 0 9999999 R).used) + 1) (R.drop ((numV 0 9999999 R).used + 1)) (sec + (numV 0 9999999 R).val * sizeAt (findV j (R.drop (numV 0 9999999 R).used))) (u + (numV 0 9999999 R).used + 1)
      else ⟨0, false, u + (numV 0 9999999 R).used⟩
    else ⟨sec, decide (0 < j), u⟩
  else ⟨sec, true, u⟩
termination_by 3 - j
decreasing_by have := findV_ge j (R.drop (numV 0 9999999 R).used); omega

theorem tkV_bd {lo hi : Int} {R : List Nat} {c : Nat} (h : tkV lo hi R = some c) : lo ≤ (c : Int) ∧ (c : Int) ≤ hi ∧ R = c :: R.tail := by
  cases R with
  | nil => simp [tkV] at h
  | cons d r =>
    simp only [tkV] at h
    split at h
    · simp at h; subst h; simp_all
    · simp at h

theorem numMore_le (most : Int) : ∀ (R : List Nat) (n : Int), (numMore most R n).2 ≤ R.length
  | [], n => by simp [numMore]
  | c :: r, n => by
    unfold numMore; split
    · have := numMore_le most r (10 * n + ((c : Int) - 48)); simp; omega
    · simp

theorem numMore_bd (most : Int) : ∀ (R : List Nat) (n : Int), 0 ≤ n → n ≤ most → 0 ≤ (numMore most R n).1 ∧ (numMore most R n).1 ≤ most
  | [], n, h0, h1 => by simp [numMore]; omega
  | c :: r, n, h0, h1 => by
    unfold numMore; split
    · exact numMore_bd most r (10 * n + ((c : Int) - 48)) (by omega) (by omega)
    · exact ⟨h0, h1⟩

theorem numV_le (least most : Int) (R : List Nat) : (numV least most R).used ≤ R.length := by
  unfold numV; split
  · simp
  · rename_i c h
    have := (tkV_bd h).2.2
    have h2 := numMore_le most R.tail ((c : Int) - 48)
    rw [this]; simp; simpa using h2

theorem numV_bd (least most : Int) (R : List Nat) (h0 : 0 ≤ least) (h9 : 9 ≤ most) : 0 ≤ (numV least most R).val ∧ (numV least most R).val ≤ most := by
  unfold numV; split
  · simp; omega
  · rename_i c h
    have := tkV_bd h
    exact numMore_bd most R.tail _ (by omega) (by omega)

theorem wordV_le : ∀ (w R : List Nat), (wordV w R).2 ≤ R.length
  | [], R => by simp [wordV]
  | _ :: _, [] => by simp [wordV]
  | c :: w, d :: r => by
    unfold wordV; split
    · have := wordV_le w r; simp; omega
    · simp

theorem pairV_le (most : Int) (R : List Nat) : (pairV most R).used ≤ R.length := by
  unfold pairV; split
  · simp
  · rename_i t h
    have h1 := (tkV_bd h).2.2
    split
    · rw [h1]; simp
    · rename_i o h'
      have h2 := (tkV_bd h').2.2
      rw [h1, h2]; simp

theorem pairV_bd (most : Int) (R : List Nat) (h0 : 0 ≤ most) (h9 : most ≤ 99) : 0 ≤ (pairV most R).val ∧ (pairV most R).val ≤ most := by
  unfold pairV; split
  · simp; omega
  · rename_i t h
    have h1 := tkV_bd h
    split
    · simp; omega
    · rename_i o h'
      have h2 := tkV_bd h'
      simp only
      split at h2 <;> omega

theorem wordV_no {c : Nat} {w R : List Nat} (h : tkV c c R = none) : wordV (c :: w) R = (false, 0) := by
  cases R with
  | nil => rfl
  | cons d r =>
    simp only [tkV] at h
    split at h
    · simp at h
    · unfold wordV; rw [if_neg (by omega)]
theorem wordV_yes {c x : Nat} {w R : List Nat} (h : tkV c c R = some x) : wordV (c :: w) R = ((wordV w R.tail).1, (wordV w R.tail).2 + 1) := by
  cases R with
  | nil => simp [tkV] at h
  | cons d r =>
    simp only [tkV] at h
    split at h
    · rw [wordV, if_pos (by omega)]; rfl
    · simp at h
theorem numMore_no {most n : Int} {R : List Nat} (h : 0 < n → 10 * n ≤ most → tkV 48 (48 + min (most - 10 * n) 9) R = none) : numMore most R n = (n, 0) := by
  cases R with
  | nil => rfl
  | cons c r =>
    unfold numMore; rw [if_neg]
    rintro ⟨h1, h2, h3, h4⟩
    have := h h1 h2
    simp only [tkV] at this
    rw [if_pos ⟨h3, h4⟩] at this; simp at this
theorem numMore_yes {most n : Int} {R : List Nat} {c : Nat} (h1 : 0 < n) (h2 : 10 * n ≤ most) (h : tkV 48 (48 + min (most - 10 * n) 9) R = some c) :
    numMore most R n = ((numMore most R.tail (10 * n + ((c : Int) - 48))).1, (numMore most R.tail (10 * n + ((c : Int) - 48))).2 + 1) := by
  cases R with
  | nil => simp [tkV] at h
  | cons d r =>
    simp only [tkV] at h
    split at h
    · rename_i h3; simp at h; subst h
      rw [numMore, if_pos ⟨h1, h2, h3.1, h3.2⟩]; rfl
    · simp at h

theorem findV_yes {j : Nat} {R : List Nat} (hj : j < 3) (h : (wordV [letterAt j] R).1 = true) : findV j R = j := by rw [findV, if_pos hj, if_pos h]
theorem findV_no {j : Nat} {R : List Nat} (hj : j < 3) (h : (wordV [letterAt j] R).1 = false) : findV j R = findV (j + 1) R := by rw [findV, if_pos hj, if_neg (by simp [h])]
theorem findV_end (R : List Nat) : findV 3 R = 3 := by rw [findV, if_neg (by omega)]
theorem word1_no {c : Nat} {R : List Nat} (h : (wordV [c] R).1 = false) : wordV [c] R = (false, 0) := by
  cases R with
  | nil => rfl
  | cons d r =>
    unfold wordV at h ⊢
    split
    · rename_i e; rw [if_pos e] at h; simp [wordV] at h
    · rfl
theorem word1_yes {c : Nat} {R : List Nat} (h : (wordV [c] R).1 = true) : wordV [c] R = (true, 1) := by
  cases R with
  | nil => simp [wordV] at h
  | cons d r =>
    unfold wordV at h ⊢
    split
    · simp [wordV]
    · rename_i e; rw [if_neg e] at h; simp at h
theorem numV_no {least most : Int} {R : List Nat} (h : (numV least most R).ok = false) : (numV least most R).used = 0 := by
  unfold numV at h ⊢; split
  · rfl
  · rename_i h'; rw [h'] at h; simp at h

end Go.Proofs.Ytgkhhfojioepgaa
namespace Go.Proofs.Ytgkhhfojioepgaa
open Go.RowKit
set_option linter.unusedSimpArgs false
set_option linter.unusedVariables false

theorem ret_uu {a b c d : Int} (h : a = b) (h' : c = d) : Ending.returned (.tuple #[.int .u64 a, .int .u64 c]) = .returned (.tuple #[.int .u64 b, .int .u64 d]) := by rw [h, h']
theorem ret_iii {k k' k'' : IntKind} {a b c d e f : Int} (h : a = b) (h' : c = d) (h'' : e = f) : Ending.returned (.tuple #[.int k a, .int k' c, .int k'' e]) = .returned (.tuple #[.int k b, .int k' d, .int k'' f]) := by rw [h, h', h'']

/-- The place of a taker lies in block a, its text in block b. -/
structure At (w : World) (a b : Nat) (s : ByteArray) (k : Nat) : Prop where
  hA : w.heap[a]? = some (.cells #[.int .i64 k] 3 (0, 0))
  hB : w.heap[b]? = some (.cells #[.string s] 9 (0, 0))
  sz : s.size ≤ 140737488351232
  le : k ≤ s.size

structure Moved (w w' : World) (a b : Nat) (s : ByteArray) (k : Nat) : Prop where
  pos : At w' a b s k
  g : w.grownBy w' (some a)

/-- The bytes that are left from a place on. -/
def rem (s : ByteArray) (k : Nat) : List Nat := (s.data.toList.drop k).map UInt8.toNat

theorem grown_drew (w : World) (r : Option Nat) : w.grownBy w.drew r := ⟨rfl, rfl, rfl, Nat.le_refl _, fun _ _ _ => rfl⟩

theorem At.lt {w : World} {a b : Nat} {s : ByteArray} {k : Nat} (h : At w a b s k) : a < w.heap.size ∧ b < w.heap.size ∧ a ≠ b :=
  ⟨lt_of_block h.hA, lt_of_block h.hB, fun e => by have h1 := h.hA; have h2 := h.hB; rw [e, h2] at h1; simp at h1⟩
theorem At.refl {w : World} {a b : Nat} {s : ByteArray} {k : Nat} (h : At w a b s k) : Moved w w a b s k := ⟨h, grown_refl _ _⟩
theorem At.drewN {w : World} {a b : Nat} {s : ByteArray} {k : Nat} (h : At w a b s k) (n : Nat) : At (w.drewN n) a b s k := ⟨h.hA, h.hB, h.sz, h.le⟩
theorem Moved.drew {w w' : World} {a b : Nat} {s : ByteArray} {k : Nat} (h : Moved w w' a b s k) : Moved w w'.drew a b s k := ⟨⟨h.pos.hA, h.pos.hB, h.pos.sz, h.pos.le⟩, h.g.os, h.g.tape, h.g.output, h.g.size, h.g.block⟩
theorem Moved.drewN {w w' : World} {a b : Nat} {s : ByteArray} {k : Nat} (h : Moved w w' a b s k) (n : Nat) : Moved w (w'.drewN n) a b s k := ⟨⟨h.pos.hA, h.pos.hB, h.pos.sz, h.pos.le⟩, h.g.os, h.g.tape, h.g.output, h.g.size, h.g.block⟩
theorem At.drew {w : World} {a b : Nat} {s : ByteArray} {k : Nat} (h : At w a b s k) : At w.drew a b s k := ⟨h.hA, h.hB, h.sz, h.le⟩
theorem Moved.eq {w w' : World} {a b : Nat} {s : ByteArray} {k k' : Nat} (h : Moved w w' a b s k) (e : k = k') : Moved w w' a b s k' := e ▸ h
theorem Moved.trans {w1 w2 w3 : World} {a b : Nat} {s : ByteArray} {k k' : Nat} (h : Moved w1 w2 a b s k) (h' : Moved w2 w3 a b s k') : Moved w1 w3 a b s k' := ⟨h'.pos, grown_trans h.g h'.g⟩
theorem At.step {w : World} {a b : Nat} {s : ByteArray} {k : Nat} (h : At w a b s k) (hk : k < s.size) : Moved w (w.setCell ⟨a, 0, none⟩ (.int .i64 (k + 1 : Nat))) a b s (k + 1) := by
  have hl := h.lt
  refine ⟨⟨one_setCell h.hA, ?_, h.sz, by omega⟩, rfl, rfl, rfl, by simp [World.setCell], fun j _ hr => Below.heap_setCell _ _ _ _ (fun e => hr (by rw [e]))⟩
  rw [Below.heap_setCell _ _ _ _ (fun e => hl.2.2 e.symm)]; exact h.hB
/-- A new block leaves the place. -/
theorem At.grown {w w' : World} {a b : Nat} {s : ByteArray} {k : Nat} (h : At w a b s k) (g : w.grownBy w' none) : Moved w w' a b s k :=
  ⟨⟨by rw [g.block a h.lt.1 (by simp)]; exact h.hA, by rw [g.block b h.lt.2.1 (by simp)]; exact h.hB, h.sz, h.le⟩, g.os, g.tape, g.output, g.size, fun j hj _ => g.block j hj (by simp)⟩

theorem Moved.block {w w' : World} {a b : Nat} {s : ByteArray} {k z : Nat} {o : Obj} (h : Moved w w' a b s k) (hz : w.heap[z]? = some o) (ne : z ≠ a) : w'.heap[z]? = some o := by
  rw [h.g.block z (lt_of_block hz) (fun e => ne (by simpa using e))]; exact hz
/-- Draws on the way. -/
theorem Moved.from {w w' w1 : World} {a b : Nat} {s : ByteArray} {k k' : Nat} (h : Moved w w' a b s k) (h' : Moved w'.drew w1 a b s k') : Moved w w1 a b s k' := h.drew.trans h'

theorem rem_nil {s : ByteArray} {k : Nat} (h : s.size ≤ k) : rem s k = [] := by
  unfold rem; rw [List.drop_eq_nil_of_le (by simpa using h)]; rfl
theorem rem_cons {s : ByteArray} {k : Nat} (h : k < s.size) : rem s k = s[k].toNat :: rem s (k + 1) := by
  unfold rem
  have h' : k < s.data.toList.length := by simpa using h
  rw [List.drop_eq_getElem_cons h']; rfl
theorem rem_tail (s : ByteArray) (k : Nat) : (rem s k).tail = rem s (k + 1) := by
  unfold rem; rw [← List.map_tail, List.tail_drop]
theorem rem_drop (s : ByteArray) (k n : Nat) : (rem s k).drop n = rem s (k + n) := by
  unfold rem; rw [← List.map_drop, List.drop_drop]
theorem rem_len (s : ByteArray) (k : Nat) : (rem s k).length = s.size - k := by unfold rem; simp
end Go.Proofs.Ytgkhhfojioepgaa
namespace Go.Proofs.Ytgkhhfojioepgaa
open Go.RowKit
set_option linter.unusedSimpArgs false
set_option linter.unusedVariables false

theorem u64_wrap (n m : Nat) (h : n % 18446744073709551616 = m) : IntKind.u64.wrap (n : Int) = (m : Int) := by rw [IntKind.wrap_u64]; omega
theorem u64_self (n : Nat) (h : n < 18446744073709551616) : IntKind.u64.wrap (n : Int) = (n : Int) := u64_wrap n n (Nat.mod_eq_of_lt h)
theorem u64_sub (a b c : Nat) (h : (c + b) % 18446744073709551616 = a % 18446744073709551616) (hc : c < 18446744073709551616) : IntKind.u64.wrap ((a : Int) - (b : Int)) = (c : Int) := by rw [IntKind.wrap_u64]; omega

/-- What the shifts are. -/
theorem shifted (y L : Nat) (h1 : 2 ^ (L - 1) ≤ y) (h2 : y < 2 ^ L) (hL : 1 ≤ L) (h64 : L ≤ 64) :
    9223372036854775808 ≤ y * 2 ^ (64 - L) ∧ y * 2 ^ (64 - L) < 18446744073709551616 := by
  have e1 : (2 : Nat) ^ (L - 1) * 2 ^ (64 - L) = 9223372036854775808 := by rw [← Nat.pow_add, show L - 1 + (64 - L) = 63 by omega]
  have e2 : (2 : Nat) ^ L * 2 ^ (64 - L) = 18446744073709551616 := by rw [← Nat.pow_add, show L + (64 - L) = 64 by omega]
  have hp : 0 < 2 ^ (64 - L) := Nat.two_pow_pos _
  constructor
  · rw [← e1]; exact Nat.mul_le_mul_right _ h1
  · rw [← e2]; exact Nat.mul_lt_mul_of_pos_right h2 hp

theorem parted (lo L : Nat) (hl : lo < 18446744073709551616) (hL : 1 ≤ L) (h64 : L ≤ 64) :
    lo / 2 ^ L < 2 ^ (64 - L) ∧ lo * 2 ^ (64 - L) = lo / 2 ^ L * 18446744073709551616 + lo * 2 ^ (64 - L) % 18446744073709551616 := by
  have e2 : (2 : Nat) ^ (64 - L) * 2 ^ L = 18446744073709551616 := by rw [← Nat.pow_add, show 64 - L + L = 64 by omega]
  have hp : 0 < 2 ^ (64 - L) := Nat.two_pow_pos _
  constructor
  · rw [Nat.div_lt_iff_lt_mul (Nat.two_pow_pos _), e2]; exact hl
  · have : lo * 2 ^ (64 - L) / 18446744073709551616 = lo / 2 ^ L := by
      rw [← e2, Nat.mul_comm (2 ^ (64 - L)) (2 ^ L)]; exact Nat.mul_div_mul_right _ _ hp
    have hm := Nat.div_add_mod (lo * 2 ^ (64 - L)) 18446744073709551616
    rw [this] at hm
    omega

theorem or_add (a t s : Nat) (ha : a * 2 ^ s < 18446744073709551616) (ht : t < 2 ^ s) (hs : s ≤ 63) : bits .or .u64 ((a * 2 ^ s : Nat) : Int) (t : Int) = ((a * 2 ^ s + t : Nat) : Int) := by
  have hb : t < 18446744073709551616 := Nat.lt_of_lt_of_le ht (by
    have : (2 : Nat) ^ s ≤ 2 ^ 63 := Nat.pow_le_pow_right (by decide) hs
    omega)
  rw [u64_or_nat _ _ ha hb]
  rw [nat_join s _ _ (Nat.mul_mod_left _ _) ht]

theorem mask32 (n : Nat) (h : n < 18446744073709551616) : bits .and .u64 (n : Int) 4294967295 = ((n % 4294967296 : Nat) : Int) := by
  have := u64_and_nat n 4294967295 h (by decide)
  rw [nat_mask32] at this
  exact this
theorem cast_two_pow_mul (a s : Nat) : ((a * 2 ^ s : Nat) : Int) = (a : Int) * 2 ^ s := by push_cast; rfl
theorem cast_div_two_pow (a s : Nat) : (a : Int) / 2 ^ s = ((a / 2 ^ s : Nat) : Int) := by push_cast; rfl

theorem digits_of (Q1 U d1 Y : Nat) (hY : Y < 18446744073709551616) (hU : U < Y) (hd : d1 < 4294967296) (hq : (U * 4294967296 + d1) / Y = Q1) :
    Q1 < 4294967296 ∧ U * 4294967296 + d1 = Q1 * Y + (U * 4294967296 + d1) % Y ∧ (U * 4294967296 + d1) % Y < Y := by
  have hm := Nat.div_add_mod (U * 4294967296 + d1) Y
  have hl := Nat.mod_lt (U * 4294967296 + d1) (show 0 < Y by omega)
  rw [hq, Nat.mul_comm] at hm
  refine ⟨?_, by omega, hl⟩
  rw [← hq, Nat.div_lt_iff_lt_mul (by omega)]
  omega

set_option maxHeartbeats 800000 in
theorem div64_any (hi lo y : Nat) (w : World) (hy : hi < y) (hy2 : y < 18446744073709551616) (hl : lo < 18446744073709551616) :
    Calls Try.prog 154 #[.int .u64 hi, .int .u64 lo, .int .u64 y] w fun e w' => e = .returned (.tuple #[.int .u64 ((hi * 18446744073709551616 + lo) / y : Nat), .int .u64 ((hi * 18446744073709551616 + lo) % y : Nat)]) ∧ w.grownBy w' none := by
  rcases Nat.eq_zero_or_pos hi with h0 | hpos
  · subst h0
    have hb : ((y : Int) == 0) = false := by simp; omega
    have hq : (lo / y) % 18446744073709551616 = lo / y := Nat.mod_eq_of_lt (Nat.lt_of_le_of_lt (Nat.div_le_self _ _) hl)
    have eq : IntKind.u64.wrap ((lo : Int) / (y : Int)) = ((lo / y : Nat) : Int) := by rw [← Int.natCast_ediv]; exact u64_wrap _ _ hq
    clear hq
    go_enter Try.func154, Try.ntmps154
    go_wp2
    go_quiet (fail)
    go_wp2
    go_ret2
    refine ⟨ret_uu ?_ ?_, grown_drewN _ _ _⟩
    · simp
    · simp
  · obtain ⟨L, hLd⟩ : ∃ L, L = Lib.bitLen y := ⟨_, rfl⟩
    have hbd := Lib.bitLenAux_bounds 64 y hy2 (by omega)
    have hL64 : L ≤ 64 := by rw [hLd]; exact Lib.bitLen_le y 64 (by omega) (by omega)
    rw [show Lib.bitLenAux 64 y = L from hLd.symm] at hbd
    obtain ⟨hL1, hlo2, hhi2⟩ := hbd
    obtain ⟨hY1, hY2⟩ := shifted y L hlo2 hhi2 hL1 hL64
    obtain ⟨hT, hN⟩ := parted lo L hl hL1 hL64
    have hlz : ∀ w, Calls Try.prog 182 #[.int .u64 y] w fun e w' => e = .returned (.int .i64 ((64 - L : Nat) : Int)) ∧ w = w' := by
      intro w
      refine (Try.bits_LeadingZeros64 y w (by omega) (by omega)).mono ?_
      rintro e w' ⟨h1, h2⟩
      refine ⟨?_, h2.symm⟩
      rw [h1, Int.toNat_natCast, ← hLd]
      exact ret_int (by omega)
    obtain ⟨s, hs⟩ : ∃ s, s = 64 - L := ⟨_, rfl⟩
    have hsL : 64 - s = L := by omega
    rw [← hs] at hY1 hY2 hT hN hlz
    have hp : 0 < 2 ^ s := Nat.two_pow_pos _
    obtain ⟨Y, hY⟩ : ∃ Y, Y = y * 2 ^ s := ⟨_, rfl⟩
    obtain ⟨T, hTd⟩ : ∃ T, T = lo / 2 ^ L := ⟨_, rfl⟩
    obtain ⟨N, hNd⟩ : ∃ N, N = lo * 2 ^ s % 18446744073709551616 := ⟨_, rfl⟩
    have hU : hi * 2 ^ s + T < Y := by
      have : (hi + 1) * 2 ^ s ≤ y * 2 ^ s := Nat.mul_le_mul_right _ hy
      rw [Nat.add_mul] at this
      omega
    have hM : (hi * 18446744073709551616 + lo) * 2 ^ s = (hi * 2 ^ s + T) * 18446744073709551616 + N := by
      rw [Nat.add_mul, Nat.mul_right_comm, hN, ← hTd, ← hNd]; omega
    have hN64 : N < 18446744073709551616 := by rw [hNd]; exact Nat.mod_lt _ (by decide)
    have hH : hi * 2 ^ s < 18446744073709551616 := by omega
    have hor := or_add hi T s hH (by rw [hTd]; exact hT) (by omega)
    have hdiv := div_shift (hi * 18446744073709551616 + lo) y s (by omega)
    rw [hM, ← hY] at hdiv
    obtain ⟨U, hUd⟩ : ∃ U, U = hi * 2 ^ s + T := ⟨_, rfl⟩
    rw [← hUd] at hU hM hor hdiv
    rw [← hY] at hY1 hY2
    have hsp : U * 18446744073709551616 + N = (U * 4294967296 + N / 4294967296) * 4294967296 + N % 4294967296 := by omega
    obtain ⟨g1, g2, g3⟩ := digits_of _ U (N / 4294967296) Y hY2 hU (by omega) rfl
    obtain ⟨Q1, hQ1⟩ : ∃ Q, Q = (U * 4294967296 + N / 4294967296) / Y := ⟨_, rfl⟩
    obtain ⟨U2, hU2⟩ : ∃ Q, Q = (U * 4294967296 + N / 4294967296) % Y := ⟨_, rfl⟩
    rw [← hQ1] at g1 g2
    rw [← hU2] at g2 g3
    obtain ⟨k1, k2, k3⟩ := digits_of _ U2 (N % 4294967296) Y hY2 g3 (by omega) rfl
    obtain ⟨Q2, hQ2⟩ : ∃ Q, Q = (U2 * 4294967296 + N % 4294967296) / Y := ⟨_, rfl⟩
    obtain ⟨R2, hR2⟩ : ∃ Q, Q = (U2 * 4294967296 + N % 4294967296) % Y := ⟨_, rfl⟩
    rw [← hQ2] at k1 k2
    rw [← hR2] at k2 k3
    have htwo := div_two Y (U * 4294967296 + N / 4294967296) (N % 4294967296) (by omega)
    rw [← hsp, ← hQ1, ← hU2, ← hQ2, ← hR2] at htwo
    rw [htwo.1, htwo.2] at hdiv
    have hys : Y = Y / 4294967296 * 4294967296 + Y % 4294967296 := by omega
    have hst1 := div_start (Y / 4294967296) (Y % 4294967296) U (N / 4294967296) (by omega) (by omega) (by omega) (by omega)
    have hst2 := div_start (Y / 4294967296) (Y % 4294967296) U2 (N % 4294967296) (by omega) (by omega) (by omega) (by omega)
    have m1 : U / (Y / 4294967296) * (Y / 4294967296) ≤ U := Nat.div_mul_le_self _ _
    have m2 : U2 / (Y / 4294967296) * (Y / 4294967296) ≤ U2 := Nat.div_mul_le_self _ _
    have n1 : U / (Y / 4294967296) ≤ U := Nat.div_le_self _ _
    have n2 : U2 / (Y / 4294967296) ≤ U2 := Nat.div_le_self _ _
    rw [← hdiv.1, ← hdiv.2]
    refine (div_core hi lo y s Y (Y / 4294967296) (Y % 4294967296) (hi * 2 ^ s) U N (N / 4294967296) (N % 4294967296) (U / (Y / 4294967296)) (U / (Y / 4294967296) * (Y / 4294967296)) (U - U / (Y / 4294967296) * (Y / 4294967296)) Q1
      (U * 4294967296 % 18446744073709551616) ((U * 4294967296 % 18446744073709551616 + N / 4294967296) % 18446744073709551616) (Q1 * Y % 18446744073709551616) U2
      (U2 / (Y / 4294967296)) (U2 / (Y / 4294967296) * (Y / 4294967296)) (U2 - U2 / (Y / 4294967296) * (Y / 4294967296)) Q2 (Q1 * 4294967296) (Q1 * 4294967296 + Q2)
      (U2 * 4294967296 % 18446744073709551616) ((U2 * 4294967296 % 18446744073709551616 + N % 4294967296) % 18446744073709551616) (Q2 * Y % 18446744073709551616) R2 (R2 / 2 ^ s) w hpos hy hlz (hs63 := ?hs63) (eY := ?eY) (e1 := ?e1) (e0 := ?e0) (eH := ?eH) (eN := ?eN) (eU := ?eU) (eN1 := ?eN1) (eN0 := ?eN0) (hyy1 := ?hyy1) (hyy0 := ?hyy0) (hd1 := ?hd1) (hd0 := ?hd0) (hy1 := ?hy1) (hUY := ?hUY) (eq0 := ?eq0) (ep0 := ?ep0) (er0 := ?er0) (eA := ?eA) (eB := ?eB) (eC := ?eC) (eD := ?eD) (eq2 := ?eq2) (ep2 := ?ep2) (er2 := ?er2) (eF := ?eF) (eG := ?eG) (eA2 := ?eA2) (eB2 := ?eB2) (eC2 := ?eC2) (eD2 := ?eD2) (eE := ?eE) (hUY2 := ?hUY2) (hi2 := ?hi2) (hr2 := ?hr2) (HQ2 := ?HQ2) (hi1 := ?hi1) (hr0 := ?hr0) (HQ1 := ?HQ1)).mono ?_
    case hs63 => omega
    case eY => rw [← cast_two_pow_mul y s, ← hY]; exact u64_self _ hY2
    case e1 => exact (Int.natCast_ediv _ _).symm
    case e0 => exact mask32 _ hY2
    case eH => rw [← cast_two_pow_mul]; exact u64_self _ hH
    case eN => rw [← cast_two_pow_mul, hNd]; exact u64_wrap _ _ rfl
    case eU => rw [hsL, cast_div_two_pow, ← hTd]; exact hor
    case eN1 => exact (Int.natCast_ediv _ _).symm
    case eN0 => exact mask32 _ hN64
    case hyy1 => omega
    case hyy0 => omega
    case hd1 => omega
    case hd0 => omega
    case hy1 => omega
    case hUY => omega
    case eq0 => rw [← Int.natCast_ediv]; exact u64_self _ (by omega)
    case ep0 => rw [← Int.natCast_mul]; exact u64_self _ (by omega)
    case er0 => exact u64_sub _ _ _ (by omega) (by omega)
    case eA => exact u64_wrap (U * 4294967296) _ rfl
    case eB => exact u64_wrap (U * 4294967296 % 18446744073709551616 + N / 4294967296) _ rfl
    case eC => rw [← Int.natCast_mul]; exact u64_wrap _ _ rfl
    case eD => exact u64_sub _ _ _ (by omega) (by omega)
    case eq2 => rw [← Int.natCast_ediv]; exact u64_self _ (by omega)
    case ep2 => rw [← Int.natCast_mul]; exact u64_self _ (by omega)
    case er2 => exact u64_sub _ _ _ (by omega) (by omega)
    case eF => exact u64_self (Q1 * 4294967296) (by omega)
    case eG => exact u64_self (Q1 * 4294967296 + Q2) (by omega)
    case eA2 => exact u64_wrap (U2 * 4294967296) _ rfl
    case eB2 => exact u64_wrap (U2 * 4294967296 % 18446744073709551616 + N % 4294967296) _ rfl
    case eC2 => rw [← Int.natCast_mul]; exact u64_wrap _ _ rfl
    case eD2 => exact u64_sub _ _ _ (by omega) (by omega)
    case eE => exact cast_div_two_pow _ _
    case hUY2 => omega
    case hi2 => exact hst2.1
    case hr2 => omega
    case HQ2 => show _ = _; rw [← hys]; exact hQ2.symm
    case hi1 => exact hst1.1
    case hr0 => omega
    case HQ1 => show _ = _; rw [← hys]; exact hQ1.symm
    rintro e w' ⟨h1, rfl⟩
    exact ⟨h1, grown_refl _ _⟩
end Go.Proofs.Ytgkhhfojioepgaa
/- Rounded quotients: as the program rounds (up from the whole number below), and as the other way has it (without a sign first). No program. -/
namespace Go.Proofs.Ytgkhhfojioepgaa
set_option linter.unusedSimpArgs false
set_option linter.unusedVariables false
def big : Int := 4611686018427387904

/-- Is the whole number above q taken? n = q * d + r. -/
def upB (how q r d : Int) : Bool :=
  if how = 1 then false
  else if how = 2 then decide (0 < r)
  else if how = 3 then decide (0 < r) && decide (q < 0)
  else if how = 4 then decide (d - r ≤ r)
  else decide (d - r < r) || (decide (r = d - r) && decide (q % 2 = 1))

def rndV (how n d : Int) : Int := n / d + (if upB how (n / d) (n % d) d then 1 else 0)

def scaleV (a num den how : Int) : Int × Int :=
  if how < 1 ∨ 5 < how then (0, 7)
  else if den < 1 ∨ num < 0 then (0, 1)
  else if rndV how (a * num) den < -big ∨ big < rndV how (a * num) den then (0, 9)
  else (rndV how (a * num) den, 0)

theorem neg_div_of (N d : Int) (hd : 0 < d) (h : N % d = 0) : -N / d = -(N / d) ∧ -N % d = 0 := by
  have hm := Int.mul_ediv_add_emod N d
  have e : -N = d * (-(N / d)) := by rw [Int.mul_neg]; omega
  constructor
  · rw [e, Int.mul_ediv_cancel_left _ (by omega)]
    
  · rw [e]; exact Int.mul_emod_right _ _

theorem neg_div_of' (N d : Int) (hd : 0 < d) (h : N % d ≠ 0) : -N / d = -(N / d) - 1 ∧ -N % d = d - N % d := by
  have hm := Int.mul_ediv_add_emod N d
  have h1 := Int.emod_nonneg N (show d ≠ 0 by omega)
  have h2 := Int.emod_lt_of_pos N hd
  have e : -N = (d - N % d) + d * (-(N / d) - 1) := by
    rw [Int.mul_sub, Int.mul_neg]; omega
  constructor
  · rw [e, Int.add_mul_ediv_left _ _ (by omega), Int.ediv_eq_zero_of_lt (by omega) (by omega)]; omega
  · rw [e, Int.add_mul_emod_self_left, Int.emod_eq_of_lt (by omega) (by omega)]

theorem rnd_near (how n d : Int) : n / d ≤ rndV how n d ∧ rndV how n d ≤ n / d + 1 := by
  unfold rndV; split <;> omega

theorem up_zero (how q d : Int) (hd : 0 < d) : upB how q 0 d = false := by
  unfold upB
  repeat' split
  all_goals simp
  all_goals omega

/-- A quotient too great is no result, however rounded. -/
theorem scale_no (a num den how : Int) (h1 : 1 ≤ how) (h5 : how ≤ 5) (hd : 1 ≤ den) (hn : 0 ≤ num) (hb : big < (a.natAbs * num) / den) : scaleV a num den how = (0, 9) := by
  unfold scaleV
  rw [if_neg (by omega), if_neg (by omega), if_pos]
  have hr := rnd_near how (a * num) den
  rcases (show a < 0 ∨ 0 ≤ a by omega) with ha | ha
  · left
    have en : (a.natAbs : Int) = -a := by omega
    have e : a * num = -((a.natAbs : Int) * num) := by rw [en, Int.neg_mul, Int.neg_neg]
    rw [e] at hr ⊢
    generalize (a.natAbs : Int) * num = N at *
    unfold rndV at hr ⊢
    by_cases hz : N % den = 0
    · obtain ⟨e1, e2⟩ := neg_div_of N den (by omega) hz
      rw [e1, e2, up_zero _ _ _ (by omega)]
      simp; omega
    · obtain ⟨e1, e2⟩ := neg_div_of' N den (by omega) hz
      rw [e1]; split <;> omega
  · right
    have e : (a.natAbs : Int) = a := by omega
    rw [e] at hb
    omega

/-- The other way of it: without a sign, and rounded up if it is to be. -/
def moreB (quo rest den : Int) (minus : Bool) (how : Int) : Bool :=
  if rest = 0 then false
  else if how = 1 then minus
  else if how = 2 then !minus
  else if how = 3 then false
  else if rest = den - rest then (if how = 4 then !minus else decide (quo % 2 = 1))
  else decide (den - rest < rest)

theorem more_pos (how q r d : Int) (h1 : 1 ≤ how) (h5 : how ≤ 5) (hq : 0 ≤ q) (h0 : 0 ≤ r) (hr : r < d) : upB how q r d = moreB q r d false how := by
  unfold upB moreB
  by_cases c0 : r = 0
  · subst c0; repeat' split
    all_goals (simp; try omega)
  rcases (show how = 1 ∨ how = 2 ∨ how = 3 ∨ how = 4 ∨ how = 5 by omega) with rfl | rfl | rfl | rfl | rfl
  · simp [c0]
  · simp [c0]; omega
  · simp [c0]; omega
  · simp [c0]; rw [Bool.eq_iff_iff]; simp; omega
  · by_cases c : r = d - r
    · have c' : ¬ d - r < r := by omega
      simp [c0, ← c]
    · simp [c0, if_neg c]; intro h; omega

theorem more_neg (how q r d : Int) (h1 : 1 ≤ how) (h5 : how ≤ 5) (hq : 0 ≤ q) (h0 : 0 < r) (hr : r < d) : upB how (-q - 1) (d - r) d = !moreB q r d true how := by
  unfold upB moreB
  have c0 : r ≠ 0 := by omega
  rcases (show how = 1 ∨ how = 2 ∨ how = 3 ∨ how = 4 ∨ how = 5 by omega) with rfl | rfl | rfl | rfl | rfl
  · simp [c0]
  · simp [c0]; omega
  · simp [c0]; omega
  · simp [c0]; rw [Bool.eq_iff_iff]; simp; omega
  · by_cases c : r = d - r
    · simp [c0]; rw [if_pos c]; rw [Bool.eq_iff_iff]; simp; omega
    · simp [c0]; rw [if_neg c]; rw [Bool.eq_iff_iff]; simp; omega

def quoV (a num den how : Int) : Int :=
  (a.natAbs * num) / den + (if moreB ((a.natAbs * num) / den) ((a.natAbs * num) % den) den (decide (a < 0)) how then 1 else 0)

theorem scale_ref (a num den how : Int) (h1 : 1 ≤ how) (h5 : how ≤ 5) (hd : 1 ≤ den) (hn : 0 ≤ num) :
    scaleV a num den how = if big < quoV a num den how then (0, 9) else ((if a < 0 then -quoV a num den how else quoV a num den how), 0) := by
  have key : rndV how (a * num) den = (if a < 0 then -quoV a num den how else quoV a num den how) ∧ 0 ≤ quoV a num den how := by
    rcases (show a < 0 ∨ 0 ≤ a by omega) with ha | ha
    · have en : (a.natAbs : Int) = -a := by omega
      have e : a * num = -((a.natAbs : Int) * num) := by rw [en, Int.neg_mul, Int.neg_neg]
      have hN : 0 ≤ (a.natAbs : Int) * num := Int.mul_nonneg (by omega) hn
      rw [e, if_pos ha]
      unfold quoV
      generalize (a.natAbs : Int) * num = N at *
      have hq : 0 ≤ N / den := Int.ediv_nonneg hN (by omega)
      have hr0 := Int.emod_nonneg N (show den ≠ 0 by omega)
      have hr1 := Int.emod_lt_of_pos N (show 0 < den by omega)
      rw [decide_eq_true ha]
      unfold rndV
      by_cases hz : N % den = 0
      · obtain ⟨e1, e2⟩ := neg_div_of N den (by omega) hz
        rw [e1, e2, up_zero _ _ _ (by omega), hz]
        simp [moreB]; omega
      · obtain ⟨e1, e2⟩ := neg_div_of' N den (by omega) hz
        rw [e1, e2, more_neg how _ _ _ h1 h5 hq (by omega) hr1]
        cases moreB (N / den) (N % den) den true how <;> simp <;> omega
    · have e : (a.natAbs : Int) = a := by omega
      have hN : 0 ≤ a * num := Int.mul_nonneg (by omega) hn
      unfold quoV
      rw [e, if_neg (by omega), decide_eq_false (by omega)]
      generalize a * num = N at *
      have hq : 0 ≤ N / den := Int.ediv_nonneg hN (by omega)
      have hr0 := Int.emod_nonneg N (show den ≠ 0 by omega)
      have hr1 := Int.emod_lt_of_pos N (show 0 < den by omega)
      unfold rndV
      rw [more_pos how _ _ _ h1 h5 hq hr0 hr1]
      exact ⟨rfl, by split <;> omega⟩
  unfold scaleV
  obtain ⟨k1, k2⟩ := key
  rw [if_neg (by omega), if_neg (by omega), k1]
  unfold big at *
  split <;> split <;> split <;> first | rfl | omega | (exfalso; omega)

end Go.Proofs.Ytgkhhfojioepgaa
namespace Go.Proofs.Ytgkhhfojioepgaa
open Go.RowKit
set_option linter.unusedSimpArgs false
set_option linter.unusedVariables false

theorem back (M num : Nat) : M * num / 18446744073709551616 * 18446744073709551616 + M * num % 18446744073709551616 = M * num := by omega

/-- The quotient without a sign, from the product on. -/
theorem mul_any (x y : Nat) (hx : x < 18446744073709551616) (hy : y < 18446744073709551616) (w : World) {H L : Nat} (hH : Hid (x * y / 18446744073709551616 = H)) (hL : Hid (x * y % 18446744073709551616 = L)) :
    Calls Try.prog 152 #[.int .u64 x, .int .u64 y] w fun e w' => e = .returned (.tuple #[.int .u64 H, .int .u64 L]) ∧ w = w' := by
  refine (Try.bits_Mul64 x y hx hy w).mono ?_
  rintro e w' ⟨h1, h2⟩
  exact ⟨by rw [h1, hH.out, hL.out], h2.symm⟩
theorem div_any {hi lo y : Nat} (w : World) (hy : hi < y) (hy2 : y < 18446744073709551616) (hl : lo < 18446744073709551616) {Q R : Nat} (hQ : Hid ((hi * 18446744073709551616 + lo) / y = Q)) (hR : Hid ((hi * 18446744073709551616 + lo) % y = R)) :
    Calls Try.prog 154 #[.int .u64 hi, .int .u64 lo, .int .u64 y] w fun e w' => e = .returned (.tuple #[.int .u64 Q, .int .u64 R]) ∧ w.grownBy w' none := by
  refine (div64_any hi lo y w hy hy2 hl).mono ?_
  rintro e w' ⟨h1, h2⟩
  exact ⟨by rw [h1, hQ.out, hR.out], h2⟩


theorem neg_wrap (a : Int) (M : Nat) (hM : M = a.natAbs) (ha : a < 0) (ha0 : -9223372036854775808 ≤ a) : IntKind.u64.wrap a = (((18446744073709551616 - M : Nat) : Nat) : Int) ∧ IntKind.u64.wrap (-(((18446744073709551616 - M : Nat) : Nat) : Int)) = (M : Int) := by
  rw [IntKind.wrap_u64, IntKind.wrap_u64]; omega

def TooBig (M num den : Nat) : Prop := 4611686018427387904 < M * num / den

set_option maxHeartbeats 1600000 in
theorem quot_no (a : Int) (num den : Nat) (ha0 : -9223372036854775808 ≤ a) (ha1 : a ≤ 9223372036854775807) (hn : num ≤ 9223372036854775807) (hd0 : 1 ≤ den) (hd1 : den ≤ 9223372036854775807) (hbig : TooBig a.natAbs num den) (w : World) :
    Calls Try.prog 149 #[.int .i64 a, .int .u64 num, .int .u64 den] w fun e w' => (e = .returned (.tuple #[.int .i64 0, .int .u64 0, .bool false])) ∧ w.grownBy w' none := by
  obtain ⟨M, hM⟩ : ∃ M, M = a.natAbs := ⟨_, rfl⟩
  obtain ⟨H, hH⟩ : ∃ H, M * num / 18446744073709551616 = H := ⟨_, rfl⟩
  obtain ⟨L, hL⟩ : ∃ H, M * num % 18446744073709551616 = H := ⟨_, rfl⟩
  have hM64 : M ≤ 9223372036854775808 := by omega
  have hL64 : L < 18446744073709551616 := by rw [← hL]; exact Nat.mod_lt _ (by decide)
  have hback := back M num
  rw [hH, hL] at hback
  rw [← hM] at hbig
  obtain ⟨Q, hQ⟩ : ∃ Q, (H * 18446744073709551616 + L) / den = Q := ⟨_, rfl⟩
  obtain ⟨R, hR⟩ : ∃ Q, (H * 18446744073709551616 + L) % den = Q := ⟨_, rfl⟩
  have hQb : 4611686018427387904 < Q := by unfold TooBig at hbig; rw [← hback, hQ] at hbig; exact hbig
  have hQi : (4611686018427387904 : Int) < (Q : Int) := by omega
  have HH := Lib.hid hH; have HL := Lib.hid hL; have HB := Lib.hid hback; have HQ := Lib.hid hQ; have HR := Lib.hid hR; have HM := Lib.hid hM; have HBIG := Lib.hid hbig
  clear hH hL hback hQ hR hQb hbig
  by_cases hhd : (den : Int) ≤ (H : Int)
  · by_cases hneg : a < 0
    · obtain ⟨e1, e2⟩ := neg_wrap a M hM hneg ha0
      obtain ⟨A1, hA1⟩ : ∃ A1, 18446744073709551616 - M = A1 := ⟨_, rfl⟩
      rw [hA1] at e1 e2
      clear hA1 hM
      go_enter Try.func149, Try.ntmps149
      go_wp2_with (go_at_call 152; refine (mul_any M num (by omega) (by omega) _ HH HL).mono ?_; rintro e w1 ⟨rfl, rfl⟩)
      go_ret3
      exact ⟨rfl, grown_refl _ _⟩
    · obtain rfl : a = (M : Int) := by omega
      clear hM
      go_enter Try.func149, Try.ntmps149
      go_wp2_with (go_at_call 152; refine (mul_any M num (by omega) (by omega) _ HH HL).mono ?_; rintro e w1 ⟨rfl, rfl⟩)
      go_ret3
      exact ⟨rfl, grown_refl _ _⟩
  · by_cases hneg : a < 0
    · obtain ⟨e1, e2⟩ := neg_wrap a M hM hneg ha0
      obtain ⟨A1, hA1⟩ : ∃ A1, 18446744073709551616 - M = A1 := ⟨_, rfl⟩
      rw [hA1] at e1 e2
      clear hA1 hM
      go_enter Try.func149, Try.ntmps149
      go_wp2_with (first | (go_at_call 152; refine (mul_any M num (by omega) (by omega) _ HH HL).mono ?_; rintro e w1 ⟨rfl, rfl⟩) | (go_at_call 154; refine (div_any _ (by omega) (by omega) hL64 HQ HR).mono ?_; rintro e w2 ⟨rfl, hg⟩))
      go_ret3
      exact ⟨rfl, by assumption⟩
    · obtain rfl : a = (M : Int) := by omega
      clear hM
      go_enter Try.func149, Try.ntmps149
      go_wp2_with (first | (go_at_call 152; refine (mul_any M num (by omega) (by omega) _ HH HL).mono ?_; rintro e w1 ⟨rfl, rfl⟩) | (go_at_call 154; refine (div_any _ (by omega) (by omega) hL64 HQ HR).mono ?_; rintro e w2 ⟨rfl, hg⟩))
      go_ret3
      exact ⟨rfl, by assumption⟩

theorem ret_iub {a b c d : Int} {x y : Bool} (h : a = b) (h' : c = d) (h'' : x = y) : Ending.returned (.tuple #[.int .i64 a, .int .u64 c, .bool x]) = .returned (.tuple #[.int .i64 b, .int .u64 d, .bool y]) := by rw [h, h', h'']

set_option maxHeartbeats 1600000 in
theorem quot_yes (a : Int) (num den : Nat) (ha0 : -9223372036854775808 ≤ a) (ha1 : a ≤ 9223372036854775807) (hn : num ≤ 9223372036854775807) (hd0 : 1 ≤ den) (hd1 : den ≤ 9223372036854775807) (hbig : ¬ TooBig a.natAbs num den) (w : World) :
    Calls Try.prog 149 #[.int .i64 a, .int .u64 num, .int .u64 den] w fun e w' => (e = .returned (.tuple #[.int .i64 (a * num / den), .int .u64 (a * num % den), .bool true])) ∧ w.grownBy w' none := by
  obtain ⟨M, hM⟩ : ∃ M, M = a.natAbs := ⟨_, rfl⟩
  obtain ⟨H, hH⟩ : ∃ H, M * num / 18446744073709551616 = H := ⟨_, rfl⟩
  obtain ⟨L, hL⟩ : ∃ H, M * num % 18446744073709551616 = H := ⟨_, rfl⟩
  have hM64 : M ≤ 9223372036854775808 := by omega
  have hL64 : L < 18446744073709551616 := by rw [← hL]; exact Nat.mod_lt _ (by decide)
  have hback := back M num
  rw [hH, hL] at hback
  rw [← hM] at hbig
  obtain ⟨Q, hQ⟩ : ∃ Q, (H * 18446744073709551616 + L) / den = Q := ⟨_, rfl⟩
  obtain ⟨R, hR⟩ : ∃ Q, (H * 18446744073709551616 + L) % den = Q := ⟨_, rfl⟩
  have hQ' := hQ
  have hR' := hR
  rw [hback] at hQ' hR'
  have hQb : Q ≤ 4611686018427387904 := by unfold TooBig at hbig; rw [hQ'] at hbig; omega
  have hQi : (Q : Int) ≤ 4611686018427387904 := by omega
  have hRd : R < den := by rw [← hR]; exact Nat.mod_lt _ hd0
  have hHd : H < den := by
    rcases Nat.lt_or_ge H den with h | h
    · exact h
    · exfalso
      have h1 : den * 18446744073709551616 ≤ M * num := by omega
      have h2 : 18446744073709551616 ≤ M * num / den := by rw [Nat.le_div_iff_mul_le (by omega), Nat.mul_comm]; exact h1
      omega
  have hHi : (H : Int) < (den : Int) := by omega
  have hcast : ((M * num : Nat) : Int) = (M : Int) * (num : Int) := by push_cast; rfl
  have hq : ((M : Int) * (num : Int)) / (den : Int) = (Q : Int) := by rw [← hcast, ← Int.natCast_ediv, hQ']
  have hr : ((M : Int) * (num : Int)) % (den : Int) = (R : Int) := by rw [← hcast, ← Int.natCast_emod, hR']
  have HH := Lib.hid hH; have HL := Lib.hid hL; have HQ := Lib.hid hQ; have HR := Lib.hid hR
  have Hq := Lib.hid hq; have Hr := Lib.hid hr
  clear hH hL hback hQ hR hQb hbig hQ' hR' hcast hq hr
  by_cases hneg : a < 0
  · obtain ⟨e1, e2⟩ := neg_wrap a M hM hneg ha0
    obtain ⟨A1, hA1⟩ : ∃ A1, 18446744073709551616 - M = A1 := ⟨_, rfl⟩
    rw [hA1] at e1 e2
    have haM : a * (num : Int) = -((M : Int) * (num : Int)) := by
      have : a = -(M : Int) := by omega
      rw [this, Int.neg_mul]
    have HA := Lib.hid haM
    clear hA1 hM haM
    by_cases hz : R = 0
    · subst hz
      have hd := neg_div_of ((M : Int) * (num : Int)) den (by omega) (by rw [Hr.out]; rfl)
      have HD := Lib.hid hd; clear hd
      go_enter Try.func149, Try.ntmps149
      go_wp2_with (first | (go_at_call 152; refine (mul_any M num (by omega) (by omega) _ HH HL).mono ?_; rintro e w1 ⟨rfl, rfl⟩) | (go_at_call 154; refine (div_any _ (by omega) (by omega) hL64 HQ HR).mono ?_; rintro e w2 ⟨rfl, hg⟩))
      go_ret3
      exact ⟨ret_iub (by rw [HA.out, HD.out.1, Hq.out]) (by rw [HA.out, HD.out.2]) rfl, by assumption⟩
    · have hz1 : ((R : Int) == 0) = false := by simp; omega
      have hd := neg_div_of' ((M : Int) * (num : Int)) den (by omega) (by rw [Hr.out]; omega)
      have HD := Lib.hid hd; clear hd
      go_enter Try.func149, Try.ntmps149
      go_wp2_with (first | (go_at_call 152; refine (mul_any M num (by omega) (by omega) _ HH HL).mono ?_; rintro e w1 ⟨rfl, rfl⟩) | (go_at_call 154; refine (div_any _ (by omega) (by omega) hL64 HQ HR).mono ?_; rintro e w2 ⟨rfl, hg⟩))
      go_ret3
      exact ⟨ret_iub (by rw [HA.out, HD.out.1, Hq.out]) (by rw [HA.out, HD.out.2, Hr.out]) rfl, by assumption⟩
  · obtain rfl : a = (M : Int) := by omega
    clear hM
    go_enter Try.func149, Try.ntmps149
    go_wp2_with (first | (go_at_call 152; refine (mul_any M num (by omega) (by omega) _ HH HL).mono ?_; rintro e w1 ⟨rfl, rfl⟩) | (go_at_call 154; refine (div_any _ (by omega) (by omega) hL64 HQ HR).mono ?_; rintro e w2 ⟨rfl, hg⟩))
    go_ret3
    exact ⟨ret_iub (by rw [Hq.out]) (by rw [Hr.out]) rfl, by assumption⟩
end Go.Proofs.Ytgkhhfojioepgaa
namespace Go.Proofs.Ytgkhhfojioepgaa
open Go.RowKit
set_option linter.unusedSimpArgs false
set_option linter.unusedVariables false

theorem outside_no (n lo hi : Int) (h1 : lo ≤ n) (h2 : n ≤ hi) (w : World) :
    Calls Try.prog 151 #[.int .i64 n, .int .i64 lo, .int .i64 hi] w fun e w' => e = .returned (.bool false) ∧ w = w' := by
  go_enter Try.func151, Try.ntmps151
  go_wp2
  go_ret
  exact ⟨ret_bool (by first | rfl | (simp; omega)), rfl⟩
theorem outside_yes (n lo hi : Int) (h : n < lo ∨ hi < n) (w : World) :
    Calls Try.prog 151 #[.int .i64 n, .int .i64 lo, .int .i64 hi] w fun e w' => e = .returned (.bool true) ∧ w = w' := by
  by_cases h1 : n < lo
  · clear h
    go_enter Try.func151, Try.ntmps151
    go_wp2
    go_ret
    exact ⟨rfl, rfl⟩
  · have h2 : hi < n := by omega
    clear h
    go_enter Try.func151, Try.ntmps151
    go_wp2
    go_ret
    exact ⟨ret_bool (by first | rfl | (simp; omega)), rfl⟩

theorem divI_any {hi lo y : Nat} (w : World) (hy : hi < y) (hy2 : y < 18446744073709551616) (hl : lo < 18446744073709551616) {Q : Int} {R : Nat} (hQ : Hid ((((hi * 18446744073709551616 + lo) / y : Nat) : Int) = Q)) (hR : Hid ((hi * 18446744073709551616 + lo) % y = R)) :
    Calls Try.prog 154 #[.int .u64 hi, .int .u64 lo, .int .u64 y] w fun e w' => e = .returned (.tuple #[.int .u64 Q, .int .u64 R]) ∧ w.grownBy w' none := by
  refine (div64_any hi lo y w hy hy2 hl).mono ?_
  rintro e w' ⟨h1, h2⟩
  exact ⟨by rw [h1, hQ.out, hR.out], h2⟩

theorem size_any (a : Int) (ha0 : -9223372036854775808 ≤ a) (ha1 : a ≤ 9223372036854775807) (w : World) :
    Calls Try.prog 153 #[.int .i64 a] w fun e w' => e = .returned (.int .u64 (a.natAbs : Nat)) ∧ w = w' := by
  obtain ⟨M, hM⟩ : ∃ M, M = a.natAbs := ⟨_, rfl⟩
  rw [← hM]
  by_cases hneg : a < 0
  · obtain ⟨e1, e2⟩ := neg_wrap a M hM hneg ha0
    obtain ⟨A1, hA1⟩ : ∃ A1, 18446744073709551616 - M = A1 := ⟨_, rfl⟩
    rw [hA1] at e1 e2
    clear hA1 hM
    go_enter Try.func153, Try.ntmps153
    go_wp2
    go_ret
    exact ⟨rfl, rfl⟩
  · obtain rfl : a = (M : Int) := by omega
    clear hM
    go_enter Try.func153, Try.ntmps153
    go_wp2
    go_ret
    exact ⟨rfl, rfl⟩

set_option maxHeartbeats 800000 in
theorem more_any (q : Int) (r d : Nat) (minus : Bool) (how : Int) (hq0 : 0 ≤ q) (h1 : 1 ≤ how) (h5 : how ≤ 5) (hr : (r : Int) < (d : Int)) (hd : (d : Int) ≤ 9223372036854775807) (w : World) {b : Bool} (hb : Hid (moreB q r d minus how = b)) :
    Calls Try.prog 155 #[.int .u64 q, .int .u64 r, .int .u64 d, .bool minus, .int .i64 how] w fun e w' => e = .returned (.bool b) ∧ w = w' := by
  have hb' := hb.out
  unfold moreB at hb'
  by_cases h0 : r = 0
  · subst h0
    rw [if_pos (by rfl)] at hb'
    subst hb'
    clear hb
    go_enter Try.func155, Try.ntmps155
    go_wp2
    go_ret
    exact ⟨rfl, rfl⟩
  · rw [if_neg (by omega)] at hb'
    have h0' : ((r : Int) == 0) = false := by simp; omega
    rcases (show how = 1 ∨ how = 2 ∨ how = 3 ∨ how = 4 ∨ how = 5 by omega) with rfl | rfl | rfl | rfl | rfl
    · have HB := Lib.hid hb'; clear hb' hb h0
      go_enter Try.func155, Try.ntmps155
      go_wp2
      go_ret
      exact ⟨ret_bool (by simpa using HB.out), rfl⟩
    · have HB := Lib.hid hb'; clear hb' hb h0
      go_enter Try.func155, Try.ntmps155
      go_wp2
      go_ret
      exact ⟨ret_bool (by simpa using HB.out), rfl⟩
    · have HB := Lib.hid hb'; clear hb' hb h0
      go_enter Try.func155, Try.ntmps155
      go_wp2
      go_ret
      exact ⟨ret_bool (by simpa using HB.out), rfl⟩
    all_goals
      by_cases hm : (r : Int) = (d : Int) - (r : Int)
      · have hm1 : ((r : Int) != (d : Int) - (r : Int)) = false := by simpa using hm
        rw [if_pos hm] at hb'
        have HB := Lib.hid hb'; clear hb' hb h0 hm
        go_enter Try.func155, Try.ntmps155
        go_wp2
        go_ret
        exact ⟨ret_bool (by rw [← HB.out]; first | (simp; done) | (simp; rw [Bool.eq_iff_iff]; simp)), rfl⟩
      · have hm1 : ((r : Int) != (d : Int) - (r : Int)) = true := by simpa using hm
        rw [if_neg hm] at hb'
        have HB := Lib.hid hb'; clear hb' hb h0 hm
        go_enter Try.func155, Try.ntmps155
        go_wp2
        go_ret
        exact ⟨ret_bool (by simpa using HB.out), rfl⟩

set_option maxHeartbeats 1600000 in
theorem refScale_any (a num den how : Int) (ha0 : -9223372036854775808 ≤ a) (ha1 : a ≤ 9223372036854775807) (hn0 : -9223372036854775808 ≤ num) (hn1 : num ≤ 9223372036854775807) (hd0 : -9223372036854775808 ≤ den) (hd1 : den ≤ 9223372036854775807) (w : World) :
    Calls Try.prog 113 #[.int .i64 a, .int .i64 num, .int .i64 den, .int .i64 how] w fun e w' => e = .returned (.tuple #[.int .i64 (scaleV a num den how).1, .int .i64 (scaleV a num den how).2]) ∧ w.grownBy w' none := by
  by_cases hk : how < 1 ∨ 5 < how
  · have hv : scaleV a num den how = (0, 7) := by unfold scaleV; rw [if_pos hk]
    have HV := Lib.hid hv; clear hv
    have HK := Lib.hid hk; clear hk
    go_enter Try.func113, Try.ntmps113
    go_wp2_with (go_at_call 151; refine (outside_yes _ _ _ HK.out _).mono ?_; rintro e w1 ⟨rfl, rfl⟩)
    go_ret2
    exact ⟨ret_ii (by rw [HV.out]) (by rw [HV.out]), grown_refl _ _⟩
  have hk1 : 1 ≤ how := by omega
  have hk5 : how ≤ 5 := by omega
  clear hk
  by_cases hdn : den < 1
  · have hv : scaleV a num den how = (0, 1) := by unfold scaleV; rw [if_neg (by omega), if_pos (.inl (by omega))]
    have HV := Lib.hid hv; clear hv
    go_enter Try.func113, Try.ntmps113
    go_wp2_with (go_at_call 151; refine (outside_no _ _ _ hk1 hk5 _).mono ?_; rintro e w1 ⟨rfl, rfl⟩)
    go_ret2
    exact ⟨ret_ii (by rw [HV.out]) (by rw [HV.out]), grown_refl _ _⟩
  by_cases hnn : num < 0
  · have hv : scaleV a num den how = (0, 1) := by unfold scaleV; rw [if_neg (by omega), if_pos (.inr (by omega))]
    have HV := Lib.hid hv; clear hv
    go_enter Try.func113, Try.ntmps113
    go_wp2_with (go_at_call 151; refine (outside_no _ _ _ hk1 hk5 _).mono ?_; rintro e w1 ⟨rfl, rfl⟩)
    go_ret2
    exact ⟨ret_ii (by rw [HV.out]) (by rw [HV.out]), grown_refl _ _⟩
  obtain ⟨n, rfl⟩ : ∃ n : Nat, (n : Int) = num := ⟨num.toNat, by omega⟩
  obtain ⟨d, rfl⟩ : ∃ n : Nat, (n : Int) = den := ⟨den.toNat, by omega⟩
  have hsc := scale_ref a n d how hk1 hk5 (by omega) (by omega)
  have hsz := size_any a ha0 ha1
  have hM64 : ((a.natAbs : Nat) : Int) ≤ 9223372036854775808 := by omega
  unfold quoV at hsc
  generalize a.natAbs = M at hsc hsz hM64
  obtain ⟨H, hH⟩ : ∃ H, M * n / 18446744073709551616 = H := ⟨_, rfl⟩
  obtain ⟨L, hL⟩ : ∃ H, M * n % 18446744073709551616 = H := ⟨_, rfl⟩
  have hL64 : L < 18446744073709551616 := by rw [← hL]; exact Nat.mod_lt _ (by decide)
  have hback := back M n
  rw [hH, hL] at hback
  obtain ⟨Q, hQ⟩ : ∃ Q : Int, (((H * 18446744073709551616 + L) / d : Nat) : Int) = Q := ⟨_, rfl⟩
  obtain ⟨R, hR⟩ : ∃ Q, (H * 18446744073709551616 + L) % d = Q := ⟨_, rfl⟩
  have hRd : (R : Int) < (d : Int) := by have : R < d := by rw [← hR]; exact Nat.mod_lt _ (by omega)
                                         omega
  have eN : (M : Int) * (n : Int) = ((H * 18446744073709551616 + L : Nat) : Int) := by rw [hback]; push_cast; rfl
  have eQ : ((M : Int) * (n : Int)) / (d : Int) = Q := by rw [eN, ← Int.natCast_ediv, hQ]
  have eR : ((M : Int) * (n : Int)) % (d : Int) = (R : Int) := by rw [eN, ← Int.natCast_emod, hR]
  rw [eQ, eR] at hsc
  have HSZ := Lib.hid hsz; clear hsz
  have HH := Lib.hid hH; have HL := Lib.hid hL; have HB := Lib.hid hback; have HQ := Lib.hid hQ; have HR := Lib.hid hR
  clear hH hL hback hQ hR eN eQ eR
  by_cases hhd : (d : Int) ≤ (H : Int)
  · have hv : scaleV a n d how = (0, 9) := by
      rw [hsc, if_pos]
      have h1 : d * 18446744073709551616 ≤ H * 18446744073709551616 + L := by omega
      have h2 : 18446744073709551616 ≤ (H * 18446744073709551616 + L) / d := by rw [Nat.le_div_iff_mul_le (by omega), Nat.mul_comm]; exact h1
      have h3 := HQ.out
      unfold big
      split <;> omega
    have HV := Lib.hid hv; clear hv hsc
    go_enter Try.func113, Try.ntmps113
    go_wp2_with (first | (go_at_call 151; refine (outside_no _ _ _ hk1 hk5 _).mono ?_; rintro e w1 ⟨rfl, rfl⟩) | (go_at_call 153; refine (HSZ.out _).mono ?_; rintro e w1 ⟨rfl, rfl⟩) | (go_at_call 152; refine (mul_any M n (by omega) (by omega) _ HH HL).mono ?_; rintro e w1 ⟨rfl, rfl⟩))
    go_ret2
    exact ⟨ret_ii (by rw [HV.out]) (by rw [HV.out]), grown_refl _ _⟩
  · have hQ64 : Q ≤ 18446744073709551615 := by
      have : (H * 18446744073709551616 + L) / d < 18446744073709551616 := by rw [Nat.div_lt_iff_lt_mul (by omega)]; omega
      have h3 := HQ.out
      omega
    have HL64 := Lib.hid hL64; clear hL64
    have hQ0 : 0 ≤ Q := by rw [← HQ.out]; exact Int.natCast_nonneg _
    have e0 : ∀ x : Int, x + (if false = true then 1 else 0) = x := fun x => by simp
    have e1 : ∀ x : Int, x + (if true = true then 1 else 0) = x + 1 := fun x => by simp
    by_cases hneg : a < 0
    · rw [decide_eq_true hneg, if_pos hneg] at hsc
      rcases hm : moreB Q R d true how with _ | _
      · rw [hm, e0] at hsc
        have HM := Lib.hid hm; clear hm e0 e1
        by_cases hbg : (4611686018427387904 : Int) < Q
        · rw [if_pos (by unfold big; omega)] at hsc
          skip
          have HV := Lib.hid hsc; clear hsc
          go_enter Try.func113, Try.ntmps113
          go_wp2_with (first | (go_at_call 151; refine (outside_no _ _ _ hk1 hk5 _).mono ?_; rintro e w1 ⟨rfl, rfl⟩) | (go_at_call 153; refine (HSZ.out _).mono ?_; rintro e w1 ⟨rfl, rfl⟩) | (go_at_call 152; refine (mul_any M n (by omega) (by omega) _ HH HL).mono ?_; rintro e w1 ⟨rfl, rfl⟩) | (go_at_call 154; refine (divI_any _ (by omega) (by omega) HL64.out HQ HR).mono ?_; rintro e w2 ⟨rfl, hg⟩) | (go_at_call 155; refine (more_any Q R d _ how hQ0 hk1 hk5 hRd (by omega) _ HM).mono ?_; rintro e w3 ⟨rfl, rfl⟩))
          go_ret2
          exact ⟨ret_ii (by rw [HV.out]) (by rw [HV.out]), by assumption⟩
        · rw [if_neg (by unfold big; omega)] at hsc
          skip
          have HV := Lib.hid hsc; clear hsc
          go_enter Try.func113, Try.ntmps113
          go_wp2_with (first | (go_at_call 151; refine (outside_no _ _ _ hk1 hk5 _).mono ?_; rintro e w1 ⟨rfl, rfl⟩) | (go_at_call 153; refine (HSZ.out _).mono ?_; rintro e w1 ⟨rfl, rfl⟩) | (go_at_call 152; refine (mul_any M n (by omega) (by omega) _ HH HL).mono ?_; rintro e w1 ⟨rfl, rfl⟩) | (go_at_call 154; refine (divI_any _ (by omega) (by omega) HL64.out HQ HR).mono ?_; rintro e w2 ⟨rfl, hg⟩) | (go_at_call 155; refine (more_any Q R d _ how hQ0 hk1 hk5 hRd (by omega) _ HM).mono ?_; rintro e w3 ⟨rfl, rfl⟩))
          go_ret2
          exact ⟨ret_ii (by rw [HV.out]) (by rw [HV.out]), by assumption⟩
      · rw [hm, e1] at hsc
        have HM := Lib.hid hm; clear hm e0 e1
        by_cases hmx : Q = 18446744073709551615
        · rw [if_pos (by unfold big; omega)] at hsc
          have ew : IntKind.u64.wrap (Q + 1) = 0 := by rw [IntKind.wrap_u64]; omega
          clear hmx
          have HV := Lib.hid hsc; clear hsc
          go_enter Try.func113, Try.ntmps113
          go_wp2_with (first | (go_at_call 151; refine (outside_no _ _ _ hk1 hk5 _).mono ?_; rintro e w1 ⟨rfl, rfl⟩) | (go_at_call 153; refine (HSZ.out _).mono ?_; rintro e w1 ⟨rfl, rfl⟩) | (go_at_call 152; refine (mul_any M n (by omega) (by omega) _ HH HL).mono ?_; rintro e w1 ⟨rfl, rfl⟩) | (go_at_call 154; refine (divI_any _ (by omega) (by omega) HL64.out HQ HR).mono ?_; rintro e w2 ⟨rfl, hg⟩) | (go_at_call 155; refine (more_any Q R d _ how hQ0 hk1 hk5 hRd (by omega) _ HM).mono ?_; rintro e w3 ⟨rfl, rfl⟩))
          go_ret2
          exact ⟨ret_ii (by rw [HV.out]) (by rw [HV.out]), by assumption⟩
        · have hmx1 : Q ≤ 18446744073709551614 := by omega
          have hnz : (Q + 1 == 0) = false := by simp; omega
          clear hmx
          by_cases hbg : (4611686018427387904 : Int) < Q + 1
          · rw [if_pos (by unfold big; omega)] at hsc
            skip
            have HV := Lib.hid hsc; clear hsc
            go_enter Try.func113, Try.ntmps113
            go_wp2_with (first | (go_at_call 151; refine (outside_no _ _ _ hk1 hk5 _).mono ?_; rintro e w1 ⟨rfl, rfl⟩) | (go_at_call 153; refine (HSZ.out _).mono ?_; rintro e w1 ⟨rfl, rfl⟩) | (go_at_call 152; refine (mul_any M n (by omega) (by omega) _ HH HL).mono ?_; rintro e w1 ⟨rfl, rfl⟩) | (go_at_call 154; refine (divI_any _ (by omega) (by omega) HL64.out HQ HR).mono ?_; rintro e w2 ⟨rfl, hg⟩) | (go_at_call 155; refine (more_any Q R d _ how hQ0 hk1 hk5 hRd (by omega) _ HM).mono ?_; rintro e w3 ⟨rfl, rfl⟩))
            go_ret2
            exact ⟨ret_ii (by rw [HV.out]) (by rw [HV.out]), by assumption⟩
          · rw [if_neg (by unfold big; omega)] at hsc
            skip
            have HV := Lib.hid hsc; clear hsc
            go_enter Try.func113, Try.ntmps113
            go_wp2_with (first | (go_at_call 151; refine (outside_no _ _ _ hk1 hk5 _).mono ?_; rintro e w1 ⟨rfl, rfl⟩) | (go_at_call 153; refine (HSZ.out _).mono ?_; rintro e w1 ⟨rfl, rfl⟩) | (go_at_call 152; refine (mul_any M n (by omega) (by omega) _ HH HL).mono ?_; rintro e w1 ⟨rfl, rfl⟩) | (go_at_call 154; refine (divI_any _ (by omega) (by omega) HL64.out HQ HR).mono ?_; rintro e w2 ⟨rfl, hg⟩) | (go_at_call 155; refine (more_any Q R d _ how hQ0 hk1 hk5 hRd (by omega) _ HM).mono ?_; rintro e w3 ⟨rfl, rfl⟩))
            go_ret2
            exact ⟨ret_ii (by rw [HV.out]) (by rw [HV.out]), by assumption⟩
    · rw [decide_eq_false hneg, if_neg hneg] at hsc
      have hnb : decide (a < 0) = false := decide_eq_false hneg
      rcases hm : moreB Q R d false how with _ | _
      · rw [hm, e0] at hsc
        have HM := Lib.hid hm; clear hm e0 e1
        by_cases hbg : (4611686018427387904 : Int) < Q
        · rw [if_pos (by unfold big; omega)] at hsc
          skip
          have HV := Lib.hid hsc; clear hsc
          go_enter Try.func113, Try.ntmps113
          go_wp2_with (first | (go_at_call 151; refine (outside_no _ _ _ hk1 hk5 _).mono ?_; rintro e w1 ⟨rfl, rfl⟩) | (go_at_call 153; refine (HSZ.out _).mono ?_; rintro e w1 ⟨rfl, rfl⟩) | (go_at_call 152; refine (mul_any M n (by omega) (by omega) _ HH HL).mono ?_; rintro e w1 ⟨rfl, rfl⟩) | (go_at_call 154; refine (divI_any _ (by omega) (by omega) HL64.out HQ HR).mono ?_; rintro e w2 ⟨rfl, hg⟩) | (go_at_call 155; refine (more_any Q R d _ how hQ0 hk1 hk5 hRd (by omega) _ HM).mono ?_; rintro e w3 ⟨rfl, rfl⟩))
          go_ret2
          exact ⟨ret_ii (by rw [HV.out]) (by rw [HV.out]), by assumption⟩
        · rw [if_neg (by unfold big; omega)] at hsc
          skip
          have HV := Lib.hid hsc; clear hsc
          go_enter Try.func113, Try.ntmps113
          go_wp2_with (first | (go_at_call 151; refine (outside_no _ _ _ hk1 hk5 _).mono ?_; rintro e w1 ⟨rfl, rfl⟩) | (go_at_call 153; refine (HSZ.out _).mono ?_; rintro e w1 ⟨rfl, rfl⟩) | (go_at_call 152; refine (mul_any M n (by omega) (by omega) _ HH HL).mono ?_; rintro e w1 ⟨rfl, rfl⟩) | (go_at_call 154; refine (divI_any _ (by omega) (by omega) HL64.out HQ HR).mono ?_; rintro e w2 ⟨rfl, hg⟩) | (go_at_call 155; refine (more_any Q R d _ how hQ0 hk1 hk5 hRd (by omega) _ HM).mono ?_; rintro e w3 ⟨rfl, rfl⟩))
          go_ret2
          exact ⟨ret_ii (by rw [HV.out]) (by rw [HV.out]), by assumption⟩
      · rw [hm, e1] at hsc
        have HM := Lib.hid hm; clear hm e0 e1
        by_cases hmx : Q = 18446744073709551615
        · rw [if_pos (by unfold big; omega)] at hsc
          have ew : IntKind.u64.wrap (Q + 1) = 0 := by rw [IntKind.wrap_u64]; omega
          clear hmx
          have HV := Lib.hid hsc; clear hsc
          go_enter Try.func113, Try.ntmps113
          go_wp2_with (first | (go_at_call 151; refine (outside_no _ _ _ hk1 hk5 _).mono ?_; rintro e w1 ⟨rfl, rfl⟩) | (go_at_call 153; refine (HSZ.out _).mono ?_; rintro e w1 ⟨rfl, rfl⟩) | (go_at_call 152; refine (mul_any M n (by omega) (by omega) _ HH HL).mono ?_; rintro e w1 ⟨rfl, rfl⟩) | (go_at_call 154; refine (divI_any _ (by omega) (by omega) HL64.out HQ HR).mono ?_; rintro e w2 ⟨rfl, hg⟩) | (go_at_call 155; refine (more_any Q R d _ how hQ0 hk1 hk5 hRd (by omega) _ HM).mono ?_; rintro e w3 ⟨rfl, rfl⟩))
          go_ret2
          exact ⟨ret_ii (by rw [HV.out]) (by rw [HV.out]), by assumption⟩
        · have hmx1 : Q ≤ 18446744073709551614 := by omega
          have hnz : (Q + 1 == 0) = false := by simp; omega
          clear hmx
          by_cases hbg : (4611686018427387904 : Int) < Q + 1
          · rw [if_pos (by unfold big; omega)] at hsc
            skip
            have HV := Lib.hid hsc; clear hsc
            go_enter Try.func113, Try.ntmps113
            go_wp2_with (first | (go_at_call 151; refine (outside_no _ _ _ hk1 hk5 _).mono ?_; rintro e w1 ⟨rfl, rfl⟩) | (go_at_call 153; refine (HSZ.out _).mono ?_; rintro e w1 ⟨rfl, rfl⟩) | (go_at_call 152; refine (mul_any M n (by omega) (by omega) _ HH HL).mono ?_; rintro e w1 ⟨rfl, rfl⟩) | (go_at_call 154; refine (divI_any _ (by omega) (by omega) HL64.out HQ HR).mono ?_; rintro e w2 ⟨rfl, hg⟩) | (go_at_call 155; refine (more_any Q R d _ how hQ0 hk1 hk5 hRd (by omega) _ HM).mono ?_; rintro e w3 ⟨rfl, rfl⟩))
            go_ret2
            exact ⟨ret_ii (by rw [HV.out]) (by rw [HV.out]), by assumption⟩
          · rw [if_neg (by unfold big; omega)] at hsc
            skip
            have HV := Lib.hid hsc; clear hsc
            go_enter Try.func113, Try.ntmps113
            go_wp2_with (first | (go_at_call 151; refine (outside_no _ _ _ hk1 hk5 _).mono ?_; rintro e w1 ⟨rfl, rfl⟩) | (go_at_call 153; refine (HSZ.out _).mono ?_; rintro e w1 ⟨rfl, rfl⟩) | (go_at_call 152; refine (mul_any M n (by omega) (by omega) _ HH HL).mono ?_; rintro e w1 ⟨rfl, rfl⟩) | (go_at_call 154; refine (divI_any _ (by omega) (by omega) HL64.out HQ HR).mono ?_; rintro e w2 ⟨rfl, hg⟩) | (go_at_call 155; refine (more_any Q R d _ how hQ0 hk1 hk5 hRd (by omega) _ HM).mono ?_; rintro e w3 ⟨rfl, rfl⟩))
            go_ret2
            exact ⟨ret_ii (by rw [HV.out]) (by rw [HV.out]), by assumption⟩
end Go.Proofs.Ytgkhhfojioepgaa
namespace Go.Proofs.Ytgkhhfojioepgaa
open Go.RowKit
set_option linter.unusedSimpArgs false
set_option linter.unusedVariables false

theorem roundings_any (w : World) :
    Calls Try.prog 150 #[] w fun e w' => e = .returned (.agg #[.nilFunc, .func (.func 177) #[] #[], .func (.func 178) #[] #[], .func (.func 179) #[] #[], .func (.func 180) #[] #[], .func (.func 181) #[] #[]]) ∧ w.grownBy w' none := by
  go_enter Try.func150, Try.ntmps150
  go_wp2
  exact bodyPost_ret (v := .agg #[.nilFunc, .func (.func 177) #[] #[], .func (.func 178) #[] #[], .func (.func 179) #[] #[], .func (.func 180) #[] #[], .func (.func 181) #[] #[]]) (by simp [results, Try.results150, go_sem]) rfl ⟨rfl, World.grownBy_alloc _ _ _⟩

theorem round1_any (q : Int) (r d : Nat) (w : World) :
    Calls Try.prog 177 #[.int .i64 q, .int .u64 r, .int .u64 d] w fun e w' => e = .returned (.bool (upB 1 q r d)) ∧ w = w' := by
  go_enter Try.func177, Try.ntmps177
  go_wp2
  go_ret
  exact ⟨rfl, rfl⟩
theorem round2_any (q : Int) (r d : Nat) (w : World) :
    Calls Try.prog 178 #[.int .i64 q, .int .u64 r, .int .u64 d] w fun e w' => e = .returned (.bool (upB 2 q r d)) ∧ w = w' := by
  go_enter Try.func178, Try.ntmps178
  go_wp2
  go_ret
  exact ⟨ret_bool (by simp [upB]), rfl⟩
theorem round3_any (q : Int) (r d : Nat) (w : World) :
    Calls Try.prog 179 #[.int .i64 q, .int .u64 r, .int .u64 d] w fun e w' => e = .returned (.bool (upB 3 q r d)) ∧ w = w' := by
  go_enter Try.func179, Try.ntmps179
  go_wp2
  all_goals go_ret
  all_goals exact ⟨ret_bool (by simp [upB, *]), rfl⟩
theorem round4_any (q : Int) (r d : Nat) (hr : (r : Int) ≤ (d : Int)) (hd : (d : Int) ≤ 9223372036854775807) (w : World) :
    Calls Try.prog 180 #[.int .i64 q, .int .u64 r, .int .u64 d] w fun e w' => e = .returned (.bool (upB 4 q r d)) ∧ w = w' := by
  go_enter Try.func180, Try.ntmps180
  go_wp2
  go_ret
  exact ⟨ret_bool (by simp [upB]), rfl⟩
theorem tmod2 (q : Int) : (q.tmod 2 != 0) = decide (q % 2 = 1) := by
  rw [Bool.eq_iff_iff, bne_iff_ne, Ne, ← Int.dvd_iff_tmod_eq_zero, decide_eq_true_iff]; omega
set_option maxHeartbeats 400000 in
theorem round5_any (q : Int) (r d : Nat) (hr : (r : Int) ≤ (d : Int)) (hd : (d : Int) ≤ 9223372036854775807) (w : World) :
    Calls Try.prog 181 #[.int .i64 q, .int .u64 r, .int .u64 d] w fun e w' => e = .returned (.bool (upB 5 q r d)) ∧ w = w' := by
  by_cases h1 : (d : Int) - (r : Int) < (r : Int)
  · go_enter Try.func181, Try.ntmps181
    go_wp2
    go_ret
    exact ⟨ret_bool (by simp [upB, h1]), rfl⟩
  · by_cases h2 : (r : Int) = (d : Int) - (r : Int)
    · have h3 : ((r : Int) == (d : Int) - (r : Int)) = true := by simpa using h2
      have H2 := Lib.hid h2; clear h2
      go_enter Try.func181, Try.ntmps181
      go_wp2
      go_ret
      exact ⟨ret_bool (by rw [tmod2]; simp [upB, ← H2.out]), rfl⟩
    · have h3 : ((r : Int) == (d : Int) - (r : Int)) = false := by simpa using h2
      have H2 := Lib.hid h2; clear h2
      go_enter Try.func181, Try.ntmps181
      go_wp2
      go_ret
      exact ⟨ret_bool (by have := H2.out; simp [upB, h1, this]), rfl⟩

theorem round1_is (q : Int) (r d : Nat) (w : World) {b : Bool} (h : Hid (upB 1 q r d = b)) :
    Calls Try.prog 177 #[.int .i64 q, .int .u64 r, .int .u64 d] w fun e w' => e = .returned (.bool b) ∧ w = w' := by
  have := round1_any q r d w
  rw [h.out] at this; exact this
theorem round2_is (q : Int) (r d : Nat) (w : World) {b : Bool} (h : Hid (upB 2 q r d = b)) :
    Calls Try.prog 178 #[.int .i64 q, .int .u64 r, .int .u64 d] w fun e w' => e = .returned (.bool b) ∧ w = w' := by
  have := round2_any q r d w
  rw [h.out] at this; exact this
theorem round3_is (q : Int) (r d : Nat) (w : World) {b : Bool} (h : Hid (upB 3 q r d = b)) :
    Calls Try.prog 179 #[.int .i64 q, .int .u64 r, .int .u64 d] w fun e w' => e = .returned (.bool b) ∧ w = w' := by
  have := round3_any q r d w
  rw [h.out] at this; exact this
theorem round4_is (q : Int) (r d : Nat) (hr : (r : Int) ≤ (d : Int)) (hd : (d : Int) ≤ 9223372036854775807) (w : World) {b : Bool} (h : Hid (upB 4 q r d = b)) :
    Calls Try.prog 180 #[.int .i64 q, .int .u64 r, .int .u64 d] w fun e w' => e = .returned (.bool b) ∧ w = w' := by
  have := round4_any q r d hr hd w
  rw [h.out] at this; exact this
theorem round5_is (q : Int) (r d : Nat) (hr : (r : Int) ≤ (d : Int)) (hd : (d : Int) ≤ 9223372036854775807) (w : World) {b : Bool} (h : Hid (upB 5 q r d = b)) :
    Calls Try.prog 181 #[.int .i64 q, .int .u64 r, .int .u64 d] w fun e w' => e = .returned (.bool b) ∧ w = w' := by
  have := round5_any q r d hr hd w
  rw [h.out] at this; exact this
theorem pick1 (w : World) : (Instr.index 164 (.agg #[.nilFunc, .func (.func 177) #[] #[], .func (.func 178) #[] #[], .func (.func 179) #[] #[], .func (.func 180) #[] #[], .func (.func 181) #[] #[]]) (.int .i64 1)).run Try.prog w = .ok (.func (.func 177) #[] #[]) w := by kernel_rfl
theorem pick2 (w : World) : (Instr.index 164 (.agg #[.nilFunc, .func (.func 177) #[] #[], .func (.func 178) #[] #[], .func (.func 179) #[] #[], .func (.func 180) #[] #[], .func (.func 181) #[] #[]]) (.int .i64 2)).run Try.prog w = .ok (.func (.func 178) #[] #[]) w := by kernel_rfl
theorem pick3 (w : World) : (Instr.index 164 (.agg #[.nilFunc, .func (.func 177) #[] #[], .func (.func 178) #[] #[], .func (.func 179) #[] #[], .func (.func 180) #[] #[], .func (.func 181) #[] #[]]) (.int .i64 3)).run Try.prog w = .ok (.func (.func 179) #[] #[]) w := by kernel_rfl
theorem pick4 (w : World) : (Instr.index 164 (.agg #[.nilFunc, .func (.func 177) #[] #[], .func (.func 178) #[] #[], .func (.func 179) #[] #[], .func (.func 180) #[] #[], .func (.func 181) #[] #[]]) (.int .i64 4)).run Try.prog w = .ok (.func (.func 180) #[] #[]) w := by kernel_rfl
theorem pick5 (w : World) : (Instr.index 164 (.agg #[.nilFunc, .func (.func 177) #[] #[], .func (.func 178) #[] #[], .func (.func 179) #[] #[], .func (.func 180) #[] #[], .func (.func 181) #[] #[]]) (.int .i64 5)).run Try.prog w = .ok (.func (.func 181) #[] #[]) w := by kernel_rfl

theorem big_is (a : Int) (num den : Nat) : TooBig a.natAbs num den ↔ big < ((a.natAbs : Int) * (num : Int)) / (den : Int) := by
  unfold TooBig big
  rw [← Int.natCast_mul, ← Int.natCast_ediv]; omega

theorem rnd_bd (a : Int) (num den : Nat) (hd : 1 ≤ den) (hb : ¬ TooBig a.natAbs num den) : -4611686018427387905 ≤ a * num / den ∧ a * num / den ≤ 4611686018427387904 := by
  rw [big_is] at hb
  unfold big at hb
  rcases (show a < 0 ∨ 0 ≤ a by omega) with ha | ha
  · have en : (a.natAbs : Int) = -a := by omega
    have e : a * num = -((a.natAbs : Int) * num) := by rw [en, Int.neg_mul, Int.neg_neg]
    have hN : 0 ≤ (a.natAbs : Int) * num := Int.mul_nonneg (by omega) (by omega)
    rw [e]
    generalize (a.natAbs : Int) * num = N at *
    have hq : 0 ≤ N / den := Int.ediv_nonneg hN (by omega)
    by_cases hz : N % den = 0
    · rw [(neg_div_of N den (by omega) hz).1]; omega
    · rw [(neg_div_of' N den (by omega) hz).1]; omega
  · have e : (a.natAbs : Int) = a := by omega
    have hN : 0 ≤ a * num := Int.mul_nonneg (by omega) (by omega)
    rw [e] at hb
    have hq : 0 ≤ a * num / den := Int.ediv_nonneg hN (by omega)
    omega

set_option maxHeartbeats 1600000 in
theorem scale_any (a num den how : Int) (ha0 : -9223372036854775808 ≤ a) (ha1 : a ≤ 9223372036854775807) (hn0 : -9223372036854775808 ≤ num) (hn1 : num ≤ 9223372036854775807) (hd0 : -9223372036854775808 ≤ den) (hd1 : den ≤ 9223372036854775807) (w : World) :
    Calls Try.prog 112 #[.int .i64 a, .int .i64 num, .int .i64 den, .int .i64 how] w fun e w' => e = .returned (.tuple #[.int .i64 (scaleV a num den how).1, .int .i64 (scaleV a num den how).2]) ∧ w.grownBy w' none := by
  by_cases hk : how < 1
  · have hv : scaleV a num den how = (0, 7) := by unfold scaleV; rw [if_pos (.inl hk)]
    have HV := Lib.hid hv; clear hv
    go_enter Try.func112, Try.ntmps112
    go_wp2
    go_ret2
    exact ⟨ret_ii (by rw [HV.out]) (by rw [HV.out]), grown_refl _ _⟩
  by_cases hk5 : 5 < how
  · have hv : scaleV a num den how = (0, 7) := by unfold scaleV; rw [if_pos (.inr hk5)]
    have HV := Lib.hid hv; clear hv
    go_enter Try.func112, Try.ntmps112
    go_wp2
    go_ret2
    exact ⟨ret_ii (by rw [HV.out]) (by rw [HV.out]), grown_refl _ _⟩
  by_cases hdn : den ≤ 0
  · have hv : scaleV a num den how = (0, 1) := by unfold scaleV; rw [if_neg (by omega), if_pos (.inl (by omega))]
    have HV := Lib.hid hv; clear hv
    go_enter Try.func112, Try.ntmps112
    go_wp2
    go_ret2
    exact ⟨ret_ii (by rw [HV.out]) (by rw [HV.out]), grown_refl _ _⟩
  by_cases hnn : num < 0
  · have hv : scaleV a num den how = (0, 1) := by unfold scaleV; rw [if_neg (by omega), if_pos (.inr (by omega))]
    have HV := Lib.hid hv; clear hv
    go_enter Try.func112, Try.ntmps112
    go_wp2
    go_ret2
    exact ⟨ret_ii (by rw [HV.out]) (by rw [HV.out]), grown_refl _ _⟩
  obtain ⟨n, rfl⟩ : ∃ n : Nat, (n : Int) = num := ⟨num.toNat, by omega⟩
  obtain ⟨d, rfl⟩ : ∃ n : Nat, (n : Int) = den := ⟨den.toNat, by omega⟩
  by_cases hbig : TooBig a.natAbs n d
  · have hv : scaleV a n d how = (0, 9) := scale_no a n d how (by omega) (by omega) (by omega) (by omega) ((big_is a n d).1 hbig)
    have HV := Lib.hid hv; clear hv
    have HB := Lib.hid hbig; clear hbig
    go_enter Try.func112, Try.ntmps112
    go_wp2_with (go_at_call 149; refine (quot_no a n d ha0 ha1 (by omega) (by omega) (by omega) HB.out _).mono ?_; rintro e w1 ⟨rfl, hg⟩)
    go_ret2
    exact ⟨ret_ii (by rw [HV.out]) (by rw [HV.out]), by assumption⟩
  have hqb := rnd_bd a n d (by omega) hbig
  obtain ⟨q, hq⟩ : ∃ q, a * n / d = q := ⟨_, rfl⟩
  obtain ⟨r, hr⟩ : ∃ r : Nat, a * n % d = (r : Int) := ⟨(a * n % d).toNat, by have := Int.emod_nonneg (a * n) (show (d : Int) ≠ 0 by omega); omega⟩
  have hrd : (r : Int) < (d : Int) := by rw [← hr]; exact Int.emod_lt_of_pos _ (by omega)
  have hquot := quot_yes a n d ha0 ha1 (by omega) (by omega) (by omega) hbig
  rw [hq] at hqb
  rw [hq, hr] at hquot
  have HQ := Lib.hid hquot; clear hquot hbig
  have i1 := pick1
  have i2 := pick2
  have i3 := pick3
  have i4 := pick4
  have i5 := pick5
  have h15 : how = 1 ∨ how = 2 ∨ how = 3 ∨ how = 4 ∨ how = 5 := by omega
  rcases hu : upB how q r d with _ | _
  · have hv : scaleV a n d how = if q < -big ∨ big < q then (0, 9) else (q, 0) := by
      unfold scaleV rndV; rw [if_neg (by omega), if_neg (by omega), hq, hr, hu]; simp
    have HU := Lib.hid hu; clear hu hq hr
    by_cases hc : q < -4611686018427387904
    · rw [if_pos (by unfold big; omega)] at hv
      have HV := Lib.hid hv; clear hv
      rcases h15 with rfl | rfl | rfl | rfl | rfl
      all_goals
        go_enter Try.func112, Try.ntmps112
        go_wp2_with (first | (go_at_call 149; refine (HQ.out _).mono ?_; rintro e w1 ⟨rfl, hg1⟩) | (go_at_call 150; refine (roundings_any _).mono ?_; rintro e w2 ⟨rfl, hg2⟩) | (go_at_call 177; refine (round1_is q r d _ HU).mono ?_; rintro e w3 ⟨rfl, rfl⟩) | (go_at_call 178; refine (round2_is q r d _ HU).mono ?_; rintro e w3 ⟨rfl, rfl⟩) | (go_at_call 179; refine (round3_is q r d _ HU).mono ?_; rintro e w3 ⟨rfl, rfl⟩) | (go_at_call 180; refine (round4_is q r d (by omega) (by omega) _ HU).mono ?_; rintro e w3 ⟨rfl, rfl⟩) | (go_at_call 181; refine (round5_is q r d (by omega) (by omega) _ HU).mono ?_; rintro e w3 ⟨rfl, rfl⟩))
        all_goals
          go_ret2
          exact ⟨ret_ii (by rw [HV.out]) (by rw [HV.out]), grown_trans (by assumption) (by assumption)⟩
    · rw [if_neg (by unfold big; omega)] at hv
      have HV := Lib.hid hv; clear hv
      rcases h15 with rfl | rfl | rfl | rfl | rfl
      all_goals
        go_enter Try.func112, Try.ntmps112
        go_wp2_with (first | (go_at_call 149; refine (HQ.out _).mono ?_; rintro e w1 ⟨rfl, hg1⟩) | (go_at_call 150; refine (roundings_any _).mono ?_; rintro e w2 ⟨rfl, hg2⟩) | (go_at_call 177; refine (round1_is q r d _ HU).mono ?_; rintro e w3 ⟨rfl, rfl⟩) | (go_at_call 178; refine (round2_is q r d _ HU).mono ?_; rintro e w3 ⟨rfl, rfl⟩) | (go_at_call 179; refine (round3_is q r d _ HU).mono ?_; rintro e w3 ⟨rfl, rfl⟩) | (go_at_call 180; refine (round4_is q r d (by omega) (by omega) _ HU).mono ?_; rintro e w3 ⟨rfl, rfl⟩) | (go_at_call 181; refine (round5_is q r d (by omega) (by omega) _ HU).mono ?_; rintro e w3 ⟨rfl, rfl⟩))
        all_goals
          go_ret2
          exact ⟨ret_ii (by rw [HV.out]) (by rw [HV.out]), grown_trans (by assumption) (by assumption)⟩
  · have hv : scaleV a n d how = if q + 1 < -big ∨ big < q + 1 then (0, 9) else (q + 1, 0) := by
      unfold scaleV rndV; rw [if_neg (by omega), if_neg (by omega), hq, hr, hu]; simp
    have HU := Lib.hid hu; clear hu hq hr
    by_cases hc : 4611686018427387904 < q + 1
    · rw [if_pos (by unfold big; omega)] at hv
      have HV := Lib.hid hv; clear hv
      rcases h15 with rfl | rfl | rfl | rfl | rfl
      all_goals
        go_enter Try.func112, Try.ntmps112
        go_wp2_with (first | (go_at_call 149; refine (HQ.out _).mono ?_; rintro e w1 ⟨rfl, hg1⟩) | (go_at_call 150; refine (roundings_any _).mono ?_; rintro e w2 ⟨rfl, hg2⟩) | (go_at_call 177; refine (round1_is q r d _ HU).mono ?_; rintro e w3 ⟨rfl, rfl⟩) | (go_at_call 178; refine (round2_is q r d _ HU).mono ?_; rintro e w3 ⟨rfl, rfl⟩) | (go_at_call 179; refine (round3_is q r d _ HU).mono ?_; rintro e w3 ⟨rfl, rfl⟩) | (go_at_call 180; refine (round4_is q r d (by omega) (by omega) _ HU).mono ?_; rintro e w3 ⟨rfl, rfl⟩) | (go_at_call 181; refine (round5_is q r d (by omega) (by omega) _ HU).mono ?_; rintro e w3 ⟨rfl, rfl⟩))
        all_goals
          go_ret2
          exact ⟨ret_ii (by rw [HV.out]) (by rw [HV.out]), grown_trans (by assumption) (by assumption)⟩
    · rw [if_neg (by unfold big; omega)] at hv
      have HV := Lib.hid hv; clear hv
      rcases h15 with rfl | rfl | rfl | rfl | rfl
      all_goals
        go_enter Try.func112, Try.ntmps112
        go_wp2_with (first | (go_at_call 149; refine (HQ.out _).mono ?_; rintro e w1 ⟨rfl, hg1⟩) | (go_at_call 150; refine (roundings_any _).mono ?_; rintro e w2 ⟨rfl, hg2⟩) | (go_at_call 177; refine (round1_is q r d _ HU).mono ?_; rintro e w3 ⟨rfl, rfl⟩) | (go_at_call 178; refine (round2_is q r d _ HU).mono ?_; rintro e w3 ⟨rfl, rfl⟩) | (go_at_call 179; refine (round3_is q r d _ HU).mono ?_; rintro e w3 ⟨rfl, rfl⟩) | (go_at_call 180; refine (round4_is q r d (by omega) (by omega) _ HU).mono ?_; rintro e w3 ⟨rfl, rfl⟩) | (go_at_call 181; refine (round5_is q r d (by omega) (by omega) _ HU).mono ?_; rintro e w3 ⟨rfl, rfl⟩))
        all_goals
          go_ret2
          exact ⟨ret_ii (by rw [HV.out]) (by rw [HV.out]), grown_trans (by assumption) (by assumption)⟩
end Go.Proofs.Ytgkhhfojioepgaa
namespace Go.Proofs.Ytgkhhfojioepgaa
open Go.RowKit
set_option linter.unusedSimpArgs false
set_option linter.unusedVariables false

theorem smps_rise {st : Int} : ∀ (l : List Smp) (b : Option Int), smpsE st b l = 0 → (∀ i (h : i + 1 < l.length), (l[i]'(by omega)).t < l[i + 1].t) ∧ (∀ (h : 0 < l.length), ¬ early b l[0].t)
  | [], _, _ => ⟨fun i h => absurd h (by simp), fun h => absurd h (by simp)⟩
  | y :: r, b, h => by
    unfold smpsE at h
    split at h
    · omega
    · rename_i he
      split at h
      · obtain ⟨h1, h2⟩ := smps_rise r _ h
        refine ⟨fun i hi => ?_, fun _ => he⟩
        cases i with
        | zero =>
          have h3 : 0 < r.length := by simp only [List.length_cons] at hi; omega
          have := h2 h3
          unfold early at this
          simp only [List.getElem_cons_zero, List.getElem_cons_succ]
          omega
        | succ i =>
          have h3 : i + 1 < r.length := by simp only [List.length_cons] at hi; omega
          have := h1 i h3
          simpa using this
      · omega

/-- What is known of the samples of an activity that is right. -/
structure SOk (ss : List Smp) : Prop where
  len : (ss.length : Int) ≤ 20000
  t0 : 0 < ss.length → (smpD ss 0).t = 0
  inn : ∀ i, i < ss.length → 0 ≤ (smpD ss i).t ∧ (smpD ss i).t ≤ 1000000 ∧ inPlane (smpD ss i) ∧ (-100000 ≤ (smpD ss i).z ∧ (smpD ss i).z ≤ 100000) ∧ (-1 ≤ (smpD ss i).p ∧ (smpD ss i).p ≤ 300) ∧ (-1 ≤ (smpD ss i).q ∧ (smpD ss i).q ≤ 3000) ∧ (-1 ≤ (smpD ss i).s ∧ (smpD ss i).s ≤ 300)
  up : ∀ i, i + 1 < ss.length → (smpD ss i).t < (smpD ss (i + 1)).t
theorem sok_of {a : Act} (h : ActOk a) : SOk a.ss := by
  obtain ⟨hr, h0⟩ := smps_rise a.ss none h.smps
  have hin := smps_ok _ _ h.smps
  have t0 : 0 < a.ss.length → (smpD a.ss 0).t = 0 := fun hl => by
    have := h0 hl
    unfold early at this
    rw [smpD_at hl]; omega
  have up : ∀ i, i + 1 < a.ss.length → (smpD a.ss i).t < (smpD a.ss (i + 1)).t := fun i hi => by
    have := hr i hi
    rw [smpD_at hi, smpD_at (by omega : i < a.ss.length)]; exact this
  have pos : ∀ i, i < a.ss.length → 0 ≤ (smpD a.ss i).t := fun i => by
    induction i with
    | zero => intro hi; rw [t0 hi]; omega
    | succ i ih => intro hi; have := ih (by omega); have := up i hi; omega
  refine ⟨h.sl, t0, fun i hi => ?_, up⟩
  have := hin (smpD a.ss i) (by rw [smpD_at hi]; exact List.getElem_mem hi)
  unfold smpIn at this
  have hp := pos i hi
  unfold inPlane
  omega
end Go.Proofs.Ytgkhhfojioepgaa
namespace Go.Proofs.Ytgkhhfojioepgaa
open Go.RowKit
set_option linter.unusedSimpArgs false
set_option linter.unusedVariables false

/-- A number after a part of the whole. -/
noncomputable def btwV (p q part whole : Int) : Int := p + (scaleV (q - p) part whole 4).1
theorem scale_near {a num den : Int} (a0 : -200000000 ≤ a) (a1 : a ≤ 200000000) (h0 : 0 ≤ num) (h1 : num ≤ den) (hd : 1 ≤ den) (hd1 : den ≤ 1000000) : -200000001 ≤ (scaleV a num den 4).1 ∧ (scaleV a num den 4).1 ≤ 200000001 ∧ (scaleV a num den 4).2 = 0 := by
  have b0 : -200000000 * den ≤ a * num := by
    rcases Int.lt_or_le a 0 with h | h
    · have q1 : a * den ≤ a * num := Int.mul_le_mul_of_nonpos_left (by omega) h1
      have q2 : -200000000 * den ≤ a * den := Int.mul_le_mul_of_nonneg_right a0 (by omega)
      omega
    · have := Int.mul_nonneg h h0; omega
  have b1 : a * num ≤ 200000000 * den := by
    rcases Int.lt_or_le a 0 with h | h
    · have := Int.mul_nonneg (show 0 ≤ -a by omega) h0
      rw [Int.neg_mul] at this; omega
    · have q1 : a * num ≤ a * den := Int.mul_le_mul_of_nonneg_left h1 h
      have q2 : a * den ≤ 200000000 * den := Int.mul_le_mul_of_nonneg_right a1 (by omega)
      omega
  have d0 : -200000000 ≤ a * num / den := by rw [Int.le_ediv_iff_mul_le (by omega)]; exact b0
  have d1 : a * num / den ≤ 200000000 := by
    have := Int.ediv_le_ediv (c := den) (by omega) b1
    rwa [Int.mul_ediv_cancel _ (by omega)] at this
  have e : rndV 4 (a * num) den = a * num / den ∨ rndV 4 (a * num) den = a * num / den + 1 := by
    unfold rndV; split <;> simp
  have e2 : scaleV a num den 4 = (rndV 4 (a * num) den, 0) := by
    unfold scaleV big
    rw [if_neg (by omega), if_neg (by omega), if_neg (by omega)]
  rw [e2]
  exact ⟨by simp only; omega, by simp only; omega, rfl⟩

set_option maxHeartbeats 800000 in
theorem between_is (p q part whole : Int) (p0 : -100000000 ≤ p) (p1 : p ≤ 100000000) (q0 : -100000000 ≤ q) (q1 : q ≤ 100000000) (h0 : 0 ≤ part) (h1 : part ≤ whole) (hd : 1 ≤ whole) (hd1 : whole ≤ 1000000) (w : World) {n : Int} (h : Hid (btwV p q part whole = n)) :
    Calls Try.prog 162 #[.int .i64 p, .int .i64 q, .int .i64 part, .int .i64 whole] w fun e w' => e = .returned (.int .i64 n) ∧ w.grownBy w' none := by
  obtain ⟨b0, b1, b2⟩ := scale_near (a := q - p) (num := part) (den := whole) (by omega) (by omega) h0 h1 hd hd1
  have hv := h.out
  unfold btwV at hv
  obtain ⟨s, hs⟩ : ∃ s, (scaleV (q - p) part whole 4).1 = s := ⟨_, rfl⟩
  rw [hs] at b0 b1 hv
  have HS := Lib.hid hs; have HE := Lib.hid b2; have HV := Lib.hid hv
  have rs : IntKind.i64.wrap (q - p) = q - p := IntWalk.i64_in _ (by omega)
  have ra : IntKind.i64.wrap (p + s) = p + s := IntWalk.i64_in _ (by omega)
  clear h hv hs b2
  go_enter Try.func162, Try.ntmps162
  go_wp2_with fail
  refine (scale_any (q - p) part whole 4 (by omega) (by omega) (by omega) (by omega) (by omega) (by omega) _).mono ?_; rintro e w1 ⟨rfl, hg1⟩
  rw [HS.out, HE.out]
  have G := Lib.hid hg1
  clear hg1
  go_wp2_with fail
  go_ret
  exact ⟨ret_int HV.out, G.out⟩

set_option maxHeartbeats 800000 in
theorem rbetween_is (p q part whole : Int) (p0 : -100000000 ≤ p) (p1 : p ≤ 100000000) (q0 : -100000000 ≤ q) (q1 : q ≤ 100000000) (h0 : 0 ≤ part) (h1 : part ≤ whole) (hd : 1 ≤ whole) (hd1 : whole ≤ 1000000) (w : World) {n : Int} (h : Hid (btwV p q part whole = n)) :
    Calls Try.prog 97 #[.int .i64 p, .int .i64 q, .int .i64 part, .int .i64 whole] w fun e w' => e = .returned (.int .i64 n) ∧ w.grownBy w' none := by
  obtain ⟨b0, b1, b2⟩ := scale_near (a := q - p) (num := part) (den := whole) (by omega) (by omega) h0 h1 hd hd1
  have hv := h.out
  unfold btwV at hv
  obtain ⟨s, hs⟩ : ∃ s, (scaleV (q - p) part whole 4).1 = s := ⟨_, rfl⟩
  rw [hs] at b0 b1 hv
  have HS := Lib.hid hs; have HE := Lib.hid b2; have HV := Lib.hid hv
  have rs : IntKind.i64.wrap (q - p) = q - p := IntWalk.i64_in _ (by omega)
  have ra : IntKind.i64.wrap (p + s) = p + s := IntWalk.i64_in _ (by omega)
  clear h hv hs b2
  go_enter Try.func97, Try.ntmps97
  go_wp2_with fail
  refine (refScale_any (q - p) part whole 4 (by omega) (by omega) (by omega) (by omega) (by omega) (by omega) _).mono ?_; rintro e w1 ⟨rfl, hg1⟩
  rw [HS.out, HE.out]
  have G := Lib.hid hg1
  clear hg1
  go_wp2_with fail
  go_ret
  exact ⟨ret_int HV.out, G.out⟩

/-- What is asked of a sample: its place, its height, its time. -/
def SmpIn (x : Smp) : Prop := (0 ≤ x.t ∧ x.t ≤ 1000000) ∧ inPlane x ∧ -100000 ≤ x.z ∧ x.z ≤ 100000
/-- Where somebody was at a second between two samples. -/
noncomputable def onV (p q : Smp) (s : Int) : Smp := ⟨s, btwV p.x q.x (s - p.t) (q.t - p.t), btwV p.y q.y (s - p.t) (q.t - p.t), btwV p.z q.z (s - p.t) (q.t - p.t), p.p, p.q, p.s⟩
def smpVal (x : Smp) : Value := .agg #[.int .i64 x.t, .int .i64 x.x, .int .i64 x.y, .int .i64 x.z, .int .i64 x.p, .int .i64 x.q, .int .i64 x.s]
end Go.Proofs.Ytgkhhfojioepgaa
namespace Go.Proofs.Ytgkhhfojioepgaa
open Go.RowKit
set_option linter.unusedSimpArgs false
set_option linter.unusedVariables false

/-- A block's cell is set. -/
theorem block_set {W : World} {B k : Nat} {c : Array Value} {t : TypeId} (h : W.heap[B]? = some (.cells c t (0, 0))) (v : Value) : (W.setCell ⟨B, k, none⟩ v).heap[B]? = some (.cells (c.setIfInBounds k v) t (0, 0)) := by
  simp [World.setCell, Array.getElem?_modify, h]
theorem block_free {W : World} {B k : Nat} {c : Array Value} {t : TypeId} (h : W.heap[B]? = some (.cells c t (0, 0))) : W.frozen? ⟨B, k, none⟩ = false := by
  simp [World.frozen?, h]
theorem block_cell {W : World} {B : Nat} {c : Array Value} {t : TypeId} (h : W.heap[B]? = some (.cells c t (0, 0))) (k : Nat) (v : Value) (hv : c[k]? = some v) : W.cell? ⟨B, k, none⟩ = some v := (cell_of_row _ _ k _ _ (0, 0) h).trans hv
theorem grown_far {w w1 : World} {b : Nat} (h : w.grownBy w1 none) (hb : w.heap.size ≤ b) (k : Nat) (v : Value) : w.grownBy (w1.setCell ⟨b, k, none⟩ v) none :=
  ⟨h.os, h.tape, h.output, Nat.le_trans h.size (by simp [World.setCell]), fun i hi hne => by
    rw [Below.heap_setCell _ _ _ _ (by show i ≠ b; omega)]; exact h.block i hi hne⟩

/-- The memory of onStep: two samples, what it gives back, and its own. -/
structure OnM (w : World) (P Q Z X : Array Value) (W : World) : Prop where
  p : W.heap[w.heap.size]? = some (.cells P 28 (0, 0))
  q : W.heap[w.heap.size + 1]? = some (.cells Q 28 (0, 0))
  z : W.heap[w.heap.size + 2]? = some (.cells Z 28 (0, 0))
  x : W.heap[w.heap.size + 3]? = some (.cells X 28 (0, 0))
  g : w.grownBy W none
theorem OnM.grown {w W W' : World} {P Q Z X : Array Value} (h : OnM w P Q Z X W) (hg : W.grownBy W' none) : OnM w P Q Z X W' := by
  have k : ∀ {B : Nat} {o : Obj}, W.heap[B]? = some o → W'.heap[B]? = some o := fun {B o} h => (hg.block B (Array.getElem?_eq_some_iff.1 h).1 (by simp)).trans h
  exact ⟨k h.p, k h.q, k h.z, k h.x, grown_trans h.g hg⟩
theorem OnM.set {w W : World} {P Q Z X : Array Value} (h : OnM w P Q Z X W) (k : Nat) (v : Value) : OnM w P Q Z (X.setIfInBounds k v) (W.setCell ⟨w.heap.size + 3, k, none⟩ v) := by
  refine ⟨?_, ?_, ?_, block_set h.x v, grown_far h.g (by omega) k v⟩
  · rw [Below.heap_setCell _ _ _ _ (by show _ ≠ w.heap.size + 3; omega)]; exact h.p
  · rw [Below.heap_setCell _ _ _ _ (by show _ ≠ w.heap.size + 3; omega)]; exact h.q
  · rw [Below.heap_setCell _ _ _ _ (by show _ ≠ w.heap.size + 3; omega)]; exact h.z

set_option maxHeartbeats 3200000 in
theorem onStep_is (p q : Smp) (s : Int) (hp : SmpIn p) (hq : SmpIn q) (h0 : p.t ≤ s) (h1 : s ≤ q.t) (hpq : p.t < q.t) (w : World) {x : Smp} (h : Hid (onV p q s = x)) :
    Calls Try.prog 119 #[smpVal p, smpVal q, .int .i64 s] w fun e w' => e = .returned (smpVal x) ∧ w.grownBy w' none := by
  obtain ⟨pt, px, py, pz, pp, pq, ps⟩ := p
  obtain ⟨qt, qx, qy, qz, qp, qq, qs⟩ := q
  unfold SmpIn inPlane at hp hq
  simp only at hp hq h0 h1 hpq
  obtain ⟨nx, hnx⟩ : ∃ n, btwV px qx (s - pt) (qt - pt) = n := ⟨_, rfl⟩
  obtain ⟨ny, hny⟩ : ∃ n, btwV py qy (s - pt) (qt - pt) = n := ⟨_, rfl⟩
  obtain ⟨nz, hnz⟩ : ∃ n, btwV pz qz (s - pt) (qt - pt) = n := ⟨_, rfl⟩
  have HR : Hid (smpVal x = .agg #[.int .i64 s, .int .i64 nx, .int .i64 ny, .int .i64 nz, .int .i64 pp, .int .i64 pq, .int .i64 ps]) := by
    show _ = _; rw [← h.out]; unfold onV smpVal; simp only; rw [hnx, hny, hnz]
  have r1 : IntKind.i64.wrap (s - pt) = s - pt := IntWalk.i64_in _ (by omega)
  have r2 : IntKind.i64.wrap (qt - pt) = qt - pt := IntWalk.i64_in _ (by omega)
  have KX : Hid (∀ V : World, Calls Try.prog 162 #[.int .i64 px, .int .i64 qx, .int .i64 (s - pt), .int .i64 (qt - pt)] V fun e w' => e = .returned (.int .i64 nx) ∧ V.grownBy w' none) := fun V => between_is px qx (s - pt) (qt - pt) (by omega) (by omega) (by omega) (by omega) (by omega) (by omega) (by omega) (by omega) V hnx
  have KY : Hid (∀ V : World, Calls Try.prog 162 #[.int .i64 py, .int .i64 qy, .int .i64 (s - pt), .int .i64 (qt - pt)] V fun e w' => e = .returned (.int .i64 ny) ∧ V.grownBy w' none) := fun V => between_is py qy (s - pt) (qt - pt) (by omega) (by omega) (by omega) (by omega) (by omega) (by omega) (by omega) (by omega) V hny
  have KZ : Hid (∀ V : World, Calls Try.prog 162 #[.int .i64 pz, .int .i64 qz, .int .i64 (s - pt), .int .i64 (qt - pt)] V fun e w' => e = .returned (.int .i64 nz) ∧ V.grownBy w' none) := fun V => between_is pz qz (s - pt) (qt - pt) (by omega) (by omega) (by omega) (by omega) (by omega) (by omega) (by omega) (by omega) V hnz
  clear hnx hny hnz h hp hq h0 h1 hpq
  unfold smpVal at HR ⊢
  simp only at HR ⊢
  go_enter Try.func119, Try.ntmps119
  go_wp2_with fail
  go_quiet (fail)
  obtain ⟨V0, hV0⟩ : ∃ V0, ((((w.alloc (.cells #[.int .i64 pt, .int .i64 px, .int .i64 py, .int .i64 pz, .int .i64 pp, .int .i64 pq, .int .i64 ps] 28)).alloc (.cells #[.int .i64 qt, .int .i64 qx, .int .i64 qy, .int .i64 qz, .int .i64 qp, .int .i64 qq, .int .i64 qs] 28)).alloc (.cells #[.int .i64 0, .int .i64 0, .int .i64 0, .int .i64 0, .int .i64 0, .int .i64 0, .int .i64 0] 28)).drewN nq) = V0 := ⟨_, rfl⟩
  have e0 : V0.heap = (((w.alloc (.cells #[.int .i64 pt, .int .i64 px, .int .i64 py, .int .i64 pz, .int .i64 pp, .int .i64 pq, .int .i64 ps] 28)).alloc (.cells #[.int .i64 qt, .int .i64 qx, .int .i64 qy, .int .i64 qz, .int .i64 qp, .int .i64 qq, .int .i64 qs] 28)).alloc (.cells #[.int .i64 0, .int .i64 0, .int .i64 0, .int .i64 0, .int .i64 0, .int .i64 0, .int .i64 0] 28)).heap := by rw [← hV0]; rfl
  have hs : V0.heap.size = w.heap.size + 3 := by rw [e0]; simp
  have hp0 : V0.heap[w.heap.size]? = some (.cells #[.int .i64 pt, .int .i64 px, .int .i64 py, .int .i64 pz, .int .i64 pp, .int .i64 pq, .int .i64 ps] 28 (0, 0)) := by
    rw [e0, Below.heap_alloc _ _ _ (by simp; omega), Below.heap_alloc _ _ _ (by simp)]; exact heap_alloc_new w _
  have hq0 : V0.heap[w.heap.size + 1]? = some (.cells #[.int .i64 qt, .int .i64 qx, .int .i64 qy, .int .i64 qz, .int .i64 qp, .int .i64 qq, .int .i64 qs] 28 (0, 0)) := by
    rw [e0, Below.heap_alloc _ _ _ (by simp)]
    have := heap_alloc_new (w.alloc (.cells #[.int .i64 pt, .int .i64 px, .int .i64 py, .int .i64 pz, .int .i64 pp, .int .i64 pq, .int .i64 ps] 28)) (.cells #[.int .i64 qt, .int .i64 qx, .int .i64 qy, .int .i64 qz, .int .i64 qp, .int .i64 qq, .int .i64 qs] 28); simpa using this
  have hz0 : V0.heap[w.heap.size + 2]? = some (.cells #[.int .i64 0, .int .i64 0, .int .i64 0, .int .i64 0, .int .i64 0, .int .i64 0, .int .i64 0] 28 (0, 0)) := by
    rw [e0]
    have := heap_alloc_new ((w.alloc (.cells #[.int .i64 pt, .int .i64 px, .int .i64 py, .int .i64 pz, .int .i64 pp, .int .i64 pq, .int .i64 ps] 28)).alloc (.cells #[.int .i64 qt, .int .i64 qx, .int .i64 qy, .int .i64 qz, .int .i64 qp, .int .i64 qq, .int .i64 qs] 28)) (.cells #[.int .i64 0, .int .i64 0, .int .i64 0, .int .i64 0, .int .i64 0, .int .i64 0, .int .i64 0] 28); simpa using this
  have hg0 : w.grownBy V0 none := by rw [← hV0]; exact grown_trans (grown_trans (grown_trans (World.grownBy_alloc _ _ none) (World.grownBy_alloc _ _ none)) (World.grownBy_alloc _ _ none)) (grown_drewN _ _ _)
  have M0 : Hid (OnM w #[.int .i64 pt, .int .i64 px, .int .i64 py, .int .i64 pz, .int .i64 pp, .int .i64 pq, .int .i64 ps] #[.int .i64 qt, .int .i64 qx, .int .i64 qy, .int .i64 qz, .int .i64 qp, .int .i64 qq, .int .i64 qs] #[.int .i64 0, .int .i64 0, .int .i64 0, .int .i64 0, .int .i64 0, .int .i64 0, .int .i64 0] #[.int .i64 s, .int .i64 px, .int .i64 py, .int .i64 pz, .int .i64 pp, .int .i64 pq, .int .i64 ps] (V0.alloc (.cells #[.int .i64 s, .int .i64 px, .int .i64 py, .int .i64 pz, .int .i64 pp, .int .i64 pq, .int .i64 ps] 28))) := by
    have gg := World.grownBy_alloc V0 (.cells #[.int .i64 s, .int .i64 px, .int .i64 py, .int .i64 pz, .int .i64 pp, .int .i64 pq, .int .i64 ps] 28) none
    refine ⟨(gg.block _ (lt_of_block hp0) (by simp)).trans hp0, (gg.block _ (lt_of_block hq0) (by simp)).trans hq0, (gg.block _ (lt_of_block hz0) (by simp)).trans hz0, ?_, grown_trans hg0 gg⟩
    rw [← hs]; exact heap_alloc_new V0 _
  rw [hV0]
  have p0 := block_cell hp0 0 _ rfl
  have p1 := block_cell hp0 1 _ rfl
  have p2 := block_cell hp0 2 _ rfl
  have p3 := block_cell hp0 3 _ rfl
  have p4 := block_cell hp0 4 _ rfl
  have p5 := block_cell hp0 5 _ rfl
  have p6 := block_cell hp0 6 _ rfl
  have q1 := block_cell M0.out.p 1 _ rfl
  have q2 := block_cell M0.out.q 1 _ rfl
  clear hV0 e0 hp0 hq0 hz0 hg0
  go_wp2_with fail
  refine (KX.out _).mono ?_; rintro e w1 ⟨rfl, hg1⟩
  have M1 := Lib.hid (M0.out.grown hg1)
  have s1 := block_cell M1.out.x 1 _ rfl
  have f1 := block_free (k := 1) M1.out.x
  have N1 := Lib.hid (M1.out.set 1 (.int .i64 nx))
  have a1 := block_cell N1.out.p 2 _ rfl
  have b1 := block_cell N1.out.q 2 _ rfl
  clear hg1 p0 p1 p2 p3 p4 p5 p6 q1 q2 hs
  go_wp2_with fail
  clear a1 b1 s1 f1
  refine (KY.out _).mono ?_; rintro e w2 ⟨rfl, hg2⟩
  have M2 := Lib.hid (N1.out.grown hg2)
  have s2 := block_cell M2.out.x 2 _ rfl
  have f2 := block_free (k := 2) M2.out.x
  have N2 := Lib.hid (M2.out.set 2 (.int .i64 ny))
  have a2 := block_cell N2.out.p 3 _ rfl
  have b2 := block_cell N2.out.q 3 _ rfl
  clear hg2
  go_wp2_with fail
  clear a2 b2 s2 f2
  refine (KZ.out _).mono ?_; rintro e w3 ⟨rfl, hg3⟩
  have M3 := Lib.hid (N2.out.grown hg3)
  have s3 := block_cell M3.out.x 3 _ rfl
  have f3 := block_free (k := 3) M3.out.x
  have N3 := Lib.hid (M3.out.set 3 (.int .i64 nz))
  have c0 := block_cell N3.out.x 0 _ rfl
  have z0 := block_cell N3.out.z 0 _ rfl
  have y0 := block_free (k := 0) N3.out.z
  have c1 := block_cell N3.out.x 1 _ rfl
  have z1 := block_cell N3.out.z 1 _ rfl
  have y1 := block_free (k := 1) N3.out.z
  have c2 := block_cell N3.out.x 2 _ rfl
  have z2 := block_cell N3.out.z 2 _ rfl
  have y2 := block_free (k := 2) N3.out.z
  have c3 := block_cell N3.out.x 3 _ rfl
  have z3 := block_cell N3.out.z 3 _ rfl
  have y3 := block_free (k := 3) N3.out.z
  have c4 := block_cell N3.out.x 4 _ rfl
  have z4 := block_cell N3.out.z 4 _ rfl
  have y4 := block_free (k := 4) N3.out.z
  have c5 := block_cell N3.out.x 5 _ rfl
  have z5 := block_cell N3.out.z 5 _ rfl
  have y5 := block_free (k := 5) N3.out.z
  have c6 := block_cell N3.out.x 6 _ rfl
  have z6 := block_cell N3.out.z 6 _ rfl
  have y6 := block_free (k := 6) N3.out.z
  clear hg3
  go_wp2_with fail
  refine bodyPost_ret (v := .agg #[.int .i64 s, .int .i64 nx, .int .i64 ny, .int .i64 nz, .int .i64 pp, .int .i64 pq, .int .i64 ps]) (by simp [results, Try.results119, go_sem, z0, z1, z2, z3, z4, z5, z6]) rfl ⟨by rw [HR.out], ?_⟩
  exact grown_far (grown_far (grown_far (grown_far (grown_far (grown_far (grown_far N3.out.g (by omega) _ _) (by omega) _ _) (by omega) _ _) (by omega) _ _) (by omega) _ _) (by omega) _ _) (by omega) _ _
end Go.Proofs.Ytgkhhfojioepgaa

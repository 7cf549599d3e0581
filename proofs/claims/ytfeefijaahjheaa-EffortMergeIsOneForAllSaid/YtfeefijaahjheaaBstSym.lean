/- The stable sort over rows of structs: merges. -/
import Derived.Test.YtfeefijaahjheaaBstSyL
import Derived.Test.YtfeefijaahjheaaBstSyR
import Derived.Deep.CutBlock
import Derived.Deep.DeepCutAuto
namespace Go.Proofs.Ytfeefijaahjheaa
open Go.RowKit
set_option linter.unusedSimpArgs false
set_option linter.unusedVariables false

/-- From where to where the place is searched. -/
structure bst_Srch (a m b s0 r0 : Nat) : Prop where
  le : s0 ≤ r0
  lo : a ≤ s0
  rm : r0 ≤ m
  rd : r0 ≤ (a + b) / 2
  hi : (a + b) / 2 + m ≤ s0 + b
  s : s0 = a ∨ s0 + b = (a + b) / 2 + m
  r : r0 = m ∨ r0 = (a + b) / 2

/-- What a merge says. -/
def bst_Merges (cap n g off : Nat) (w0 : World) (G : Nat) (CB : Array Value) (key : Nat → Int) (e0 : Nat → Int) (e1 : Nat → Int) (e2 : Nat → Int) (e3 : Nat → Bool) (a m b : Nat) : Prop :=
  ∀ (W : World) (f : Nat → Nat), Hid (SorK (bst_E e0 e1 e2 e3) 4 n g off w0 f W) → Hid (Runs key f a m b) →
    Calls Try.prog 103 #[.slice (some ⟨g, off, none⟩) n cap, .int .i64 (a : Int), .int .i64 (m : Int), .int .i64 (b : Int), .func (.func G) #[] CB] W fun e w' => e = .returned (.tuple #[]) ∧ ∃ f', Hid (SorK (bst_E e0 e1 e2 e3) 4 n g off w0 f' w') ∧ Hid (Mv a b f f' ∧ Srt key f' a b)

set_option maxRecDepth 100000 in
set_option maxHeartbeats 3200000 in
theorem bst_merge_gen {w0 : World} {g off n G : Nat} {CB : Array Value} {cf : Nat → Nat → Int} {key : Nat → Int} {e0 : Nat → Int} {e1 : Nat → Int} {e2 : Nat → Int} {e3 : Nat → Bool} {W : World} {f : Nat → Nat} (B : Hid (SBase Try.prog (bst_E e0 e1 e2 e3) 4 n g off w0 G CB cf key)) (h : Hid (SorK (bst_E e0 e1 e2 e3) 4 n g off w0 f W)) {a m b : Nat} (hb : b ≤ n) (hruns : Hid (Runs key f a m b)) (ham : a + 1 < m) (hmb : m + 1 < b)
    (cap : Nat) (ih : Hid (∀ a' m' b', b' - a' < b - a → a' < m' → m' < b' → b' ≤ n → bst_Merges cap n g off w0 G CB key e0 e1 e2 e3 a' m' b')) :
    Calls Try.prog 103 #[.slice (some ⟨g, off, none⟩) n cap, .int .i64 (a : Int), .int .i64 (m : Int), .int .i64 (b : Int), .func (.func G) #[] CB] W fun e w' => e = .returned (.tuple #[]) ∧ ∃ f', Hid (SorK (bst_E e0 e1 e2 e3) 4 n g off w0 f' w') ∧ Hid (Mv a b f f' ∧ Srt key f' a b) := by
  have hn := B.out.hn
  have eg := B.out.eg
  have mixed : Try.prog.follows .mixedOrders = true := by kernel_rfl
  have hq0 : ((m : Int) - (a : Int) == 1) = false := by simp; omega
  have hq1 : ((b : Int) - (m : Int) == 1) = false := by simp; omega
  obtain ⟨D, hD⟩ : ∃ D : Nat, (a + b) / 2 = D := ⟨_, rfl⟩
  have hDi : ((a : Int) + (b : Int)) / 2 = (D : Int) := by omega
  have hD0 : a < D := by omega
  have hD1 : D < b := by omega
  obtain ⟨N, hN⟩ : ∃ N : Nat, N = D + m := ⟨_, rfl⟩
  have hNi : (D : Int) + (m : Int) = (N : Int) := by omega
  have hNb : N ≤ 40000 := by omega
  have HD := Lib.hid hD; have HN := Lib.hid hN; clear hD hN
  go_enter Try.func103, Try.ntmps103
  go_upto_if 140 with (fail)
  clear hq0 hq1 hDi hNi
  go_cut [20, 21] (fun sv rv wx => ∃ s0 r0 : Nat, sv = .int .i64 s0 ∧ rv = .int .i64 r0 ∧ Hid (bst_Srch a m b s0 r0) ∧ W = wx)
  case first => as_aux_lemma =>
    by_cases hgt : D < m
    · obtain ⟨S, hS⟩ : ∃ S : Nat, S + b = D + m := ⟨D + m - b, by have := HD.out; omega⟩
      have hSi : (N : Int) - (b : Int) = (S : Int) := by have := HN.out; omega
      have HS := Lib.hid hS; clear hS
      go_wp2_with fail
      go_meet
      exact ⟨S, D, by first | rfl | rw [hSi], rfl, by have := HS.out; have := HD.out; exact ⟨by omega, by omega, by omega, by omega, by omega, by omega, by omega⟩, rfl⟩
    · go_wp2_with fail
      go_meet
      exact ⟨a, m, rfl, rfl, by have := HD.out; exact ⟨by omega, by omega, by omega, by omega, by omega, by omega, by omega⟩, rfl⟩
  case rest => as_aux_lemma =>
    obtain ⟨s0, r0, rfl, rfl, hS, rfl⟩ := hcut
    obtain ⟨P, hP⟩ : ∃ P : Nat, P + 1 = N := ⟨N - 1, by have := HN.out; omega⟩
    have hPi : (N : Int) - 1 = (P : Int) := by omega
    have HP := Lib.hid hP; clear hP
    go_wp2_with fail
    clear hPi
    go_loopw [20, 21] (fun sv rv wr => ∃ (st rr : Nat), s0 ≤ st ∧ st ≤ rr ∧ rr ≤ r0 ∧ sv = .int .i64 st ∧ rv = .int .i64 rr ∧ Hid (SorK (bst_E e0 e1 e2 e3) 4 n g off w0 f wr) ∧ Hid (st = s0 ∨ Bef key (f (st - 1)) (f (N - st))) ∧ Hid (rr = r0 ∨ Bef key (f (P - rr)) (f rr))) (fun sv rv _ => (intOf rv).toNat - (intOf sv).toNat)
    case atStart => exact ⟨s0, r0, Nat.le_refl _, hS.out.le, Nat.le_refl _, rfl, rfl, h, .inl rfl, .inl rfl⟩
    case round =>
      obtain ⟨st, rr, hst, hsr, hrr, rfl, rfl, hs, hl, hr⟩ := hrel
      have hs1 := hS.out.lo
      have hs2 := hS.out.rm
      have hs3 := hS.out.rd
      rw [HD.out] at hs3
      by_cases hlt : st < rr
      · obtain ⟨H, hH⟩ : ∃ H : Nat, H = (st + rr) / 2 := ⟨_, rfl⟩
        have hHi : ((st : Int) + (rr : Int)) / 2 = (H : Int) := by omega
        have hH0 : st ≤ H := by omega
        have hH1 : H < rr := by omega
        obtain ⟨E, hE⟩ : ∃ E : Nat, E = P - H := ⟨_, rfl⟩
        have hE1 : E + H = P := by have := HN.out; have := HP.out; omega
        have hE2 : m ≤ E := by have := HN.out; have := HP.out; omega
        have hE3 : E < b := by have := HN.out; have := HP.out; have := hS.out.hi; rw [HD.out] at this; omega
        have hEi : (P : Int) - (H : Int) = (E : Int) := by omega
        have hcross := hruns.out.cross H E (by omega) (by omega) hE2 hE3
        obtain ⟨x, hx⟩ : ∃ x, f E = x := ⟨_, rfl⟩
        obtain ⟨y, hy⟩ : ∃ y, f H = y := ⟨_, rfl⟩
        rw [hx, hy] at hcross
        have HC := Lib.hid hcross; have HE := Lib.hid (And.intro hE1 hE)
        have cx0 : ∀ dq dos, (Go.Sort.grow (wr.drewN dq) dos).cell? ⟨g, off + E * 4, none⟩ = some (.int .i64 (e0 x)) := fun dq dos => by have t := hs.out.gcell B.out (k := E) (c := 0) (by omega) (by decide) hx dq dos; exact t
        have cx1 : ∀ dq dos, (Go.Sort.grow (wr.drewN dq) dos).cell? ⟨g, off + E * 4 + 1, none⟩ = some (.int .i64 (e1 x)) := fun dq dos => by have t := hs.out.gcell B.out (k := E) (c := 1) (by omega) (by decide) hx dq dos; exact t
        have cx2 : ∀ dq dos, (Go.Sort.grow (wr.drewN dq) dos).cell? ⟨g, off + E * 4 + 2, none⟩ = some (.int .i64 (e2 x)) := fun dq dos => by have t := hs.out.gcell B.out (k := E) (c := 2) (by omega) (by decide) hx dq dos; exact t
        have cx3 : ∀ dq dos, (Go.Sort.grow (wr.drewN dq) dos).cell? ⟨g, off + E * 4 + 3, none⟩ = some (.bool (e3 x)) := fun dq dos => by have t := hs.out.gcell B.out (k := E) (c := 3) (by omega) (by decide) hx dq dos; exact t
        have cy0 : ∀ dq dos, (Go.Sort.grow (wr.drewN dq) dos).cell? ⟨g, off + H * 4, none⟩ = some (.int .i64 (e0 y)) := fun dq dos => by have t := hs.out.gcell B.out (k := H) (c := 0) (by omega) (by decide) hy dq dos; exact t
        have cy1 : ∀ dq dos, (Go.Sort.grow (wr.drewN dq) dos).cell? ⟨g, off + H * 4 + 1, none⟩ = some (.int .i64 (e1 y)) := fun dq dos => by have t := hs.out.gcell B.out (k := H) (c := 1) (by omega) (by decide) hy dq dos; exact t
        have cy2 : ∀ dq dos, (Go.Sort.grow (wr.drewN dq) dos).cell? ⟨g, off + H * 4 + 2, none⟩ = some (.int .i64 (e2 y)) := fun dq dos => by have t := hs.out.gcell B.out (k := H) (c := 2) (by omega) (by decide) hy dq dos; exact t
        have cy3 : ∀ dq dos, (Go.Sort.grow (wr.drewN dq) dos).cell? ⟨g, off + H * 4 + 3, none⟩ = some (.bool (e3 y)) := fun dq dos => by have t := hs.out.gcell B.out (k := H) (c := 3) (by omega) (by decide) hy dq dos; exact t
        obtain ⟨z, hz⟩ : ∃ z, cf x y = z := ⟨_, rfl⟩
        have HZ1 : Hid (z < 0 ↔ key y < key x) := by show _ ↔ _; rw [← hz]; exact B.out.hcf x y (hx ▸ hs.out.lt _ (by omega)) (hy ▸ hs.out.lt _ (by omega))
        have hcg : ∀ q os, Calls Try.prog G (#[.agg #[.int .i64 (e0 x), .int .i64 (e1 x), .int .i64 (e2 x), .bool (e3 x)], .agg #[.int .i64 (e0 y), .int .i64 (e1 y), .int .i64 (e2 y), .bool (e3 y)]] ++ CB) (Go.Sort.grow (wr.drewN q) os) fun e w' => e = .returned (.int .i64 z) ∧ ∃ q' os', w' = Go.Sort.grow ((Go.Sort.grow (wr.drewN q) os).drewN q') os' := fun q os => by have := hs.out.calls B.out x y q os; rw [hz] at this; exact this
        have HXY := Lib.hid (And.intro hx hy)
        clear hx hy hz
        have pa : (0 : Int) ≤ (H : Int) := by omega
        have ba : (H : Int) < (n : Int) := by omega
        have pc : (0 : Int) ≤ (E : Int) := by omega
        have bc : (E : Int) < (n : Int) := by omega
        have rc : IntKind.i64.wrap ((E : Int)) = (E : Int) := by rw [IntKind.wrap_i64]; omega
        clear hcross hH hE hE1
        by_cases hz0 : z < 0
        · as_aux_lemma =>
          have hz3 : decide (z < 0) = true := by simpa using hz0
          go_wp2_with fail
          try rw [hHi]
          go_quiet_grown (first | (go_at_fn G; refine Calls.grown_of (hcg _ _)))
          have hs1 := Lib.hid (hs.out.grown nq osq)
          clear hcg cx0 cx1 cx2 cx3 cy0 cy1 cy2 cy3
          clear hs
          generalize Go.Sort.grow (wr.drewN nq) osq = w1 at *
          go_wp2_with fail
          go_roundw
          case rel =>
            refine ⟨st, H, hst, hH0, by omega, rfl, rfl, hs1, hl, .inr ?_⟩
            rw [show P - H = E by have := HE.out; omega, HXY.out.1, HXY.out.2]
            exact (bef_iff HC.out).2 (HZ1.out.1 hz0)
          case measure => simp [intOf]; omega
        · as_aux_lemma =>
          have hz3 : decide (z < 0) = false := by simpa using hz0
          go_wp2_with fail
          try rw [hHi]
          go_quiet_grown (first | (go_at_fn G; refine Calls.grown_of (hcg _ _)))
          have hs1 := Lib.hid (hs.out.grown nq osq)
          clear hcg cx0 cx1 cx2 cx3 cy0 cy1 cy2 cy3
          clear hs
          generalize Go.Sort.grow (wr.drewN nq) osq = w1 at *
          go_wp2_with fail
          go_roundw
          case rel =>
            refine ⟨H + 1, rr, by omega, by omega, hrr, by go_num, rfl, hs1, .inr ?_, hr⟩
            rw [Nat.add_sub_cancel, show N - (H + 1) = E by have := HE.out; have := HP.out; omega, HXY.out.1, HXY.out.2]
            exact (bef_not HC.out).2 (fun q => by have := HZ1.out.2 q; omega)
          case measure => simp [intOf]; omega
      · have hie : rr = st := by omega
        subst hie
        have hF : Found key f a m b rr := by
          have e1 := HD.out
          have e2 := HN.out
          have e3 := HP.out
          have q1 := hS.out.hi
          refine ⟨by omega, by omega, by omega, by omega, ?_, ?_⟩
          · rcases hl.out with q | q
            · rcases hS.out.s with z | z
              · exact .inl (by omega)
              · exact .inr (.inl (by omega))
            · refine .inr (.inr ?_)
              rw [e1, ← e2]; exact q
          · rcases hr.out with q | q
            · rcases hS.out.r with z | z
              · exact .inl (by omega)
              · exact .inr (.inl (by omega))
            · refine .inr (.inr ?_)
              rw [e1, ← e2, show N - 1 - rr = P - rr by omega]; exact q
        obtain ⟨T, hT⟩ : ∃ T : Nat, T = D + m - rr := ⟨_, rfl⟩
        have hTi : (N : Int) - (rr : Int) = (T : Int) := by have := HN.out; omega
        have HF := Lib.hid hF; have HT := Lib.hid hT; clear hF hT
        go_upto_region 39 with (fail)
        clear hTi
        go_cut [24, 185] (fun ev bv wx => ev = .int .i64 T ∧ (∃ B : Bool, bv = .bool B ∧ Hid (B = true ↔ rr < m ∧ m < T)) ∧ wr = wx)
        case first => as_aux_lemma =>
          by_cases c1 : rr < m
          · by_cases c2 : m < T
            · go_wp2_with fail
              go_meet
              exact ⟨rfl, ⟨true, rfl, by show _ ↔ _; simp [c1, c2]⟩, rfl⟩
            · go_wp2_with fail
              go_meet
              exact ⟨rfl, ⟨false, rfl, by show _ ↔ _; simp; omega⟩, rfl⟩
          · go_wp2_with fail
            go_meet
            exact ⟨rfl, ⟨false, rfl, by show _ ↔ _; simp; omega⟩, rfl⟩
        case rest => as_aux_lemma =>
          obtain ⟨rfl, ⟨B, rfl, hB⟩, rfl⟩ := hcut
          go_upto_if 185 with (fail)
          go_cut [24] (fun ev wx => ev = .int .i64 T ∧ Hid (SorK (bst_E e0 e1 e2 e3) 4 n g off w0 (rot f rr m T) wx))
          case first => as_aux_lemma =>
            cases B with
            | true =>
              obtain ⟨c1, c2⟩ := hB.out.1 rfl
              go_wp2_with fail
              refine (bst_rotate B hs c1 c2 (by have := HT.out; have q := HF.out.hi; rw [HD.out] at q; omega) _ _).mono ?_
              rintro e w1 ⟨rfl, hs1⟩
              go_wp2_with fail
              go_meet
              exact ⟨rfl, hs1⟩
            | false =>
              have hq : rr = m ∨ T = m := by have := (not_congr hB.out).1 (by simp); have := HT.out; omega
              go_wp2_with fail
              go_meet
              refine ⟨rfl, ?_⟩
              show SorK (bst_E e0 e1 e2 e3) 4 n g off w0 _ _
              rcases hq with q | q
              · rw [q, rot_left]; exact hs.out
              · rw [q, rot_right]; exact hs.out
          case rest => as_aux_lemma =>
            obtain ⟨rfl, hs1⟩ := hcut
            clear hB hs hl hr
            have hlow : Runs key (rot f rr m T) a rr D := by have q := half_low hruns.out HF.out; rw [HD.out] at q; rw [HT.out]; exact q
            have hhigh : Runs key (rot f rr m T) D T b := by have q := half_high hruns.out HF.out; rw [HD.out] at q; rw [HT.out]; exact q
            have hhalf : ∀ i j, a ≤ i → i < D → D ≤ j → j < b → Bef key (rot f rr m T i) (rot f rr m T j) := fun i j q1 q2 q3 q4 => by
              have q := halves hruns.out HF.out (i := i) (j := j) q1 (by rw [HD.out]; exact q2) (by rw [HD.out]; exact q3) q4
              rw [HD.out] at q; rw [HT.out]; exact q
            have hmv : Mv a b f (rot f rr m T) := by
              have q := HF.out
              have q1 := q.lo; have q2 := q.lm; have q3 := q.mid; have q4 := q.hi
              rw [HD.out] at q3 q4
              have := HT.out
              exact (Mv.rot f rr m T (by omega) (by omega)).mono (by omega) (by omega)
            have hrn := hlow.am
            have hrn2 := hlow.mb
            have hTn := hhigh.am
            have hTn2 := hhigh.mb
            have HLOW := Lib.hid hlow; have HHIGH := Lib.hid hhigh; have HHALF := Lib.hid hhalf; have HMV := Lib.hid hmv
            clear hlow hhigh hhalf hmv
            go_upto_region 41 with (fail)
            go_cut [24, 199] (fun ev bv wx => ev = .int .i64 T ∧ (∃ B : Bool, bv = .bool B ∧ Hid (B = true ↔ a < rr ∧ rr < D)) ∧ wc = wx)
            case first => as_aux_lemma =>
              by_cases c1 : a < rr
              · by_cases c2 : rr < D
                · go_wp2_with fail
                  go_meet
                  exact ⟨rfl, ⟨true, rfl, by show _ ↔ _; simp [c1, c2]⟩, rfl⟩
                · go_wp2_with fail
                  go_meet
                  exact ⟨rfl, ⟨false, rfl, by show _ ↔ _; simp; omega⟩, rfl⟩
              · go_wp2_with fail
                go_meet
                exact ⟨rfl, ⟨false, rfl, by show _ ↔ _; simp; omega⟩, rfl⟩
            case rest => as_aux_lemma =>
              obtain ⟨rfl, ⟨B, rfl, hB⟩, rfl⟩ := hcut
              go_upto_if 199 with (fail)
              go_cut [24] (fun ev wx => ev = .int .i64 T ∧ (∃ f1, Hid (SorK (bst_E e0 e1 e2 e3) 4 n g off w0 f1 wx) ∧ Hid (Mv a D (rot f rr m T) f1 ∧ Srt key f1 a D)))
              case first => as_aux_lemma =>
                cases B with
                | true =>
                  obtain ⟨c1, c2⟩ := hB.out.1 rfl
                  go_wp2_with fail
                  refine (ih.out a rr D (by omega) c1 c2 (by omega) _ _ hs1 HLOW).mono ?_
                  rintro e w1 ⟨rfl, f1, hs2, hm2⟩
                  go_wp2_with fail
                  go_meet
                  exact ⟨rfl, f1, hs2, hm2⟩
                | false =>
                  have hq : a = rr ∨ rr = D := by have := (not_congr hB.out).1 (by simp); omega
                  go_wp2_with fail
                  go_meet
                  exact ⟨rfl, _, hs1, Mv.refl _ _ _, HLOW.out.sorted hq⟩
              case rest => as_aux_lemma =>
                obtain ⟨rfl, f1, hs2, hm2⟩ := hcut
                clear hs1 hB
                have hh2 : Runs key f1 D T b := by
                  have e : ∀ k, D ≤ k → f1 k = rot f rr m T k := fun k hk => hm2.out.1.out k (.inr hk)
                  have q := HHIGH.out
                  refine ⟨q.am, q.mb, fun i j q1 q2 q3 => ?_, fun i j q1 q2 q3 => ?_, fun i j q1 q2 q3 q4 => ?_⟩
                  · rw [e i (by omega), e j (by omega)]; exact q.left i j q1 q2 q3
                  · rw [e i (by omega), e j (by omega)]; exact q.right i j q1 q2 q3
                  · rw [e i (by omega), e j (by omega)]; exact q.cross i j q1 q2 q3 q4
                have HH2 := Lib.hid hh2; clear hh2
                go_upto_region 43 with (fail)
                go_cut [24, 213] (fun ev bv wx => ev = .int .i64 T ∧ (∃ B : Bool, bv = .bool B ∧ Hid (B = true ↔ D < T ∧ T < b)) ∧ wc = wx)
                case first => as_aux_lemma =>
                  by_cases c1 : D < T
                  · by_cases c2 : T < b
                    · go_wp2_with fail
                      go_meet
                      exact ⟨rfl, ⟨true, rfl, by show _ ↔ _; simp [c1, c2]⟩, rfl⟩
                    · go_wp2_with fail
                      go_meet
                      exact ⟨rfl, ⟨false, rfl, by show _ ↔ _; simp; omega⟩, rfl⟩
                  · go_wp2_with fail
                    go_meet
                    exact ⟨rfl, ⟨false, rfl, by show _ ↔ _; simp; omega⟩, rfl⟩
                case rest => as_aux_lemma =>
                  obtain ⟨rfl, ⟨B, rfl, hB⟩, rfl⟩ := hcut
                  cases B with
                  | true =>
                    obtain ⟨c1, c2⟩ := hB.out.1 rfl
                    go_wp2_with fail
                    refine (ih.out D T b (by omega) c1 c2 hb _ _ hs2 HH2).mono ?_
                    rintro e w1 ⟨rfl, f2, hs3, hm3⟩
                    go_wp2_with fail
                    refine bodyPost_end (results_none rfl _ _ _) rfl ?_
                    refine ⟨rfl, f2, hs3, ?_, join_halves HHALF.out hm2.out.1 hm2.out.2 hm3.out.1 hm3.out.2⟩
                    exact (HMV.out.trans (hm2.out.1.mono (Nat.le_refl _) (by omega))).trans (hm3.out.1.mono (by omega) (Nat.le_refl _))
                  | false =>
                    have hq : D = T ∨ T = b := by have := (not_congr hB.out).1 (by simp); omega
                    go_wp2_with fail
                    refine bodyPost_end (results_none rfl _ _ _) rfl ?_
                    refine ⟨rfl, f1, hs2, ?_, join_halves HHALF.out hm2.out.1 hm2.out.2 (Mv.refl _ _ _) (HH2.out.sorted hq)⟩
                    exact HMV.out.trans (hm2.out.1.mono (Nat.le_refl _) (by omega))

theorem bst_merge {w0 : World} {g off n G : Nat} {CB : Array Value} {cf : Nat → Nat → Int} {key : Nat → Int} {e0 : Nat → Int} {e1 : Nat → Int} {e2 : Nat → Int} {e3 : Nat → Bool} (B : Hid (SBase Try.prog (bst_E e0 e1 e2 e3) 4 n g off w0 G CB cf key)) (cap : Nat) : ∀ (d a m b : Nat), b - a ≤ d → a < m → m < b → b ≤ n → bst_Merges cap n g off w0 G CB key e0 e1 e2 e3 a m b
  | 0, a, m, b, h0, h1, h2, h3 => by omega
  | d + 1, a, m, b, h0, h1, h2, h3 => by
    intro W f hs hr
    by_cases c1 : m = a + 1
    · subst c1
      exact bst_merge_left B hs h3 hr _ (by omega) h2 cap
    · by_cases c2 : b = m + 1
      · subst c2
        exact bst_merge_right B hs h3 hr _ (by omega) (by omega) cap
      · exact bst_merge_gen B hs h3 hr (by omega) (by omega) cap (fun a' m' b' q0 q1 q2 q3 => bst_merge B cap d a' m' b' (by omega) q1 q2 q3)
end Go.Proofs.Ytfeefijaahjheaa

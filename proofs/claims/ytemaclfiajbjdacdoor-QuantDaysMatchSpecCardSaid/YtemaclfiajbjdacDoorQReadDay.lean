/- The contract of ReadDate: what is read, then the day of it. -/
import Derived.Test.YtemaclfiajbjdacDoorQReadDate
namespace Go.Proofs.YtemaclfiajbjdacDoor
open Go.RowKit

def dateAns (L : List Nat) : Int × Int × Int :=
  if (dateRead L).e = 0 then ((dayV (dateRead L).y (dateRead L).m (dateRead L).d).1, 0, (dayV (dateRead L).y (dateRead L).m (dateRead L).d).2) else (0, (dateRead L).at_, (dateRead L).e)

theorem dateFV_d (R : List Nat) : 0 ≤ (dateFV R).d ∧ (dateFV R).d ≤ 99 := by
  have := pairV_bd 99 (R.drop 8) (by omega) (by omega)
  unfold dateFV
  repeat' split
  all_goals simp only
  all_goals omega
theorem dateRead_d (L : List Nat) : 0 ≤ (dateRead L).d ∧ (dateRead L).d ≤ 99 := by
  have := dateFV_d L
  unfold dateRead
  repeat' split
  all_goals simp only
  all_goals omega

set_option maxHeartbeats 800000 in
theorem readDate_any (s : ByteArray) (hs : s.size ≤ 140737488351232) (w : World) (ht : Tabs w) {n at_ e : Int} (h : Hid (dateAns (rem s 0) = (n, at_, e))) :
    Calls Tryd.prog 12 #[.string s] w fun x w' => x = .returned (.tuple #[.int .i64 n, .int .i64 at_, .int .i64 e]) ∧ w.grownBy w' none := by
  have hb : (w.alloc (.cells #[.func (.func 41) #[] #[]] 76)).heap[w.heap.size]? = _ := heap_alloc_new w _
  have hcell : (w.alloc (.cells #[.func (.func 41) #[] #[]] 76)).cell? ⟨w.heap.size, 0, none⟩ = some (.func (.func 41) #[] #[]) := by
    simp only [World.cell?, hb]; rfl
  have hr := readDate_form s hs w.heap.size 1 _ hcell
  have hd := dateRead_d (rem s 0)
  have hA := h.out
  unfold dateAns at hA
  obtain ⟨R, hR⟩ : ∃ R, dateRead (rem s 0) = R := ⟨_, rfl⟩
  rw [hR] at hr hd hA
  obtain ⟨y, m, d, a, e'⟩ := R
  simp only at hr hd hA
  have HR := Lib.hid hr; have HT := Lib.hid ht; clear hr hb hcell hR ht
  by_cases he : e' = 0
  · rw [if_pos he] at hA
    have he1 : (e' != 0) = false := by simp [he]
    subst he
    obtain ⟨q1, q2⟩ : ∃ q : Int × Int, dayV y m d = q := ⟨_, rfl⟩
    rw [q2] at hA
    simp only [Prod.mk.injEq] at hA
    obtain ⟨a1, a2, a3⟩ := hA
    have HQ := Lib.hid q2; have HA := Lib.hid (And.intro a1 (And.intro a2 a3)); clear q2 a1 a2 a3
    go_enter Tryd.func12, Tryd.ntmps12
    go_wp2_with fail
    refine (HR.out).mono ?_; rintro x w1 ⟨rfl, hg1⟩
    have hg2 := grown_trans (World.grownBy_alloc w (.cells #[.func (.func 41) #[] #[]] 76) none) hg1
    have hg3 := grown_trans hg2 (World.grownBy_alloc w1 (.cells #[.int .i64 y, .int .i64 m, .int .i64 d, .int .i64 0] 44) none)
    go_wp2_with fail
    refine (dayOf_any y m d (by omega) (by omega) _ (HT.out.grown hg3)).mono ?_; rintro x w2 ⟨rfl, rfl⟩
    go_wp2_with fail
    go_ret3
    exact ⟨ret_iii (by rw [HQ.out]; exact HA.out.1) HA.out.2.1 (by rw [HQ.out]; exact HA.out.2.2), hg3⟩
  · rw [if_neg he] at hA
    have he1 : (e' != 0) = true := by simpa using he
    simp only [Prod.mk.injEq] at hA
    obtain ⟨a1, a2, a3⟩ := hA
    subst a1; subst a2; subst a3
    clear he
    go_enter Tryd.func12, Tryd.ntmps12
    go_wp2_with fail
    refine (HR.out).mono ?_; rintro x w1 ⟨rfl, hg1⟩
    have hg2 := grown_trans (World.grownBy_alloc w (.cells #[.func (.func 41) #[] #[]] 76) none) hg1
    have hg3 := grown_trans hg2 (World.grownBy_alloc w1 (.cells #[.int .i64 y, .int .i64 m, .int .i64 d, .int .i64 0] 44) none)
    go_wp2_with fail
    go_ret3
    exact ⟨rfl, hg3⟩
end Go.Proofs.YtemaclfiajbjdacDoor

/-
  Contracts of the model's RecOk and l2Changes, kind by kind. No conditions.
-/
import Derived.Test.YtoihdbcdlodkgaaGreatDoorRecs
namespace Go.Proofs.YtoihdbcdlodkgaaGreatDoor.Base
open Go.RowKit

set_option maxHeartbeats 2000000 in
theorem specRecOk_1 (t p s o n v x : Int) (w : World) : Calls Tryz.prog 24 #[recV ⟨1, t, p, s, o, n, v, x⟩] w (Keeps (.bool (okR ⟨1, t, p, s, o, n, v, x⟩)) w) := by
  have H : Hid (okR ⟨1, t, p, s, o, n, v, x⟩ = ((inB t 1 3 && (inB v 0 150 && inB x 0 150)) && (formB ⟨1, t, p, s, o, n, v, x⟩))) := rfl
  have F : Hid (formB ⟨1, t, p, s, o, n, v, x⟩ = (ofB ⟨1, t, p, s, o, n, v, x⟩ && (decide (0 ≤ s) && (x == 0)))) := by
    show formB ⟨1, t, p, s, o, n, v, x⟩ = (ofB ⟨1, t, p, s, o, n, v, x⟩ && (decide (0 ≤ s) && (x == 0)))
    simp [formB]
  go_enter Tryz.func24, Tryz.ntmps24
  go_wp2_with (first
    | (go_at_call 29; refine (l6In_any _ _ _ _).mono ?_; rintro e w1 ⟨rfl, rfl⟩)
    | (go_at_call 39; refine (l2Of_any ⟨1, t, p, s, o, n, v, x⟩ _).mono ?_; rintro e w1 ⟨rfl, b1⟩; have q1 := (Has.new w 23 #[.int .i64 1, .int .i64 t, .int .i64 p, .int .i64 s, .int .i64 o, .int .i64 n, .int .i64 v, .int .i64 x]).below b1 (by simp); obtain ⟨c0, c1, c2, c3, c4, c5, c6, c7⟩ := eight q1; have B1 := Lib.hid b1; clear b1 q1))
  all_goals
    go_ret
    exact ⟨ret_bool (by rw [H.out, F.out]; first | (simp_all; done) | (simp_all; omega)), by first | exact below_one _ _ | exact (below_one _ _).trans (B1.out.mono (by simp))⟩

set_option maxHeartbeats 2000000 in
theorem specRecOk_2 (t p s o n v x : Int) (w : World) : Calls Tryz.prog 24 #[recV ⟨2, t, p, s, o, n, v, x⟩] w (Keeps (.bool (okR ⟨2, t, p, s, o, n, v, x⟩)) w) := by
  have H : Hid (okR ⟨2, t, p, s, o, n, v, x⟩ = ((inB t 1 3 && (inB v 0 150 && inB x 0 150)) && (formB ⟨2, t, p, s, o, n, v, x⟩))) := rfl
  have F : Hid (formB ⟨2, t, p, s, o, n, v, x⟩ = (ofB ⟨2, t, p, s, o, n, v, x⟩ && (decide (s < 0) && (x == 0)))) := by
    show formB ⟨2, t, p, s, o, n, v, x⟩ = (ofB ⟨2, t, p, s, o, n, v, x⟩ && (decide (s < 0) && (x == 0)))
    simp [formB]
  go_enter Tryz.func24, Tryz.ntmps24
  go_wp2_with (first
    | (go_at_call 29; refine (l6In_any _ _ _ _).mono ?_; rintro e w1 ⟨rfl, rfl⟩)
    | (go_at_call 39; refine (l2Of_any ⟨2, t, p, s, o, n, v, x⟩ _).mono ?_; rintro e w1 ⟨rfl, b1⟩; have q1 := (Has.new w 23 #[.int .i64 2, .int .i64 t, .int .i64 p, .int .i64 s, .int .i64 o, .int .i64 n, .int .i64 v, .int .i64 x]).below b1 (by simp); obtain ⟨c0, c1, c2, c3, c4, c5, c6, c7⟩ := eight q1; have B1 := Lib.hid b1; clear b1 q1))
  all_goals
    go_ret
    exact ⟨ret_bool (by rw [H.out, F.out]; first | (simp_all; done) | (simp_all; omega)), by first | exact below_one _ _ | exact (below_one _ _).trans (B1.out.mono (by simp))⟩

set_option maxHeartbeats 2000000 in
theorem specRecOk_6 (t p s o n v x : Int) (w : World) : Calls Tryz.prog 24 #[recV ⟨6, t, p, s, o, n, v, x⟩] w (Keeps (.bool (okR ⟨6, t, p, s, o, n, v, x⟩)) w) := by
  have H : Hid (okR ⟨6, t, p, s, o, n, v, x⟩ = ((inB t 1 3 && (inB v 0 150 && inB x 0 150)) && (formB ⟨6, t, p, s, o, n, v, x⟩))) := rfl
  have F : Hid (formB ⟨6, t, p, s, o, n, v, x⟩ = (ofB ⟨6, t, p, s, o, n, v, x⟩ && (o == 0))) := by
    show formB ⟨6, t, p, s, o, n, v, x⟩ = (ofB ⟨6, t, p, s, o, n, v, x⟩ && (o == 0))
    simp [formB]
  go_enter Tryz.func24, Tryz.ntmps24
  go_wp2_with (first
    | (go_at_call 29; refine (l6In_any _ _ _ _).mono ?_; rintro e w1 ⟨rfl, rfl⟩)
    | (go_at_call 39; refine (l2Of_any ⟨6, t, p, s, o, n, v, x⟩ _).mono ?_; rintro e w1 ⟨rfl, b1⟩; have q1 := (Has.new w 23 #[.int .i64 6, .int .i64 t, .int .i64 p, .int .i64 s, .int .i64 o, .int .i64 n, .int .i64 v, .int .i64 x]).below b1 (by simp); obtain ⟨c0, c1, c2, c3, c4, c5, c6, c7⟩ := eight q1; have B1 := Lib.hid b1; clear b1 q1))
  all_goals
    go_ret
    exact ⟨ret_bool (by rw [H.out, F.out]; first | (simp_all; done) | (simp_all; omega)), by first | exact below_one _ _ | exact (below_one _ _).trans (B1.out.mono (by simp))⟩

set_option maxHeartbeats 2000000 in
theorem specRecOk_3 (t p s o n v x : Int) (w : World) : Calls Tryz.prog 24 #[recV ⟨3, t, p, s, o, n, v, x⟩] w (Keeps (.bool (okR ⟨3, t, p, s, o, n, v, x⟩)) w) := by
  have H : Hid (okR ⟨3, t, p, s, o, n, v, x⟩ = ((inB t 1 3 && (inB v 0 150 && inB x 0 150)) && (formB ⟨3, t, p, s, o, n, v, x⟩))) := rfl
  have F : Hid (formB ⟨3, t, p, s, o, n, v, x⟩ = (inB p 0 4 && ((s == 0) && ((o == 0) && ((n == 0) && (x == 0)))))) := by
    show formB ⟨3, t, p, s, o, n, v, x⟩ = (inB p 0 4 && ((s == 0) && ((o == 0) && ((n == 0) && (x == 0)))))
    simp [formB]
  go_enter Tryz.func24, Tryz.ntmps24
  go_wp2_with (first
    | (go_at_call 29; refine (l6In_any _ _ _ _).mono ?_; rintro e w1 ⟨rfl, rfl⟩)
    | (go_at_call 39; refine (l2Of_any ⟨3, t, p, s, o, n, v, x⟩ _).mono ?_; rintro e w1 ⟨rfl, b1⟩; obtain ⟨c0, c1, c2, c3, c4, c5, c6, c7⟩ := ((Has.new w _ _).below b1 (by simp)).eight; have B1 := Lib.hid b1; clear b1))
  all_goals
    go_ret
    exact ⟨ret_bool (by rw [H.out, F.out]; first | (simp_all; done) | (simp_all; omega)), by first | exact below_one _ _ | exact (below_one _ _).trans (B1.out.mono (by simp))⟩

set_option maxHeartbeats 2000000 in
theorem specRecOk_4 (t p s o n v x : Int) (w : World) : Calls Tryz.prog 24 #[recV ⟨4, t, p, s, o, n, v, x⟩] w (Keeps (.bool (okR ⟨4, t, p, s, o, n, v, x⟩)) w) := by
  have H : Hid (okR ⟨4, t, p, s, o, n, v, x⟩ = ((inB t 1 3 && (inB v 0 150 && inB x 0 150)) && (formB ⟨4, t, p, s, o, n, v, x⟩))) := rfl
  have F : Hid (formB ⟨4, t, p, s, o, n, v, x⟩ = ((p == 0) && ((s == 0) && ((o == 0) && ((n == 0) && (x == 0)))))) := by
    show formB ⟨4, t, p, s, o, n, v, x⟩ = ((p == 0) && ((s == 0) && ((o == 0) && ((n == 0) && (x == 0)))))
    simp [formB]
  go_enter Tryz.func24, Tryz.ntmps24
  go_wp2_with (first
    | (go_at_call 29; refine (l6In_any _ _ _ _).mono ?_; rintro e w1 ⟨rfl, rfl⟩)
    | (go_at_call 39; refine (l2Of_any ⟨4, t, p, s, o, n, v, x⟩ _).mono ?_; rintro e w1 ⟨rfl, b1⟩; obtain ⟨c0, c1, c2, c3, c4, c5, c6, c7⟩ := ((Has.new w _ _).below b1 (by simp)).eight; have B1 := Lib.hid b1; clear b1))
  all_goals
    go_ret
    exact ⟨ret_bool (by rw [H.out, F.out]; first | (simp_all; done) | (simp_all; omega)), by first | exact below_one _ _ | exact (below_one _ _).trans (B1.out.mono (by simp))⟩

set_option maxHeartbeats 2000000 in
theorem specRecOk_5 (t p s o n v x : Int) (w : World) : Calls Tryz.prog 24 #[recV ⟨5, t, p, s, o, n, v, x⟩] w (Keeps (.bool (okR ⟨5, t, p, s, o, n, v, x⟩)) w) := by
  have H : Hid (okR ⟨5, t, p, s, o, n, v, x⟩ = ((inB t 1 3 && (inB v 0 150 && inB x 0 150)) && (formB ⟨5, t, p, s, o, n, v, x⟩))) := rfl
  have F : Hid (formB ⟨5, t, p, s, o, n, v, x⟩ = ((p == 0) && ((s == 0) && ((o == 0) && ((n == 0) && (x == 0)))))) := by
    show formB ⟨5, t, p, s, o, n, v, x⟩ = ((p == 0) && ((s == 0) && ((o == 0) && ((n == 0) && (x == 0)))))
    simp [formB]
  go_enter Tryz.func24, Tryz.ntmps24
  go_wp2_with (first
    | (go_at_call 29; refine (l6In_any _ _ _ _).mono ?_; rintro e w1 ⟨rfl, rfl⟩)
    | (go_at_call 39; refine (l2Of_any ⟨5, t, p, s, o, n, v, x⟩ _).mono ?_; rintro e w1 ⟨rfl, b1⟩; obtain ⟨c0, c1, c2, c3, c4, c5, c6, c7⟩ := ((Has.new w _ _).below b1 (by simp)).eight; have B1 := Lib.hid b1; clear b1))
  all_goals
    go_ret
    exact ⟨ret_bool (by rw [H.out, F.out]; first | (simp_all; done) | (simp_all; omega)), by first | exact below_one _ _ | exact (below_one _ _).trans (B1.out.mono (by simp))⟩

theorem formB_other (r : R) (h1 : r.k ≠ 1) (h2 : r.k ≠ 2) (h3 : r.k ≠ 3) (h4 : r.k ≠ 4) (h5 : r.k ≠ 5) (h6 : r.k ≠ 6) : formB r = false := by
  simp [formB, h1, h2, h3, h4, h5, h6]

set_option maxHeartbeats 2000000 in
theorem specRecOk_0 (r : R) (w : World) (h1 : r.k ≠ 1) (h2 : r.k ≠ 2) (h3 : r.k ≠ 3) (h4 : r.k ≠ 4) (h5 : r.k ≠ 5) (h6 : r.k ≠ 6) : Calls Tryz.prog 24 #[recV r] w (Keeps (.bool (okR r)) w) := by
  have H : Hid (okR r = false) := by show okR r = false; simp [okR, formB_other r h1 h2 h3 h4 h5 h6]
  have b1 : (r.k == 1) = false := by simpa using h1
  have b2 : (r.k == 2) = false := by simpa using h2
  have b3 : (r.k == 3) = false := by simpa using h3
  have b4 : (r.k == 4) = false := by simpa using h4
  have b5 : (r.k == 5) = false := by simpa using h5
  have b6 : (r.k == 6) = false := by simpa using h6
  clear h1 h2 h3 h4 h5 h6
  go_enter Tryz.func24, Tryz.ntmps24
  go_wp2_with (go_at_call 29; refine (l6In_any _ _ _ _).mono ?_; rintro e w1 ⟨rfl, rfl⟩)
  all_goals
    go_ret
    exact ⟨ret_bool H.out.symm, below_one _ _⟩

theorem specRecOk_any (r : R) (w : World) : Calls Tryz.prog 24 #[recV r] w (Keeps (.bool (okR r)) w) := by
  by_cases h1 : r.k = 1
  · obtain ⟨k, t, p, s, o, n, v, x⟩ := r
    subst h1
    exact specRecOk_1 t p s o n v x w
  by_cases h2 : r.k = 2
  · obtain ⟨k, t, p, s, o, n, v, x⟩ := r
    subst h2
    exact specRecOk_2 t p s o n v x w
  by_cases h3 : r.k = 3
  · obtain ⟨k, t, p, s, o, n, v, x⟩ := r
    subst h3
    exact specRecOk_3 t p s o n v x w
  by_cases h4 : r.k = 4
  · obtain ⟨k, t, p, s, o, n, v, x⟩ := r
    subst h4
    exact specRecOk_4 t p s o n v x w
  by_cases h5 : r.k = 5
  · obtain ⟨k, t, p, s, o, n, v, x⟩ := r
    subst h5
    exact specRecOk_5 t p s o n v x w
  by_cases h6 : r.k = 6
  · obtain ⟨k, t, p, s, o, n, v, x⟩ := r
    subst h6
    exact specRecOk_6 t p s o n v x w
  exact specRecOk_0 r w h1 h2 h3 h4 h5 h6

/-- kinds that change a page -/
def chg (k : Int) : Bool := (k == 1) || ((k == 2) || (k == 6))

end Go.Proofs.YtoihdbcdlodkgaaGreatDoor.Base

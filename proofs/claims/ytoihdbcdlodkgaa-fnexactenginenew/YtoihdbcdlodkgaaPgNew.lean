/-
  Rows of new pages: the model's l11Pages and the program's pagesOf of no page's values. No conditions.
-/
import Derived.Test.YtoihdbcdlodkgaaPgRow
namespace Go.Proofs.Ytoihdbcdlodkgaa.Base
open Go.RowKit

/-- a new page -/
abbrev zeroPg (g q : Nat) : Pg := ⟨0, 0, g, q, 3, [0, 0, 0]⟩
/-- what hands on five new pages, in new memory -/
def FivePs (w : World) (e : Ending) (w' : World) : Prop :=
  ∃ v ps, e = .returned v ∧ ps.length = 5 ∧ Below w.heap.size w w' ∧ OwnPs w' w.heap.size v ps ∧ (∀ p ∈ ps, p.says = (0, 0, [0, 0, 0])) ∧ (ps.map Pg.g).Nodup
/-- some pages of them -/
def SomePs (base : Nat) (v : Value) (k : Nat) (wx : World) : Prop :=
  ∃ ps, ps.length = k ∧ OwnPs wx base v ps ∧ (∀ p ∈ ps, p.says = (0, 0, [0, 0, 0])) ∧ (ps.map Pg.g).Nodup
theorem rd_zero {w : World} {g q : Nat} {t : TypeId} {cs : Array Value} (h : Has w g t cs) (h0 : cs[q]? = some (.int .i64 0)) (h1 : cs[q + 1]? = some (.int .i64 0)) (h2 : cs[q + 2]? = some (.int .i64 0)) : Rd .i64 w g q [0, 0, 0] := fun j hj => by
  rw [h.cell]
  match j, hj with
  | 0, _ => exact h0
  | 1, _ => exact h1
  | 2, _ => exact h2
theorem SomePs.more {base : Nat} {v v' : Value} {k : Nat} {wx wz : World} {ps : List Pg} {p : Pg} (hl : ps.length = k) (ho : OwnPs wx base v ps) (hz : ∀ p ∈ ps, p.says = (0, 0, [0, 0, 0])) (hd : (ps.map Pg.g).Nodup)
    (hp : p.says = (0, 0, [0, 0, 0])) (hg : wx.heap.size ≤ p.g) (h' : OwnPs wz base v' (ps ++ [p])) : SomePs base v' (k + 1) wz := by
  refine ⟨ps ++ [p], by simp [hl], h', fun r hr => ?_, ?_⟩
  · rcases List.mem_append.1 hr with hr | hr
    · exact hz r hr
    · obtain rfl : r = p := by simpa using hr
      exact hp
  · rw [List.map_append, List.nodup_append]
    refine ⟨hd, by simp, fun a ha b hb => ?_⟩
    obtain ⟨r, hr, rfl⟩ := List.mem_map.1 ha
    obtain rfl : b = p.g := by simpa using hb
    have := (ho.all r hr).wr.1
    omega

def NewPageS (w : World) (e : Ending) (w' : World) : Prop :=
  e = .returned (pageV 0 0 (some ⟨w.heap.size + 1, 0, none⟩) 3 3) ∧ Below w.heap.size w w' ∧ Has w' (w.heap.size + 1) 3 #[.int .i64 0, .int .i64 0, .int .i64 0]
attribute [local go_sem] make3
set_option maxHeartbeats 400000 in
theorem specPageNew_has (w : World) : Calls Try.prog 17 #[] w (NewPageS w) := by
  go_enter Try.func17, Try.ntmps17
  go_wp2
  refine bodyPost_ret (v := pageV 0 0 (some ⟨w.heap.size + 1, 0, none⟩) 3 3) (by simp [results, Try.results17, go_sem]) rfl ⟨rfl, ?_, ?_⟩
  · exact ((Below.refl _ _).alloc (Nat.le_refl _) _).alloc (by simp) _
  · have h3 := Has.new (w.alloc (.cells #[.int .i64 0, .int .i64 0, .slice (some ⟨w.heap.size + 1, 0, none⟩) 3 3] 44)) 3 #[.int .i64 0, .int .i64 0, .int .i64 0]
    simp only [World.size_alloc] at h3
    exact h3

set_option maxHeartbeats 2000000 in
theorem l11Pages_any (w : World) : Calls Try.prog 9 #[] w (FivePs w) := by
  go_enter Try.func9, Try.ntmps9
  go_wp2_with fail
  have O1 : Hid (OwnPs (w.alloc (.cells #[] 44)) w.heap.size (.slice (some ⟨w.heap.size, 0, none⟩) 0 0) []) := OwnPs.empty (Has.new w _ _) (Nat.le_refl _)
  have B1 : Hid (Below w.heap.size w (w.alloc (.cells #[] 44))) := below_one _ _
  go_loopw [1, 2] (fun v i wx => ∃ k : Nat, k ≤ 5 ∧ i = .int .i64 k ∧ Below w.heap.size w wx ∧ SomePs w.heap.size v k wx) (fun _ i _ => 5 - (intOf i).toNat)
  case atStart => exact ⟨0, by omega, rfl, B1.out, [], rfl, O1.out, by simp, by simp⟩
  case round =>
    clear O1 B1
    obtain ⟨k, hk, rfl, hb, ps, hl, ho, hz, hd⟩ := hrel
    have Hb := Lib.hid hb
    have Ho := Lib.hid ho
    have Hz := Lib.hid hz
    have Hd := Lib.hid hd
    have Hl := Lib.hid hl
    have hs := hb.size
    clear hb ho hz hd hl
    by_cases hlt : k < 5
    · go_wp2_with fail
      refine (specPageNew_has _).mono ?_
      rintro e w1 ⟨rfl, b1, h1⟩
      have Ob := Lib.hid ((Ho.out.below b1).below (below_one w1 (.cells (zeroPg (wr.heap.size + 1) 0).cells.toArray 44)))
      have Hc := Lib.hid (Has.new w1 44 (zeroPg (wr.heap.size + 1) 0).cells.toArray)
      have hlt1 := h1.lt
      have h2 := h1.alloc (.cells (zeroPg (wr.heap.size + 1) 0).cells.toArray 44)
      have Hp : Hid (PgAt (w1.alloc (.cells (zeroPg (wr.heap.size + 1) 0).cells.toArray 44)) w.heap.size (zeroPg (wr.heap.size + 1) 0)) := ⟨by show w.heap.size ≤ wr.heap.size + 1; omega, rd_zero h2 rfl rfl rfl, h2.wr _ _, ⟨_, _, _, h2, by decide⟩⟩
      have Bb : Hid (Below w.heap.size w (w1.alloc (.cells (zeroPg (wr.heap.size + 1) 0).cells.toArray 44))) := (Hb.out.trans (b1.mono hs)).alloc (by omega) _
      clear b1 h1 h2
      go_wp2_with (at_builtin; refine wp_append_page _ rfl (.tmp 8) (.tmp 10) rfl w.heap.size _ ps rfl Ob.out _ (zeroPg (wr.heap.size + 1) 0) rfl Hc.out Hp.out (by have := Hl.out; omega) (by simp; omega) ?_; intro v' w' h1 h2; have H1 := Lib.hid h1; have H2 := Lib.hid h2; clear h1 h2)
      refine ⟨⟨k + 1, by omega, by go_num, ?_, ?_⟩, by simp [intOf]; omega⟩
      · exact Bb.out.grown H2.out (by simp; omega) (fun j hj => (World.ownsRow.lt Ob.out.row j hj).1)
      · exact SomePs.more Hl.out Ho.out Hz.out Hd.out rfl (by show wr.heap.size ≤ wr.heap.size + 1; omega) H1.out
    · obtain rfl : k = 5 := by omega
      go_wp2
      go_ret
      exact ⟨_, ps, rfl, Hl.out, Hb.out, Ho.out, Hz.out, Hd.out⟩
end Go.Proofs.Ytoihdbcdlodkgaa.Base

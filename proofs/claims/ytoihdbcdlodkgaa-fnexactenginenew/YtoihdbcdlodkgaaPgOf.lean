/-
  The program's pagesOf of frames that hold nothing: five new pages. No conditions.
-/
import Derived.Test.YtoihdbcdlodkgaaPgNew
import Derived.Deep.MidRow
import Derived.Deep.Cut
namespace Go.Proofs.Ytoihdbcdlodkgaa.Base
open Go.RowKit

/-- five frames that hold nothing -/
abbrev zeros25 : Array Value := #[.int .i64 0, .int .i64 0, .int .i64 0, .int .i64 0, .int .i64 0, .int .i64 0, .int .i64 0, .int .i64 0, .int .i64 0, .int .i64 0, .int .i64 0, .int .i64 0, .int .i64 0, .int .i64 0, .int .i64 0, .int .i64 0, .int .i64 0, .int .i64 0, .int .i64 0, .int .i64 0, .int .i64 0, .int .i64 0, .int .i64 0, .int .i64 0, .int .i64 0]
theorem infoFrame : (Try.prog.info? 33).map (fun i => (i.zero, i.size, i.bytes)) = some (some (frameV 0 0 0 0 0), 5, 40) := by kernel_rfl
theorem part_frame (k : Nat) (hk : k < 5) (w : World) : (part 33 zeros25 (k * 5)).run Try.prog w = .ok (frameV 0 0 0 0 0) w := by
  obtain ⟨i0, hi, _, hs, _⟩ := info_parts infoFrame
  unfold part
  simp only [Sem.run_bind, isAgg, run_underlying Try.underlying33, Result.andThen_ok, Sem.run_pure, if_true, run_sizeOf w hi]
  match k, hk with
  | 0, _ => rfl
  | 1, _ => rfl
  | 2, _ => rfl
  | 3, _ => rfl
  | 4, _ => rfl
theorem ixF (k : Nat) (hk : k < 5) (w : World) : (Instr.index 35 (.agg zeros25) (.int .i64 (k : Int))).run Try.prog w = .ok (frameV 0 0 0 0 0) w := by
  obtain ⟨i0, hi, _, hs, _⟩ := info_parts infoFrame
  simp only [Instr.index, asIntOf, Sem.run_bind, Sem.run_pure, Result.andThen_ok, run_underlying Try.underlying35]
  rw [if_pos (by omega)]
  simp only [Sem.run_bind, run_sizeOf w hi, Result.andThen_ok]
  rw [show Int.toNat (k : Int) * Try.prog.cellsOf 33 = k * 5 from by rw [show Try.prog.cellsOf 33 = 5 from by kernel_rfl]; simp]
  exact part_frame k hk w

/-- what is used of five frames that hold nothing, taken as a whole -/
structure Z25 (Z : Array Value) : Prop where
  size : Z.size = 25
  ix : ∀ (k : Nat), k < 5 → ∀ w : World, (Instr.index 35 (.agg Z) (.int .i64 (k : Int))).run Try.prog w = .ok (frameV 0 0 0 0 0) w
theorem z25 : Z25 zeros25 := ⟨rfl, ixF⟩
theorem rangeAt_new (w : World) (t : TypeId) (Z : Array Value) : (w.alloc (.cells Z t)).rangeAt w.heap.size 0 Z.toList := fun j v hv => by
  rw [Nat.zero_add, (Has.new w t Z).cell]
  simpa using hv

set_option maxHeartbeats 2000000 in
theorem pagesOf_zero (Z : Array Value) (hZ : Z25 Z) (w : World) : Calls Try.prog 18 #[.agg Z] w (FivePs w) := by
  have HZ := Lib.hid hZ
  have Hi : Hid ((Try.prog.info? 35).map (·.size) = some Z.toList.length) := by
    show _ = _
    rw [Array.length_toList, hZ.size]
    kernel_rfl
  clear hZ
  go_enter Try.func18, Try.ntmps18
  go_upto_region 2 with (fail)
  refine wp_region_list ?_
  refine wpList_load_mid rfl 35 (.tmp 1) rfl w.heap.size 0 rfl Z.toList _ (rangeAt_new w _ Z) Try.underlying35 rfl Hi.out ?_
  rw [Array.toArray_toList]
  go_wp2_with fail
  have B1 : Hid (Below w.heap.size w (w.alloc (.cells Z 35))) := below_one _ _
  go_loopw [3, 7] (fun v i wx => ∃ k : Nat, k ≤ 5 ∧ i = .int .i64 k ∧ Below w.heap.size w wx ∧ SomePs w.heap.size v k wx) (fun _ i _ => 5 - (intOf i).toNat)
  case atStart => exact ⟨0, by omega, rfl, B1.out, [], rfl, OwnPs.nil _ _, by simp, by simp⟩
  case round =>
    clear B1
    obtain ⟨k, hk, rfl, hb, ps, hl, ho, hz, hd⟩ := hrel
    have Hb := Lib.hid hb
    have Ho := Lib.hid ho
    have Hz := Lib.hid hz
    have Hd := Lib.hid hd
    have Hl := Lib.hid hl
    have hs := hb.size
    clear hb ho hz hd hl
    by_cases hlt : k < 5
    · have hix := HZ.out.ix k hlt
      go_wp2_with fail
      refine (fpage_any 0 0 0 0 0 _).mono ?_
      rintro e w1 ⟨rfl, b1, h1⟩
      simp only [World.size_alloc] at b1 h1 ⊢
      have b0 : Below wr.heap.size wr w1 := (below_one _ _).trans (b1.mono (by simp))
      have Ob := Lib.hid ((Ho.out.below b0).below (below_one w1 (.cells (zeroPg (wr.heap.size + 1) 2).cells.toArray 44)))
      have Hc := Lib.hid (Has.new w1 44 (zeroPg (wr.heap.size + 1) 2).cells.toArray)
      have hlt1 := h1.lt
      have h2 := h1.alloc (.cells (zeroPg (wr.heap.size + 1) 2).cells.toArray 44)
      have Hp : Hid (PgAt (w1.alloc (.cells (zeroPg (wr.heap.size + 1) 2).cells.toArray 44)) w.heap.size (zeroPg (wr.heap.size + 1) 2)) := ⟨by show w.heap.size ≤ wr.heap.size + 1; omega, rd_zero h2 rfl rfl rfl, h2.wr _ _, ⟨_, _, _, h2, by decide⟩⟩
      have Bb : Hid (Below w.heap.size w (w1.alloc (.cells (zeroPg (wr.heap.size + 1) 2).cells.toArray 44))) := (Hb.out.trans (b0.mono hs)).alloc (by omega) _
      clear b0 b1 h1 h2 hix
      go_wp2_with (at_builtin; refine wp_append_page _ rfl (.tmp 10) (.tmp 13) rfl w.heap.size _ ps rfl Ob.out _ (zeroPg (wr.heap.size + 1) 2) rfl Hc.out Hp.out (by have := Hl.out; omega) (by simp; omega) ?_; intro v' w' h1 h2; have H1 := Lib.hid h1; have H2 := Lib.hid h2; clear h1 h2)
      refine ⟨⟨k + 1, by omega, by go_num, ?_, ?_⟩, by simp [intOf]; omega⟩
      · exact Bb.out.grown H2.out (by simp; omega) (fun j hj => (World.ownsRow.lt Ob.out.row j hj).1)
      · exact SomePs.more Hl.out Ho.out Hz.out Hd.out rfl (by show wr.heap.size ≤ wr.heap.size + 1; omega) H1.out
    · obtain rfl : k = 5 := by omega
      go_wp2
      go_ret
      exact ⟨_, ps, rfl, Hl.out, Hb.out, Ho.out, Hz.out, Hd.out⟩
end Go.Proofs.Ytoihdbcdlodkgaa.Base

/-
  Contracts of the program's frames and of its PageOk and PageEmpty. Conditions: the page's slots lead to numbers.
-/
import Derived.Test.YtjiclphpeoffdaaPages
import Derived.Laws.Cover3
namespace Go.Proofs.Ytjiclphpeoffdaa.Base
open Go.RowKit

/-- a frame that is ok -/
def okF (l o a b c : Int) : Bool := inB l 0 150 && (inB o 0 3 && (inB a 0 9 && (inB b 0 9 && (inB c 0 9 && ((o != 0) || (a == 0 && (b == 0 && c == 0)))))))

theorem part_int (cs : Array Value) (i : Nat) (v : Value) (w : World) (h : cs[i]? = some v) : (part 3 cs i).run Try.prog w = .ok v w := by
  simp [part, isAgg, run_underlying Try.underlying3, h]
theorem ix3 (x y z : Value) (t : Nat) (v : Value) (w : World) (h : #[x, y, z][t]? = some v) : (Instr.index 61 (.agg #[x, y, z]) (.int .i64 (t : Int))).run Try.prog w = .ok v w := by
  obtain ⟨i0, hi, _, hs, _⟩ := info_parts infoInt
  have ht : t < 3 := by
    have := (Array.getElem?_eq_some_iff.1 h).1
    simpa using this
  simp only [Instr.index, asIntOf, Sem.run_bind, Sem.run_pure, Result.andThen_ok, run_underlying Try.underlying61]
  rw [if_pos (by omega)]
  simp only [Sem.run_bind, run_sizeOf w hi, Result.andThen_ok]
  rw [show Int.toNat (t : Int) * Try.prog.cellsOf 3 = t from by rw [show Try.prog.cellsOf 3 = 1 from by kernel_rfl]; simp]
  exact part_int _ _ _ _ h
theorem ix_0 (x y z : Value) (w : World) : (Instr.index 61 (.agg #[x, y, z]) (.int .i64 0)).run Try.prog w = .ok x w := ix3 x y z 0 x w rfl
theorem ix_1 (x y z : Value) (w : World) : (Instr.index 61 (.agg #[x, y, z]) (.int .i64 1)).run Try.prog w = .ok y w := ix3 x y z 1 y w rfl
theorem ix_2 (x y z : Value) (w : World) : (Instr.index 61 (.agg #[x, y, z]) (.int .i64 2)).run Try.prog w = .ok z w := ix3 x y z 2 z w rfl
attribute [local go_sem ↓] ix_0 ix_1 ix_2

set_option maxHeartbeats 2000000 in
theorem fok_any (l o a b c : Int) (w : World) :
    Calls Try.prog 97 #[frameV l o a b c] w (Keeps (.bool (okF l o a b c)) w) := by
  cases h1 : inB l 0 150
  · have H1 := Lib.hid h1
    clear h1
    go_enter Try.func97, Try.ntmps97
    go_wp2_with fail
    refine (within_any _ _ _).mono ?_
    rintro e w1 ⟨rfl, rfl⟩
    rw [H1.out]
    go_wp2
    go_ret
    exact ⟨ret_bool (by simp [okF, H1.out]), below_one _ _⟩
  · have H1 := Lib.hid h1
    clear h1
    cases h2 : inB o 0 3
    · have H2 := Lib.hid h2
      clear h2
      go_enter Try.func97, Try.ntmps97
      go_wp2_with fail
      refine (within_any _ _ _).mono ?_
      rintro e w1 ⟨rfl, rfl⟩
      rw [H1.out]
      go_wp2_with fail
      refine (within_any _ _ _).mono ?_
      rintro e w1 ⟨rfl, rfl⟩
      rw [H2.out]
      go_wp2
      go_ret
      exact ⟨ret_bool (by simp [okF, H2.out]), below_one _ _⟩
    · have H2 := Lib.hid h2
      clear h2
      go_enter Try.func97, Try.ntmps97
      go_wp2_with fail
      refine (within_any _ _ _).mono ?_
      rintro e w1 ⟨rfl, rfl⟩
      rw [H1.out]
      go_wp2_with fail
      refine (within_any _ _ _).mono ?_
      rintro e w1 ⟨rfl, rfl⟩
      rw [H2.out]
      go_wp2_with fail
      go_loop [17] (fun i => ∃ t : Nat, t ≤ 3 ∧ i = .int .i64 t ∧ (0 < t → inB a 0 9 = true) ∧ (1 < t → inB b 0 9 = true) ∧ (2 < t → inB c 0 9 = true)) (fun i => 3 - (intOf i).toNat)
      case atStart => exact ⟨0, by omega, rfl, fun h => absurd h (by omega), fun h => absurd h (by omega), fun h => absurd h (by omega)⟩
      case round =>
        obtain ⟨t, ht, rfl, ra, rb, rc⟩ := hrel
        have Ra := Lib.hid ra
        have Rb := Lib.hid rb
        have Rc := Lib.hid rc
        clear ra rb rc
        match t, ht with
        | 0, _ =>
          cases h3 : inB a 0 9
          · have H3 := Lib.hid h3
            clear h3
            go_wp2_with ((go_at_call 36; refine (within_any _ _ _).mono ?_; rintro e w1 ⟨rfl, rfl⟩; rw [H3.out]))
            go_ret
            exact ⟨ret_bool (by simp [okF, H3.out]), below_one _ _⟩
          · have H3 := Lib.hid h3
            clear h3
            go_wp2_with ((go_at_call 36; refine (within_any _ _ _).mono ?_; rintro e w1 ⟨rfl, rfl⟩; rw [H3.out]))
            exact ⟨⟨1, by omega, by go_num, fun _ => trivial, fun h => absurd h (by omega), fun h => absurd h (by omega)⟩, by simp [intOf]⟩
        | 1, _ =>
          cases h3 : inB b 0 9
          · have H3 := Lib.hid h3
            clear h3
            go_wp2_with ((go_at_call 36; refine (within_any _ _ _).mono ?_; rintro e w1 ⟨rfl, rfl⟩; rw [H3.out]))
            go_ret
            exact ⟨ret_bool (by simp [okF, H3.out]), below_one _ _⟩
          · have H3 := Lib.hid h3
            clear h3
            go_wp2_with ((go_at_call 36; refine (within_any _ _ _).mono ?_; rintro e w1 ⟨rfl, rfl⟩; rw [H3.out]))
            exact ⟨⟨2, by omega, by go_num, fun _ => Ra.out (by omega), fun _ => trivial, fun h => absurd h (by omega)⟩, by simp [intOf]⟩
        | 2, _ =>
          cases h3 : inB c 0 9
          · have H3 := Lib.hid h3
            clear h3
            go_wp2_with ((go_at_call 36; refine (within_any _ _ _).mono ?_; rintro e w1 ⟨rfl, rfl⟩; rw [H3.out]))
            go_ret
            exact ⟨ret_bool (by simp [okF, H3.out]), below_one _ _⟩
          · have H3 := Lib.hid h3
            clear h3
            go_wp2_with ((go_at_call 36; refine (within_any _ _ _).mono ?_; rintro e w1 ⟨rfl, rfl⟩; rw [H3.out]))
            exact ⟨⟨3, by omega, by go_num, fun _ => Ra.out (by omega), fun _ => Rb.out (by omega), fun _ => trivial⟩, by simp [intOf]⟩
        | 3, _ =>
          have hall : okF l o a b c = ((o != 0) || (a == 0 && (b == 0 && c == 0))) := by
            simp [okF, H1.out, H2.out, Ra.out (by omega), Rb.out (by omega), Rc.out (by omega)]
          have Hall := Lib.hid hall
          clear hall
          cases h4 : (o != 0)
          · have H4 : Hid ((o != 0) = false) := h4
            go_wp2_with ((go_at_call 96; refine (fempty_any _ _ _ _ _ _).mono ?_; rintro e w1 ⟨rfl, b1⟩; have B1 := Lib.hid b1; clear b1))
            go_ret
            exact ⟨ret_bool (by rw [Hall.out, H4.out]; simp), (below_one _ _).trans (B1.out.mono (by simp))⟩
          · have H4 : Hid ((o != 0) = true) := h4
            go_wp2
            go_ret
            exact ⟨ret_bool (by rw [Hall.out, H4.out]; simp), below_one _ _⟩

/-- a page that is ok -/
def okP (l o : Int) (zs : List Int) : Bool := (zs.length == 3) && okF l o (zs.getD 0 0) (zs.getD 1 0) (zs.getD 2 0)

/-- what frameOf leaves -/
def FrameOf (l o : Int) (zs : List Int) (w : World) (e : Ending) (w' : World) : Prop :=
  e = .returned (.tuple #[if okP l o zs then frameV l o (zs.getD 0 0) (zs.getD 1 0) (zs.getD 2 0) else frameV 0 0 0 0 0, .bool (okP l o zs)]) ∧ Below w.heap.size w w'

end Go.Proofs.Ytjiclphpeoffdaa.Base

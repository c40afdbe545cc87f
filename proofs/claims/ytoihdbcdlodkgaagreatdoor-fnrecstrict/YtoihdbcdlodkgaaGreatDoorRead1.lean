/-
  Contracts of errors.Is (an error with itself, or none), of strconv.Atoi and of the program's kindOf. Conditions: the package variables hold what the program's text lays there.
-/
import Derived.Test.YtoihdbcdlodkgaaGreatDoorReadMath
import Derived.Test.YtoihdbcdlodkgaaGreatDoorRecTx
import Derived.Test.YtoihdbcdlodkgaaGreatDoorShelfR
import Derived.LaidEql
import Derived.Stop.Asserts
import Derived.RowKitTokens
namespace Go.Proofs.YtoihdbcdlodkgaaGreatDoor.Base
open Go.RowKit Go.Extern.Stop Go.Stop Go.Extern Go.Extern.ReflectliteType Go.Extern.Rtype

/-- what reading a text reads of package variables: tables, names, three errors, one bound -/
structure LaidE (p : Addr) (w : World) : Prop where
  l : Laid w
  err : w.cell? ⟨0, 0, none⟩ = some (.iface 135 (.pointer (some p)))
  syn : ∃ t v, w.cell? ⟨2, 0, none⟩ = some (.iface t v)
  rng : ∃ t v, w.cell? ⟨3, 0, none⟩ = some (.iface t v)
  mx : ∃ m : Int, w.cell? ⟨5, 0, none⟩ = some (.int .i64 m)
  big : 5 < w.heap.size
theorem LaidE.below {p : Addr} {w w' : World} (h : LaidE p w) (hb : Below w.heap.size w w') : LaidE p w' := by
  have hg := h.big
  obtain ⟨t, v, h1⟩ := h.syn
  obtain ⟨t', v', h2⟩ := h.rng
  obtain ⟨m, h3⟩ := h.mx
  exact ⟨h.l.below hb, (hb.cell (p := ⟨0, 0, none⟩) (by show 0 < _; omega)).trans h.err, ⟨t, v, (hb.cell (p := ⟨2, 0, none⟩) (by show 2 < _; omega)).trans h1⟩, ⟨t', v', (hb.cell (p := ⟨3, 0, none⟩) (by show 3 < _; omega)).trans h2⟩,
    ⟨m, (hb.cell (p := ⟨5, 0, none⟩) (by show 5 < _; omega)).trans h3⟩, Nat.lt_of_lt_of_le hg hb.size⟩
theorem LaidE.kept {p : Addr} {w w' : World} {B : Nat} (h : LaidE p w) (hb : Below B w w') (hB : w.heap.size ≤ B) : LaidE p w' := h.below (hb.mono hB)

theorem isTypeOf (v : Value) (w : World) : (Extern.ReflectliteType.typeOf #[.iface 135 v]).run Tryz.prog w = .ok (.iface 76 (.agg #[.pointer (some ⟨10, 135, none⟩)])) w := by kernel_rfl
theorem isComparable (w : World) : ((Extern.ReflectliteType.method fun t => do noPackHeld "Comparable" t; (fun a => Value.bool a.comparable) <$> typeInfo t) #[.agg #[.pointer (some ⟨10, 135, none⟩)]]).run Tryz.prog w = .ok (.bool true) w := by kernel_rfl
theorem isMethodComparable (v : Value) (w : World) : (Go.method 186 76 v "Comparable").run Tryz.prog w = .ok (103, v) w := by kernel_rfl
theorem isComp : (Tryz.prog.info? 135).map (·.comparable) = some true := by kernel_rfl
theorem isSize : (Tryz.prog.info? 137).map (·.size) = some 1 := by kernel_rfl

set_option maxRecDepth 100000 in
/-- an error is itself -/
theorem is_same (a : Addr) (w : World) :
    Calls Tryz.prog 19 #[.iface 135 (.pointer (some a)), .iface 135 (.pointer (some a))] w fun e w' => e = .returned (.bool true) ∧ w' = w := by
  obtain ⟨i, hi, hcmp⟩ := Option.map_eq_some_iff.1 isComp
  obtain ⟨j, hj, hjs⟩ := Option.map_eq_some_iff.1 isSize
  have h8 := @run_callFunc_extern Tryz.prog 33 _ Extern.ReflectliteType.typeOf Tryz.func33 (by kernel_rfl) (by kernel_rfl) (by kernel_rfl) (by kernel_rfl)
  have h32 := @run_callFunc_extern Tryz.prog 103 _ (Extern.ReflectliteType.method fun t => do noPackHeld "Comparable" t; pure (.bool (← typeInfo t).comparable)) Tryz.func103 (by kernel_rfl) (by kernel_rfl) (by kernel_rfl) (by kernel_rfl)
  have tT := isTypeOf
  have cT := isComparable
  have mR := isMethodComparable
  have heq := run_eql_iface_ptr_same (P := Tryz.prog) w a Tryz.underlying39 Tryz.underlying135 hi hcmp hj
  go_enter Tryz.func19, Tryz.ntmps19
  go_wp2
  refine wp_loop_rounds 1 ?_
  rw [rounds_succ]
  go_wp2
  go_ret
  exact ⟨rfl, rfl⟩

set_option maxRecDepth 100000 in
/-- no error is none -/
theorem is_nil (b : Addr) (w : World) :
    Calls Tryz.prog 19 #[.nilIface, .iface 135 (.pointer (some b))] w fun e w' => e = .returned (.bool false) ∧ w' = w := by
  have hn := run_eql_iface_nil_left (P := Tryz.prog) w 135 (.pointer (some b)) Tryz.underlying39
  go_enter Tryz.func19, Tryz.ntmps19
  go_wp2
  go_ret
  exact ⟨rfl, rfl⟩

theorem atoi_ok (s : ByteArray) (hs : s.size ≤ 30) (v : Int) (h : Lib.atoiAll s.data.toList = .ok v) (w : World) :
    Calls Tryz.prog 31 #[.string s] w (Keeps (.tuple #[.int .i64 v, .nilIface]) w) :=
  (Tryz.strconv_Atoi_ok s (by omega) v h w).mono fun e w' ⟨he, hw⟩ => ⟨he, by
    rcases hw with rfl | ⟨t, rfl⟩
    · exact Below.refl _ _
    · exact Go.Joins.below_bytesWorld _ _ _ _ (Nat.le_refl _)⟩
theorem atoi_bad (s : ByteArray) (hs : s.size ≤ 30) (h : ∀ v, Lib.atoiAll s.data.toList ≠ .ok v) (p : Addr) (w : World) (hl : LaidE p w) :
    Calls Tryz.prog 31 #[.string s] w (fun e w' => (∃ v N, e = .returned (.tuple #[.int .i64 v, .iface 106 (.pointer (some ⟨N, 0, none⟩))])) ∧ Below w.heap.size w w') := by
  cases hq : Lib.atoiAll s.data.toList with
  | ok v => exact absurd hq (h v)
  | «syntax» =>
    obtain ⟨t, v, hc⟩ := hl.syn
    exact (Tryz.strconv_Atoi_syntax s (by omega) hq _ w hc (.inr ⟨t, v, rfl⟩)).mono fun e w' ⟨N, he, _, _, hb⟩ => ⟨⟨_, N, he⟩, hb⟩
  | range =>
    obtain ⟨t, v, hc⟩ := hl.rng
    exact (Tryz.strconv_Atoi_range s (by omega) hq _ w hc (.inr ⟨t, v, rfl⟩)).mono fun e w' ⟨N, he, _, _, hb⟩ => ⟨⟨_, N, he⟩, hb⟩

theorem str_ne {a b : ByteArray} (h : a ≠ b) : (a.toList == b.toList) = false := by
  rw [beq_eq_false_iff_ne]
  intro e
  rw [ByteArray.toList_eq, ByteArray.toList_eq] at e
  exact h (ByteArray.ext (Array.toList_inj.1 e))
/-- the name of kind t, as bytes -/
def nameA (t : Nat) : ByteArray := ⟨(nameL t).toArray⟩
theorem part_s (cs : Array Value) (i : Nat) (v : Value) (w : World) (h : cs[i]? = some v) : (part 9 cs i).run Tryz.prog w = .ok v w := by
  simp [part, isAgg, run_underlying Tryz.underlying9, h]
theorem ixS (t : Nat) (ht : t < 7) (w : World) : (Instr.index 46 (.agg #[.string (nameA 0), .string (nameA 1), .string (nameA 2), .string (nameA 3), .string (nameA 4), .string (nameA 5), .string (nameA 6)]) (.int .i64 (t : Int))).run Tryz.prog w = .ok (.string (nameA t)) w := by
  obtain ⟨i0, hi, _, hs, _⟩ := info_parts infoStr
  simp only [Instr.index, asIntOf, Sem.run_bind, Sem.run_pure, Result.andThen_ok, run_underlying Tryz.underlying46]
  rw [if_pos (by omega)]
  simp only [Sem.run_bind, run_sizeOf w hi, Result.andThen_ok]
  rw [show Int.toNat (t : Int) * Tryz.prog.cellsOf 9 = t from by rw [show Tryz.prog.cellsOf 9 = 1 from by kernel_rfl]; simp]
  refine part_s _ _ _ _ ?_
  match t, ht with
  | 0, _ => rfl
  | 1, _ => rfl
  | 2, _ => rfl
  | 3, _ => rfl
  | 4, _ => rfl
  | 5, _ => rfl
  | 6, _ => rfl
theorem kindW_at (t : Nat) (ht : t < 7) : kindW (nameL t) = t := by
  match t, ht with
  | 0, _ => decide
  | 1, _ => decide
  | 2, _ => decide
  | 3, _ => decide
  | 4, _ => decide
  | 5, _ => decide
  | 6, _ => decide
theorem kindW_none (a : List UInt8) (h : ∀ t : Nat, t < 7 → nameL t ≠ a) : kindW a = 0 := by
  unfold kindW
  rw [if_neg (fun e => h 1 (by omega) e.symm), if_neg (fun e => h 2 (by omega) e.symm), if_neg (fun e => h 3 (by omega) e.symm), if_neg (fun e => h 4 (by omega) e.symm), if_neg (fun e => h 5 (by omega) e.symm), if_neg (fun e => h 6 (by omega) e.symm)]

set_option maxRecDepth 100000 in
set_option maxHeartbeats 1000000 in
theorem kindOf_any (s : ByteArray) (w : World) (hl : Laid w) : Calls Tryz.prog 32 #[.string s] w (fun e w' => e = .returned (.int .i64 (kindW s.data.toList)) ∧ w' = w) := by
  have n0 : w.cell? ⟨1, 0, none⟩ = some (.string (nameA 0)) := hl.names 0 (by omega)
  have n1 : w.cell? ⟨1, 1, none⟩ = some (.string (nameA 1)) := hl.names 1 (by omega)
  have n2 : w.cell? ⟨1, 2, none⟩ = some (.string (nameA 2)) := hl.names 2 (by omega)
  have n3 : w.cell? ⟨1, 3, none⟩ = some (.string (nameA 3)) := hl.names 3 (by omega)
  have n4 : w.cell? ⟨1, 4, none⟩ = some (.string (nameA 4)) := hl.names 4 (by omega)
  have n5 : w.cell? ⟨1, 5, none⟩ = some (.string (nameA 5)) := hl.names 5 (by omega)
  have n6 : w.cell? ⟨1, 6, none⟩ = some (.string (nameA 6)) := hl.names 6 (by omega)
  clear hl
  go_enter Tryz.func32, Tryz.ntmps32
  go_wp2
  go_loopw [6] (fun i w1 => ∃ t : Nat, t ≤ 7 ∧ i = .int .i64 t ∧ w1 = w ∧ ∀ j, j < t → nameA j ≠ s) (fun i _ => 7 - (intOf i).toNat)
  case atStart => exact ⟨0, by omega, rfl, rfl, fun j hj => absurd hj (by omega)⟩
  case round =>
    obtain ⟨t, ht, rfl, rfl, hn⟩ := hrel
    have Hn := Lib.hid hn
    clear hn n0 n1 n2 n3 n4 n5 n6
    by_cases hlt : t < 7
    · have hix := ixS t hlt wr
      have hti : (t : Int) < 7 := by omega
      by_cases he : nameA t = s
      · have Hk : Hid (kindW s.data.toList = (t : Int)) := by
          show kindW s.data.toList = (t : Int)
          rw [← he]
          exact kindW_at t hlt
        go_wp2
        go_ret
        exact ⟨by rw [Hk.out]; rfl, rfl⟩
      · have hb := str_ne he
        go_wp2
        exact ⟨⟨t + 1, by omega, by go_num, trivial, fun j hj => by
          rcases Nat.lt_succ_iff_lt_or_eq.1 hj with h | rfl
          · exact Hn.out j h
          · exact he⟩, by simp [intOf]; omega⟩
    · obtain rfl : t = 7 := by omega
      have Hk : Hid (kindW s.data.toList = 0) := kindW_none _ fun t ht e => Hn.out t ht (by
        apply ByteArray.ext
        show (nameL t).toArray = s.data
        rw [e])
      go_wp2
      go_ret
      exact ⟨by rw [Hk.out]; rfl, rfl⟩
end Go.Proofs.YtoihdbcdlodkgaaGreatDoor.Base

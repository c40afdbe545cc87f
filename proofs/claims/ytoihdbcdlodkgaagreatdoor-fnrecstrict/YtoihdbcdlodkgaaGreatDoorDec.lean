/-
  Contract of the model's l6Dec, for every number in range. No conditions.
-/
import Derived.Test.YtoihdbcdlodkgaaGreatDoorSpec
import Derived.Test.YtoihdbcdlodkgaaGreatDoorShelf
import Derived.Test.YtoihdbcdlodkgaaGreatDoorTxMath
import Derived.OwnWalk
import Derived.Deep.RegionHeld3
namespace Go.Proofs.YtoihdbcdlodkgaaGreatDoor.Base
open Go.RowKit

/-- the text of one digit -/
def dig (n : Nat) : List UInt8 := [UInt8.ofNat (48 + n)]

theorem conv_byte (n : Nat) (hn : n < 10) (w : World) (g c : Nat) (hc : w.cell? ⟨g, 0, none⟩ = some (.int .u8 (48 + (n : Int)))) :
    (convert 28 9 (.slice (some ⟨g, 0, none⟩) 1 c)).run Tryz.prog w = .ok (.string ⟨(dig n).toArray⟩) w := by
  have := run_convert_bytes_back (P := Tryz.prog) w 28 9 5 ⟨g, 0, none⟩ c (dig n) Tryz.underlying28 Tryz.underlying5 Tryz.underlying9 (fun j hj => by
    have hj' : j < 1 := hj
    match j, hj' with
    | 0, _ =>
      simp only [Addr.add, if_true]
      rw [hc]
      simp [dig]
      omega)
  exact this

theorem dec_small {n : Nat} (h : n < 10) : Lib.decDigits n = (dig n) := by
  unfold Lib.decDigits
  rw [dif_pos h]
  rfl
theorem dec_more {n : Nat} (h : ¬ n < 10) : Lib.decDigits n = Lib.decDigits (n / 10) ++ dig (n % 10) := by
  rw [Lib.decDigits, dif_neg h]
  rfl
theorem cat2 (l m : List UInt8) : (({ data := l.toArray } : ByteArray) ++ { data := m.toArray }) = { data := (l ++ m).toArray } := by
  apply ByteArray.ext
  rw [ByteArray.data_append]
  simp
theorem ret_txt {a b : ByteArray} (h : a = b) : Ending.returned (.string a) = .returned (.string b) := by rw [h]

set_option maxRecDepth 100000 in
set_option maxHeartbeats 1000000 in
theorem l6Dec_small (n : Nat) (hn : n < 10) (w : World) : Calls Tryz.prog 25 #[.int .i64 n] w (Keeps (.string ⟨(Lib.decDigits n).toArray⟩) w) := by
  have hcv := conv_byte n hn (w.alloc (.cells #[.int .u8 (48 + (n : Int))] 5)) w.heap.size 1 (by rw [World.cell?_alloc_new]; rfl)
  rw [dec_small hn]
  obtain ⟨a, ha⟩ : ∃ a : Int, (n : Int) = a := ⟨_, rfl⟩
  rw [ha] at hcv ⊢
  have a0 : 0 ≤ a := by omega
  have a9 : a < 10 := by omega
  clear ha hn
  generalize ({ data := (dig n).toArray } : ByteArray) = x at hcv ⊢
  go_enter Tryz.func25, Tryz.ntmps25
  go_wp2
  go_ret
  exact ⟨rfl, below_one _ _⟩

set_option maxRecDepth 100000 in
set_option maxHeartbeats 4000000 in
theorem l6Dec_step (n q r : Nat) (x : ByteArray) (w : World) (hn : 10 ≤ n) (hmx : n ≤ 1000000) (hr9 : r < 10) (hq9 : q ≤ 100000) (hx : x.size ≤ 200000) (hq : Int.tdiv (n : Int) 10 = q) (hr : Int.tmod (n : Int) 10 = r)
    (hI : ∀ W, Calls Tryz.prog 25 #[.int .i64 q] W (Keeps (.string x) W)) : Calls Tryz.prog 25 #[.int .i64 n] w (Keeps (.string (x ++ ⟨(dig r).toArray⟩)) w) := by
  have I := Lib.hid hI
  have C : Hid (∀ (W : World) (g c : Nat), W.cell? ⟨g, 0, none⟩ = some (.int .u8 (48 + (r : Int))) → (convert 28 9 (.slice (some ⟨g, 0, none⟩) 1 c)).run Tryz.prog W = .ok (.string ⟨(dig r).toArray⟩) W) := fun W g c h => conv_byte r hr9 W g c h
  clear hI
  have hy : (({ data := (dig r).toArray } : ByteArray)).size ≤ 1 := by simp [dig, ByteArray.size]
  generalize ({ data := (dig r).toArray } : ByteArray) = y at *
  obtain ⟨a, ha⟩ : ∃ a : Int, (n : Int) = a := ⟨_, rfl⟩
  obtain ⟨qz, hqz⟩ : ∃ a : Int, (q : Int) = a := ⟨_, rfl⟩
  obtain ⟨rz, hrz⟩ : ∃ a : Int, (r : Int) = a := ⟨_, rfl⟩
  rw [ha] at hq hr ⊢
  rw [hqz] at hq I
  rw [hrz] at hr C
  have a0 : 10 ≤ a := by omega
  have a1 : a ≤ 1000000 := by omega
  have q0 : 0 ≤ qz := by omega
  have q1 : qz ≤ 100000 := by omega
  have r0 : 0 ≤ rz := by omega
  have r1 : rz < 10 := by omega
  clear ha hqz hrz hn hmx hr9 hq9
  have k1 : IntKind.i64.wrap qz = qz := by rw [IntKind.wrap_i64]; omega
  have k2 : IntKind.i64.wrap (48 + rz) = 48 + rz := by rw [IntKind.wrap_i64]; omega
  have k3 : IntKind.u8.wrap (48 + rz) = 48 + rz := by rw [IntKind.wrap_u8]; omega
  have k4 : IntKind.i64.wrap rz = rz := by rw [IntKind.wrap_i64]; omega
  go_enter Tryz.func25, Tryz.ntmps25
  go_wp2_with fail
  have c0 := C.out ((w.alloc (.cells #[.int .u8 (48 + rz)] 5)).drew) w.heap.size 1 ((Has.new w 5 #[.int .u8 (48 + rz)]).drew.cell 0)
  go_region_with (first
    | (go_at_call 25; (with_reducible refine (I.out w.drew).mono ?_); rintro e w2 ⟨rfl, b2⟩; have s2 : w.heap.size ≤ w2.heap.size := (by have := b2.size; simpa using this); have c1 := C.out (w2.alloc (.cells #[.int .u8 (48 + rz)] 5)) w2.heap.size 1 (by rw [World.cell?_alloc_new]; rfl); have B2 : Hid (Below w.heap.size w w2) := (((Below.refl w.heap.size w).drew).trans (b2.mono (by simp))); clear b2)
    | (go_at_call 25; (with_reducible refine (I.out ((w.alloc (.cells #[.int .u8 (48 + rz)] 5)).drew)).mono ?_); rintro e w2 ⟨rfl, b2⟩; have s2 : w.heap.size ≤ w2.heap.size := (by have := b2.size; simp at this; omega); have c2 := C.out w2 w.heap.size 1 (by rw [((Has.new w 5 #[.int .u8 (48 + rz)]).drew.below b2 (by simp)).cell]; rfl); have B2 : Hid (Below w.heap.size w w2) := (((below_one _ _).drew).trans (b2.mono (by simp))); clear b2))
  all_goals
    go_wp2
    go_ret
    first
      | exact ⟨rfl, B2.out⟩
      | exact ⟨rfl, B2.out.alloc s2 _⟩

/-- 'l6Dec' of every number from 0 on, in its digits -/
theorem l6Dec_nat (m : Nat) : ∀ (n : Nat) (w : World), n ≤ m → n ≤ 100000 → Calls Tryz.prog 25 #[.int .i64 n] w (Keeps (.string ⟨(Lib.decDigits n).toArray⟩) w) := by
  induction m with
  | zero =>
    intro n w h _
    exact l6Dec_small n (by omega) w
  | succ m ih =>
    intro n w h h2
    by_cases hn : n < 10
    · exact l6Dec_small n hn w
    · rw [dec_more hn, ← cat2]
      have hl := dec_len (n / 10)
      refine l6Dec_step n (n / 10) (n % 10) _ w (by omega) (by omega) (by omega) (by omega) (by simp [ByteArray.size]; omega) ?_ ?_ (fun W => ih (n / 10) W (by omega) (by omega))
      · rw [Int.tdiv_eq_ediv_of_nonneg (by omega)]
        omega
      · rw [Int.tmod_eq_emod_of_nonneg (by omega)]
        omega

theorem l6Dec_one (w : World) : Calls Tryz.prog 25 #[.int .i64 1] w (Keeps (.string ⟨#[49]⟩) w) := by
  have := l6Dec_small 1 (by omega) w
  rw [dec_small (by omega)] at this
  exact this
theorem itoa_neg : Lib.itoa (-1) = [45, 49] := by
  unfold Lib.itoa
  rw [if_pos (by omega), show (-1 : Int).natAbs = 1 from rfl, dec_small (by omega)]
  rfl

set_option maxHeartbeats 1000000 in
theorem l6Dec_neg (w : World) : Calls Tryz.prog 25 #[.int .i64 (-1)] w (Keeps (.string ⟨(Lib.itoa (-1)).toArray⟩) w) := by
  go_enter Tryz.func25, Tryz.ntmps25
  go_wp2_with (go_at_call 25; (with_reducible refine (l6Dec_one _).mono ?_); rintro e w2 ⟨rfl, b2⟩; have B2 := Lib.hid b2; clear b2)
  go_ret
  exact ⟨by rw [itoa_neg]; rfl, B2.out⟩

/-- 'l6Dec' of the numbers that a record has -/
theorem l6Dec_any (n : Int) (h0 : -1 ≤ n) (h1 : n ≤ 150) (w : World) : Calls Tryz.prog 25 #[.int .i64 n] w (Keeps (.string ⟨(Lib.itoa n).toArray⟩) w) := by
  by_cases hn : n = -1
  · subst hn
    exact l6Dec_neg w
  · obtain ⟨k, rfl⟩ := Int.eq_ofNat_of_zero_le (show 0 ≤ n by omega)
    have e : Lib.itoa (k : Int) = Lib.decDigits k := by
      unfold Lib.itoa
      rw [if_neg (by omega)]
      simp
    rw [e]
    exact l6Dec_nat k k w (Nat.le_refl _) (by omega)
end Go.Proofs.YtoihdbcdlodkgaaGreatDoor.Base

/-
  Contract of the model's l2Num, for every text. No conditions.
-/
import Derived.Test.YtoihdbcdlodkgaaGreatDoorRead1
import Derived.BigQuiet
namespace Go.Proofs.YtoihdbcdlodkgaaGreatDoor.Base
open Go.RowKit

/-- digits behind a number -/
def digN : Int → List UInt8 → Int
  | acc, [] => acc
  | acc, c :: r => if 48 ≤ c.toNat ∧ c.toNat ≤ 57 then digN (10 * acc + ((c.toNat : Int) - 48)) r else -2
/-- a number of at most three figures, or -1; -2 of what is none -/
def numL (l : List UInt8) : Int := if l = [45, 49] then -1 else if 1 ≤ l.length ∧ l.length ≤ 3 then digN 0 l else -2
theorem num_dec : ∀ n : Fin 151, numL (dec3 n.1) = (n.1 : Int) := by decide +kernel
theorem num_itoa {n : Int} (h0 : -1 ≤ n) (h1 : n ≤ 150) : numL (Lib.itoa n) = n := by
  by_cases h : n = -1
  · subst h
    rw [itoa_minus]
    decide
  · obtain ⟨m, rfl⟩ : ∃ m : Nat, n = m := ⟨n.toNat, by omega⟩
    rw [itoa_eq m (by omega)]
    exact num_dec ⟨m, by omega⟩
theorem ixStr (s : ByteArray) (k : Nat) (c : UInt8) (h : s.data.toList[k]? = some c) (w : World) : (Instr.index 9 (.string s) (.int .i64 (k : Int))).run Tryz.prog w = .ok (.int .u8 (c.toNat : Int)) w := by
  have hk : k < s.data.toList.length := (List.getElem?_eq_some_iff.1 h).1
  rw [Array.length_toList] at hk
  have hk' : k < s.size := hk
  rw [run_index_string w 9 s .i64 k Tryz.underlying9, dif_pos ⟨by omega, by omega⟩]
  have e : (s[Int.toNat (k : Int)]'(by simpa using hk')) = c := by
    have h2 := (List.getElem?_eq_some_iff.1 h).2
    rw [Array.getElem_toList] at h2
    exact h2
  rw [e]
theorem pow3 : ∀ k : Nat, k ≤ 3 → (10 : Int) ^ k ≤ 1000
  | 0, _ => by decide
  | 1, _ => by decide
  | 2, _ => by decide
  | 3, _ => by decide
theorem digN_step (l : List UInt8) (k : Nat) (c : UInt8) (h : l[k]? = some c) (acc : Int) : digN acc (l.drop k) = if 48 ≤ c.toNat ∧ c.toNat ≤ 57 then digN (10 * acc + ((c.toNat : Int) - 48)) (l.drop (k + 1)) else -2 := by
  obtain ⟨hk, rfl⟩ := List.getElem?_eq_some_iff.1 h
  rw [List.drop_eq_getElem_cons hk]
  rfl

set_option maxRecDepth 100000 in
set_option maxHeartbeats 1000000 in
theorem l2Num_any (s : ByteArray) (hs : s.size ≤ 30) (w : World) : Calls Tryz.prog 16 #[.string s] w (fun e w' => e = .returned (.int .i64 (numL s.data.toList)) ∧ w' = w) := by
  by_cases hm : s = ⟨#[45, 49]⟩
  · subst hm
    go_enter Tryz.func16, Tryz.ntmps16
    go_wp2
    go_ret
    exact ⟨rfl, rfl⟩
  · have hl : s.data.toList ≠ [45, 49] := fun e => hm (ByteArray.ext (by
      rw [← Array.toList_inj]
      exact e))
    have hb : (s.toList == [45, 49]) = false := by
      rw [beq_eq_false_iff_ne, ByteArray.toList_eq]
      exact hl
    have hsz : s.data.toList.length = s.size := Array.length_toList
    cases hin : inB (s.size : Int) 1 3
    · have Hi := Lib.hid hin
      have Hn : Hid (numL s.data.toList = -2) := by
        show numL s.data.toList = -2
        unfold numL
        rw [if_neg hl, if_neg]
        rw [hsz]
        intro h
        have : inB (s.size : Int) 1 3 = true := by
          simp only [inB, Bool.and_eq_true, decide_eq_true_eq]
          omega
        rw [hin] at this
        cases this
      clear hin hl hm hsz
      go_enter Tryz.func16, Tryz.ntmps16
      go_wp2_with fail
      refine (l6In_any _ _ _ _).mono ?_
      rintro e w1 ⟨rfl, rfl⟩
      rw [Hi.out]
      go_wp2
      go_ret
      exact ⟨by rw [Hn.out]; rfl, rfl⟩
    · have hi : 1 ≤ s.size ∧ s.size ≤ 3 := by
        simp only [inB, Bool.and_eq_true, decide_eq_true_eq] at hin
        omega
      have Hi := Lib.hid hin
      have Hn : Hid (numL s.data.toList = digN 0 (s.data.toList.drop 0)) := by
        show numL s.data.toList = digN 0 (s.data.toList.drop 0)
        unfold numL
        rw [if_neg hl, if_pos (by rw [hsz]; exact hi), List.drop_zero]
      have Hz := Lib.hid hsz
      clear hin hl hm hsz
      go_enter Tryz.func16, Tryz.ntmps16
      go_wp2_with fail
      refine (l6In_any _ _ _ _).mono ?_
      rintro e w1 ⟨rfl, rfl⟩
      rw [Hi.out]
      go_wp2_with fail
      go_loopw [3, 4] (fun n i w1 => ∃ (k : Nat) (acc : Int), k ≤ s.size ∧ n = .int .i64 acc ∧ i = .int .i64 k ∧ w1 = w ∧ 0 ≤ acc ∧ acc < 10 ^ k ∧ numL s.data.toList = digN acc (s.data.toList.drop k)) (fun _ i _ => s.size - (intOf i).toNat)
      case atStart => exact ⟨0, 0, by omega, rfl, rfl, rfl, by omega, by simp, Hn.out⟩
      case round =>
        obtain ⟨k, acc, hk, rfl, rfl, rfl, h0, h1, hd⟩ := hrel
        have hac : acc < 1000 := by
          have := pow3 k (by omega)
          omega
        by_cases hlt : k < s.size
        · obtain ⟨c, hc⟩ : ∃ c, s.data.toList[k]? = some c := ⟨_, List.getElem?_eq_getElem (by rw [Hz.out]; exact hlt)⟩
          have hx := ixStr s k c hc
          have hst := digN_step s.data.toList k c hc acc
          have Hd := Lib.hid (hd.trans hst)
          have h1' : acc * 10 < 10 ^ (k + 1) := by rw [Int.pow_succ]; omega
          have h1'' : acc + 1 ≤ 10 ^ k := by omega
          have h1c : 10 * acc + 10 ≤ 10 ^ (k + 1) := by rw [Int.pow_succ]; omega
          have H1 := Lib.hid h1c
          have hci := c.toNat_lt
          obtain ⟨z, hz⟩ : ∃ z : Int, (c.toNat : Int) = z := ⟨_, rfl⟩
          rw [hz] at hx
          have z0 : 0 ≤ z := by omega
          have z1 : z < 256 := by omega
          have Hz' := Lib.hid hz
          clear hd hst hz hc h1 h1' h1'' h1c hci
          by_cases hdg : 48 ≤ z ∧ z ≤ 57
          · obtain ⟨g0, g1⟩ := hdg
            have k0 : ¬ z < 48 := by omega
            have k1 : ¬ 57 < z := by omega
            have w1 : IntKind.i64.wrap (10 * acc) = 10 * acc := IntWalk.i64_in _ (by omega)
            have w2 : IntKind.u8.wrap (z - 48) = z - 48 := by rw [IntKind.wrap_u8]; omega
            have w3 : IntKind.i64.wrap (z - 48) = z - 48 := IntWalk.i64_in _ (by omega)
            have w4 : IntKind.i64.wrap (10 * acc + (z - 48)) = 10 * acc + (z - 48) := IntWalk.i64_in _ (by omega)
            go_wp2
            refine ⟨⟨k + 1, 10 * acc + (z - 48), by omega, rfl, by go_num, trivial, by omega, ?_, ?_⟩, by simp [intOf]; omega⟩
            · have := H1.out
              omega
            · rw [Hd.out, if_pos (by have := Hz'.out; omega), Hz'.out]
          · have Hr : Hid (numL s.data.toList = -2) := Hd.out.trans (if_neg (by have := Hz'.out; omega))
            by_cases k0 : z < 48
            · go_wp2
              go_ret
              exact ⟨by rw [Hr.out]; rfl, rfl⟩
            · have k1 : 57 < z := by omega
              go_wp2
              go_ret
              exact ⟨by rw [Hr.out]; rfl, rfl⟩
        · obtain rfl : k = s.size := by omega
          have Hr : Hid (numL s.data.toList = acc) := by
            show numL s.data.toList = acc
            rw [hd, ← Hz.out, List.drop_length]
            rfl
          clear hd h1
          go_wp2
          go_ret
          exact ⟨by rw [Hr.out]; rfl, rfl⟩
end Go.Proofs.YtoihdbcdlodkgaaGreatDoor.Base

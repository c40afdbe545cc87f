/-
  Rows of integers of the call's own: what is appended, what is handed on; the laws' helpers on them. No conditions but those in each.
-/
import Derived.Test.YtejbmjdipfcblaaGroundK
import Derived.Test.YtejbmjdipfcblaaToRecsK
import Derived.OwnWalk
import Derived.Test.YtejbmjdipfcblaaLogs2K
import Derived.RangeFuncNested
import Derived.RangeFuncBound
import Derived.RangeFuncCalls
import Derived.RangeFuncLeaves
import Derived.RangeFuncBox
import Derived.Shelf.Abstract
import Derived.Shelf.RegionOpen
import Derived.OwnWalkIn
import Derived.TacticsInMore
import Derived.LoopNIn
import Derived.LoopIn
import Derived.Maps.AppendAt
import Derived.Deep.DeepCutAuto
import Derived.Lib.SlicesCompact
namespace Go.Proofs.Ytejbmjdipfcblaa.Base
open Go.RowKit

/-- v is a slice of the call's own (nothing below base), with the numbers zs -/
def OwnI (w : World) (base : Nat) (v : Value) (zs : List Int) : Prop := w.ownsRow base 3 1 v zs.length (zs.map (Value.int .i64))
theorem OwnI.alloc {w : World} {base : Nat} {v : Value} {zs : List Int} (h : OwnI w base v zs) (ob : Obj) : OwnI (w.alloc ob) base v zs :=
  World.ownsRow.kept h (World.grownBy_alloc w ob none) (by cases v.ownBlock <;> simp)
theorem OwnI.nil (w : World) (base : Nat) : OwnI w base (.slice none 0 0) [] := ⟨rfl, .inl ⟨rfl, rfl⟩⟩
theorem OwnI.empty {w : World} {base g : Nat} (h : Has w g 3 #[]) (hb : base ≤ g) : OwnI w base (.slice (some ⟨g, 0, none⟩) 0 0) [] :=
  ⟨rfl, .inr ⟨g, 0, #[], rfl, hb, h, by simp, by simp [maxLen], by simp, by simp⟩⟩

/-- 'append(zs, z)' of one number onto a row of the call's own -/
theorem wp_append_int {ops : Array Oper} {rest : List Oper} {o : Oper} {a : Act} {Q : Exit → Act → World → Prop} (w : World) (hgd : o.guard = none) (s x : Operand)
    (ho : o.op = .call { callee := .builtin .append, args := #[s, x], argTypes := #[31, 31] }) (base : Nat) (v : Value) (zs : List Int) (hs : a.eval s = v) (hown : OwnI w base v zs)
    (ad : Nat) (z : Int) (hx : a.eval x = .slice (some ⟨ad, 0, none⟩) 1 1) (hc : w.cell? ⟨ad, 0, none⟩ = some (.int .i64 z)) (hn : zs.length ≤ 1000000) (hbase : base ≤ w.heap.size)
    (h : ∀ v' w', OwnI w' base v' (zs ++ [z]) → w.grownBy w' v.ownBlock → wpList Try.prog ops Q rest (a.put o.dst v') w') :
    wpList Try.prog ops Q (o :: rest) a w := by
  obtain ⟨i0, hi, hz0, hs0, hb0⟩ := info_parts infoInt
  refine wpList_append_own w hgd s x 31 ho base 3 i0 _ 1 8 Try.underlying31 hi hz0 hs0 hb0 rfl (by omega) v zs.length _ hs hown ⟨ad, 0, none⟩ 1 1 [.int .i64 z] hx rfl ?_ (by simp [Value.oneCell']) (by simp [maxLen]; omega) (by omega) hbase (fun v' w' h1 h2 _ => h v' w' ?_ h2)
  · intro j u' hu
    match j, hu with
    | 0, hu => simp at hu; subst hu; simpa [Addr.add] using hc
  · unfold OwnI
    simpa using h1

/-- a slice that leads to numbers of the call's own -/
def Mine (w : World) (base : Nat) (a : Option Addr) (zs : List Int) : Prop :=
  0 < zs.length → ∃ g, a = some ⟨g, 0, none⟩ ∧ base ≤ g ∧ Rd .i64 w g 0 zs ∧ Wr w g 0 zs.length
/-- what a function answers that hands on a new row of numbers -/
def Gives (zs : List Int) (w : World) (e : Ending) (w' : World) : Prop :=
  ∃ a cap, e = .returned (.slice a zs.length cap) ∧ Below w.heap.size w w' ∧ Mine w' w.heap.size a zs
theorem OwnI.mine {w : World} {base : Nat} {v : Value} {zs : List Int} (h : OwnI w base v zs) : ∃ a cap, v = .slice a zs.length cap ∧ Mine w base a zs := by
  rcases h.2 with ⟨rfl, h0⟩ | ⟨g, cap, cur, rfl, hlow, hhas, hnc, hmax, hsz, htk⟩
  · rw [h0]
    exact ⟨none, 0, rfl, fun hp => absurd hp (by omega)⟩
  · refine ⟨some ⟨g, 0, none⟩, cap, rfl, fun _ => ⟨g, rfl, hlow, fun j hj => ?_, (show Has w g _ _ from hhas).wr _ _⟩⟩
    rw [(show Has w g _ _ from hhas).cell, Nat.zero_add]
    have e := congrArg (fun l => l[j]?) htk
    simp only [Nat.mul_one] at e
    rw [List.getElem?_take_of_lt hj] at e
    simpa [List.getElem?_eq_getElem hj] using e
section
variable {w w' : World} {base B : Nat} {a : Option Addr} {zs : List Int}
theorem Mine.ints (h : Mine w base a zs) : Ints .i64 w w.heap.size a zs := fun hp => by
  obtain ⟨g, e, _, hr, hw⟩ := h hp
  exact ⟨g, 0, e, hw.1, hr⟩
theorem Mine.below (h : Mine w base a zs) (hb : Below w.heap.size w w') : Mine w' base a zs := fun hp => by
  obtain ⟨g, e, hg, hr, hw⟩ := h hp
  exact ⟨g, e, hg, hr.below hb hw.1, hw.below hb hw.1⟩
theorem Mine.low (h : Mine w base a zs) {base' : Nat} (hb : base' ≤ base) : Mine w base' a zs := fun hp => by
  obtain ⟨g, e, hg, hr, hw⟩ := h hp
  exact ⟨g, e, Nat.le_trans hb hg, hr, hw⟩
/-- another block has turned -/
theorem Mine.grown {k : Nat} (h : Mine w base a zs) (hb : w.grownBy w' (some k)) (hk : k < base) : Mine w' base a zs := fun hp => by
  obtain ⟨g, e, hg, hr, hw⟩ := h hp
  have hne : some g ≠ some k := fun e => by injection e; omega
  exact ⟨g, e, hg, hr.grown hb hw.1 hne, hw.grown hb hne⟩
/-- a block above those of the row has turned -/
theorem Mine.grown_up {k : Nat} (h : Mine w base a zs) (hlt : ∀ g, a = some ⟨g, 0, none⟩ → g < B) (hb : w.grownBy w' (some k)) (hk : B ≤ k) : Mine w' base a zs := fun hp => by
  obtain ⟨g, e, hg, hr, hw⟩ := h hp
  have := hlt g e
  have hne : some g ≠ some k := fun e => by injection e; omega
  exact ⟨g, e, hg, hr.grown hb hw.1 hne, hw.grown hb hne⟩
end

/-- what markRecS leaves: another block alone has turned -/
def MarkedR (k : Int) (g n : Nat) (w : World) (e : Ending) (w' : World) : Prop :=
  e = .returned (.int .i64 (k + 8 * n)) ∧ w.grownBy w' (some g) ∧ w'.heap.size = w.heap.size

end Go.Proofs.Ytejbmjdipfcblaa.Base

/-
  The program's iterator over the records of one: chainOf. Conditions: the slice leads to records.
-/
namespace Go.Proofs.Ytejbmjdipfcblaa.Base
open Go.RowKit Go.Shelf

attribute [local go_sem] Oper.semAt_some

/-- a log's numbers of one, the last one first, from a number on; never more than 'fuel' -/
def chainN (rs : List R) : Nat → Nat → List Nat
  | 0, _ => []
  | _ + 1, 0 => []
  | fuel + 1, k + 1 => (k + 1) :: chainN rs fuel (recAt rs k).v.toNat
/-- the numbers of one from a number on -/
def chainC (rs : List R) (k : Nat) : List Nat := chainN rs k k
/-- in a log the record ahead has a smaller number -/
theorem step_prev (rs : List R) (n : Nat) (h : stepB rs n = true) : (recAt rs n).v.toNat ≤ n ∧ 0 ≤ (recAt rs n).v := by
  unfold stepB at h
  simp only [Bool.and_eq_true, beq_iff_eq] at h
  have := lastN_le rs (recAt rs n).t n
  omega
theorem chainN_zero (rs : List R) : ∀ fuel, chainN rs fuel 0 = []
  | 0 => rfl
  | _ + 1 => rfl
theorem chainN_fuel (rs : List R) (m : Nat) (hs : ∀ j, j < m → stepB rs j = true) : ∀ (k fuel : Nat), k ≤ fuel → k ≤ m → chainN rs fuel k = chainN rs k k := by
  intro k
  induction k using Nat.strongRecOn with
  | _ k ih =>
    intro fuel hf hm
    match k, fuel, hf with
    | 0, fuel, _ => rw [chainN_zero, chainN_zero]
    | k + 1, fuel + 1, hf =>
      have hp := (step_prev rs k (hs k (by omega))).1
      unfold chainN
      rw [ih _ (by omega) fuel (by omega) (by omega), ih _ (by omega) k (by omega) (by omega)]
theorem chainC_step (rs : List R) (k m : Nat) (hs : ∀ j, j < m → stepB rs j = true) (hk : k < m) : chainC rs (k + 1) = (k + 1) :: chainC rs (recAt rs k).v.toNat := by
  have hp := (step_prev rs k (hs k hk)).1
  show (k + 1) :: chainN rs k (recAt rs k).v.toNat = _
  rw [chainN_fuel rs m hs _ k (by omega) (by omega)]
  rfl
theorem chainN_len (rs : List R) : ∀ fuel k, (chainN rs fuel k).length ≤ fuel
  | 0, _ => Nat.le_refl _
  | _ + 1, 0 => Nat.zero_le _
  | fuel + 1, k + 1 => by
    have := chainN_len rs fuel (recAt rs k).v.toNat
    unfold chainN
    rw [List.length_cons]
    omega
/-- where a chain begins -/
def at0 (rs : List R) (t : Int) : Nat := (lastB rs t).toNat
theorem at0_le (rs : List R) (t : Int) : at0 rs t ≤ rs.length ∧ at0 rs t ≤ 150 := by
  unfold at0 lastB
  cases h : logB rs
  · simp
  · have h1 := lastN_le rs t rs.length
    have h2 : rs.length ≤ 150 := by
      unfold logB at h
      simp at h
      exact h.2
    simp
    omega
theorem at0_lastB (rs : List R) (t : Int) : lastB rs t = (at0 rs t : Int) := by
  have : 0 ≤ lastB rs t := by
    unfold lastB
    split <;> omega
  unfold at0
  omega
theorem at0_steps (rs : List R) (t : Int) : ∀ j, j < at0 rs t → stepB rs j = true := fun j hj => by
  cases h : logB rs
  · unfold at0 lastB at hj
    rw [h] at hj
    simp at hj
  · exact logB_steps rs h j (by have := (at0_le rs t).1; omega)
/-- LogChain's answer -/
def chainB (rs : List R) (t : Int) : List Int := (chainC rs (at0 rs t)).map fun n : Nat => (n : Int)
theorem chainB_len (rs : List R) (t : Int) : (chainB rs t).length ≤ 150 := by
  unfold chainB chainC
  rw [List.length_map]
  exact Nat.le_trans (chainN_len rs _ _) (at0_le rs t).2

/-- what a round keeps: all that was there ahead of the loop, but for the block Bx -/
structure Kx (n₀ Bx : Nat) (W W' : World) : Prop where
  size : W.heap.size ≤ W'.heap.size
  block : ∀ i, i < n₀ → i ≠ Bx → W'.heap[i]? = W.heap[i]?
theorem Kx.trans {n₀ Bx : Nat} {A B C : World} (h : Kx n₀ Bx A B) (k : Kx n₀ Bx B C) : Kx n₀ Bx A C :=
  ⟨Nat.le_trans h.size k.size, fun i hi hn => (k.block i hi hn).trans (h.block i hi hn)⟩
theorem kx_b {n₀ Bx : Nat} {w : World} (hn : n₀ ≤ w.heap.size) (W : World) (l : Nat) (o o' : Obj) (hl : w.heap.size ≤ l) (_ : W.heap[l]? = some o) (_ : o.isCells = false) (_ : o.isWalk = false) : Kx n₀ Bx W (W.putObj l o') :=
  ⟨(grownBy_putObj' W l o').size, fun i hi _ => World.putObj_heap_other (by omega)⟩

/-- the records that the iterator hands on, with their numbers -/
abbrev encC (rs : List R) (n : Nat) : Array Value := #[.int .i64 (n : Int), recV (recAt rs (n - 1))]
end Go.Proofs.Ytejbmjdipfcblaa.Base

/-
  The program's iterator over the records of one: what it hands on, whatever the loop does with it. Conditions: the slice leads to records.
-/
namespace Go.Proofs.Ytejbmjdipfcblaa.Base
open Go.RowKit Go.Shelf

attribute [local go_sem] Oper.semAt_some

/-- where the iterator's variables lie: the slice, the transaction, the records -/
structure Its (W : World) (Bl Bt Bx n₀ : Nat) (a : Option Addr) (cap : Nat) (t : Int) (rs : List R) : Prop where
  sl : W.cell? ⟨Bl, 0, none⟩ = some (.slice a rs.length cap)
  tx : W.cell? ⟨Bt, 0, none⟩ = some (.int .i64 t)
  rd : Recs W Bx a rs
  lt : Bl < n₀ ∧ Bt < n₀ ∧ Bx ≤ n₀ ∧ Bl ≠ Bx ∧ Bt ≠ Bx
theorem Its.kx {W W' : World} {Bl Bt Bx n₀ : Nat} {a : Option Addr} {cap : Nat} {t : Int} {rs : List R} (h : Its W Bl Bt Bx n₀ a cap t rs) (k : Kx n₀ Bx W W') : Its W' Bl Bt Bx n₀ a cap t rs := by
  obtain ⟨l1, l2, l3, l4, l5⟩ := h.lt
  exact ⟨(World.cell?_of_block (a := ⟨Bl, 0, none⟩) (k.block Bl l1 l4)).trans h.sl, (World.cell?_of_block (a := ⟨Bt, 0, none⟩) (k.block Bt l2 l5)).trans h.tx, h.rd.keep fun i hi => k.block i (by omega) (by omega), h.lt⟩
theorem Its.below {W W' : World} {Bl Bt Bx n₀ : Nat} {a : Option Addr} {cap : Nat} {t : Int} {rs : List R} (h : Its W Bl Bt Bx n₀ a cap t rs) (b : Below W.heap.size W W') (hn : n₀ ≤ W.heap.size) : Its W' Bl Bt Bx n₀ a cap t rs :=
  h.kx ⟨b.size, fun i hi _ => b.block i (by omega)⟩
theorem grown_none {w w' : World} (b : Below w.heap.size w w') : w.grownBy w' none := ⟨b.os, b.tape, b.output, b.size, fun k hk _ => b.block k hk⟩

set_option maxRecDepth 100000 in
set_option maxHeartbeats 4000000 in
theorem chain1_in (n : Nat) (hn : 1 ≤ n) (l Bl Bt Bx n₀ : Nat) (a : Option Addr) (cap : Nat) (t : Int) (rs : List R) (hc : rs.length ≤ cap) (mx : rs.length ≤ 1000000000) (J Jx : List Nat → World → Prop)
    (hJ : ∀ s W W', J s W → W.grownBy W' none → J s W')
    (hY : ∀ pre x W, J pre W → pre.length < 150 → YieldAt Fence.wide (n - 1) Try.prog l (encC rs x) W fun e W' =>
      (e = .returned (.bool true) ∧ J (pre ++ [x]) W' ∧ Kx n₀ Bx W W') ∨ (e = .returned (.bool false) ∧ Jx (pre ++ [x]) W'))
    (W : World) (hI : Its W Bl Bt Bx n₀ a cap t rs) (hn₀ : n₀ ≤ W.heap.size) (h0 : J [] W) :
    CallsIn Fence.wide n Try.prog 45 #[.func (.yield l) #[] #[], .pointer (some ⟨Bl, 0, none⟩), .pointer (some ⟨Bt, 0, none⟩)] W fun e W' => (∃ v, e = .returned v) ∧
      ((∃ ys, ys = chainC rs (at0 rs t) ∧ J ys W') ∨ (∃ pre, pre <+: chainC rs (at0 rs t) ∧ Jx pre W')) := by
  have c1 := hI.sl
  have c2 := hI.tx
  have HI := Lib.hid hI
  have hlt := hI.lt
  have Hst := Lib.hid (at0_steps rs t)
  have hat := at0_le rs t
  have H0 := Lib.hid h0
  have Ha := Lib.hid (at0_lastB rs t)
  clear hI h0
  refine callsIn_of_wp Try.func45 rfl trivial ?_ rfl
  simp only [Try.ntmps45, List.size_toArray, List.length_cons, List.length_nil, Nat.reduceAdd, Nat.reduceSub, Array.replicate_succ, Array.replicate_zero, List.push_toArray, List.append_toArray, List.nil_append, List.cons_append]
  gi_wp2_with (refine ⟨trivial, ?_⟩; gi_at_call 17; refine (callsIn_wide.2 (logLast_any rs t a cap Bx _ (by omega) HI.out.rd hc mx)).mono ?_; rintro e w1 ⟨rfl, b1⟩; rw [Ha.out]; have I1 := Lib.hid (HI.out.below b1 hn₀); have J1 := Lib.hid (hJ _ _ _ H0.out (grown_none b1)); have s1 : n₀ ≤ w1.heap.size := Nat.le_trans hn₀ b1.size; clear b1)
  clear c1 c2 H0 HI
  gi_loopw [4] (fun v wr => ∃ (pre : List Nat) (k : Nat), v = .int .i64 (k : Int) ∧ k ≤ at0 rs t ∧ chainC rs (at0 rs t) = pre ++ chainC rs k ∧ J pre wr ∧ Its wr Bl Bt Bx n₀ a cap t rs) (fun v _ => (intOf v).toNat)
  case atStart => exact ⟨[], _, rfl, Nat.le_refl _, rfl, J1.out, I1.out⟩
  case round =>
    obtain ⟨pre, k, rfl, hk, heq, hJs, hIt⟩ := hrel
    cases k with
    | zero =>
      have Heq := Lib.hid heq
      clear heq
      gi_wp2
      go_end0
      exact ⟨⟨_, rfl⟩, .inl ⟨pre, by rw [Heq.out]; simp [chainC, chainN], hJs⟩⟩
    | succ k =>
      have hk' : k < at0 rs t := by omega
      have hlen : pre.length < 150 := by
        have h1 := congrArg List.length heq
        rw [chainC_step rs k _ Hst.out hk', List.length_append, List.length_cons] at h1
        have h2 : (chainC rs (at0 rs t)).length ≤ 150 := Nat.le_trans (chainN_len rs _ _) hat.2
        omega
      have Heq : Hid (chainC rs (at0 rs t) = (pre ++ [k + 1]) ++ chainC rs (recAt rs k).v.toNat) := by
        show chainC rs (at0 rs t) = (pre ++ [k + 1]) ++ chainC rs (recAt rs k).v.toNat
        rw [heq, chainC_step rs k _ Hst.out hk']
        simp
      have hpv := step_prev rs k (Hst.out k hk')
      obtain ⟨g, o, rfl, hg, hr⟩ := hIt.rd (by omega)
      have hkl : k < rs.length := by omega
      obtain ⟨c0, c1, c2, c3, c4, c5, c6, c7⟩ := hr k hkl
      have csl := hIt.sl
      have It := Lib.hid hIt
      obtain ⟨fn, tmps, assign, body, hy, hR⟩ := hY pre (k + 1) wr hJs hlen
      simp only [encC, Nat.add_sub_cancel] at hy
      push_cast at hy
      clear heq hr hIt
      gi_wp2
      refine hR.mono ?_
      rintro e W3 (⟨rfl, hJ3, hk3⟩ | ⟨rfl, hJx3⟩)
      · have I3 := It.out.kx hk3
        obtain ⟨g', o', e', hg', hr'⟩ := I3.rd (by omega)
        have d6 := (hr' k hkl).v
        have dsl := I3.sl
        obtain ⟨rfl, rfl⟩ : g' = g ∧ o' = o := by simpa using e'.symm
        obtain ⟨pv, hpv'⟩ : ∃ pv : Nat, (recAt rs k).v = (pv : Int) := ⟨(recAt rs k).v.toNat, by omega⟩
        rw [hpv'] at d6
        have Hpv : Hid ((recAt rs k).v.toNat = pv) := by show (recAt rs k).v.toNat = pv; omega
        have hpk : pv ≤ k := by omega
        have It3 := Lib.hid I3
        clear hr' I3 e' hpv hpv' c0 c1 c2 c3 c4 c5 c6 c7 csl
        gi_wp2
        go_roundw
        case rel => exact ⟨pre ++ [k + 1], pv, rfl, by omega, by rw [Heq.out, Hpv.out], hJ3, It3.out⟩
        case measure => simp [intOf]; omega
      · gi_wp2
        refine bodyPost_ret (results_none rfl _ _ _) rfl ?_
        exact ⟨⟨_, rfl⟩, .inr ⟨pre ++ [k + 1], ⟨chainC rs (recAt rs k).v.toNat, Heq.out.symm⟩, hJx3⟩⟩
end Go.Proofs.Ytejbmjdipfcblaa.Base

/-
  Contracts of LogChain, of the program and of the model. Conditions: the slice leads to records.
-/
namespace Go.Proofs.Ytejbmjdipfcblaa.Base
open Go.RowKit Go.Shelf

set_option maxHeartbeats 2000000 in
theorem specLogChain_any (rs : List R) (t : Int) (a : Option Addr) (cap B : Nat) (w : World) (hB : B ≤ w.heap.size) (hz : Recs w B a rs) (hc : rs.length ≤ cap) (mx : rs.length ≤ 1000000000) :
    Calls Try.prog 16 #[.slice a rs.length cap, .int .i64 t] w (Gives (chainB rs t) w) := by
  have Hz := Lib.hid hz
  clear hz
  go_enter Try.func16, Try.ntmps16
  go_wp2_with fail
  refine (specLogOk_any rs a cap B _ (by simp; omega) (Hz.out.below ((below_one _ _).mono hB)) hc mx).mono ?_
  rintro e w1 ⟨rfl, b1⟩
  have q1 := (Has.new w 3 #[]).below b1 (by simp)
  have O1 : Hid (OwnI w1 w.heap.size (.slice (some ⟨w.heap.size, 0, none⟩) 0 0) []) := OwnI.empty q1 (Nat.le_refl _)
  have B1 : Hid (Below w.heap.size w w1) := (below_one _ _).trans (b1.mono (by simp))
  clear b1 q1
  cases hk : logB rs
  · have Ho : Hid (chainB rs t = []) := by
      show chainB rs t = []
      unfold chainB at0
      rw [lastB_no rs t hk]
      rfl
    clear hk
    go_wp2
    go_ret
    obtain ⟨a', cap', e', m'⟩ := O1.out.mine
    exact ⟨a', cap', by rw [Ho.out]; exact congrArg Ending.returned e', B1.out, by rw [Ho.out]; exact m'⟩
  · have Hl : Hid ((lastN rs t rs.length : Int) = (at0 rs t : Int)) := by
      show (lastN rs t rs.length : Int) = (at0 rs t : Int)
      rw [← at0_lastB, lastB_yes rs t hk]
    have Hst := Lib.hid (at0_steps rs t)
    have hat := at0_le rs t
    clear hk
    go_wp2_with fail
    refine (l3Last_any rs rs.length t a cap B _ (Nat.le_refl _) (Hz.out.below (B1.out.mono hB)) mx).mono ?_
    rintro e w2 ⟨rfl, rfl⟩
    rw [Hl.out]
    go_wp2_with fail
    go_loopw [5, 6] (fun v i wx => ∃ (pre : List Nat) (k : Nat), i = .int .i64 (k : Int) ∧ k ≤ at0 rs t ∧ chainC rs (at0 rs t) = pre ++ chainC rs k ∧ Below w.heap.size w wx ∧ OwnI wx w.heap.size v (pre.map fun n : Nat => (n : Int))) (fun _ i _ => (intOf i).toNat)
    case atStart => exact ⟨[], _, rfl, Nat.le_refl _, rfl, B1.out, O1.out⟩
    case round =>
      clear O1 B1
      obtain ⟨pre, k, rfl, hk, heq, hb, ho⟩ := hrel
      have Hb := Lib.hid hb
      have Ho := Lib.hid ho
      have hs := hb.size
      cases k with
      | zero =>
        have hzs : Hid (chainB rs t = pre.map fun n : Nat => (n : Int)) := by
          show chainB rs t = pre.map fun n : Nat => (n : Int)
          unfold chainB
          rw [heq]
          simp [chainC, chainN]
        obtain ⟨a', cap', e', m'⟩ := Ho.out.mine
        subst e'
        have M := Lib.hid m'
        clear m' Ho hb ho heq
        go_wp2
        go_ret
        exact ⟨a', cap', by rw [hzs.out]; rfl, Hb.out, by rw [hzs.out]; exact M.out⟩
      | succ k =>
        have hk' : k < at0 rs t := by omega
        have hlen : pre.length < 150 := by
          have h1 := congrArg List.length heq
          rw [chainC_step rs k _ Hst.out hk', List.length_append, List.length_cons] at h1
          have h2 : (chainC rs (at0 rs t)).length ≤ 150 := Nat.le_trans (chainN_len rs _ _) hat.2
          omega
        have Heq : Hid (chainC rs (at0 rs t) = (pre ++ [k + 1]) ++ chainC rs (recAt rs k).v.toNat) := by
          show chainC rs (at0 rs t) = (pre ++ [k + 1]) ++ chainC rs (recAt rs k).v.toNat
          rw [heq, chainC_step rs k _ Hst.out hk']
          simp
        have hpv := step_prev rs k (Hst.out k hk')
        obtain ⟨pv, hpv'⟩ : ∃ pv : Nat, (recAt rs k).v = (pv : Int) := ⟨(recAt rs k).v.toNat, by omega⟩
        have Hpv : Hid ((recAt rs k).v.toNat = pv) := by show (recAt rs k).v.toNat = pv; omega
        have hpk : pv ≤ k := by omega
        have hkl : k < rs.length := by omega
        have Hpv' := Lib.hid hpv'
        have hml : (pre.map fun n : Nat => (n : Int)).length ≤ 1000000 := by rw [List.length_map]; omega
        clear hb ho heq hpv hpv'
        go_upto_region 6 with (at_builtin; refine wp_append_int _ rfl (.tmp 23) (.tmp 25) rfl w.heap.size _ (pre.map fun n : Nat => (n : Int)) rfl (Ho.out.alloc _) _ ((k : Int) + 1) rfl (World.cell?_alloc_new _ _ _ _) hml (by simp; omega) ?_; intro v' w' h1 h2; have H1 := Lib.hid h1; have B3 : Hid (Below w.heap.size w w') := (Hb.out.alloc hs _).grown h2 (by simp; omega) (fun k hk => (World.ownsRow.lt Ho.out k hk).1); clear h1 h2)
        obtain ⟨g, o, rfl, hg, hr⟩ := (Hz.out.below (B3.out.mono hB)) (by omega)
        have d6 := (hr k hkl).v
        rw [Hpv'.out] at d6
        clear hr
        go_wp2
        exact ⟨⟨pre ++ [k + 1], pv, rfl, by omega, by rw [Heq.out, Hpv.out], B3.out, by simpa using H1.out⟩, by simp [intOf]; omega⟩

attribute [local go_sem] Oper.semAt_some

/-- what a round of 'append' leaves -/
theorem appended_x {W w1 : World} {n₀ B : Nat} {t e : TypeId} {size : Nat} {v v' : Value} {k m : Nat} {xs ys : List Value} {tmp : Obj}
    (hv : Boxed W B t v) (hte : t ≠ e) (hrow : W.ownsRow n₀ e size v k xs) (hn₀ : n₀ ≤ W.heap.size) (hown' : w1.ownsRow n₀ e size v' m ys) (hgrow : (W.alloc tmp).grownBy w1 v.ownBlock) :
    Boxed w1 B t v ∧ Boxed (w1.setCell ⟨B, 0, none⟩ v') B t v' ∧ (w1.setCell ⟨B, 0, none⟩ v').ownsRow n₀ e size v' m ys ∧ KeepsOthers W (w1.setCell ⟨B, 0, none⟩ v') ∧ Kx n₀ B W (w1.setCell ⟨B, 0, none⟩ v') ∧ (∀ m₀, m₀ ≤ n₀ → m₀ ≤ B → Below m₀ W (w1.setCell ⟨B, 0, none⟩ v')) := by
  have hv1 : Boxed w1 B t v := (hv.alloc tmp).kept hgrow (hv.not_row hte hrow)
  have hlow : ∀ j, v.ownBlock = some j → n₀ ≤ j := fun j ej => (hrow.lt j ej).1
  refine ⟨hv1, hv1.set v', hown'.kept (grownBy_setCell' w1 B v') (.inr (hv1.not_row hte hown').symm), ?_, ⟨?_, ?_⟩, ?_⟩
  · refine ((KeepsOthers.alloc W tmp).trans (KeepsOthers.of_grownBy hgrow fun j o ej hj => ?_)).trans (KeepsOthers.setCell _ _ _)
    rcases (hrow.alloc tmp).2 with ⟨rfl, _⟩ | ⟨g, cap, cur, rfl, _, hgb, _⟩
    · simp [Value.ownBlock] at ej
    · obtain rfl : g = j := by simpa [Value.ownBlock] using ej
      rw [hgb] at hj
      cases hj
      rfl
  · rw [size_set]
    have := hgrow.size
    simp at this
    omega
  · intro i hi hn
    rw [Below.heap_setCell _ _ _ _ (by simpa using hn), hgrow.block i (by simp; omega) (fun e => by have := hlow i e.symm; omega), Below.heap_alloc _ _ _ (by omega)]
  · intro m₀ h1 h2
    exact (((Below.refl m₀ W).alloc (by omega) tmp).grown hgrow (by simp; omega) fun j ej => by have := hlow j ej; omega).setCell (p := ⟨B, 0, none⟩) h2 v'

set_option maxHeartbeats 1000000 in
theorem chainOf_any (t : Int) (a : Option Addr) (len cap : Nat) (w : World) :
    Calls Try.prog 34 #[.slice a len cap, .int .i64 t] w fun e w' => e = .returned (.func (.func 45) #[] #[.pointer (some ⟨w.heap.size, 0, none⟩), .pointer (some ⟨w.heap.size + 1, 0, none⟩)]) ∧ w' = (w.alloc (.cells #[.slice a len cap] 23)).alloc (.cells #[.int .i64 t] 3) := by
  go_enter Try.func34, Try.ntmps34
  go_wp2
  go_ret
  exact ⟨rfl, rfl⟩

theorem chain_stops (n : Nat) (hn : 1 ≤ n) (Bl Bt Bx n₀ : Nat) (a : Option Addr) (cap : Nat) (t : Int) (rs : List R) (hc : rs.length ≤ cap) (mx : rs.length ≤ 1000000000) (w : World) (hI : Its w Bl Bt Bx n₀ a cap t rs) (hn₀ : n₀ ≤ w.heap.size) :
    SeqStopsK Fence.wide n Try.prog 45 #[.pointer (some ⟨Bl, 0, none⟩), .pointer (some ⟨Bt, 0, none⟩)] (encC rs) (Kx n₀ Bx) (fun ys => ys = chainC rs (at0 rs t)) (fun pre => pre <+: chainC rs (at0 rs t)) 150 w := fun l J Jx W hW hJ _ hY h0 =>
  chain1_in n hn l Bl Bt Bx n₀ a cap t rs hc mx J Jx (fun s W W' h g => hJ s W W' none h g (fun r e => by cases e)) hY W (hI.below hW hn₀) (Nat.le_trans hn₀ hW.size) h0

set_option maxRecDepth 100000 in
set_option maxHeartbeats 4000000 in
theorem logChain_any (rs : List R) (t : Int) (a : Option Addr) (cap B : Nat) (w : World) (hB : B ≤ w.heap.size) (hz : Recs w B a rs) (hc : rs.length ≤ cap) (mx : rs.length ≤ 1000000000) :
    Calls Try.prog 14 #[.slice a rs.length cap, .int .i64 t] w (Gives (chainB rs t) w) := by
  have Hz := Lib.hid (hz.more hB)
  clear hz
  obtain ⟨i0, hi, hz0, hz1, hz2⟩ := info_parts infoInt
  refine (callsIn_wide (n := 3)).1 ?_
  refine callsIn_of_wp_marks Try.func14 rfl trivial ?_ rfl
  simp only [Try.ntmps14, List.size_toArray, List.length_cons, List.length_nil, Nat.reduceAdd, Nat.reduceSub, Array.replicate_succ, Array.replicate_zero, List.push_toArray, List.append_toArray, List.nil_append, List.cons_append]
  gi_wp2_with (refine ⟨trivial, ?_⟩; gi_at_call 34; refine (callsIn_wide.2 (chainOf_any t a rs.length cap _)).mono ?_; rintro e w' ⟨rfl, rfl⟩)
  have bO := Boxed.new w 31 (.slice none 0 0)
  have hl := Has.new (w.alloc (.cells #[.slice none 0 0] 31)) 23 #[.slice a rs.length cap]
  have ht := Has.new ((w.alloc (.cells #[.slice none 0 0] 31)).alloc (.cells #[.slice a rs.length cap] 23)) 3 #[.int .i64 t]
  simp only [World.size_alloc] at hl ht
  have hB0 : Below w.heap.size w (((w.alloc (.cells #[.slice none 0 0] 31)).alloc (.cells #[.slice a rs.length cap] 23)).alloc (.cells #[.int .i64 t] 3)) := ((below_two _ _ _).alloc (by simp; omega) _)
  have hI : Its (((w.alloc (.cells #[.slice none 0 0] 31)).alloc (.cells #[.slice a rs.length cap] 23)).alloc (.cells #[.int .i64 t] 3)) (w.heap.size + 1) (w.heap.size + 1 + 1) w.heap.size (w.heap.size + 1 + 1 + 1) a cap t rs :=
    ⟨(hl.alloc _).cell 0, ht.cell 0, Hz.out.below hB0, by omega⟩
  have hb3 : Boxed (((w.alloc (.cells #[.slice none 0 0] 31)).alloc (.cells #[.slice a rs.length cap] 23)).alloc (.cells #[.int .i64 t] 3)) w.heap.size 31 (.slice none 0 0) := (bO.alloc _).alloc _
  have hsz : (w.heap.size + 1 + 1 + 1) ≤ (((w.alloc (.cells #[.slice none 0 0] 31)).alloc (.cells #[.slice a rs.length cap] 23)).alloc (.cells #[.int .i64 t] 3)).heap.size := by simp
  have hsz' : (((w.alloc (.cells #[.slice none 0 0] 31)).alloc (.cells #[.slice a rs.length cap] 23)).alloc (.cells #[.int .i64 t] 3)).heap.size = w.heap.size + 1 + 1 + 1 := by simp
  have Hsz := Lib.hid hsz'
  clear hl ht bO hsz'
  generalize (((w.alloc (.cells #[.slice none 0 0] 31)).alloc (.cells #[.slice a rs.length cap] 23)).alloc (.cells #[.int .i64 t] 3)) = W0 at *
  refine wpIn_rangeFunc_ownG rfl (by omega) (gf := 45) (lb := #[.pointer (some ⟨w.heap.size + 1, 0, none⟩), .pointer (some ⟨w.heap.size + 1 + 1, 0, none⟩)]) rfl trivial (enters_of Try.func45 (by kernel_rfl) rfl)
    (chain_stops 2 (by omega) (w.heap.size + 1) (w.heap.size + 1 + 1) w.heap.size (w.heap.size + 1 + 1 + 1) a cap t rs hc mx W0 hI hsz) Kx.trans (kx_b hsz) (Below.refl _ _) (fun _ => rfl)
    (fun pre W => (∃ v, Boxed W w.heap.size 31 v ∧ W.ownsRow (w.heap.size + 1 + 1 + 1) 3 1 v pre.length (pre.map fun n : Nat => Value.int .i64 (n : Int)) ∧ True) ∧ (Below w.heap.size w W ∧ (w.heap.size + 1 + 1 + 1) ≤ W.heap.size))
    (fun _ _ _ => False)
    (OwnFrom.and (Own.from (holdsRow_own (w.heap.size + 1 + 1 + 1) w.heap.size 31 3 1 (fun pre : List Nat => pre.length) (fun pre => pre.map fun n : Nat => Value.int .i64 (n : Int)) (fun _ _ => True)) _) (OwnFrom.and (ownFrom_below (Nat.le_refl _) (by omega)) (fun _ _ _ _ h hg _ => Nat.le_trans h hg.size)))
    (fun _ _ _ _ _ hs _ _ => hs)
    ⟨⟨_, hb3, World.ownsRow_nil _ _ _ _, trivial⟩, hB0, hsz⟩
    (fun n => { tmps := #[.slice a rs.length cap, .int .i64 t, undef, undef, .slice none 0 0, .pointer (some ⟨w.heap.size, 0, none⟩), .int .i64 (n : Int), .slice a rs.length cap, .int .i64 t, .func (.func 45) #[] #[.pointer (some ⟨w.heap.size + 1, 0, none⟩), .pointer (some ⟨w.heap.size + 1 + 1, 0, none⟩)], .int .i64 (n : Int), recV (recAt rs (n - 1)), undef, undef, undef, undef, undef], defers := [] }) ?assign ?body ?done ?stop
  case assign =>
    intro l x W K hK
    gi_wp2
    exact hK
  case body =>
    rintro l pre x W ⟨⟨v, hv, hrow, -⟩, hB, hn⟩ hlt
    have hc0 := hv.cell
    gi_wp2_with (gi_at_builtin; refine wpListIn_append_own _ rfl _ _ 31 rfl (w.heap.size + 1 + 1 + 1) 3 i0 (.int .i64 0) 1 8 Try.underlying31 hi hz0 hz1 hz2 rfl (by decide) _ _ _ rfl (hrow.alloc _) ⟨W.heap.size, 0, none⟩ 1 1 [.int .i64 (x : Int)] rfl rfl (cell_one_new _ _ _) (by simp [Value.oneCell']) (by simp [maxLen]; omega) (by omega) (by simp; omega) ?_; intro v' w1 hown' hgrow _; obtain ⟨g', cap', rfl⟩ := ownsRow_succ hown'; obtain ⟨hv1, hv2, hr2, hk2, hx2, hb2⟩ := appended_x hv (by decide) hrow hn hown' hgrow; have hc1 := hv1.cell; have hf1 := hv1.frozen)
    have hbb := hb2 w.heap.size (by omega) (Nat.le_refl _)
    exact ⟨hk2.from _, hx2, ⟨_, hv2, by simpa using hr2, trivial⟩, hB.trans hbb, Nat.le_trans hn hx2.size⟩
  case done =>
    rintro D ys W hD rfl ⟨⟨v, hv, hrow, -⟩, hB, hn⟩ hK
    have hc0 := hv.cell
    have hown : OwnI (W.putObj D (.deferred none)) (w.heap.size + 1 + 1 + 1) v (chainB rs t) := by
      unfold OwnI chainB
      rw [List.length_map, List.map_map]
      exact ownsRow_putObj hrow _ hK rfl
    obtain ⟨a', cap', rfl, m'⟩ := hown.mine
    have M := Lib.hid (m'.low (base' := w.heap.size) (by omega))
    clear m' hown
    gi_wp2
    refine ⟨by simp, .inl ⟨_, _, rfl, run_takeDeferred hK, ?_⟩⟩
    exact ⟨_, results_tmp rfl _ _ _, a', cap', rfl, hB.trans (belowK_b (w := w) (Nat.le_refl _) W D _ _ (by have := Hsz.out; omega) hK rfl rfl), M.out⟩
  case stop =>
    rintro D c pre W _ _ h _
    exact h.elim
end Go.Proofs.Ytejbmjdipfcblaa.Base

/-
  Contracts of the model's l3Has and LogPages. Conditions: the slice leads to records.
-/
namespace Go.Proofs.Ytejbmjdipfcblaa.Base
open Go.RowKit

/-- whether one of these records is of page p -/
def hasIn (rs : List R) (c : List Nat) (p : Int) : Bool := c.any fun n => (recAt rs (n - 1)).p == p
/-- whether one that is open changed page p -/
def hasB (rs : List R) (t : Int) (p : Int) : Bool := hasIn rs (chainC rs (at0 rs t)) p
/-- the pages of one, among the first k -/
def pagesN (rs : List R) (t : Int) : Nat → List Int
  | 0 => []
  | k + 1 => pagesN rs t k ++ (if hasB rs t (k : Int) = true then [(k : Int)] else [])
/-- LogPages's answer -/
def pagesB (rs : List R) (t : Int) : List Int := pagesN rs t 5
theorem pagesN_len (rs : List R) (t : Int) : ∀ k, (pagesN rs t k).length ≤ k
  | 0 => Nat.le_refl _
  | k + 1 => by
    have := pagesN_len rs t k
    unfold pagesN
    rw [List.length_append]
    split <;> simp <;> omega
theorem pagesB_len (rs : List R) (t : Int) : (pagesB rs t).length ≤ 5 := pagesN_len rs t 5
theorem pagesN_no (rs : List R) (t : Int) (h : logB rs = false) : ∀ k, pagesN rs t k = []
  | 0 => rfl
  | k + 1 => by
    have hh : hasB rs t (k : Int) = false := by
      unfold hasB at0
      rw [lastB_no rs t h]
      rfl
    unfold pagesN
    rw [pagesN_no rs t h k, hh]
    rfl

set_option maxHeartbeats 1000000 in
theorem l3Has_any (rs : List R) (t p : Int) (a : Option Addr) (cap B : Nat) (w : World) (hl : logB rs = true) (hz : Recs w B a rs) (mx : rs.length ≤ 1000000000) :
    Calls Try.prog 38 #[.slice a rs.length cap, .int .i64 t, .int .i64 p] w fun e w' => e = .returned (.bool (hasB rs t p)) ∧ w = w' := by
  have Hz := Lib.hid hz
  have Hl : Hid ((lastN rs t rs.length : Int) = (at0 rs t : Int)) := by
    show (lastN rs t rs.length : Int) = (at0 rs t : Int)
    rw [← at0_lastB, lastB_yes rs t hl]
  have Hst := Lib.hid (at0_steps rs t)
  have hat := at0_le rs t
  clear hz hl
  go_enter Try.func38, Try.ntmps38
  go_wp2_with fail
  refine (l3Last_any rs rs.length t a cap B _ (Nat.le_refl _) Hz.out mx).mono ?_
  rintro e w2 ⟨rfl, rfl⟩
  rw [Hl.out]
  go_wp2_with fail
  go_loop [7] (fun i => ∃ (k : Nat), i = .int .i64 (k : Int) ∧ k ≤ at0 rs t ∧ hasB rs t p = hasIn rs (chainC rs k) p) (fun i => (intOf i).toNat)
  case atStart => exact ⟨_, rfl, Nat.le_refl _, rfl⟩
  case round =>
    obtain ⟨k, rfl, hk, heq⟩ := hrel
    have Heq := Lib.hid heq
    clear heq
    cases k with
    | zero =>
      go_wp2
      go_ret
      exact ⟨ret_bool (by rw [Heq.out]; rfl), rfl⟩
    | succ k =>
      have hk' : k < at0 rs t := by omega
      have Hs : Hid (hasIn rs (chainC rs (k + 1)) p = (((recAt rs k).p == p) || hasIn rs (chainC rs (recAt rs k).v.toNat) p)) := by
        show hasIn rs (chainC rs (k + 1)) p = (((recAt rs k).p == p) || hasIn rs (chainC rs (recAt rs k).v.toNat) p)
        rw [chainC_step rs k _ Hst.out hk']
        rfl
      have hpv := step_prev rs k (Hst.out k hk')
      obtain ⟨pv, hpv'⟩ : ∃ pv : Nat, (recAt rs k).v = (pv : Int) := ⟨(recAt rs k).v.toNat, by omega⟩
      have Hpv : Hid ((recAt rs k).v.toNat = pv) := by show (recAt rs k).v.toNat = pv; omega
      have hpk : pv ≤ k := by omega
      obtain ⟨g, o, rfl, hg, hr⟩ := Hz.out (by omega)
      have hkl : k < rs.length := by omega
      have d2 := (hr k hkl).p
      have d6 := (hr k hkl).v
      rw [hpv'] at d6
      clear hr hpv hpv'
      generalize (recAt rs k).p = z at d2 Hs
      cases bz : (z == p)
      · go_wp2
        exact ⟨⟨pv, rfl, by omega, by rw [Heq.out, Hs.out, bz, Hpv.out]; rfl⟩, by simp [intOf]; omega⟩
      · go_wp2
        go_ret
        exact ⟨ret_bool (by rw [Heq.out, Hs.out, bz]; rfl), rfl⟩

set_option maxHeartbeats 2000000 in
theorem specLogPages_any (rs : List R) (t : Int) (a : Option Addr) (cap B : Nat) (w : World) (hB : B ≤ w.heap.size) (hz : Recs w B a rs) (hc : rs.length ≤ cap) (mx : rs.length ≤ 1000000000) :
    Calls Try.prog 22 #[.slice a rs.length cap, .int .i64 t] w (Gives (pagesB rs t) w) := by
  have Hz := Lib.hid hz
  clear hz
  go_enter Try.func22, Try.ntmps22
  go_wp2_with fail
  refine (specLogOk_any rs a cap B _ (by simp; omega) (Hz.out.below ((below_one _ _).mono hB)) hc mx).mono ?_
  rintro e w1 ⟨rfl, b1⟩
  have q1 := (Has.new w 3 #[]).below b1 (by simp)
  have O1 : Hid (OwnI w1 w.heap.size (.slice (some ⟨w.heap.size, 0, none⟩) 0 0) []) := OwnI.empty q1 (Nat.le_refl _)
  have B1 : Hid (Below w.heap.size w w1) := (below_one _ _).trans (b1.mono (by simp))
  clear b1 q1
  cases hk : logB rs
  · have Ho : Hid (pagesB rs t = []) := pagesN_no rs t hk 5
    clear hk
    go_wp2
    go_ret
    obtain ⟨a', cap', e', m'⟩ := O1.out.mine
    exact ⟨a', cap', by rw [Ho.out]; exact congrArg Ending.returned e', B1.out, by rw [Ho.out]; exact m'⟩
  · have Hk := Lib.hid hk
    clear hk
    go_wp2_with fail
    go_loopw [5, 6] (fun v i wx => ∃ k : Nat, k ≤ 5 ∧ i = .int .i64 (k : Int) ∧ Below w.heap.size w wx ∧ OwnI wx w.heap.size v (pagesN rs t k)) (fun _ i _ => (5 - intOf i).toNat)
    case atStart => exact ⟨0, by omega, rfl, B1.out, O1.out⟩
    case round =>
      clear O1 B1
      obtain ⟨k, hk5, rfl, hb, ho⟩ := hrel
      have Hb := Lib.hid hb
      have Ho := Lib.hid ho
      have hs := hb.size
      clear hb ho
      by_cases hlt : k < 5
      · have hol := pagesN_len rs t k
        have Hn : Hid (pagesN rs t (k + 1) = pagesN rs t k ++ (if hasB rs t (k : Int) = true then [(k : Int)] else [])) := rfl
        cases hh : hasB rs t (k : Int)
        · have Hh := Lib.hid hh
          clear hh
          go_wp2_with (go_at_call 38; refine (l3Has_any rs t _ a cap B _ Hk.out (Hz.out.below (Hb.out.mono hB)) mx).mono ?_; rintro e w2 ⟨rfl, rfl⟩; rw [Hh.out])
          exact ⟨⟨k + 1, by omega, by go_num, Hb.out, by rw [Hn.out, Hh.out]; simpa using Ho.out⟩, by simp [intOf]; omega⟩
        · have Hh := Lib.hid hh
          clear hh
          go_wp2_with (first
            | (go_at_call 38; refine (l3Has_any rs t _ a cap B _ Hk.out (Hz.out.below (Hb.out.mono hB)) mx).mono ?_; rintro e w2 ⟨rfl, rfl⟩; rw [Hh.out])
            | (at_builtin; refine wp_append_int _ rfl (.tmp 20) (.tmp 22) rfl w.heap.size _ (pagesN rs t k) rfl (Ho.out.alloc _) _ (k : Int) rfl (World.cell?_alloc_new _ _ _ _) (by omega) (by simp; omega) ?_; intro v' w' h1 h2; have H1 := Lib.hid h1; have H2 := Lib.hid h2; clear h1 h2))
          refine ⟨⟨k + 1, by omega, by go_num, ?_, by rw [Hn.out, Hh.out]; exact H1.out⟩, by simp [intOf]; omega⟩
          exact (Hb.out.alloc hs _).grown H2.out (by simp; omega) (fun k hk => (World.ownsRow.lt Ho.out k hk).1)
      · obtain rfl : k = 5 := by omega
        obtain ⟨a', cap', e', m'⟩ := Ho.out.mine
        subst e'
        have M := Lib.hid m'
        clear m' Ho
        go_wp2
        go_ret
        exact ⟨a', cap', rfl, Hb.out, M.out⟩
end Go.Proofs.Ytejbmjdipfcblaa.Base

/-
  Contracts of LogOpen, of the program and of the model. Conditions: the slice leads to records.
-/
namespace Go.Proofs.Ytejbmjdipfcblaa.Base
open Go.RowKit

/-- the open ones among the first t transactions -/
def opens (rs : List R) : Nat → List Int
  | 0 => []
  | t + 1 => opens rs t ++ (if lastB rs ((t + 1 : Nat) : Int) = 0 then [] else [((t + 1 : Nat) : Int)])
theorem opens_len (rs : List R) : ∀ t, (opens rs t).length ≤ t
  | 0 => Nat.le_refl _
  | t + 1 => by
    have := opens_len rs t
    unfold opens
    rw [List.length_append]
    split <;> simp <;> omega
theorem opens_no (rs : List R) (h : logB rs = false) : ∀ t, opens rs t = []
  | 0 => rfl
  | t + 1 => by
    unfold opens
    rw [opens_no rs h t, lastB_no rs _ h]
    simp
theorem lastB_nonneg (rs : List R) (t : Int) : 0 ≤ lastB rs t := by
  unfold lastB
  split <;> omega

theorem ix4 (x y z u : Value) (t : Nat) (v : Value) (w : World) (h : #[x, y, z, u][t]? = some v) : (Instr.index 44 (.agg #[x, y, z, u]) (.int .i64 (t : Int))).run Try.prog w = .ok v w := by
  obtain ⟨i0, hi, _, hs, _⟩ := info_parts infoInt
  have ht : t < 4 := by
    have := (Array.getElem?_eq_some_iff.1 h).1
    simpa using this
  simp only [Instr.index, asIntOf, Sem.run_bind, Sem.run_pure, Result.andThen_ok, run_underlying Try.underlying44]
  rw [if_pos (by omega)]
  simp only [Sem.run_bind, run_sizeOf w hi, Result.andThen_ok]
  rw [show Int.toNat (t : Int) * Try.prog.cellsOf 3 = t from by rw [show Try.prog.cellsOf 3 = 1 from by kernel_rfl]; simp]
  exact part_int _ _ _ _ h
theorem ix4_0 (x y z u : Value) (w : World) : (Instr.index 44 (.agg #[x, y, z, u]) (.int .i64 0)).run Try.prog w = .ok x w := ix4 x y z u 0 x w rfl
theorem ix4_1 (x y z u : Value) (w : World) : (Instr.index 44 (.agg #[x, y, z, u]) (.int .i64 1)).run Try.prog w = .ok y w := ix4 x y z u 1 y w rfl
theorem ix4_2 (x y z u : Value) (w : World) : (Instr.index 44 (.agg #[x, y, z, u]) (.int .i64 2)).run Try.prog w = .ok z w := ix4 x y z u 2 z w rfl
theorem ix4_3 (x y z u : Value) (w : World) : (Instr.index 44 (.agg #[x, y, z, u]) (.int .i64 3)).run Try.prog w = .ok u w := ix4 x y z u 3 u w rfl
attribute [local go_sem ↓] ix4_0 ix4_1 ix4_2 ix4_3

set_option maxHeartbeats 2000000 in
theorem specLogOpen_any (rs : List R) (a : Option Addr) (cap B : Nat) (w : World) (hB : B ≤ w.heap.size) (hz : Recs w B a rs) (hc : rs.length ≤ cap) (mx : rs.length ≤ 1000000000) :
    Calls Try.prog 25 #[.slice a rs.length cap] w (Gives (opens rs 3) w) := by
  have Hz := Lib.hid hz
  clear hz
  go_enter Try.func25, Try.ntmps25
  go_wp2_with fail
  refine (specLogOk_any rs a cap B _ (by simp; omega) (Hz.out.below ((below_one _ _).mono hB)) hc mx).mono ?_
  rintro e w1 ⟨rfl, b1⟩
  have q1 := (Has.new w 3 #[]).below b1 (by simp)
  have O1 : Hid (OwnI w1 w.heap.size (.slice (some ⟨w.heap.size, 0, none⟩) 0 0) []) := OwnI.empty q1 (Nat.le_refl _)
  have B1 : Hid (Below w.heap.size w w1) := (below_one _ _).trans (b1.mono (by simp))
  clear b1 q1
  cases hk : logB rs
  · have Ho := Lib.hid (opens_no rs hk 3)
    clear hk
    go_wp2
    go_ret
    obtain ⟨a', cap', e', m'⟩ := O1.out.mine
    exact ⟨a', cap', by rw [Ho.out]; exact congrArg Ending.returned e', B1.out, by rw [Ho.out]; exact m'⟩
  · have Hk := Lib.hid hk
    clear hk
    go_wp2_with fail
    go_loopw [3, 4] (fun v i wx => ∃ t : Nat, t ≤ 3 ∧ i = .int .i64 ((t : Int) + 1) ∧ Below w.heap.size w wx ∧ OwnI wx w.heap.size v (opens rs t)) (fun _ i _ => (4 - intOf i).toNat)
    case atStart => exact ⟨0, by omega, rfl, B1.out, O1.out⟩
    case round =>
      clear O1 B1
      obtain ⟨t, ht, rfl, hb, ho⟩ := hrel
      have Hb := Lib.hid hb
      have Ho := Lib.hid ho
      have hs := hb.size
      clear hb ho
      by_cases hlt : t < 3
      · have hol := opens_len rs t
        have Hn : Hid (opens rs (t + 1) = opens rs t ++ (if lastB rs ((t : Int) + 1) = 0 then [] else [(t : Int) + 1])) := rfl
        have Hl : Hid ((lastN rs ((t : Int) + 1) rs.length : Int) = lastB rs ((t : Int) + 1)) := (lastB_yes rs _ Hk.out).symm
        have hnn := lastB_nonneg rs ((t : Int) + 1)
        generalize lastB rs ((t : Int) + 1) = z at Hn Hl hnn
        by_cases hz : z = 0
        · subst hz
          go_wp2_with (go_at_call 33; refine (l3Last_any rs rs.length _ a cap B _ (Nat.le_refl _) (Hz.out.below (Hb.out.mono hB)) mx).mono ?_; rintro e w2 ⟨rfl, rfl⟩; rw [Hl.out])
          exact ⟨⟨t + 1, by omega, by go_num, Hb.out, by rw [Hn.out]; simpa using Ho.out⟩, by simp [intOf]; omega⟩
        · have hz' : 0 < z := by omega
          have Hz0 := Lib.hid hz
          clear hz
          go_wp2_with (first
            | (go_at_call 33; refine (l3Last_any rs rs.length _ a cap B _ (Nat.le_refl _) (Hz.out.below (Hb.out.mono hB)) mx).mono ?_; rintro e w2 ⟨rfl, rfl⟩; rw [Hl.out])
            | (at_builtin; refine wp_append_int _ rfl (.tmp 18) (.tmp 20) rfl w.heap.size _ (opens rs t) rfl (Ho.out.alloc _) _ ((t : Int) + 1) rfl (World.cell?_alloc_new _ _ _ _) (by omega) (by simp; omega) ?_; intro v' w' h1 h2; have H1 := Lib.hid h1; have H2 := Lib.hid h2; clear h1 h2))
          refine ⟨⟨t + 1, by omega, by go_num, ?_, by rw [Hn.out, if_neg Hz0.out]; exact H1.out⟩, by simp [intOf]; omega⟩
          exact (Hb.out.alloc hs _).grown H2.out (by simp; omega) (fun k hk => (World.ownsRow.lt Ho.out k hk).1)
      · obtain rfl : t = 3 := by omega
        obtain ⟨a', cap', e', m'⟩ := Ho.out.mine
        subst e'
        have M := Lib.hid m'
        clear m' Ho
        go_wp2
        go_ret
        exact ⟨a', cap', rfl, Hb.out, M.out⟩

set_option maxHeartbeats 2000000 in
theorem logOpen_any (rs : List R) (a : Option Addr) (cap B : Nat) (w : World) (hB : B ≤ w.heap.size) (hz : Recs w B a rs) (hc : rs.length ≤ cap) (mx : rs.length ≤ 1000000000) :
    Calls Try.prog 24 #[.slice a rs.length cap] w (Gives (opens rs 3) w) := by
  have Hz := Lib.hid hz
  clear hz
  go_enter Try.func24, Try.ntmps24
  go_wp2_with fail
  refine (lastNumbersOf_any rs a cap B _ hB Hz.out hc mx).mono ?_
  rintro e w1 ⟨rfl, b1⟩
  have l1 := b1.size
  have B1 := Lib.hid b1
  clear b1
  generalize h1 : lastB rs 1 = l1
  generalize h2 : lastB rs 2 = l2
  generalize h3 : lastB rs 3 = l3
  have H1 := Lib.hid h1
  have H2 := Lib.hid h2
  have H3 := Lib.hid h3
  clear h1 h2 h3
  cases hk : logB rs
  · have Ho := Lib.hid (opens_no rs hk 3)
    clear hk
    go_wp2
    go_ret
    exact ⟨none, 0, by rw [Ho.out]; rfl, B1.out.alloc (by assumption) _, by rw [Ho.out]; exact fun h => absurd h (by simp)⟩
  · clear hk
    go_wp2_with fail
    go_loopw [5, 16] (fun v i wx => ∃ t : Nat, t ≤ 4 ∧ i = .int .i64 (t : Int) ∧ Below w.heap.size w wx ∧ OwnI wx w.heap.size v (opens rs (t - 1))) (fun _ i _ => (4 - intOf i).toNat)
    case atStart => exact ⟨0, by omega, rfl, B1.out.alloc (by assumption) _, OwnI.nil _ _⟩
    case round =>
      clear B1
      obtain ⟨t, ht, rfl, hb, ho⟩ := hrel
      have Hb := Lib.hid hb
      have Ho := Lib.hid ho
      have hs := hb.size
      clear hb ho
      match t, ht with
      | 0, _ =>
        go_wp2
        exact ⟨⟨1, by omega, rfl, Hb.out, Ho.out⟩, by simp [intOf]⟩
      | 1, _ =>
        have hol := opens_len rs 0
        have Hn : Hid (opens rs 1 = opens rs 0 ++ (if lastB rs 1 = 0 then [] else [1])) := rfl
        rw [H1.out] at Hn
        by_cases hz : l1 = 0
        · subst hz
          go_wp2
          exact ⟨⟨2, by omega, rfl, Hb.out, by show OwnI wr w.heap.size _ (opens rs 1); rw [Hn.out]; simpa using Ho.out⟩, by simp [intOf]⟩
        · have hz' : (l1 != 0) = true := by simpa using hz
          have Hz0 := Lib.hid hz
          clear hz
          go_wp2_with (at_builtin; refine wp_append_int _ rfl (.tmp 22) (.tmp 24) rfl w.heap.size _ (opens rs 0) rfl (Ho.out.alloc _) _ 1 rfl (World.cell?_alloc_new _ _ _ _) (by omega) (by simp; omega) ?_; intro v' w' h1 h2; have G1 := Lib.hid h1; have G2 := Lib.hid h2; clear h1 h2)
          refine ⟨⟨2, by omega, rfl, ?_, by show OwnI w' w.heap.size _ (opens rs 1); rw [Hn.out, if_neg Hz0.out]; exact G1.out⟩, by simp [intOf]⟩
          exact (Hb.out.alloc hs _).grown G2.out (by simp; omega) (fun k hk => (World.ownsRow.lt Ho.out k hk).1)
      | 2, _ =>
        have hol := opens_len rs 1
        have Hn : Hid (opens rs 2 = opens rs 1 ++ (if lastB rs 2 = 0 then [] else [2])) := rfl
        rw [H2.out] at Hn
        by_cases hz : l2 = 0
        · subst hz
          go_wp2
          exact ⟨⟨3, by omega, rfl, Hb.out, by show OwnI wr w.heap.size _ (opens rs 2); rw [Hn.out]; simpa using Ho.out⟩, by simp [intOf]⟩
        · have hz' : (l2 != 0) = true := by simpa using hz
          have Hz0 := Lib.hid hz
          clear hz
          go_wp2_with (at_builtin; refine wp_append_int _ rfl (.tmp 22) (.tmp 24) rfl w.heap.size _ (opens rs 1) rfl (Ho.out.alloc _) _ 2 rfl (World.cell?_alloc_new _ _ _ _) (by omega) (by simp; omega) ?_; intro v' w' h1 h2; have G1 := Lib.hid h1; have G2 := Lib.hid h2; clear h1 h2)
          refine ⟨⟨3, by omega, rfl, ?_, by show OwnI w' w.heap.size _ (opens rs 2); rw [Hn.out, if_neg Hz0.out]; exact G1.out⟩, by simp [intOf]⟩
          exact (Hb.out.alloc hs _).grown G2.out (by simp; omega) (fun k hk => (World.ownsRow.lt Ho.out k hk).1)
      | 3, _ =>
        have hol := opens_len rs 2
        have Hn : Hid (opens rs 3 = opens rs 2 ++ (if lastB rs 3 = 0 then [] else [3])) := rfl
        rw [H3.out] at Hn
        by_cases hz : l3 = 0
        · subst hz
          go_wp2
          exact ⟨⟨4, by omega, rfl, Hb.out, by show OwnI wr w.heap.size _ (opens rs 3); rw [Hn.out]; simpa using Ho.out⟩, by simp [intOf]⟩
        · have hz' : (l3 != 0) = true := by simpa using hz
          have Hz0 := Lib.hid hz
          clear hz
          go_wp2_with (at_builtin; refine wp_append_int _ rfl (.tmp 22) (.tmp 24) rfl w.heap.size _ (opens rs 2) rfl (Ho.out.alloc _) _ 3 rfl (World.cell?_alloc_new _ _ _ _) (by omega) (by simp; omega) ?_; intro v' w' h1 h2; have G1 := Lib.hid h1; have G2 := Lib.hid h2; clear h1 h2)
          refine ⟨⟨4, by omega, rfl, ?_, by show OwnI w' w.heap.size _ (opens rs 3); rw [Hn.out, if_neg Hz0.out]; exact G1.out⟩, by simp [intOf]⟩
          exact (Hb.out.alloc hs _).grown G2.out (by simp; omega) (fun k hk => (World.ownsRow.lt Ho.out k hk).1)
      | 4, _ =>
        obtain ⟨a', cap', e', m'⟩ := Ho.out.mine
        subst e'
        have M := Lib.hid m'
        clear m' Ho
        go_wp2
        go_ret
        exact ⟨a', cap', rfl, Hb.out, M.out⟩
end Go.Proofs.Ytejbmjdipfcblaa.Base

/-
  Sorted, then compacted: just the numbers that are there, ascending. No program in it.
-/
namespace Go.Proofs.Ytejbmjdipfcblaa.Base
open Go.RowKit

/-- two ascending lists with the same members are one -/
theorem asc_ext : ∀ (l m : List Int), l.Pairwise (· < ·) → m.Pairwise (· < ·) → (∀ x, x ∈ l ↔ x ∈ m) → l = m
  | [], [], _, _, _ => rfl
  | [], b :: m, _, _, h => absurd ((h b).2 (by simp)) (by simp)
  | a :: l, [], _, _, h => absurd ((h a).1 (by simp)) (by simp)
  | a :: l, b :: m, hl, hm, h => by
    obtain ⟨hl1, hl2⟩ := List.pairwise_cons.1 hl
    obtain ⟨hm1, hm2⟩ := List.pairwise_cons.1 hm
    have hab : a = b := by
      rcases List.mem_cons.1 ((h a).1 (by simp)) with e | e
      · exact e
      · rcases List.mem_cons.1 ((h b).2 (by simp)) with e' | e'
        · exact e'.symm
        · have := hm1 a e
          have := hl1 b e'
          omega
    subst hab
    have hr : ∀ x, x ∈ l ↔ x ∈ m := fun x => by
      constructor
      · intro hx
        have h1 := hl1 x hx
        rcases List.mem_cons.1 ((h x).1 (by simp [hx])) with e | e
        · omega
        · exact e
      · intro hx
        have h1 := hm1 x hx
        rcases List.mem_cons.1 ((h x).2 (by simp [hx])) with e | e
        · omega
        · exact e
    rw [asc_ext l m hl2 hm2 hr]

theorem get_bang (l : List Int) (m : Nat) (h : m < l.length) : l.toArray[m]! = l[m] := by
  rw [getElem!_pos _ m (by simpa using h)]
  simp

theorem compact_asc (l : List Int) (hl : l.Pairwise (· ≤ ·)) : ∀ m, m ≤ l.length → (Lib.compactUpTo l.toArray m).Pairwise (· < ·) ∧ ∀ x, x ∈ Lib.compactUpTo l.toArray m ↔ x ∈ l.take m
  | 0, _ => by simp [Lib.compactUpTo]
  | m + 1, hm => by
    obtain ⟨h1, h2⟩ := compact_asc l hl m (by omega)
    have hlt : m < l.length := by omega
    rw [Lib.compactUpTo_succ, get_bang l m hlt, List.take_succ_eq_append_getElem hlt]
    have hle : ∀ x, x ∈ l.take m → x ≤ l[m] := fun x hx => by
      obtain ⟨i, hi, rfl⟩ := List.mem_iff_getElem.1 hx
      rw [List.length_take] at hi
      rw [List.getElem_take]
      exact List.pairwise_iff_getElem.1 hl i m (by omega) hlt (by omega)
    cases hk : Lib.keeps l.toArray m
    · have hm0 : m ≠ 0 := fun e => by subst e; simp [Lib.keeps] at hk
      have he : l[m] = l[m - 1] := by
        unfold Lib.keeps at hk
        simp only [get_bang l m hlt, get_bang l (m - 1) (by omega)] at hk
        simp [hm0] at hk
        exact hk
      refine ⟨by simpa using h1, fun x => ?_⟩
      have hin : l[m] ∈ l.take m := by
        rw [he]
        exact List.mem_iff_getElem.2 ⟨m - 1, by rw [List.length_take]; omega, by rw [List.getElem_take]⟩
      simp only [Bool.false_eq_true, if_false, List.append_nil, List.mem_append, List.mem_singleton]
      rw [h2 x]
      constructor
      · exact .inl
      · rintro (h | rfl)
        · exact h
        · exact hin
    · refine ⟨?_, fun x => ?_⟩
      · simp only [if_true]
        rw [List.pairwise_append]
        refine ⟨h1, by simp, fun x hx y hy => ?_⟩
        simp only [List.mem_singleton] at hy
        subst hy
        have hx' := (h2 x).1 hx
        have hxl := hle x hx'
        by_cases hm0 : m = 0
        · subst hm0
          simp at hx'
        · have hne : l[m] ≠ l[m - 1] := by
            unfold Lib.keeps at hk
            simp only [get_bang l m hlt, get_bang l (m - 1) (by omega)] at hk
            simp [hm0] at hk
            exact hk
          have h3 : x ≤ l[m - 1] := by
            obtain ⟨i, hi, rfl⟩ := List.mem_iff_getElem.1 hx'
            rw [List.length_take] at hi
            rw [List.getElem_take]
            by_cases e : i = m - 1
            · subst e
              exact Int.le_refl _
            · exact List.pairwise_iff_getElem.1 hl i (m - 1) (by omega) (by omega) (by omega)
          have h4 : l[m - 1] ≤ l[m] := List.pairwise_iff_getElem.1 hl (m - 1) m (by omega) hlt (by omega)
          omega
      · simp only [if_true, List.mem_append, List.mem_singleton]
        rw [h2 x]

/-- the pages of a chain, as its records have them -/
def pageL (rs : List R) (t : Int) : List Int := (chainC rs (at0 rs t)).map fun n => (recAt rs (n - 1)).p
theorem pagesN_spec (rs : List R) (t : Int) : ∀ k : Nat, (pagesN rs t k).Pairwise (· < ·) ∧ ∀ x, x ∈ pagesN rs t k ↔ (0 ≤ x ∧ x < (k : Int)) ∧ hasB rs t x = true
  | 0 => ⟨by simp [pagesN], fun x => by simp [pagesN]; omega⟩
  | k + 1 => by
    obtain ⟨h1, h2⟩ := pagesN_spec rs t k
    unfold pagesN
    cases hh : hasB rs t (k : Int)
    · refine ⟨by simpa using h1, fun x => ?_⟩
      simp only [Bool.false_eq_true, if_false, List.append_nil]
      rw [h2 x]
      constructor
      · rintro ⟨⟨a, b⟩, c⟩
        exact ⟨⟨a, by omega⟩, c⟩
      · rintro ⟨⟨a, b⟩, c⟩
        have hne : x ≠ (k : Int) := fun e => by rw [e, hh] at c; cases c
        exact ⟨⟨a, by omega⟩, c⟩
    · refine ⟨?_, fun x => ?_⟩
      · simp only [if_true]
        rw [List.pairwise_append]
        refine ⟨h1, by simp, fun x hx y hy => ?_⟩
        simp only [List.mem_singleton] at hy
        subst hy
        exact ((h2 x).1 hx).1.2
      · simp only [if_true, List.mem_append, List.mem_singleton]
        rw [h2 x]
        constructor
        · rintro (⟨⟨a, b⟩, c⟩ | rfl)
          · exact ⟨⟨a, by omega⟩, c⟩
          · exact ⟨⟨by omega, by omega⟩, hh⟩
        · rintro ⟨⟨a, b⟩, c⟩
          by_cases e : x = (k : Int)
          · exact .inr e
          · exact .inl ⟨⟨a, by omega⟩, c⟩
theorem mem_pageL (rs : List R) (t x : Int) : x ∈ pageL rs t ↔ hasB rs t x = true := by
  unfold pageL hasB hasIn
  rw [List.mem_map, List.any_eq_true]
  constructor
  · rintro ⟨n, hn, rfl⟩
    exact ⟨n, hn, by simp⟩
  · rintro ⟨n, hn, h⟩
    exact ⟨n, hn, by simpa using h⟩
/-- a number of a chain is the number of a record of the log -/
theorem chain_mem (rs : List R) (m : Nat) (hs : ∀ j, j < m → stepB rs j = true) : ∀ (k : Nat), k ≤ m → ∀ n, n ∈ chainC rs k → 1 ≤ n ∧ n ≤ m := by
  intro k
  induction k using Nat.strongRecOn with
  | _ k ih =>
    intro hk n hn
    match k, hk, hn with
    | 0, _, hn => simp [chainC, chainN] at hn
    | k + 1, hk, hn =>
      have hp := (step_prev rs k (hs k (by omega))).1
      rw [chainC_step rs k m hs (by omega)] at hn
      rcases List.mem_cons.1 hn with rfl | hn
      · omega
      · exact ih _ (by omega) (by omega) n hn
theorem pageL_range (rs : List R) (t x : Int) (h : x ∈ pageL rs t) : 0 ≤ x ∧ x < 5 := by
  obtain ⟨n, hn, rfl⟩ := List.mem_map.1 h
  obtain ⟨h1, h2⟩ := chain_mem rs (at0 rs t) (at0_steps rs t) (at0 rs t) (Nat.le_refl _) n hn
  have hs := at0_steps rs t (n - 1) (by omega)
  unfold stepB at hs
  rw [Bool.and_eq_true] at hs
  have := okR_page _ hs.1
  omega
/-- sorted and compacted, the pages are the answer -/
theorem pages_sorted (rs : List R) (t : Int) : Lib.compact ((pageL rs t).mergeSort fun x y => decide (x ≤ y)) = pagesB rs t := by
  have hp := List.mergeSort_perm (pageL rs t) (fun x y => decide (x ≤ y))
  have hsrt : ((pageL rs t).mergeSort fun x y => decide (x ≤ y)).Pairwise (· ≤ ·) := by
    have := List.pairwise_mergeSort (le := fun x y : Int => decide (x ≤ y)) (fun a b c h1 h2 => by simp at *; omega) (fun a b => by simp; omega) (pageL rs t)
    exact this.imp fun h => by simpa using h
  obtain ⟨h1, h2⟩ := compact_asc _ hsrt _ (Nat.le_refl _)
  obtain ⟨h3, h4⟩ := pagesN_spec rs t 5
  refine asc_ext _ _ h1 h3 fun x => ?_
  show x ∈ Lib.compactUpTo _ _ ↔ x ∈ pagesN rs t 5
  rw [h2 x, List.take_length, hp.mem_iff, mem_pageL, h4 x]
  constructor
  · intro h
    have := pageL_range rs t x ((mem_pageL rs t x).2 h)
    exact ⟨⟨this.1, by omega⟩, h⟩
  · exact fun h => h.2
theorem pageL_len (rs : List R) (t : Int) : (pageL rs t).length ≤ 150 := by
  unfold pageL chainC
  rw [List.length_map]
  exact Nat.le_trans (chainN_len rs _ _) (at0_le rs t).2
end Go.Proofs.Ytejbmjdipfcblaa.Base

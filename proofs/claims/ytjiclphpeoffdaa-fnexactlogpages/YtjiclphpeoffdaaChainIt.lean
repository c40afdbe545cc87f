/-
  The program's iterator over the records of one: what it hands on, whatever the loop does with it. Conditions: the slice leads to records.
-/
import Derived.Test.YtjiclphpeoffdaaChain
namespace Go.Proofs.Ytjiclphpeoffdaa.Base
open Go.RowKit Go.Shelf

attribute [local go_sem] Oper.semAt_some

/-- where the iterator's variables lie: the slice, the transaction, the records -/
structure Its (W : World) (Bl Bt Bx n₀ : Nat) (a : Option Addr) (cap : Nat) (t : Int) (rs : List R) : Prop where
  sl : W.cell? ⟨Bl, 0, none⟩ = some (.slice a rs.length cap)
  tx : W.cell? ⟨Bt, 0, none⟩ = some (.int .i64 t)
  rd : Recs W Bx a rs
  lt : Bl < n₀ ∧ Bt < n₀ ∧ Bx ≤ n₀ ∧ Bl ≠ Bx ∧ Bt ≠ Bx
theorem Its.kx {W W' : World} {Bl Bt Bx n₀ : Nat} {a : Option Addr} {cap : Nat} {t : Int} {rs : List R} (h : Its W Bl Bt Bx n₀ a cap t rs) (k : Kx n₀ Bx W W') : Its W' Bl Bt Bx n₀ a cap t rs := by
  obtain ⟨l1, l2, l3, l4, l5⟩ := h.lt
  exact ⟨(World.cell?_of_block (a := ⟨Bl, 0, none⟩) (k.block Bl l1 l4)).trans h.sl, (World.cell?_of_block (a := ⟨Bt, 0, none⟩) (k.block Bt l2 l5)).trans h.tx, h.rd.keep fun i hi => k.block i (by omega) (by omega), h.lt⟩
theorem Its.below {W W' : World} {Bl Bt Bx n₀ : Nat} {a : Option Addr} {cap : Nat} {t : Int} {rs : List R} (h : Its W Bl Bt Bx n₀ a cap t rs) (b : Below W.heap.size W W') (hn : n₀ ≤ W.heap.size) : Its W' Bl Bt Bx n₀ a cap t rs :=
  h.kx ⟨b.size, fun i hi _ => b.block i (by omega)⟩
theorem grown_none {w w' : World} (b : Below w.heap.size w w') : w.grownBy w' none := ⟨b.os, b.tape, b.output, b.size, fun k hk _ => b.block k hk⟩

set_option maxRecDepth 100000 in
set_option maxHeartbeats 4000000 in
theorem chain1_in (n : Nat) (hn : 1 ≤ n) (l Bl Bt Bx n₀ : Nat) (a : Option Addr) (cap : Nat) (t : Int) (rs : List R) (hc : rs.length ≤ cap) (mx : rs.length ≤ 1000000000) (J Jx : List Nat → World → Prop)
    (hJ : ∀ s W W', J s W → W.grownBy W' none → J s W')
    (hY : ∀ pre x W, J pre W → pre.length < 150 → YieldAt Fence.wide (n - 1) Try.prog l (encC rs x) W fun e W' =>
      (e = .returned (.bool true) ∧ J (pre ++ [x]) W' ∧ Kx n₀ Bx W W') ∨ (e = .returned (.bool false) ∧ Jx (pre ++ [x]) W'))
    (W : World) (hI : Its W Bl Bt Bx n₀ a cap t rs) (hn₀ : n₀ ≤ W.heap.size) (h0 : J [] W) :
    CallsIn Fence.wide n Try.prog 52 #[.func (.yield l) #[] #[], .pointer (some ⟨Bl, 0, none⟩), .pointer (some ⟨Bt, 0, none⟩)] W fun e W' => (∃ v, e = .returned v) ∧
      ((∃ ys, ys = chainC rs (at0 rs t) ∧ J ys W') ∨ (∃ pre, pre <+: chainC rs (at0 rs t) ∧ Jx pre W')) := by
  have c1 := hI.sl
  have c2 := hI.tx
  have HI := Lib.hid hI
  have hlt := hI.lt
  have Hst := Lib.hid (at0_steps rs t)
  have hat := at0_le rs t
  have H0 := Lib.hid h0
  have Ha := Lib.hid (at0_lastB rs t)
  clear hI h0
  refine callsIn_of_wp Try.func52 rfl trivial ?_ rfl
  simp only [Try.ntmps52, List.size_toArray, List.length_cons, List.length_nil, Nat.reduceAdd, Nat.reduceSub, Array.replicate_succ, Array.replicate_zero, List.push_toArray, List.append_toArray, List.nil_append, List.cons_append]
  gi_wp2_with (refine ⟨trivial, ?_⟩; gi_at_call 15; refine (callsIn_wide.2 (logLast_any rs t a cap Bx _ (by omega) HI.out.rd hc mx)).mono ?_; rintro e w1 ⟨rfl, b1⟩; rw [Ha.out]; have I1 := Lib.hid (HI.out.below b1 hn₀); have J1 := Lib.hid (hJ _ _ _ H0.out (grown_none b1)); have s1 : n₀ ≤ w1.heap.size := Nat.le_trans hn₀ b1.size; clear b1)
  clear c1 c2 H0 HI
  gi_loopw [4] (fun v wr => ∃ (pre : List Nat) (k : Nat), v = .int .i64 (k : Int) ∧ k ≤ at0 rs t ∧ chainC rs (at0 rs t) = pre ++ chainC rs k ∧ J pre wr ∧ Its wr Bl Bt Bx n₀ a cap t rs) (fun v _ => (intOf v).toNat)
  case atStart => exact ⟨[], _, rfl, Nat.le_refl _, rfl, J1.out, I1.out⟩
  case round =>
    obtain ⟨pre, k, rfl, hk, heq, hJs, hIt⟩ := hrel
    cases k with
    | zero =>
      have Heq := Lib.hid heq
      clear heq
      gi_wp2
      go_end0
      exact ⟨⟨_, rfl⟩, .inl ⟨pre, by rw [Heq.out]; simp [chainC, chainN], hJs⟩⟩
    | succ k =>
      have hk' : k < at0 rs t := by omega
      have hlen : pre.length < 150 := by
        have h1 := congrArg List.length heq
        rw [chainC_step rs k _ Hst.out hk', List.length_append, List.length_cons] at h1
        have h2 : (chainC rs (at0 rs t)).length ≤ 150 := Nat.le_trans (chainN_len rs _ _) hat.2
        omega
      have Heq : Hid (chainC rs (at0 rs t) = (pre ++ [k + 1]) ++ chainC rs (recAt rs k).v.toNat) := by
        show chainC rs (at0 rs t) = (pre ++ [k + 1]) ++ chainC rs (recAt rs k).v.toNat
        rw [heq, chainC_step rs k _ Hst.out hk']
        simp
      have hpv := step_prev rs k (Hst.out k hk')
      obtain ⟨g, o, rfl, hg, hr⟩ := hIt.rd (by omega)
      have hkl : k < rs.length := by omega
      obtain ⟨c0, c1, c2, c3, c4, c5, c6, c7⟩ := hr k hkl
      have csl := hIt.sl
      have It := Lib.hid hIt
      obtain ⟨fn, tmps, assign, body, hy, hR⟩ := hY pre (k + 1) wr hJs hlen
      simp only [encC, Nat.add_sub_cancel] at hy
      push_cast at hy
      clear heq hr hIt
      gi_wp2
      refine hR.mono ?_
      rintro e W3 (⟨rfl, hJ3, hk3⟩ | ⟨rfl, hJx3⟩)
      · have I3 := It.out.kx hk3
        obtain ⟨g', o', e', hg', hr'⟩ := I3.rd (by omega)
        have d6 := (hr' k hkl).v
        have dsl := I3.sl
        obtain ⟨rfl, rfl⟩ : g' = g ∧ o' = o := by simpa using e'.symm
        obtain ⟨pv, hpv'⟩ : ∃ pv : Nat, (recAt rs k).v = (pv : Int) := ⟨(recAt rs k).v.toNat, by omega⟩
        rw [hpv'] at d6
        have Hpv : Hid ((recAt rs k).v.toNat = pv) := by show (recAt rs k).v.toNat = pv; omega
        have hpk : pv ≤ k := by omega
        have It3 := Lib.hid I3
        clear hr' I3 e' hpv hpv' c0 c1 c2 c3 c4 c5 c6 c7 csl
        gi_wp2
        go_roundw
        case rel => exact ⟨pre ++ [k + 1], pv, rfl, by omega, by rw [Heq.out, Hpv.out], hJ3, It3.out⟩
        case measure => simp [intOf]; omega
      · gi_wp2
        refine bodyPost_ret (results_none rfl _ _ _) rfl ?_
        exact ⟨⟨_, rfl⟩, .inr ⟨pre ++ [k + 1], ⟨chainC rs (recAt rs k).v.toNat, Heq.out.symm⟩, hJx3⟩⟩
end Go.Proofs.Ytjiclphpeoffdaa.Base

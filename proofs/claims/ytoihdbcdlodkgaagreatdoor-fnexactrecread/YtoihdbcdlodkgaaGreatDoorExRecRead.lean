/-
  Proved: FnExactRecRead returns true, whatever the text: RecRead answers as its model. Conditions: the listed package variables hold what the program's text lays there (the card ties them).
-/
import Derived.Test.YtoihdbcdlodkgaaGreatDoorTxS
import Derived.Test.YtoihdbcdlodkgaaGreatDoorRead4
import Derived.Test.YtoihdbcdlodkgaaGreatDoorCutR
import Derived.Test.YtoihdbcdlodkgaaGreatDoorEqRec
import Derived.ChangeMaps5
import Derived.Test.YtoihdbcdlodkgaaGreatDoorLaidQ
import Derived.Test.YtoihdbcdlodkgaaGreatDoorCards
import Derived.Test.YtoihdbcdlodkgaaGreatDoorTie
import Derived.Deep.DeepCutAuto
import Derived.LaidMore
import Derived.Stop.Joined
import Derived.SevenTiedAt
import Derived.Deep.RegionHeld3
import Derived.OpenShut
import Derived.Lay
import Derived.LaidOnce
import Derived.MakeChecks
import Derived.ShutString
import Derived.ChangeOld
namespace Go.Proofs.YtoihdbcdlodkgaaGreatDoor.FnExactRecRead
open Go.ChangeShapes Go.WideShapes Go.ChangeAt Go.RowKit Base

set_option maxRecDepth 100000 in
set_option maxHeartbeats 4000000 in
theorem walk (s : ByteArray) (pe : Addr) (w : World) (hl : LaidE pe w) (hm : s.size ≤ maxLen) :
    Calls Tryz.prog 3 #[.string s] w (Keeps (.bool true) w) := by
  unfold maxLen at hm
  have L := Lib.hid hl
  clear hl
  by_cases hbig : (1048576 : Int) < s.size
  · go_enter Tryz.func3, Tryz.ntmps3
    go_wp2
    go_ret
    exact ⟨rfl, Below.refl _ _⟩
  have bbig : decide ((1048576 : Int) < s.size) = false := by simpa using hbig
  have hb12 : s.size ≤ 1000000000000 := by omega
  clear hbig
  obtain ⟨q, hq⟩ : ∃ q, readR s.data.toList = q := ⟨_, rfl⟩
  obtain ⟨bq, hbq⟩ : ∃ b, readB s.data.toList = b := ⟨_, rfl⟩
  have S1 : Hid (∀ W, Calls Tryz.prog 7 #[.string s] W (fun e w' => e = .returned (.tuple #[recV q, .bool bq]) ∧ Below W.heap.size W w')) := fun W => (specRecRead_any s W hb12).mono (fun e w' h => ⟨by rw [h.1, hq, hbq], h.2⟩)
  have S2 : Hid (∀ W, LaidE pe W → Calls Tryz.prog 8 #[.string s] W (fun e w' => e = .returned (.tuple #[recV q, .bool bq]) ∧ Below W.heap.size W w')) := fun W hW => (recRead_any s pe W hW).mono (fun e w' h => ⟨by rw [h.1, hq, hbq], h.2⟩)
  clear hq hbq
  go_enter Tryz.func3, Tryz.ntmps3
  go_wp2_with fail
  refine (S1.out _).mono ?_
  rintro e w1 ⟨rfl, b1⟩
  have R2 := Lib.hid (Has.new w1 23 #[.int .i64 q.k, .int .i64 q.t, .int .i64 q.p, .int .i64 q.s, .int .i64 q.o, .int .i64 q.n, .int .i64 q.v, .int .i64 q.x])
  have B2 := Lib.hid (b1.alloc b1.size (.cells #[.int .i64 q.k, .int .i64 q.t, .int .i64 q.p, .int .i64 q.s, .int .i64 q.o, .int .i64 q.n, .int .i64 q.v, .int .i64 q.x] 23))
  clear b1
  go_wp2_with fail
  generalize (w1.alloc (.cells #[.int .i64 q.k, .int .i64 q.t, .int .i64 q.p, .int .i64 q.s, .int .i64 q.o, .int .i64 q.n, .int .i64 q.v, .int .i64 q.x] 23)) = w2 at *
  generalize w1.heap.size = rb at *
  refine (S2.out _ (L.out.below B2.out)).mono ?_
  rintro e w5 ⟨rfl, b5⟩
  have R5 := Lib.hid ((R2.out.below b5 R2.out.lt).alloc (.cells #[.int .i64 q.k, .int .i64 q.t, .int .i64 q.p, .int .i64 q.s, .int .i64 q.o, .int .i64 q.n, .int .i64 q.v, .int .i64 q.x] 23))
  have X5 := Lib.hid (Has.new w5 23 #[.int .i64 q.k, .int .i64 q.t, .int .i64 q.p, .int .i64 q.s, .int .i64 q.o, .int .i64 q.n, .int .i64 q.v, .int .i64 q.x])
  have B5' := B2.out.trans (b5.mono B2.out.size)
  have B5 := Lib.hid (B5'.alloc B5'.size (.cells #[.int .i64 q.k, .int .i64 q.t, .int .i64 q.p, .int .i64 q.s, .int .i64 q.o, .int .i64 q.n, .int .i64 q.v, .int .i64 q.x] 23))
  clear b5 B5' R2 B2
  go_upto_region 5 with (fail)
  generalize (w5.alloc (.cells #[.int .i64 q.k, .int .i64 q.t, .int .i64 q.p, .int .i64 q.s, .int .i64 q.o, .int .i64 q.n, .int .i64 q.v, .int .i64 q.x] 23)) = w6 at *
  generalize w5.heap.size = xb at *
  obtain ⟨c0, c1, c2, c3, c4, c5, c6, c7⟩ := eight R5.out
  obtain ⟨d0, d1, d2, d3, d4, d5, d6, d7⟩ := eight X5.out
  go_wp2_with fail
  refine (eqRec_same q _).mono ?_
  rintro e w7 ⟨rfl, b7⟩
  have B7 := Lib.hid (B5.out.trans (b7.mono B5.out.size))
  clear b7 c0 c1 c2 c3 c4 c5 c6 c7 d0 d1 d2 d3 d4 d5 d6 d7
  cases bq
  · go_wp2
    go_ret
    exact ⟨rfl, B7.out⟩
  · go_wp2
    go_ret
    exact ⟨rfl, B7.out⟩

theorem own : ownKnob Tryz.prog.godebug = none := by kernel_rfl
theorem laidOut : laidOutB Tryz.prog = true := by kernel_rfl
theorem door_met (os : Os) (args : Array Value) : laidMetH Tryz.prog Rows.fnExactRecReadRow.laid ((World.laidAll Tryz.prog os Rows.fnExactRecReadRow.laid).forCall (fun _ _ => 0) ⟨#[], args, []⟩).memory := by
  rw [MakeChecks.laidMetH_plain _ _ _ (by kernel_rfl)]
  exact laidMet_laidAll _ (by kernel_rfl) (by kernel_rfl)

set_option maxRecDepth 100000 in
theorem lifted (os : Os) (started : os.Started) (H : Type) (enc : TypeId × Value → H) :
    ReturnsInHanded {} Tryz.checked os 3 .any (fun w args => (Rows.fnExactRecReadSpec.pre enc Tryz.prog Tryz.f3 [] false w args ∧ laidMetH Tryz.prog Rows.fnExactRecReadRow.laid w) ∧ sizedMet enc Tryz.prog Tryz.f3 (OpenSpec.ofChange Rows.fnExactRecReadSpec) false w args)
      (Rows.fnExactRecReadSpec.post enc Tryz.prog Tryz.f3 false true false false) := by
  refine returns_shaped (C := Tryz.checked) (X := fun w _ => laidMetH Tryz.prog Rows.fnExactRecReadRow.laid w) (fun _ _ _ hh h => h.of_heap hh) own started (by kernel_rfl) Tryz.func3
    (ChangeSpec.witness_shaped (enc := enc) (C := Tryz.checked) (os := os) (X := fun w _ => laidMetH Tryz.prog Rows.fnExactRecReadRow.laid w) false (World.laidAll Tryz.prog os Rows.fnExactRecReadRow.laid) #[.string ⟨#[]⟩] 8 (World.laidAll_os _ _ _) (World.shaped_of_ZipB (by kernel_rfl) (by kernel_rfl)) (by kernel_rfl) (by kernel_rfl) (by kernel_rfl) (door_met os _)) ?_
  intro W base args ds gs before hval0 hW hL hsh
  have hval : ∀ (j : Nat) t v, Tryz.f3.params[j]? = some t → args[j]? = some v → Value.okWide Tryz.prog W .any base t v := hval0
  have hW' := hW
  obtain ⟨p, q, hA0, hV, rfl, hfz, hnd⟩ := hW
  have hA : DataW.TrodAll enc Tryz.prog W 0 (fun _ => true) true Tryz.f3.params.toList args.toList ds p := hA0
  rw [Tryz.params3] at hA hval
  obtain ⟨v0, vs0, d0, ds0, p0, q0, hargs, rfl, rfl, h0, r0⟩ := trodAll_cons hA
  obtain ⟨rfl, rfl, rfl⟩ := trodAll_nil r0
  obtain rfl : args = #[v0] := by cases args; simp_all
  obtain ⟨g1, g2, rfl⟩ := two_vars (n := _) (m := _) hV
  obtain ⟨pe, hle⟩ := laidE_of hL hsh
  have k0 := h0
  have lt0 : ∀ x ∈ p0, x.block < W.heap.size := by obtain ⟨m, hm⟩ := k0; exact DataW.trod_lt m _ _ _ hm
  obtain ⟨s, rfl, -, -, hc⟩ := Go.ChangeMaps.open_string Tryz.underlying9 (hval 0 9 v0 rfl rfl) h0
  clear hA0 hval0
  refine (walk s pe W hle hc).mono fun e W' ⟨he, bel⟩ => ?_
  subst he
  exact ⟨_, rfl, _, _, _, _, _, _, hW', trodAll_mk1 (shut_bool Tryz.underlying4 _), (trodAll_cons_mk (Below.trod laidOut (by kernel_rfl) (of_decide_eq_true (by kernel_rfl)) k0 bel lt0) trodAll_mk0), Below.trodVars laidOut bel (by kernel_rfl) hV, bel.frame _, fun h => by cases h⟩

theorem row : Rows.FnExactRecReadSaid :=
  OpenClaim.holds_of_wide 3 Tryz.f3 rfl rfl rfl rfl rfl rfl rfl ⟨rfl, rfl, rfl, rfl, rfl⟩ rfl rfl rfl rfl rfl (by kernel_rfl) Tryz.func3 (by kernel_rfl)
    (of_decide_eq_true (by kernel_rfl)) (by unfold Func.isWrapper; first | (rw [if_pos (by decide +kernel)]; kernel_rfl) | (rw [if_neg (by decide +kernel)]; exact ⟨rfl, rfl⟩))
    (fun os started H enc _ => lifted os started H enc)

theorem proved : Rows.FnExactRecReadCardSaid :=
  Claim7.holds_tied_plain_at .later [] [.data, .data, .data, .data, .sentinel, .sentinel, .data, .sentinel, .pinned] true Rows.fnExactRecReadCard.stood.harness true
    row (fun _ h => by cases h) (by kernel_rfl) (fun _ h => by cases h) fnExactRecRead_row_tie rfl ⟨rfl, rfl⟩ (by kernel_rfl) rfl
    (fun f fn hf hfn => by
      obtain rfl : f = 3 := Option.some.inj ((show Tryz.prog.funcNamed Rows.fnExactRecReadRow.func = some 3 by kernel_rfl).symm.trans hf) |>.symm
      obtain rfl : fn = Tryz.f3 := (Option.some.inj (Tryz.func3.symm.trans hfn)).symm
      exact ⟨by kernel_rfl, fun j t ht => by
        rw [Tryz.params3] at ht
        have hm : t ∈ [9] := by simpa using Array.mem_of_getElem? ht
        have hall : ([9].all fun u => !Tryz.prog.wantsStandIn u) = true := by kernel_rfl
        exact (show Tryz.prog.wantsStandIn t = false by simpa using List.all_eq_true.1 hall t hm)⟩)
    (by kernel_rfl)
#print axioms proved
end Go.Proofs.YtoihdbcdlodkgaaGreatDoor.FnExactRecRead

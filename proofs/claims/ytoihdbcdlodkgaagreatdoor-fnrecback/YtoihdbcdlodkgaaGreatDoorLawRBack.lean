/-
  Proved: FnRecBack returns true, whatever the code: a valid record is read back from its text. Conditions: the listed package variables hold what the program's text lays there (the card ties them).
-/
import Derived.Test.YtoihdbcdlodkgaaGreatDoorTxS
import Derived.Test.YtoihdbcdlodkgaaGreatDoorRead4
import Derived.Test.YtoihdbcdlodkgaaGreatDoorLaidQ
import Derived.Test.YtoihdbcdlodkgaaGreatDoorDrawRec
import Derived.Test.YtoihdbcdlodkgaaGreatDoorDrawOk
import Derived.Test.YtoihdbcdlodkgaaGreatDoorOpen
import Derived.Test.YtoihdbcdlodkgaaGreatDoorCards
import Derived.Test.YtoihdbcdlodkgaaGreatDoorTie
import Derived.Deep.DeepCutAuto
import Derived.LaidMore
import Derived.Stop.Joined
import Derived.SevenTiedAt
import Derived.Deep.RegionHeld3
import Derived.OpenShut
import Derived.Lay
import Derived.LaidOnce
import Derived.MakeChecks
import Derived.ShutString
import Derived.ChangeOld
namespace Go.Proofs.YtoihdbcdlodkgaaGreatDoor.FnRecBack
open Go.ChangeShapes Go.WideShapes Go.ChangeAt Go.RowKit Base

attribute [local go_sem ↓] neq8 eql8

set_option maxRecDepth 100000 in
set_option maxHeartbeats 8000000 in
theorem walk (a : Option Addr) (cs : List Int) (cap : Nat) (pe : Addr) (w : World) (hc : Bytes w w.heap.size a cs cap) (hl : LaidE pe w) :
    Calls Tryz.prog 4 #[.slice a cs.length cap] w (Keeps (.bool true) w) := by
  have hm : cs.length ≤ maxLen := Nat.le_trans hc.fit hc.most
  unfold maxLen at hm
  have H := Lib.hid hc
  have L := Lib.hid hl
  clear hc hl
  by_cases hbig : (1048576 : Int) < cs.length
  · go_enter Tryz.func4, Tryz.ntmps4
    go_wp2
    go_ret
    exact ⟨rfl, Below.refl _ _⟩
  have bbig : decide ((1048576 : Int) < cs.length) = false := by simpa using hbig
  clear hbig
  go_enter Tryz.func4, Tryz.ntmps4
  go_wp2_with fail
  refine (drawRecText_any a cs cap w.heap.size _ (Nat.le_refl _) H.out).mono ?_
  rintro e w1 ⟨b1, r, rfl⟩
  have R2 := Lib.hid (Has.new w1 23 #[.int .i64 r.k, .int .i64 r.t, .int .i64 r.p, .int .i64 r.s, .int .i64 r.o, .int .i64 r.n, .int .i64 r.v, .int .i64 r.x])
  have B2 := Lib.hid (b1.alloc b1.size (.cells #[.int .i64 r.k, .int .i64 r.t, .int .i64 r.p, .int .i64 r.s, .int .i64 r.o, .int .i64 r.n, .int .i64 r.v, .int .i64 r.x] 23))
  clear b1 H
  obtain ⟨c0, c1, c2, c3, c4, c5, c6, c7⟩ := eight R2.out
  go_wp2_with fail
  generalize (w1.alloc (.cells #[.int .i64 r.k, .int .i64 r.t, .int .i64 r.p, .int .i64 r.s, .int .i64 r.o, .int .i64 r.n, .int .i64 r.v, .int .i64 r.x] 23)) = w2 at *
  generalize w1.heap.size = rb at *
  refine (recText_any r _ (L.out.below B2.out).l).mono ?_
  rintro e w3 ⟨rfl, b3⟩
  have R3 := Lib.hid (R2.out.below b3 R2.out.lt)
  have B3 := Lib.hid (B2.out.trans (b3.mono B2.out.size))
  clear b3 R2 B2 c0 c1 c2 c3 c4 c5 c6 c7
  obtain ⟨c0, c1, c2, c3, c4, c5, c6, c7⟩ := eight R3.out
  go_wp2_with fail
  refine (specRecText_any r _).mono ?_
  rintro e w4 ⟨rfl, b4⟩
  have R4 := Lib.hid (R3.out.below b4 R3.out.lt)
  have B4 := Lib.hid (B3.out.trans (b4.mono B3.out.size))
  clear b4 R3 B3 c0 c1 c2 c3 c4 c5 c6 c7
  obtain ⟨c0, c1, c2, c3, c4, c5, c6, c7⟩ := eight R4.out
  cases hk : okR r
  · have Ht : Hid (textR r = []) := by show textR r = []; unfold textR; rw [hk]; rfl
    clear hk
    rw [Ht.out]
    go_wp2_with fail
    refine (specRecText_any r _).mono ?_
    rintro e w8 ⟨rfl, b8⟩
    have B8 := Lib.hid (B4.out.trans (b8.mono B4.out.size))
    rw [Ht.out]
    clear c0 c1 c2 c3 c4 c5 c6 c7 b8
    go_wp2
    go_ret
    exact ⟨ret_bool (by simp), B8.out⟩
  have Hk := Lib.hid hk
  have Ht : Hid (textR r = recT r) := by show textR r = recT r; unfold textR; rw [hk]; rfl
  clear hk
  rw [Ht.out]
  have hne : ¬ recT r = [] := recT_ne
  have hie : (recT r).isEmpty = false := by simpa using hne
  have Hi : Hid (IsText (recT r) r) := ⟨Hk.out, rfl⟩
  obtain ⟨s, hsE⟩ : ∃ s : ByteArray, s = ⟨(recT r).toArray⟩ := ⟨_, rfl⟩
  have Hr : Hid (readR s.data.toList = r ∧ readB s.data.toList = true) := by rw [hsE]; exact readR_of Hi.out
  have hse : s.toList.isEmpty = false := by rw [hsE, ByteArray.toList_eq]; exact hie
  rw [← hsE]
  clear hsE hne hie
  go_wp2_with fail
  refine (recRead_any s pe _ (L.out.below B4.out)).mono ?_
  rintro e w5 ⟨rfl, b5⟩
  rw [Hr.out.1, Hr.out.2]
  have R5 := Lib.hid ((R4.out.below b5 R4.out.lt).alloc (.cells #[.int .i64 r.k, .int .i64 r.t, .int .i64 r.p, .int .i64 r.s, .int .i64 r.o, .int .i64 r.n, .int .i64 r.v, .int .i64 r.x] 23))
  have X5 := Lib.hid (Has.new w5 23 #[.int .i64 r.k, .int .i64 r.t, .int .i64 r.p, .int .i64 r.s, .int .i64 r.o, .int .i64 r.n, .int .i64 r.v, .int .i64 r.x])
  have B5' := B4.out.trans (b5.mono B4.out.size)
  have B5 := Lib.hid (B5'.alloc B5'.size (.cells #[.int .i64 r.k, .int .i64 r.t, .int .i64 r.p, .int .i64 r.s, .int .i64 r.o, .int .i64 r.n, .int .i64 r.v, .int .i64 r.x] 23))
  clear b5 B5' R4 B4 c0 c1 c2 c3 c4 c5 c6 c7
  go_upto_region 8 with (fail)
  generalize (w5.alloc (.cells #[.int .i64 r.k, .int .i64 r.t, .int .i64 r.p, .int .i64 r.s, .int .i64 r.o, .int .i64 r.n, .int .i64 r.v, .int .i64 r.x] 23)) = w6 at *
  generalize w5.heap.size = xb at *
  obtain ⟨c0, c1, c2, c3, c4, c5, c6, c7⟩ := eight R5.out
  obtain ⟨d0, d1, d2, d3, d4, d5, d6, d7⟩ := eight X5.out
  have hself : eqR ⟨r.k, r.t, r.p, r.s, r.o, r.n, r.v, r.x⟩ ⟨r.k, r.t, r.p, r.s, r.o, r.n, r.v, r.x⟩ = true := by simp [eqR]
  go_wp2_with fail
  refine (recOk_any r _).mono ?_
  rintro e w7 ⟨rfl, b7⟩
  rw [Hk.out]
  have B7 := Lib.hid (B5.out.trans (b7.mono B5.out.size))
  clear b7 c0 c1 c2 c3 c4 c5 c6 c7 d0 d1 d2 d3 d4 d5 d6 d7
  go_wp2
  go_ret
  exact ⟨rfl, B7.out⟩

theorem own : ownKnob Tryz.prog.godebug = none := by kernel_rfl
theorem laidOut : laidOutB Tryz.prog = true := by kernel_rfl
theorem door_met (os : Os) (args : Array Value) : laidMetH Tryz.prog Rows.fnRecBackRow.laid ((World.laidAll Tryz.prog os Rows.fnRecBackRow.laid).forCall (fun _ _ => 0) ⟨#[], args, []⟩).memory := by
  rw [MakeChecks.laidMetH_plain _ _ _ (by kernel_rfl)]
  exact laidMet_laidAll _ (by kernel_rfl) (by kernel_rfl)

set_option maxRecDepth 100000 in
theorem lifted (os : Os) (started : os.Started) (H : Type) (enc : TypeId × Value → H) :
    ReturnsInHanded {} Tryz.checked os 4 .any (fun w args => (Rows.fnRecBackSpec.pre enc Tryz.prog Tryz.f4 [] false w args ∧ laidMetH Tryz.prog Rows.fnRecBackRow.laid w) ∧ sizedMet enc Tryz.prog Tryz.f4 (OpenSpec.ofChange Rows.fnRecBackSpec) false w args)
      (Rows.fnRecBackSpec.post enc Tryz.prog Tryz.f4 false true false false) := by
  refine returns_shaped (C := Tryz.checked) (X := fun w _ => laidMetH Tryz.prog Rows.fnRecBackRow.laid w) (fun _ _ _ hh h => h.of_heap hh) own started (by kernel_rfl) Tryz.func4
    (ChangeSpec.witness_shaped (enc := enc) (C := Tryz.checked) (os := os) (X := fun w _ => laidMetH Tryz.prog Rows.fnRecBackRow.laid w) false (World.laidAll Tryz.prog os Rows.fnRecBackRow.laid) #[.slice none 0 0] 8 (World.laidAll_os _ _ _) (World.shaped_of_ZipB (by kernel_rfl) (by kernel_rfl)) (by kernel_rfl) (by kernel_rfl) (by kernel_rfl) (door_met os _)) ?_
  intro W base args ds gs before hval0 hW hL hsh
  have hval : ∀ (j : Nat) t v, Tryz.f4.params[j]? = some t → args[j]? = some v → Value.okWide Tryz.prog W .any base t v := hval0
  have hW' := hW
  obtain ⟨p, q, hA0, hV, rfl, hfz, hnd⟩ := hW
  have hA : DataW.TrodAll enc Tryz.prog W 0 (fun _ => true) true Tryz.f4.params.toList args.toList ds p := hA0
  rw [Tryz.params4] at hA hval
  obtain ⟨v0, vs0, d0, ds0, p0, q0, hargs, rfl, rfl, h0, r0⟩ := trodAll_cons hA
  obtain ⟨rfl, rfl, rfl⟩ := trodAll_nil r0
  obtain rfl : args = #[v0] := by cases args; simp_all
  obtain ⟨g1, g2, rfl⟩ := two_vars (n := _) (m := _) hV
  obtain ⟨pe, hle⟩ := laidE_of hL hsh
  have k0 := h0
  have lt0 : ∀ x ∈ p0, x.block < W.heap.size := by obtain ⟨m, hm⟩ := k0; exact DataW.trod_lt m _ _ _ hm
  obtain ⟨a, cs, cap, rfl, hc⟩ := openBytes Tryz.underlying28 Tryz.underlying5 (by kernel_rfl) (hval 0 28 v0 rfl rfl) h0
  clear hA0 hval0
  refine (walk a cs cap pe W hc hle).mono fun e W' ⟨he, bel⟩ => ?_
  subst he
  exact ⟨_, rfl, _, _, _, _, _, _, hW', trodAll_mk1 (shut_bool Tryz.underlying4 _), (trodAll_cons_mk (Below.trod laidOut (by kernel_rfl) (of_decide_eq_true (by kernel_rfl)) k0 bel lt0) trodAll_mk0), Below.trodVars laidOut bel (by kernel_rfl) hV, bel.frame _, fun h => by cases h⟩

theorem row : Rows.FnRecBackSaid :=
  OpenClaim.holds_of_wide 4 Tryz.f4 rfl rfl rfl rfl rfl rfl rfl ⟨rfl, rfl, rfl, rfl, rfl⟩ rfl rfl rfl rfl rfl (by kernel_rfl) Tryz.func4 (by kernel_rfl)
    (of_decide_eq_true (by kernel_rfl)) (by unfold Func.isWrapper; first | (rw [if_pos (by decide +kernel)]; kernel_rfl) | (rw [if_neg (by decide +kernel)]; exact ⟨rfl, rfl⟩))
    (fun os started H enc _ => lifted os started H enc)

theorem proved : Rows.FnRecBackCardSaid :=
  Claim7.holds_tied_plain_at .later [] [.data, .data, .data, .data, .sentinel, .sentinel, .data, .sentinel, .pinned] true Rows.fnRecBackCard.stood.harness true
    row (fun _ h => by cases h) (by kernel_rfl) (fun _ h => by cases h) fnRecBack_row_tie rfl ⟨rfl, rfl⟩ (by kernel_rfl) rfl
    (fun f fn hf hfn => by
      obtain rfl : f = 4 := Option.some.inj ((show Tryz.prog.funcNamed Rows.fnRecBackRow.func = some 4 by kernel_rfl).symm.trans hf) |>.symm
      obtain rfl : fn = Tryz.f4 := (Option.some.inj (Tryz.func4.symm.trans hfn)).symm
      exact ⟨by kernel_rfl, fun j t ht => by
        rw [Tryz.params4] at ht
        have hm : t ∈ [28] := by simpa using Array.mem_of_getElem? ht
        have hall : ([28].all fun u => !Tryz.prog.wantsStandIn u) = true := by kernel_rfl
        exact (show Tryz.prog.wantsStandIn t = false by simpa using List.all_eq_true.1 hall t hm)⟩)
    (by kernel_rfl)
#print axioms proved
end Go.Proofs.YtoihdbcdlodkgaaGreatDoor.FnRecBack

/-
  Proved: FnRecStrict returns true, whatever the code: what RecRead reads is as in the model; if it reads a record, that is valid and its text is the one that was read. Conditions: the listed package variables hold what the program's text lays there (the card ties them).
-/
import Derived.Test.YtoihdbcdlodkgaaGreatDoorTxS
import Derived.Test.YtoihdbcdlodkgaaGreatDoorRead4
import Derived.Test.YtoihdbcdlodkgaaGreatDoorCutR
import Derived.Test.YtoihdbcdlodkgaaGreatDoorDrawRead
import Derived.Test.YtoihdbcdlodkgaaGreatDoorLaidQ
import Derived.Test.YtoihdbcdlodkgaaGreatDoorDrawRec
import Derived.Test.YtoihdbcdlodkgaaGreatDoorDrawOk
import Derived.Test.YtoihdbcdlodkgaaGreatDoorOpen
import Derived.Test.YtoihdbcdlodkgaaGreatDoorCards
import Derived.Test.YtoihdbcdlodkgaaGreatDoorTie
import Derived.Deep.DeepCutAuto
import Derived.LaidMore
import Derived.Stop.Joined
import Derived.SevenTiedAt
import Derived.Deep.RegionHeld3
import Derived.OpenShut
import Derived.Lay
import Derived.LaidOnce
import Derived.MakeChecks
import Derived.ShutString
import Derived.ChangeOld
namespace Go.Proofs.YtoihdbcdlodkgaaGreatDoor.FnRecStrict
open Go.ChangeShapes Go.WideShapes Go.ChangeAt Go.RowKit Base

attribute [local go_sem ↓] neq8 eql8

set_option maxRecDepth 100000 in
set_option maxHeartbeats 8000000 in
theorem walk (a : Option Addr) (cs : List Int) (cap : Nat) (pe : Addr) (w : World) (hc : Bytes w w.heap.size a cs cap) (hl : LaidE pe w) :
    Calls Tryz.prog 5 #[.slice a cs.length cap] w (Keeps (.bool true) w) := by
  have hm : cs.length ≤ maxLen := Nat.le_trans hc.fit hc.most
  unfold maxLen at hm
  have H := Lib.hid hc
  have L := Lib.hid hl
  clear hc hl
  by_cases hbig : (1048576 : Int) < cs.length
  · go_enter Tryz.func5, Tryz.ntmps5
    go_wp2
    go_ret
    exact ⟨rfl, Below.refl _ _⟩
  have bbig : decide ((1048576 : Int) < cs.length) = false := by simpa using hbig
  clear hbig
  go_enter Tryz.func5, Tryz.ntmps5
  go_wp2_with fail
  refine (drawRecRead_any a cs cap w.heap.size _ (Nat.le_refl _) H.out).mono ?_
  rintro e w0 ⟨b0, s, hs, rfl⟩
  have B0 := Lib.hid b0
  clear b0 H
  obtain ⟨q, hq⟩ : ∃ q, readR s.data.toList = q := ⟨_, rfl⟩
  obtain ⟨bq, hbq⟩ : ∃ b, readB s.data.toList = b := ⟨_, rfl⟩
  have S1 : Hid (∀ W, Calls Tryz.prog 7 #[.string s] W (fun e w' => e = .returned (.tuple #[recV q, .bool bq]) ∧ Below W.heap.size W w')) := fun W => (specRecRead_any s W (by omega)).mono (fun e w' h => ⟨by rw [h.1, hq, hbq], h.2⟩)
  have S2 : Hid (∀ W, LaidE pe W → Calls Tryz.prog 8 #[.string s] W (fun e w' => e = .returned (.tuple #[recV q, .bool bq]) ∧ Below W.heap.size W w')) := fun W hW => (recRead_any s pe W hW).mono (fun e w' h => ⟨by rw [h.1, hq, hbq], h.2⟩)
  have T : Hid (bq = true → okR q = true ∧ (⟨(textR q).toArray⟩ : ByteArray) = s) := fun hb => by
    have hx : ∃ r, IsText s.data.toList r := by
      rw [hb] at hbq
      unfold readB at hbq
      simpa using hbq
    obtain ⟨r, hr⟩ := hx
    have e : q = r := by rw [← hq]; exact (readR_of hr).1
    subst e
    refine ⟨hr.1, ?_⟩
    apply ByteArray.ext
    have : textR q = s.data.toList := by
      unfold textR
      rw [hr.1]
      exact hr.2
    rw [this]
  clear hq hbq
  go_wp2_with fail
  refine (S1.out _).mono ?_
  rintro e w1 ⟨rfl, b1⟩
  have R2 := Lib.hid (Has.new w1 23 #[.int .i64 q.k, .int .i64 q.t, .int .i64 q.p, .int .i64 q.s, .int .i64 q.o, .int .i64 q.n, .int .i64 q.v, .int .i64 q.x])
  have B2 := Lib.hid ((B0.out.trans (b1.mono B0.out.size)).alloc (Nat.le_trans B0.out.size b1.size) (.cells #[.int .i64 q.k, .int .i64 q.t, .int .i64 q.p, .int .i64 q.s, .int .i64 q.o, .int .i64 q.n, .int .i64 q.v, .int .i64 q.x] 23))
  clear b1 B0
  go_wp2_with fail
  generalize (w1.alloc (.cells #[.int .i64 q.k, .int .i64 q.t, .int .i64 q.p, .int .i64 q.s, .int .i64 q.o, .int .i64 q.n, .int .i64 q.v, .int .i64 q.x] 23)) = w2 at *
  generalize w1.heap.size = rb at *
  refine (S2.out _ (L.out.below B2.out)).mono ?_
  rintro e w5 ⟨rfl, b5⟩
  have R5 := Lib.hid ((R2.out.below b5 R2.out.lt).alloc (.cells #[.int .i64 q.k, .int .i64 q.t, .int .i64 q.p, .int .i64 q.s, .int .i64 q.o, .int .i64 q.n, .int .i64 q.v, .int .i64 q.x] 23))
  have X5 := Lib.hid (Has.new w5 23 #[.int .i64 q.k, .int .i64 q.t, .int .i64 q.p, .int .i64 q.s, .int .i64 q.o, .int .i64 q.n, .int .i64 q.v, .int .i64 q.x])
  have B5' := B2.out.trans (b5.mono B2.out.size)
  have B5 := Lib.hid (B5'.alloc B5'.size (.cells #[.int .i64 q.k, .int .i64 q.t, .int .i64 q.p, .int .i64 q.s, .int .i64 q.o, .int .i64 q.n, .int .i64 q.v, .int .i64 q.x] 23))
  clear b5 B5' R2 B2
  go_upto_region 6 with (fail)
  generalize (w5.alloc (.cells #[.int .i64 q.k, .int .i64 q.t, .int .i64 q.p, .int .i64 q.s, .int .i64 q.o, .int .i64 q.n, .int .i64 q.v, .int .i64 q.x] 23)) = w6 at *
  generalize w5.heap.size = xb at *
  obtain ⟨c0, c1, c2, c3, c4, c5, c6, c7⟩ := eight R5.out
  obtain ⟨d0, d1, d2, d3, d4, d5, d6, d7⟩ := eight X5.out
  have hself : eqR ⟨q.k, q.t, q.p, q.s, q.o, q.n, q.v, q.x⟩ ⟨q.k, q.t, q.p, q.s, q.o, q.n, q.v, q.x⟩ = true := by simp [eqR]
  cases bq
  · clear T
    go_wp2
    go_ret
    exact ⟨rfl, B5.out⟩
  have hk := (T.out rfl).1
  have ht := (T.out rfl).2
  have Hk := Lib.hid hk
  have Ht := Lib.hid ht
  clear T hk ht
  go_wp2_with fail
  refine (recOk_any q _).mono ?_
  rintro e w7 ⟨rfl, b7⟩
  rw [Hk.out]
  have B7 := Lib.hid (B5.out.trans (b7.mono B5.out.size))
  have X7 := Lib.hid (X5.out.below b7 X5.out.lt)
  clear b7 c0 c1 c2 c3 c4 c5 c6 c7 d0 d1 d2 d3 d4 d5 d6 d7
  obtain ⟨d0, d1, d2, d3, d4, d5, d6, d7⟩ := eight X7.out
  go_wp2_with fail
  refine (recText_any q _ (L.out.below B7.out).l).mono ?_
  rintro e w8 ⟨rfl, b8⟩
  rw [Ht.out]
  have B8 := Lib.hid (B7.out.trans (b8.mono B7.out.size))
  clear b8 d0 d1 d2 d3 d4 d5 d6 d7
  go_wp2
  go_ret
  exact ⟨ret_bool (by simp), B8.out⟩

theorem own : ownKnob Tryz.prog.godebug = none := by kernel_rfl
theorem laidOut : laidOutB Tryz.prog = true := by kernel_rfl
theorem door_met (os : Os) (args : Array Value) : laidMetH Tryz.prog Rows.fnRecStrictRow.laid ((World.laidAll Tryz.prog os Rows.fnRecStrictRow.laid).forCall (fun _ _ => 0) ⟨#[], args, []⟩).memory := by
  rw [MakeChecks.laidMetH_plain _ _ _ (by kernel_rfl)]
  exact laidMet_laidAll _ (by kernel_rfl) (by kernel_rfl)

set_option maxRecDepth 100000 in
theorem lifted (os : Os) (started : os.Started) (H : Type) (enc : TypeId × Value → H) :
    ReturnsInHanded {} Tryz.checked os 5 .any (fun w args => (Rows.fnRecStrictSpec.pre enc Tryz.prog Tryz.f5 [] false w args ∧ laidMetH Tryz.prog Rows.fnRecStrictRow.laid w) ∧ sizedMet enc Tryz.prog Tryz.f5 (OpenSpec.ofChange Rows.fnRecStrictSpec) false w args)
      (Rows.fnRecStrictSpec.post enc Tryz.prog Tryz.f5 false true false false) := by
  refine returns_shaped (C := Tryz.checked) (X := fun w _ => laidMetH Tryz.prog Rows.fnRecStrictRow.laid w) (fun _ _ _ hh h => h.of_heap hh) own started (by kernel_rfl) Tryz.func5
    (ChangeSpec.witness_shaped (enc := enc) (C := Tryz.checked) (os := os) (X := fun w _ => laidMetH Tryz.prog Rows.fnRecStrictRow.laid w) false (World.laidAll Tryz.prog os Rows.fnRecStrictRow.laid) #[.slice none 0 0] 8 (World.laidAll_os _ _ _) (World.shaped_of_ZipB (by kernel_rfl) (by kernel_rfl)) (by kernel_rfl) (by kernel_rfl) (by kernel_rfl) (door_met os _)) ?_
  intro W base args ds gs before hval0 hW hL hsh
  have hval : ∀ (j : Nat) t v, Tryz.f5.params[j]? = some t → args[j]? = some v → Value.okWide Tryz.prog W .any base t v := hval0
  have hW' := hW
  obtain ⟨p, q, hA0, hV, rfl, hfz, hnd⟩ := hW
  have hA : DataW.TrodAll enc Tryz.prog W 0 (fun _ => true) true Tryz.f5.params.toList args.toList ds p := hA0
  rw [Tryz.params5] at hA hval
  obtain ⟨v0, vs0, d0, ds0, p0, q0, hargs, rfl, rfl, h0, r0⟩ := trodAll_cons hA
  obtain ⟨rfl, rfl, rfl⟩ := trodAll_nil r0
  obtain rfl : args = #[v0] := by cases args; simp_all
  obtain ⟨g1, g2, rfl⟩ := two_vars (n := _) (m := _) hV
  obtain ⟨pe, hle⟩ := laidE_of hL hsh
  have k0 := h0
  have lt0 : ∀ x ∈ p0, x.block < W.heap.size := by obtain ⟨m, hm⟩ := k0; exact DataW.trod_lt m _ _ _ hm
  obtain ⟨a, cs, cap, rfl, hc⟩ := openBytes Tryz.underlying28 Tryz.underlying5 (by kernel_rfl) (hval 0 28 v0 rfl rfl) h0
  clear hA0 hval0
  refine (walk a cs cap pe W hc hle).mono fun e W' ⟨he, bel⟩ => ?_
  subst he
  exact ⟨_, rfl, _, _, _, _, _, _, hW', trodAll_mk1 (shut_bool Tryz.underlying4 _), (trodAll_cons_mk (Below.trod laidOut (by kernel_rfl) (of_decide_eq_true (by kernel_rfl)) k0 bel lt0) trodAll_mk0), Below.trodVars laidOut bel (by kernel_rfl) hV, bel.frame _, fun h => by cases h⟩

theorem row : Rows.FnRecStrictSaid :=
  OpenClaim.holds_of_wide 5 Tryz.f5 rfl rfl rfl rfl rfl rfl rfl ⟨rfl, rfl, rfl, rfl, rfl⟩ rfl rfl rfl rfl rfl (by kernel_rfl) Tryz.func5 (by kernel_rfl)
    (of_decide_eq_true (by kernel_rfl)) (by unfold Func.isWrapper; first | (rw [if_pos (by decide +kernel)]; kernel_rfl) | (rw [if_neg (by decide +kernel)]; exact ⟨rfl, rfl⟩))
    (fun os started H enc _ => lifted os started H enc)

theorem proved : Rows.FnRecStrictCardSaid :=
  Claim7.holds_tied_plain_at .later [] [.data, .data, .data, .data, .sentinel, .sentinel, .data, .sentinel, .pinned] true Rows.fnRecStrictCard.stood.harness true
    row (fun _ h => by cases h) (by kernel_rfl) (fun _ h => by cases h) fnRecStrict_row_tie rfl ⟨rfl, rfl⟩ (by kernel_rfl) rfl
    (fun f fn hf hfn => by
      obtain rfl : f = 5 := Option.some.inj ((show Tryz.prog.funcNamed Rows.fnRecStrictRow.func = some 5 by kernel_rfl).symm.trans hf) |>.symm
      obtain rfl : fn = Tryz.f5 := (Option.some.inj (Tryz.func5.symm.trans hfn)).symm
      exact ⟨by kernel_rfl, fun j t ht => by
        rw [Tryz.params5] at ht
        have hm : t ∈ [28] := by simpa using Array.mem_of_getElem? ht
        have hall : ([28].all fun u => !Tryz.prog.wantsStandIn u) = true := by kernel_rfl
        exact (show Tryz.prog.wantsStandIn t = false by simpa using List.all_eq_true.1 hall t hm)⟩)
    (by kernel_rfl)
#print axioms proved
end Go.Proofs.YtoihdbcdlodkgaaGreatDoor.FnRecStrict

/-
  Proved: FnRecCut returns true, whatever the code: the text of a valid record, cut by its last byte, is not read as that record; with a blank, or with a blank and a digit behind it, it is read as none. Conditions: the listed package variables hold what the program's text lays there (the card ties them).
-/
import Derived.Test.YtoihdbcdlodkgaaGreatDoorTxS
import Derived.Test.YtoihdbcdlodkgaaGreatDoorRead4
import Derived.Test.YtoihdbcdlodkgaaGreatDoorLaidQ
import Derived.Test.YtoihdbcdlodkgaaGreatDoorDrawRec
import Derived.Test.YtoihdbcdlodkgaaGreatDoorDrawOk
import Derived.Test.YtoihdbcdlodkgaaGreatDoorOpen
import Derived.Test.YtoihdbcdlodkgaaGreatDoorCards
import Derived.Test.YtoihdbcdlodkgaaGreatDoorTie
import Derived.Deep.DeepCutAuto
import Derived.LaidMore
import Derived.Stop.Joined
import Derived.SevenTiedAt
import Derived.Deep.RegionHeld3
import Derived.OpenShut
import Derived.Lay
import Derived.LaidOnce
import Derived.MakeChecks
import Derived.ShutString
import Derived.ChangeOld
namespace Go.Proofs.YtoihdbcdlodkgaaGreatDoor.FnRecCut
open Go.ChangeShapes Go.WideShapes Go.ChangeAt Go.RowKit Base

attribute [local go_sem ↓] neq8 eql8

theorem len_data (b : ByteArray) : b.data.toList.length = b.size := rfl

theorem data_add (b : ByteArray) (l : List UInt8) (c : Array UInt8) (h : b = ⟨l.toArray⟩) : (b ++ ⟨c⟩ : ByteArray).data.toList = l ++ c.toList := by
  rw [ByteArray.data_append, h]; simp

/-- a text with a blank behind it is no record's -/
theorem not_blank {r q : R} : ¬ IsText (recT r ++ [32]) q := fun h => by
  have h1 := (isText_len h).2.2
  rw [cutW_blank_end, cutW_rec] at h1
  have h2 := congrArg List.length h1
  simp [wordsL] at h2

theorem not_more {r q : R} : ¬ IsText (recT r ++ [32, 48]) q := fun h => by
  have h1 := (isText_len h).2.2
  have e : recT r ++ [32, 48] = (recT r ++ [32]) ++ [48] := by simp
  rw [e, cutW_more 48 (by decide), cutW_blank_end, cutW_rec] at h1
  have h2 := congrArg List.length h1
  simp [wordsL, moreW] at h2

theorem not_cut {r : R} {t : List UInt8} (ht : t.length < (recT r).length) : ¬ IsText t r := fun h => by
  have h1 := congrArg List.length h.2
  omega

theorem read_cut {r : R} {t : List UInt8} (ht : t.length < (recT r).length) : readB t = false ∨ eqR (readR t) r = false := by
  by_cases h : ∃ q, IsText t q
  · obtain ⟨q, hq⟩ := h
    refine .inr ?_
    rw [(readR_of hq).1]
    cases he : eqR q r
    · rfl
    · rw [eqR_iff] at he
      subst he
      exact (not_cut ht hq).elim
  · exact .inl (readR_none fun q hq => h ⟨q, hq⟩).2

set_option maxRecDepth 100000 in
set_option maxHeartbeats 8000000 in
theorem walk (a : Option Addr) (cs : List Int) (cap : Nat) (pe : Addr) (w : World) (hc : Bytes w w.heap.size a cs cap) (hl : LaidE pe w) :
    Calls Tryz.prog 6 #[.slice a cs.length cap] w (Keeps (.bool true) w) := by
  have hm : cs.length ≤ maxLen := Nat.le_trans hc.fit hc.most
  unfold maxLen at hm
  have H := Lib.hid hc
  have L := Lib.hid hl
  clear hc hl
  by_cases hbig : (1048576 : Int) < cs.length
  · go_enter Tryz.func6, Tryz.ntmps6
    go_wp2
    go_ret
    exact ⟨rfl, Below.refl _ _⟩
  have bbig : decide ((1048576 : Int) < cs.length) = false := by simpa using hbig
  clear hbig
  go_enter Tryz.func6, Tryz.ntmps6
  go_wp2_with fail
  refine (drawRecText_any a cs cap w.heap.size _ (Nat.le_refl _) H.out).mono ?_
  rintro e w1 ⟨b1, r, rfl⟩
  have R2 := Lib.hid (Has.new w1 23 #[.int .i64 r.k, .int .i64 r.t, .int .i64 r.p, .int .i64 r.s, .int .i64 r.o, .int .i64 r.n, .int .i64 r.v, .int .i64 r.x])
  have B2 := Lib.hid (b1.alloc b1.size (.cells #[.int .i64 r.k, .int .i64 r.t, .int .i64 r.p, .int .i64 r.s, .int .i64 r.o, .int .i64 r.n, .int .i64 r.v, .int .i64 r.x] 23))
  clear b1 H
  obtain ⟨c0, c1, c2, c3, c4, c5, c6, c7⟩ := eight R2.out
  go_wp2_with fail
  generalize (w1.alloc (.cells #[.int .i64 r.k, .int .i64 r.t, .int .i64 r.p, .int .i64 r.s, .int .i64 r.o, .int .i64 r.n, .int .i64 r.v, .int .i64 r.x] 23)) = w2 at *
  generalize w1.heap.size = rb at *
  refine (recText_any r _ (L.out.below B2.out).l).mono ?_
  rintro e w3 ⟨rfl, b3⟩
  have R3 := Lib.hid (R2.out.below b3 R2.out.lt)
  have B3 := Lib.hid (B2.out.trans (b3.mono B2.out.size))
  clear b3 R2 B2 c0 c1 c2 c3 c4 c5 c6 c7
  obtain ⟨c0, c1, c2, c3, c4, c5, c6, c7⟩ := eight R3.out
  go_wp2_with fail
  refine (specRecText_any r _).mono ?_
  rintro e w4 ⟨rfl, b4⟩
  have R4 := Lib.hid (R3.out.below b4 R3.out.lt)
  have B4 := Lib.hid (B3.out.trans (b4.mono B3.out.size))
  clear b4 R3 B3 c0 c1 c2 c3 c4 c5 c6 c7
  obtain ⟨c0, c1, c2, c3, c4, c5, c6, c7⟩ := eight R4.out
  cases hk : okR r
  · have Ht : Hid (textR r = []) := by show textR r = []; unfold textR; rw [hk]; rfl
    clear hk
    rw [Ht.out]
    go_wp2_with fail
    refine (specRecText_any r _).mono ?_
    rintro e w8 ⟨rfl, b8⟩
    have B8 := Lib.hid (B4.out.trans (b8.mono B4.out.size))
    rw [Ht.out]
    clear c0 c1 c2 c3 c4 c5 c6 c7 b8
    go_wp2
    go_ret
    exact ⟨ret_bool (by simp), B8.out⟩
  have Hk := Lib.hid hk
  have Ht : Hid (textR r = recT r) := by show textR r = recT r; unfold textR; rw [hk]; rfl
  clear hk
  rw [Ht.out]
  have hne : ¬ recT r = [] := recT_ne
  have hie : (recT r).isEmpty = false := by simpa using hne
  have Hi : Hid (IsText (recT r) r) := ⟨Hk.out, rfl⟩
  obtain ⟨s, hsE⟩ : ∃ s : ByteArray, s = ⟨(recT r).toArray⟩ := ⟨_, rfl⟩
  have HsE := Lib.hid hsE
  have hse : s.toList.isEmpty = false := by rw [hsE, ByteArray.toList_eq]; exact hie
  have hsz0 : s.size = (recT r).length := by rw [hsE]; rfl
  have hsz : s.size ≤ 30 := by rw [hsz0]; exact (isText_len Hi.out).1
  have hs1 : 1 ≤ s.size := by rw [hsz0]; exact Nat.pos_of_ne_zero fun h => hne (List.eq_nil_of_length_eq_zero h)
  have hi0 : (0 : Int) ≤ (s.size : Int) - 1 := by omega
  have hi1 : (s.size : Int) - 1 ≤ s.size := by omega
  have hadd1 : s.size + 1 ≤ 9223372036854775807 := by omega
  have hadd2 : s.size + 2 ≤ 9223372036854775807 := by omega
  rw [← hsE]
  clear hsE hne hie
  have H2 : Hid (readB (s ++ ⟨#[32]⟩).data.toList = false) := by
    rw [data_add s (recT r) #[32] HsE.out]
    exact (readR_none fun q => not_blank).2
  have H3 : Hid (readB (s ++ ⟨#[32, 48]⟩).data.toList = false) := by
    rw [data_add s (recT r) #[32, 48] HsE.out]
    exact (readR_none fun q => not_more).2
  have H1 : Hid (readB (s.extract 0 ((recT r).length - 1)).data.toList = false ∨ eqR (readR (s.extract 0 ((recT r).length - 1)).data.toList) r = false) := by
    refine read_cut ?_
    rw [len_data, ByteArray.size_extract]
    omega
  go_wp2_with fail
  generalize s.extract 0 ((recT r).length - 1) = s1 at *
  with_reducible refine (recRead_any s1 pe _ (L.out.below B4.out)).mono ?_
  rintro e w5 ⟨rfl, b5⟩
  generalize readR s1.data.toList = q at *
  generalize readB s1.data.toList = bq at *
  have R5 := Lib.hid ((R4.out.below b5 R4.out.lt).alloc (.cells #[.int .i64 q.k, .int .i64 q.t, .int .i64 q.p, .int .i64 q.s, .int .i64 q.o, .int .i64 q.n, .int .i64 q.v, .int .i64 q.x] 23))
  have X5 := Lib.hid (Has.new w5 23 #[.int .i64 q.k, .int .i64 q.t, .int .i64 q.p, .int .i64 q.s, .int .i64 q.o, .int .i64 q.n, .int .i64 q.v, .int .i64 q.x])
  have B5' := B4.out.trans (b5.mono B4.out.size)
  have B5 := Lib.hid (B5'.alloc B5'.size (.cells #[.int .i64 q.k, .int .i64 q.t, .int .i64 q.p, .int .i64 q.s, .int .i64 q.o, .int .i64 q.n, .int .i64 q.v, .int .i64 q.x] 23))
  clear b5 B5' R4 B4 c0 c1 c2 c3 c4 c5 c6 c7
  go_wp2_with fail
  generalize (w5.alloc (.cells #[.int .i64 q.k, .int .i64 q.t, .int .i64 q.p, .int .i64 q.s, .int .i64 q.o, .int .i64 q.n, .int .i64 q.v, .int .i64 q.x] 23)) = w6 at *
  generalize w5.heap.size = xb at *
  with_reducible refine (recRead_any (s ++ ⟨#[32]⟩) pe _ (L.out.below B5.out)).mono ?_
  rintro e w7 ⟨rfl, b7⟩
  rw [H2.out]
  generalize readR (s ++ ⟨#[32]⟩).data.toList = q2 at *
  have R7 := Lib.hid ((R5.out.below b7 R5.out.lt).alloc (.cells #[.int .i64 q2.k, .int .i64 q2.t, .int .i64 q2.p, .int .i64 q2.s, .int .i64 q2.o, .int .i64 q2.n, .int .i64 q2.v, .int .i64 q2.x] 23))
  have X7 := Lib.hid ((X5.out.below b7 X5.out.lt).alloc (.cells #[.int .i64 q2.k, .int .i64 q2.t, .int .i64 q2.p, .int .i64 q2.s, .int .i64 q2.o, .int .i64 q2.n, .int .i64 q2.v, .int .i64 q2.x] 23))
  have B7' := B5.out.trans (b7.mono B5.out.size)
  have B7 := Lib.hid (B7'.alloc B7'.size (.cells #[.int .i64 q2.k, .int .i64 q2.t, .int .i64 q2.p, .int .i64 q2.s, .int .i64 q2.o, .int .i64 q2.n, .int .i64 q2.v, .int .i64 q2.x] 23))
  clear b7 B7' R5 X5 B5 H2
  go_wp2_with fail
  generalize (w7.alloc (.cells #[.int .i64 q2.k, .int .i64 q2.t, .int .i64 q2.p, .int .i64 q2.s, .int .i64 q2.o, .int .i64 q2.n, .int .i64 q2.v, .int .i64 q2.x] 23)) = w8 at *
  generalize w7.heap.size = yb at *
  with_reducible refine (recRead_any (s ++ ⟨#[32, 48]⟩) pe _ (L.out.below B7.out)).mono ?_
  rintro e w9 ⟨rfl, b9⟩
  rw [H3.out]
  generalize readR (s ++ ⟨#[32, 48]⟩).data.toList = q3 at *
  have R9 := Lib.hid ((R7.out.below b9 R7.out.lt).alloc (.cells #[.int .i64 q3.k, .int .i64 q3.t, .int .i64 q3.p, .int .i64 q3.s, .int .i64 q3.o, .int .i64 q3.n, .int .i64 q3.v, .int .i64 q3.x] 23))
  have X9 := Lib.hid ((X7.out.below b9 X7.out.lt).alloc (.cells #[.int .i64 q3.k, .int .i64 q3.t, .int .i64 q3.p, .int .i64 q3.s, .int .i64 q3.o, .int .i64 q3.n, .int .i64 q3.v, .int .i64 q3.x] 23))
  have B9' := B7.out.trans (b9.mono B7.out.size)
  have B9 := Lib.hid (B9'.alloc B9'.size (.cells #[.int .i64 q3.k, .int .i64 q3.t, .int .i64 q3.p, .int .i64 q3.s, .int .i64 q3.o, .int .i64 q3.n, .int .i64 q3.v, .int .i64 q3.x] 23))
  clear b9 B9' R7 X7 B7 H3
  go_upto_region 10 with (fail)
  generalize (w9.alloc (.cells #[.int .i64 q3.k, .int .i64 q3.t, .int .i64 q3.p, .int .i64 q3.s, .int .i64 q3.o, .int .i64 q3.n, .int .i64 q3.v, .int .i64 q3.x] 23)) = w10 at *
  generalize w9.heap.size = zb at *
  obtain ⟨c0, c1, c2, c3, c4, c5, c6, c7⟩ := eight R9.out
  obtain ⟨d0, d1, d2, d3, d4, d5, d6, d7⟩ := eight X9.out
  cases bq
  · go_wp2
    go_ret
    exact ⟨rfl, B9.out⟩
  have hq : eqR ⟨q.k, q.t, q.p, q.s, q.o, q.n, q.v, q.x⟩ ⟨r.k, r.t, r.p, r.s, r.o, r.n, r.v, r.x⟩ = false := by
    rcases H1.out with h | h
    · cases h
    · exact h
  go_wp2
  go_ret
  exact ⟨rfl, B9.out⟩

theorem own : ownKnob Tryz.prog.godebug = none := by kernel_rfl
theorem laidOut : laidOutB Tryz.prog = true := by kernel_rfl
theorem door_met (os : Os) (args : Array Value) : laidMetH Tryz.prog Rows.fnRecCutRow.laid ((World.laidAll Tryz.prog os Rows.fnRecCutRow.laid).forCall (fun _ _ => 0) ⟨#[], args, []⟩).memory := by
  rw [MakeChecks.laidMetH_plain _ _ _ (by kernel_rfl)]
  exact laidMet_laidAll _ (by kernel_rfl) (by kernel_rfl)

set_option maxRecDepth 100000 in
theorem lifted (os : Os) (started : os.Started) (H : Type) (enc : TypeId × Value → H) :
    ReturnsInHanded {} Tryz.checked os 6 .any (fun w args => (Rows.fnRecCutSpec.pre enc Tryz.prog Tryz.f6 [] false w args ∧ laidMetH Tryz.prog Rows.fnRecCutRow.laid w) ∧ sizedMet enc Tryz.prog Tryz.f6 (OpenSpec.ofChange Rows.fnRecCutSpec) false w args)
      (Rows.fnRecCutSpec.post enc Tryz.prog Tryz.f6 false true false false) := by
  refine returns_shaped (C := Tryz.checked) (X := fun w _ => laidMetH Tryz.prog Rows.fnRecCutRow.laid w) (fun _ _ _ hh h => h.of_heap hh) own started (by kernel_rfl) Tryz.func6
    (ChangeSpec.witness_shaped (enc := enc) (C := Tryz.checked) (os := os) (X := fun w _ => laidMetH Tryz.prog Rows.fnRecCutRow.laid w) false (World.laidAll Tryz.prog os Rows.fnRecCutRow.laid) #[.slice none 0 0] 8 (World.laidAll_os _ _ _) (World.shaped_of_ZipB (by kernel_rfl) (by kernel_rfl)) (by kernel_rfl) (by kernel_rfl) (by kernel_rfl) (door_met os _)) ?_
  intro W base args ds gs before hval0 hW hL hsh
  have hval : ∀ (j : Nat) t v, Tryz.f6.params[j]? = some t → args[j]? = some v → Value.okWide Tryz.prog W .any base t v := hval0
  have hW' := hW
  obtain ⟨p, q, hA0, hV, rfl, hfz, hnd⟩ := hW
  have hA : DataW.TrodAll enc Tryz.prog W 0 (fun _ => true) true Tryz.f6.params.toList args.toList ds p := hA0
  rw [Tryz.params6] at hA hval
  obtain ⟨v0, vs0, d0, ds0, p0, q0, hargs, rfl, rfl, h0, r0⟩ := trodAll_cons hA
  obtain ⟨rfl, rfl, rfl⟩ := trodAll_nil r0
  obtain rfl : args = #[v0] := by cases args; simp_all
  obtain ⟨g1, g2, rfl⟩ := two_vars (n := _) (m := _) hV
  obtain ⟨pe, hle⟩ := laidE_of hL hsh
  have k0 := h0
  have lt0 : ∀ x ∈ p0, x.block < W.heap.size := by obtain ⟨m, hm⟩ := k0; exact DataW.trod_lt m _ _ _ hm
  obtain ⟨a, cs, cap, rfl, hc⟩ := openBytes Tryz.underlying28 Tryz.underlying5 (by kernel_rfl) (hval 0 28 v0 rfl rfl) h0
  clear hA0 hval0
  refine (walk a cs cap pe W hc hle).mono fun e W' ⟨he, bel⟩ => ?_
  subst he
  exact ⟨_, rfl, _, _, _, _, _, _, hW', trodAll_mk1 (shut_bool Tryz.underlying4 _), (trodAll_cons_mk (Below.trod laidOut (by kernel_rfl) (of_decide_eq_true (by kernel_rfl)) k0 bel lt0) trodAll_mk0), Below.trodVars laidOut bel (by kernel_rfl) hV, bel.frame _, fun h => by cases h⟩

theorem row : Rows.FnRecCutSaid :=
  OpenClaim.holds_of_wide 6 Tryz.f6 rfl rfl rfl rfl rfl rfl rfl ⟨rfl, rfl, rfl, rfl, rfl⟩ rfl rfl rfl rfl rfl (by kernel_rfl) Tryz.func6 (by kernel_rfl)
    (of_decide_eq_true (by kernel_rfl)) (by unfold Func.isWrapper; first | (rw [if_pos (by decide +kernel)]; kernel_rfl) | (rw [if_neg (by decide +kernel)]; exact ⟨rfl, rfl⟩))
    (fun os started H enc _ => lifted os started H enc)

theorem proved : Rows.FnRecCutCardSaid :=
  Claim7.holds_tied_plain_at .later [] [.data, .data, .data, .data, .sentinel, .sentinel, .data, .sentinel, .pinned] true Rows.fnRecCutCard.stood.harness true
    row (fun _ h => by cases h) (by kernel_rfl) (fun _ h => by cases h) fnRecCut_row_tie rfl ⟨rfl, rfl⟩ (by kernel_rfl) rfl
    (fun f fn hf hfn => by
      obtain rfl : f = 6 := Option.some.inj ((show Tryz.prog.funcNamed Rows.fnRecCutRow.func = some 6 by kernel_rfl).symm.trans hf) |>.symm
      obtain rfl : fn = Tryz.f6 := (Option.some.inj (Tryz.func6.symm.trans hfn)).symm
      exact ⟨by kernel_rfl, fun j t ht => by
        rw [Tryz.params6] at ht
        have hm : t ∈ [28] := by simpa using Array.mem_of_getElem? ht
        have hall : ([28].all fun u => !Tryz.prog.wantsStandIn u) = true := by kernel_rfl
        exact (show Tryz.prog.wantsStandIn t = false by simpa using List.all_eq_true.1 hall t hm)⟩)
    (by kernel_rfl)
#print axioms proved
end Go.Proofs.YtoihdbcdlodkgaaGreatDoor.FnRecCut

/-
  Proved: FnRecSame returns true, whatever the codes: RecText answers as its model, and valid records have the same text just if they are the same. Conditions: the listed package variables hold what the program's text lays there (the card ties them).
-/
import Derived.Test.YtcahmiklcjlkmaaDoorTxS
import Derived.Test.YtcahmiklcjlkmaaDoorLaidR
import Derived.Test.YtcahmiklcjlkmaaDoorDrawOk
import Derived.Test.YtcahmiklcjlkmaaDoorOpen
import Derived.Test.YtcahmiklcjlkmaaDoorCards
import Derived.Test.YtcahmiklcjlkmaaDoorTie
import Derived.Deep.DeepCutAuto
import Derived.LaidMore
import Derived.Stop.Joined
import Derived.SevenTiedAt
import Derived.Deep.RegionHeld3
import Derived.OpenShut
import Derived.ShutString
import Derived.ChangeOld
namespace Go.Proofs.YtcahmiklcjlkmaaDoor.FnRecSame
open Go.ChangeShapes Go.WideShapes Go.ChangeAt Go.RowKit Base

attribute [local go_sem ↓] neq8 eql8

set_option maxRecDepth 100000 in
set_option maxHeartbeats 8000000 in
theorem walk (a : Option Addr) (cs : List Int) (cap : Nat) (a' : Option Addr) (ms : List Int) (cap' : Nat) (w : World) (hc : Bytes w w.heap.size a cs cap) (hc' : Bytes w w.heap.size a' ms cap') (hl : Laid w) :
    Calls Tryd.prog 3 #[.slice a cs.length cap, .slice a' ms.length cap'] w (Keeps (.bool true) w) := by
  have hm : cs.length ≤ maxLen := Nat.le_trans hc.fit hc.most
  have hm' : ms.length ≤ maxLen := Nat.le_trans hc'.fit hc'.most
  unfold maxLen at hm hm'
  have H := Lib.hid hc
  have H' := Lib.hid hc'
  have L := Lib.hid hl
  clear hc hc' hl
  by_cases hbig : (1048576 : Int) < cs.length
  · go_enter Tryd.func3, Tryd.ntmps3
    go_wp2
    go_ret
    exact ⟨rfl, Below.refl _ _⟩
  have bbig : decide ((1048576 : Int) < cs.length) = false := by simpa using hbig
  clear hbig
  by_cases hbig : (1048576 : Int) < ms.length
  · go_enter Tryd.func3, Tryd.ntmps3
    go_wp2
    go_ret
    exact ⟨rfl, Below.refl _ _⟩
  have bbig' : decide ((1048576 : Int) < ms.length) = false := by simpa using hbig
  clear hbig
  go_enter Tryd.func3, Tryd.ntmps3
  go_wp2_with fail
  refine (drawRecText_any a cs cap w.heap.size _ (Nat.le_refl _) H.out).mono ?_
  rintro e w1 ⟨b1, r, rfl⟩
  have R2 := Lib.hid (Has.new w1 24 #[.int .i64 r.k, .int .i64 r.t, .int .i64 r.p, .int .i64 r.s, .int .i64 r.o, .int .i64 r.n, .int .i64 r.v, .int .i64 r.x])
  have B2 := Lib.hid (b1.alloc b1.size (.cells #[.int .i64 r.k, .int .i64 r.t, .int .i64 r.p, .int .i64 r.s, .int .i64 r.o, .int .i64 r.n, .int .i64 r.v, .int .i64 r.x] 24))
  clear b1 H
  go_wp2_with fail
  generalize (w1.alloc (.cells #[.int .i64 r.k, .int .i64 r.t, .int .i64 r.p, .int .i64 r.s, .int .i64 r.o, .int .i64 r.n, .int .i64 r.v, .int .i64 r.x] 24)) = w2 at *
  generalize w1.heap.size = rb at *
  refine (drawRecOk_any a' ms cap' w.heap.size _ B2.out.size (H'.out.below B2.out)).mono ?_
  rintro e w3 ⟨b3, q, rfl⟩
  have R4 := Lib.hid ((R2.out.below b3 R2.out.lt).alloc (.cells #[.int .i64 q.k, .int .i64 q.t, .int .i64 q.p, .int .i64 q.s, .int .i64 q.o, .int .i64 q.n, .int .i64 q.v, .int .i64 q.x] 24))
  have Q4 := Lib.hid (Has.new w3 24 #[.int .i64 q.k, .int .i64 q.t, .int .i64 q.p, .int .i64 q.s, .int .i64 q.o, .int .i64 q.n, .int .i64 q.v, .int .i64 q.x])
  have B3 := B2.out.trans (b3.mono B2.out.size)
  have B4 := Lib.hid (B3.alloc B3.size (.cells #[.int .i64 q.k, .int .i64 q.t, .int .i64 q.p, .int .i64 q.s, .int .i64 q.o, .int .i64 q.n, .int .i64 q.v, .int .i64 q.x] 24))
  have n3 : rb < w3.heap.size := (R2.out.below b3 R2.out.lt).lt
  clear b3 H' R2 B2 B3
  obtain ⟨c0, c1, c2, c3, c4, c5, c6, c7⟩ := eight R4.out
  go_wp2_with fail
  generalize (w3.alloc (.cells #[.int .i64 q.k, .int .i64 q.t, .int .i64 q.p, .int .i64 q.s, .int .i64 q.o, .int .i64 q.n, .int .i64 q.v, .int .i64 q.x] 24)) = w4 at *
  generalize w3.heap.size = qb at *
  refine (recText_any r _ (L.out.below B4.out)).mono ?_
  rintro e w5 ⟨rfl, b5⟩
  have R5 := Lib.hid (R4.out.below b5 R4.out.lt)
  have Q5 := Lib.hid (Q4.out.below b5 Q4.out.lt)
  have B5 := Lib.hid (B4.out.trans (b5.mono B4.out.size))
  clear b5 R4 Q4 B4 c0 c1 c2 c3 c4 c5 c6 c7
  obtain ⟨c0, c1, c2, c3, c4, c5, c6, c7⟩ := eight Q5.out
  go_wp2_with fail
  refine (recText_any q _ (L.out.below B5.out)).mono ?_
  rintro e w6 ⟨rfl, b6⟩
  have R6 := Lib.hid (R5.out.below b6 R5.out.lt)
  have Q6 := Lib.hid (Q5.out.below b6 Q5.out.lt)
  have B6 := Lib.hid (B5.out.trans (b6.mono B5.out.size))
  clear b6 R5 Q5 B5 c0 c1 c2 c3 c4 c5 c6 c7
  obtain ⟨c0, c1, c2, c3, c4, c5, c6, c7⟩ := eight R6.out
  go_wp2_with fail
  refine (specRecText_any r _).mono ?_
  rintro e w7 ⟨rfl, b7⟩
  have R7 := Lib.hid (R6.out.below b7 R6.out.lt)
  have Q7 := Lib.hid (Q6.out.below b7 Q6.out.lt)
  have B7 := Lib.hid (B6.out.trans (b7.mono B6.out.size))
  clear b7 R6 Q6 B6 c0 c1 c2 c3 c4 c5 c6 c7
  obtain ⟨c0, c1, c2, c3, c4, c5, c6, c7⟩ := eight R7.out
  obtain ⟨d0, d1, d2, d3, d4, d5, d6, d7⟩ := eight Q7.out
  cases hk : okR r
  · have Ht : Hid (textR r = []) := by show textR r = []; unfold textR; rw [hk]; rfl
    clear hk
    rw [Ht.out]
    go_wp2_with fail
    refine (specRecText_any r _).mono ?_
    rintro e w8 ⟨rfl, b8⟩
    have B8 := Lib.hid (B7.out.trans (b8.mono B7.out.size))
    rw [Ht.out]
    clear c0 c1 c2 c3 c4 c5 c6 c7 d0 d1 d2 d3 d4 d5 d6 d7 b8
    go_wp2
    go_ret
    exact ⟨ret_bool (by simp), B8.out⟩
  have Hk := Lib.hid hk
  have Ht : Hid (textR r = recT r) := by show textR r = recT r; unfold textR; rw [hk]; rfl
  clear hk
  rw [Ht.out]
  have hne : ¬ recT r = [] := recT_ne
  have hie : (recT r).isEmpty = false := by simpa using hne
  cases hk' : okR q
  · have Ht' : Hid (textR q = []) := by show textR q = []; unfold textR; rw [hk']; rfl
    clear hk'
    rw [Ht'.out]
    go_wp2_with fail
    refine (specRecText_any r _).mono ?_
    rintro e w8 ⟨rfl, b8⟩
    have B8 := Lib.hid (B7.out.trans (b8.mono B7.out.size))
    rw [Ht.out]
    clear c0 c1 c2 c3 c4 c5 c6 c7 d0 d1 d2 d3 d4 d5 d6 d7 b8
    go_wp2
    go_ret
    exact ⟨ret_bool (by simp), B8.out⟩
  have Hk' := Lib.hid hk'
  have Ht' : Hid (textR q = recT q) := by show textR q = recT q; unfold textR; rw [hk']; rfl
  clear hk'
  rw [Ht'.out]
  have hne' : ¬ recT q = [] := recT_ne
  have hie' : (recT q).isEmpty = false := by simpa using hne'
  by_cases hst : recT r = recT q
  · obtain rfl := recT_inj Hk.out Hk'.out hst
    have he := Lib.hid (eqR_refl r)
    clear hst
    go_wp2
    go_ret
    exact ⟨ret_bool (by have := he.out; simp [this]), B7.out⟩
  · have he : Hid (eqR r q = false) := by
      show eqR r q = false
      cases h : eqR r q
      · rfl
      · exact absurd ((recT_eq Hk.out Hk'.out).2 h) hst
    have bst : (recT r == recT q) = false := by rw [beq_eq_false_iff_ne]; exact hst
    go_wp2
    go_ret
    exact ⟨ret_bool (by have := he.out; simp_all), B7.out⟩

theorem own : ownKnob Tryd.prog.godebug = none := by kernel_rfl
theorem laidOut : laidOutB Tryd.prog = true := by kernel_rfl
theorem door_met (os : Os) (args : Array Value) : laidMetH Tryd.prog Rows.fnRecSameRow.laid ((World.doorLaid Tryd.prog 400 os).forCall (fun _ _ => 0) ⟨#[], args, []⟩).memory :=
  laidMetH_of_parts3 (fuel := 8) (laidMet_of_run' 8 (by kernel_rfl) (by kernel_rfl)) (by kernel_rfl) (by kernel_rfl)

set_option maxRecDepth 100000 in
theorem lifted (os : Os) (started : os.Started) (H : Type) (enc : TypeId × Value → H) :
    ReturnsInHanded {} Tryd.checked os 3 .any (fun w args => (Rows.fnRecSameSpec.pre enc Tryd.prog Tryd.f3 [] false w args ∧ laidMetH Tryd.prog Rows.fnRecSameRow.laid w) ∧ sizedMet enc Tryd.prog Tryd.f3 (OpenSpec.ofChange Rows.fnRecSameSpec) false w args)
      (Rows.fnRecSameSpec.post enc Tryd.prog Tryd.f3 false true false false) := by
  refine returnsInHanded_of_change_and (C := Tryd.checked) (X := fun w _ => laidMetH Tryd.prog Rows.fnRecSameRow.laid w) (fun _ _ _ hh h => h.of_heap hh) own started (by kernel_rfl) Tryd.func3
    (ChangeSpec.witness_shaped (enc := enc) (C := Tryd.checked) (os := os) (X := fun w _ => laidMetH Tryd.prog Rows.fnRecSameRow.laid w) false (World.doorLaid Tryd.prog 400 os) #[.slice none 0 0, .slice none 0 0] 8 rfl (World.shaped_of_RefB (by kernel_rfl) (by kernel_rfl)) (by kernel_rfl) (by kernel_rfl) (by kernel_rfl) (door_met os _)) ?_
  intro W base args ds gs before hval0 hW _ _ hL _
  have hval : ∀ (j : Nat) t v, Tryd.f3.params[j]? = some t → args[j]? = some v → Value.okWide Tryd.prog W .any base t v := hval0
  have hW' := hW
  obtain ⟨p, q, hA0, hV, rfl, hfz, hnd⟩ := hW
  have hA : DataW.TrodAll enc Tryd.prog W 0 (fun _ => true) true Tryd.f3.params.toList args.toList ds p := hA0
  rw [Tryd.params3] at hA hval
  obtain ⟨v0, vs0, d0, ds0, p0, q0, hargs, rfl, rfl, h0, r0⟩ := trodAll_cons hA
  obtain ⟨v1, vs1, d1, ds1, p1, q1, rfl, rfl, rfl, h1, r1⟩ := trodAll_cons r0
  obtain ⟨rfl, rfl, rfl⟩ := trodAll_nil r1
  obtain rfl : args = #[v0, v1] := by cases args; simp_all
  obtain ⟨g1, rfl⟩ := one_var hV
  have k0 := h0
  have k1 := h1
  have lt0 : ∀ x ∈ p0, x.block < W.heap.size := by obtain ⟨m, hm⟩ := k0; exact DataW.trod_lt m _ _ _ hm
  have lt1 : ∀ x ∈ p1, x.block < W.heap.size := by obtain ⟨m, hm⟩ := k1; exact DataW.trod_lt m _ _ _ hm
  obtain ⟨a, cs, cap, rfl, hc⟩ := openBytes Tryd.underlying22 Tryd.underlying5 (by kernel_rfl) (hval 0 22 v0 rfl rfl) h0
  obtain ⟨a', ms, cap', rfl, hc'⟩ := openBytes Tryd.underlying22 Tryd.underlying5 (by kernel_rfl) (hval 1 22 v1 rfl rfl) h1
  clear hA0 hval0
  refine (walk a cs cap a' ms cap' W hc hc' (laid_of hL)).mono fun e W' ⟨he, bel⟩ => ?_
  subst he
  exact ⟨_, rfl, _, _, _, _, _, _, hW', trodAll_mk1 (shut_bool Tryd.underlying4 _), (trodAll_cons_mk (Below.trod laidOut (by kernel_rfl) (of_decide_eq_true (by kernel_rfl)) k0 bel lt0) (trodAll_cons_mk (Below.trod laidOut (by kernel_rfl) (of_decide_eq_true (by kernel_rfl)) k1 bel lt1) trodAll_mk0)), Below.trodVars laidOut bel (by kernel_rfl) hV, bel.frame _, fun h => by cases h⟩

theorem row : Rows.FnRecSameSaid :=
  OpenClaim.holds_of_wide 3 Tryd.f3 rfl rfl rfl rfl rfl rfl rfl ⟨rfl, rfl, rfl, rfl, rfl⟩ rfl rfl rfl rfl rfl (by kernel_rfl) Tryd.func3 (by kernel_rfl)
    (of_decide_eq_true (by kernel_rfl)) (by unfold Func.isWrapper; first | (rw [if_pos (by decide +kernel)]; kernel_rfl) | (rw [if_neg (by decide +kernel)]; exact ⟨rfl, rfl⟩))
    (fun os started H enc _ => lifted os started H enc)

theorem proved : Rows.FnRecSameCardSaid :=
  Claim7.holds_tied_plain_at .later [] [.data, .data, .data, .data] true Rows.fnRecSameCard.stood.harness false
    row (fun _ h => by cases h) (by kernel_rfl) (fun _ h => by cases h) fnRecSame_row_tie rfl ⟨rfl, rfl⟩ (by kernel_rfl) rfl
    (fun f fn hf hfn => by
      obtain rfl : f = 3 := Option.some.inj ((show Tryd.prog.funcNamed Rows.fnRecSameRow.func = some 3 by kernel_rfl).symm.trans hf) |>.symm
      obtain rfl : fn = Tryd.f3 := (Option.some.inj (Tryd.func3.symm.trans hfn)).symm
      exact ⟨by kernel_rfl, fun j t ht => by
        rw [Tryd.params3] at ht
        have hm : t ∈ [22, 22] := by simpa using Array.mem_of_getElem? ht
        have hall : ([22, 22].all fun u => !Tryd.prog.wantsStandIn u) = true := by kernel_rfl
        exact (show Tryd.prog.wantsStandIn t = false by simpa using List.all_eq_true.1 hall t hm)⟩)
    (by kernel_rfl)
#print axioms proved
end Go.Proofs.YtcahmiklcjlkmaaDoor.FnRecSame

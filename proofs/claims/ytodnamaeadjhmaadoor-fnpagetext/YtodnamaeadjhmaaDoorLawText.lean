/-
  Proved: FnPageText returns true, whatever the codes: two valid pages have the same text just if they have the same owner and values; the text does not hang on the page's number, and has seven bytes. No conditions.
-/
import Derived.Test.YtodnamaeadjhmaaDoorOpen
import Derived.Test.YtodnamaeadjhmaaDoorText
import Derived.Test.YtodnamaeadjhmaaDoorLt
import Derived.Test.YtodnamaeadjhmaaDoorCards
import Derived.Test.YtodnamaeadjhmaaDoorTie
import Derived.ShutString
import Derived.ChangeOld
import Derived.LaidMore
import Derived.Stop.Joined
import Derived.SevenTiedAt
namespace Go.Proofs.YtodnamaeadjhmaaDoor.FnPageText
open Go.ChangeShapes Go.WideShapes Go.ChangeAt Go.RowKit Base
set_option linter.unusedVariables false

theorem dig_inj {a b : Nat} (ha : a < 10) (hb : b < 10) (h : dig a = dig b) : a = b := by
  have h1 : UInt8.ofNat (48 + a) = UInt8.ofNat (48 + b) := by simpa [dig] using h
  have h2 := congrArg UInt8.toNat h1
  simp at h2
  omega
theorem txt_inj {p x y z p' x' y' z' : Nat} (hp : p < 10) (hx : x < 10) (hy : y < 10) (hz : z < 10) (hp' : p' < 10) (hx' : x' < 10) (hy' : y' < 10) (hz' : z' < 10) (h : txt p x y z = txt p' x' y' z') : p = p' ∧ x = x' ∧ y = y' ∧ z = z' := by
  have h1 : dig p = dig p' ∧ dig x = dig x' ∧ dig y = dig y' ∧ dig z = dig z' := by simpa [txt, dig] using h
  exact ⟨dig_inj hp hp' h1.1, dig_inj hx hx' h1.2.1, dig_inj hy hy' h1.2.2.1, dig_inj hz hz' h1.2.2.2⟩
theorem txt_some (p x y z : Nat) : (txt p x y z).isEmpty = false := by simp [txt, dig]
theorem txt_ne (p x y z : Nat) : ¬ txt p x y z = [] := by simp [txt, dig]
theorem ok_lsn {l o : Int} {zs : List Int} (h : okP l o zs = true) : okP 0 o zs = true := by
  simp only [okP, okF, Bool.and_eq_true] at h ⊢
  exact ⟨h.1, by simp [inB], h.2.2⟩

set_option maxHeartbeats 4000000 in
theorem walk (a : Option Addr) (cs : List Int) (cap : Nat) (a' : Option Addr) (ms : List Int) (cap' : Nat) (w : World) (hc : Bytes w w.heap.size a cs cap) (hc' : Bytes w w.heap.size a' ms cap') :
    Calls Tryd.prog 3 #[.slice a cs.length cap, .slice a' ms.length cap'] w (Keeps (.bool true) w) := by
  have hm : cs.length ≤ maxLen := Nat.le_trans hc.fit hc.most
  have hm' : ms.length ≤ maxLen := Nat.le_trans hc'.fit hc'.most
  unfold maxLen at hm hm'
  have H := Lib.hid hc
  have M := Lib.hid hc'
  clear hc hc'
  by_cases hbig : (1048576 : Int) < cs.length
  · go_enter Tryd.func3, Tryd.ntmps3
    go_wp2
    go_ret
    exact ⟨rfl, Below.refl _ _⟩
  have bbig : decide ((1048576 : Int) < cs.length) = false := by simpa using hbig
  clear hbig
  by_cases hbig : (1048576 : Int) < ms.length
  · go_enter Tryd.func3, Tryd.ntmps3
    go_wp2
    go_ret
    exact ⟨rfl, Below.refl _ _⟩
  have bbig' : decide ((1048576 : Int) < ms.length) = false := by simpa using hbig
  clear hbig
  go_enter Tryd.func3, Tryd.ntmps3
  go_wp2_with fail
  refine (drawPageText_any a cs cap w.heap.size _ (Nat.le_refl _) H.out).mono ?_
  rintro e w1 ⟨⟨l, o, zs, g, q, c, rfl, hrd, hwr, hg, hc1, hc2, hsm⟩, b1⟩
  have n1 := b1.size
  have n2 := hwr.1
  have B1 := Lib.hid (b1.alloc n1 (.cells #[.int .i64 l, .int .i64 o, .slice (some ⟨g, q, none⟩) zs.length c] 25))
  have R1 := Lib.hid (hrd.below (below_one w1 (.cells #[.int .i64 l, .int .i64 o, .slice (some ⟨g, q, none⟩) zs.length c] 25)) n2)
  have q1 := Has.new w1 25 #[.int .i64 l, .int .i64 o, .slice (some ⟨g, q, none⟩) zs.length c]
  have n3 : w1.heap.size < (w1.alloc (.cells #[.int .i64 l, .int .i64 o, .slice (some ⟨g, q, none⟩) zs.length c] 25)).heap.size := by simp
  have Q1 := Lib.hid q1
  have mx : zs.length ≤ 1000000000 := by have := hsm.most; omega
  clear q1 b1 hrd hwr H
  go_wp2_with fail
  generalize (w1.alloc (.cells #[.int .i64 l, .int .i64 o, .slice (some ⟨g, q, none⟩) zs.length c] 25)) = w2 at *
  refine (pageText_any l o zs _ c w2.heap.size _ (Nat.le_refl _) (R1.out.ints (by omega)) hc1).mono ?_
  rintro e w3 ⟨rfl, b3⟩
  have n4 := b3.size
  have q3 := Q1.out.below b3 n3
  have B3 : Hid (Below w.heap.size w w3) := B1.out.trans (b3.mono (by omega))
  have R3 := Lib.hid (R1.out.below b3 (by omega))
  obtain ⟨c0, c1, c2⟩ := q3.three
  have Q3 := Lib.hid q3
  clear q3 b3 B1 R1 Q1
  have M3 := Lib.hid (M.out.below B3.out)
  clear M
  go_wp2_with fail
  refine (drawPageOk_any a' ms cap' w.heap.size _ (by omega) M3.out).mono ?_
  rintro e w4 ⟨⟨l', o', ys, g', q', c', rfl, hrd', hwr', hg', hc1', hc2', hsm'⟩, b4⟩
  have n5 := b4.size
  have n6 := hwr'.1
  have q4 := (Q3.out.below b4 (by omega)).alloc (.cells #[.int .i64 l', .int .i64 o', .slice (some ⟨g', q', none⟩) ys.length c'] 25)
  have p4 := Has.new w4 25 #[.int .i64 l', .int .i64 o', .slice (some ⟨g', q', none⟩) ys.length c']
  have B4 : Hid (Below w.heap.size w (w4.alloc (.cells #[.int .i64 l', .int .i64 o', .slice (some ⟨g', q', none⟩) ys.length c'] 25))) := (B3.out.trans (b4.mono (by omega))).alloc (by omega) _
  have R4 := Lib.hid ((R3.out.below b4 (by omega)).below (below_one w4 (.cells #[.int .i64 l', .int .i64 o', .slice (some ⟨g', q', none⟩) ys.length c'] 25)) (by omega))
  have S4 := Lib.hid (hrd'.below (below_one w4 (.cells #[.int .i64 l', .int .i64 o', .slice (some ⟨g', q', none⟩) ys.length c'] 25)) n6)
  have n7 : w4.heap.size < (w4.alloc (.cells #[.int .i64 l', .int .i64 o', .slice (some ⟨g', q', none⟩) ys.length c'] 25)).heap.size := by simp
  have mx' : ys.length ≤ 1000000000 := by have := hsm'.most; omega
  have Q4 := Lib.hid q4
  have P4 := Lib.hid p4
  clear q4 p4 b4 hrd' hwr' B3 R3 Q3 c0 c1 c2 M3
  go_wp2_with fail
  generalize (w4.alloc (.cells #[.int .i64 l', .int .i64 o', .slice (some ⟨g', q', none⟩) ys.length c'] 25)) = w5 at *
  refine (pageText_any l' o' ys _ c' w5.heap.size _ (Nat.le_refl _) (S4.out.ints (by omega)) hc1').mono ?_
  rintro e w6 ⟨rfl, b6⟩
  have n8 := b6.size
  have q6 := Q4.out.below b6 (by omega)
  have p6 := P4.out.below b6 (by omega)
  have B6 : Hid (Below w.heap.size w w6) := B4.out.trans (b6.mono (by omega))
  have R6 := Lib.hid (R4.out.below b6 (by omega))
  have S6 := Lib.hid (S4.out.below b6 (by omega))
  obtain ⟨c0, c1, c2⟩ := q6.three
  have Q6 := Lib.hid q6
  have P6 := Lib.hid p6
  clear q6 p6 b6 B4 R4 S4 Q4 P4
  go_wp2_with fail
  refine (specPageText_any l o zs _ c w6.heap.size _ (Nat.le_refl _) (R6.out.ints (by omega)) mx).mono ?_
  rintro e w7 ⟨rfl, b7⟩
  have n9 := b7.size
  have q7 := Q6.out.below b7 (by omega)
  have p7 := P6.out.below b7 (by omega)
  have B7 : Hid (Below w.heap.size w w7) := B6.out.trans (b7.mono (by omega))
  have R7 := Lib.hid (R6.out.below b7 (by omega))
  have S7 := Lib.hid (S6.out.below b7 (by omega))
  clear c0 c1 c2
  obtain ⟨c0, c1, c2⟩ := q7.three
  obtain ⟨d0, d1, d2⟩ := p7.three
  have Q7 := Lib.hid q7
  have P7 := Lib.hid p7
  clear q7 p7 b7 B6 R6 S6 Q6 P6
  cases hk : okP l o zs
  · have Ht : Hid (textP l o zs = []) := by show textP l o zs = []; unfold textP; rw [hk]; rfl
    clear hk
    rw [Ht.out]
    go_wp2_with fail
    refine (specPageText_any l o zs _ c w7.heap.size _ (Nat.le_refl _) (R7.out.ints (by omega)) mx).mono ?_
    rintro e w8 ⟨rfl, b8⟩
    have B8 : Hid (Below w.heap.size w w8) := B7.out.trans (b8.mono (by omega))
    rw [Ht.out]
    clear c0 c1 c2 d0 d1 d2 b8
    go_wp2
    go_ret
    exact ⟨ret_bool (by simp), B8.out⟩
  have Hk := Lib.hid hk
  obtain ⟨p, x, y, z, rfl, rfl, hp, hx, hy, hz'⟩ := ok_nat hk
  have Ht : Hid (textP l p [(x : Int), (y : Int), (z : Int)] = txt p x y z) := by show textP l p [(x : Int), (y : Int), (z : Int)] = txt p x y z; unfold textP; rw [hk]; rfl
  clear hk
  rw [Ht.out]
  have hne := txt_ne p x y z
  cases hk' : okP l' o' ys
  · have Ht' : Hid (textP l' o' ys = []) := by show textP l' o' ys = []; unfold textP; rw [hk']; rfl
    clear hk'
    rw [Ht'.out]
    go_wp2_with fail
    refine (specPageText_any l p [(x : Int), (y : Int), (z : Int)] _ c w7.heap.size _ (Nat.le_refl _) (R7.out.ints (by omega)) mx).mono ?_
    rintro e w8 ⟨rfl, b8⟩
    have B8 : Hid (Below w.heap.size w w8) := B7.out.trans (b8.mono (by omega))
    rw [Ht.out]
    clear c0 c1 c2 d0 d1 d2 b8
    go_wp2
    go_ret
    exact ⟨ret_bool (by simp), B8.out⟩
  have Hk' := Lib.hid hk'
  obtain ⟨p', x', y', z', rfl, rfl, hp', hx', hy', hz''⟩ := ok_nat hk'
  have Ht' : Hid (textP l' p' [(x' : Int), (y' : Int), (z' : Int)] = txt p' x' y' z') := by show textP l' p' [(x' : Int), (y' : Int), (z' : Int)] = txt p' x' y' z'; unfold textP; rw [hk']; rfl
  clear hk'
  rw [Ht'.out]
  have hne' := txt_ne p' x' y' z'
  have m1 : w1.heap.size < w7.heap.size := by omega
  have m4 : w4.heap.size < w7.heap.size := by omega
  have hie := txt_some p x y z
  have hie' := txt_some p' x' y' z'
  have b8 : Below w7.heap.size w7 (w7.alloc (.cells #[.int .i64 0, .int .i64 p, .slice (some ⟨g, q, none⟩) 3 c] 25)) := below_one _ _
  have B8 := Lib.hid (B7.out.alloc (by omega) (.cells #[.int .i64 0, .int .i64 p, .slice (some ⟨g, q, none⟩) 3 c] 25))
  have R8 := Lib.hid (R7.out.below b8 (by omega))
  have S8 := Lib.hid (S7.out.below b8 (by omega))
  have X8 := Lib.hid (Has.new w7 25 #[.int .i64 0, .int .i64 p, .slice (some ⟨g, q, none⟩) 3 c])
  have n10 : w7.heap.size < (w7.alloc (.cells #[.int .i64 0, .int .i64 p, .slice (some ⟨g, q, none⟩) 3 c] 25)).heap.size := by simp
  clear b8 B7 R7 S7 Q7 P7
  go_wp2_with fail
  generalize (w7.alloc (.cells #[.int .i64 0, .int .i64 p, .slice (some ⟨g, q, none⟩) 3 c] 25)) = w8 at *
  refine (ltHas_any l l' p p' [(x : Int), (y : Int), (z : Int)] [(x' : Int), (y' : Int), (z' : Int)] _ _ c c' w8.heap.size _ (Nat.le_refl _) (R8.out.ints (by omega)) (S8.out.ints (by omega)) mx mx').mono ?_
  rintro e w9 ⟨rfl, b9⟩
  have n11 := b9.size
  have x9 := X8.out.below b9 n10
  have B9 : Hid (Below w.heap.size w w9) := B8.out.trans (b9.mono (by omega))
  have R9 := Lib.hid (R8.out.below b9 (by omega))
  clear b9 B8 R8 S8 X8 c0 c1 c2 d0 d1 d2
  obtain ⟨c0, c1, c2⟩ := x9.three
  have X9 := Lib.hid x9
  clear x9
  have ht0 : textP 0 p [(x : Int), (y : Int), (z : Int)] = txt p x y z := by unfold textP; rw [ok_lsn Hk.out]; rfl
  have Ht0 := Lib.hid ht0
  clear ht0
  by_cases hst : txt p x y z = txt p' x' y' z'
  · obtain ⟨rfl, rfl, rfl, rfl⟩ := txt_inj (by omega) hx hy hz' (by omega) hx' hy' hz'' hst
    clear hst
    go_wp2_with fail
    refine (pageText_any 0 p [(x : Int), (y : Int), (z : Int)] _ c w9.heap.size _ (Nat.le_refl _) (R9.out.ints (by omega)) hc1).mono ?_
    rintro e w10 ⟨rfl, b10⟩
    have B10 : Hid (Below w.heap.size w w10) := B9.out.trans (b10.mono (by omega))
    clear b10 c0 c1 c2
    rw [Ht0.out]
    have hl := txt_len p x y z
    go_wp2
    go_ret
    exact ⟨ret_bool (by simp), B10.out⟩
  · have hdiff : (((p : Int) == (p' : Int)) && ([(x : Int), (y : Int), (z : Int)] == [(x' : Int), (y' : Int), (z' : Int)])) = false := by
      cases h : (((p : Int) == (p' : Int)) && ([(x : Int), (y : Int), (z : Int)] == [(x' : Int), (y' : Int), (z' : Int)]))
      · rfl
      · simp at h
        have h' : p = p' ∧ x = x' ∧ y = y' ∧ z = z' := by omega
        obtain ⟨rfl, rfl, rfl, rfl⟩ := h'
        exact absurd rfl hst
    rw [hdiff]
    clear hdiff
    have bst : (txt p x y z == txt p' x' y' z') = false := by rw [beq_eq_false_iff_ne]; exact hst
    go_wp2_with fail
    refine (pageText_any 0 p [(x : Int), (y : Int), (z : Int)] _ c w9.heap.size _ (Nat.le_refl _) (R9.out.ints (by omega)) hc1).mono ?_
    rintro e w10 ⟨rfl, b10⟩
    have B10 : Hid (Below w.heap.size w w10) := B9.out.trans (b10.mono (by omega))
    clear b10 c0 c1 c2
    rw [Ht0.out]
    have hl := txt_len p x y z
    go_wp2
    go_ret
    exact ⟨ret_bool (by simp), B10.out⟩

theorem own : ownKnob Tryd.prog.godebug = none := by kernel_rfl
theorem laidOut : laidOutB Tryd.prog = true := by kernel_rfl
theorem door_met (os : Os) (args : Array Value) : laidMetH Tryd.prog Rows.fnPageTextRow.laid ((World.doorLaid Tryd.prog 400 os).forCall (fun _ _ => 0) ⟨#[], args, []⟩).memory :=
  laidMetH_of_parts3 (fuel := 8) (laidMet_of_run' 8 (by kernel_rfl) (by kernel_rfl)) (by kernel_rfl) (by kernel_rfl)

set_option maxRecDepth 100000 in
theorem lifted (os : Os) (started : os.Started) (H : Type) (enc : TypeId × Value → H) :
    ReturnsInHanded {} Tryd.checked os 3 .any (fun w args => (Rows.fnPageTextSpec.pre enc Tryd.prog Tryd.f3 [] false w args ∧ laidMetH Tryd.prog Rows.fnPageTextRow.laid w) ∧ sizedMet enc Tryd.prog Tryd.f3 (OpenSpec.ofChange Rows.fnPageTextSpec) false w args)
      (Rows.fnPageTextSpec.post enc Tryd.prog Tryd.f3 false true false false) := by
  refine returnsInHanded_of_change_and (C := Tryd.checked) (X := fun w _ => laidMetH Tryd.prog Rows.fnPageTextRow.laid w) (fun _ _ _ hh h => h.of_heap hh) own started (by kernel_rfl) Tryd.func3
    (ChangeSpec.witness_shaped (enc := enc) (C := Tryd.checked) (os := os) (X := fun w _ => laidMetH Tryd.prog Rows.fnPageTextRow.laid w) false (World.doorLaid Tryd.prog 400 os) #[.slice none 0 0, .slice none 0 0] 8 rfl (World.shaped_of_RefB (by kernel_rfl) (by kernel_rfl)) (by kernel_rfl) (by kernel_rfl) (by kernel_rfl) (door_met os _)) ?_
  intro W base args ds gs before hval0 hW _ _ hL _
  have hval : ∀ (j : Nat) t v, Tryd.f3.params[j]? = some t → args[j]? = some v → Value.okWide Tryd.prog W .any base t v := hval0
  have hW' := hW
  obtain ⟨p, q, hA0, hV, rfl, hfz, hnd⟩ := hW
  have hA : DataW.TrodAll enc Tryd.prog W 0 (fun _ => true) true Tryd.f3.params.toList args.toList ds p := hA0
  rw [Tryd.params3] at hA hval
  obtain ⟨v0, vs0, d0, ds0, p0, q0, hargs, rfl, rfl, h0, r0⟩ := trodAll_cons hA
  obtain ⟨v1, vs1, d1, ds1, p1, q1, rfl, rfl, rfl, h1, r1⟩ := trodAll_cons r0
  obtain ⟨rfl, rfl, rfl⟩ := trodAll_nil r1
  obtain rfl : args = #[v0, v1] := by cases args; simp_all
  obtain ⟨rfl, rfl⟩ := trodVars_none hV
  have k0 := h0
  have k1 := h1
  have lt0 : ∀ x ∈ p0, x.block < W.heap.size := by obtain ⟨m, hm⟩ := k0; exact DataW.trod_lt m _ _ _ hm
  have lt1 : ∀ x ∈ p1, x.block < W.heap.size := by obtain ⟨m, hm⟩ := k1; exact DataW.trod_lt m _ _ _ hm
  obtain ⟨a, cs, cap, rfl, hc⟩ := openBytes Tryd.underlying22 Tryd.underlying5 (by kernel_rfl) (hval 0 22 v0 rfl rfl) h0
  obtain ⟨a', ms, cap', rfl, hc'⟩ := openBytes Tryd.underlying22 Tryd.underlying5 (by kernel_rfl) (hval 1 22 v1 rfl rfl) h1
  clear hA0 hval0
  refine (walk a cs cap a' ms cap' W hc hc').mono fun e W' ⟨he, bel⟩ => ?_
  subst he
  exact ⟨_, rfl, _, _, _, [], _, [], hW', trodAll_mk1 (shut_bool Tryd.underlying4 _), (trodAll_cons_mk (Below.trod laidOut (by kernel_rfl) (of_decide_eq_true (by kernel_rfl)) k0 bel lt0) (trodAll_cons_mk (Below.trod laidOut (by kernel_rfl) (of_decide_eq_true (by kernel_rfl)) k1 bel lt1) trodAll_mk0)), rfl, bel.frame _, fun h => by cases h⟩

theorem row : Rows.FnPageTextSaid :=
  OpenClaim.holds_of_wide 3 Tryd.f3 rfl rfl rfl rfl rfl rfl rfl ⟨rfl, rfl, rfl, rfl, rfl⟩ rfl rfl rfl rfl rfl (by kernel_rfl) Tryd.func3 (by kernel_rfl)
    (of_decide_eq_true (by kernel_rfl)) (by unfold Func.isWrapper; first | (rw [if_pos (by decide +kernel)]; kernel_rfl) | (rw [if_neg (by decide +kernel)]; exact ⟨rfl, rfl⟩))
    (fun os started H enc _ => lifted os started H enc)

theorem proved : Rows.FnPageTextCardSaid :=
  Claim7.holds_tied_plain_at .later [] [.data, .data, .data] true Rows.fnPageTextCard.stood.harness false
    row (fun _ h => by cases h) (by kernel_rfl) (fun _ h => by cases h) fnPageText_row_tie rfl ⟨rfl, rfl⟩ (by kernel_rfl) rfl
    (fun f fn hf hfn => by
      obtain rfl : f = 3 := Option.some.inj ((show Tryd.prog.funcNamed Rows.fnPageTextRow.func = some 3 by kernel_rfl).symm.trans hf) |>.symm
      obtain rfl : fn = Tryd.f3 := (Option.some.inj (Tryd.func3.symm.trans hfn)).symm
      exact ⟨by kernel_rfl, fun j t ht => by
        rw [Tryd.params3] at ht
        have hm : t ∈ [22, 22] := by simpa using Array.mem_of_getElem? ht
        have hall : ([22, 22].all fun u => !Tryd.prog.wantsStandIn u) = true := by kernel_rfl
        exact (show Tryd.prog.wantsStandIn t = false by simpa using List.all_eq_true.1 hall t hm)⟩)
    (by kernel_rfl)
#print axioms proved
end Go.Proofs.YtodnamaeadjhmaaDoor.FnPageText

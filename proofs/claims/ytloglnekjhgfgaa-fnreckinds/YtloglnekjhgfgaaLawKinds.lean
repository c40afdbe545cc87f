/-
  Proved: FnRecKinds returns true, whatever the codes: RecDo answers as its model, and what changes no page is not done to one. No conditions.
-/
import Derived.Test.YtloglnekjhgfgaaDoI
import Derived.Test.YtloglnekjhgfgaaDoS2
import Derived.Test.YtloglnekjhgfgaaDrawDo
import Derived.Test.YtloglnekjhgfgaaLtP
import Derived.Test.YtloglnekjhgfgaaOpen
import Derived.Deep.RegionHeld3
import Derived.OpenShut
import Derived.ShutString
import Derived.ChangeOld
namespace Go.Proofs.Ytloglnekjhgfgaa.FnRecKinds
open Go.ChangeShapes Go.WideShapes Go.ChangeAt Go.RowKit Base
set_option linter.unusedVariables false

theorem idle (l o : Int) (zs : List Int) (r : R) (n : Int) (h : chg r.k = false) : doB l o zs r n = false := by
  simp [doB, h]
theorem far (l o : Int) (zs : List Int) (r : R) : doB l o zs r 151 = false := by
  have hi : inB 151 (l + 1) 150 = false := by simp [inB]
  simp [doB, hi]

set_option maxRecDepth 100000 in
set_option maxHeartbeats 8000000 in
theorem walk (a : Option Addr) (cs : List Int) (cap : Nat) (a' : Option Addr) (ms : List Int) (cap' : Nat) (w : World) (hc : Bytes w w.heap.size a cs cap) (hc' : Bytes w w.heap.size a' ms cap') :
    Calls Try.prog 9 #[.slice a cs.length cap, .slice a' ms.length cap'] w (Keeps (.bool true) w) := by
  have hm : cs.length ≤ maxLen := Nat.le_trans hc.fit hc.most
  have hm' : ms.length ≤ maxLen := Nat.le_trans hc'.fit hc'.most
  unfold maxLen at hm hm'
  have H := Lib.hid hc
  clear hc hc'
  by_cases hbig : (1048576 : Int) < cs.length
  · go_enter Try.func9, Try.ntmps9
    go_wp2
    go_ret
    exact ⟨rfl, Below.refl _ _⟩
  have bbig : decide ((1048576 : Int) < cs.length) = false := by simpa using hbig
  clear hbig
  by_cases hbig : (1048576 : Int) < ms.length
  · go_enter Try.func9, Try.ntmps9
    go_wp2
    go_ret
    exact ⟨rfl, Below.refl _ _⟩
  have bbig' : decide ((1048576 : Int) < ms.length) = false := by simpa using hbig
  clear hbig
  go_enter Try.func9, Try.ntmps9
  go_wp2_with fail
  refine (drawRecDo_any a cs cap w.heap.size _ (Nat.le_refl _) H.out).mono ?_
  rintro e w1 ⟨b1, l, o, zs, g, q, c, r, lsn, rfl, hrd, hwr, hg, hc1, hc2, hsm, ll, lh⟩
  have ng := hwr.1
  have ls : LS w ((w1.alloc (.cells #[.int .i64 l, .int .i64 o, .slice (some ⟨g, q, none⟩) zs.length c] 30)).alloc (.cells #[.int .i64 r.k, .int .i64 r.t, .int .i64 r.p, .int .i64 r.s, .int .i64 r.o, .int .i64 r.n, .int .i64 r.v, .int .i64 r.x] 24)) w1.heap.size l o zs g q c r := by
    have hx := Has.new (w1.alloc (.cells #[.int .i64 l, .int .i64 o, .slice (some ⟨g, q, none⟩) zs.length c] 30)) 24 #[.int .i64 r.k, .int .i64 r.t, .int .i64 r.p, .int .i64 r.s, .int .i64 r.o, .int .i64 r.n, .int .i64 r.v, .int .i64 r.x]
    rw [World.size_alloc] at hx
    exact ⟨(Has.new w1 _ _).alloc _, hx, (hrd.below (below_one _ _) ng).below (below_one _ _) (by simp; omega), ⟨hg, ng⟩, (b1.alloc (by have := b1.size; omega) _).alloc (by have := b1.size; simp; omega) _⟩
  have L := Lib.hid ls
  have mx : zs.length ≤ 1000000000 := by have := hsm.most; omega
  have lb := hsm.lsn
  clear b1 hrd hwr H ls hsm
  go_wp2_with fail
  generalize ((w1.alloc (.cells #[.int .i64 l, .int .i64 o, .slice (some ⟨g, q, none⟩) zs.length c] 30)).alloc (.cells #[.int .i64 r.k, .int .i64 r.t, .int .i64 r.p, .int .i64 r.s, .int .i64 r.o, .int .i64 r.n, .int .i64 r.v, .int .i64 r.x] 24)) = w2 at *
  generalize w1.heap.size = pb at *
  have nl : pb + 1 < w2.heap.size := L.out.lt
  refine (specRecDo_any l o zs _ c w2.heap.size r lsn _ (Nat.le_refl _) L.out.ints mx).mono ?_
  rintro e w3 h3
  obtain ⟨u1, l1, o1, a1, n1, c1, us1, rfl, g1⟩ := h3.got rfl
  have L3 := Lib.hid (L.out.below h3.kept)
  obtain rfl := g1.val
  have n3 : pb + 1 < w3.heap.size := L3.out.lt
  have n3' : pb < w3.heap.size := by omega
  have m3 := h3.kept.size
  have G1 := Lib.hid (g1.below (below_one w3 (.cells #[.int .i64 l1, .int .i64 o1, .slice a1 n1 c1] 30)))
  have W4 := Lib.hid (Has.new w3 30 #[.int .i64 l1, .int .i64 o1, .slice a1 n1 c1])
  have L4 := Lib.hid (L3.out.alloc (.cells #[.int .i64 l1, .int .i64 o1, .slice a1 n1 c1] 30))
  obtain ⟨a0, a1', a2⟩ := L3.out.page.three
  obtain ⟨c0, c1', c2, c3, c4, c5, c6, c7⟩ := eight L3.out.rcd
  clear h3 g1 L L3
  go_wp2_with fail
  have m4 : (w3.alloc (.cells #[.int .i64 l1, .int .i64 o1, .slice a1 n1 c1] 30)).heap.size = w3.heap.size + 1 := by simp
  generalize (w3.alloc (.cells #[.int .i64 l1, .int .i64 o1, .slice a1 n1 c1] 30)) = w4 at *
  clear a0 a1' a2 c0 c1' c2 c3 c4 c5 c6 c7
  refine (recDo_any l o zs _ c w4.heap.size r lsn _ (Nat.le_refl _) L4.out.ints hc1).mono ?_
  rintro e w5 h5
  obtain ⟨u2, l2, o2, a2, n2, c2, us2, rfl, g2⟩ := h5.got rfl
  obtain rfl := g2.val
  have m5 := h5.kept.size
  have ob : Below w5.heap.size w5 (w5.alloc (.cells #[.int .i64 l2, .int .i64 o2, .slice a2 n2 c2] 30)) := below_one _ _
  have G1' := Lib.hid ((G1.out.below h5.kept).below ob)
  have G2 := Lib.hid (g2.below ob)
  have W6 := Lib.hid ((W4.out.below h5.kept (by omega)).below ob (by omega))
  have V6 := Lib.hid (Has.new w5 30 #[.int .i64 l2, .int .i64 o2, .slice a2 n2 c2])
  have L6 := Lib.hid ((L4.out.below h5.kept).below ob)
  have m6 : (w5.alloc (.cells #[.int .i64 l2, .int .i64 o2, .slice a2 n2 c2] 30)).heap.size = w5.heap.size + 1 := by simp
  clear h5 g2 ob G1 W4 L4
  go_upto_region 6 with (fail)
  generalize (w5.alloc (.cells #[.int .i64 l2, .int .i64 o2, .slice a2 n2 c2] 30)) = w6 at *
  generalize w5.heap.size = xb at *
  generalize w3.heap.size = wb at *
  have HS := Lib.hid (Got.same G2.out G1'.out)
  have sm1 := G1'.out.small
  have sm2 := G2.out.small
  obtain ⟨p0, p1, p2⟩ := V6.out.three
  obtain ⟨q0, q1, q2⟩ := W6.out.three
  have nx : xb < w6.heap.size := V6.out.lt
  have nw : wb < w6.heap.size := W6.out.lt
  have np : pb + 1 < w6.heap.size := L6.out.lt
  cases hd : doB l o zs r lsn
  all_goals
    clear hd
    go_wp2_with fail
    refine (ltPage_any l2 l1 o2 o1 us2 us1 a2 a1 n2 n1 c2 c1 w6.heap.size _ G2.out.len G1'.out.len (Nat.le_refl _) G2.out.ints G1'.out.ints (by omega) (by omega)).mono ?_
    rintro e w7 ⟨rfl, b7⟩
    rw [HS.out]
    have V7 := Lib.hid (V6.out.below b7 nx)
    have W7 := Lib.hid (W6.out.below b7 nw)
    have G7 := Lib.hid (G1'.out.below b7)
    have K7 := Lib.hid (G2.out.below b7)
    have L7 := Lib.hid (L6.out.below b7)
    have np7 : pb + 1 < w7.heap.size := L7.out.lt
    clear b7 p0 p1 p2 q0 q1 q2 G1' G2 V6 W6 L6 m3 m4 m5 m6 nl n3 n3'
    obtain ⟨d0, d1, d2⟩ := L7.out.page.three
    go_wp2_with fail
    refine (specPageOk_any l o zs _ c w7.heap.size _ (Nat.le_refl _) L7.out.ints mx).mono ?_
    rintro e w8 ⟨rfl, b8⟩
    have V8 := Lib.hid (V7.out.below b8 V7.out.lt)
    have W8 := Lib.hid (W7.out.below b8 W7.out.lt)
    have G8 := Lib.hid (G7.out.below b8)
    have K8 := Lib.hid (K7.out.below b8)
    have L8 := Lib.hid (L7.out.below b8)
    clear b8 d0 d1 d2 V7 W7 G7 K7 L7 np7 nx nw np
    cases hp : okP l o zs
    · clear hp
      obtain ⟨p0, p1, p2⟩ := V8.out.three
      obtain ⟨q0, q1, q2⟩ := W8.out.three
      go_wp2_with fail
      refine (ltPage_any l2 l1 o2 o1 us2 us1 a2 a1 n2 n1 c2 c1 w8.heap.size _ K8.out.len G8.out.len (Nat.le_refl _) K8.out.ints G8.out.ints (by omega) (by omega)).mono ?_
      rintro e w9 ⟨rfl, b9⟩
      rw [HS.out]
      have L9 := Lib.hid (L8.out.below b9)
      clear b9 p0 p1 p2 q0 q1 q2 G8 K8 V8 W8 L8
      go_wp2
      go_ret
      exact ⟨rfl, L9.out.kept⟩
    clear hp V8 W8 G8 K8 HS sm1 sm2
    have L9 := Lib.hid (L8.out.alloc (.cells #[.int .i64 3, .int .i64 4, .int .i64 5] 3))
    have K9 := Lib.hid (Has.new w8 3 #[.int .i64 3, .int .i64 4, .int .i64 5])
    clear L8
    go_wp2_with fail
    generalize (w8.alloc (.cells #[.int .i64 3, .int .i64 4, .int .i64 5] 3)) = w9 at *
    generalize w8.heap.size = kb at *
    go_loopw [70] (fun i wx => ∃ t : Nat, t ≤ 3 ∧ i = .int .i64 t ∧ LS w wx pb l o zs g q c r ∧ Has wx kb 3 #[.int .i64 3, .int .i64 4, .int .i64 5]) (fun i _ => 3 - (intOf i).toNat)
    case atStart => exact ⟨0, by omega, rfl, L9.out, K9.out⟩
    case round =>
      obtain ⟨t, ht, rfl, hL, hK⟩ := hrel
      have Lr := Lib.hid hL
      have Kr := Lib.hid hK
      have kc := hK.cell
      obtain ⟨d0, d1, d2⟩ := hL.page.three
      have npr : pb + 1 < wr.heap.size := hL.lt
      clear hL hK L9 K9
      match t, ht with
      | 0, _ =>
        have kt := kc 0
        simp at kt
        clear kc
        go_wp2_with fail
        refine (recDo_any l o zs _ c wr.heap.size ⟨3, 1 + (ms.length : Int) % 3, 0, 0, 0, 0, 0, 0⟩ (l + 1) _ (Nat.le_refl _) Lr.out.ints hc1).mono ?_
        rintro e wn hn
        rw [idle l o zs ⟨3, 1 + (ms.length : Int) % 3, 0, 0, 0, 0, 0, 0⟩ _ (by simp [chg])] at hn
        have kn := hn.kept
        obtain rfl := hn.no rfl
        have Ln := Lib.hid ((Lr.out.below kn).alloc (.cells #[.int .i64 0, .int .i64 0, .slice none 0 0] 30))
        have Kn := Lib.hid ((Kr.out.below kn (Kr.out.lt)).alloc (.cells #[.int .i64 0, .int .i64 0, .slice none 0 0] 30))
        clear hn kn d0 d1 d2 kt Lr Kr
        go_wp2_with fail
        exact ⟨⟨1, by omega, by go_num, Ln.out, Kn.out⟩, by simp [intOf]⟩
      | 1, _ =>
        have kt := kc 1
        simp at kt
        clear kc
        go_wp2_with fail
        refine (recDo_any l o zs _ c wr.heap.size ⟨4, 1 + (ms.length : Int) % 3, 0, 0, 0, 0, 0, 0⟩ (l + 1) _ (Nat.le_refl _) Lr.out.ints hc1).mono ?_
        rintro e wn hn
        rw [idle l o zs ⟨4, 1 + (ms.length : Int) % 3, 0, 0, 0, 0, 0, 0⟩ _ (by simp [chg])] at hn
        have kn := hn.kept
        obtain rfl := hn.no rfl
        have Ln := Lib.hid ((Lr.out.below kn).alloc (.cells #[.int .i64 0, .int .i64 0, .slice none 0 0] 30))
        have Kn := Lib.hid ((Kr.out.below kn (Kr.out.lt)).alloc (.cells #[.int .i64 0, .int .i64 0, .slice none 0 0] 30))
        clear hn kn d0 d1 d2 kt Lr Kr
        go_wp2_with fail
        exact ⟨⟨2, by omega, by go_num, Ln.out, Kn.out⟩, by simp [intOf]⟩
      | 2, _ =>
        have kt := kc 2
        simp at kt
        clear kc
        go_wp2_with fail
        refine (recDo_any l o zs _ c wr.heap.size ⟨5, 1 + (ms.length : Int) % 3, 0, 0, 0, 0, 0, 0⟩ (l + 1) _ (Nat.le_refl _) Lr.out.ints hc1).mono ?_
        rintro e wn hn
        rw [idle l o zs ⟨5, 1 + (ms.length : Int) % 3, 0, 0, 0, 0, 0, 0⟩ _ (by simp [chg])] at hn
        have kn := hn.kept
        obtain rfl := hn.no rfl
        have Ln := Lib.hid ((Lr.out.below kn).alloc (.cells #[.int .i64 0, .int .i64 0, .slice none 0 0] 30))
        have Kn := Lib.hid ((Kr.out.below kn (Kr.out.lt)).alloc (.cells #[.int .i64 0, .int .i64 0, .slice none 0 0] 30))
        clear hn kn d0 d1 d2 kt Lr Kr
        go_wp2_with fail
        exact ⟨⟨3, by omega, by go_num, Ln.out, Kn.out⟩, by simp [intOf]⟩
      | 3, _ =>
        clear kc
        obtain ⟨c0, c1', c2', c3, c4, c5, c6, c7⟩ := eight Lr.out.rcd
        go_wp2_with fail
        refine (recDo_any l o zs _ c wr.heap.size r 151 _ (Nat.le_refl _) Lr.out.ints hc1).mono ?_
        rintro e wn hn
        rw [far l o zs r] at hn
        have K := Lib.hid (Lr.out.below hn.kept).kept
        obtain rfl := hn.no rfl
        clear hn d0 d1 d2 c0 c1' c2' c3 c4 c5 c6 c7
        go_wp2
        go_ret
        exact ⟨rfl, K.out.alloc (by have := K.out.size; omega) _⟩

theorem own : ownKnob Try.prog.godebug = none := by kernel_rfl
theorem laidOut : laidOutB Try.prog = true := by kernel_rfl

set_option maxRecDepth 100000 in
theorem lifted (os : Os) (started : os.Started) (H : Type) (enc : TypeId × Value → H) :
    ReturnsInHanded {} Try.checked os 9 .any (Rows.fnRecKindsSpec.pre6 enc Try.prog Try.f9 Rows.fnRecKindsRow.domain false) (Rows.fnRecKindsSpec.post enc Try.prog Try.f9 false true false false) := by
  refine returnsInHanded_of_change (C := Try.checked) own started (by kernel_rfl) Try.func9
    (ChangeSpec.witness6 (enc := enc) (C := Try.checked) false ⟨#[], #[.slice none 0 0, .slice none 0 0], []⟩ 8 (by kernel_rfl) (by kernel_rfl) (by kernel_rfl) (by kernel_rfl)) ?_
  intro W base args ds gs before hval0 hW hcnd _
  have hval : ∀ (j : Nat) t v, Try.f9.params[j]? = some t → args[j]? = some v → Value.okWide Try.prog W .any base t v := hval0
  have hW' := hW
  obtain ⟨p, q, hA0, hV, rfl, hfz, hnd⟩ := hW
  have hA : DataW.TrodAll enc Try.prog W 0 (fun _ => true) true Try.f9.params.toList args.toList ds p := hA0
  rw [Try.params9] at hA hval
  obtain ⟨v0, vs0, d0, ds0, p0, q0, hargs, rfl, rfl, h0, r0⟩ := trodAll_cons hA
  obtain ⟨v1, vs1, d1, ds1, p1, q1, rfl, rfl, rfl, h1, r1⟩ := trodAll_cons r0
  obtain ⟨rfl, rfl, rfl⟩ := trodAll_nil r1
  obtain rfl : args = #[v0, v1] := by cases args; simp_all
  obtain ⟨rfl, rfl⟩ := trodVars_none hV
  have k0 := h0
  have k1 := h1
  have lt0 : ∀ x ∈ p0, x.block < W.heap.size := by obtain ⟨m, hm⟩ := k0; exact DataW.trod_lt m _ _ _ hm
  have lt1 : ∀ x ∈ p1, x.block < W.heap.size := by obtain ⟨m, hm⟩ := k1; exact DataW.trod_lt m _ _ _ hm
  obtain ⟨a, cs, cap, rfl, hc⟩ := openBytes Try.underlying22 Try.underlying5 (by kernel_rfl) (hval 0 22 v0 rfl rfl) h0
  obtain ⟨a', ms, cap', rfl, hc'⟩ := openBytes Try.underlying22 Try.underlying5 (by kernel_rfl) (hval 1 22 v1 rfl rfl) h1
  clear hA0 hval0
  refine (walk a cs cap a' ms cap' W hc hc').mono fun e W' ⟨he, bel⟩ => ?_
  subst he
  exact ⟨_, rfl, _, _, _, [], _, [], hW', trodAll_mk1 (shut_bool Try.underlying4 _), (trodAll_cons_mk (Below.trod laidOut (by kernel_rfl) (of_decide_eq_true (by kernel_rfl)) k0 bel lt0) (trodAll_cons_mk (Below.trod laidOut (by kernel_rfl) (of_decide_eq_true (by kernel_rfl)) k1 bel lt1) trodAll_mk0)), rfl, bel.frame _, fun h => by cases h⟩

theorem proved : Rows.FnRecKindsSaid :=
  OpenClaim.holds_of_wide 9 Try.f9 rfl rfl rfl rfl rfl rfl rfl ⟨rfl, rfl, rfl, rfl, rfl⟩ rfl rfl rfl rfl rfl (by kernel_rfl) Try.func9 (by kernel_rfl)
    (of_decide_eq_true (by kernel_rfl)) (by unfold Func.isWrapper; first | (rw [if_pos (by decide +kernel)]; kernel_rfl) | (rw [if_neg (by decide +kernel)]; exact ⟨rfl, rfl⟩))
    (fun os started H enc _ => lifted os started H enc)
#print axioms proved
end Go.Proofs.Ytloglnekjhgfgaa.FnRecKinds

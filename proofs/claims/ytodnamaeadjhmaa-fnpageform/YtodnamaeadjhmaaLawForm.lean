/-
  Proved: FnPageForm returns true, whatever the codes: a valid page with no owner is valid just if it is empty; with one slot less, or with a value that is too great, a page is invalid; a new page is valid. No conditions.
-/
import Derived.Test.YtodnamaeadjhmaaOpen
import Derived.Deep.RegionHeld3
import Derived.Test.YtodnamaeadjhmaaAppend
import Derived.ShutString
import Derived.ChangeOld
namespace Go.Proofs.Ytodnamaeadjhmaa.FnPageForm
open Go.ChangeShapes Go.WideShapes Go.ChangeAt Go.RowKit Base
set_option linter.unusedVariables false

/-- the four pages that are asked, where they lie -/
structure Env (w W : World) (a1 a2 a3 a4 : Nat) (l o : Int) (g q g5 cap5 : Nat) (zs ys us : List Int) : Prop where
  X : Has W a1 25 #[.int .i64 l, .int .i64 0, .slice (some ⟨g, q, none⟩) 3 3]
  Y : Has W a2 25 #[.int .i64 l, .int .i64 o, .slice (some ⟨g, q + 1, none⟩) 2 2]
  Z : Has W a3 25 #[.int .i64 l, .int .i64 o, .slice (some ⟨g5, 0, none⟩) 3 cap5]
  P : Has W a4 25 #[.int .i64 l, .int .i64 o, .slice (some ⟨g, q, none⟩) 3 3]
  r1 : Rd .i64 W g q zs
  r2 : Rd .i64 W g (q + 1) ys
  r3 : Rd .i64 W g5 0 us
  lt1 : g < W.heap.size
  lt2 : g5 < W.heap.size
  kept : Below w.heap.size w W
  more : w.heap.size ≤ W.heap.size

/-- what is loaded of them -/
def Cells (W : World) (a1 a2 a3 a4 : Nat) (l o : Int) (g q g5 cap5 : Nat) : Prop :=
  ((W.cell? ⟨a1, 0, none⟩ = some (.int .i64 l) ∧ W.cell? ⟨a1, 1, none⟩ = some (.int .i64 0) ∧ W.cell? ⟨a1, 2, none⟩ = some (.slice (some ⟨g, q, none⟩) 3 3)) ∧
   (W.cell? ⟨a2, 0, none⟩ = some (.int .i64 l) ∧ W.cell? ⟨a2, 1, none⟩ = some (.int .i64 o) ∧ W.cell? ⟨a2, 2, none⟩ = some (.slice (some ⟨g, q + 1, none⟩) 2 2))) ∧
  (W.cell? ⟨a3, 0, none⟩ = some (.int .i64 l) ∧ W.cell? ⟨a3, 1, none⟩ = some (.int .i64 o) ∧ W.cell? ⟨a3, 2, none⟩ = some (.slice (some ⟨g5, 0, none⟩) 3 cap5)) ∧
   (W.cell? ⟨a4, 0, none⟩ = some (.int .i64 l) ∧ W.cell? ⟨a4, 1, none⟩ = some (.int .i64 o) ∧ W.cell? ⟨a4, 2, none⟩ = some (.slice (some ⟨g, q, none⟩) 3 3))

section
variable {w W W' : World} {a1 a2 a3 a4 : Nat} {l o : Int} {g q g5 cap5 : Nat} {zs ys us : List Int}
theorem Env.cells (h : Env w W a1 a2 a3 a4 l o g q g5 cap5 zs ys us) : Cells W a1 a2 a3 a4 l o g q g5 cap5 := ⟨⟨h.X.three, h.Y.three⟩, h.Z.three, h.P.three⟩
theorem Env.below (h : Env w W a1 a2 a3 a4 l o g q g5 cap5 zs ys us) (b : Below W.heap.size W W') : Env w W' a1 a2 a3 a4 l o g q g5 cap5 zs ys us :=
  ⟨h.X.below b h.X.lt, h.Y.below b h.Y.lt, h.Z.below b h.Z.lt, h.P.below b h.P.lt, h.r1.below b h.lt1, h.r2.below b h.lt1, h.r3.below b h.lt2, Nat.lt_of_lt_of_le h.lt1 b.size, Nat.lt_of_lt_of_le h.lt2 b.size, h.kept.trans (b.mono h.more), Nat.le_trans h.more b.size⟩
theorem Env.drew (h : Env w W a1 a2 a3 a4 l o g q g5 cap5 zs ys us) : Env w W.drew a1 a2 a3 a4 l o g q g5 cap5 zs ys us :=
  ⟨h.X, h.Y, h.Z, h.P, h.r1, h.r2, h.r3, h.lt1, h.lt2, h.kept.drew, h.more⟩
end

theorem pageOk_len (l o : Int) (zs : List Int) (a : Option Addr) (n cap B : Nat) (w : World) (hn : zs.length = n) (hB : B ≤ w.heap.size) (hz : Ints .i64 w B a zs) (hc : zs.length ≤ cap) :
    Calls Try.prog 9 #[pageV l o a n cap] w (Keeps (.bool (okP l o zs)) w) := by
  subst hn
  exact pageOk_any l o zs a cap B w hB hz hc
theorem pageEmpty_len (l o : Int) (zs : List Int) (a : Option Addr) (n cap B : Nat) (w : World) (hn : zs.length = n) (hB : B ≤ w.heap.size) (hz : Ints .i64 w B a zs) (hc : zs.length ≤ cap) :
    Calls Try.prog 11 #[pageV l o a n cap] w (Keeps (.bool (okP l o zs && zerosB zs)) w) := by
  subst hn
  exact pageEmpty_any l o zs a cap B w hB hz hc
theorem set_bad (l o x y z : Int) (k : Nat) (hk : k < 3) : okP l o ([x, y, z].set k 10) = false := by
  match k, hk with
  | 0, _ => simp [okP, okF, inB]
  | 1, _ => simp [okP, okF, inB]
  | 2, _ => simp [okP, okF, inB]
theorem free_ok (l o x y z : Int) (h : okP l o [x, y, z] = true) : okP l 0 [x, y, z] = zerosB [x, y, z] := by
  simp [okP, okF, inB] at h
  rw [Bool.eq_iff_iff]
  simp [okP, okF, inB, zerosB]
  omega

set_option maxHeartbeats 4000000 in
theorem walk (a : Option Addr) (cs : List Int) (cap : Nat) (a' : Option Addr) (ms : List Int) (cap' : Nat) (w : World) (hc : Bytes w w.heap.size a cs cap) (hc' : Bytes w w.heap.size a' ms cap') :
    Calls Try.prog 3 #[.slice a cs.length cap, .slice a' ms.length cap'] w (Keeps (.bool true) w) := by
  have hm : cs.length ≤ maxLen := Nat.le_trans hc.fit hc.most
  have hm' : ms.length ≤ maxLen := Nat.le_trans hc'.fit hc'.most
  unfold maxLen at hm hm'
  have H := Lib.hid hc
  clear hc hc'
  by_cases hbig : (1048576 : Int) < cs.length
  · go_enter Try.func3, Try.ntmps3
    go_wp2
    go_ret
    exact ⟨rfl, Below.refl _ _⟩
  have bbig : decide ((1048576 : Int) < cs.length) = false := by simpa using hbig
  clear hbig
  by_cases hbig : (1048576 : Int) < ms.length
  · go_enter Try.func3, Try.ntmps3
    go_wp2
    go_ret
    exact ⟨rfl, Below.refl _ _⟩
  have bbig' : decide ((1048576 : Int) < ms.length) = false := by simpa using hbig
  clear hbig
  go_enter Try.func3, Try.ntmps3
  go_wp2_with fail
  refine (drawPageOk_any a cs cap w.heap.size _ (Nat.le_refl _) H.out).mono ?_
  rintro e w1 ⟨⟨l, o, zs, g, q, c, rfl, hrd, hwr, hg, hc1, hc2, hsm⟩, b1⟩
  have n1 := b1.size
  have n2 := hwr.1
  have B1 := Lib.hid (b1.alloc n1 (.cells #[.int .i64 l, .int .i64 o, .slice (some ⟨g, q, none⟩) zs.length c] 25))
  have R1 := Lib.hid (hrd.below (below_one w1 (.cells #[.int .i64 l, .int .i64 o, .slice (some ⟨g, q, none⟩) zs.length c] 25)) n2)
  have q1 := Has.new w1 25 #[.int .i64 l, .int .i64 o, .slice (some ⟨g, q, none⟩) zs.length c]
  have n3 : w1.heap.size < (w1.alloc (.cells #[.int .i64 l, .int .i64 o, .slice (some ⟨g, q, none⟩) zs.length c] 25)).heap.size := by simp
  have Q1 := Lib.hid q1
  have mx : zs.length ≤ 1000000000 := by have := hsm.most; omega
  clear q1 b1 hrd hwr H
  go_wp2_with fail
  generalize (w1.alloc (.cells #[.int .i64 l, .int .i64 o, .slice (some ⟨g, q, none⟩) zs.length c] 25)) = w2 at *
  refine (pageOk_any l o zs _ c w2.heap.size _ (Nat.le_refl _) (R1.out.ints (by omega)) hc1).mono ?_
  rintro e w3 ⟨rfl, b3⟩
  have n4 := b3.size
  have q3 := Q1.out.below b3 n3
  have B3 : Hid (Below w.heap.size w w3) := B1.out.trans (b3.mono (by omega))
  have R3 := Lib.hid (R1.out.below b3 (by omega))
  obtain ⟨c0, c1, c2⟩ := q3.three
  have Q3 := Lib.hid q3
  clear q3 b3 B1 R1 Q1
  cases hk : okP l o zs
  · have Hk := Lib.hid hk
    clear hk
    go_wp2_with fail
    refine (specPageOk_any l o zs _ c w3.heap.size _ (Nat.le_refl _) (R3.out.ints (by omega)) mx).mono ?_
    rintro e w4 ⟨rfl, b4⟩
    have n5 := b4.size
    have q4 := Q3.out.below b4 (by omega)
    have B4 : Hid (Below w.heap.size w w4) := B3.out.trans (b4.mono (by omega))
    have R4 := Lib.hid (R3.out.below b4 (by omega))
    rw [Hk.out]
    clear c0 c1 c2 b4 B3 R3 Q3
    obtain ⟨c0, c1, c2⟩ := q4.three
    clear q4
    go_wp2_with fail
    refine (specPageOk_any l o zs _ c w4.heap.size _ (Nat.le_refl _) (R4.out.ints (by omega)) mx).mono ?_
    rintro e w5 ⟨rfl, b5⟩
    have B5 : Hid (Below w.heap.size w w5) := B4.out.trans (b5.mono (by omega))
    rw [Hk.out]
    clear c0 c1 c2 b5
    go_wp2
    go_ret
    exact ⟨rfl, B5.out⟩
  have Hk := Lib.hid hk
  clear hk
  go_wp2_with fail
  refine (specPageOk_any l o zs _ c w3.heap.size _ (Nat.le_refl _) (R3.out.ints (by omega)) mx).mono ?_
  rintro e w4 ⟨rfl, b4⟩
  have n5 := b4.size
  have q4 := Q3.out.below b4 (by omega)
  have B4 : Hid (Below w.heap.size w w4) := B3.out.trans (b4.mono (by omega))
  have R4 := Lib.hid (R3.out.below b4 (by omega))
  rw [Hk.out]
  clear c0 c1 c2 b4 B3 R3 Q3
  obtain ⟨x, y, z, rfl⟩ : ∃ x y z, zs = [x, y, z] := by
    have h3 : zs.length = 3 := by
      cases h : (zs.length == 3)
      · have hk := Hk.out
        simp only [okP, h, Bool.false_and] at hk
        cases hk
      · simpa using h
    match zs, h3 with
    | [x, y, z], _ => exact ⟨x, y, z, rfl⟩
  simp only [List.length_cons, List.length_nil, Nat.zero_add, Nat.reduceAdd] at q4 hc1 ⊢
  obtain rfl : c = 3 := by omega
  obtain ⟨c0, c1, c2⟩ := q4.three
  have Q4 := Lib.hid q4
  clear q4 mx
  have d0 := R4.out 0 (by simp)
  have d1 := R4.out 1 (by simp)
  have d2 := R4.out 2 (by simp)
  simp at d0 d1 d2
  have n6 : g < w4.heap.size := by omega
  have n7 : w1.heap.size < w4.heap.size := by omega
  have n8 : w1.heap.size < w4.heap.size + 1 := by omega
  have n9 : w1.heap.size < w4.heap.size + 1 + 1 := by omega
  have n10 : w1.heap.size < w4.heap.size + 1 + 1 + 1 := by omega
  have b5 : Below w4.heap.size w4 ((((w4.alloc (.cells #[.int .i64 l, .int .i64 0, .slice (some ⟨g, q, none⟩) 3 3] 25)).alloc (.cells #[.int .i64 l, .int .i64 o, .slice (some ⟨g, q + 1, none⟩) 2 2] 25)).alloc (.cells #[.int .i64 l, .int .i64 o, .slice (some ⟨g, q, none⟩) 3 3] 25)).alloc (.cells #[] 3)) := ((((Below.refl w4.heap.size w4).alloc (Nat.le_refl _) _).alloc (by simp) _).alloc (by simp; omega) _).alloc (by simp; omega) _
  have hX : Has ((((w4.alloc (.cells #[.int .i64 l, .int .i64 0, .slice (some ⟨g, q, none⟩) 3 3] 25)).alloc (.cells #[.int .i64 l, .int .i64 o, .slice (some ⟨g, q + 1, none⟩) 2 2] 25)).alloc (.cells #[.int .i64 l, .int .i64 o, .slice (some ⟨g, q, none⟩) 3 3] 25)).alloc (.cells #[] 3)) w4.heap.size 25 #[.int .i64 l, .int .i64 0, .slice (some ⟨g, q, none⟩) 3 3] := (((Has.new w4 _ _).alloc _).alloc _).alloc _
  have hY : Has ((((w4.alloc (.cells #[.int .i64 l, .int .i64 0, .slice (some ⟨g, q, none⟩) 3 3] 25)).alloc (.cells #[.int .i64 l, .int .i64 o, .slice (some ⟨g, q + 1, none⟩) 2 2] 25)).alloc (.cells #[.int .i64 l, .int .i64 o, .slice (some ⟨g, q, none⟩) 3 3] 25)).alloc (.cells #[] 3)) (w4.heap.size + 1) 25 #[.int .i64 l, .int .i64 o, .slice (some ⟨g, q + 1, none⟩) 2 2] := by
    have := ((Has.new (w4.alloc (.cells #[.int .i64 l, .int .i64 0, .slice (some ⟨g, q, none⟩) 3 3] 25)) 25 #[.int .i64 l, .int .i64 o, .slice (some ⟨g, q + 1, none⟩) 2 2]).alloc (.cells #[.int .i64 l, .int .i64 o, .slice (some ⟨g, q, none⟩) 3 3] 25)).alloc (.cells #[] 3)
    simpa only [World.size_alloc] using this
  have hZ : Has ((((w4.alloc (.cells #[.int .i64 l, .int .i64 0, .slice (some ⟨g, q, none⟩) 3 3] 25)).alloc (.cells #[.int .i64 l, .int .i64 o, .slice (some ⟨g, q + 1, none⟩) 2 2] 25)).alloc (.cells #[.int .i64 l, .int .i64 o, .slice (some ⟨g, q, none⟩) 3 3] 25)).alloc (.cells #[] 3)) (w4.heap.size + 1 + 1) 25 #[.int .i64 l, .int .i64 o, .slice (some ⟨g, q, none⟩) 3 3] := by
    have := (Has.new ((w4.alloc (.cells #[.int .i64 l, .int .i64 0, .slice (some ⟨g, q, none⟩) 3 3] 25)).alloc (.cells #[.int .i64 l, .int .i64 o, .slice (some ⟨g, q + 1, none⟩) 2 2] 25)) 25 #[.int .i64 l, .int .i64 o, .slice (some ⟨g, q, none⟩) 3 3]).alloc (.cells #[] 3)
    simpa only [World.size_alloc] using this
  have hE : Has ((((w4.alloc (.cells #[.int .i64 l, .int .i64 0, .slice (some ⟨g, q, none⟩) 3 3] 25)).alloc (.cells #[.int .i64 l, .int .i64 o, .slice (some ⟨g, q + 1, none⟩) 2 2] 25)).alloc (.cells #[.int .i64 l, .int .i64 o, .slice (some ⟨g, q, none⟩) 3 3] 25)).alloc (.cells #[] 3)) (w4.heap.size + 1 + 1 + 1) 3 #[] := by
    have := Has.new (((w4.alloc (.cells #[.int .i64 l, .int .i64 0, .slice (some ⟨g, q, none⟩) 3 3] 25)).alloc (.cells #[.int .i64 l, .int .i64 o, .slice (some ⟨g, q + 1, none⟩) 2 2] 25)).alloc (.cells #[.int .i64 l, .int .i64 o, .slice (some ⟨g, q, none⟩) 3 3] 25)) 3 #[]
    simpa only [World.size_alloc] using this
  have hP := Q4.out.below b5 n7
  have hR := R4.out.below b5 n6
  have hW : Below w.heap.size w ((((w4.alloc (.cells #[.int .i64 l, .int .i64 0, .slice (some ⟨g, q, none⟩) 3 3] 25)).alloc (.cells #[.int .i64 l, .int .i64 o, .slice (some ⟨g, q + 1, none⟩) 2 2] 25)).alloc (.cells #[.int .i64 l, .int .i64 o, .slice (some ⟨g, q, none⟩) 3 3] 25)).alloc (.cells #[] 3)) := B4.out.trans (b5.mono (by omega))
  have HX := Lib.hid hX
  have HY := Lib.hid hY
  have HZ := Lib.hid hZ
  have HE := Lib.hid hE
  have HP := Lib.hid hP
  have HR := Lib.hid hR
  have HW := Lib.hid hW
  clear b5 hX hY hZ hE hP hR hW
  have i0 : 0 ≤ (ms.length : Int) % 3 := by omega
  have i1 : (ms.length : Int) % 3 < 3 := by omega
  obtain ⟨k, hk⟩ := Int.eq_ofNat_of_zero_le i0
  have Hk3 := Lib.hid hk
  have hk3 : k < 3 := by omega
  have hkk : (ms.length : Int) % 3 = k := hk
  clear hk i0 i1
  go_wp2_with ((at_builtin; refine wp_append_copy _ rfl (.tmp 42) (.tmp 44) rfl (w4.heap.size + 1 + 1 + 1) rfl HE.out [x, y, z] w4.heap.size _ 3 3 rfl rfl (HR.out.ints n6) (by simp) (by simp) ?_; intro g5 cap5 w5 cp; have gX := HX.out.grown cp.grown (fun e => by injection e; omega); have gY := HY.out.grown cp.grown (fun e => by injection e; omega); have gZ := HZ.out.grown cp.grown (fun e => by injection e; omega); have gP := HP.out.grown cp.grown (fun e => by injection e; omega); obtain ⟨z0, z1, z2⟩ := gZ.three; have fz := gZ.frozen 2; have e0 := cp.rd k (by simp; omega); have e1 := cp.wr.2 k (by simp; omega); rw [Nat.zero_add] at e0 e1; have hne : w4.heap.size + 1 + 1 ≠ g5 := (by have := cp.low; omega); have GX := Lib.hid gX; have GY := Lib.hid gY; have GZ := Lib.hid gZ; have GP := Lib.hid gP; have CP := Lib.hid cp; have lcp := cp.low; have hcap5 : 3 ≤ cap5 := cp.fit; clear gX gY gZ gP cp))
  have E6 : Hid (Env w ((w5.setCell ⟨w4.heap.size + 1 + 1, 2, none⟩ (.slice (some ⟨g5, 0, none⟩) 3 cap5)).setCell ⟨g5, k, none⟩ (.int .i64 10)) w4.heap.size (w4.heap.size + 1) (w4.heap.size + 1 + 1) w1.heap.size l o g q g5 cap5 [x, y, z] [y, z] ([x, y, z].set k 10)) := by
    have hgr := CP.out.grown
    have hg5 := CP.out.wr.1
    have hne1 : w4.heap.size ≠ w4.heap.size + 1 + 1 := by omega
    have hw5 := HW.out.trans (below_grown (B := w.heap.size) hgr (by omega) (by have := HW.out.size; omega))
    have e1' := e1
    refine ⟨(GX.out.far (by simp; omega) _).far (by simp; omega) _, (GY.out.far (by simp) _).far (by simp; omega) _, (GZ.out.set 2 _).far (by simp; omega) _, (GP.out.far (by simp; omega) _).far (by simp; omega) _, ?_, ?_, ?_, ?_, ?_, ?_, ?_⟩
    · have h1 := HR.out.grown hgr (by have := HE.out.lt; omega) (fun e => by injection e; omega)
      exact (h1.keep (Below.heap_setCell _ _ _ _ (by simp; omega))).keep (Below.heap_setCell _ _ _ _ (by simp; omega))
    · have h1 := HR.out.grown hgr (by have := HE.out.lt; omega) (fun e => by injection e; omega)
      have h2 := (h1.keep (w' := w5.setCell ⟨w4.heap.size + 1 + 1, 2, none⟩ (.slice (some ⟨g5, 0, none⟩) 3 cap5)) (Below.heap_setCell _ _ _ _ (by simp; omega))).keep (w' := (w5.setCell ⟨w4.heap.size + 1 + 1, 2, none⟩ (.slice (some ⟨g5, 0, none⟩) 3 cap5)).setCell ⟨g5, k, none⟩ (.int .i64 10)) (Below.heap_setCell _ _ _ _ (by simp; omega))
      intro j hj
      have h3 := h2 (j + 1) (by simp at hj ⊢; omega)
      rw [show q + 1 + j = q + (j + 1) by omega]
      exact h3
    · have h1 := CP.out.rd.keep (w' := w5.setCell ⟨w4.heap.size + 1 + 1, 2, none⟩ (.slice (some ⟨g5, 0, none⟩) 3 cap5)) (Below.heap_setCell _ _ _ _ (by simp; omega))
      intro j hj
      rw [List.length_set] at hj
      have h2 := cell_set _ g5 0 j k (.int .i64 10) _ (h1 k (by simp; omega))
      rw [Nat.zero_add k] at h2
      rw [h2, getD_set _ _ _ _ hj, h1 j hj]
      split <;> rfl
    · rw [size_set, size_set]
      have := HE.out.lt
      have := hgr.size
      omega
    · rw [size_set, size_set]
      exact hg5
    · exact (hw5.setCell (by simp; omega) _).setCell (by simp; omega) _
    · rw [size_set, size_set]
      have := hw5.size
      omega
  generalize ((w5.setCell ⟨w4.heap.size + 1 + 1, 2, none⟩ (.slice (some ⟨g5, 0, none⟩) 3 cap5)).setCell ⟨g5, k, none⟩ (.int .i64 10)) = w6 at *
  clear z0 z1 z2 fz e0 e1 hne lcp GX GY GZ GP CP HX HY HZ HE HP HR HW d0 d1 d2 c0 c1 c2 Q4 R4 B4 n8 n9 n10
  have hbad := set_bad l o x y z k hk3
  have hfree := free_ok l o x y z Hk.out
  have hshort : okP l o [y, z] = false := by simp [okP]
  have hnew : okP 0 0 [0, 0, 0] = true := by decide
  have hpe : (okP l o [x, y, z] && zerosB [x, y, z]) = zerosB [x, y, z] := by rw [Hk.out]; rfl
  have Hbad := Lib.hid hbad
  have Hfree := Lib.hid hfree
  have Hshort := Lib.hid hshort
  have Hnew := Lib.hid hnew
  have Hpe := Lib.hid hpe
  have Hlen : Hid (([x, y, z].set k 10).length = 3) := List.length_set
  have hfit5 : ([x, y, z].set k 10).length ≤ cap5 := by rw [Hlen.out]; exact hcap5
  clear hbad hfree hshort hnew hpe hkk Hk3
  generalize [x, y, z].set k 10 = us at *
  obtain ⟨⟨⟨x0, x1, x2⟩, y0, y1, y2⟩, ⟨z0, z1, z2⟩, p0, p1, p2⟩ := E6.out.cells
  cases hzb : zerosB [x, y, z]
  all_goals
    have Hzb := Lib.hid hzb
    clear hzb
    go_region_held3 (fun W => ((W.cell? ⟨w4.heap.size, 0, none⟩ = some (.int .i64 l) ∧ W.cell? ⟨w4.heap.size, 1, none⟩ = some (.int .i64 0) ∧ W.cell? ⟨w4.heap.size, 2, none⟩ = some (.slice (some ⟨g, q, none⟩) 3 3)) ∧
       (W.cell? ⟨w4.heap.size + 1, 0, none⟩ = some (.int .i64 l) ∧ W.cell? ⟨w4.heap.size + 1, 1, none⟩ = some (.int .i64 o) ∧ W.cell? ⟨w4.heap.size + 1, 2, none⟩ = some (.slice (some ⟨g, q + 1, none⟩) 2 2))) ∧
      (W.cell? ⟨w4.heap.size + 1 + 1, 0, none⟩ = some (.int .i64 l) ∧ W.cell? ⟨w4.heap.size + 1 + 1, 1, none⟩ = some (.int .i64 o) ∧ W.cell? ⟨w4.heap.size + 1 + 1, 2, none⟩ = some (.slice (some ⟨g5, 0, none⟩) 3 cap5)) ∧
       (W.cell? ⟨w1.heap.size, 0, none⟩ = some (.int .i64 l) ∧ W.cell? ⟨w1.heap.size, 1, none⟩ = some (.int .i64 o) ∧ W.cell? ⟨w1.heap.size, 2, none⟩ = some (.slice (some ⟨g, q, none⟩) 3 3))) (go_keep)
      (first
        | (go_at_call 9; (with_reducible refine (pageOk_len l 0 [x, y, z] (some ⟨g, q, none⟩) 3 3 w6.drew.heap.size w6.drew rfl (Nat.le_refl _) (E6.out.drew.r1.ints E6.out.drew.lt1) (Nat.le_refl _)).mono ?_); rintro e w7 ⟨rfl, b7⟩; have E7 := Lib.hid (E6.out.drew.below b7); rw [Hfree.out, Hzb.out]; obtain ⟨⟨⟨_, _, _⟩, _, _, _⟩, ⟨_, _, _⟩, _, _, _⟩ := E7.out.cells; clear b7)
        | (go_at_call 11; (with_reducible refine (pageEmpty_len l o [x, y, z] (some ⟨g, q, none⟩) 3 3 w7.heap.size w7 rfl (Nat.le_refl _) (E7.out.r1.ints E7.out.lt1) (Nat.le_refl _)).mono ?_); rintro e w8 ⟨rfl, b8⟩; have E8 := Lib.hid (E7.out.below b8); rw [Hpe.out, Hzb.out]; obtain ⟨⟨⟨_, _, _⟩, _, _, _⟩, ⟨_, _, _⟩, _, _, _⟩ := E8.out.cells; clear b8)
        | (go_at_call 9; (with_reducible refine (pageOk_len l o [y, z] (some ⟨g, q + 1, none⟩) 2 2 w8.heap.size w8 rfl (Nat.le_refl _) (E8.out.r2.ints E8.out.lt1) (Nat.le_refl _)).mono ?_); rintro e w9 ⟨rfl, b9⟩; have E9 := Lib.hid (E8.out.below b9); rw [Hshort.out]; obtain ⟨⟨⟨_, _, _⟩, _, _, _⟩, ⟨_, _, _⟩, _, _, _⟩ := E9.out.cells; clear b9)
        | (go_at_call 9; (with_reducible refine (pageOk_len l o us (some ⟨g5, 0, none⟩) 3 cap5 w9.heap.size w9 Hlen.out (Nat.le_refl _) (E9.out.r3.ints E9.out.lt2) hfit5).mono ?_); rintro e w10 ⟨rfl, b10⟩; have E10 := Lib.hid (E9.out.below b10); rw [Hbad.out]; obtain ⟨⟨⟨_, _, _⟩, _, _, _⟩, ⟨_, _, _⟩, _, _, _⟩ := E10.out.cells; clear b10)
        | (go_at_call 12; (with_reducible refine (pageNew_any w10).mono ?_); rintro e w11 ⟨g11, o11, rfl, b11, s11, r11, x11⟩; have E11 := Lib.hid (E10.out.below b11); have R11 := Lib.hid r11; have l11 := x11.1; obtain ⟨⟨⟨_, _, _⟩, _, _, _⟩, ⟨_, _, _⟩, _, _, _⟩ := E11.out.cells; clear b11 r11 x11)
        | (go_at_call 9; (with_reducible refine (pageOk_len 0 0 [0, 0, 0] (some ⟨g11, o11, none⟩) 3 3 w11.heap.size w11 rfl (Nat.le_refl _) (R11.out.ints l11) (Nat.le_refl _)).mono ?_); rintro e w12 ⟨rfl, b12⟩; have E12 := Lib.hid (E11.out.below b12); rw [Hnew.out]; obtain ⟨⟨⟨_, _, _⟩, _, _, _⟩, ⟨_, _, _⟩, _, _, _⟩ := E12.out.cells; clear b12))
    have K := Lib.hid E12.out.kept
    clear E6 E7 E8 E9 E10 E11 E12
    go_wp2
    go_ret
    exact ⟨rfl, K.out⟩

theorem own : ownKnob Try.prog.godebug = none := by kernel_rfl
theorem laidOut : laidOutB Try.prog = true := by kernel_rfl

set_option maxRecDepth 100000 in
theorem lifted (os : Os) (started : os.Started) (H : Type) (enc : TypeId × Value → H) :
    ReturnsInHanded {} Try.checked os 3 .any (Rows.fnPageFormSpec.pre6 enc Try.prog Try.f3 Rows.fnPageFormRow.domain false) (Rows.fnPageFormSpec.post enc Try.prog Try.f3 false true false false) := by
  refine returnsInHanded_of_change (C := Try.checked) own started (by kernel_rfl) Try.func3
    (ChangeSpec.witness6 (enc := enc) (C := Try.checked) false ⟨#[], #[.slice none 0 0, .slice none 0 0], []⟩ 8 (by kernel_rfl) (by kernel_rfl) (by kernel_rfl) (by kernel_rfl)) ?_
  intro W base args ds gs before hval0 hW hcnd _
  have hval : ∀ (j : Nat) t v, Try.f3.params[j]? = some t → args[j]? = some v → Value.okWide Try.prog W .any base t v := hval0
  have hW' := hW
  obtain ⟨p, q, hA0, hV, rfl, hfz, hnd⟩ := hW
  have hA : DataW.TrodAll enc Try.prog W 0 (fun _ => true) true Try.f3.params.toList args.toList ds p := hA0
  rw [Try.params3] at hA hval
  obtain ⟨v0, vs0, d0, ds0, p0, q0, hargs, rfl, rfl, h0, r0⟩ := trodAll_cons hA
  obtain ⟨v1, vs1, d1, ds1, p1, q1, rfl, rfl, rfl, h1, r1⟩ := trodAll_cons r0
  obtain ⟨rfl, rfl, rfl⟩ := trodAll_nil r1
  obtain rfl : args = #[v0, v1] := by cases args; simp_all
  obtain ⟨rfl, rfl⟩ := trodVars_none hV
  have k0 := h0
  have k1 := h1
  have lt0 : ∀ x ∈ p0, x.block < W.heap.size := by obtain ⟨m, hm⟩ := k0; exact DataW.trod_lt m _ _ _ hm
  have lt1 : ∀ x ∈ p1, x.block < W.heap.size := by obtain ⟨m, hm⟩ := k1; exact DataW.trod_lt m _ _ _ hm
  obtain ⟨a, cs, cap, rfl, hc⟩ := openBytes Try.underlying22 Try.underlying5 (by kernel_rfl) (hval 0 22 v0 rfl rfl) h0
  obtain ⟨a', ms, cap', rfl, hc'⟩ := openBytes Try.underlying22 Try.underlying5 (by kernel_rfl) (hval 1 22 v1 rfl rfl) h1
  clear hA0 hval0
  refine (walk a cs cap a' ms cap' W hc hc').mono fun e W' ⟨he, bel⟩ => ?_
  subst he
  exact ⟨_, rfl, _, _, _, [], _, [], hW', trodAll_mk1 (shut_bool Try.underlying4 _), (trodAll_cons_mk (Below.trod laidOut (by kernel_rfl) (of_decide_eq_true (by kernel_rfl)) k0 bel lt0) (trodAll_cons_mk (Below.trod laidOut (by kernel_rfl) (of_decide_eq_true (by kernel_rfl)) k1 bel lt1) trodAll_mk0)), rfl, bel.frame _, fun h => by cases h⟩

theorem proved : Rows.FnPageFormSaid :=
  OpenClaim.holds_of_wide 3 Try.f3 rfl rfl rfl rfl rfl rfl rfl ⟨rfl, rfl, rfl, rfl, rfl⟩ rfl rfl rfl rfl rfl (by kernel_rfl) Try.func3 (by kernel_rfl)
    (of_decide_eq_true (by kernel_rfl)) (by unfold Func.isWrapper; first | (rw [if_pos (by decide +kernel)]; kernel_rfl) | (rw [if_neg (by decide +kernel)]; exact ⟨rfl, rfl⟩))
    (fun os started H enc _ => lifted os started H enc)
#print axioms proved
end Go.Proofs.Ytodnamaeadjhmaa.FnPageForm

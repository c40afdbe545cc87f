/-
  Proved: FnPageCopy returns true, whatever the codes: the text of a valid page of a table changes with a value; of an invalid page it is empty. No conditions.
-/
import Derived.Test.YtodnamaeadjhmaaDoorOpen
import Derived.Test.YtodnamaeadjhmaaDoorText
import Derived.Test.YtodnamaeadjhmaaDoorLt
import Derived.Test.YtodnamaeadjhmaaDoorAppend
import Derived.Test.YtodnamaeadjhmaaDoorCards
import Derived.Test.YtodnamaeadjhmaaDoorTie
import Derived.ShutString
import Derived.ChangeOld
import Derived.LaidMore
import Derived.Stop.Joined
import Derived.SevenTiedAt
namespace Go.Proofs.YtodnamaeadjhmaaDoor.FnPageCopy
open Go.ChangeShapes Go.WideShapes Go.ChangeAt Go.RowKit Base
set_option linter.unusedVariables false

theorem dig_inj {a b : Nat} (ha : a < 10) (hb : b < 10) (h : dig a = dig b) : a = b := by
  have h1 : UInt8.ofNat (48 + a) = UInt8.ofNat (48 + b) := by simpa [dig] using h
  have h2 := congrArg UInt8.toNat h1
  simp at h2
  omega
theorem txt_inj {p x y z p' x' y' z' : Nat} (hp : p < 10) (hx : x < 10) (hy : y < 10) (hz : z < 10) (hp' : p' < 10) (hx' : x' < 10) (hy' : y' < 10) (hz' : z' < 10) (h : txt p x y z = txt p' x' y' z') : p = p' ∧ x = x' ∧ y = y' ∧ z = z' := by
  have h1 : dig p = dig p' ∧ dig x = dig x' ∧ dig y = dig y' ∧ dig z = dig z' := by simpa [txt, dig] using h
  exact ⟨dig_inj hp hp' h1.1, dig_inj hx hx' h1.2.1, dig_inj hy hy' h1.2.2.1, dig_inj hz hz' h1.2.2.2⟩
theorem txt_some (p x y z : Nat) : (txt p x y z).isEmpty = false := by simp [txt, dig]
theorem txt_ne (p x y z : Nat) : ¬ txt p x y z = [] := by simp [txt, dig]

theorem set_text (l : Int) (p x y z k : Nat) (hk : k < 3) (h : okP l p [(x : Int), (y : Int), (z : Int)] = true) (hp : 1 ≤ p) (hp4 : p < 4) (hx : x < 10) (hy : y < 10) (hz : z < 10) :
    ¬ textP l p ([(x : Int), (y : Int), (z : Int)].set k ((([(x : Int), (y : Int), (z : Int)].getD k 0) + 1) % 10)) = txt p x y z := by
  intro e
  have key : ∀ (x' y' z' : Nat), x' < 10 → y' < 10 → z' < 10 → textP l p [(x' : Int), (y' : Int), (z' : Int)] = txt p x' y' z' := fun x' y' z' h1 h2 h3 => by
    have hok : okP l p [(x' : Int), (y' : Int), (z' : Int)] = true := by
      simp [okP, okF, inB] at h ⊢
      omega
    unfold textP
    rw [hok]
    rfl
  match k, hk with
  | 0, _ =>
    have e1 : ((x : Int) + 1) % 10 = (((x + 1) % 10 : Nat) : Int) := by omega
    simp only [List.set_cons_zero, List.getD_cons_zero, e1] at e
    rw [key _ _ _ (by omega) hy hz] at e
    have := txt_inj (by omega) (by omega) hy hz (by omega) hx hy hz e
    omega
  | 1, _ =>
    have e1 : ((y : Int) + 1) % 10 = (((y + 1) % 10 : Nat) : Int) := by omega
    simp only [List.set_cons_succ, List.set_cons_zero, List.getD_cons_succ, List.getD_cons_zero, e1] at e
    rw [key _ _ _ hx (by omega) hz] at e
    have := txt_inj (by omega) hx (by omega) hz (by omega) hx hy hz e
    omega
  | 2, _ =>
    have e1 : ((z : Int) + 1) % 10 = (((z + 1) % 10 : Nat) : Int) := by omega
    simp only [List.set_cons_succ, List.set_cons_zero, List.getD_cons_succ, List.getD_cons_zero, e1] at e
    rw [key _ _ _ hx hy (by omega)] at e
    have := txt_inj (by omega) hx hy (by omega) (by omega) hx hy hz e
    omega
theorem bad_owner (l : Int) (zs : List Int) : textP l 4 zs = [] := by simp [textP, okP, okF, inB]
theorem pageText_len (l o : Int) (zs : List Int) (a : Option Addr) (n cap B : Nat) (w : World) (hn : zs.length = n) (hB : B ≤ w.heap.size) (hz : Ints .i64 w B a zs) (hc : zs.length ≤ cap) :
    Calls Tryd.prog 7 #[pageV l o a n cap] w (Keeps (.string ⟨(textP l o zs).toArray⟩) w) := by
  subst hn
  exact pageText_any l o zs a cap B w hB hz hc

set_option maxHeartbeats 4000000 in
theorem walk (a : Option Addr) (cs : List Int) (cap : Nat) (a' : Option Addr) (ms : List Int) (cap' : Nat) (w : World) (hc : Bytes w w.heap.size a cs cap) (hc' : Bytes w w.heap.size a' ms cap') :
    Calls Tryd.prog 4 #[.slice a cs.length cap, .slice a' ms.length cap'] w (Keeps (.bool true) w) := by
  have hm : cs.length ≤ maxLen := Nat.le_trans hc.fit hc.most
  have hm' : ms.length ≤ maxLen := Nat.le_trans hc'.fit hc'.most
  unfold maxLen at hm hm'
  have H := Lib.hid hc
  clear hc hc'
  by_cases hbig : (1048576 : Int) < cs.length
  · go_enter Tryd.func4, Tryd.ntmps4
    go_wp2
    go_ret
    exact ⟨rfl, Below.refl _ _⟩
  have bbig : decide ((1048576 : Int) < cs.length) = false := by simpa using hbig
  clear hbig
  by_cases hbig : (1048576 : Int) < ms.length
  · go_enter Tryd.func4, Tryd.ntmps4
    go_wp2
    go_ret
    exact ⟨rfl, Below.refl _ _⟩
  have bbig' : decide ((1048576 : Int) < ms.length) = false := by simpa using hbig
  clear hbig
  go_enter Tryd.func4, Tryd.ntmps4
  go_wp2_with fail
  refine (drawPageText_any a cs cap w.heap.size _ (Nat.le_refl _) H.out).mono ?_
  rintro e w1 ⟨⟨l, o, zs, g, q, c, rfl, hrd, hwr, hg, hc1, hc2, hsm⟩, b1⟩
  have n1 := b1.size
  have n2 := hwr.1
  have B1 := Lib.hid (b1.alloc n1 (.cells #[.int .i64 l, .int .i64 o, .slice (some ⟨g, q, none⟩) zs.length c] 25))
  have R1 := Lib.hid (hrd.below (below_one w1 (.cells #[.int .i64 l, .int .i64 o, .slice (some ⟨g, q, none⟩) zs.length c] 25)) n2)
  have q1 := Has.new w1 25 #[.int .i64 l, .int .i64 o, .slice (some ⟨g, q, none⟩) zs.length c]
  have n3 : w1.heap.size < (w1.alloc (.cells #[.int .i64 l, .int .i64 o, .slice (some ⟨g, q, none⟩) zs.length c] 25)).heap.size := by simp
  have Q1 := Lib.hid q1
  have mx : zs.length ≤ 1000000000 := by have := hsm.most; omega
  clear q1 b1 hrd hwr H
  go_wp2_with fail
  generalize (w1.alloc (.cells #[.int .i64 l, .int .i64 o, .slice (some ⟨g, q, none⟩) zs.length c] 25)) = w2 at *
  refine (pageText_any l o zs _ c w2.heap.size _ (Nat.le_refl _) (R1.out.ints (by omega)) hc1).mono ?_
  rintro e w3 ⟨rfl, b3⟩
  have n4 := b3.size
  have q3 := Q1.out.below b3 n3
  have B3 : Hid (Below w.heap.size w w3) := B1.out.trans (b3.mono (by omega))
  have R3 := Lib.hid (R1.out.below b3 (by omega))
  obtain ⟨c0, c1, c2⟩ := q3.three
  have Q3 := Lib.hid q3
  clear q3 b3 B1 R1 Q1
  go_wp2_with fail
  refine (specPageText_any l o zs _ c w3.heap.size _ (Nat.le_refl _) (R3.out.ints (by omega)) mx).mono ?_
  rintro e w4 ⟨rfl, b4⟩
  have n5 := b4.size
  have q4 := Q3.out.below b4 (by omega)
  have B4 : Hid (Below w.heap.size w w4) := B3.out.trans (b4.mono (by omega))
  have R4 := Lib.hid (R3.out.below b4 (by omega))
  clear c0 c1 c2 b4 B3 R3 Q3
  obtain ⟨c0, c1, c2⟩ := q4.three
  have Q4 := Lib.hid q4
  clear q4
  cases hk : okP l o zs
  · have Ht : Hid (textP l o zs = []) := by show textP l o zs = []; unfold textP; rw [hk]; rfl
    clear hk
    rw [Ht.out]
    go_wp2_with fail
    refine (specPageText_any l o zs _ c w4.heap.size _ (Nat.le_refl _) (R4.out.ints (by omega)) mx).mono ?_
    rintro e w5 ⟨rfl, b5⟩
    have B5 : Hid (Below w.heap.size w w5) := B4.out.trans (b5.mono (by omega))
    rw [Ht.out]
    clear c0 c1 c2 b5
    go_wp2
    go_ret
    exact ⟨ret_bool (by simp), B5.out⟩
  have Hk := Lib.hid hk
  obtain ⟨p, x, y, z, rfl, rfl, hp, hx, hy, hz'⟩ := ok_nat hk
  have Ht : Hid (textP l p [(x : Int), (y : Int), (z : Int)] = txt p x y z) := by show textP l p [(x : Int), (y : Int), (z : Int)] = txt p x y z; unfold textP; rw [hk]; rfl
  clear hk
  rw [Ht.out]
  have hie := txt_some p x y z
  by_cases hp0 : p = 0
  · subst hp0
    go_wp2_with fail
    refine (specPageText_any l (0 : Nat) [(x : Int), (y : Int), (z : Int)] _ c w4.heap.size _ (Nat.le_refl _) (R4.out.ints (by omega)) mx).mono ?_
    rintro e w5 ⟨rfl, b5⟩
    have B5 : Hid (Below w.heap.size w w5) := B4.out.trans (b5.mono (by omega))
    rw [Ht.out]
    clear c0 c1 c2 b5
    go_wp2
    go_ret
    exact ⟨ret_bool (by simp), B5.out⟩
  have bp : ((p : Int) == 0) = false := by rw [beq_eq_false_iff_ne]; omega
  have hp1 : 1 ≤ p := by omega
  clear hp0
  simp only [List.length_cons, List.length_nil, Nat.zero_add, Nat.reduceAdd] at c2 hc1 ⊢
  obtain rfl : c = 3 := by omega
  have n6 : g < w4.heap.size := by omega
  have n7 : w1.heap.size < w4.heap.size := by omega
  have n8 : w1.heap.size < w4.heap.size + 1 := by omega
  have b5 : Below w4.heap.size w4 ((w4.alloc (.cells #[.int .i64 l, .int .i64 p, .slice (some ⟨g, q, none⟩) 3 3] 25)).alloc (.cells #[] 3)) := below_two _ _ _
  have hX : Has ((w4.alloc (.cells #[.int .i64 l, .int .i64 p, .slice (some ⟨g, q, none⟩) 3 3] 25)).alloc (.cells #[] 3)) w4.heap.size 25 #[.int .i64 l, .int .i64 p, .slice (some ⟨g, q, none⟩) 3 3] := (Has.new w4 _ _).alloc _
  have hE : Has ((w4.alloc (.cells #[.int .i64 l, .int .i64 p, .slice (some ⟨g, q, none⟩) 3 3] 25)).alloc (.cells #[] 3)) (w4.heap.size + 1) 3 #[] := by
    have := Has.new (w4.alloc (.cells #[.int .i64 l, .int .i64 p, .slice (some ⟨g, q, none⟩) 3 3] 25)) 3 #[]
    simpa only [World.size_alloc] using this
  have hP := Q4.out.below b5 n7
  have hR := R4.out.below b5 n6
  have hW : Below w.heap.size w ((w4.alloc (.cells #[.int .i64 l, .int .i64 p, .slice (some ⟨g, q, none⟩) 3 3] 25)).alloc (.cells #[] 3)) := B4.out.trans (b5.mono (by omega))
  have HX := Lib.hid hX
  have HE := Lib.hid hE
  have HP := Lib.hid hP
  have HR := Lib.hid hR
  have HW := Lib.hid hW
  clear b5 hX hE hP hR hW
  have i0 : 0 ≤ (ms.length : Int) % 3 := by omega
  have i1 : (ms.length : Int) % 3 < 3 := by omega
  obtain ⟨k, hk⟩ := Int.eq_ofNat_of_zero_le i0
  have hk3 : k < 3 := by omega
  have hkk : (ms.length : Int) % 3 = k := hk
  clear hk i0 i1
  go_wp2_with ((at_builtin; refine wp_append_copy _ rfl (.tmp 43) (.tmp 45) rfl (w4.heap.size + 1) rfl HE.out [(x : Int), (y : Int), (z : Int)] w4.heap.size _ 3 3 rfl rfl (HR.out.ints n6) (by simp) (by simp) ?_; intro g5 cap5 w5 cp; have gX := HX.out.grown cp.grown (fun e => by injection e; omega); have gP := HP.out.grown cp.grown (fun e => by injection e; omega); have gR := HR.out.grown cp.grown (by have := HE.out.lt; omega) (fun e => by injection e; omega); obtain ⟨z0, z1, z2⟩ := gX.three; have fz := gX.frozen 2; have GX := Lib.hid gX; have GP := Lib.hid gP; have GR := Lib.hid gR; have CP := Lib.hid cp; have lcp := cp.low; have hcap5 : 3 ≤ cap5 := cp.fit; clear gX gP gR cp))
  have hgr := CP.out.grown
  have n9 := hgr.size
  simp only [World.size_alloc] at n9
  have n10 := CP.out.wr.1
  have X6 : Hid (Has (w5.setCell ⟨w4.heap.size, 2, none⟩ (.slice (some ⟨g5, 0, none⟩) 3 cap5)) w4.heap.size 25 #[.int .i64 l, .int .i64 p, .slice (some ⟨g5, 0, none⟩) 3 cap5]) := GX.out.set 2 (.slice (some ⟨g5, 0, none⟩) 3 cap5)
  have P6 : Hid (Has (w5.setCell ⟨w4.heap.size, 2, none⟩ (.slice (some ⟨g5, 0, none⟩) 3 cap5)) w1.heap.size 25 #[.int .i64 l, .int .i64 p, .slice (some ⟨g, q, none⟩) 3 3]) := (GP.out.far (p := ⟨w4.heap.size, 2, none⟩) (by simp; omega) (.slice (some ⟨g5, 0, none⟩) 3 cap5))
  have R6 := Lib.hid (GR.out.keep (w' := (w5.setCell ⟨w4.heap.size, 2, none⟩ (.slice (some ⟨g5, 0, none⟩) 3 cap5))) (Below.heap_setCell _ _ _ _ (by simp; omega)))
  have C6 := Lib.hid (CP.out.rd.keep (w' := (w5.setCell ⟨w4.heap.size, 2, none⟩ (.slice (some ⟨g5, 0, none⟩) 3 cap5))) (Below.heap_setCell _ _ _ _ (by simp; omega)))
  have K6 := Lib.hid (CP.out.wr.set ⟨w4.heap.size, 2, none⟩ (.slice (some ⟨g5, 0, none⟩) 3 cap5))
  have B6 : Hid (Below w.heap.size w (w5.setCell ⟨w4.heap.size, 2, none⟩ (.slice (some ⟨g5, 0, none⟩) 3 cap5))) := (HW.out.trans (below_grown hgr (by omega) (by have := HW.out.size; omega))).setCell (by simp; omega) _
  have n11 : w4.heap.size + 1 ≤ (w5.setCell ⟨w4.heap.size, 2, none⟩ (.slice (some ⟨g5, 0, none⟩) 3 cap5)).heap.size := by rw [size_set]; omega
  have n12 : g5 < (w5.setCell ⟨w4.heap.size, 2, none⟩ (.slice (some ⟨g5, 0, none⟩) 3 cap5)).heap.size := by rw [size_set]; omega
  clear hgr GX GP GR CP HX HE HP HR HW z0 z1 z2 fz c0 c1 c2 Q4 R4 B4 n8 n9 n10 hkk
  generalize (w5.setCell ⟨w4.heap.size, 2, none⟩ (.slice (some ⟨g5, 0, none⟩) 3 cap5)) = w6 at *
  have e0 := R6.out k (by simp; omega)
  have e1 := C6.out k (by simp; omega)
  have f1 := K6.out.2 k (by simp; omega)
  rw [Nat.zero_add] at e1 f1
  have x2 : w6.cell? ⟨w4.heap.size, 2, none⟩ = some (.slice (some ⟨g5, 0, none⟩) 3 cap5) := X6.out.cell 2
  have p2 : w6.cell? ⟨w1.heap.size, 2, none⟩ = some (.slice (some ⟨g, q, none⟩) 3 3) := P6.out.cell 2
  have hv : 0 ≤ [(x : Int), (y : Int), (z : Int)].getD k 0 ∧ [(x : Int), (y : Int), (z : Int)].getD k 0 ≤ 9 := by
    match k, hk3 with
    | 0, _ => simp; omega
    | 1, _ => simp; omega
    | 2, _ => simp; omega
  have hst := set_text l p x y z k hk3 Hk.out hp1 hp hx hy hz'
  have Hlen : Hid (([(x : Int), (y : Int), (z : Int)].set k (([(x : Int), (y : Int), (z : Int)].getD k 0 + 1) % 10)).length = 3) := List.length_set
  have S6 : Hid (Rd .i64 (w6.setCell ⟨g5, k, none⟩ (.int .i64 (([(x : Int), (y : Int), (z : Int)].getD k 0 + 1) % 10))) g5 0 ([(x : Int), (y : Int), (z : Int)].set k (([(x : Int), (y : Int), (z : Int)].getD k 0 + 1) % 10))) := by
    intro j hj
    rw [List.length_set] at hj
    have h2 := cell_set _ g5 0 j k (.int .i64 (([(x : Int), (y : Int), (z : Int)].getD k 0 + 1) % 10)) _ (C6.out k (by simp; omega))
    rw [Nat.zero_add k] at h2
    rw [h2, getD_set _ _ _ _ hj, C6.out j hj]
    split <;> rfl
  generalize hus : [(x : Int), (y : Int), (z : Int)].set k (([(x : Int), (y : Int), (z : Int)].getD k 0 + 1) % 10) = us at *
  clear hus
  generalize hvv : [(x : Int), (y : Int), (z : Int)].getD k 0 = v at *
  clear hvv
  have wv : IntKind.i64.wrap (v + 1) = v + 1 := IntWalk.i64_in _ (by omega)
  have tv : (v + 1).tmod 10 = (v + 1) % 10 := Int.tmod_eq_emod_of_nonneg (by omega)
  go_region
  have X7 := Lib.hid (X6.out.far (p := ⟨g5, k, none⟩) (by simp; omega) (.int .i64 ((v + 1) % 10))).drew
  have P7 := Lib.hid (P6.out.far (p := ⟨g5, k, none⟩) (by simp; omega) (.int .i64 ((v + 1) % 10))).drew
  have R7 := Lib.hid (R6.out.keep (w' := (w6.setCell ⟨g5, k, none⟩ (.int .i64 ((v + 1) % 10))).drew) (Below.heap_setCell _ _ _ _ (by simp; omega)))
  have S7 := Lib.hid S6.out.drew
  have B7 := Lib.hid (B6.out.setCell (p := ⟨g5, k, none⟩) (by simp; omega) (.int .i64 ((v + 1) % 10))).drew
  have n13 : g5 < (w6.setCell ⟨g5, k, none⟩ (.int .i64 ((v + 1) % 10))).drew.heap.size := by show g5 < (w6.setCell ⟨g5, k, none⟩ (.int .i64 ((v + 1) % 10))).heap.size; rw [size_set]; exact n12
  have n14 : w4.heap.size + 1 ≤ (w6.setCell ⟨g5, k, none⟩ (.int .i64 ((v + 1) % 10))).drew.heap.size := by show _ ≤ (w6.setCell ⟨g5, k, none⟩ (.int .i64 ((v + 1) % 10))).heap.size; rw [size_set]; exact n11
  clear X6 P6 R6 S6 B6 C6 K6 e0 e1 f1 x2 p2 wv tv n11 n12
  generalize (w6.setCell ⟨g5, k, none⟩ (.int .i64 ((v + 1) % 10))).drew = w7 at *
  obtain ⟨x0, x1, x2⟩ := X7.out.three
  obtain ⟨c0, c1, c2⟩ := P7.out.three
  have n15 : w4.heap.size < w7.heap.size := by omega
  have n16 : w1.heap.size < w7.heap.size := by omega
  have b8 : Below w7.heap.size w7 (w7.alloc (.cells #[.int .i64 l, .int .i64 4, .slice (some ⟨g, q, none⟩) 3 3] 25)) := below_one _ _
  have B8 := Lib.hid (B7.out.alloc (by omega) (.cells #[.int .i64 l, .int .i64 4, .slice (some ⟨g, q, none⟩) 3 3] 25))
  have R8 := Lib.hid (R7.out.below b8 (by omega))
  have S8 := Lib.hid (S7.out.below b8 (by omega))
  have Y8 := Lib.hid (Has.new w7 25 #[.int .i64 l, .int .i64 4, .slice (some ⟨g, q, none⟩) 3 3])
  have n17 : w7.heap.size < (w7.alloc (.cells #[.int .i64 l, .int .i64 4, .slice (some ⟨g, q, none⟩) 3 3] 25)).heap.size := by simp
  clear b8 B7 R7 S7 X7 P7
  go_wp2_with fail
  generalize (w7.alloc (.cells #[.int .i64 l, .int .i64 4, .slice (some ⟨g, q, none⟩) 3 3] 25)) = w8 at *
  refine (pageText_len l p us _ 3 cap5 w8.heap.size _ Hlen.out (Nat.le_refl _) (S8.out.ints (by omega)) (by rw [Hlen.out]; exact hcap5)).mono ?_
  rintro e w9 ⟨rfl, b9⟩
  have n18 := b9.size
  have y9 := Y8.out.below b9 n17
  have B9 : Hid (Below w.heap.size w w9) := B8.out.trans (b9.mono (by omega))
  have R9 := Lib.hid (R8.out.below b9 (by omega))
  clear b9 B8 R8 S8 Y8 x0 x1 x2 c0 c1 c2
  obtain ⟨c0, c1, c2⟩ := y9.three
  have Y9 := Lib.hid y9
  clear y9
  generalize textP l p us = tu at *
  generalize txt p x y z = tx at *
  have bne : (tu != tx) = true := by simpa using hst
  have beq : (tu == tx) = false := by rw [beq_eq_false_iff_ne]; exact hst
  go_wp2_with fail
  refine (pageText_any l 4 [(x : Int), (y : Int), (z : Int)] _ 3 w9.heap.size _ (Nat.le_refl _) (R9.out.ints (by omega)) (by simp)).mono ?_
  rintro e w10 ⟨rfl, b10⟩
  have B10 : Hid (Below w.heap.size w w10) := B9.out.trans (b10.mono (by omega))
  rw [bad_owner]
  clear b10 c0 c1 c2
  go_wp2
  go_ret
  exact ⟨ret_bool (by simp), B10.out⟩

theorem own : ownKnob Tryd.prog.godebug = none := by kernel_rfl
theorem laidOut : laidOutB Tryd.prog = true := by kernel_rfl
theorem door_met (os : Os) (args : Array Value) : laidMetH Tryd.prog Rows.fnPageCopyRow.laid ((World.doorLaid Tryd.prog 400 os).forCall (fun _ _ => 0) ⟨#[], args, []⟩).memory :=
  laidMetH_of_parts3 (fuel := 8) (laidMet_of_run' 8 (by kernel_rfl) (by kernel_rfl)) (by kernel_rfl) (by kernel_rfl)

set_option maxRecDepth 100000 in
theorem lifted (os : Os) (started : os.Started) (H : Type) (enc : TypeId × Value → H) :
    ReturnsInHanded {} Tryd.checked os 4 .any (fun w args => (Rows.fnPageCopySpec.pre enc Tryd.prog Tryd.f4 [] false w args ∧ laidMetH Tryd.prog Rows.fnPageCopyRow.laid w) ∧ sizedMet enc Tryd.prog Tryd.f4 (OpenSpec.ofChange Rows.fnPageCopySpec) false w args)
      (Rows.fnPageCopySpec.post enc Tryd.prog Tryd.f4 false true false false) := by
  refine returnsInHanded_of_change_and (C := Tryd.checked) (X := fun w _ => laidMetH Tryd.prog Rows.fnPageCopyRow.laid w) (fun _ _ _ hh h => h.of_heap hh) own started (by kernel_rfl) Tryd.func4
    (ChangeSpec.witness_shaped (enc := enc) (C := Tryd.checked) (os := os) (X := fun w _ => laidMetH Tryd.prog Rows.fnPageCopyRow.laid w) false (World.doorLaid Tryd.prog 400 os) #[.slice none 0 0, .slice none 0 0] 8 rfl (World.shaped_of_RefB (by kernel_rfl) (by kernel_rfl)) (by kernel_rfl) (by kernel_rfl) (by kernel_rfl) (door_met os _)) ?_
  intro W base args ds gs before hval0 hW _ _ hL _
  have hval : ∀ (j : Nat) t v, Tryd.f4.params[j]? = some t → args[j]? = some v → Value.okWide Tryd.prog W .any base t v := hval0
  have hW' := hW
  obtain ⟨p, q, hA0, hV, rfl, hfz, hnd⟩ := hW
  have hA : DataW.TrodAll enc Tryd.prog W 0 (fun _ => true) true Tryd.f4.params.toList args.toList ds p := hA0
  rw [Tryd.params4] at hA hval
  obtain ⟨v0, vs0, d0, ds0, p0, q0, hargs, rfl, rfl, h0, r0⟩ := trodAll_cons hA
  obtain ⟨v1, vs1, d1, ds1, p1, q1, rfl, rfl, rfl, h1, r1⟩ := trodAll_cons r0
  obtain ⟨rfl, rfl, rfl⟩ := trodAll_nil r1
  obtain rfl : args = #[v0, v1] := by cases args; simp_all
  obtain ⟨rfl, rfl⟩ := trodVars_none hV
  have k0 := h0
  have k1 := h1
  have lt0 : ∀ x ∈ p0, x.block < W.heap.size := by obtain ⟨m, hm⟩ := k0; exact DataW.trod_lt m _ _ _ hm
  have lt1 : ∀ x ∈ p1, x.block < W.heap.size := by obtain ⟨m, hm⟩ := k1; exact DataW.trod_lt m _ _ _ hm
  obtain ⟨a, cs, cap, rfl, hc⟩ := openBytes Tryd.underlying22 Tryd.underlying5 (by kernel_rfl) (hval 0 22 v0 rfl rfl) h0
  obtain ⟨a', ms, cap', rfl, hc'⟩ := openBytes Tryd.underlying22 Tryd.underlying5 (by kernel_rfl) (hval 1 22 v1 rfl rfl) h1
  clear hA0 hval0
  refine (walk a cs cap a' ms cap' W hc hc').mono fun e W' ⟨he, bel⟩ => ?_
  subst he
  exact ⟨_, rfl, _, _, _, [], _, [], hW', trodAll_mk1 (shut_bool Tryd.underlying4 _), (trodAll_cons_mk (Below.trod laidOut (by kernel_rfl) (of_decide_eq_true (by kernel_rfl)) k0 bel lt0) (trodAll_cons_mk (Below.trod laidOut (by kernel_rfl) (of_decide_eq_true (by kernel_rfl)) k1 bel lt1) trodAll_mk0)), rfl, bel.frame _, fun h => by cases h⟩

theorem row : Rows.FnPageCopySaid :=
  OpenClaim.holds_of_wide 4 Tryd.f4 rfl rfl rfl rfl rfl rfl rfl ⟨rfl, rfl, rfl, rfl, rfl⟩ rfl rfl rfl rfl rfl (by kernel_rfl) Tryd.func4 (by kernel_rfl)
    (of_decide_eq_true (by kernel_rfl)) (by unfold Func.isWrapper; first | (rw [if_pos (by decide +kernel)]; kernel_rfl) | (rw [if_neg (by decide +kernel)]; exact ⟨rfl, rfl⟩))
    (fun os started H enc _ => lifted os started H enc)

theorem proved : Rows.FnPageCopyCardSaid :=
  Claim7.holds_tied_plain_at .later [] [.data, .data, .data] true Rows.fnPageCopyCard.stood.harness false
    row (fun _ h => by cases h) (by kernel_rfl) (fun _ h => by cases h) fnPageCopy_row_tie rfl ⟨rfl, rfl⟩ (by kernel_rfl) rfl
    (fun f fn hf hfn => by
      obtain rfl : f = 4 := Option.some.inj ((show Tryd.prog.funcNamed Rows.fnPageCopyRow.func = some 4 by kernel_rfl).symm.trans hf) |>.symm
      obtain rfl : fn = Tryd.f4 := (Option.some.inj (Tryd.func4.symm.trans hfn)).symm
      exact ⟨by kernel_rfl, fun j t ht => by
        rw [Tryd.params4] at ht
        have hm : t ∈ [22, 22] := by simpa using Array.mem_of_getElem? ht
        have hall : ([22, 22].all fun u => !Tryd.prog.wantsStandIn u) = true := by kernel_rfl
        exact (show Tryd.prog.wantsStandIn t = false by simpa using List.all_eq_true.1 hall t hm)⟩)
    (by kernel_rfl)
#print axioms proved
end Go.Proofs.YtodnamaeadjhmaaDoor.FnPageCopy

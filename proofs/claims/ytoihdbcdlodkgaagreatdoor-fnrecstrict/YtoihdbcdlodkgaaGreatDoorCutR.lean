/-
  Contract of the model's RecRead, for every text. No conditions.
-/
import Derived.Test.YtoihdbcdlodkgaaGreatDoorCutS
import Derived.Test.YtoihdbcdlodkgaaGreatDoorTxS
import Derived.Test.YtoihdbcdlodkgaaGreatDoorRead4
import Derived.Deep.RegionHeld3
namespace Go.Proofs.YtoihdbcdlodkgaaGreatDoor.Base
open Go.RowKit

/-- the record that eight words are read as -/
def guess (a0 a1 a2 a3 a4 a5 a6 a7 : List UInt8) : R := ⟨kindW a0, numL a1, numL a2, numL a3, numL a4, numL a5, numL a6, numL a7⟩
theorem guess_of {t a0 a1 a2 a3 a4 a5 a6 a7 : List UInt8} {q : R} (hw : cutW t = [a0, a1, a2, a3, a4, a5, a6, a7]) (h : IsText t q) : guess a0 a1 a2 a3 a4 a5 a6 a7 = q := by
  have h1 := (isText_len h).2.2
  rw [hw] at h1
  unfold wordsL at h1
  injection h1 with h0 h1; injection h1 with h1 h2; injection h2 with h2 h3; injection h3 with h3 h4; injection h4 with h4 h5; injection h5 with h5 h6; injection h6 with h6 h7; injection h7 with h7 h8
  subst h0 h1 h2 h3 h4 h5 h6 h7
  obtain ⟨⟨t0, t1⟩, ⟨p0, p1⟩, ⟨s0, s1⟩, ⟨o0, o1⟩, ⟨n0, n1⟩, ⟨v0, v1⟩, x0, x1⟩ := okR_bounds h.1
  unfold guess
  rw [kind_name (okR_kind h.1), num_itoa (by omega) (by omega), num_itoa (by omega) (by omega), num_itoa (by omega) (by omega), num_itoa (by omega) (by omega), num_itoa (by omega) (by omega), num_itoa (by omega) (by omega), num_itoa (by omega) (by omega)]
/-- the kind of a word among the first k - 1 -/
def kindTo (a : List UInt8) (k : Nat) : Int := if kindW a < k then kindW a else 0
theorem kind_ge (a : List UInt8) : 0 ≤ kindW a ∧ kindW a ≤ 6 := by
  unfold kindW
  repeat' split
  all_goals omega
theorem kindTo_one (a : List UInt8) : kindTo a 1 = 0 := by
  have := kind_ge a
  unfold kindTo
  split <;> omega
theorem kindTo_all (a : List UInt8) : kindTo a 7 = kindW a := by
  have := kind_ge a
  unfold kindTo
  rw [if_pos (by omega)]
theorem name_kind {a : List UInt8} {k : Nat} (h0 : 1 ≤ k) (h6 : k ≤ 6) (h : kindW a = k) : a = nameL k := by
  unfold kindW at h
  split at h
  · next e => obtain rfl : k = 1 := by omega
              exact e
  split at h
  · next e => obtain rfl : k = 2 := by omega
              exact e
  split at h
  · next e => obtain rfl : k = 3 := by omega
              exact e
  split at h
  · next e => obtain rfl : k = 4 := by omega
              exact e
  split at h
  · next e => obtain rfl : k = 5 := by omega
              exact e
  split at h
  · next e => obtain rfl : k = 6 := by omega
              exact e
  · omega
theorem kindTo_yes {a : List UInt8} {k : Nat} (h0 : 1 ≤ k) (h6 : k ≤ 6) (h : nameL k = a) : kindTo a (k + 1) = k := by
  have hk : kindW a = k := by
    rw [← h]
    refine kind_name ?_
    omega
  unfold kindTo
  rw [hk, if_pos (by omega)]
theorem kindTo_no {a : List UInt8} {k : Nat} (h0 : 1 ≤ k) (h6 : k ≤ 6) (h : nameL k ≠ a) : kindTo a (k + 1) = kindTo a k := by
  have hk : kindW a ≠ k := fun e => h (name_kind h0 h6 e).symm
  unfold kindTo
  by_cases hl : kindW a < k
  · rw [if_pos hl, if_pos (by omega)]
  · rw [if_neg hl, if_neg (by omega)]

/-- what is known where the words are eight -/
structure Eight (t a0 a1 a2 a3 a4 a5 a6 a7 : List UInt8) : Prop where
  cut : cutW t = [a0, a1, a2, a3, a4, a5, a6, a7]
theorem Eight.ne {t a0 a1 a2 a3 a4 a5 a6 a7 : List UInt8} (h : Eight t a0 a1 a2 a3 a4 a5 a6 a7) : t ≠ [] := by
  rintro rfl
  have := congrArg List.length h.cut
  simp [cutW] at this
theorem Eight.yes {t a0 a1 a2 a3 a4 a5 a6 a7 : List UInt8} (h : Eight t a0 a1 a2 a3 a4 a5 a6 a7) (ht : textR (guess a0 a1 a2 a3 a4 a5 a6 a7) = t) : readR t = guess a0 a1 a2 a3 a4 a5 a6 a7 ∧ readB t = true :=
  readR_of (isText_of ht h.ne)
theorem Eight.no {t a0 a1 a2 a3 a4 a5 a6 a7 : List UInt8} (h : Eight t a0 a1 a2 a3 a4 a5 a6 a7) (ht : textR (guess a0 a1 a2 a3 a4 a5 a6 a7) ≠ t) : readR t = ⟨0, 0, 0, 0, 0, 0, 0, 0⟩ ∧ readB t = false :=
  readR_none fun q hq => ht (by
    rw [guess_of h.cut hq]
    unfold textR
    rw [hq.1]
    exact hq.2)
theorem eight_of {l : List (List UInt8)} (h : l.length = 8) : ∃ a0 a1 a2 a3 a4 a5 a6 a7, l = [a0, a1, a2, a3, a4, a5, a6, a7] :=
  match l, h with
  | [a0, a1, a2, a3, a4, a5, a6, a7], _ => ⟨a0, a1, a2, a3, a4, a5, a6, a7, rfl⟩
theorem not_eight {t : List UInt8} (h : (cutW t).length ≠ 8) : readR t = ⟨0, 0, 0, 0, 0, 0, 0, 0⟩ ∧ readB t = false :=
  readR_none fun q hq => h (by rw [(isText_len hq).2.2]; rfl)
theorem too_long {t : List UInt8} (h : 30 < t.length) : readR t = ⟨0, 0, 0, 0, 0, 0, 0, 0⟩ ∧ readB t = false :=
  readR_none fun q hq => by
    have := (isText_len hq).1
    omega

set_option maxRecDepth 100000 in
set_option maxHeartbeats 8000000 in
theorem specRecRead_any (s : ByteArray) (w : World) (hbig : s.size ≤ 1000000000000) : Calls Tryz.prog 7 #[.string s] w (Reads s w) := by
  have hsz : s.data.toList.length = s.size := Array.length_toList
  by_cases h30 : 30 < s.size
  · have Hn := Lib.hid (too_long (t := s.data.toList) (by omega))
    clear hsz
    go_enter Tryz.func7, Tryz.ntmps7
    go_wp2
    refine bodyPost_ret (v := .tuple #[recV ⟨0, 0, 0, 0, 0, 0, 0, 0⟩, .bool false]) (by simp [results, Tryz.results7, go_sem]) rfl ⟨by rw [Hn.out.1, Hn.out.2], ?_⟩
    exact below_one _ _
  have hs30 : s.size ≤ 30 := by omega
  clear hbig
  by_cases h8 : (cutW s.data.toList).length = 8
  · obtain ⟨a0, a1, a2, a3, a4, a5, a6, a7, hw⟩ := eight_of h8
    have E : Hid (Eight s.data.toList a0 a1 a2 a3 a4 a5 a6 a7) := ⟨hw⟩
    have hsm : ∀ x ∈ cutW s.data.toList, x.length ≤ 30 := fun x hx => by
      have := cutW_size _ x hx
      omega
    rw [hw] at hsm
    have C : Hid (∀ W, Calls Tryz.prog 15 #[.string s] W (Cuts [a0, a1, a2, a3, a4, a5, a6, a7] W)) := fun W => by
      have := l2Cut_any s hs30 W
      rwa [hw] at this
    have z0 : (⟨a0.toArray⟩ : ByteArray).size ≤ 30 := hsm a0 (by simp)
    have z1 : (⟨a1.toArray⟩ : ByteArray).size ≤ 30 := hsm a1 (by simp)
    have z2 : (⟨a2.toArray⟩ : ByteArray).size ≤ 30 := hsm a2 (by simp)
    have z3 : (⟨a3.toArray⟩ : ByteArray).size ≤ 30 := hsm a3 (by simp)
    have z4 : (⟨a4.toArray⟩ : ByteArray).size ≤ 30 := hsm a4 (by simp)
    have z5 : (⟨a5.toArray⟩ : ByteArray).size ≤ 30 := hsm a5 (by simp)
    have z6 : (⟨a6.toArray⟩ : ByteArray).size ≤ 30 := hsm a6 (by simp)
    have z7 : (⟨a7.toArray⟩ : ByteArray).size ≤ 30 := hsm a7 (by simp)
    have N1 : Hid (∀ W, Calls Tryz.prog 16 #[strV a1] W (fun e w' => e = .returned (.int .i64 (numL a1)) ∧ w' = W)) := fun W => l2Num_any ⟨a1.toArray⟩ z1 W
    have N2 : Hid (∀ W, Calls Tryz.prog 16 #[strV a2] W (fun e w' => e = .returned (.int .i64 (numL a2)) ∧ w' = W)) := fun W => l2Num_any ⟨a2.toArray⟩ z2 W
    have N3 : Hid (∀ W, Calls Tryz.prog 16 #[strV a3] W (fun e w' => e = .returned (.int .i64 (numL a3)) ∧ w' = W)) := fun W => l2Num_any ⟨a3.toArray⟩ z3 W
    have N4 : Hid (∀ W, Calls Tryz.prog 16 #[strV a4] W (fun e w' => e = .returned (.int .i64 (numL a4)) ∧ w' = W)) := fun W => l2Num_any ⟨a4.toArray⟩ z4 W
    have N5 : Hid (∀ W, Calls Tryz.prog 16 #[strV a5] W (fun e w' => e = .returned (.int .i64 (numL a5)) ∧ w' = W)) := fun W => l2Num_any ⟨a5.toArray⟩ z5 W
    have N6 : Hid (∀ W, Calls Tryz.prog 16 #[strV a6] W (fun e w' => e = .returned (.int .i64 (numL a6)) ∧ w' = W)) := fun W => l2Num_any ⟨a6.toArray⟩ z6 W
    have N7 : Hid (∀ W, Calls Tryz.prog 16 #[strV a7] W (fun e w' => e = .returned (.int .i64 (numL a7)) ∧ w' = W)) := fun W => l2Num_any ⟨a7.toArray⟩ z7 W
    clear hw h8 hsm hsz
    have hse : s.toList.isEmpty = false := by
      rw [ByteArray.toList_eq]
      have := E.out.ne
      cases h : s.data.toList
      · exact absurd h this
      · rfl
    go_enter Tryz.func7, Tryz.ntmps7
    go_wp2_with fail
    refine (C.out _).mono ?_
    rintro e w2 ⟨g, cap, rfl, b2, hg0, hg1, hcells⟩
    have Q2 := Lib.hid ((Has.new w 23 #[.int .i64 0, .int .i64 0, .int .i64 0, .int .i64 0, .int .i64 0, .int .i64 0, .int .i64 0, .int .i64 0]).below b2 (by simp))
    have B2 : Hid (Below w.heap.size w w2) := (below_one _ _).trans (b2.mono (by simp))
    have hgw : w.heap.size < g := by
      simp at hg0
      omega
    clear b2 hg0 C
    have d0 := hcells 0 a0 rfl
    have d1 := hcells 1 a1 rfl
    have d2 := hcells 2 a2 rfl
    have d3 := hcells 3 a3 rfl
    have d4 := hcells 4 a4 rfl
    have d5 := hcells 5 a5 rfl
    have d6 := hcells 6 a6 rfl
    have d7 := hcells 7 a7 rfl
    clear hcells
    have hcap : (0 : Int) ≤ cap := by omega
    go_upto_region 6 with (fail)
    have H6 : Hid (w2.drew.cell? ⟨g, 1, none⟩ = some (strV a1) ∧ w2.drew.cell? ⟨g, 2, none⟩ = some (strV a2) ∧ w2.drew.cell? ⟨g, 3, none⟩ = some (strV a3) ∧ w2.drew.cell? ⟨g, 4, none⟩ = some (strV a4) ∧ w2.drew.cell? ⟨g, 5, none⟩ = some (strV a5) ∧ w2.drew.cell? ⟨g, 6, none⟩ = some (strV a6) ∧ w2.drew.cell? ⟨g, 7, none⟩ = some (strV a7)) := ⟨d1, d2, d3, d4, d5, d6, d7⟩
    refine (fun (key : (?keyP : Prop)) => ?keyMain) ?keyProof
    case keyMain =>
     go_region_held3 (fun w' => w'.cell? ⟨g, 1, none⟩ = some (strV a1) ∧ w'.cell? ⟨g, 2, none⟩ = some (strV a2) ∧ w'.cell? ⟨g, 3, none⟩ = some (strV a3) ∧ w'.cell? ⟨g, 4, none⟩ = some (strV a4) ∧ w'.cell? ⟨g, 5, none⟩ = some (strV a5) ∧ w'.cell? ⟨g, 6, none⟩ = some (strV a6) ∧ w'.cell? ⟨g, 7, none⟩ = some (strV a7)) (first | with_reducible exact H6.out | go_keep)
      (first | (go_at_call 16; (with_reducible refine (N1.out _).mono ?_); rintro e w3 ⟨rfl, rfl⟩) | (go_at_call 16; (with_reducible refine (N2.out _).mono ?_); rintro e w3 ⟨rfl, rfl⟩) | (go_at_call 16; (with_reducible refine (N3.out _).mono ?_); rintro e w3 ⟨rfl, rfl⟩) | (go_at_call 16; (with_reducible refine (N4.out _).mono ?_); rintro e w3 ⟨rfl, rfl⟩) | (go_at_call 16; (with_reducible refine (N5.out _).mono ?_); rintro e w3 ⟨rfl, rfl⟩) | (go_at_call 16; (with_reducible refine (N6.out _).mono ?_); rintro e w3 ⟨rfl, rfl⟩) | (go_at_call 16; (with_reducible refine (N7.out _).mono ?_); rintro e w3 ⟨rfl, rfl⟩))
     all_goals exact key
    have X6 : Hid (Has (w2.alloc (.cells #[.int .i64 0, .int .i64 (numL a1), .int .i64 (numL a2), .int .i64 (numL a3), .int .i64 (numL a4), .int .i64 (numL a5), .int .i64 (numL a6), .int .i64 (numL a7)] 23)).drew w2.heap.size 23 #[.int .i64 0, .int .i64 (numL a1), .int .i64 (numL a2), .int .i64 (numL a3), .int .i64 (numL a4), .int .i64 (numL a5), .int .i64 (numL a6), .int .i64 (numL a7)]) := (Has.new w2 _ _).drew
    have R6 : Hid (Has (w2.alloc (.cells #[.int .i64 0, .int .i64 (numL a1), .int .i64 (numL a2), .int .i64 (numL a3), .int .i64 (numL a4), .int .i64 (numL a5), .int .i64 (numL a6), .int .i64 (numL a7)] 23)).drew w.heap.size 23 #[.int .i64 0, .int .i64 0, .int .i64 0, .int .i64 0, .int .i64 0, .int .i64 0, .int .i64 0, .int .i64 0]) := (Q2.out.alloc _).drew
    have B6 : Hid (Below w.heap.size w (w2.alloc (.cells #[.int .i64 0, .int .i64 (numL a1), .int .i64 (numL a2), .int .i64 (numL a3), .int .i64 (numL a4), .int .i64 (numL a5), .int .i64 (numL a6), .int .i64 (numL a7)] 23)).drew) := (B2.out.alloc (by omega) _).drew
    have G6 : Hid ((w2.alloc (.cells #[.int .i64 0, .int .i64 (numL a1), .int .i64 (numL a2), .int .i64 (numL a3), .int .i64 (numL a4), .int .i64 (numL a5), .int .i64 (numL a6), .int .i64 (numL a7)] 23)).drew.cell? ⟨g, 0, none⟩ = some (strV a0)) := (World.cell?_alloc_old _ _ _ (Nat.ne_of_lt hg1)).trans d0
    have hlt2 : w.heap.size < w2.heap.size := by omega
    clear d0 d1 d2 d3 d4 d5 d6 d7 N1 N2 N3 N4 N5 N6 N7 H6 Q2 B2
    go_upto_region 7 with (fail)
    generalize (w2.alloc (.cells #[.int .i64 0, .int .i64 (numL a1), .int .i64 (numL a2), .int .i64 (numL a3), .int .i64 (numL a4), .int .i64 (numL a5), .int .i64 (numL a6), .int .i64 (numL a7)] 23)).drew = w7 at *
    generalize w2.heap.size = rb at *
    have hrw : w.heap.size < rb := hlt2
    go_wp2_with fail
    go_loopw [6] (fun i wx => ∃ k : Nat, 1 ≤ k ∧ k ≤ 7 ∧ i = .int .i64 k ∧ Below w.heap.size w wx ∧ Has wx w.heap.size 23 #[.int .i64 0, .int .i64 0, .int .i64 0, .int .i64 0, .int .i64 0, .int .i64 0, .int .i64 0, .int .i64 0] ∧ Has wx rb 23 #[.int .i64 (kindTo a0 k), .int .i64 (numL a1), .int .i64 (numL a2), .int .i64 (numL a3), .int .i64 (numL a4), .int .i64 (numL a5), .int .i64 (numL a6), .int .i64 (numL a7)] ∧ wx.cell? ⟨g, 0, none⟩ = some (strV a0) ∧ g < wx.heap.size) (fun i _ => 7 - (intOf i).toNat)
    case atStart => exact ⟨1, by omega, by omega, rfl, B6.out, R6.out, by rw [kindTo_one]; exact X6.out, G6.out, World.block_lt_of_cell? _ _ G6.out⟩
    case round =>
      clear B6 R6 X6 G6
      obtain ⟨k, hk1, hk7, rfl, hb, hR, hX, hG, hgl⟩ := hrel
      have Hb := Lib.hid hb
      have HR := Lib.hid hR
      have HX := Lib.hid hX
      have HG := Lib.hid hG
      have lR := hR.lt
      have lX := hX.lt
      clear hb hR hX hG
      have k0 : (0 : Int) ≤ (k : Int) := by omega
      by_cases hlt : k < 7
      · have k7 : (k : Int) < 7 := by omega
        have Hk : Hid (namesA[k]? = some (.string ⟨(nameL k).toArray⟩)) := names_at k hlt
        go_wp2_with fail
        refine (l2Names_any _).mono ?_
        rintro e w8 ⟨rfl, b8, n8⟩
        have Hb8 : Hid (Below w.heap.size w w8) := Hb.out.trans (b8.mono (by omega))
        have HR8 := Lib.hid (HR.out.below b8 lR)
        have HX8 := Lib.hid (HX.out.below b8 lX)
        have HG8 : Hid (w8.cell? ⟨g, 0, none⟩ = some (strV a0)) := (b8.cell (p := ⟨g, 0, none⟩) hgl).trans HG.out
        have lg8 : g < w8.heap.size := Nat.lt_of_lt_of_le hgl b8.size
        have lR8 := HR8.out.lt
        have lX8 := HX8.out.lt
        clear b8 n8 Hb HR HX HG lR lX
        go_upto_region 10 with (fail)
        refine wp_region_held_drew (S := (fun w' => w'.cell? ⟨g, 0, none⟩ = some (strV a0))) (by kernel_rfl) ?_ (fun hHeld0 => ?_)
        · (first | exact HG8.out | exact HG9.out | exact ⟨HG9.out, (N9.out.cell k).trans Hk.out⟩)
        refine wpAnyH_take (i := 1) (oi := { dst := some 53, op := Go.Op.move (Go.Operand.tmp 6), type := 3, pos := "l2_rec.go:137", after := #[], guard := none }) (v := ?_) rfl (by kernel_rfl) (by kernel_rfl) (by kernel_rfl) (fun _ _ _ h => h) (Or.inl ⟨by rfl, ?_⟩) hHeld0 ?_
        rotate_left
        · (intro w hSw; (try dsimp only at hSw); go_simp; (first | done | (with_reducible rfl) | (rw [if_neg (by omega)]) | (rw [if_neg (by simp only [ByteArray.size_append]; omega)])))
        (try simp only [Act.put, List.setIfInBounds_toArray, List.set_cons_zero, List.set_cons_succ])
        refine wpAnyH_take (i := 4) (oi := { dst := some 56, op := Go.Op.move (Go.Operand.tmp 4), type := 34, pos := "l2_rec.go:137", after := #[], guard := none }) (v := ?_) rfl (by kernel_rfl) (by kernel_rfl) (by kernel_rfl) (fun _ _ _ h => h) (Or.inl ⟨by rfl, ?_⟩) hHeld0 ?_
        rotate_left
        · (intro w hSw; (try dsimp only at hSw); go_simp; (first | done | (with_reducible rfl) | (rw [if_neg (by omega)]) | (rw [if_neg (by simp only [ByteArray.size_append]; omega)])))
        (try simp only [Act.put, List.setIfInBounds_toArray, List.set_cons_zero, List.set_cons_succ])
        refine wpAnyH_take (i := 5) (oi := { dst := some 57, op := Go.Op.indexAddr 34 (Go.Operand.tmp 56) (Go.Operand.const (Go.Value.int Go.IntKind.i64 0)), type := 0, pos := "l2_rec.go:137", after := #[{ on := 4, ground := Go.Ground.data }], guard := none }) (v := ?_) rfl (by kernel_rfl) (by kernel_rfl) (by kernel_rfl) (fun _ _ _ h => h) (Or.inl ⟨by rfl, ?_⟩) hHeld0 ?_
        rotate_left
        · (intro w hSw; (try dsimp only at hSw); go_simp; (first | done | (with_reducible rfl) | (rw [if_neg (by omega)]) | (rw [if_neg (by simp only [ByteArray.size_append]; omega)])))
        (try simp only [Act.put, List.setIfInBounds_toArray, List.set_cons_zero, List.set_cons_succ])
        refine wpAnyH_take (i := 6) (oi := { dst := some 58, op := Go.Op.load 9 (Go.Operand.tmp 57), type := 9, pos := "l2_rec.go:137", after := #[{ on := 5, ground := Go.Ground.data }], guard := none }) (v := ?_) rfl (by kernel_rfl) (by kernel_rfl) (by kernel_rfl) (fun _ _ _ h => h) (Or.inl ⟨by rfl, ?_⟩) hHeld0 ?_
        rotate_left
        · (intro w hSw; (try dsimp only at hSw); go_simp; (first | done | (with_reducible rfl) | (rw [if_neg (by omega)]) | (rw [if_neg (by simp only [ByteArray.size_append]; omega)])))
        (try simp only [Act.put, List.setIfInBounds_toArray, List.set_cons_zero, List.set_cons_succ])
        refine wpAnyH_ready (rs := [0]) (by kernel_rfl) (by simp) ?_
        refine AllReadyH.cons (o := { dst := some 52, op := Go.Op.call { callee := Go.Callee.value (Go.Operand.func 17), args := #[], argTypes := #[] }, type := 34, pos := "l2_rec.go:137", after := #[], guard := none }) rfl (fun K hK => ?_) AllReadyH.nil
        go_simp
        (with_reducible refine (l2Names_any _).mono ?_)
        rintro e w9 ⟨rfl, b9, n9⟩
        have b9' : Below w8.heap.size w8 w9 := ⟨b9.os, b9.tape, b9.output, b9.size, b9.block⟩
        have Hb9 : Hid (Below w.heap.size w w9) := Hb8.out.trans (b9'.mono (by omega))
        have HR9 := Lib.hid (HR8.out.below b9' lR8)
        have HX9 := Lib.hid (HX8.out.below b9' lX8)
        have HG9 : Hid (w9.cell? ⟨g, 0, none⟩ = some (strV a0)) := (b9'.cell (p := ⟨g, 0, none⟩) lg8).trans HG8.out
        have N9 : Hid (Has w9 w8.heap.size 9 namesA) := n9
        have lg9 : g < w9.heap.size := Nat.lt_of_lt_of_le lg8 b9'.size
        clear b9 b9' n9 Hb8 HR8 HX8
        (try go_wp2_with fail)
        refine hK.out _ _ ?_ (fun hHeld1 => ?_)
        · (first | exact HG8.out | exact HG9.out | exact ⟨HG9.out, (N9.out.cell k).trans Hk.out⟩)
        clear hK K hHeld0
        (try simp only [Act.put, List.setIfInBounds_toArray, List.set_cons_zero, List.set_cons_succ])
        refine wpAnyH_more (S' := (fun w' => w'.cell? ⟨g, 0, none⟩ = some (strV a0) ∧ w'.cell? ⟨w8.heap.size, k, none⟩ = some (.string ⟨(nameL k).toArray⟩))) (fun _ h => h.1) _ _ _ _ ?_
        have hHeld2 := And.intro HG9.out ((N9.out.cell k).trans Hk.out)
        clear hHeld1
        refine wpAnyH_take (i := 2) (oi := { dst := some 54, op := Go.Op.indexAddr 34 (Go.Operand.tmp 52) (Go.Operand.tmp 53), type := 0, pos := "l2_rec.go:137", after := #[{ on := 0, ground := Go.Ground.data }, { on := 1, ground := Go.Ground.data }], guard := none }) (v := ?_) rfl (by kernel_rfl) (by kernel_rfl) (by kernel_rfl) (fun _ _ _ h => h) (Or.inl ⟨by rfl, ?_⟩) hHeld2 ?_
        rotate_left
        · (intro w hSw; (try dsimp only at hSw); go_simp; (first | done | (with_reducible rfl) | (rw [if_neg (by omega)]) | (rw [if_neg (by simp only [ByteArray.size_append]; omega)])))
        (try simp only [Act.put, List.setIfInBounds_toArray, List.set_cons_zero, List.set_cons_succ])
        refine wpAnyH_take (i := 3) (oi := { dst := some 55, op := Go.Op.load 9 (Go.Operand.tmp 54), type := 9, pos := "l2_rec.go:137", after := #[{ on := 2, ground := Go.Ground.data }], guard := none }) (v := ?_) rfl (by kernel_rfl) (by kernel_rfl) (by kernel_rfl) (fun _ _ _ h => h) (Or.inl ⟨by rfl, ?_⟩) hHeld2 ?_
        rotate_left
        · (intro w hSw; (try dsimp only at hSw); go_simp; (first | done | (with_reducible rfl) | (rw [if_neg (by omega)]) | (rw [if_neg (by simp only [ByteArray.size_append]; omega)])))
        (try simp only [Act.put, List.setIfInBounds_toArray, List.set_cons_zero, List.set_cons_succ])
        refine wpAnyH_take (i := 7) (oi := { dst := some 59, op := Go.Op.binOp Go.BinOp.eql 9 (Go.Operand.tmp 55) (Go.Operand.tmp 58) 9, type := 4, pos := "l2_rec.go:137", after := #[{ on := 3, ground := Go.Ground.data }, { on := 6, ground := Go.Ground.data }], guard := none }) (v := ?_) rfl (by kernel_rfl) (by kernel_rfl) (by kernel_rfl) (fun _ _ _ h => h) (Or.inl ⟨by rfl, ?_⟩) hHeld2 ?_
        rotate_left
        · (intro w hSw; (try dsimp only at hSw); go_simp; (first | done | (with_reducible rfl) | (rw [if_neg (by omega)]) | (rw [if_neg (by simp only [ByteArray.size_append]; omega)])))
        (try simp only [Act.put, List.setIfInBounds_toArray, List.set_cons_zero, List.set_cons_succ])
        refine wpAnyH_done (by kernel_rfl) ?_ _
        clear hHeld2
        have x0 := HX9.out.cell 0
        have fx0 := HX9.out.frozen 0
        by_cases hne : nameL k = a0
        · have Hk1 := Lib.hid (kindTo_yes hk1 (by omega) hne)
          subst hne
          go_wp2
          all_goals first
            | (exfalso; rename_i h; simp at h; done)
            | skip
          refine ⟨⟨k + 1, by omega, by omega, by go_num, Hb9.out.setCell (Nat.le_of_lt hrw) _, HR9.out.far (by show w.heap.size ≠ rb; omega) _, ?_, ?_, by rw [size_set]; exact lg9⟩, by simp [intOf]; omega⟩
          · rw [Hk1.out]
            exact HX9.out.set 0 _
          · exact (World.cell?_setCell_other _ _ _ _ (fun e => by injection e; omega)).trans HG9.out
        · have Hk1 := Lib.hid (kindTo_no hk1 (by omega) hne)
          have Hne := Lib.hid hne
          clear hne
          go_wp2
          all_goals first
            | (exfalso; rename_i h; exact Hne.out (by simpa using h))
            | skip
          refine ⟨⟨k + 1, by omega, by omega, by go_num, Hb9.out, HR9.out, ?_, HG9.out, lg9⟩, by simp [intOf]; omega⟩
          rw [Hk1.out]
          exact HX9.out
      · obtain rfl : k = 7 := by omega
        go_wp2_with fail
        refine (l2Names_any _).mono ?_
        rintro e w8 ⟨rfl, b8, n8⟩
        have Hb8 : Hid (Below w.heap.size w w8) := Hb.out.trans (b8.mono (by omega))
        have HR8 := Lib.hid (HR.out.below b8 lR)
        have HX8 := Lib.hid (HX.out.below b8 lX)
        rw [kindTo_all] at HX8
        clear b8 n8 Hb HR HX HG lR lX
        obtain ⟨r0, r1, r2, r3, r4, r5, r6, r7⟩ := eightZ HR8.out
        obtain ⟨c0, c1, c2, c3, c4, c5, c6, c7⟩ := eight HX8.out
        have lR8 := HR8.out.lt
        have lX8 := HX8.out.lt
        go_wp2_with fail
        refine (specRecText_any (guess a0 a1 a2 a3 a4 a5 a6 a7) _).mono ?_
        rintro e w9 ⟨rfl, b9⟩
        have Hb9 : Hid (Below w.heap.size w w9) := Hb8.out.trans (b9.mono (by omega))
        have HR9 := Lib.hid (HR8.out.below b9 lR8)
        have HX9 := Lib.hid (HX8.out.below b9 lX8)
        clear b9 Hb8 HR8 HX8 r0 r1 r2 r3 r4 r5 r6 r7 c0 c1 c2 c3 c4 c5 c6 c7
        obtain ⟨r0, r1, r2, r3, r4, r5, r6, r7⟩ := eightZ HR9.out
        obtain ⟨c0, c1, c2, c3, c4, c5, c6, c7⟩ := eight HX9.out
        have f0 := HR9.out.frozen 0
        have f1 := HR9.out.frozen 1
        have f2 := HR9.out.frozen 2
        have f3 := HR9.out.frozen 3
        have f4 := HR9.out.frozen 4
        have f5 := HR9.out.frozen 5
        have f6 := HR9.out.frozen 6
        have f7 := HR9.out.frozen 7
        by_cases ht : textR (guess a0 a1 a2 a3 a4 a5 a6 a7) = s.data.toList
        · have Hn := Lib.hid (E.out.yes ht)
          have es : (⟨(textR (guess a0 a1 a2 a3 a4 a5 a6 a7)).toArray⟩ : ByteArray) = s := by
            apply ByteArray.ext
            rw [ht]
          rw [es]
          clear es ht
          go_wp2
          refine bodyPost_ret (v := .tuple #[recV (guess a0 a1 a2 a3 a4 a5 a6 a7), .bool true]) (by simp [results, Tryz.results7, go_sem, r0, r1, r2, r3, r4, r5, r6, r7, guess]) rfl ⟨by rw [Hn.out.1, Hn.out.2], ?_⟩
          exact (((((((Hb9.out.setCell (Nat.le_refl _) _).setCell (Nat.le_refl _) _).setCell (Nat.le_refl _) _).setCell (Nat.le_refl _) _).setCell (Nat.le_refl _) _).setCell (Nat.le_refl _) _).setCell (Nat.le_refl _) _).setCell (Nat.le_refl _) _
        · have Hn := Lib.hid (E.out.no ht)
          obtain ⟨x, hx⟩ : ∃ x : ByteArray, x = ⟨(textR (guess a0 a1 a2 a3 a4 a5 a6 a7)).toArray⟩ := ⟨_, rfl⟩
          have hb1 : (x.toList == s.toList) = false := by
            rw [ByteArray.toList_eq, ByteArray.toList_eq, hx, beq_eq_false_iff_ne]
            exact ht
          have hb2 : (x.toList != s.toList) = true := by
            rw [bne, hb1]
            rfl
          rw [← hx]
          clear hx ht
          go_wp2
          refine bodyPost_ret (v := .tuple #[recV ⟨0, 0, 0, 0, 0, 0, 0, 0⟩, .bool false]) (by simp [results, Tryz.results7, go_sem, r0, r1, r2, r3, r4, r5, r6, r7]) rfl ⟨by rw [Hn.out.1, Hn.out.2], ?_⟩
          exact (((((((Hb9.out.setCell (Nat.le_refl _) _).setCell (Nat.le_refl _) _).setCell (Nat.le_refl _) _).setCell (Nat.le_refl _) _).setCell (Nat.le_refl _) _).setCell (Nat.le_refl _) _).setCell (Nat.le_refl _) _).setCell (Nat.le_refl _) _
  · have Hn := Lib.hid (not_eight h8)
    have C : Hid (∀ W, Calls Tryz.prog 15 #[.string s] W (Cuts (cutW s.data.toList) W)) := fun W => l2Cut_any s hs30 W
    have h8b : (((cutW s.data.toList).length : Int) != 8) = true := by simp; omega
    clear h8 hsz
    generalize cutW s.data.toList = ws at *
    go_enter Tryz.func7, Tryz.ntmps7
    go_wp2_with fail
    refine (C.out _).mono ?_
    rintro e w2 ⟨g, cap, rfl, b2, hg0, hg1, hcells⟩
    have Q2 := Lib.hid ((Has.new w 23 #[.int .i64 0, .int .i64 0, .int .i64 0, .int .i64 0, .int .i64 0, .int .i64 0, .int .i64 0, .int .i64 0]).below b2 (by simp))
    have B2 : Hid (Below w.heap.size w w2) := (below_one _ _).trans (b2.mono (by simp))
    obtain ⟨r0, r1, r2, r3, r4, r5, r6, r7⟩ := eightZ Q2.out
    have f0 := Q2.out.frozen 0
    have f1 := Q2.out.frozen 1
    have f2 := Q2.out.frozen 2
    have f3 := Q2.out.frozen 3
    have f4 := Q2.out.frozen 4
    have f5 := Q2.out.frozen 5
    have f6 := Q2.out.frozen 6
    have f7 := Q2.out.frozen 7
    clear b2 hg0 hg1 hcells C
    go_wp2
    refine bodyPost_ret (v := .tuple #[recV ⟨0, 0, 0, 0, 0, 0, 0, 0⟩, .bool false]) (by simp [results, Tryz.results7, go_sem, r0, r1, r2, r3, r4, r5, r6, r7]) rfl ⟨by rw [Hn.out.1, Hn.out.2], ?_⟩
    exact (((((((B2.out.setCell (Nat.le_refl _) _).setCell (Nat.le_refl _) _).setCell (Nat.le_refl _) _).setCell (Nat.le_refl _) _).setCell (Nat.le_refl _) _).setCell (Nat.le_refl _) _).setCell (Nat.le_refl _) _).setCell (Nat.le_refl _) _
end Go.Proofs.YtoihdbcdlodkgaaGreatDoor.Base

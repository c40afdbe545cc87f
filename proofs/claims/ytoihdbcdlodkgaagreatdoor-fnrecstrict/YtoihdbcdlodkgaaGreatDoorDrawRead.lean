/-
  Contracts of the model's 'of' and DrawRecRead: a short text. Only its length is said, not which text it is. Conditions: the code is a slice of bytes.
-/
import Derived.Test.YtoihdbcdlodkgaaGreatDoorDrawOk
import Derived.Test.YtoihdbcdlodkgaaGreatDoorTxS
import Derived.Test.YtoihdbcdlodkgaaGreatDoorReadMath
namespace Go.Proofs.YtoihdbcdlodkgaaGreatDoor.Base
open Go.RowKit

/-- the pieces that are put into a text -/
abbrev ofA : Array Value := #[.string ⟨#[48]⟩, .string ⟨#[32]⟩, .string ⟨#[49]⟩, .string ⟨#[45]⟩, .string ⟨#[32, 48]⟩]
/-- what 'of' leaves: a short text; the reader is one place on -/
def OfOne (g : Nat) (a : Option Addr) (zs : List Int) (cap : Nat) (p : Int) (B : Nat) (w : World) (e : Ending) (w' : World) : Prop :=
  ∃ s : ByteArray, e = .returned (.string s) ∧ s.size ≤ 2 ∧ w.grownBy w' (some g) ∧ w'.heap.size = w.heap.size ∧ Rdr w' g a zs cap (p + 1) B

set_option maxRecDepth 100000 in
set_option maxHeartbeats 1000000 in
theorem of_any (lb g : Nat) (a : Option Addr) (zs : List Int) (cap : Nat) (p : Int) (B : Nat) (w : World) (h : Rdr w g a zs cap p B) (hp : p ≤ 1000000000) (hl : Has w lb 9 ofA) (hne : lb ≠ g) :
    Calls Tryz.prog 28 #[.pointer (some ⟨g, 0, none⟩), .slice (some ⟨lb, 0, none⟩) 5 5] w (OfOne g a zs cap p B w) := by
  have H := Lib.hid h
  have L := Lib.hid hl
  clear h hl
  go_enter Tryz.func28, Tryz.ntmps28
  go_wp2_with fail
  refine (pick_any 5 g a zs cap p B _ H.out hp (by omega) (by omega)).mono ?_
  rintro e y1 ⟨v, rfl, v0, v1, hgr, hs, hr⟩
  have v2 := v1 (by omega)
  have L1 := L.out.grown hgr (fun e => by injection e; omega)
  have T := Lib.hid (And.intro hgr (And.intro hs hr))
  clear v1 hgr hs hr L
  obtain ⟨n, rfl⟩ : ∃ n : Nat, v = n := Int.eq_ofNat_of_zero_le v0
  have c := L1.cell n
  obtain ⟨s, hs, hz⟩ : ∃ s : ByteArray, ofA[n]? = some (.string s) ∧ s.size ≤ 2 := by
    have hn : n < 5 := by omega
    match n, hn with
    | 0, _ => exact ⟨_, rfl, by decide⟩
    | 1, _ => exact ⟨_, rfl, by decide⟩
    | 2, _ => exact ⟨_, rfl, by decide⟩
    | 3, _ => exact ⟨_, rfl, by decide⟩
    | 4, _ => exact ⟨_, rfl, by decide⟩
  rw [hs] at c
  clear hs L1
  go_wp2
  go_ret
  exact ⟨s, rfl, hz, T.out.1, T.out.2.1, T.out.2.2⟩

/-- a drawn text; nothing that was there has turned -/
def DrawnText (w : World) (e : Ending) (w' : World) : Prop := Below w.heap.size w w' ∧ ∃ s : ByteArray, s.size ≤ 100 ∧ e = .returned (.string s)
theorem textR_size (r : R) : (⟨(textR r).toArray⟩ : ByteArray).size ≤ 30 := by
  show (textR r).length ≤ 30
  cases hk : okR r
  · unfold textR
    rw [hk]
    simp
  · have h : IsText (recT r) r := ⟨hk, rfl⟩
    have : textR r = recT r := by unfold textR; rw [hk]; rfl
    rw [this]
    exact (isText_len h).1

set_option maxRecDepth 100000 in
set_option maxHeartbeats 4000000 in
theorem drawRecRead_any (a : Option Addr) (zs : List Int) (cap B : Nat) (w : World) (hB : B ≤ w.heap.size) (hc : Bytes w B a zs cap) :
    Calls Tryz.prog 14 #[.slice a zs.length cap] w (DrawnText w) := by
  have H := Lib.hid hc
  clear hc
  go_enter Tryz.func14, Tryz.ntmps14
  go_wp2_with fail
  refine (l6Open_any a zs cap B _ hB H.out.ints H.out.bytes H.out.fit H.out.most).mono ?_
  rintro e w1 ⟨a', bs, cap', rfl, b1, h1⟩
  have n1 := h1.has.lt
  have H1 := Lib.hid h1
  have K1 := Lib.hid b1
  clear b1 h1 H
  go_wp2_with fail
  refine (l71Rec_any w.heap.size a' bs cap' 0 B _ H1.out (by omega)).mono ?_
  rintro e w2 ⟨r, rfl, hgr, p, hp, hr⟩
  have K2 : Hid (Below w.heap.size w w2) := K1.out.trans (below_grown hgr (Nat.le_refl _) (by omega))
  have H2 := Lib.hid hr
  have n2 := hr.has.lt
  clear hgr hr K1 H1
  go_wp2_with fail
  refine (specRecText_any r _).mono ?_
  rintro e w3 ⟨rfl, b3⟩
  have K3 : Hid (Below w.heap.size w w3) := K2.out.trans (b3.mono (by omega))
  have H3 := Lib.hid (H2.out.below b3 n2)
  have n3 := H3.out.has.lt
  have hsz := textR_size r
  clear b3 K2 H2
  generalize (⟨(textR r).toArray⟩ : ByteArray) = s at *
  have hsi : (s.size : Int) ≤ 30 := by omega
  have hs0 : (0 : Int) ≤ (s.size : Int) := by omega
  go_wp2_with fail
  refine (pick_any _ w.heap.size a' bs cap' p B _ H3.out (by omega) (by omega) (by omega)).mono ?_
  rintro e w4 ⟨v, rfl, v0, v1, hgr, hs4, hr⟩
  have v2 := v1 (by omega)
  have K4 : Hid (Below w.heap.size w w4) := K3.out.trans (below_grown hgr (Nat.le_refl _) (by omega))
  have H4 := Lib.hid hr
  have n4 := hr.has.lt
  have v3 : v ≤ (s.size : Int) := by omega
  clear v1 hgr hs4 hr K3 H3
  go_wp2_with fail
  refine (pick_any 7 w.heap.size a' bs cap' (p + 1) B _ H4.out (by omega) (by omega) (by omega)).mono ?_
  rintro e w5 ⟨u, rfl, u0, u1, hgr, hs5, hr⟩
  have K5 : Hid (Below w.heap.size w w5) := K4.out.trans (below_grown hgr (Nat.le_refl _) (by omega))
  have H5 := Lib.hid hr
  have n5 := hr.has.lt
  clear u1 hgr hs5 hr K4 H4 v2
  by_cases hu0 : u = 0
  · subst hu0
    have hsx : (s.extract 0 v.toNat).size ≤ 100 := by rw [ByteArray.size_extract]; omega
    have Hx := Lib.hid hsx
    clear hsx
    go_wp2
    go_ret
    exact ⟨K5.out, _, Hx.out, rfl⟩
  have bu0 : (u == 0) = false := by simpa using hu0
  by_cases hu1 : u = 1
  · subst hu1
    obtain ⟨m, rfl⟩ : ∃ m : Nat, v = m := Int.eq_ofNat_of_zero_le v0
    have O6 : Hid (Has (w5.alloc (.cells ofA 9)).drew w5.heap.size 9 ofA) := Has.new w5 9 ofA
    have R6 : Hid (Rdr (w5.alloc (.cells ofA 9)).drew w.heap.size a' bs cap' (p + 1 + 1) B) := (H5.out.below (below_one w5 (.cells ofA 9)) n5).drewN 1
    have K6 := Lib.hid (K5.out.alloc (by omega) (.cells ofA 9))
    clear hu0
    have hx1 : (s.extract 0 m).size ≤ 30 := by rw [ByteArray.size_extract]; omega
    have hx2 : (s.extract m s.size).size ≤ 30 := by rw [ByteArray.size_extract]; omega
    have hx3 : ∀ p : ByteArray, p.size ≤ 2 → (s.extract 0 m ++ p).size ≤ 32 := fun p hp => by rw [ByteArray.size_append]; omega
    have HX : Hid (∀ p : ByteArray, p.size ≤ 2 → (s.extract 0 m ++ p ++ s.extract m s.size).size ≤ 100) := fun p hp => by rw [ByteArray.size_append, ByteArray.size_append]; omega
    generalize hq1 : s.extract 0 m = q1 at *
    generalize hq2 : s.extract m s.size = q2 at *
    go_wp2_with fail
    refine wp_region_held_drew (S := (fun _ => True)) (by kernel_rfl) ?_ (fun hHeld0 => ?_)
    · trivial
    refine wpAnyH_take (i := 0) (oi := { dst := some 25, op := Go.Op.move (Go.Operand.tmp 4), type := 9, pos := "l71_draw.go:112", after := #[], guard := none }) (v := ?_) rfl (by kernel_rfl) (by kernel_rfl) (by kernel_rfl) (fun _ _ _ h => h) (Or.inl ⟨by rfl, ?_⟩) hHeld0 ?_
    rotate_left
    · (intro w hSw; (try dsimp only at hSw); go_simp; (first | done | (with_reducible rfl) | (rw [if_neg (by omega)]) | (rw [if_neg (by simp only [ByteArray.size_append]; omega)])))
    (try simp only [Act.put, List.setIfInBounds_toArray, List.set_cons_zero, List.set_cons_succ])
    refine wpAnyH_take (i := 1) (oi := { dst := some 26, op := Go.Op.move (Go.Operand.tmp 5), type := 3, pos := "l71_draw.go:112", after := #[], guard := none }) (v := ?_) rfl (by kernel_rfl) (by kernel_rfl) (by kernel_rfl) (fun _ _ _ h => h) (Or.inl ⟨by rfl, ?_⟩) hHeld0 ?_
    rotate_left
    · (intro w hSw; (try dsimp only at hSw); go_simp; (first | done | (with_reducible rfl) | (rw [if_neg (by omega)]) | (rw [if_neg (by simp only [ByteArray.size_append]; omega)])))
    (try simp only [Act.put, List.setIfInBounds_toArray, List.set_cons_zero, List.set_cons_succ])
    refine wpAnyH_take (i := 2) (oi := { dst := some 27, op := Go.Op.slice 9 (Go.Operand.tmp 25) none (some (Go.Operand.tmp 26)) none, type := 9, pos := "l71_draw.go:112", after := #[{ on := 0, ground := Go.Ground.data }, { on := 1, ground := Go.Ground.data }], guard := none }) (v := ?_) rfl (by kernel_rfl) (by kernel_rfl) (by kernel_rfl) (fun _ _ _ h => h) (Or.inl ⟨by rfl, ?_⟩) hHeld0 ?_
    rotate_left
    · (intro w hSw; (try dsimp only at hSw); go_simp; (first | done | (with_reducible rfl) | (rw [if_neg (by omega)]) | (rw [if_neg (by simp only [ByteArray.size_append]; omega)])))
    (try simp only [Act.put, List.setIfInBounds_toArray, List.set_cons_zero, List.set_cons_succ])
    refine wpAnyH_take (i := 3) (oi := { dst := some 28, op := Go.Op.move (Go.Operand.tmp 3), type := 44, pos := "l71_draw.go:112", after := #[], guard := none }) (v := ?_) rfl (by kernel_rfl) (by kernel_rfl) (by kernel_rfl) (fun _ _ _ h => h) (Or.inl ⟨by rfl, ?_⟩) hHeld0 ?_
    rotate_left
    · (intro w hSw; (try dsimp only at hSw); go_simp; (first | done | (with_reducible rfl) | (rw [if_neg (by omega)]) | (rw [if_neg (by simp only [ByteArray.size_append]; omega)])))
    (try simp only [Act.put, List.setIfInBounds_toArray, List.set_cons_zero, List.set_cons_succ])
    refine wpAnyH_take (i := 7) (oi := { dst := some 32, op := Go.Op.move (Go.Operand.tmp 4), type := 9, pos := "l71_draw.go:112", after := #[], guard := none }) (v := ?_) rfl (by kernel_rfl) (by kernel_rfl) (by kernel_rfl) (fun _ _ _ h => h) (Or.inl ⟨by rfl, ?_⟩) hHeld0 ?_
    rotate_left
    · (intro w hSw; (try dsimp only at hSw); go_simp; (first | done | (with_reducible rfl) | (rw [if_neg (by omega)]) | (rw [if_neg (by simp only [ByteArray.size_append]; omega)])))
    (try simp only [Act.put, List.setIfInBounds_toArray, List.set_cons_zero, List.set_cons_succ])
    refine wpAnyH_take (i := 8) (oi := { dst := some 33, op := Go.Op.move (Go.Operand.tmp 5), type := 3, pos := "l71_draw.go:112", after := #[], guard := none }) (v := ?_) rfl (by kernel_rfl) (by kernel_rfl) (by kernel_rfl) (fun _ _ _ h => h) (Or.inl ⟨by rfl, ?_⟩) hHeld0 ?_
    rotate_left
    · (intro w hSw; (try dsimp only at hSw); go_simp; (first | done | (with_reducible rfl) | (rw [if_neg (by omega)]) | (rw [if_neg (by simp only [ByteArray.size_append]; omega)])))
    (try simp only [Act.put, List.setIfInBounds_toArray, List.set_cons_zero, List.set_cons_succ])
    refine wpAnyH_take (i := 9) (oi := { dst := some 34, op := Go.Op.slice 9 (Go.Operand.tmp 32) (some (Go.Operand.tmp 33)) none none, type := 9, pos := "l71_draw.go:112", after := #[{ on := 7, ground := Go.Ground.data }, { on := 8, ground := Go.Ground.data }], guard := none }) (v := ?_) rfl (by kernel_rfl) (by kernel_rfl) (by kernel_rfl) (fun _ _ _ h => h) (Or.inl ⟨by rfl, ?_⟩) hHeld0 ?_
    rotate_left
    · (intro w hSw; (try dsimp only at hSw); go_simp; (first | done | (with_reducible rfl) | (rw [if_neg (by omega)]) | (rw [if_neg (by simp only [ByteArray.size_append]; omega)])))
    (try simp only [Act.put, List.setIfInBounds_toArray, List.set_cons_zero, List.set_cons_succ])
    refine wpAnyH_ready (rs := [4]) (by kernel_rfl) (by simp) ?_
    refine AllReadyH.cons (o := { dst := some 29, op := Go.Op.buildSlice 34 5 #[(0, Go.Operand.const (Go.Value.string { data := #[48] })), (1, Go.Operand.const (Go.Value.string { data := #[32] })), (2, Go.Operand.const (Go.Value.string { data := #[49] })), (3, Go.Operand.const (Go.Value.string { data := #[45] })), (4, Go.Operand.const (Go.Value.string { data := #[32, 48] }))], type := 34, pos := "l71_draw.go:112", after := #[], guard := none }) rfl (fun K hK => ?_) AllReadyH.nil
    go_simp
    skip
    (try go_wp2_with fail)
    refine hK.out _ _ ?_ (fun hHeld1 => ?_)
    · trivial
    clear hK K hHeld0
    (try simp only [Act.put, List.setIfInBounds_toArray, List.set_cons_zero, List.set_cons_succ])
    refine wpAnyH_ready (rs := [5]) (by kernel_rfl) (by simp) ?_
    refine AllReadyH.cons (o := { dst := some 30, op := Go.Op.call { callee := Go.Callee.value (Go.Operand.func 28), args := #[Go.Operand.tmp 28, Go.Operand.tmp 29], argTypes := #[44, 34] }, type := 9, pos := "l71_draw.go:112", after := #[{ on := 3, ground := Go.Ground.data }, { on := 4, ground := Go.Ground.data }], guard := none }) rfl (fun K hK => ?_) AllReadyH.nil
    go_simp
    (with_reducible refine (of_any w5.heap.size w.heap.size a' bs cap' (p + 1 + 1) B ((w5.alloc (.cells ofA 9)).drew) R6.out (by omega) O6.out (by omega)).mono ?_)
    rintro e w6 ⟨pc, rfl, hpc, hgr, hs6, hr6⟩
    have K7 : Hid (Below w.heap.size w w6) := (K6.out.drew).trans (below_grown hgr (Nat.le_refl _) (by simp; omega))
    have hx4 := hx3 pc hpc
    clear hgr hs6 hr6
    (try go_wp2_with fail)
    refine hK.out _ _ ?_ (fun hHeld2 => ?_)
    · trivial
    clear hK K hHeld1
    (try simp only [Act.put, List.setIfInBounds_toArray, List.set_cons_zero, List.set_cons_succ])
    refine wpAnyH_take (i := 6) (oi := { dst := some 31, op := Go.Op.binOp Go.BinOp.add 9 (Go.Operand.tmp 27) (Go.Operand.tmp 30) 9, type := 9, pos := "l71_draw.go:112", after := #[{ on := 2, ground := Go.Ground.data }, { on := 5, ground := Go.Ground.data }], guard := none }) (v := ?_) rfl (by kernel_rfl) (by kernel_rfl) (by kernel_rfl) (fun _ _ _ h => h) (Or.inl ⟨by rfl, ?_⟩) hHeld2 ?_
    rotate_left
    · (intro w hSw; (try dsimp only at hSw); go_simp; (first | done | (with_reducible rfl) | (rw [if_neg (by omega)]) | (rw [if_neg (by simp only [ByteArray.size_append]; omega)])))
    (try simp only [Act.put, List.setIfInBounds_toArray, List.set_cons_zero, List.set_cons_succ])
    refine wpAnyH_take (i := 10) (oi := { dst := some 35, op := Go.Op.binOp Go.BinOp.add 9 (Go.Operand.tmp 31) (Go.Operand.tmp 34) 9, type := 9, pos := "l71_draw.go:112", after := #[{ on := 6, ground := Go.Ground.data }, { on := 9, ground := Go.Ground.data }], guard := none }) (v := ?_) rfl (by kernel_rfl) (by kernel_rfl) (by kernel_rfl) (fun _ _ _ h => h) (Or.inl ⟨by rfl, ?_⟩) hHeld2 ?_
    rotate_left
    · (intro w hSw; (try dsimp only at hSw); go_simp; (first | done | (with_reducible rfl) | (rw [if_neg (by omega)]) | (rw [if_neg (by simp only [ByteArray.size_append]; omega)])))
    (try simp only [Act.put, List.setIfInBounds_toArray, List.set_cons_zero, List.set_cons_succ])
    refine wpAnyH_take (i := 11) (oi := { dst := some 2, op := Go.Op.assign (Go.Operand.tmp 35), type := 9, pos := "l71_draw.go:112", after := #[{ on := 10, ground := Go.Ground.data }, { on := 5, ground := Go.Ground.chain }, { on := 0, ground := Go.Ground.phase }, { on := 1, ground := Go.Ground.phase }, { on := 2, ground := Go.Ground.phase }, { on := 3, ground := Go.Ground.phase }, { on := 4, ground := Go.Ground.phase }, { on := 5, ground := Go.Ground.phase }, { on := 6, ground := Go.Ground.phase }, { on := 7, ground := Go.Ground.phase }, { on := 8, ground := Go.Ground.phase }, { on := 9, ground := Go.Ground.phase }, { on := 10, ground := Go.Ground.phase }], guard := none }) (v := ?_) rfl (by kernel_rfl) (by kernel_rfl) (by kernel_rfl) (fun _ _ _ h => h) (Or.inl ⟨by rfl, ?_⟩) hHeld2 ?_
    rotate_left
    · (intro w hSw; (try dsimp only at hSw); go_simp; (first | done | (with_reducible rfl) | (rw [if_neg (by omega)]) | (rw [if_neg (by simp only [ByteArray.size_append]; omega)])))
    (try simp only [Act.put, List.setIfInBounds_toArray, List.set_cons_zero, List.set_cons_succ])
    refine wpAnyH_done (by kernel_rfl) ?_ _
    clear hHeld2
    go_wp2_with fail
    go_ret
    exact ⟨K7.out, _, HX.out pc hpc, rfl⟩
  · have bu1 : (u == 1) = false := by simpa using hu1
    clear hu0 hu1
    go_wp2
    go_ret
    exact ⟨K5.out, s, by omega, rfl⟩
end Go.Proofs.YtoihdbcdlodkgaaGreatDoor.Base

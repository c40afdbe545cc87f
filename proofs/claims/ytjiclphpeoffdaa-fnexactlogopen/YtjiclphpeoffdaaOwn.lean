/-
  Rows of integers of the call's own: what is appended, what is handed on; the laws' helpers on them. No conditions but those in each.
-/
import Derived.Test.YtjiclphpeoffdaaPages
import Derived.Test.YtjiclphpeoffdaaToRecs
import Derived.OwnWalk
namespace Go.Proofs.Ytjiclphpeoffdaa.Base
open Go.RowKit

/-- v is a slice of the call's own (nothing below base), with the numbers zs -/
def OwnI (w : World) (base : Nat) (v : Value) (zs : List Int) : Prop := w.ownsRow base 3 1 v zs.length (zs.map (Value.int .i64))
theorem OwnI.alloc {w : World} {base : Nat} {v : Value} {zs : List Int} (h : OwnI w base v zs) (ob : Obj) : OwnI (w.alloc ob) base v zs :=
  World.ownsRow.kept h (World.grownBy_alloc w ob none) (by cases v.ownBlock <;> simp)
theorem OwnI.nil (w : World) (base : Nat) : OwnI w base (.slice none 0 0) [] := ⟨rfl, .inl ⟨rfl, rfl⟩⟩
theorem OwnI.empty {w : World} {base g : Nat} (h : Has w g 3 #[]) (hb : base ≤ g) : OwnI w base (.slice (some ⟨g, 0, none⟩) 0 0) [] :=
  ⟨rfl, .inr ⟨g, 0, #[], rfl, hb, h, by simp, by simp [maxLen], by simp, by simp⟩⟩

/-- 'append(zs, z)' of one number onto a row of the call's own -/
theorem wp_append_int {ops : Array Oper} {rest : List Oper} {o : Oper} {a : Act} {Q : Exit → Act → World → Prop} (w : World) (hgd : o.guard = none) (s x : Operand)
    (ho : o.op = .call { callee := .builtin .append, args := #[s, x], argTypes := #[31, 31] }) (base : Nat) (v : Value) (zs : List Int) (hs : a.eval s = v) (hown : OwnI w base v zs)
    (ad : Nat) (z : Int) (hx : a.eval x = .slice (some ⟨ad, 0, none⟩) 1 1) (hc : w.cell? ⟨ad, 0, none⟩ = some (.int .i64 z)) (hn : zs.length ≤ 1000000) (hbase : base ≤ w.heap.size)
    (h : ∀ v' w', OwnI w' base v' (zs ++ [z]) → w.grownBy w' v.ownBlock → wpList Try.prog ops Q rest (a.put o.dst v') w') :
    wpList Try.prog ops Q (o :: rest) a w := by
  obtain ⟨i0, hi, hz0, hs0, hb0⟩ := info_parts infoInt
  refine wpList_append_own w hgd s x 31 ho base 3 i0 _ 1 8 Try.underlying31 hi hz0 hs0 hb0 rfl (by omega) v zs.length _ hs hown ⟨ad, 0, none⟩ 1 1 [.int .i64 z] hx rfl ?_ (by simp [Value.oneCell']) (by simp [maxLen]; omega) (by omega) hbase (fun v' w' h1 h2 _ => h v' w' ?_ h2)
  · intro j u' hu
    match j, hu with
    | 0, hu => simp at hu; subst hu; simpa [Addr.add] using hc
  · unfold OwnI
    simpa using h1

/-- a slice that leads to numbers of the call's own -/
def Mine (w : World) (base : Nat) (a : Option Addr) (zs : List Int) : Prop :=
  0 < zs.length → ∃ g, a = some ⟨g, 0, none⟩ ∧ base ≤ g ∧ Rd .i64 w g 0 zs ∧ Wr w g 0 zs.length
/-- what a function answers that hands on a new row of numbers -/
def Gives (zs : List Int) (w : World) (e : Ending) (w' : World) : Prop :=
  ∃ a cap, e = .returned (.slice a zs.length cap) ∧ Below w.heap.size w w' ∧ Mine w' w.heap.size a zs
theorem OwnI.mine {w : World} {base : Nat} {v : Value} {zs : List Int} (h : OwnI w base v zs) : ∃ a cap, v = .slice a zs.length cap ∧ Mine w base a zs := by
  rcases h.2 with ⟨rfl, h0⟩ | ⟨g, cap, cur, rfl, hlow, hhas, hnc, hmax, hsz, htk⟩
  · rw [h0]
    exact ⟨none, 0, rfl, fun hp => absurd hp (by omega)⟩
  · refine ⟨some ⟨g, 0, none⟩, cap, rfl, fun _ => ⟨g, rfl, hlow, fun j hj => ?_, (show Has w g _ _ from hhas).wr _ _⟩⟩
    rw [(show Has w g _ _ from hhas).cell, Nat.zero_add]
    have e := congrArg (fun l => l[j]?) htk
    simp only [Nat.mul_one] at e
    rw [List.getElem?_take_of_lt hj] at e
    simpa [List.getElem?_eq_getElem hj] using e
section
variable {w w' : World} {base B : Nat} {a : Option Addr} {zs : List Int}
theorem Mine.ints (h : Mine w base a zs) : Ints .i64 w w.heap.size a zs := fun hp => by
  obtain ⟨g, e, _, hr, hw⟩ := h hp
  exact ⟨g, 0, e, hw.1, hr⟩
theorem Mine.below (h : Mine w base a zs) (hb : Below w.heap.size w w') : Mine w' base a zs := fun hp => by
  obtain ⟨g, e, hg, hr, hw⟩ := h hp
  exact ⟨g, e, hg, hr.below hb hw.1, hw.below hb hw.1⟩
theorem Mine.low (h : Mine w base a zs) {base' : Nat} (hb : base' ≤ base) : Mine w base' a zs := fun hp => by
  obtain ⟨g, e, hg, hr, hw⟩ := h hp
  exact ⟨g, e, Nat.le_trans hb hg, hr, hw⟩
/-- another block has turned -/
theorem Mine.grown {k : Nat} (h : Mine w base a zs) (hb : w.grownBy w' (some k)) (hk : k < base) : Mine w' base a zs := fun hp => by
  obtain ⟨g, e, hg, hr, hw⟩ := h hp
  have hne : some g ≠ some k := fun e => by injection e; omega
  exact ⟨g, e, hg, hr.grown hb hw.1 hne, hw.grown hb hne⟩
/-- a block above those of the row has turned -/
theorem Mine.grown_up {k : Nat} (h : Mine w base a zs) (hlt : ∀ g, a = some ⟨g, 0, none⟩ → g < B) (hb : w.grownBy w' (some k)) (hk : B ≤ k) : Mine w' base a zs := fun hp => by
  obtain ⟨g, e, hg, hr, hw⟩ := h hp
  have := hlt g e
  have hne : some g ≠ some k := fun e => by injection e; omega
  exact ⟨g, e, hg, hr.grown hb hw.1 hne, hw.grown hb hne⟩
end

/-- what markIntS leaves of a row of one's own: the numbers k, k + 1, .. -/
def MarkedM (k : Int) (base : Nat) (a : Option Addr) (n : Nat) (w : World) (e : Ending) (w' : World) : Prop :=
  e = .returned (.int .i64 (k + n)) ∧ Below base w w' ∧ Mine w' base a (marks k n)
set_option maxHeartbeats 400000 in
theorem markIntS_none (a : Option Addr) (cap : Nat) (k : Int) (w : World) :
    Calls Try.prog 20 #[.slice a 0 cap, .int .i64 k] w fun e w' => e = .returned (.int .i64 k) ∧ w = w' := by
  go_enter Try.func20, Try.ntmps20
  go_wp2
  go_loop [1, 5] (fun q i => i = .int .i64 0 ∧ q = .int .i64 k) (fun _ _ => 0)
  case atStart => exact ⟨rfl, rfl⟩
  case round =>
    obtain ⟨rfl, rfl⟩ := hrel
    go_wp2
    go_ret
    exact ⟨rfl, rfl⟩
theorem markIntS_mine (zs : List Int) (a : Option Addr) (cap base : Nat) (k : Int) (w : World) (hm : Mine w base a zs) (hb : base ≤ w.heap.size) (k0 : 0 ≤ k) (k1 : k ≤ 1000000000000) (mx : zs.length ≤ 1000000000) :
    Calls Try.prog 20 #[.slice a zs.length cap, .int .i64 k] w (MarkedM k base a zs.length w) := by
  by_cases hp : 0 < zs.length
  · obtain ⟨g, rfl, hg, hr, hw⟩ := hm hp
    refine (markIntS_any zs g 0 cap k w hr hw k0 k1 mx).mono ?_
    rintro e w' ⟨rfl, h1, h2, h3, h4⟩
    exact ⟨rfl, below_grown h1 hg hb, fun _ => ⟨g, rfl, hg, h3, by rw [marks_len]; exact h4⟩⟩
  · have h0 : zs.length = 0 := by omega
    rw [h0]
    refine (markIntS_none a cap k w).mono ?_
    rintro e w' ⟨rfl, rfl⟩
    exact ⟨by simp, Below.refl _ _, fun hp => absurd hp (by simp [marks])⟩

/-- what markRecS leaves: another block alone has turned -/
def MarkedR (k : Int) (g n : Nat) (w : World) (e : Ending) (w' : World) : Prop :=
  e = .returned (.int .i64 (k + 8 * n)) ∧ w.grownBy w' (some g) ∧ w'.heap.size = w.heap.size

set_option maxHeartbeats 4000000 in
theorem markRecS_any (n g cap : Nat) (k : Int) (w : World) (hx : Ex w g (n * 8)) (hw : Wr w g 0 (n * 8)) (k0 : 0 ≤ k) (k1 : k ≤ 1000) (mx : n ≤ 1048576) :
    Calls Try.prog 19 #[.slice (some ⟨g, 0, none⟩) n cap, .int .i64 k] w (MarkedR k g n w) := by
  have Hx := Lib.hid hx
  have Hw := Lib.hid hw
  clear hx hw
  go_enter Try.func19, Try.ntmps19
  go_wp2
  go_loopw [1, 5] (fun q i w1 => ∃ t : Nat, t ≤ n ∧ i = .int .i64 t ∧ q = .int .i64 (k + 8 * t) ∧ w.grownBy w1 (some g) ∧ w1.heap.size = w.heap.size ∧ Ex w1 g (n * 8) ∧ Wr w1 g 0 (n * 8)) (fun _ i _ => n - (intOf i).toNat)
  case atStart => exact ⟨0, Nat.zero_le _, rfl, by simp, World.grownBy.refl _ _, rfl, Hx.out, Hw.out⟩
  case round =>
    obtain ⟨t, ht, rfl, rfl, hg, hs, hx, hw⟩ := hrel
    have Hg := Lib.hid hg
    have Hs := Lib.hid hs
    have X := Lib.hid hx
    have W := Lib.hid hw
    clear hg hs hx hw
    by_cases hlt : t < n
    · obtain ⟨u0, d0⟩ := X.out (t * 8) (by omega)
      obtain ⟨u1, d1⟩ := X.out (t * 8 + 1) (by omega)
      obtain ⟨u2, d2⟩ := X.out (t * 8 + 2) (by omega)
      obtain ⟨u3, d3⟩ := X.out (t * 8 + 3) (by omega)
      obtain ⟨u4, d4⟩ := X.out (t * 8 + 4) (by omega)
      obtain ⟨u5, d5⟩ := X.out (t * 8 + 5) (by omega)
      obtain ⟨u6, d6⟩ := X.out (t * 8 + 6) (by omega)
      obtain ⟨u7, d7⟩ := X.out (t * 8 + 7) (by omega)
      have fz : ∀ i, i < n * 8 → wr.frozen? ⟨g, i, none⟩ = false := fun i hi => by have := W.out.2 i hi; rwa [Nat.zero_add] at this
      have f0 := fz (t * 8) (by omega)
      have f1 := fz (t * 8 + 1) (by omega)
      have f2 := fz (t * 8 + 2) (by omega)
      have f3 := fz (t * 8 + 3) (by omega)
      have f4 := fz (t * 8 + 4) (by omega)
      have f5 := fz (t * 8 + 5) (by omega)
      have f6 := fz (t * 8 + 6) (by omega)
      have f7 := fz (t * 8 + 7) (by omega)
      clear fz
      go_wp2
      refine ⟨⟨t + 1, by omega, by go_num, by go_num, ?_, ?_, ?_, ?_⟩, by simp [intOf]; omega⟩
      · exact grown_set (grown_set (grown_set (grown_set (grown_set (grown_set (grown_set (grown_set Hg.out _) _) _) _) _) _) _) _
      · simp only [size_set]
        exact Hs.out
      · exact (((((((X.out.put (by omega)).put (by omega)).put (by omega)).put (by omega)).put (by omega)).put (by omega)).put (by omega)).put (by omega)
      · exact (((((((W.out.set _ _).set _ _).set _ _).set _ _).set _ _).set _ _).set _ _).set _ _
    · obtain rfl : t = n := by omega
      go_wp2
      go_ret
      exact ⟨rfl, Hg.out, Hs.out⟩
theorem RdR.ex {w : World} {g : Nat} {rs : List R} (h : RdR w g 0 rs) : Ex w g (rs.length * 8) := fun i hi => by
  have ha := h (i / 8) (by omega)
  rw [Nat.zero_add] at ha
  have e : i = i / 8 * 8 + i % 8 := by omega
  have hm : i % 8 < 8 := Nat.mod_lt _ (by omega)
  generalize i / 8 * 8 = q at ha e
  generalize i % 8 = c at e hm
  subst e
  match c, hm with
  | 0, _ => exact ⟨_, ha.k⟩
  | 1, _ => exact ⟨_, ha.t⟩
  | 2, _ => exact ⟨_, ha.p⟩
  | 3, _ => exact ⟨_, ha.s⟩
  | 4, _ => exact ⟨_, ha.o⟩
  | 5, _ => exact ⟨_, ha.n⟩
  | 6, _ => exact ⟨_, ha.v⟩
  | 7, _ => exact ⟨_, ha.x⟩
end Go.Proofs.Ytjiclphpeoffdaa.Base

/-
  Contract of the program's RecText. Conditions: the package's names of kinds, and the library's table of powers of ten, hold what the program's text lays there.
-/
import Derived.Test.YtoihdbcdlodkgaaGreatDoorRecOkI
import Derived.Test.YtoihdbcdlodkgaaGreatDoorTxMath
import Derived.Test.YtoihdbcdlodkgaaGreatDoorShelf
import Derived.Lib.AppendIntMem
import Derived.Lib.SmallJoins
import Derived.OwnWalk
namespace Go.Proofs.YtoihdbcdlodkgaaGreatDoor.Base
open Go.RowKit

/-- the tables that RecText reads: powers of ten (the library's), names of kinds (the program's) -/
structure Laid (w : World) : Prop where
  tab : Lib.TabIs Tryz.prog w "internal/strconv.uint64pow10" .u64 Lib.pow10Tab
  names : ∀ k : Nat, k < 7 → w.cell? ⟨1, k, none⟩ = some (.string ⟨(nameL k).toArray⟩)
  lt : 1 < w.heap.size
theorem Laid.below {w w' : World} (h : Laid w) (hb : Below w.heap.size w w') : Laid w' :=
  ⟨Go.Joins.tab_stays (g := 4) (by kernel_rfl) h.tab hb (Nat.le_refl _), fun k hk => (hb.cell (p := ⟨1, k, none⟩) h.lt).trans (h.names k hk), Nat.lt_of_lt_of_le h.lt hb.size⟩

/-- the numbers of a record's text -/
def nums (r : R) : List Int := [r.t, r.p, r.s, r.o, r.n, r.v, r.x]
/-- the words of a record's text -/
def wordsR (r : R) : List (List UInt8) := nameL r.k :: (nums r).map Lib.itoa
def wordsV (r : R) : List Value := (wordsR r).map fun l => .string ⟨l.toArray⟩
theorem join_words (r : R) : Lib.join (wordsR r) [32] = recT r := by
  simp [Lib.join, wordsR, nums, List.intercalate, List.intersperse, recT, blank]
theorem words_next (r : R) (t : Nat) (ht : t < 7) : (wordsV r).take (t + 1) ++ [.string ⟨(Lib.itoa ((nums r).getD t 0)).toArray⟩] = (wordsV r).take (t + 1 + 1) := by
  match t, ht with
  | 0, _ => rfl
  | 1, _ => rfl
  | 2, _ => rfl
  | 3, _ => rfl
  | 4, _ => rfl
  | 5, _ => rfl
  | 6, _ => rfl
theorem nums_bounds {r : R} (h : okR r = true) (t : Nat) (ht : t < 7) : -1 ≤ (nums r).getD t 0 ∧ (nums r).getD t 0 ≤ 150 := by
  have hb := okR_bounds h
  match t, ht with
  | 0, _ => show -1 ≤ r.t ∧ r.t ≤ 150; omega
  | 1, _ => show -1 ≤ r.p ∧ r.p ≤ 150; omega
  | 2, _ => show -1 ≤ r.s ∧ r.s ≤ 150; omega
  | 3, _ => show -1 ≤ r.o ∧ r.o ≤ 150; omega
  | 4, _ => show -1 ≤ r.n ∧ r.n ≤ 150; omega
  | 5, _ => show -1 ≤ r.v ∧ r.v ≤ 150; omega
  | 6, _ => show -1 ≤ r.x ∧ r.x ≤ 150; omega
theorem itoa_len (n : Int) (h0 : -1 ≤ n) (h1 : n ≤ 150) : (Lib.itoa n).length ≤ 200 := by
  unfold Lib.itoa
  split
  · have := dec_len n.natAbs
    simp
    omega
  · have := dec_len n.toNat
    omega
theorem name_len (k : Int) : (nameL k).length ≤ 4 := by
  unfold nameL
  repeat' split
  all_goals decide
theorem recT_len {r : R} (h : okR r = true) : (recT r).length ≤ 2000 := by
  have h0 := name_len r.k
  have hb := okR_bounds h
  have h1 := itoa_len r.t (by omega) (by omega)
  have h2 := itoa_len r.p (by omega) (by omega)
  have h3 := itoa_len r.s (by omega) (by omega)
  have h4 := itoa_len r.o (by omega) (by omega)
  have h5 := itoa_len r.n (by omega) (by omega)
  have h6 := itoa_len r.v (by omega) (by omega)
  have h7 := itoa_len r.x (by omega) (by omega)
  simp only [recT, blank, List.length_append, List.length_cons, List.length_nil]
  omega

theorem part_i (cs : Array Value) (i : Nat) (v : Value) (w : World) (h : cs[i]? = some v) : (part 3 cs i).run Tryz.prog w = .ok v w := by
  simp [part, isAgg, run_underlying Tryz.underlying3, h]
theorem ix7 (r : R) (t : Nat) (ht : t < 7) (w : World) : (Instr.index 47 (.agg #[.int .i64 r.t, .int .i64 r.p, .int .i64 r.s, .int .i64 r.o, .int .i64 r.n, .int .i64 r.v, .int .i64 r.x]) (.int .i64 (t : Int))).run Tryz.prog w = .ok (.int .i64 ((nums r).getD t 0)) w := by
  obtain ⟨i0, hi, _, hs, _⟩ := info_parts infoInt
  simp only [Instr.index, asIntOf, Sem.run_bind, Sem.run_pure, Result.andThen_ok, run_underlying Tryz.underlying47]
  rw [if_pos (by omega)]
  simp only [Sem.run_bind, run_sizeOf w hi, Result.andThen_ok]
  rw [show Int.toNat (t : Int) * Tryz.prog.cellsOf 3 = t from by rw [show Tryz.prog.cellsOf 3 = 1 from by kernel_rfl]; simp]
  refine part_i _ _ _ _ ?_
  match t, ht with
  | 0, _ => rfl
  | 1, _ => rfl
  | 2, _ => rfl
  | 3, _ => rfl
  | 4, _ => rfl
  | 5, _ => rfl
  | 6, _ => rfl

theorem infoStr : (Tryz.prog.info? 9).map (fun i => (i.zero, i.size, i.bytes)) = some (some (.string ByteArray.empty), 1, 16) := by kernel_rfl

/-- 'append(ws, s)' of one string onto a row of the call's own -/
theorem wp_append_str {ops : Array Oper} {rest : List Oper} {o : Oper} {a : Act} {Q : Exit → Act → World → Prop} (w : World) (hgd : o.guard = none) (s x : Operand)
    (ho : o.op = .call { callee := .builtin .append, args := #[s, x], argTypes := #[34, 34] }) (base : Nat) (v : Value) (n : Nat) (xs : List Value) (hs : a.eval s = v) (hown : w.ownsRow base 9 1 v n xs)
    (ad : Nat) (u : ByteArray) (hx : a.eval x = .slice (some ⟨ad, 0, none⟩) 1 1) (hc : w.cell? ⟨ad, 0, none⟩ = some (.string u)) (hn : n ≤ 1000) (hbase : base ≤ w.heap.size)
    (h : ∀ v' w', w'.ownsRow base 9 1 v' (n + 1) (xs ++ [.string u]) → w.grownBy w' v.ownBlock → wpList Tryz.prog ops Q rest (a.put o.dst v') w') :
    wpList Tryz.prog ops Q (o :: rest) a w := by
  obtain ⟨i0, hi, hz0, hs0, hb0⟩ := info_parts infoStr
  refine wpList_append_own w hgd s x 34 ho base 9 i0 _ 1 16 Tryz.underlying34 hi hz0 hs0 hb0 rfl (by omega) v n xs hs hown ⟨ad, 0, none⟩ 1 1 [.string u] hx rfl ?_ (by simp [Value.oneCell']) (by simp [maxLen]; omega) (by omega) hbase (fun v' w' h1 h2 _ => h v' w' h1 h2)
  intro j u' hu
  match j, hu with
  | 0, hu => simp at hu; subst hu; simpa [Addr.add] using hc
theorem owns_alloc {w : World} {base : Nat} {e : TypeId} {size : Nat} {v : Value} {n : Nat} {xs : List Value} (h : w.ownsRow base e size v n xs) (ob : Obj) : (w.alloc ob).ownsRow base e size v n xs :=
  h.kept (World.grownBy_alloc w ob none) (by cases v.ownBlock <;> simp)
theorem grown_keeps {w w' : World} (b : Below w.heap.size w w') : w.grownBy w' none := ⟨b.os, b.tape, b.output, b.size, fun k hk _ => b.block k hk⟩
theorem owns_below {w w' : World} {base : Nat} {e : TypeId} {size : Nat} {v : Value} {n : Nat} {xs : List Value} (h : w.ownsRow base e size v n xs) (b : Below w.heap.size w w') : w'.ownsRow base e size v n xs :=
  h.kept (grown_keeps b) (by cases v.ownBlock <;> simp)

theorem itoa_any (n : Int) (h0 : -1 ≤ n) (h1 : n ≤ 150) (w : World) (hl : Laid w) : Calls Tryz.prog 22 #[.int .i64 n] w (Keeps (.string ⟨(Lib.itoa n).toArray⟩) w) :=
  (Tryz.strconv_Itoa n (by omega) (by omega) w hl.tab).mono fun e w' ⟨he, k, os, hw⟩ => ⟨he, by rw [hw]; exact Lib.below_grow _ _ (Nat.le_refl _) _ _⟩

theorem ret_str {a b : List UInt8} (h : a = b) : Ending.returned (.string ⟨a.toArray⟩) = .returned (.string ⟨b.toArray⟩) := by rw [h]

set_option maxHeartbeats 2000000 in
theorem recText_any (r : R) (w : World) (hl : Laid w) : Calls Tryz.prog 11 #[recV r] w (Keeps (.string ⟨(textR r).toArray⟩) w) := by
  have L := Lib.hid hl
  clear hl
  cases hk : okR r
  · have Ht : Hid (textR r = []) := by show textR r = []; unfold textR; rw [hk]; rfl
    have Hk := Lib.hid hk
    clear hk
    go_enter Tryz.func11, Tryz.ntmps11
    go_wp2_with fail
    refine (recOk_any r _).mono ?_
    rintro e w1 ⟨rfl, b1⟩
    rw [Hk.out]
    have B1 : Hid (Below w.heap.size w w1) := (below_one _ _).trans (b1.mono (by simp))
    clear b1
    go_wp2
    go_ret
    exact ⟨ret_str (a := []) Ht.out.symm, B1.out⟩
  · have Ht : Hid (textR r = recT r) := by show textR r = recT r; unfold textR; rw [hk]; rfl
    have Hk := Lib.hid hk
    clear hk
    obtain ⟨k, hkk, hk6⟩ : ∃ k : Nat, r.k = k ∧ k < 7 := by
      rcases okR_kind Hk.out with h | h | h | h | h | h
      · exact ⟨1, h, by omega⟩
      · exact ⟨2, h, by omega⟩
      · exact ⟨3, h, by omega⟩
      · exact ⟨4, h, by omega⟩
      · exact ⟨5, h, by omega⟩
      · exact ⟨6, h, by omega⟩
    have HK := Lib.hid hkk
    clear hkk
    go_enter Tryz.func11, Tryz.ntmps11
    go_wp2_with fail
    refine (recOk_any r _).mono ?_
    rintro e w1 ⟨rfl, b1⟩
    rw [Hk.out]
    have q1 := (Has.new w 23 #[.int .i64 r.k, .int .i64 r.t, .int .i64 r.p, .int .i64 r.s, .int .i64 r.o, .int .i64 r.n, .int .i64 r.v, .int .i64 r.x]).below b1 (by simp)
    rw [HK.out] at q1
    have B1 : Hid (Below w.heap.size w w1) := (below_one _ _).trans (b1.mono (by simp))
    have L1 := L.out.below B1.out
    have hn := L1.names k hk6
    have hl0 := L1.lt
    obtain ⟨c0, c1, c2, c3, c4, c5, c6, c7⟩ := eight q1
    have l1 := q1.lt
    clear b1 q1 L1
    have k0 : (0 : Int) ≤ (k : Int) := by omega
    have k7 : (k : Int) < 7 := by omega
    go_wp2_with fail
    clear c0 c1 c2 c3 c4 c5 c6 c7
    go_loopw [3, 29] (fun ws i wx => ∃ t : Nat, t ≤ 7 ∧ i = .int .i64 t ∧ Below w.heap.size w wx ∧ w.heap.size ≤ wx.heap.size ∧ wx.ownsRow w.heap.size 9 1 ws (t + 1) ((wordsV r).take (t + 1))) (fun _ i _ => 7 - (intOf i).toNat)
    case atStart =>
      refine ⟨0, by omega, rfl, B1.out.alloc (by omega) _, by simp; omega, rfl, .inr ⟨w1.heap.size, 1, #[.string ⟨(nameL r.k).toArray⟩], ?_, by omega, ?_, by omega, by simp [maxLen], by simp, rfl⟩⟩
      · rfl
      · rw [HK.out]
        exact Has.new w1 9 #[.string ⟨(nameL k).toArray⟩]
    case round =>
      obtain ⟨t, ht, rfl, hbel, hsz, hown⟩ := hrel
      have Hb := Lib.hid hbel
      have Ho := Lib.hid hown
      have LW := Lib.hid (L.out.below hbel)
      clear hbel hown hn
      by_cases hlt : t < 7
      · have hix := fun w => ix7 r t hlt w
        have hbd := nums_bounds Hk.out t hlt
        have hnx := Lib.hid (words_next r t hlt)
        generalize (nums r).getD t 0 = z at hix hbd hnx
        have hti : (t : Int) < 7 := by omega
        go_wp2_with (first
          | (go_at_call 22; (with_reducible refine (itoa_any z hbd.1 hbd.2 _ LW.out).mono ?_); rintro e w2 ⟨rfl, b2⟩; have s2 := b2.size; have O2 := Lib.hid (owns_below Ho.out b2); have B2 : Hid (Below w.heap.size w w2) := (Hb.out.trans (b2.mono (by omega))); clear b2)
          | (at_builtin; refine wp_append_str _ rfl (.tmp 32) (.tmp 35) rfl w.heap.size _ (t + 1) _ rfl (owns_alloc O2.out _) _ ⟨(Lib.itoa z).toArray⟩ rfl (World.cell?_alloc_new _ _ _ _) (by omega) (by simp; omega) ?_; intro v' w' h1 h2; have H1 := Lib.hid h1; have H2 := Lib.hid h2; clear h1 h2))
        refine ⟨⟨t + 1, by omega, by go_num, ?_, ?_, ?_⟩, by simp [intOf]; omega⟩
        · exact (B2.out.alloc (by omega) _).grown H2.out (by simp; omega) (fun k hk => ((O2.out).lt k hk).1)
        · have := H2.out.size
          simp at this
          omega
        · rw [← hnx.out]
          exact H1.out
      · obtain rfl : t = 7 := by omega
        rcases Ho.out.2 with ⟨rfl, h0⟩ | ⟨g, cap, cur, rfl, hlow, hhas, hnc, hmax, hcs, htk⟩
        · omega
        · have hh : Has wr g 9 cur := hhas
          have hlt' := hh.lt
          have hcell : ∀ (j : Nat) (x : ByteArray), ((wordsR r).map fun l => (⟨l.toArray⟩ : ByteArray))[j]? = some x → wr.cell? ⟨g, 0 + j, none⟩ = some (.string x) := fun j x hx => by
            rw [hh.cell, Nat.zero_add]
            have hj : j < 8 := (List.getElem?_eq_some_iff.1 hx).1
            have e := congrArg (fun l => l[j]?) htk
            simp only [Nat.reduceAdd, Nat.mul_one] at e
            rw [List.getElem?_take_of_lt hj] at e
            have e2 : (wordsV r).take 8 = wordsV r := rfl
            rw [e2] at e
            have e3 : (wordsV r)[j]? = some (.string x) := by
              unfold wordsV
              rw [List.getElem?_map] at hx ⊢
              obtain ⟨l, hl, rfl⟩ := Option.map_eq_some_iff.1 hx
              rw [hl]
              rfl
            rw [e3] at e
            simpa using e
          have hwm : ((wordsR r).map fun l => (⟨l.toArray⟩ : ByteArray)).map (·.data.toList) = wordsR r := by rw [List.map_map]; exact List.map_id _
          have hjl : Lib.join (((wordsR r).map fun l => (⟨l.toArray⟩ : ByteArray)).map (·.data.toList)) (⟨#[32]⟩ : ByteArray).data.toList = recT r := by rw [hwm]; exact join_words r
          have hj := Tryz.strings_Join g 0 cap ((wordsR r).map fun l => (⟨l.toArray⟩ : ByteArray)) ⟨#[32]⟩ wr hcell hlt' (by simp [wordsR, nums]) (by simp [wordsR, nums]; omega) (by rw [hjl]; have := recT_len Hk.out; omega)
          rw [hjl] at hj
          have hj' : Calls Tryz.prog 23 #[.slice (some ⟨g, 0, none⟩) 8 cap, .string ⟨#[32]⟩] wr fun e w' => e = .returned (.string ⟨(recT r).toArray⟩) ∧ Below wr.heap.size wr w' := hj
          have Hj := Lib.hid hj'
          clear hj hj' hcell hh hhas htk hcs hwm hjl
          go_wp2_with fail
          refine Hj.out.mono ?_
          rintro e w2 ⟨rfl, b2⟩
          have B2 : Hid (Below w.heap.size w w2) := Hb.out.trans (b2.mono (by omega))
          clear b2
          go_wp2
          go_ret
          exact ⟨ret_str Ht.out.symm, B2.out⟩
end Go.Proofs.YtoihdbcdlodkgaaGreatDoor.Base

/-
  Contracts of PageText, of the program and of the model, and of what they call (frame.text, l6Dec of one digit). Conditions: the page's slots lead to numbers.
-/
import Derived.Test.YtodnamaeadjhmaaDoorSpec
import Derived.Test.YtodnamaeadjhmaaDoorShelf
import Derived.OwnWalk
namespace Go.Proofs.YtodnamaeadjhmaaDoor.Base
open Go.RowKit

/-- the text of one digit -/
def dig (n : Nat) : List UInt8 := [UInt8.ofNat (48 + n)]
theorem dec_dig (n : Nat) (h : n < 10) : Lib.decDigits n = dig n := by
  unfold Lib.decDigits
  rw [dif_pos h]
  rfl

theorem infoStr : (Tryd.prog.info? 9).map (fun i => (i.zero, i.size, i.bytes)) = some (some (.string ByteArray.empty), 1, 16) := by kernel_rfl

/-- 'append(ws, s)' of one string onto a row of the call's own -/
theorem wp_append_str {ops : Array Oper} {rest : List Oper} {o : Oper} {a : Act} {Q : Exit → Act → World → Prop} (w : World) (hgd : o.guard = none) (s x : Operand)
    (ho : o.op = .call { callee := .builtin .append, args := #[s, x], argTypes := #[53, 53] }) (base : Nat) (v : Value) (n : Nat) (xs : List Value) (hs : a.eval s = v) (hown : w.ownsRow base 9 1 v n xs)
    (ad : Nat) (u : ByteArray) (hx : a.eval x = .slice (some ⟨ad, 0, none⟩) 1 1) (hc : w.cell? ⟨ad, 0, none⟩ = some (.string u)) (hn : n ≤ 1000) (hbase : base ≤ w.heap.size)
    (h : ∀ v' w', w'.ownsRow base 9 1 v' (n + 1) (xs ++ [.string u]) → w.grownBy w' v.ownBlock → wpList Tryd.prog ops Q rest (a.put o.dst v') w') :
    wpList Tryd.prog ops Q (o :: rest) a w := by
  obtain ⟨i0, hi, hz0, hs0, hb0⟩ := info_parts infoStr
  refine wpList_append_own w hgd s x 53 ho base 9 i0 _ 1 16 Tryd.underlying53 hi hz0 hs0 hb0 rfl (by omega) v n xs hs hown ⟨ad, 0, none⟩ 1 1 [.string u] hx rfl ?_ (by simp [Value.oneCell']) (by simp [maxLen]; omega) (by omega) hbase (fun v' w' h1 h2 _ => h v' w' h1 h2)
  intro j u' hu
  match j, hu with
  | 0, hu => simp at hu; subst hu; simpa [Addr.add] using hc

/-- the text of a page with an owner and values of one digit -/
def txt (o a b c : Nat) : List UInt8 := dig o ++ ([32] ++ (dig a ++ ([32] ++ (dig b ++ ([32] ++ dig c)))))
theorem txt_len (o a b c : Nat) : (txt o a b c).length = 7 := rfl

/-- the words of such a page -/
def words (o a b c : Nat) : List Value := [.string ⟨(dig o).toArray⟩, .string ⟨(dig a).toArray⟩, .string ⟨(dig b).toArray⟩, .string ⟨(dig c).toArray⟩]
theorem owns_alloc {w : World} {base : Nat} {e : TypeId} {size : Nat} {v : Value} {n : Nat} {xs : List Value} (h : w.ownsRow base e size v n xs) (ob : Obj) : (w.alloc ob).ownsRow base e size v n xs :=
  h.kept (World.grownBy_alloc w ob none) (by cases v.ownBlock <;> simp)

attribute [local go_sem ↓] ix_0 ix_1 ix_2

set_option maxHeartbeats 2000000 in
theorem ftext_any (l : Int) (o a b c : Nat) (w : World) (ho : o < 10) (ha : a < 10) (hb : b < 10) (hc : c < 10) :
    Calls Tryd.prog 17 #[frameV l o a b c] w (Keeps (.string ⟨(txt o a b c).toArray⟩) w) := by
  have I : Hid (∀ (n : Nat) (W : World), n < 10 → Calls Tryd.prog 27 #[.int .i64 n] W fun e w' => e = .returned (.string ⟨(dig n).toArray⟩) ∧ w' = W) := fun n W hn => by
    rw [← dec_dig n hn]
    exact Tryd.strconv_Itoa_small n (by omega) W
  go_enter Tryd.func17, Tryd.ntmps17
  go_wp2_with fail
  refine (I.out o _ ho).mono ?_
  rintro e w1 ⟨rfl, rfl⟩
  go_wp2_with fail
  go_loopw [3, 12] (fun ws i wx => ∃ t : Nat, t ≤ 3 ∧ i = .int .i64 t ∧ Below w.heap.size w wx ∧ w.heap.size ≤ wx.heap.size ∧ wx.ownsRow w.heap.size 9 1 ws (t + 1) ((words o a b c).take (t + 1))) (fun _ i _ => 3 - (intOf i).toNat)
  case atStart =>
    refine ⟨0, by omega, rfl, below_two _ _ _, by simp; omega, rfl, .inr ⟨w.heap.size + 1, 1, #[.string ⟨(dig o).toArray⟩], rfl, by omega, ?_, by omega, by simp [maxLen], by simp, rfl⟩⟩
    have := Has.new (w.alloc (.cells #[.int .i64 l, .int .i64 o, .int .i64 a, .int .i64 b, .int .i64 c] 39)) 9 #[.string ⟨(dig o).toArray⟩]
    rw [World.size_alloc] at this
    exact this
  case round =>
    obtain ⟨t, ht, rfl, hbel, hsz, hown⟩ := hrel
    have Hb := Lib.hid hbel
    have Ho := Lib.hid hown
    clear hbel hown
    match t, ht with
    | 0, _ =>
      go_wp2_with (first
        | (go_at_call 27; refine (I.out a _ ha).mono ?_; rintro e w1 ⟨rfl, rfl⟩)
        | (at_builtin; refine wp_append_str _ rfl (.tmp 15) (.tmp 18) rfl w.heap.size _ 1 _ rfl (owns_alloc Ho.out _) _ ⟨(dig a).toArray⟩ rfl (World.cell?_alloc_new _ _ _ _) (by omega) (by simp; omega) ?_; intro v' w' h1 h2; have H1 := Lib.hid h1; have H2 := Lib.hid h2; clear h1 h2))
      refine ⟨⟨1, by omega, rfl, ?_, ?_, H1.out⟩, by simp [intOf]⟩
      · exact (Hb.out.alloc (by omega) _).grown H2.out (by simp; omega) (fun k hk => ((Ho.out).lt k hk).1)
      · have := H2.out.size
        simp at this
        omega
    | 1, _ =>
      go_wp2_with (first
        | (go_at_call 27; refine (I.out b _ hb).mono ?_; rintro e w1 ⟨rfl, rfl⟩)
        | (at_builtin; refine wp_append_str _ rfl (.tmp 15) (.tmp 18) rfl w.heap.size _ 2 _ rfl (owns_alloc Ho.out _) _ ⟨(dig b).toArray⟩ rfl (World.cell?_alloc_new _ _ _ _) (by omega) (by simp; omega) ?_; intro v' w' h1 h2; have H1 := Lib.hid h1; have H2 := Lib.hid h2; clear h1 h2))
      refine ⟨⟨2, by omega, rfl, ?_, ?_, H1.out⟩, by simp [intOf]⟩
      · exact (Hb.out.alloc (by omega) _).grown H2.out (by simp; omega) (fun k hk => ((Ho.out).lt k hk).1)
      · have := H2.out.size
        simp at this
        omega
    | 2, _ =>
      go_wp2_with (first
        | (go_at_call 27; refine (I.out c _ hc).mono ?_; rintro e w1 ⟨rfl, rfl⟩)
        | (at_builtin; refine wp_append_str _ rfl (.tmp 15) (.tmp 18) rfl w.heap.size _ 3 _ rfl (owns_alloc Ho.out _) _ ⟨(dig c).toArray⟩ rfl (World.cell?_alloc_new _ _ _ _) (by omega) (by simp; omega) ?_; intro v' w' h1 h2; have H1 := Lib.hid h1; have H2 := Lib.hid h2; clear h1 h2))
      refine ⟨⟨3, by omega, rfl, ?_, ?_, H1.out⟩, by simp [intOf]⟩
      · exact (Hb.out.alloc (by omega) _).grown H2.out (by simp; omega) (fun k hk => ((Ho.out).lt k hk).1)
      · have := H2.out.size
        simp at this
        omega
    | 3, _ =>
      rcases Ho.out.2 with ⟨rfl, h0⟩ | ⟨g, cap, cur, rfl, hlow, hhas, hnc, hmax, hcs, htk⟩
      · omega
      · have hh : Has wr g 9 cur := hhas
        have hlt := hh.lt
        have hcell : ∀ (j : Nat) (x : ByteArray), [(⟨(dig o).toArray⟩ : ByteArray), ⟨(dig a).toArray⟩, ⟨(dig b).toArray⟩, ⟨(dig c).toArray⟩][j]? = some x → wr.cell? ⟨g, 0 + j, none⟩ = some (.string x) := fun j x hx => by
          rw [hh.cell, Nat.zero_add]
          have hj : j < 4 := (List.getElem?_eq_some_iff.1 hx).1
          have e := congrArg (fun l => l[j]?) htk
          simp only [Nat.reduceAdd, Nat.mul_one] at e
          rw [List.getElem?_take_of_lt hj] at e
          have e2 : (words o a b c).take 4 = words o a b c := rfl
          rw [e2] at e
          have e3 : (words o a b c)[j]? = some (.string x) := by
            match j, hj, hx with
            | 0, _, hx => simp at hx; subst hx; rfl
            | 1, _, hx => simp at hx; subst hx; rfl
            | 2, _, hx => simp at hx; subst hx; rfl
            | 3, _, hx => simp at hx; subst hx; rfl
          rw [e3] at e
          simpa using e
        have hj := Tryd.strings_Join g 0 cap [⟨(dig o).toArray⟩, ⟨(dig a).toArray⟩, ⟨(dig b).toArray⟩, ⟨(dig c).toArray⟩] ⟨#[32]⟩ wr hcell hlt (by simp) hnc (by simp [Lib.join, List.intercalate, dig])
        have Hj := Lib.hid hj
        clear hj hcell hh hhas htk hcs
        go_wp2_with fail
        refine Hj.out.mono ?_
        rintro e w2 ⟨rfl, b2⟩
        have B2 : Hid (Below w.heap.size w w2) := Hb.out.trans (b2.mono (by omega))
        clear b2
        go_wp2
        go_ret
        exact ⟨rfl, B2.out⟩

theorem conv_one (n : Nat) (hn : n < 10) (w : World) (g c : Nat) (hc : w.cell? ⟨g, 0, none⟩ = some (.int .u8 (48 + (n : Int)))) :
    (convert 22 9 (.slice (some ⟨g, 0, none⟩) 1 c)).run Tryd.prog w = .ok (.string ⟨(dig n).toArray⟩) w := by
  have := run_convert_bytes_back (P := Tryd.prog) w 22 9 5 ⟨g, 0, none⟩ c (dig n) Tryd.underlying22 Tryd.underlying5 Tryd.underlying9 (fun j hj => by
    have hj' : j < 1 := hj
    match j, hj' with
    | 0, _ =>
      simp only [Addr.add, if_true]
      rw [hc]
      simp [dig]
      omega)
  exact this

set_option maxHeartbeats 1000000 in
theorem l6Dec_any (n : Nat) (hn : n < 10) (w : World) : Calls Tryd.prog 20 #[.int .i64 n] w (Keeps (.string ⟨(dig n).toArray⟩) w) := by
  have hcv := conv_one n hn (w.alloc (.cells #[.int .u8 (48 + (n : Int))] 5)) w.heap.size 1 (by rw [World.cell?_alloc_new]; rfl)
  go_enter Tryd.func20, Tryd.ntmps20
  go_wp2
  go_ret
  exact ⟨rfl, below_one _ _⟩

theorem ret_str {a b : List UInt8} (h : a = b) : Ending.returned (.string ⟨a.toArray⟩) = .returned (.string ⟨b.toArray⟩) := by rw [h]
/-- the text of a page: empty where it is not ok -/
def textP (l o : Int) (zs : List Int) : List UInt8 := if okP l o zs then txt o.toNat (zs.getD 0 0).toNat (zs.getD 1 0).toNat (zs.getD 2 0).toNat else []
theorem ok_nat {l o : Int} {zs : List Int} (h : okP l o zs = true) : ∃ p a b c : Nat, o = p ∧ zs = [(a : Int), (b : Int), (c : Int)] ∧ p < 4 ∧ a < 10 ∧ b < 10 ∧ c < 10 := by
  have h3 : zs.length = 3 := by
    cases h' : (zs.length == 3)
    · simp only [okP, h', Bool.false_and] at h
      cases h
    · simpa using h'
  match zs, h3 with
  | [x, y, z], _ =>
    simp [okP, okF, inB] at h
    obtain ⟨p, hp⟩ := Int.eq_ofNat_of_zero_le h.2.1.1
    obtain ⟨a, ha⟩ := Int.eq_ofNat_of_zero_le h.2.2.1.1
    obtain ⟨b, hb⟩ := Int.eq_ofNat_of_zero_le h.2.2.2.1.1
    obtain ⟨c, hc⟩ := Int.eq_ofNat_of_zero_le h.2.2.2.2.1.1
    exact ⟨p, a, b, c, hp, by rw [ha, hb, hc], by omega, by omega, by omega, by omega⟩

set_option maxHeartbeats 1000000 in
theorem pageText_any (l o : Int) (zs : List Int) (a : Option Addr) (cap B : Nat) (w : World) (hB : B ≤ w.heap.size) (hz : Ints .i64 w B a zs) (hc : zs.length ≤ cap) :
    Calls Tryd.prog 7 #[pageV l o a zs.length cap] w (Keeps (.string ⟨(textP l o zs).toArray⟩) w) := by
  have Hz := Lib.hid hz
  clear hz
  go_enter Tryd.func7, Tryd.ntmps7
  go_wp2_with fail
  refine (frameOf_any l o zs a cap B _ (by simp; omega) (Hz.out.below ((below_one _ _).mono hB)) hc).mono ?_
  rintro e w1 ⟨rfl, b1⟩
  have hs := b1.size
  rw [World.size_alloc] at hs
  have B1 : Hid (Below w.heap.size w w1) := (below_one _ _).trans (b1.mono (by simp))
  clear b1
  cases hk : okP l o zs
  · have Ht : Hid (textP l o zs = []) := by show textP l o zs = []; unfold textP; rw [hk]; rfl
    clear hk
    go_wp2
    go_ret
    exact ⟨ret_str (a := []) Ht.out.symm, B1.out.alloc (by omega) _⟩
  · obtain ⟨p, x, y, z, rfl, rfl, hp, hx, hy, hz'⟩ := ok_nat hk
    have Ht : Hid (textP l p [(x : Int), (y : Int), (z : Int)] = txt p x y z) := by show textP l p [(x : Int), (y : Int), (z : Int)] = txt p x y z; unfold textP; rw [hk]; rfl
    clear hk
    go_wp2_with fail
    refine (ftext_any l p x y z _ (by omega) hx hy hz').mono ?_
    rintro e w2 ⟨rfl, b2⟩
    have B2 : Hid (Below w.heap.size w w2) := (B1.out.alloc (by omega) _).trans (b2.mono (by simp; omega))
    clear b2
    go_wp2
    go_ret
    exact ⟨ret_str Ht.out.symm, B2.out⟩

theorem cat3 (l m : List UInt8) : (({ data := l.toArray } : ByteArray) ++ { data := #[32] } ++ { data := m.toArray }) = { data := (l ++ ([32] ++ m)).toArray } := by
  apply ByteArray.ext
  rw [ByteArray.data_append, ByteArray.data_append]
  simp

/-- what stands there after t values -/
def preT (p x y z : Nat) : Nat → List UInt8
  | 0 => dig p
  | 1 => dig p ++ ([32] ++ dig x)
  | 2 => dig p ++ ([32] ++ (dig x ++ ([32] ++ dig y)))
  | _ => txt p x y z

set_option maxHeartbeats 2000000 in
theorem specPageText_any (l o : Int) (zs : List Int) (a : Option Addr) (cap B : Nat) (w : World) (hB : B ≤ w.heap.size) (hz : Ints .i64 w B a zs) (mx : zs.length ≤ 1000000000) :
    Calls Tryd.prog 9 #[pageV l o a zs.length cap] w (Keeps (.string ⟨(textP l o zs).toArray⟩) w) := by
  have Hz := Lib.hid hz
  clear hz
  go_enter Tryd.func9, Tryd.ntmps9
  go_wp2_with fail
  refine (specPageOk_any l o zs a cap B _ (by simp; omega) (Hz.out.below ((below_one _ _).mono hB)) mx).mono ?_
  rintro e w1 ⟨rfl, b1⟩
  have hs := b1.size
  rw [World.size_alloc] at hs
  have q1 := (Has.new w 25 #[.int .i64 l, .int .i64 o, .slice a zs.length cap]).below b1 (by simp)
  have B1 : Hid (Below w.heap.size w w1) := (below_one _ _).trans (b1.mono (by simp))
  clear b1
  cases hk : okP l o zs
  · have Ht : Hid (textP l o zs = []) := by show textP l o zs = []; unfold textP; rw [hk]; rfl
    clear hk q1
    go_wp2
    go_ret
    exact ⟨ret_str (a := []) Ht.out.symm, B1.out⟩
  · obtain ⟨p, x, y, z, rfl, rfl, hp, hx, hy, hz'⟩ := ok_nat hk
    have Ht : Hid (textP l p [(x : Int), (y : Int), (z : Int)] = txt p x y z) := by show textP l p [(x : Int), (y : Int), (z : Int)] = txt p x y z; unfold textP; rw [hk]; rfl
    obtain ⟨c0, c1, c2⟩ := q1.three
    have Q1 := Lib.hid q1
    clear hk q1
    go_wp2_with fail
    refine (l6Dec_any p (by omega) _).mono ?_
    rintro e w2 ⟨rfl, b2⟩
    have hs2 := b2.size
    have q2 := Q1.out.below b2 (by omega)
    have B2 : Hid (Below w.heap.size w w2) := B1.out.trans (b2.mono (by omega))
    clear b2 c0 c1 c2 Q1 B1
    have Q2 := Lib.hid q2
    clear q2
    go_wp2_with fail
    obtain ⟨g, q, rfl, hg, hr⟩ := Hz.out (by simp)
    have Hr := Lib.hid hr
    clear hr
    go_loopw [3, 4] (fun s i wx => ∃ t : Nat, t ≤ 3 ∧ i = .int .i64 t ∧ s = .string ⟨(preT p x y z t).toArray⟩ ∧ Below w.heap.size w wx ∧ w.heap.size ≤ wx.heap.size ∧ Has wx w.heap.size 25 #[.int .i64 l, .int .i64 p, .slice (some ⟨g, q, none⟩) 3 cap]) (fun _ i _ => 3 - (intOf i).toNat)
    case atStart => exact ⟨0, by omega, rfl, rfl, B2.out, by omega, Q2.out⟩
    case round =>
      obtain ⟨t, ht, rfl, rfl, hbel, hsz, hq⟩ := hrel
      have Hb := Lib.hid hbel
      have Hq := Lib.hid hq
      obtain ⟨c0, c1, c2⟩ := hq.three
      have hrd := Hr.out.below hbel (by omega)
      clear hbel hq B2 Q2
      match t, ht with
      | 0, _ =>
        have d := hrd 0 (by simp)
        simp at d
        clear hrd
        go_wp2_with fail
        refine (l6Dec_any x hx _).mono ?_
        rintro e w3 ⟨rfl, b3⟩
        have hs3 := b3.size
        have B3 : Hid (Below w.heap.size w w3) := Hb.out.trans (b3.mono hsz)
        have Q3 := Lib.hid (Hq.out.below b3 (by have := Hq.out.lt; omega))
        clear b3 c0 c1 c2 d
        go_wp2_with fail
        exact ⟨⟨1, by omega, by go_num, congrArg Value.string ((cat3 _ _).trans rfl), B3.out, by omega, Q3.out⟩, by simp [intOf]⟩
      | 1, _ =>
        have d := hrd 1 (by simp)
        simp at d
        clear hrd
        go_wp2_with fail
        refine (l6Dec_any y hy _).mono ?_
        rintro e w3 ⟨rfl, b3⟩
        have hs3 := b3.size
        have B3 : Hid (Below w.heap.size w w3) := Hb.out.trans (b3.mono hsz)
        have Q3 := Lib.hid (Hq.out.below b3 (by have := Hq.out.lt; omega))
        clear b3 c0 c1 c2 d
        go_wp2_with fail
        exact ⟨⟨2, by omega, by go_num, congrArg Value.string ((cat3 _ _).trans rfl), B3.out, by omega, Q3.out⟩, by simp [intOf]⟩
      | 2, _ =>
        have d := hrd 2 (by simp)
        simp at d
        clear hrd
        go_wp2_with fail
        refine (l6Dec_any z hz' _).mono ?_
        rintro e w3 ⟨rfl, b3⟩
        have hs3 := b3.size
        have B3 : Hid (Below w.heap.size w w3) := Hb.out.trans (b3.mono hsz)
        have Q3 := Lib.hid (Hq.out.below b3 (by have := Hq.out.lt; omega))
        clear b3 c0 c1 c2 d
        go_wp2_with fail
        exact ⟨⟨3, by omega, by go_num, congrArg Value.string ((cat3 _ _).trans rfl), B3.out, by omega, Q3.out⟩, by simp [intOf]⟩
      | 3, _ =>
        clear hrd
        go_wp2_with fail
        go_ret
        exact ⟨ret_str (a := txt p x y z) Ht.out.symm, Hb.out⟩
end Go.Proofs.YtodnamaeadjhmaaDoor.Base

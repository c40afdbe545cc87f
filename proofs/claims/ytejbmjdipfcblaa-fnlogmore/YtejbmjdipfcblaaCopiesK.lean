/-
  Rows of pages of the call's own: one page stored anew; the model's l11CopyPages. Conditions: the slices lead to pages of three slots.
-/
import Derived.Test.YtejbmjdipfcblaaPagesRK
import Derived.Test.YtejbmjdipfcblaaNeedsK
import Derived.Test.YtejbmjdipfcblaaMathsK
import Derived.OwnWalk
namespace Go.Proofs.Ytejbmjdipfcblaa.Base
open Go.RowKit

/-- three cells of a row, stored -/
abbrev put3At (w : World) (b q : Nat) (x y z : Value) : World := ((w.setCell ⟨b, q, none⟩ x).setCell ⟨b, q + 1, none⟩ y).setCell ⟨b, q + 2, none⟩ z
theorem put3At_far {w : World} {b q i : Nat} {x y z : Value} (h : i ≠ b) : (put3At w b q x y z).heap[i]? = w.heap[i]? := by
  rw [put3At, Below.heap_setCell _ _ _ _ (by simpa using h), Below.heap_setCell _ _ _ _ (by simpa using h), Below.heap_setCell _ _ _ _ (by simpa using h)]
theorem put3At_size (w : World) (b q : Nat) (x y z : Value) : (put3At w b q x y z).heap.size = w.heap.size := by simp only [put3At, size_set]
theorem put3At_below {w0 w : World} {B b q : Nat} (h : Below B w0 w) (hb : B ≤ b) (x y z : Value) : Below B w0 (put3At w b q x y z) := ((h.setCell hb _).setCell hb _).setCell hb _
theorem set3_list (l : List Value) (q : Nat) (x y z : Value) (j : Nat) (hq : q + 2 < l.length) :
    (((l.set q x).set (q + 1) y).set (q + 2) z)[j]? = if j = q then some x else if j = q + 1 then some y else if j = q + 2 then some z else l[j]? := by
  simp only [List.getElem?_set, List.length_set]
  by_cases h2 : j = q + 2
  · subst h2
    rw [if_pos rfl, if_pos hq, if_neg (by omega), if_neg (by omega), if_pos rfl]
  · rw [if_neg (Ne.symm h2)]
    by_cases h1 : j = q + 1
    · subst h1
      rw [if_pos rfl, if_pos (by omega), if_neg (by omega), if_pos rfl]
    · rw [if_neg (Ne.symm h1)]
      by_cases h0 : j = q
      · subst h0
        rw [if_pos rfl, if_pos (by omega), if_pos rfl]
      · rw [if_neg (Ne.symm h0), if_neg h0, if_neg h1, if_neg h2]
theorem cellsOfPs_set (ps : List Pg) (j : Nat) (p : Pg) (hj : j < ps.length) :
    cellsOfPs (ps.set j p) = (((cellsOfPs ps).set (j * 3) (.int .i64 p.l)).set (j * 3 + 1) (.int .i64 p.o)).set (j * 3 + 2) (.slice (some ⟨p.g, p.q, none⟩) p.zs.length p.c) := by
  apply List.ext_getElem?
  intro i
  have hl := cellsOfPs_len ps
  rw [set3_list _ _ _ _ _ _ (by omega)]
  by_cases hi : i < ps.length * 3
  · have hm : i % 3 < 3 := Nat.mod_lt _ (by omega)
    have hd : i / 3 < ps.length := by omega
    obtain ⟨r, hr⟩ : ∃ r, (ps.set j p)[i / 3]? = some r := ⟨_, List.getElem?_eq_getElem (by simpa using hd)⟩
    obtain ⟨r0, hr0⟩ : ∃ r0, ps[i / 3]? = some r0 := ⟨_, List.getElem?_eq_getElem hd⟩
    obtain ⟨a0, a1, a2⟩ := cellsOfPs_at _ _ _ hr
    obtain ⟨b0, b1, b2⟩ := cellsOfPs_at _ _ _ hr0
    have e : i = i / 3 * 3 + i % 3 := by omega
    by_cases hj' : i / 3 = j
    · have : r = p := by
        rw [List.getElem?_set, if_pos hj'.symm, if_pos hj] at hr
        exact (Option.some.inj hr).symm
      subst this
      generalize i % 3 = c at e hm
      generalize i / 3 = d at *
      subst e hj'
      match c, hm with
      | 0, _ => rw [if_pos (by omega)]; exact a0
      | 1, _ => rw [if_neg (by omega), if_pos rfl]; exact a1
      | 2, _ => rw [if_neg (by omega), if_neg (by omega), if_pos rfl]; exact a2
    · have : r = r0 := by
        rw [List.getElem?_set, if_neg (Ne.symm hj')] at hr
        exact Option.some.inj (hr.symm.trans hr0)
      subst this
      rw [if_neg (by omega), if_neg (by omega), if_neg (by omega)]
      generalize i % 3 = c at e hm
      generalize i / 3 = d at *
      subst e
      match c, hm with
      | 0, _ => exact a0.trans b0.symm
      | 1, _ => exact a1.trans b1.symm
      | 2, _ => exact a2.trans b2.symm
  · rw [if_neg (by omega), if_neg (by omega), if_neg (by omega), List.getElem?_eq_none (by rw [cellsOfPs_len]; simp; omega), List.getElem?_eq_none (by omega)]
/-- a page stored into a row of the call's own -/
theorem OwnPs.put {w : World} {base rb n cap j : Nat} {ps : List Pg} {p : Pg} (h : OwnPs w base (.slice (some ⟨rb, 0, none⟩) n cap) ps) (hj : j < ps.length) (hp : PgAt w base p) :
    OwnPs (put3At w rb (j * 3) (.int .i64 p.l) (.int .i64 p.o) (.slice (some ⟨p.g, p.q, none⟩) p.zs.length p.c)) base (.slice (some ⟨rb, 0, none⟩) n cap) (ps.set j p) := by
  have hne : ∀ r, PgAt w base r → r.g ≠ rb := fun r hr e => h.apart hr (by simp [Value.ownBlock, e])
  refine ⟨?_, fun r hr => ?_⟩
  · rcases h.row.2 with ⟨e, _⟩ | ⟨g, cap', cur, e, hlow, hhas, hnc, hmax, hsz, htk⟩
    · simp at e
    · simp only [Value.slice.injEq, Option.some.injEq, Addr.mk.injEq] at e
      obtain ⟨⟨rfl, -, -⟩, rfl, rfl⟩ := e
      have hH : Has w rb 94 cur := hhas
      refine ⟨by rw [cellsOfPs_len, List.length_set], .inr ⟨rb, cap, _, by rw [List.length_set], hlow, ((hH.set (j * 3) _).set (j * 3 + 1) _).set (j * 3 + 2) _, by rw [List.length_set]; exact hnc, hmax, by simp [hsz], ?_⟩⟩
      rw [cellsOfPs_set _ _ _ hj, ← htk, List.length_set]
      simp only [Array.toList_setIfInBounds, List.take_set]
  · rcases List.mem_or_eq_of_mem_set hr with hr | rfl
    · exact (h.all r hr).keep (by rw [put3At_size]; exact Nat.le_refl _) (put3At_far (hne r (h.all r hr)))
    · exact hp.keep (by rw [put3At_size]; exact Nat.le_refl _) (put3At_far (hne r hp))
/-- a new page of the call's own -/
theorem NewP.at {l o x y z : Int} {w w' : World} {g q cap base : Nat} (hb : base ≤ w.heap.size) (hg : w.heap.size ≤ g) (hr : Rd .i64 w' g q [x, y, z]) (hw : Wr w' g q 3) (hi : IntB w' g) : PgAt w' base ⟨l, o, g, q, cap, [x, y, z]⟩ := by
  obtain ⟨cs, h⟩ := hi
  exact ⟨Nat.le_trans hb hg, hr, hw, ⟨_, _, _, h, by decide⟩⟩
theorem three_of {zs : List Int} (h : zs.length = 3) : ∃ x y z, zs = [x, y, z] :=
  match zs, h with
  | [x, y, z], _ => ⟨x, y, z, rfl⟩

/-- what hands on a row of pages that say this, in new memory -/
def FreshPs (xs : List (Int × Int × List Int)) (w : World) (e : Ending) (w' : World) : Prop :=
  ∃ v ps, e = .returned v ∧ ps.map Pg.says = xs ∧ Below w.heap.size w w' ∧ OwnPs w' w.heap.size v ps
set_option maxHeartbeats 4000000 in
theorem l11CopyPages_any (ps : List Pg) (rb cap b0 B : Nat) (w : World) (hB : B ≤ w.heap.size) (hx : Row w b0 B rb ps) (h3 : ∀ p ∈ ps, p.zs.length = 3) (mx : ps.length ≤ 1000) :
    Calls Try.prog 75 #[.slice (some ⟨rb, 0, none⟩) ps.length cap] w (FreshPs (ps.map Pg.says) w) := by
  have X := Lib.hid hx
  have H3 := Lib.hid h3
  clear hx h3
  go_enter Try.func75, Try.ntmps75
  go_wp2_with fail
  have O1 : Hid (OwnPs (w.alloc (.cells #[] 94)) w.heap.size (.slice (some ⟨w.heap.size, 0, none⟩) 0 0) []) := OwnPs.empty (Has.new w _ _) (Nat.le_refl _)
  have B1 : Hid (Below w.heap.size w (w.alloc (.cells #[] 94))) := below_one _ _
  go_loopw [3, 4] (fun v i wx => ∃ k : Nat, k ≤ ps.length ∧ i = .int .i64 k ∧ Below w.heap.size w wx ∧ ∃ qs, qs.map Pg.says = (ps.take k).map Pg.says ∧ OwnPs wx w.heap.size v qs) (fun _ i _ => ps.length - (intOf i).toNat)
  case atStart => exact ⟨0, by omega, rfl, B1.out, [], rfl, O1.out⟩
  case round =>
    clear O1 B1
    obtain ⟨k, hk, rfl, hb, qs, hq, ho⟩ := hrel
    have Hb := Lib.hid hb
    have Ho := Lib.hid ho
    have Hq := Lib.hid hq
    have hs := hb.size
    have hql : qs.length = k := by
      have := congrArg List.length hq
      simp at this
      omega
    have Hl := Lib.hid hql
    clear hb ho hq hql
    by_cases hlt : k < ps.length
    · obtain ⟨p, hp⟩ : ∃ p, ps[k]? = some p := ⟨_, List.getElem?_eq_getElem hlt⟩
      obtain ⟨x, y, z, hz⟩ := three_of (H3.out p (List.mem_of_getElem? hp))
      have P1 := Lib.hid ((X.out.below (Hb.out.mono hB)).at_ k p hp)
      have Ht : Hid ((ps.take (k + 1)).map Pg.says = (ps.take k).map Pg.says ++ [p.says]) := by
        show (ps.take (k + 1)).map Pg.says = _
        rw [List.take_add_one, hp]
        simp
      obtain ⟨pl, po, pg, pq, pc, pz⟩ := p
      simp only at hz
      subst hz
      clear hp
      have c0 := P1.out.c0
      have c1 := P1.out.c1
      have c2 := P1.out.c2
      simp only [List.length_cons, List.length_nil, Nat.zero_add, Nat.reduceAdd] at c0 c1 c2
      have lp : pg < wr.heap.size := P1.out.wr.1
      have hlt' : (k : Int) < ps.length := by omega
      have k0 : (0 : Int) ≤ (k : Int) := by omega
      go_wp2_with fail
      refine (l1Copy_any pl po x y z (some ⟨pg, pq, none⟩) pc wr.heap.size _ (Nat.le_refl _) (P1.out.rd.ints lp)).mono ?_
      rintro e w1 ⟨b1, g, q, c, rfl, hg, hrd, hwr, hc, hib⟩
      have hat : PgAt w1 w.heap.size ⟨pl, po, g, q, c, [x, y, z]⟩ := NewP.at hs hg hrd hwr hib
      have Ob := Lib.hid ((Ho.out.below b1).below (below_one w1 (.cells (Pg.cells ⟨pl, po, g, q, c, [x, y, z]⟩).toArray 94)))
      have Hc := Lib.hid (Has.new w1 94 (Pg.cells ⟨pl, po, g, q, c, [x, y, z]⟩).toArray)
      have Hp := Lib.hid (hat.below (below_one w1 (.cells (Pg.cells ⟨pl, po, g, q, c, [x, y, z]⟩).toArray 94)))
      have Bb : Hid (Below w.heap.size w (w1.alloc (.cells (Pg.cells ⟨pl, po, g, q, c, [x, y, z]⟩).toArray 94))) := (Hb.out.trans (b1.mono hs)).alloc (by have := b1.size; omega) _
      have s1 := b1.size
      clear b1 hg hrd hwr hc hib hat c0 c1 c2
      go_wp2_with (at_builtin; refine wp_append_page _ rfl (.tmp 12) (.tmp 18) rfl w.heap.size _ qs rfl Ob.out _ ⟨pl, po, g, q, c, [x, y, z]⟩ rfl Hc.out Hp.out (by have := Hl.out; omega) (by simp; omega) ?_; intro v' w' h1 h2; have H1 := Lib.hid h1; have H2 := Lib.hid h2; clear h1 h2)
      refine ⟨⟨k + 1, by omega, by go_num, ?_, qs ++ [⟨pl, po, g, q, c, [x, y, z]⟩], ?_, H1.out⟩, by simp [intOf]; omega⟩
      · exact Bb.out.grown H2.out (by simp; omega) (fun j hj => (World.ownsRow.lt Ob.out.row j hj).1)
      · rw [Ht.out, List.map_append, Hq.out]
        rfl
    · obtain rfl : k = ps.length := by omega
      have Ht : Hid ((ps.take ps.length).map Pg.says = ps.map Pg.says) := by
        show (ps.take ps.length).map Pg.says = _
        rw [List.take_length]
      go_wp2
      go_ret
      exact ⟨_, qs, rfl, Hq.out.trans Ht.out, Hb.out, Ho.out⟩
end Go.Proofs.Ytejbmjdipfcblaa.Base

/-
  Rows of records of the call's own: what is appended to them. No conditions but those in each.
-/
namespace Go.Proofs.Ytejbmjdipfcblaa.Base
open Go.RowKit

theorem infoRecR : (Try.prog.info? 27).map (fun i => (i.zero, i.size, i.bytes)) = some (some (.agg #[.int .i64 0, .int .i64 0, .int .i64 0, .int .i64 0, .int .i64 0, .int .i64 0, .int .i64 0, .int .i64 0]), 8, 64) := by kernel_rfl
/-- the cells of a record -/
def R.cells (r : R) : List Value := [.int .i64 r.k, .int .i64 r.t, .int .i64 r.p, .int .i64 r.s, .int .i64 r.o, .int .i64 r.n, .int .i64 r.v, .int .i64 r.x]
def cellsOfRs (rs : List R) : List Value := rs.flatMap R.cells
theorem cellsOfRs_len (rs : List R) : (cellsOfRs rs).length = rs.length * 8 := by
  induction rs with
  | nil => rfl
  | cons r rs ih => simp [cellsOfRs, R.cells] at ih ⊢; omega
theorem cellsOfRs_append (rs qs : List R) : cellsOfRs (rs ++ qs) = cellsOfRs rs ++ cellsOfRs qs := by simp [cellsOfRs]
theorem cellsOfRs_at : ∀ (rs : List R) (i : Nat) (r : R), rs[i]? = some r → ∀ c, c < 8 → (cellsOfRs rs)[i * 8 + c]? = r.cells[c]?
  | [], i, r, h, _, _ => by simp at h
  | r :: rs, 0, q, h, c, hc => by
    simp at h
    subst h
    have e : cellsOfRs (r :: rs) = r.cells ++ cellsOfRs rs := by simp [cellsOfRs]
    rw [e, Nat.zero_mul, Nat.zero_add, List.getElem?_append_left (by show c < 8; exact hc)]
  | r :: rs, i + 1, q, h, c, hc => by
    have ih := cellsOfRs_at rs i q (by simpa using h) c hc
    have e : cellsOfRs (r :: rs) = r.cells ++ cellsOfRs rs := by simp [cellsOfRs]
    have h8 : (R.cells r).length = 8 := rfl
    rw [e, List.getElem?_append_right (by omega), show (i + 1) * 8 + c - r.cells.length = i * 8 + c by omega]
    exact ih
theorem recAt_some {rs : List R} {j : Nat} (h : j < rs.length) : rs[j]? = some (recAt rs j) := by
  unfold recAt
  rw [List.getD_eq_getElem?_getD, List.getElem?_eq_getElem h]
  rfl
/-- v is a row of the call's own, not nil, with the records rs -/
structure OwnRs (w : World) (base : Nat) (v : Value) (rs : List R) : Prop where
  row : w.ownsRow base 27 8 v rs.length (cellsOfRs rs)
  ne : v ≠ .slice none 0 0
section
variable {w w' : World} {base : Nat} {v : Value} {rs : List R}
theorem OwnRs.empty {g : Nat} (h : Has w g 27 #[]) (hb : base ≤ g) : OwnRs w base (.slice (some ⟨g, 0, none⟩) 0 0) [] :=
  ⟨⟨rfl, .inr ⟨g, 0, #[], rfl, hb, h, by simp, by simp [maxLen], by simp, by simp [cellsOfRs]⟩⟩, by simp⟩
theorem OwnRs.keep (h : OwnRs w base v rs) (e : ∀ g, v.ownBlock = some g → w'.heap[g]? = w.heap[g]?) : OwnRs w' base v rs := by
  refine ⟨⟨h.row.1, ?_⟩, h.ne⟩
  rcases h.row.2 with hn | ⟨g, cap, cur, rfl, hb, hgg, rest⟩
  · exact .inl hn
  · exact .inr ⟨g, cap, cur, rfl, hb, (e g (by simp [Value.ownBlock])).trans hgg, rest⟩
theorem OwnRs.below (h : OwnRs w base v rs) (b : Below w.heap.size w w') : OwnRs w' base v rs :=
  h.keep (fun g hg => b.block g (World.ownsRow.lt h.row g hg).2)
theorem OwnRs.open (h : OwnRs w base v rs) : ∃ g cap, v = .slice (some ⟨g, 0, none⟩) rs.length cap ∧ base ≤ g ∧ g < w.heap.size ∧ RdR w g 0 rs ∧ rs.length ≤ cap := by
  rcases h.row.2 with ⟨e, _⟩ | ⟨g, cap, cur, rfl, hlow, hhas, hnc, hmax, hsz, htk⟩
  · exact absurd e h.ne
  · have hH : Has w g 27 cur := hhas
    refine ⟨g, cap, rfl, hlow, hH.lt, fun j hj => ?_, hnc⟩
    have key : ∀ c, c < 8 → w.cell? ⟨g, 0 + j * 8 + c, none⟩ = (recAt rs j).cells[c]? := fun c hc => by
      rw [Nat.zero_add, hH.cell, ← cellsOfRs_at rs j _ (recAt_some hj) c hc, ← htk, List.getElem?_take_of_lt (by omega), Array.getElem?_toList]
    exact ⟨key 0 (by omega), key 1 (by omega), key 2 (by omega), key 3 (by omega), key 4 (by omega), key 5 (by omega), key 6 (by omega), key 7 (by omega)⟩
theorem OwnRs.recs (h : OwnRs w base v rs) : ∃ g cap, v = .slice (some ⟨g, 0, none⟩) rs.length cap ∧ Recs w w.heap.size (some ⟨g, 0, none⟩) rs ∧ rs.length ≤ cap := by
  obtain ⟨g, cap, rfl, _, h2, h3, h4⟩ := h.open
  exact ⟨g, cap, rfl, h3.recs h2, h4⟩
end

/-- 'append(records, more...)' onto a row of the call's own -/
theorem wp_append_recs {ops : Array Oper} {rest : List Oper} {o : Oper} {a : Act} {Q : Exit → Act → World → Prop} (w : World) (hgd : o.guard = none) (s x : Operand)
    (ho : o.op = .call { callee := .builtin .append, args := #[s, x], argTypes := #[23, 23] }) (base : Nat) (v : Value) (rs : List R) (hs : a.eval s = v) (hown : OwnRs w base v rs)
    (g q n c : Nat) (qs : List R) (hn : n = qs.length) (hx : a.eval x = .slice (some ⟨g, q, none⟩) n c) (hq : RdR w g q qs) (hl : rs.length + qs.length ≤ 1000000) (hbase : base ≤ w.heap.size)
    (h : ∀ v' w', OwnRs w' base v' (rs ++ qs) → w.grownBy w' v.ownBlock → wpList Try.prog ops Q rest (a.put o.dst v') w') :
    wpList Try.prog ops Q (o :: rest) a w := by
  subst hn
  obtain ⟨i0, hi, hz0, hs0, hb0⟩ := info_parts infoRecR
  refine wpList_append_own w hgd s x 23 ho base 27 i0 _ 8 64 Try.underlying23 hi hz0 hs0 hb0 rfl (by omega) v rs.length _ hs hown.row ⟨g, q, none⟩ qs.length c (cellsOfRs qs) hx (cellsOfRs_len qs) ?_ ?_ (by simp [maxLen]; omega) (by omega) hbase (fun v' w' h1 h2 h3 => h v' w' ⟨?_, ?_⟩ h2)
  · intro j u hu
    rw [Go.WideShapes.add_plain]
    have hj : j < qs.length * 8 := by
      have := (List.getElem?_eq_some_iff.1 hu).1
      rwa [cellsOfRs_len] at this
    have hd : j / 8 < qs.length := by omega
    have hm : j % 8 < 8 := Nat.mod_lt _ (by omega)
    have e : j = j / 8 * 8 + j % 8 := by omega
    have ha := hq (j / 8) hd
    have hc := cellsOfRs_at qs (j / 8) _ (recAt_some hd) (j % 8) hm
    rw [← e, hu] at hc
    generalize j % 8 = cc at *
    generalize j / 8 = d at *
    subst e
    match cc, hm with
    | 0, _ => exact ha.k.trans hc.symm
    | 1, _ => exact (show w.cell? ⟨g, q + (d * 8 + 1), none⟩ = _ from ha.t).trans hc.symm
    | 2, _ => exact (show w.cell? ⟨g, q + (d * 8 + 2), none⟩ = _ from ha.p).trans hc.symm
    | 3, _ => exact (show w.cell? ⟨g, q + (d * 8 + 3), none⟩ = _ from ha.s).trans hc.symm
    | 4, _ => exact (show w.cell? ⟨g, q + (d * 8 + 4), none⟩ = _ from ha.o).trans hc.symm
    | 5, _ => exact (show w.cell? ⟨g, q + (d * 8 + 5), none⟩ = _ from ha.n).trans hc.symm
    | 6, _ => exact (show w.cell? ⟨g, q + (d * 8 + 6), none⟩ = _ from ha.v).trans hc.symm
    | 7, _ => exact (show w.cell? ⟨g, q + (d * 8 + 7), none⟩ = _ from ha.x).trans hc.symm
  · intro u hu
    obtain ⟨r, _, hr⟩ := List.mem_flatMap.1 hu
    simp only [R.cells, List.mem_cons, List.not_mem_nil, or_false] at hr
    rcases hr with rfl | rfl | rfl | rfl | rfl | rfl | rfl | rfl <;> rfl
  · rw [cellsOfRs_append, List.length_append]
    exact h1
  · intro e
    exact hown.ne (h3.1 e).1
end Go.Proofs.Ytejbmjdipfcblaa.Base

/-
  The model's engine in memory: two rows of five pages and a row of records, all of the call's own. No conditions but those in each.
-/
namespace Go.Proofs.Ytejbmjdipfcblaa.Base
open Go.RowKit

/-- where an engine's rows lie -/
structure Ad where
  db : Nat
  dc : Nat
  mb : Nat
  mc : Nat
  lb : Nat
  lc : Nat
/-- an engine, as a value -/
abbrev engV (x : Ad) (e : EE) : Value := .agg #[.slice (some ⟨x.db, 0, none⟩) 5 x.dc, .slice (some ⟨x.mb, 0, none⟩) 5 x.mc, .slice (some ⟨x.lb, 0, none⟩) e.log.length x.lc, .int .i64 e.safe, .bool e.down]
theorem engV_of {x : Ad} {e : EE} {b : Bool} (h : e.down = b) : (.agg #[.slice (some ⟨x.db, 0, none⟩) 5 x.dc, .slice (some ⟨x.mb, 0, none⟩) 5 x.mc, .slice (some ⟨x.lb, 0, none⟩) e.log.length x.lc, .int .i64 e.safe, .bool b] : Value) = engV x e := by
  subst h
  rfl
/-- its cells -/
abbrev engC (x : Ad) (e : EE) : Array Value := #[.slice (some ⟨x.db, 0, none⟩) 5 x.dc, .slice (some ⟨x.mb, 0, none⟩) 5 x.mc, .slice (some ⟨x.lb, 0, none⟩) e.log.length x.lc, .int .i64 e.safe, .bool e.down]
/-- five pages of the call's own that say this, in block b -/
def Ps5 (w : World) (base b c : Nat) (xs : List PP) : Prop := ∃ ps, ps.map Pg.says = xs ∧ OwnPs w base (.slice (some ⟨b, 0, none⟩) 5 c) ps
/-- the engine e lies at x -/
structure Eng (w : World) (base : Nat) (x : Ad) (e : EE) : Prop where
  d : Ps5 w base x.db x.dc e.disk
  m : Ps5 w base x.mb x.mc e.mem
  l : OwnRs w base (.slice (some ⟨x.lb, 0, none⟩) e.log.length x.lc) e.log
  ne : x.db ≠ x.mb
section
variable {w w' : World} {base b c : Nat} {xs : List PP} {x : Ad} {e : EE}
theorem OwnPs.five {v : Value} {ps : List Pg} (h : OwnPs w base v ps) (h5 : ps.length = 5) : ∃ b c, v = .slice (some ⟨b, 0, none⟩) 5 c := by
  obtain ⟨b, c, e, _⟩ := h.open (by omega)
  exact ⟨b, c, by rw [e, h5]⟩
theorem Ps5.len (h : Ps5 w base b c xs) (h5 : xs.length = 5) : ∃ ps, ps.map Pg.says = xs ∧ ps.length = 5 ∧ OwnPs w base (.slice (some ⟨b, 0, none⟩) 5 c) ps := by
  obtain ⟨ps, h1, h2⟩ := h
  exact ⟨ps, h1, by rw [← h5, ← h1, List.length_map], h2⟩
theorem Ps5.below (h : Ps5 w base b c xs) (k : Below w.heap.size w w') : Ps5 w' base b c xs := by
  obtain ⟨ps, h1, h2⟩ := h
  exact ⟨ps, h1, h2.below k⟩
theorem OwnPs.grown {v : Value} {ps : List Pg} {row : Option Nat} (h : OwnPs w base v ps) (k : w.grownBy w' row) (hr : ∀ g, row = some g → g < base) : OwnPs w' base v ps := by
  refine ⟨h.row.kept k ?_, fun p hp => (h.all p hp).keep k.size (k.block _ (h.all p hp).wr.1 (fun e => ?_))⟩
  · cases hv : v.ownBlock with
    | none => simp
    | some g =>
      have hl := (World.ownsRow.lt h.row g hv).1
      cases row with
      | none => simp
      | some r =>
        have := hr r rfl
        simp
        omega
  · have := hr _ e.symm
    have := (h.all p hp).low
    omega
theorem Ps5.grown {row : Option Nat} (h : Ps5 w base b c xs) (k : w.grownBy w' row) (hr : ∀ g, row = some g → g < base) : Ps5 w' base b c xs := by
  obtain ⟨ps, h1, h2⟩ := h
  exact ⟨ps, h1, h2.grown k hr⟩
theorem Ps5.row (h : Ps5 w base b c xs) (h5 : xs.length = 5) : ∃ ps, ps.map Pg.says = xs ∧ ps.length = 5 ∧ Row w base w.heap.size b ps := by
  obtain ⟨ps, h1, h2, h3⟩ := h.len h5
  obtain ⟨b', c', e, h4⟩ := h3.open (by omega)
  injection e with e1 e2 e3
  injection e1 with e1
  injection e1 with e1
  subst e1
  exact ⟨ps, h1, h2, h4⟩
theorem Ps5.down {base' : Nat} (h : Ps5 w base b c xs) (hb : base' ≤ base) : Ps5 w base' b c xs := by
  obtain ⟨ps, h1, h2⟩ := h
  refine ⟨ps, h1, ⟨h2.row.1, ?_⟩, fun p hp => (h2.all p hp).down hb⟩
  rcases h2.row.2 with hn | ⟨g, cap, cur, e, hlow, rest⟩
  · exact .inl hn
  · exact .inr ⟨g, cap, cur, e, Nat.le_trans hb hlow, rest⟩
theorem Ps5.lt (h : Ps5 w base b c xs) : base ≤ b ∧ b < w.heap.size := by
  obtain ⟨ps, h1, h2⟩ := h
  exact World.ownsRow.lt h2.row b rfl
theorem OwnRs.lt' {lb n lc : Nat} {rs : List R} (h : OwnRs w base (.slice (some ⟨lb, 0, none⟩) n lc) rs) : base ≤ lb ∧ lb < w.heap.size := World.ownsRow.lt h.row lb rfl
theorem OwnRs.grown {v : Value} {rs : List R} {row : Option Nat} (h : OwnRs w base v rs) (k : w.grownBy w' row) (hr : ∀ g, row = some g → g < base) : OwnRs w' base v rs := by
  refine h.keep fun g hg => ?_
  have := World.ownsRow.lt h.row g hg
  exact k.block g this.2 (fun e => by have := hr g e.symm; omega)
theorem OwnRs.rd {lb n lc : Nat} {rs : List R} (h : OwnRs w base (.slice (some ⟨lb, 0, none⟩) n lc) rs) : n = rs.length ∧ RdR w lb 0 rs ∧ rs.length ≤ lc := by
  obtain ⟨g, cap, e, _, _, h3, h4⟩ := h.open
  injection e with e1 e2 e3
  injection e1 with e1
  injection e1 with e1
  subst e1 e3
  exact ⟨e2, h3, h4⟩
/-- a page that lies at its place and says this -/
theorem Ps5.at_ (h : Ps5 w base b c xs) (h5 : xs.length = 5) {k : Nat} (hk : k < 5) : ∃ p : Pg, PgIn w b k p ∧ pgE xs k = p.says ∧ base ≤ p.g := by
  obtain ⟨ps, h1, h2, h3⟩ := h.row h5
  obtain ⟨p, hp⟩ : ∃ p, ps[k]? = some p := ⟨_, List.getElem?_eq_getElem (by omega)⟩
  refine ⟨p, h3.at_ k p hp, ?_, h3.low.2 p (List.mem_of_getElem? hp)⟩
  unfold pgE
  rw [← h1, List.getD_eq_getElem?_getD, Int.toNat_natCast, List.getElem?_map, hp]
  rfl
theorem Eng.below (h : Eng w base x e) (k : Below w.heap.size w w') : Eng w' base x e := ⟨h.d.below k, h.m.below k, h.l.below k, h.ne⟩
theorem Eng.grown {row : Option Nat} (h : Eng w base x e) (k : w.grownBy w' row) (hr : ∀ g, row = some g → g < base) : Eng w' base x e := ⟨h.d.grown k hr, h.m.grown k hr, h.l.grown k hr, h.ne⟩
theorem Eng.drewN (h : Eng w base x e) (n : Nat) : Eng (w.drewN n) base x e := h.grown (row := none) ⟨rfl, rfl, rfl, Nat.le_refl _, fun _ _ _ => rfl⟩ (fun g hg => by cases hg)
theorem Eng.recs (h : Eng w base x e) : Recs w w.heap.size (some ⟨x.lb, 0, none⟩) e.log := h.l.rd.2.1.recs h.l.lt'.2
theorem Eng.mem (h : Eng w base x e) (i : Inv e) {k : Nat} (hk : k < 5) : ∃ p : Pg, PgIn w x.mb k p ∧ pgE e.mem k = p.says ∧ base ≤ p.g := h.m.at_ i.m5 hk
end
/-- five cells, stored -/
abbrev put5E (w : World) (b : Nat) (x : Ad) (e : EE) : World := ((((w.setCell ⟨b, 0, none⟩ (.slice (some ⟨x.db, 0, none⟩) 5 x.dc)).setCell ⟨b, 1, none⟩ (.slice (some ⟨x.mb, 0, none⟩) 5 x.mc)).setCell ⟨b, 2, none⟩ (.slice (some ⟨x.lb, 0, none⟩) e.log.length x.lc)).setCell ⟨b, 3, none⟩ (.int .i64 e.safe)).setCell ⟨b, 4, none⟩ (.bool e.down)
theorem put5E_far {w : World} {b i : Nat} {x : Ad} {e : EE} (h : i ≠ b) : (put5E w b x e).heap[i]? = w.heap[i]? := by
  rw [put5E, Below.heap_setCell _ _ _ _ (by simpa using h), Below.heap_setCell _ _ _ _ (by simpa using h), Below.heap_setCell _ _ _ _ (by simpa using h), Below.heap_setCell _ _ _ _ (by simpa using h), Below.heap_setCell _ _ _ _ (by simpa using h)]
theorem put5E_below {w0 w : World} {B b : Nat} (h : Below B w0 w) (hb : B ≤ b) (x : Ad) (e : EE) : Below B w0 (put5E w b x e) := ((((h.setCell hb _).setCell hb _).setCell hb _).setCell hb _).setCell hb _
theorem put5E_has {w : World} {b : Nat} {T : TypeId} {c0 c1 c2 c3 c4 : Value} (h : Has w b T #[c0, c1, c2, c3, c4]) (x : Ad) (e : EE) : Has (put5E w b x e) b T (engC x e) := ((((h.set 0 _).set 1 _).set 2 _).set 3 _).set 4 _
/-- an engine all of which lies outside a block that is stored into -/
theorem Eng.out {w : World} {base b : Nat} {x : Ad} {e : EE} {w' : World} (h : Eng w base x e) (hs : w.heap.size ≤ w'.heap.size) (hk : ∀ i, i < w.heap.size → i ≠ b → w'.heap[i]? = w.heap[i]?) (h1 : b ≠ x.db) (h2 : b ≠ x.mb) (h3 : b ≠ x.lb) (hp : ∀ p : Pg, PgAt w base p → p.g ≠ b) : Eng w' base x e := by
  have one : ∀ rb cc ps, b ≠ rb → OwnPs w base (.slice (some ⟨rb, 0, none⟩) 5 cc) ps → OwnPs w' base (.slice (some ⟨rb, 0, none⟩) 5 cc) ps := fun rb cc ps hne ho => by
    refine ⟨?_, fun p hp' => (ho.all p hp').keep hs (hk _ (ho.all p hp').wr.1 (hp p (ho.all p hp')))⟩
    rcases ho.row.2 with ⟨e, _⟩ | ⟨g, cap', cur, e, hlow, hhas, rest⟩
    · simp at e
    · simp only [Value.slice.injEq, Option.some.injEq, Addr.mk.injEq] at e
      obtain ⟨⟨rfl, -, -⟩, hn5, rfl⟩ := e
      have hH : Has w rb 94 cur := hhas
      exact ⟨ho.row.1, .inr ⟨rb, cc, cur, by rw [hn5], hlow, (hk rb hH.lt (Ne.symm hne)).trans hhas, rest⟩⟩
  obtain ⟨ds, d1, d2⟩ := h.d
  obtain ⟨ms, m1, m2⟩ := h.m
  refine ⟨⟨ds, d1, one _ _ _ h1 d2⟩, ⟨ms, m1, one _ _ _ h2 m2⟩, h.l.keep fun g hg => ?_, h.ne⟩
  obtain rfl : x.lb = g := by simpa [Value.ownBlock] using hg
  exact hk _ h.l.lt'.2 (Ne.symm h3)

/-- of all that was there only the engine's two rows of pages may have turned; its rows are the same or new ones -/
structure Frm (x : Ad) (w : World) (x' : Ad) (w' : World) : Prop where
  os : w'.os = w.os
  tape : w'.tape = w.tape
  output : w'.output = w.output
  size : w.heap.size ≤ w'.heap.size
  block : ∀ i, i < w.heap.size → i ≠ x.db → i ≠ x.mb → w'.heap[i]? = w.heap[i]?
  db : x'.db = x.db ∨ w.heap.size ≤ x'.db
  mb : x'.mb = x.mb ∨ w.heap.size ≤ x'.mb
section
variable {x x' x'' : Ad} {w w' w'' : World} {base b : Nat}
theorem Frm.of_below (h : Below w.heap.size w w') (h1 : x'.db = x.db) (h2 : x'.mb = x.mb) : Frm x w x' w' := ⟨h.os, h.tape, h.output, h.size, fun i hi _ _ => h.block i hi, .inl h1, .inl h2⟩
theorem Frm.refl (x : Ad) (w : World) : Frm x w x w := .of_below (Below.refl _ _) rfl rfl
theorem Frm.below (h : Frm x w x' w') (h1 : base ≤ x.db) (h2 : base ≤ x.mb) (hb : base ≤ w.heap.size) : Below base w w' := ⟨h.os, h.tape, h.output, h.size, fun i hi => h.block i (by omega) (by omega) (by omega)⟩
theorem Frm.trans (h : Frm x w x' w') (k : Frm x' w' x'' w'') : Frm x w x'' w'' := by
  have h1 := h.db
  have h2 := h.mb
  have h3 := k.db
  have h4 := k.mb
  have hs := h.size
  refine ⟨k.os.trans h.os, k.tape.trans h.tape, k.output.trans h.output, Nat.le_trans h.size k.size, fun i hi n1 n2 => (k.block i (by omega) (by omega) (by omega)).trans (h.block i hi n1 n2), ?_, ?_⟩
  · omega
  · omega
theorem Frm.grow (h : Frm x w x' w') (k : Below w'.heap.size w' w'') : Frm x w x' w'' := h.trans (.of_below k rfl rfl)
theorem Frm.setCell (h : Frm x w x' w') (hb : w.heap.size ≤ b ∨ b = x.mb ∨ b = x.db) (i : Nat) (u : Value) : Frm x w x' (w'.setCell ⟨b, i, none⟩ u) :=
  ⟨h.os, h.tape, h.output, by rw [World.size_setCell]; exact h.size, fun j hj n1 n2 => (Below.heap_setCell w' _ u j (by simp; omega)).trans (h.block j hj n1 n2), h.db, h.mb⟩
theorem Frm.put5E (h : Frm x w x' w') (hb : w.heap.size ≤ b) (y : Ad) (e : EE) : Frm x w x' (put5E w' b y e) := ((((h.setCell (.inl hb) _ _).setCell (.inl hb) _ _).setCell (.inl hb) _ _).setCell (.inl hb) _ _).setCell (.inl hb) _ _
theorem Frm.named (h : Frm x w x' w') (h1 : x''.db = x'.db) (h2 : x''.mb = x'.mb) : Frm x w x'' w' := ⟨h.os, h.tape, h.output, h.size, h.block, by rw [h1]; exact h.db, by rw [h2]; exact h.mb⟩
/-- a block that is no row of pages is as it was -/
theorem Frm.has {t : TypeId} {cs : Array Value} (h : Frm x w x' w') (hb : Has w b t cs) (h1 : b ≠ x.db) (h2 : b ≠ x.mb) : Has w' b t cs := hb.keep (h.block b hb.lt h1 h2)
end
theorem wy_drew (w : World) : Below w.heap.size w w.drew := ⟨rfl, rfl, rfl, Nat.le_refl _, fun _ _ => rfl⟩
/-- what hands on an engine -/
def RetE (base : Nat) (x : Ad) (e' : EE) (w : World) (e : Ending) (w' : World) : Prop := ∃ x', e = .returned (engV x' e') ∧ Eng w' base x' e' ∧ Frm x w x' w'
/-- what hands on an engine, and whether it could be -/
def RetEB (base : Nat) (x : Ad) (r : EE × Bool) (w : World) (e : Ending) (w' : World) : Prop := ∃ x', e = .returned (.tuple #[engV x' r.1, .bool r.2]) ∧ Eng w' base x' r.1 ∧ Frm x w x' w'

/-- the records of the first t that are nobody's last -/
theorem first_next (l : List R) (k : Nat) : (if lastN l ((k : Int) + 1) l.length = 0 then 0 else (k : Int) + 1) = if lastN l ((k : Int) + 1) l.length = 0 then 0 else (k : Int) + 1 := rfl
/-- the first one open from one on -/
def firstF (l : List R) : Nat → Int
  | 0 => 0
  | n + 1 => if lastN l (3 - (n : Int)) l.length = 0 then firstF l n else 3 - (n : Int)
theorem firstF_3 (l : List R) : firstF l 3 = firstE l := rfl

set_option maxHeartbeats 1000000 in
theorem l21First_any (rs : List R) (a : Option Addr) (cap B : Nat) (w : World) (hz : Recs w B a rs) (mx : rs.length ≤ 1000000000) :
    Calls Try.prog 91 #[.slice a rs.length cap] w fun e w' => e = .returned (.int .i64 (firstE rs)) ∧ w = w' := by
  have Hz := Lib.hid hz
  have H3 : Hid (firstE rs = firstF rs 3) := rfl
  clear hz
  go_enter Try.func91, Try.ntmps91
  go_wp2_with fail
  go_loop [3] (fun i => ∃ k : Nat, k ≤ 3 ∧ i = .int .i64 (4 - (k : Int)) ∧ firstE rs = firstF rs k) (fun i => (5 - intOf i).toNat)
  case atStart => exact ⟨3, Nat.le_refl _, rfl, H3.out⟩
  case round =>
    obtain ⟨k, hk, rfl, heq⟩ := hrel
    have Heq := Lib.hid heq
    clear heq
    cases k with
    | zero =>
      go_wp2
      go_ret
      exact ⟨ret_int (by rw [Heq.out]; rfl), rfl⟩
    | succ k =>
      have he : (4 - ((k + 1 : Nat) : Int)) = 3 - (k : Int) := by omega
      rw [he]
      have Hs : Hid (firstF rs (k + 1) = if lastN rs (3 - (k : Int)) rs.length = 0 then firstF rs k else 3 - (k : Int)) := rfl
      have hl := lastN_le rs (3 - (k : Int)) rs.length
      have HL : Hid (∀ W, Recs W B a rs → Calls Try.prog 33 #[.slice a rs.length cap, .int .i64 (3 - (k : Int))] W fun e w' => e = .returned (.int .i64 (lastN rs (3 - (k : Int)) rs.length)) ∧ W = w') := fun W h => l3Last_any rs rs.length _ a cap B W (Nat.le_refl _) h mx
      generalize lastN rs (3 - (k : Int)) rs.length = n at *
      clear he
      cases n with
      | zero =>
        have Hn : Hid (firstF rs (k + 1) = firstF rs k) := by show firstF rs (k + 1) = _; rw [Hs.out]; rfl
        go_wp2_with (go_at_call 33; refine (HL.out _ Hz.out).mono ?_; rintro e w2 ⟨rfl, rfl⟩)
        refine ⟨⟨k, by omega, ?_, by rw [Heq.out, Hn.out]⟩, by simp [intOf]; omega⟩
        go_num
      | succ n =>
        have Hn : Hid (firstF rs (k + 1) = 3 - (k : Int)) := by show firstF rs (k + 1) = _; rw [Hs.out]; rfl
        go_wp2_with (go_at_call 33; refine (HL.out _ Hz.out).mono ?_; rintro e w2 ⟨rfl, rfl⟩)
        go_ret
        exact ⟨ret_int (by rw [Heq.out, Hn.out]), rfl⟩

set_option maxHeartbeats 1000000 in
theorem l11Lock_any (base : Nat) (x : Ad) (e : EE) (p : Int) (w : World) (he : Eng w base x e) (hi : Inv e) :
    Calls Try.prog 66 #[engV x e, .int .i64 p] w (Keeps (.int .i64 (lockE e.log p)) w) := by
  have hl150 := log_len hi.log
  have HH : Hid (∀ (t : Int) (W : World), Below w.heap.size w W → Calls Try.prog 38 #[.slice (some ⟨x.lb, 0, none⟩) e.log.length x.lc, .int .i64 t, .int .i64 p] W fun en w' => en = .returned (.bool (hasB e.log t p)) ∧ W = w') := fun t W hW => l3Has_any e.log t p _ _ w.heap.size W hi.log (he.recs.below hW) (by omega)
  have HL : Hid (lockE e.log p = if hasB e.log 1 p then 1 else if hasB e.log 2 p then 2 else if hasB e.log 3 p then 3 else 0) := rfl
  clear he hi
  go_enter Try.func66, Try.ntmps66
  go_wp2_with fail
  have X1 := Lib.hid (Has.new w 60 (engC x e))
  have B1 := Lib.hid (below_one w (.cells (engC x e) 60))
  generalize (w.alloc (.cells (engC x e) 60)) = w1 at *
  obtain ⟨c0, c1, c2, c3, c4⟩ := X1.out.five
  go_loop [5] (fun i => ∃ k : Nat, k ≤ 3 ∧ i = .int .i64 ((k : Int) + 1) ∧ ∀ j : Nat, j < k → hasB e.log ((j : Int) + 1) p = false) (fun i => (5 - intOf i).toNat)
  case atStart => exact ⟨0, by omega, rfl, fun j hj => absurd hj (by omega)⟩
  case round =>
    obtain ⟨k, hk, rfl, hno⟩ := hrel
    have Hn := Lib.hid hno
    clear hno
    by_cases h3 : k = 3
    · subst h3
      have H0 : Hid (lockE e.log p = 0) := by
        show lockE e.log p = 0
        have a0 := Hn.out 0 (by omega)
        have a1 := Hn.out 1 (by omega)
        have a2 := Hn.out 2 (by omega)
        rw [HL.out]
        simp at a0 a1 a2
        simp [a0, a1, a2]
      go_wp2
      go_ret
      exact ⟨ret_int (by rw [H0.out]), B1.out⟩
    · have hk3 : k < 3 := by omega
      have hle : (k : Int) + 1 ≤ 3 := by omega
      clear h3
      cases hh : hasB e.log ((k : Int) + 1) p
      · have Hh := Lib.hid hh
        clear hh
        go_wp2_with (go_at_call 38; refine (HH.out _ _ B1.out).mono ?_; rintro en w2 ⟨rfl, rfl⟩; rw [Hh.out])
        refine ⟨⟨k + 1, by omega, by go_num, fun j hj => ?_⟩, by simp [intOf]; omega⟩
        rcases Nat.lt_succ_iff_lt_or_eq.1 hj with h | rfl
        · exact Hn.out j h
        · exact Hh.out
      · have Hh := Lib.hid hh
        clear hh
        have H0 : Hid (lockE e.log p = (k : Int) + 1) := by
          show lockE e.log p = (k : Int) + 1
          have h1 := Hh.out
          have hkk : k = 0 ∨ k = 1 ∨ k = 2 := by omega
          rw [HL.out]
          rcases hkk with rfl | rfl | rfl
          · simp at h1
            simp [h1]
          · have a0 := Hn.out 0 (by omega)
            simp at a0 h1
            simp [a0, h1]
          · have a0 := Hn.out 0 (by omega)
            have a1 := Hn.out 1 (by omega)
            simp at a0 a1 h1
            simp [a0, a1, h1]
        go_wp2_with (go_at_call 38; refine (HH.out _ _ B1.out).mono ?_; rintro en w2 ⟨rfl, rfl⟩; rw [Hh.out])
        go_ret
        exact ⟨ret_int (by rw [H0.out]), B1.out⟩
end Go.Proofs.Ytejbmjdipfcblaa.Base

/-
  Rows of records of the call's own that a slice leads to from some place on: what is appended to them, a record's field stored, a row without its first record. No conditions but those in each.
-/
import Derived.Test.YtejbmjdipfcblaaRecStepK
namespace Go.Proofs.Ytejbmjdipfcblaa.Base
open Go.RowKit

/-- block b is the call's own and holds the records rs from the o-th place on; the slice has room for c of them -/
structure OwnL (w : World) (base b o c : Nat) (rs : List R) : Prop where
  low : base ≤ b
  has : ∃ cur, Has w b 27 cur ∧ (o + c) * 8 ≤ cur.size ∧ (cur.toList.drop (o * 8)).take (rs.length * 8) = cellsOfRs rs
  fit : rs.length ≤ c
theorem OwnL.rd {w : World} {base b o c : Nat} {rs : List R} (h : OwnL w base b o c rs) : RdR w b (o * 8) rs := by
  obtain ⟨cur, hH, hsz, htk⟩ := h.has
  have hf := h.fit
  intro j hj
  have key : ∀ k, k < 8 → w.cell? ⟨b, o * 8 + j * 8 + k, none⟩ = (recAt rs j).cells[k]? := fun k hk => by
    rw [hH.cell, ← cellsOfRs_at rs j _ (recAt_some hj) k hk, ← htk, List.getElem?_take_of_lt (by omega), List.getElem?_drop, Array.getElem?_toList]
    congr 1
    omega
  exact ⟨key 0 (by omega), key 1 (by omega), key 2 (by omega), key 3 (by omega), key 4 (by omega), key 5 (by omega), key 6 (by omega), key 7 (by omega)⟩
theorem OwnL.lt {w : World} {base b o c : Nat} {rs : List R} (h : OwnL w base b o c rs) : base ≤ b ∧ b < w.heap.size := by
  obtain ⟨cur, hH, _⟩ := h.has
  exact ⟨h.low, hH.lt⟩
theorem OwnL.keep {w w' : World} {base b o c : Nat} {rs : List R} (h : OwnL w base b o c rs) (e : w'.heap[b]? = w.heap[b]?) : OwnL w' base b o c rs := by
  obtain ⟨cur, hH, r⟩ := h.has
  exact ⟨h.low, ⟨cur, hH.keep e, r⟩, h.fit⟩
theorem OwnL.below {w w' : World} {base b o c : Nat} {rs : List R} (h : OwnL w base b o c rs) (k : Below w.heap.size w w') : OwnL w' base b o c rs := h.keep (k.block b h.lt.2)
theorem OwnL.grown {w w' : World} {base b o c : Nat} {rs : List R} {row : Option Nat} (h : OwnL w base b o c rs) (k : w.grownBy w' row) (hr : ∀ g, row = some g → g < base) : OwnL w' base b o c rs :=
  h.keep (k.block b h.lt.2 (fun e => by have := hr b e.symm; have := h.low; omega))
theorem OwnRs.ownL {w : World} {base b n c : Nat} {rs : List R} (h : OwnRs w base (.slice (some ⟨b, 0, none⟩) n c) rs) : OwnL w base b 0 c rs := by
  rcases h.row.2 with ⟨e, _⟩ | ⟨g, cap, cur, e, hlow, hhas, hnc, hmax, hsz, htk⟩
  · exact absurd e h.ne
  · injection e with e1 e2 e3
    injection e1 with e1
    injection e1 with e1
    subst e1 e3
    exact ⟨hlow, ⟨cur, hhas, by rw [hsz]; omega, by simpa using htk⟩, hnc⟩
/-- without its first record -/
theorem OwnL.tail {w : World} {base b o c : Nat} {r : R} {rs : List R} (h : OwnL w base b o c (r :: rs)) : OwnL w base b (o + 1) (c - 1) rs := by
  obtain ⟨cur, hH, hsz, htk⟩ := h.has
  have hf := h.fit
  simp only [List.length_cons] at hf htk
  refine ⟨h.low, ⟨cur, hH, by omega, ?_⟩, by omega⟩
  have e : cellsOfRs (r :: rs) = r.cells ++ cellsOfRs rs := by simp [cellsOfRs]
  rw [e] at htk
  have h8 : (R.cells r).length = 8 := rfl
  have hd := congrArg (List.drop 8) htk
  rw [List.drop_append_of_le_length (by omega), show List.drop 8 r.cells = [] from rfl, List.nil_append, List.drop_take, List.drop_drop] at hd
  rw [← hd]
  congr 1
  · omega
  · congr 1
    omega
end Go.Proofs.Ytejbmjdipfcblaa.Base

/-
  'append' of records onto a row of the call's own that a slice leads to from some place on. No conditions but those in each.
-/
namespace Go.Proofs.Ytejbmjdipfcblaa.Base
open Go.RowKit

theorem news_recs {w : World} {g q : Nat} {qs : List R} (hq : RdR w g q qs) : ∀ j u, (cellsOfRs qs)[j]? = some u → w.cell? ((⟨g, q, none⟩ : Addr).add j) = some u := fun j u hu => by
  rw [Go.WideShapes.add_plain]
  have hj : j < qs.length * 8 := by
    have := (List.getElem?_eq_some_iff.1 hu).1
    rwa [cellsOfRs_len] at this
  have hd : j / 8 < qs.length := by omega
  have hm : j % 8 < 8 := Nat.mod_lt _ (by omega)
  have e : j = j / 8 * 8 + j % 8 := by omega
  have ha := hq (j / 8) hd
  have hc := cellsOfRs_at qs (j / 8) _ (recAt_some hd) (j % 8) hm
  rw [← e, hu] at hc
  generalize j % 8 = cc at *
  generalize j / 8 = d at *
  subst e
  match cc, hm with
  | 0, _ => exact ha.k.trans hc.symm
  | 1, _ => exact (show w.cell? ⟨g, q + (d * 8 + 1), none⟩ = _ from ha.t).trans hc.symm
  | 2, _ => exact (show w.cell? ⟨g, q + (d * 8 + 2), none⟩ = _ from ha.p).trans hc.symm
  | 3, _ => exact (show w.cell? ⟨g, q + (d * 8 + 3), none⟩ = _ from ha.s).trans hc.symm
  | 4, _ => exact (show w.cell? ⟨g, q + (d * 8 + 4), none⟩ = _ from ha.o).trans hc.symm
  | 5, _ => exact (show w.cell? ⟨g, q + (d * 8 + 5), none⟩ = _ from ha.n).trans hc.symm
  | 6, _ => exact (show w.cell? ⟨g, q + (d * 8 + 6), none⟩ = _ from ha.v).trans hc.symm
  | 7, _ => exact (show w.cell? ⟨g, q + (d * 8 + 7), none⟩ = _ from ha.x).trans hc.symm
theorem one_recs (qs : List R) : ∀ u ∈ cellsOfRs qs, u.oneCell' = true := fun u hu => by
  obtain ⟨r, _, hr⟩ := List.mem_flatMap.1 hu
  simp only [R.cells, List.mem_cons, List.not_mem_nil, or_false] at hr
  rcases hr with rfl | rfl | rfl | rfl | rfl | rfl | rfl | rfl <;> rfl
theorem run_append_off {P : Program} (w : World) (t ty e : TypeId) (i : TypeInfo) (ht : P.underlying t = some (.slice e)) (hi : P.info? e = some i)
    (g o sLen sCap : Nat) (cur : Array Value) (hg : w.heap[g]? = some (.cells cur e (0, 0)))
    (a : Addr) (m c : Nat) (news : List Value) (hl : news.length = m * i.size) (hnews : ∀ j u, news[j]? = some u → w.cell? (a.add j) = some u) (h1 : ∀ u ∈ news, u.oneCell' = true)
    (hroom : sLen + m ≤ sCap) (hfit : o + sLen * i.size + news.length ≤ cur.size) :
    (Builtin.append_ #[t, t] ty #[.slice (some ⟨g, o, none⟩) sLen sCap, .slice (some a) m c]).run P w =
      .ok (.slice (some ⟨g, o, none⟩) (sLen + m) sCap) (w.setRow g (cur.toList.take (o + sLen * i.size) ++ news ++ cur.toList.drop (o + sLen * i.size + news.length)).toArray) := by
  have hf := run_firstCells_some (P := P) w i.size m a m c news hl hnews
  have hst := run_storeCells_at P g (o + sLen * i.size) e news 0 cur w hg (by simpa using hfit) h1
  simp only [Nat.add_zero] at hst
  simp [Builtin.append_, run_underlying ht, sizeOf, typeInfo, hi, Builtin.lenOf, hroom, hf, Addr.add_lit, hst]
set_option maxRecDepth 100000 in
theorem run_append_L (w : World) (ty : TypeId) {base b o c : Nat} {rs : List R} (h : OwnL w base b o c rs)
    (g q n cc : Nat) (qs : List R) (hn : n = qs.length) (hq : RdR w g q qs) (hl : rs.length + qs.length ≤ 100000) (hbase : base ≤ w.heap.size) :
    ∃ b' o' c' w', (Builtin.append_ #[23, 23] ty #[.slice (some ⟨b, o * 8, none⟩) rs.length c, .slice (some ⟨g, q, none⟩) n cc]).run Try.prog w = .ok (.slice (some ⟨b', o' * 8, none⟩) (rs ++ qs).length c') w' ∧ OwnL w' base b' o' c' (rs ++ qs) ∧ w.grownBy w' (some b) := by
  subst hn
  obtain ⟨i0, hi, hz0, hs0, hb0⟩ := info_parts infoRecR
  obtain ⟨cur, hH, hsz, htk⟩ := h.has
  have hf := h.fit
  by_cases hroom : rs.length + qs.length ≤ c
  · have hr := run_append_off (P := Try.prog) w 23 ty 27 i0 Try.underlying23 hi b (o * 8) rs.length c cur hH ⟨g, q, none⟩ qs.length cc (cellsOfRs qs) (by rw [hs0, cellsOfRs_len]) (news_recs hq) (one_recs qs) hroom (by rw [hs0, cellsOfRs_len]; omega)
    refine ⟨b, o, c, _, by rw [hr, List.length_append], ⟨h.low, ⟨_, setRow_heap w b cur _ _ _ hH, ?_, ?_⟩, by rw [List.length_append]; exact hroom⟩, ⟨rfl, rfl, rfl, by simp, fun k _ hk => setRow_other w b k _ (fun e => hk (by rw [e]))⟩⟩
    · rw [hs0]
      simp [cellsOfRs_len]
      omega
    · rw [hs0, cellsOfRs_append, List.length_append]
      simp only [List.append_assoc]
      rw [List.drop_append_of_le_length (by simp; omega)]
      have e1 : (List.take (o * 8 + rs.length * 8) cur.toList).drop (o * 8) = cellsOfRs rs := by
        rw [List.drop_take, ← htk]
        congr 1
        omega
      rw [e1, ← List.append_assoc]
      exact List.take_left' (by simp [cellsOfRs_len]; omega)
  · have hge := grownCap_ge w (rs.length + qs.length) c 27
    have hr := run_append_grow (P := Try.prog) w 23 ty 27 i0 _ Try.underlying23 hi hz0 ⟨b, o * 8, none⟩ rs.length c (cellsOfRs rs) (by rw [hs0, cellsOfRs_len]) (news_recs h.rd) ⟨g, q, none⟩ qs.length cc (cellsOfRs qs) (by rw [hs0, cellsOfRs_len]) (news_recs hq) (by omega) (by omega) (by rw [hb0]; exact growslice_fits (by omega) (by omega))
    refine ⟨w.heap.size, 0, _, _, by rw [hr, List.length_append, Nat.zero_mul], ⟨hbase, ⟨_, Has.new w.drew _ _, ?_, ?_⟩, by rw [List.length_append]; exact hge⟩, ⟨rfl, rfl, rfl, by simp, fun k hk _ => Below.heap_alloc w.drew _ k hk⟩⟩
    · simp only [Array.size_append, List.size_toArray, cellsOfRs_len, size_zeroCells]
      have h8 : (Value.agg #[.int .i64 0, .int .i64 0, .int .i64 0, .int .i64 0, .int .i64 0, .int .i64 0, .int .i64 0, .int .i64 0]).cells.size = 8 := rfl
      rw [h8]
      omega
    · rw [cellsOfRs_append, List.length_append, Nat.zero_mul, List.drop_zero]
      simp only [Array.toList_append]
      exact List.take_left' (by simp [cellsOfRs_len]; omega)
/-- 'append(records, more...)' at a plain region's list -/
theorem wp_append_L {ops : Array Oper} {rest : List Oper} {oo : Oper} {a : Act} {Q : Exit → Act → World → Prop} (w : World) (hgd : oo.guard = none) (s x : Operand)
    (ho : oo.op = .call { callee := .builtin .append, args := #[s, x], argTypes := #[23, 23] }) {base b o c : Nat} {rs : List R} (hs : a.eval s = .slice (some ⟨b, o * 8, none⟩) rs.length c) (h : OwnL w base b o c rs)
    (g q n cc : Nat) (qs : List R) (hn : n = qs.length) (hx : a.eval x = .slice (some ⟨g, q, none⟩) n cc) (hq : RdR w g q qs) (hl : rs.length + qs.length ≤ 100000) (hbase : base ≤ w.heap.size)
    (hk : ∀ b' o' c' w', OwnL w' base b' o' c' (rs ++ qs) → w.grownBy w' (some b) → wpList Try.prog ops Q rest (a.put oo.dst (.slice (some ⟨b', o' * 8, none⟩) (rs ++ qs).length c')) w') : wpList Try.prog ops Q (oo :: rest) a w := by
  refine wpList_plain hgd fun K hK' => ?_
  obtain ⟨b', o', c', w', hrun, h1, h2⟩ := run_append_L w oo.type h g q n cc qs hn hq hl hbase
  have h5 := hK' _ _ (hk b' o' c' w' h1 h2)
  unfold Oper.wp execOp
  simp only [ho, resolve, invoke, builtin, Sem.run_bind, Sem.run_pure, Result.andThen_ok, List.map_toArray, List.map_cons, List.map_nil, hs, hx, hrun]
  exact h5
end Go.Proofs.Ytejbmjdipfcblaa.Base

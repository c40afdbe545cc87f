/-
  'append' of records onto a row of the call's own at a step of a region that draws its order; blocks told apart by what they hold. No conditions but those in each.
-/
import Derived.Test.YtejbmjdipfcblaaCopiesK
import Derived.Maps.AppendAt
namespace Go.Proofs.Ytejbmjdipfcblaa.Base
open Go.RowKit

theorem Has.ne_kind {w : World} {g g' : Nat} {t t' : TypeId} {cs cs' : Array Value} (h : Has w g t cs) (h' : Has w g' t' cs') (hn : t ≠ t') : g ≠ g' := fun e => by
  subst e
  unfold Has at h h'
  rw [h] at h'
  injection h' with h'
  injection h' with h1 h2
  exact hn h2
theorem OwnRs.has {w : World} {base lb n lc : Nat} {rs : List R} (h : OwnRs w base (.slice (some ⟨lb, 0, none⟩) n lc) rs) : ∃ cs, Has w lb 27 cs := by
  rcases h.row.2 with ⟨e, _⟩ | ⟨g, cap, cur, e, hlow, hhas, _⟩
  · exact absurd e h.ne
  · injection e with e1 e2 e3
    injection e1 with e1
    injection e1 with e1
    subst e1
    exact ⟨cur, hhas⟩
theorem Ps5.has {w : World} {base b c : Nat} {xs : List PP} (h : Ps5 w base b c xs) : ∃ cs, Has w b 94 cs := by
  obtain ⟨ps, h1, h2⟩ := h
  rcases h2.row.2 with ⟨e, _⟩ | ⟨g, cap, cur, e, hlow, hhas, _⟩
  · simp at e
  · injection e with e1 e2 e3
    injection e1 with e1
    injection e1 with e1
    subst e1
    exact ⟨cur, hhas⟩
theorem PgAt.ne_rec {w : World} {base g : Nat} {p : Pg} {cs : Array Value} (h : PgAt w base p) (hr : Has w g 27 cs) : p.g ≠ g := fun e => by
  obtain ⟨c, t, fz, hk, -, hne, -⟩ := h.kind
  rw [e] at hk
  unfold Has at hr
  rw [hr] at hk
  injection hk with hk
  injection hk with h1 h2
  exact hne h2.symm
theorem PgAt.ne_page {w : World} {base g : Nat} {p : Pg} {cs : Array Value} (h : PgAt w base p) (hr : Has w g 94 cs) : p.g ≠ g := fun e => by
  obtain ⟨c, t, fz, hk, hne, -⟩ := h.kind
  rw [e] at hk
  unfold Has at hr
  rw [hr] at hk
  injection hk with hk
  injection hk with h1 h2
  exact hne h2.symm
theorem PgAt.ne_eng {w : World} {base g : Nat} {p : Pg} {cs : Array Value} (h : PgAt w base p) (hr : Has w g 60 cs) : p.g ≠ g := fun e => by
  obtain ⟨c, t, fz, hk, -, -, hne, -⟩ := h.kind
  rw [e] at hk
  unfold Has at hr
  rw [hr] at hk
  injection hk with hk
  injection hk with h1 h2
  exact hne h2.symm
/-- pages are as they were behind what turns a block of records alone -/
theorem Ps5.grownRec {w w' : World} {base b c g : Nat} {xs : List PP} {cs : Array Value} (h : Ps5 w base b c xs) (k : w.grownBy w' (some g)) (hr : Has w g 27 cs) : Ps5 w' base b c xs := by
  obtain ⟨cb, hb⟩ := h.has
  have hne : b ≠ g := Has.ne_kind hb hr (by decide)
  obtain ⟨ps, h1, h2⟩ := h
  refine ⟨ps, h1, h2.row.kept k (by simp [Value.ownBlock]; exact hne), fun p hp => (h2.all p hp).keep k.size (k.block _ (h2.all p hp).wr.1 (fun e => (h2.all p hp).ne_rec hr (by injection e)))⟩

/-- what is stored into a block that holds no page, no record and no slots leaves an engine as it was -/
theorem Eng.box {w w' : World} {base b : Nat} {x : Ad} {e : EE} {cs : Array Value} (h : Eng w base x e) (hb : Has w b 60 cs) (hs : w.heap.size ≤ w'.heap.size) (hk : ∀ i, i < w.heap.size → i ≠ b → w'.heap[i]? = w.heap[i]?) : Eng w' base x e := by
  obtain ⟨c1, k1⟩ := h.d.has
  obtain ⟨c2, k2⟩ := h.m.has
  obtain ⟨c3, k3⟩ := h.l.has
  exact h.out hs hk (Has.ne_kind hb k1 (by decide)) (Has.ne_kind hb k2 (by decide)) (Has.ne_kind hb k3 (by decide)) (fun p hp => hp.ne_eng hb)

/-- a block that holds an engine is none of an engine's rows of pages -/
theorem Eng.ne_eng {w : World} {base b : Nat} {x : Ad} {e : EE} {cs : Array Value} (h : Eng w base x e) (hb : Has w b 60 cs) : b ≠ x.db ∧ b ≠ x.mb := by
  obtain ⟨c1, k1⟩ := h.d.has
  obtain ⟨c2, k2⟩ := h.m.has
  exact ⟨Has.ne_kind hb k1 (by decide), Has.ne_kind hb k2 (by decide)⟩
theorem Eng.ne_rec {w : World} {base b : Nat} {x : Ad} {e : EE} {cs : Array Value} (h : Eng w base x e) (hb : Has w b 27 cs) : b ≠ x.db ∧ b ≠ x.mb := by
  obtain ⟨c1, k1⟩ := h.d.has
  obtain ⟨c2, k2⟩ := h.m.has
  exact ⟨Has.ne_kind hb k1 (by decide), Has.ne_kind hb k2 (by decide)⟩

theorem run_append_recs (w : World) (ty : TypeId) (base : Nat) (v : Value) (rs : List R) (hown : OwnRs w base v rs)
    (g q n c : Nat) (qs : List R) (hn : n = qs.length) (hq : RdR w g q qs) (hl : rs.length + qs.length ≤ 1000000) (hbase : base ≤ w.heap.size) :
    ∃ v' w', (Builtin.append_ #[23, 23] ty #[v, .slice (some ⟨g, q, none⟩) n c]).run Try.prog w = .ok v' w' ∧ OwnRs w' base v' (rs ++ qs) ∧ w.grownBy w' v.ownBlock ∧ (v'.ownBlock = v.ownBlock ∨ v'.ownBlock = some w.heap.size) := by
  subst hn
  obtain ⟨i0, hi, hz0, hs0, hb0⟩ := info_parts infoRecR
  obtain ⟨v', w', hr, h1, h2, h3, h4⟩ := run_append_own_at (P := Try.prog) w base 23 ty 27 i0 _ 8 64 Try.underlying23 hi hz0 hs0 hb0 rfl (by omega) v rs.length _ hown.row ⟨g, q, none⟩ qs.length c (cellsOfRs qs) (cellsOfRs_len qs) (fun j u hu => by
      rw [Go.WideShapes.add_plain]
      have hj : j < qs.length * 8 := by
        have := (List.getElem?_eq_some_iff.1 hu).1
        rwa [cellsOfRs_len] at this
      have hd : j / 8 < qs.length := by omega
      have hm : j % 8 < 8 := Nat.mod_lt _ (by omega)
      have e : j = j / 8 * 8 + j % 8 := by omega
      have ha := hq (j / 8) hd
      have hc := cellsOfRs_at qs (j / 8) _ (recAt_some hd) (j % 8) hm
      rw [← e, hu] at hc
      generalize j % 8 = cc at *
      generalize j / 8 = d at *
      subst e
      match cc, hm with
      | 0, _ => exact ha.k.trans hc.symm
      | 1, _ => exact (show w.cell? ⟨g, q + (d * 8 + 1), none⟩ = _ from ha.t).trans hc.symm
      | 2, _ => exact (show w.cell? ⟨g, q + (d * 8 + 2), none⟩ = _ from ha.p).trans hc.symm
      | 3, _ => exact (show w.cell? ⟨g, q + (d * 8 + 3), none⟩ = _ from ha.s).trans hc.symm
      | 4, _ => exact (show w.cell? ⟨g, q + (d * 8 + 4), none⟩ = _ from ha.o).trans hc.symm
      | 5, _ => exact (show w.cell? ⟨g, q + (d * 8 + 5), none⟩ = _ from ha.n).trans hc.symm
      | 6, _ => exact (show w.cell? ⟨g, q + (d * 8 + 6), none⟩ = _ from ha.v).trans hc.symm
      | 7, _ => exact (show w.cell? ⟨g, q + (d * 8 + 7), none⟩ = _ from ha.x).trans hc.symm)
    (fun u hu => by
      obtain ⟨r, _, hr⟩ := List.mem_flatMap.1 hu
      simp only [R.cells, List.mem_cons, List.not_mem_nil, or_false] at hr
      rcases hr with rfl | rfl | rfl | rfl | rfl | rfl | rfl | rfl <;> rfl)
    (by simp [maxLen]; omega) (by omega) hbase
  refine ⟨v', w', hr, ⟨?_, fun e => hown.ne (h3.1 e).1⟩, h2, h4⟩
  rw [cellsOfRs_append, List.length_append]
  exact h1
/-- 'append(records, more...)' at a step of a region that draws -/
theorem step_append_recs {ops : Array Oper} {o : Oper} {a : Act} {K : Act → World → Prop} {Q : Exit → Act → World → Prop} {E : Prop} (w : World) (hgd : o.guard = none) (s x : Operand)
    (ho : o.op = .call { callee := .builtin .append, args := #[s, x], argTypes := #[23, 23] }) (base : Nat) (v : Value) (rs : List R) (hs : a.eval s = v) (hown : OwnRs w base v rs)
    (g q n c : Nat) (qs : List R) (hn : n = qs.length) (hx : a.eval x = .slice (some ⟨g, q, none⟩) n c) (hq : RdR w g q qs) (hl : rs.length + qs.length ≤ 1000000) (hbase : base ≤ w.heap.size)
    (h : ∀ b cap w', OwnRs w' base (.slice (some ⟨b, 0, none⟩) (rs ++ qs).length cap) (rs ++ qs) → w.grownBy w' v.ownBlock → (v.ownBlock = some b ∨ b = w.heap.size) → K (a.put o.dst (.slice (some ⟨b, 0, none⟩) (rs ++ qs).length cap)) w') :
    if Region.wanted o (yielded ops a.tmps) = true then Oper.wp Try.prog o a w K Q else E := by
  have hw : Region.wanted o (yielded ops a.tmps) = true := by simp [Region.wanted, hgd]
  rw [if_pos hw]
  obtain ⟨v', w', hr, h2, h3, h4⟩ := run_append_recs w o.type base v rs hown g q n c qs hn hq hl hbase
  obtain ⟨b, cap, rfl, _, _, _, _⟩ := h2.open
  have h5 := h b cap w' h2 h3 (by
    rcases h4 with h4 | h4
    · exact .inl h4.symm
    · exact .inr (by simpa [Value.ownBlock] using h4))
  unfold Oper.wp execOp
  simp only [ho, resolve, invoke, builtin, Sem.run_bind, Sem.run_pure, Result.andThen_ok, List.map_toArray, List.map_cons, List.map_nil, hs, hx, hr]
  exact h5
/-- the same onto an empty row: a copy -/
theorem step_append_recs0 {ops : Array Oper} {o : Oper} {a : Act} {K : Act → World → Prop} {Q : Exit → Act → World → Prop} {E : Prop} (w : World) (hgd : o.guard = none) (s x : Operand)
    (ho : o.op = .call { callee := .builtin .append, args := #[s, x], argTypes := #[23, 23] }) (base : Nat) (v : Value) (hs : a.eval s = v) (hown : OwnRs w base v [])
    (g q n c : Nat) (qs : List R) (hn : n = qs.length) (hx : a.eval x = .slice (some ⟨g, q, none⟩) n c) (hq : RdR w g q qs) (hl : qs.length ≤ 1000000) (hbase : base ≤ w.heap.size)
    (h : ∀ b cap w', OwnRs w' base (.slice (some ⟨b, 0, none⟩) qs.length cap) qs → w.grownBy w' v.ownBlock → (v.ownBlock = some b ∨ b = w.heap.size) → K (a.put o.dst (.slice (some ⟨b, 0, none⟩) qs.length cap)) w') :
    if Region.wanted o (yielded ops a.tmps) = true then Oper.wp Try.prog o a w K Q else E :=
  step_append_recs w hgd s x ho base v [] hs hown g q n c qs hn hx hq (by simpa using hl) hbase h

theorem wpAnyH_more' {P : Program} {ops : Array Oper} {Q : Exit → Act → World → Prop} {md : Region.Mode} {S S' : World → Prop} (h : ∀ w, S' w → S w) :
    ∀ (fuel : Nat) (listed : Array Bool) (a : Act) (w : World), wpAnyH P md ops Q S' fuel listed a w → wpAnyH P md ops Q S fuel listed a w
  | 0, _, _, _, k => k
  | fuel + 1, _, _, _, k => ⟨k.1, fun i hi => wpOp_mono (fun a' w' h' => ⟨h w' h'.1, wpAnyH_more' h fuel _ a' w' h'.2⟩) (k.2 i hi)⟩
end Go.Proofs.Ytejbmjdipfcblaa.Base

/-
  Rows of pages in memory: read, or of the call's own; what is appended to them. No conditions but those in each.
-/
import Derived.Test.YtejbmjdipfcblaaGroundK
import Derived.OwnWalk
import Derived.Deep.RegionHeld3
import Derived.Deep.Cut
namespace Go.Proofs.Ytejbmjdipfcblaa.Base
open Go.RowKit

/-- a page in memory: its numbers, where its slots lie, and what they hold -/
structure Pg where
  l : Int
  o : Int
  g : Nat
  q : Nat
  c : Nat
  zs : List Int
/-- the cells of a page -/
def Pg.cells (p : Pg) : List Value := [.int .i64 p.l, .int .i64 p.o, .slice (some ⟨p.g, p.q, none⟩) p.zs.length p.c]
/-- what a page says, wherever it lies -/
def Pg.says (p : Pg) : Int × Int × List Int := (p.l, p.o, p.zs)
/-- the slots of a page are of the call's own -/
structure PgAt (w : World) (base : Nat) (p : Pg) : Prop where
  low : base ≤ p.g
  rd : Rd .i64 w p.g p.q p.zs
  wr : Wr w p.g p.q p.zs.length
  kind : ∃ cs t fz, w.heap[p.g]? = some (.cells cs t fz) ∧ t ≠ 94 ∧ t ≠ 27 ∧ t ≠ 60 ∧ t ≠ 72
theorem infoPage : (Try.prog.info? 94).map (fun i => (i.zero, i.size, i.bytes)) = some (some (.agg #[.int .i64 0, .int .i64 0, .slice none 0 0]), 3, 40) := by kernel_rfl
def cellsOfPs (ps : List Pg) : List Value := ps.flatMap Pg.cells
theorem cellsOfPs_len (ps : List Pg) : (cellsOfPs ps).length = ps.length * 3 := by
  induction ps with
  | nil => rfl
  | cons p ps ih => simp [cellsOfPs, Pg.cells] at ih ⊢; omega
theorem cellsOfPs_append (ps qs : List Pg) : cellsOfPs (ps ++ qs) = cellsOfPs ps ++ cellsOfPs qs := by simp [cellsOfPs]
theorem cellsOfPs_at : ∀ (ps : List Pg) (i : Nat) (p : Pg), ps[i]? = some p → (cellsOfPs ps)[i * 3]? = some (.int .i64 p.l) ∧ (cellsOfPs ps)[i * 3 + 1]? = some (.int .i64 p.o) ∧ (cellsOfPs ps)[i * 3 + 2]? = some (.slice (some ⟨p.g, p.q, none⟩) p.zs.length p.c)
  | [], i, p, h => by simp at h
  | p :: ps, 0, q, h => by
    simp at h
    subst h
    exact ⟨rfl, rfl, rfl⟩
  | p :: ps, i + 1, q, h => by
    have ih := cellsOfPs_at ps i q (by simpa using h)
    have e : cellsOfPs (p :: ps) = p.cells ++ cellsOfPs ps := by simp [cellsOfPs]
    have h3 : (Pg.cells p).length = 3 := rfl
    rw [e]
    refine ⟨?_, ?_, ?_⟩
    · rw [List.getElem?_append_right (by omega), show (i + 1) * 3 - p.cells.length = i * 3 by omega]
      exact ih.1
    · rw [List.getElem?_append_right (by omega), show (i + 1) * 3 + 1 - p.cells.length = i * 3 + 1 by omega]
      exact ih.2.1
    · rw [List.getElem?_append_right (by omega), show (i + 1) * 3 + 2 - p.cells.length = i * 3 + 2 by omega]
      exact ih.2.2
/-- v is a row of the call's own, with the pages ps -/
structure OwnPs (w : World) (base : Nat) (v : Value) (ps : List Pg) : Prop where
  row : w.ownsRow base 94 3 v ps.length (cellsOfPs ps)
  all : ∀ p ∈ ps, PgAt w base p
section
variable {w w' : World} {base : Nat} {v : Value} {ps : List Pg} {p : Pg}
theorem PgAt.keep (h : PgAt w base p) (hs : w.heap.size ≤ w'.heap.size) (e : w'.heap[p.g]? = w.heap[p.g]?) : PgAt w' base p := ⟨h.low, h.rd.keep e, h.wr.keep hs e, by rw [e]; exact h.kind⟩
theorem PgAt.below (h : PgAt w base p) (b : Below w.heap.size w w') : PgAt w' base p := h.keep b.size (b.block _ h.wr.1)
theorem PgAt.down {base' : Nat} (h : PgAt w base p) (hb : base' ≤ base) : PgAt w base' p := ⟨Nat.le_trans hb h.low, h.rd, h.wr, h.kind⟩
theorem OwnPs.nil (w : World) (base : Nat) : OwnPs w base (.slice none 0 0) [] := ⟨World.ownsRow_nil w base _ 3, fun p h => by cases h⟩
theorem OwnPs.empty {g : Nat} (h : Has w g 94 #[]) (hb : base ≤ g) : OwnPs w base (.slice (some ⟨g, 0, none⟩) 0 0) [] :=
  ⟨⟨rfl, .inr ⟨g, 0, #[], rfl, hb, h, by simp, by simp [maxLen], by simp, by simp [cellsOfPs]⟩⟩, fun p h => by cases h⟩
theorem OwnPs.apart (h : OwnPs w base v ps) (hp : PgAt w base p) : v.ownBlock ≠ some p.g := fun e => by
  obtain ⟨cs, t, fz, hk, hne, -⟩ := hp.kind
  rcases h.row.2 with ⟨rfl, _⟩ | ⟨g, cap, cur, rfl, _, hh, _⟩
  · simp [Value.ownBlock] at e
  · simp [Value.ownBlock] at e
    subst e
    rw [hk] at hh
    injection hh with hh
    injection hh with h1 h2 h3
    exact hne h2
theorem OwnPs.below (h : OwnPs w base v ps) (b : Below w.heap.size w w') : OwnPs w' base v ps :=
  ⟨h.row.kept ⟨b.os, b.tape, b.output, b.size, fun k hk _ => b.block k hk⟩ (row := none) (by cases v.ownBlock <;> simp), fun p hp => (h.all p hp).below b⟩
end

/-- 'append(pages, p)' of one page onto a row of the call's own -/
theorem wp_append_page {ops : Array Oper} {rest : List Oper} {o : Oper} {a : Act} {Q : Exit → Act → World → Prop} (w : World) (hgd : o.guard = none) (s x : Operand)
    (ho : o.op = .call { callee := .builtin .append, args := #[s, x], argTypes := #[58, 58] }) (base : Nat) (v : Value) (ps : List Pg) (hs : a.eval s = v) (hown : OwnPs w base v ps)
    (ad : Nat) (p : Pg) (hx : a.eval x = .slice (some ⟨ad, 0, none⟩) 1 1) (hc : Has w ad 94 p.cells.toArray) (hp : PgAt w base p) (hn : ps.length ≤ 1000000) (hbase : base ≤ w.heap.size)
    (h : ∀ v' w', OwnPs w' base v' (ps ++ [p]) → w.grownBy w' v.ownBlock → wpList Try.prog ops Q rest (a.put o.dst v') w') :
    wpList Try.prog ops Q (o :: rest) a w := by
  obtain ⟨i0, hi, hz0, hs0, hb0⟩ := info_parts infoPage
  refine wpList_append_own w hgd s x 58 ho base 94 i0 _ 3 40 Try.underlying58 hi hz0 hs0 hb0 rfl (by omega) v ps.length _ hs hown.row ⟨ad, 0, none⟩ 1 1 p.cells hx rfl ?_ (by simp [Pg.cells, Value.oneCell']) (by simp [maxLen]; omega) (by omega) hbase (fun v' w' h1 h2 _ => h v' w' ⟨?_, ?_⟩ h2)
  · intro j u' hu
    rw [Go.WideShapes.add_plain, Nat.zero_add, hc.cell]
    simpa using hu
  · rw [cellsOfPs_append]
    simpa [cellsOfPs] using h1
  · intro r hr
    rcases List.mem_append.1 hr with hr | hr
    · exact (hown.all r hr).keep h2.size (h2.block _ (hown.all r hr).wr.1 (fun e => hown.apart (hown.all r hr) e.symm))
    · obtain rfl : r = p := by simpa using hr
      exact hp.keep h2.size (h2.block _ hp.wr.1 (fun e => hown.apart hp e.symm))
end Go.Proofs.Ytejbmjdipfcblaa.Base

/-
  Rows of new pages: the model's l11Pages and the program's pagesOf of no page's values. No conditions.
-/
namespace Go.Proofs.Ytejbmjdipfcblaa.Base
open Go.RowKit

/-- a new page -/
abbrev zeroPg (g q : Nat) : Pg := ⟨0, 0, g, q, 3, [0, 0, 0]⟩
/-- what hands on five new pages, in new memory -/
def FivePs (w : World) (e : Ending) (w' : World) : Prop :=
  ∃ v ps, e = .returned v ∧ ps.length = 5 ∧ Below w.heap.size w w' ∧ OwnPs w' w.heap.size v ps ∧ (∀ p ∈ ps, p.says = (0, 0, [0, 0, 0])) ∧ (ps.map Pg.g).Nodup
/-- some pages of them -/
def SomePs (base : Nat) (v : Value) (k : Nat) (wx : World) : Prop :=
  ∃ ps, ps.length = k ∧ OwnPs wx base v ps ∧ (∀ p ∈ ps, p.says = (0, 0, [0, 0, 0])) ∧ (ps.map Pg.g).Nodup
theorem rd_zero {w : World} {g q : Nat} {t : TypeId} {cs : Array Value} (h : Has w g t cs) (h0 : cs[q]? = some (.int .i64 0)) (h1 : cs[q + 1]? = some (.int .i64 0)) (h2 : cs[q + 2]? = some (.int .i64 0)) : Rd .i64 w g q [0, 0, 0] := fun j hj => by
  rw [h.cell]
  match j, hj with
  | 0, _ => exact h0
  | 1, _ => exact h1
  | 2, _ => exact h2
theorem SomePs.more {base : Nat} {v v' : Value} {k : Nat} {wx wz : World} {ps : List Pg} {p : Pg} (hl : ps.length = k) (ho : OwnPs wx base v ps) (hz : ∀ p ∈ ps, p.says = (0, 0, [0, 0, 0])) (hd : (ps.map Pg.g).Nodup)
    (hp : p.says = (0, 0, [0, 0, 0])) (hg : wx.heap.size ≤ p.g) (h' : OwnPs wz base v' (ps ++ [p])) : SomePs base v' (k + 1) wz := by
  refine ⟨ps ++ [p], by simp [hl], h', fun r hr => ?_, ?_⟩
  · rcases List.mem_append.1 hr with hr | hr
    · exact hz r hr
    · obtain rfl : r = p := by simpa using hr
      exact hp
  · rw [List.map_append, List.nodup_append]
    refine ⟨hd, by simp, fun a ha b hb => ?_⟩
    obtain ⟨r, hr, rfl⟩ := List.mem_map.1 ha
    obtain rfl : b = p.g := by simpa using hb
    have := (ho.all r hr).wr.1
    omega

def NewPageS (w : World) (e : Ending) (w' : World) : Prop :=
  e = .returned (pageV 0 0 (some ⟨w.heap.size + 1, 0, none⟩) 3 3) ∧ Below w.heap.size w w' ∧ Has w' (w.heap.size + 1) 3 #[.int .i64 0, .int .i64 0, .int .i64 0]
attribute [local go_sem] make3
set_option maxHeartbeats 400000 in
theorem specPageNew_has (w : World) : Calls Try.prog 83 #[] w (NewPageS w) := by
  go_enter Try.func83, Try.ntmps83
  go_wp2
  refine bodyPost_ret (v := pageV 0 0 (some ⟨w.heap.size + 1, 0, none⟩) 3 3) (by simp [results, Try.results83, go_sem]) rfl ⟨rfl, ?_, ?_⟩
  · exact ((Below.refl _ _).alloc (Nat.le_refl _) _).alloc (by simp) _
  · have h3 := Has.new (w.alloc (.cells #[.int .i64 0, .int .i64 0, .slice (some ⟨w.heap.size + 1, 0, none⟩) 3 3] 94)) 3 #[.int .i64 0, .int .i64 0, .int .i64 0]
    simp only [World.size_alloc] at h3
    exact h3

set_option maxHeartbeats 2000000 in
theorem l11Pages_any (w : World) : Calls Try.prog 65 #[] w (FivePs w) := by
  go_enter Try.func65, Try.ntmps65
  go_wp2_with fail
  have O1 : Hid (OwnPs (w.alloc (.cells #[] 94)) w.heap.size (.slice (some ⟨w.heap.size, 0, none⟩) 0 0) []) := OwnPs.empty (Has.new w _ _) (Nat.le_refl _)
  have B1 : Hid (Below w.heap.size w (w.alloc (.cells #[] 94))) := below_one _ _
  go_loopw [1, 2] (fun v i wx => ∃ k : Nat, k ≤ 5 ∧ i = .int .i64 k ∧ Below w.heap.size w wx ∧ SomePs w.heap.size v k wx) (fun _ i _ => 5 - (intOf i).toNat)
  case atStart => exact ⟨0, by omega, rfl, B1.out, [], rfl, O1.out, by simp, by simp⟩
  case round =>
    clear O1 B1
    obtain ⟨k, hk, rfl, hb, ps, hl, ho, hz, hd⟩ := hrel
    have Hb := Lib.hid hb
    have Ho := Lib.hid ho
    have Hz := Lib.hid hz
    have Hd := Lib.hid hd
    have Hl := Lib.hid hl
    have hs := hb.size
    clear hb ho hz hd hl
    by_cases hlt : k < 5
    · go_wp2_with fail
      refine (specPageNew_has _).mono ?_
      rintro e w1 ⟨rfl, b1, h1⟩
      have Ob := Lib.hid ((Ho.out.below b1).below (below_one w1 (.cells (zeroPg (wr.heap.size + 1) 0).cells.toArray 94)))
      have Hc := Lib.hid (Has.new w1 94 (zeroPg (wr.heap.size + 1) 0).cells.toArray)
      have hlt1 := h1.lt
      have h2 := h1.alloc (.cells (zeroPg (wr.heap.size + 1) 0).cells.toArray 94)
      have Hp : Hid (PgAt (w1.alloc (.cells (zeroPg (wr.heap.size + 1) 0).cells.toArray 94)) w.heap.size (zeroPg (wr.heap.size + 1) 0)) := ⟨by show w.heap.size ≤ wr.heap.size + 1; omega, rd_zero h2 rfl rfl rfl, h2.wr _ _, ⟨_, _, _, h2, by decide⟩⟩
      have Bb : Hid (Below w.heap.size w (w1.alloc (.cells (zeroPg (wr.heap.size + 1) 0).cells.toArray 94))) := (Hb.out.trans (b1.mono hs)).alloc (by omega) _
      clear b1 h1 h2
      go_wp2_with (at_builtin; refine wp_append_page _ rfl (.tmp 8) (.tmp 10) rfl w.heap.size _ ps rfl Ob.out _ (zeroPg (wr.heap.size + 1) 0) rfl Hc.out Hp.out (by have := Hl.out; omega) (by simp; omega) ?_; intro v' w' h1 h2; have H1 := Lib.hid h1; have H2 := Lib.hid h2; clear h1 h2)
      refine ⟨⟨k + 1, by omega, by go_num, ?_, ?_⟩, by simp [intOf]; omega⟩
      · exact Bb.out.grown H2.out (by simp; omega) (fun j hj => (World.ownsRow.lt Ob.out.row j hj).1)
      · exact SomePs.more Hl.out Ho.out Hz.out Hd.out rfl (by show wr.heap.size ≤ wr.heap.size + 1; omega) H1.out
    · obtain rfl : k = 5 := by omega
      go_wp2
      go_ret
      exact ⟨_, ps, rfl, Hl.out, Hb.out, Ho.out, Hz.out, Hd.out⟩
end Go.Proofs.Ytejbmjdipfcblaa.Base

/-
  Contracts of the laws' helpers on rows of pages: eqPageS, markPageS, heldPageS. Conditions: the slices lead to pages.
-/
namespace Go.Proofs.Ytejbmjdipfcblaa.Base
open Go.RowKit

/-- a page at its place in a row; its cells and slots may be written -/
structure PgIn (w : World) (rb j : Nat) (p : Pg) : Prop where
  c0 : w.cell? ⟨rb, j * 3, none⟩ = some (.int .i64 p.l)
  c1 : w.cell? ⟨rb, j * 3 + 1, none⟩ = some (.int .i64 p.o)
  c2 : w.cell? ⟨rb, j * 3 + 2, none⟩ = some (.slice (some ⟨p.g, p.q, none⟩) p.zs.length p.c)
  f0 : w.frozen? ⟨rb, j * 3, none⟩ = false
  f1 : w.frozen? ⟨rb, j * 3 + 1, none⟩ = false
  lt : rb < w.heap.size
  rd : Rd .i64 w p.g p.q p.zs
  wr : Wr w p.g p.q p.zs.length
  ne : p.g ≠ rb
theorem PgIn.keep {w w' : World} {rb j : Nat} {p : Pg} (h : PgIn w rb j p) (hs : w.heap.size ≤ w'.heap.size) (e : w'.heap[rb]? = w.heap[rb]?) (e' : w'.heap[p.g]? = w.heap[p.g]?) : PgIn w' rb j p :=
  ⟨(World.cell?_of_block (a := ⟨rb, j * 3, none⟩) e).trans h.c0, (World.cell?_of_block (a := ⟨rb, j * 3 + 1, none⟩) e).trans h.c1, (World.cell?_of_block (a := ⟨rb, j * 3 + 2, none⟩) e).trans h.c2,
    (World.frozen?_of_block (a := ⟨rb, j * 3, none⟩) e).trans h.f0, (World.frozen?_of_block (a := ⟨rb, j * 3 + 1, none⟩) e).trans h.f1, Nat.lt_of_lt_of_le h.lt hs, h.rd.keep e', h.wr.keep hs e', h.ne⟩
/-- all pages of a row; all of it lies from base on, and below B -/
structure Row (w : World) (base B rb : Nat) (ps : List Pg) : Prop where
  at_ : ∀ j p, ps[j]? = some p → PgIn w rb j p
  low : base ≤ rb ∧ ∀ p ∈ ps, base ≤ p.g
  up : rb < B ∧ ∀ p ∈ ps, p.g < B
theorem Row.below {w w' : World} {base B rb : Nat} {ps : List Pg} (h : Row w base B rb ps) (b : Below B w w') : Row w' base B rb ps :=
  ⟨fun j p hp => (h.at_ j p hp).keep b.size (b.block rb h.up.1) (b.block p.g (h.up.2 p (List.mem_of_getElem? hp))), h.low, h.up⟩
theorem Row.up' {w : World} {base B B' rb : Nat} {ps : List Pg} (h : Row w base B rb ps) (hb : B ≤ B') : Row w base B' rb ps :=
  ⟨h.at_, h.low, Nat.lt_of_lt_of_le h.up.1 hb, fun p hp => Nat.lt_of_lt_of_le (h.up.2 p hp) hb⟩
theorem OwnPs.open {w : World} {base : Nat} {v : Value} {ps : List Pg} (h : OwnPs w base v ps) (hn : 0 < ps.length) : ∃ rb cap, v = .slice (some ⟨rb, 0, none⟩) ps.length cap ∧ Row w base w.heap.size rb ps := by
  rcases h.row.2 with ⟨_, h0⟩ | ⟨g, cap, cur, rfl, hlow, hhas, hnc, hmax, hsz, htk⟩
  · omega
  · have hH : Has w g 94 cur := hhas
    refine ⟨g, cap, rfl, fun j p hp => ?_, ⟨hlow, fun p hp => (h.all p hp).low⟩, hH.lt, fun p hp => (h.all p hp).wr.1⟩
    have hj := (List.getElem?_eq_some_iff.1 hp).1
    have hm := List.mem_of_getElem? hp
    obtain ⟨e0, e1, e2⟩ := cellsOfPs_at ps j p hp
    have key : ∀ i, i < ps.length * 3 → w.cell? ⟨g, i, none⟩ = (cellsOfPs ps)[i]? := fun i hi => by
      rw [hH.cell, ← htk, List.getElem?_take_of_lt hi, Array.getElem?_toList]
    refine ⟨(key _ (by omega)).trans e0, (key _ (by omega)).trans e1, (key _ (by omega)).trans e2, hH.frozen _, hH.frozen _, hH.lt, (h.all p hm).rd, (h.all p hm).wr, fun e => ?_⟩
    have := h.apart (h.all p hm)
    simp [Value.ownBlock] at this
    exact this e.symm

/-- the i-th page of a row that is marked -/
def markP (k : Int) (i : Nat) (p : Pg) : Pg := ⟨k + 5 * i, k + 5 * i + 1, p.g, p.q, p.c, marks (k + 5 * i + 2) 3⟩
/-- a row whose first n pages are marked -/
def MarksTo (w : World) (rb : Nat) (k : Int) (ps : List Pg) (n : Nat) : Prop := ∀ j p, ps[j]? = some p → PgIn w rb j (if j < n then markP k j p else p)
theorem MarksTo.below {w w' : World} {rb : Nat} {k : Int} {ps : List Pg} {n B : Nat} (h : MarksTo w rb k ps n) (b : Below B w w') (h1 : rb < B) (h2 : ∀ p ∈ ps, p.g < B) : MarksTo w' rb k ps n := fun j p hp => by
  have hg : (if j < n then markP k j p else p).g = p.g := by split <;> rfl
  exact (h j p hp).keep b.size (b.block rb h1) (by rw [hg]; exact b.block _ (h2 p (List.mem_of_getElem? hp)))
/-- no other block than those of the row has turned -/
def OnlyIn (rb : Nat) (ps : List Pg) (w w' : World) : Prop := ∀ i, i < w.heap.size → i ≠ rb → (∀ p ∈ ps, i ≠ p.g) → w'.heap[i]? = w.heap[i]?
/-- what markPageS leaves -/
def MarkedPs (k : Int) (base rb : Nat) (ps : List Pg) (w : World) (e : Ending) (w' : World) : Prop :=
  e = .returned (.int .i64 (k + 5 * ps.length)) ∧ Below base w w' ∧ w'.heap.size = w.heap.size ∧ MarksTo w' rb k ps ps.length ∧ OnlyIn rb ps w w'
theorem MarksTo.step {w w' : World} {rb : Nat} {k : Int} {ps : List Pg} {n : Nat} {p : Pg} (h : MarksTo w rb k ps n) (hp : ps[n]? = some p) (hz : p.zs.length = 3) (hd : (ps.map Pg.g).Nodup)
    (hg : ((w.setCell ⟨rb, n * 3, none⟩ (.int .i64 (k + 5 * n))).setCell ⟨rb, n * 3 + 1, none⟩ (.int .i64 (k + 5 * n + 1))).grownBy w' (some p.g)) (hs : w'.heap.size = w.heap.size)
    (hr : Rd .i64 w' p.g p.q (marks (k + 5 * n + 2) 3)) (hw : Wr w' p.g p.q 3) : MarksTo w' rb k ps (n + 1) := by
  intro j r hr'
  have hn := h n p hp
  rw [if_neg (by omega)] at hn
  have hrow : w'.heap[rb]? = ((w.setCell ⟨rb, n * 3, none⟩ (.int .i64 (k + 5 * n))).setCell ⟨rb, n * 3 + 1, none⟩ (.int .i64 (k + 5 * n + 1))).heap[rb]? :=
    hg.block rb (by rw [size_set, size_set]; exact hn.lt) (fun e => hn.ne (by injection e with e; exact e.symm))
  have cell : ∀ i, w'.cell? ⟨rb, i, none⟩ = ((w.setCell ⟨rb, n * 3, none⟩ (.int .i64 (k + 5 * n))).setCell ⟨rb, n * 3 + 1, none⟩ (.int .i64 (k + 5 * n + 1))).cell? ⟨rb, i, none⟩ := fun i => World.cell?_of_block (a := ⟨rb, i, none⟩) hrow
  have froz : ∀ i, w'.frozen? ⟨rb, i, none⟩ = w.frozen? ⟨rb, i, none⟩ := fun i => by
    rw [World.frozen?_of_block (a := ⟨rb, i, none⟩) hrow, World.frozen?_setCell, World.frozen?_setCell]
  have c1' : (w.setCell ⟨rb, n * 3, none⟩ (.int .i64 (k + 5 * n))).cell? ⟨rb, n * 3 + 1, none⟩ = some (.int .i64 p.o) := (World.cell?_setCell_other _ _ _ _ (fun e => by injection e; omega)).trans hn.c1
  have other : ∀ i, i ≠ n * 3 → i ≠ n * 3 + 1 → w'.cell? ⟨rb, i, none⟩ = w.cell? ⟨rb, i, none⟩ := fun i h1 h2 => by
    rw [cell, World.cell?_setCell_other _ _ _ _ (fun e => by injection e; omega), World.cell?_setCell_other _ _ _ _ (fun e => by injection e; omega)]
  by_cases hj : j = n
  · subst hj
    obtain rfl : r = p := Option.some.inj (hr'.symm.trans hp)
    rw [if_pos (by omega)]
    refine ⟨?_, ?_, ?_, (froz _).trans hn.f0, (froz _).trans hn.f1, by rw [hs]; exact hn.lt, hr, by rw [show (markP k j r).zs.length = 3 from marks_len _ _]; exact hw, hn.ne⟩
    · rw [cell, World.cell?_setCell_other _ _ _ _ (fun e => by injection e; omega)]
      exact World.cell?_setCell_same _ _ _ hn.c0
    · rw [cell]
      exact World.cell?_setCell_same _ _ _ c1'
    · rw [other _ (by omega) (by omega), hn.c2, hz]
      show _ = some (Value.slice (some ⟨r.g, r.q, none⟩) (marks _ 3).length r.c)
      rw [marks_len]
  · have hold := h j r hr'
    have hif : (if j < n + 1 then markP k j r else r) = (if j < n then markP k j r else r) := by
      by_cases h1 : j < n
      · rw [if_pos h1, if_pos (by omega)]
      · rw [if_neg h1, if_neg (by omega)]
    rw [hif]
    have hgr : (if j < n then markP k j r else r).g = r.g := by split <;> rfl
    have hne : r.g ≠ p.g := fun e => by
      have h1 : (ps.map Pg.g)[j]? = some r.g := by simp [hr']
      have h2 : (ps.map Pg.g)[n]? = some r.g := by simp [hp, e]
      exact hj ((List.getElem?_inj (List.getElem?_eq_some_iff.1 h1).1 hd).1 (h1.trans h2.symm))
    have hblk : w'.heap[r.g]? = w.heap[r.g]? := by
      rw [hg.block r.g (by rw [size_set, size_set]; have := hold.wr.1; rw [hgr] at this; exact this) (fun e => hne (by injection e)), Below.heap_setCell _ _ _ _ (by have := hold.ne; rw [hgr] at this; exact this), Below.heap_setCell _ _ _ _ (by have := hold.ne; rw [hgr] at this; exact this)]
    refine ⟨(other _ (by omega) (by omega)).trans hold.c0, (other _ (by omega) (by omega)).trans hold.c1, (other _ (by omega) (by omega)).trans hold.c2, (froz _).trans hold.f0, (froz _).trans hold.f1, by rw [hs]; exact hold.lt, hold.rd.keep (by rw [hgr]; exact hblk), hold.wr.keep (by omega) (by rw [hgr]; exact hblk), hold.ne⟩

end Go.Proofs.Ytejbmjdipfcblaa.Base

/-
  'append([]int{}, xs...)' where xs has an element: a copy of xs in memory of the call's own. Conditions: xs leads to numbers.
-/
namespace Go.Proofs.Ytejbmjdipfcblaa.Base
open Go.RowKit

/-- a block of integers, none of them shared with a string -/
def IntB (w : World) (g : Nat) : Prop := ∃ cs, Has w g 3 cs
theorem IntB.keep {w w' : World} {g : Nat} (h : IntB w g) (e : w'.heap[g]? = w.heap[g]?) : IntB w' g := by
  obtain ⟨cs, h⟩ := h
  exact ⟨cs, h.keep e⟩
theorem IntB.set {w : World} {g : Nat} (h : IntB w g) (b i : Nat) (u : Value) : IntB (w.setCell ⟨b, i, none⟩ u) g := by
  obtain ⟨cs, h⟩ := h
  by_cases e : g = b
  · subst e
    exact ⟨_, h.set i u⟩
  · exact ⟨cs, h.far e u⟩
/-- what such an append hands on -/
structure Copy (w : World) (ge : Nat) (zs : List Int) (g cap : Nat) (w' : World) : Prop where
  grown : w.grownBy w' (some ge)
  low : ge ≤ g
  fit : zs.length ≤ cap
  rd : Rd .i64 w' g 0 zs
  wr : Wr w' g 0 zs.length
  ib : IntB w' g

theorem wp_append_copy {ops : Array Oper} {rest : List Oper} {o : Oper} {a : Act} {Q : Exit → Act → World → Prop} (w : World) (hgd : o.guard = none) (s x : Operand)
    (ho : o.op = .call { callee := .builtin .append, args := #[s, x], argTypes := #[31, 31] }) (ge : Nat) (hs : a.eval s = .slice (some ⟨ge, 0, none⟩) 0 0) (hh : Has w ge 3 #[])
    (zs : List Int) (B : Nat) (ax : Option Addr) (n cx : Nat) (hn : n = zs.length) (hx : a.eval x = .slice ax n cx) (hz : Ints .i64 w B ax zs) (hp : 0 < zs.length) (hm : zs.length ≤ 1000000000)
    (h : ∀ g cap w', Copy w ge zs g cap w' → wpList Try.prog ops Q rest (a.put o.dst (.slice (some ⟨g, 0, none⟩) n cap)) w') :
    wpList Try.prog ops Q (o :: rest) a w := by
  subst hn
  obtain ⟨i0, hi, hz0, hs0, hb0⟩ := info_parts infoInt
  obtain ⟨g, q, rfl, hg, hr⟩ := hz hp
  refine wpList_append_own w hgd s x 31 ho ge 3 i0 _ 1 8 Try.underlying31 hi hz0 hs0 hb0 rfl (by omega) _ 0 [] hs ⟨by simp, .inr ⟨ge, 0, #[], rfl, Nat.le_refl _, hh, by omega, by simp [maxLen], by simp, by simp⟩⟩ ⟨g, q, none⟩ zs.length cx (zs.map (Value.int .i64)) hx (by simp) ?_ (ints_oneCell _ _) (by simp [maxLen]; omega) (by omega) (Nat.le_of_lt hh.lt) ?_
  · intro j u hu
    rw [Go.WideShapes.add_plain]
    have hj : j < zs.length := by
      have := (List.getElem?_eq_some_iff.1 hu).1
      simpa using this
    rw [hr j hj, ← hu]
    simp [List.getElem?_eq_getElem hj]
  · intro v' w' hown hgr hiff
    rcases hown.2 with ⟨rfl, h0⟩ | ⟨g', cap', cur, rfl, hlow, hhas, hnc, hmax, hsz, htk⟩
    · omega
    · rw [Nat.zero_add]
      refine h g' cap' w' ⟨hgr, hlow, by omega, fun j hj => ?_, (show Has w' g' _ _ from hhas).wr _ _, ⟨cur, hhas⟩⟩
      rw [(show Has w' g' _ _ from hhas).cell, Nat.zero_add]
      have e := congrArg (fun l => l[j]?) htk
      simp only [List.nil_append, Nat.zero_add, Nat.mul_one] at e
      rw [List.getElem?_take_of_lt hj] at e
      simpa [List.getElem?_eq_getElem hj] using e
end Go.Proofs.Ytejbmjdipfcblaa.Base

/-
  Contract of the program's parseRec and RecRead, for every text. Conditions: the package variables hold what the program's text lays there.
-/
import Derived.Test.YtoihdbcdlodkgaaGreatDoorRead1
import Derived.Deep.DeepCutAuto
import Derived.Deep.RegionHeld3
namespace Go.Proofs.YtoihdbcdlodkgaaGreatDoor.Base
open Go.RowKit

theorem split_words (s : ByteArray) : (Lib.splitB ⟨#[32]⟩ 0 (Lib.countB s ⟨#[32]⟩) s).map (·.data.toList) = cutW s.data.toList := by
  rw [Lib.splitB_data]
  exact cutW_split _
theorem cutW_len : ∀ (l : List UInt8), ∀ a ∈ cutW l, a.length ≤ l.length
  | [], a, h => by
    simp [cutW] at h
    subst h
    simp
  | c :: l, a, h => by
    have ih := cutW_len l
    simp only [cutW] at h
    split at h
    · rcases List.mem_cons.1 h with rfl | h
      · simp
      · have := ih a h
        simp
        omega
    · cases hq : cutW l with
      | nil => exact absurd hq (cutW_ne l)
      | cons b r =>
        rw [hq] at h ih
        rcases List.mem_cons.1 h with rfl | h
        · have := ih b (by simp)
          simp
          omega
        · have := ih a (List.mem_cons_of_mem _ h)
          simp
          omega
/-- strings.Split at a blank: the words -/
theorem split_any (s : ByteArray) (hs : s.size ≤ 30) (p : Addr) (w : World) (hl : LaidE p w) :
    Calls Tryz.prog 30 #[.string s, .string ⟨#[32]⟩] w (fun e w' => ∃ ws : List ByteArray, ws.map (·.data.toList) = cutW s.data.toList ∧ e = .returned (.slice (some ⟨w.heap.size, 0, none⟩) ws.length ws.length) ∧ w' = w.alloc (.cells (ws.map Value.string).toArray 9)) := by
  obtain ⟨m, hm⟩ := hl.mx
  refine (Tryz.strings_Split s ⟨#[32]⟩ m w (by omega) hm (by decide)).mono ?_
  rintro e w' ⟨rfl, rfl⟩
  refine ⟨_, split_words s, ?_, rfl⟩
  rw [Lib.splitB_all ⟨#[32]⟩ (by decide) 0 _ s rfl]

/-- seven numbers in a block -/
def TabN (w : World) (h : Nat) (f : Nat → Int) : Prop := ∀ t, t < 7 → w.cell? ⟨h, t, none⟩ = some (.int .i64 (f t))
def updN (f : Nat → Int) (t : Nat) (u : Int) : Nat → Int := fun j => if j = t then u else f j
theorem TabN.keep {w w' : World} {h : Nat} {f : Nat → Int} (a : TabN w h f) (e : w'.heap[h]? = w.heap[h]?) : TabN w' h f :=
  fun t ht => (World.cell?_of_block (a := ⟨h, t, none⟩) e).trans (a t ht)
theorem TabN.set {w : World} {h : Nat} {f : Nat → Int} (a : TabN w h f) (t : Nat) (ht : t < 7) (u : Int) : TabN (w.setCell ⟨h, t, none⟩ (.int .i64 u)) h (updN f t u) := fun j hj => by
  have := cell_set w h 0 j t (.int .i64 u) (.int .i64 (f t)) (by rw [Nat.zero_add]; exact a t ht)
  simp only [Nat.zero_add] at this
  rw [this]
  unfold updN
  by_cases e : j = t
  · rw [if_pos e, if_pos e]
  · rw [if_neg e, if_neg e, a j hj]

/-- the memory of parseRec in its loop: the result, the words, the numbers -/
structure StP (w : World) (cs : Array Value) (f : Nat → Int) (w1 : World) : Prop where
  below : Below w.heap.size w w1
  res : Has w1 w.heap.size 23 #[.int .i64 0, .int .i64 0, .int .i64 0, .int .i64 0, .int .i64 0, .int .i64 0, .int .i64 0, .int .i64 0]
  wds : Has w1 (w.heap.size + 1) 9 cs
  tab : TabN w1 (w.heap.size + 2) f
  wr : Wr w1 (w.heap.size + 2) 0 7
  sz : w.heap.size + 3 ≤ w1.heap.size
section
variable {w w1 w2 : World} {cs : Array Value} {f : Nat → Int}
theorem StP.next (h : StP w cs f w1) (b : Below w1.heap.size w1 w2) : StP w cs f w2 := by
  have l := h.sz
  exact ⟨h.below.trans (b.mono (by omega)), h.res.below b (by omega), h.wds.below b (by omega), h.tab.keep (b.block _ (by omega)), h.wr.below b (by omega), Nat.le_trans l b.size⟩
theorem StP.drew (h : StP w cs f w1) : StP w cs f w1.drew := h.next (Below.refl _ _).drew
theorem StP.set (h : StP w cs f w1) (t : Nat) (ht : t < 7) (u : Int) : StP w cs (updN f t u) (w1.setCell ⟨w.heap.size + 2, t, none⟩ (.int .i64 u)) := by
  refine ⟨h.below.setCell (by show w.heap.size ≤ w.heap.size + 2; omega) _, h.res.far (by show w.heap.size ≠ w.heap.size + 2; omega) _, h.wds.far (by show w.heap.size + 1 ≠ w.heap.size + 2; omega) _, h.tab.set t ht u, h.wr.set _ _, ?_⟩
  rw [size_set]
  exact h.sz
end

/-- the error that parseRec gives with a record, or none -/
def errOf (p : Addr) (b : Bool) : Value := if b = true then .nilIface else .iface 135 (.pointer (some p))
/-- what parseRec leaves -/
def Parsed (s : ByteArray) (p : Addr) (w : World) (e : Ending) (w' : World) : Prop :=
  e = .returned (.tuple #[recV (readR s.data.toList), errOf p (readB s.data.toList)]) ∧ Below w.heap.size w w'
theorem parsed_none {s : ByteArray} {p : Addr} {w w' : World} (h : ∀ r, ¬ IsText s.data.toList r) (b : Below w.heap.size w w') : Parsed s p w (.returned (.tuple #[.agg #[.int .i64 0, .int .i64 0, .int .i64 0, .int .i64 0, .int .i64 0, .int .i64 0, .int .i64 0, .int .i64 0], .iface 135 (.pointer (some p))])) w' := by
  obtain ⟨h1, h2⟩ := readR_none h
  exact ⟨by rw [h1, h2]; rfl, b⟩
theorem parsed_some {s : ByteArray} {p : Addr} {w w' : World} {r : R} (h : IsText s.data.toList r) (b : Below w.heap.size w w') : Parsed s p w (.returned (.tuple #[recV r, .nilIface])) w' := by
  obtain ⟨h1, h2⟩ := readR_of h
  exact ⟨by rw [h1, h2]; rfl, b⟩
theorem eightZ {w : World} {g : Nat} (h : Has w g 23 #[.int .i64 0, .int .i64 0, .int .i64 0, .int .i64 0, .int .i64 0, .int .i64 0, .int .i64 0, .int .i64 0]) : w.cell? ⟨g, 0, none⟩ = some (.int .i64 0) ∧ w.cell? ⟨g, 1, none⟩ = some (.int .i64 0) ∧ w.cell? ⟨g, 2, none⟩ = some (.int .i64 0) ∧ w.cell? ⟨g, 3, none⟩ = some (.int .i64 0) ∧ w.cell? ⟨g, 4, none⟩ = some (.int .i64 0) ∧ w.cell? ⟨g, 5, none⟩ = some (.int .i64 0) ∧ w.cell? ⟨g, 6, none⟩ = some (.int .i64 0) ∧ w.cell? ⟨g, 7, none⟩ = some (.int .i64 0) :=
  ⟨h.cell 0, h.cell 1, h.cell 2, h.cell 3, h.cell 4, h.cell 5, h.cell 6, h.cell 7⟩

theorem text_len {s : ByteArray} {r : R} (h : IsText s.data.toList r) : s.size ≤ 30 := by
  have := (isText_len h).1
  rwa [Array.length_toList] at this
set_option maxRecDepth 100000 in
set_option maxHeartbeats 1000000 in
theorem parseLong (s : ByteArray) (hs : ¬ s.size ≤ 30) (p : Addr) (w : World) (hl : LaidE p w) : Calls Tryz.prog 18 #[.string s] w (Parsed s p w) := by
  have Hn : Hid (∀ r, ¬ IsText s.data.toList r) := fun r h => hs (text_len h)
  have L := Lib.hid hl
  have hs' : (30 : Int) < (s.size : Int) := by omega
  clear hl hs
  go_enter Tryz.func18, Tryz.ntmps18
  go_upto_region 2 with (fail)
  have Bq := Lib.hid (below_one w (.cells #[.int .i64 0, .int .i64 0, .int .i64 0, .int .i64 0, .int .i64 0, .int .i64 0, .int .i64 0, .int .i64 0] 23))
  have Rq := Lib.hid (Has.new w 23 #[.int .i64 0, .int .i64 0, .int .i64 0, .int .i64 0, .int .i64 0, .int .i64 0, .int .i64 0, .int .i64 0])
  generalize (w.alloc (.cells #[.int .i64 0, .int .i64 0, .int .i64 0, .int .i64 0, .int .i64 0, .int .i64 0, .int .i64 0, .int .i64 0] 23)) = w1 at *
  have er := (L.out.below Bq.out).err
  have hz : w.heap.size ≠ 0 := by have := L.out.big; omega
  have hz' : 0 ≠ w.heap.size := fun e => hz e.symm
  obtain ⟨r0, r1, r2, r3, r4, r5, r6, r7⟩ := eightZ Rq.out
  have f0 := Rq.out.frozen 0
  have f1 := Rq.out.frozen 1
  have f2 := Rq.out.frozen 2
  have f3 := Rq.out.frozen 3
  have f4 := Rq.out.frozen 4
  have f5 := Rq.out.frozen 5
  have f6 := Rq.out.frozen 6
  have f7 := Rq.out.frozen 7
  go_region
  all_goals
    go_wp2
    refine bodyPost_ret (v := .tuple #[.agg #[.int .i64 0, .int .i64 0, .int .i64 0, .int .i64 0, .int .i64 0, .int .i64 0, .int .i64 0, .int .i64 0], .iface 135 (.pointer (some p))]) (by simp [results, Tryz.results18, go_sem, r0, r1, r2, r3, r4, r5, r6, r7]) rfl (parsed_none Hn.out ?_)
    exact ((((((((Bq.out.setCell (Nat.le_refl _) _).setCell (Nat.le_refl _) _).setCell (Nat.le_refl _) _).setCell (Nat.le_refl _) _).setCell (Nat.le_refl _) _).setCell (Nat.le_refl _) _).setCell (Nat.le_refl _) _).setCell (Nat.le_refl _) _).drew

end Go.Proofs.YtoihdbcdlodkgaaGreatDoor.Base

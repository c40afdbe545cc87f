/-
  Contracts of LogOpen, of the program and of the model. Conditions: the slice leads to records.
-/
import Derived.Test.YtjiclphpeoffdaaLogL
import Derived.Test.YtjiclphpeoffdaaOwn
namespace Go.Proofs.Ytjiclphpeoffdaa.Base
open Go.RowKit

/-- the open ones among the first t transactions -/
def opens (rs : List R) : Nat → List Int
  | 0 => []
  | t + 1 => opens rs t ++ (if lastB rs ((t + 1 : Nat) : Int) = 0 then [] else [((t + 1 : Nat) : Int)])
theorem opens_len (rs : List R) : ∀ t, (opens rs t).length ≤ t
  | 0 => Nat.le_refl _
  | t + 1 => by
    have := opens_len rs t
    unfold opens
    rw [List.length_append]
    split <;> simp <;> omega
theorem opens_no (rs : List R) (h : logB rs = false) : ∀ t, opens rs t = []
  | 0 => rfl
  | t + 1 => by
    unfold opens
    rw [opens_no rs h t, lastB_no rs _ h]
    simp
theorem lastB_nonneg (rs : List R) (t : Int) : 0 ≤ lastB rs t := by
  unfold lastB
  split <;> omega

theorem ix4 (x y z u : Value) (t : Nat) (v : Value) (w : World) (h : #[x, y, z, u][t]? = some v) : (Instr.index 49 (.agg #[x, y, z, u]) (.int .i64 (t : Int))).run Try.prog w = .ok v w := by
  obtain ⟨i0, hi, _, hs, _⟩ := info_parts infoInt
  have ht : t < 4 := by
    have := (Array.getElem?_eq_some_iff.1 h).1
    simpa using this
  simp only [Instr.index, asIntOf, Sem.run_bind, Sem.run_pure, Result.andThen_ok, run_underlying Try.underlying49]
  rw [if_pos (by omega)]
  simp only [Sem.run_bind, run_sizeOf w hi, Result.andThen_ok]
  rw [show Int.toNat (t : Int) * Try.prog.cellsOf 3 = t from by rw [show Try.prog.cellsOf 3 = 1 from by kernel_rfl]; simp]
  exact part_int _ _ _ _ h
theorem ix4_0 (x y z u : Value) (w : World) : (Instr.index 49 (.agg #[x, y, z, u]) (.int .i64 0)).run Try.prog w = .ok x w := ix4 x y z u 0 x w rfl
theorem ix4_1 (x y z u : Value) (w : World) : (Instr.index 49 (.agg #[x, y, z, u]) (.int .i64 1)).run Try.prog w = .ok y w := ix4 x y z u 1 y w rfl
theorem ix4_2 (x y z u : Value) (w : World) : (Instr.index 49 (.agg #[x, y, z, u]) (.int .i64 2)).run Try.prog w = .ok z w := ix4 x y z u 2 z w rfl
theorem ix4_3 (x y z u : Value) (w : World) : (Instr.index 49 (.agg #[x, y, z, u]) (.int .i64 3)).run Try.prog w = .ok u w := ix4 x y z u 3 u w rfl
attribute [local go_sem ↓] ix4_0 ix4_1 ix4_2 ix4_3

set_option maxHeartbeats 2000000 in
theorem specLogOpen_any (rs : List R) (a : Option Addr) (cap B : Nat) (w : World) (hB : B ≤ w.heap.size) (hz : Recs w B a rs) (hc : rs.length ≤ cap) (mx : rs.length ≤ 1000000000) :
    Calls Try.prog 16 #[.slice a rs.length cap] w (Gives (opens rs 3) w) := by
  have Hz := Lib.hid hz
  clear hz
  go_enter Try.func16, Try.ntmps16
  go_wp2_with fail
  refine (specLogOk_any rs a cap B _ (by simp; omega) (Hz.out.below ((below_one _ _).mono hB)) hc mx).mono ?_
  rintro e w1 ⟨rfl, b1⟩
  have q1 := (Has.new w 3 #[]).below b1 (by simp)
  have O1 : Hid (OwnI w1 w.heap.size (.slice (some ⟨w.heap.size, 0, none⟩) 0 0) []) := OwnI.empty q1 (Nat.le_refl _)
  have B1 : Hid (Below w.heap.size w w1) := (below_one _ _).trans (b1.mono (by simp))
  clear b1 q1
  cases hk : logB rs
  · have Ho := Lib.hid (opens_no rs hk 3)
    clear hk
    go_wp2
    go_ret
    obtain ⟨a', cap', e', m'⟩ := O1.out.mine
    exact ⟨a', cap', by rw [Ho.out]; exact congrArg Ending.returned e', B1.out, by rw [Ho.out]; exact m'⟩
  · have Hk := Lib.hid hk
    clear hk
    go_wp2_with fail
    go_loopw [3, 4] (fun v i wx => ∃ t : Nat, t ≤ 3 ∧ i = .int .i64 ((t : Int) + 1) ∧ Below w.heap.size w wx ∧ OwnI wx w.heap.size v (opens rs t)) (fun _ i _ => (4 - intOf i).toNat)
    case atStart => exact ⟨0, by omega, rfl, B1.out, O1.out⟩
    case round =>
      clear O1 B1
      obtain ⟨t, ht, rfl, hb, ho⟩ := hrel
      have Hb := Lib.hid hb
      have Ho := Lib.hid ho
      have hs := hb.size
      clear hb ho
      by_cases hlt : t < 3
      · have hol := opens_len rs t
        have Hn : Hid (opens rs (t + 1) = opens rs t ++ (if lastB rs ((t : Int) + 1) = 0 then [] else [(t : Int) + 1])) := rfl
        have Hl : Hid ((lastN rs ((t : Int) + 1) rs.length : Int) = lastB rs ((t : Int) + 1)) := (lastB_yes rs _ Hk.out).symm
        have hnn := lastB_nonneg rs ((t : Int) + 1)
        generalize lastB rs ((t : Int) + 1) = z at Hn Hl hnn
        by_cases hz : z = 0
        · subst hz
          go_wp2_with (go_at_call 32; refine (l3Last_any rs rs.length _ a cap B _ (Nat.le_refl _) (Hz.out.below (Hb.out.mono hB)) mx).mono ?_; rintro e w2 ⟨rfl, rfl⟩; rw [Hl.out])
          exact ⟨⟨t + 1, by omega, by go_num, Hb.out, by rw [Hn.out]; simpa using Ho.out⟩, by simp [intOf]; omega⟩
        · have hz' : 0 < z := by omega
          have Hz0 := Lib.hid hz
          clear hz
          go_wp2_with (first
            | (go_at_call 32; refine (l3Last_any rs rs.length _ a cap B _ (Nat.le_refl _) (Hz.out.below (Hb.out.mono hB)) mx).mono ?_; rintro e w2 ⟨rfl, rfl⟩; rw [Hl.out])
            | (at_builtin; refine wp_append_int _ rfl (.tmp 18) (.tmp 20) rfl w.heap.size _ (opens rs t) rfl (Ho.out.alloc _) _ ((t : Int) + 1) rfl (World.cell?_alloc_new _ _ _ _) (by omega) (by simp; omega) ?_; intro v' w' h1 h2; have H1 := Lib.hid h1; have H2 := Lib.hid h2; clear h1 h2))
          refine ⟨⟨t + 1, by omega, by go_num, ?_, by rw [Hn.out, if_neg Hz0.out]; exact H1.out⟩, by simp [intOf]; omega⟩
          exact (Hb.out.alloc hs _).grown H2.out (by simp; omega) (fun k hk => (World.ownsRow.lt Ho.out k hk).1)
      · obtain rfl : t = 3 := by omega
        obtain ⟨a', cap', e', m'⟩ := Ho.out.mine
        subst e'
        have M := Lib.hid m'
        clear m' Ho
        go_wp2
        go_ret
        exact ⟨a', cap', rfl, Hb.out, M.out⟩

set_option maxHeartbeats 2000000 in
theorem logOpen_any (rs : List R) (a : Option Addr) (cap B : Nat) (w : World) (hB : B ≤ w.heap.size) (hz : Recs w B a rs) (hc : rs.length ≤ cap) (mx : rs.length ≤ 1000000000) :
    Calls Try.prog 17 #[.slice a rs.length cap] w (Gives (opens rs 3) w) := by
  have Hz := Lib.hid hz
  clear hz
  go_enter Try.func17, Try.ntmps17
  go_wp2_with fail
  refine (lastNumbersOf_any rs a cap B _ hB Hz.out hc mx).mono ?_
  rintro e w1 ⟨rfl, b1⟩
  have l1 := b1.size
  have B1 := Lib.hid b1
  clear b1
  generalize h1 : lastB rs 1 = l1
  generalize h2 : lastB rs 2 = l2
  generalize h3 : lastB rs 3 = l3
  have H1 := Lib.hid h1
  have H2 := Lib.hid h2
  have H3 := Lib.hid h3
  clear h1 h2 h3
  cases hk : logB rs
  · have Ho := Lib.hid (opens_no rs hk 3)
    clear hk
    go_wp2
    go_ret
    exact ⟨none, 0, by rw [Ho.out]; rfl, B1.out.alloc (by assumption) _, by rw [Ho.out]; exact fun h => absurd h (by simp)⟩
  · clear hk
    go_wp2_with fail
    go_loopw [5, 16] (fun v i wx => ∃ t : Nat, t ≤ 4 ∧ i = .int .i64 (t : Int) ∧ Below w.heap.size w wx ∧ OwnI wx w.heap.size v (opens rs (t - 1))) (fun _ i _ => (4 - intOf i).toNat)
    case atStart => exact ⟨0, by omega, rfl, B1.out.alloc (by assumption) _, OwnI.nil _ _⟩
    case round =>
      clear B1
      obtain ⟨t, ht, rfl, hb, ho⟩ := hrel
      have Hb := Lib.hid hb
      have Ho := Lib.hid ho
      have hs := hb.size
      clear hb ho
      match t, ht with
      | 0, _ =>
        go_wp2
        exact ⟨⟨1, by omega, rfl, Hb.out, Ho.out⟩, by simp [intOf]⟩
      | 1, _ =>
        have hol := opens_len rs 0
        have Hn : Hid (opens rs 1 = opens rs 0 ++ (if lastB rs 1 = 0 then [] else [1])) := rfl
        rw [H1.out] at Hn
        by_cases hz : l1 = 0
        · subst hz
          go_wp2
          exact ⟨⟨2, by omega, rfl, Hb.out, by show OwnI wr w.heap.size _ (opens rs 1); rw [Hn.out]; simpa using Ho.out⟩, by simp [intOf]⟩
        · have hz' : (l1 != 0) = true := by simpa using hz
          have Hz0 := Lib.hid hz
          clear hz
          go_wp2_with (at_builtin; refine wp_append_int _ rfl (.tmp 22) (.tmp 24) rfl w.heap.size _ (opens rs 0) rfl (Ho.out.alloc _) _ 1 rfl (World.cell?_alloc_new _ _ _ _) (by omega) (by simp; omega) ?_; intro v' w' h1 h2; have G1 := Lib.hid h1; have G2 := Lib.hid h2; clear h1 h2)
          refine ⟨⟨2, by omega, rfl, ?_, by show OwnI w' w.heap.size _ (opens rs 1); rw [Hn.out, if_neg Hz0.out]; exact G1.out⟩, by simp [intOf]⟩
          exact (Hb.out.alloc hs _).grown G2.out (by simp; omega) (fun k hk => (World.ownsRow.lt Ho.out k hk).1)
      | 2, _ =>
        have hol := opens_len rs 1
        have Hn : Hid (opens rs 2 = opens rs 1 ++ (if lastB rs 2 = 0 then [] else [2])) := rfl
        rw [H2.out] at Hn
        by_cases hz : l2 = 0
        · subst hz
          go_wp2
          exact ⟨⟨3, by omega, rfl, Hb.out, by show OwnI wr w.heap.size _ (opens rs 2); rw [Hn.out]; simpa using Ho.out⟩, by simp [intOf]⟩
        · have hz' : (l2 != 0) = true := by simpa using hz
          have Hz0 := Lib.hid hz
          clear hz
          go_wp2_with (at_builtin; refine wp_append_int _ rfl (.tmp 22) (.tmp 24) rfl w.heap.size _ (opens rs 1) rfl (Ho.out.alloc _) _ 2 rfl (World.cell?_alloc_new _ _ _ _) (by omega) (by simp; omega) ?_; intro v' w' h1 h2; have G1 := Lib.hid h1; have G2 := Lib.hid h2; clear h1 h2)
          refine ⟨⟨3, by omega, rfl, ?_, by show OwnI w' w.heap.size _ (opens rs 2); rw [Hn.out, if_neg Hz0.out]; exact G1.out⟩, by simp [intOf]⟩
          exact (Hb.out.alloc hs _).grown G2.out (by simp; omega) (fun k hk => (World.ownsRow.lt Ho.out k hk).1)
      | 3, _ =>
        have hol := opens_len rs 2
        have Hn : Hid (opens rs 3 = opens rs 2 ++ (if lastB rs 3 = 0 then [] else [3])) := rfl
        rw [H3.out] at Hn
        by_cases hz : l3 = 0
        · subst hz
          go_wp2
          exact ⟨⟨4, by omega, rfl, Hb.out, by show OwnI wr w.heap.size _ (opens rs 3); rw [Hn.out]; simpa using Ho.out⟩, by simp [intOf]⟩
        · have hz' : (l3 != 0) = true := by simpa using hz
          have Hz0 := Lib.hid hz
          clear hz
          go_wp2_with (at_builtin; refine wp_append_int _ rfl (.tmp 22) (.tmp 24) rfl w.heap.size _ (opens rs 2) rfl (Ho.out.alloc _) _ 3 rfl (World.cell?_alloc_new _ _ _ _) (by omega) (by simp; omega) ?_; intro v' w' h1 h2; have G1 := Lib.hid h1; have G2 := Lib.hid h2; clear h1 h2)
          refine ⟨⟨4, by omega, rfl, ?_, by show OwnI w' w.heap.size _ (opens rs 3); rw [Hn.out, if_neg Hz0.out]; exact G1.out⟩, by simp [intOf]⟩
          exact (Hb.out.alloc hs _).grown G2.out (by simp; omega) (fun k hk => (World.ownsRow.lt Ho.out k hk).1)
      | 4, _ =>
        obtain ⟨a', cap', e', m'⟩ := Ho.out.mine
        subst e'
        have M := Lib.hid m'
        clear m' Ho
        go_wp2
        go_ret
        exact ⟨a', cap', rfl, Hb.out, M.out⟩
end Go.Proofs.Ytjiclphpeoffdaa.Base

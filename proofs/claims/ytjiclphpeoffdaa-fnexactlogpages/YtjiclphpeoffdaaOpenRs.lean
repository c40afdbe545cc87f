/-
  A list of records that came in as an argument: a slice of eight numbers each, read out of the row's own reading. No conditions.
-/
import Derived.Test.YtjiclphpeoffdaaLogMath
import Derived.OpenShut
import Derived.Deep.Slices
import Derived.ChangeArms
namespace Go.Proofs.Ytjiclphpeoffdaa.Base
open Go.ChangeShapes Go.WideShapes Go.ChangeAt Go.RowKit Go.Deep

theorem gather {P : Nat → R → Prop} : ∀ n : Nat, (∀ i, i < n → ∃ r, P i r) → ∃ rs : List R, rs.length = n ∧ ∀ i, i < n → P i (recAt rs i)
  | 0, _ => ⟨[], rfl, fun i hi => absurd hi (by omega)⟩
  | n + 1, h => by
    obtain ⟨rs, hl, hr⟩ := gather n (fun i hi => h i (by omega))
    obtain ⟨r, hn⟩ := h n (by omega)
    refine ⟨rs ++ [r], by simp [hl], fun i hi => ?_⟩
    rcases Nat.lt_succ_iff_lt_or_eq.1 hi with hlt | rfl
    · have : recAt (rs ++ [r]) i = recAt rs i := by
        unfold recAt
        simp [List.getD_eq_getElem?_getD, List.getElem?_append_left (show i < rs.length by omega)]
      rw [this]
      exact hr i hlt
    · have : recAt (rs ++ [r]) i = r := by
        unfold recAt
        simp [List.getD_eq_getElem?_getD, ← hl]
      rw [this]
      exact hn

set_option maxRecDepth 100000 in
theorem openRecs {H : Type} {enc : TypeId × Value → H} {W : World} {rc : Reach} {b0 : Nat} {v : Value} {d : DataW H} {p : List MemPlace}
    (hv : Value.okWide Try.prog W rc b0 22 v) (h : DataW.Trod enc Try.prog W 0 (fun _ => true) true 22 v d p) :
    ∃ (a : Option Addr) (rs : List R) (cap : Nat), v = .slice a rs.length cap ∧ Recs W W.heap.size a rs ∧ rs.length ≤ cap ∧ cap ≤ maxLen := by
  obtain ⟨a0, len0, cap0, rfl⟩ := okWide_slice Try.underlying22 hv
  obtain ⟨fuel, hf⟩ := h
  have hC : Try.prog.cellsOf 47 = 8 := by kernel_rfl
  have hI : Try.prog.cellsOf 3 = 1 := by kernel_rfl
  rcases open_slice Try.underlying22 hf with ⟨hcs, _⟩ | ⟨x, l, c, m, n, D, Pl, hcs, _, hl, hm, hmm, _, hel⟩
  · simp [Value.cells] at hcs
    obtain ⟨rfl, rfl, rfl⟩ := hcs
    exact ⟨none, [], 0, rfl, fun h => absurd h (by simp), by simp, by simp [maxLen]⟩
  · simp [Value.cells] at hcs
    obtain ⟨rfl, rfl, rfl⟩ := hcs
    have hml : len0 ≤ m := by
      rw [hmm]
      split <;> omega
    have one : ∀ i, i < len0 → ∃ r : R, W.cell? (x.add (i * 8)) = some (.int .i64 r.k) ∧ ∀ b off, x = ⟨b, off, none⟩ → At W b (off + i * 8) r := fun i hi => by
      obtain ⟨cs', hc, ht⟩ := hel i (by omega)
      rw [hC] at hc
      obtain ⟨ys, n', _, _, _, hyl, hfs⟩ := DataW.trod_struct Try.underlying47 ht
      obtain ⟨_, hcl, hat⟩ := World.cells?_some hc
      have key : ∀ (j : Nat) (f : Field), (j < ys.length) → (DataW.trod enc Try.prog W 0 (fun _ => true) true n' f.type ((cs'.drop f.offset).take (Try.prog.cellsOf f.type)) = ys[j]?) → f.type = 3 → f.offset = j → ∃ z, cs'[j]? = some (.int .i64 z) := fun j f hj h1 ht ho => by
        rw [ht, ho, hI, List.getElem?_eq_getElem hj] at h1
        obtain ⟨z, e, _⟩ := DataW.trod_int Try.underlying3 h1
        refine ⟨z, ?_⟩
        have := congrArg List.head? e
        simpa [List.head?_take, List.head?_drop] using this
      have hy8 : ys.length = 8 := hyl
      obtain ⟨z0, e0⟩ := key 0 _ (by omega) (hfs 0 _ rfl) rfl rfl
      obtain ⟨z1, e1⟩ := key 1 _ (by omega) (hfs 1 _ rfl) rfl rfl
      obtain ⟨z2, e2⟩ := key 2 _ (by omega) (hfs 2 _ rfl) rfl rfl
      obtain ⟨z3, e3⟩ := key 3 _ (by omega) (hfs 3 _ rfl) rfl rfl
      obtain ⟨z4, e4⟩ := key 4 _ (by omega) (hfs 4 _ rfl) rfl rfl
      obtain ⟨z5, e5⟩ := key 5 _ (by omega) (hfs 5 _ rfl) rfl rfl
      obtain ⟨z6, e6⟩ := key 6 _ (by omega) (hfs 6 _ rfl) rfl rfl
      obtain ⟨z7, e7⟩ := key 7 _ (by omega) (hfs 7 _ rfl) rfl rfl
      refine ⟨⟨z0, z1, z2, z3, z4, z5, z6, z7⟩, ?_, ?_⟩
      · have := hat 0 (by omega)
        rw [e0] at this
        simpa [Addr.add] using this
      · rintro b off rfl
        have g : ∀ j, j < 8 → W.cell? ⟨b, off + i * 8 + j, none⟩ = cs'[j]? := fun j hj => by
          have := hat j hj
          rwa [add_plain, add_plain] at this
        exact ⟨(g 0 (by omega)).trans e0, (g 1 (by omega)).trans e1, (g 2 (by omega)).trans e2, (g 3 (by omega)).trans e3, (g 4 (by omega)).trans e4, (g 5 (by omega)).trans e5, (g 6 (by omega)).trans e6, (g 7 (by omega)).trans e7⟩
    obtain ⟨rs, hrl, hrs⟩ := gather len0 one
    subst hrl
    refine ⟨some x, rs, cap0, rfl, fun hp => ?_, hl, hm⟩
    have h0 := (hrs 0 hp).1
    obtain ⟨b, off, spot⟩ := x
    have hspot : spot = none := by simpa [Addr.add] using World.cell?_spot h0
    subst hspot
    have hA : RdR W b off rs := fun j hj => (hrs j hj).2 b off rfl
    exact ⟨b, off, rfl, World.block_lt_of_cell? W _ (hA 0 hp).k, hA⟩
end Go.Proofs.Ytjiclphpeoffdaa.Base

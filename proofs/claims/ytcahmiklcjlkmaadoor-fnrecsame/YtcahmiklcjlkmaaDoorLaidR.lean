/-
  From the row's listed variables to what RecText reads: the powers of ten, and the names of kinds. Conditions: the listed variables hold what the row lists.
-/
import Derived.Test.YtcahmiklcjlkmaaDoorRecTx
import Derived.Lib.LaidTab
import Derived.LaidSub
import Derived.OpenShut
import Derived.OpenVars
namespace Go.Proofs.YtcahmiklcjlkmaaDoor.Base
open Go.RowKit

/-- an array of strings that reads as these holds them -/
theorem cells_of_strs {P : Program} {w : World} {base : Nat} {sp : Nat → Bool} {held : Bool} {fuel : Nat} {t e : TypeId} {n : Nat} {cs : List Value} {ss : List (List UInt8)} {p : List MemPlace}
    (ht : P.underlying t = some (.array n e)) (he : P.underlying e = some .string) (hce : P.cellsOf e = 1)
    (h : DataW.trod (fun _ => ()) P w base sp held fuel t cs = some (.agg (ss.map fun s => .lit (.string s)), p)) : ∀ (i : Nat) (s : List UInt8), ss[i]? = some s → cs[i]? = some (Value.string ⟨s.toArray⟩) := by
  obtain ⟨xs, m, _, hx, _, hl, hf⟩ := DataW.trod_array ht h
  have hxs : xs.map (·.1) = ss.map fun s => (DataW.lit (.string s) : DataW Unit) := by
    have := congrArg Prod.fst hx
    simpa using this.symm
  intro i s hs
  have hi : i < xs.length := by
    have := congrArg List.length hxs
    simp at this
    have := (List.getElem?_eq_some_iff.1 hs).1
    omega
  have h1 := hf i (by omega)
  rw [hce, Nat.mul_one, List.getElem?_eq_getElem hi] at h1
  obtain ⟨b, hc, hb, _⟩ := DataW.trod_string he h1
  have h2 : (xs.map (·.1))[i]? = some (DataW.lit (.string b.data.toList) : DataW Unit) := by simp [List.getElem?_eq_getElem hi, hb]
  rw [hxs] at h2
  simp only [List.getElem?_map, hs, Option.map_some, Option.some.injEq, DataW.lit.injEq, Lit.string.injEq] at h2
  have h3 : cs[i]? = some (.string b) := by
    have := congrArg (·[0]?) hc
    simpa [List.getElem?_take, List.getElem?_drop] using this
  rw [h3]
  have h4 : b = ⟨s.toArray⟩ := by
    apply ByteArray.ext
    rw [h2]
  rw [h4]

/-- the variables that rows of records' texts list -/
abbrev laidL : List (String × DataW Unit) := Rows.fnExactRecTextRow.laid

theorem laid_of {W : World} (h : laidMetH Tryd.prog laidL W) : Laid W := by
  have h0 := (laidMetH_iff.1 h).1
  have hp := h0.filter (fun x => x.1 == "internal/strconv.uint64pow10")
  have hn := h0.filter (fun x => x.1 == "loop.example/tabularium/impl.recNames")
  have hp' : laidMet Tryd.prog [("internal/strconv.uint64pow10", Lib.tabData .u64 Lib.pow10Tab)] W := hp
  have hn' : laidMet Tryd.prog [("loop.example/tabularium/impl.recNames", .agg (([[], [112, 117, 116], [111, 119, 110], [108, 111, 97, 100], [100, 111, 110, 101], [101, 110, 100], [117, 110, 100, 111]] : List (List UInt8)).map fun s => .lit (.string s)))] W := hn
  obtain ⟨ps, ⟨g, t, cs, fuel, p, q, hg, hty, hvar, hd, _, _⟩, _⟩ := hn'
  have hg0 : Tryd.prog.globalNamed "loop.example/tabularium/impl.recNames" = some 0 := by kernel_rfl
  obtain rfl := Option.some.inj (hg0.symm.trans hg)
  have ht0 : (Tryd.prog.globals[0]?).map (·.type) = some 36 := by kernel_rfl
  obtain rfl := Option.some.inj (ht0.symm.trans hty)
  have hc := cells_of_strs Tryd.underlying36 Tryd.underlying9 (by kernel_rfl) hd
  have key : ∀ k : Nat, k < 7 → W.cell? ⟨0, k, none⟩ = some (.string ⟨(nameL k).toArray⟩) := fun k hk => by
    rw [World.var?_cell hg0 hvar k, ← Array.getElem?_toList]
    refine hc k _ ?_
    match k, hk with
    | 0, _ => rfl
    | 1, _ => rfl
    | 2, _ => rfl
    | 3, _ => rfl
    | 4, _ => rfl
    | 5, _ => rfl
    | 6, _ => rfl
  exact ⟨Lib.tabIs_of_head (g := 1) (by kernel_rfl) (by kernel_rfl) Tryd.underlying85 Tryd.underlying76 (by kernel_rfl) (by kernel_rfl) hp', key, World.block_lt_of_cell? W _ (key 0 (by omega))⟩

theorem one_var {H : Type} {enc : TypeId × Value → H} {P : Program} {w : World} {sp : Nat → Bool} {n : String} {gs : List (DataW H)} {ps : List MemPlace} (h : DataW.TrodVars enc P w sp [n] gs ps) : ∃ g1, gs = [g1] := by
  cases gs with
  | nil => exact h.elim
  | cons g r =>
    cases r with
    | nil => exact ⟨g, rfl⟩
    | cons a b =>
      obtain ⟨_, _, _, _, _, _, _, _, _, _, h', _⟩ := h
      exact h'.elim
end Go.Proofs.YtcahmiklcjlkmaaDoor.Base

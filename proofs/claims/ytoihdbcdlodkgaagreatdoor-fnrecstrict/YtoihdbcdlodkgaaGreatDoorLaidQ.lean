/-
  From the row's listed variables to what reading a text reads: the powers of ten, the names of kinds, three errors, one bound. Conditions: the listed variables hold what the row lists; the world has the shape of the program's.
-/
import Derived.Test.YtoihdbcdlodkgaaGreatDoorRead1
import Derived.Stop.LaidErr
import Derived.Handed
import Derived.Shelf.LaysM
import Derived.Lib.LaidTab
import Derived.LaidSub
import Derived.OpenShut
import Derived.OpenVars
namespace Go.Proofs.YtoihdbcdlodkgaaGreatDoor.Base
open Go.RowKit

/-- an array of strings that reads as these holds them -/
theorem cells_of_strs {P : Program} {w : World} {base : Nat} {sp : Nat → Bool} {held : Bool} {fuel : Nat} {t e : TypeId} {n : Nat} {cs : List Value} {ss : List (List UInt8)} {p : List MemPlace}
    (ht : P.underlying t = some (.array n e)) (he : P.underlying e = some .string) (hce : P.cellsOf e = 1)
    (h : DataW.trod (fun _ => ()) P w base sp held fuel t cs = some (.agg (ss.map fun s => .lit (.string s)), p)) : ∀ (i : Nat) (s : List UInt8), ss[i]? = some s → cs[i]? = some (Value.string ⟨s.toArray⟩) := by
  obtain ⟨xs, m, _, hx, _, hl, hf⟩ := DataW.trod_array ht h
  have hxs : xs.map (·.1) = ss.map fun s => (DataW.lit (.string s) : DataW Unit) := by
    have := congrArg Prod.fst hx
    simpa using this.symm
  intro i s hs
  have hi : i < xs.length := by
    have := congrArg List.length hxs
    simp at this
    have := (List.getElem?_eq_some_iff.1 hs).1
    omega
  have h1 := hf i (by omega)
  rw [hce, Nat.mul_one, List.getElem?_eq_getElem hi] at h1
  obtain ⟨b, hc, hb, _⟩ := DataW.trod_string he h1
  have h2 : (xs.map (·.1))[i]? = some (DataW.lit (.string b.data.toList) : DataW Unit) := by simp [List.getElem?_eq_getElem hi, hb]
  rw [hxs] at h2
  simp only [List.getElem?_map, hs, Option.map_some, Option.some.injEq, DataW.lit.injEq, Lit.string.injEq] at h2
  have h3 : cs[i]? = some (.string b) := by
    have := congrArg (·[0]?) hc
    simpa [List.getElem?_take, List.getElem?_drop] using this
  rw [h3]
  have h4 : b = ⟨s.toArray⟩ := by
    apply ByteArray.ext
    rw [h2]
  rw [h4]

/-- the variables that rows of records' texts list -/
abbrev laidL : List (String × DataW Unit) := Rows.fnExactRecReadRow.laid

theorem laid_of {W : World} (h : laidMetH Tryz.prog laidL W) : Laid W := by
  have h0 := (laidMetH_iff.1 h).1
  have hp := h0.filter (fun x => x.1 == "internal/strconv.uint64pow10")
  have hn := h0.filter (fun x => x.1 == "loop.example/tabularium/impl.recNames")
  have hp' : laidMet Tryz.prog [("internal/strconv.uint64pow10", Lib.tabData .u64 Lib.pow10Tab)] W := hp
  have hn' : laidMet Tryz.prog [("loop.example/tabularium/impl.recNames", .agg (([[], [112, 117, 116], [111, 119, 110], [108, 111, 97, 100], [100, 111, 110, 101], [101, 110, 100], [117, 110, 100, 111]] : List (List UInt8)).map fun s => .lit (.string s)))] W := hn
  obtain ⟨ps, ⟨g, t, cs, fuel, p, q, hg, hty, hvar, hd, _, _⟩, _⟩ := hn'
  have hg0 : Tryz.prog.globalNamed "loop.example/tabularium/impl.recNames" = some 1 := by kernel_rfl
  obtain rfl := Option.some.inj (hg0.symm.trans hg)
  have ht0 : (Tryz.prog.globals[1]?).map (·.type) = some 46 := by kernel_rfl
  obtain rfl := Option.some.inj (ht0.symm.trans hty)
  have hc := cells_of_strs Tryz.underlying46 Tryz.underlying9 (by kernel_rfl) hd
  have key : ∀ k : Nat, k < 7 → W.cell? ⟨1, k, none⟩ = some (.string ⟨(nameL k).toArray⟩) := fun k hk => by
    rw [World.var?_cell hg0 hvar k, ← Array.getElem?_toList]
    refine hc k _ ?_
    match k, hk with
    | 0, _ => rfl
    | 1, _ => rfl
    | 2, _ => rfl
    | 3, _ => rfl
    | 4, _ => rfl
    | 5, _ => rfl
    | 6, _ => rfl
  exact ⟨Lib.tabIs_of_head (g := 4) (by kernel_rfl) (by kernel_rfl) Tryz.underlying129 Tryz.underlying110 (by kernel_rfl) (by kernel_rfl) hp', key, World.block_lt_of_cell? W _ (key 0 (by omega))⟩

theorem gErr : Tryz.prog.globalNamed "loop.example/tabularium/impl.errRecText" = some 0 := by kernel_rfl
theorem gSyn : Tryz.prog.globalNamed "strconv.ErrSyntax" = some 2 := by kernel_rfl
theorem gRng : Tryz.prog.globalNamed "strconv.ErrRange" = some 3 := by kernel_rfl
theorem starErr : "*" ++ "errors.errorString" = "*errors.errorString" := by decide
theorem rowErr : ∀ u, Tryz.prog.typeName? 3 u = some "*errors.errorString" → u = 135 := fun u h =>
  typeName_ptr_named (nm := "errors.errorString") (by rw [starErr]; kernel_rfl) (by kernel_rfl) (by decide) u (by rw [starErr]; exact h)
theorem laidE_of {W : World} (h : laidMetH Tryz.prog laidL W) (hsh : W.ShapedOpen Tryz.prog) : ∃ p, LaidE p W := by
  have h0 := (laidMetH_iff.1 h).1
  have hl := laid_of h
  have e1 := h0.filter (fun x => x.1 == "loop.example/tabularium/impl.errRecText")
  have e2 := h0.filter (fun x => x.1 == "strconv.ErrSyntax")
  have e3 := h0.filter (fun x => x.1 == "strconv.ErrRange")
  obtain ⟨p, s0, hv0, -, -, -⟩ := laid_sentinel e1 gErr (by kernel_rfl) Tryz.underlying39 rowErr Tryz.underlying135 Tryz.underlying137 rfl rfl Tryz.underlying9 (by kernel_rfl) (by kernel_rfl)
  obtain ⟨p1, s1, hv1, -, -, -⟩ := laid_sentinel e2 gSyn (by kernel_rfl) Tryz.underlying39 rowErr Tryz.underlying135 Tryz.underlying137 rfl rfl Tryz.underlying9 (by kernel_rfl) (by kernel_rfl)
  obtain ⟨p2, s2, hv2, -, -, -⟩ := laid_sentinel e3 gRng (by kernel_rfl) Tryz.underlying39 rowErr Tryz.underlying135 Tryz.underlying137 rfl rfl Tryz.underlying9 (by kernel_rfl) (by kernel_rfl)
  have hm := Go.Proofs.cell_of_shapedOpen_int (P := Tryz.prog) (zero := #[.int .i64 0]) (g := 5) (t := 3) hsh (of_decide_eq_true (by kernel_rfl)) (by kernel_rfl) rfl (by kernel_rfl) (by kernel_rfl) Tryz.underlying3
  exact ⟨p, hl, by have := World.var?_cell gErr hv0 0; simpa using this, ⟨_, _, by have := World.var?_cell gSyn hv1 0; simpa using this⟩, ⟨_, _, by have := World.var?_cell gRng hv2 0; simpa using this⟩, hm, by
    obtain ⟨m, hc⟩ := hm
    exact World.block_lt_of_cell? W _ hc⟩

/-- the wrap of a row with listed variables, that hands on the world's shape -/
theorem returns_shaped {H : Type} {enc : TypeId × Value → H} {a : Assume} {C : Checked} {os : Os} {f : FuncId} {fn : Func} {s : ChangeSpec} {conds : List PathCond} {apart fresh handsOn again : Bool} {X : World → Array Value → Prop}
    (hX : ∀ (w w' : World) (args : Array Value), w.heap = w'.heap → X w args → X w' args)
    (own : ownKnob C.prog.godebug = none) (started : os.Started) (noInit : C.prog.inits.idxOf? f = none) (hfn : C.prog.funcs[f]? = some fn)
    (witness : ∃ (w : World) (tape : Tape) (i : Input), w.os = os ∧ (w.forCall tape i).Shaped C.prog ∧ i.vars = [] ∧ Input.okWide C.prog (w.forCall tape i) .any w.heap.size f i ∧
      ((s.pre enc C.prog fn conds apart (w.forCall tape i).memory i.args ∧ X (w.forCall tape i).memory i.args) ∧ sizedMet enc C.prog fn (OpenSpec.ofChange s) apart (w.forCall tape i).memory i.args) ∧ a.holds C.prog (lone (Frame.enter C.prog f i.args .normal) [] (w.forCall tape i)))
    (contract : ∀ (W : World) (base : Nat) (args : Array Value) (ds gs : List (DataW H)) (before : List MemPlace),
      (∀ (j : Nat) t v, fn.params[j]? = some t → args[j]? = some v → Value.okWide C.prog W .any base t v) →
      DataW.Whole enc C.prog fn.params.toList s.vars apart W args.toList ds gs before → X W args → W.ShapedOpen C.prog →
      Calls C.prog f args W fun e W' => ∃ v, e = .returned v ∧ s.post enc C.prog fn apart fresh handsOn again W args v W') :
    ReturnsInHanded a C os f .any (fun w args => (s.pre enc C.prog fn conds apart w args ∧ X w args) ∧ sizedMet enc C.prog fn (OpenSpec.ofChange s) apart w args) (s.post enc C.prog fn apart fresh handsOn again) := by
  refine returnsInHanded_of_calls own started noInit witness ?_
  intro w tape i _ hsh _ hok hpre _
  obtain ⟨_, _, _, fn', hfn', _, _, _, _, hval⟩ := hok
  obtain rfl : fn' = fn := Option.some.inj (hfn'.symm.trans hfn)
  obtain ⟨⟨⟨ds, gs, before, hw, _⟩, hx⟩, _⟩ := hpre
  refine (contract (w.forCall tape i) w.heap.size i.args ds gs before hval (DataW.Whole.of_heap (w' := w.forCall tape i) (by rfl) hw) (hX _ _ _ (by rfl) hx) hsh).mono fun e W' ⟨v, he, hp⟩ => ?_
  subst he
  exact ChangeSpec.post_blind hp

theorem two_vars {H : Type} {enc : TypeId × Value → H} {P : Program} {w : World} {sp : Nat → Bool} {n m : String} {gs : List (DataW H)} {ps : List MemPlace} (h : DataW.TrodVars enc P w sp [n, m] gs ps) : ∃ g1 g2, gs = [g1, g2] := by
  cases gs with
  | nil => exact h.elim
  | cons g r =>
    obtain ⟨_, _, _, _, _, _, _, _, _, _, h', _⟩ := h
    cases r with
    | nil => exact h'.elim
    | cons a b =>
      obtain ⟨_, _, _, _, _, _, _, _, _, _, h', _⟩ := h'
      cases b with
      | nil => exact ⟨g, a, rfl⟩
      | cons c d => exact h'.elim
end Go.Proofs.YtoihdbcdlodkgaaGreatDoor.Base

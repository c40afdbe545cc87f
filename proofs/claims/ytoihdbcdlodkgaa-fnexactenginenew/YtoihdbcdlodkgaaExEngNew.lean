/-
  Proved: FnExactEngineNew returns true: EngineNew answers as its model, in memory of its own. No conditions.
-/
import Derived.Test.YtoihdbcdlodkgaaEngNew
import Derived.OpenShut
import Derived.Lay
import Derived.ChangeOld
namespace Go.Proofs.Ytoihdbcdlodkgaa.Base
open Go.RowKit

set_option maxHeartbeats 400000 in
theorem eqRecS_none (a b : Option Addr) (ca cb : Nat) (w : World) : Calls Try.prog 12 #[.slice a 0 ca, .slice b 0 cb] w (fun e w' => e = .returned (.bool true) ∧ w = w') := by
  go_enter Try.func12, Try.ntmps12
  go_wp2
  go_loop [5] (fun i => i = .int .i64 0) (fun _ => 0)
  case atStart => rfl
  case round =>
    subst hrel
    go_wp2
    go_ret
    exact ⟨rfl, rfl⟩
set_option maxHeartbeats 400000 in
theorem markRecS_none (a : Option Addr) (ca : Nat) (k : Int) (w : World) : Calls Try.prog 14 #[.slice a 0 ca, .int .i64 k] w (fun e w' => e = .returned (.int .i64 k) ∧ w = w') := by
  go_enter Try.func14, Try.ntmps14
  go_wp2
  go_loop [1, 5] (fun q i => i = .int .i64 0 ∧ q = .int .i64 k) (fun _ _ => 0)
  case atStart => exact ⟨rfl, rfl⟩
  case round =>
    obtain ⟨rfl, rfl⟩ := hrel
    go_wp2
    go_ret
    exact ⟨rfl, rfl⟩
set_option maxHeartbeats 400000 in
theorem heldRecS_none (a : Option Addr) (ca : Nat) (k : Int) (w : World) : Calls Try.prog 16 #[.slice a 0 ca, .int .i64 k] w (fun e w' => e = .returned (.int .i64 k) ∧ w = w') := by
  go_enter Try.func16, Try.ntmps16
  go_wp2
  go_loop [1, 5] (fun q i => i = .int .i64 0 ∧ q = .int .i64 k) (fun _ _ => 0)
  case atStart => exact ⟨rfl, rfl⟩
  case round =>
    obtain ⟨rfl, rfl⟩ := hrel
    go_wp2
    go_ret
    exact ⟨rfl, rfl⟩
/-- the cells of such an engine -/
abbrev engC (rd n cd rm m cm : Nat) (lg : Option Addr) : Array Value := #[.slice (some ⟨rd, 0, none⟩) n cd, .slice (some ⟨rm, 0, none⟩) m cm, .slice lg 0 0, .int .i64 0, .bool false]
theorem says_same {ps qs : List Pg} (hl : ps.length = qs.length) (hp : ∀ p ∈ ps, p.says = (0, 0, [0, 0, 0])) (hq : ∀ p ∈ qs, p.says = (0, 0, [0, 0, 0])) : ps.map Pg.says = qs.map Pg.says := by
  apply List.ext_getElem (by simp [hl])
  intro i h1 h2
  simp only [List.getElem_map]
  rw [hp _ (List.getElem_mem _), hq _ (List.getElem_mem _)]
theorem zs_len {p : Pg} (h : p.says = (0, 0, [0, 0, 0])) : p.zs.length = 3 := by
  have : p.zs = [0, 0, 0] := by
    have := congrArg (·.2.2) h
    exact this
  rw [this]
  rfl
/-- rows that may be read below B -/
structure Reads2 (w : World) (B rd rm : Nat) (ps qs : List Pg) : Prop where
  d : Row w 0 B rd ps
  m : Row w 0 B rm qs
  len : ps.length = 5 ∧ qs.length = 5
  says : (∀ p ∈ ps, p.says = (0, 0, [0, 0, 0])) ∧ ∀ p ∈ qs, p.says = (0, 0, [0, 0, 0])
theorem TwoRows.reads {w : World} {base top rd rm : Nat} {ps qs : List Pg} (h : TwoRows w base top rd rm ps qs) : Reads2 w top rd rm ps qs := by
  obtain ⟨B1, _, h1, r1, r2⟩ := h.mid
  exact ⟨(r1.up' h1).down (Nat.zero_le _), r2.down (Nat.zero_le _), h.len, h.says⟩
theorem Reads2.below {w w' : World} {B rd rm : Nat} {ps qs : List Pg} (h : Reads2 w B rd rm ps qs) (b : Below B w w') : Reads2 w' B rd rm ps qs := ⟨h.d.below b, h.m.below b, h.len, h.says⟩
theorem Reads2.up {w : World} {B B' rd rm : Nat} {ps qs : List Pg} (h : Reads2 w B rd rm ps qs) (b : B ≤ B') : Reads2 w B' rd rm ps qs := ⟨h.d.up' b, h.m.up' b, h.len, h.says⟩

set_option maxHeartbeats 4000000 in
theorem eqEngine_same (rd cd rm cm rd' cd' rm' cm' B : Nat) (lg lg' : Option Addr) (ps qs ps' qs' : List Pg) (w : World) (hB : B ≤ w.heap.size) (h : Reads2 w B rd rm ps qs) (h' : Reads2 w B rd' rm' ps' qs') :
    Calls Try.prog 6 #[engV rd ps.length cd rm qs.length cm lg, engV rd' ps'.length cd' rm' qs'.length cm' lg'] w (Keeps (.bool true) w) := by
  have X := Lib.hid h
  have Y := Lib.hid h'
  have B0 := Lib.hid (below_two w (.cells (engC rd ps.length cd rm qs.length cm lg) 25) (.cells (engC rd' ps'.length cd' rm' qs'.length cm' lg') 25))
  clear h h'
  go_enter Try.func6, Try.ntmps6
  go_wp2_with fail
  refine (eqPageS_same ps ps' rd rd' cd cd' 0 0 B _ (by simp; omega) (X.out.d.below (B0.out.mono hB)) (Y.out.d.below (B0.out.mono hB)) (says_same (by rw [X.out.len.1, Y.out.len.1]) X.out.says.1 Y.out.says.1) (by rw [X.out.len.1]; omega) (fun p hp => by rw [zs_len (X.out.says.1 p hp)]; omega)).mono ?_
  rintro e w1 ⟨rfl, b1⟩
  have q1 := ((Has.new w 25 (engC rd ps.length cd rm qs.length cm lg)).alloc (.cells (engC rd' ps'.length cd' rm' qs'.length cm' lg') 25)).below b1 (by simp; omega)
  have q2 := (Has.new (w.alloc (.cells (engC rd ps.length cd rm qs.length cm lg) 25)) 25 (engC rd' ps'.length cd' rm' qs'.length cm' lg')).below b1 (by simp)
  simp only [World.size_alloc] at q2
  have Q1 := Lib.hid q1
  have Q2 := Lib.hid q2
  have B1 : Hid (Below w.heap.size w w1) := B0.out.trans (b1.mono (by simp; omega))
  have s1 : w.heap.size + 2 ≤ w1.heap.size := by have := b1.size; simp only [World.size_alloc] at this; omega
  clear b1 q1 q2
  obtain ⟨c0, c1, c2, c3, c4⟩ := Q1.out.five
  obtain ⟨d0, d1, d2, d3, d4⟩ := Q2.out.five
  go_wp2_with fail
  refine (eqPageS_same qs qs' rm rm' cm cm' 0 0 B _ (by omega) (X.out.m.below (B1.out.mono hB)) (Y.out.m.below (B1.out.mono hB)) (says_same (by rw [X.out.len.2, Y.out.len.2]) X.out.says.2 Y.out.says.2) (by rw [X.out.len.2]; omega) (fun p hp => by rw [zs_len (X.out.says.2 p hp)]; omega)).mono ?_
  rintro e w2 ⟨rfl, b2⟩
  have Q3 := Lib.hid (Q1.out.below b2 Q1.out.lt)
  have Q4 := Lib.hid (Q2.out.below b2 Q2.out.lt)
  have B2 : Hid (Below w.heap.size w w2) := B1.out.trans (b2.mono (by omega))
  clear b2 c0 c1 c2 c3 c4 d0 d1 d2 d3 d4 Q1 Q2
  obtain ⟨c0, c1, c2, c3, c4⟩ := Q3.out.five
  obtain ⟨d0, d1, d2, d3, d4⟩ := Q4.out.five
  go_wp2_with fail
  refine (eqRecS_none _ _ _ _ _).mono ?_
  rintro e w3 ⟨rfl, rfl⟩
  go_wp2
  go_ret
  exact ⟨rfl, B2.out⟩

/-- an engine's two rows, marked -/
structure Marked2 (w : World) (base B rd rm : Nat) (ps qs : List Pg) : Prop where
  d : MarksTo w rd 1 ps ps.length
  m : MarksTo w rm 26 qs qs.length
  len : ps.length = 5 ∧ qs.length = 5
  up : (rd < B ∧ ∀ p ∈ ps, p.g < B) ∧ rm < B ∧ ∀ p ∈ qs, p.g < B
theorem Marked2.below {w w' : World} {base B rd rm : Nat} {ps qs : List Pg} (h : Marked2 w base B rd rm ps qs) (b : Below B w w') : Marked2 w' base B rd rm ps qs :=
  ⟨h.d.below b h.up.1.1 h.up.1.2, h.m.below b h.up.2.1 h.up.2.2, h.len, h.up⟩
theorem Row.marks {w : World} {base B rb : Nat} {ps : List Pg} (h : Row w base B rb ps) (k : Int) : MarksTo w rb k ps 0 := fun j p hp => by
  rw [if_neg (by omega)]
  exact h.at_ j p hp

set_option maxHeartbeats 4000000 in
theorem markEngine_any (rd cd rm cm base top : Nat) (lg : Option Addr) (ps qs : List Pg) (w : World) (hb : base ≤ w.heap.size) (ht : top ≤ w.heap.size) (h : TwoRows w base top rd rm ps qs) :
    Calls Try.prog 7 #[engV rd ps.length cd rm qs.length cm lg, .int .i64 1] w (fun e w' => e = .returned (.int .i64 51) ∧ Below base w w' ∧ Marked2 w' base top rd rm ps qs ∧ w.heap.size ≤ w'.heap.size ∧ ∀ i, top ≤ i → i < w.heap.size → w'.heap[i]? = w.heap[i]?) := by
  obtain ⟨⟨M, m0, m1, r1, r2⟩, ⟨l1, l2⟩, ⟨z1, z2⟩, n1, n2⟩ := h
  have R1 := Lib.hid (r1.below ((below_one w (.cells (engC rd ps.length cd rm qs.length cm lg) 25)).mono (Nat.le_trans m1 ht)))
  have R2 := Lib.hid (r2.below ((below_one w (.cells (engC rd ps.length cd rm qs.length cm lg) 25)).mono ht))
  have F := Lib.hid (And.intro z1 (And.intro z2 (And.intro n1 n2)))
  have L := Lib.hid (And.intro l1 l2)
  have U : Hid ((rd < M ∧ ∀ p ∈ ps, p.g < M) ∧ rm < top ∧ ∀ p ∈ qs, p.g < top) := ⟨r1.up, r2.up⟩
  have U2 : Hid ((base ≤ rd ∧ ∀ p ∈ ps, base ≤ p.g) ∧ M ≤ rm ∧ ∀ p ∈ qs, M ≤ p.g) := ⟨r1.low, r2.low⟩
  have B0 := Lib.hid (below_one w (.cells (engC rd ps.length cd rm qs.length cm lg) 25))
  have A1 : Hid (∀ W, MarksTo W rd 1 ps 0 → base ≤ W.heap.size → Calls Try.prog 13 #[.slice (some ⟨rd, 0, none⟩) ps.length cd, .int .i64 1] W (fun e w' => e = .returned (.int .i64 26) ∧ Below base W w' ∧ w'.heap.size = W.heap.size ∧ MarksTo w' rd 1 ps ps.length ∧ OnlyIn rd ps W w')) := fun W hW hs => (markPageS_any ps rd cd base 1 W hW (fun p hp => zs_len (z1 p hp)) n1 r1.low.1 r1.low.2 hs (by omega) (by omega) (by omega)).mono (fun e w' h => ⟨by rw [h.1, l1]; rfl, h.2⟩)
  have A2 : Hid (∀ W, MarksTo W rm 26 qs 0 → M ≤ W.heap.size → Calls Try.prog 13 #[.slice (some ⟨rm, 0, none⟩) qs.length cm, .int .i64 26] W (fun e w' => e = .returned (.int .i64 51) ∧ Below M W w' ∧ w'.heap.size = W.heap.size ∧ MarksTo w' rm 26 qs qs.length ∧ OnlyIn rm qs W w')) := fun W hW hs => (markPageS_any qs rm cm M 26 W hW (fun p hp => zs_len (z2 p hp)) n2 r2.low.1 r2.low.2 hs (by omega) (by omega) (by omega)).mono (fun e w' h => ⟨by rw [h.1, l2]; rfl, h.2⟩)
  clear r1 r2 l1 l2 z1 z2 n1 n2
  go_enter Try.func7, Try.ntmps7
  go_wp2_with fail
  refine (A1.out _ (R1.out.marks 1) (by simp; omega)).mono ?_
  rintro e w1 ⟨rfl, b1, s1, k1, o1⟩
  simp only [World.size_alloc] at s1
  have K1 := Lib.hid k1
  have E1 : Hid (Has w1 w.heap.size 25 (engC rd ps.length cd rm qs.length cm lg)) := (Has.new w _ _).keep (o1 _ (by simp) (by have := U.out.1.1; omega) (fun p hp => by have := U.out.1.2 p hp; omega))
  have R3 : Hid (Row w1 M top rm qs) := ⟨fun j p hp => (R2.out.at_ j p hp).keep (by rw [s1]; simp) (o1 _ (by have := U.out.2.1; simp; omega) (by have := U.out.1.1; have := U2.out.2.1; omega) (fun r hr => by have := U.out.1.2 r hr; have := U2.out.2.1; omega))
    (o1 _ (by have := U.out.2.2 p (List.mem_of_getElem? hp); simp; omega) (by have := U.out.1.1; have := U2.out.2.2 p (List.mem_of_getElem? hp); omega) (fun r hr => by have := U.out.1.2 r hr; have := U2.out.2.2 p (List.mem_of_getElem? hp); omega)), R2.out.low, R2.out.up⟩
  have B1 : Hid (Below base w w1) := (B0.out.mono hb).trans b1
  have T1 : Hid (∀ i, top ≤ i → i < w.heap.size → w1.heap[i]? = w.heap[i]?) := fun i h1 h2 => (o1 i (by simp; omega) (by have := U.out.1.1; omega) (fun p hp => by have := U.out.1.2 p hp; omega)).trans (Below.heap_alloc _ _ _ h2)
  clear b1 k1 o1
  obtain ⟨c0, c1, c2, c3, c4⟩ := E1.out.five
  go_wp2_with fail
  refine (A2.out _ (R3.out.marks 26) (by omega)).mono ?_
  rintro e w2 ⟨rfl, b2, s2, k2, o2⟩
  have K2 := Lib.hid k2
  have K12 := Lib.hid (K1.out.below b2 U.out.1.1 U.out.1.2)
  have E2 : Hid (Has w2 w.heap.size 25 (engC rd ps.length cd rm qs.length cm lg)) := E1.out.keep (o2 _ (by omega) (by have := U.out.2.1; omega) (fun p hp => by have := U.out.2.2 p hp; omega))
  have B2 : Hid (Below base w w2) := B1.out.trans (b2.mono m0)
  have T2 : Hid (∀ i, top ≤ i → i < w.heap.size → w2.heap[i]? = w.heap[i]?) := fun i h1 h2 => (o2 i (by omega) (by have := U.out.2.1; omega) (fun p hp => by have := U.out.2.2 p hp; omega)).trans (T1.out i h1 h2)
  have S2 : w.heap.size ≤ w2.heap.size := by omega
  clear b2 k2 o2 c0 c1 c2 c3 c4
  obtain ⟨c0, c1, c2, c3, c4⟩ := E2.out.five
  go_wp2_with fail
  refine (markRecS_none _ _ _ _).mono ?_
  rintro e w3 ⟨rfl, rfl⟩
  clear c0 c1 c2 c3 c4
  go_wp2
  go_ret
  exact ⟨rfl, B2.out, ⟨K12.out, K2.out, L.out, ⟨Nat.lt_of_lt_of_le U.out.1.1 m1, fun p hp => Nat.lt_of_lt_of_le (U.out.1.2 p hp) m1⟩, U.out.2⟩, S2, T2.out⟩

set_option maxHeartbeats 4000000 in
theorem heldEngine_any (rd cd rm cm base B : Nat) (lg : Option Addr) (ps qs : List Pg) (w : World) (hB : B ≤ w.heap.size) (h : Marked2 w base B rd rm ps qs) :
    Calls Try.prog 8 #[engV rd ps.length cd rm qs.length cm lg, .int .i64 1] w (Keeps (.int .i64 51) w) := by
  have b0 := below_one w (.cells (engC rd ps.length cd rm qs.length cm lg) 25)
  have h' := h.below (b0.mono hB)
  have C1 : Hid (Calls Try.prog 15 #[.slice (some ⟨rd, 0, none⟩) ps.length cd, .int .i64 1] (w.alloc (.cells (engC rd ps.length cd rm qs.length cm lg) 25)) (fun e w' => e = .returned (.int .i64 26) ∧ w' = w.alloc (.cells (engC rd ps.length cd rm qs.length cm lg) 25))) := (heldPageS_any ps rd cd 1 _ h'.d (by omega) (by omega) (by rw [h.len.1]; omega)).mono (fun e w' k => ⟨by rw [k.1, h.len.1]; rfl, k.2.symm⟩)
  have C2 : Hid (Calls Try.prog 15 #[.slice (some ⟨rm, 0, none⟩) qs.length cm, .int .i64 26] (w.alloc (.cells (engC rd ps.length cd rm qs.length cm lg) 25)) (fun e w' => e = .returned (.int .i64 51) ∧ w' = w.alloc (.cells (engC rd ps.length cd rm qs.length cm lg) 25))) := (heldPageS_any qs rm cm 26 _ h'.m (by omega) (by omega) (by rw [h.len.2]; omega)).mono (fun e w' k => ⟨by rw [k.1, h.len.2]; rfl, k.2.symm⟩)
  clear h h' b0
  go_enter Try.func8, Try.ntmps8
  go_wp2_with fail
  refine C1.out.mono ?_
  rintro e w1 ⟨rfl, rfl⟩
  go_wp2_with fail
  refine C2.out.mono ?_
  rintro e w1 ⟨rfl, rfl⟩
  go_wp2_with fail
  refine (heldRecS_none _ _ _ _).mono ?_
  rintro e w3 ⟨rfl, rfl⟩
  go_wp2
  go_ret
  exact ⟨rfl, below_one _ _⟩
end Go.Proofs.Ytoihdbcdlodkgaa.Base
namespace Go.Proofs.Ytoihdbcdlodkgaa.FnExactEngineNew
open Go.ChangeShapes Go.WideShapes Go.ChangeAt Go.RowKit Base

set_option maxHeartbeats 8000000 in
theorem walk (w : World) : Calls Try.prog 3 #[] w (Keeps (.bool true) w) := by
  go_enter Try.func3, Try.ntmps3
  go_wp2_with fail
  refine (specEngineNew_any _).mono ?_
  rintro e w1 ⟨rd0, cd0, rm0, cm0, lg0, ps0, qs0, rfl, b1, t1⟩
  have Z2 : Hid (Has (w1.alloc (.cells (engC rd0 ps0.length cd0 rm0 qs0.length cm0 lg0) 25)) w1.heap.size 25 (engC rd0 ps0.length cd0 rm0 qs0.length cm0 lg0)) := Has.new w1 _ _
  have V2 : Hid (Reads2 (w1.alloc (.cells (engC rd0 ps0.length cd0 rm0 qs0.length cm0 lg0) 25)) w1.heap.size rd0 rm0 ps0 qs0) := t1.reads.below (below_one _ _)
  have B2 : Hid (Below w.heap.size w (w1.alloc (.cells (engC rd0 ps0.length cd0 rm0 qs0.length cm0 lg0) 25))) := b1.alloc b1.size _
  have s2 : w1.heap.size < (w1.alloc (.cells (engC rd0 ps0.length cd0 rm0 qs0.length cm0 lg0) 25)).heap.size := by simp
  clear b1 t1
  go_upto_region 2 with (fail)
  generalize (w1.alloc (.cells (engC rd0 ps0.length cd0 rm0 qs0.length cm0 lg0) 25)) = w2 at *
  generalize w1.heap.size = eb at *
  go_wp2_with fail
  refine (engineNew_any _).mono ?_
  rintro e w3 ⟨rd1, cd1, rm1, cm1, lg1, ps1, qs1, rfl, b3, t3⟩
  have s3 := b3.size
  have Z4 : Hid (Has (w3.alloc (.cells (engC rd1 ps1.length cd1 rm1 qs1.length cm1 lg1) 25)) eb 25 (engC rd0 ps0.length cd0 rm0 qs0.length cm0 lg0)) := (Z2.out.below b3 Z2.out.lt).alloc _
  have V4 : Hid (Reads2 (w3.alloc (.cells (engC rd1 ps1.length cd1 rm1 qs1.length cm1 lg1) 25)) eb rd0 rm0 ps0 qs0) := (V2.out.below (b3.mono (by omega))).below ((below_one w3 _).mono (by omega))
  have G4 : Hid (Has (w3.alloc (.cells (engC rd1 ps1.length cd1 rm1 qs1.length cm1 lg1) 25)) w3.heap.size 25 (engC rd1 ps1.length cd1 rm1 qs1.length cm1 lg1)) := Has.new w3 _ _
  have T4 : Hid (TwoRows (w3.alloc (.cells (engC rd1 ps1.length cd1 rm1 qs1.length cm1 lg1) 25)) w2.heap.size w3.heap.size rd1 rm1 ps1 qs1) := t3.below (below_one _ _)
  have B4 : Hid (Below w.heap.size w (w3.alloc (.cells (engC rd1 ps1.length cd1 rm1 qs1.length cm1 lg1) 25))) := (B2.out.trans (b3.mono B2.out.size)).alloc (Nat.le_trans B2.out.size s3) _
  have s4 : w3.heap.size < (w3.alloc (.cells (engC rd1 ps1.length cd1 rm1 qs1.length cm1 lg1) 25)).heap.size := by simp
  have hw2 := B2.out.size
  clear b3 t3 Z2 V2 B2
  go_upto_region 3 with (fail)
  generalize (w3.alloc (.cells (engC rd1 ps1.length cd1 rm1 qs1.length cm1 lg1) 25)) = w4 at *
  generalize w3.heap.size = gb at *
  obtain ⟨c0, c1, c2, c3, c4⟩ := Z4.out.five
  obtain ⟨d0, d1, d2, d3, d4⟩ := G4.out.five
  go_wp2_with fail
  refine (eqEngine_same rd1 cd1 rm1 cm1 rd0 cd0 rm0 cm0 w4.heap.size lg1 lg0 ps1 qs1 ps0 qs0 _ (Nat.le_refl _) (T4.out.reads.up (by omega)) (V4.out.up (by omega))).mono ?_
  rintro e w5 ⟨rfl, b5⟩
  have s5 := b5.size
  have Z5 := Lib.hid (Z4.out.below b5 Z4.out.lt)
  have V5 := Lib.hid (V4.out.below (b5.mono (by omega)))
  have G5 := Lib.hid (G4.out.below b5 G4.out.lt)
  have T5 := Lib.hid (T4.out.below (b5.mono (by omega)))
  have B5 := Lib.hid (B4.out.trans (b5.mono B4.out.size))
  clear b5 Z4 V4 G4 T4 B4 c0 c1 c2 c3 c4 d0 d1 d2 d3 d4
  obtain ⟨d0, d1, d2, d3, d4⟩ := G5.out.five
  go_wp2_with fail
  refine (markEngine_any rd1 cd1 rm1 cm1 w2.heap.size gb lg1 ps1 qs1 _ (by omega) (by omega) T5.out).mono ?_
  rintro e w6 ⟨rfl, b6, m6, s6, h6⟩
  have Z6 := Lib.hid (Z5.out.below b6 s2)
  have V6 := Lib.hid (V5.out.below (b6.mono (by omega)))
  have G6 := Lib.hid (G5.out.keep (h6 gb (Nat.le_refl _) G5.out.lt))
  have M6 := Lib.hid m6
  have B6 : Hid (Below w.heap.size w w6) := B5.out.trans (b6.mono hw2)
  clear b6 m6 h6 Z5 V5 G5 T5 B5 d0 d1 d2 d3 d4
  obtain ⟨d0, d1, d2, d3, d4⟩ := G6.out.five
  go_wp2_with fail
  refine (heldEngine_any rd1 cd1 rm1 cm1 w2.heap.size gb lg1 ps1 qs1 _ (by omega) M6.out).mono ?_
  rintro e w7 ⟨rfl, b7⟩
  have s7 := b7.size
  have Z7 := Lib.hid (Z6.out.below b7 Z6.out.lt)
  have V7 := Lib.hid (V6.out.below (b7.mono (by omega)))
  have G7 := Lib.hid (G6.out.below b7 G6.out.lt)
  have M7 := Lib.hid (M6.out.below (b7.mono (by omega)))
  have B7 := Lib.hid (B6.out.trans (b7.mono B6.out.size))
  clear b7 Z6 V6 G6 M6 B6 d0 d1 d2 d3 d4
  go_wp2_with fail
  refine (engineNew_any _).mono ?_
  rintro e w8 ⟨rd2, cd2, rm2, cm2, lg2, ps2, qs2, rfl, b8, t8⟩
  have s8 := b8.size
  have Z9 : Hid (Has (w8.alloc (.cells (engC rd2 ps2.length cd2 rm2 qs2.length cm2 lg2) 25)) eb 25 (engC rd0 ps0.length cd0 rm0 qs0.length cm0 lg0)) := (Z7.out.below b8 Z7.out.lt).alloc _
  have V9 : Hid (Reads2 (w8.alloc (.cells (engC rd2 ps2.length cd2 rm2 qs2.length cm2 lg2) 25)) eb rd0 rm0 ps0 qs0) := (V7.out.below (b8.mono (by omega))).below ((below_one w8 _).mono (by omega))
  have G9 : Hid (Has (w8.alloc (.cells (engC rd2 ps2.length cd2 rm2 qs2.length cm2 lg2) 25)) gb 25 (engC rd1 ps1.length cd1 rm1 qs1.length cm1 lg1)) := (G7.out.below b8 G7.out.lt).alloc _
  have M9 : Hid (Marked2 (w8.alloc (.cells (engC rd2 ps2.length cd2 rm2 qs2.length cm2 lg2) 25)) w2.heap.size gb rd1 rm1 ps1 qs1) := (M7.out.below (b8.mono (by omega))).below ((below_one w8 _).mono (by omega))
  have H9 : Hid (Has (w8.alloc (.cells (engC rd2 ps2.length cd2 rm2 qs2.length cm2 lg2) 25)) w8.heap.size 25 (engC rd2 ps2.length cd2 rm2 qs2.length cm2 lg2)) := Has.new w8 _ _
  have T9 : Hid (TwoRows (w8.alloc (.cells (engC rd2 ps2.length cd2 rm2 qs2.length cm2 lg2) 25)) w7.heap.size w8.heap.size rd2 rm2 ps2 qs2) := t8.below (below_one _ _)
  have B9 : Hid (Below w.heap.size w (w8.alloc (.cells (engC rd2 ps2.length cd2 rm2 qs2.length cm2 lg2) 25))) := (B7.out.trans (b8.mono B7.out.size)).alloc (Nat.le_trans B7.out.size s8) _
  have s9 : w8.heap.size < (w8.alloc (.cells (engC rd2 ps2.length cd2 rm2 qs2.length cm2 lg2) 25)).heap.size := by simp
  clear b8 t8 Z7 V7 G7 M7 B7
  go_upto_region 14 with (fail)
  generalize (w8.alloc (.cells (engC rd2 ps2.length cd2 rm2 qs2.length cm2 lg2) 25)) = w9 at *
  generalize w8.heap.size = hb at *
  obtain ⟨c0, c1, c2, c3, c4⟩ := Z9.out.five
  obtain ⟨d0, d1, d2, d3, d4⟩ := H9.out.five
  go_wp2_with fail
  refine (eqEngine_same rd2 cd2 rm2 cm2 rd0 cd0 rm0 cm0 w9.heap.size lg2 lg0 ps2 qs2 ps0 qs0 _ (Nat.le_refl _) (T9.out.reads.up (by omega)) (V9.out.up (by omega))).mono ?_
  rintro e wa ⟨rfl, ba⟩
  have sa := ba.size
  have Ga := Lib.hid (G9.out.below ba G9.out.lt)
  have Ma := Lib.hid (M9.out.below (ba.mono (by omega)))
  have Ba := Lib.hid (B9.out.trans (ba.mono B9.out.size))
  clear ba Z9 V9 G9 M9 H9 T9 B9 c0 c1 c2 c3 c4 d0 d1 d2 d3 d4
  obtain ⟨d0, d1, d2, d3, d4⟩ := Ga.out.five
  go_wp2_with fail
  refine (heldEngine_any rd1 cd1 rm1 cm1 w2.heap.size gb lg1 ps1 qs1 _ (by omega) Ma.out).mono ?_
  rintro e wb ⟨rfl, bb⟩
  have Bb := Lib.hid (Ba.out.trans (bb.mono Ba.out.size))
  clear bb d0 d1 d2 d3 d4 Ga Ma Ba
  go_wp2
  go_ret
  exact ⟨rfl, Bb.out⟩

theorem own : ownKnob Try.prog.godebug = none := by kernel_rfl

set_option maxRecDepth 100000 in
theorem lifted (os : Os) (started : os.Started) (H : Type) (enc : TypeId × Value → H) :
    ReturnsInHanded {} Try.checked os 3 .any (Rows.fnExactEngineNewSpec.pre6 enc Try.prog Try.f3 Rows.fnExactEngineNewRow.domain false) (Rows.fnExactEngineNewSpec.post enc Try.prog Try.f3 false true false false) := by
  refine returnsInHanded_of_change (C := Try.checked) own started (by kernel_rfl) Try.func3
    (ChangeSpec.witness6 (enc := enc) (C := Try.checked) false ⟨#[], #[], []⟩ 8 (by kernel_rfl) (by kernel_rfl) (by kernel_rfl) (by kernel_rfl)) ?_
  intro W base args ds gs before hval0 hW hcnd _
  have hW' := hW
  obtain ⟨p, q, hA0, hV, rfl, hfz, hnd⟩ := hW
  have hA : DataW.TrodAll enc Try.prog W 0 (fun _ => true) true Try.f3.params.toList args.toList ds p := hA0
  rw [Try.params3] at hA
  obtain ⟨rfl, rfl, rfl⟩ := trodAll_none hA
  obtain ⟨rfl, rfl⟩ := trodVars_none hV
  clear hA0 hval0
  simp only [List.append_nil] at hW'
  refine (walk W).mono fun e W' ⟨he, bel⟩ => ?_
  subst he
  exact ⟨_, rfl, _, _, _, [], [], [], hW', trodAll_mk1 (shut_bool Try.underlying4 _), trodAll_mk0, rfl, bel.frame _, fun h => by cases h⟩

theorem proved : Rows.FnExactEngineNewSaid :=
  OpenClaim.holds_of_wide 3 Try.f3 rfl rfl rfl rfl rfl rfl rfl ⟨rfl, rfl, rfl, rfl, rfl⟩ rfl rfl rfl rfl rfl (by kernel_rfl) Try.func3 (by kernel_rfl)
    (of_decide_eq_true (by kernel_rfl)) (by unfold Func.isWrapper; first | (rw [if_pos (by decide +kernel)]; kernel_rfl) | (rw [if_neg (by decide +kernel)]; exact ⟨rfl, rfl⟩))
    (fun os started H enc _ => lifted os started H enc)
#print axioms proved
end Go.Proofs.Ytoihdbcdlodkgaa.FnExactEngineNew

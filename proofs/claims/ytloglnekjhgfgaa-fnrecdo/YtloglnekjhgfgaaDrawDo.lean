/-
  Contract of the model's DrawRecDo: a page, a record and a number. Only their form is said. Conditions: the code is a slice of bytes.
-/
import Derived.Test.YtloglnekjhgfgaaDrawRec
import Derived.Test.YtloglnekjhgfgaaDrawP
import Derived.Test.YtloglnekjhgfgaaDoMath
namespace Go.Proofs.Ytloglnekjhgfgaa.Base
open Go.RowKit

theorem below_put8 {B : Nat} {w0 w : World} (h : Below B w0 w) {b : Nat} (hb : B ≤ b) (r : R) : Below B w0 (put8 w b r) :=
  (((((((h.setCell hb _).setCell hb _).setCell hb _).setCell hb _).setCell hb _).setCell hb _).setCell hb _).setCell hb _

/-- where such a drawing stands: the reader in block g, the results' blocks still empty, the page in block pb, its slots in block g1 from q on, the record in block xb -/
structure SD (w0 w : World) (g : Nat) (a : Option Addr) (bs : List Int) (cap B pb xb : Nat) (l o : Int) (zs : List Int) (g1 q c : Nat) (p : Int) : Prop where
  rdr : Rdr w g a bs cap p B
  resP : Has w w0.heap.size 30 #[.int .i64 0, .int .i64 0, .slice none 0 0]
  resX : Has w (w0.heap.size + 1) 24 #[.int .i64 0, .int .i64 0, .int .i64 0, .int .i64 0, .int .i64 0, .int .i64 0, .int .i64 0, .int .i64 0]
  boxP : Has w pb 30 #[.int .i64 l, .int .i64 o, .slice (some ⟨g1, q, none⟩) zs.length c]
  boxX : ∃ r : R, Has w xb 24 (recC r)
  rd : Rd .i64 w g1 q zs
  wr : Wr w g1 q zs.length
  ord : w0.heap.size + 1 < g ∧ g < g1 ∧ g1 < pb ∧ pb < xb
  base : B ≤ w0.heap.size
  kept : Below w0.heap.size w0 w

section
variable {w0 w w' : World} {g : Nat} {a : Option Addr} {bs : List Int} {cap B pb xb : Nat} {l o : Int} {zs : List Int} {g1 q c : Nat} {p : Int}
theorem SD.pick (h : SD w0 w g a bs cap B pb xb l o zs g1 q c p) {p' : Int} (hg : w.grownBy w' (some g)) (hr : Rdr w' g a bs cap p' B) : SD w0 w' g a bs cap B pb xb l o zs g1 q c p' := by
  have ho := h.ord
  obtain ⟨r, hb⟩ := h.boxX
  have hk := h.kept.size
  exact ⟨hr, h.resP.grown hg (fun e => by injection e; omega), h.resX.grown hg (fun e => by injection e; omega), h.boxP.grown hg (fun e => by injection e; omega), ⟨r, hb.grown hg (fun e => by injection e; omega)⟩, h.rd.grown hg h.wr.1 (fun e => by injection e; omega), h.wr.grown hg (fun e => by injection e; omega), h.ord, h.base, h.kept.trans (below_grown hg (by omega) hk)⟩
theorem SD.drewN (h : SD w0 w g a bs cap B pb xb l o zs g1 q c p) (m : Nat) : SD w0 (w.drewN m) g a bs cap B pb xb l o zs g1 q c p :=
  ⟨h.rdr.drewN m, h.resP, h.resX, h.boxP, h.boxX, h.rd, h.wr, h.ord, h.base, below_draws h.kept m⟩
theorem SD.drew (h : SD w0 w g a bs cap B pb xb l o zs g1 q c p) : SD w0 w.drew g a bs cap B pb xb l o zs g1 q c p := h.drewN 1
theorem SD.whole (h : SD w0 w g a bs cap B pb xb l o zs g1 q c p) (r : R) : SD w0 (put8 w xb r) g a bs cap B pb xb l o zs g1 q c p := by
  have ho := h.ord
  have hb := h.base
  obtain ⟨r', hx⟩ := h.boxX
  exact ⟨h.rdr.keep (put8_far _ _ _ _ (by omega)) (fun i hi => put8_far _ _ _ _ (by omega)), h.resP.keep (put8_far _ _ _ _ (by omega)), h.resX.keep (put8_far _ _ _ _ (by omega)), h.boxP.keep (put8_far _ _ _ _ (by omega)), ⟨r, put8_has hx r⟩, h.rd.keep (put8_far _ _ _ _ (by omega)), ⟨by simpa [put8] using h.wr.1, fun j hj => (World.frozen?_of_block (a := ⟨g1, q + j, none⟩) (put8_far _ _ _ _ (show g1 ≠ xb by omega))).trans (h.wr.2 j hj)⟩, h.ord, h.base, below_put8 h.kept (by omega) r⟩
end

/-- a drawn page, record and number, the page's slots in new memory -/
def DrawnDo (w : World) (e : Ending) (w' : World) : Prop :=
  Below w.heap.size w w' ∧ ∃ (l o : Int) (zs : List Int) (g q cap : Nat) (r : R) (lsn : Int), e = .returned (.tuple #[pageV l o (some ⟨g, q, none⟩) zs.length cap, recV r, .int .i64 lsn]) ∧ Rd .i64 w' g q zs ∧ Wr w' g q zs.length ∧ w.heap.size ≤ g ∧ zs.length ≤ cap ∧ cap ≤ 3 ∧ Small l o zs ∧ -100 ≤ lsn ∧ lsn ≤ 1000

/-- what stays true from statement to statement -/
def AtD (w0 w : World) (g : Nat) (a : Option Addr) (bs : List Int) (cap B pb xb : Nat) (l o : Int) (zs : List Int) (g1 q c : Nat) (m : Int) : Prop := ∃ p, p ≤ m ∧ SD w0 w g a bs cap B pb xb l o zs g1 q c p

set_option maxRecDepth 100000 in
set_option maxHeartbeats 8000000 in
theorem drawRecDo_any (a : Option Addr) (zs : List Int) (cap B : Nat) (w : World) (hB : B ≤ w.heap.size) (hc : Bytes w B a zs cap) :
    Calls Try.prog 14 #[.slice a zs.length cap] w (DrawnDo w) := by
  have H := Lib.hid hc
  clear hc
  go_enter Try.func14, Try.ntmps14
  go_wp2_with fail
  refine (l6Open_any a zs cap B _ (by simp; omega) (H.out.ints.below ((below_two _ _ _).mono hB)) H.out.bytes H.out.fit H.out.most).mono ?_
  rintro e w1 ⟨a', bs, cap', rfl, b1, h1⟩
  have p1 := ((Has.new w 30 #[.int .i64 0, .int .i64 0, .slice none 0 0]).alloc (.cells #[.int .i64 0, .int .i64 0, .int .i64 0, .int .i64 0, .int .i64 0, .int .i64 0, .int .i64 0, .int .i64 0] 24)).below b1 (by simp; omega)
  have x1 := (Has.new (w.alloc (.cells #[.int .i64 0, .int .i64 0, .slice none 0 0] 30)) 24 #[.int .i64 0, .int .i64 0, .int .i64 0, .int .i64 0, .int .i64 0, .int .i64 0, .int .i64 0, .int .i64 0]).below b1 (by simp)
  have k1 : Below w.heap.size w w1 := (below_two _ _ _).trans (b1.mono (by simp; omega))
  simp only [World.size_alloc] at x1 h1 ⊢
  have n1 := h1.has.lt
  have H1 := Lib.hid h1
  have P1 := Lib.hid p1
  have X1 := Lib.hid x1
  have K1 := Lib.hid k1
  clear b1 h1 p1 x1 k1 H
  go_wp2_with fail
  refine (l71Page_any (w.heap.size + 1 + 1) a' bs cap' 0 B _ H1.out (by omega)).mono ?_
  rintro e w2 ⟨⟨l, o, ys, g1, q, c, rfl, hrd, hwr, hg1, hc1, hc2, hsm⟩, hgr, p, hp, hr⟩
  have h2 := hr.below (below_one w2 (.cells #[.int .i64 l, .int .i64 o, .slice (some ⟨g1, q, none⟩) ys.length c] 30)) hr.has.lt
  have p2 := (P1.out.grown hgr (fun e => by injection e; omega)).alloc (.cells #[.int .i64 l, .int .i64 o, .slice (some ⟨g1, q, none⟩) ys.length c] 30)
  have x2 := (X1.out.grown hgr (fun e => by injection e; omega)).alloc (.cells #[.int .i64 l, .int .i64 o, .slice (some ⟨g1, q, none⟩) ys.length c] 30)
  have k2 := (K1.out.trans (below_grown hgr (by omega) (by omega))).alloc (by have := hgr.size; omega) (.cells #[.int .i64 l, .int .i64 o, .slice (some ⟨g1, q, none⟩) ys.length c] 30)
  have v2 := Has.new w2 30 #[.int .i64 l, .int .i64 o, .slice (some ⟨g1, q, none⟩) ys.length c]
  have d2 := hrd.below (below_one w2 (.cells #[.int .i64 l, .int .i64 o, .slice (some ⟨g1, q, none⟩) ys.length c] 30)) hwr.1
  have e2 := hwr.below (below_one w2 (.cells #[.int .i64 l, .int .i64 o, .slice (some ⟨g1, q, none⟩) ys.length c] 30)) hwr.1
  have n2 := hwr.1
  have H2 := Lib.hid h2
  have P2 := Lib.hid p2
  have X2 := Lib.hid x2
  have K2 := Lib.hid k2
  have V2 := Lib.hid v2
  have D2 := Lib.hid d2
  have E2 := Lib.hid e2
  have SM := Lib.hid hsm
  have sl := hsm.lsn
  clear hrd hwr hgr hr h2 p2 x2 k2 v2 d2 e2 H1 P1 X1 K1 hsm
  go_wp2_with fail
  have m2 : (w2.alloc (.cells #[.int .i64 l, .int .i64 o, .slice (some ⟨g1, q, none⟩) ys.length c] 30)).heap.size = w2.heap.size + 1 := by simp
  generalize (w2.alloc (.cells #[.int .i64 l, .int .i64 o, .slice (some ⟨g1, q, none⟩) ys.length c] 30)) = w3 at *
  refine (l71Rec_any (w.heap.size + 1 + 1) a' bs cap' p B _ H2.out (by omega)).mono ?_
  rintro e w4 ⟨r, rfl, hgr, p', hp', hr⟩
  have hs := hgr.size
  have s5 : SD w (w4.alloc (.cells #[.int .i64 r.k, .int .i64 r.t, .int .i64 r.p, .int .i64 r.s, .int .i64 r.o, .int .i64 r.n, .int .i64 r.v, .int .i64 r.x] 24)) (w.heap.size + 1 + 1) a' bs cap' B w2.heap.size w4.heap.size l o ys g1 q c p' :=
    ⟨hr.below (below_one _ _) hr.has.lt, (P2.out.grown hgr (fun e => by injection e; omega)).alloc _, (X2.out.grown hgr (fun e => by injection e; omega)).alloc _, (V2.out.grown hgr (fun e => by injection e; omega)).alloc _, ⟨r, Has.new _ _ _⟩, (D2.out.grown hgr (by omega) (fun e => by injection e; omega)).below (below_one _ _) (by omega), (E2.out.grown hgr (fun e => by injection e; omega)).below (below_one _ _) (by omega), by omega, hB, (K2.out.trans (below_grown hgr (by omega) (by omega))).alloc (by omega) _⟩
  have n4 : w2.heap.size < w4.heap.size := by omega
  have S := Lib.hid s5
  clear hgr hr s5 H2 P2 X2 K2 V2 D2 E2 m2 hs
  go_wp2_with fail
  generalize (w4.alloc (.cells #[.int .i64 r.k, .int .i64 r.t, .int .i64 r.p, .int .i64 r.s, .int .i64 r.o, .int .i64 r.n, .int .i64 r.v, .int .i64 r.x] 24)) = w5 at *
  generalize w4.heap.size = xb at *
  generalize w2.heap.size = pb at *
  refine (pick_any 2 (w.heap.size + 1 + 1) a' bs cap' p' B _ S.out.rdr (by omega) (by omega) (by omega)).mono ?_
  rintro e w6 ⟨v, rfl, v0, v1, hgr, -, hr⟩
  have T := Lib.hid (S.out.pick hgr hr)
  clear v1 hgr hr S
  have S := Lib.hid T.out
  clear T
  go_upto_if 16 with (fail)
  go_cut [] (fun wx => AtD w wx (w.heap.size + 1 + 1) a' bs cap' B pb xb l o ys g1 q c 100)
  case first =>
    by_cases hv : v = 0
    · subst hv
      go_wp2_with fail
      refine (pick_any 5 (w.heap.size + 1 + 1) a' bs cap' _ B _ S.out.rdr (by omega) (by omega) (by omega)).mono ?_
      rintro e y1 ⟨z1, rfl, z1l, z1m, hgr, -, hr⟩
      have T := Lib.hid (S.out.pick hgr hr)
      clear z1m hgr hr S
      have S := Lib.hid T.out
      clear T
      go_wp2_with fail
      refine (pick_any 3 (w.heap.size + 1 + 1) a' bs cap' _ B _ S.out.rdr (by omega) (by omega) (by omega)).mono ?_
      rintro e y2 ⟨z2, rfl, z2l, z2m, hgr, -, hr⟩
      have T := Lib.hid (S.out.pick hgr hr)
      clear z2m hgr hr S
      have S := Lib.hid T.out
      clear T
      go_wp2_with fail
      refine (pick_any 3 (w.heap.size + 1 + 1) a' bs cap' _ B _ S.out.rdr (by omega) (by omega) (by omega)).mono ?_
      rintro e y3 ⟨z3, rfl, z3l, z3m, hgr, -, hr⟩
      have T := Lib.hid (S.out.pick hgr hr)
      clear z3m hgr hr S
      have S := Lib.hid T.out
      clear T
      go_wp2_with fail
      refine (pick_any 10 (w.heap.size + 1 + 1) a' bs cap' _ B _ S.out.rdr (by omega) (by omega) (by omega)).mono ?_
      rintro e y4 ⟨z4, rfl, z4l, z4m, hgr, -, hr⟩
      have T := Lib.hid (S.out.pick hgr hr)
      clear z4m hgr hr S
      have S := Lib.hid T.out
      clear T
      obtain ⟨r4, hb⟩ := S.out.boxX
      obtain ⟨c0, c1, c2, c3, c4, c5, c6, c7⟩ := eight hb
      have f0 := hb.frozen 0
      have f1 := hb.frozen 1
      have f2 := hb.frozen 2
      have f3 := hb.frozen 3
      have f4 := hb.frozen 4
      have f5 := hb.frozen 5
      have f6 := hb.frozen 6
      have f7 := hb.frozen 7
      have T := Lib.hid (S.out.whole ⟨1, 1, z1, z2, z3, z4, 0, 0⟩)
      clear hb S
      go_wp2_with fail
      go_meet
      exact ⟨_, by omega, T.out⟩
    · have bv : (v == 0) = false := by simpa using hv
      clear hv
      go_wp2_with fail
      go_meet
      exact ⟨_, by omega, S.out⟩
  case rest =>
    obtain ⟨p2, hp2, hst⟩ := hcut
    clear S
    obtain ⟨r5, hx⟩ := hst.boxX
    have S := Lib.hid hst
    obtain ⟨a0, a1, a2⟩ := hst.boxP.three
    obtain ⟨c0, c1, c2, c3, c4, c5, c6, c7⟩ := eight hx
    have X := Lib.hid hx
    have so := hst.ord
    clear hst hx
    go_wp2_with fail
    have hw := IntWalk.i64_in (l + 1) (by omega)
    go_region_held3 (fun w' => w'.cell? ⟨pb, 0, none⟩ = some (.int .i64 l) ∧ w'.cell? ⟨pb, 1, none⟩ = some (.int .i64 o) ∧ w'.cell? ⟨pb, 2, none⟩ = some (.slice (some ⟨g1, q, none⟩) ys.length c) ∧ w'.cell? ⟨xb, 0, none⟩ = some (.int .i64 r5.k) ∧ w'.cell? ⟨xb, 1, none⟩ = some (.int .i64 r5.t) ∧ w'.cell? ⟨xb, 2, none⟩ = some (.int .i64 r5.p) ∧ w'.cell? ⟨xb, 3, none⟩ = some (.int .i64 r5.s) ∧ w'.cell? ⟨xb, 4, none⟩ = some (.int .i64 r5.o) ∧ w'.cell? ⟨xb, 5, none⟩ = some (.int .i64 r5.n) ∧ w'.cell? ⟨xb, 6, none⟩ = some (.int .i64 r5.v) ∧ w'.cell? ⟨xb, 7, none⟩ = some (.int .i64 r5.x)) (first | (with_reducible exact ⟨a0, a1, a2, c0, c1, c2, c3, c4, c5, c6, c7⟩) | (with_reducible exact ⟨i0, i1, i2, d0, d1, d2, d3, d4, d5, d6, d7⟩) | (with_reducible exact ⟨k0, k1, k2, j0, j1, j2, j3, j4, j5, j6, j7⟩) | (refine ⟨?_, ?_, ?_, ?_, ?_, ?_, ?_, ?_, ?_, ?_, ?_⟩ <;> (repeat rw [World.cell?_setCell_other _ _ _ _ (fun e => by injection e; omega)]) <;> (with_reducible assumption)) | go_keep)
      (first
        | (go_at_call_of 29 (Value.int IntKind.i64 24); refine (pick_any 24 (w.heap.size + 1 + 1) a' bs cap' _ B _ T.out.rdr (by omega) (by omega) (by omega)).mono ?_; rintro e y2 ⟨z2, rfl, z2l, z2m, hgr, -, hr⟩; have z2h := z2m (by omega); have U := Lib.hid (T.out.pick hgr hr); obtain ⟨k0, k1, k2⟩ := U.out.boxP.three; obtain ⟨j0, j1, j2, j3, j4, j5, j6, j7⟩ := eight (Y.out.grown hgr (fun e => by injection e; omega)); have Z := Lib.hid (Y.out.grown hgr (fun e => by injection e; omega)); obtain ⟨m0, m1, m2⟩ := U.out.resP.three; obtain ⟨s0, s1, s2, s3, s4, s5, s6, s7⟩ := eight U.out.resX; have t0 := U.out.resP.frozen 0; have t1 := U.out.resP.frozen 1; have t2 := U.out.resP.frozen 2; have u0 := U.out.resX.frozen 0; have u1 := U.out.resX.frozen 1; have u2 := U.out.resX.frozen 2; have u3 := U.out.resX.frozen 3; have u4 := U.out.resX.frozen 4; have u5 := U.out.resX.frozen 5; have u6 := U.out.resX.frozen 6; have u7 := U.out.resX.frozen 7; clear z2m hgr hr)
        | (go_at_call 29; refine (pick_any 6 (w.heap.size + 1 + 1) a' bs cap' p2 B _ S.out.drew.rdr (by omega) (by omega) (by omega)).mono ?_; rintro e y1 ⟨z1, rfl, z1l, z1m, hgr, -, hr⟩; have z1h := z1m (by omega); have T := Lib.hid (S.out.drew.pick hgr hr); obtain ⟨i0, i1, i2⟩ := T.out.boxP.three; obtain ⟨d0, d1, d2, d3, d4, d5, d6, d7⟩ := eight (X.out.drew.grown hgr (fun e => by injection e; omega)); have Y := Lib.hid (X.out.drew.grown hgr (fun e => by injection e; omega)); have hw2 := IntWalk.i64_in (l + 1 + z1) (by omega); clear z1m hgr hr))
    obtain ⟨lsn, hl, bl1, bl2⟩ : ∃ lsn : Int, IntKind.i64.wrap (l + 1 + z1 - IntKind.i64.wrap (IntKind.i64.wrap (z2.tdiv 23) * 8)) = lsn ∧ -100 ≤ lsn ∧ lsn ≤ 1000 := by
      have t0 : z2.tdiv 23 = z2 / 23 := Int.tdiv_eq_ediv_of_nonneg z2l
      refine ⟨_, rfl, ?_⟩
      rw [t0, IntWalk.i64_in (z2 / 23) (by omega), IntWalk.i64_in (z2 / 23 * 8) (by omega), IntWalk.i64_in _ (by omega)]
      omega
    rw [hl]
    have V : Hid (Below w.heap.size w (put8 (put3 y2 w.heap.size (.int .i64 l) (.int .i64 o) (.slice (some ⟨g1, q, none⟩) ys.length c)) (w.heap.size + 1) r5) ∧ Rd .i64 (put8 (put3 y2 w.heap.size (.int .i64 l) (.int .i64 o) (.slice (some ⟨g1, q, none⟩) ys.length c)) (w.heap.size + 1) r5) g1 q ys ∧ Wr (put8 (put3 y2 w.heap.size (.int .i64 l) (.int .i64 o) (.slice (some ⟨g1, q, none⟩) ys.length c)) (w.heap.size + 1) r5) g1 q ys.length) :=
      ⟨below_put8 (put3_below U.out.kept (Nat.le_refl _) _ _ _) (by omega) r5, (put3_rd U.out.rd (by omega) _ _ _).keep (put8_far _ _ _ _ (by omega)), by
        have h3 := put3_wr (b := w.heap.size) U.out.wr (.int .i64 l) (.int .i64 o) (.slice (some ⟨g1, q, none⟩) ys.length c)
        exact ⟨by simpa [put8] using h3.1, fun j hj => (World.frozen?_of_block (a := ⟨g1, q + j, none⟩) (put8_far _ _ _ _ (show g1 ≠ w.heap.size + 1 by omega))).trans (h3.2 j hj)⟩⟩
    clear hl hw hw2 a0 a1 a2 c0 c1 c2 c3 c4 c5 c6 c7 i0 i1 i2 d0 d1 d2 d3 d4 d5 d6 d7 k0 k1 k2 j0 j1 j2 j3 j4 j5 j6 j7 S T U X Y Z
    go_wp2
    refine bodyPost_ret (v := .tuple #[pageV l o (some ⟨g1, q, none⟩) ys.length c, recV r5, .int .i64 lsn]) (by simp [results, Try.results14, go_sem, m0, m1, m2, s0, s1, s2, s3, s4, s5, s6, s7]) rfl ⟨V.out.1, l, o, ys, g1, q, c, r5, lsn, rfl, V.out.2.1, V.out.2.2, by omega, hc1, hc2, SM.out, bl1, bl2⟩
end Go.Proofs.Ytloglnekjhgfgaa.Base

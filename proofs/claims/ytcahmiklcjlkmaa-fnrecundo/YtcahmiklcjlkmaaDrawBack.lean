/-
  Contract of the model's DrawRecBack: a record and a number. Only their form is said. Conditions: the code is a slice of bytes.
-/
import Derived.Test.YtcahmiklcjlkmaaDrawRec
import Derived.Test.YtcahmiklcjlkmaaDrawP
namespace Go.Proofs.Ytcahmiklcjlkmaa.Base
open Go.RowKit

/-- a drawn record and a number; nothing that was there has turned -/
def DrawnBk (w : World) (e : Ending) (w' : World) : Prop := Below w.heap.size w w' ∧ ∃ (r : R) (n : Int), e = .returned (.tuple #[recV r, .int .i64 n]) ∧ -100 ≤ n ∧ n ≤ 100

theorem SR.whole {w0 w : World} {g : Nat} {a : Option Addr} {bs : List Int} {cap B rb pb : Nat} {p : Int} (h : SR w0 w g a bs cap B rb pb p) (r : R) : SR w0 (put8 w pb r) g a bs cap B rb pb p := by
  have ho := h.ord
  have h1 := h.low
  have h2 := h.base
  obtain ⟨r', hb⟩ := h.box
  exact ⟨h.rdr.keep (put8_far _ _ _ _ (by omega)) (fun i hi => put8_far _ _ _ _ (by omega)), h.res.keep (put8_far _ _ _ _ (by omega)), ⟨r, put8_has hb r⟩, h.base, h.low, h.ord, grown_put8 h.grown (by omega) r⟩
theorem SR.drew {w0 w : World} {g : Nat} {a : Option Addr} {bs : List Int} {cap B rb pb : Nat} {p : Int} (h : SR w0 w g a bs cap B rb pb p) : SR w0 w.drew g a bs cap B rb pb p :=
  ⟨h.rdr.drewN 1, h.res, h.box, h.base, h.low, h.ord, grown_draws h.grown 1⟩
theorem SR.size {w0 w : World} {g : Nat} {a : Option Addr} {bs : List Int} {cap B rb pb : Nat} {p : Int} (h : SR w0 w g a bs cap B rb pb p) : pb < w.heap.size := by
  obtain ⟨r, hb⟩ := h.box
  exact hb.lt

set_option maxRecDepth 100000 in
set_option maxHeartbeats 8000000 in
theorem drawRecBack_any (a : Option Addr) (zs : List Int) (cap B : Nat) (w : World) (hB : B ≤ w.heap.size) (hc : Bytes w B a zs cap) :
    Calls Try.prog 13 #[.slice a zs.length cap] w (DrawnBk w) := by
  have H := Lib.hid hc
  clear hc
  go_enter Try.func13, Try.ntmps13
  go_wp2_with fail
  refine (l6Open_any a zs cap B _ (by simp; omega) (H.out.ints.below ((below_one _ _).mono hB)) H.out.bytes H.out.fit H.out.most).mono ?_
  rintro e w1 ⟨a', bs, cap', rfl, b1, h1⟩
  have x1 := (Has.new w 24 #[.int .i64 0, .int .i64 0, .int .i64 0, .int .i64 0, .int .i64 0, .int .i64 0, .int .i64 0, .int .i64 0]).below b1 (by simp)
  have k1 : Below w.heap.size w w1 := (below_one _ _).trans (b1.mono (by simp))
  simp only [World.size_alloc] at h1 ⊢
  have n1 := h1.has.lt
  have H1 := Lib.hid h1
  have X1 := Lib.hid x1
  have K1 := Lib.hid k1
  clear b1 h1 x1 k1 H
  go_wp2_with fail
  refine (l71Rec_any (w.heap.size + 1) a' bs cap' 0 B _ H1.out (by omega)).mono ?_
  rintro e w2 ⟨r, rfl, hgr, p, hp, hr⟩
  have hs := hgr.size
  have s3 : SR w (w2.alloc (.cells #[.int .i64 r.k, .int .i64 r.t, .int .i64 r.p, .int .i64 r.s, .int .i64 r.o, .int .i64 r.n, .int .i64 r.v, .int .i64 r.x] 24)) (w.heap.size + 1) a' bs cap' B w.heap.size w2.heap.size p :=
    ⟨hr.below (below_one _ _) hr.has.lt, (X1.out.grown hgr (fun e => by injection e; omega)).alloc _, ⟨r, Has.new _ _ _⟩, hB, Nat.le_refl _, by omega, grown_alloc (grown_two (grown_below K1.out _) hgr) _⟩
  have S := Lib.hid s3
  clear hgr hr s3 H1 X1 K1
  go_upto_block 0 with (fail)
  generalize (w2.alloc (.cells #[.int .i64 r.k, .int .i64 r.t, .int .i64 r.p, .int .i64 r.s, .int .i64 r.o, .int .i64 r.n, .int .i64 r.v, .int .i64 r.x] 24)) = w3 at *
  generalize w2.heap.size = pb at *
  go_cut [] (fun wx => AtR w wx (w.heap.size + 1) a' bs cap' B w.heap.size pb 500)
  case first =>
    go_wp2_with fail
    go_loopw [6] (fun i wx => ∃ (t : Nat) (p' : Int), t ≤ 4 ∧ i = .int .i64 t ∧ p' ≤ 40 + 40 * t ∧ SR w wx (w.heap.size + 1) a' bs cap' B w.heap.size pb p') (fun i _ => 4 - (intOf i).toNat)
    case atStart => exact ⟨0, _, by omega, rfl, by omega, S.out⟩
    case round =>
      obtain ⟨t, p', ht, rfl, hp', hst⟩ := hrel
      clear S
      have S := Lib.hid hst
      clear hst
      by_cases hlt : t < 4
      · go_wp2_with fail
        refine (pick_any 8 (w.heap.size + 1) a' bs cap' p' B _ S.out.rdr (by omega) (by omega) (by omega)).mono ?_
        rintro e y1 ⟨v, rfl, v0, v1, hgr, -, hr⟩
        have T := Lib.hid (S.out.pick hgr hr)
        clear v1 hgr hr S
        by_cases hv : 0 < v
        · have bv : decide (0 < v) = true := by simpa using hv
          obtain ⟨r1, hb⟩ := T.out.box
          obtain ⟨c0, c1, c2, c3, c4, c5, c6, c7⟩ := eight hb
          have f0 := hb.frozen 0
          have f1 := hb.frozen 1
          have f2 := hb.frozen 2
          have f3 := hb.frozen 3
          have f4 := hb.frozen 4
          have f5 := hb.frozen 5
          have f6 := hb.frozen 6
          have f7 := hb.frozen 7
          clear hb
          cases k1 : (r1.k != 1)
          · clear hv
            go_wp2_with fail
            go_meet
            exact ⟨_, by omega, T.out⟩
          cases k2 : (r1.k != 2)
          · clear hv
            go_wp2_with fail
            go_meet
            exact ⟨_, by omega, T.out⟩
          clear hv
          go_wp2_with fail
          refine (l71Rec_any (w.heap.size + 1) a' bs cap' (p' + 1) B _ T.out.rdr (by omega)).mono ?_
          rintro e y2 ⟨r2, rfl, hgr, p2, hp2, hr⟩
          have U := Lib.hid (T.out.pick hgr hr)
          clear hgr hr T c0 c1 c2 c3 c4 c5 c6 c7 f0 f1 f2 f3 f4 f5 f6 f7 k1 k2 bv
          obtain ⟨r3, hb⟩ := U.out.box
          obtain ⟨c0, c1, c2, c3, c4, c5, c6, c7⟩ := eight hb
          have f0 := hb.frozen 0
          have f1 := hb.frozen 1
          have f2 := hb.frozen 2
          have f3 := hb.frozen 3
          have f4 := hb.frozen 4
          have f5 := hb.frozen 5
          have f6 := hb.frozen 6
          have f7 := hb.frozen 7
          have X := Lib.hid (U.out.whole r2)
          clear hb U
          go_wp2_with fail
          exact ⟨⟨t + 1, _, by omega, by go_num, by omega, X.out⟩, by simp [intOf]; omega⟩
        · have bv : decide (0 < v) = false := by simpa using hv
          clear hv
          go_wp2_with fail
          go_meet
          exact ⟨_, by omega, T.out⟩
      · go_wp2_with fail
        go_meet
        exact ⟨_, by omega, S.out⟩
  case rest =>
    obtain ⟨p2, hp2, hst⟩ := hcut
    clear S
    obtain ⟨r5, hx⟩ := hst.box
    have S := Lib.hid hst
    obtain ⟨c0, c1, c2, c3, c4, c5, c6, c7⟩ := eight hx
    have X := Lib.hid hx
    have so := hst.ord
    clear hst hx
    go_wp2_with fail
    go_region_held3 (fun w' => w'.cell? ⟨pb, 0, none⟩ = some (.int .i64 r5.k) ∧ w'.cell? ⟨pb, 1, none⟩ = some (.int .i64 r5.t) ∧ w'.cell? ⟨pb, 2, none⟩ = some (.int .i64 r5.p) ∧ w'.cell? ⟨pb, 3, none⟩ = some (.int .i64 r5.s) ∧ w'.cell? ⟨pb, 4, none⟩ = some (.int .i64 r5.o) ∧ w'.cell? ⟨pb, 5, none⟩ = some (.int .i64 r5.n) ∧ w'.cell? ⟨pb, 6, none⟩ = some (.int .i64 r5.v) ∧ w'.cell? ⟨pb, 7, none⟩ = some (.int .i64 r5.x)) (first | (with_reducible exact ⟨c0, c1, c2, c3, c4, c5, c6, c7⟩) | (with_reducible exact ⟨d0, d1, d2, d3, d4, d5, d6, d7⟩) | (with_reducible exact ⟨j0, j1, j2, j3, j4, j5, j6, j7⟩) | (refine ⟨?_, ?_, ?_, ?_, ?_, ?_, ?_, ?_⟩ <;> (repeat rw [World.cell?_setCell_other _ _ _ _ (fun e => by injection e; omega)]) <;> (with_reducible assumption)) | go_keep)
      (first
        | (go_at_call_of 37 (Value.int IntKind.i64 24); refine (pick_any 24 (w.heap.size + 1) a' bs cap' _ B _ T.out.rdr (by omega) (by omega) (by omega)).mono ?_; rintro e y2 ⟨z2, rfl, z2l, z2m, hgr, -, hr⟩; have z2h := z2m (by omega); have U := Lib.hid (T.out.pick hgr hr); obtain ⟨j0, j1, j2, j3, j4, j5, j6, j7⟩ := eight (Y.out.grown hgr (fun e => by injection e; omega)); obtain ⟨s0, s1, s2, s3, s4, s5, s6, s7⟩ := eight U.out.res; have u0 := U.out.res.frozen 0; have u1 := U.out.res.frozen 1; have u2 := U.out.res.frozen 2; have u3 := U.out.res.frozen 3; have u4 := U.out.res.frozen 4; have u5 := U.out.res.frozen 5; have u6 := U.out.res.frozen 6; have u7 := U.out.res.frozen 7; clear z2m hgr hr)
        | (go_at_call 37; refine (pick_any 12 (w.heap.size + 1) a' bs cap' p2 B _ S.out.drew.rdr (by omega) (by omega) (by omega)).mono ?_; rintro e y1 ⟨z1, rfl, z1l, z1m, hgr, -, hr⟩; have z1h := z1m (by omega); have T := Lib.hid (S.out.drew.pick hgr hr); obtain ⟨d0, d1, d2, d3, d4, d5, d6, d7⟩ := eight (X.out.drew.grown hgr (fun e => by injection e; omega)); have Y := Lib.hid (X.out.drew.grown hgr (fun e => by injection e; omega)); clear z1m hgr hr))
    obtain ⟨lsn, hl, bl1, bl2⟩ : ∃ lsn : Int, IntKind.i64.wrap (z1 - IntKind.i64.wrap (IntKind.i64.wrap (z2.tdiv 23) * 13)) = lsn ∧ -100 ≤ lsn ∧ lsn ≤ 100 := by
      have t0 : z2.tdiv 23 = z2 / 23 := Int.tdiv_eq_ediv_of_nonneg z2l
      refine ⟨_, rfl, ?_⟩
      rw [t0, IntWalk.i64_in (z2 / 23) (by omega), IntWalk.i64_in (z2 / 23 * 13) (by omega), IntWalk.i64_in _ (by omega)]
      omega
    rw [hl]
    have V : Hid (Below w.heap.size w (put8 y2 w.heap.size r5)) := below_grown (grown_put8 U.out.grown (Nat.le_refl _) r5) (by omega) (Nat.le_refl _)
    clear hl c0 c1 c2 c3 c4 c5 c6 c7 d0 d1 d2 d3 d4 d5 d6 d7 j0 j1 j2 j3 j4 j5 j6 j7 S T U X Y
    go_wp2
    refine bodyPost_ret (v := .tuple #[recV r5, .int .i64 lsn]) (by simp [results, Try.results13, go_sem, s0, s1, s2, s3, s4, s5, s6, s7]) rfl ⟨V.out, r5, lsn, rfl, bl1, bl2⟩
end Go.Proofs.Ytcahmiklcjlkmaa.Base

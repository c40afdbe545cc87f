/-
  Contracts of the model's drawing of pages: l71Page, DrawPageOk, DrawPageEmpty. Only the form of a drawn page is said. Conditions: the code is a slice of bytes.
-/
import Derived.Test.YtloglnekjhgfgaaPick
import Derived.Deep.RegionHeld3
import Derived.Deep.DeepCutAuto
namespace Go.Proofs.Ytloglnekjhgfgaa.Base
open Go.RowKit

/-- the numbers of a drawn page: two or three values, all small -/
structure Small (l o : Int) (zs : List Int) : Prop where
  most : zs.length ≤ 3
  least : 2 ≤ zs.length
  vals : ∀ j, j < zs.length → -1 ≤ zs.getD j 0 ∧ zs.getD j 0 ≤ 12
  lsn : -1 ≤ l ∧ l ≤ 151
  own : -1 ≤ o ∧ o ≤ 4

/-- a page that lies in memory of the call's own: its slots in block g from q on -/
def Drawn (B : Nat) (e : Ending) (w' : World) : Prop :=
  ∃ (l o : Int) (zs : List Int) (g q cap : Nat), e = .returned (pageV l o (some ⟨g, q, none⟩) zs.length cap) ∧ Rd .i64 w' g q zs ∧ Wr w' g q zs.length ∧ B ≤ g ∧ zs.length ≤ cap ∧ cap ≤ 3 ∧ Small l o zs

/-- what l71Page leaves: a drawn page; the reader has gone on -/
def DrawnBy (g : Nat) (a : Option Addr) (bs : List Int) (cap : Nat) (B : Nat) (m : Int) (w : World) (e : Ending) (w' : World) : Prop :=
  Drawn w.heap.size e w' ∧ w.grownBy w' (some g) ∧ ∃ p, p ≤ m ∧ Rdr w' g a bs cap p B

/-- where a drawing of a page stands: the reader in block g; the result's block R, still empty; the page in block pb, its slots in block g1 from q on; of what was there in w0 only the reader has turned -/
structure St (w0 w : World) (g : Nat) (a : Option Addr) (bs : List Int) (cap B R pb g1 q c : Nat) (l o : Int) (zs : List Int) (p : Int) : Prop where
  rdr : Rdr w g a bs cap p B
  res : Has w R 30 #[.int .i64 0, .int .i64 0, .slice none 0 0]
  box : Has w pb 30 #[.int .i64 l, .int .i64 o, .slice (some ⟨g1, q, none⟩) zs.length c]
  rd : Rd .i64 w g1 q zs
  wr : Wr w g1 q zs.length
  base : B ≤ R
  low : w0.heap.size ≤ R
  mid : R < g1 ∧ g < g1 ∧ R ≠ g
  ord : g1 < pb
  grown : w0.grownBy w (some g)
  fit : zs.length ≤ c ∧ c ≤ 3
  small : Small l o zs

section
variable {w0 w w' : World} {g : Nat} {a : Option Addr} {bs : List Int} {cap B R pb g1 q c : Nat} {l o : Int} {zs : List Int} {p : Int}
theorem grown_two {x y z : World} {r : Option Nat} (h : x.grownBy y r) (k : y.grownBy z r) : x.grownBy z r :=
  ⟨k.os.trans h.os, k.tape.trans h.tape, k.output.trans h.output, Nat.le_trans h.size k.size, fun i hi hn => (k.block i (Nat.lt_of_lt_of_le hi h.size) hn).trans (h.block i hi hn)⟩
theorem grown_draws {x y : World} {r : Option Nat} (h : x.grownBy y r) (m : Nat) : x.grownBy (y.drewN m) r := ⟨h.os, h.tape, h.output, h.size, h.block⟩
theorem grown_far {x y : World} {r : Option Nat} (h : x.grownBy y r) {i b : Nat} (hb : x.heap.size ≤ b) (u : Value) : x.grownBy (y.setCell ⟨b, i, none⟩ u) r :=
  ⟨h.os, h.tape, h.output, by rw [size_set]; exact h.size, fun k hk hn => (Below.heap_setCell y _ u k (by simp; omega)).trans (h.block k hk hn)⟩
theorem grown_alloc {x y : World} {r : Option Nat} (h : x.grownBy y r) (ob : Obj) : x.grownBy (y.alloc ob) r :=
  ⟨h.os, h.tape, h.output, Nat.le_trans h.size (by simp), fun k hk hn => (Below.heap_alloc y ob k (Nat.lt_of_lt_of_le hk h.size)).trans (h.block k hk hn)⟩
theorem grown_below {x y : World} (h : Below x.heap.size x y) (r : Option Nat) : x.grownBy y r := ⟨h.os, h.tape, h.output, h.size, fun i hi _ => h.block i hi⟩
theorem Rdr.keep (h : Rdr w g a bs cap p B) (e : w'.heap[g]? = w.heap[g]?) (e' : ∀ i, i < B → w'.heap[i]? = w.heap[i]?) : Rdr w' g a bs cap p B :=
  ⟨h.has.keep e, h.ints.keep e', h.apart, h.bytes, h.short, h.low⟩
theorem Rdr.drewN (h : Rdr w g a bs cap p B) (m : Nat) : Rdr (w.drewN m) g a bs cap p B := h.keep rfl fun _ _ => rfl
theorem Rdr.below (h : Rdr w g a bs cap p B) {N : Nat} (hb : Below N w w') (hg : g < N) : Rdr w' g a bs cap p B := h.keep (hb.block g hg) fun i hi => hb.block i (by have := h.apart; omega)

theorem St.pick (h : St w0 w g a bs cap B R pb g1 q c l o zs p) {p' : Int} (hg : w.grownBy w' (some g)) (hr : Rdr w' g a bs cap p' B) : St w0 w' g a bs cap B R pb g1 q c l o zs p' := by
  have hm := h.mid
  have ho := h.ord
  have n1 : some R ≠ some g := fun e => by injection e; omega
  have n2 : some pb ≠ some g := fun e => by injection e; omega
  have n3 : some g1 ≠ some g := fun e => by injection e; omega
  exact ⟨hr, h.res.grown hg n1, h.box.grown hg n2, h.rd.grown hg h.wr.1 n3, h.wr.grown hg n3, h.base, h.low, h.mid, h.ord, grown_two h.grown hg, h.fit, h.small⟩
theorem St.drewN (h : St w0 w g a bs cap B R pb g1 q c l o zs p) (m : Nat) : St w0 (w.drewN m) g a bs cap B R pb g1 q c l o zs p :=
  ⟨h.rdr.drewN m, h.res, h.box, h.rd, h.wr, h.base, h.low, h.mid, h.ord, grown_draws h.grown m, h.fit, h.small⟩
theorem St.drew (h : St w0 w g a bs cap B R pb g1 q c l o zs p) : St w0 w.drew g a bs cap B R pb g1 q c l o zs p := h.drewN 1
theorem St.alloc (h : St w0 w g a bs cap B R pb g1 q c l o zs p) (ob : Obj) : St w0 (w.alloc ob) g a bs cap B R pb g1 q c l o zs p :=
  ⟨h.rdr.below (below_one w ob) h.rdr.has.lt, h.res.alloc ob, h.box.alloc ob, h.rd.below (below_one w ob) h.wr.1, h.wr.below (below_one w ob) h.wr.1, h.base, h.low, h.mid, h.ord, grown_alloc h.grown ob, h.fit, h.small⟩
/-- a store into the page's own block -/
theorem St.setBox (h : St w0 w g a bs cap B R pb g1 q c l o zs p) (i : Nat) (u : Value) (l' o' : Int) (zs' : List Int) (q' c' : Nat)
    (hb : #[Value.int .i64 l, .int .i64 o, .slice (some ⟨g1, q, none⟩) zs.length c].setIfInBounds i u = #[.int .i64 l', .int .i64 o', .slice (some ⟨g1, q', none⟩) zs'.length c'])
    (hr : Rd .i64 w g1 q' zs') (hw : Wr w g1 q' zs'.length) (hf : zs'.length ≤ c' ∧ c' ≤ 3) (hs : Small l' o' zs') : St w0 (w.setCell ⟨pb, i, none⟩ u) g a bs cap B R pb g1 q' c' l' o' zs' p := by
  have n0 := h.low
  have n1 := h.ord
  have n2 := h.mid
  have n3 := h.base
  exact ⟨h.rdr.keep (Below.heap_setCell w _ u _ (by simp; omega)) (fun i hi => Below.heap_setCell w _ u i (by simp; omega)), h.res.far (by simp; omega) u, by rw [← hb]; exact h.box.set i u, hr.keep (Below.heap_setCell w _ u _ (by simp; omega)), hw.set _ _, h.base, h.low, h.mid, h.ord, grown_far h.grown (by omega) u, hf, hs⟩
theorem getD_set (zs : List Int) (t j : Nat) (v : Int) (hj : j < zs.length) : (zs.set t v).getD j 0 = if j = t then v else zs.getD j 0 := by
  simp only [List.getD_eq_getElem?_getD, List.getElem?_set]
  by_cases e : j = t
  · subst e; simp [hj]
  · simp [e, Ne.symm e]
theorem Small.set (h : Small l o zs) (t : Nat) (v : Int) (h0 : -1 ≤ v) (h1 : v ≤ 12) : Small l o (zs.set t v) :=
  ⟨by simpa using h.most, by simpa using h.least, fun j hj => by
    rw [List.length_set] at hj
    rw [getD_set zs t j v hj]
    split
    · exact ⟨h0, h1⟩
    · exact h.vals j hj, h.lsn, h.own⟩
/-- a store into a slot -/
theorem St.setSlot (h : St w0 w g a bs cap B R pb g1 q c l o zs p) (t : Nat) (v : Int) (ht : t < zs.length) (h0 : -1 ≤ v) (h1 : v ≤ 12) : St w0 (w.setCell ⟨g1, q + t, none⟩ (.int .i64 v)) g a bs cap B R pb g1 q c l o (zs.set t v) p := by
  have n0 := h.low
  have n1 := h.ord
  have n2 := h.mid
  have n3 := h.base
  refine ⟨h.rdr.keep (Below.heap_setCell w _ _ _ (by simp; omega)) (fun i hi => Below.heap_setCell w _ _ i (by simp; omega)), h.res.far (by simp; omega) _, ?_, fun j hj => ?_, ?_, h.base, h.low, h.mid, h.ord, grown_far h.grown (by omega) _, by rw [List.length_set]; exact h.fit, h.small.set t v h0 h1⟩
  · rw [List.length_set]
    exact h.box.far (by simp; omega) _
  · rw [List.length_set] at hj
    rw [cell_set w g1 q j t _ _ (h.rd t ht), getD_set zs t j v hj, h.rd j hj]
    split <;> rfl
  · rw [List.length_set]
    exact h.wr.set _ _
end

/-- some page is where it should be: what stays true from statement to statement -/
def At (w0 w : World) (g : Nat) (a : Option Addr) (bs : List Int) (cap B R pb g1 : Nat) (m : Int) : Prop :=
  ∃ (q : Nat) (l o : Int) (zs : List Int) (p : Int), p ≤ m ∧ zs.length = 3 ∧ St w0 w g a bs cap B R pb g1 q 3 l o zs p

theorem St.finish {w0 w : World} {g : Nat} {a : Option Addr} {bs : List Int} {cap B R pb g1 q c : Nat} {l o : Int} {zs : List Int} {p : Int} (h : St w0 w g a bs cap B R pb g1 q c l o zs p) {m : Int} (hp : p ≤ m) :
    DrawnBy g a bs cap B m w0 (.returned (pageV l o (some ⟨g1, q, none⟩) zs.length c)) (((w.setCell ⟨R, 0, none⟩ (.int .i64 l)).setCell ⟨R, 1, none⟩ (.int .i64 o)).setCell ⟨R, 2, none⟩ (.slice (some ⟨g1, q, none⟩) zs.length c)) := by
  have n0 := h.low
  have n1 := h.base
  have n2 := h.mid
  have e : ∀ i, i ≠ R → (((w.setCell ⟨R, 0, none⟩ (.int .i64 l)).setCell ⟨R, 1, none⟩ (.int .i64 o)).setCell ⟨R, 2, none⟩ (.slice (some ⟨g1, q, none⟩) zs.length c)).heap[i]? = w.heap[i]? := fun i hi => by
    rw [Below.heap_setCell _ _ _ _ (by simpa using hi), Below.heap_setCell _ _ _ _ (by simpa using hi), Below.heap_setCell _ _ _ _ (by simpa using hi)]
  refine ⟨⟨l, o, zs, g1, q, c, rfl, h.rd.keep (e g1 (by omega)), ((h.wr.set _ _).set _ _).set _ _, by omega, h.fit.1, h.fit.2, h.small⟩, ?_, p, hp, h.rdr.keep (e g (by omega)) (fun i hi => e i (by omega))⟩
  exact grown_far (grown_far (grown_far h.grown n0 _) n0 _) n0 _

set_option maxHeartbeats 4000000 in
theorem l71Page_any (g : Nat) (a : Option Addr) (bs : List Int) (cap : Nat) (p : Int) (B : Nat) (w : World) (h : Rdr w g a bs cap p B) (hp : p ≤ 100000000) :
    Calls Try.prog 33 #[.pointer (some ⟨g, 0, none⟩)] w (DrawnBy g a bs cap B (p + 20) w) := by
  have H := Lib.hid h
  have hg := h.has.lt
  clear h
  go_enter Try.func33, Try.ntmps33
  go_wp2_with fail
  refine (specPageNew_any _).mono ?_
  rintro e w1 ⟨g1, o1, rfl, b1, s1, r1, x1⟩
  rw [World.size_alloc] at s1
  have hs : St w (w1.alloc (.cells #[.int .i64 0, .int .i64 0, .slice (some ⟨g1, o1, none⟩) 3 3] 30)) g a bs cap B w.heap.size w1.heap.size g1 o1 3 0 0 [0, 0, 0] p := by
    have hg1 := b1.size
    rw [World.size_alloc] at hg1
    have hb2 : Below w.heap.size w (w1.alloc (.cells #[.int .i64 0, .int .i64 0, .slice (some ⟨g1, o1, none⟩) 3 3] 30)) := ((below_one _ _).trans (b1.mono (by simp))).alloc (by omega) _
    have hB := H.out.apart
    refine ⟨H.out.below hb2 hg, ((Has.new w _ _).below b1 (by simp)).alloc _, Has.new _ _ _, r1.below (below_one _ _) x1.1, x1.below (below_one _ _) x1.1, by omega, Nat.le_refl _, by omega, x1.1, grown_below hb2 _, by simp, ?_⟩
    exact ⟨by simp, by simp, fun j hj => by match j, hj with | 0, _ => simp | 1, _ => simp | 2, _ => simp, by omega, by omega⟩
  have S := Lib.hid hs
  have hpb := x1.1
  clear hs b1 r1 x1 H
  go_wp2_with fail
  generalize (w1.alloc (.cells #[.int .i64 0, .int .i64 0, .slice (some ⟨g1, o1, none⟩) 3 3] 30)) = w2 at *
  refine (pick_any 12 g a bs cap p B _ S.out.rdr (by omega) (by omega) (by omega)).mono ?_
  rintro e w3 ⟨v, rfl, v0, v1, hgr, -, hr⟩
  have v2 := v1 (by omega)
  have S3 := Lib.hid (S.out.pick hgr hr)
  clear v1 hgr hr S
  obtain ⟨c0, c1, c2⟩ := S3.out.box.three
  have f0 := S3.out.box.frozen 0
  have S4 := Lib.hid (S3.out.setBox 0 (.int .i64 v) v 0 [0, 0, 0] o1 3 rfl S3.out.rd S3.out.wr S3.out.fit ⟨by simp, by simp, S3.out.small.vals, by omega, by omega⟩)
  clear S3
  go_wp2_with fail
  generalize (w3.setCell ⟨w1.heap.size, 0, none⟩ (.int .i64 v)) = w4 at *
  clear c0 c1 c2 f0
  refine (pick_any 4 g a bs cap (p + 1) B _ S4.out.rdr (by omega) (by omega) (by omega)).mono ?_
  rintro e w5 ⟨u, rfl, u0, u1, hgr, -, hr⟩
  have u2 := u1 (by omega)
  have S5 := Lib.hid (S4.out.pick hgr hr)
  clear u1 hgr hr S4
  go_upto_if 11 with fail
  go_cut [] (fun wx => At w wx g a bs cap B w.heap.size w1.heap.size g1 (p + 10))
  case first =>
    by_cases hu : 0 < u
    · go_wp2_with fail
      refine (pick_any 3 g a bs cap (p + 1 + 1) B _ S5.out.rdr (by omega) (by omega) (by omega)).mono ?_
      rintro e w6 ⟨x, rfl, x0, x1, hgr, -, hr⟩
      have x2 := x1 (by omega)
      have S6 := Lib.hid (S5.out.pick hgr hr)
      clear x1 hgr hr S5
      obtain ⟨c0, c1, c2⟩ := S6.out.box.three
      have f0 := S6.out.box.frozen 1
      have S7 := Lib.hid (S6.out.setBox 1 (.int .i64 (1 + x)) v (1 + x) [0, 0, 0] o1 3 rfl S6.out.rd S6.out.wr S6.out.fit ⟨by simp, by simp, S6.out.small.vals, by omega, by omega⟩)
      clear S6
      go_wp2_with fail
      generalize (w6.setCell ⟨w1.heap.size, 1, none⟩ (.int .i64 (1 + x))) = w7 at *
      clear c0 c1 c2 f0
      go_loopw [4] (fun i wx => ∃ (t : Nat) (zs : List Int) (p' : Int), t ≤ 3 ∧ i = .int .i64 t ∧ zs.length = 3 ∧ p' ≤ p + 3 + 2 * t ∧ St w wx g a bs cap B w.heap.size w1.heap.size g1 o1 3 v (1 + x) zs p') (fun i _ => 3 - (intOf i).toNat)
      case atStart => exact ⟨0, _, _, by omega, rfl, rfl, by omega, S7.out⟩
      case round =>
        obtain ⟨t, zs, p', ht, rfl, hz, hp', hst⟩ := hrel
        have S8 := Lib.hid hst
        have Hz := Lib.hid hz
        have hz3 : zs.length ≤ 3 := by omega
        have hz4 : 3 ≤ zs.length := by omega
        obtain ⟨c0, c1, c2⟩ := hst.box.three
        clear hst hz
        by_cases hlt : t < zs.length
        · go_wp2_with fail
          refine (pick_any 3 g a bs cap p' B _ S8.out.rdr (by omega) (by omega) (by omega)).mono ?_
          rintro e w9 ⟨y, rfl, y0, y1, hgr, -, hr⟩
          have S9 := Lib.hid (S8.out.pick hgr hr)
          clear y1 hgr hr S8 c0 c1 c2
          by_cases hy : 0 < y
          · obtain ⟨c0, c1, c2⟩ := S9.out.box.three
            go_wp2_with fail
            go_region_held3 (fun w' => w'.cell? ⟨w1.heap.size, 2, none⟩ = some (.slice (some ⟨g1, o1, none⟩) zs.length 3)) (first | go_keep | exact (World.cell?_setCell_other _ _ _ _ (fun e => by injection e; omega)).trans d2)
              (first | (go_at_call 29; refine (pick_any 10 g a bs cap (p' + 1) B _ S9.out.drew.rdr (by omega) (by omega) (by omega)).mono ?_; rintro e w10 ⟨z, rfl, z0, z1, hgr, -, hr⟩; have z2 := z1 (by omega); have S10 := Lib.hid (S9.out.drew.pick hgr hr); have d2 := S10.out.box.three.2.2; have d3 := S10.out.rd t hlt; have d4 := S10.out.wr.2 t hlt; clear z1 hgr hr))
            have S11 := Lib.hid (S10.out.setSlot t z hlt (by omega) (by omega))
            clear S10 d2 d3 d4
            generalize (w10.setCell ⟨g1, o1 + t, none⟩ (.int .i64 z)) = w11 at *
            go_wp2_with fail
            exact ⟨⟨t + 1, _, _, by omega, by go_num, by rw [List.length_set]; exact Hz.out, by omega, S11.out⟩, by simp [intOf]; omega⟩
          · go_wp2_with fail
            exact ⟨⟨t + 1, _, _, by omega, by go_num, Hz.out, by omega, S9.out⟩, by simp [intOf]; omega⟩
        · go_wp2_with fail
          go_meet
          exact ⟨_, _, _, _, _, by omega, Hz.out, S8.out⟩
    · go_wp2_with fail
      go_meet
      exact ⟨_, _, _, _, _, by omega, rfl, S5.out⟩
  case rest =>
    obtain ⟨q, l, o, zs, p', hp', hz, hst⟩ := hcut
    have S := Lib.hid hst
    have hz3 : zs.length ≤ 3 := by omega
    have hz4 : 3 ≤ zs.length := by omega
    have Hz := Lib.hid hz
    clear hst hz S5
    go_wp2_with fail
    refine (pick_any 24 g a bs cap p' B _ S.out.rdr (by omega) (by omega) (by omega)).mono ?_
    rintro e wa ⟨y, rfl, y0, y1, hgr, -, hr⟩
    have Sa := Lib.hid (S.out.pick hgr hr)
    clear y1 hgr hr S
    by_cases h0 : y = 0
    · subst h0
      go_wp2_with fail
      refine (pick_any 6 g a bs cap (p' + 1) B _ Sa.out.rdr (by omega) (by omega) (by omega)).mono ?_
      rintro e wb ⟨z, rfl, z0, z1, hgr, -, hr⟩
      have z2 := z1 (by omega)
      have Sb := Lib.hid (Sa.out.pick hgr hr)
      clear z1 hgr hr Sa
      obtain ⟨c0, c1, c2⟩ := Sb.out.box.three
      have f0 := Sb.out.box.frozen 1
      have Sc := Lib.hid (Sb.out.setBox 1 (.int .i64 (z - 1)) l (z - 1) zs q 3 rfl Sb.out.rd Sb.out.wr Sb.out.fit ⟨Sb.out.small.most, Sb.out.small.least, Sb.out.small.vals, Sb.out.small.lsn, by omega⟩)
      clear Sb
      obtain ⟨d0, d1, d2⟩ := Sc.out.box.three
      obtain ⟨r0, r1, r2⟩ := Sc.out.res.three
      have t0 := Sc.out.res.frozen 0
      have t1 := Sc.out.res.frozen 1
      have t2 := Sc.out.res.frozen 2
      have n1 : w.heap.size ≠ w1.heap.size := by omega
      go_wp2
      refine bodyPost_ret (v := pageV l (z - 1) (some ⟨g1, q, none⟩) zs.length 3) (by simp [results, Try.results33, go_sem, r0, r1, r2]) rfl (Sc.out.finish (by omega))
    have b0 : (y == 0) = false := by simpa using h0
    clear h0
    by_cases h1 : y = 1
    · subst h1
      clear b0
      obtain ⟨c0, c1, c2⟩ := Sa.out.box.three
      go_wp2_with fail
      go_region_held3 (fun w' => w'.cell? ⟨w1.heap.size, 2, none⟩ = some (.slice (some ⟨g1, q, none⟩) zs.length 3)) (first | go_keep | exact (World.cell?_setCell_other _ _ _ _ (fun e => by injection e; omega)).trans d2)
        (first
          | (go_at_call_of 29 (Value.int IntKind.i64 13); refine (pick_any 13 g a bs cap _ B _ Sb.out.rdr (by omega) (by omega) (by omega)).mono ?_; rintro e wc ⟨z', rfl, z0', z1', hgr, -, hr⟩; have z2' := z1' (by omega); have Sc := Lib.hid (Sb.out.pick hgr hr); have d2 := Sc.out.box.three.2.2; have d3 := Sc.out.rd z (by omega); have d4 := Sc.out.wr.2 z (by omega); have hw := IntWalk.i64_in (z' - 1) (by omega); clear z1' hgr hr)
          | (go_at_call 29; refine (pick_any zs.length g a bs cap (p' + 1) B _ Sa.out.drew.rdr (by omega) (by omega) (by omega)).mono ?_; rintro e wb ⟨zi, rfl, z0, z1, hgr, -, hr⟩; have z2 := z1 (by omega); obtain ⟨z, rfl⟩ := Int.eq_ofNat_of_zero_le z0; have Sb := Lib.hid (Sa.out.drew.pick hgr hr); have d2 := Sb.out.box.three.2.2; clear z1 hgr hr))
      have Sd := Lib.hid (Sc.out.setSlot z (z' - 1) (by omega) (by omega) (by omega))
      clear Sc d2 d3 d4 hw
      generalize (wc.setCell ⟨g1, q + z, none⟩ (.int .i64 (z' - 1))) = wd at *
      have Hl : Hid ((zs.set z (z' - 1)).length = zs.length) := List.length_set
      generalize zs.set z (z' - 1) = zs2 at *
      have Fin := Lib.hid (Sd.out.finish (m := p + 20) (by omega))
      rw [Hl.out] at Fin
      obtain ⟨d0, d1, d2⟩ := Sd.out.box.three
      rw [Hl.out] at d2
      obtain ⟨r0, r1, r2⟩ := Sd.out.res.three
      have t0 := Sd.out.res.frozen 0
      have t1 := Sd.out.res.frozen 1
      have t2 := Sd.out.res.frozen 2
      have n1 : w.heap.size ≠ w1.heap.size := by omega
      go_wp2
      refine bodyPost_ret (v := pageV l o (some ⟨g1, q, none⟩) zs.length 3) (by simp [results, Try.results33, go_sem, r0, r1, r2]) rfl Fin.out
    have b1 : (y == 1) = false := by simpa using h1
    clear h1
    by_cases h2 : y = 2
    · subst h2
      clear b0 b1
      match zs, Hz.out with
      | [x1, x2, x3], _ =>
        obtain ⟨c0, c1, c2⟩ := Sa.out.box.three
        have f2 := Sa.out.box.frozen 2
        simp at c2
        have Sb := Lib.hid (Sa.out.setBox 2 (.slice (some ⟨g1, q + 1, none⟩) 2 2) l o [x2, x3] (q + 1) 2 rfl (fun j hj => by have := Sa.out.rd (j + 1) (by simp at hj ⊢; omega); rw [Nat.add_assoc, Nat.add_comm 1 j]; exact this) ⟨Sa.out.wr.1, fun j hj => by have := Sa.out.wr.2 (j + 1) (by simp at hj ⊢; omega); rw [Nat.add_assoc, Nat.add_comm 1 j]; exact this⟩ (by simp) ⟨by simp, by simp, fun j hj => Sa.out.small.vals (j + 1) (by simp at hj ⊢; omega), Sa.out.small.lsn, Sa.out.small.own⟩)
        obtain ⟨d0, d1, d2⟩ := Sb.out.box.three
        obtain ⟨r0, r1, r2⟩ := Sb.out.res.three
        have t0 := Sb.out.res.frozen 0
        have t1 := Sb.out.res.frozen 1
        have t2 := Sb.out.res.frozen 2
        simp at d2
        have n1 : w.heap.size ≠ w1.heap.size := by omega
        clear Hz Sa
        simp only [List.length_cons, List.length_nil, Nat.zero_add, Nat.reduceAdd] at hz3 hz4
        go_wp2
        refine bodyPost_ret (v := pageV l o (some ⟨g1, q + 1, none⟩) 2 2) (by simp [results, Try.results33, go_sem, r0, r1, r2]) rfl (Sb.out.finish (by omega))
    have b2 : (y == 2) = false := by simpa using h2
    clear h2
    obtain ⟨d0, d1, d2⟩ := Sa.out.box.three
    obtain ⟨r0, r1, r2⟩ := Sa.out.res.three
    have t0 := Sa.out.res.frozen 0
    have t1 := Sa.out.res.frozen 1
    have t2 := Sa.out.res.frozen 2
    have n1 : w.heap.size ≠ w1.heap.size := by omega
    go_wp2
    refine bodyPost_ret (v := pageV l o (some ⟨g1, q, none⟩) zs.length 3) (by simp [results, Try.results33, go_sem, r0, r1, r2]) rfl (Sa.out.finish (by omega))
end Go.Proofs.Ytloglnekjhgfgaa.Base

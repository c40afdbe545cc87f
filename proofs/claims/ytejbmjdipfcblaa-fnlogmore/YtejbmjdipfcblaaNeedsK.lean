/-
  Contracts of the model's l11Back and l11Need. Conditions: the slice leads to records that tell of earlier ones alone.
-/
import Derived.Test.YtejbmjdipfcblaaMathsK
import Derived.Test.YtejbmjdipfcblaaLogSK
import Derived.Test.YtejbmjdipfcblaaChainsK
import Derived.Test.YtejbmjdipfcblaaPagesRK
import Derived.Deep.CutBlock
namespace Go.Proofs.Ytejbmjdipfcblaa.Base
open Go.RowKit

/-- each record tells of earlier ones alone, by numbers from 0 on -/
def Good (rs : List R) : Prop := ∀ j, j < rs.length → (0 ≤ (recAt rs j).v ∧ (recAt rs j).v ≤ j) ∧ 0 ≤ (recAt rs j).x ∧ (recAt rs j).x ≤ j
theorem Good.falls {rs : List R} (h : Good rs) : Falls rs rs.length := fun j hj => by
  have := h j hj
  omega
theorem good_of_log {rs : List R} (h : logB rs = true) : Good rs := fun j hj => by
  unfold logB at h
  simp only [Bool.and_eq_true] at h
  have h1 := logN_mono rs rs.length (j + 1) (by omega) h.1
  unfold logN at h1
  simp only [Bool.and_eq_true] at h1
  have h2 := h1.2
  unfold stepB at h2
  simp only [Bool.and_eq_true, beq_iff_eq, decide_eq_true_eq] at h2
  obtain ⟨hok, hv, hx, -⟩ := h2
  have hl := lastN_le rs (recAt rs j).t j
  have hn := okR_next _ hok
  exact ⟨⟨by omega, by omega⟩, by omega, hx⟩

set_option maxHeartbeats 2000000 in
theorem l11Back_any (rs : List R) (a : Option Addr) (cap B n : Nat) (w : World) (hB : B ≤ w.heap.size) (hz : Recs w B a rs) (hg : Good rs) (hn : n ≤ rs.length) (mx : rs.length ≤ 1000000) :
    Calls Try.prog 96 #[.slice a rs.length cap, .int .i64 n] w (Keeps (.int .i64 (backC rs n)) w) := by
  have Hz := Lib.hid hz
  have Hg := Lib.hid hg
  clear hz hg
  go_enter Try.func96, Try.ntmps96
  go_wp2_with fail
  go_loopw [1] (fun q wx => ∃ k : Nat, k ≤ rs.length ∧ q = .int .i64 k ∧ Below w.heap.size w wx ∧ backC rs n = backC rs k) (fun q _ => (intOf q).toNat)
  case atStart => exact ⟨n, hn, rfl, Below.refl _ _, rfl⟩
  case round =>
    obtain ⟨k, hk, rfl, hb, he⟩ := hrel
    have Hb := Lib.hid hb
    have He := Lib.hid he
    have hs := hb.size
    clear hb he
    cases k with
    | zero =>
      go_wp2
      go_ret
      exact ⟨ret_int (by rw [He.out]; rfl), Hb.out⟩
    | succ k =>
      obtain ⟨g, o, rfl, hgB, hr⟩ := Hz.out (by omega)
      have hat := (hr.below (Hb.out.mono hB) hgB) k (by omega)
      have hst := backC_step Hg.out.falls (show k < rs.length by omega)
      have hgd := Hg.out k (by omega)
      have Hs := Lib.hid (He.out.trans hst)
      generalize recAt rs k = r at *
      have c0 := hat.k
      have c1 := hat.t
      have c2 := hat.p
      have c3 := hat.s
      have c4 := hat.o
      have c5 := hat.n
      have c6 := hat.v
      have c7 := hat.x
      obtain ⟨⟨v0, v1⟩, x0, x1⟩ := hgd
      have lg : g < wr.heap.size := Nat.lt_of_lt_of_le hgB (Nat.le_trans hB hs)
      have wk : IntKind.i64.wrap (k : Int) = (k : Int) := IntWalk.i64_in _ (by omega)
      have kl : (k : Int) < rs.length := by omega
      have B2 : Hid (Below w.heap.size w (wr.alloc (.cells #[.int .i64 r.k, .int .i64 r.t, .int .i64 r.p, .int .i64 r.s, .int .i64 r.o, .int .i64 r.n, .int .i64 r.v, .int .i64 r.x] 27))) := Hb.out.alloc hs _
      clear hr hat hst
      cases b1 : (r.k == 1)
      · cases b2 : (r.k == 2)
        · cases b6 : (r.k == 6)
          · obtain ⟨m, hm⟩ : ∃ m : Nat, r.v = m := Int.eq_ofNat_of_zero_le v0
            have Hn : Hid (backC rs n = backC rs m) := by
              show backC rs n = backC rs m
              have h6 : ¬ r.k = 6 := by simpa using b6
              rw [Hs.out, if_neg (by simp [undoable, b1, b2]), if_neg h6, hm]
              simp
            rw [hm] at c6 v1
            go_wp2
            exact ⟨⟨m, by omega, rfl, by rw [hm] at B2; exact B2.out, Hn.out⟩, by simp [intOf]; omega⟩
          · obtain ⟨m, hm⟩ : ∃ m : Nat, r.x = m := Int.eq_ofNat_of_zero_le x0
            have Hn : Hid (backC rs n = backC rs m) := by
              show backC rs n = backC rs m
              have h6 : r.k = 6 := by simpa using b6
              rw [Hs.out, if_neg (by simp [undoable, b1, b2]), if_pos h6, hm]
              simp
            rw [hm] at c7 x1
            go_wp2
            exact ⟨⟨m, by omega, rfl, by rw [hm] at B2; exact B2.out, Hn.out⟩, by simp [intOf]; omega⟩
        · have Hn : Hid (backC rs n = k + 1) := by
            show backC rs n = k + 1
            rw [Hs.out, if_pos (by simp [undoable, b2])]
          go_wp2
          go_ret
          exact ⟨ret_int (by rw [Hn.out]), B2.out⟩
      · have Hn : Hid (backC rs n = k + 1) := by
          show backC rs n = k + 1
          rw [Hs.out, if_pos (by simp [undoable, b1])]
        go_wp2
        go_ret
        exact ⟨ret_int (by rw [Hn.out]), B2.out⟩

/-- what the first t have to undo -/
def needS (rs : List R) : Nat → Nat
  | 0 => 0
  | t + 1 => needS rs t + needT rs rs.length ((t : Int) + 1)
theorem needS_all (rs : List R) : needS rs 3 = needN rs rs.length := by
  show 0 + needT rs rs.length (((0 : Nat) : Int) + 1) + needT rs rs.length (((1 : Nat) : Int) + 1) + needT rs rs.length (((2 : Nat) : Int) + 1) = _
  unfold needN
  rw [show (((0 : Nat) : Int) + 1) = 1 from rfl, show (((1 : Nat) : Int) + 1) = 2 from rfl, show (((2 : Nat) : Int) + 1) = 3 from rfl]
  omega
/-- how many records are undone from a record to undo on -/
def cntN (rs : List R) : Nat → Nat
  | 0 => 0
  | a + 1 => undoC rs (recAt rs a).v.toNat + 1
theorem undo_cnt {rs : List R} (h : Falls rs rs.length) {a : Nat} (ha : a ≤ rs.length) : undoC rs a = cntN rs (backC rs a) := by
  rcases undo_back h a ha with ⟨h0, h1⟩ | ⟨b, h1, _, _, h4⟩
  · rw [h0, h1]
    rfl
  · rw [h1, h4]
    rfl

set_option maxHeartbeats 4000000 in
theorem l11Need_any (rs : List R) (a : Option Addr) (cap B : Nat) (w : World) (hB : B ≤ w.heap.size) (hz : Recs w B a rs) (hg : Good rs) (mx : rs.length ≤ 1000) :
    Calls Try.prog 93 #[.slice a rs.length cap] w (Keeps (.int .i64 (needN rs rs.length)) w) := by
  have Hz := Lib.hid hz
  have Hg := Lib.hid hg
  have hT : ∀ t : Int, needT rs rs.length t ≤ 1001 := fun t => by
    have h1 := undoC_le hg.falls _ (lastN_le rs t rs.length)
    have h2 := lastN_le rs t rs.length
    unfold needT
    split <;> omega
  have HT := Lib.hid hT
  clear hz hg hT
  go_enter Try.func93, Try.ntmps93
  go_wp2_with fail
  go_loopw [3, 4] (fun q i wx => ∃ t : Nat, t ≤ 3 ∧ i = .int .i64 ((t : Int) + 1) ∧ q = .int .i64 (needS rs t) ∧ needS rs t ≤ 1001 * t ∧ Below w.heap.size w wx) (fun _ i _ => (4 - intOf i).toNat)
  case atStart => exact ⟨0, by omega, rfl, rfl, by simp [needS], Below.refl _ _⟩
  case round =>
    obtain ⟨t, ht, rfl, rfl, hn, hb⟩ := hrel
    have Hb := Lib.hid hb
    have hs := hb.size
    clear hb
    by_cases hlt : t < 3
    · have hnt := HT.out ((t : Int) + 1)
      have Hd : Hid (needS rs (t + 1) = needS rs t + needT rs rs.length ((t : Int) + 1)) := rfl
      have Hd2 : Hid (needT rs rs.length ((t : Int) + 1) = (if lastN rs ((t : Int) + 1) rs.length = 0 then 0 else 1) + undoC rs (lastN rs ((t : Int) + 1) rs.length)) := rfl
      have hll := lastN_le rs ((t : Int) + 1) rs.length
      go_wp2_with fail
      refine (l3Last_any rs rs.length _ a cap B _ (Nat.le_refl _) (Hz.out.below (Hb.out.mono hB)) (by omega)).mono ?_
      rintro e w1 ⟨rfl, rfl⟩
      generalize lastN rs ((t : Int) + 1) rs.length = la at *
      generalize needT rs rs.length ((t : Int) + 1) = nt at *
      generalize needS rs t = ns at *
      have Hu := Lib.hid (undo_cnt Hg.out.falls hll)
      obtain ⟨n1, hn1, hn1'⟩ : ∃ n1 : Nat, n1 = ns + (if la = 0 then 0 else 1) ∧ n1 + undoC rs la = ns + nt := ⟨_, rfl, by rw [Hd2.out]; omega⟩
      have HB : Hid (∀ W : World, Below w.heap.size w W → Calls Try.prog 96 #[.slice a rs.length cap, .int .i64 la] W (Keeps (.int .i64 (backC rs la)) W)) := fun W hW => l11Back_any rs a cap B la W (Nat.le_trans hB hW.size) (Hz.out.below (hW.mono hB)) Hg.out hll (by omega)
      have hu := undoC_le Hg.out.falls la hll
      have hbl := backC_le Hg.out.falls la hll
      have H1 := Lib.hid hn1'
      rw [Hu.out] at H1 hu
      have N1 := Lib.hid hn1
      clear hn1' hn1 Hu
      have W1 : ns + 1 ≤ 5000 := by omega
      by_cases hla : la = 0
      · have N2 : Hid (n1 = ns) := by show n1 = ns; rw [N1.out, if_pos hla]; rfl
        have la0 : ¬ (0 : Int) < (la : Int) := by omega
        clear hla
        go_wp2_with fail
        refine (HB.out _ Hb.out).mono ?_
        rintro e w2 ⟨rfl, b2⟩
        have B2 : Hid (Below w.heap.size w w2) := Hb.out.trans (b2.mono hs)
        clear b2
        generalize backC rs la = bk at *
        go_wp2_with fail
        go_loopw [3, 5] (fun q i wx => ∃ k m : Nat, k ≤ rs.length ∧ i = .int .i64 k ∧ q = .int .i64 m ∧ m + cntN rs k = ns + nt ∧ Below w.heap.size w wx) (fun _ i _ => (intOf i).toNat)
        case atStart => exact ⟨bk, n1, by omega, rfl, by rw [N2.out], H1.out, B2.out⟩
        case round =>
          clear B2
          obtain ⟨k, m, hk, rfl, rfl, hm, hb2⟩ := hrel
          have Hb2 := Lib.hid hb2
          have hs2 := hb2.size
          have Hm := Lib.hid hm
          clear hb2 hm
          cases k with
          | zero =>
            have He : Hid (m = ns + nt) := Hm.out
            have hmm : m = ns + nt := He.out
            go_wp2
            exact ⟨⟨t + 1, by omega, by go_num, by rw [Hd.out, He.out], by rw [Hd.out]; omega, Hb2.out⟩, by simp [intOf]; omega⟩
          | succ k =>
            obtain ⟨g, o, rfl, hgB, hr⟩ := Hz.out (by omega)
            have hat := (hr.below (Hb2.out.mono hB) hgB) k (by omega)
            have hgd := (Hg.out k (by omega)).1
            have Hc : Hid (cntN rs (k + 1) = undoC rs (recAt rs k).v.toNat + 1) := rfl
            generalize recAt rs k = r at *
            have c6 := hat.v
            obtain ⟨v0, v1⟩ := hgd
            obtain ⟨j, hj⟩ : ∃ j : Nat, r.v = j := Int.eq_ofNat_of_zero_le v0
            rw [hj] at c6 v1
            have hmm : m ≤ 5000 := by have := Hm.out; omega
            have wk : IntKind.i64.wrap (k : Int) = (k : Int) := IntWalk.i64_in _ (by omega)
            have kl : (k : Int) < rs.length := by omega
            have hjl : j ≤ rs.length := by omega
            have HB2 : Hid (∀ W : World, Below w.heap.size w W → Calls Try.prog 96 #[.slice (some ⟨g, o, none⟩) rs.length cap, .int .i64 j] W (Keeps (.int .i64 (backC rs j)) W)) := fun W hW => l11Back_any rs _ cap B j W (Nat.le_trans hB hW.size) (Hz.out.below (hW.mono hB)) Hg.out hjl (by omega)
            have Hu2 : Hid (m + 1 + cntN rs (backC rs j) = ns + nt) := by
              show m + 1 + cntN rs (backC rs j) = ns + nt
              rw [← undo_cnt Hg.out.falls hjl]
              have h1 := Hm.out
              rw [Hc.out, hj] at h1
              simp at h1
              omega
            have hbj := backC_le Hg.out.falls j hjl
            have hjk : j ≤ k := by omega
            clear hr hat hj v1
            go_wp2_with fail
            refine (HB2.out _ Hb2.out).mono ?_
            rintro e w3 ⟨rfl, b3⟩
            have B3 : Hid (Below w.heap.size w w3) := Hb2.out.trans (b3.mono hs2)
            clear b3
            go_wp2
            exact ⟨⟨backC rs j, m + 1, by omega, rfl, by go_num, Hu2.out, B3.out⟩, by simp [intOf]; omega⟩
      · have N2 : Hid (n1 = ns + 1) := by show n1 = ns + 1; rw [N1.out, if_neg hla]
        have la0 : (0 : Int) < (la : Int) := by omega
        clear hla
        go_wp2_with fail
        refine (HB.out _ Hb.out).mono ?_
        rintro e w2 ⟨rfl, b2⟩
        have B2 : Hid (Below w.heap.size w w2) := Hb.out.trans (b2.mono hs)
        clear b2
        generalize backC rs la = bk at *
        go_wp2_with fail
        go_loopw [3, 5] (fun q i wx => ∃ k m : Nat, k ≤ rs.length ∧ i = .int .i64 k ∧ q = .int .i64 m ∧ m + cntN rs k = ns + nt ∧ Below w.heap.size w wx) (fun _ i _ => (intOf i).toNat)
        case atStart => exact ⟨bk, n1, by omega, rfl, by rw [N2.out]; go_num, H1.out, B2.out⟩
        case round =>
          clear B2
          obtain ⟨k, m, hk, rfl, rfl, hm, hb2⟩ := hrel
          have Hb2 := Lib.hid hb2
          have hs2 := hb2.size
          have Hm := Lib.hid hm
          clear hb2 hm
          cases k with
          | zero =>
            have He : Hid (m = ns + nt) := Hm.out
            have hmm : m = ns + nt := He.out
            go_wp2
            exact ⟨⟨t + 1, by omega, by go_num, by rw [Hd.out, He.out], by rw [Hd.out]; omega, Hb2.out⟩, by simp [intOf]; omega⟩
          | succ k =>
            obtain ⟨g, o, rfl, hgB, hr⟩ := Hz.out (by omega)
            have hat := (hr.below (Hb2.out.mono hB) hgB) k (by omega)
            have hgd := (Hg.out k (by omega)).1
            have Hc : Hid (cntN rs (k + 1) = undoC rs (recAt rs k).v.toNat + 1) := rfl
            generalize recAt rs k = r at *
            have c6 := hat.v
            obtain ⟨v0, v1⟩ := hgd
            obtain ⟨j, hj⟩ : ∃ j : Nat, r.v = j := Int.eq_ofNat_of_zero_le v0
            rw [hj] at c6 v1
            have hmm : m ≤ 5000 := by have := Hm.out; omega
            have wk : IntKind.i64.wrap (k : Int) = (k : Int) := IntWalk.i64_in _ (by omega)
            have kl : (k : Int) < rs.length := by omega
            have hjl : j ≤ rs.length := by omega
            have HB2 : Hid (∀ W : World, Below w.heap.size w W → Calls Try.prog 96 #[.slice (some ⟨g, o, none⟩) rs.length cap, .int .i64 j] W (Keeps (.int .i64 (backC rs j)) W)) := fun W hW => l11Back_any rs _ cap B j W (Nat.le_trans hB hW.size) (Hz.out.below (hW.mono hB)) Hg.out hjl (by omega)
            have Hu2 : Hid (m + 1 + cntN rs (backC rs j) = ns + nt) := by
              show m + 1 + cntN rs (backC rs j) = ns + nt
              rw [← undo_cnt Hg.out.falls hjl]
              have h1 := Hm.out
              rw [Hc.out, hj] at h1
              simp at h1
              omega
            have hbj := backC_le Hg.out.falls j hjl
            have hjk : j ≤ k := by omega
            clear hr hat hj v1
            go_wp2_with fail
            refine (HB2.out _ Hb2.out).mono ?_
            rintro e w3 ⟨rfl, b3⟩
            have B3 : Hid (Below w.heap.size w w3) := Hb2.out.trans (b3.mono hs2)
            clear b3
            go_wp2
            exact ⟨⟨backC rs j, m + 1, by omega, rfl, by go_num, Hu2.out, B3.out⟩, by simp [intOf]; omega⟩
    · obtain rfl : t = 3 := by omega
      go_wp2
      go_ret
      exact ⟨ret_int (by rw [needS_all]), Hb.out⟩
end Go.Proofs.Ytejbmjdipfcblaa.Base

/-
  The model's engine as pure data: a record more, a step of undoing, an end; each keeps what holds throughout a play. No conditions.
-/
namespace Go.Proofs.Ytejbmjdipfcblaa.Base
open Go.RowKit

theorem ofB_fit {r : R} (h : ofB r = true) : fitR r := by
  simp only [ofB, inB, Bool.and_eq_true, decide_eq_true_eq] at h
  obtain ⟨-, ⟨s0, s1⟩, -, n0, n1⟩ := h
  unfold most at n1
  unfold fitR
  split at n1
  · exact .inl ⟨by omega, n0, n1⟩
  · exact .inr ⟨⟨by omega, s1⟩, n0, n1⟩
theorem okR_fit {r : R} (h : okR r = true) (hc : chg r.k = true) : fitR r ∧ 0 ≤ r.p ∧ r.p ≤ 4 := by
  refine ⟨?_, okR_page _ h⟩
  simp only [okR, Bool.and_eq_true] at h
  have hf := h.2
  simp only [chg, Bool.or_eq_true, beq_iff_eq] at hc
  unfold formB at hf
  rcases hc with hk | hk | hk
  · rw [if_pos hk] at hf
    simp only [Bool.and_eq_true] at hf
    exact ofB_fit hf.1
  · rw [if_neg (by omega), if_pos hk] at hf
    simp only [Bool.and_eq_true] at hf
    exact ofB_fit hf.1
  · rw [if_neg (by omega), if_neg (by omega), if_pos hk] at hf
    simp only [Bool.and_eq_true] at hf
    exact ofB_fit hf.1
/-- a record with the number of the last one of its transaction -/
def withPrev (e : EE) (r : R) : R := ⟨r.k, r.t, r.p, r.s, r.o, r.n, (lastN e.log r.t e.log.length : Int), r.x⟩
/-- an engine with a record more -/
def pushE (e : EE) (r : R) : EE := ⟨e.disk, if chg r.k then e.mem.set r.p.toNat (doPP (e.mem.getD r.p.toNat (0, 0, [])) r ((e.log.length : Int) + 1)) else e.mem, e.log ++ [r], e.safe, e.down⟩
/-- whether there is room for it -/
def roomB (e : EE) (r : R) : Bool := decide (e.log.length + 1 + needN (e.log ++ [r]) (e.log.length + 1) ≤ 150)
/-- 'l12Add' -/
def addE (e : EE) (r : R) : EE × Bool := if roomB e (withPrev e r) then (pushE e (withPrev e r), true) else (e, false)
/-- a record that may follow -/
structure Next (e : EE) (r : R) : Prop where
  ok : okR r = true
  v : r.v = (lastN e.log r.t e.log.length : Int)
  x : r.x ≤ e.log.length
  t : r.x = 0 ∨ (recAt e.log (r.x - 1).toNat).t = r.t
theorem mem_at {ps : List PP} (h : ps.length = 5) {p : Int} (h0 : 0 ≤ p) (h4 : p ≤ 4) : ps.getD p.toNat (0, 0, []) ∈ ps := by
  rw [List.getD_eq_getElem?_getD, List.getElem?_eq_getElem (by omega)]
  exact List.getElem_mem _
theorem push_inv {e : EE} {r : R} (h : Inv e) (hn : Next e r) (hr : roomB e r = true) : Inv (pushE e r) := by
  have hroom : e.log.length + 1 + needN (e.log ++ [r]) (e.log.length + 1) ≤ 150 := by simpa [roomB] using hr
  have hfalls := (good_of_log h.log).falls
  refine ⟨h.d5, ?_, h.d, ?_, logB_more h.log hn.ok hn.v hn.x hn.t (by omega), roomy_more hfalls h.room hroom, h.s0, ?_⟩
  · show (if chg r.k then _ else _ : List PP).length = 5
    split
    · rw [List.length_set]
      exact h.m5
    · exact h.m5
  · show ∀ p ∈ (if chg r.k then _ else _ : List PP), okPP p ∧ p.1 ≤ ((e.log ++ [r]).length : Int)
    rw [List.length_append]
    intro p hp
    split at hp
    · next hc =>
      obtain ⟨hf, p0, p4⟩ := okR_fit hn.ok hc
      rcases List.mem_or_eq_of_mem_set hp with hp | rfl
      · have := h.m p hp
        refine ⟨this.1, ?_⟩
        have := this.2
        simp
        omega
      · exact ⟨okPP_do (h.m _ (mem_at h.m5 p0 p4)).1 hf (by omega), by simp [doPP]⟩
    · have := h.m p hp
      refine ⟨this.1, ?_⟩
      have := this.2
      simp
      omega
  · show e.safe ≤ ((e.log ++ [r]).length : Int)
    rw [List.length_append]
    have := h.s1
    simp
    omega
theorem add_inv {e : EE} {r : R} (h : Inv e) (hn : Next e (withPrev e r)) : Inv (addE e r).1 := by
  unfold addE
  cases hr : roomB e (withPrev e r)
  · exact h
  · exact push_inv h hn hr
/-- the record that undoes one, or ends: 'l13Step' -/
def stepR (e : EE) (t : Int) : R :=
  match backC e.log (lastN e.log t e.log.length) with
  | 0 => ⟨5, t, 0, 0, 0, 0, 0, 0⟩
  | b + 1 => ⟨6, (recAt e.log b).t, (recAt e.log b).p, (recAt e.log b).s, 0, (recAt e.log b).o, (lastN e.log t e.log.length : Int), (recAt e.log b).v⟩
def stepE (e : EE) (t : Int) : EE := (addE e (stepR e t)).1

theorem lastN_tx {rs : List R} {t : Int} : ∀ {n m : Nat}, lastN rs t n = m + 1 → (recAt rs m).t = t ∧ m < n
  | 0, m, h => by cases h
  | n + 1, m, h => by
    unfold lastN at h
    split at h
    · next ht =>
      split at h
      · cases h
      · obtain rfl : n = m := by omega
        exact ⟨ht, by omega⟩
    · have := lastN_tx (n := n) h
      exact ⟨this.1, by omega⟩
theorem log_step {rs : List R} (h : logB rs = true) {j : Nat} (hj : j < rs.length) : okR (recAt rs j) = true ∧ (recAt rs j).v = (lastN rs (recAt rs j).t j : Int) ∧ (recAt rs j).x ≤ j ∧ ((recAt rs j).x = 0 ∨ (recAt rs ((recAt rs j).x - 1).toNat).t = (recAt rs j).t) := by
  unfold logB at h
  simp only [Bool.and_eq_true] at h
  have h1 := logN_mono rs rs.length (j + 1) (by omega) h.1
  unfold logN at h1
  simp only [Bool.and_eq_true] at h1
  have h2 := h1.2
  unfold stepB at h2
  simp only [Bool.and_eq_true, beq_iff_eq, decide_eq_true_eq, Bool.or_eq_true] at h2
  exact h2
theorem prev_tx {rs : List R} (h : logB rs = true) {j m : Nat} (hj : j < rs.length) (hv : (recAt rs j).v.toNat = m + 1) : (recAt rs m).t = (recAt rs j).t := by
  have hs := (log_step h hj).2.1
  exact (lastN_tx (n := j) (by rw [hs] at hv; simpa using hv)).1
/-- what is undone from one's record on is one's own -/
theorem back_tx {rs : List R} (h : logB rs = true) : ∀ a, a ≤ rs.length → ∀ m, a = m + 1 → ∀ b, backC rs a = b + 1 → (recAt rs b).t = (recAt rs m).t ∧ b < rs.length := by
  intro a
  induction a using Nat.strongRecOn with
  | ind a ih =>
    intro ha m hm b hb
    subst hm
    have hg := good_of_log h m (by omega)
    rw [backC_step (good_of_log h).falls (show m < rs.length by omega)] at hb
    split at hb
    · obtain rfl : m = b := by omega
      exact ⟨rfl, by omega⟩
    split at hb
    · cases hx : (recAt rs m).x.toNat with
      | zero => rw [hx] at hb; cases hb
      | succ c =>
        rw [hx] at hb
        have h1 := ih (c + 1) (by omega) (by omega) c rfl b hb
        have h2 := (log_step h (show m < rs.length by omega)).2.2.2
        rcases h2 with h2 | h2
        · omega
        · rw [show ((recAt rs m).x - 1).toNat = c by omega] at h2
          exact ⟨h1.1.trans h2, h1.2⟩
    · cases hv : (recAt rs m).v.toNat with
      | zero => rw [hv] at hb; cases hb
      | succ c =>
        rw [hv] at hb
        have h1 := ih (c + 1) (by omega) (by omega) c rfl b hb
        exact ⟨h1.1.trans (prev_tx h (by omega) hv), h1.2⟩
theorem log_len {rs : List R} (h : logB rs = true) : rs.length ≤ 150 := by
  unfold logB at h
  simp only [Bool.and_eq_true, decide_eq_true_eq] at h
  exact h.2
theorem okR_undo {r : R} (hr : okR r = true) (hu : undoable r = true) {v : Int} (h0 : 0 ≤ v) (h1 : v ≤ 150) : okR ⟨6, r.t, r.p, r.s, 0, r.o, v, r.v⟩ = true := by
  have hp := okR_prev _ hr
  simp only [okR, Bool.and_eq_true] at hr ⊢
  have hf := hr.2
  refine ⟨⟨hr.1.1, by simp [inB, h0, h1], by simp [inB, hp.1, hp.2]⟩, ?_⟩
  have hof : ofB r = true := by
    unfold formB at hf
    simp only [undoable, Bool.or_eq_true, beq_iff_eq] at hu
    rcases hu with hk | hk
    · rw [if_pos hk] at hf
      simp only [Bool.and_eq_true] at hf
      exact hf.1
    · rw [if_neg (by omega), if_pos hk] at hf
      simp only [Bool.and_eq_true] at hf
      exact hf.1
  show ((ofB ⟨6, r.t, r.p, r.s, 0, r.o, v, r.v⟩) && ((0 : Int) == 0)) = true
  simp only [ofB, inB, Bool.and_eq_true, decide_eq_true_eq, beq_self_eq_true, and_true] at hof ⊢
  obtain ⟨a, b, ⟨c0, c1⟩, d⟩ := hof
  exact ⟨a, b, ⟨by omega, by omega⟩, c0, c1⟩
/-- a step of undoing follows, there is room for it, and it takes one from the need -/
theorem stepE_next {e : EE} {t : Int} (h : Inv e) (t1 : 1 ≤ t) (t3 : t ≤ 3) (hl : lastN e.log t e.log.length ≠ 0) :
    Next e (withPrev e (stepR e t)) ∧ roomB e (withPrev e (stepR e t)) = true ∧ needN (stepE e t).log (stepE e t).log.length + 1 = needN e.log e.log.length ∧ (withPrev e (stepR e t)).t = t := by
  have hf := (good_of_log h.log).falls
  have hle := lastN_le e.log t e.log.length
  have hlen := log_len h.log
  have hroom := h.room e.log.length (Nat.le_refl _)
  obtain ⟨m, hm⟩ : ∃ m, lastN e.log t e.log.length = m + 1 := ⟨lastN e.log t e.log.length - 1, by omega⟩
  have htx := lastN_tx hm
  have key : ∀ r : R, withPrev e (stepR e t) = r → r.t = t → Next e r → (needN (e.log ++ [r]) (e.log.length + 1) + 1 = needN e.log e.log.length) →
      Next e (withPrev e (stepR e t)) ∧ roomB e (withPrev e (stepR e t)) = true ∧ needN (stepE e t).log (stepE e t).log.length + 1 = needN e.log e.log.length ∧ (withPrev e (stepR e t)).t = t := by
    intro r hr ht hn hneed
    have hrb : roomB e r = true := by
      unfold roomB
      rw [decide_eq_true_eq]
      omega
    refine ⟨by rw [hr]; exact hn, by rw [hr]; exact hrb, ?_, by rw [hr]; exact ht⟩
    unfold stepE addE
    rw [hr, hrb]
    show needN (e.log ++ [r]) (e.log ++ [r]).length + 1 = _
    rw [List.length_append]
    exact hneed
  cases hb : backC e.log (lastN e.log t e.log.length) with
  | zero =>
    have hw : withPrev e (stepR e t) = ⟨5, t, 0, 0, 0, 0, (lastN e.log t e.log.length : Int), 0⟩ := by
      unfold stepR
      rw [hb]
      rfl
    refine key _ hw rfl ⟨?_, rfl, (show (0 : Int) ≤ _ by omega), .inl rfl⟩ ?_
    · simp only [okR, formB, inB]
      simp
      omega
    · have hu : undoC e.log (lastN e.log t e.log.length) = 0 := by
        rcases undo_back hf _ hle with ⟨_, h1⟩ | ⟨b, h1, _⟩
        · exact h1
        · omega
      have := need_end (r := ⟨5, t, 0, 0, 0, 0, (lastN e.log t e.log.length : Int), 0⟩) hf t1 t3 rfl rfl rfl hl
      simp only [hu] at this
      omega
  | succ b =>
    have hbt := back_tx h.log _ hle m hm b hb
    have hbo := (log_step h.log hbt.2)
    have hund : undoable (recAt e.log b) = true := by
      rcases undo_back hf _ hle with ⟨h1, _⟩ | ⟨b', h1, h2, _⟩
      · omega
      · obtain rfl : b = b' := by omega
        exact h2
    have htb : (recAt e.log b).t = t := hbt.1.trans htx.1
    have hw : withPrev e (stepR e t) = ⟨6, (recAt e.log b).t, (recAt e.log b).p, (recAt e.log b).s, 0, (recAt e.log b).o, (lastN e.log (recAt e.log b).t e.log.length : Int), (recAt e.log b).v⟩ := by
      unfold stepR
      rw [hb]
      rfl
    have hgb := good_of_log h.log b hbt.2
    refine key _ hw htb ⟨okR_undo hbo.1 hund (by omega) (by rw [htb]; omega), rfl, by show (recAt e.log b).v ≤ _; omega, ?_⟩ ?_
    · show (recAt e.log b).v = 0 ∨ (recAt e.log ((recAt e.log b).v - 1).toNat).t = (recAt e.log b).t
      cases hv : (recAt e.log b).v.toNat with
      | zero => exact .inl (by omega)
      | succ c =>
        refine .inr ?_
        rw [show ((recAt e.log b).v - 1).toNat = c by omega]
        exact prev_tx h.log hbt.2 hv
    · exact need_undo (b := b) hf (by rw [htb]; exact t1) (by rw [htb]; exact t3) rfl rfl (by rw [htb]; exact hb) rfl
theorem step_inv {e : EE} {t : Int} (h : Inv e) (t1 : 1 ≤ t) (t3 : t ≤ 3) (hl : lastN e.log t e.log.length ≠ 0) : Inv (stepE e t) := add_inv h (stepE_next h t1 t3 hl).1
end Go.Proofs.Ytejbmjdipfcblaa.Base

/-
  The model's engine as pure data: what each event makes of it; each keeps what holds throughout a play. No conditions.
-/
namespace Go.Proofs.Ytejbmjdipfcblaa.Base
open Go.RowKit

/-- page p of some -/
def pgE (ps : List PP) (p : Int) : PP := ps.getD p.toNat (0, 0, [])
/-- who holds page p: 'l11Lock' -/
def lockE (l : List R) (p : Int) : Int := if hasB l 1 p then 1 else if hasB l 2 p then 2 else if hasB l 3 p then 3 else 0
theorem lockE_range (l : List R) (p : Int) : 0 ≤ lockE l p ∧ lockE l p ≤ 3 := by
  unfold lockE
  split
  · omega
  split
  · omega
  split <;> omega
/-- 'l12May' -/
def mayE (e : EE) (t p : Int) : Bool := !e.down && (inB t 1 3 && (inB p 0 4 && ((lockE e.log p == 0) || (lockE e.log p == t))))
theorem mayE_in {e : EE} {t p : Int} (h : mayE e t p = true) : (1 ≤ t ∧ t ≤ 3) ∧ 0 ≤ p ∧ p ≤ 4 := by
  simp only [mayE, inB, Bool.and_eq_true, decide_eq_true_eq] at h
  exact ⟨h.2.1, h.2.2.1⟩
/-- 'l12Put' -/
def putB (e : EE) (t p s v : Int) : Bool := mayE e t p && (inB s 0 2 && (inB v 0 9 && !((pgE e.mem p).2.1 == 0)))
def putR (e : EE) (t p s v : Int) : R := ⟨1, t, p, s, (pgE e.mem p).2.2.getD s.toNat 0, v, 0, 0⟩
def putE (e : EE) (t p s v : Int) : EE × Bool := if putB e t p s v then addE e (putR e t p s v) else (e, false)
/-- 'l12Own' -/
def ownB (e : EE) (t p n : Int) : Bool := mayE e t p && (inB n 0 3 && (!(((pgE e.mem p).2.1 == 0) == (n == 0)) && zerosB (pgE e.mem p).2.2))
def ownR (e : EE) (t p n : Int) : R := ⟨2, t, p, -1, (pgE e.mem p).2.1, n, 0, 0⟩
def ownE (e : EE) (t p n : Int) : EE × Bool := if ownB e t p n then addE e (ownR e t p n) else (e, false)
/-- 'l12Took' -/
def tookR (p : Int) (r : R) : Bool := (r.k == 2) && ((r.p == p) && decide (0 < r.n))
def tookIn (l : List R) (c : List Nat) (p : Int) : Bool := c.any fun n => tookR p (recAt l (n - 1))
def tookB (l : List R) (t p : Int) : Bool := tookIn l (chainC l (at0 l t)) p
/-- values -/
def goodZ (zs : List Int) : Bool := zs.all fun z => inB z 0 9
/-- 'l12Load' -/
def loadB (e : EE) (t p : Int) (zs : List Int) : Bool := mayE e t p && ((zs.length == 3) && (!((pgE e.mem p).2.1 == 0) && (zerosB (pgE e.mem p).2.2 && (tookB e.log t p && goodZ zs))))
def fillE (e : EE) (p : Int) (zs : List Int) : EE := ⟨e.disk, e.mem.set p.toNat ((e.log.length : Int), (pgE e.mem p).2.1, zs), e.log, e.safe, e.down⟩
def loadE (e : EE) (t p : Int) (zs : List Int) : EE × Bool :=
  if loadB e t p zs then (if (addE e ⟨3, t, p, 0, 0, 0, 0, 0⟩).2 then (fillE (addE e ⟨3, t, p, 0, 0, 0, 0, 0⟩).1 p zs, true) else ((addE e ⟨3, t, p, 0, 0, 0, 0, 0⟩).1, false)) else (e, false)
/-- 'l11Write' -/
def writeE (e : EE) (p : Int) : EE := ⟨e.disk.set p.toNat (pgE e.mem p), e.mem, e.log, max e.safe (pgE e.mem p).1, e.down⟩
/-- the pages that the records of a chain load, written -/
def doneW (l : List R) (e : EE) (c : List Nat) : EE := c.foldl (fun e n => if (recAt l (n - 1)).k = 3 then writeE e (recAt l (n - 1)).p else e) e
/-- all records are safe -/
def safeE (e : EE) : EE := ⟨e.disk, e.mem, e.log, (e.log.length : Int), e.down⟩
/-- 'l13Done' -/
def doneE (e : EE) (t : Int) : EE × Bool :=
  if e.down || (!(inB t 1 3) || (at0 e.log t == 0)) then (e, false) else (safeE (addE (doneW e.log e (chainC e.log (at0 e.log t))) ⟨4, t, 0, 0, 0, 0, 0, 0⟩).1, true)
/-- 'l13Undo' -/
def undoN : Nat → EE → Int → EE
  | 0, e, _ => e
  | n + 1, e, t => if lastN e.log t e.log.length = 0 then e else undoN n (stepE e t) t
def undoE (e : EE) (t : Int) : EE × Bool :=
  if e.down || (!(inB t 1 3) || (at0 e.log t == 0)) then (e, false) else (undoN (needN e.log e.log.length) e t, true)
/-- 'l21Fall' -/
def leftE (e : EE) (n : Int) : Nat := (max e.safe (min n (e.log.length : Int))).toNat
def fallE (e : EE) (n : Int) : EE := ⟨e.disk, e.disk, e.log.take (leftE e n), e.safe, true⟩
/-- 'l11Redo', of the first n records -/
def redo1 (ps : List PP) (r : R) (n : Nat) : List PP := if chg r.k && decide ((pgE ps r.p).1 < (n : Int) + 1) then ps.set r.p.toNat (doPP (pgE ps r.p) r ((n : Int) + 1)) else ps
def redoN (l : List R) (ps : List PP) : Nat → List PP
  | 0 => ps
  | n + 1 => redo1 (redoN l ps n) (recAt l n) n
/-- 'l21First' -/
def firstE (l : List R) : Int := if lastN l 1 l.length = 0 then (if lastN l 2 l.length = 0 then (if lastN l 3 l.length = 0 then 0 else 3) else 2) else 1
theorem firstE_in {l : List R} (h : firstE l ≠ 0) : (1 ≤ firstE l ∧ firstE l ≤ 3) ∧ lastN l (firstE l) l.length ≠ 0 := by
  unfold firstE at h ⊢
  split
  · next h1 =>
    rw [if_pos h1] at h
    split
    · next h2 =>
      rw [if_pos h2] at h
      split
      · next h3 =>
        rw [if_pos h3] at h
        exact absurd rfl h
      · next h3 => exact ⟨by omega, h3⟩
    · next h2 => exact ⟨by omega, h2⟩
  · next h1 => exact ⟨by omega, h1⟩
theorem firstE_le (l : List R) : 0 ≤ firstE l ∧ firstE l ≤ 3 := by
  by_cases h : firstE l = 0
  · omega
  · have := (firstE_in h).1
    omega
/-- 'l21Up' -/
def upN : Nat → EE → EE
  | 0, e => e
  | n + 1, e => if firstE e.log = 0 then e else upN n (stepE e (firstE e.log))
def riseE (e : EE) : EE := ⟨e.disk, redoN e.log e.disk e.log.length, e.log, e.safe, e.down⟩
def backE (e : EE) : EE := ⟨e.disk, e.disk, e.log, e.safe, e.down⟩
def liveE (e : EE) : EE := ⟨e.disk, e.mem, e.log, e.safe, false⟩
def upE (e : EE) (n : Int) : EE × Bool := if firstE (upN n.toNat (riseE e)).log = 0 then (liveE (upN n.toNat (riseE e)), true) else (backE (upN n.toNat (riseE e)), false)
/-- an event -/
structure Ev where
  k : Int
  t : Int
  p : Int
  s : Int
  n : Int
  zs : List Int
/-- 'l22Do' -/
def doE (e : EE) (v : Ev) : EE :=
  if v.k = 1 then (putE e v.t v.p v.s v.n).1
  else if v.k = 2 then (ownE e v.t v.p v.n).1
  else if v.k = 3 then (loadE e v.t v.p v.zs).1
  else if v.k = 4 then (doneE e v.t).1
  else if v.k = 5 then (undoE e v.t).1
  else if v.k = 6 then (if !e.down && inB v.p 0 4 then writeE e v.p else e)
  else if v.k = 7 then (if e.down then e else safeE e)
  else if v.k = 8 then (if 0 ≤ v.n then fallE e v.n else e)
  else if v.k = 9 then (if decide (0 ≤ v.n) && e.down then (upE e v.n).1 else e)
  else e

section
variable {e : EE} {t p s v n : Int} {zs : List Int}
theorem lastN_le150 (h : Inv e) (t : Int) : 0 ≤ (lastN e.log t e.log.length : Int) ∧ (lastN e.log t e.log.length : Int) ≤ 150 := by
  have h1 := lastN_le e.log t e.log.length
  have h2 := log_len h.log
  omega
theorem at0_last (h : Inv e) (t : Int) : at0 e.log t = lastN e.log t e.log.length := by
  unfold at0
  rw [lastB_yes _ _ h.log]
  simp
theorem okR_mk1 {t p s o v l : Int} (t1 : 1 ≤ t) (t3 : t ≤ 3) (p0 : 0 ≤ p) (p4 : p ≤ 4) (s0 : 0 ≤ s) (s2 : s ≤ 2) (o0 : 0 ≤ o) (o9 : o ≤ 9) (v0 : 0 ≤ v) (v9 : v ≤ 9) (l0 : 0 ≤ l) (l1 : l ≤ 150) : okR ⟨1, t, p, s, o, v, l, 0⟩ = true := by
  have hs : ¬ s < 0 := by omega
  simp [okR, formB, ofB, most, inB, hs]
  omega
theorem okR_mk2 {t p o v l : Int} (t1 : 1 ≤ t) (t3 : t ≤ 3) (p0 : 0 ≤ p) (p4 : p ≤ 4) (o0 : 0 ≤ o) (o9 : o ≤ 3) (v0 : 0 ≤ v) (v9 : v ≤ 3) (l0 : 0 ≤ l) (l1 : l ≤ 150) : okR ⟨2, t, p, -1, o, v, l, 0⟩ = true := by
  simp [okR, formB, ofB, most, inB]
  omega
theorem okR_mk3 {t p l : Int} (t1 : 1 ≤ t) (t3 : t ≤ 3) (p0 : 0 ≤ p) (p4 : p ≤ 4) (l0 : 0 ≤ l) (l1 : l ≤ 150) : okR ⟨3, t, p, 0, 0, 0, l, 0⟩ = true := by
  simp [okR, formB, inB]
  omega
theorem okR_mk4 {t l : Int} (t1 : 1 ≤ t) (t3 : t ≤ 3) (l0 : 0 ≤ l) (l1 : l ≤ 150) : okR ⟨4, t, 0, 0, 0, 0, l, 0⟩ = true := by
  simp [okR, formB, inB]
  omega
theorem next_put (h : Inv e) (hb : putB e t p s v = true) : Next e (withPrev e (putR e t p s v)) := by
  simp only [putB, Bool.and_eq_true] at hb
  obtain ⟨hm, hs, hv, ho⟩ := hb
  obtain ⟨⟨t1, t3⟩, p0, p4⟩ := mayE_in hm
  have hl := lastN_le150 h t
  have hp := (h.m _ (mem_at h.m5 p0 p4)).1
  simp only [inB, Bool.and_eq_true, decide_eq_true_eq] at hs hv
  have hz : 0 ≤ (pgE e.mem p).2.2.getD s.toNat 0 ∧ (pgE e.mem p).2.2.getD s.toNat 0 ≤ 9 := by
    have h3 := hp.n
    rw [List.getD_eq_getElem?_getD, List.getElem?_eq_getElem (by show s.toNat < _; unfold pgE; omega)]
    exact hp.z _ (List.getElem_mem _)
  exact ⟨okR_mk1 t1 t3 p0 p4 hs.1 hs.2 hz.1 hz.2 hv.1 hv.2 hl.1 hl.2, rfl, (show (0 : Int) ≤ _ by omega), .inl rfl⟩
theorem next_own (h : Inv e) (hb : ownB e t p n = true) : Next e (withPrev e (ownR e t p n)) := by
  simp only [ownB, Bool.and_eq_true] at hb
  obtain ⟨hm, hn, -, -⟩ := hb
  obtain ⟨⟨t1, t3⟩, p0, p4⟩ := mayE_in hm
  have hl := lastN_le150 h t
  have hp := (h.m _ (mem_at h.m5 p0 p4)).1.o
  simp only [inB, Bool.and_eq_true, decide_eq_true_eq] at hn
  have hp' : 0 ≤ (pgE e.mem p).2.1 ∧ (pgE e.mem p).2.1 ≤ 3 := hp
  exact ⟨okR_mk2 t1 t3 p0 p4 hp'.1 hp'.2 hn.1 hn.2 hl.1 hl.2, rfl, (show (0 : Int) ≤ _ by omega), .inl rfl⟩
theorem next_load (h : Inv e) (t1 : 1 ≤ t) (t3 : t ≤ 3) (p0 : 0 ≤ p) (p4 : p ≤ 4) : Next e (withPrev e ⟨3, t, p, 0, 0, 0, 0, 0⟩) := by
  have hl := lastN_le150 h t
  exact ⟨okR_mk3 t1 t3 p0 p4 hl.1 hl.2, rfl, (show (0 : Int) ≤ _ by omega), .inl rfl⟩
theorem next_done (h : Inv e) (t1 : 1 ≤ t) (t3 : t ≤ 3) : Next e (withPrev e ⟨4, t, 0, 0, 0, 0, 0, 0⟩) := by
  have hl := lastN_le150 h t
  exact ⟨okR_mk4 t1 t3 hl.1 hl.2, rfl, (show (0 : Int) ≤ _ by omega), .inl rfl⟩
theorem put_inv (h : Inv e) : Inv (putE e t p s v).1 := by
  unfold putE
  split
  · next hb => exact add_inv h (next_put h hb)
  · exact h
theorem own_inv (h : Inv e) : Inv (ownE e t p n).1 := by
  unfold ownE
  split
  · next hb => exact add_inv h (next_own h hb)
  · exact h
theorem good_in (hg : goodZ zs = true) : ∀ z ∈ zs, 0 ≤ z ∧ z ≤ 9 := fun z hz => by
  have := List.all_eq_true.1 hg z hz
  simpa [inB] using this
theorem fill_inv (h : Inv e) (p0 : 0 ≤ p) (p4 : p ≤ 4) (h3 : zs.length = 3) (hg : goodZ zs = true) : Inv (fillE e p zs) := by
  have hp := (h.m _ (mem_at h.m5 p0 p4)).1.o
  refine ⟨h.d5, ?_, h.d, ?_, h.log, h.room, h.s0, h.s1⟩
  · show (e.mem.set _ _).length = 5
    rw [List.length_set]
    exact h.m5
  · intro q hq
    rcases List.mem_or_eq_of_mem_set hq with hq | rfl
    · exact h.m q hq
    · exact ⟨⟨by simp, hp, h3, good_in hg⟩, Int.le_refl _⟩
theorem load_inv (h : Inv e) : Inv (loadE e t p zs).1 := by
  unfold loadE
  split
  · next hb =>
    simp only [loadB, Bool.and_eq_true, beq_iff_eq] at hb
    obtain ⟨hm, h3, -, -, -, hg⟩ := hb
    obtain ⟨⟨t1, t3⟩, p0, p4⟩ := mayE_in hm
    have ha := add_inv h (next_load h t1 t3 p0 p4)
    split
    · exact fill_inv ha p0 p4 h3 hg
    · exact ha
  · exact h
theorem write_inv (h : Inv e) (p0 : 0 ≤ p) (p4 : p ≤ 4) : Inv (writeE e p) := by
  have hp := h.m _ (mem_at h.m5 p0 p4)
  have hp1 : (pgE e.mem p).1 ≤ e.log.length := hp.2
  have s0 := h.s0
  have s1 := h.s1
  refine ⟨?_, h.m5, ?_, h.m, h.log, h.room, (show 0 ≤ max e.safe (pgE e.mem p).1 by omega), (show max e.safe (pgE e.mem p).1 ≤ (e.log.length : Int) by omega)⟩
  · show (e.disk.set _ _).length = 5
    rw [List.length_set]
    exact h.d5
  · intro q hq
    show okPP q ∧ q.1 ≤ max e.safe (pgE e.mem p).1
    rcases List.mem_or_eq_of_mem_set hq with hq | rfl
    · have := h.d q hq
      exact ⟨this.1, by omega⟩
    · exact ⟨hp.1, by unfold pgE; omega⟩
theorem safe_inv (h : Inv e) : Inv (safeE e) :=
  ⟨h.d5, h.m5, fun q hq => ⟨(h.d q hq).1, Int.le_trans (h.d q hq).2 h.s1⟩, h.m, h.log, h.room, (show (0 : Int) ≤ (e.log.length : Int) by omega), Int.le_refl _⟩
theorem doneW_log (l : List R) : ∀ (c : List Nat) (e : EE), (doneW l e c).log = e.log ∧ (doneW l e c).down = e.down
  | [], e => ⟨rfl, rfl⟩
  | n :: c, e => by
    have := doneW_log l c (if (recAt l (n - 1)).k = 3 then writeE e (recAt l (n - 1)).p else e)
    show (doneW l (if (recAt l (n - 1)).k = 3 then writeE e (recAt l (n - 1)).p else e) c).log = _ ∧ (doneW l (if (recAt l (n - 1)).k = 3 then writeE e (recAt l (n - 1)).p else e) c).down = _
    rw [this.1, this.2]
    split <;> exact ⟨rfl, rfl⟩
theorem done1_inv {l : List R} (h : Inv e) {m : Nat} (hl : logB l = true) (hm : m < l.length) : Inv (if (recAt l m).k = 3 then writeE e (recAt l m).p else e) := by
  have hp := okR_page _ (log_step hl hm).1
  split
  · exact write_inv h hp.1 hp.2
  · exact h
theorem doneW_inv {l : List R} (hl : logB l = true) : ∀ (c : List Nat) (e : EE), (∀ n ∈ c, 1 ≤ n ∧ n ≤ l.length) → Inv e → Inv (doneW l e c)
  | [], e, _, h => h
  | n :: c, e, hc, h => by
    have hn := hc n (by simp)
    exact doneW_inv hl c _ (fun k hk => hc k (by simp [hk])) (done1_inv h hl (show n - 1 < l.length by omega))
theorem chain_in (l : List R) (k : Nat) (hk : k ≤ l.length) (hs : ∀ j, j < k → stepB l j = true) : ∀ n ∈ chainC l k, 1 ≤ n ∧ n ≤ l.length := by
  induction k using Nat.strongRecOn with
  | _ k ih =>
    intro n hn
    match k with
    | 0 =>
      simp [chainC, chainN] at hn
    | k + 1 =>
      rw [chainC_step l k _ hs (by omega)] at hn
      have hp := (step_prev l k (hs k (by omega))).1
      rcases List.mem_cons.1 hn with rfl | hn
      · omega
      · exact ih _ (by omega) (by omega) (fun j hj => hs j (by omega)) n hn
theorem done_inv (h : Inv e) : Inv (doneE e t).1 := by
  unfold doneE
  split
  · exact h
  · next hb =>
    simp only [Bool.or_eq_true, not_or, Bool.not_eq_true', Bool.not_eq_false, Bool.not_eq_true] at hb
    have ht := hb.2.1
    simp only [inB, Bool.and_eq_true, decide_eq_true_eq] at ht
    have hw := doneW_inv h.log (chainC e.log (at0 e.log t)) e (chain_in _ _ (at0_le e.log t).1 (at0_steps e.log t)) h
    exact safe_inv (add_inv hw (next_done hw ht.1 ht.2))
theorem undoN_inv (t1 : 1 ≤ t) (t3 : t ≤ 3) : ∀ (n : Nat) (e : EE), Inv e → Inv (undoN n e t)
  | 0, e, h => h
  | n + 1, e, h => by
    unfold undoN
    split
    · exact h
    · next hl => exact undoN_inv t1 t3 n _ (step_inv h t1 t3 hl)
theorem undo_inv (h : Inv e) : Inv (undoE e t).1 := by
  unfold undoE
  split
  · exact h
  · next hb =>
    simp only [Bool.or_eq_true, not_or, Bool.not_eq_true', Bool.not_eq_false, Bool.not_eq_true] at hb
    have ht := hb.2.1
    simp only [inB, Bool.and_eq_true, decide_eq_true_eq] at ht
    exact undoN_inv ht.1 ht.2 _ _ h
theorem leftE_le (h : Inv e) : leftE e n ≤ e.log.length ∧ e.safe ≤ leftE e n := by
  have s0 := h.s0
  have s1 := h.s1
  unfold leftE
  omega
theorem fall_inv (h : Inv e) : Inv (fallE e n) := by
  have hl := leftE_le (n := n) h
  have hlen : (e.log.take (leftE e n)).length = leftE e n := by
    rw [List.length_take]
    omega
  refine ⟨h.d5, h.d5, h.d, ?_, logB_take h.log _ hl.1, roomy_take (good_of_log h.log).falls h.room _ hl.1, h.s0, ?_⟩
  · intro q hq
    show okPP q ∧ q.1 ≤ ((e.log.take (leftE e n)).length : Int)
    rw [hlen]
    have := h.d q hq
    exact ⟨this.1, by omega⟩
  · show e.safe ≤ ((e.log.take (leftE e n)).length : Int)
    rw [hlen]
    exact hl.2
/-- pages of a log's number of records at most -/
def PsOk (ps : List PP) (n : Int) : Prop := ps.length = 5 ∧ ∀ q ∈ ps, okPP q ∧ q.1 ≤ n
theorem redo1_ok {ps : List PP} {r : R} {m : Nat} {n : Int} (h : PsOk ps n) (hr : okR r = true) (hm : (m : Int) + 1 ≤ n) : PsOk (redo1 ps r m) n := by
  unfold redo1
  split
  · next hc =>
    simp only [Bool.and_eq_true] at hc
    obtain ⟨hf, p0, p4⟩ := okR_fit hr hc.1
    refine ⟨by rw [List.length_set]; exact h.1, fun q hq => ?_⟩
    rcases List.mem_or_eq_of_mem_set hq with hq | rfl
    · exact h.2 q hq
    · exact ⟨okPP_do (h.2 _ (mem_at h.1 p0 p4)).1 hf (by omega), hm⟩
  · exact h
theorem redoN_ok {l : List R} {ps : List PP} (hl : logB l = true) (h : PsOk ps l.length) : ∀ n, n ≤ l.length → PsOk (redoN l ps n) l.length
  | 0, _ => h
  | n + 1, hn => redo1_ok (redoN_ok hl h n (by omega)) (log_step hl (by omega)).1 (by omega)
theorem disk_ok (h : Inv e) : PsOk e.disk e.log.length := ⟨h.d5, fun q hq => ⟨(h.d q hq).1, Int.le_trans (h.d q hq).2 h.s1⟩⟩
theorem rise_inv (h : Inv e) : Inv (riseE e) := by
  have hr := redoN_ok h.log (disk_ok h) e.log.length (Nat.le_refl _)
  exact ⟨h.d5, hr.1, h.d, hr.2, h.log, h.room, h.s0, h.s1⟩
theorem back_inv (h : Inv e) : Inv (backE e) := ⟨h.d5, h.d5, h.d, (disk_ok h).2, h.log, h.room, h.s0, h.s1⟩
theorem live_inv (h : Inv e) : Inv (liveE e) := ⟨h.d5, h.m5, h.d, h.m, h.log, h.room, h.s0, h.s1⟩
theorem upN_inv : ∀ (n : Nat) (e : EE), Inv e → Inv (upN n e)
  | 0, e, h => h
  | n + 1, e, h => by
    unfold upN
    split
    · exact h
    · next hf =>
      obtain ⟨⟨a, b⟩, c⟩ := firstE_in hf
      exact upN_inv n _ (step_inv h a b c)
theorem up_inv (h : Inv e) : Inv (upE e n).1 := by
  unfold upE
  have := upN_inv n.toNat _ (rise_inv h)
  split
  · exact live_inv this
  · exact back_inv this
theorem do_inv {x : Ev} (h : Inv e) : Inv (doE e x) := by
  unfold doE
  split
  · exact put_inv h
  split
  · exact own_inv h
  split
  · exact load_inv h
  split
  · exact done_inv h
  split
  · exact undo_inv h
  split
  · split
    · next hb =>
      simp only [inB, Bool.and_eq_true, decide_eq_true_eq] at hb
      exact write_inv h hb.2.1 hb.2.2
    · exact h
  split
  · split
    · exact h
    · exact safe_inv h
  split
  · split
    · exact fall_inv h
    · exact h
  split
  · split
    · exact up_inv h
    · exact h
  · exact h
end
/-- a new engine -/
def newE : EE := ⟨List.replicate 5 (0, 0, [0, 0, 0]), List.replicate 5 (0, 0, [0, 0, 0]), [], 0, false⟩
theorem new_inv : Inv newE := by
  have hp : ∀ p ∈ List.replicate 5 ((0, 0, [0, 0, 0]) : PP), okPP p ∧ p.1 ≤ 0 := fun p hp => by
    obtain rfl := List.eq_of_mem_replicate hp
    exact ⟨⟨Int.le_refl _, by simp, rfl, by simp⟩, Int.le_refl _⟩
  refine ⟨rfl, rfl, hp, hp, rfl, ?_, Int.le_refl _, Int.le_refl _⟩
  intro k hk
  obtain rfl : k = 0 := by simpa [newE] using hk
  decide
end Go.Proofs.Ytejbmjdipfcblaa.Base

/-
  Contracts of the model's l1Copy, l2Do and RecDo. Conditions: the page's slots lead to numbers.
-/
namespace Go.Proofs.Ytejbmjdipfcblaa.Base
open Go.RowKit

/-- a page with three slots in new memory -/
structure NewP (l o : Int) (zs : List Int) (w : World) (e : Ending) (w' : World) : Prop where
  kept : Below w.heap.size w w'
  some : ∃ g q cap, e = .returned (pageV l o (some ⟨g, q, none⟩) 3 cap) ∧ w.heap.size ≤ g ∧ Rd .i64 w' g q zs ∧ Wr w' g q 3 ∧ 3 ≤ cap ∧ IntB w' g

set_option maxHeartbeats 1000000 in
theorem l1Copy_any (l o x y z : Int) (a : Option Addr) (cap B : Nat) (w : World) (hB : B ≤ w.heap.size) (hz : Ints .i64 w B a [x, y, z]) :
    Calls Try.prog 89 #[pageV l o a 3 cap] w (NewP l o [x, y, z] w) := by
  have Hz := Lib.hid hz
  clear hz
  have hX : Has (((w.alloc (.cells #[.int .i64 l, .int .i64 o, .slice a 3 cap] 94)).alloc (.cells #[.int .i64 0, .int .i64 0, .slice none 0 0] 94)).alloc (.cells #[] 3)) w.heap.size 94 #[.int .i64 l, .int .i64 o, .slice a 3 cap] := ((Has.new w _ _).alloc _).alloc _
  have hY : Has (((w.alloc (.cells #[.int .i64 l, .int .i64 o, .slice a 3 cap] 94)).alloc (.cells #[.int .i64 0, .int .i64 0, .slice none 0 0] 94)).alloc (.cells #[] 3)) (w.heap.size + 1) 94 #[.int .i64 0, .int .i64 0, .slice none 0 0] := by
    have := (Has.new (w.alloc (.cells #[.int .i64 l, .int .i64 o, .slice a 3 cap] 94)) 94 #[.int .i64 0, .int .i64 0, .slice none 0 0]).alloc (.cells #[] 3)
    simpa only [World.size_alloc] using this
  have hE : Has (((w.alloc (.cells #[.int .i64 l, .int .i64 o, .slice a 3 cap] 94)).alloc (.cells #[.int .i64 0, .int .i64 0, .slice none 0 0] 94)).alloc (.cells #[] 3)) (w.heap.size + 1 + 1) 3 #[] := by
    have := Has.new ((w.alloc (.cells #[.int .i64 l, .int .i64 o, .slice a 3 cap] 94)).alloc (.cells #[.int .i64 0, .int .i64 0, .slice none 0 0] 94)) 3 #[]
    simpa only [World.size_alloc] using this
  have hW : Below w.heap.size w (((w.alloc (.cells #[.int .i64 l, .int .i64 o, .slice a 3 cap] 94)).alloc (.cells #[.int .i64 0, .int .i64 0, .slice none 0 0] 94)).alloc (.cells #[] 3)) := ((below_one _ _).alloc (by simp) _).alloc (by simp; omega) _
  have HX := Lib.hid hX
  have HY := Lib.hid hY
  have HE := Lib.hid hE
  have HW := Lib.hid hW
  clear hX hY hE hW
  go_enter Try.func89, Try.ntmps89
  go_upto_region 2 with ((at_builtin; refine wp_append_copy _ rfl (.tmp 3) (.tmp 5) rfl (w.heap.size + 1 + 1) rfl HE.out [x, y, z] B _ 3 cap rfl rfl (Hz.out.below (HW.out.mono hB)) (by simp) (by simp) ?_; intro g5 cap5 w5 cp; have gX := HX.out.grown cp.grown (fun e => by injection e; omega); have gY := HY.out.grown cp.grown (fun e => by injection e; omega); obtain ⟨x0, x1, x2⟩ := gX.three; have fx := gX.frozen 2; have X5 := Lib.hid (gX.set 2 (.slice (some ⟨g5, 0, none⟩) 3 cap5)); have Y5 := Lib.hid (gY.far (p := ⟨w.heap.size, 2, none⟩) (by simp) (.slice (some ⟨g5, 0, none⟩) 3 cap5)); have lcp := cp.low; have hcap5 : 3 ≤ cap5 := cp.fit; have W5 : Hid (Below w.heap.size w (w5.setCell ⟨w.heap.size, 2, none⟩ (.slice (some ⟨g5, 0, none⟩) 3 cap5))) := (HW.out.trans (below_grown cp.grown (by omega) (by simp; omega))).setCell (by simp) _; have rd5 : Hid (Rd .i64 (w5.setCell ⟨w.heap.size, 2, none⟩ (.slice (some ⟨g5, 0, none⟩) 3 cap5)) g5 0 [x, y, z]) := cp.rd.keep (Below.heap_setCell _ _ _ _ (by simp; omega)); have ib5 : Hid (IntB (w5.setCell ⟨w.heap.size, 2, none⟩ (.slice (some ⟨g5, 0, none⟩) 3 cap5)) g5) := cp.ib.set _ _ _; have wr5 : Hid (Wr (w5.setCell ⟨w.heap.size, 2, none⟩ (.slice (some ⟨g5, 0, none⟩) 3 cap5)) g5 0 3) := cp.wr.set _ _; clear gX gY cp HX HY HE HW))
  have X6 : Hid (Has (w5.setCell ⟨w.heap.size, 2, none⟩ (.slice (some ⟨g5, 0, none⟩) 3 cap5)) w.heap.size 94 #[.int .i64 l, .int .i64 o, .slice (some ⟨g5, 0, none⟩) 3 cap5]) := X5.out
  clear X5 x0 x1 x2 fx
  generalize (w5.setCell ⟨w.heap.size, 2, none⟩ (.slice (some ⟨g5, 0, none⟩) 3 cap5)) = w6 at *
  obtain ⟨c0, c1, c2⟩ := X6.out.three
  obtain ⟨d0, d1, d2⟩ := Y5.out.three
  have t0 := Y5.out.frozen 0
  have t1 := Y5.out.frozen 1
  have t2 := Y5.out.frozen 2
  go_wp2
  refine bodyPost_ret (v := pageV l o (some ⟨g5, 0, none⟩) 3 cap5) (by simp [results, Try.results89, go_sem, d0, d1, d2]) rfl ⟨put3_below W5.out (by omega) _ _ _, g5, 0, cap5, rfl, by omega, put3_rd rd5.out (by omega) _ _ _, put3_wr wr5.out _ _ _, hcap5, ((ib5.out.set _ _ _).set _ _ _).set _ _ _⟩

theorem set_three (x y z n : Int) (k : Nat) (hk : k < 3) : [sW 0 k n x, sW 1 k n y, sW 2 k n z] = [x, y, z].set k n := by
  match k, hk with
  | 0, _ => simp [sW]
  | 1, _ => simp [sW]
  | 2, _ => simp [sW]

theorem Rd_set {w : World} {g o : Nat} {zs : List Int} (h : Rd .i64 w g o zs) (k : Nat) (n : Int) (hk : k < zs.length) : Rd .i64 (w.setCell ⟨g, o + k, none⟩ (.int .i64 n)) g o (zs.set k n) := fun j hj => by
  rw [List.length_set] at hj
  rw [cell_set w g o j k _ _ (h k hk), h j hj]
  simp only [List.getD_eq_getElem?_getD, List.getElem?_set]
  by_cases e : j = k
  · subst e; simp [hk]
  · simp [e, Ne.symm e]

attribute [local go_sem] make3 in
set_option maxHeartbeats 2000000 in
theorem l2Do_any (l o x y z : Int) (a : Option Addr) (cap B : Nat) (r : R) (lsn : Int) (w : World) (hB : B ≤ w.heap.size) (hz : Ints .i64 w B a [x, y, z]) (h0 : -1 ≤ r.s) (h1 : r.s ≤ 2) :
    Calls Try.prog 95 #[pageV l o a 3 cap, recV r, .int .i64 lsn] w (NewP lsn (oW r.s r.n o) (newZ r [x, y, z]) w) := by
  have Hz := Lib.hid hz
  clear hz
  go_enter Try.func95, Try.ntmps95
  go_wp2_with fail
  refine (l1Copy_any l o x y z a cap B _ (by simp; omega) (Hz.out.below ((((below_one _ _).alloc (by simp) _).alloc (by simp; omega) _).mono hB))).mono ?_
  rintro e w1 ⟨b1, g, q, c, rfl, hg, hrd, hwr, hc, hib⟩
  have q1 := ((Has.new (w.alloc (.cells #[.int .i64 l, .int .i64 o, .slice a 3 cap] 94)) 27 #[.int .i64 r.k, .int .i64 r.t, .int .i64 r.p, .int .i64 r.s, .int .i64 r.o, .int .i64 r.n, .int .i64 r.v, .int .i64 r.x]).alloc (.cells #[.int .i64 0, .int .i64 0, .slice none 0 0] 94)).below b1 (by simp)
  have r1 := (Has.new ((w.alloc (.cells #[.int .i64 l, .int .i64 o, .slice a 3 cap] 94)).alloc (.cells #[.int .i64 r.k, .int .i64 r.t, .int .i64 r.p, .int .i64 r.s, .int .i64 r.o, .int .i64 r.n, .int .i64 r.v, .int .i64 r.x] 27)) 94 #[.int .i64 0, .int .i64 0, .slice none 0 0]).below b1 (by simp)
  have B1 : Below w.heap.size w w1 := (((below_one _ _).alloc (by simp) _).alloc (by simp; omega) _).trans (b1.mono (by simp; omega))
  simp only [World.size_alloc] at q1 r1 hg
  have n1 := r1.lt
  have ng := hwr.1
  have Q2 := Lib.hid (q1.alloc (.cells #[.int .i64 lsn, .int .i64 o, .slice (some ⟨g, q, none⟩) 3 c] 94))
  have R2 := Lib.hid (r1.alloc (.cells #[.int .i64 lsn, .int .i64 o, .slice (some ⟨g, q, none⟩) 3 c] 94))
  have X2 := Lib.hid (Has.new w1 94 #[.int .i64 lsn, .int .i64 o, .slice (some ⟨g, q, none⟩) 3 c])
  have B2 := Lib.hid (B1.alloc (by omega) (.cells #[.int .i64 lsn, .int .i64 o, .slice (some ⟨g, q, none⟩) 3 c] 94))
  have D2 := Lib.hid (hrd.below (below_one w1 (.cells #[.int .i64 lsn, .int .i64 o, .slice (some ⟨g, q, none⟩) 3 c] 94)) ng)
  have E2 := Lib.hid (hwr.below (below_one w1 (.cells #[.int .i64 lsn, .int .i64 o, .slice (some ⟨g, q, none⟩) 3 c] 94)) ng)
  have I2 : Hid (IntB (w1.alloc (.cells #[.int .i64 lsn, .int .i64 o, .slice (some ⟨g, q, none⟩) 3 c] 94)) g) := hib.keep (Below.heap_alloc _ _ _ ng)
  clear b1 q1 r1 B1 hrd hwr hib
  go_upto_region 3 with (fail)
  generalize (w1.alloc (.cells #[.int .i64 lsn, .int .i64 o, .slice (some ⟨g, q, none⟩) 3 c] 94)) = w2 at *
  obtain ⟨c0, c1, c2, c3, c4, c5, c6, c7⟩ := eight Q2.out
  obtain ⟨e0, e1, e2⟩ := X2.out.three
  have f1 := X2.out.frozen 1
  have f2 := X2.out.frozen 2
  by_cases hs : 0 ≤ r.s
  · obtain ⟨k, hk⟩ := Int.eq_ofNat_of_zero_le hs
    have hk3 : k < 3 := by omega
    have HO : Hid (oW r.s r.n o = o) := by show oW r.s r.n o = o; unfold oW; rw [if_neg (by omega)]
    have HN : Hid (newZ r [x, y, z] = [x, y, z].set k r.n) := by
      show newZ r [x, y, z] = [x, y, z].set k r.n
      rw [← set_three x y z r.n k hk3, newZ, hk]
      rfl
    have v0 := D2.out k (by simp; omega)
    have v1 := E2.out.2 k hk3
    have kl : (k : Int) < 3 := by omega
    have k0 : (0 : Int) ≤ k := by omega
    have hd : decide (0 ≤ r.s) = true := by simpa using hs
    rw [hk] at c3 hd
    have X3 := Lib.hid (X2.out.far (p := ⟨g, q + k, none⟩) (by simp; omega) (.int .i64 r.n))
    have R3 := Lib.hid (R2.out.far (p := ⟨g, q + k, none⟩) (by simp; omega) (.int .i64 r.n))
    have B3 := Lib.hid (B2.out.setCell (p := ⟨g, q + k, none⟩) (by simp; omega) (.int .i64 r.n))
    have D3 := Lib.hid (Rd_set D2.out k r.n (by simp; omega))
    have E3 := Lib.hid (E2.out.set ⟨g, q + k, none⟩ (.int .i64 r.n))
    have I3 := Lib.hid (I2.out.set g (q + k) (.int .i64 r.n))
    clear hs hk Q2 R2 X2 B2 D2 E2 I2
    go_upto_region 5 with (fail)
    generalize (w2.setCell ⟨g, q + k, none⟩ (.int .i64 r.n)) = w3 at *
    clear c0 c1 c2 c3 c4 c5 c6 c7 e0 e1 e2 f1 f2 v0 v1
    obtain ⟨c0, c1, c2⟩ := X3.out.three
    obtain ⟨d0, d1, d2⟩ := R3.out.three
    have t0 := R3.out.frozen 0
    have t1 := R3.out.frozen 1
    have t2 := R3.out.frozen 2
    go_wp2
    refine bodyPost_ret (v := pageV lsn o (some ⟨g, q, none⟩) 3 c) (by simp [results, Try.results95, go_sem, d0, d1, d2]) rfl ⟨put3_below B3.out (by omega) _ _ _, g, q, c, by rw [HO.out], by omega, ?_, put3_wr E3.out _ _ _, hc, ((I3.out.set _ _ _).set _ _ _).set _ _ _⟩
    rw [HN.out]
    exact put3_rd D3.out (by omega) _ _ _

  · have hs1 : r.s = -1 := by omega
    have HO : Hid (oW r.s r.n o = r.n) := by show oW r.s r.n o = r.n; unfold oW; rw [if_pos hs1]
    have hd : decide (0 ≤ r.s) = false := by simpa using hs
    have X3 : Hid (Has (w2.setCell ⟨w1.heap.size, 1, none⟩ (.int .i64 r.n)) w1.heap.size 94 #[.int .i64 lsn, .int .i64 r.n, .slice (some ⟨g, q, none⟩) 3 c]) := X2.out.set 1 (.int .i64 r.n)
    have Q3 := Lib.hid (Q2.out.far (p := ⟨w1.heap.size, 1, none⟩) (by simp; omega) (.int .i64 r.n))
    have R3 := Lib.hid (R2.out.far (p := ⟨w1.heap.size, 1, none⟩) (by simp; omega) (.int .i64 r.n))
    have B3 := Lib.hid (B2.out.setCell (p := ⟨w1.heap.size, 1, none⟩) (by simp; omega) (.int .i64 r.n))
    have D3 : Hid (Rd .i64 (w2.setCell ⟨w1.heap.size, 1, none⟩ (.int .i64 r.n)) g q [x, y, z]) := D2.out.keep (Below.heap_setCell _ _ _ _ (by simp; omega))
    have E3 := Lib.hid (E2.out.set ⟨w1.heap.size, 1, none⟩ (.int .i64 r.n))
    have I3 := Lib.hid (I2.out.set w1.heap.size 1 (.int .i64 r.n))
    clear hs Q2 R2 X2 B2 D2 E2 I2
    go_upto_region 7 with (fail)
    generalize (w2.setCell ⟨w1.heap.size, 1, none⟩ (.int .i64 r.n)) = w3 at *
    clear c0 c1 c2 c3 c4 c5 c6 c7 e0 e1 e2 f1 f2
    obtain ⟨c0, c1, c2, c3, c4, c5, c6, c7⟩ := eight Q3.out
    by_cases hn : r.n = 0
    · have HN : Hid (newZ r [x, y, z] = [0, 0, 0]) := by show newZ r [x, y, z] = [0, 0, 0]; simp [newZ, sW, hs1, hn]
      have bn : (r.n == 0) = true := by simpa using hn
      have HM := Lib.hid hn
      have x3 := X3.out
      obtain ⟨e0, e1, e2⟩ := x3.three
      have f2 := x3.frozen 2
      have nx := x3.lt
      have X4 : Hid (Has ((w3.setCell ⟨w1.heap.size, 2, none⟩ (.slice (some ⟨w3.heap.size, 0, none⟩) 3 3)).alloc (.cells #[.int .i64 0, .int .i64 0, .int .i64 0] 3)) w1.heap.size 94 #[.int .i64 lsn, .int .i64 r.n, .slice (some ⟨w3.heap.size, 0, none⟩) 3 3]) := (x3.set 2 (.slice (some ⟨w3.heap.size, 0, none⟩) 3 3)).alloc _
      have R4 := Lib.hid ((R3.out.far (p := ⟨w1.heap.size, 2, none⟩) (by simp; omega) (.slice (some ⟨w3.heap.size, 0, none⟩) 3 3)).alloc (.cells #[.int .i64 0, .int .i64 0, .int .i64 0] 3))
      have B4 := Lib.hid ((B3.out.setCell (p := ⟨w1.heap.size, 2, none⟩) (by simp; omega) (.slice (some ⟨w3.heap.size, 0, none⟩) 3 3)).alloc (by have := B3.out.size; simp; omega) (.cells #[.int .i64 0, .int .i64 0, .int .i64 0] 3))
      have n4 := Has.new (w3.setCell ⟨w1.heap.size, 2, none⟩ (.slice (some ⟨w3.heap.size, 0, none⟩) 3 3)) 3 #[.int .i64 0, .int .i64 0, .int .i64 0]
      rw [World.size_setCell] at n4
      have N4 := Lib.hid n4
      clear n4
      clear x3 hn X3 R3 B3 D3 E3 Q3
      go_upto_region 9 with (fail)
      generalize ((w3.setCell ⟨w1.heap.size, 2, none⟩ (.slice (some ⟨w3.heap.size, 0, none⟩) 3 3)).alloc (.cells #[.int .i64 0, .int .i64 0, .int .i64 0] 3)) = w4 at *
      clear c0 c1 c2 c3 c4 c5 c6 c7 e0 e1 e2 f2
      obtain ⟨c0, c1, c2⟩ := X4.out.three
      obtain ⟨d0, d1, d2⟩ := R4.out.three
      have t0 := R4.out.frozen 0
      have t1 := R4.out.frozen 1
      have t2 := R4.out.frozen 2
      go_wp2
      refine bodyPost_ret (v := pageV lsn r.n (some ⟨w3.heap.size, 0, none⟩) 3 3) (by simp [results, Try.results95, go_sem, d0, d1, d2]) rfl ⟨put3_below B4.out (by omega) _ _ _, w3.heap.size, 0, 3, by rw [HO.out], by omega, ?_, put3_wr (N4.out.wr 0 3) _ _ _, Nat.le_refl _, ((IntB.set ⟨_, N4.out⟩ _ _ _).set _ _ _).set _ _ _⟩
      rw [HN.out]
      refine put3_rd ?_ (by omega) _ _ _
      intro j hj
      have hj' : j < 3 := hj
      rw [N4.out.cell]
      match j, hj' with
      | 0, _ => rfl
      | 1, _ => rfl
      | 2, _ => rfl
    · have HN : Hid (newZ r [x, y, z] = [x, y, z]) := by show newZ r [x, y, z] = [x, y, z]; simp [newZ, sW, hs1, hn]
      have bn : (r.n == 0) = false := by simpa using hn
      clear hn Q3
      go_upto_region 9 with (fail)
      clear c0 c1 c2 c3 c4 c5 c6 c7
      obtain ⟨c0, c1, c2⟩ := X3.out.three
      obtain ⟨d0, d1, d2⟩ := R3.out.three
      have t0 := R3.out.frozen 0
      have t1 := R3.out.frozen 1
      have t2 := R3.out.frozen 2
      go_wp2
      refine bodyPost_ret (v := pageV lsn r.n (some ⟨g, q, none⟩) 3 c) (by simp [results, Try.results95, go_sem, d0, d1, d2]) rfl ⟨put3_below B3.out (by omega) _ _ _, g, q, c, by rw [HO.out], by omega, ?_, put3_wr E3.out _ _ _, hc, ((I3.out.set _ _ _).set _ _ _).set _ _ _⟩
      rw [HN.out]
      exact put3_rd D3.out (by omega) _ _ _

end Go.Proofs.Ytejbmjdipfcblaa.Base

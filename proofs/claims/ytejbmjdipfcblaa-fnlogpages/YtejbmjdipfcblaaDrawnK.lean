/-
  Contract of the model's l71Log. Only that it draws a row of records of its own is said, not which one. Conditions: the reader stands at a place that is not too far.
-/
import Derived.Test.YtejbmjdipfcblaaPlyK
import Derived.Test.YtejbmjdipfcblaaRows2K
import Derived.Test.YtejbmjdipfcblaaDrawRecK
import Derived.Test.YtejbmjdipfcblaaDrawsK
import Derived.Test.YtejbmjdipfcblaaChainsK
import Derived.Test.YtejbmjdipfcblaaNeedsK
import Derived.Test.YtejbmjdipfcblaaGroundK
import Derived.OpenShut
namespace Go.Proofs.Ytejbmjdipfcblaa.Base
open Go.RowKit

theorem OwnL.down {w : World} {base base' b o c : Nat} {rs : List R} (h : OwnL w base b o c rs) (hb : base' ≤ base) : OwnL w base' b o c rs := ⟨Nat.le_trans hb h.low, h.has, h.fit⟩
theorem cellsOfRs_set6 (z : Int) : ∀ (rs : List R) (k : Nat), k < rs.length → (cellsOfRs rs).set (k * 8 + 6) (.int .i64 z) = cellsOfRs (rs.set k ⟨(recAt rs k).k, (recAt rs k).t, (recAt rs k).p, (recAt rs k).s, (recAt rs k).o, (recAt rs k).n, z, (recAt rs k).x⟩)
  | [], k, h => by simp at h
  | r :: rs, 0, _ => by simp [cellsOfRs, R.cells, recAt]
  | r :: rs, k + 1, h => by
    have ih := cellsOfRs_set6 z rs k (by simpa using h)
    have e : cellsOfRs (r :: rs) = r.cells ++ cellsOfRs rs := by simp [cellsOfRs]
    have h8 : (R.cells r).length = 8 := rfl
    have ha : recAt (r :: rs) (k + 1) = recAt rs k := by simp [recAt]
    rw [e, ha, List.set_append_right _ _ (by omega), show (k + 1) * 8 + 6 - (R.cells r).length = k * 8 + 6 by omega, ih, List.set_cons_succ]
    simp [cellsOfRs]
theorem OwnL.setPrev {w : World} {base b o c k : Nat} {rs : List R} (h : OwnL w base b o c rs) (hk : k < rs.length) (z : Int) :
    OwnL (w.setCell ⟨b, o * 8 + k * 8 + 6, none⟩ (.int .i64 z)) base b o c (rs.set k ⟨(recAt rs k).k, (recAt rs k).t, (recAt rs k).p, (recAt rs k).s, (recAt rs k).o, (recAt rs k).n, z, (recAt rs k).x⟩) := by
  obtain ⟨cur, hH, hsz, htk⟩ := h.has
  have hf := h.fit
  refine ⟨h.low, ⟨_, hH.set (o * 8 + k * 8 + 6) _, by simp; omega, ?_⟩, by rw [List.length_set]; exact hf⟩
  rw [← cellsOfRs_set6 z rs k hk, ← htk, List.length_set]
  simp only [Array.toList_setIfInBounds]
  rw [List.drop_set, if_neg (by omega), ← List.take_set]
  congr 2
  omega
/-- what l71Log leaves -/
def LogRet (g : Nat) (a : Option Addr) (bs : List Int) (cap B : Nat) (m : Int) (w : World) (en : Ending) (w' : World) : Prop :=
  ∃ b o c rs, en = .returned (.slice (some ⟨b, o * 8, none⟩) rs.length c) ∧ OwnL w' w.heap.size b o c rs ∧ rs.length ≤ 151 ∧ w.grownBy w' (some g) ∧ ∃ p', p' ≤ m ∧ Rdr w' g a bs cap p' B
set_option maxRecDepth 100000 in
set_option maxHeartbeats 2000000 in
theorem l71Log_any (g : Nat) (a : Option Addr) (bs : List Int) (cap : Nat) (p : Int) (B : Nat) (w : World) (hr : Rdr w g a bs cap p B) (hp : p ≤ 10000000) :
    Calls Try.prog 28 #[.pointer (some ⟨g, 0, none⟩)] w (LogRet g a bs cap B (p + 1100) w) := by
  have lg := hr.has.lt
  have HR := Lib.hid hr
  clear hr
  go_enter Try.func28, Try.ntmps28
  go_wp2_with fail
  refine (l71Play_any g a bs cap p B _ HR.out hp).mono ?_
  rintro en w2 ⟨ev, x, e, rfl, hE, hI, hgr, p2, hp2, hr2⟩
  have k := below_one w2 (.cells (engC x e) 60)
  have hl150 := log_len hI.log
  have hlc := hE.l.rd.2.2
  have X4 := Lib.hid (Has.new w2 60 (engC x e))
  have LL := Lib.hid (hE.l.ownL.below k)
  have GG := Lib.hid (grown_alloc hgr (.cells (engC x e) 60))
  have RR := Lib.hid (hr2.below k hr2.has.lt)
  clear hE hI hgr hr2 k HR
  go_upto_region 2 with (fail)
  generalize (w2.alloc (.cells (engC x e) 60)) = w3 at *
  obtain ⟨c0, c1, c2, c3, c4⟩ := X4.out.five
  go_wp2_with fail
  refine (pick_any 16 g a bs cap _ B _ RR.out (by omega) (by omega) (by omega)).mono ?_
  rintro en w4 ⟨zk, rfl, zkl, zkm, hgr, -, hr⟩
  have LL' := Lib.hid (LL.out.grown hgr (fun q hq => by injection hq; omega))
  have GG' := Lib.hid (grown_two GG.out hgr)
  have RR' := Lib.hid hr
  clear hgr hr LL GG RR
  have LL := LL'
  have GG := GG'
  have RR := RR'
  clear LL' GG' RR'
  clear c0 c1 c2 c3 c4 X4
  have zkh := zkm (by omega)
  clear zkm
  by_cases h0 : zk = 0
  · subst h0
    go_wp2_with fail
    refine (l71Rec_any g a bs cap _ B _ RR.out (by omega)).mono ?_
    rintro en w5 ⟨q, rfl, hgr, p5, hp5, hr5⟩
    have LL' := Lib.hid ((LL.out.grown hgr (fun q hq => by injection hq; omega)).below (below_one w5 (.cells (recC q) 27)))
    have GG' := Lib.hid (grown_alloc (grown_two GG.out hgr) (.cells (recC q) 27))
    have RR' := Lib.hid (hr5.below (below_one w5 (.cells (recC q) 27)) hr5.has.lt)
    have X5 := Lib.hid (Has.new w5 27 (recC q))
    have s5 := GG'.out.size
    clear hgr hr5 LL GG RR
    go_wp2_with (at_builtin; refine wp_append_L _ rfl (.tmp 17) (.tmp 20) rfl (by rfl) LL'.out _ 0 1 1 [q] rfl rfl (RdR_one X5.out) (by simp; omega) s5 ?_; intro b' o' c' w6 h1 h2; have H1 := Lib.hid h1; have H2 := Lib.hid h2; clear h1 h2)
    go_ret
    have lb := LL'.out.lt
    have hap := RR'.out.apart
    exact ⟨b', o', c', e.log ++ [q], (by show Ending.returned (.slice (some ⟨b', o' * 8, none⟩) (e.log.length + 1) c') = _; simp), H1.out, by simp; omega, grown_base GG'.out (below_grown H2.out lb.1 s5), p5, by omega, RR'.out.keep (H2.out.block g RR'.out.has.lt (fun e => by injection e; omega)) (fun i hi => H2.out.block i (Nat.lt_trans (show i < g by omega) RR'.out.has.lt) (fun e => by injection e; omega))⟩
  have e0 : ((zk : Int) == 0) = false := by simpa using h0
  by_cases h1 : zk = 1
  · subst h1
    clear e0 h0
    by_cases hl : e.log.length = 0
    · have bl : decide ((0 : Int) < (e.log.length : Int)) = false := by rw [hl]; rfl
      have HL := Lib.hid hl
      go_wp2
      go_ret
      exact ⟨x.lb, 0, x.lc, e.log, (by rw [HL.out]; rfl), LL.out, by have := HL.out; omega, GG.out, _, by omega, RR.out⟩
    · have bl : decide ((0 : Int) < (e.log.length : Int)) = true := by simp; omega
      go_wp2_with fail
      refine (pick_any (e.log.length : Int) g a bs cap _ B _ RR.out (by omega) (by omega) (by omega)).mono ?_
      rintro en w5 ⟨zi, rfl, zil, zim, hgr, -, hr⟩
      have LL' := Lib.hid (LL.out.grown hgr (fun q hq => by injection hq; omega))
      have GG' := Lib.hid (grown_two GG.out hgr)
      have RR' := Lib.hid hr
      clear hgr hr LL GG RR
      have LL := LL'
      have GG := GG'
      have RR := RR'
      clear LL' GG' RR'
      have zih := zim (by omega)
      clear zim
      go_wp2_with fail
      refine (pick_any 4 g a bs cap _ B _ RR.out (by omega) (by omega) (by omega)).mono ?_
      rintro en w6 ⟨zp, rfl, zpl, zpm, hgr, -, hr⟩
      have LL' := Lib.hid (LL.out.grown hgr (fun q hq => by injection hq; omega))
      have GG' := Lib.hid (grown_two GG.out hgr)
      have RR' := Lib.hid hr
      clear hgr hr LL GG RR
      have LL := LL'
      have GG := GG'
      have RR := RR'
      clear LL' GG' RR'
      obtain ⟨i, rfl⟩ := Int.eq_ofNat_of_zero_le zil
      have hil : i < e.log.length := by omega
      have i0 : (0 : Int) ≤ (i : Int) := by omega
      have m6 := (LL.out.rd i hil).v
      simp only [Nat.zero_mul, Nat.zero_add] at m6
      obtain ⟨cur, hH, -⟩ := LL.out.has
      have f6 := Has.frozen hH (i * 8 + 6)
      have lb := LL.out.lt
      have hap := RR.out.apart
      have W1 : Hid (OwnL (w6.setCell ⟨x.lb, i * 8 + 6, none⟩ (.int .i64 zp)) w.heap.size x.lb 0 x.lc (e.log.set i ⟨(recAt e.log i).k, (recAt e.log i).t, (recAt e.log i).p, (recAt e.log i).s, (recAt e.log i).o, (recAt e.log i).n, zp, (recAt e.log i).x⟩)) := by
        have h := LL.out.setPrev hil zp
        rw [Nat.zero_mul, Nat.zero_add] at h
        exact h
      have W2 : Hid (w.grownBy (w6.setCell ⟨x.lb, i * 8 + 6, none⟩ (.int .i64 zp)) (some g)) := grown_far GG.out lb.1 _
      have W3 : Hid (Rdr (w6.setCell ⟨x.lb, i * 8 + 6, none⟩ (.int .i64 zp)) g a bs cap _ B) := RR.out.keep (Below.heap_setCell _ _ _ _ (by simp; omega)) (fun j hj => Below.heap_setCell _ _ _ _ (by simp; omega))
      clear hH
      go_wp2
      go_ret
      exact ⟨x.lb, 0, x.lc, _, (by show Ending.returned (.slice (some ⟨x.lb, 0, none⟩) e.log.length x.lc) = _; simp), W1.out, by rw [List.length_set]; omega, W2.out, _, by omega, W3.out⟩
  have e1 : ((zk : Int) == 1) = false := by simpa using h1
  by_cases h2 : zk = 2
  · subst h2
    clear e0 h0 e1 h1
    by_cases hl : e.log.length ≤ 1
    · have bl : decide ((1 : Int) < (e.log.length : Int)) = false := by simp; omega
      go_wp2
      go_ret
      exact ⟨x.lb, 0, x.lc, e.log, rfl, LL.out, by omega, GG.out, _, by omega, RR.out⟩
    · have bl : decide ((1 : Int) < (e.log.length : Int)) = true := by simp; omega
      have hl1 : (1 : Int) ≤ (e.log.length : Int) := by omega
      have hl2 : (e.log.length : Int) ≤ (x.lc : Int) := by omega
      have hl3 : ¬ x.lc = 1 := by omega
      obtain ⟨r0, tl, hlog⟩ : ∃ r0 tl, e.log = r0 :: tl := by
        cases hh : e.log with
        | nil => rw [hh] at hl; simp at hl
        | cons r0 tl => exact ⟨r0, tl, rfl⟩
      have W1 : Hid (OwnL w4 w.heap.size x.lb 1 (x.lc - 1) tl) := by
        have h := LL.out
        rw [hlog] at h
        exact h.tail
      have htl : Hid (e.log.length - 1 = tl.length) := by show _ = _; rw [hlog]; rfl
      clear hlog
      go_wp2
      go_ret
      exact ⟨x.lb, 1, x.lc - 1, tl, (by show Ending.returned (.slice (some ⟨x.lb, 8, none⟩) (e.log.length - 1) (x.lc - 1)) = _; rw [htl.out]), W1.out, by have := htl.out; omega, GG.out, _, by omega, RR.out⟩
  have e2 : ((zk : Int) == 2) = false := by simpa using h2
  go_wp2
  go_ret
  exact ⟨x.lb, 0, x.lc, e.log, rfl, LL.out, by omega, GG.out, _, by omega, RR.out⟩
end Go.Proofs.Ytejbmjdipfcblaa.Base

/-
  Contract of the model's DrawLogOk. Only that it draws a row of records of its own is said, not which one. Conditions: the code is a slice of bytes.
-/
namespace Go.Proofs.Ytejbmjdipfcblaa.Base
open Go.RowKit

/-- a drawn row of records; nothing that was there has turned -/
def DrawnLog (w : World) (en : Ending) (w' : World) : Prop :=
  ∃ b o c rs, en = .returned (.slice (some ⟨b, o * 8, none⟩) rs.length c) ∧ OwnL w' w.heap.size b o c rs ∧ rs.length ≤ 152 ∧ Below w.heap.size w w'

set_option maxRecDepth 100000 in
set_option maxHeartbeats 2000000 in
theorem drawLogOk_any (a : Option Addr) (zs : List Int) (cap B : Nat) (w : World) (hB : B ≤ w.heap.size) (hc : Bytes w B a zs cap) :
    Calls Try.prog 10 #[.slice a zs.length cap] w (DrawnLog w) := by
  have H := Lib.hid hc
  clear hc
  go_enter Try.func10, Try.ntmps10
  go_wp2_with fail
  refine (l6Open_any a zs cap B _ hB H.out.ints H.out.bytes H.out.fit H.out.most).mono ?_
  rintro en w1 ⟨a', bs, cap', rfl, b1, r1⟩
  have R1 := Lib.hid r1
  have B1 := Lib.hid b1
  have l1 := r1.has.lt
  clear r1 b1 H
  go_wp2_with fail
  refine (l71Log_any w.heap.size a' bs cap' 0 B _ R1.out (by omega)).mono ?_
  rintro en w2 ⟨b, o, c, rs, rfl, hL, hrl, hgr, p2, hp2, hr2⟩
  have LL := Lib.hid (hL.down (Nat.le_of_lt l1))
  have LB := hL.low
  have BB : Hid (Below w.heap.size w w2) := B1.out.trans (below_grown hgr (Nat.le_refl _) (Nat.le_of_lt l1))
  have RR := Lib.hid hr2
  clear hL hgr hr2 R1 B1
  go_wp2_with fail
  refine (pick_any 5 w.heap.size a' bs cap' _ B _ RR.out (by omega) (by omega) (by omega)).mono ?_
  rintro en w3 ⟨z, rfl, z0, z1, hgr, -, hr⟩
  have L3 := Lib.hid (LL.out.keep (hgr.block b LL.out.lt.2 (fun e => by injection e; omega)))
  have s2 := BB.out.size
  have B3 : Hid (Below w.heap.size w w3) := BB.out.trans (below_grown hgr (Nat.le_refl _) s2)
  have R3 := Lib.hid hr
  clear hgr hr LL BB RR z1
  by_cases h0 : z = 0
  · subst h0
    go_wp2_with fail
    refine (l71Rec_any w.heap.size a' bs cap' _ B _ R3.out (by omega)).mono ?_
    rintro en w5 ⟨q, rfl, hgr, p5, hp5, hr5⟩
    have L4 := L3.out.keep (hgr.block b L3.out.lt.2 (fun e => by injection e; omega))
    have s3 := B3.out.size
    have L5 := Lib.hid (L4.below (below_one w5 (.cells (recC q) 27)))
    have B5 : Hid (Below w.heap.size w (w5.alloc (.cells (recC q) 27))) := (B3.out.trans (below_grown hgr (Nat.le_refl _) s3)).alloc (by have := hgr.size; omega) _
    have X5 := Lib.hid (Has.new w5 27 (recC q))
    have s5 := B5.out.size
    clear hgr hr5 L4 L3 B3 R3
    go_wp2_with (at_builtin; refine wp_append_L _ rfl (.tmp 12) (.tmp 15) rfl rfl L5.out _ 0 1 1 [q] rfl rfl (RdR_one X5.out) (by simp; omega) s5 ?_; intro b' o' c' w6 h1 h2; have H1 := Lib.hid h1; have H2 := Lib.hid h2; clear h1 h2)
    go_ret
    exact ⟨b', o', c', rs ++ [q], (by show Ending.returned (.slice (some ⟨b', o' * 8, none⟩) (rs.length + 1) c') = _; simp), H1.out, by simp; omega, B5.out.trans (below_grown H2.out (by omega) s5)⟩
  · have e0 : ((z : Int) == 0) = false := by simpa using h0
    clear h0
    go_wp2
    go_ret
    exact ⟨b, o, c, rs, rfl, L3.out, by omega, B3.out⟩
end Go.Proofs.Ytejbmjdipfcblaa.Base

/-
  Contracts of the model's DrawLogLast, DrawLogPages, DrawLogChain and DrawLogOpen. Only that they draw a row of records of their own, and a number from 0 to 4, is said, not which. Conditions: the code is a slice of bytes.
-/
namespace Go.Proofs.Ytejbmjdipfcblaa.Base
open Go.RowKit

/-- a drawn row of records, and a number; nothing that was there has turned -/
def DrawnLT (w : World) (en : Ending) (w' : World) : Prop :=
  ∃ b o c rs t, en = .returned (.tuple #[.slice (some ⟨b, o * 8, none⟩) rs.length c, .int .i64 t]) ∧ OwnL w' w.heap.size b o c rs ∧ rs.length ≤ 152 ∧ 0 ≤ t ∧ t ≤ 4 ∧ Below w.heap.size w w'

theorem opens_range (rs : List R) : ∀ n z, z ∈ opens rs n → 1 ≤ z ∧ z ≤ (n : Int)
  | 0, z, h => by simp [opens] at h
  | n + 1, z, h => by
    unfold opens at h
    rw [List.mem_append] at h
    rcases h with h | h
    · have := opens_range rs n z h
      omega
    · split at h
      · simp at h
      · simp at h
        omega
theorem opens_at (rs : List R) (k : Nat) (h : k < (opens rs 3).length) : 1 ≤ (opens rs 3).getD k 0 ∧ (opens rs 3).getD k 0 ≤ 3 := by
  have e : (opens rs 3).getD k 0 = (opens rs 3)[k] := by simp [List.getD_eq_getElem?_getD, List.getElem?_eq_getElem h]
  rw [e]
  have := opens_range rs 3 _ (List.getElem_mem h)
  omega

theorem wpAnyH_more {P : Program} {ops : Array Oper} {Q : Exit → Act → World → Prop} {md : Region.Mode} {S S' : World → Prop} (h : ∀ w, S' w → S w) :
    ∀ (fuel : Nat) (listed : Array Bool) (a : Act) (w : World), wpAnyH P md ops Q S' fuel listed a w → wpAnyH P md ops Q S fuel listed a w
  | 0, _, _, _, k => k
  | fuel + 1, _, _, _, k => ⟨k.1, fun i hi => wpOp_mono (fun a' w' h' => ⟨h w' h'.1, wpAnyH_more h fuel _ a' w' h'.2⟩) (k.2 i hi)⟩

set_option maxRecDepth 100000 in
set_option maxHeartbeats 4000000 in
theorem drawLogLast_any (a : Option Addr) (zs : List Int) (cap B : Nat) (w : World) (hB : B ≤ w.heap.size) (hc : Bytes w B a zs cap) :
    Calls Try.prog 18 #[.slice a zs.length cap] w (DrawnLT w) := by
  have H := Lib.hid hc
  clear hc
  go_enter Try.func18, Try.ntmps18
  go_wp2_with fail
  refine (l6Open_any a zs cap B _ hB H.out.ints H.out.bytes H.out.fit H.out.most).mono ?_
  rintro en w1 ⟨a', bs, cap', rfl, b1, r1⟩
  have R1 := Lib.hid r1
  have B1 := Lib.hid b1
  have l1 := r1.has.lt
  clear r1 b1 H
  go_wp2_with fail
  refine (l71Log_any w.heap.size a' bs cap' 0 B _ R1.out (by omega)).mono ?_
  rintro en w2 ⟨b, o, c, rs, rfl, hL, hrl, hgr, p2, hp2, hr2⟩
  have LL := Lib.hid (hL.down (show w.heap.size + 1 ≤ w1.heap.size by omega))
  have BB : Hid (Below w.heap.size w w2) := B1.out.trans (below_grown hgr (Nat.le_refl _) (Nat.le_of_lt l1))
  have RR := Lib.hid hr2
  clear hL hgr hr2 R1 B1
  go_wp2_with fail
  go_loopw [5, 6] (fun lv iv wx => ∃ (k : Nat) (p' : Int) (b o c : Nat) (rs : List R), lv = .slice (some ⟨b, o * 8, none⟩) rs.length c ∧ iv = .int .i64 (k : Int) ∧ k ≤ 5 ∧ rs.length ≤ 151 ∧ p' ≤ 1200 * (k + 1) ∧ Rdr wx w.heap.size a' bs cap' p' B ∧ OwnL wx (w.heap.size + 1) b o c rs ∧ Below w.heap.size w wx) (fun _ iv _ => 5 - (intOf iv).toNat)
  case atStart => exact ⟨0, p2, b, o, c, rs, rfl, rfl, by omega, hrl, by omega, RR.out, LL.out, BB.out⟩
  case round =>
    clear LL BB RR hrl hp2
    obtain ⟨k, p', b, o, c, rs, rfl, rfl, hk, hrl, hp', hr, hL, hb⟩ := hrel
    have LL := Lib.hid hL
    have RR := Lib.hid hr
    have BB := Lib.hid hb
    have sx := hb.size
    clear hL hr hb
    by_cases h5 : k = 5
    · subst h5
      go_wp2_with fail
      refine (pick_any 5 w.heap.size a' bs cap' _ B _ RR.out (by omega) (by omega) (by omega)).mono ?_
      rintro en w3 ⟨z, rfl, z0, z1, hgr, -, hr⟩
      have L3 := LL.out.grown hgr (fun g hg => by injection hg; omega)
      have B3 := BB.out.trans (below_grown hgr (Nat.le_refl _) sx)
      have z2 := z1 (by omega)
      go_wp2
      exact bodyPost_ret (v := .tuple #[.slice (some ⟨b, o * 8, none⟩) rs.length c, .int .i64 z]) (by simp [results, Try.results18, go_sem]) rfl ⟨b, o, c, rs, z, rfl, L3.down (by omega), by omega, z0, by omega, B3⟩
    have hlt : decide ((k : Int) < 5) = true := by simp; omega
    go_wp2_with fail
    refine (pick_any 8 w.heap.size a' bs cap' _ B _ RR.out (by omega) (by omega) (by omega)).mono ?_
    rintro en w3 ⟨z, rfl, z0, z1, hgr, s3, hr⟩
    have L3 := Lib.hid (LL.out.grown hgr (fun g hg => by injection hg; omega))
    have B3 := Lib.hid (BB.out.trans (below_grown hgr (Nat.le_refl _) sx))
    have R3 := Lib.hid hr
    have sx3 := B3.out.size
    clear hgr hr z1 LL BB RR
    by_cases hz : z = 0
    · subst hz
      go_wp2_with fail
      refine (pick_any 5 w.heap.size a' bs cap' _ B _ R3.out (by omega) (by omega) (by omega)).mono ?_
      rintro en w4 ⟨z, rfl, z0, z1, hgr, -, hr⟩
      have L4 := L3.out.grown hgr (fun g hg => by injection hg; omega)
      have B4 := B3.out.trans (below_grown hgr (Nat.le_refl _) sx3)
      have z2 := z1 (by omega)
      go_wp2
      exact bodyPost_ret (v := .tuple #[.slice (some ⟨b, o * 8, none⟩) rs.length c, .int .i64 z]) (by simp [results, Try.results18, go_sem]) rfl ⟨b, o, c, rs, z, rfl, L4.down (by omega), by omega, z0, by omega, B4⟩
    have bz : decide ((0 : Int) < z) = true := by simp; omega
    clear hz
    have lb := L3.out.lt
    have hfit := L3.out.fit
    go_wp2_with fail
    refine (specLogOpen_any rs (some ⟨b, o * 8, none⟩) c w3.heap.size _ (Nat.le_refl _) (L3.out.rd.recs lb.2) hfit (by omega)).mono ?_
    rintro en w4 ⟨oa, oc, rfl, b4, m4⟩
    have L4 := Lib.hid (L3.out.below b4)
    have B4 := Lib.hid (B3.out.trans (b4.mono sx3))
    have R4 := Lib.hid (R3.out.below b4 R3.out.has.lt)
    have M4 := Lib.hid (m4.low (show w.heap.size + 1 ≤ w3.heap.size by omega))
    have sx4 := B4.out.size
    have hol := opens_len rs 3
    clear b4 m4 L3 B3 R3
    by_cases hn : (opens rs 3).length = 0
    · have bn : decide ((0 : Int) < ((opens rs 3).length : Int)) = false := by rw [hn]; rfl
      have l4 := R4.out.has.lt
      go_wp2_with fail
      refine (l71Log_any w.heap.size a' bs cap' _ B _ R4.out (by omega)).mono ?_
      rintro en w5 ⟨b5, o5, c5, rs5, rfl, hL, hrl5, hgr, p5, hp5, hr5⟩
      have L5 := Lib.hid (hL.down (show w.heap.size + 1 ≤ w4.heap.size by omega))
      have B5 := Lib.hid (B4.out.trans (below_grown hgr (Nat.le_refl _) sx4))
      have R5 := Lib.hid hr5
      clear hL hgr hr5
      go_wp2
      exact ⟨⟨k + 1, p5, b5, o5, c5, rs5, rfl, by go_num, by omega, hrl5, by omega, R5.out, L5.out, B5.out⟩, by simp [intOf]; omega⟩
    · have bn : decide ((0 : Int) < ((opens rs 3).length : Int)) = true := by simp; omega
      obtain ⟨ob, rfl, hob, hrd, hwr⟩ := M4.out (by omega)
      have Hrd := Lib.hid hrd
      have lob := hwr.1
      have hat := opens_at rs
      generalize hzs : opens rs 3 = zs3 at *
      have Hat := Lib.hid hat
      have hn1 : (1 : Int) ≤ (zs3.length : Int) := by omega
      have R4' := Lib.hid (R4.out.keep (w' := w4.drew) rfl (fun _ _ => rfl))
      have L4' := Lib.hid (L4.out.keep (w' := w4.drew) rfl)
      have B4' := Lib.hid B4.out.drew
      have H4' : Hid (Rd .i64 w4.drew ob 0 zs3) := Lib.hid (fun j hj => Hrd.out j hj)
      have lob' : ob < w4.drew.heap.size := lob
      have sx4' : w.heap.size ≤ w4.drew.heap.size := sx4
      clear hrd hwr hzs hat M4
      go_wp2_with fail
      refine wp_region_held_drew (S := (fun _ => True)) (by kernel_rfl) ?_ (fun hHeld0 => ?_)
      · (first | trivial | (with_reducible exact hq))
      refine wpAnyH_take (i := 0) (oi := { dst := some 26, op := Go.Op.move (Go.Operand.tmp 5), type := 23, pos := "l71_draw.go:223", after := #[], guard := none }) (v := ?_) rfl (by kernel_rfl) (by kernel_rfl) (by kernel_rfl) (fun _ _ _ h => h) (Or.inl ⟨by rfl, ?_⟩) hHeld0 ?_
      rotate_left
      · (intro w hSw; (try dsimp only at hSw); go_simp; (first | done | (with_reducible rfl) | (rw [if_neg (by omega)]) | (rw [if_neg (by simp only [ByteArray.size_append]; omega)])))
      (try simp only [Act.put, List.setIfInBounds_toArray, List.set_cons_zero, List.set_cons_succ])
      refine wpAnyH_take (i := 1) (oi := { dst := some 27, op := Go.Op.move (Go.Operand.tmp 7), type := 31, pos := "l71_draw.go:223", after := #[{ on := 8, ground := Go.Ground.gcOnly Go.Departure.lateStores }], guard := none }) (v := ?_) rfl (by kernel_rfl) (by kernel_rfl) (by kernel_rfl) (fun _ _ _ h => h) (Or.inl ⟨by rfl, ?_⟩) hHeld0 ?_
      rotate_left
      · (intro w hSw; (try dsimp only at hSw); go_simp; (first | done | (with_reducible rfl) | (rw [if_neg (by omega)]) | (rw [if_neg (by simp only [ByteArray.size_append]; omega)])))
      (try simp only [Act.put, List.setIfInBounds_toArray, List.set_cons_zero, List.set_cons_succ])
      refine wpAnyH_take (i := 2) (oi := { dst := some 28, op := Go.Op.move (Go.Operand.tmp 4), type := 38, pos := "l71_draw.go:223", after := #[], guard := none }) (v := ?_) rfl (by kernel_rfl) (by kernel_rfl) (by kernel_rfl) (fun _ _ _ h => h) (Or.inl ⟨by rfl, ?_⟩) hHeld0 ?_
      rotate_left
      · (intro w hSw; (try dsimp only at hSw); go_simp; (first | done | (with_reducible rfl) | (rw [if_neg (by omega)]) | (rw [if_neg (by simp only [ByteArray.size_append]; omega)])))
      (try simp only [Act.put, List.setIfInBounds_toArray, List.set_cons_zero, List.set_cons_succ])
      refine wpAnyH_take (i := 3) (oi := { dst := some 29, op := Go.Op.move (Go.Operand.tmp 7), type := 31, pos := "l71_draw.go:223", after := #[], guard := none }) (v := ?_) rfl (by kernel_rfl) (by kernel_rfl) (by kernel_rfl) (fun _ _ _ h => h) (Or.inl ⟨by rfl, ?_⟩) hHeld0 ?_
      rotate_left
      · (intro w hSw; (try dsimp only at hSw); go_simp; (first | done | (with_reducible rfl) | (rw [if_neg (by omega)]) | (rw [if_neg (by simp only [ByteArray.size_append]; omega)])))
      (try simp only [Act.put, List.setIfInBounds_toArray, List.set_cons_zero, List.set_cons_succ])
      refine wpAnyH_take (i := 4) (oi := { dst := some 30, op := Go.Op.call { callee := Go.Callee.builtin Go.Builtin.len, args := #[Go.Operand.tmp 29], argTypes := #[31] }, type := 3, pos := "l71_draw.go:223", after := #[{ on := 3, ground := Go.Ground.data }], guard := none }) (v := ?_) rfl (by kernel_rfl) (by kernel_rfl) (by kernel_rfl) (fun _ _ _ h => h) (Or.inl ⟨by rfl, ?_⟩) hHeld0 ?_
      rotate_left
      · (intro w hSw; (try dsimp only at hSw); go_simp; (first | done | (with_reducible rfl) | (rw [if_neg (by omega)]) | (rw [if_neg (by simp only [ByteArray.size_append]; omega)])))
      (try simp only [Act.put, List.setIfInBounds_toArray, List.set_cons_zero, List.set_cons_succ])
      refine wpAnyH_ready (rs := [5]) (by kernel_rfl) (by simp) ?_
      refine AllReadyH.cons (o := { dst := some 31, op := Go.Op.call { callee := Go.Callee.value (Go.Operand.func 29), args := #[Go.Operand.tmp 28, Go.Operand.tmp 30], argTypes := #[38, 3] }, type := 3, pos := "l71_draw.go:223", after := #[{ on := 2, ground := Go.Ground.data }, { on := 4, ground := Go.Ground.data }], guard := none }) rfl (fun K hK => ?_) AllReadyH.nil
      go_simp
      (with_reducible refine (pick_any (zs3.length : Int) w.heap.size a' bs cap' _ B _ R4'.out (by omega) (by omega) (by omega)).mono ?_)
      rintro en w5 ⟨z, rfl, z0, z1, hgr, s5, hr⟩
      have z2 := z1 (by omega)
      obtain ⟨q, rfl⟩ := Int.eq_ofNat_of_zero_le z0
      have hq' : q < zs3.length := by omega
      have R5 := Lib.hid (H4'.out.grown hgr lob' (fun e => by injection e; omega))
      have hq := R5.out q hq'
      simp only [Nat.zero_add] at hq
      have L5 := Lib.hid (L4'.out.grown hgr (fun g hg => by injection hg; omega))
      have B5 := Lib.hid (B4'.out.trans (below_grown hgr (Nat.le_refl _) sx4'))
      have hv := Hat.out q hq'
      generalize zs3.getD q 0 = v at hq hv
      clear z1 hgr hr
      (try go_wp2_with fail)
      refine hK.out _ _ ?_ (fun hHeld1 => ?_)
      · (first | trivial | (with_reducible exact hq))
      clear hK K hHeld0
      (try simp only [Act.put, List.setIfInBounds_toArray, List.set_cons_zero, List.set_cons_succ])
      refine wpAnyH_more (S' := (fun wz => wz.cell? ⟨ob, q, none⟩ = some (.int .i64 v))) (fun _ _ => trivial) _ _ _ _ ?_
      have hHeld2 := hq
      clear hHeld1
      refine wpAnyH_take (i := 6) (oi := { dst := some 32, op := Go.Op.indexAddr 31 (Go.Operand.tmp 27) (Go.Operand.tmp 31), type := 0, pos := "l71_draw.go:223", after := #[{ on := 1, ground := Go.Ground.data }, { on := 5, ground := Go.Ground.data }, { on := 8, ground := Go.Ground.gcOnly Go.Departure.lateStores }], guard := none }) (v := ?_) rfl (by kernel_rfl) (by kernel_rfl) (by kernel_rfl) (fun _ _ _ h => h) (Or.inl ⟨by rfl, ?_⟩) hHeld2 ?_
      rotate_left
      · (intro w hSw; (try dsimp only at hSw); go_simp; (first | done | (with_reducible rfl) | (rw [if_neg (by omega)]) | (rw [if_neg (by simp only [ByteArray.size_append]; omega)])))
      (try simp only [Act.put, List.setIfInBounds_toArray, List.set_cons_zero, List.set_cons_succ])
      refine wpAnyH_take (i := 7) (oi := { dst := some 33, op := Go.Op.load 3 (Go.Operand.tmp 32), type := 3, pos := "l71_draw.go:223", after := #[{ on := 6, ground := Go.Ground.data }, { on := 8, ground := Go.Ground.gcOnly Go.Departure.lateStores }], guard := none }) (v := ?_) rfl (by kernel_rfl) (by kernel_rfl) (by kernel_rfl) (fun _ _ _ h => h) (Or.inl ⟨by rfl, ?_⟩) hHeld2 ?_
      rotate_left
      · (intro w hSw; (try dsimp only at hSw); go_simp; (first | done | (with_reducible rfl) | (rw [if_neg (by omega)]) | (rw [if_neg (by simp only [ByteArray.size_append]; omega)])))
      (try simp only [Act.put, List.setIfInBounds_toArray, List.set_cons_zero, List.set_cons_succ])
      refine wpAnyH_take (i := 8) (oi := { dst := some 2, op := Go.Op.assign (Go.Operand.tmp 26), type := 23, pos := "l71_draw.go:223", after := #[{ on := 0, ground := Go.Ground.data }, { on := 5, ground := Go.Ground.chain }, { on := 0, ground := Go.Ground.phase }, { on := 1, ground := Go.Ground.textOnly Go.Departure.lateStores }, { on := 2, ground := Go.Ground.textOnly Go.Departure.lateStores }, { on := 3, ground := Go.Ground.textOnly Go.Departure.lateStores }, { on := 4, ground := Go.Ground.textOnly Go.Departure.lateStoresUnsure }, { on := 5, ground := Go.Ground.textOnly Go.Departure.lateStoresUnsure }, { on := 6, ground := Go.Ground.textOnly Go.Departure.lateStores }, { on := 7, ground := Go.Ground.textOnly Go.Departure.lateStores }], guard := none }) (v := ?_) rfl (by kernel_rfl) (by kernel_rfl) (by kernel_rfl) (fun _ _ _ h => h) (Or.inl ⟨by rfl, ?_⟩) hHeld2 ?_
      rotate_left
      · (intro w hSw; (try dsimp only at hSw); go_simp; (first | done | (with_reducible rfl) | (rw [if_neg (by omega)]) | (rw [if_neg (by simp only [ByteArray.size_append]; omega)])))
      (try simp only [Act.put, List.setIfInBounds_toArray, List.set_cons_zero, List.set_cons_succ])
      refine wpAnyH_take (i := 9) (oi := { dst := some 3, op := Go.Op.assign (Go.Operand.tmp 33), type := 3, pos := "l71_draw.go:223", after := #[{ on := 7, ground := Go.Ground.data }, { on := 8, ground := Go.Ground.chain }, { on := 0, ground := Go.Ground.phase }, { on := 1, ground := Go.Ground.phase }, { on := 2, ground := Go.Ground.phase }, { on := 3, ground := Go.Ground.phase }, { on := 4, ground := Go.Ground.phase }, { on := 5, ground := Go.Ground.phase }, { on := 6, ground := Go.Ground.phase }, { on := 7, ground := Go.Ground.phase }, { on := 8, ground := Go.Ground.phase }], guard := none }) (v := ?_) rfl (by kernel_rfl) (by kernel_rfl) (by kernel_rfl) (fun _ _ _ h => h) (Or.inl ⟨by rfl, ?_⟩) hHeld2 ?_
      rotate_left
      · (intro w hSw; (try dsimp only at hSw); go_simp; (first | done | (with_reducible rfl) | (rw [if_neg (by omega)]) | (rw [if_neg (by simp only [ByteArray.size_append]; omega)])))
      (try simp only [Act.put, List.setIfInBounds_toArray, List.set_cons_zero, List.set_cons_succ])
      refine wpAnyH_done (by kernel_rfl) ?_ _
      clear hHeld2
      go_wp2
      exact bodyPost_ret (v := .tuple #[.slice (some ⟨b, o * 8, none⟩) rs.length c, .int .i64 v]) (by simp [results, Try.results18, go_sem]) rfl ⟨b, o, c, rs, v, rfl, L5.out.down (by omega), by omega, by omega, by omega, B5.out⟩

set_option maxHeartbeats 1000000 in
theorem drawLogPages_any (a : Option Addr) (zs : List Int) (cap B : Nat) (w : World) (hB : B ≤ w.heap.size) (hc : Bytes w B a zs cap) :
    Calls Try.prog 20 #[.slice a zs.length cap] w (DrawnLT w) := by
  have H := Lib.hid hc
  clear hc
  go_enter Try.func20, Try.ntmps20
  go_wp2_with fail
  refine (drawLogLast_any a zs cap B _ hB H.out).mono ?_
  rintro en w1 ⟨b, o, c, rs, t, rfl, hL, hl, t0, t1, hb⟩
  have HL := Lib.hid hL
  have HB := Lib.hid hb
  clear hL hb
  go_wp2
  exact bodyPost_ret (v := .tuple #[.slice (some ⟨b, o * 8, none⟩) rs.length c, .int .i64 t]) (by simp [results, Try.results20, go_sem]) rfl ⟨b, o, c, rs, t, rfl, HL.out, hl, t0, t1, HB.out⟩

set_option maxHeartbeats 1000000 in
theorem drawLogChain_any (a : Option Addr) (zs : List Int) (cap B : Nat) (w : World) (hB : B ≤ w.heap.size) (hc : Bytes w B a zs cap) :
    Calls Try.prog 13 #[.slice a zs.length cap] w (DrawnLT w) := by
  have H := Lib.hid hc
  clear hc
  go_enter Try.func13, Try.ntmps13
  go_wp2_with fail
  refine (drawLogLast_any a zs cap B _ hB H.out).mono ?_
  rintro en w1 ⟨b, o, c, rs, t, rfl, hL, hl, t0, t1, hb⟩
  have HL := Lib.hid hL
  have HB := Lib.hid hb
  clear hL hb
  go_wp2
  exact bodyPost_ret (v := .tuple #[.slice (some ⟨b, o * 8, none⟩) rs.length c, .int .i64 t]) (by simp [results, Try.results13, go_sem]) rfl ⟨b, o, c, rs, t, rfl, HL.out, hl, t0, t1, HB.out⟩

set_option maxHeartbeats 1000000 in
theorem drawLogOpen_any (a : Option Addr) (zs : List Int) (cap B : Nat) (w : World) (hB : B ≤ w.heap.size) (hc : Bytes w B a zs cap) :
    Calls Try.prog 23 #[.slice a zs.length cap] w (DrawnLog w) := by
  have H := Lib.hid hc
  clear hc
  go_enter Try.func23, Try.ntmps23
  go_wp2_with fail
  refine (drawLogLast_any a zs cap B _ hB H.out).mono ?_
  rintro en w1 ⟨b, o, c, rs, t, rfl, hL, hl, t0, t1, hb⟩
  have HL := Lib.hid hL
  have HB := Lib.hid hb
  clear hL hb
  go_wp2
  go_ret
  exact ⟨b, o, c, rs, rfl, HL.out, hl, HB.out⟩
end Go.Proofs.Ytejbmjdipfcblaa.Base

/-
  What the laws on drawn logs turn on: a log without its first record, the walk down a chain, what one record more leaves. No conditions but those in each.
-/
namespace Go.Proofs.Ytejbmjdipfcblaa.Base
open Go.RowKit

theorem lastN_open {rs : List R} {t : Int} : ∀ {n m : Nat}, lastN rs t n = m + 1 → endR (recAt rs m) = false
  | 0, m, h => by simp [lastN] at h
  | n + 1, m, h => by
    change (if (recAt rs n).t = t then (if endR (recAt rs n) = true then 0 else n + 1) else lastN rs t n) = m + 1 at h
    by_cases ht : (recAt rs n).t = t
    · rw [if_pos ht] at h
      by_cases he : endR (recAt rs n) = true
      · rw [if_pos he] at h
        omega
      · rw [if_neg he] at h
        obtain rfl : m = n := by omega
        simpa using he
    · rw [if_neg ht] at h
      exact lastN_open h

/-- without the first record -/
theorem lastN_tail (r : R) (qs : List R) (t : Int) : ∀ n, lastN (r :: qs) t (n + 1) = 1 → lastN qs t n = 0
  | 0, _ => rfl
  | n + 1, h => by
    have e : recAt (r :: qs) (n + 1) = recAt qs n := by simp [recAt]
    change (if (recAt (r :: qs) (n + 1)).t = t then (if endR (recAt (r :: qs) (n + 1)) = true then 0 else n + 1 + 1) else lastN (r :: qs) t (n + 1)) = 1 at h
    show (if (recAt qs n).t = t then (if endR (recAt qs n) = true then 0 else n + 1) else lastN qs t n) = 0
    rw [e] at h
    by_cases ht : (recAt qs n).t = t
    · rw [if_pos ht] at h
      by_cases he : endR (recAt qs n) = true
      · rw [if_pos he] at h
        omega
      · rw [if_neg he] at h
        omega
    · rw [if_neg ht] at h
      rw [if_neg ht]
      exact lastN_tail r qs t n h
theorem logB_tail {r : R} {qs : List R} (h : logB (r :: qs) = true) {i : Nat} (hi : i < qs.length) (hv : (recAt qs i).v = 1) : logB qs = false := by
  have hs := log_step h (j := i + 1) (by simp; omega)
  have e : recAt (r :: qs) (i + 1) = recAt qs i := by simp [recAt]
  rw [e] at hs
  have h1 : lastN (r :: qs) (recAt qs i).t (i + 1) = 1 := by
    have := hs.2.1
    omega
  refine logB_bad qs i hi ?_
  unfold stepB
  rw [lastN_tail r qs _ i h1, hv]
  simp

theorem at0_yes {rs : List R} (h : logB rs = true) (t : Int) : at0 rs t = lastN rs t rs.length := by
  unfold at0
  rw [lastB_yes rs t h]
  simp
/-- a walk down the chain of one: i of its records are behind, record m is the next -/
structure ChSt (rs : List R) (t : Int) (i m : Nat) : Prop where
  split : ∃ pre, chainC rs (at0 rs t) = pre ++ chainC rs m ∧ pre.length = i
  last : ∃ n, n ≤ rs.length ∧ lastN rs t n = m
theorem ChSt.init {rs : List R} (h : logB rs = true) (t : Int) : ChSt rs t 0 (at0 rs t) := ⟨⟨[], rfl, rfl⟩, _, Nat.le_refl _, (at0_yes h t).symm⟩
theorem ChSt.done {rs : List R} {t : Int} {i : Nat} (h : ChSt rs t i 0) : i = (chainB rs t).length := by
  obtain ⟨pre, e, rfl⟩ := h.split
  unfold chainB
  rw [List.length_map, e]
  simp [chainC, chainN]
theorem ChSt.next {rs : List R} {t : Int} {i m : Nat} (h : ChSt rs t i (m + 1)) (hl : logB rs = true) :
    i < (chainB rs t).length ∧ (chainB rs t).getD i 0 = (m : Int) + 1 ∧ m < rs.length ∧ (recAt rs m).t = t ∧ endR (recAt rs m) = false ∧ ∃ m' : Nat, (recAt rs m).v = (m' : Int) ∧ ChSt rs t (i + 1) m' := by
  obtain ⟨pre, e, rfl⟩ := h.split
  obtain ⟨n, hn, hm⟩ := h.last
  obtain ⟨ht, hmn⟩ := lastN_tx hm
  have hc := chainC_step rs m rs.length (logB_steps rs hl) (by omega)
  obtain ⟨-, hv, -, -⟩ := log_step hl (j := m) (by omega)
  rw [ht] at hv
  have e2 : chainC rs (at0 rs t) = pre ++ (m + 1) :: chainC rs (recAt rs m).v.toNat := by rw [e, hc]
  refine ⟨?_, ?_, by omega, ht, lastN_open hm, (recAt rs m).v.toNat, by omega, ⟨⟨pre ++ [m + 1], by rw [e2]; simp, by simp⟩, m, by omega, by omega⟩⟩
  · unfold chainB
    rw [List.length_map, e2]
    simp
  · unfold chainB
    rw [e2]
    simp [List.getD_eq_getElem?_getD]
theorem ChSt.zero {rs : List R} {t : Int} {i m : Nat} (h : ChSt rs t i m) (hl : logB rs = true) (hi : i = (chainB rs t).length) : m = 0 := by
  match m, h with
  | 0, _ => rfl
  | m + 1, h =>
    have := (h.next hl).1
    omega

theorem opens_pre (rs : List R) (n : Nat) : ∀ d, ∃ l, opens rs (n + d) = opens rs n ++ l
  | 0 => ⟨[], by simp⟩
  | d + 1 => by
    obtain ⟨l, e⟩ := opens_pre rs n d
    exact ⟨l ++ (if lastB rs ((n + d + 1 : Nat) : Int) = 0 then [] else [((n + d + 1 : Nat) : Int)]), by
      show opens rs (n + d) ++ _ = _
      rw [e, List.append_assoc]
      rfl⟩
theorem opens_mem (rs : List R) : ∀ n z, z ∈ opens rs n ↔ (1 ≤ z ∧ z ≤ (n : Int)) ∧ lastB rs z ≠ 0
  | 0, z => by
    simp [opens]
    omega
  | n + 1, z => by
    unfold opens
    rw [List.mem_append, opens_mem rs n z]
    by_cases hl : lastB rs ((n + 1 : Nat) : Int) = 0
    · rw [if_pos hl]
      constructor
      · rintro (⟨⟨a, b⟩, c⟩ | h)
        · exact ⟨⟨a, by omega⟩, c⟩
        · cases h
      · rintro ⟨⟨a, b⟩, c⟩
        refine .inl ⟨⟨a, ?_⟩, c⟩
        have : z ≠ ((n + 1 : Nat) : Int) := fun e => c (by rw [e]; exact hl)
        omega
    · rw [if_neg hl, List.mem_singleton]
      constructor
      · rintro (⟨⟨a, b⟩, c⟩ | rfl)
        · exact ⟨⟨a, by omega⟩, c⟩
        · exact ⟨⟨by omega, by omega⟩, hl⟩
      · rintro ⟨⟨a, b⟩, c⟩
        by_cases e : z = ((n + 1 : Nat) : Int)
        · exact .inr e
        · exact .inl ⟨⟨a, by omega⟩, c⟩
/-- the k-th open one, when k are counted below t -/
theorem opens_kth (rs : List R) (t : Nat) (ht : t < 3) (h : lastB rs ((t : Int) + 1) ≠ 0) : (opens rs t).length < (opens rs 3).length ∧ (opens rs 3).getD (opens rs t).length 0 = (t : Int) + 1 ∧ (opens rs (t + 1)).length = (opens rs t).length + 1 := by
  obtain ⟨l, e⟩ := opens_pre rs (t + 1) (3 - (t + 1))
  rw [show t + 1 + (3 - (t + 1)) = 3 by omega] at e
  have e1 : opens rs (t + 1) = opens rs t ++ [(t : Int) + 1] := by
    show opens rs t ++ (if lastB rs ((t : Int) + 1) = 0 then [] else [(t : Int) + 1]) = _
    rw [if_neg h]
  rw [e, e1]
  simp [List.getD_eq_getElem?_getD]
theorem opens_skip (rs : List R) (t : Nat) (h : lastB rs ((t : Int) + 1) = 0) : (opens rs (t + 1)).length = (opens rs t).length := by
  have e1 : opens rs (t + 1) = opens rs t ++ [] := by
    show opens rs t ++ (if lastB rs ((t : Int) + 1) = 0 then [] else [(t : Int) + 1]) = _
    rw [if_pos h]
  rw [e1, List.append_nil]

theorem pagesN_pre (rs : List R) (t : Int) (n : Nat) : ∀ d, ∃ l, pagesN rs t (n + d) = pagesN rs t n ++ l
  | 0 => ⟨[], by simp⟩
  | d + 1 => by
    obtain ⟨l, e⟩ := pagesN_pre rs t n d
    exact ⟨l ++ (if hasB rs t ((n + d : Nat) : Int) = true then [((n + d : Nat) : Int)] else []), by
      show pagesN rs t (n + d) ++ _ = _
      rw [e, List.append_assoc]
      rfl⟩
theorem pagesN_kth (rs : List R) (t : Int) (p : Nat) (hp : p < 5) (h : hasB rs t (p : Int) = true) : (pagesN rs t p).length < (pagesB rs t).length ∧ (pagesB rs t).getD (pagesN rs t p).length 0 = (p : Int) ∧ (pagesN rs t (p + 1)).length = (pagesN rs t p).length + 1 := by
  obtain ⟨l, e⟩ := pagesN_pre rs t (p + 1) (5 - (p + 1))
  rw [show p + 1 + (5 - (p + 1)) = 5 by omega] at e
  have e1 : pagesN rs t (p + 1) = pagesN rs t p ++ [(p : Int)] := by
    show pagesN rs t p ++ (if hasB rs t (p : Int) = true then [(p : Int)] else []) = _
    rw [if_pos h]
  unfold pagesB
  rw [e, e1]
  simp [List.getD_eq_getElem?_getD]
theorem pagesN_skip (rs : List R) (t : Int) (p : Nat) (h : hasB rs t (p : Int) = false) : (pagesN rs t (p + 1)).length = (pagesN rs t p).length := by
  have e1 : pagesN rs t (p + 1) = pagesN rs t p ++ [] := by
    show pagesN rs t p ++ (if hasB rs t (p : Int) = true then [(p : Int)] else []) = _
    rw [h]
    rfl
  rw [e1, List.append_nil]
theorem pagesN_congr {rs qs : List R} {t : Int} (h : ∀ p, hasB rs t p = hasB qs t p) : ∀ k, pagesN rs t k = pagesN qs t k
  | 0 => rfl
  | k + 1 => by
    unfold pagesN
    rw [pagesN_congr h k, h]

/- one record more -/
section
variable {rs : List R} {r : R}
theorem lastB_more (h : logB rs = true) (hx : logB (rs ++ [r]) = true) (t : Int) : lastB (rs ++ [r]) t = if r.t = t then (if endR r = true then 0 else (rs.length : Int) + 1) else lastB rs t := by
  rw [lastB_yes _ t hx, lastB_yes _ t h, List.length_append]
  show ((lastN (rs ++ [r]) t (rs.length + 1) : Nat) : Int) = _
  rw [last_more]
  split
  · split <;> simp
  · rfl
theorem chainC_more (h : logB rs = true) (hx : logB (rs ++ [r]) = true) : ∀ k, k ≤ rs.length → chainC (rs ++ [r]) k = chainC rs k := by
  intro k
  induction k using Nat.strongRecOn with
  | ind k ih =>
    intro hk
    match k, ih, hk with
    | 0, _, _ => rfl
    | k + 1, ih, hk =>
      have hp := (step_prev rs k (logB_steps rs h k (by omega))).1
      rw [chainC_step rs k rs.length (logB_steps rs h) (by omega), chainC_step (rs ++ [r]) k (rs.length + 1) (fun j hj => logB_steps _ hx j (by simpa using hj)) (by omega), recAt_more rs r (by omega), ih _ (by omega) (by omega)]
theorem chainB_other (h : logB rs = true) (hx : logB (rs ++ [r]) = true) {t : Int} (ht : r.t ≠ t) : chainB (rs ++ [r]) t = chainB rs t ∧ chainC (rs ++ [r]) (at0 (rs ++ [r]) t) = chainC rs (at0 rs t) := by
  have e : at0 (rs ++ [r]) t = at0 rs t := by
    unfold at0
    rw [lastB_more h hx, if_neg ht]
  have e2 : chainC (rs ++ [r]) (at0 (rs ++ [r]) t) = chainC rs (at0 rs t) := by rw [e, chainC_more h hx _ (at0_le rs t).1]
  exact ⟨by unfold chainB; rw [e2], e2⟩
theorem chainC_new (h : logB rs = true) (hx : logB (rs ++ [r]) = true) (he : endR r = false) : chainC (rs ++ [r]) (at0 (rs ++ [r]) r.t) = (rs.length + 1) :: chainC rs (at0 rs r.t) := by
  have e : at0 (rs ++ [r]) r.t = rs.length + 1 := by
    unfold at0
    rw [lastB_more h hx, if_pos rfl, if_neg (by simp [he])]
    omega
  have hv := (log_step hx (j := rs.length) (by simp)).2.1
  rw [recAt_new, lastN_congr r.t rs.length (fun j hj => recAt_more rs r hj), ← at0_yes h] at hv
  rw [e, chainC_step (rs ++ [r]) rs.length (rs.length + 1) (fun j hj => logB_steps _ hx j (by simpa using hj)) (by omega), recAt_new, hv]
  simp only [Int.toNat_natCast]
  rw [chainC_more h hx _ (at0_le rs r.t).1]
theorem chainB_new (h : logB rs = true) (hx : logB (rs ++ [r]) = true) (he : endR r = false) : chainB (rs ++ [r]) r.t = ((rs.length : Int) + 1) :: chainB rs r.t := by
  unfold chainB
  rw [chainC_new h hx he]
  simp
theorem pagesB_other (h : logB rs = true) (hx : logB (rs ++ [r]) = true) {t : Int} (ht : r.t ≠ t) : pagesB (rs ++ [r]) t = pagesB rs t := by
  refine pagesN_congr (fun p => ?_) 5
  unfold hasB
  rw [(chainB_other h hx ht).2]
  unfold hasIn
  have hm := chain_mem rs rs.length (logB_steps rs h) (at0 rs t) (at0_le rs t).1
  refine Bool.eq_iff_iff.2 ?_
  simp only [List.any_eq_true]
  constructor
  · rintro ⟨n, hn, he⟩
    have := hm n hn
    rw [recAt_more rs r (by omega)] at he
    exact ⟨n, hn, he⟩
  · rintro ⟨n, hn, he⟩
    have := hm n hn
    exact ⟨n, hn, by rw [recAt_more rs r (by omega)]; exact he⟩
theorem page_new (h : logB rs = true) (hx : logB (rs ++ [r]) = true) (he : endR r = false) (h0 : 0 ≤ r.p) (h4 : r.p ≤ 4) : r.p ∈ pagesB (rs ++ [r]) r.t := by
  refine ((pagesN_spec (rs ++ [r]) r.t 5).2 r.p).2 ⟨⟨h0, by omega⟩, ?_⟩
  unfold hasB hasIn
  rw [chainC_new h hx he]
  simp [recAt_new]
theorem logB_wrong (hv : r.v ≠ (lastN rs r.t rs.length : Int)) : logB (rs ++ [r]) = false := by
  refine logB_bad _ rs.length (by simp) ?_
  unfold stepB
  rw [recAt_new, lastN_congr r.t rs.length (fun j hj => recAt_more rs r hj)]
  simp [hv]
end
end Go.Proofs.Ytejbmjdipfcblaa.Base

/-
  Contracts of the laws' comparisons ltInts and ltHas, and of DrawPageText. Conditions: the slices lead to numbers; the code is a slice of bytes.
-/
namespace Go.Proofs.Ytejbmjdipfcblaa.Base
open Go.RowKit

set_option maxHeartbeats 1000000 in
theorem ltInts_any (xs ys : List Int) (a b : Option Addr) (ca cb B : Nat) (w : World) (hx : Ints .i64 w B a xs) (hy : Ints .i64 w B b ys) (mx : xs.length ≤ 1000000000) (my : ys.length ≤ 1000000000) :
    Calls Try.prog 15 #[.slice a xs.length ca, .slice b ys.length cb] w (Quiet (.bool (xs == ys)) w) := by
  by_cases hl : xs.length = ys.length
  · have Hx := Lib.hid hx
    have Hy := Lib.hid hy
    have hd : ((xs.length : Int) != (ys.length : Int)) = false := by simp [hl]
    clear hx hy
    have Hl := Lib.hid hl
    have hle : ys.length ≤ xs.length := by omega
    have hle' : xs.length ≤ ys.length := by omega
    clear hl
    go_enter Try.func15, Try.ntmps15
    go_wp2
    go_loopw [5] (fun i w1 => ∃ k m : Nat, k ≤ xs.length ∧ i = .int .i64 k ∧ w1 = w.drewN m ∧ ∀ j, j < k → xs.getD j 0 = ys.getD j 0) (fun i _ => xs.length - (intOf i).toNat)
    case atStart => exact ⟨0, 0, Nat.zero_le _, rfl, rfl, fun j hj => absurd hj (by omega)⟩
    case round =>
      obtain ⟨k, m, hk, rfl, rfl, heq⟩ := hrel
      have Heq := Lib.hid heq
      clear heq
      by_cases hlt : k < xs.length
      · obtain ⟨g, o, rfl, _, hr⟩ := Hx.out (by omega)
        obtain ⟨g', o', rfl, _, hr'⟩ := Hy.out (by omega)
        have c1 := hr k hlt
        have c2 := hr' k (by omega)
        clear hr hr'
        by_cases he : xs.getD k 0 = ys.getD k 0
        · have hb : (xs.getD k 0 != ys.getD k 0) = false := by rw [he]; simp
          have He := Lib.hid he
          clear he
          generalize xs.getD k 0 = u at c1 hb
          generalize ys.getD k 0 = v at c2 hb
          have hlt2 : k < ys.length := by omega
          go_wp2
          go_quiet (fail)
          go_wp2
          exact ⟨⟨k + 1, _, by omega, by go_num, rfl, fun j hj => by
            rcases Nat.lt_succ_iff_lt_or_eq.1 hj with h | rfl
            · exact Heq.out j h
            · exact He.out⟩, by simp [intOf]; omega⟩
        · have hb : (xs.getD k 0 != ys.getD k 0) = true := by simpa using he
          have He := Lib.hid (getD_ne xs ys k he)
          clear he
          generalize xs.getD k 0 = u at c1 hb
          generalize ys.getD k 0 = v at c2 hb
          have hlt2 : k < ys.length := by omega
          go_wp2
          go_quiet (fail)
          go_wp2
          go_ret
          exact ⟨ret_bool He.out.symm, _, World.drewN_drewN _ _ _⟩
      · go_wp2
        go_ret
        have e : xs = ys := eq_of_getD xs ys Hl.out (fun j hj => Heq.out j (by omega))
        exact ⟨ret_bool (by rw [e]; simp), m, rfl⟩
  · have hd : ((xs.length : Int) != (ys.length : Int)) = true := by simp; omega
    have He : Hid ((xs == ys) = false) := by
      show (xs == ys) = false
      rw [beq_eq_false_iff_ne]
      rintro rfl
      exact hl rfl
    clear hx hy hl
    go_enter Try.func15, Try.ntmps15
    go_wp2
    go_ret
    exact ⟨ret_bool He.out.symm, 0, rfl⟩

end Go.Proofs.Ytejbmjdipfcblaa.Base

/-
  What the walks of the laws on drawn logs share: parts of a row of records, the law's ltAmong. Conditions: the slices lead to records, or numbers.
-/
namespace Go.Proofs.Ytejbmjdipfcblaa.Base
open Go.RowKit

theorem RdR.take {w : World} {g o : Nat} {rs : List R} (h : RdR w g o rs) (k : Nat) : RdR w g o (rs.take k) := fun j hj => by
  rw [List.length_take] at hj
  rw [recAt_take rs (by omega)]
  exact h j (by omega)

theorem far_drewN {B : Nat} {a w : World} (h : Below B a w) (n : Nat) : Below B a (w.drewN n) := h.trans ⟨rfl, rfl, rfl, Nat.le_refl _, fun _ _ => rfl⟩

set_option maxHeartbeats 1000000 in
theorem ltAmong_any (zs : List Int) (z : Int) (a : Option Addr) (cap B : Nat) (w : World) (hz : Ints .i64 w B a zs) (mx : zs.length ≤ 1000000000) :
    Calls Try.prog 26 #[.slice a zs.length cap, .int .i64 z] w fun e w' => e = .returned (.bool (decide (z ∈ zs))) ∧ w = w' := by
  have Hz := Lib.hid hz
  clear hz
  go_enter Try.func26, Try.ntmps26
  go_wp2
  go_loopw [5] (fun i w1 => ∃ k : Nat, k ≤ zs.length ∧ i = .int .i64 k ∧ w1 = w ∧ ∀ j, j < k → zs.getD j 0 ≠ z) (fun i _ => zs.length - (intOf i).toNat)
  case atStart => exact ⟨0, Nat.zero_le _, rfl, rfl, fun j hj => absurd hj (by omega)⟩
  case round =>
    obtain ⟨k, hk, rfl, rfl, hne⟩ := hrel
    have Hne := Lib.hid hne
    clear hne
    by_cases hlt : k < zs.length
    · obtain ⟨g, o, rfl, _, hr⟩ := Hz.out (by omega)
      have c1 := hr k hlt
      clear hr
      by_cases he : zs.getD k 0 = z
      · have hm : Hid (decide (z ∈ zs) = true) := by
          show decide (z ∈ zs) = true
          rw [← he, List.getD_eq_getElem?_getD, List.getElem?_eq_getElem hlt]
          simp
        have hb : (zs.getD k 0 == z) = true := by simpa using he
        clear he
        generalize zs.getD k 0 = u at c1 hb
        go_wp2
        go_ret
        exact ⟨ret_bool hm.out.symm, rfl⟩
      · have hb : (zs.getD k 0 == z) = false := by simpa using he
        have He := Lib.hid he
        clear he
        generalize zs.getD k 0 = u at c1 hb
        go_wp2
        exact ⟨⟨k + 1, by omega, by go_num, (by first | rfl | trivial), fun j hj => by
          rcases Nat.lt_succ_iff_lt_or_eq.1 hj with h | rfl
          · exact Hne.out j h
          · exact He.out⟩, by simp [intOf]; omega⟩
    · obtain rfl : k = zs.length := by omega
      have hm : Hid (decide (z ∈ zs) = false) := by
        show decide (z ∈ zs) = false
        rw [decide_eq_false_iff_not]
        intro h
        obtain ⟨j, hj, e⟩ := List.getElem_of_mem h
        exact Hne.out j hj (by rw [List.getD_eq_getElem?_getD, List.getElem?_eq_getElem hj]; exact e)
      go_wp2
      go_ret
      exact ⟨ret_bool hm.out.symm, rfl⟩
end Go.Proofs.Ytejbmjdipfcblaa.Base

/-
  A code that came in as an argument: a slice of bytes, read out of the row's own reading. No conditions.
-/
namespace Go.Proofs.Ytejbmjdipfcblaa.Base
open Go.ChangeShapes Go.WideShapes Go.ChangeAt Go.RowKit

theorem take_get (zs : List Int) (n j : Nat) (h : j < n) : (zs.take n).getD j 0 = zs.getD j 0 := by
  simp [List.getD_eq_getElem?_getD, h]

theorem openBytes {H : Type} {enc : TypeId × Value → H} {P : Program} {W : World} {r : Reach} {b0 : Nat} {t e : TypeId} {v : Value} {d : DataW H} {p : List MemPlace}
    (ht : P.underlying t = some (.slice e)) (he : P.underlying e = some (.int .u8)) (hC : P.cellsOf e = 1) (hv : Value.okWide P W r b0 t v) (h : DataW.Trod enc P W 0 (fun _ => true) true t v d p) :
    ∃ (a : Option Addr) (cs : List Int) (cap : Nat), v = .slice a cs.length cap ∧ Bytes W W.heap.size a cs cap := by
  obtain ⟨a0, len0, cap0, rfl⟩ := okWide_slice ht hv
  obtain ⟨fuel, hf⟩ := h
  rcases open_ints ht he hC hf with ⟨hcs, _⟩ | ⟨x, l, c, zs, hcs, _, hl, hm, hz, _, hcell, hwz⟩
  · simp [Value.cells] at hcs
    obtain ⟨rfl, rfl, rfl⟩ := hcs
    exact ⟨none, [], 0, rfl, fun h => absurd h (by simp), fun j hj => absurd hj (by simp), by simp, by simp [maxLen]⟩
  · simp [Value.cells] at hcs
    obtain ⟨rfl, rfl, rfl⟩ := hcs
    simp at hz
    refine ⟨some x, zs.take len0, cap0, ?_, fun hp => ?_, fun j hj => ?_, ?_, hm⟩
    · simp [Nat.min_eq_left (by omega : len0 ≤ zs.length)]
    · have hp' : 0 < zs.length := by
        rw [List.length_take] at hp
        omega
      obtain ⟨b, off, rfl, hc'⟩ := ints_at hcell hp'
      refine ⟨b, off, rfl, World.block_lt_of_cell? W ⟨b, off + 0, none⟩ (hc' 0 hp'), fun j hj => ?_⟩
      rw [List.length_take] at hj
      rw [hc' j (by omega), take_get zs len0 j (by omega)]
    · rw [List.length_take] at hj
      rw [take_get zs len0 j (by omega)]
      have := range_u8 hwz j
      rwa [← List.getD_eq_getElem?_getD] at this
    · rw [List.length_take]
      omega
end Go.Proofs.Ytejbmjdipfcblaa.Base

/-
  Proved: FnExactRecDo returns true, whatever the page, the record and the number: RecDo answers as its model, leaves its argument as it was, and its answer owns its memory. No conditions.
-/
import Derived.Test.YtloglnekjhgfgabDoI
import Derived.Test.YtloglnekjhgfgabDoS2
import Derived.Test.YtloglnekjhgfgabTo
import Derived.Test.YtloglnekjhgfgabOpenP
import Derived.Test.YtloglnekjhgfgabOpenR
import Derived.Test.YtloglnekjhgfgabGot
import Derived.Deep.RegionHeld3
import Derived.Deep.DeepCutAuto
import Derived.OpenShut
import Derived.ShutString
import Derived.ChangeOld
namespace Go.Proofs.Ytloglnekjhgfgab.FnExactRecDo
open Go.ChangeShapes Go.WideShapes Go.ChangeAt Go.RowKit Base
set_option linter.unusedVariables false

/-- the arguments lie in their boxes; nothing that was there in w has turned -/
structure XA (w wx : World) (l o : Int) (zs : List Int) (a : Option Addr) (cap : Nat) (r : R) : Prop where
  page : Has wx w.heap.size 24 #[.int .i64 l, .int .i64 o, .slice a zs.length cap]
  rcd : Has wx (w.heap.size + 1) 26 #[.int .i64 r.k, .int .i64 r.t, .int .i64 r.p, .int .i64 r.s, .int .i64 r.o, .int .i64 r.n, .int .i64 r.v, .int .i64 r.x]
  kept : Below w.heap.size w wx
section
variable {w wx wy : World} {l o : Int} {zs : List Int} {a : Option Addr} {cap : Nat} {r : R}
theorem XA.lt (h : XA w wx l o zs a cap r) : w.heap.size + 1 < wx.heap.size := h.rcd.lt
theorem XA.below (h : XA w wx l o zs a cap r) (hb : Below wx.heap.size wx wy) : XA w wy l o zs a cap r := by
  have h1 := h.lt
  exact ⟨h.page.below hb (by omega), h.rcd.below hb h1, h.kept.trans (hb.mono (by omega))⟩
theorem XA.alloc (h : XA w wx l o zs a cap r) (ob : Obj) : XA w (wx.alloc ob) l o zs a cap r := h.below (below_one _ _)
theorem XA.drew (h : XA w wx l o zs a cap r) : XA w wx.drew l o zs a cap r := h.below (below_draws (Below.refl _ _) 1)
end

theorem XA.mid {w wx wy : World} {l o : Int} {zs : List Int} {a : Option Addr} {cap : Nat} {r : R} {N : Nat} (h : XA w wx l o zs a cap r) (hb : Below N wx wy) (hN : w.heap.size + 1 < N) : XA w wy l o zs a cap r :=
  ⟨h.page.below hb (by omega), h.rcd.below hb hN, h.kept.trans (hb.mono (by omega))⟩
theorem XA.put {w wx : World} {l o : Int} {zs : List Int} {a : Option Addr} {cap : Nat} {r : R} (h : XA w wx l o zs a cap r) {b : Nat} (hb : w.heap.size + 1 < b) (x y z : Value) : XA w (put3 wx b x y z) l o zs a cap r :=
  ⟨put3_far h.page (by omega) _ _ _, put3_far h.rcd (by omega) _ _ _, put3_below h.kept (by omega) _ _ _⟩
theorem has_put3 {w : World} {b : Nat} {T : TypeId} {c0 c1 c2 : Value} (h : Has w b T #[c0, c1, c2]) (x y z : Value) : Has (put3 w b x y z) b T #[x, y, z] := by
  have h0 : Has (w.setCell ⟨b, 0, none⟩ x) b T #[x, c1, c2] := h.set 0 _
  have h1 : Has ((w.setCell ⟨b, 0, none⟩ x).setCell ⟨b, 1, none⟩ y) b T #[x, y, c2] := h0.set 1 _
  exact h1.set 2 _
theorem ints_put3 {w : World} {B b : Nat} {a : Option Addr} {us : List Int} (h : Ints .i64 w B a us) (hb : ∀ g q, a = some ⟨g, q, none⟩ → 0 < us.length → g ≠ b) (x y z : Value) : Ints .i64 (put3 w b x y z) B a us := fun hp => by
  obtain ⟨g, q, e, hg, hr⟩ := h hp
  exact ⟨g, q, e, hg, put3_rd hr (hb g q e hp) _ _ _⟩
theorem size_put3 (w : World) (b : Nat) (x y z : Value) : (put3 w b x y z).heap.size = w.heap.size := by simp [put3]
theorem got_put {b : Bool} {lsn o : Int} {zs : List Int} {w : World} {lo : Nat} {v : Value} {l' o' : Int} {a : Option Addr} {n c : Nat} {us : List Int} (h : Got b lsn o zs w lo v l' o' a n c us) {k : Nat} (hk : k < lo) (x y z : Value) : Got b lsn o zs (put3 w k x y z) lo v l' o' a n c us := by
  refine ⟨h.val, ?_, h.len, h.fit, h.small, fun e => ?_, h.no⟩
  · rw [size_put3]
    refine ints_put3 h.ints (fun g q e hp => ?_) x y z
    cases b
    · obtain ⟨_, _, rfl⟩ := h.no rfl
      simp at hp
    · obtain ⟨_, _, _, _, g', q', e', hg', _⟩ := h.yes rfl
      rw [e] at e'
      injection e' with e'
      injection e' with e1 e2
      omega
  · obtain ⟨h1, h2, h3, h4, g, q, h5, h6, h7, h8⟩ := h.yes e
    exact ⟨h1, h2, h3, h4, g, q, h5, h6, put3_rd h7 (by omega) _ _ _, put3_wr h8 _ _ _⟩
theorem got_weak {b : Bool} {lsn o : Int} {zs : List Int} {w : World} {lo lo' : Nat} {v : Value} {l' o' : Int} {a : Option Addr} {n c : Nat} {us : List Int} (h : Got b lsn o zs w lo v l' o' a n c us) (hl : lo' ≤ lo) : Got b lsn o zs w lo' v l' o' a n c us :=
  ⟨h.val, h.ints, h.len, h.fit, h.small, fun e => by
    obtain ⟨h1, h2, h3, h4, g, q, h5, h6, h7, h8⟩ := h.yes e
    exact ⟨h1, h2, h3, h4, g, q, h5, by omega, h7, h8⟩, h.no⟩

theorem eqPage_len (l l' o o' : Int) (xs ys : List Int) (a b : Option Addr) (na nb ca cb B : Nat) (w : World) (ea : xs.length = na) (eb : ys.length = nb) (hB : B ≤ w.heap.size) (hx : Ints .i64 w B a xs) (hy : Ints .i64 w B b ys) (mx : na ≤ 1000000000) (my : nb ≤ 1000000000) :
    Calls Try.prog 10 #[pageV l o a na ca, pageV l' o' b nb cb] w (Keeps (.bool ((l == l') && ((o == o') && (xs == ys)))) w) := by
  subst ea eb
  exact eqPage_any l l' o o' xs ys a b ca cb B w hB hx hy mx my

set_option maxHeartbeats 1000000 in
theorem markIntS_zero (a : Option Addr) (c : Nat) (k : Int) (w : World) (k0 : 0 ≤ k) (k1 : k ≤ 1000000000000) : Calls Try.prog 28 #[.slice a 0 c, .int .i64 k] w fun e w' => e = .returned (.int .i64 k) ∧ w = w' := by
  go_enter Try.func28, Try.ntmps28
  go_wp2
  go_loop [1, 5] (fun q i => q = .int .i64 k ∧ i = .int .i64 0) (fun _ _ => 0)
  case atStart => exact ⟨rfl, rfl⟩
  case round =>
    obtain ⟨rfl, rfl⟩ := hrel
    go_wp2
    go_ret
    exact ⟨rfl, rfl⟩
set_option maxHeartbeats 1000000 in
theorem markPage_zero (l o : Int) (a : Option Addr) (c : Nat) (k : Int) (w : World) (k0 : 0 ≤ k) (k1 : k ≤ 1000000000000) : Calls Try.prog 11 #[pageV l o a 0 c, .int .i64 k] w (Keeps (.int .i64 k) w) := by
  go_enter Try.func11, Try.ntmps11
  go_wp2_with fail
  refine (markIntS_zero a c k _ k0 k1).mono ?_
  rintro e w1 ⟨rfl, rfl⟩
  go_wp2
  go_ret
  exact ⟨rfl, below_one _ _⟩

/-- the answer's slots, marked: what lies below it stays -/
theorem mark_got {b : Bool} {lsn o : Int} {zs : List Int} {w : World} {lo : Nat} {l2 o2 : Int} {a2 : Option Addr} {n2 c2 : Nat} {us2 : List Int} (h : Got b lsn o zs w lo (pageV l2 o2 a2 n2 c2) l2 o2 a2 n2 c2 us2) (hlo : lo ≤ w.heap.size)
    {gb : Nat} {T : TypeId} {cs : Array Value} (hh : Has w gb T cs) (hne : ∀ g q, a2 = some ⟨g, q, none⟩ → b = true → g ≠ gb) :
    Calls Try.prog 11 #[pageV l2 o2 a2 n2 c2, .int .i64 1] w fun e w' => e = .returned (.int .i64 (1 + n2)) ∧ Below lo w w' ∧ Has w' gb T cs ∧ Ints .i64 w' w'.heap.size a2 (marks 1 n2) := by
  cases b
  · obtain ⟨_, _, rfl⟩ := h.no rfl
    have hn : 0 = n2 := h.len
    subst hn
    exact (markPage_zero l2 o2 a2 c2 1 w (by omega) (by omega)).mono fun e w' ⟨he, hb⟩ => ⟨by rw [he]; simp, hb.mono hlo, hh.below hb hh.lt, fun hp => absurd hp (by simp [marks])⟩
  · obtain ⟨_, _, h3, rfl, g, q, rfl, hg, hr, hw⟩ := h.yes rfl
    have hl : zs.length = 3 := by have := h.len; rw [h3] at this; exact this
    have hw' : Wr w g q zs.length := by rw [hl]; exact hw
    have hm := markPage_any l2 o2 zs g q c2 1 w hr hw' (by omega) (by omega) (by omega)
    rw [hl] at hm
    exact hm.mono fun e w' ⟨he, hgr, hrd, hwr⟩ => ⟨he, below_grown hgr hg hlo, hh.grown hgr (fun e => hne g q rfl rfl (by injection e with e; exact e.symm)), hrd.ints hwr.1⟩

/-- the model's answer in block wb, the argument for the program in block xb, its slots in block gx -/
structure PS (w wx : World) (l o : Int) (zs : List Int) (a : Option Addr) (cap : Nat) (r : R) (wb xb gx : Nat) (l1 o1 : Int) (a1 : Option Addr) (n1 c1 : Nat) (us1 : List Int) : Prop where
  xa : XA w wx l o zs a cap r
  wpg : Has wx wb 28 #[.int .i64 l1, .int .i64 o1, .slice a1 n1 c1]
  xpg : Has wx xb 28 #[.int .i64 l, .int .i64 o, .slice (some ⟨gx, 0, none⟩) zs.length zs.length]
  i1 : Ints .i64 wx gx a1 us1
  rd : Rd .i64 wx gx 0 zs
  wr : Wr wx gx 0 zs.length
  ord : w.heap.size + 1 < wb ∧ wb < gx ∧ gx < xb
section
variable {w wx wy : World} {l o : Int} {zs : List Int} {a : Option Addr} {cap : Nat} {r : R} {wb xb gx : Nat} {l1 o1 : Int} {a1 : Option Addr} {n1 c1 : Nat} {us1 : List Int}
theorem PS.lt (h : PS w wx l o zs a cap r wb xb gx l1 o1 a1 n1 c1 us1) : xb < wx.heap.size := h.xpg.lt
theorem PS.below (h : PS w wx l o zs a cap r wb xb gx l1 o1 a1 n1 c1 us1) (hb : Below wx.heap.size wx wy) : PS w wy l o zs a cap r wb xb gx l1 o1 a1 n1 c1 us1 := by
  have h1 := h.lt
  have h2 := h.ord
  exact ⟨h.xa.below hb, h.wpg.below hb (by omega), h.xpg.below hb h1, h.i1.below (hb.mono (by omega)), h.rd.below hb (by omega), h.wr.below hb (by omega), h.ord⟩
theorem PS.alloc (h : PS w wx l o zs a cap r wb xb gx l1 o1 a1 n1 c1 us1) (ob : Obj) : PS w (wx.alloc ob) l o zs a cap r wb xb gx l1 o1 a1 n1 c1 us1 := h.below (below_one _ _)
theorem PS.drew (h : PS w wx l o zs a cap r wb xb gx l1 o1 a1 n1 c1 us1) : PS w wx.drew l o zs a cap r wb xb gx l1 o1 a1 n1 c1 us1 := h.below (below_draws (Below.refl _ _) 1)
theorem PS.put (h : PS w wx l o zs a cap r wb xb gx l1 o1 a1 n1 c1 us1) {b : Nat} (hb : xb < b) (x y z : Value) : PS w (put3 wx b x y z) l o zs a cap r wb xb gx l1 o1 a1 n1 c1 us1 := by
  have h2 := h.ord
  exact ⟨h.xa.put (by omega) _ _ _, put3_far h.wpg (by omega) _ _ _, put3_far h.xpg (by omega) _ _ _, h.i1.keep (fun i hi => by rw [put3, Below.heap_setCell _ _ _ _ (by simp; omega), Below.heap_setCell _ _ _ _ (by simp; omega), Below.heap_setCell _ _ _ _ (by simp; omega)]), put3_rd h.rd (by omega) _ _ _, put3_wr h.wr _ _ _, h.ord⟩
end

/-- what an answer is, as numbers -/
def Val (b : Bool) (lsn o : Int) (zs : List Int) (l' o' : Int) (us : List Int) : Prop := (b = true → l' = lsn ∧ o' = o ∧ us = zs) ∧ (b = false → l' = 0 ∧ o' = 0 ∧ us = [])
theorem got_val {b : Bool} {lsn o : Int} {zs : List Int} {w : World} {lo : Nat} {v : Value} {l' o' : Int} {a : Option Addr} {n c : Nat} {us : List Int} (h : Got b lsn o zs w lo v l' o' a n c us) : Val b lsn o zs l' o' us :=
  ⟨fun e => by obtain ⟨h1, h2, h3, _⟩ := h.yes e; exact ⟨h1, h2, h3⟩, h.no⟩
theorem val_same {b : Bool} {lsn o : Int} {zs : List Int} {l1 o1 l2 o2 : Int} {us1 us2 : List Int} (h : Val b lsn o zs l1 o1 us1) (k : Val b lsn o zs l2 o2 us2) : ((l1 == l2) && ((o1 == o2) && (us1 == us2))) = true := by
  cases b
  · obtain ⟨rfl, rfl, rfl⟩ := h.2 rfl
    obtain ⟨rfl, rfl, rfl⟩ := k.2 rfl
    rfl
  · obtain ⟨rfl, rfl, rfl⟩ := h.1 rfl
    obtain ⟨rfl, rfl, rfl⟩ := k.1 rfl
    simp

/-- the program's answer in block gb -/
structure GS (w wx : World) (l o : Int) (zs : List Int) (a : Option Addr) (cap : Nat) (r : R) (lsn : Int) (wb xb gx : Nat) (l1 o1 : Int) (a1 : Option Addr) (n1 c1 : Nat) (us1 : List Int) (gb : Nat) (l2 o2 : Int) (a2 : Option Addr) (n2 c2 : Nat) (us2 : List Int) : Prop where
  ps : PS w wx l o zs a cap r wb xb gx l1 o1 a1 n1 c1 us1
  gpg : Has wx gb 28 #[.int .i64 l2, .int .i64 o2, .slice a2 n2 c2]
  got : Got (doB l o zs r lsn) lsn (oW r.s r.n o) (newZ r zs) wx (gx + 1) (pageV l2 o2 a2 n2 c2) l2 o2 a2 n2 c2 us2
  ord : xb < gb
  apart : ∀ g q, a2 = some ⟨g, q, none⟩ → doB l o zs r lsn = true → g ≠ gb
theorem GS.below {w wx wy : World} {l o : Int} {zs : List Int} {a : Option Addr} {cap : Nat} {r : R} {lsn : Int} {wb xb gx : Nat} {l1 o1 : Int} {a1 : Option Addr} {n1 c1 : Nat} {us1 : List Int} {gb : Nat} {l2 o2 : Int} {a2 : Option Addr} {n2 c2 : Nat} {us2 : List Int}
    (h : GS w wx l o zs a cap r lsn wb xb gx l1 o1 a1 n1 c1 us1 gb l2 o2 a2 n2 c2 us2) (hb : Below wx.heap.size wx wy) : GS w wy l o zs a cap r lsn wb xb gx l1 o1 a1 n1 c1 us1 gb l2 o2 a2 n2 c2 us2 :=
  ⟨h.ps.below hb, h.gpg.below hb h.gpg.lt, h.got.below hb, h.ord, h.apart⟩
/-- the argument's slots have been marked: the two answers are as they were -/
structure TS (w wx : World) (l o : Int) (zs : List Int) (a : Option Addr) (cap : Nat) (r : R) (lsn : Int) (wb gx : Nat) (l1 o1 : Int) (a1 : Option Addr) (n1 c1 : Nat) (us1 : List Int) (gb : Nat) (l2 o2 : Int) (a2 : Option Addr) (n2 c2 : Nat) (us2 : List Int) : Prop where
  xa : XA w wx l o zs a cap r
  wpg : Has wx wb 28 #[.int .i64 l1, .int .i64 o1, .slice a1 n1 c1]
  gpg : Has wx gb 28 #[.int .i64 l2, .int .i64 o2, .slice a2 n2 c2]
  i1 : Ints .i64 wx gx a1 us1
  got : Got (doB l o zs r lsn) lsn (oW r.s r.n o) (newZ r zs) wx (gx + 1) (pageV l2 o2 a2 n2 c2) l2 o2 a2 n2 c2 us2
  ord : w.heap.size + 1 < wb ∧ wb < gx ∧ gx < gb
  apart : ∀ g q, a2 = some ⟨g, q, none⟩ → doB l o zs r lsn = true → g ≠ gb
/-- the answer's slots have been marked too; all lies below M -/
structure US (w wx : World) (l o : Int) (zs : List Int) (a : Option Addr) (cap : Nat) (r : R) (wb gx : Nat) (l1 o1 : Int) (a1 : Option Addr) (n1 c1 : Nat) (us1 : List Int) (gb : Nat) (l2 o2 : Int) (a2 : Option Addr) (n2 c2 M : Nat) : Prop where
  xa : XA w wx l o zs a cap r
  wpg : Has wx wb 28 #[.int .i64 l1, .int .i64 o1, .slice a1 n1 c1]
  gpg : Has wx gb 28 #[.int .i64 l2, .int .i64 o2, .slice a2 n2 c2]
  i1 : Ints .i64 wx gx a1 us1
  im : Ints .i64 wx M a2 (marks 1 n2)
  ord : w.heap.size + 1 < wb ∧ wb < gx ∧ gx < gb ∧ gb < M ∧ M ≤ wx.heap.size
section
variable {w wx wy : World} {l o : Int} {zs : List Int} {a : Option Addr} {cap : Nat} {r : R} {lsn : Int} {wb xb gx : Nat} {l1 o1 : Int} {a1 : Option Addr} {n1 c1 : Nat} {us1 : List Int} {gb : Nat} {l2 o2 : Int} {a2 : Option Addr} {n2 c2 M : Nat} {us2 : List Int}
theorem GS.mark (h : GS w wx l o zs a cap r lsn wb xb gx l1 o1 a1 n1 c1 us1 gb l2 o2 a2 n2 c2 us2) (hg : wx.grownBy wy (some gx)) : TS w wy l o zs a cap r lsn wb gx l1 o1 a1 n1 c1 us1 gb l2 o2 a2 n2 c2 us2 := by
  have h1 := h.ps.ord
  have h2 := h.ord
  have h3 := h.gpg.lt
  have h4 := h.ps.xa.kept.size
  have hx := h.ps.xa
  have hb : Below gx wx wy := below_grown hg (Nat.le_refl _) (by omega)
  refine ⟨hx.mid hb (by omega), h.ps.wpg.below hb (by omega), h.gpg.grown hg (fun e => by injection e; omega), h.ps.i1.below hb, ⟨h.got.val, fun hp => ?_, h.got.len, h.got.fit, h.got.small, fun e => ?_, h.got.no⟩, by omega, h.apart⟩
  · obtain ⟨g, q, e, hgl, hr⟩ := h.got.ints hp
    have hne : gx + 1 ≤ g := by
      cases hd : doB l o zs r lsn
      · obtain ⟨_, _, rfl⟩ := h.got.no hd
        simp at hp
      · obtain ⟨_, _, _, _, g', q', e', hg', _⟩ := h.got.yes hd
        rw [e] at e'
        injection e' with e'
        injection e' with e1 e2
        omega
    exact ⟨g, q, e, Nat.lt_of_lt_of_le hgl hg.size, hr.grown hg hgl (fun e => by injection e; omega)⟩
  · obtain ⟨k1, k2, k3, k4, g, q, k5, k6, k7, k8⟩ := h.got.yes e
    exact ⟨k1, k2, k3, k4, g, q, k5, k6, k7.grown hg k8.1 (fun e => by injection e; omega), k8.grown hg (fun e => by injection e; omega)⟩
theorem TS.below (h : TS w wx l o zs a cap r lsn wb gx l1 o1 a1 n1 c1 us1 gb l2 o2 a2 n2 c2 us2) (hb : Below wx.heap.size wx wy) : TS w wy l o zs a cap r lsn wb gx l1 o1 a1 n1 c1 us1 gb l2 o2 a2 n2 c2 us2 := by
  have h1 := h.ord
  have h3 := h.gpg.lt
  exact ⟨h.xa.below hb, h.wpg.below hb (by omega), h.gpg.below hb h3, h.i1.below (hb.mono (by omega)), h.got.below hb, h.ord, h.apart⟩
theorem US.below (h : US w wx l o zs a cap r wb gx l1 o1 a1 n1 c1 us1 gb l2 o2 a2 n2 c2 M) (hb : Below wx.heap.size wx wy) : US w wy l o zs a cap r wb gx l1 o1 a1 n1 c1 us1 gb l2 o2 a2 n2 c2 M := by
  have h1 := h.ord
  have h2 := hb.size
  exact ⟨h.xa.below hb, h.wpg.below hb (by omega), h.gpg.below hb (by omega), h.i1.below (hb.mono (by omega)), h.im.below (hb.mono (by omega)), by omega⟩
theorem US.alloc (h : US w wx l o zs a cap r wb gx l1 o1 a1 n1 c1 us1 gb l2 o2 a2 n2 c2 M) (ob : Obj) : US w (wx.alloc ob) l o zs a cap r wb gx l1 o1 a1 n1 c1 us1 gb l2 o2 a2 n2 c2 M := h.below (below_one _ _)
theorem US.drew (h : US w wx l o zs a cap r wb gx l1 o1 a1 n1 c1 us1 gb l2 o2 a2 n2 c2 M) : US w wx.drew l o zs a cap r wb gx l1 o1 a1 n1 c1 us1 gb l2 o2 a2 n2 c2 M := h.below (below_draws (Below.refl _ _) 1)
theorem US.put (h : US w wx l o zs a cap r wb gx l1 o1 a1 n1 c1 us1 gb l2 o2 a2 n2 c2 M) {b : Nat} (hb : M ≤ b) (x y z : Value) : US w (put3 wx b x y z) l o zs a cap r wb gx l1 o1 a1 n1 c1 us1 gb l2 o2 a2 n2 c2 M := by
  have h1 := h.ord
  have hk : ∀ i, i < M → (put3 wx b x y z).heap[i]? = wx.heap[i]? := fun i hi => by rw [put3, Below.heap_setCell _ _ _ _ (by simp; omega), Below.heap_setCell _ _ _ _ (by simp; omega), Below.heap_setCell _ _ _ _ (by simp; omega)]
  exact ⟨h.xa.put (by omega) _ _ _, h.wpg.keep (hk _ (by omega)), h.gpg.keep (hk _ (by omega)), h.i1.keep (fun i hi => hk i (by omega)), h.im.keep hk, by rw [size_put3]; omega⟩
end
/-- the second answer in a block of its own -/
def AtH (w : World) (l o : Int) (zs : List Int) (a : Option Addr) (cap : Nat) (r : R) (lsn : Int) (wb gx : Nat) (l1 o1 : Int) (a1 : Option Addr) (n1 c1 : Nat) (us1 : List Int) (gb : Nat) (l2 o2 : Int) (a2 : Option Addr) (n2 c2 M : Nat) (v16 v17 : Value) (wx : World) : Prop :=
  ∃ (hb : Nat) (l3 o3 : Int) (a3 : Option Addr) (n3 c3 : Nat) (us3 : List Int), v16 = .pointer (some ⟨hb, 0, none⟩) ∧ v17 = .bool (doB l o zs r lsn) ∧ US w wx l o zs a cap r wb gx l1 o1 a1 n1 c1 us1 gb l2 o2 a2 n2 c2 M ∧ Has wx hb 28 #[.int .i64 l3, .int .i64 o3, .slice a3 n3 c3] ∧
    Got (doB l o zs r lsn) lsn (oW r.s r.n o) (newZ r zs) wx 0 (pageV l3 o3 a3 n3 c3) l3 o3 a3 n3 c3 us3

def AtG (w : World) (l o : Int) (zs : List Int) (a : Option Addr) (cap : Nat) (r : R) (lsn : Int) (wb xb gx : Nat) (l1 o1 : Int) (a1 : Option Addr) (n1 c1 : Nat) (us1 : List Int) (v11 v12 : Value) (wx : World) : Prop :=
  ∃ (gb : Nat) (l2 o2 : Int) (a2 : Option Addr) (n2 c2 : Nat) (us2 : List Int), v11 = .pointer (some ⟨gb, 0, none⟩) ∧ v12 = .bool (doB l o zs r lsn) ∧ GS w wx l o zs a cap r lsn wb xb gx l1 o1 a1 n1 c1 us1 gb l2 o2 a2 n2 c2 us2 ∧ ((l2 == l1) && ((o2 == o1) && (us2 == us1))) = true

/-- the model's answer lies in a block of its own -/
def AtW (w : World) (l o : Int) (zs : List Int) (a : Option Addr) (cap : Nat) (r : R) (lsn : Int) (v8 v9 : Value) (wx : World) : Prop :=
  ∃ (wb : Nat) (l1 o1 : Int) (a1 : Option Addr) (n1 c1 : Nat) (us1 : List Int), v8 = .pointer (some ⟨wb, 0, none⟩) ∧ v9 = .bool (doB l o zs r lsn) ∧ XA w wx l o zs a cap r ∧ w.heap.size + 1 < wb ∧
    Has wx wb 28 #[.int .i64 l1, .int .i64 o1, .slice a1 n1 c1] ∧ Got (doB l o zs r lsn) lsn (oW r.s r.n o) (newZ r zs) wx 0 (pageV l1 o1 a1 n1 c1) l1 o1 a1 n1 c1 us1

set_option maxRecDepth 100000 in
set_option maxHeartbeats 8000000 in
theorem walk (l o : Int) (zs : List Int) (a : Option Addr) (cap : Nat) (r : R) (lsn : Int) (w : World) (hz : Ints .i64 w w.heap.size a zs) (hc : zs.length ≤ cap) (hm : cap ≤ maxLen) :
    Calls Try.prog 3 #[pageV l o a zs.length cap, recV r, .int .i64 lsn] w (Keeps (.bool true) w) := by
  have Hz := Lib.hid hz
  have hm' : zs.length ≤ maxLen := Nat.le_trans hc hm
  clear hz
  have x0 : XA w ((w.alloc (.cells #[.int .i64 l, .int .i64 o, .slice a zs.length cap] 24)).alloc (.cells #[.int .i64 r.k, .int .i64 r.t, .int .i64 r.p, .int .i64 r.s, .int .i64 r.o, .int .i64 r.n, .int .i64 r.v, .int .i64 r.x] 26)) l o zs a cap r := by
    have hr := Has.new (w.alloc (.cells #[.int .i64 l, .int .i64 o, .slice a zs.length cap] 24)) 26 #[.int .i64 r.k, .int .i64 r.t, .int .i64 r.p, .int .i64 r.s, .int .i64 r.o, .int .i64 r.n, .int .i64 r.v, .int .i64 r.x]
    rw [World.size_alloc] at hr
    exact ⟨(Has.new w _ _).alloc _, hr, below_two _ _ _⟩
  have X0 := Lib.hid x0
  clear x0
  go_enter Try.func3, Try.ntmps3
  go_wp2_with fail
  refine (szPage_any l o a zs.length cap 1048576 _ (by omega) (by omega) hm').mono ?_
  rintro e w1 ⟨rfl, b1⟩
  have X1 := Lib.hid (X0.out.below b1)
  clear b1 X0
  by_cases hbig : (1048576 : Int) - zs.length < 0
  · have hq : Base.leftOf 1048576 zs.length = -1 := by unfold Base.leftOf; rw [if_pos hbig]
    rw [hq]
    clear hq
    go_wp2
    go_ret
    exact ⟨rfl, X1.out.kept⟩
  have hq : Base.leftOf 1048576 zs.length = 1048576 - zs.length := by unfold Base.leftOf; rw [if_neg hbig]
  rw [hq]
  clear hq
  have mx : zs.length ≤ 1000000000 := by omega
  obtain ⟨p0, p1, p2⟩ := X1.out.page.three
  obtain ⟨pa, pb, pc, pd, pe, pf, pg, ph⟩ := eight X1.out.rcd
  have n1 := X1.out.lt
  go_upto_region 5 with (fail)
  go_cut [8, 9] (fun v8 v9 wx => AtW w l o zs a cap r lsn v8 v9 wx)
  case first =>
    go_wp2_with fail
    go_region_held3 (fun w' => w'.cell? ⟨w.heap.size, 0, none⟩ = some (.int .i64 l) ∧ w'.cell? ⟨w.heap.size, 1, none⟩ = some (.int .i64 o) ∧ w'.cell? ⟨w.heap.size, 2, none⟩ = some (.slice a zs.length cap) ∧ w'.cell? ⟨w.heap.size + 1, 0, none⟩ = some (.int .i64 r.k) ∧ w'.cell? ⟨w.heap.size + 1, 1, none⟩ = some (.int .i64 r.t) ∧ w'.cell? ⟨w.heap.size + 1, 2, none⟩ = some (.int .i64 r.p) ∧ w'.cell? ⟨w.heap.size + 1, 3, none⟩ = some (.int .i64 r.s) ∧ w'.cell? ⟨w.heap.size + 1, 4, none⟩ = some (.int .i64 r.o) ∧ w'.cell? ⟨w.heap.size + 1, 5, none⟩ = some (.int .i64 r.n) ∧ w'.cell? ⟨w.heap.size + 1, 6, none⟩ = some (.int .i64 r.v) ∧ w'.cell? ⟨w.heap.size + 1, 7, none⟩ = some (.int .i64 r.x)) (first | (with_reducible exact ⟨p0, p1, p2, pa, pb, pc, pd, pe, pf, pg, ph⟩) | (with_reducible exact ⟨m0, m1, m2, ma, mb, mc, md, me, mf, mg, mh⟩) | (with_reducible exact ⟨j0, j1, j2, ja, jb, jc, jd, je, jf, jg, jh⟩) | (with_reducible exact ⟨k0, k1, k2, ka, kb, kc, kd, ke, kf, kg, kh⟩) | (refine ⟨?_, ?_, ?_, ?_, ?_, ?_, ?_, ?_, ?_, ?_, ?_⟩ <;> (repeat rw [World.cell?_setCell_other _ _ _ _ (fun e => by injection e; omega)]) <;> (with_reducible assumption)) | go_keep)
      (first
        | (go_at_call 7; refine (toPage_any l o zs a cap w.heap.size _ (by simp; omega) (Hz.out.below (by first | exact X1.out.drew.kept | exact (X1.out.drew.alloc _).kept)) mx).mono ?_; rintro e w2 ⟨g2, rfl, b2, s2, r2, x2⟩; have X2 := Lib.hid (XA.below (by first | exact X1.out.drew | exact X1.out.drew.alloc _) b2); have R2 := Lib.hid r2; have l2 := x2.1; have n2 := X2.out.lt; obtain ⟨m0, m1, m2⟩ := X2.out.page.three; obtain ⟨ma, mb, mc, md, me, mf, mg, mh⟩ := eight X2.out.rcd; (try (have A2 := Lib.hid ((Has.new w1 28 #[.int .i64 0, .int .i64 0, .slice none 0 0]).drew.below b2 (by simp)))); clear b2 r2 x2)
        | (go_at_call 8; refine (toRec_any r _).mono ?_; rintro e w3 ⟨rfl, b3⟩; have X3 := Lib.hid (XA.below (by first | exact X2.out | exact X2.out.alloc _) b3); have R3 : Hid (Rd .i64 w3 g2 0 zs) := (by first | exact R2.out.below b3 l2 | exact (R2.out.below (below_one _ _) l2).below b3 (by simp; omega)); have l3 : g2 < w3.heap.size := (by have := b3.size; (try simp at this); omega); (try (have A3 := Lib.hid (A2.out.below b3 A2.out.lt))); (try (have A3 := Lib.hid ((Has.new w2 28 #[.int .i64 0, .int .i64 0, .slice none 0 0]).below b3 (by simp)))); have n3 := X3.out.lt; obtain ⟨j0, j1, j2⟩ := X3.out.page.three; obtain ⟨ja, jb, jc, jd, je, jf, jg, jh⟩ := eight X3.out.rcd; clear b3)
        | (go_at_call 6; refine (specRecDo_any l o zs (some ⟨g2, 0, none⟩) zs.length _ r lsn _ (Nat.le_refl _) (by first | exact R3.out.ints l3 | exact (R3.out.below (below_one _ _) l3).ints (by simp; omega)) mx).mono ?_; rintro e w4 h4; obtain ⟨u1, l1, o1, a1, n4, c1, us1, rfl, g4⟩ := h4.got rfl; obtain rfl := g4.val; have X4 := Lib.hid (XA.below (by first | exact X3.out | exact X3.out.alloc _) h4.kept); have G4 := Lib.hid g4; (try (have A4 := Lib.hid (A3.out.below h4.kept A3.out.lt))); (try (have A4 := Lib.hid ((Has.new w3 28 #[.int .i64 0, .int .i64 0, .slice none 0 0]).below h4.kept (by simp)))); (try (obtain ⟨z0, z1, z2⟩ := A4.out.three; have y0 := A4.out.frozen 0; have y1 := A4.out.frozen 1; have y2 := A4.out.frozen 2)); obtain ⟨k0, k1, k2⟩ := X4.out.page.three; obtain ⟨ka, kb, kc, kd, ke, kf, kg, kh⟩ := eight X4.out.rcd; clear h4 g4))
    · have nX := X4.out.lt
      go_wp2_with fail
      go_meet
      exact ⟨w4.heap.size, l1, o1, a1, n4, c1, us1, rfl, rfl, X4.out.alloc _, nX, Has.new _ _ _, got_weak (G4.out.below (below_one _ _)) (Nat.zero_le _)⟩
    · go_wp2_with fail
      go_meet
      exact ⟨w3.heap.size, l1, o1, a1, n4, c1, us1, rfl, rfl, X4.out.put n3 _ _ _, n3, has_put3 A4.out _ _ _, got_weak (got_put G4.out (by simp) _ _ _) (Nat.zero_le _)⟩
    · go_wp2_with fail
      go_meet
      exact ⟨w2.heap.size, l1, o1, a1, n4, c1, us1, rfl, rfl, X4.out.put n2 _ _ _, n2, has_put3 A4.out _ _ _, got_weak (got_put G4.out A3.out.lt _ _ _) (Nat.zero_le _)⟩
    · go_wp2_with fail
      go_meet
      exact ⟨w1.heap.size, l1, o1, a1, n4, c1, us1, rfl, rfl, X4.out.put n1 _ _ _, n1, has_put3 A4.out _ _ _, got_weak (got_put G4.out A3.out.lt _ _ _) (Nat.zero_le _)⟩
  case rest =>
    obtain ⟨wb, l1, o1, a1, n1', c1, us1, rfl, rfl, hX, hwb, hW, hG⟩ := hcut
    clear X1 n1 p0 p1 p2 pa pb pc pd pe pf pg ph
    have X := Lib.hid hX
    have Wb := Lib.hid hW
    have G1 := Lib.hid hG
    clear hX hW hG
    obtain ⟨p0, p1, p2⟩ := X.out.page.three
    obtain ⟨pa, pb, pc, pd, pe, pf, pg, ph⟩ := eight X.out.rcd
    have sw := Wb.out.lt
    have sx := X.out.lt
    go_wp2_with fail
    refine (toPage_any l o zs a cap w.heap.size _ (by omega) (Hz.out.below X.out.kept) mx).mono ?_
    rintro e w2 ⟨gx, rfl, b2, s2, r2, x2⟩
    have ob : Below w2.heap.size w2 (w2.alloc (.cells #[.int .i64 l, .int .i64 o, .slice (some ⟨gx, 0, none⟩) zs.length zs.length] 28)) := below_one _ _
    have lx := x2.1
    have p3 : PS w (w2.alloc (.cells #[.int .i64 l, .int .i64 o, .slice (some ⟨gx, 0, none⟩) zs.length zs.length] 28)) l o zs a cap r wb w2.heap.size gx l1 o1 a1 n1' c1 us1 :=
      ⟨(X.out.below b2).below ob, (Wb.out.below b2 sw).below ob (by have := b2.size; omega), Has.new _ _ _, ((G1.out.ints.below b2).more s2).below (ob.mono (by omega)), r2.below ob lx, x2.below ob lx, by omega⟩
    have P3 := Lib.hid p3
    have G3 := Lib.hid ((G1.out.below b2).below ob)
    clear ob b2 r2 x2 p3 X Wb G1 p0 p1 p2 pa pb pc pd pe pf pg ph
    go_upto_region 7 with (fail)
    generalize (w2.alloc (.cells #[.int .i64 l, .int .i64 o, .slice (some ⟨gx, 0, none⟩) zs.length zs.length] 28)) = w3 at *
    generalize w2.heap.size = xb at *
    go_cut [11, 12] (fun v11 v12 wx => AtG w l o zs a cap r lsn wb xb gx l1 o1 a1 n1' c1 us1 v11 v12 wx)
    case first =>
      have n3 := P3.out.lt
      have no3 := P3.out.ord
      obtain ⟨q0, q1, q2⟩ := P3.out.xpg.three
      obtain ⟨qa, qb, qc, qd, qe, qf, qg, qh⟩ := eight P3.out.xa.rcd
      go_wp2_with fail
      go_region_held3 (fun w' => w'.cell? ⟨xb, 0, none⟩ = some (.int .i64 l) ∧ w'.cell? ⟨xb, 1, none⟩ = some (.int .i64 o) ∧ w'.cell? ⟨xb, 2, none⟩ = some (.slice (some ⟨gx, 0, none⟩) zs.length zs.length) ∧ w'.cell? ⟨w.heap.size + 1, 0, none⟩ = some (.int .i64 r.k) ∧ w'.cell? ⟨w.heap.size + 1, 1, none⟩ = some (.int .i64 r.t) ∧ w'.cell? ⟨w.heap.size + 1, 2, none⟩ = some (.int .i64 r.p) ∧ w'.cell? ⟨w.heap.size + 1, 3, none⟩ = some (.int .i64 r.s) ∧ w'.cell? ⟨w.heap.size + 1, 4, none⟩ = some (.int .i64 r.o) ∧ w'.cell? ⟨w.heap.size + 1, 5, none⟩ = some (.int .i64 r.n) ∧ w'.cell? ⟨w.heap.size + 1, 6, none⟩ = some (.int .i64 r.v) ∧ w'.cell? ⟨w.heap.size + 1, 7, none⟩ = some (.int .i64 r.x)) (first | (with_reducible exact ⟨q0, q1, q2, qa, qb, qc, qd, qe, qf, qg, qh⟩) | (with_reducible exact ⟨m0, m1, m2, ma, mb, mc, md, me, mf, mg, mh⟩) | (with_reducible exact ⟨j0, j1, j2, ja, jb, jc, jd, je, jf, jg, jh⟩) | (refine ⟨?_, ?_, ?_, ?_, ?_, ?_, ?_, ?_, ?_, ?_, ?_⟩ <;> (repeat rw [World.cell?_setCell_other _ _ _ _ (fun e => by injection e; omega)]) <;> (with_reducible assumption)) | go_keep)
        (first
          | (go_at_call 8; refine (toRec_any r _).mono ?_; rintro e w4 ⟨rfl, b4⟩; have P4 := Lib.hid (PS.below (by first | exact P3.out.drew | exact (P3.out.alloc _).drew) b4); have G4 := Lib.hid (Got.below (by first | exact G3.out.below (below_draws (Below.refl _ _) 1) | exact (G3.out.below (below_one _ _)).below (below_draws (Below.refl _ _) 1)) b4); (try (have A4 := Lib.hid ((Has.new w3 28 #[.int .i64 0, .int .i64 0, .slice none 0 0]).drew.below b4 (by simp)))); have n4 := P4.out.lt; obtain ⟨m0, m1, m2⟩ := P4.out.xpg.three; obtain ⟨ma, mb, mc, md, me, mf, mg, mh⟩ := eight P4.out.xa.rcd; clear b4)
          | (go_at_call 9; refine (recDo_any l o zs (some ⟨gx, 0, none⟩) zs.length _ r lsn _ (Nat.le_refl _) (by first | exact P4.out.rd.ints (by omega) | exact (P4.out.alloc _).rd.ints (by simp; omega)) (Nat.le_refl _)).mono ?_; rintro e w5 h5; obtain ⟨u2, l2, o2, a2, n2, c2, us2, rfl, g5⟩ := h5.got rfl; obtain rfl := g5.val; have P5 := Lib.hid (PS.below (by first | exact P4.out | exact P4.out.alloc _) h5.kept); have HS := Lib.hid (Got.same g5 (Got.below (by first | exact G4.out | exact G4.out.below (below_one _ _)) h5.kept)); have G5 := Lib.hid g5; (try (have A5 := Lib.hid (A4.out.below h5.kept A4.out.lt))); (try (have A5 := Lib.hid ((Has.new w4 28 #[.int .i64 0, .int .i64 0, .slice none 0 0]).below h5.kept (by simp)))); (try (obtain ⟨z0, z1, z2⟩ := A5.out.three; have y0 := A5.out.frozen 0; have y1 := A5.out.frozen 1; have y2 := A5.out.frozen 2)); obtain ⟨j0, j1, j2⟩ := P5.out.xpg.three; obtain ⟨ja, jb, jc, jd, je, jf, jg, jh⟩ := eight P5.out.xa.rcd; clear h5 g5))
      · have n5 := P5.out.lt
        go_wp2_with fail
        go_meet
        exact ⟨w5.heap.size, l2, o2, a2, n2, c2, us2, rfl, rfl, ⟨P5.out.alloc _, Has.new _ _ _, got_weak (G5.out.below (below_one _ _)) (by omega), n5, fun g q e hb => by
          obtain ⟨_, _, _, _, g', q', e', _, _, hw⟩ := G5.out.yes hb
          rw [e] at e'
          injection e' with e'
          injection e' with e1 e2
          have := hw.1
          omega⟩, HS.out⟩
      · go_wp2_with fail
        go_meet
        exact ⟨w4.heap.size, l2, o2, a2, n2, c2, us2, rfl, rfl, ⟨P5.out.put n4 _ _ _, has_put3 A5.out _ _ _, got_weak (got_put G5.out (by simp) _ _ _) (by simp; omega), n4, fun g q e hb => by
          obtain ⟨_, _, _, _, g', q', e', hg, _, hw⟩ := G5.out.yes hb
          rw [e] at e'
          injection e' with e'
          injection e' with e1 e2
          simp at hg
          omega⟩, HS.out⟩
      · have n5 : w3.heap.size < w4.heap.size := A4.out.lt
        go_wp2_with fail
        go_meet
        exact ⟨w3.heap.size, l2, o2, a2, n2, c2, us2, rfl, rfl, ⟨P5.out.put n3 _ _ _, has_put3 A5.out _ _ _, got_weak (got_put G5.out n5 _ _ _) (by omega), n3, fun g q e hb => by
          obtain ⟨_, _, _, _, g', q', e', hg, _, hw⟩ := G5.out.yes hb
          rw [e] at e'
          injection e' with e'
          injection e' with e1 e2
          omega⟩, HS.out⟩
    case rest =>
      obtain ⟨gb, l2, o2, a2, n2, c2, us2, rfl, rfl, hgs, hsame⟩ := hcut
      have V1 := Lib.hid (got_val G3.out)
      have E1 := Lib.hid G3.out.len
      have sm1 := G3.out.small
      have E2 := Lib.hid hgs.got.len
      have sm2 := hgs.got.small
      have S := Lib.hid hgs
      have HS := Lib.hid hsame
      have so := hgs.ps.ord
      have so2 := hgs.ord
      have sl := hgs.gpg.lt
      obtain ⟨p0, p1, p2⟩ := hgs.gpg.three
      obtain ⟨q0, q1, q2⟩ := hgs.ps.wpg.three
      have hbb : (doB l o zs r lsn != doB l o zs r lsn) = false := by simp
      clear hgs hsame P3 G3 sw sx
      go_wp2_with fail
      refine (eqPage_len l2 l1 o2 o1 us2 us1 a2 a1 n2 n1' c2 c1 wc.heap.size _ E2.out E1.out (Nat.le_refl _) S.out.got.ints (S.out.ps.i1.more (by omega)) (by omega) (by omega)).mono ?_
      rintro e w5 ⟨rfl, b5⟩
      rw [HS.out]
      have S5 := Lib.hid (S.out.below b5)
      clear b5 S p0 p1 p2 q0 q1 q2
      have s5 := S5.out.ps.lt
      obtain ⟨p0, p1, p2⟩ := S5.out.ps.xpg.three
      obtain ⟨q0, q1, q2⟩ := S5.out.ps.xa.page.three
      have n5 := S5.out.ps.xa.lt
      go_wp2_with fail
      go_region_held3 (fun w' => w'.cell? ⟨xb, 0, none⟩ = some (.int .i64 l) ∧ w'.cell? ⟨xb, 1, none⟩ = some (.int .i64 o) ∧ w'.cell? ⟨xb, 2, none⟩ = some (.slice (some ⟨gx, 0, none⟩) zs.length zs.length) ∧ w'.cell? ⟨w.heap.size, 0, none⟩ = some (.int .i64 l) ∧ w'.cell? ⟨w.heap.size, 1, none⟩ = some (.int .i64 o) ∧ w'.cell? ⟨w.heap.size, 2, none⟩ = some (.slice a zs.length cap)) (first | (with_reducible exact ⟨p0, p1, p2, q0, q1, q2⟩) | (with_reducible exact ⟨m0, m1, m2, j0, j1, j2⟩) | (with_reducible exact ⟨k0, k1, k2, d0, d1, d2⟩) | go_keep)
        (first
          | (go_at_call 7; refine (toPage_any l o zs a cap w.heap.size _ (by simp; omega) (Hz.out.below S5.out.ps.drew.xa.kept) mx).mono ?_; rintro e w6 ⟨g6, rfl, b6, s6, r6, x6⟩; have S6 := Lib.hid ((S5.out.below (below_draws (Below.refl _ _) 1)).below b6); have R6 := Lib.hid r6; have l6 := x6.1; have n6 := S6.out.ps.lt; obtain ⟨m0, m1, m2⟩ := S6.out.ps.xpg.three; obtain ⟨j0, j1, j2⟩ := S6.out.ps.xa.page.three; clear b6 r6 x6)
          | (go_at_call 10; refine (eqPage_any l l o o zs zs _ _ _ _ w6.heap.size _ (Nat.le_refl _) (S6.out.ps.rd.ints (by omega)) (R6.out.ints l6) mx mx).mono ?_; rintro e w7 ⟨rfl, b7⟩; rw [show ((l == l) && ((o == o) && (zs == zs))) = true from by simp]; have S7 := Lib.hid (S6.out.below b7); obtain ⟨k0, k1, k2⟩ := S7.out.ps.xpg.three; obtain ⟨d0, d1, d2⟩ := S7.out.ps.xa.page.three; clear b7))
      clear p0 p1 p2 q0 q1 q2 m0 m1 m2 j0 j1 j2 d0 d1 d2 S5 S6 R6 s5 n5 n6
      go_wp2_with fail
      refine (markPage_any l o zs gx 0 zs.length 1 _ S7.out.ps.rd S7.out.ps.wr (by omega) (by omega) mx).mono ?_
      rintro e w8 ⟨rfl, g8, r8, x8⟩
      have T8 := Lib.hid (S7.out.mark g8)
      clear g8 r8 x8 S7 k0 k1 k2
      have bk : decide (1 + (zs.length : Int) < 0) = false := by simp; omega
      obtain ⟨p0, p1, p2⟩ := T8.out.gpg.three
      obtain ⟨q0, q1, q2⟩ := T8.out.wpg.three
      have t8 := T8.out.gpg.lt
      have to8 := T8.out.ord
      go_wp2_with fail
      refine (eqPage_len l2 l1 o2 o1 us2 us1 a2 a1 n2 n1' c2 c1 w8.heap.size _ E2.out E1.out (Nat.le_refl _) T8.out.got.ints (T8.out.i1.more (by omega)) (by omega) (by omega)).mono ?_
      rintro e w9 ⟨rfl, b9⟩
      rw [HS.out]
      have T9 := Lib.hid (T8.out.below b9)
      clear b9 T8 p0 p1 p2 q0 q1 q2 t8 bk
      obtain ⟨p0, p1, p2⟩ := T9.out.gpg.three
      have t9 := T9.out.gpg.lt
      go_wp2_with fail
      refine (mark_got T9.out.got (by omega) T9.out.gpg T9.out.apart).mono ?_
      rintro e w10 ⟨rfl, b10, h10, i10⟩
      have u10 : US w w10 l o zs a cap r wb gx l1 o1 a1 n1' c1 us1 gb l2 o2 a2 n2 c2 w10.heap.size :=
        ⟨T9.out.xa.mid b10 (by omega), T9.out.wpg.below b10 (by omega), h10, T9.out.i1.below (b10.mono (by omega)), i10, by have := h10.lt; omega⟩
      have U10 := Lib.hid u10
      clear u10 b10 h10 i10 T9 p0 p1 p2 t9
      generalize hM : w10.heap.size = M at *
      have HM := Lib.hid hM
      clear hM
      obtain ⟨p0, p1, p2⟩ := U10.out.gpg.three
      have uo := U10.out.ord
      go_wp2_with fail
      refine (heldPage_any l2 o2 n2 a2 c2 w10.heap.size 1 _ (Nat.le_refl _) (U10.out.im.more uo.2.2.2.2) (by omega) (by omega) (by omega)).mono ?_
      rintro e w11 ⟨rfl, b11⟩
      have U11 := Lib.hid (U10.out.below b11)
      clear b11 U10 p0 p1 p2
      have bq : decide (1 + (n2 : Int) < 0) = false := by simp; omega
      have be : (1 + (n2 : Int) != 1 + (n2 : Int)) = false := by simp
      have n11 := U11.out.xa.lt
      have uo11 := U11.out.ord
      obtain ⟨p0, p1, p2⟩ := U11.out.xa.page.three
      obtain ⟨pa, pb, pc, pd, pe, pf, pg, ph⟩ := eight U11.out.xa.rcd
      go_upto_region 24 with (fail)
      go_cut [16, 17] (fun v16 v17 wx => AtH w l o zs a cap r lsn wb gx l1 o1 a1 n1' c1 us1 gb l2 o2 a2 n2 c2 M v16 v17 wx)
      case first =>
        go_wp2_with fail
        go_region_held3 (fun w' => w'.cell? ⟨w.heap.size, 0, none⟩ = some (.int .i64 l) ∧ w'.cell? ⟨w.heap.size, 1, none⟩ = some (.int .i64 o) ∧ w'.cell? ⟨w.heap.size, 2, none⟩ = some (.slice a zs.length cap) ∧ w'.cell? ⟨w.heap.size + 1, 0, none⟩ = some (.int .i64 r.k) ∧ w'.cell? ⟨w.heap.size + 1, 1, none⟩ = some (.int .i64 r.t) ∧ w'.cell? ⟨w.heap.size + 1, 2, none⟩ = some (.int .i64 r.p) ∧ w'.cell? ⟨w.heap.size + 1, 3, none⟩ = some (.int .i64 r.s) ∧ w'.cell? ⟨w.heap.size + 1, 4, none⟩ = some (.int .i64 r.o) ∧ w'.cell? ⟨w.heap.size + 1, 5, none⟩ = some (.int .i64 r.n) ∧ w'.cell? ⟨w.heap.size + 1, 6, none⟩ = some (.int .i64 r.v) ∧ w'.cell? ⟨w.heap.size + 1, 7, none⟩ = some (.int .i64 r.x)) (first | (with_reducible exact ⟨p0, p1, p2, pa, pb, pc, pd, pe, pf, pg, ph⟩) | (with_reducible exact ⟨m0, m1, m2, ma, mb, mc, md, me, mf, mg, mh⟩) | (with_reducible exact ⟨j0, j1, j2, ja, jb, jc, jd, je, jf, jg, jh⟩) | (with_reducible exact ⟨k0, k1, k2, ka, kb, kc, kd, ke, kf, kg, kh⟩) | (refine ⟨?_, ?_, ?_, ?_, ?_, ?_, ?_, ?_, ?_, ?_, ?_⟩ <;> (repeat rw [World.cell?_setCell_other _ _ _ _ (fun e => by injection e; omega)]) <;> (with_reducible assumption)) | go_keep)
          (first
            | (go_at_call 7; refine (toPage_any l o zs a cap w.heap.size _ (by simp; omega) (Hz.out.below (by first | exact U11.out.drew.xa.kept | exact (U11.out.alloc _).drew.xa.kept)) mx).mono ?_; rintro e w12 ⟨g12, rfl, b12, s12, r12, x12⟩; have X2 := Lib.hid (US.below (by first | exact U11.out.drew | exact (U11.out.alloc _).drew) b12); have R2 := Lib.hid r12; have l12 := x12.1; have n12 := X2.out.xa.lt; have uo12 := X2.out.ord; obtain ⟨m0, m1, m2⟩ := X2.out.xa.page.three; obtain ⟨ma, mb, mc, md, me, mf, mg, mh⟩ := eight X2.out.xa.rcd; (try (have A2 := Lib.hid ((Has.new w11 28 #[.int .i64 0, .int .i64 0, .slice none 0 0]).drew.below b12 (by simp)))); clear b12 r12 x12)
            | (go_at_call 8; refine (toRec_any r _).mono ?_; rintro e w13 ⟨rfl, b13⟩; have X3 := Lib.hid (US.below (by first | exact X2.out | exact X2.out.alloc _) b13); have R3 : Hid (Rd .i64 w13 g12 0 zs) := (by first | exact R2.out.below b13 l12 | exact (R2.out.below (below_one _ _) l12).below b13 (by simp; omega)); have l13 : g12 < w13.heap.size := (by have := b13.size; (try simp at this); omega); (try (have A3 := Lib.hid (A2.out.below b13 A2.out.lt))); (try (have A3 := Lib.hid ((Has.new w12 28 #[.int .i64 0, .int .i64 0, .slice none 0 0]).below b13 (by simp)))); have n13 := X3.out.xa.lt; have uo13 := X3.out.ord; obtain ⟨j0, j1, j2⟩ := X3.out.xa.page.three; obtain ⟨ja, jb, jc, jd, je, jf, jg, jh⟩ := eight X3.out.xa.rcd; clear b13)
            | (go_at_call 9; refine (recDo_any l o zs (some ⟨g12, 0, none⟩) zs.length _ r lsn _ (Nat.le_refl _) (by first | exact R3.out.ints l13 | exact (R3.out.below (below_one _ _) l13).ints (by simp; omega)) (Nat.le_refl _)).mono ?_; rintro e w14 h14; obtain ⟨u3, l3, o3, a3, n3, c3, us3, rfl, g14⟩ := h14.got rfl; obtain rfl := g14.val; have X4 := Lib.hid (US.below (by first | exact X3.out | exact X3.out.alloc _) h14.kept); have G4 := Lib.hid g14; (try (have A4 := Lib.hid (A3.out.below h14.kept A3.out.lt))); (try (have A4 := Lib.hid ((Has.new w13 28 #[.int .i64 0, .int .i64 0, .slice none 0 0]).below h14.kept (by simp)))); (try (obtain ⟨z0, z1, z2⟩ := A4.out.three; have y0 := A4.out.frozen 0; have y1 := A4.out.frozen 1; have y2 := A4.out.frozen 2)); obtain ⟨k0, k1, k2⟩ := X4.out.xa.page.three; obtain ⟨ka, kb, kc, kd, ke, kf, kg, kh⟩ := eight X4.out.xa.rcd; clear h14 g14))
        · go_wp2_with fail
          go_meet
          exact ⟨w14.heap.size, l3, o3, a3, n3, c3, us3, rfl, rfl, X4.out.alloc _, Has.new _ _ _, got_weak (G4.out.below (below_one _ _)) (Nat.zero_le _)⟩
        · go_wp2_with fail
          go_meet
          exact ⟨w13.heap.size, l3, o3, a3, n3, c3, us3, rfl, rfl, X4.out.put uo13.2.2.2.2 _ _ _, has_put3 A4.out _ _ _, got_weak (got_put G4.out (by simp) _ _ _) (Nat.zero_le _)⟩
        · go_wp2_with fail
          go_meet
          exact ⟨w12.heap.size, l3, o3, a3, n3, c3, us3, rfl, rfl, X4.out.put uo12.2.2.2.2 _ _ _, has_put3 A4.out _ _ _, got_weak (got_put G4.out A3.out.lt _ _ _) (Nat.zero_le _)⟩
        · go_wp2_with fail
          go_meet
          exact ⟨w11.heap.size, l3, o3, a3, n3, c3, us3, rfl, rfl, X4.out.put uo11.2.2.2.2 _ _ _, has_put3 A4.out _ _ _, got_weak (got_put G4.out A3.out.lt _ _ _) (Nat.zero_le _)⟩
      case rest =>
        obtain ⟨hb, l3, o3, a3, n3, c3, us3, rfl, rfl, hU, hH, hG⟩ := hcut
        have HS3 := Lib.hid (val_same (got_val hG) V1.out)
        have E3 := Lib.hid hG.len
        have sm3 := hG.small
        have I3 := Lib.hid hG.ints
        have U := Lib.hid hU
        have uo := hU.ord
        obtain ⟨d0, d1, d2⟩ := hH.three
        obtain ⟨q0, q1, q2⟩ := hU.wpg.three
        clear hU hH hG U11 p0 p1 p2 pa pb pc pd pe pf pg ph
        go_wp2_with fail
        refine (eqPage_len l3 l1 o3 o1 us3 us1 a3 a1 n3 n1' c3 c1 _ _ E3.out E1.out (Nat.le_refl _) I3.out (U.out.i1.more (by omega)) (by omega) (by omega)).mono ?_
        rintro e w15 ⟨rfl, b15⟩
        rw [HS3.out]
        have U15 := Lib.hid (U.out.below b15)
        clear b15 U I3 d0 d1 d2 q0 q1 q2
        obtain ⟨p0, p1, p2⟩ := U15.out.gpg.three
        have uo15 := U15.out.ord
        go_wp2_with fail
        refine (heldPage_any l2 o2 n2 a2 c2 w15.heap.size 1 _ (Nat.le_refl _) (U15.out.im.more uo15.2.2.2.2) (by omega) (by omega) (by omega)).mono ?_
        rintro e w16 ⟨rfl, b16⟩
        have K := Lib.hid (U15.out.below b16).xa.kept
        clear b16 U15 p0 p1 p2
        go_wp2
        go_ret
        exact ⟨rfl, K.out⟩
theorem own : ownKnob Try.prog.godebug = none := by kernel_rfl
theorem laidOut : laidOutB Try.prog = true := by kernel_rfl

set_option maxRecDepth 100000 in
theorem lifted (os : Os) (started : os.Started) (H : Type) (enc : TypeId × Value → H) :
    ReturnsInHanded {} Try.checked os 3 .any (Rows.fnExactRecDoSpec.pre6 enc Try.prog Try.f3 Rows.fnExactRecDoRow.domain false) (Rows.fnExactRecDoSpec.post enc Try.prog Try.f3 false true false false) := by
  refine returnsInHanded_of_change (C := Try.checked) own started (by kernel_rfl) Try.func3
    (ChangeSpec.witness6 (enc := enc) (C := Try.checked) false ⟨#[], #[.agg #[.int .i64 0, .int .i64 0, .slice none 0 0], .agg #[.int .i64 0, .int .i64 0, .int .i64 0, .int .i64 0, .int .i64 0, .int .i64 0, .int .i64 0, .int .i64 0], .int .i64 0], []⟩ 8 (by kernel_rfl) (by kernel_rfl) (by kernel_rfl) (by kernel_rfl)) ?_
  intro W base args ds gs before hval0 hW hcnd _
  have hval : ∀ (j : Nat) t v, Try.f3.params[j]? = some t → args[j]? = some v → Value.okWide Try.prog W .any base t v := hval0
  have hW' := hW
  obtain ⟨p, q, hA0, hV, rfl, hfz, hnd⟩ := hW
  have hA : DataW.TrodAll enc Try.prog W 0 (fun _ => true) true Try.f3.params.toList args.toList ds p := hA0
  rw [Try.params3] at hA hval
  obtain ⟨v0, vs0, d0, ds0, p0, q0, hargs, rfl, rfl, h0, r0⟩ := trodAll_cons hA
  obtain ⟨v1, vs1, d1, ds1, p1, q1, rfl, rfl, rfl, h1, r1⟩ := trodAll_cons r0
  obtain ⟨v2, vs2, d2, ds2, p2, q2, rfl, rfl, rfl, h2, r2⟩ := trodAll_cons r1
  obtain ⟨rfl, rfl, rfl⟩ := trodAll_nil r2
  obtain rfl : args = #[v0, v1, v2] := by cases args; simp_all
  obtain ⟨rfl, rfl⟩ := trodVars_none hV
  have k0 := h0
  have k1 := h1
  have k2 := h2
  have lt0 : ∀ x ∈ p0, x.block < W.heap.size := by obtain ⟨m, hm⟩ := k0; exact DataW.trod_lt m _ _ _ hm
  have lt1 : ∀ x ∈ p1, x.block < W.heap.size := by obtain ⟨m, hm⟩ := k1; exact DataW.trod_lt m _ _ _ hm
  have lt2 : ∀ x ∈ p2, x.block < W.heap.size := by obtain ⟨m, hm⟩ := k2; exact DataW.trod_lt m _ _ _ hm
  obtain ⟨l, o, zs, a, cap, rfl, hz, hc, hm⟩ := openPage (hval 0 24 v0 rfl rfl) h0
  obtain ⟨r, rfl⟩ := openRec (hval 1 26 v1 rfl rfl)
  obtain ⟨lsn, rfl⟩ := okWide_int Try.underlying3 (hval 2 3 v2 rfl rfl)
  clear hA0 hval0
  refine (walk l o zs a cap r lsn W hz hc hm).mono fun e W' ⟨he, bel⟩ => ?_
  subst he
  exact ⟨_, rfl, _, _, _, [], _, [], hW', trodAll_mk1 (shut_bool Try.underlying4 _), (trodAll_cons_mk (Below.trod laidOut (by kernel_rfl) (of_decide_eq_true (by kernel_rfl)) k0 bel lt0) (trodAll_cons_mk (Below.trod laidOut (by kernel_rfl) (of_decide_eq_true (by kernel_rfl)) k1 bel lt1) (trodAll_cons_mk (Below.trod laidOut (by kernel_rfl) (of_decide_eq_true (by kernel_rfl)) k2 bel lt2) trodAll_mk0))), rfl, bel.frame _, fun h => by cases h⟩

theorem proved : Rows.FnExactRecDoSaid :=
  OpenClaim.holds_of_wide 3 Try.f3 rfl rfl rfl rfl rfl rfl rfl ⟨rfl, rfl, rfl, rfl, rfl⟩ rfl rfl rfl rfl rfl (by kernel_rfl) Try.func3 (by kernel_rfl)
    (of_decide_eq_true (by kernel_rfl)) (by unfold Func.isWrapper; first | (rw [if_pos (by decide +kernel)]; kernel_rfl) | (rw [if_neg (by decide +kernel)]; exact ⟨rfl, rfl⟩))
    (fun os started H enc _ => lifted os started H enc)
#print axioms proved
end Go.Proofs.Ytloglnekjhgfgab.FnExactRecDo

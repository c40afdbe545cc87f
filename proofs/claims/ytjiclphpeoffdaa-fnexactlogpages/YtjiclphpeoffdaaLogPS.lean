/-
  Contracts of the model's l3Has and LogPages. Conditions: the slice leads to records.
-/
import Derived.Test.YtjiclphpeoffdaaLogC
namespace Go.Proofs.Ytjiclphpeoffdaa.Base
open Go.RowKit

/-- whether one of these records is of page p -/
def hasIn (rs : List R) (c : List Nat) (p : Int) : Bool := c.any fun n => (recAt rs (n - 1)).p == p
/-- whether one that is open changed page p -/
def hasB (rs : List R) (t : Int) (p : Int) : Bool := hasIn rs (chainC rs (at0 rs t)) p
/-- the pages of one, among the first k -/
def pagesN (rs : List R) (t : Int) : Nat → List Int
  | 0 => []
  | k + 1 => pagesN rs t k ++ (if hasB rs t (k : Int) = true then [(k : Int)] else [])
/-- LogPages's answer -/
def pagesB (rs : List R) (t : Int) : List Int := pagesN rs t 5
theorem pagesN_len (rs : List R) (t : Int) : ∀ k, (pagesN rs t k).length ≤ k
  | 0 => Nat.le_refl _
  | k + 1 => by
    have := pagesN_len rs t k
    unfold pagesN
    rw [List.length_append]
    split <;> simp <;> omega
theorem pagesB_len (rs : List R) (t : Int) : (pagesB rs t).length ≤ 5 := pagesN_len rs t 5
theorem pagesN_no (rs : List R) (t : Int) (h : logB rs = false) : ∀ k, pagesN rs t k = []
  | 0 => rfl
  | k + 1 => by
    have hh : hasB rs t (k : Int) = false := by
      unfold hasB at0
      rw [lastB_no rs t h]
      rfl
    unfold pagesN
    rw [pagesN_no rs t h k, hh]
    rfl

set_option maxHeartbeats 1000000 in
theorem l3Has_any (rs : List R) (t p : Int) (a : Option Addr) (cap B : Nat) (w : World) (hl : logB rs = true) (hz : Recs w B a rs) (mx : rs.length ≤ 1000000000) :
    Calls Try.prog 38 #[.slice a rs.length cap, .int .i64 t, .int .i64 p] w fun e w' => e = .returned (.bool (hasB rs t p)) ∧ w = w' := by
  have Hz := Lib.hid hz
  have Hl : Hid ((lastN rs t rs.length : Int) = (at0 rs t : Int)) := by
    show (lastN rs t rs.length : Int) = (at0 rs t : Int)
    rw [← at0_lastB, lastB_yes rs t hl]
  have Hst := Lib.hid (at0_steps rs t)
  have hat := at0_le rs t
  clear hz hl
  go_enter Try.func38, Try.ntmps38
  go_wp2_with fail
  refine (l3Last_any rs rs.length t a cap B _ (Nat.le_refl _) Hz.out mx).mono ?_
  rintro e w2 ⟨rfl, rfl⟩
  rw [Hl.out]
  go_wp2_with fail
  go_loop [7] (fun i => ∃ (k : Nat), i = .int .i64 (k : Int) ∧ k ≤ at0 rs t ∧ hasB rs t p = hasIn rs (chainC rs k) p) (fun i => (intOf i).toNat)
  case atStart => exact ⟨_, rfl, Nat.le_refl _, rfl⟩
  case round =>
    obtain ⟨k, rfl, hk, heq⟩ := hrel
    have Heq := Lib.hid heq
    clear heq
    cases k with
    | zero =>
      go_wp2
      go_ret
      exact ⟨ret_bool (by rw [Heq.out]; rfl), rfl⟩
    | succ k =>
      have hk' : k < at0 rs t := by omega
      have Hs : Hid (hasIn rs (chainC rs (k + 1)) p = (((recAt rs k).p == p) || hasIn rs (chainC rs (recAt rs k).v.toNat) p)) := by
        show hasIn rs (chainC rs (k + 1)) p = (((recAt rs k).p == p) || hasIn rs (chainC rs (recAt rs k).v.toNat) p)
        rw [chainC_step rs k _ Hst.out hk']
        rfl
      have hpv := step_prev rs k (Hst.out k hk')
      obtain ⟨pv, hpv'⟩ : ∃ pv : Nat, (recAt rs k).v = (pv : Int) := ⟨(recAt rs k).v.toNat, by omega⟩
      have Hpv : Hid ((recAt rs k).v.toNat = pv) := by show (recAt rs k).v.toNat = pv; omega
      have hpk : pv ≤ k := by omega
      obtain ⟨g, o, rfl, hg, hr⟩ := Hz.out (by omega)
      have hkl : k < rs.length := by omega
      have d2 := (hr k hkl).p
      have d6 := (hr k hkl).v
      rw [hpv'] at d6
      clear hr hpv hpv'
      generalize (recAt rs k).p = z at d2 Hs
      cases bz : (z == p)
      · go_wp2
        exact ⟨⟨pv, rfl, by omega, by rw [Heq.out, Hs.out, bz, Hpv.out]; rfl⟩, by simp [intOf]; omega⟩
      · go_wp2
        go_ret
        exact ⟨ret_bool (by rw [Heq.out, Hs.out, bz]; rfl), rfl⟩

set_option maxHeartbeats 2000000 in
theorem specLogPages_any (rs : List R) (t : Int) (a : Option Addr) (cap B : Nat) (w : World) (hB : B ≤ w.heap.size) (hz : Recs w B a rs) (hc : rs.length ≤ cap) (mx : rs.length ≤ 1000000000) :
    Calls Try.prog 24 #[.slice a rs.length cap, .int .i64 t] w (Gives (pagesB rs t) w) := by
  have Hz := Lib.hid hz
  clear hz
  go_enter Try.func24, Try.ntmps24
  go_wp2_with fail
  refine (specLogOk_any rs a cap B _ (by simp; omega) (Hz.out.below ((below_one _ _).mono hB)) hc mx).mono ?_
  rintro e w1 ⟨rfl, b1⟩
  have q1 := (Has.new w 3 #[]).below b1 (by simp)
  have O1 : Hid (OwnI w1 w.heap.size (.slice (some ⟨w.heap.size, 0, none⟩) 0 0) []) := OwnI.empty q1 (Nat.le_refl _)
  have B1 : Hid (Below w.heap.size w w1) := (below_one _ _).trans (b1.mono (by simp))
  clear b1 q1
  cases hk : logB rs
  · have Ho : Hid (pagesB rs t = []) := pagesN_no rs t hk 5
    clear hk
    go_wp2
    go_ret
    obtain ⟨a', cap', e', m'⟩ := O1.out.mine
    exact ⟨a', cap', by rw [Ho.out]; exact congrArg Ending.returned e', B1.out, by rw [Ho.out]; exact m'⟩
  · have Hk := Lib.hid hk
    clear hk
    go_wp2_with fail
    go_loopw [5, 6] (fun v i wx => ∃ k : Nat, k ≤ 5 ∧ i = .int .i64 (k : Int) ∧ Below w.heap.size w wx ∧ OwnI wx w.heap.size v (pagesN rs t k)) (fun _ i _ => (5 - intOf i).toNat)
    case atStart => exact ⟨0, by omega, rfl, B1.out, O1.out⟩
    case round =>
      clear O1 B1
      obtain ⟨k, hk5, rfl, hb, ho⟩ := hrel
      have Hb := Lib.hid hb
      have Ho := Lib.hid ho
      have hs := hb.size
      clear hb ho
      by_cases hlt : k < 5
      · have hol := pagesN_len rs t k
        have Hn : Hid (pagesN rs t (k + 1) = pagesN rs t k ++ (if hasB rs t (k : Int) = true then [(k : Int)] else [])) := rfl
        cases hh : hasB rs t (k : Int)
        · have Hh := Lib.hid hh
          clear hh
          go_wp2_with (go_at_call 38; refine (l3Has_any rs t _ a cap B _ Hk.out (Hz.out.below (Hb.out.mono hB)) mx).mono ?_; rintro e w2 ⟨rfl, rfl⟩; rw [Hh.out])
          exact ⟨⟨k + 1, by omega, by go_num, Hb.out, by rw [Hn.out, Hh.out]; simpa using Ho.out⟩, by simp [intOf]; omega⟩
        · have Hh := Lib.hid hh
          clear hh
          go_wp2_with (first
            | (go_at_call 38; refine (l3Has_any rs t _ a cap B _ Hk.out (Hz.out.below (Hb.out.mono hB)) mx).mono ?_; rintro e w2 ⟨rfl, rfl⟩; rw [Hh.out])
            | (at_builtin; refine wp_append_int _ rfl (.tmp 20) (.tmp 22) rfl w.heap.size _ (pagesN rs t k) rfl (Ho.out.alloc _) _ (k : Int) rfl (World.cell?_alloc_new _ _ _ _) (by omega) (by simp; omega) ?_; intro v' w' h1 h2; have H1 := Lib.hid h1; have H2 := Lib.hid h2; clear h1 h2))
          refine ⟨⟨k + 1, by omega, by go_num, ?_, by rw [Hn.out, Hh.out]; exact H1.out⟩, by simp [intOf]; omega⟩
          exact (Hb.out.alloc hs _).grown H2.out (by simp; omega) (fun k hk => (World.ownsRow.lt Ho.out k hk).1)
      · obtain rfl : k = 5 := by omega
        obtain ⟨a', cap', e', m'⟩ := Ho.out.mine
        subst e'
        have M := Lib.hid m'
        clear m' Ho
        go_wp2
        go_ret
        exact ⟨a', cap', rfl, Hb.out, M.out⟩
end Go.Proofs.Ytjiclphpeoffdaa.Base

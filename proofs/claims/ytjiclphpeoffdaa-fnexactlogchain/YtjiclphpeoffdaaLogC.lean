/-
  Contracts of LogChain, of the program and of the model. Conditions: the slice leads to records.
-/
import Derived.Test.YtjiclphpeoffdaaChainIt
import Derived.Deep.DeepCutAuto
namespace Go.Proofs.Ytjiclphpeoffdaa.Base
open Go.RowKit Go.Shelf

set_option maxHeartbeats 2000000 in
theorem specLogChain_any (rs : List R) (t : Int) (a : Option Addr) (cap B : Nat) (w : World) (hB : B ≤ w.heap.size) (hz : Recs w B a rs) (hc : rs.length ≤ cap) (mx : rs.length ≤ 1000000000) :
    Calls Try.prog 22 #[.slice a rs.length cap, .int .i64 t] w (Gives (chainB rs t) w) := by
  have Hz := Lib.hid hz
  clear hz
  go_enter Try.func22, Try.ntmps22
  go_wp2_with fail
  refine (specLogOk_any rs a cap B _ (by simp; omega) (Hz.out.below ((below_one _ _).mono hB)) hc mx).mono ?_
  rintro e w1 ⟨rfl, b1⟩
  have q1 := (Has.new w 3 #[]).below b1 (by simp)
  have O1 : Hid (OwnI w1 w.heap.size (.slice (some ⟨w.heap.size, 0, none⟩) 0 0) []) := OwnI.empty q1 (Nat.le_refl _)
  have B1 : Hid (Below w.heap.size w w1) := (below_one _ _).trans (b1.mono (by simp))
  clear b1 q1
  cases hk : logB rs
  · have Ho : Hid (chainB rs t = []) := by
      show chainB rs t = []
      unfold chainB at0
      rw [lastB_no rs t hk]
      rfl
    clear hk
    go_wp2
    go_ret
    obtain ⟨a', cap', e', m'⟩ := O1.out.mine
    exact ⟨a', cap', by rw [Ho.out]; exact congrArg Ending.returned e', B1.out, by rw [Ho.out]; exact m'⟩
  · have Hl : Hid ((lastN rs t rs.length : Int) = (at0 rs t : Int)) := by
      show (lastN rs t rs.length : Int) = (at0 rs t : Int)
      rw [← at0_lastB, lastB_yes rs t hk]
    have Hst := Lib.hid (at0_steps rs t)
    have hat := at0_le rs t
    clear hk
    go_wp2_with fail
    refine (l3Last_any rs rs.length t a cap B _ (Nat.le_refl _) (Hz.out.below (B1.out.mono hB)) mx).mono ?_
    rintro e w2 ⟨rfl, rfl⟩
    rw [Hl.out]
    go_wp2_with fail
    go_loopw [5, 6] (fun v i wx => ∃ (pre : List Nat) (k : Nat), i = .int .i64 (k : Int) ∧ k ≤ at0 rs t ∧ chainC rs (at0 rs t) = pre ++ chainC rs k ∧ Below w.heap.size w wx ∧ OwnI wx w.heap.size v (pre.map fun n : Nat => (n : Int))) (fun _ i _ => (intOf i).toNat)
    case atStart => exact ⟨[], _, rfl, Nat.le_refl _, rfl, B1.out, O1.out⟩
    case round =>
      clear O1 B1
      obtain ⟨pre, k, rfl, hk, heq, hb, ho⟩ := hrel
      have Hb := Lib.hid hb
      have Ho := Lib.hid ho
      have hs := hb.size
      cases k with
      | zero =>
        have hzs : Hid (chainB rs t = pre.map fun n : Nat => (n : Int)) := by
          show chainB rs t = pre.map fun n : Nat => (n : Int)
          unfold chainB
          rw [heq]
          simp [chainC, chainN]
        obtain ⟨a', cap', e', m'⟩ := Ho.out.mine
        subst e'
        have M := Lib.hid m'
        clear m' Ho hb ho heq
        go_wp2
        go_ret
        exact ⟨a', cap', by rw [hzs.out]; rfl, Hb.out, by rw [hzs.out]; exact M.out⟩
      | succ k =>
        have hk' : k < at0 rs t := by omega
        have hlen : pre.length < 150 := by
          have h1 := congrArg List.length heq
          rw [chainC_step rs k _ Hst.out hk', List.length_append, List.length_cons] at h1
          have h2 : (chainC rs (at0 rs t)).length ≤ 150 := Nat.le_trans (chainN_len rs _ _) hat.2
          omega
        have Heq : Hid (chainC rs (at0 rs t) = (pre ++ [k + 1]) ++ chainC rs (recAt rs k).v.toNat) := by
          show chainC rs (at0 rs t) = (pre ++ [k + 1]) ++ chainC rs (recAt rs k).v.toNat
          rw [heq, chainC_step rs k _ Hst.out hk']
          simp
        have hpv := step_prev rs k (Hst.out k hk')
        obtain ⟨pv, hpv'⟩ : ∃ pv : Nat, (recAt rs k).v = (pv : Int) := ⟨(recAt rs k).v.toNat, by omega⟩
        have Hpv : Hid ((recAt rs k).v.toNat = pv) := by show (recAt rs k).v.toNat = pv; omega
        have hpk : pv ≤ k := by omega
        have hkl : k < rs.length := by omega
        have Hpv' := Lib.hid hpv'
        have hml : (pre.map fun n : Nat => (n : Int)).length ≤ 1000000 := by rw [List.length_map]; omega
        clear hb ho heq hpv hpv'
        go_upto_region 6 with (at_builtin; refine wp_append_int _ rfl (.tmp 23) (.tmp 25) rfl w.heap.size _ (pre.map fun n : Nat => (n : Int)) rfl (Ho.out.alloc _) _ ((k : Int) + 1) rfl (World.cell?_alloc_new _ _ _ _) hml (by simp; omega) ?_; intro v' w' h1 h2; have H1 := Lib.hid h1; have B3 : Hid (Below w.heap.size w w') := (Hb.out.alloc hs _).grown h2 (by simp; omega) (fun k hk => (World.ownsRow.lt Ho.out k hk).1); clear h1 h2)
        obtain ⟨g, o, rfl, hg, hr⟩ := (Hz.out.below (B3.out.mono hB)) (by omega)
        have d6 := (hr k hkl).v
        rw [Hpv'.out] at d6
        clear hr
        go_wp2
        exact ⟨⟨pre ++ [k + 1], pv, rfl, by omega, by rw [Heq.out, Hpv.out], B3.out, by simpa using H1.out⟩, by simp [intOf]; omega⟩

attribute [local go_sem] Oper.semAt_some

/-- what a round of 'append' leaves -/
theorem appended_x {W w1 : World} {n₀ B : Nat} {t e : TypeId} {size : Nat} {v v' : Value} {k m : Nat} {xs ys : List Value} {tmp : Obj}
    (hv : Boxed W B t v) (hte : t ≠ e) (hrow : W.ownsRow n₀ e size v k xs) (hn₀ : n₀ ≤ W.heap.size) (hown' : w1.ownsRow n₀ e size v' m ys) (hgrow : (W.alloc tmp).grownBy w1 v.ownBlock) :
    Boxed w1 B t v ∧ Boxed (w1.setCell ⟨B, 0, none⟩ v') B t v' ∧ (w1.setCell ⟨B, 0, none⟩ v').ownsRow n₀ e size v' m ys ∧ KeepsOthers W (w1.setCell ⟨B, 0, none⟩ v') ∧ Kx n₀ B W (w1.setCell ⟨B, 0, none⟩ v') ∧ (∀ m₀, m₀ ≤ n₀ → m₀ ≤ B → Below m₀ W (w1.setCell ⟨B, 0, none⟩ v')) := by
  have hv1 : Boxed w1 B t v := (hv.alloc tmp).kept hgrow (hv.not_row hte hrow)
  have hlow : ∀ j, v.ownBlock = some j → n₀ ≤ j := fun j ej => (hrow.lt j ej).1
  refine ⟨hv1, hv1.set v', hown'.kept (grownBy_setCell' w1 B v') (.inr (hv1.not_row hte hown').symm), ?_, ⟨?_, ?_⟩, ?_⟩
  · refine ((KeepsOthers.alloc W tmp).trans (KeepsOthers.of_grownBy hgrow fun j o ej hj => ?_)).trans (KeepsOthers.setCell _ _ _)
    rcases (hrow.alloc tmp).2 with ⟨rfl, _⟩ | ⟨g, cap, cur, rfl, _, hgb, _⟩
    · simp [Value.ownBlock] at ej
    · obtain rfl : g = j := by simpa [Value.ownBlock] using ej
      rw [hgb] at hj
      cases hj
      rfl
  · rw [size_set]
    have := hgrow.size
    simp at this
    omega
  · intro i hi hn
    rw [Below.heap_setCell _ _ _ _ (by simpa using hn), hgrow.block i (by simp; omega) (fun e => by have := hlow i e.symm; omega), Below.heap_alloc _ _ _ (by omega)]
  · intro m₀ h1 h2
    exact (((Below.refl m₀ W).alloc (by omega) tmp).grown hgrow (by simp; omega) fun j ej => by have := hlow j ej; omega).setCell (p := ⟨B, 0, none⟩) h2 v'

set_option maxHeartbeats 1000000 in
theorem chainOf_any (t : Int) (a : Option Addr) (len cap : Nat) (w : World) :
    Calls Try.prog 37 #[.slice a len cap, .int .i64 t] w fun e w' => e = .returned (.func (.func 52) #[] #[.pointer (some ⟨w.heap.size, 0, none⟩), .pointer (some ⟨w.heap.size + 1, 0, none⟩)]) ∧ w' = (w.alloc (.cells #[.slice a len cap] 25)).alloc (.cells #[.int .i64 t] 3) := by
  go_enter Try.func37, Try.ntmps37
  go_wp2
  go_ret
  exact ⟨rfl, rfl⟩

theorem chain_stops (n : Nat) (hn : 1 ≤ n) (Bl Bt Bx n₀ : Nat) (a : Option Addr) (cap : Nat) (t : Int) (rs : List R) (hc : rs.length ≤ cap) (mx : rs.length ≤ 1000000000) (w : World) (hI : Its w Bl Bt Bx n₀ a cap t rs) (hn₀ : n₀ ≤ w.heap.size) :
    SeqStopsK Fence.wide n Try.prog 52 #[.pointer (some ⟨Bl, 0, none⟩), .pointer (some ⟨Bt, 0, none⟩)] (encC rs) (Kx n₀ Bx) (fun ys => ys = chainC rs (at0 rs t)) (fun pre => pre <+: chainC rs (at0 rs t)) 150 w := fun l J Jx W hW hJ _ hY h0 =>
  chain1_in n hn l Bl Bt Bx n₀ a cap t rs hc mx J Jx (fun s W W' h g => hJ s W W' none h g (fun r e => by cases e)) hY W (hI.below hW hn₀) (Nat.le_trans hn₀ hW.size) h0

set_option maxRecDepth 100000 in
set_option maxHeartbeats 4000000 in
theorem logChain_any (rs : List R) (t : Int) (a : Option Addr) (cap B : Nat) (w : World) (hB : B ≤ w.heap.size) (hz : Recs w B a rs) (hc : rs.length ≤ cap) (mx : rs.length ≤ 1000000000) :
    Calls Try.prog 23 #[.slice a rs.length cap, .int .i64 t] w (Gives (chainB rs t) w) := by
  have Hz := Lib.hid (hz.more hB)
  clear hz
  obtain ⟨i0, hi, hz0, hz1, hz2⟩ := info_parts infoInt
  refine (callsIn_wide (n := 3)).1 ?_
  refine callsIn_of_wp_marks Try.func23 rfl trivial ?_ rfl
  simp only [Try.ntmps23, List.size_toArray, List.length_cons, List.length_nil, Nat.reduceAdd, Nat.reduceSub, Array.replicate_succ, Array.replicate_zero, List.push_toArray, List.append_toArray, List.nil_append, List.cons_append]
  gi_wp2_with (refine ⟨trivial, ?_⟩; gi_at_call 37; refine (callsIn_wide.2 (chainOf_any t a rs.length cap _)).mono ?_; rintro e w' ⟨rfl, rfl⟩)
  have bO := Boxed.new w 31 (.slice none 0 0)
  have hl := Has.new (w.alloc (.cells #[.slice none 0 0] 31)) 25 #[.slice a rs.length cap]
  have ht := Has.new ((w.alloc (.cells #[.slice none 0 0] 31)).alloc (.cells #[.slice a rs.length cap] 25)) 3 #[.int .i64 t]
  simp only [World.size_alloc] at hl ht
  have hB0 : Below w.heap.size w (((w.alloc (.cells #[.slice none 0 0] 31)).alloc (.cells #[.slice a rs.length cap] 25)).alloc (.cells #[.int .i64 t] 3)) := ((below_two _ _ _).alloc (by simp; omega) _)
  have hI : Its (((w.alloc (.cells #[.slice none 0 0] 31)).alloc (.cells #[.slice a rs.length cap] 25)).alloc (.cells #[.int .i64 t] 3)) (w.heap.size + 1) (w.heap.size + 1 + 1) w.heap.size (w.heap.size + 1 + 1 + 1) a cap t rs :=
    ⟨(hl.alloc _).cell 0, ht.cell 0, Hz.out.below hB0, by omega⟩
  have hb3 : Boxed (((w.alloc (.cells #[.slice none 0 0] 31)).alloc (.cells #[.slice a rs.length cap] 25)).alloc (.cells #[.int .i64 t] 3)) w.heap.size 31 (.slice none 0 0) := (bO.alloc _).alloc _
  have hsz : (w.heap.size + 1 + 1 + 1) ≤ (((w.alloc (.cells #[.slice none 0 0] 31)).alloc (.cells #[.slice a rs.length cap] 25)).alloc (.cells #[.int .i64 t] 3)).heap.size := by simp
  have hsz' : (((w.alloc (.cells #[.slice none 0 0] 31)).alloc (.cells #[.slice a rs.length cap] 25)).alloc (.cells #[.int .i64 t] 3)).heap.size = w.heap.size + 1 + 1 + 1 := by simp
  have Hsz := Lib.hid hsz'
  clear hl ht bO hsz'
  generalize (((w.alloc (.cells #[.slice none 0 0] 31)).alloc (.cells #[.slice a rs.length cap] 25)).alloc (.cells #[.int .i64 t] 3)) = W0 at *
  refine wpIn_rangeFunc_ownG rfl (by omega) (gf := 52) (lb := #[.pointer (some ⟨w.heap.size + 1, 0, none⟩), .pointer (some ⟨w.heap.size + 1 + 1, 0, none⟩)]) rfl trivial (enters_of Try.func52 (by kernel_rfl) rfl)
    (chain_stops 2 (by omega) (w.heap.size + 1) (w.heap.size + 1 + 1) w.heap.size (w.heap.size + 1 + 1 + 1) a cap t rs hc mx W0 hI hsz) Kx.trans (kx_b hsz) (Below.refl _ _) (fun _ => rfl)
    (fun pre W => (∃ v, Boxed W w.heap.size 31 v ∧ W.ownsRow (w.heap.size + 1 + 1 + 1) 3 1 v pre.length (pre.map fun n : Nat => Value.int .i64 (n : Int)) ∧ True) ∧ (Below w.heap.size w W ∧ (w.heap.size + 1 + 1 + 1) ≤ W.heap.size))
    (fun _ _ _ => False)
    (OwnFrom.and (Own.from (holdsRow_own (w.heap.size + 1 + 1 + 1) w.heap.size 31 3 1 (fun pre : List Nat => pre.length) (fun pre => pre.map fun n : Nat => Value.int .i64 (n : Int)) (fun _ _ => True)) _) (OwnFrom.and (ownFrom_below (Nat.le_refl _) (by omega)) (fun _ _ _ _ h hg _ => Nat.le_trans h hg.size)))
    (fun _ _ _ _ _ hs _ _ => hs)
    ⟨⟨_, hb3, World.ownsRow_nil _ _ _ _, trivial⟩, hB0, hsz⟩
    (fun n => { tmps := #[.slice a rs.length cap, .int .i64 t, undef, undef, .slice none 0 0, .pointer (some ⟨w.heap.size, 0, none⟩), .int .i64 (n : Int), .slice a rs.length cap, .int .i64 t, .func (.func 52) #[] #[.pointer (some ⟨w.heap.size + 1, 0, none⟩), .pointer (some ⟨w.heap.size + 1 + 1, 0, none⟩)], .int .i64 (n : Int), recV (recAt rs (n - 1)), undef, undef, undef, undef, undef], defers := [] }) ?assign ?body ?done ?stop
  case assign =>
    intro l x W K hK
    gi_wp2
    exact hK
  case body =>
    rintro l pre x W ⟨⟨v, hv, hrow, -⟩, hB, hn⟩ hlt
    have hc0 := hv.cell
    gi_wp2_with (gi_at_builtin; refine wpListIn_append_own _ rfl _ _ 31 rfl (w.heap.size + 1 + 1 + 1) 3 i0 (.int .i64 0) 1 8 Try.underlying31 hi hz0 hz1 hz2 rfl (by decide) _ _ _ rfl (hrow.alloc _) ⟨W.heap.size, 0, none⟩ 1 1 [.int .i64 (x : Int)] rfl rfl (cell_one_new _ _ _) (by simp [Value.oneCell']) (by simp [maxLen]; omega) (by omega) (by simp; omega) ?_; intro v' w1 hown' hgrow _; obtain ⟨g', cap', rfl⟩ := ownsRow_succ hown'; obtain ⟨hv1, hv2, hr2, hk2, hx2, hb2⟩ := appended_x hv (by decide) hrow hn hown' hgrow; have hc1 := hv1.cell; have hf1 := hv1.frozen)
    have hbb := hb2 w.heap.size (by omega) (Nat.le_refl _)
    exact ⟨hk2.from _, hx2, ⟨_, hv2, by simpa using hr2, trivial⟩, hB.trans hbb, Nat.le_trans hn hx2.size⟩
  case done =>
    rintro D ys W hD rfl ⟨⟨v, hv, hrow, -⟩, hB, hn⟩ hK
    have hc0 := hv.cell
    have hown : OwnI (W.putObj D (.deferred none)) (w.heap.size + 1 + 1 + 1) v (chainB rs t) := by
      unfold OwnI chainB
      rw [List.length_map, List.map_map]
      exact ownsRow_putObj hrow _ hK rfl
    obtain ⟨a', cap', rfl, m'⟩ := hown.mine
    have M := Lib.hid (m'.low (base' := w.heap.size) (by omega))
    clear m' hown
    gi_wp2
    refine ⟨by simp, .inl ⟨_, _, rfl, run_takeDeferred hK, ?_⟩⟩
    exact ⟨_, results_tmp rfl _ _ _, a', cap', rfl, hB.trans (belowK_b (w := w) (Nat.le_refl _) W D _ _ (by have := Hsz.out; omega) hK rfl rfl), M.out⟩
  case stop =>
    rintro D c pre W _ _ h _
    exact h.elim
end Go.Proofs.Ytjiclphpeoffdaa.Base

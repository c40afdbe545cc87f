/-
  Contract of the program's parseRec and RecRead, for every text. Conditions: the package variables hold what the program's text lays there.
-/
import Derived.Test.YtoihdbcdlodkgaaGreatDoorRead2
namespace Go.Proofs.YtoihdbcdlodkgaaGreatDoor.Base
open Go.RowKit

/-- the words behind the first -/
def tailW (a1 a2 a3 a4 a5 a6 a7 : ByteArray) (j : Nat) : ByteArray := [a1, a2, a3, a4, a5, a6, a7].getD j a1
theorem tailW_cell (a0 a1 a2 a3 a4 a5 a6 a7 : ByteArray) (k : Nat) (hk : k < 7) : (#[.string a0, .string a1, .string a2, .string a3, .string a4, .string a5, .string a6, .string a7] : Array Value)[1 + k]? = some (.string (tailW a1 a2 a3 a4 a5 a6 a7 k)) := by
  match k, hk with
  | 0, _ => rfl
  | 1, _ => rfl
  | 2, _ => rfl
  | 3, _ => rfl
  | 4, _ => rfl
  | 5, _ => rfl
  | 6, _ => rfl
theorem tailW_mem (a0 a1 a2 a3 a4 a5 a6 a7 : ByteArray) (k : Nat) (hk : k < 7) : (tailW a1 a2 a3 a4 a5 a6 a7 k).data.toList ∈ [a0, a1, a2, a3, a4, a5, a6, a7].map (·.data.toList) := by
  match k, hk with
  | 0, _ => simp [tailW]
  | 1, _ => simp [tailW]
  | 2, _ => simp [tailW]
  | 3, _ => simp [tailW]
  | 4, _ => simp [tailW]
  | 5, _ => simp [tailW]
  | 6, _ => simp [tailW]
/-- the words of a text of a record are its name and its numbers -/
theorem words_rec {l : List UInt8} {r : R} {a0 a1 a2 a3 a4 a5 a6 a7 : ByteArray} (hw : [a0, a1, a2, a3, a4, a5, a6, a7].map (·.data.toList) = cutW l) (h : IsText l r) :
    a0.data.toList = nameL r.k ∧ (∀ k, k < 7 → Lib.atoiAll (tailW a1 a2 a3 a4 a5 a6 a7 k).data.toList = .ok ([r.t, r.p, r.s, r.o, r.n, r.v, r.x].getD k 0)) := by
  have e := hw.trans (isText_len h).2.2
  simp only [wordsL, List.map_cons, List.map_nil, List.cons.injEq, and_true] at e
  obtain ⟨e0, e1, e2, e3, e4, e5, e6, e7⟩ := e
  obtain ⟨⟨t0, t1⟩, ⟨p0, p1⟩, ⟨s0, s1⟩, ⟨o0, o1⟩, ⟨n0, n1⟩, ⟨v0, v1⟩, x0, x1⟩ := okR_bounds h.1
  refine ⟨e0, fun k hk => ?_⟩
  match k, hk with
  | 0, _ => exact (congrArg _ e1).trans (atoi_itoa (by omega) (by omega))
  | 1, _ => exact (congrArg _ e2).trans (atoi_itoa (by omega) (by omega))
  | 2, _ => exact (congrArg _ e3).trans (atoi_itoa (by omega) (by omega))
  | 3, _ => exact (congrArg _ e4).trans (atoi_itoa (by omega) (by omega))
  | 4, _ => exact (congrArg _ e5).trans (atoi_itoa (by omega) (by omega))
  | 5, _ => exact (congrArg _ e6).trans (atoi_itoa (by omega) (by omega))
  | 6, _ => exact (congrArg _ e7).trans (atoi_itoa (by omega) (by omega))
/-- where all words behind the first are numbers, the record that they give is the text's, if the text is of one -/
theorem words_all {l : List UInt8} {r : R} {a0 a1 a2 a3 a4 a5 a6 a7 : ByteArray} {f : Nat → Int} (hw : [a0, a1, a2, a3, a4, a5, a6, a7].map (·.data.toList) = cutW l) (h : IsText l r)
    (hf : ∀ k, k < 7 → Lib.atoiAll (tailW a1 a2 a3 a4 a5 a6 a7 k).data.toList = .ok (f k)) : r = ⟨kindW a0.data.toList, f 0, f 1, f 2, f 3, f 4, f 5, f 6⟩ := by
  obtain ⟨h0, h7⟩ := words_rec hw h
  have key : ∀ k, k < 7 → [r.t, r.p, r.s, r.o, r.n, r.v, r.x].getD k 0 = f k := fun k hk => by
    have := (h7 k hk).symm.trans (hf k hk)
    injection this
  have hk := kind_name (okR_kind h.1)
  rw [← h0] at hk
  have k0 : r.t = f 0 := key 0 (by omega)
  have k1 : r.p = f 1 := key 1 (by omega)
  have k2 : r.s = f 2 := key 2 (by omega)
  have k3 : r.o = f 3 := key 3 (by omega)
  have k4 : r.n = f 4 := key 4 (by omega)
  have k5 : r.v = f 5 := key 5 (by omega)
  have k6 : r.x = f 6 := key 6 (by omega)
  rw [hk, ← k0, ← k1, ← k2, ← k3, ← k4, ← k5, ← k6]

set_option maxRecDepth 100000 in
set_option maxHeartbeats 4000000 in
theorem parseShort (s : ByteArray) (hs : s.size ≤ 30) (p : Addr) (w : World) (hl : LaidE p w) : Calls Tryz.prog 18 #[.string s] w (Parsed s p w) := by
  have L := Lib.hid hl
  have hs' : ¬ (30 : Int) < (s.size : Int) := by omega
  clear hl
  go_enter Tryz.func18, Tryz.ntmps18
  go_wp2_with fail
  refine (split_any s hs p _ (L.out.below (below_one _ _))).mono ?_
  rintro e w2 ⟨ws, hws, rfl, rfl⟩
  have Hw := Lib.hid hws
  clear hws
  by_cases h8 : ws.length = 8
  · obtain ⟨a0, a1, a2, a3, a4, a5, a6, a7, rfl⟩ : ∃ a0 a1 a2 a3 a4 a5 a6 a7, ws = [a0, a1, a2, a3, a4, a5, a6, a7] := by
      match ws, h8 with
      | [a0, a1, a2, a3, a4, a5, a6, a7], _ => exact ⟨a0, a1, a2, a3, a4, a5, a6, a7, rfl⟩
    clear h8
    have Hb : Hid (∀ k, k < 7 → (tailW a1 a2 a3 a4 a5 a6 a7 k).size ≤ 30) := fun k hk => by
      have h1 := cutW_len _ _ (Hw.out ▸ tailW_mem a0 a1 a2 a3 a4 a5 a6 a7 k hk)
      rw [Array.length_toList, Array.length_toList] at h1
      exact Nat.le_trans h1 hs
    simp only [List.length_cons, List.length_nil, Nat.zero_add, Nat.reduceAdd, List.map_cons, List.map_nil, World.size_alloc]
    go_wp2_with fail
    go_loopw [26] (fun i w1 => ∃ (k : Nat) (f : Nat → Int), k ≤ 7 ∧ i = .int .i64 k ∧ StP w #[.string a0, .string a1, .string a2, .string a3, .string a4, .string a5, .string a6, .string a7] f w1 ∧ ∀ j, j < k → Lib.atoiAll (tailW a1 a2 a3 a4 a5 a6 a7 j).data.toList = .ok (f j)) (fun i _ => 7 - (intOf i).toNat)
    case atStart =>
      have q1 := Has.new w 23 #[.int .i64 0, .int .i64 0, .int .i64 0, .int .i64 0, .int .i64 0, .int .i64 0, .int .i64 0, .int .i64 0]
      have q2 := Has.new (w.alloc (.cells #[.int .i64 0, .int .i64 0, .int .i64 0, .int .i64 0, .int .i64 0, .int .i64 0, .int .i64 0, .int .i64 0] 23)) 9 #[.string a0, .string a1, .string a2, .string a3, .string a4, .string a5, .string a6, .string a7]
      have q3 := Has.new ((w.alloc (.cells #[.int .i64 0, .int .i64 0, .int .i64 0, .int .i64 0, .int .i64 0, .int .i64 0, .int .i64 0, .int .i64 0] 23)).alloc (.cells #[.string a0, .string a1, .string a2, .string a3, .string a4, .string a5, .string a6, .string a7] 9)) 47 #[.int .i64 0, .int .i64 0, .int .i64 0, .int .i64 0, .int .i64 0, .int .i64 0, .int .i64 0]
      rw [World.size_alloc] at q2
      rw [World.size_alloc, World.size_alloc] at q3
      refine ⟨0, fun _ => 0, by omega, rfl, ⟨(below_two _ _ _).alloc (by simp; omega) _, (q1.alloc _).alloc _, q2.alloc _, fun t ht => ?_, q3.wr _ _, by simp⟩, fun j hj => absurd hj (by omega)⟩
      rw [q3.cell]
      match t, ht with
      | 0, _ => rfl
      | 1, _ => rfl
      | 2, _ => rfl
      | 3, _ => rfl
      | 4, _ => rfl
      | 5, _ => rfl
      | 6, _ => rfl
    case round =>
      obtain ⟨k, f, hk, rfl, hst, hf⟩ := hrel
      have S1 := Lib.hid hst
      have Hf := Lib.hid hf
      clear hst hf
      by_cases hlt : k < 7
      · have hc : wr.cell? ⟨w.heap.size + 1, 1 + k, none⟩ = some (.string (tailW a1 a2 a3 a4 a5 a6 a7 k)) := (S1.out.wds.cell _).trans (tailW_cell a0 a1 a2 a3 a4 a5 a6 a7 k hlt)
        have hb := Hb.out k hlt
        have hki : (k : Int) < 7 := by omega
        obtain ⟨b, hbk⟩ : ∃ b, tailW a1 a2 a3 a4 a5 a6 a7 k = b := ⟨_, rfl⟩
        rw [hbk] at hc hb
        have Hk := Lib.hid hbk
        clear hbk
        by_cases hq : ∃ v, Lib.atoiAll b.data.toList = .ok v
        · obtain ⟨v, hv⟩ := hq
          have Hv := Lib.hid hv
          clear hv
          go_wp2_with fail
          refine (atoi_ok b hb v Hv.out _).mono ?_
          rintro e w2 ⟨rfl, b2⟩
          have S2 := Lib.hid (S1.out.next b2)
          have fz : w2.frozen? ⟨w.heap.size + 2, k, none⟩ = false := by have := S2.out.wr.2 k hlt; rwa [Nat.zero_add] at this
          have ct := S2.out.tab k hlt
          have S3 := Lib.hid (S2.out.set k hlt v)
          clear b2 hc
          go_wp2
          exact ⟨⟨k + 1, updN f k v, by omega, by go_num, S3.out, fun j hj => by
            unfold updN
            by_cases e : j = k
            · rw [if_pos e, e, Hk.out]
              exact Hv.out
            · rw [if_neg e]
              exact Hf.out j (by omega)⟩, by simp [intOf]; omega⟩
        · have hq' : ∀ v, Lib.atoiAll b.data.toList ≠ .ok v := fun v h => hq ⟨v, h⟩
          have Hq := Lib.hid hq'
          clear hq hq'
          have Hn : Hid (∀ r, ¬ IsText s.data.toList r) := fun r h => Hq.out _ (Hk.out ▸ (words_rec Hw.out h).2 k hlt)
          go_wp2_with fail
          refine (atoi_bad b hb Hq.out p _ (L.out.below S1.out.below)).mono ?_
          rintro e w2 ⟨⟨v, N, rfl⟩, b2⟩
          have S2 := Lib.hid (S1.out.next b2)
          clear b2 hc
          go_upto_region 12 with (fail)
          have Bq := Lib.hid S2.out.below
          have Rq := Lib.hid S2.out.res
          have er := (L.out.below Bq.out).err
          have hz : w.heap.size ≠ 0 := by have := L.out.big; omega
          have hz' : 0 ≠ w.heap.size := fun e => hz e.symm
          obtain ⟨r0, r1, r2, r3, r4, r5, r6, r7⟩ := eightZ Rq.out
          have f0 := Rq.out.frozen 0
          have f1 := Rq.out.frozen 1
          have f2 := Rq.out.frozen 2
          have f3 := Rq.out.frozen 3
          have f4 := Rq.out.frozen 4
          have f5 := Rq.out.frozen 5
          have f6 := Rq.out.frozen 6
          have f7 := Rq.out.frozen 7
          go_region
          all_goals
            go_wp2
            refine bodyPost_ret (v := .tuple #[.agg #[.int .i64 0, .int .i64 0, .int .i64 0, .int .i64 0, .int .i64 0, .int .i64 0, .int .i64 0, .int .i64 0], .iface 135 (.pointer (some p))]) (by simp [results, Tryz.results18, go_sem, r0, r1, r2, r3, r4, r5, r6, r7]) rfl (parsed_none Hn.out ?_)
            exact ((((((((Bq.out.setCell (Nat.le_refl _) _).setCell (Nat.le_refl _) _).setCell (Nat.le_refl _) _).setCell (Nat.le_refl _) _).setCell (Nat.le_refl _) _).setCell (Nat.le_refl _) _).setCell (Nat.le_refl _) _).setCell (Nat.le_refl _) _).drew
      · obtain rfl : k = 7 := by omega
        have c0 : wr.cell? ⟨w.heap.size + 1, 0, none⟩ = some (.string a0) := S1.out.wds.cell 0
        have t0 := S1.out.tab 0 (by omega)
        have t1 := S1.out.tab 1 (by omega)
        have t2 := S1.out.tab 2 (by omega)
        have t3 := S1.out.tab 3 (by omega)
        have t4 := S1.out.tab 4 (by omega)
        have t5 := S1.out.tab 5 (by omega)
        have t6 := S1.out.tab 6 (by omega)
        have Ll := Lib.hid (L.out.below S1.out.below).l
        go_upto_region 15 with (fail)
        go_region_held3 (fun w' => w'.cell? ⟨w.heap.size + 1, 0, none⟩ = some (.string a0) ∧ w'.cell? ⟨w.heap.size + 2, 0, none⟩ = some (.int .i64 (f 0)) ∧ w'.cell? ⟨w.heap.size + 2, 1, none⟩ = some (.int .i64 (f 1)) ∧ w'.cell? ⟨w.heap.size + 2, 2, none⟩ = some (.int .i64 (f 2)) ∧ w'.cell? ⟨w.heap.size + 2, 3, none⟩ = some (.int .i64 (f 3)) ∧ w'.cell? ⟨w.heap.size + 2, 4, none⟩ = some (.int .i64 (f 4)) ∧ w'.cell? ⟨w.heap.size + 2, 5, none⟩ = some (.int .i64 (f 5)) ∧ w'.cell? ⟨w.heap.size + 2, 6, none⟩ = some (.int .i64 (f 6))) (first | (with_reducible exact ⟨c0, t0, t1, t2, t3, t4, t5, t6⟩) | go_keep)
          (first
            | (go_at_call 32; (with_reducible refine (kindOf_any a0 wr.drew (Ll.out.below (Below.refl wr.heap.size wr).drew)).mono ?_); rintro e w3 ⟨rfl, rfl⟩)
            | (go_at_call 32; (with_reducible refine (kindOf_any a0 (wr.alloc (.cells #[.int .i64 0, .int .i64 0, .int .i64 0, .int .i64 0, .int .i64 0, .int .i64 0, .int .i64 0, .int .i64 0] 23)).drew (Ll.out.below (below_one wr _).drew)).mono ?_); rintro e w3 ⟨rfl, rfl⟩))
        all_goals
          have S4 := Lib.hid (S1.out.next (below_one wr (.cells #[.int .i64 (kindW a0.data.toList), .int .i64 (f 0), .int .i64 (f 1), .int .i64 (f 2), .int .i64 (f 3), .int .i64 (f 4), .int .i64 (f 5), .int .i64 (f 6)] 23)).drew)
          have Q4 := Lib.hid (Has.new wr 23 #[.int .i64 (kindW a0.data.toList), .int .i64 (f 0), .int .i64 (f 1), .int .i64 (f 2), .int .i64 (f 3), .int .i64 (f 4), .int .i64 (f 5), .int .i64 (f 6)]).drew
          generalize (wr.alloc (.cells #[.int .i64 (kindW a0.data.toList), .int .i64 (f 0), .int .i64 (f 1), .int .i64 (f 2), .int .i64 (f 3), .int .i64 (f 4), .int .i64 (f 5), .int .i64 (f 6)] 23)).drew = w4 at *
          clear c0 t0 t1 t2 t3 t4 t5 t6
          obtain ⟨d0, d1, d2, d3, d4, d5, d6, d7⟩ := eight Q4.out
          obtain ⟨tx, Htx⟩ : ∃ tx : ByteArray, Hid (tx = ⟨(textR ⟨kindW a0.data.toList, f 0, f 1, f 2, f 3, f 4, f 5, f 6⟩).toArray⟩) := ⟨_, rfl⟩
          have Hrt : Hid (∀ W, Laid W → Calls Tryz.prog 11 #[recV ⟨kindW a0.data.toList, f 0, f 1, f 2, f 3, f 4, f 5, f 6⟩] W (Keeps (.string tx) W)) := fun W hW => by rw [Htx.out]; exact recText_any _ W hW
          go_wp2_with fail
          refine (Hrt.out w4 (L.out.below S4.out.below).l).mono ?_
          rintro e w5 ⟨rfl, b5⟩
          have S5 := Lib.hid (S4.out.next b5)
          have Q5 := Lib.hid (Q4.out.below b5 Q4.out.lt)
          clear b5 d0 d1 d2 d3 d4 d5 d6 d7 S4 Q4
          by_cases hE : tx = s
          · have Hi : Hid (IsText s.data.toList ⟨kindW a0.data.toList, f 0, f 1, f 2, f 3, f 4, f 5, f 6⟩) := isText_of (by rw [← hE, Htx.out]) (fun e => by
              have := congrArg List.length Hw.out
              rw [e] at this
              simp [cutW] at this)
            obtain ⟨d0, d1, d2, d3, d4, d5, d6, d7⟩ := eight Q5.out
            obtain ⟨r0, r1, r2, r3, r4, r5, r6, r7⟩ := eightZ S5.out.res
            have f0 := S5.out.res.frozen 0
            have f1 := S5.out.res.frozen 1
            have f2 := S5.out.res.frozen 2
            have f3 := S5.out.res.frozen 3
            have f4 := S5.out.res.frozen 4
            have f5 := S5.out.res.frozen 5
            have f6 := S5.out.res.frozen 6
            have f7 := S5.out.res.frozen 7
            clear Htx Hrt
            subst hE
            go_wp2
            refine bodyPost_ret (v := .tuple #[recV ⟨kindW a0.data.toList, f 0, f 1, f 2, f 3, f 4, f 5, f 6⟩, .nilIface]) (by simp [results, Tryz.results18, go_sem, r0, r1, r2, r3, r4, r5, r6, r7]) rfl (parsed_some Hi.out ?_)
            exact ((((((((S5.out.below.setCell (Nat.le_refl _) _).setCell (Nat.le_refl _) _).setCell (Nat.le_refl _) _).setCell (Nat.le_refl _) _).setCell (Nat.le_refl _) _).setCell (Nat.le_refl _) _).setCell (Nat.le_refl _) _).setCell (Nat.le_refl _) _)
          · have hb := str_ne hE
            have Hn : Hid (∀ r, ¬ IsText s.data.toList r) := fun r h => hE (by
              have e := words_all Hw.out h Hf.out
              rw [Htx.out, ← e]
              apply ByteArray.ext
              have h2 : textR r = s.data.toList := by unfold textR; rw [h.1]; exact h.2
              show (textR r).toArray = s.data
              rw [h2])
            go_upto_region 17 with (fail)
            have Bq := Lib.hid S5.out.below
            have Rq := Lib.hid S5.out.res
            have er := (L.out.below Bq.out).err
            have hz : w.heap.size ≠ 0 := by have := L.out.big; omega
            have hz' : 0 ≠ w.heap.size := fun e => hz e.symm
            obtain ⟨r0, r1, r2, r3, r4, r5, r6, r7⟩ := eightZ Rq.out
            have f0 := Rq.out.frozen 0
            have f1 := Rq.out.frozen 1
            have f2 := Rq.out.frozen 2
            have f3 := Rq.out.frozen 3
            have f4 := Rq.out.frozen 4
            have f5 := Rq.out.frozen 5
            have f6 := Rq.out.frozen 6
            have f7 := Rq.out.frozen 7
            go_region
            all_goals
              go_wp2
              refine bodyPost_ret (v := .tuple #[.agg #[.int .i64 0, .int .i64 0, .int .i64 0, .int .i64 0, .int .i64 0, .int .i64 0, .int .i64 0, .int .i64 0], .iface 135 (.pointer (some p))]) (by simp [results, Tryz.results18, go_sem, r0, r1, r2, r3, r4, r5, r6, r7]) rfl (parsed_none Hn.out ?_)
              exact ((((((((Bq.out.setCell (Nat.le_refl _) _).setCell (Nat.le_refl _) _).setCell (Nat.le_refl _) _).setCell (Nat.le_refl _) _).setCell (Nat.le_refl _) _).setCell (Nat.le_refl _) _).setCell (Nat.le_refl _) _).setCell (Nat.le_refl _) _).drew
  · have h8' : ¬ (ws.length : Int) = 8 := by omega
    have Hn : Hid (∀ r, ¬ IsText s.data.toList r) := fun r h => h8 (by
      have := congrArg List.length (Hw.out.trans (isText_len h).2.2)
      simpa [wordsL] using this)
    go_upto_region 6 with (fail)
    have Bq := Lib.hid ((below_two w (.cells #[.int .i64 0, .int .i64 0, .int .i64 0, .int .i64 0, .int .i64 0, .int .i64 0, .int .i64 0, .int .i64 0] 23) (.cells (ws.map Value.string).toArray 9)).alloc (by simp; omega) (.cells #[.int .i64 0, .int .i64 0, .int .i64 0, .int .i64 0, .int .i64 0, .int .i64 0, .int .i64 0] 47))
    have Rq := Lib.hid (((Has.new w 23 #[.int .i64 0, .int .i64 0, .int .i64 0, .int .i64 0, .int .i64 0, .int .i64 0, .int .i64 0, .int .i64 0]).alloc (.cells (ws.map Value.string).toArray 9)).alloc (.cells #[.int .i64 0, .int .i64 0, .int .i64 0, .int .i64 0, .int .i64 0, .int .i64 0, .int .i64 0] 47))
    generalize (((w.alloc (.cells #[.int .i64 0, .int .i64 0, .int .i64 0, .int .i64 0, .int .i64 0, .int .i64 0, .int .i64 0, .int .i64 0] 23)).alloc (.cells (ws.map Value.string).toArray 9)).alloc (.cells #[.int .i64 0, .int .i64 0, .int .i64 0, .int .i64 0, .int .i64 0, .int .i64 0, .int .i64 0] 47)) = w1 at *
    have er := (L.out.below Bq.out).err
    have hz : w.heap.size ≠ 0 := by have := L.out.big; omega
    have hz' : 0 ≠ w.heap.size := fun e => hz e.symm
    obtain ⟨r0, r1, r2, r3, r4, r5, r6, r7⟩ := eightZ Rq.out
    have f0 := Rq.out.frozen 0
    have f1 := Rq.out.frozen 1
    have f2 := Rq.out.frozen 2
    have f3 := Rq.out.frozen 3
    have f4 := Rq.out.frozen 4
    have f5 := Rq.out.frozen 5
    have f6 := Rq.out.frozen 6
    have f7 := Rq.out.frozen 7
    go_region
    all_goals
      go_wp2
      refine bodyPost_ret (v := .tuple #[.agg #[.int .i64 0, .int .i64 0, .int .i64 0, .int .i64 0, .int .i64 0, .int .i64 0, .int .i64 0, .int .i64 0], .iface 135 (.pointer (some p))]) (by simp [results, Tryz.results18, go_sem, r0, r1, r2, r3, r4, r5, r6, r7]) rfl (parsed_none Hn.out ?_)
      exact ((((((((Bq.out.setCell (Nat.le_refl _) _).setCell (Nat.le_refl _) _).setCell (Nat.le_refl _) _).setCell (Nat.le_refl _) _).setCell (Nat.le_refl _) _).setCell (Nat.le_refl _) _).setCell (Nat.le_refl _) _).setCell (Nat.le_refl _) _).drew


theorem parse_any (s : ByteArray) (p : Addr) (w : World) (hl : LaidE p w) : Calls Tryz.prog 18 #[.string s] w (Parsed s p w) := by
  by_cases hs : s.size ≤ 30
  · exact parseShort s hs p w hl
  · exact parseLong s hs p w hl
end Go.Proofs.YtoihdbcdlodkgaaGreatDoor.Base

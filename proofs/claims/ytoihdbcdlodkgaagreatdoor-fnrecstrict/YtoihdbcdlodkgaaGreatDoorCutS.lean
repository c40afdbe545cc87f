/-
  Contract of the model's l2Cut, for every short text: its words, in a row of the call's own. No conditions but the text's length.
-/
import Derived.Test.YtoihdbcdlodkgaaGreatDoorRead5
import Derived.Test.YtoihdbcdlodkgaaGreatDoorDec
import Derived.OwnWalk
namespace Go.Proofs.YtoihdbcdlodkgaaGreatDoor.Base
open Go.RowKit

/-- a string's value -/
abbrev strV (s : List UInt8) : Value := .string ⟨s.toArray⟩
/-- v is a slice of the call's own, with the words ws -/
def OwnS (w : World) (base : Nat) (v : Value) (ws : List (List UInt8)) : Prop := w.ownsRow base 9 1 v ws.length (ws.map strV)
theorem OwnS.alloc {w : World} {base : Nat} {v : Value} {ws : List (List UInt8)} (h : OwnS w base v ws) (ob : Obj) : OwnS (w.alloc ob) base v ws := World.ownsRow.alloc h ob
theorem OwnS.one {w : World} {base g : Nat} (h : Has w g 9 #[strV []]) (hb : base ≤ g) : OwnS w base (.slice (some ⟨g, 0, none⟩) 1 1) [[]] :=
  ⟨rfl, .inr ⟨g, 1, #[strV []], rfl, hb, h, by simp, by simp [maxLen], by simp, by simp⟩⟩
theorem cutW_num : ∀ l, (cutW l).length ≤ l.length + 1
  | [] => by simp [cutW]
  | c :: l => by
    have ih := cutW_num l
    unfold cutW
    split
    · simp; omega
    · cases h : cutW l with
      | nil => simp
      | cons a r => rw [h] at ih; simp at ih ⊢; omega
theorem cutW_size : ∀ l, ∀ x ∈ cutW l, x.length ≤ l.length
  | [], x, hx => by simp [cutW] at hx; simp [hx]
  | c :: l, x, hx => by
    have ih := cutW_size l
    unfold cutW at hx
    split at hx
    · rcases List.mem_cons.1 hx with rfl | h
      · simp
      · have := ih x h
        simp; omega
    · cases h : cutW l with
      | nil => exact absurd h (cutW_ne l)
      | cons a r =>
        rw [h] at hx ih
        rcases List.mem_cons.1 hx with rfl | h'
        · have := ih a (by simp)
          simp; omega
        · have := ih x (List.mem_cons_of_mem _ h')
          simp; omega
/-- 'append(words, "")' onto a row of the call's own -/
theorem wp_append_word {ops : Array Oper} {rest : List Oper} {o : Oper} {a : Act} {Q : Exit → Act → World → Prop} (w : World) (hgd : o.guard = none) (s x : Operand)
    (ho : o.op = .call { callee := .builtin .append, args := #[s, x], argTypes := #[34, 34] }) (base : Nat) (v : Value) (ws : List (List UInt8)) (hs : a.eval s = v) (hown : OwnS w base v ws)
    (ad : Nat) (z : List UInt8) (hx : a.eval x = .slice (some ⟨ad, 0, none⟩) 1 1) (hc : w.cell? ⟨ad, 0, none⟩ = some (strV z)) (hn : ws.length ≤ 1000000) (hbase : base ≤ w.heap.size)
    (h : ∀ v' w', OwnS w' base v' (ws ++ [z]) → w.grownBy w' v.ownBlock → wpList Tryz.prog ops Q rest (a.put o.dst v') w') :
    wpList Tryz.prog ops Q (o :: rest) a w := by
  obtain ⟨i0, hi, hz0, hs0, hb0⟩ := info_parts infoStr
  refine wpList_append_own w hgd s x 34 ho base 9 i0 _ 1 16 Tryz.underlying34 hi hz0 hs0 hb0 rfl (by omega) v ws.length _ hs hown ⟨ad, 0, none⟩ 1 1 [strV z] hx rfl ?_ (by simp [Value.oneCell']) (by simp [maxLen]; omega) (by omega) hbase (fun v' w' h1 h2 _ => h v' w' ?_ h2)
  · intro j u' hu
    match j, hu with
    | 0, hu => simp at hu; subst hu; simpa [Addr.add] using hc
  · unfold OwnS
    simpa using h1
theorem conv_any (c : UInt8) (w : World) (g cp : Nat) (hc : w.cell? ⟨g, 0, none⟩ = some (.int .u8 (c.toNat : Int))) :
    (convert 28 9 (.slice (some ⟨g, 0, none⟩) 1 cp)).run Tryz.prog w = .ok (strV [c]) w := by
  have := run_convert_bytes_back (P := Tryz.prog) w 28 9 5 ⟨g, 0, none⟩ cp [c] Tryz.underlying28 Tryz.underlying5 Tryz.underlying9 (fun j hj => by
    have hj' : j < 1 := hj
    match j, hj' with
    | 0, _ =>
      simp only [Addr.add, if_true]
      rw [hc]
      rfl)
  exact this
/-- what is known of a row of words that is not empty -/
theorem OwnS.last {w : World} {base : Nat} {v : Value} {ws : List (List UInt8)} {m : Nat} (h : OwnS w base v ws) (hm : ws.length = m + 1) :
    ∃ g cap, v = .slice (some ⟨g, 0, none⟩) (m + 1) cap ∧ base ≤ g ∧ g < w.heap.size ∧ m + 1 ≤ cap ∧ cap ≤ maxLen ∧ w.cell? ⟨g, m, none⟩ = some (strV (ws.getLastD [])) ∧ w.frozen? ⟨g, m, none⟩ = false ∧
      ∀ (w' : World) (x : List UInt8), w'.heap[g]? = w.heap[g]? → OwnS (w'.setCell ⟨g, m, none⟩ (strV x)) base v (ws.dropLast ++ [x]) := by
  rcases h.2 with ⟨_, h0⟩ | ⟨g, cap, cur, rfl, hlow, hhas, hnc, hmax, hsz, htk⟩
  · omega
  · have hH : Has w g 9 cur := hhas
    rw [hm] at hnc htk ⊢
    simp only [Nat.mul_one] at hsz htk
    refine ⟨g, cap, rfl, hlow, hH.lt, hnc, hmax, ?_, hH.frozen m, fun w' x hw' => ?_⟩
    · rw [hH.cell]
      have e := congrArg (fun l => l[m]?) htk
      rw [List.getElem?_take_of_lt (by omega), Array.getElem?_toList] at e
      have e2 : ws.getLast? = ws[m]? := by rw [List.getLast?_eq_getElem?, hm]; rfl
      rw [e, List.getElem?_map, ← e2]
      cases ws with
      | nil => simp at hm
      | cons a r => simp [List.getLast?_cons]
    · have hlen : (ws.dropLast ++ [x]).length = m + 1 := by simp; omega
      have hS : Has (w'.setCell ⟨g, m, none⟩ (strV x)) g 9 (cur.setIfInBounds m (strV x)) := (hH.keep hw').set m (strV x)
      refine ⟨by simp, .inr ⟨g, cap, _, by rw [hlen], hlow, hS, by omega, hmax, by simp [hsz], ?_⟩⟩
      rw [hlen]
      simp only [Nat.mul_one, Array.toList_setIfInBounds]
      rw [List.take_set, htk]
      apply List.ext_getElem?
      intro i
      rw [List.getElem?_set]
      by_cases hi : m = i
      · subst hi
        rw [if_pos rfl, if_pos (by simp [hm])]
        have : (ws.dropLast).length = m := by simp [hm]
        rw [List.map_append, List.getElem?_append, if_neg (by rw [List.length_map]; omega), List.length_map, this]
        simp
      · rw [if_neg hi]
        have hdl : (ws.dropLast).length = m := by simp [hm]
        simp only [List.getElem?_map]
        rw [List.getElem?_append]
        by_cases h2 : i < m
        · rw [if_pos (by omega), List.getElem?_dropLast, if_pos (by omega)]
        · rw [if_neg (by omega), List.getElem?_eq_none (by omega)]
          rw [List.getElem?_eq_none (by simp; omega)]

/-- what l2Cut answers -/
def Cuts (ws : List (List UInt8)) (w : World) (e : Ending) (w' : World) : Prop :=
  ∃ g cap, e = .returned (.slice (some ⟨g, 0, none⟩) ws.length cap) ∧ Below w.heap.size w w' ∧ w.heap.size ≤ g ∧ g < w'.heap.size ∧ ∀ j x, ws[j]? = some x → w'.cell? ⟨g, j, none⟩ = some (strV x)
theorem OwnS.cuts {w : World} {base : Nat} {v : Value} {ws : List (List UInt8)} (h : OwnS w base v ws) (hn : ws ≠ []) :
    ∃ g cap, v = .slice (some ⟨g, 0, none⟩) ws.length cap ∧ base ≤ g ∧ g < w.heap.size ∧ ∀ j x, ws[j]? = some x → w.cell? ⟨g, j, none⟩ = some (strV x) := by
  rcases h.2 with ⟨_, h0⟩ | ⟨g, cap, cur, rfl, hlow, hhas, hnc, hmax, hsz, htk⟩
  · exact absurd (List.eq_nil_of_length_eq_zero h0) hn
  · have hH : Has w g 9 cur := hhas
    refine ⟨g, cap, rfl, hlow, hH.lt, fun j x hx => ?_⟩
    have hj := (List.getElem?_eq_some_iff.1 hx).1
    rw [hH.cell]
    have e := congrArg (fun l => l[j]?) htk
    simp only [Nat.mul_one] at e
    rw [List.getElem?_take_of_lt hj, Array.getElem?_toList] at e
    rw [e, List.getElem?_map, hx]
    rfl
theorem take_more {l : List UInt8} {k : Nat} {c : UInt8} (h : l[k]? = some c) : l.take (k + 1) = l.take k ++ [c] := by
  rw [List.take_add_one, h]
  rfl

set_option maxRecDepth 100000 in
set_option maxHeartbeats 4000000 in
theorem l2Cut_any (s : ByteArray) (hs : s.size ≤ 30) (w : World) : Calls Tryz.prog 15 #[.string s] w (Cuts (cutW s.data.toList) w) := by
  have hsz : s.data.toList.length = s.size := Array.length_toList
  have Hz := Lib.hid hsz
  clear hsz
  go_enter Tryz.func15, Tryz.ntmps15
  go_wp2_with fail
  have O1 : Hid (OwnS (w.alloc (.cells #[.string ⟨#[]⟩] 9)) w.heap.size (.slice (some ⟨w.heap.size, 0, none⟩) 1 1) [[]]) := OwnS.one (Has.new w _ _) (Nat.le_refl _)
  have B1 : Hid (Below w.heap.size w (w.alloc (.cells #[.string ⟨#[]⟩] 9))) := below_one _ _
  go_loopw [3, 4] (fun v i wx => ∃ k : Nat, k ≤ s.size ∧ i = .int .i64 k ∧ Below w.heap.size w wx ∧ OwnS wx w.heap.size v (cutW (s.data.toList.take k))) (fun _ i _ => s.size - (intOf i).toNat)
  case atStart => exact ⟨0, by omega, rfl, B1.out, O1.out⟩
  case round =>
    clear O1 B1
    obtain ⟨k, hk, rfl, hb, ho⟩ := hrel
    have Hb := Lib.hid hb
    have Ho := Lib.hid ho
    have hs' := hb.size
    clear hb ho
    by_cases hlt : k < s.size
    · obtain ⟨c, hc⟩ : ∃ c, s.data.toList[k]? = some c := ⟨_, List.getElem?_eq_getElem (by rw [Hz.out]; exact hlt)⟩
      have hx := ixStr s k c hc
      have Ht := Lib.hid (take_more hc)
      have hlen := cutW_num (s.data.toList.take k)
      rw [List.length_take] at hlen
      by_cases hsp : c = 32
      · subst hsp
        have Hn : Hid (cutW (s.data.toList.take (k + 1)) = cutW (s.data.toList.take k) ++ [[]]) := by
          show cutW (s.data.toList.take (k + 1)) = _
          rw [Ht.out, cutW_blank_end]
        clear Ht hc
        have hx' : ∀ W : World, (Instr.index 9 (.string s) (.int .i64 (k : Int))).run Tryz.prog W = .ok (.int .u8 32) W := hx
        clear hx
        generalize cutW (s.data.toList.take k) = ws at *
        go_wp2_with (at_builtin; refine wp_append_word _ rfl (.tmp 16) (.tmp 17) rfl w.heap.size _ ws rfl (Ho.out.alloc _) _ [] rfl (World.cell?_alloc_new _ _ _ _) (by omega) (by simp; omega) ?_; intro v' w' h1 h2; have H1 := Lib.hid h1; have H2 := Lib.hid h2; clear h1 h2)
        refine ⟨⟨k + 1, by omega, by go_num, ?_, by rw [Hn.out]; exact H1.out⟩, by simp [intOf]; omega⟩
        exact (Hb.out.alloc hs' _).grown H2.out (by simp; omega) (fun k hk => (World.ownsRow.lt Ho.out k hk).1)
      · have Hn : Hid (cutW (s.data.toList.take (k + 1)) = moreW (cutW (s.data.toList.take k)) c) := by
          show cutW (s.data.toList.take (k + 1)) = _
          rw [Ht.out, cutW_more c hsp]
        have hws : ∀ x ∈ cutW (s.data.toList.take k), x.length ≤ 30 := fun x hx => by
          have := cutW_size _ x hx
          rw [List.length_take] at this
          omega
        have hne := cutW_ne (s.data.toList.take k)
        clear Ht hc
        generalize cutW (s.data.toList.take k) = ws at *
        obtain ⟨m, hm⟩ : ∃ m, ws.length = m + 1 := ⟨ws.length - 1, by have : ws.length ≠ 0 := fun h => hne (List.eq_nil_of_length_eq_zero h); omega⟩
        have hla : (ws.getLastD []).length ≤ 30 := by
          cases ws with
          | nil => exact absurd rfl hne
          | cons a r =>
            rw [List.getLastD_cons]
            refine hws _ ?_
            cases r with
            | nil => simp
            | cons b r => rw [List.getLastD_eq_getLast?, List.getLast?_eq_some_getLast (by simp)]; exact List.mem_cons_of_mem _ (List.getLast_mem _)
        obtain ⟨g, cap, rfl, hg0, hg1, hcap, hmx, hcell, hfz, hset⟩ := Ho.out.last hm
        have Hs := Lib.hid hset
        have hl : ((⟨(ws.getLastD []).toArray⟩ : ByteArray)).size ≤ 30 := hla
        obtain ⟨x, hxE⟩ : ∃ x : ByteArray, x = ⟨(ws.getLastD []).toArray⟩ := ⟨_, rfl⟩
        have HxE := Lib.hid hxE
        have hxl : x.size ≤ 30 := by rw [hxE]; exact hl
        have hcell' : wr.cell? ⟨g, m, none⟩ = some (.string x) := by rw [hxE]; exact hcell
        have hadd : x.size + 1 ≤ 9223372036854775807 := by omega
        obtain ⟨z, hz⟩ : ∃ z : Int, (c.toNat : Int) = z := ⟨_, rfl⟩
        have hcv := conv_any c ((wr.alloc (.cells #[.int .u8 (c.toNat : Int)] 5)).drew) wr.heap.size 1 ((Has.new wr 5 #[.int .u8 (c.toNat : Int)]).drew.cell 0)
        have z0 : 0 ≤ z := by omega
        have hm31 : m ≤ 31 := by omega
        have wm : IntKind.i64.wrap (m : Int) = (m : Int) := IntWalk.i64_in _ (by omega)
        have hz32 : (z == 32) = false := by
          rw [beq_eq_false_iff_ne]
          rintro rfl
          refine hsp (UInt8.toNat_inj.1 ?_)
          have : (32 : UInt8).toNat = 32 := rfl
          omega
        rw [hz] at hx hcv
        clear hset hcell hla hl hxE hws hne hlen hmx hz Ho
        go_wp2_with fail
        go_region
        all_goals go_wp2
        have Hx2 : Hid (x ++ ⟨#[c]⟩ = (⟨(ws.getLastD [] ++ [c]).toArray⟩ : ByteArray)) := by
          show x ++ ⟨#[c]⟩ = _
          rw [HxE.out, ← cat2]
        refine ⟨⟨k + 1, by omega, by go_num, ?_, ?_⟩, by simp [intOf]; omega⟩
        · exact ((Hb.out.setCell hg0 _).alloc (by rw [size_set]; exact hs') _).drew
        · rw [Hn.out, Hx2.out]
          exact OwnS.alloc (Hs.out wr _ rfl) _
    · obtain rfl : k = s.size := by omega
      have Hl : Hid (s.data.toList.take s.size = s.data.toList) := by rw [← Hz.out]; exact List.take_length
      rw [Hl.out] at Ho
      obtain ⟨g, cap, e', h1, h2, h3⟩ := Ho.out.cuts (cutW_ne _)
      subst e'
      have M := Lib.hid (And.intro h1 (And.intro h2 h3))
      clear h1 h2 h3 Ho
      go_wp2
      go_ret
      exact ⟨g, cap, rfl, Hb.out, M.out.1, M.out.2.1, M.out.2.2⟩
end Go.Proofs.YtoihdbcdlodkgaaGreatDoor.Base

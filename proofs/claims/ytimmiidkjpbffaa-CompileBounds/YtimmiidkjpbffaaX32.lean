/- RVx, RVy. -/
import Derived.Test.YtimmiidkjpbffaaX01
import Derived.Test.YtimmiidkjpbffaaX02
import Derived.Test.YtimmiidkjpbffaaX08
import Derived.Test.YtimmiidkjpbffaaX27
import Derived.Test.YtimmiidkjpbffaaX16
import Derived.Test.YtimmiidkjpbffaaX03
import Derived.Test.YtimmiidkjpbffaaX21
import Derived.Test.YtimmiidkjpbffaaX28
import Derived.Test.YtimmiidkjpbffaaX29
import Derived.Test.YtimmiidkjpbffaaX30
import Derived.Test.YtimmiidkjpbffaaX31
import Derived.BigQuiet
import Derived.BigRegion
import Derived.ChangeKeysEq
import Derived.Deep.DeepCutAuto
import Derived.Deep.DrawnRows
import Derived.Deep.MidRow
import Derived.Deep.OwnRows
import Derived.Deep.QuietTactic
import Derived.Deep.RegionHeld3
import Derived.Deep.RegionLaw
import Derived.Deep.RegionWith
import Derived.Deep.WholeRow
import Derived.DeepKeys3
import Derived.Great.BuildSlice
import Derived.Laws.AppendOwnNone
import Derived.Laws.BitsLemmas
import Derived.Laws.BytesArg
import Derived.Laws.CopyOwn
import Derived.Laws.OwnMore
import Derived.Laws.ResultCell
import Derived.Laws.Tables
import Derived.Lib.SlBytesConst
import Derived.LoopIn
import Derived.LoopNIn
import Derived.Maps.AppendAt
import Derived.OwnWalkIn
import Derived.RangeFuncBound
import Derived.RangeFuncCalls
import Derived.RangeFuncLeaves
import Derived.RangeFuncNested
import Derived.RangeFuncRecord
import Derived.Recover
import Derived.Shelf.Abstract
import Derived.Shelf.RegionOpen
import Derived.TacticsInMore
import Derived.WalkKit
import Derived.WalkLawsBesides
import Derived.WalkSpells
/- Layer compile: what the layers below give. -/
namespace Go.Proofs.Ytimmiidkjpbffaa
open Go.RowKit
set_option maxRecDepth 100000
set_option linter.unusedVariables false
set_option linter.unusedSimpArgs false

def Cd.wd (c : Cd) : Int := wdI c.o c.a c.b c.c c.i
/-- The words of a machine that is loaded. -/
def ldW (x : Nat) (cs : List Cd) (ds : List Int) : List Int := cs.map Cd.wd ++ (ds ++ List.replicate (x - (cs.length + ds.length)) 0)
def lO (x : Int) (cs : List Cd) (ds : List Int) : Mc × Int :=
  if szI x = false then (zM, 2) else if x < cs.length + ds.length then (zM, 4) else ({ zM with me := ldW x.toNat cs ds }, 0)
theorem ldW_len {x : Nat} {cs : List Cd} {ds : List Int} (h : cs.length + ds.length ≤ x) : (ldW x cs ds).length = x := by simp [ldW]; omega
theorem Cd.ok.wd {c : Cd} (h : c.ok) : U64 c.wd := wdI_u h.o h.i
theorem ldW_get {x : Nat} {cs : List Cd} {ds : List Int} (h : cs.length + ds.length ≤ x) (t : Nat) : (ldW x cs ds).getD t 0 = if h : t < cs.length then cs[t].wd else if t < cs.length + ds.length then ds.getD (t - cs.length) 0 else 0 := by
  unfold ldW
  rw [List.getD_eq_getElem?_getD]
  by_cases h1 : t < cs.length
  · rw [dif_pos h1, List.getElem?_append_left (by simpa using h1)]
    simp [h1]
  · rw [dif_neg h1, List.getElem?_append_right (by simp; omega), List.length_map]
    by_cases h2 : t < cs.length + ds.length
    · rw [if_pos h2, List.getElem?_append_left (by omega), List.getD_eq_getElem?_getD]
    · rw [if_neg h2, List.getElem?_append_right (by omega), List.getElem?_replicate]
      split <;> rfl
theorem ldW_u {x : Nat} {cs : List Cd} {ds : List Int} (h : cs.length + ds.length ≤ x) (hc : ∀ e ∈ cs, e.ok) (hd : ∀ k, U64 (ds.getD k 0)) (t : Nat) : U64 ((ldW x cs ds).getD t 0) := by
  rw [ldW_get h]
  split
  · exact (hc _ (List.getElem_mem _)).wd
  · split
    · exact hd _
    · unfold U64; omega
/-- What Load answers. -/
def LdPost (x : Int) (cs : List Cd) (ds : List Int) (w : World) (e : Ending) (w' : World) : Prop :=
  ∃ sp n cap, e = .returned (.tuple #[.agg (mcA (lO x cs ds).1 sp n cap), .int .i64 (lO x cs ds).2]) ∧ (lO x cs ds).1.ok ∧ MS w'.heap.size w' sp n cap (lO x cs ds).1.me ∧ Below w.heap.size w w'
theorem ldNo {x : Int} {cs : List Cd} {ds : List Int} {w w' : World} {er : Int} (hr : lO x cs ds = (zM, er)) (hb : Below w.heap.size w w') : LdPost x cs ds w (.returned (.tuple #[.agg (mcA zM none 0 0), .int .i64 er])) w' :=
  ⟨none, 0, 0, by rw [hr], by rw [hr]; exact zM_ok, by rw [hr]; exact MS.nil0 _ _, hb⟩
theorem ldYes {x : Int} {X : Nat} {cs : List Cd} {ds : List Int} {w w' : World} {g : Nat} (hr : lO x cs ds = ({ zM with me := ldW X cs ds }, 0)) (hok : Mc.ok { zM with me := ldW X cs ds }) (hM : MW w' g (ldW X cs ds)) (hl : X = (ldW X cs ds).length) (hX : X ≤ 4096) (hb : Below w.heap.size w w') : LdPost x cs ds w (.returned (.tuple #[.agg (mcA { zM with me := ldW X cs ds } (some ⟨g, 0, none⟩) X X), .int .i64 0])) w' :=
  ⟨some ⟨g, 0, none⟩, X, X, by rw [hr], by rw [hr]; exact hok, by rw [hr]; exact hM.ms hl (by omega) ⟨Nat.le_refl _, by omega⟩, hb⟩
theorem built45 (sp : Option Addr) (n cap : Nat) (me : List Int) : Try.prog.built 29 [(3, .slice sp n cap)] = some (mcA { zM with me := me } sp n cap) := by kernel_rfl
theorem ld25 {ops : Array Oper} {rest : List Oper} {o : Oper} {a : Act} {w : World} {Q : Exit → Act → World → Prop} (hgd : o.guard = none) (x : Operand) (ho : o.op = .load 108 x)
    (b off : Nat) (hx : a.eval x = .pointer (some ⟨b, off, none⟩)) (e : Cd) (hc : w.rangeAt b off e.arr.toList)
    (h : wpList Try.prog ops Q rest (a.put o.dst (.agg e.arr)) w) : wpList Try.prog ops Q (o :: rest) a w :=
  wpList_load_mid hgd 108 x ho b off hx e.arr.toList _ hc Try.underlying108 rfl size25 (by simpa using h)
theorem st25n {ops : Array Oper} {rest : List Oper} {o : Oper} {a : Act} {Q : Exit → Act → World → Prop} (hgd : o.guard = none) (x y : Operand) (ho : o.op = .store 108 x y) (W : World) (g : Nat) (hgW : W.heap.size = g) {z : Array Value} (hz : z.size = 5)
    (e : Cd) (hx : a.eval x = .pointer (some ⟨g, 0, none⟩)) (hy : a.eval y = .agg e.arr)
    (h : wpList Try.prog ops Q rest (a.put o.dst undef) (W.alloc (.cells e.arr 108))) : wpList Try.prog ops Q (o :: rest) a (W.alloc (.cells z 108)) := by
  subst hgW
  exact wpList_store_new W z 108 hgd 108 x y ho e.arr hx hy size25 hz (one25 _ _ _ _ _) h
theorem wdc_any (e : Cd) (h : e.ok) (w : World) : Calls Try.prog 44 #[.agg e.arr] w fun r w' => r = .returned (.int .u64 e.wd) ∧ Below w.heap.size w w' := word_any w h.o h.a h.b h.c h.i
theorem refwdc_any (e : Cd) (h : e.ok) (w : World) : Calls Try.prog 92 #[.agg e.arr] w fun r w' => r = .returned (.int .u64 e.wd) ∧ Below w.heap.size w w' := refWord_any w h.o h.a h.b h.c h.i
/-- The first k words laid. -/
def lay (x : Nat) (cs : List Cd) (k : Nat) : List Int := (cs.take k).map Cd.wd ++ List.replicate (x - k) 0
theorem lay_zero (x : Nat) (cs : List Cd) : lay x cs 0 = List.replicate x 0 := by simp [lay]
theorem lay_len {x k : Nat} {cs : List Cd} (h : k ≤ cs.length) (hx : cs.length ≤ x) : (lay x cs k).length = x := by simp [lay]; omega
theorem lay_set {x k : Nat} {cs : List Cd} {e : Cd} (he : cs[k]? = some e) (hx : cs.length ≤ x) : (lay x cs k).set k e.wd = lay x cs (k + 1) := by
  have hk := (List.getElem?_eq_some_iff.1 he).1
  unfold lay
  rw [List.set_append_right _ _ (by simp; omega), List.take_add_one, he]
  simp only [List.length_map, List.length_take, Nat.min_eq_left (Nat.le_of_lt hk), Nat.sub_self, List.map_append, Option.toList_some, List.map_cons, List.map_nil, List.append_assoc]
  rw [show x - k = (x - (k + 1)) + 1 by omega, List.replicate_succ, List.set_cons_zero]
  rfl
theorem lay_all {x : Nat} {cs : List Cd} (hx : cs.length ≤ x) : lay x cs cs.length = ldW x cs [] := by simp [lay, ldW]
theorem made_mw (w : World) (n : Nat) : MW (w.alloc (.cells (madeCells #[.int .u64 0] n) 25)) w.heap.size (List.replicate n 0) :=
  ⟨_, Arr.new w 25 _, fun t ht => by
    have ht' : t < n := by simpa using ht
    rw [← Array.getElem?_toList, toList_madeCells_one]
    simp [List.getD_eq_getElem?_getD, ht']⟩
set_option maxHeartbeats 1000000 in
theorem load_no (x : Int) (sp : Option Addr) (n cap : Nat) (cs : List Cd) (sq : Option Addr) (nd cd : Nat) (ds : List Int) (N : Nat) (w : World) (hx : -9223372036854775808 ≤ x ∧ x ≤ 9223372036854775807) (hS : CS N w sp n cap cs) (hD : MS N w sq nd cd ds) (hU : ∀ k, U64 (ds.getD k 0)) (hbad : szI x = false ∨ x < cs.length + ds.length) :
    Calls Try.prog 33 #[.int .i64 x, .slice sp n cap, .slice sq nd cd] w (LdPost x cs ds w) := by
  have A0 := Arr.new w 29 (mcA zM none 0 0)
  have hsz := mcA_size zM_ok.r16 none 0 0
  have hoz := mcA_one zM none 0 0
  have hb0 := alloc_bel' w (.cells (mcA zM none 0 0) 29)
  have hn := hS.small
  have hn2 := hD.small
  cases hq : szI x with
  | false =>
    have hr : lO x cs ds = (zM, 2) := by simp [lO, hq]
    replace hr := Hid.mk' hr
    replace hq := Hid.mk' hq
    clear hbad
    go_enter Try.func33, Try.ntmps33
    go_wp2_with (first
      | (go_at_call 36; go_must (refine (maySize_any _ _ hx).mono ?_; rintro e w1 ⟨rfl, h⟩; subst h; rw [hq.out]))
      | (refine st45 (by rfl) (.tmp 6) (.tmp 14) (by rfl) w.heap.size (mcA zM none 0 0) (by rfl) (by rfl) hsz hoz _ hsz A0 ?_))
    exact bodyPost_ret (v := .tuple #[.agg (mcA zM none 0 0), .int .i64 2]) (res45b Try.results33 rfl rfl hsz (A0.setRow _)) rfl (ldNo hr.out (below_setRow hb0 (Nat.le_refl _) _))
  | true =>
    have hlt : x < cs.length + ds.length := by rcases hbad with h | h; rw [hq] at h; cases h; exact h
    have hr : lO x cs ds = (zM, 4) := by simp [lO, hq, hlt]
    have hlt2 : x - n < nd := by rw [hS.len.out, hD.len.out]; omega
    have hx4 := szB_le (by have := hq; unfold szI at this; exact (Bool.and_eq_true_iff.1 this).2)
    have hx0 : 0 ≤ x := by have := hq; unfold szI at this; exact of_decide_eq_true (Bool.and_eq_true_iff.1 this).1
    have hx4' : x ≤ 4096 := by omega
    replace hr := Hid.mk' hr
    replace hq := Hid.mk' hq
    clear hbad hlt
    go_enter Try.func33, Try.ntmps33
    go_wp2_with (first
      | (go_at_call 36; go_must (refine (maySize_any _ _ hx).mono ?_; rintro e w1 ⟨rfl, h⟩; subst h; rw [hq.out]))
      | (refine st45 (by rfl) (.tmp 6) (.tmp 22) (by rfl) w.heap.size (mcA zM none 0 0) (by rfl) (by rfl) hsz hoz _ hsz A0 ?_))
    exact bodyPost_ret (v := .tuple #[.agg (mcA zM none 0 0), .int .i64 4]) (res45b Try.results33 rfl rfl hsz (A0.setRow _)) rfl (ldNo hr.out (below_setRow hb0 (Nat.le_refl _) _))
theorem wp_bdT {o : Oper} {a : Act} {w : World} {K : Act → World → Prop} {Q : Exit → Act → World → Prop} (t : TypeId) (parts : Array (Nat × Operand)) (ho : o.op = .build t parts) {ps : List (Nat × Value)} (hp : parts.toList.map (fun p => (p.1, a.eval p.2)) = ps) {C : Array Value} (hb : Try.prog.built t ps = some C)
    (h : K (a.put o.dst (.agg C)) w) : o.wp Try.prog a w K Q := by
  have e : (parts.map fun (i, x) => (i, a.eval x)).toList = ps := by rw [Array.toList_map]; exact hp
  refine wp_build t parts ho (by rw [e, hb]; rfl) ?_
  rw [e, hb]; exact h
theorem ldW_splice {X : Nat} {cs : List Cd} {ds : List Int} {C : Array Value} (h : cs.length + ds.length ≤ X) (hC : ∀ t, t < (lay X cs cs.length).length → C[t]? = some (.int .u64 ((lay X cs cs.length).getD t 0))) :
    ∀ t, t < (ldW X cs ds).length → (C.toList.take cs.length ++ (by64 ds ++ C.toList.drop (cs.length + (by64 ds).length))).toArray[t]? = some (.int .u64 ((ldW X cs ds).getD t 0)) := by
  intro t ht
  rw [ldW_len h] at ht
  rw [lay_len (Nat.le_refl _) (by omega)] at hC
  have hsz : X ≤ C.size := by
    by_cases h0 : 0 < X
    · have := (Array.getElem?_eq_some_iff.1 (hC (X - 1) (by omega))).1
      omega
    · omega
  have ht0 : (C.toList.take cs.length).length = cs.length := by
    have e : C.toList.length = C.size := Array.length_toList
    rw [List.length_take, e]; exact Nat.min_eq_left (by omega)
  have hg := hC t ht
  rw [lay_all (by omega), ldW_get (by simp; omega)] at hg
  rw [ldW_get h, List.getElem?_toArray]
  by_cases h1 : t < cs.length
  · rw [dif_pos h1] at hg ⊢
    rw [List.getElem?_append_left (by rw [ht0]; exact h1), List.getElem?_take_of_lt h1, Array.getElem?_toList]
    exact hg
  · rw [dif_neg h1] at hg ⊢
    rw [if_neg (by simp; omega)] at hg
    rw [List.getElem?_append_right (by rw [ht0]; omega), ht0]
    by_cases h2 : t < cs.length + ds.length
    · rw [if_pos h2, List.getElem?_append_left (by rw [by64_len]; omega)]
      exact by64_getV (by omega)
    · rw [if_neg h2, List.getElem?_append_right (by rw [by64_len]; omega), List.getElem?_drop, Array.getElem?_toList, by64_len]
      rw [show cs.length + ds.length + (t - cs.length - ds.length) = t by omega]
      exact hg
set_option maxHeartbeats 2000000 in
theorem load_ok (x : Int) (sp : Option Addr) (n cap : Nat) (cs : List Cd) (sq : Option Addr) (nd cd : Nat) (ds : List Int) (N : Nat) (w : World) (hx : -9223372036854775808 ≤ x ∧ x ≤ 9223372036854775807) (hS : CS N w sp n cap cs) (hD : MS N w sq nd cd ds) (hU : ∀ k, U64 (ds.getD k 0)) (hq : szI x = true) {X : Nat} (hX : x = (X : Int)) (hle : cs.length + ds.length ≤ X) :
    Calls Try.prog 33 #[.int .i64 x, .slice sp n cap, .slice sq nd cd] w (LdPost x cs ds w) := by
  subst hX
  obtain ⟨i0, hi, hz0, hz1, hz2⟩ := info_parts info26
  have A0 := Arr.new w 29 (mcA zM none 0 0)
  have hsz := mcA_size zM_ok.r16 none 0 0
  have hb0 := alloc_bel' w (.cells (mcA zM none 0 0) 29)
  have hn := hS.small
  have hl := hS.len
  have hl2 := hD.len
  have hX4 := szB_le (by rw [szI_nat] at hq; exact hq)
  have hnX : n ≤ X := by rw [hl.out]; omega
  have hndX : nd ≤ X - n := by rw [hl.out, hl2.out]; omega
  have hcmp : ¬ ((X : Int) - n < nd) := by omega
  have hr : lO (X : Int) cs ds = ({ zM with me := ldW X cs ds }, 0) := by
    unfold lO
    rw [if_neg (by rw [hq]; simp), if_neg (by omega), Int.toNat_natCast]
  have hokR : Mc.ok { zM with me := ldW X cs ds } := ⟨zM_ok.pc, zM_ok.r16, zM_ok.rg, zM_ok.st, ldW_u hle hS.ok hU⟩
  replace hr := Hid.mk' hr
  replace hq := Hid.mk' hq
  go_enter Try.func33, Try.ntmps33
  go_wp2_with (first
    | (go_at_call 36; go_must (refine (maySize_any _ _ hx).mono ?_; rintro e w1 ⟨rfl, h⟩; subst h; rw [hq.out]))
    | (at_make; go_must (refine wpList_make_row _ (by rfl) (.tmp 23) (.tmp 23) 22 (by rfl) 25 i0 (.int .u64 0) Try.underlying22 hi hz0 hz1 rfl .i64 .i64 X (by rfl) (by rfl) (by rw [hz2]; omega) (by omega) ?_)))
  go_loopw [27] (fun q wr => ∃ (k : Nat), q = .int .i64 (k : Int) ∧ k ≤ n ∧ Below w.heap.size w wr ∧ Arr wr w.heap.size 29 (mcA zM none 0 0) ∧ MW wr (w.heap.size + 1) (lay X cs k))
    (fun q _ => n - (intOf q).toNat)
  case atStart => exact ⟨0, rfl, by omega, hb0.alloc (by simp) _, A0.alloc _, by rw [lay_zero]; have h := made_mw (w.alloc (.cells (mcA zM none 0 0) 29)) X; simp only [World.size_alloc] at h; exact h⟩
  case round =>
    obtain ⟨k, rfl, hk, hbl, hA, hMW⟩ := hrel
    by_cases hlt : k < n
    · have hI : (k : Int) < n := by omega
      have hIX : (k : Int) < X := by omega
      have hSr := hS.here.below hbl
      obtain ⟨g, off, rfl, hgN, hR⟩ := hSr.at0 (by omega)
      obtain ⟨e, he⟩ : ∃ e, cs[k]? = some e := ⟨cs[k]'(by rw [← hl.out]; exact hlt), List.getElem?_eq_getElem _⟩
      have hok := hS.ok e (List.mem_of_getElem? he)
      have hRe := hR k e he
      have hset := lay_set he (show cs.length ≤ X by omega)
      have hlay : (lay X cs k).length = X := lay_len (by rw [← hl.out]; omega) (by omega)
      have hbW := hbl.alloc hbl.size (.cells e.arr 108)
      have AE := Arr.new wr 108 e.arr
      replace he := Hid.mk' he
      replace hset := Hid.mk' hset
      replace hlay := Hid.mk' hlay
      have hlts := hMW.lt
      go_wp2_with (first
        | (refine ld25 (by rfl) _ (by rfl) g (off + k * 5) (by rfl) e hRe ?_)
        | (refine st25n (by rfl) _ _ (by rfl) wr wr.heap.size rfl (by rfl) e (by rfl) (by rfl) ?_)
        | (refine ldA25 (by rfl) (.tmp 10) (by rfl) wr.heap.size (by rfl) e.arr rfl AE ?_)
        | (go_at_call 44; go_must (refine (wdc_any e hok _).mono ?_; rintro r w2 ⟨rfl, hb2⟩; have hM2 := (hMW.below (alloc_bel' wr _) hlts).below hb2 (by simp; omega); have f2 := hM2.frozen k; have c2 := hM2.cell (t := k) (by rw [hlay.out]; omega); have A2 := (hA.alloc _).below hb2 (by have := hA.lt; simp; omega); have B2 := hbW.trans (hb2.mono (by have := hbl.size; simp; omega)))))
      go_roundw
      case rel => exact ⟨k + 1, by go_num, by omega, B2.setCell (by simp) _, A2.setOther _ (by simp), by rw [← hset.out]; exact hM2.set (by rw [hlay.out]; omega) _⟩
      case measure => simp [intOf]; omega
    · obtain rfl : k = n := by omega
      have hnlt : ¬ (k : Int) < k := by omega
      have hkX : (k : Int) ≤ X := by omega
      have hkl : k = cs.length := hl.out
      by_cases hd0 : nd = 0
      · have hds : ds = [] := List.eq_nil_of_length_eq_zero (by rw [← hl2.out]; exact hd0)
        have hM2 : MW wr (w.heap.size + 1) (ldW X cs ds) := by rw [hds, ← lay_all (by omega), ← hkl]; exact hMW
        subst hd0
        replace hkl := Hid.mk' hkl
        replace hds := Hid.mk' hds
        by_cases hXk : X = k
        · subst hXk
          go_wp2_with (first | (refine wpList_copy_nothing (by rfl) (.tmp 41) (.tmp 42) 22 22 (by rfl) 25 Try.underlying22 size26 _ _ _ _ 0 cd (by rfl) (by rfl) (by simp) ?_) | (refine wpList_plain (by rfl) fun K hK => wp_bdT 29 #[(3, .tmp 44)] (by rfl) (by rfl) (built45 (some ⟨w.heap.size + 1, 0, none⟩) X X (ldW X cs ds)) (hK _ _ ?_)) | (refine st45 (by rfl) (.tmp 6) (.tmp 45) (by rfl) w.heap.size (mcA { zM with me := ldW X cs ds } (some ⟨w.heap.size + 1, 0, none⟩) X X) (by rfl) (by rfl) (mcA_size zM_ok.r16 _ _ _) (mcA_one _ _ _ _) _ hsz hA ?_))
          exact bodyPost_ret (v := .tuple #[.agg (mcA { zM with me := ldW X cs ds } (some ⟨w.heap.size + 1, 0, none⟩) X X), .int .i64 0]) (res45b Try.results33 rfl rfl (mcA_size zM_ok.r16 _ _ _) (hA.setRow _)) rfl (ldYes hr.out hokR (hM2.block (setRow_other _ _ _ _ (by omega))) (by rw [ldW_len hle]) (by omega) (below_setRow hbl (Nat.le_refl _) _))
        · go_wp2_with (first | (refine wpList_copy_nothing (by rfl) (.tmp 41) (.tmp 42) 22 22 (by rfl) 25 Try.underlying22 size26 _ _ _ _ 0 cd (by rfl) (by rfl) (by simp) ?_) | (refine wpList_plain (by rfl) fun K hK => wp_bdT 29 #[(3, .tmp 44)] (by rfl) (by rfl) (built45 (some ⟨w.heap.size + 1, 0, none⟩) X X (ldW X cs ds)) (hK _ _ ?_)) | (refine st45 (by rfl) (.tmp 6) (.tmp 45) (by rfl) w.heap.size (mcA { zM with me := ldW X cs ds } (some ⟨w.heap.size + 1, 0, none⟩) X X) (by rfl) (by rfl) (mcA_size zM_ok.r16 _ _ _) (mcA_one _ _ _ _) _ hsz hA ?_))
          exact bodyPost_ret (v := .tuple #[.agg (mcA { zM with me := ldW X cs ds } (some ⟨w.heap.size + 1, 0, none⟩) X X), .int .i64 0]) (res45b Try.results33 rfl rfl (mcA_size zM_ok.r16 _ _ _) (hA.setRow _)) rfl (ldYes hr.out hokR (hM2.block (setRow_other _ _ _ _ (by omega))) (by rw [ldW_len hle]) (by omega) (below_setRow hbl (Nat.le_refl _) _))
      · have hXk : ¬ X = k := by omega
        obtain ⟨gd, od, rfl, hgd, hcd⟩ := (hD.here.below hbl).at0 (by omega)
        obtain ⟨C, hCA, hC⟩ := hMW
        have hC' := hC
        rw [hkl] at hC'
        have hCs : X ≤ C.size := by
          have h1 : (lay X cs k).length = X := lay_len (by omega) (by omega)
          have := (Array.getElem?_eq_some_iff.1 (hC (X - 1) (by omega))).1
          omega
        have hsrc : ∀ j v, (by64 ds)[j]? = some v → wr.cell? ((⟨gd, od, none⟩ : Addr).add j) = some v := fun j v hv => by
          have hj : j < ds.length := by have := (List.getElem?_eq_some_iff.1 hv).1; rwa [by64_len] at this
          rw [by64_getV hj] at hv
          rw [Addr.add_mid, hcd j (by rw [hl2.out]; exact hj)]; exact hv
        have hM2 : MW (wr.setRow (w.heap.size + 1) (C.toList.take k ++ (by64 ds ++ C.toList.drop (k + (by64 ds).length))).toArray) (w.heap.size + 1) (ldW X cs ds) := ⟨_, hCA.setRow _, by have := ldW_splice hle hC'; rw [← hkl] at this; exact this⟩
        have A2 : Arr (wr.setRow (w.heap.size + 1) (C.toList.take k ++ (by64 ds ++ C.toList.drop (k + (by64 ds).length))).toArray) w.heap.size 29 (mcA zM none 0 0) := hA.setRowOther _ (by omega)
        replace hsrc := Hid.mk' hsrc
        replace hkl := Hid.mk' hkl
        clear hC hC' hcd
        go_wp2_with (first | (refine wpList_copy_own (by rfl) (.tmp 41) (.tmp 42) 22 22 (by rfl) 25 Try.underlying22 size26 (w.heap.size + 1) k (X - k) (X - k) ⟨gd, od, none⟩ nd cd (by rfl) (by rfl) C 25 hCA (by64 ds) (by rw [by64_len, ← hl2.out]; exact (Nat.min_eq_left (by omega)).symm) hsrc.out (by rw [by64_len, ← hl2.out]; omega) (by64_one _) ?_) | (refine wpList_plain (by rfl) fun K hK => wp_bdT 29 #[(3, .tmp 44)] (by rfl) (by rfl) (built45 (some ⟨w.heap.size + 1, 0, none⟩) X X (ldW X cs ds)) (hK _ _ ?_)) | (refine st45 (by rfl) (.tmp 6) (.tmp 45) (by rfl) w.heap.size (mcA { zM with me := ldW X cs ds } (some ⟨w.heap.size + 1, 0, none⟩) X X) (by rfl) (by rfl) (mcA_size zM_ok.r16 _ _ _) (mcA_one _ _ _ _) _ hsz A2 ?_))
        exact bodyPost_ret (v := .tuple #[.agg (mcA { zM with me := ldW X cs ds } (some ⟨w.heap.size + 1, 0, none⟩) X X), .int .i64 0]) (res45b Try.results33 rfl rfl (mcA_size zM_ok.r16 _ _ _) (A2.setRow _)) rfl (ldYes hr.out hokR (hM2.block (setRow_other _ _ _ _ (by omega))) (by rw [ldW_len hle]) (by omega) (below_setRow (below_setRow hbl (by omega) _) (Nat.le_refl _) _))
end Go.Proofs.Ytimmiidkjpbffaa
/- Layer compile: what the layers below give. -/
namespace Go.Proofs.Ytimmiidkjpbffaa
open Go.RowKit
set_option maxRecDepth 100000
set_option linter.unusedVariables false
set_option linter.unusedSimpArgs false

theorem load_any (x : Int) (sp : Option Addr) (n cap : Nat) (cs : List Cd) (sq : Option Addr) (nd cd : Nat) (ds : List Int) (N : Nat) (w : World) (hx : -9223372036854775808 ≤ x ∧ x ≤ 9223372036854775807) (hS : CS N w sp n cap cs) (hD : MS N w sq nd cd ds) (hU : ∀ k, U64 (ds.getD k 0)) :
    Calls Try.prog 33 #[.int .i64 x, .slice sp n cap, .slice sq nd cd] w (LdPost x cs ds w) := by
  by_cases h : szI x = false ∨ x < cs.length + ds.length
  · exact load_no x sp n cap cs sq nd cd ds N w hx hS hD hU h
  · have hq : szI x = true := by cases hm : szI x with | true => rfl | false => exact absurd (.inl hm) h
    exact load_ok x sp n cap cs sq nd cd ds N w hx hS hD hU hq (X := x.toNat) (by omega) (by omega)
end Go.Proofs.Ytimmiidkjpbffaa

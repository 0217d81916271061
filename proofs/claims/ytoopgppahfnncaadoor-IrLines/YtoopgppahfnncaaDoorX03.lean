/- Id, If0, Js, JsO, Fb, T3, T4. -/
import Derived.Test.YtoopgppahfnncaaDoorX02
import Derived.BigQuiet
import Derived.BigRegion
import Derived.ChangeKeysEq
import Derived.ChangeOld
import Derived.Deep.DeepCutAuto
import Derived.Deep.DrawnRows
import Derived.Deep.MidRow
import Derived.Deep.OwnRows
import Derived.Deep.QuietTactic
import Derived.Deep.RegionHeld3
import Derived.Deep.RegionLaw
import Derived.Deep.RegionWith
import Derived.Deep.WholeRow
import Derived.DeepKeys3
import Derived.Great.BuildSlice
import Derived.Great.FillDense
import Derived.Handy
import Derived.Laws.AppendOwnNone
import Derived.Laws.BitsLemmas
import Derived.Laws.BytesArg
import Derived.Laws.CopyOwn
import Derived.Laws.OwnMore
import Derived.Laws.ResultCell
import Derived.Laws.Tables
import Derived.Lib.SlBytesConst
import Derived.LoopIn
import Derived.LoopNIn
import Derived.LoopTactic
import Derived.Maps.AppendAt
import Derived.OpenShut
import Derived.OwnWalkIn
import Derived.ProofKit
import Derived.RangeFuncBound
import Derived.RangeFuncCalls
import Derived.RangeFuncLeaves
import Derived.RangeFuncNested
import Derived.RangeFuncRecord
import Derived.Recover
import Derived.Shelf.Abstract
import Derived.Shelf.RegionOpen
import Derived.ShutString
import Derived.SizedLaws
import Derived.TacticsInMore
import Derived.WalkKit
import Derived.WalkLawsBesides
import Derived.WalkSpells
import Derived.Test.YtoopgppahfnncaaDoorRows
import Derived.Deep.RegionHeld
import Derived.KernelRfl
import Derived.Laws.AppendOwn
import Derived.Laws.CopyRow
import Derived.Laws.DeepBits32
import Derived.Laws.MakeOwn
import Derived.Laws.Rows
import Derived.Lib.AppendZeros
import Derived.OwnWalk
import Derived.WideShapes
import Derived.LaidLaws
import Derived.LaidHandle
import Derived.LaidSub
import Derived.MakeChecks
import Derived.Lib.LaidTab
/- Layer ir: what the layers below give. -/
namespace Go.Proofs.YtoopgppahfnncaaDoor
open Go.RowKit
set_option maxRecDepth 100000
set_option linter.unusedVariables false
set_option linter.unusedSimpArgs false

theorem ExM.cells {N : Nat} {w : World} : ∀ {d : Nat} {cs : List Value} {t : ExT d}, ExM N w d cs t → ∃ k n v o sp m cap, cs = exC k n v o (.slice sp m cap)
  | 0, _, _, h => h
  | _ + 1, _, _, h => let ⟨sp, m, cap, h1, _, _⟩ := h; ⟨_, _, _, _, sp, m, cap, h1⟩
theorem fld_drop {α : Type} {f : α → Nat → Option Nat} {l : List α} {j : Nat} {a : α} (h : l[j]? = some a) (k : Nat) : fld f (l.drop j) k = (f a k).bind (fld f (l.drop (j + 1))) := by
  obtain ⟨hj, rfl⟩ := List.getElem?_eq_some_iff.1 h
  rw [List.drop_eq_getElem_cons hj]
  rfl
set_option maxHeartbeats 1000000 in
theorem cnt73 {N d : Nat} {vs : Int} {sp : Option Addr} {n cap : Nat} {l : List (ExT d)} (w : World) (hS : RS N w 5 (ExM N w d) sp n cap l) (hN : N ≤ w.heap.size) (gs gl left : Nat) (hl : left ≤ 4096)
    (hc : ∀ (u : World) (cs : List Value) (t : ExT d) (k : Nat), k ≤ 4096 → Below w.heap.size w u → ExM N u d cs t → Calls Tryd.prog 76 #[.agg cs.toArray, .int .i64 (k : Int), .pointer (some ⟨gs, 0, none⟩), .pointer (some ⟨gl, 0, none⟩)] u (CtP (exN vs d t k) u)) :
    Calls Tryd.prog 75 #[.slice sp n cap, .int .i64 (left : Int), .func (Fn.func 76) #[] #[.pointer (some ⟨gs, 0, none⟩), .pointer (some ⟨gl, 0, none⟩)]] w (CtP (fld (exN vs d) l left) w) := by
  have hlen := hS.len
  have hsm := hS.small
  obtain ⟨r, hr⟩ : ∃ r, r = fld (exN vs d) l left := ⟨_, rfl⟩
  rw [← hr]
  replace hr := hid hr
  go_enter Tryd.func75, Tryd.ntmps75
  go_upto_region 2 with fail
  go_loopw [1, 14] (fun a i wr => ∃ (j k : Nat), a = .int .i64 (k : Int) ∧ i = .int .i64 (j : Int) ∧ j ≤ n ∧ k ≤ 4096 ∧ Hid (r = fld (exN vs d) (l.drop j) k) ∧ Below w.heap.size w wr)
    (fun _ i _ => n - (intOf i).toNat)
  case atStart => exact ⟨0, left, rfl, rfl, by omega, hl, hid (by rw [List.drop_zero]; exact hr.out), Below.refl _ _⟩
  case round =>
    obtain ⟨j, k, rfl, rfl, hj, hk, hf, hb⟩ := hrel
    by_cases hlt : j < n
    · obtain ⟨t, ht⟩ : ∃ t, l[j]? = some t := ⟨l[j]'(by rw [← hlen.out]; exact hlt), List.getElem?_eq_getElem _⟩
      obtain ⟨g, off, rfl, hg, hR⟩ := hS.at0 (by omega)
      obtain ⟨cs, hrg, hM⟩ := hR j t ht
      have hrg2 := rb hrg hb (by omega)
      have hM2 := ExM.below (hb.mono hN) d cs t hM
      obtain ⟨ek, en, ev, eo, es, em, ec, rfl⟩ := hM.cells
      have c0 := hrg2 0 _ rfl
      have c1 := hrg2 1 _ rfl
      have c2 := hrg2 2 _ rfl
      have c3 := hrg2 3 _ rfl
      have c4 := hrg2 4 _ rfl
      simp only [Nat.add_zero] at c0
      have hfd := fld_drop (f := exN vs d) ht k
      have hgl := block_lt_of_cell c0
      have hlt' : (j : Int) < n := by omega
      have h0 : (0 : Int) ≤ j := by omega
      have hB1 := hb.alloc hb.size (.cells (exC ek en ev eo (.slice es em ec)).toArray 80)
      have hcc := hc (wr.alloc (.cells (exC ek en ev eo (.slice es em ec)).toArray 80)) _ t k hk hB1 (ExM.below (((ab wr _).mono (by have := hb.size; omega))) d _ t hM2)
      clear hS hR hrg hrg2 hM hM2 hc hlen ht
      unfold CtP at hcc
      cases hx : exN vs d t k with
      | none =>
        rw [hx] at hcc hfd
        have hrn : Hid (r = none) := hid (hf.out.trans hfd)
        clear hx hfd hf
        unfold exC at *
        go_wp2_with (go_at_call 76; go_must (refine hcc.mono ?_; rintro e w1 ⟨rfl, hb1⟩))
        go_ret2
        rw [hrn.out]
        exact ⟨rfl, hB1.trans (hb1.mono hB1.size)⟩
      | some k' =>
        have hk' := exN_le d t k k' hx
        rw [hx] at hcc hfd
        have hrn : Hid (r = fld (exN vs d) (l.drop (j + 1)) k') := hid (hf.out.trans hfd)
        clear hx hfd hf
        unfold exC at *
        go_wp2_with (go_at_call 76; go_must (refine hcc.mono ?_; rintro e w1 ⟨rfl, hb1⟩))
        go_roundw
        case rel => exact ⟨j + 1, k', rfl, by go_num, by omega, by omega, hrn, hB1.trans (hb1.mono hB1.size)⟩
        case measure => simp [intOf]; omega
    · obtain rfl : j = n := by omega
      have hrn : Hid (r = some k) := hid (by rw [hf.out, hlen.out, List.drop_length]; rfl)
      clear hS hc hf hlen
      go_wp2_with fail
      go_ret2
      rw [hrn.out]
      exact ⟨rfl, hb⟩
/-- What is to be said of one expression. -/
def ExAt (N : Nat) (es : Option Addr) (en ec : Nat) (vs : Int) (d : Nat) : Prop := ∀ (u : World) (cs : List Value) (t : ExT d) (k : Nat), k ≤ 4096 → N ≤ u.heap.size → ExM N u d cs t →
  Calls Tryd.prog 77 #[.agg #[.slice es en ec, .int .i64 vs], .agg cs.toArray, .int .i64 (d : Int), .int .i64 (k : Int)] u (CtP (exN vs d t k) u)
theorem cl74 {N d : Nat} {es : Option Addr} {en ec : Nat} {vs : Int} (hE : ExAt N es en ec vs d) (u : World) (gs gl : Nat) (As : Arr u gs 73 #[.slice es en ec, .int .i64 vs]) (Al : Arr u gl 3 #[.int .i64 (d : Int)]) (hN : N ≤ u.heap.size) (cs : List Value) (t : ExT d) (k : Nat) (hk : k ≤ 4096) (hM : ExM N u d cs t) :
    Calls Tryd.prog 76 #[.agg cs.toArray, .int .i64 (k : Int), .pointer (some ⟨gs, 0, none⟩), .pointer (some ⟨gl, 0, none⟩)] u (CtP (exN vs d t k) u) := by
  obtain ⟨ek, en', ev, eo, es', em, ec', rfl⟩ := hM.cells
  have hc := hE (u.alloc (.cells (exC ek en' ev eo (.slice es' em ec')).toArray 80)) _ t k hk (by simp; omega) (ExM.below ((ab u _).mono hN) d _ t hM)
  have s0 := (As.alloc (.cells (exC ek en' ev eo (.slice es' em ec')).toArray 80)).cell 0
  have s1 := (As.alloc (.cells (exC ek en' ev eo (.slice es' em ec')).toArray 80)).cell 1
  have l0 := (Al.alloc (.cells (exC ek en' ev eo (.slice es' em ec')).toArray 80)).cell 0
  have b0 := ab u (.cells (exC ek en' ev eo (.slice es' em ec')).toArray 80)
  unfold CtP at hc
  generalize exN vs d t k = r at *
  clear hE hM As Al
  unfold exC at *
  go_enter Tryd.func76, Tryd.ntmps76
  go_wp2_with (go_at_call 77; go_must (refine hc.mono ?_; rintro e w1 ⟨rfl, hb1⟩))
  go_ret2
  exact ⟨rfl, b0.trans (hb1.mono b0.size)⟩
theorem exprs58 {N d : Nat} {es : Option Addr} {en ec : Nat} {vs : Int} (hE : ExAt N es en ec vs d) (w : World) {sp : Option Addr} {n cap : Nat} {l : List (ExT d)} (hS : RS N w 5 (ExM N w d) sp n cap l) (hN : N ≤ w.heap.size) (x y : Int) (left : Nat) (hx : x = d) (hy : y = left) (hl : left ≤ 4096) :
    Calls Tryd.prog 63 #[.agg #[.slice es en ec, .int .i64 vs], .slice sp n cap, .int .i64 x, .int .i64 y] w (CtP (fld (exN vs d) l left) w) := by
  subst hx hy
  have b0 : Below w.heap.size w ((w.alloc (.cells #[.slice es en ec, .int .i64 vs] 73)).alloc (.cells #[.int .i64 (d : Int)] 3)) := (ab w _).alloc (by simp) _
  have A := (Arr.new w 73 #[.slice es en ec, .int .i64 vs]).alloc (.cells #[.int .i64 (d : Int)] 3)
  have A2 := Arr.new (w.alloc (.cells #[.slice es en ec, .int .i64 vs] 73)) 3 #[.int .i64 (d : Int)]
  simp only [World.size_alloc] at A2
  have hmf : ∀ (fn : Fn) (first cap : Array Value) (w : World), (Instr.makeFunc fn first cap).run Tryd.prog w = .ok (.func fn first cap) w := fun _ _ _ _ => rfl
  have hc := cnt73 (vs := vs) ((w.alloc (.cells #[.slice es en ec, .int .i64 vs] 73)).alloc (.cells #[.int .i64 (d : Int)] 3)) (hS.imp (b0.mono hN) (ExM.below (b0.mono hN) d)) (by simp; omega) w.heap.size (w.heap.size + 1) left hl
    (fun u cs t k hk hb hM => cl74 hE u _ _ (A.bl hb) (A2.bl hb) (by have := hb.size; simp at this; omega) cs t k hk hM)
  unfold CtP at hc
  generalize fld (exN vs d) l left = r at *
  clear hE hS A A2
  go_enter Tryd.func63, Tryd.ntmps63
  go_wp2_with (go_at_call 75; go_must (refine hc.mono ?_; rintro e w1 ⟨rfl, hb1⟩))
  go_ret2
  exact ⟨rfl, b0.trans (hb1.mono b0.size)⟩
set_option maxHeartbeats 1000000 in
theorem expr_s {N d : Nat} {es : Option Addr} {en ec : Nat} {vs : Int} (hd100 : d ≤ 100) (hE : ExAt N es en ec vs d) : ExAt N es en ec vs (d + 1) := by
  intro u cs t k hk hN hM
  obtain ⟨sp, m, cap, rfl, hok, hS⟩ := hM
  have b0 : Below u.heap.size u ((u.alloc (.cells #[.slice es en ec, .int .i64 vs] 73)).alloc (.cells (exC t.nd.k t.nd.n t.nd.v t.nd.o (.slice sp m cap)).toArray 80)) := (ab u _).alloc (by simp) _
  have hmy := mayE_any es en ec vs t.nd sp m cap ((u.alloc (.cells #[.slice es en ec, .int .i64 vs] 73)).alloc (.cells (exC t.nd.k t.nd.n t.nd.v t.nd.o (.slice sp m cap)).toArray 80)) hS.len.out
  have A := (Arr.new u 73 #[.slice es en ec, .int .i64 vs]).alloc (.cells (exC t.nd.k t.nd.n t.nd.v t.nd.o (.slice sp m cap)).toArray 80)
  have A2 := Arr.new (u.alloc (.cells #[.slice es en ec, .int .i64 vs] 73)) 80 (exC t.nd.k t.nd.n t.nd.v t.nd.o (.slice sp m cap)).toArray
  simp only [World.size_alloc] at A2
  unfold BoP at hmy
  by_cases h0 : k = 0
  · subst h0
    have e : exN vs (d + 1) t 0 = none := by unfold exN; rw [if_pos (.inl rfl)]
    rw [e]
    have hd0 : ¬ ((d : Int) + 1 = 0) := by omega
    clear hE hS hmy A A2
    unfold exC at *
    go_enter Tryd.func77, Tryd.ntmps77
    go_wp2_with fail
    go_ret2
    exact ⟨rfl, b0⟩
  · have hk0 : ((k : Int) == 0) = false := by simpa using h0
    have hd0 : (((d + 1 : Nat) : Int) == 0) = false := by simp; omega
    have hsub : IntKind.i64.wrap (((d + 1 : Nat) : Int) - 1) = (d : Int) := by rw [IntKind.wrap_i64]; omega
    cases hb : mayE vs t.nd with
    | false =>
      have e : exN vs (d + 1) t k = none := by unfold exN; rw [if_pos (.inr hb)]
      rw [e]
      rw [hb] at hmy
      clear hE hS A A2 hsub h0
      generalize ((d + 1 : Nat) : Int) = dd at *
      unfold exC at *
      go_enter Tryd.func77, Tryd.ntmps77
      go_wp2_with (go_at_call 80; go_must (refine hmy.mono ?_; rintro e w1 ⟨rfl, hb1⟩))
      go_ret2
      exact ⟨rfl, b0.trans (hb1.mono b0.size)⟩
    | true =>
      have e : exN vs (d + 1) t k = fld (exN vs d) t.nd.l (k - 1) := by
        unfold exN
        rw [if_neg (by rintro (h | h); exact h0 h; exact (by rw [show mayE vs (α := ExT d) t = mayE vs t.nd from rfl, hb] at h; cases h))]
        rfl
      rw [e]
      rw [hb] at hmy
      have hx : ∀ (w1 : World), Below ((u.alloc (.cells #[.slice es en ec, .int .i64 vs] 73)).alloc (.cells (exC t.nd.k t.nd.n t.nd.v t.nd.o (.slice sp m cap)).toArray 80)).heap.size ((u.alloc (.cells #[.slice es en ec, .int .i64 vs] 73)).alloc (.cells (exC t.nd.k t.nd.n t.nd.v t.nd.o (.slice sp m cap)).toArray 80)) w1 → ∀ x y : Int, x = d → y = (k - 1 : Nat) → Calls Tryd.prog 63 #[.agg #[.slice es en ec, .int .i64 vs], .slice sp m cap, .int .i64 x, .int .i64 y] w1 (CtP (fld (exN vs d) t.nd.l (k - 1)) w1) := fun w1 hb1 x y hx hy => by
        have hbb := (b0.trans (hb1.mono b0.size)).mono hN
        exact exprs58 hE w1 (hS.imp hbb (ExM.below hbb d)) (by have := hbb.size; omega) x y (k - 1) hx hy (by omega)
      have hkk : IntKind.i64.wrap ((k : Int) - 1) = ((k - 1 : Nat) : Int) := by rw [IntKind.wrap_i64]; omega
      unfold CtP at hx
      generalize fld (exN vs d) t.nd.l (k - 1) = r at *
      clear hE hS h0
      generalize hdd : ((d + 1 : Nat) : Int) = dd at *
      unfold exC at *
      go_enter Tryd.func77, Tryd.ntmps77
      go_wp2_with (first
        | (go_at_call 80; go_must (refine hmy.mono ?_; rintro e w1 ⟨rfl, hb1⟩; have s0 := (A.bl hb1).cell 0; have s1 := (A.bl hb1).cell 1; have s4 := (A2.bl hb1).cell 4; replace hx := hx w1 hb1))
        | (go_at_call 63; go_must (refine (hx _ _ rfl rfl).mono ?_; rintro e w2 ⟨rfl, hb2⟩)))
      go_ret2
      have hB := b0.trans (hb1.mono b0.size)
      exact ⟨rfl, hB.trans (hb2.mono hB.size)⟩
theorem expr_any {N : Nat} {es : Option Addr} {en ec : Nat} {vs : Int} : ∀ d : Nat, d ≤ 100 → ExAt N es en ec vs d
  | 0, _ => by
    intro u cs t k hk hN hM
    obtain ⟨ek, en', ev, eo, es', em, ec', rfl⟩ := hM.cells
    have b0 : Below u.heap.size u ((u.alloc (.cells #[.slice es en ec, .int .i64 vs] 73)).alloc (.cells (exC ek en' ev eo (.slice es' em ec')).toArray 80)) := (ab u _).alloc (by simp) _
    rw [show exN vs 0 t k = none from rfl]
    clear hM
    unfold exC at *
    go_enter Tryd.func77, Tryd.ntmps77
    go_wp2_with fail
    go_ret2
    exact ⟨rfl, b0⟩
  | d + 1, h => expr_s (by omega) (expr_any d (by omega))
end Go.Proofs.YtoopgppahfnncaaDoor
/- Layer ir: what the layers below give. -/
namespace Go.Proofs.YtoopgppahfnncaaDoor
open Go.RowKit
set_option maxRecDepth 100000
set_option linter.unusedVariables false
set_option linter.unusedSimpArgs false

theorem StM.cells {N : Nat} {w : World} : ∀ {d : Nat} {cs : List Value} {t : StT d}, StM N w d cs t → ∃ k v f t sa na ca sb nb cb sc nc cc, cs = stC k v f t (.slice sa na ca) (.slice sb nb cb) (.slice sc nc cc)
  | 0, _, _, h => h
  | _ + 1, _, _, h => let ⟨sa, na, ca, sb, nb, cb, sc, nc, cc, h1, _, _⟩ := h; ⟨_, _, _, _, sa, na, ca, sb, nb, cb, sc, nc, cc, h1⟩
set_option maxHeartbeats 1000000 in
theorem cnt39 {N d : Nat} {ps : List Int} {vs : Int} {sp : Option Addr} {n cap : Nat} {l : List (StT d)} (w : World) (hS : RS N w 7 (StM N w d) sp n cap l) (hN : N ≤ w.heap.size) (gs gl left : Nat) (hl : left ≤ 4096)
    (hc : ∀ (u : World) (cs : List Value) (t : StT d) (k : Nat), k ≤ 4096 → Below w.heap.size w u → StM N u d cs t → Calls Tryd.prog 49 #[.agg cs.toArray, .int .i64 (k : Int), .pointer (some ⟨gs, 0, none⟩), .pointer (some ⟨gl, 0, none⟩)] u (CtP (stN ps vs d t k) u)) :
    Calls Tryd.prog 48 #[.slice sp n cap, .int .i64 (left : Int), .func (Fn.func 49) #[] #[.pointer (some ⟨gs, 0, none⟩), .pointer (some ⟨gl, 0, none⟩)]] w (CtP (fld (stN ps vs d) l left) w) := by
  have hlen := hS.len
  have hsm := hS.small
  obtain ⟨r, hr⟩ : ∃ r, r = fld (stN ps vs d) l left := ⟨_, rfl⟩
  rw [← hr]
  replace hr := hid hr
  go_enter Tryd.func48, Tryd.ntmps48
  go_upto_region 2 with fail
  go_loopw [1, 14] (fun a i wr => ∃ (j k : Nat), a = .int .i64 (k : Int) ∧ i = .int .i64 (j : Int) ∧ j ≤ n ∧ k ≤ 4096 ∧ Hid (r = fld (stN ps vs d) (l.drop j) k) ∧ Below w.heap.size w wr)
    (fun _ i _ => n - (intOf i).toNat)
  case atStart => exact ⟨0, left, rfl, rfl, by omega, hl, hid (by rw [List.drop_zero]; exact hr.out), Below.refl _ _⟩
  case round =>
    obtain ⟨j, k, rfl, rfl, hj, hk, hf, hb⟩ := hrel
    by_cases hlt : j < n
    · obtain ⟨t, ht⟩ : ∃ t, l[j]? = some t := ⟨l[j]'(by rw [← hlen.out]; exact hlt), List.getElem?_eq_getElem _⟩
      obtain ⟨g, off, rfl, hg, hR⟩ := hS.at0 (by omega)
      obtain ⟨cs, hrg, hM⟩ := hR j t ht
      have hrg2 := rb hrg hb (by omega)
      have hM2 := StM.below (hb.mono hN) d cs t hM
      obtain ⟨xk, xv, xf, xt, xa, ya, za, xb, yb, zb, xc, yc, zc, rfl⟩ := hM.cells
      have c0 := hrg2 0 _ rfl
      have c1 := hrg2 1 _ rfl
      have c2 := hrg2 2 _ rfl
      have c3 := hrg2 3 _ rfl
      have c4 := hrg2 4 _ rfl
      have c5 := hrg2 5 _ rfl
      have c6 := hrg2 6 _ rfl
      simp only [Nat.add_zero] at c0
      have hfd := fld_drop (f := stN ps vs d) ht k
      have hgl := block_lt_of_cell c0
      have hlt' : (j : Int) < n := by omega
      have h0 : (0 : Int) ≤ j := by omega
      have hB1 := hb.alloc hb.size (.cells (stC xk xv xf xt (.slice xa ya za) (.slice xb yb zb) (.slice xc yc zc)).toArray 66)
      have hcc := hc (wr.alloc (.cells (stC xk xv xf xt (.slice xa ya za) (.slice xb yb zb) (.slice xc yc zc)).toArray 66)) _ t k hk hB1 (StM.below (((ab wr _).mono (by have := hb.size; omega))) d _ t hM2)
      clear hS hR hrg hrg2 hM hM2 hc hlen ht
      unfold CtP at hcc
      cases hx : stN ps vs d t k with
      | none =>
        rw [hx] at hcc hfd
        have hrn : Hid (r = none) := hid (hf.out.trans hfd)
        clear hx hfd hf
        unfold stC at *
        go_wp2_with (go_at_call 49; go_must (refine hcc.mono ?_; rintro e w1 ⟨rfl, hb1⟩))
        go_ret2
        rw [hrn.out]
        exact ⟨rfl, hB1.trans (hb1.mono hB1.size)⟩
      | some k' =>
        have hk' := stN_le d t k k' hx
        rw [hx] at hcc hfd
        have hrn : Hid (r = fld (stN ps vs d) (l.drop (j + 1)) k') := hid (hf.out.trans hfd)
        clear hx hfd hf
        unfold stC at *
        go_wp2_with (go_at_call 49; go_must (refine hcc.mono ?_; rintro e w1 ⟨rfl, hb1⟩))
        go_roundw
        case rel => exact ⟨j + 1, k', rfl, by go_num, by omega, by omega, hrn, hB1.trans (hb1.mono hB1.size)⟩
        case measure => simp [intOf]; omega
    · obtain rfl : j = n := by omega
      have hrn : Hid (r = some k) := hid (by rw [hf.out, hlen.out, List.drop_length]; rfl)
      clear hS hc hf hlen
      go_wp2_with fail
      go_ret2
      rw [hrn.out]
      exact ⟨rfl, hb⟩
/-- What is to be said of one statement. -/
def StAt (N : Nat) (es : Option Addr) (en ec : Nat) (fs : List FuT) (vs : Int) (d : Nat) : Prop := ∀ (u : World) (cs : List Value) (t : StT d) (k : Nat), k ≤ 4096 → N ≤ u.heap.size → RS N u 3 (FuM N u) es en ec fs → StM N u d cs t →
  Calls Tryd.prog 50 #[.agg #[.slice es en ec, .int .i64 vs], .agg cs.toArray, .int .i64 (d : Int), .int .i64 (k : Int)] u (CtP (stN (fs.map FuT.p) vs d t k) u)
theorem cl40 {N d : Nat} {es : Option Addr} {en ec : Nat} {fs : List FuT} {vs : Int} (hE : StAt N es en ec fs vs d) (u : World) (gs gl : Nat) (As : Arr u gs 73 #[.slice es en ec, .int .i64 vs]) (Al : Arr u gl 3 #[.int .i64 (d : Int)]) (hN : N ≤ u.heap.size) (hF : RS N u 3 (FuM N u) es en ec fs) (cs : List Value) (t : StT d) (k : Nat) (hk : k ≤ 4096) (hM : StM N u d cs t) :
    Calls Tryd.prog 49 #[.agg cs.toArray, .int .i64 (k : Int), .pointer (some ⟨gs, 0, none⟩), .pointer (some ⟨gl, 0, none⟩)] u (CtP (stN (fs.map FuT.p) vs d t k) u) := by
  obtain ⟨xk, xv, xf, xt, xa, ya, za, xb, yb, zb, xc, yc, zc, rfl⟩ := hM.cells
  have hc := hE (u.alloc (.cells (stC xk xv xf xt (.slice xa ya za) (.slice xb yb zb) (.slice xc yc zc)).toArray 66)) _ t k hk (by simp; omega) (hF.imp ((ab u _).mono hN) (FuM.below ((ab u _).mono hN))) (StM.below ((ab u _).mono hN) d _ t hM)
  have s0 := (As.alloc (.cells (stC xk xv xf xt (.slice xa ya za) (.slice xb yb zb) (.slice xc yc zc)).toArray 66)).cell 0
  have s1 := (As.alloc (.cells (stC xk xv xf xt (.slice xa ya za) (.slice xb yb zb) (.slice xc yc zc)).toArray 66)).cell 1
  have l0 := (Al.alloc (.cells (stC xk xv xf xt (.slice xa ya za) (.slice xb yb zb) (.slice xc yc zc)).toArray 66)).cell 0
  have b0 := ab u (.cells (stC xk xv xf xt (.slice xa ya za) (.slice xb yb zb) (.slice xc yc zc)).toArray 66)
  unfold CtP at hc
  generalize stN (fs.map FuT.p) vs d t k = r at *
  clear hE hM As Al hF
  unfold stC at *
  go_enter Tryd.func49, Tryd.ntmps49
  go_wp2_with (go_at_call 50; go_must (refine hc.mono ?_; rintro e w1 ⟨rfl, hb1⟩))
  go_ret2
  exact ⟨rfl, b0.trans (hb1.mono b0.size)⟩
theorem stmts34 {N d : Nat} {es : Option Addr} {en ec : Nat} {fs : List FuT} {vs : Int} (hE : StAt N es en ec fs vs d) (w : World) {sp : Option Addr} {n cap : Nat} {l : List (StT d)} (hS : RS N w 7 (StM N w d) sp n cap l) (hN : N ≤ w.heap.size) (hF : RS N w 3 (FuM N w) es en ec fs) (x y : Int) (left : Nat) (hx : x = d) (hy : y = left) (hl : left ≤ 4096) :
    Calls Tryd.prog 35 #[.agg #[.slice es en ec, .int .i64 vs], .slice sp n cap, .int .i64 x, .int .i64 y] w (CtP (fld (stN (fs.map FuT.p) vs d) l left) w) := by
  subst hx hy
  have b0 : Below w.heap.size w ((w.alloc (.cells #[.slice es en ec, .int .i64 vs] 73)).alloc (.cells #[.int .i64 (d : Int)] 3)) := (ab w _).alloc (by simp) _
  have A := (Arr.new w 73 #[.slice es en ec, .int .i64 vs]).alloc (.cells #[.int .i64 (d : Int)] 3)
  have A2 := Arr.new (w.alloc (.cells #[.slice es en ec, .int .i64 vs] 73)) 3 #[.int .i64 (d : Int)]
  simp only [World.size_alloc] at A2
  have hmf : ∀ (fn : Fn) (first cap : Array Value) (w : World), (Instr.makeFunc fn first cap).run Tryd.prog w = .ok (.func fn first cap) w := fun _ _ _ _ => rfl
  have hc := cnt39 (ps := fs.map FuT.p) (vs := vs) ((w.alloc (.cells #[.slice es en ec, .int .i64 vs] 73)).alloc (.cells #[.int .i64 (d : Int)] 3)) (hS.imp (b0.mono hN) (StM.below (b0.mono hN) d)) (by simp; omega) w.heap.size (w.heap.size + 1) left hl
    (fun u cs t k hk hb hM => cl40 hE u _ _ (A.bl hb) (A2.bl hb) (by have := hb.size; simp at this; omega) (hF.imp ((b0.trans (hb.mono b0.size)).mono hN) (FuM.below ((b0.trans (hb.mono b0.size)).mono hN))) cs t k hk hM)
  unfold CtP at hc
  generalize fld (stN (fs.map FuT.p) vs d) l left = r at *
  clear hE hS A A2 hF
  go_enter Tryd.func35, Tryd.ntmps35
  go_wp2_with (go_at_call 48; go_must (refine hc.mono ?_; rintro e w1 ⟨rfl, hb1⟩))
  go_ret2
  exact ⟨rfl, b0.trans (hb1.mono b0.size)⟩
end Go.Proofs.YtoopgppahfnncaaDoor
/- Layer ir: what the layers below give. -/
namespace Go.Proofs.YtoopgppahfnncaaDoor
open Go.RowKit
set_option maxRecDepth 100000
set_option linter.unusedVariables false
set_option linter.unusedSimpArgs false

theorem k3 : Tryd.prog.cellsOf 3 = 1 := by kernel_rfl
end Go.Proofs.YtoopgppahfnncaaDoor
/- Layer ir: what the layers below give. -/
namespace Go.Proofs.YtoopgppahfnncaaDoor
open Go.ChangeAt Go.ChangeShapes Go.RowKit Go.WideShapes
set_option maxRecDepth 100000
set_option linter.unusedVariables false
set_option linter.unusedSimpArgs false

theorem u8I {z : Int} (h : (Lit.int .u8 z).wf = true) : U8 z := by
  have h1 : IntKind.u8.min = 0 := rfl
  have h2 : IntKind.u8.max = 255 := rfl
  simp only [Lit.wf, Bool.and_eq_true, decide_eq_true_eq] at h
  unfold U8
  omega
theorem i64I {z : Int} (h : (Lit.int .i64 z).wf = true) : I64 z := by
  have h1 : IntKind.i64.min = -9223372036854775808 := rfl
  have h2 : IntKind.i64.max = 9223372036854775807 := rfl
  simp only [Lit.wf, Bool.and_eq_true, decide_eq_true_eq] at h
  unfold I64
  omega
theorem k30 : Tryd.prog.cellsOf 77 = 1 := by kernel_rfl
theorem k43 : Tryd.prog.cellsOf 78 = 1 := by kernel_rfl
theorem k72 : Tryd.prog.cellsOf 63 = 1 := by kernel_rfl
theorem k73 : Tryd.prog.cellsOf 76 = 1 := by kernel_rfl
theorem k74 : Tryd.prog.cellsOf 64 = 1 := by kernel_rfl
theorem k50 : Tryd.prog.cellsOf 38 = 1 := by kernel_rfl
theorem k45f : Tryd.prog.cellsOf 22 = 1 := by kernel_rfl
theorem u64I {z : Int} (h : (Lit.int .u64 z).wf = true) : U64 z := by
  have h1 : IntKind.u64.min = 0 := rfl
  have h2 : IntKind.u64.max = 18446744073709551615 := rfl
  simp only [Lit.wf, Bool.and_eq_true, decide_eq_true_eq] at h
  unfold U64
  omega
theorem k76 : Tryd.prog.cellsOf 80 = 5 := by kernel_rfl
theorem k78 : Tryd.prog.cellsOf 66 = 7 := by kernel_rfl
theorem k52 : Tryd.prog.cellsOf 40 = 3 := by kernel_rfl
theorem k24 : Tryd.prog.cellsOf 24 = 2 := by kernel_rfl
theorem y76 : Tryd.prog.bytesOf 80 = 56 := by kernel_rfl
theorem y78 : Tryd.prog.bytesOf 66 = 104 := by kernel_rfl
theorem y52 : Tryd.prog.bytesOf 40 = 40 := by kernel_rfl
section
variable {H : Type} {enc : TypeId × Value → H} {W : World} {base : Nat}
/-- A row of things that came in. -/
theorem rs_of_trod {α : Type} {sT eT : TypeId} {sz bb : Nat} (hu : Tryd.prog.underlying sT = some (.slice eT)) (hk : Tryd.prog.cellsOf eT = sz) (h1 : 0 < sz) (hy : Tryd.prog.bytesOf eT = bb) (h2 : 0 < bb) {R : List Value → α → Prop}
    (hR : ∀ (fuel : Nat) (cs : List Value) (x : DataW H × List MemPlace), DataW.trod enc Tryd.prog W base (fun _ => true) true fuel eT cs = some x → Small eT x.1 → ∃ a, R cs a)
    {fuel : Nat} {cs : List Value} {x : DataW H × List MemPlace} (h : DataW.trod enc Tryd.prog W base (fun _ => true) true fuel sT cs = some x) (hs : Small sT x.1) :
    ∃ sp n cap l, cs = [.slice sp n cap] ∧ RS W.heap.size W sz R sp n cap l := by
  rcases DataW.trod_slice hu h with ⟨rfl, -⟩ | ⟨a, len, cap, elems, rest, n, rfl, rfl, rfl, hb, hlc, hm, hlen, hel, hsp, -⟩
  · exact ⟨none, 0, 0, [], rfl, RS.nil0 _ _ _ _⟩
  · obtain ⟨hrl, -⟩ := hsp rfl
    have hr := hs ((elems.length + rest.length) * bb) (by simp [DataW.weights, hu, hy])
    simp only [reachBytes] at hr
    have hr2 : elems.length + rest.length ≤ (elems.length + rest.length) * bb := Nat.le_mul_of_pos_right _ h2
    have hw : ∀ e ∈ elems, Small eT e.1 := fun e he m hm => hs m (by
      simp only [DataW.weights, hu]
      exact List.mem_cons_of_mem _ (List.mem_append_left _ (weights_all (List.mem_map_of_mem he) m hm)))
    have hstep : ∀ i, i < len → ∃ g off cs, ∃ e : α, a.add (i * sz) = ⟨g, off, none⟩ ∧ W.rangeAt g off cs ∧ R cs e ∧ g < W.heap.size := fun i hi => by
      have h1' := hel i hi
      rw [hk, List.getElem?_eq_getElem (by omega), Option.bind_eq_some_iff] at h1'
      obtain ⟨cs, hcs, ht⟩ := h1'
      obtain ⟨g, off, e, hRg⟩ := cells_at h1 hcs
      obtain ⟨-, hl, -⟩ := World.cells?_some hcs
      obtain ⟨f, hf⟩ := hR n cs _ ht (hw _ (List.getElem_mem _))
      exact ⟨g, off, cs, f, e, hRg, hf, block_lt_of_cell (hRg 0 cs[0] (List.getElem?_eq_getElem (by omega)))⟩
    by_cases h0 : 0 < len
    · obtain ⟨g, off, -, -, e, -, -, hgl⟩ := hstep 0 h0
      have ha : a = ⟨g, off, none⟩ := by simpa [Addr.add] using e
      subst ha
      obtain ⟨l, hl, hP⟩ := exists_list (P := fun i (f : α) => ∃ cs, W.rangeAt g (off + i * sz) cs ∧ R cs f) len (fun i hi => by
        obtain ⟨g', off', cs, f, e', h1', ho, -⟩ := hstep i hi
        rw [Addr.add_mid] at e'
        cases e'
        exact ⟨f, cs, h1', ho⟩)
      exact ⟨some ⟨g, off, none⟩, len, cap, l, rfl, ⟨hid hl.symm, (fun e => by cases e), hlc, by unfold maxLen at hm; omega, by omega, fun _ => ⟨g, off, rfl, hgl, hP⟩⟩⟩
    · obtain rfl : len = 0 := by omega
      exact ⟨some a, 0, cap, [], rfl, ⟨rfl, (fun e => by cases e), by omega, by unfold maxLen at hm; omega, by omega, fun h => by omega⟩⟩
theorem ex_of_trod : ∀ (d fuel : Nat) (cs : List Value) (x : DataW H × List MemPlace), DataW.trod enc Tryd.prog W base (fun _ => true) true fuel 80 cs = some x → Small 80 x.1 → ∃ t : ExT d, ExM W.heap.size W d cs t := by
  intro d
  induction d with
  | zero =>
    intro fuel cs x h hs
    obtain ⟨xs, n, rfl, rfl, hl, hxl, hf⟩ := DataW.trod_struct Tryd.underlying80 h
    rw [k76] at hl
    simp at hxl
    match cs, hl with
    | [c0, c1, c2, c3, c4], _ =>
    match xs, hxl with
    | [x0, x1, x2, x3, x4], _ =>
    have f0 := hf 0 _ rfl
    have f1 := hf 1 _ rfl
    have f2 := hf 2 _ rfl
    have f3 := hf 3 _ rfl
    have f4 := hf 4 _ rfl
    simp [k73, k30, k3, k43, k74] at f0 f1 f2 f3 f4
    have s4 : Small 64 x4.1 := fun m hm => hs m (by simp [DataW.weights, Tryd.underlying80, DataW.weightsEach, hm])
    obtain ⟨z0, e0, -⟩ := DataW.trod_int Tryd.underlying76 f0
    obtain ⟨z1, e1, -⟩ := DataW.trod_int Tryd.underlying77 f1
    obtain ⟨z2, e2, -⟩ := DataW.trod_int Tryd.underlying3 f2
    obtain ⟨z3, e3, -⟩ := DataW.trod_int Tryd.underlying78 f3
    obtain ⟨sp, m, cap, l, e4, -⟩ := rs_of_trod (α := Unit) (R := fun _ _ => True) Tryd.underlying64 k76 (by omega) y76 (by omega) (fun _ _ _ _ _ => ⟨(), trivial⟩) f4 s4
    cases e0; cases e1; cases e2; cases e3; cases e4
    exact ⟨(), z0, z1, z2, z3, sp, m, cap, rfl⟩
  | succ d ih =>
    intro fuel cs x h hs
    obtain ⟨xs, n, rfl, rfl, hl, hxl, hf⟩ := DataW.trod_struct Tryd.underlying80 h
    rw [k76] at hl
    simp at hxl
    match cs, hl with
    | [c0, c1, c2, c3, c4], _ =>
    match xs, hxl with
    | [x0, x1, x2, x3, x4], _ =>
    have f0 := hf 0 _ rfl
    have f1 := hf 1 _ rfl
    have f2 := hf 2 _ rfl
    have f3 := hf 3 _ rfl
    have f4 := hf 4 _ rfl
    simp [k73, k30, k3, k43, k74] at f0 f1 f2 f3 f4
    have s4 : Small 64 x4.1 := fun m hm => hs m (by simp [DataW.weights, Tryd.underlying80, DataW.weightsEach, hm])
    obtain ⟨z0, e0, -, w0⟩ := DataW.trod_int Tryd.underlying76 f0
    obtain ⟨z1, e1, -, w1⟩ := DataW.trod_int Tryd.underlying77 f1
    obtain ⟨z2, e2, -, w2⟩ := DataW.trod_int Tryd.underlying3 f2
    obtain ⟨z3, e3, -, w3⟩ := DataW.trod_int Tryd.underlying78 f3
    obtain ⟨sp, m, cap, l, e4, hR⟩ := rs_of_trod (R := ExM W.heap.size W d) Tryd.underlying64 k76 (by omega) y76 (by omega) ih f4 s4
    cases e0; cases e1; cases e2; cases e3; cases e4
    exact ⟨(⟨z0, z1, z2, z3, l⟩ : ExN (ExT d)), sp, m, cap, rfl, ⟨u8I w0, u64I w1, i64I w2, u8I w3⟩, hR⟩
theorem st_of_trod : ∀ (d fuel : Nat) (cs : List Value) (x : DataW H × List MemPlace), DataW.trod enc Tryd.prog W base (fun _ => true) true fuel 66 cs = some x → Small 66 x.1 → ∃ t : StT d, StM W.heap.size W d cs t := by
  intro d
  induction d with
  | zero =>
    intro fuel cs x h hs
    obtain ⟨xs, n, rfl, rfl, hl, hxl, hf⟩ := DataW.trod_struct Tryd.underlying66 h
    rw [k78] at hl
    simp at hxl
    match cs, hl with
    | [c0, c1, c2, c3, c4, c5, c6], _ =>
    match xs, hxl with
    | [x0, x1, x2, x3, x4, x5, x6], _ =>
    have f0 := hf 0 _ rfl
    have f1 := hf 1 _ rfl
    have f2 := hf 2 _ rfl
    have f3 := hf 3 _ rfl
    have f4 := hf 4 _ rfl
    have f5 := hf 5 _ rfl
    have f6 := hf 6 _ rfl
    simp [k72, k3, k74, k50] at f0 f1 f2 f3 f4 f5 f6
    have s4 : Small 64 x4.1 := fun m hm => hs m (by simp [DataW.weights, Tryd.underlying66, DataW.weightsEach, hm])
    have s5 : Small 38 x5.1 := fun m hm => hs m (by simp [DataW.weights, Tryd.underlying66, DataW.weightsEach, hm])
    have s6 : Small 38 x6.1 := fun m hm => hs m (by simp [DataW.weights, Tryd.underlying66, DataW.weightsEach, hm])
    obtain ⟨z0, e0, -⟩ := DataW.trod_int Tryd.underlying63 f0
    obtain ⟨z1, e1, -⟩ := DataW.trod_int Tryd.underlying3 f1
    obtain ⟨z2, e2, -⟩ := DataW.trod_int Tryd.underlying3 f2
    obtain ⟨z3, e3, -⟩ := DataW.trod_int Tryd.underlying3 f3
    obtain ⟨sa, na, ca, la, e4, -⟩ := rs_of_trod (α := Unit) (R := fun _ _ => True) Tryd.underlying64 k76 (by omega) y76 (by omega) (fun _ _ _ _ _ => ⟨(), trivial⟩) f4 s4
    obtain ⟨sb, nb, cb, lb, e5, -⟩ := rs_of_trod (α := Unit) (R := fun _ _ => True) Tryd.underlying38 k78 (by omega) y78 (by omega) (fun _ _ _ _ _ => ⟨(), trivial⟩) f5 s5
    obtain ⟨sc, nc, cc, lc, e6, -⟩ := rs_of_trod (α := Unit) (R := fun _ _ => True) Tryd.underlying38 k78 (by omega) y78 (by omega) (fun _ _ _ _ _ => ⟨(), trivial⟩) f6 s6
    cases e0; cases e1; cases e2; cases e3; cases e4; cases e5; cases e6
    exact ⟨(), z0, z1, z2, z3, sa, na, ca, sb, nb, cb, sc, nc, cc, rfl⟩
  | succ d ih =>
    intro fuel cs x h hs
    obtain ⟨xs, n, rfl, rfl, hl, hxl, hf⟩ := DataW.trod_struct Tryd.underlying66 h
    rw [k78] at hl
    simp at hxl
    match cs, hl with
    | [c0, c1, c2, c3, c4, c5, c6], _ =>
    match xs, hxl with
    | [x0, x1, x2, x3, x4, x5, x6], _ =>
    have f0 := hf 0 _ rfl
    have f1 := hf 1 _ rfl
    have f2 := hf 2 _ rfl
    have f3 := hf 3 _ rfl
    have f4 := hf 4 _ rfl
    have f5 := hf 5 _ rfl
    have f6 := hf 6 _ rfl
    simp [k72, k3, k74, k50] at f0 f1 f2 f3 f4 f5 f6
    have s4 : Small 64 x4.1 := fun m hm => hs m (by simp [DataW.weights, Tryd.underlying66, DataW.weightsEach, hm])
    have s5 : Small 38 x5.1 := fun m hm => hs m (by simp [DataW.weights, Tryd.underlying66, DataW.weightsEach, hm])
    have s6 : Small 38 x6.1 := fun m hm => hs m (by simp [DataW.weights, Tryd.underlying66, DataW.weightsEach, hm])
    obtain ⟨z0, e0, -, w0⟩ := DataW.trod_int Tryd.underlying63 f0
    obtain ⟨z1, e1, -, w1⟩ := DataW.trod_int Tryd.underlying3 f1
    obtain ⟨z2, e2, -, w2⟩ := DataW.trod_int Tryd.underlying3 f2
    obtain ⟨z3, e3, -, w3⟩ := DataW.trod_int Tryd.underlying3 f3
    obtain ⟨sa, na, ca, la, e4, hA⟩ := rs_of_trod (R := ExM W.heap.size W 8) Tryd.underlying64 k76 (by omega) y76 (by omega) (ex_of_trod 8) f4 s4
    obtain ⟨sb, nb, cb, lb, e5, hB⟩ := rs_of_trod (R := StM W.heap.size W d) Tryd.underlying38 k78 (by omega) y78 (by omega) ih f5 s5
    obtain ⟨sc, nc, cc, lc, e6, hC⟩ := rs_of_trod (R := StM W.heap.size W d) Tryd.underlying38 k78 (by omega) y78 (by omega) ih f6 s6
    cases e0; cases e1; cases e2; cases e3; cases e4; cases e5; cases e6
    exact ⟨(⟨z0, z1, z2, z3, la, lb, lc⟩ : StN (StT d)), sa, na, ca, sb, nb, cb, sc, nc, cc, rfl, ⟨u8I w0, i64I w1, i64I w2, i64I w3⟩, hA, hB, hC⟩
theorem fu_of_trod (fuel : Nat) (cs : List Value) (x : DataW H × List MemPlace) (h : DataW.trod enc Tryd.prog W base (fun _ => true) true fuel 40 cs = some x) (hs : Small 40 x.1) : ∃ f : FuT, FuM W.heap.size W cs f := by
  obtain ⟨xs, n, rfl, rfl, hl, hxl, hf⟩ := DataW.trod_struct Tryd.underlying40 h
  rw [k52] at hl
  simp at hxl
  match cs, hl with
  | [c0, c1, c2], _ =>
  match xs, hxl with
  | [x0, x1, x2], _ =>
  have f0 := hf 0 _ rfl
  have f1 := hf 1 _ rfl
  have f2 := hf 2 _ rfl
  simp [k3, k50] at f0 f1 f2
  have s2 : Small 38 x2.1 := fun m hm => hs m (by simp [DataW.weights, Tryd.underlying40, DataW.weightsEach, hm])
  obtain ⟨z0, e0, -, w0⟩ := DataW.trod_int Tryd.underlying3 f0
  obtain ⟨z1, e1, -, w1⟩ := DataW.trod_int Tryd.underlying3 f1
  obtain ⟨sb, nb, cb, lb, e2, hB⟩ := rs_of_trod (R := StM W.heap.size W 8) Tryd.underlying38 k78 (by omega) y78 (by omega) (st_of_trod 8) f2 s2
  cases e0; cases e1; cases e2
  exact ⟨⟨z0, z1, lb⟩, sb, nb, cb, rfl, ⟨i64I w0, i64I w1⟩, hB⟩
theorem pg_of_trod (fuel : Nat) (cs : List Value) (x : DataW H × List MemPlace) (h : DataW.trod enc Tryd.prog W base (fun _ => true) true fuel 24 cs = some x) (hs : Small 24 x.1) : ∃ (p : PgT) (sp : Option Addr) (m cap : Nat), cs = [.slice sp m cap, .int .i64 p.da] ∧ PgM W.heap.size W cs p := by
  obtain ⟨xs, n, rfl, rfl, hl, hxl, hf⟩ := DataW.trod_struct Tryd.underlying24 h
  rw [k24] at hl
  simp at hxl
  match cs, hl with
  | [c0, c1], _ =>
  match xs, hxl with
  | [x0, x1], _ =>
  have f0 := hf 0 _ rfl
  have f1 := hf 1 _ rfl
  simp [k3, k45f] at f0 f1
  have s0 : Small 22 x0.1 := fun m hm => hs m (by simp [DataW.weights, Tryd.underlying24, DataW.weightsEach, hm])
  obtain ⟨z1, e1, -, w1⟩ := DataW.trod_int Tryd.underlying3 f1
  obtain ⟨sb, nb, cb, lb, e0, hB⟩ := rs_of_trod (R := FuM W.heap.size W) Tryd.underlying22 k52 (by omega) y52 (by omega) fu_of_trod f0 s0
  cases e0; cases e1
  exact ⟨⟨lb, z1⟩, sb, nb, cb, rfl, sb, nb, cb, rfl, i64I w1, hB⟩
/-- A PROGRAM THAT CAME IN. -/
theorem open_prog {b0 : Nat} {v : Value} {d : DataW H} {p : List MemPlace} {ts : List TypeId} {ds : List (DataW H)} {j : Nat}
    (hv : Value.okWide Tryd.prog W .any b0 24 v) (h : DataW.Trod enc Tryd.prog W base (fun _ => true) true 24 v d p)
    (hsz : (DataW.weightsEach Tryd.prog ts ds).all (· ≤ reachBytes) = true) (ht : ts[j]? = some 24) (hd : ds[j]? = some d) :
    ∃ (q : PgT) (sp : Option Addr) (m cap : Nat), v = .agg #[.slice sp m cap, .int .i64 q.da] ∧ PgM W.heap.size W [.slice sp m cap, .int .i64 q.da] q := by
  obtain ⟨C, rfl, -⟩ := WideShapes.okWide_struct Tryd.underlying24 hv
  obtain ⟨fuel, hf⟩ := h
  have hs : Small 24 d := fun n hn => by
    have := List.all_eq_true.1 hsz n (DataW.weights_mem_each ht hd n hn)
    simpa using this
  obtain ⟨q, sp, m, cap, e, hM⟩ := pg_of_trod fuel _ (d, p) hf hs
  simp only [Value.cells] at e hM
  refine ⟨q, sp, m, cap, ?_, by rw [← e]; exact hM⟩
  congr 1
  have := congrArg List.toArray e
  simpa using this
end
end Go.Proofs.YtoopgppahfnncaaDoor
/- Layer ir: the witness of the laws: the library's tables, laid. -/
namespace Go.Proofs.YtoopgppahfnncaaDoor
open Go.Shelf Go.RowKit
set_option maxRecDepth 100000
set_option linter.unusedVariables false
set_option linter.unusedSimpArgs false


theorem ownI : ownKnob Tryd.prog.godebug = none := by kernel_rfl
theorem laidI : laidOutB Tryd.prog = true := by kernel_rfl
theorem g0T : Tryd.prog.globalNamed "math/bits.deBruijn32tab" = some 2 := by kernel_rfl
theorem g1T : Tryd.prog.globalNamed "math/bits.deBruijn64tab" = some 3 := by kernel_rfl
theorem g2T : Tryd.prog.globalNamed "internal/strconv.uint64pow10" = some 1 := by kernel_rfl
def lay (C : Array Value) : Obj → Obj
  | .cells _ t frozen => .cells C t frozen
  | o => o
theorem laid_met (os : Os) (args : Array Value) : laidMet Tryd.prog Rows.irMaysRow.laid (({ World.holding Tryd.prog os ⟨#[], #[], []⟩ with heap := ((((World.holding Tryd.prog os ⟨#[], #[], []⟩).heap.modify 2 (lay (([0, 1, 28, 2, 29, 14, 24, 3, 30, 22, 20, 15, 25, 17, 4, 8, 31, 27, 13, 23, 21, 19, 16, 7, 26, 12, 18, 6, 11, 5, 10, 9] : List Int).map fun z => Value.int .u8 z).toArray)).modify 3 (lay (([0, 1, 56, 2, 57, 49, 28, 3, 61, 58, 42, 50, 38, 29, 17, 4, 62, 47, 59, 36, 45, 43, 51, 22, 53, 39, 33, 30, 24, 18, 12, 5, 63, 55, 48, 27, 60, 41, 37, 16, 46, 35, 44, 21, 52, 32, 23, 11, 54, 26, 40, 15, 34, 20, 31, 10, 25, 14, 19, 9, 13, 8, 7, 6] : List Int).map fun z => Value.int .u8 z).toArray)).modify 1 (lay (([1, 10, 100, 1000, 10000, 100000, 1000000, 10000000, 100000000, 1000000000, 10000000000, 100000000000, 1000000000000, 10000000000000, 100000000000000, 1000000000000000, 10000000000000000, 100000000000000000, 1000000000000000000, 10000000000000000000] : List Int).map fun z => Value.int .u64 z).toArray)) }).forCall (fun _ _ => 0) ⟨#[], args, []⟩).memory :=
  laidMet_of_run' 100 (by kernel_rfl) (by kernel_rfl)
theorem laid_metH (os : Os) (args : Array Value) : laidMetH Tryd.prog Rows.irMaysRow.laid (({ World.holding Tryd.prog os ⟨#[], #[], []⟩ with heap := ((((World.holding Tryd.prog os ⟨#[], #[], []⟩).heap.modify 2 (lay (([0, 1, 28, 2, 29, 14, 24, 3, 30, 22, 20, 15, 25, 17, 4, 8, 31, 27, 13, 23, 21, 19, 16, 7, 26, 12, 18, 6, 11, 5, 10, 9] : List Int).map fun z => Value.int .u8 z).toArray)).modify 3 (lay (([0, 1, 56, 2, 57, 49, 28, 3, 61, 58, 42, 50, 38, 29, 17, 4, 62, 47, 59, 36, 45, 43, 51, 22, 53, 39, 33, 30, 24, 18, 12, 5, 63, 55, 48, 27, 60, 41, 37, 16, 46, 35, 44, 21, 52, 32, 23, 11, 54, 26, 40, 15, 34, 20, 31, 10, 25, 14, 19, 9, 13, 8, 7, 6] : List Int).map fun z => Value.int .u8 z).toArray)).modify 1 (lay (([1, 10, 100, 1000, 10000, 100000, 1000000, 10000000, 100000000, 1000000000, 10000000000, 100000000000, 1000000000000, 10000000000000, 100000000000000, 1000000000000000, 10000000000000000, 100000000000000000, 1000000000000000000, 10000000000000000000] : List Int).map fun z => Value.int .u64 z).toArray)) }).forCall (fun _ _ => 0) ⟨#[], args, []⟩).memory := by
  rw [MakeChecks.laidMetH_plain _ _ _ (by kernel_rfl)]; exact laid_met os args
theorem tb_of {W : World} (h : laidMetH Tryd.prog Rows.irMaysRow.laid W) : Tb W := by
  have h2 := h.filter (fun x => x.1 == "internal/strconv.uint64pow10")
  rw [MakeChecks.laidMetH_plain _ _ _ (by kernel_rfl)] at h2
  have h3 : laidMet Tryd.prog [("internal/strconv.uint64pow10", Lib.tabData .u64 Lib.pow10Tab)] W := h2
  exact Lib.tabIs_of_head g2T (t := 111) (n := 20) (e := 77) (by kernel_rfl) Tryd.underlying111 Tryd.underlying77 (by kernel_rfl) (by kernel_rfl) h3
end Go.Proofs.YtoopgppahfnncaaDoor
/- Layer ir: the document's sign. -/
namespace Go.Proofs.YtoopgppahfnncaaDoor
open Go.Shelf Go.RowKit Go.Sort
set_option maxRecDepth 100000
set_option linter.unusedVariables false
set_option linter.unusedSimpArgs false


set_option maxHeartbeats 2000000 in
theorem sign61_any (o : Int) (w : World) (h : 5 ≤ o ∧ o ≤ 16) : Calls Tryd.prog 61 #[.int .u8 o] w (TxP (sgn o) w) := by
  have ho : o = 5 ∨ o = 6 ∨ o = 7 ∨ o = 8 ∨ o = 9 ∨ o = 10 ∨ o = 11 ∨ o = 12 ∨ o = 13 ∨ o = 14 ∨ o = 15 ∨ o = 16 := by omega
  clear h
  rcases ho with rfl | rfl | rfl | rfl | rfl | rfl | rfl | rfl | rfl | rfl | rfl | rfl
  · have hix : ∀ W, (Instr.index 117 (.agg #[.string ⟨#[43]⟩, .string ⟨#[45]⟩, .string ⟨#[42]⟩, .string ⟨#[47]⟩, .string ⟨#[37]⟩, .string ⟨#[38]⟩, .string ⟨#[33]⟩, .string ⟨#[94]⟩, .string ⟨#[60, 60]⟩, .string ⟨#[62, 62]⟩, .string ⟨#[60]⟩, .string ⟨#[61, 61]⟩]) (.int .u8 0)).run Tryd.prog W = .ok (.string ⟨#[43]⟩) W := fun W => by
      unfold Instr.index
      simp [run_underlying Tryd.underlying117, Tryd.sizeOf9, asIntOf, Tryd.isAgg9, part]
    go_enter Tryd.func61, Tryd.ntmps61
    go_wp2_with fail
    go_ret
    exact ⟨rfl, Below.refl _ _⟩
  · have hix : ∀ W, (Instr.index 117 (.agg #[.string ⟨#[43]⟩, .string ⟨#[45]⟩, .string ⟨#[42]⟩, .string ⟨#[47]⟩, .string ⟨#[37]⟩, .string ⟨#[38]⟩, .string ⟨#[33]⟩, .string ⟨#[94]⟩, .string ⟨#[60, 60]⟩, .string ⟨#[62, 62]⟩, .string ⟨#[60]⟩, .string ⟨#[61, 61]⟩]) (.int .u8 1)).run Tryd.prog W = .ok (.string ⟨#[45]⟩) W := fun W => by
      unfold Instr.index
      simp [run_underlying Tryd.underlying117, Tryd.sizeOf9, asIntOf, Tryd.isAgg9, part]
    go_enter Tryd.func61, Tryd.ntmps61
    go_wp2_with fail
    go_ret
    exact ⟨rfl, Below.refl _ _⟩
  · have hix : ∀ W, (Instr.index 117 (.agg #[.string ⟨#[43]⟩, .string ⟨#[45]⟩, .string ⟨#[42]⟩, .string ⟨#[47]⟩, .string ⟨#[37]⟩, .string ⟨#[38]⟩, .string ⟨#[33]⟩, .string ⟨#[94]⟩, .string ⟨#[60, 60]⟩, .string ⟨#[62, 62]⟩, .string ⟨#[60]⟩, .string ⟨#[61, 61]⟩]) (.int .u8 2)).run Tryd.prog W = .ok (.string ⟨#[42]⟩) W := fun W => by
      unfold Instr.index
      simp [run_underlying Tryd.underlying117, Tryd.sizeOf9, asIntOf, Tryd.isAgg9, part]
    go_enter Tryd.func61, Tryd.ntmps61
    go_wp2_with fail
    go_ret
    exact ⟨rfl, Below.refl _ _⟩
  · have hix : ∀ W, (Instr.index 117 (.agg #[.string ⟨#[43]⟩, .string ⟨#[45]⟩, .string ⟨#[42]⟩, .string ⟨#[47]⟩, .string ⟨#[37]⟩, .string ⟨#[38]⟩, .string ⟨#[33]⟩, .string ⟨#[94]⟩, .string ⟨#[60, 60]⟩, .string ⟨#[62, 62]⟩, .string ⟨#[60]⟩, .string ⟨#[61, 61]⟩]) (.int .u8 3)).run Tryd.prog W = .ok (.string ⟨#[47]⟩) W := fun W => by
      unfold Instr.index
      simp [run_underlying Tryd.underlying117, Tryd.sizeOf9, asIntOf, Tryd.isAgg9, part]
    go_enter Tryd.func61, Tryd.ntmps61
    go_wp2_with fail
    go_ret
    exact ⟨rfl, Below.refl _ _⟩
  · have hix : ∀ W, (Instr.index 117 (.agg #[.string ⟨#[43]⟩, .string ⟨#[45]⟩, .string ⟨#[42]⟩, .string ⟨#[47]⟩, .string ⟨#[37]⟩, .string ⟨#[38]⟩, .string ⟨#[33]⟩, .string ⟨#[94]⟩, .string ⟨#[60, 60]⟩, .string ⟨#[62, 62]⟩, .string ⟨#[60]⟩, .string ⟨#[61, 61]⟩]) (.int .u8 4)).run Tryd.prog W = .ok (.string ⟨#[37]⟩) W := fun W => by
      unfold Instr.index
      simp [run_underlying Tryd.underlying117, Tryd.sizeOf9, asIntOf, Tryd.isAgg9, part]
    go_enter Tryd.func61, Tryd.ntmps61
    go_wp2_with fail
    go_ret
    exact ⟨rfl, Below.refl _ _⟩
  · have hix : ∀ W, (Instr.index 117 (.agg #[.string ⟨#[43]⟩, .string ⟨#[45]⟩, .string ⟨#[42]⟩, .string ⟨#[47]⟩, .string ⟨#[37]⟩, .string ⟨#[38]⟩, .string ⟨#[33]⟩, .string ⟨#[94]⟩, .string ⟨#[60, 60]⟩, .string ⟨#[62, 62]⟩, .string ⟨#[60]⟩, .string ⟨#[61, 61]⟩]) (.int .u8 5)).run Tryd.prog W = .ok (.string ⟨#[38]⟩) W := fun W => by
      unfold Instr.index
      simp [run_underlying Tryd.underlying117, Tryd.sizeOf9, asIntOf, Tryd.isAgg9, part]
    go_enter Tryd.func61, Tryd.ntmps61
    go_wp2_with fail
    go_ret
    exact ⟨rfl, Below.refl _ _⟩
  · have hix : ∀ W, (Instr.index 117 (.agg #[.string ⟨#[43]⟩, .string ⟨#[45]⟩, .string ⟨#[42]⟩, .string ⟨#[47]⟩, .string ⟨#[37]⟩, .string ⟨#[38]⟩, .string ⟨#[33]⟩, .string ⟨#[94]⟩, .string ⟨#[60, 60]⟩, .string ⟨#[62, 62]⟩, .string ⟨#[60]⟩, .string ⟨#[61, 61]⟩]) (.int .u8 6)).run Tryd.prog W = .ok (.string ⟨#[33]⟩) W := fun W => by
      unfold Instr.index
      simp [run_underlying Tryd.underlying117, Tryd.sizeOf9, asIntOf, Tryd.isAgg9, part]
    go_enter Tryd.func61, Tryd.ntmps61
    go_wp2_with fail
    go_ret
    exact ⟨rfl, Below.refl _ _⟩
  · have hix : ∀ W, (Instr.index 117 (.agg #[.string ⟨#[43]⟩, .string ⟨#[45]⟩, .string ⟨#[42]⟩, .string ⟨#[47]⟩, .string ⟨#[37]⟩, .string ⟨#[38]⟩, .string ⟨#[33]⟩, .string ⟨#[94]⟩, .string ⟨#[60, 60]⟩, .string ⟨#[62, 62]⟩, .string ⟨#[60]⟩, .string ⟨#[61, 61]⟩]) (.int .u8 7)).run Tryd.prog W = .ok (.string ⟨#[94]⟩) W := fun W => by
      unfold Instr.index
      simp [run_underlying Tryd.underlying117, Tryd.sizeOf9, asIntOf, Tryd.isAgg9, part]
    go_enter Tryd.func61, Tryd.ntmps61
    go_wp2_with fail
    go_ret
    exact ⟨rfl, Below.refl _ _⟩
  · have hix : ∀ W, (Instr.index 117 (.agg #[.string ⟨#[43]⟩, .string ⟨#[45]⟩, .string ⟨#[42]⟩, .string ⟨#[47]⟩, .string ⟨#[37]⟩, .string ⟨#[38]⟩, .string ⟨#[33]⟩, .string ⟨#[94]⟩, .string ⟨#[60, 60]⟩, .string ⟨#[62, 62]⟩, .string ⟨#[60]⟩, .string ⟨#[61, 61]⟩]) (.int .u8 8)).run Tryd.prog W = .ok (.string ⟨#[60, 60]⟩) W := fun W => by
      unfold Instr.index
      simp [run_underlying Tryd.underlying117, Tryd.sizeOf9, asIntOf, Tryd.isAgg9, part]
    go_enter Tryd.func61, Tryd.ntmps61
    go_wp2_with fail
    go_ret
    exact ⟨rfl, Below.refl _ _⟩
  · have hix : ∀ W, (Instr.index 117 (.agg #[.string ⟨#[43]⟩, .string ⟨#[45]⟩, .string ⟨#[42]⟩, .string ⟨#[47]⟩, .string ⟨#[37]⟩, .string ⟨#[38]⟩, .string ⟨#[33]⟩, .string ⟨#[94]⟩, .string ⟨#[60, 60]⟩, .string ⟨#[62, 62]⟩, .string ⟨#[60]⟩, .string ⟨#[61, 61]⟩]) (.int .u8 9)).run Tryd.prog W = .ok (.string ⟨#[62, 62]⟩) W := fun W => by
      unfold Instr.index
      simp [run_underlying Tryd.underlying117, Tryd.sizeOf9, asIntOf, Tryd.isAgg9, part]
    go_enter Tryd.func61, Tryd.ntmps61
    go_wp2_with fail
    go_ret
    exact ⟨rfl, Below.refl _ _⟩
  · have hix : ∀ W, (Instr.index 117 (.agg #[.string ⟨#[43]⟩, .string ⟨#[45]⟩, .string ⟨#[42]⟩, .string ⟨#[47]⟩, .string ⟨#[37]⟩, .string ⟨#[38]⟩, .string ⟨#[33]⟩, .string ⟨#[94]⟩, .string ⟨#[60, 60]⟩, .string ⟨#[62, 62]⟩, .string ⟨#[60]⟩, .string ⟨#[61, 61]⟩]) (.int .u8 10)).run Tryd.prog W = .ok (.string ⟨#[60]⟩) W := fun W => by
      unfold Instr.index
      simp [run_underlying Tryd.underlying117, Tryd.sizeOf9, asIntOf, Tryd.isAgg9, part]
    go_enter Tryd.func61, Tryd.ntmps61
    go_wp2_with fail
    go_ret
    exact ⟨rfl, Below.refl _ _⟩
  · have hix : ∀ W, (Instr.index 117 (.agg #[.string ⟨#[43]⟩, .string ⟨#[45]⟩, .string ⟨#[42]⟩, .string ⟨#[47]⟩, .string ⟨#[37]⟩, .string ⟨#[38]⟩, .string ⟨#[33]⟩, .string ⟨#[94]⟩, .string ⟨#[60, 60]⟩, .string ⟨#[62, 62]⟩, .string ⟨#[60]⟩, .string ⟨#[61, 61]⟩]) (.int .u8 11)).run Tryd.prog W = .ok (.string ⟨#[61, 61]⟩) W := fun W => by
      unfold Instr.index
      simp [run_underlying Tryd.underlying117, Tryd.sizeOf9, asIntOf, Tryd.isAgg9, part]
    go_enter Tryd.func61, Tryd.ntmps61
    go_wp2_with fail
    go_ret
    exact ⟨rfl, Below.refl _ _⟩

end Go.Proofs.YtoopgppahfnncaaDoor
/- Layer ir: the text of an expression (pure). -/
namespace Go.Proofs.YtoopgppahfnncaaDoor
open Go.Shelf Go.RowKit Go.Sort
set_option maxRecDepth 100000
set_option linter.unusedVariables false
set_option linter.unusedSimpArgs false


/-- An expression's text. -/
def xTn {α : Type} (X : α → List UInt8) (t : ExN α) : List UInt8 :=
  if t.k = 1 then Lib.decDigits t.n.toNat
  else if t.k = 2 then 118 :: Lib.itoa t.v
  else if t.k = 3 then (match t.l with
    | a :: b :: _ => [40, 32] ++ X a ++ [32] ++ sgn t.o ++ [32] ++ X b ++ [32, 41]
    | _ => [])
  else (match t.l with
    | a :: _ => [91, 32] ++ X a ++ [32, 93]
    | [] => [])
def xT : (d : Nat) → ExT d → List UInt8
  | 0, _ => []
  | d + 1, t => xTn (xT d) t.nd
theorem fld_mem {α : Type} {f : α → Nat → Option Nat} : ∀ (l : List α) (n m : Nat), fld f l n = some m → ∀ a ∈ l, ∃ n' m', f a n' = some m'
  | [], _, _, _, a, ha => by cases ha
  | b :: r, n, m, h, a, ha => by
    unfold fld at h
    cases hb : f b n with
    | none => rw [hb] at h; cases h
    | some k =>
      rw [hb] at h
      rcases List.mem_cons.1 ha with rfl | ha
      · exact ⟨n, k, hb⟩
      · exact fld_mem r k m h a ha
/-- An expression that may be, with all its parts. -/
def okT (vs : Int) : (d : Nat) → ExT d → Prop
  | 0, _ => False
  | d + 1, t => mayE vs t.nd = true ∧ t.nd.ok ∧ ∀ a ∈ t.nd.l, okT vs d a
theorem okT_of {vs : Int} {N : Nat} {w : World} : ∀ (d : Nat) (t : ExT d) (n m : Nat) (cs : List Value), exN vs d t n = some m → ExM N w d cs t → okT vs d t
  | 0, _, _, _, _, h, _ => by cases h
  | d + 1, t, n, m, cs, h, hM => by
    obtain ⟨sp, k, cap, -, hok, hR⟩ := hM
    unfold exN at h
    split at h
    · cases h
    next hc =>
      refine ⟨?_, hok, fun a ha => ?_⟩
      · cases hm : mayE vs t.nd with
        | true => rfl
        | false => exact absurd (.inr hm) hc
      · obtain ⟨n', m', h'⟩ := fld_mem _ _ _ h a ha
        obtain ⟨i, hi⟩ := List.getElem?_of_mem ha
        have hlt : i < t.nd.l.length := (List.getElem?_eq_some_iff.1 hi).1
        obtain ⟨g, off, -, -, hB⟩ := hR.at0 (by have := hR.len.out; omega)
        obtain ⟨cs', -, hM'⟩ := hB i a hi
        exact okT_of d a n' m' cs' h' hM'
theorem xT_len (vs : Int) : ∀ (d : Nat) (t : ExT d), okT vs d t → (xT d t).length + 32 ≤ 64 * 2 ^ d
  | 0, _, h => by cases h
  | d + 1, t, h => by
    obtain ⟨hm, hok, hl⟩ := h
    have hp : 2 ^ (d + 1) = 2 * 2 ^ d := by rw [Nat.pow_succ]; omega
    have h1 : 1 ≤ 2 ^ d := Nat.one_le_two_pow
    have key : ∀ a ∈ t.nd.l, (xT d a).length + 32 ≤ 64 * 2 ^ d := fun a ha => xT_len vs d a (hl a ha)
    have hn := hok.n
    unfold U64 at hn
    have h20 := nd20 t.nd.n.toNat (by omega)
    have hio := itoa_len t.nd.v hok.v
    have hsg := sgn_len t.nd.o
    show (xTn (xT d) t.nd).length + 32 ≤ _
    unfold xTn
    split
    · omega
    · split
      · simp only [List.length_cons]; omega
      · split
        · split
          next a b r hl2 =>
            have ka := key a (by rw [hl2]; simp)
            have kb := key b (by rw [hl2]; simp)
            simp only [List.length_append, List.length_cons, List.length_nil]
            omega
          · simp; omega
        · split
          next a r hl2 =>
            have ka := key a (by rw [hl2]; simp)
            simp only [List.length_append, List.length_cons, List.length_nil]
            omega
          · simp; omega
end Go.Proofs.YtoopgppahfnncaaDoor

/- Id, If0, Iw0. -/
import Derived.Test.YtimmiidkjpbffaaX01
import Derived.Test.YtimmiidkjpbffaaX02
import Derived.Test.YtimmiidkjpbffaaX03
import Derived.Test.YtimmiidkjpbffaaX09
import Derived.BigQuiet
import Derived.BigRegion
import Derived.ChangeKeysEq
import Derived.Deep.DeepCutAuto
import Derived.Deep.DrawnRows
import Derived.Deep.MidRow
import Derived.Deep.QuietTactic
import Derived.Deep.RegionHeld3
import Derived.Deep.RegionLaw
import Derived.Deep.RegionWith
import Derived.Deep.WholeRow
import Derived.DeepKeys3
import Derived.Great.BuildSlice
import Derived.Handy
import Derived.Laws.AppendOwnNone
import Derived.Laws.BitsLemmas
import Derived.Laws.BytesArg
import Derived.Laws.CopyOwn
import Derived.Laws.ResultCell
import Derived.Laws.Tables
import Derived.Lib.SlBytesConst
import Derived.LoopIn
import Derived.LoopNIn
import Derived.LoopTactic
import Derived.Maps.AppendAt
import Derived.OwnWalkIn
import Derived.RangeFuncBound
import Derived.RangeFuncCalls
import Derived.RangeFuncLeaves
import Derived.RangeFuncNested
import Derived.RangeFuncRecord
import Derived.Shelf.Abstract
import Derived.Shelf.RegionOpen
import Derived.SizedLaws
import Derived.TacticsInMore
import Derived.WalkKit
import Derived.WalkLawsBesides
import Derived.WalkSpells
import Derived.Test.YtimmiidkjpbffaaX08
import Derived.Laws.AppendOwn
import Derived.Laws.MakeOwn
import Derived.OwnWalk
/- Layer compile: what the layers below give. -/
namespace Go.Proofs.Ytimmiidkjpbffaa
open Go.RowKit
set_option maxRecDepth 100000
set_option linter.unusedVariables false
set_option linter.unusedSimpArgs false

theorem ExM.cells {N : Nat} {w : World} : ∀ {d : Nat} {cs : List Value} {t : ExT d}, ExM N w d cs t → ∃ k n v o sp m cap, cs = exC k n v o (.slice sp m cap)
  | 0, _, _, h => h
  | _ + 1, _, _, h => let ⟨sp, m, cap, h1, _, _⟩ := h; ⟨_, _, _, _, sp, m, cap, h1⟩
theorem fld_drop {α : Type} {f : α → Nat → Option Nat} {l : List α} {j : Nat} {a : α} (h : l[j]? = some a) (k : Nat) : fld f (l.drop j) k = (f a k).bind (fld f (l.drop (j + 1))) := by
  obtain ⟨hj, rfl⟩ := List.getElem?_eq_some_iff.1 h
  rw [List.drop_eq_getElem_cons hj]
  rfl
set_option maxHeartbeats 1000000 in
theorem cnt73 {N d : Nat} {vs : Int} {sp : Option Addr} {n cap : Nat} {l : List (ExT d)} (w : World) (hS : RS N w 5 (ExM N w d) sp n cap l) (hN : N ≤ w.heap.size) (gs gl left : Nat) (hl : left ≤ 4096)
    (hc : ∀ (u : World) (cs : List Value) (t : ExT d) (k : Nat), k ≤ 4096 → Below w.heap.size w u → ExM N u d cs t → Calls Try.prog 102 #[.agg cs.toArray, .int .i64 (k : Int), .pointer (some ⟨gs, 0, none⟩), .pointer (some ⟨gl, 0, none⟩)] u (CtP (exN vs d t k) u)) :
    Calls Try.prog 101 #[.slice sp n cap, .int .i64 (left : Int), .func (Fn.func 102) #[] #[.pointer (some ⟨gs, 0, none⟩), .pointer (some ⟨gl, 0, none⟩)]] w (CtP (fld (exN vs d) l left) w) := by
  have hlen := hS.len
  have hsm := hS.small
  obtain ⟨r, hr⟩ : ∃ r, r = fld (exN vs d) l left := ⟨_, rfl⟩
  rw [← hr]
  replace hr := hid hr
  go_enter Try.func101, Try.ntmps101
  go_upto_region 2 with fail
  go_loopw [1, 14] (fun a i wr => ∃ (j k : Nat), a = .int .i64 (k : Int) ∧ i = .int .i64 (j : Int) ∧ j ≤ n ∧ k ≤ 4096 ∧ Hid (r = fld (exN vs d) (l.drop j) k) ∧ Below w.heap.size w wr)
    (fun _ i _ => n - (intOf i).toNat)
  case atStart => exact ⟨0, left, rfl, rfl, by omega, hl, hid (by rw [List.drop_zero]; exact hr.out), Below.refl _ _⟩
  case round =>
    obtain ⟨j, k, rfl, rfl, hj, hk, hf, hb⟩ := hrel
    by_cases hlt : j < n
    · obtain ⟨t, ht⟩ : ∃ t, l[j]? = some t := ⟨l[j]'(by rw [← hlen.out]; exact hlt), List.getElem?_eq_getElem _⟩
      obtain ⟨g, off, rfl, hg, hR⟩ := hS.at0 (by omega)
      obtain ⟨cs, hrg, hM⟩ := hR j t ht
      have hrg2 := rb hrg hb (by omega)
      have hM2 := ExM.below (hb.mono hN) d cs t hM
      obtain ⟨ek, en, ev, eo, es, em, ec, rfl⟩ := hM.cells
      have c0 := hrg2 0 _ rfl
      have c1 := hrg2 1 _ rfl
      have c2 := hrg2 2 _ rfl
      have c3 := hrg2 3 _ rfl
      have c4 := hrg2 4 _ rfl
      simp only [Nat.add_zero] at c0
      have hfd := fld_drop (f := exN vs d) ht k
      have hgl := block_lt_of_cell c0
      have hlt' : (j : Int) < n := by omega
      have h0 : (0 : Int) ≤ j := by omega
      have hB1 := hb.alloc hb.size (.cells (exC ek en ev eo (.slice es em ec)).toArray 92)
      have hcc := hc (wr.alloc (.cells (exC ek en ev eo (.slice es em ec)).toArray 92)) _ t k hk hB1 (ExM.below (((ab wr _).mono (by have := hb.size; omega))) d _ t hM2)
      clear hS hR hrg hrg2 hM hM2 hc hlen ht
      unfold CtP at hcc
      cases hx : exN vs d t k with
      | none =>
        rw [hx] at hcc hfd
        have hrn : Hid (r = none) := hid (hf.out.trans hfd)
        clear hx hfd hf
        unfold exC at *
        go_wp2_with (go_at_call 102; go_must (refine hcc.mono ?_; rintro e w1 ⟨rfl, hb1⟩))
        go_ret2
        rw [hrn.out]
        exact ⟨rfl, hB1.trans (hb1.mono hB1.size)⟩
      | some k' =>
        have hk' := exN_le d t k k' hx
        rw [hx] at hcc hfd
        have hrn : Hid (r = fld (exN vs d) (l.drop (j + 1)) k') := hid (hf.out.trans hfd)
        clear hx hfd hf
        unfold exC at *
        go_wp2_with (go_at_call 102; go_must (refine hcc.mono ?_; rintro e w1 ⟨rfl, hb1⟩))
        go_roundw
        case rel => exact ⟨j + 1, k', rfl, by go_num, by omega, by omega, hrn, hB1.trans (hb1.mono hB1.size)⟩
        case measure => simp [intOf]; omega
    · obtain rfl : j = n := by omega
      have hrn : Hid (r = some k) := hid (by rw [hf.out, hlen.out, List.drop_length]; rfl)
      clear hS hc hf hlen
      go_wp2_with fail
      go_ret2
      rw [hrn.out]
      exact ⟨rfl, hb⟩
/-- What is to be said of one expression. -/
def ExAt (N : Nat) (es : Option Addr) (en ec : Nat) (vs : Int) (d : Nat) : Prop := ∀ (u : World) (cs : List Value) (t : ExT d) (k : Nat), k ≤ 4096 → N ≤ u.heap.size → ExM N u d cs t →
  Calls Try.prog 103 #[.agg #[.slice es en ec, .int .i64 vs], .agg cs.toArray, .int .i64 (d : Int), .int .i64 (k : Int)] u (CtP (exN vs d t k) u)
theorem cl74 {N d : Nat} {es : Option Addr} {en ec : Nat} {vs : Int} (hE : ExAt N es en ec vs d) (u : World) (gs gl : Nat) (As : Arr u gs 114 #[.slice es en ec, .int .i64 vs]) (Al : Arr u gl 3 #[.int .i64 (d : Int)]) (hN : N ≤ u.heap.size) (cs : List Value) (t : ExT d) (k : Nat) (hk : k ≤ 4096) (hM : ExM N u d cs t) :
    Calls Try.prog 102 #[.agg cs.toArray, .int .i64 (k : Int), .pointer (some ⟨gs, 0, none⟩), .pointer (some ⟨gl, 0, none⟩)] u (CtP (exN vs d t k) u) := by
  obtain ⟨ek, en', ev, eo, es', em, ec', rfl⟩ := hM.cells
  have hc := hE (u.alloc (.cells (exC ek en' ev eo (.slice es' em ec')).toArray 92)) _ t k hk (by simp; omega) (ExM.below ((ab u _).mono hN) d _ t hM)
  have s0 := (As.alloc (.cells (exC ek en' ev eo (.slice es' em ec')).toArray 92)).cell 0
  have s1 := (As.alloc (.cells (exC ek en' ev eo (.slice es' em ec')).toArray 92)).cell 1
  have l0 := (Al.alloc (.cells (exC ek en' ev eo (.slice es' em ec')).toArray 92)).cell 0
  have b0 := ab u (.cells (exC ek en' ev eo (.slice es' em ec')).toArray 92)
  unfold CtP at hc
  generalize exN vs d t k = r at *
  clear hE hM As Al
  unfold exC at *
  go_enter Try.func102, Try.ntmps102
  go_wp2_with (go_at_call 103; go_must (refine hc.mono ?_; rintro e w1 ⟨rfl, hb1⟩))
  go_ret2
  exact ⟨rfl, b0.trans (hb1.mono b0.size)⟩
theorem exprs58 {N d : Nat} {es : Option Addr} {en ec : Nat} {vs : Int} (hE : ExAt N es en ec vs d) (w : World) {sp : Option Addr} {n cap : Nat} {l : List (ExT d)} (hS : RS N w 5 (ExM N w d) sp n cap l) (hN : N ≤ w.heap.size) (x y : Int) (left : Nat) (hx : x = d) (hy : y = left) (hl : left ≤ 4096) :
    Calls Try.prog 96 #[.agg #[.slice es en ec, .int .i64 vs], .slice sp n cap, .int .i64 x, .int .i64 y] w (CtP (fld (exN vs d) l left) w) := by
  subst hx hy
  have b0 : Below w.heap.size w ((w.alloc (.cells #[.slice es en ec, .int .i64 vs] 114)).alloc (.cells #[.int .i64 (d : Int)] 3)) := (ab w _).alloc (by simp) _
  have A := (Arr.new w 114 #[.slice es en ec, .int .i64 vs]).alloc (.cells #[.int .i64 (d : Int)] 3)
  have A2 := Arr.new (w.alloc (.cells #[.slice es en ec, .int .i64 vs] 114)) 3 #[.int .i64 (d : Int)]
  simp only [World.size_alloc] at A2
  have hmf : ∀ (fn : Fn) (first cap : Array Value) (w : World), (Instr.makeFunc fn first cap).run Try.prog w = .ok (.func fn first cap) w := fun _ _ _ _ => rfl
  have hc := cnt73 (vs := vs) ((w.alloc (.cells #[.slice es en ec, .int .i64 vs] 114)).alloc (.cells #[.int .i64 (d : Int)] 3)) (hS.imp (b0.mono hN) (ExM.below (b0.mono hN) d)) (by simp; omega) w.heap.size (w.heap.size + 1) left hl
    (fun u cs t k hk hb hM => cl74 hE u _ _ (A.bl hb) (A2.bl hb) (by have := hb.size; simp at this; omega) cs t k hk hM)
  unfold CtP at hc
  generalize fld (exN vs d) l left = r at *
  clear hE hS A A2
  go_enter Try.func96, Try.ntmps96
  go_wp2_with (go_at_call 101; go_must (refine hc.mono ?_; rintro e w1 ⟨rfl, hb1⟩))
  go_ret2
  exact ⟨rfl, b0.trans (hb1.mono b0.size)⟩
set_option maxHeartbeats 1000000 in
theorem expr_s {N d : Nat} {es : Option Addr} {en ec : Nat} {vs : Int} (hd100 : d ≤ 100) (hE : ExAt N es en ec vs d) : ExAt N es en ec vs (d + 1) := by
  intro u cs t k hk hN hM
  obtain ⟨sp, m, cap, rfl, hok, hS⟩ := hM
  have b0 : Below u.heap.size u ((u.alloc (.cells #[.slice es en ec, .int .i64 vs] 114)).alloc (.cells (exC t.nd.k t.nd.n t.nd.v t.nd.o (.slice sp m cap)).toArray 92)) := (ab u _).alloc (by simp) _
  have hmy := mayE_any es en ec vs t.nd sp m cap ((u.alloc (.cells #[.slice es en ec, .int .i64 vs] 114)).alloc (.cells (exC t.nd.k t.nd.n t.nd.v t.nd.o (.slice sp m cap)).toArray 92)) hS.len.out
  have A := (Arr.new u 114 #[.slice es en ec, .int .i64 vs]).alloc (.cells (exC t.nd.k t.nd.n t.nd.v t.nd.o (.slice sp m cap)).toArray 92)
  have A2 := Arr.new (u.alloc (.cells #[.slice es en ec, .int .i64 vs] 114)) 92 (exC t.nd.k t.nd.n t.nd.v t.nd.o (.slice sp m cap)).toArray
  simp only [World.size_alloc] at A2
  unfold BoP at hmy
  by_cases h0 : k = 0
  · subst h0
    have e : exN vs (d + 1) t 0 = none := by unfold exN; rw [if_pos (.inl rfl)]
    rw [e]
    have hd0 : ¬ ((d : Int) + 1 = 0) := by omega
    clear hE hS hmy A A2
    unfold exC at *
    go_enter Try.func103, Try.ntmps103
    go_wp2_with fail
    go_ret2
    exact ⟨rfl, b0⟩
  · have hk0 : ((k : Int) == 0) = false := by simpa using h0
    have hd0 : (((d + 1 : Nat) : Int) == 0) = false := by simp; omega
    have hsub : IntKind.i64.wrap (((d + 1 : Nat) : Int) - 1) = (d : Int) := by rw [IntKind.wrap_i64]; omega
    cases hb : mayE vs t.nd with
    | false =>
      have e : exN vs (d + 1) t k = none := by unfold exN; rw [if_pos (.inr hb)]
      rw [e]
      rw [hb] at hmy
      clear hE hS A A2 hsub h0
      generalize ((d + 1 : Nat) : Int) = dd at *
      unfold exC at *
      go_enter Try.func103, Try.ntmps103
      go_wp2_with (go_at_call 104; go_must (refine hmy.mono ?_; rintro e w1 ⟨rfl, hb1⟩))
      go_ret2
      exact ⟨rfl, b0.trans (hb1.mono b0.size)⟩
    | true =>
      have e : exN vs (d + 1) t k = fld (exN vs d) t.nd.l (k - 1) := by
        unfold exN
        rw [if_neg (by rintro (h | h); exact h0 h; exact (by rw [show mayE vs (α := ExT d) t = mayE vs t.nd from rfl, hb] at h; cases h))]
        rfl
      rw [e]
      rw [hb] at hmy
      have hx : ∀ (w1 : World), Below ((u.alloc (.cells #[.slice es en ec, .int .i64 vs] 114)).alloc (.cells (exC t.nd.k t.nd.n t.nd.v t.nd.o (.slice sp m cap)).toArray 92)).heap.size ((u.alloc (.cells #[.slice es en ec, .int .i64 vs] 114)).alloc (.cells (exC t.nd.k t.nd.n t.nd.v t.nd.o (.slice sp m cap)).toArray 92)) w1 → ∀ x y : Int, x = d → y = (k - 1 : Nat) → Calls Try.prog 96 #[.agg #[.slice es en ec, .int .i64 vs], .slice sp m cap, .int .i64 x, .int .i64 y] w1 (CtP (fld (exN vs d) t.nd.l (k - 1)) w1) := fun w1 hb1 x y hx hy => by
        have hbb := (b0.trans (hb1.mono b0.size)).mono hN
        exact exprs58 hE w1 (hS.imp hbb (ExM.below hbb d)) (by have := hbb.size; omega) x y (k - 1) hx hy (by omega)
      have hkk : IntKind.i64.wrap ((k : Int) - 1) = ((k - 1 : Nat) : Int) := by rw [IntKind.wrap_i64]; omega
      unfold CtP at hx
      generalize fld (exN vs d) t.nd.l (k - 1) = r at *
      clear hE hS h0
      generalize hdd : ((d + 1 : Nat) : Int) = dd at *
      unfold exC at *
      go_enter Try.func103, Try.ntmps103
      go_wp2_with (first
        | (go_at_call 104; go_must (refine hmy.mono ?_; rintro e w1 ⟨rfl, hb1⟩; have s0 := (A.bl hb1).cell 0; have s1 := (A.bl hb1).cell 1; have s4 := (A2.bl hb1).cell 4; replace hx := hx w1 hb1))
        | (go_at_call 96; go_must (refine (hx _ _ rfl rfl).mono ?_; rintro e w2 ⟨rfl, hb2⟩)))
      go_ret2
      have hB := b0.trans (hb1.mono b0.size)
      exact ⟨rfl, hB.trans (hb2.mono hB.size)⟩
theorem expr_any {N : Nat} {es : Option Addr} {en ec : Nat} {vs : Int} : ∀ d : Nat, d ≤ 100 → ExAt N es en ec vs d
  | 0, _ => by
    intro u cs t k hk hN hM
    obtain ⟨ek, en', ev, eo, es', em, ec', rfl⟩ := hM.cells
    have b0 : Below u.heap.size u ((u.alloc (.cells #[.slice es en ec, .int .i64 vs] 114)).alloc (.cells (exC ek en' ev eo (.slice es' em ec')).toArray 92)) := (ab u _).alloc (by simp) _
    rw [show exN vs 0 t k = none from rfl]
    clear hM
    unfold exC at *
    go_enter Try.func103, Try.ntmps103
    go_wp2_with fail
    go_ret2
    exact ⟨rfl, b0⟩
  | d + 1, h => expr_s (by omega) (expr_any d (by omega))
end Go.Proofs.Ytimmiidkjpbffaa
/- Layer compile: what the layers below give. -/
namespace Go.Proofs.Ytimmiidkjpbffaa
open Go.RowKit
set_option maxRecDepth 100000
set_option linter.unusedVariables false
set_option linter.unusedSimpArgs false

theorem StM.cells {N : Nat} {w : World} : ∀ {d : Nat} {cs : List Value} {t : StT d}, StM N w d cs t → ∃ k v f t sa na ca sb nb cb sc nc cc, cs = stC k v f t (.slice sa na ca) (.slice sb nb cb) (.slice sc nc cc)
  | 0, _, _, h => h
  | _ + 1, _, _, h => let ⟨sa, na, ca, sb, nb, cb, sc, nc, cc, h1, _, _⟩ := h; ⟨_, _, _, _, sa, na, ca, sb, nb, cb, sc, nc, cc, h1⟩
set_option maxHeartbeats 1000000 in
theorem cnt39 {N d : Nat} {ps : List Int} {vs : Int} {sp : Option Addr} {n cap : Nat} {l : List (StT d)} (w : World) (hS : RS N w 7 (StM N w d) sp n cap l) (hN : N ≤ w.heap.size) (gs gl left : Nat) (hl : left ≤ 4096)
    (hc : ∀ (u : World) (cs : List Value) (t : StT d) (k : Nat), k ≤ 4096 → Below w.heap.size w u → StM N u d cs t → Calls Try.prog 78 #[.agg cs.toArray, .int .i64 (k : Int), .pointer (some ⟨gs, 0, none⟩), .pointer (some ⟨gl, 0, none⟩)] u (CtP (stN ps vs d t k) u)) :
    Calls Try.prog 77 #[.slice sp n cap, .int .i64 (left : Int), .func (Fn.func 78) #[] #[.pointer (some ⟨gs, 0, none⟩), .pointer (some ⟨gl, 0, none⟩)]] w (CtP (fld (stN ps vs d) l left) w) := by
  have hlen := hS.len
  have hsm := hS.small
  obtain ⟨r, hr⟩ : ∃ r, r = fld (stN ps vs d) l left := ⟨_, rfl⟩
  rw [← hr]
  replace hr := hid hr
  go_enter Try.func77, Try.ntmps77
  go_upto_region 2 with fail
  go_loopw [1, 14] (fun a i wr => ∃ (j k : Nat), a = .int .i64 (k : Int) ∧ i = .int .i64 (j : Int) ∧ j ≤ n ∧ k ≤ 4096 ∧ Hid (r = fld (stN ps vs d) (l.drop j) k) ∧ Below w.heap.size w wr)
    (fun _ i _ => n - (intOf i).toNat)
  case atStart => exact ⟨0, left, rfl, rfl, by omega, hl, hid (by rw [List.drop_zero]; exact hr.out), Below.refl _ _⟩
  case round =>
    obtain ⟨j, k, rfl, rfl, hj, hk, hf, hb⟩ := hrel
    by_cases hlt : j < n
    · obtain ⟨t, ht⟩ : ∃ t, l[j]? = some t := ⟨l[j]'(by rw [← hlen.out]; exact hlt), List.getElem?_eq_getElem _⟩
      obtain ⟨g, off, rfl, hg, hR⟩ := hS.at0 (by omega)
      obtain ⟨cs, hrg, hM⟩ := hR j t ht
      have hrg2 := rb hrg hb (by omega)
      have hM2 := StM.below (hb.mono hN) d cs t hM
      obtain ⟨xk, xv, xf, xt, xa, ya, za, xb, yb, zb, xc, yc, zc, rfl⟩ := hM.cells
      have c0 := hrg2 0 _ rfl
      have c1 := hrg2 1 _ rfl
      have c2 := hrg2 2 _ rfl
      have c3 := hrg2 3 _ rfl
      have c4 := hrg2 4 _ rfl
      have c5 := hrg2 5 _ rfl
      have c6 := hrg2 6 _ rfl
      simp only [Nat.add_zero] at c0
      have hfd := fld_drop (f := stN ps vs d) ht k
      have hgl := block_lt_of_cell c0
      have hlt' : (j : Int) < n := by omega
      have h0 : (0 : Int) ≤ j := by omega
      have hB1 := hb.alloc hb.size (.cells (stC xk xv xf xt (.slice xa ya za) (.slice xb yb zb) (.slice xc yc zc)).toArray 94)
      have hcc := hc (wr.alloc (.cells (stC xk xv xf xt (.slice xa ya za) (.slice xb yb zb) (.slice xc yc zc)).toArray 94)) _ t k hk hB1 (StM.below (((ab wr _).mono (by have := hb.size; omega))) d _ t hM2)
      clear hS hR hrg hrg2 hM hM2 hc hlen ht
      unfold CtP at hcc
      cases hx : stN ps vs d t k with
      | none =>
        rw [hx] at hcc hfd
        have hrn : Hid (r = none) := hid (hf.out.trans hfd)
        clear hx hfd hf
        unfold stC at *
        go_wp2_with (go_at_call 78; go_must (refine hcc.mono ?_; rintro e w1 ⟨rfl, hb1⟩))
        go_ret2
        rw [hrn.out]
        exact ⟨rfl, hB1.trans (hb1.mono hB1.size)⟩
      | some k' =>
        have hk' := stN_le d t k k' hx
        rw [hx] at hcc hfd
        have hrn : Hid (r = fld (stN ps vs d) (l.drop (j + 1)) k') := hid (hf.out.trans hfd)
        clear hx hfd hf
        unfold stC at *
        go_wp2_with (go_at_call 78; go_must (refine hcc.mono ?_; rintro e w1 ⟨rfl, hb1⟩))
        go_roundw
        case rel => exact ⟨j + 1, k', rfl, by go_num, by omega, by omega, hrn, hB1.trans (hb1.mono hB1.size)⟩
        case measure => simp [intOf]; omega
    · obtain rfl : j = n := by omega
      have hrn : Hid (r = some k) := hid (by rw [hf.out, hlen.out, List.drop_length]; rfl)
      clear hS hc hf hlen
      go_wp2_with fail
      go_ret2
      rw [hrn.out]
      exact ⟨rfl, hb⟩
/-- What is to be said of one statement. -/
def StAt (N : Nat) (es : Option Addr) (en ec : Nat) (fs : List FuT) (vs : Int) (d : Nat) : Prop := ∀ (u : World) (cs : List Value) (t : StT d) (k : Nat), k ≤ 4096 → N ≤ u.heap.size → RS N u 3 (FuM N u) es en ec fs → StM N u d cs t →
  Calls Try.prog 79 #[.agg #[.slice es en ec, .int .i64 vs], .agg cs.toArray, .int .i64 (d : Int), .int .i64 (k : Int)] u (CtP (stN (fs.map FuT.p) vs d t k) u)
theorem cl40 {N d : Nat} {es : Option Addr} {en ec : Nat} {fs : List FuT} {vs : Int} (hE : StAt N es en ec fs vs d) (u : World) (gs gl : Nat) (As : Arr u gs 114 #[.slice es en ec, .int .i64 vs]) (Al : Arr u gl 3 #[.int .i64 (d : Int)]) (hN : N ≤ u.heap.size) (hF : RS N u 3 (FuM N u) es en ec fs) (cs : List Value) (t : StT d) (k : Nat) (hk : k ≤ 4096) (hM : StM N u d cs t) :
    Calls Try.prog 78 #[.agg cs.toArray, .int .i64 (k : Int), .pointer (some ⟨gs, 0, none⟩), .pointer (some ⟨gl, 0, none⟩)] u (CtP (stN (fs.map FuT.p) vs d t k) u) := by
  obtain ⟨xk, xv, xf, xt, xa, ya, za, xb, yb, zb, xc, yc, zc, rfl⟩ := hM.cells
  have hc := hE (u.alloc (.cells (stC xk xv xf xt (.slice xa ya za) (.slice xb yb zb) (.slice xc yc zc)).toArray 94)) _ t k hk (by simp; omega) (hF.imp ((ab u _).mono hN) (FuM.below ((ab u _).mono hN))) (StM.below ((ab u _).mono hN) d _ t hM)
  have s0 := (As.alloc (.cells (stC xk xv xf xt (.slice xa ya za) (.slice xb yb zb) (.slice xc yc zc)).toArray 94)).cell 0
  have s1 := (As.alloc (.cells (stC xk xv xf xt (.slice xa ya za) (.slice xb yb zb) (.slice xc yc zc)).toArray 94)).cell 1
  have l0 := (Al.alloc (.cells (stC xk xv xf xt (.slice xa ya za) (.slice xb yb zb) (.slice xc yc zc)).toArray 94)).cell 0
  have b0 := ab u (.cells (stC xk xv xf xt (.slice xa ya za) (.slice xb yb zb) (.slice xc yc zc)).toArray 94)
  unfold CtP at hc
  generalize stN (fs.map FuT.p) vs d t k = r at *
  clear hE hM As Al hF
  unfold stC at *
  go_enter Try.func78, Try.ntmps78
  go_wp2_with (go_at_call 79; go_must (refine hc.mono ?_; rintro e w1 ⟨rfl, hb1⟩))
  go_ret2
  exact ⟨rfl, b0.trans (hb1.mono b0.size)⟩
theorem stmts34 {N d : Nat} {es : Option Addr} {en ec : Nat} {fs : List FuT} {vs : Int} (hE : StAt N es en ec fs vs d) (w : World) {sp : Option Addr} {n cap : Nat} {l : List (StT d)} (hS : RS N w 7 (StM N w d) sp n cap l) (hN : N ≤ w.heap.size) (hF : RS N w 3 (FuM N w) es en ec fs) (x y : Int) (left : Nat) (hx : x = d) (hy : y = left) (hl : left ≤ 4096) :
    Calls Try.prog 48 #[.agg #[.slice es en ec, .int .i64 vs], .slice sp n cap, .int .i64 x, .int .i64 y] w (CtP (fld (stN (fs.map FuT.p) vs d) l left) w) := by
  subst hx hy
  have b0 : Below w.heap.size w ((w.alloc (.cells #[.slice es en ec, .int .i64 vs] 114)).alloc (.cells #[.int .i64 (d : Int)] 3)) := (ab w _).alloc (by simp) _
  have A := (Arr.new w 114 #[.slice es en ec, .int .i64 vs]).alloc (.cells #[.int .i64 (d : Int)] 3)
  have A2 := Arr.new (w.alloc (.cells #[.slice es en ec, .int .i64 vs] 114)) 3 #[.int .i64 (d : Int)]
  simp only [World.size_alloc] at A2
  have hmf : ∀ (fn : Fn) (first cap : Array Value) (w : World), (Instr.makeFunc fn first cap).run Try.prog w = .ok (.func fn first cap) w := fun _ _ _ _ => rfl
  have hc := cnt39 (ps := fs.map FuT.p) (vs := vs) ((w.alloc (.cells #[.slice es en ec, .int .i64 vs] 114)).alloc (.cells #[.int .i64 (d : Int)] 3)) (hS.imp (b0.mono hN) (StM.below (b0.mono hN) d)) (by simp; omega) w.heap.size (w.heap.size + 1) left hl
    (fun u cs t k hk hb hM => cl40 hE u _ _ (A.bl hb) (A2.bl hb) (by have := hb.size; simp at this; omega) (hF.imp ((b0.trans (hb.mono b0.size)).mono hN) (FuM.below ((b0.trans (hb.mono b0.size)).mono hN))) cs t k hk hM)
  unfold CtP at hc
  generalize fld (stN (fs.map FuT.p) vs d) l left = r at *
  clear hE hS A A2 hF
  go_enter Try.func48, Try.ntmps48
  go_wp2_with (go_at_call 77; go_must (refine hc.mono ?_; rintro e w1 ⟨rfl, hb1⟩))
  go_ret2
  exact ⟨rfl, b0.trans (hb1.mono b0.size)⟩
end Go.Proofs.Ytimmiidkjpbffaa
/- Layer compile: what the layers below give. -/
namespace Go.Proofs.Ytimmiidkjpbffaa
open Go.RowKit
set_option maxRecDepth 100000
set_option linter.unusedVariables false
set_option linter.unusedSimpArgs false

/-- What a run looks at, but its own state. -/
structure Env where
  fs : List FuT
  hsh : List Int → Int → Int → Int → Int → Option (List Int)
  prm : List Int → Int → Option (List Int)
  pce : List Int → Int → Int
def SS.setV (s : SS) (v : Int) (x : Int) : SS := ⟨s.W, s.V.set v.toNat x, s.lf⟩
/-- A call's end, for who called. -/
def back (s : SS) (v : Int) (r : RR) : RR :=
  if r.k = 0 then ⟨0, 0, ⟨r.s.W, s.V.set v.toNat 0, r.s.lf⟩⟩
  else if r.k = 1 then ⟨0, 0, ⟨r.s.W, s.V.set v.toNat r.x, r.s.lf⟩⟩
  else ⟨r.k, 0, ⟨r.s.W, s.V, r.s.lf⟩⟩
/-- What a function begins with. -/
def fr0 (s : SS) (v : Int) (L : List Int) : SS := ⟨s.W, L ++ List.replicate (v.toNat - L.length) 0, s.lf⟩
/-- A statement behind its fuel and its arguments: B its parts, A itself once more, C a function's body. -/
def one (E : Env) {α : Type} (B : List α → SS → RR) (A : SS → RR) (C : List (StT 8) → SS → RR) (t : StN α) (L : List Int) (s : SS) : RR :=
  if t.k = 1 then ⟨0, 0, s.setV t.v (L.getD 0 0)⟩
  else if t.k = 2 then (if L.getD 0 0 < s.W.length then ⟨0, 0, ⟨s.W.set (L.getD 0 0).toNat (L.getD 1 0), s.V, s.lf⟩⟩ else ⟨2, 0, s⟩)
  else if t.k = 3 then B (if L.getD 0 0 = 0 then t.el else t.th) s
  else if t.k = 4 then (if L.getD 0 0 = 0 then ⟨0, 0, s⟩ else if (B t.th s).k = 0 then A (B t.th s).s else B t.th s)
  else if t.k = 5 then ⟨1, L.getD 0 0, s⟩
  else if t.k = 6 then back s t.v (C ((E.fs[t.f.toNat]?).elim [] FuT.b) (fr0 s ((E.fs[t.f.toNat]?).elim 0 FuT.v) L))
  else if t.k = 7 then (match E.hsh s.W t.t (L.getD 0 0) (L.getD 1 0) (L.getD 2 0) with | none => ⟨2, 0, s⟩ | some W => ⟨0, 0, ⟨W, s.V, s.lf⟩⟩)
  else if t.k = 8 then (match E.prm s.W (L.getD 0 0) with | none => ⟨2, 0, s⟩ | some b => ⟨0, 0, s.setV t.v (E.pce b (L.getD 1 0))⟩)
  else (match E.prm s.W (L.getD 0 0) with | none => ⟨2, 0, s⟩ | some b => ⟨0, 0, s.setV t.v b.length⟩)
end Go.Proofs.Ytimmiidkjpbffaa

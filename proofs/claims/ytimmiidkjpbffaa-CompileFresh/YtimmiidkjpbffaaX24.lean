/- Ie8, Ie9, Ie, If. -/
import Derived.Test.YtimmiidkjpbffaaX01
import Derived.Test.YtimmiidkjpbffaaX02
import Derived.Test.YtimmiidkjpbffaaX03
import Derived.Test.YtimmiidkjpbffaaX09
import Derived.BigQuiet
import Derived.BigRegion
import Derived.ChangeKeysEq
import Derived.Deep.DeepCutAuto
import Derived.Deep.DrawnRows
import Derived.Deep.MidRow
import Derived.Deep.QuietTactic
import Derived.Deep.RegionHeld3
import Derived.Deep.RegionLaw
import Derived.Deep.RegionWith
import Derived.Deep.WholeRow
import Derived.DeepKeys3
import Derived.Great.BuildSlice
import Derived.Handy
import Derived.Laws.AppendOwnNone
import Derived.Laws.BitsLemmas
import Derived.Laws.BytesArg
import Derived.Laws.CopyOwn
import Derived.Laws.ResultCell
import Derived.Laws.Tables
import Derived.Lib.SlBytesConst
import Derived.LoopIn
import Derived.LoopNIn
import Derived.LoopTactic
import Derived.Maps.AppendAt
import Derived.OwnWalkIn
import Derived.RangeFuncBound
import Derived.RangeFuncCalls
import Derived.RangeFuncLeaves
import Derived.RangeFuncNested
import Derived.RangeFuncRecord
import Derived.Shelf.Abstract
import Derived.Shelf.RegionOpen
import Derived.SizedLaws
import Derived.TacticsInMore
import Derived.WalkKit
import Derived.WalkLawsBesides
import Derived.WalkSpells
import Derived.Test.YtimmiidkjpbffaaX22
import Derived.Test.YtimmiidkjpbffaaX23
import Derived.Test.YtimmiidkjpbffaaX20
/- Layer compile: what the layers below give. -/
namespace Go.Proofs.Ytimmiidkjpbffaa
open Go.RowKit
set_option maxRecDepth 100000
set_option linter.unusedVariables false
set_option linter.unusedSimpArgs false

set_option maxHeartbeats 2000000 in
theorem mayS_8 {α : Type} {N : Nat} {sp : Option Addr} {n cap : Nat} {fs : List FuT} {vs : Int} (w : World) (hS : RS N w 3 (FuM N w) sp n cap fs) (hN : N ≤ w.heap.size) (v f t : Int) (a : List (ExT 8)) (th el : List α) (sa : Option Addr) (na ca : Nat) (sb : Option Addr) (nb cb : Nat) (sc : Option Addr) (nc cc : Nat) (ha : na = a.length) (hth : nb = th.length) (hel : nc = el.length) :
    Calls Try.prog 95 #[.agg #[.slice sp n cap, .int .i64 vs], .agg (stC 8 v f t (.slice sa na ca) (.slice sb nb cb) (.slice sc nc cc)).toArray] w (BoP (mayS (fs.map FuT.p) vs ⟨8, v, f, t, a, th, el⟩) w) := by
  obtain ⟨r, hr⟩ : ∃ r, r = mayS (fs.map FuT.p) vs ⟨8, v, f, t, a, th, el⟩ := ⟨_, rfl⟩
  rw [← hr]
  have A0 := (Arr.new w 114 #[.slice sp n cap, .int .i64 vs]).alloc (.cells (stC 8 v f t (.slice sa na ca) (.slice sb nb cb) (.slice sc nc cc)).toArray 94)
  have A := Arr.new (w.alloc (.cells #[.slice sp n cap, .int .i64 vs] 114)) 94 (stC 8 v f t (.slice sa na ca) (.slice sb nb cb) (.slice sc nc cc)).toArray
  simp only [World.size_alloc] at A
  have hh := fun u => has_any sp n cap v vs u
  unfold BoP at hh
  simp [mayS] at hr
  all_goals replace hr := hid hr
  all_goals replace ha := hid ha
  all_goals replace hth := hid hth
  all_goals replace hel := hid hel
  all_goals clear hS
  all_goals unfold stC at *
  all_goals obtain ⟨x1, ex1⟩ : ∃ b, ((nb : Int) == 0) = b := ⟨_, rfl⟩
  all_goals obtain ⟨x2, ex2⟩ : ∃ b, ((nc : Int) == 0) = b := ⟨_, rfl⟩
  all_goals obtain ⟨x5, ex5⟩ : ∃ b, (f == 0) = b := ⟨_, rfl⟩
  all_goals obtain ⟨x6, ex6⟩ : ∃ b, (t == 0) = b := ⟨_, rfl⟩
  all_goals obtain ⟨x3, ex3⟩ : ∃ b, ((na : Int) == 2) = b := ⟨_, rfl⟩
  all_goals by_cases hv : 0 ≤ v ∧ v < vs
  all_goals first | rw [decide_eq_true hv] at hh | rw [decide_eq_false hv] at hh
  all_goals replace hv := hid hv
  all_goals go_enter Try.func95, Try.ntmps95
  all_goals go_wp2_with (go_at_call 99; go_must (refine (hh _).mono ?_; rintro e w1 ⟨rfl, hb1⟩; have B1 := ((ab w _).alloc (by simp) _).trans (hb1.mono (by simp; omega)); have d0 := (A0.bl hb1).cell 0; have d1 := (A0.bl hb1).cell 1; have c2 : w1.cell? ⟨w.heap.size + 1, 2, none⟩ = some (.int .i64 f) := (A.bl hb1).cell 2; have c3 : w1.cell? ⟨w.heap.size + 1, 3, none⟩ = some (.int .i64 t) := (A.bl hb1).cell 3))
  all_goals
    go_ret
    refine ⟨congrArg (fun b => Ending.returned (.bool b)) (?_ : _ = r), ?_⟩
    · have h1 := hr.out
      have h2 := ha.out
      have h3 := hth.out
      have h4 := hel.out
      have h5 := hv.out
      clear A A0 hh 
      try subst ex1
      try subst ex2
      try subst ex5
      try subst ex6
      try subst ex3
      rw [Bool.eq_iff_iff]
      simp_all
      try (first | omega | (intros; omega))
    · exact B1
end Go.Proofs.Ytimmiidkjpbffaa
/- Layer compile: what the layers below give. -/
namespace Go.Proofs.Ytimmiidkjpbffaa
open Go.RowKit
set_option maxRecDepth 100000
set_option linter.unusedVariables false
set_option linter.unusedSimpArgs false

set_option maxHeartbeats 2000000 in
theorem mayS_9 {α : Type} {N : Nat} {sp : Option Addr} {n cap : Nat} {fs : List FuT} {vs : Int} (w : World) (hS : RS N w 3 (FuM N w) sp n cap fs) (hN : N ≤ w.heap.size) (v f t : Int) (a : List (ExT 8)) (th el : List α) (sa : Option Addr) (na ca : Nat) (sb : Option Addr) (nb cb : Nat) (sc : Option Addr) (nc cc : Nat) (ha : na = a.length) (hth : nb = th.length) (hel : nc = el.length) :
    Calls Try.prog 95 #[.agg #[.slice sp n cap, .int .i64 vs], .agg (stC 9 v f t (.slice sa na ca) (.slice sb nb cb) (.slice sc nc cc)).toArray] w (BoP (mayS (fs.map FuT.p) vs ⟨9, v, f, t, a, th, el⟩) w) := by
  obtain ⟨r, hr⟩ : ∃ r, r = mayS (fs.map FuT.p) vs ⟨9, v, f, t, a, th, el⟩ := ⟨_, rfl⟩
  rw [← hr]
  have A0 := (Arr.new w 114 #[.slice sp n cap, .int .i64 vs]).alloc (.cells (stC 9 v f t (.slice sa na ca) (.slice sb nb cb) (.slice sc nc cc)).toArray 94)
  have A := Arr.new (w.alloc (.cells #[.slice sp n cap, .int .i64 vs] 114)) 94 (stC 9 v f t (.slice sa na ca) (.slice sb nb cb) (.slice sc nc cc)).toArray
  simp only [World.size_alloc] at A
  have hh := fun u => has_any sp n cap v vs u
  unfold BoP at hh
  simp [mayS] at hr
  all_goals replace hr := hid hr
  all_goals replace ha := hid ha
  all_goals replace hth := hid hth
  all_goals replace hel := hid hel
  all_goals clear hS
  all_goals unfold stC at *
  all_goals obtain ⟨x1, ex1⟩ : ∃ b, ((nb : Int) == 0) = b := ⟨_, rfl⟩
  all_goals obtain ⟨x2, ex2⟩ : ∃ b, ((nc : Int) == 0) = b := ⟨_, rfl⟩
  all_goals obtain ⟨x5, ex5⟩ : ∃ b, (f == 0) = b := ⟨_, rfl⟩
  all_goals obtain ⟨x6, ex6⟩ : ∃ b, (t == 0) = b := ⟨_, rfl⟩
  all_goals obtain ⟨x3, ex3⟩ : ∃ b, ((na : Int) == 1) = b := ⟨_, rfl⟩
  all_goals by_cases hv : 0 ≤ v ∧ v < vs
  all_goals first | rw [decide_eq_true hv] at hh | rw [decide_eq_false hv] at hh
  all_goals replace hv := hid hv
  all_goals go_enter Try.func95, Try.ntmps95
  all_goals go_wp2_with (go_at_call 99; go_must (refine (hh _).mono ?_; rintro e w1 ⟨rfl, hb1⟩; have B1 := ((ab w _).alloc (by simp) _).trans (hb1.mono (by simp; omega)); have d0 := (A0.bl hb1).cell 0; have d1 := (A0.bl hb1).cell 1; have c2 : w1.cell? ⟨w.heap.size + 1, 2, none⟩ = some (.int .i64 f) := (A.bl hb1).cell 2; have c3 : w1.cell? ⟨w.heap.size + 1, 3, none⟩ = some (.int .i64 t) := (A.bl hb1).cell 3))
  all_goals
    go_ret
    refine ⟨congrArg (fun b => Ending.returned (.bool b)) (?_ : _ = r), ?_⟩
    · have h1 := hr.out
      have h2 := ha.out
      have h3 := hth.out
      have h4 := hel.out
      have h5 := hv.out
      clear A A0 hh 
      try subst ex1
      try subst ex2
      try subst ex5
      try subst ex6
      try subst ex3
      rw [Bool.eq_iff_iff]
      simp_all
      try (first | omega | (intros; omega))
    · exact B1
end Go.Proofs.Ytimmiidkjpbffaa
/- Layer compile: what the layers below give. -/
namespace Go.Proofs.Ytimmiidkjpbffaa
open Go.RowKit
set_option maxRecDepth 100000
set_option linter.unusedVariables false
set_option linter.unusedSimpArgs false

theorem mayS_o {α : Type} {N : Nat} {sp : Option Addr} {n cap : Nat} {fs : List FuT} {vs : Int} (w : World) (hS : RS N w 3 (FuM N w) sp n cap fs) (hN : N ≤ w.heap.size) (k v f t : Int) (sa : Option Addr) (na ca : Nat) (sb : Option Addr) (nb cb : Nat) (sc : Option Addr) (nc cc : Nat) (h1 : (k == 1) = false) (h2 : (k == 2) = false) (h3 : (k == 3) = false) (h4 : (k == 4) = false) (h5 : (k == 5) = false) (h6 : (k == 6) = false) (h7 : (k == 7) = false) (h8 : (k == 8) = false) (h9 : (k == 9) = false) :
    Calls Try.prog 95 #[.agg #[.slice sp n cap, .int .i64 vs], .agg (stC k v f t (.slice sa na ca) (.slice sb nb cb) (.slice sc nc cc)).toArray] w (BoP false w) := by
  clear hS
  unfold stC at *
  go_enter Try.func95, Try.ntmps95
  go_wp2_with fail
  all_goals
    go_ret
    exact ⟨rfl, (ab w _).alloc (by simp) _⟩
theorem mayS_any {α : Type} {N : Nat} {sp : Option Addr} {n cap : Nat} {fs : List FuT} {vs : Int} (w : World) (hS : RS N w 3 (FuM N w) sp n cap fs) (hN : N ≤ w.heap.size) (s : StN α) (sa : Option Addr) (na ca : Nat) (sb : Option Addr) (nb cb : Nat) (sc : Option Addr) (nc cc : Nat) (ha : na = s.a.length) (hth : nb = s.th.length) (hel : nc = s.el.length) :
    Calls Try.prog 95 #[.agg #[.slice sp n cap, .int .i64 vs], .agg (stC s.k s.v s.f s.t (.slice sa na ca) (.slice sb nb cb) (.slice sc nc cc)).toArray] w (BoP (mayS (fs.map FuT.p) vs s) w) := by
  obtain ⟨k, v, f, t, a, th, el⟩ := s
  by_cases h1 : k = 1
  · subst h1; exact mayS_1 w hS hN v f t a th el sa na ca sb nb cb sc nc cc ha hth hel
  by_cases h2 : k = 2
  · subst h2; exact mayS_2 w hS hN v f t a th el sa na ca sb nb cb sc nc cc ha hth hel
  by_cases h3 : k = 3
  · subst h3; exact mayS_3 w hS hN v f t a th el sa na ca sb nb cb sc nc cc ha hth hel
  by_cases h4 : k = 4
  · subst h4; exact mayS_4 w hS hN v f t a th el sa na ca sb nb cb sc nc cc ha hth hel
  by_cases h5 : k = 5
  · subst h5; exact mayS_5 w hS hN v f t a th el sa na ca sb nb cb sc nc cc ha hth hel
  by_cases h6 : k = 6
  · subst h6; exact mayS_6 w hS hN v f t a th el sa na ca sb nb cb sc nc cc ha hth hel
  by_cases h7 : k = 7
  · subst h7; exact mayS_7 w hS hN v f t a th el sa na ca sb nb cb sc nc cc ha hth hel
  by_cases h8 : k = 8
  · subst h8; exact mayS_8 w hS hN v f t a th el sa na ca sb nb cb sc nc cc ha hth hel
  by_cases h9 : k = 9
  · subst h9; exact mayS_9 w hS hN v f t a th el sa na ca sb nb cb sc nc cc ha hth hel
  have e : mayS (fs.map FuT.p) vs ⟨k, v, f, t, a, th, el⟩ = false := by simp [mayS, h1, h2, h3, h4, h5, h6, h7, h8, h9]
  rw [e]
  exact mayS_o (α := α) w hS hN k v f t sa na ca sb nb cb sc nc cc (by simpa using h1) (by simpa using h2) (by simpa using h3) (by simpa using h4) (by simpa using h5) (by simpa using h6) (by simpa using h7) (by simpa using h8) (by simpa using h9)
end Go.Proofs.Ytimmiidkjpbffaa
/- Layer compile: what the layers below give. -/
namespace Go.Proofs.Ytimmiidkjpbffaa
open Go.RowKit
set_option maxRecDepth 100000
set_option linter.unusedVariables false
set_option linter.unusedSimpArgs false

set_option maxHeartbeats 2000000 in
theorem stmt_s {N d : Nat} {es : Option Addr} {en ec : Nat} {fs : List FuT} {vs : Int} (hd100 : d ≤ 100) (hE : StAt N es en ec fs vs d) : StAt N es en ec fs vs (d + 1) := by
  intro u cs t k hk hN hF hM
  obtain ⟨sa, na, ca, sb, nb, cb, sc, nc, cc, rfl, hok, hSa, hSb, hSc⟩ := hM
  have b0 : Below u.heap.size u ((u.alloc (.cells #[.slice es en ec, .int .i64 vs] 114)).alloc (.cells (stC t.nd.k t.nd.v t.nd.f t.nd.t (.slice sa na ca) (.slice sb nb cb) (.slice sc nc cc)).toArray 94)) := (ab u _).alloc (by simp) _
  have hmy := mayS_any (vs := vs) ((u.alloc (.cells #[.slice es en ec, .int .i64 vs] 114)).alloc (.cells (stC t.nd.k t.nd.v t.nd.f t.nd.t (.slice sa na ca) (.slice sb nb cb) (.slice sc nc cc)).toArray 94)) (hF.imp (b0.mono hN) (FuM.below (b0.mono hN))) (by simp; omega) t.nd sa na ca sb nb cb sc nc cc hSa.len.out hSb.len.out hSc.len.out
  have A := (Arr.new u 114 #[.slice es en ec, .int .i64 vs]).alloc (.cells (stC t.nd.k t.nd.v t.nd.f t.nd.t (.slice sa na ca) (.slice sb nb cb) (.slice sc nc cc)).toArray 94)
  have A2 := Arr.new (u.alloc (.cells #[.slice es en ec, .int .i64 vs] 114)) 94 (stC t.nd.k t.nd.v t.nd.f t.nd.t (.slice sa na ca) (.slice sb nb cb) (.slice sc nc cc)).toArray
  simp only [World.size_alloc] at A2
  unfold BoP at hmy
  by_cases h0 : k = 0
  · subst h0
    have e : stN (fs.map FuT.p) vs (d + 1) t 0 = none := by unfold stN; rw [if_pos (.inl rfl)]
    rw [e]
    have hd0 : ¬ ((d : Int) + 1 = 0) := by omega
    clear hE hSa hSb hSc hF hmy A A2
    unfold stC at *
    go_enter Try.func79, Try.ntmps79
    go_wp2_with fail
    go_ret2
    exact ⟨rfl, b0⟩
  have hk0 : ((k : Int) == 0) = false := by simpa using h0
  have hd0 : (((d + 1 : Nat) : Int) == 0) = false := by simp; omega
  have hsub : IntKind.i64.wrap (((d + 1 : Nat) : Int) - 1) = (d : Int) := by rw [IntKind.wrap_i64]; omega
  have hkk : IntKind.i64.wrap ((k : Int) - 1) = ((k - 1 : Nat) : Int) := by rw [IntKind.wrap_i64]; omega
  cases hb : mayS (fs.map FuT.p) vs t.nd with
  | false =>
    have e : stN (fs.map FuT.p) vs (d + 1) t k = none := by unfold stN; rw [if_pos (.inr hb)]
    rw [e]
    rw [hb] at hmy
    clear hE hSa hSb hSc hF A A2 hsub h0
    generalize ((d + 1 : Nat) : Int) = dd at *
    unfold stC at *
    go_enter Try.func79, Try.ntmps79
    go_wp2_with (go_at_call 95; go_must (refine hmy.mono ?_; rintro e w1 ⟨rfl, hb1⟩))
    go_ret2
    exact ⟨rfl, b0.trans (hb1.mono b0.size)⟩
  | true =>
    have e : stN (fs.map FuT.p) vs (d + 1) t k = (fld (exN vs 8) t.nd.a (k - 1)).bind fun n1 => (fld (stN (fs.map FuT.p) vs d) t.nd.th n1).bind (fld (stN (fs.map FuT.p) vs d) t.nd.el) := by
      unfold stN
      rw [if_neg (by rintro (h | h); exact h0 h; exact (by rw [show mayS (fs.map FuT.p) vs (α := StT d) t = mayS (fs.map FuT.p) vs t.nd from rfl, hb] at h; cases h))]
      rfl
    rw [e]
    rw [hb] at hmy
    have hx : ∀ (w1 : World), Below ((u.alloc (.cells #[.slice es en ec, .int .i64 vs] 114)).alloc (.cells (stC t.nd.k t.nd.v t.nd.f t.nd.t (.slice sa na ca) (.slice sb nb cb) (.slice sc nc cc)).toArray 94)).heap.size ((u.alloc (.cells #[.slice es en ec, .int .i64 vs] 114)).alloc (.cells (stC t.nd.k t.nd.v t.nd.f t.nd.t (.slice sa na ca) (.slice sb nb cb) (.slice sc nc cc)).toArray 94)) w1 → ∀ x y : Int, x = (8 : Nat) → y = (k - 1 : Nat) → Calls Try.prog 96 #[.agg #[.slice es en ec, .int .i64 vs], .slice sa na ca, .int .i64 x, .int .i64 y] w1 (CtP (fld (exN vs 8) t.nd.a (k - 1)) w1) := fun w1 hb1 x y hx hy => by
      have hbb := (b0.trans (hb1.mono b0.size)).mono hN
      exact exprs58 (expr_any 8 (by omega)) w1 (hSa.imp hbb (ExM.below hbb 8)) (by have := hbb.size; omega) x y (k - 1) hx hy (by omega)
    have hy : ∀ (n1 : Nat) (w1 : World), n1 ≤ 4096 → Below ((u.alloc (.cells #[.slice es en ec, .int .i64 vs] 114)).alloc (.cells (stC t.nd.k t.nd.v t.nd.f t.nd.t (.slice sa na ca) (.slice sb nb cb) (.slice sc nc cc)).toArray 94)).heap.size ((u.alloc (.cells #[.slice es en ec, .int .i64 vs] 114)).alloc (.cells (stC t.nd.k t.nd.v t.nd.f t.nd.t (.slice sa na ca) (.slice sb nb cb) (.slice sc nc cc)).toArray 94)) w1 → ∀ x y : Int, x = d → y = n1 → Calls Try.prog 48 #[.agg #[.slice es en ec, .int .i64 vs], .slice sb nb cb, .int .i64 x, .int .i64 y] w1 (CtP (fld (stN (fs.map FuT.p) vs d) t.nd.th n1) w1) := fun n1 w1 hn1 hb1 x y hx hy => by
      have hbb := (b0.trans (hb1.mono b0.size)).mono hN
      exact stmts34 hE w1 (hSb.imp hbb (StM.below hbb d)) (by have := hbb.size; omega) (hF.imp hbb (FuM.below hbb)) x y n1 hx hy hn1
    have hz : ∀ (n1 : Nat) (w1 : World), n1 ≤ 4096 → Below ((u.alloc (.cells #[.slice es en ec, .int .i64 vs] 114)).alloc (.cells (stC t.nd.k t.nd.v t.nd.f t.nd.t (.slice sa na ca) (.slice sb nb cb) (.slice sc nc cc)).toArray 94)).heap.size ((u.alloc (.cells #[.slice es en ec, .int .i64 vs] 114)).alloc (.cells (stC t.nd.k t.nd.v t.nd.f t.nd.t (.slice sa na ca) (.slice sb nb cb) (.slice sc nc cc)).toArray 94)) w1 → ∀ x y : Int, x = d → y = n1 → Calls Try.prog 48 #[.agg #[.slice es en ec, .int .i64 vs], .slice sc nc cc, .int .i64 x, .int .i64 y] w1 (CtP (fld (stN (fs.map FuT.p) vs d) t.nd.el n1) w1) := fun n1 w1 hn1 hb1 x y hx hy => by
      have hbb := (b0.trans (hb1.mono b0.size)).mono hN
      exact stmts34 hE w1 (hSc.imp hbb (StM.below hbb d)) (by have := hbb.size; omega) (hF.imp hbb (FuM.below hbb)) x y n1 hx hy hn1
    unfold CtP at hx hy hz
    have hle := fun m => fld_le (exN_le (vs := vs) 8) t.nd.a (k - 1) m
    have hle2 := fun n m => fld_le (stN_le (ps := fs.map FuT.p) (vs := vs) d) t.nd.th n m
    clear hE hSa hSb hSc hF
    generalize hdd : ((d + 1 : Nat) : Int) = dd at *
    cases h1 : fld (exN vs 8) t.nd.a (k - 1) with
    | none =>
      rw [h1] at hx
      clear hy hz h0
      unfold stC at *
      go_enter Try.func79, Try.ntmps79
      go_wp2_with (first
        | (go_at_call 95; go_must (refine hmy.mono ?_; rintro e w1 ⟨rfl, hb1⟩; have s0 := (A.bl hb1).cell 0; have s1 := (A.bl hb1).cell 1; have s4 := (A2.bl hb1).cell 4; replace hx := hx w1 hb1))
        | (go_at_call 96; go_must (refine (hx _ _ rfl rfl).mono ?_; rintro e w2 ⟨rfl, hb2⟩)))
      go_ret2
      have hB := b0.trans (hb1.mono b0.size)
      exact ⟨rfl, hB.trans (hb2.mono hB.size)⟩
    | some n1 =>
      have hn1 : n1 ≤ 4096 := by have := hle n1 h1; omega
      rw [h1] at hx
      replace hy := hy n1
      replace hle2 := hle2 n1
      show Calls _ _ _ _ (CtP ((fld (stN (fs.map FuT.p) vs d) t.nd.th n1).bind (fld (stN (fs.map FuT.p) vs d) t.nd.el)) u)
      cases h2 : fld (stN (fs.map FuT.p) vs d) t.nd.th n1 with
      | none =>
        rw [h2] at hy
        clear hz h0 hle2 hle
        unfold stC at *
        go_enter Try.func79, Try.ntmps79
        go_wp2_with (first
          | (go_at_call 95; go_must (refine hmy.mono ?_; rintro e w1 ⟨rfl, hb1⟩; have s0 := (A.bl hb1).cell 0; have s1 := (A.bl hb1).cell 1; have s4 := (A2.bl hb1).cell 4; replace hx := hx w1 hb1))
          | (go_at_call 96; go_must (refine (hx _ _ rfl rfl).mono ?_; rintro e w2 ⟨rfl, hb2⟩; have hb12 := hb1.trans (hb2.mono hb1.size); have r0 := (A.bl hb12).cell 0; have r1 := (A.bl hb12).cell 1; have r5 := (A2.bl hb12).cell 5; replace hy := hy w2 hn1 hb12))
          | (go_at_call 48; go_must (refine (hy _ _ rfl rfl).mono ?_; rintro e w3 ⟨rfl, hb3⟩)))
        go_ret2
        have hB := b0.trans (hb12.mono b0.size)
        exact ⟨rfl, hB.trans (hb3.mono hB.size)⟩
      | some n2 =>
        have hn2 : n2 ≤ 4096 := by have := hle2 n2 h2; omega
        rw [h2] at hy
        replace hz := hz n2
        show Calls _ _ _ _ (CtP (fld (stN (fs.map FuT.p) vs d) t.nd.el n2) u)
        generalize fld (stN (fs.map FuT.p) vs d) t.nd.el n2 = r at *
        clear h0 hle2 hle
        unfold stC at *
        go_enter Try.func79, Try.ntmps79
        go_upto_region 6 with (first
          | (go_at_call 95; go_must (refine hmy.mono ?_; rintro e w1 ⟨rfl, hb1⟩; have s0 := (A.bl hb1).cell 0; have s1 := (A.bl hb1).cell 1; have s4 := (A2.bl hb1).cell 4; replace hx := hx w1 hb1))
          | (go_at_call 96; go_must (refine (hx _ _ rfl rfl).mono ?_; rintro e w2 ⟨rfl, hb2⟩; have hb12 := hb1.trans (hb2.mono hb1.size); have r0 := (A.bl hb12).cell 0; have r1 := (A.bl hb12).cell 1; have r5 := (A2.bl hb12).cell 5; replace hy := hy w2 hn1 hb12)))
        go_upto_region 7 with (go_at_call 48; go_must (refine (hy _ _ rfl rfl).mono ?_; rintro e w3 ⟨rfl, hb3⟩; have hb13 := hb12.trans (hb3.mono hb12.size); have q0 := (A.bl hb13).cell 0; have q1 := (A.bl hb13).cell 1; have q6 := (A2.bl hb13).cell 6; replace hz := hz w3 hn2 hb13; clear hy))
        go_wp2_with (go_at_call 48; go_must (refine (hz _ _ rfl rfl).mono ?_; rintro e w4 ⟨rfl, hb4⟩))
        go_ret2
        have hB := b0.trans (hb13.mono b0.size)
        exact ⟨rfl, hB.trans (hb4.mono hB.size)⟩
theorem stmt_any {N : Nat} {es : Option Addr} {en ec : Nat} {fs : List FuT} {vs : Int} : ∀ d : Nat, d ≤ 100 → StAt N es en ec fs vs d
  | 0, _ => by
    intro u cs t k hk hN hF hM
    obtain ⟨xk, xv, xf, xt, xa, ya, za, xb, yb, zb, xc, yc, zc, rfl⟩ := hM.cells
    have b0 : Below u.heap.size u ((u.alloc (.cells #[.slice es en ec, .int .i64 vs] 114)).alloc (.cells (stC xk xv xf xt (.slice xa ya za) (.slice xb yb zb) (.slice xc yc zc)).toArray 94)) := (ab u _).alloc (by simp) _
    rw [show stN (fs.map FuT.p) vs 0 t k = none from rfl]
    clear hM hF
    unfold stC at *
    go_enter Try.func79, Try.ntmps79
    go_wp2_with fail
    go_ret2
    exact ⟨rfl, b0⟩
  | d + 1, h => stmt_s (by omega) (stmt_any d (by omega))
end Go.Proofs.Ytimmiidkjpbffaa

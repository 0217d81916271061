/- Layer interp: which statements may be. -/
import Derived.Test.YtmljihggooaboaaIf0
import Derived.Test.YtmljihggooaboaaIe
import Derived.Handy
import Derived.BigQuiet
import Derived.BigRegion
namespace Go.Proofs.Ytmljihggooaboaa
open Go.RowKit
set_option maxRecDepth 100000
set_option linter.unusedVariables false
set_option linter.unusedSimpArgs false

set_option maxHeartbeats 2000000 in
theorem stmt_s {N d : Nat} {es : Option Addr} {en ec : Nat} {fs : List FuT} {vs : Int} (hd100 : d ≤ 100) (hE : StAt N es en ec fs vs d) : StAt N es en ec fs vs (d + 1) := by
  intro u cs t k hk hN hF hM
  obtain ⟨sa, na, ca, sb, nb, cb, sc, nc, cc, rfl, hok, hSa, hSb, hSc⟩ := hM
  have b0 : Below u.heap.size u ((u.alloc (.cells #[.slice es en ec, .int .i64 vs] 102)).alloc (.cells (stC t.nd.k t.nd.v t.nd.f t.nd.t (.slice sa na ca) (.slice sb nb cb) (.slice sc nc cc)).toArray 78)) := (ab u _).alloc (by simp) _
  have hmy := mayS_any (vs := vs) ((u.alloc (.cells #[.slice es en ec, .int .i64 vs] 102)).alloc (.cells (stC t.nd.k t.nd.v t.nd.f t.nd.t (.slice sa na ca) (.slice sb nb cb) (.slice sc nc cc)).toArray 78)) (hF.imp (b0.mono hN) (FuM.below (b0.mono hN))) (by simp; omega) t.nd sa na ca sb nb cb sc nc cc hSa.len.out hSb.len.out hSc.len.out
  have A := (Arr.new u 102 #[.slice es en ec, .int .i64 vs]).alloc (.cells (stC t.nd.k t.nd.v t.nd.f t.nd.t (.slice sa na ca) (.slice sb nb cb) (.slice sc nc cc)).toArray 78)
  have A2 := Arr.new (u.alloc (.cells #[.slice es en ec, .int .i64 vs] 102)) 78 (stC t.nd.k t.nd.v t.nd.f t.nd.t (.slice sa na ca) (.slice sb nb cb) (.slice sc nc cc)).toArray
  simp only [World.size_alloc] at A2
  unfold BoP at hmy
  by_cases h0 : k = 0
  · subst h0
    have e : stN (fs.map FuT.p) vs (d + 1) t 0 = none := by unfold stN; rw [if_pos (.inl rfl)]
    rw [e]
    have hd0 : ¬ ((d : Int) + 1 = 0) := by omega
    clear hE hSa hSb hSc hF hmy A A2
    unfold stC at *
    go_enter Try.func41, Try.ntmps41
    go_wp2_with fail
    go_ret2
    exact ⟨rfl, b0⟩
  have hk0 : ((k : Int) == 0) = false := by simpa using h0
  have hd0 : (((d + 1 : Nat) : Int) == 0) = false := by simp; omega
  have hsub : IntKind.i64.wrap (((d + 1 : Nat) : Int) - 1) = (d : Int) := by rw [IntKind.wrap_i64]; omega
  have hkk : IntKind.i64.wrap ((k : Int) - 1) = ((k - 1 : Nat) : Int) := by rw [IntKind.wrap_i64]; omega
  cases hb : mayS (fs.map FuT.p) vs t.nd with
  | false =>
    have e : stN (fs.map FuT.p) vs (d + 1) t k = none := by unfold stN; rw [if_pos (.inr hb)]
    rw [e]
    rw [hb] at hmy
    clear hE hSa hSb hSc hF A A2 hsub h0
    generalize ((d + 1 : Nat) : Int) = dd at *
    unfold stC at *
    go_enter Try.func41, Try.ntmps41
    go_wp2_with (go_at_call 57; go_must (refine hmy.mono ?_; rintro e w1 ⟨rfl, hb1⟩))
    go_ret2
    exact ⟨rfl, b0.trans (hb1.mono b0.size)⟩
  | true =>
    have e : stN (fs.map FuT.p) vs (d + 1) t k = (fld (exN vs 8) t.nd.a (k - 1)).bind fun n1 => (fld (stN (fs.map FuT.p) vs d) t.nd.th n1).bind (fld (stN (fs.map FuT.p) vs d) t.nd.el) := by
      unfold stN
      rw [if_neg (by rintro (h | h); exact h0 h; exact (by rw [show mayS (fs.map FuT.p) vs (α := StT d) t = mayS (fs.map FuT.p) vs t.nd from rfl, hb] at h; cases h))]
      rfl
    rw [e]
    rw [hb] at hmy
    have hx : ∀ (w1 : World), Below ((u.alloc (.cells #[.slice es en ec, .int .i64 vs] 102)).alloc (.cells (stC t.nd.k t.nd.v t.nd.f t.nd.t (.slice sa na ca) (.slice sb nb cb) (.slice sc nc cc)).toArray 78)).heap.size ((u.alloc (.cells #[.slice es en ec, .int .i64 vs] 102)).alloc (.cells (stC t.nd.k t.nd.v t.nd.f t.nd.t (.slice sa na ca) (.slice sb nb cb) (.slice sc nc cc)).toArray 78)) w1 → ∀ x y : Int, x = (8 : Nat) → y = (k - 1 : Nat) → Calls Try.prog 58 #[.agg #[.slice es en ec, .int .i64 vs], .slice sa na ca, .int .i64 x, .int .i64 y] w1 (CtP (fld (exN vs 8) t.nd.a (k - 1)) w1) := fun w1 hb1 x y hx hy => by
      have hbb := (b0.trans (hb1.mono b0.size)).mono hN
      exact exprs58 (expr_any 8 (by omega)) w1 (hSa.imp hbb (ExM.below hbb 8)) (by have := hbb.size; omega) x y (k - 1) hx hy (by omega)
    have hy : ∀ (n1 : Nat) (w1 : World), n1 ≤ 4096 → Below ((u.alloc (.cells #[.slice es en ec, .int .i64 vs] 102)).alloc (.cells (stC t.nd.k t.nd.v t.nd.f t.nd.t (.slice sa na ca) (.slice sb nb cb) (.slice sc nc cc)).toArray 78)).heap.size ((u.alloc (.cells #[.slice es en ec, .int .i64 vs] 102)).alloc (.cells (stC t.nd.k t.nd.v t.nd.f t.nd.t (.slice sa na ca) (.slice sb nb cb) (.slice sc nc cc)).toArray 78)) w1 → ∀ x y : Int, x = d → y = n1 → Calls Try.prog 34 #[.agg #[.slice es en ec, .int .i64 vs], .slice sb nb cb, .int .i64 x, .int .i64 y] w1 (CtP (fld (stN (fs.map FuT.p) vs d) t.nd.th n1) w1) := fun n1 w1 hn1 hb1 x y hx hy => by
      have hbb := (b0.trans (hb1.mono b0.size)).mono hN
      exact stmts34 hE w1 (hSb.imp hbb (StM.below hbb d)) (by have := hbb.size; omega) (hF.imp hbb (FuM.below hbb)) x y n1 hx hy hn1
    have hz : ∀ (n1 : Nat) (w1 : World), n1 ≤ 4096 → Below ((u.alloc (.cells #[.slice es en ec, .int .i64 vs] 102)).alloc (.cells (stC t.nd.k t.nd.v t.nd.f t.nd.t (.slice sa na ca) (.slice sb nb cb) (.slice sc nc cc)).toArray 78)).heap.size ((u.alloc (.cells #[.slice es en ec, .int .i64 vs] 102)).alloc (.cells (stC t.nd.k t.nd.v t.nd.f t.nd.t (.slice sa na ca) (.slice sb nb cb) (.slice sc nc cc)).toArray 78)) w1 → ∀ x y : Int, x = d → y = n1 → Calls Try.prog 34 #[.agg #[.slice es en ec, .int .i64 vs], .slice sc nc cc, .int .i64 x, .int .i64 y] w1 (CtP (fld (stN (fs.map FuT.p) vs d) t.nd.el n1) w1) := fun n1 w1 hn1 hb1 x y hx hy => by
      have hbb := (b0.trans (hb1.mono b0.size)).mono hN
      exact stmts34 hE w1 (hSc.imp hbb (StM.below hbb d)) (by have := hbb.size; omega) (hF.imp hbb (FuM.below hbb)) x y n1 hx hy hn1
    unfold CtP at hx hy hz
    have hle := fun m => fld_le (exN_le (vs := vs) 8) t.nd.a (k - 1) m
    have hle2 := fun n m => fld_le (stN_le (ps := fs.map FuT.p) (vs := vs) d) t.nd.th n m
    clear hE hSa hSb hSc hF
    generalize hdd : ((d + 1 : Nat) : Int) = dd at *
    cases h1 : fld (exN vs 8) t.nd.a (k - 1) with
    | none =>
      rw [h1] at hx
      clear hy hz h0
      unfold stC at *
      go_enter Try.func41, Try.ntmps41
      go_wp2_with (first
        | (go_at_call 57; go_must (refine hmy.mono ?_; rintro e w1 ⟨rfl, hb1⟩; have s0 := (A.bl hb1).cell 0; have s1 := (A.bl hb1).cell 1; have s4 := (A2.bl hb1).cell 4; replace hx := hx w1 hb1))
        | (go_at_call 58; go_must (refine (hx _ _ rfl rfl).mono ?_; rintro e w2 ⟨rfl, hb2⟩)))
      go_ret2
      have hB := b0.trans (hb1.mono b0.size)
      exact ⟨rfl, hB.trans (hb2.mono hB.size)⟩
    | some n1 =>
      have hn1 : n1 ≤ 4096 := by have := hle n1 h1; omega
      rw [h1] at hx
      replace hy := hy n1
      replace hle2 := hle2 n1
      show Calls _ _ _ _ (CtP ((fld (stN (fs.map FuT.p) vs d) t.nd.th n1).bind (fld (stN (fs.map FuT.p) vs d) t.nd.el)) u)
      cases h2 : fld (stN (fs.map FuT.p) vs d) t.nd.th n1 with
      | none =>
        rw [h2] at hy
        clear hz h0 hle2 hle
        unfold stC at *
        go_enter Try.func41, Try.ntmps41
        go_wp2_with (first
          | (go_at_call 57; go_must (refine hmy.mono ?_; rintro e w1 ⟨rfl, hb1⟩; have s0 := (A.bl hb1).cell 0; have s1 := (A.bl hb1).cell 1; have s4 := (A2.bl hb1).cell 4; replace hx := hx w1 hb1))
          | (go_at_call 58; go_must (refine (hx _ _ rfl rfl).mono ?_; rintro e w2 ⟨rfl, hb2⟩; have hb12 := hb1.trans (hb2.mono hb1.size); have r0 := (A.bl hb12).cell 0; have r1 := (A.bl hb12).cell 1; have r5 := (A2.bl hb12).cell 5; replace hy := hy w2 hn1 hb12))
          | (go_at_call 34; go_must (refine (hy _ _ rfl rfl).mono ?_; rintro e w3 ⟨rfl, hb3⟩)))
        go_ret2
        have hB := b0.trans (hb12.mono b0.size)
        exact ⟨rfl, hB.trans (hb3.mono hB.size)⟩
      | some n2 =>
        have hn2 : n2 ≤ 4096 := by have := hle2 n2 h2; omega
        rw [h2] at hy
        replace hz := hz n2
        show Calls _ _ _ _ (CtP (fld (stN (fs.map FuT.p) vs d) t.nd.el n2) u)
        generalize fld (stN (fs.map FuT.p) vs d) t.nd.el n2 = r at *
        clear h0 hle2 hle
        unfold stC at *
        go_enter Try.func41, Try.ntmps41
        go_upto_region 6 with (first
          | (go_at_call 57; go_must (refine hmy.mono ?_; rintro e w1 ⟨rfl, hb1⟩; have s0 := (A.bl hb1).cell 0; have s1 := (A.bl hb1).cell 1; have s4 := (A2.bl hb1).cell 4; replace hx := hx w1 hb1))
          | (go_at_call 58; go_must (refine (hx _ _ rfl rfl).mono ?_; rintro e w2 ⟨rfl, hb2⟩; have hb12 := hb1.trans (hb2.mono hb1.size); have r0 := (A.bl hb12).cell 0; have r1 := (A.bl hb12).cell 1; have r5 := (A2.bl hb12).cell 5; replace hy := hy w2 hn1 hb12)))
        go_upto_region 7 with (go_at_call 34; go_must (refine (hy _ _ rfl rfl).mono ?_; rintro e w3 ⟨rfl, hb3⟩; have hb13 := hb12.trans (hb3.mono hb12.size); have q0 := (A.bl hb13).cell 0; have q1 := (A.bl hb13).cell 1; have q6 := (A2.bl hb13).cell 6; replace hz := hz w3 hn2 hb13; clear hy))
        go_wp2_with (go_at_call 34; go_must (refine (hz _ _ rfl rfl).mono ?_; rintro e w4 ⟨rfl, hb4⟩))
        go_ret2
        have hB := b0.trans (hb13.mono b0.size)
        exact ⟨rfl, hB.trans (hb4.mono hB.size)⟩
theorem stmt_any {N : Nat} {es : Option Addr} {en ec : Nat} {fs : List FuT} {vs : Int} : ∀ d : Nat, d ≤ 100 → StAt N es en ec fs vs d
  | 0, _ => by
    intro u cs t k hk hN hF hM
    obtain ⟨xk, xv, xf, xt, xa, ya, za, xb, yb, zb, xc, yc, zc, rfl⟩ := hM.cells
    have b0 : Below u.heap.size u ((u.alloc (.cells #[.slice es en ec, .int .i64 vs] 102)).alloc (.cells (stC xk xv xf xt (.slice xa ya za) (.slice xb yb zb) (.slice xc yc zc)).toArray 78)) := (ab u _).alloc (by simp) _
    rw [show stN (fs.map FuT.p) vs 0 t k = none from rfl]
    clear hM hF
    unfold stC at *
    go_enter Try.func41, Try.ntmps41
    go_wp2_with fail
    go_ret2
    exact ⟨rfl, b0⟩
  | d + 1, h => stmt_s (by omega) (stmt_any d (by omega))
end Go.Proofs.Ytmljihggooaboaa

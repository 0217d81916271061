/- If, Ig0, Ig. -/
import Derived.Test.YtmljihggooaboaaX03
import Derived.Test.YtmljihggooaboaaX04
import Derived.Handy
import Derived.BigQuiet
import Derived.BigRegion
/- Layer interp: which statements may be. -/
namespace Go.Proofs.Ytmljihggooaboaa
open Go.RowKit
set_option maxRecDepth 100000
set_option linter.unusedVariables false
set_option linter.unusedSimpArgs false

set_option maxHeartbeats 2000000 in
theorem stmt_s {N d : Nat} {es : Option Addr} {en ec : Nat} {fs : List FuT} {vs : Int} (hd100 : d ≤ 100) (hE : StAt N es en ec fs vs d) : StAt N es en ec fs vs (d + 1) := by
  intro u cs t k hk hN hF hM
  obtain ⟨sa, na, ca, sb, nb, cb, sc, nc, cc, rfl, hok, hSa, hSb, hSc⟩ := hM
  have b0 : Below u.heap.size u ((u.alloc (.cells #[.slice es en ec, .int .i64 vs] 102)).alloc (.cells (stC t.nd.k t.nd.v t.nd.f t.nd.t (.slice sa na ca) (.slice sb nb cb) (.slice sc nc cc)).toArray 78)) := (ab u _).alloc (by simp) _
  have hmy := mayS_any (vs := vs) ((u.alloc (.cells #[.slice es en ec, .int .i64 vs] 102)).alloc (.cells (stC t.nd.k t.nd.v t.nd.f t.nd.t (.slice sa na ca) (.slice sb nb cb) (.slice sc nc cc)).toArray 78)) (hF.imp (b0.mono hN) (FuM.below (b0.mono hN))) (by simp; omega) t.nd sa na ca sb nb cb sc nc cc hSa.len.out hSb.len.out hSc.len.out
  have A := (Arr.new u 102 #[.slice es en ec, .int .i64 vs]).alloc (.cells (stC t.nd.k t.nd.v t.nd.f t.nd.t (.slice sa na ca) (.slice sb nb cb) (.slice sc nc cc)).toArray 78)
  have A2 := Arr.new (u.alloc (.cells #[.slice es en ec, .int .i64 vs] 102)) 78 (stC t.nd.k t.nd.v t.nd.f t.nd.t (.slice sa na ca) (.slice sb nb cb) (.slice sc nc cc)).toArray
  simp only [World.size_alloc] at A2
  unfold BoP at hmy
  by_cases h0 : k = 0
  · subst h0
    have e : stN (fs.map FuT.p) vs (d + 1) t 0 = none := by unfold stN; rw [if_pos (.inl rfl)]
    rw [e]
    have hd0 : ¬ ((d : Int) + 1 = 0) := by omega
    clear hE hSa hSb hSc hF hmy A A2
    unfold stC at *
    go_enter Try.func41, Try.ntmps41
    go_wp2_with fail
    go_ret2
    exact ⟨rfl, b0⟩
  have hk0 : ((k : Int) == 0) = false := by simpa using h0
  have hd0 : (((d + 1 : Nat) : Int) == 0) = false := by simp; omega
  have hsub : IntKind.i64.wrap (((d + 1 : Nat) : Int) - 1) = (d : Int) := by rw [IntKind.wrap_i64]; omega
  have hkk : IntKind.i64.wrap ((k : Int) - 1) = ((k - 1 : Nat) : Int) := by rw [IntKind.wrap_i64]; omega
  cases hb : mayS (fs.map FuT.p) vs t.nd with
  | false =>
    have e : stN (fs.map FuT.p) vs (d + 1) t k = none := by unfold stN; rw [if_pos (.inr hb)]
    rw [e]
    rw [hb] at hmy
    clear hE hSa hSb hSc hF A A2 hsub h0
    generalize ((d + 1 : Nat) : Int) = dd at *
    unfold stC at *
    go_enter Try.func41, Try.ntmps41
    go_wp2_with (go_at_call 57; go_must (refine hmy.mono ?_; rintro e w1 ⟨rfl, hb1⟩))
    go_ret2
    exact ⟨rfl, b0.trans (hb1.mono b0.size)⟩
  | true =>
    have e : stN (fs.map FuT.p) vs (d + 1) t k = (fld (exN vs 8) t.nd.a (k - 1)).bind fun n1 => (fld (stN (fs.map FuT.p) vs d) t.nd.th n1).bind (fld (stN (fs.map FuT.p) vs d) t.nd.el) := by
      unfold stN
      rw [if_neg (by rintro (h | h); exact h0 h; exact (by rw [show mayS (fs.map FuT.p) vs (α := StT d) t = mayS (fs.map FuT.p) vs t.nd from rfl, hb] at h; cases h))]
      rfl
    rw [e]
    rw [hb] at hmy
    have hx : ∀ (w1 : World), Below ((u.alloc (.cells #[.slice es en ec, .int .i64 vs] 102)).alloc (.cells (stC t.nd.k t.nd.v t.nd.f t.nd.t (.slice sa na ca) (.slice sb nb cb) (.slice sc nc cc)).toArray 78)).heap.size ((u.alloc (.cells #[.slice es en ec, .int .i64 vs] 102)).alloc (.cells (stC t.nd.k t.nd.v t.nd.f t.nd.t (.slice sa na ca) (.slice sb nb cb) (.slice sc nc cc)).toArray 78)) w1 → ∀ x y : Int, x = (8 : Nat) → y = (k - 1 : Nat) → Calls Try.prog 58 #[.agg #[.slice es en ec, .int .i64 vs], .slice sa na ca, .int .i64 x, .int .i64 y] w1 (CtP (fld (exN vs 8) t.nd.a (k - 1)) w1) := fun w1 hb1 x y hx hy => by
      have hbb := (b0.trans (hb1.mono b0.size)).mono hN
      exact exprs58 (expr_any 8 (by omega)) w1 (hSa.imp hbb (ExM.below hbb 8)) (by have := hbb.size; omega) x y (k - 1) hx hy (by omega)
    have hy : ∀ (n1 : Nat) (w1 : World), n1 ≤ 4096 → Below ((u.alloc (.cells #[.slice es en ec, .int .i64 vs] 102)).alloc (.cells (stC t.nd.k t.nd.v t.nd.f t.nd.t (.slice sa na ca) (.slice sb nb cb) (.slice sc nc cc)).toArray 78)).heap.size ((u.alloc (.cells #[.slice es en ec, .int .i64 vs] 102)).alloc (.cells (stC t.nd.k t.nd.v t.nd.f t.nd.t (.slice sa na ca) (.slice sb nb cb) (.slice sc nc cc)).toArray 78)) w1 → ∀ x y : Int, x = d → y = n1 → Calls Try.prog 34 #[.agg #[.slice es en ec, .int .i64 vs], .slice sb nb cb, .int .i64 x, .int .i64 y] w1 (CtP (fld (stN (fs.map FuT.p) vs d) t.nd.th n1) w1) := fun n1 w1 hn1 hb1 x y hx hy => by
      have hbb := (b0.trans (hb1.mono b0.size)).mono hN
      exact stmts34 hE w1 (hSb.imp hbb (StM.below hbb d)) (by have := hbb.size; omega) (hF.imp hbb (FuM.below hbb)) x y n1 hx hy hn1
    have hz : ∀ (n1 : Nat) (w1 : World), n1 ≤ 4096 → Below ((u.alloc (.cells #[.slice es en ec, .int .i64 vs] 102)).alloc (.cells (stC t.nd.k t.nd.v t.nd.f t.nd.t (.slice sa na ca) (.slice sb nb cb) (.slice sc nc cc)).toArray 78)).heap.size ((u.alloc (.cells #[.slice es en ec, .int .i64 vs] 102)).alloc (.cells (stC t.nd.k t.nd.v t.nd.f t.nd.t (.slice sa na ca) (.slice sb nb cb) (.slice sc nc cc)).toArray 78)) w1 → ∀ x y : Int, x = d → y = n1 → Calls Try.prog 34 #[.agg #[.slice es en ec, .int .i64 vs], .slice sc nc cc, .int .i64 x, .int .i64 y] w1 (CtP (fld (stN (fs.map FuT.p) vs d) t.nd.el n1) w1) := fun n1 w1 hn1 hb1 x y hx hy => by
      have hbb := (b0.trans (hb1.mono b0.size)).mono hN
      exact stmts34 hE w1 (hSc.imp hbb (StM.below hbb d)) (by have := hbb.size; omega) (hF.imp hbb (FuM.below hbb)) x y n1 hx hy hn1
    unfold CtP at hx hy hz
    have hle := fun m => fld_le (exN_le (vs := vs) 8) t.nd.a (k - 1) m
    have hle2 := fun n m => fld_le (stN_le (ps := fs.map FuT.p) (vs := vs) d) t.nd.th n m
    clear hE hSa hSb hSc hF
    generalize hdd : ((d + 1 : Nat) : Int) = dd at *
    cases h1 : fld (exN vs 8) t.nd.a (k - 1) with
    | none =>
      rw [h1] at hx
      clear hy hz h0
      unfold stC at *
      go_enter Try.func41, Try.ntmps41
      go_wp2_with (first
        | (go_at_call 57; go_must (refine hmy.mono ?_; rintro e w1 ⟨rfl, hb1⟩; have s0 := (A.bl hb1).cell 0; have s1 := (A.bl hb1).cell 1; have s4 := (A2.bl hb1).cell 4; replace hx := hx w1 hb1))
        | (go_at_call 58; go_must (refine (hx _ _ rfl rfl).mono ?_; rintro e w2 ⟨rfl, hb2⟩)))
      go_ret2
      have hB := b0.trans (hb1.mono b0.size)
      exact ⟨rfl, hB.trans (hb2.mono hB.size)⟩
    | some n1 =>
      have hn1 : n1 ≤ 4096 := by have := hle n1 h1; omega
      rw [h1] at hx
      replace hy := hy n1
      replace hle2 := hle2 n1
      show Calls _ _ _ _ (CtP ((fld (stN (fs.map FuT.p) vs d) t.nd.th n1).bind (fld (stN (fs.map FuT.p) vs d) t.nd.el)) u)
      cases h2 : fld (stN (fs.map FuT.p) vs d) t.nd.th n1 with
      | none =>
        rw [h2] at hy
        clear hz h0 hle2 hle
        unfold stC at *
        go_enter Try.func41, Try.ntmps41
        go_wp2_with (first
          | (go_at_call 57; go_must (refine hmy.mono ?_; rintro e w1 ⟨rfl, hb1⟩; have s0 := (A.bl hb1).cell 0; have s1 := (A.bl hb1).cell 1; have s4 := (A2.bl hb1).cell 4; replace hx := hx w1 hb1))
          | (go_at_call 58; go_must (refine (hx _ _ rfl rfl).mono ?_; rintro e w2 ⟨rfl, hb2⟩; have hb12 := hb1.trans (hb2.mono hb1.size); have r0 := (A.bl hb12).cell 0; have r1 := (A.bl hb12).cell 1; have r5 := (A2.bl hb12).cell 5; replace hy := hy w2 hn1 hb12))
          | (go_at_call 34; go_must (refine (hy _ _ rfl rfl).mono ?_; rintro e w3 ⟨rfl, hb3⟩)))
        go_ret2
        have hB := b0.trans (hb12.mono b0.size)
        exact ⟨rfl, hB.trans (hb3.mono hB.size)⟩
      | some n2 =>
        have hn2 : n2 ≤ 4096 := by have := hle2 n2 h2; omega
        rw [h2] at hy
        replace hz := hz n2
        show Calls _ _ _ _ (CtP (fld (stN (fs.map FuT.p) vs d) t.nd.el n2) u)
        generalize fld (stN (fs.map FuT.p) vs d) t.nd.el n2 = r at *
        clear h0 hle2 hle
        unfold stC at *
        go_enter Try.func41, Try.ntmps41
        go_upto_region 6 with (first
          | (go_at_call 57; go_must (refine hmy.mono ?_; rintro e w1 ⟨rfl, hb1⟩; have s0 := (A.bl hb1).cell 0; have s1 := (A.bl hb1).cell 1; have s4 := (A2.bl hb1).cell 4; replace hx := hx w1 hb1))
          | (go_at_call 58; go_must (refine (hx _ _ rfl rfl).mono ?_; rintro e w2 ⟨rfl, hb2⟩; have hb12 := hb1.trans (hb2.mono hb1.size); have r0 := (A.bl hb12).cell 0; have r1 := (A.bl hb12).cell 1; have r5 := (A2.bl hb12).cell 5; replace hy := hy w2 hn1 hb12)))
        go_upto_region 7 with (go_at_call 34; go_must (refine (hy _ _ rfl rfl).mono ?_; rintro e w3 ⟨rfl, hb3⟩; have hb13 := hb12.trans (hb3.mono hb12.size); have q0 := (A.bl hb13).cell 0; have q1 := (A.bl hb13).cell 1; have q6 := (A2.bl hb13).cell 6; replace hz := hz w3 hn2 hb13; clear hy))
        go_wp2_with (go_at_call 34; go_must (refine (hz _ _ rfl rfl).mono ?_; rintro e w4 ⟨rfl, hb4⟩))
        go_ret2
        have hB := b0.trans (hb13.mono b0.size)
        exact ⟨rfl, hB.trans (hb4.mono hB.size)⟩
theorem stmt_any {N : Nat} {es : Option Addr} {en ec : Nat} {fs : List FuT} {vs : Int} : ∀ d : Nat, d ≤ 100 → StAt N es en ec fs vs d
  | 0, _ => by
    intro u cs t k hk hN hF hM
    obtain ⟨xk, xv, xf, xt, xa, ya, za, xb, yb, zb, xc, yc, zc, rfl⟩ := hM.cells
    have b0 : Below u.heap.size u ((u.alloc (.cells #[.slice es en ec, .int .i64 vs] 102)).alloc (.cells (stC xk xv xf xt (.slice xa ya za) (.slice xb yb zb) (.slice xc yc zc)).toArray 78)) := (ab u _).alloc (by simp) _
    rw [show stN (fs.map FuT.p) vs 0 t k = none from rfl]
    clear hM hF
    unfold stC at *
    go_enter Try.func41, Try.ntmps41
    go_wp2_with fail
    go_ret2
    exact ⟨rfl, b0⟩
  | d + 1, h => stmt_s (by omega) (stmt_any d (by omega))
end Go.Proofs.Ytmljihggooaboaa
/- Layer interp: how a program begins. -/
namespace Go.Proofs.Ytmljihggooaboaa
open Go.RowKit
set_option maxRecDepth 100000
set_option linter.unusedVariables false
set_option linter.unusedSimpArgs false

theorem RS.take {α : Type} {N : Nat} {w : World} {sz : Nat} {R : List Value → α → Prop} {sp : Option Addr} {n cap : Nat} {l : List α} (h : RS N w sz R sp n cap l) {j : Nat} (hj : j ≤ n) : RS N w sz R sp j cap (l.take j) :=
  ⟨hid (by rw [List.length_take, ← h.len.out]; omega), fun e => by have := h.nil e; omega, by have := h.le; omega, h.big, by have := h.small; omega, fun h0 => by
    obtain ⟨g, off, e, hg, hR⟩ := h.at0 (by omega)
    refine ⟨g, off, e, hg, fun i a ha => hR i a ?_⟩
    by_cases hi : i < j
    · rw [List.getElem?_take_of_lt hi] at ha; exact ha
    · rw [List.getElem?_eq_none (by rw [List.length_take]; omega)] at ha; cases ha⟩
set_option maxHeartbeats 1000000 in
theorem beg_any {N : Nat} {sp : Option Addr} {n cap : Nat} (p : PgT) (w : World) (hS : RS N w 3 (FuM N w) sp n cap p.fs) (hN : N ≤ w.heap.size) :
    Calls Try.prog 33 #[.agg #[.slice sp n cap, .int .i64 p.da]] w (BoP (begB p) w) := by
  have b0 := ab w (.cells #[.slice sp n cap, .int .i64 p.da] 24)
  have hsm := hS.small
  have hl := hS.len.out
  by_cases h1 : 0 < n
  · have hw : IntKind.i64.wrap ((n : Int) - 1) = ((n - 1 : Nat) : Int) := by rw [IntKind.wrap_i64]; omega
    by_cases h2 : n ≤ 32
    · obtain ⟨t, ht⟩ : ∃ t, p.fs[n - 1]? = some t := ⟨p.fs[n - 1]'(by omega), List.getElem?_eq_getElem _⟩
      have hlast : p.fs.getLast?.map FuT.p = some t.p := by rw [List.getLast?_eq_getElem?, ← hl, ht]; rfl
      obtain ⟨g, off, rfl, hg, hR⟩ := hS.at0 h1
      obtain ⟨cs, hrg, hM⟩ := hR (n - 1) t ht
      obtain ⟨q1, q2, q3, rfl, -, -⟩ := hM
      have hrg2 := rb hrg (b0.mono hN) hg
      have c0 := hrg2 0 _ rfl
      simp only [Nat.add_zero] at c0
      obtain ⟨r, hr⟩ : ∃ r, r = begB p := ⟨_, rfl⟩
      rw [← hr]
      unfold begB at hr
      rw [hlast, ← hl] at hr
      replace hr := hid hr
      have hlt : n - 1 < n := by omega
      have h32 : ((n - 1 : Nat) : Int) < 32 := by omega
      have hn0 : (0 : Int) ≤ ((n - 1 : Nat) : Int) := by omega
      obtain ⟨x1, ex1⟩ : ∃ b, (t.p == 0) = b := ⟨_, rfl⟩
      have hj : Hid (0 < n ∧ n ≤ 32) := hid ⟨h1, h2⟩
      clear hS hR hrg hrg2 hl ht hlast h1 h2
      generalize n - 1 = j at *
      go_enter Try.func33, Try.ntmps33
      go_wp2_with fail
      all_goals
        go_ret
        refine ⟨congrArg (fun b => Ending.returned (.bool b)) (?_ : _ = r), b0⟩
        have h3 := hr.out
        have h4 := hj.out
        try subst ex1
        clear b0 c0
        rw [Bool.eq_iff_iff]
        simp_all
        try (first | omega | (intros; omega))
    · have e : begB p = false := decide_eq_false (by rintro ⟨-, h, -⟩; rw [← hl] at h; exact h2 h)
      rw [e]
      have h32 : ¬ ((n - 1 : Nat) : Int) < 32 := by omega
      have hn0 : (0 : Int) ≤ ((n - 1 : Nat) : Int) := by omega
      clear hS hl h1 h2 e
      generalize n - 1 = j at *
      go_enter Try.func33, Try.ntmps33
      go_wp2_with fail
      go_ret
      exact ⟨rfl, b0⟩
  · obtain rfl : n = 0 := by omega
    have e : begB p = false := decide_eq_false (by rintro ⟨h, -⟩; rw [← hl] at h; omega)
    rw [e]
    have hw : IntKind.i64.wrap (((0 : Nat) : Int) - 1) = -1 := by rw [IntKind.wrap_i64]; omega
    clear hS hl h1 e
    go_enter Try.func33, Try.ntmps33
    go_wp2_with fail
    go_ret
    exact ⟨rfl, b0⟩
end Go.Proofs.Ytmljihggooaboaa
/- Layer interp: which programs may be. -/
namespace Go.Proofs.Ytmljihggooaboaa
open Go.RowKit
set_option maxRecDepth 100000
set_option linter.unusedVariables false
set_option linter.unusedSimpArgs false

theorem fnN_le : ∀ (l : List FuT) (ps : List Int) (n m : Nat), fnN l ps n = some m → m ≤ n
  | [], _, n, m, h => by cases h; omega
  | f :: r, ps, n, m, h => by
    unfold fnN at h
    split at h
    · cases h1 : fld (stN ps f.v 8) f.b n with
      | none => rw [h1] at h; cases h
      | some k => rw [h1] at h; exact Nat.le_trans (fnN_le r _ k m h) (fld_le (stN_le 8) _ _ _ h1)
    · cases h
theorem fnN_drop {l : List FuT} {j : Nat} {f : FuT} (h : l[j]? = some f) (k : Nat) : fnN (l.drop j) ((l.take j).map FuT.p) k = if 0 ≤ f.v ∧ f.v ≤ 64 ∧ 0 ≤ f.p ∧ f.p ≤ f.v then (fld (stN ((l.take j).map FuT.p) f.v 8) f.b k).bind (fnN (l.drop (j + 1)) ((l.take (j + 1)).map FuT.p)) else none := by
  obtain ⟨hj, rfl⟩ := List.getElem?_eq_some_iff.1 h
  rw [List.drop_eq_getElem_cons hj, fnN]
  rw [show (l.take (j + 1)).map FuT.p = (l.take j).map FuT.p ++ [l[j].p] by rw [List.take_succ_eq_append_getElem hj, List.map_append]; rfl]
set_option maxHeartbeats 2000000 in
theorem nodes_any {N : Nat} {cs : List Value} (p : PgT) (w : World) (hM : PgM N w cs p) (hN : N ≤ w.heap.size) :
    Calls Try.prog 25 #[.agg cs.toArray] w (CtP ((pgN p).map (4096 - ·)) w) := by
  obtain ⟨sp, n, cap, rfl, hda, hS⟩ := hM
  have b0 := ab w (.cells #[.slice sp n cap, .int .i64 p.da] 24)
  have A := Arr.new w 24 #[.slice sp n cap, .int .i64 p.da]
  have hbg := beg_any p (w.alloc (.cells #[.slice sp n cap, .int .i64 p.da] 24)) (hS.imp (b0.mono hN) (FuM.below (b0.mono hN))) (by simp; omega)
  unfold BoP at hbg
  cases hb : begB p with
  | false =>
    have e : pgN p = none := by unfold pgN; rw [hb, if_neg (by decide)]
    rw [e]
    rw [hb] at hbg
    clear hS hda
    go_enter Try.func25, Try.ntmps25
    go_wp2_with (go_at_call 33; go_must (refine hbg.mono ?_; rintro e w1 ⟨rfl, hb1⟩))
    go_ret2
    exact ⟨rfl, b0.trans (hb1.mono b0.size)⟩
  | true =>
    have e : pgN p = fnN p.fs [] 4096 := by unfold pgN; rw [hb, if_pos rfl]
    rw [e]
    rw [hb] at hbg
    have hlen := hS.len
    have hsm := hS.small
    obtain ⟨r, hr⟩ : ∃ r, r = fnN p.fs [] 4096 := ⟨_, rfl⟩
    rw [← hr]
    replace hr := hid hr
    go_enter Try.func25, Try.ntmps25
    go_upto_region 5 with (go_at_call 33; go_must (refine hbg.mono ?_; rintro e w1 ⟨rfl, hb1⟩; have A1 := A.bl hb1; have k0 := A1.cell 0))
    have B1 := b0.trans (hb1.mono b0.size)
    have hw1 : w.heap.size < w1.heap.size := A1.lt
    clear hbg hb
    go_loopw [4, 16] (fun a i wr => ∃ (j k : Nat), a = .int .i64 (k : Int) ∧ i = .int .i64 (j : Int) ∧ j ≤ n ∧ k ≤ 4096 ∧ Hid (r = fnN (p.fs.drop j) ((p.fs.take j).map FuT.p) k) ∧ Below w1.heap.size w1 wr)
      (fun _ i _ => n - (intOf i).toNat)
    case atStart => exact ⟨0, 4096, rfl, rfl, by omega, by omega, hr, Below.refl _ _⟩
    case round =>
      obtain ⟨j, k, rfl, rfl, hj, hk, hf, hbw⟩ := hrel
      have A2 := A1.bl hbw
      have B2 := B1.trans (hbw.mono B1.size)
      by_cases hlt : j < n
      · obtain ⟨f, ht⟩ : ∃ t, p.fs[j]? = some t := ⟨p.fs[j]'(by rw [← hlen.out]; exact hlt), List.getElem?_eq_getElem _⟩
        have hfd := fnN_drop ht k
        have hS2 := hS.imp (B2.mono hN) (FuM.below (B2.mono hN))
        obtain ⟨g, off, rfl, hg, hR⟩ := hS2.at0 (by omega)
        obtain ⟨cs, hrg, hM⟩ := hR j f ht
        obtain ⟨sq, m, cq, rfl, ⟨hfp, hfv⟩, hSb⟩ := hM
        have c0 := hrg 0 _ rfl
        have c1 := hrg 1 _ rfl
        have c2 := hrg 2 _ rfl
        simp only [Nat.add_zero] at c0
        have hlt' : (j : Int) < n := by omega
        have h0 : (0 : Int) ≤ j := by omega
        by_cases hcond : 0 ≤ f.v ∧ f.v ≤ 64 ∧ 0 ≤ f.p ∧ f.p ≤ f.v
        · rw [if_pos hcond] at hfd
          obtain ⟨d1, d2, d3, d4⟩ := hcond
          have n1 : ¬ f.v < 0 := by omega
          have n2 : ¬ 64 < f.v := by omega
          have n3 : ¬ f.p < 0 := by omega
          have n4 : ¬ f.v < f.p := by omega
          have hcj : j ≤ cap := by have := hS.le; omega
          have hcj' : (j : Int) ≤ cap := by omega
          have A3 := A2.alloc (.cells (fuC f.p f.v (.slice sq m cq)).toArray 52)
          have F3 := Arr.new wr 52 (fuC f.p f.v (.slice sq m cq)).toArray
          have p0 := A3.cell 0
          have p1 := F3.cell 1
          have p2 := fun o => (A3.alloc o).cell 0
          have p3 := fun o => (F3.alloc o).cell 1
          have hB3 : Below w1.heap.size w1 (wr.alloc (.cells (fuC f.p f.v (.slice sq m cq)).toArray 52)) := hbw.alloc hbw.size _
          clear hR hrg
          unfold fuC at *
          go_upto_region 9 with fail
          go_region
          have hNw : N ≤ wr.heap.size := by have := B2.size; omega
          have hW4 : Below wr.heap.size wr ((wr.alloc (.cells #[.int .i64 f.p, .int .i64 f.v, .slice sq m cq] 52)).alloc (.cells #[.slice (some ⟨g, off, none⟩) j cap, .int .i64 f.v] 102)).drew := dw1 ((ab wr _).alloc (by simp) _)
          have S4 : Arr ((wr.alloc (.cells #[.int .i64 f.p, .int .i64 f.v, .slice sq m cq] 52)).alloc (.cells #[.slice (some ⟨g, off, none⟩) j cap, .int .i64 f.v] 102)).drew (wr.heap.size + 1) 102 #[.slice (some ⟨g, off, none⟩) j cap, .int .i64 f.v] := by
            have h := (Arr.new (wr.alloc (.cells #[.int .i64 f.p, .int .i64 f.v, .slice sq m cq] 52)) 102 #[.slice (some ⟨g, off, none⟩) j cap, .int .i64 f.v]).drew
            simp only [World.size_alloc] at h
            exact h
          have F4 := (F3.alloc (.cells #[.slice (some ⟨g, off, none⟩) j cap, .int .i64 f.v] 102)).drew
          have hB4 : Below w1.heap.size w1 ((wr.alloc (.cells #[.int .i64 f.p, .int .i64 f.v, .slice sq m cq] 52)).alloc (.cells #[.slice (some ⟨g, off, none⟩) j cap, .int .i64 f.v] 102)).drew := hbw.trans (hW4.mono hbw.size)
          have hst := stmts34 (stmt_any (N := N) (es := some ⟨g, off, none⟩) (en := j) (ec := cap) (fs := p.fs.take j) (vs := f.v) 8 (by omega)) _ (hSb.imp (hW4.mono hNw) (StM.below (hW4.mono hNw) 8)) (by have := hW4.size; omega) ((hS2.take (by omega)).imp (hW4.mono hNw) (FuM.below (hW4.mono hNw))) _ _ k rfl rfl hk
          generalize ((wr.alloc (.cells #[.int .i64 f.p, .int .i64 f.v, .slice sq m cq] 52)).alloc (.cells #[.slice (some ⟨g, off, none⟩) j cap, .int .i64 f.v] 102)).drew = W4 at *
          have q0 := S4.cell 0
          have q1 := S4.cell 1
          have q2 := F4.cell 2
          unfold CtP at hst
          clear p0 p1 p2 p3 A3 F3 hS hS2 hSb hB3 S4 F4 hW4 c0 c1 c2 ht
          cases hx : fld (stN ((p.fs.take j).map FuT.p) f.v 8) f.b k with
          | none =>
            rw [hx] at hst hfd
            have hrn : Hid (r = none) := hid (hf.out.trans hfd)
            clear hx hfd hf
            go_wp2_with (go_at_call 34; go_must (refine hst.mono ?_; rintro e w5 ⟨rfl, hb5⟩))
            go_ret2
            rw [hrn.out]
            have B4 := B1.trans (hB4.mono B1.size)
            exact ⟨rfl, B4.trans (hb5.mono B4.size)⟩
          | some k' =>
            have hk' : k' ≤ k := fld_le (stN_le 8) _ _ _ hx
            rw [hx] at hst hfd
            have hrn : Hid (r = fnN (p.fs.drop (j + 1)) ((p.fs.take (j + 1)).map FuT.p) k') := hid (hf.out.trans hfd)
            clear hx hfd hf
            go_wp2_with (go_at_call 34; go_must (refine hst.mono ?_; rintro e w5 ⟨rfl, hb5⟩))
            go_roundw
            case rel => exact ⟨j + 1, k', rfl, by go_num, by omega, by omega, hrn, hB4.trans (hb5.mono hB4.size)⟩
            case measure => simp [intOf]; omega
        · rw [if_neg hcond] at hfd
          have hrn : Hid (r = none) := hid (hf.out.trans hfd)
          have hc2 : Hid (¬ (0 ≤ f.v ∧ f.v ≤ 64 ∧ 0 ≤ f.p ∧ f.p ≤ f.v)) := hid hcond
          have hB3 := fun o => B2.alloc B2.size o
          clear hR hrg hfd hf hcond hS hS2 hSb ht
          unfold fuC at *
          go_upto_region 7 with fail
          by_cases d1 : f.v < 0
          · go_wp2_with fail
            go_ret2
            rw [hrn.out]
            exact ⟨rfl, hB3 _⟩
          by_cases d2 : 64 < f.v
          · go_wp2_with fail
            go_ret2
            rw [hrn.out]
            exact ⟨rfl, hB3 _⟩
          by_cases d3 : f.p < 0
          · go_wp2_with fail
            go_ret2
            rw [hrn.out]
            exact ⟨rfl, hB3 _⟩
          have d4 : f.v < f.p := by have := hc2.out; omega
          go_wp2_with fail
          go_ret2
          rw [hrn.out]
          exact ⟨rfl, hB3 _⟩
      · obtain rfl : j = n := by omega
        have hrn : Hid (r = some k) := hid (by rw [hf.out, hlen.out, List.drop_length]; rfl)
        have hsub : IntKind.i64.wrap (4096 - (k : Int)) = ((4096 - k : Nat) : Int) := by rw [IntKind.wrap_i64]; omega
        clear hS hf hlen
        go_wp2_with fail
        go_ret2
        rw [hrn.out]
        exact ⟨rfl, B2⟩
theorem may_any {N : Nat} {cs : List Value} (p : PgT) (w : World) (hM : PgM N w cs p) (hN : N ≤ w.heap.size) :
    Calls Try.prog 16 #[.agg cs.toArray] w (BoP (pgN p).isSome w) := by
  obtain ⟨sp, n, cap, rfl, hda, hS⟩ := id hM
  have b0 := ab w (.cells #[.slice sp n cap, .int .i64 p.da] 24)
  have hn := nodes_any p (w.alloc (.cells #[.slice sp n cap, .int .i64 p.da] 24)) (PgM.below (b0.mono hN) _ p hM) (by simp; omega)
  unfold CtP at hn
  rw [show ((pgN p).map (4096 - ·)).isSome = (pgN p).isSome by cases pgN p <;> rfl] at hn
  generalize (pgN p).isSome = r at *
  clear hM hS
  go_enter Try.func16, Try.ntmps16
  go_wp2_with (go_at_call 25; go_must (refine hn.mono ?_; rintro e w1 ⟨rfl, hb1⟩))
  go_ret
  exact ⟨rfl, b0.trans (hb1.mono b0.size)⟩
end Go.Proofs.Ytmljihggooaboaa

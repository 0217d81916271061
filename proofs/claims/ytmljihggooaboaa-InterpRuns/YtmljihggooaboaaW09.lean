/- Iy0, Ix, Iy, Ax. -/
import Derived.Test.YtmljihggooaboaaW08
import Derived.Handy
import Derived.BigQuiet
import Derived.BigRegion
import Derived.Laws.MakeOwn
import Derived.Deep.RegionHeld
import Derived.KernelRfl
import Derived.WalkKit
/- Layer interp: fuel goes down. -/
namespace Go.Proofs.Ytmljihggooaboaa
open Go.RowKit
set_option maxRecDepth 100000
set_option linter.unusedVariables false
set_option linter.unusedSimpArgs false

variable {E : Env}
theorem runL_lf {α : Type} {F : α → SS → RR} (hF : ∀ t s, (F t s).s.lf ≤ s.lf) : ∀ (l : List α) (s : SS), (runL F l s).s.lf ≤ s.lf
  | [], s => Nat.le_refl _
  | t :: l, s => by
    unfold runL
    split
    · exact Nat.le_trans (runL_lf hF l _) (hF t s)
    · exact hF t s
theorem back_lf (s : SS) (v : Int) (r : RR) : (back s v r).s.lf = r.s.lf := by
  unfold back
  split
  · rfl
  · split <;> rfl
theorem one_lf {α : Type} {B : List α → SS → RR} {A : SS → RR} {C : List (StT 8) → SS → RR} (hB : ∀ l s, (B l s).s.lf ≤ s.lf) (hA : ∀ s, (A s).s.lf ≤ s.lf) (hC : ∀ l s, (C l s).s.lf ≤ s.lf) (t : StN α) (L : List Int) (s : SS) : (one E B A C t L s).s.lf ≤ s.lf := by
  unfold one
  by_cases h1 : t.k = 1
  · rw [if_pos h1]; exact Nat.le_refl _
  rw [if_neg h1]
  by_cases h2 : t.k = 2
  · rw [if_pos h2]; split <;> exact Nat.le_refl _
  rw [if_neg h2]
  by_cases h3 : t.k = 3
  · rw [if_pos h3]; exact hB _ _
  rw [if_neg h3]
  by_cases h4 : t.k = 4
  · rw [if_pos h4]
    split
    · exact Nat.le_refl _
    · split
      · exact Nat.le_trans (hA _) (hB _ _)
      · exact hB _ _
  rw [if_neg h4]
  by_cases h5 : t.k = 5
  · rw [if_pos h5]; exact Nat.le_refl _
  rw [if_neg h5]
  by_cases h6 : t.k = 6
  · rw [if_pos h6, back_lf]; exact hC _ _
  rw [if_neg h6]
  by_cases h7 : t.k = 7
  · rw [if_pos h7]; split <;> exact Nat.le_refl _
  rw [if_neg h7]
  by_cases h8 : t.k = 8
  · rw [if_pos h8]; split <;> exact Nat.le_refl _
  rw [if_neg h8]
  split <;> exact Nat.le_refl _
theorem stm_lf : ∀ (G d : Nat) (t : StT d) (s : SS), (stm E G d t s).s.lf ≤ s.lf
  | 0, d, t, s => Nat.le_refl _
  | G + 1, 0, t, s => Nat.le_refl _
  | G + 1, d + 1, t, s => by
    unfold stm
    show (if s.lf = 0 then (⟨3, 0, s⟩ : RR) else _).s.lf ≤ s.lf
    split
    · exact Nat.le_refl _
    · split
      · exact Nat.sub_le _ _
      · exact Nat.le_trans (one_lf (runL_lf (stm_lf G d)) (stm_lf G (d + 1) t) (runL_lf (stm_lf G 8)) _ _ _) (Nat.sub_le _ _)
theorem stm_sp {G d : Nat} (t : StT d) (s : SS) (h : s.lf = 0) : stm E G d t s = ⟨3, 0, s⟩ := by
  cases G with
  | zero => rfl
  | succ G => cases d with
    | zero => rfl
    | succ d => unfold stm; exact if_pos h
theorem stm_tr {G d k : Nat} {t : StT (d + 1)} {W V : List Int} (h : evs W V 8 t.nd.a = none) : stm E (G + 1) (d + 1) t ⟨W, V, k + 1⟩ = ⟨2, 0, ⟨W, V, k⟩⟩ := by
  unfold stm
  show (if k + 1 = 0 then _ else match evs W V 8 t.nd.a with | none => _ | some L => _) = _
  rw [if_neg (by omega), h]
  rfl
theorem stm_on {G d k : Nat} {t : StT (d + 1)} {W V L : List Int} (h : evs W V 8 t.nd.a = some L) : stm E (G + 1) (d + 1) t ⟨W, V, k + 1⟩ = one E (runL (stm E G d)) (stm E G (d + 1) t) (runL (stm E G 8)) t.nd L ⟨W, V, k⟩ := by
  conv => lhs; unfold stm
  show (if k + 1 = 0 then _ else match evs W V 8 t.nd.a with | none => _ | some L => _) = _
  rw [if_neg (by omega), h]
  rfl
theorem one_4 {α : Type} {B : List α → SS → RR} {A : SS → RR} {C : List (StT 8) → SS → RR} {t : StN α} {x : Int} {s : SS} (h : t.k = 4) : one E B A C t [x] s = if x = 0 then ⟨0, 0, s⟩ else if (B t.th s).k = 0 then A (B t.th s).s else B t.th s := by
  unfold one
  rw [if_neg (by omega), if_neg (by omega), if_neg (by omega), if_pos h]
  rfl
end Go.Proofs.Ytmljihggooaboaa
/- Layer interp: a choice, a return. -/
namespace Go.Proofs.Ytmljihggooaboaa
open Go.RowKit
set_option maxRecDepth 100000
set_option linter.unusedVariables false
set_option linter.unusedSimpArgs false

variable {X : World → Prop} {Z N gr gw n gm : Nat} {p0 p1 kv mv : Value} {gv nv : Nat} {W V : List Int} {d k : Nat} {t : StT (d + 1)} {cs : List Value} {ps : List Int}
set_option maxHeartbeats 1000000 in
theorem stmt_ret {x : Int} (w : World) (hN : N ≤ w.heap.size) (hX : XK X Z gr gw) (h : KI X Z N gr gw n p0 p1 kv mv gv nv ⟨W, V, k + 1⟩ w) (hM : StM N w (d + 1) cs t) (hok : okS ps nv (d + 1) t) (hps : ∀ p ∈ ps, p ≤ 64) (h1 : t.nd.k = 5) (hev : evs W V 8 t.nd.a = some [x]) :
    Calls Try.prog 35 (stArgs gr gv nv cs) w (KP (KI X Z N gr gw n p0 p1 kv mv gv nv) (PP gr gw gm gv) ⟨1, x, ⟨W, V, k⟩⟩ w) := by
  refine Calls.mono (R := StP N gr gw n p0 p1 kv mv gv nv ⟨1, x, ⟨W, V, k⟩⟩ w) ?_ (fun e w' hp => h.of hX (by simp) hp)
  obtain ⟨hmy, hoa, -, -⟩ := okS_s hok
  obtain ⟨sa, na, ca, sb, nb, cb, sc, nc, cc, hcs, hk0, hSa, hSb, hSc⟩ := hM
  rw [h1] at hcs
  subst hcs
  have hI := h.st
  replace hI : StI N gr gw n p0 p1 kv mv gv nv W V ((k + 1 : Nat) : Int) w := hI
  have hk : k ≤ 4194304 := by have := h.lf; simp at this; omega
  have b0 := ab w (.cells (stC 5 t.nd.v t.nd.f t.nd.t (.slice sa na ca) (.slice sb nb cb) (.slice sc nc cc)).toArray 78)
  have hI1 := hI.bl b0
  have hbn := burn_ok _ hI1.run hk
  obtain ⟨hI2, hvs⟩ := begun (k := k) _ (by simp; omega) hI1 (hSa.imp (b0.mono hN) (ExM.below (b0.mono hN) 8)) hoa (by rw [hSa.len.out]; exact fewS hps hmy)
  have A := (Arr.new w 78 (stC 5 t.nd.v t.nd.f t.nd.t (.slice sa na ca) (.slice sb nb cb) (.slice sc nc cc)).toArray).setOther (a := ⟨gr, 3, none⟩) (.int .i64 (k : Int)) (by have := hI.run.ar.lt; show w.heap.size ≠ gr; omega)
  have a4 := A.cell 4
  have hc : Ch (fun k => k = gr ∨ k = gw ∨ k = gv) w ((w.alloc (.cells (stC 5 t.nd.v t.nd.f t.nd.t (.slice sa na ca) (.slice sb nb cb) (.slice sc nc cc)).toArray 78)).setCell ⟨gr, 3, none⟩ (.int .i64 (k : Int))) := (Ch.ob b0).st _ (fun _ => .inl rfl)
  rw [hev] at hvs
  clear hI hSa hSb hSc hoa hmy hok hI1 h1 hev h hX
  unfold stArgs
  generalize hQ : ((w.alloc (.cells (stC 5 t.nd.v t.nd.f t.nd.t (.slice sa na ca) (.slice sb nb cb) (.slice sc nc cc)).toArray 78)).setCell ⟨gr, 3, none⟩ (.int .i64 (k : Int))) = Q at *
  unfold stC at *
  go_enter Try.func35, Try.ntmps35
  go_wp2_with (first
    | (go_at_call 42; go_must (refine hbn.mono ?_; rintro e w1 ⟨rfl, h, -⟩; replace h := h.symm; subst h))
    | (go_at_call 43; go_must (refine hvs.mono ?_; rintro e w2 ⟨hn, -, hb2⟩; obtain ⟨g, c, hn', hg, hcl, hlc, hgl⟩ := hn _ rfl; subst hn'; have A2 := A.bl hb2; have k0 := A2.cell 0; have x0 := hcl 0 x rfl; have hI3 := hI2.bl hb2)))
  exact ⟨rfl, rfl, hI3, hc.trans (Ch.ob hb2)⟩
set_option maxHeartbeats 2000000 in
theorem stmt_if {x : Int} {B : RR} (w : World) (hN : N ≤ w.heap.size) (hX : XK X Z gr gw) (h : KI X Z N gr gw n p0 p1 kv mv gv nv ⟨W, V, k + 1⟩ w) (hM : StM N w (d + 1) cs t) (hok : okS ps nv (d + 1) t) (hps : ∀ p ∈ ps, p ≤ 64) (h1 : t.nd.k = 3) (hev : evs W V 8 t.nd.a = some [x])
    (hB : ∀ (u : World) (sp : Option Addr) (m cap : Nat), N ≤ u.heap.size → KI X Z N gr gw n p0 p1 kv mv gv nv ⟨W, V, k⟩ u → RS N u 7 (StM N u d) sp m cap (if x = 0 then t.nd.el else t.nd.th) → Calls Try.prog 27 #[.pointer (some ⟨gr, 0, none⟩), .slice sp m cap, .slice (some ⟨gv, 0, none⟩) nv nv] u (KP (KI X Z N gr gw n p0 p1 kv mv gv nv) (PP gr gw gm gv) B u)) :
    Calls Try.prog 35 (stArgs gr gv nv cs) w (KP (KI X Z N gr gw n p0 p1 kv mv gv nv) (PP gr gw gm gv) B w) := by
  obtain ⟨hmy, hoa, -, -⟩ := okS_s hok
  obtain ⟨sa, na, ca, sb, nb, cb, sc, nc, cc, hcs, hk0, hSa, hSb, hSc⟩ := hM
  rw [h1] at hcs
  subst hcs
  have hI := h.st
  replace hI : StI N gr gw n p0 p1 kv mv gv nv W V ((k + 1 : Nat) : Int) w := hI
  have hk : k ≤ 4194304 := by have := h.lf; simp at this; omega
  have b0 := ab w (.cells (stC 3 t.nd.v t.nd.f t.nd.t (.slice sa na ca) (.slice sb nb cb) (.slice sc nc cc)).toArray 78)
  have hI1 := hI.bl b0
  have hbn := burn_ok _ hI1.run hk
  obtain ⟨hI2, hvs⟩ := begun (k := k) _ (by simp; omega) hI1 (hSa.imp (b0.mono hN) (ExM.below (b0.mono hN) 8)) hoa (by rw [hSa.len.out]; exact fewS hps hmy)
  have A := (Arr.new w 78 (stC 3 t.nd.v t.nd.f t.nd.t (.slice sa na ca) (.slice sb nb cb) (.slice sc nc cc)).toArray).setOther (a := ⟨gr, 3, none⟩) (.int .i64 (k : Int)) (by have := hI.run.ar.lt; show w.heap.size ≠ gr; omega)
  have a4 := A.cell 4
  have hc : Ch (fun k => k = gr ∨ k = gw ∨ k = gv) w ((w.alloc (.cells (stC 3 t.nd.v t.nd.f t.nd.t (.slice sa na ca) (.slice sb nb cb) (.slice sc nc cc)).toArray 78)).setCell ⟨gr, 3, none⟩ (.int .i64 (k : Int))) := (Ch.ob b0).st _ (fun _ => .inl rfl)
  have hlowQ := hI.low hN hc
  have hKQ : ∀ u, Below _ _ u → KI X Z N gr gw n p0 p1 kv mv gv nv ⟨W, V, k⟩ u := fun u hb => (KI.of (gm := 0) hX h (r := ⟨0, 0, ⟨W, V, k⟩⟩) (by simp) ⟨rfl, hI2, hc⟩).2.1.bl hX hb
  have hcP : ∀ u, Below _ _ u → Ch (PP gr gw gm gv) w u := fun u hb => (hc.imp fun k hk => by rcases hk with hk | hk | hk; exact .inl hk; exact .inr (.inl hk); exact .inr (.inr (.inr hk))).trans (Ch.ob hb)
  rw [hev] at hvs
  clear hI hSa hoa hmy hok hI1 h1 hev h
  unfold stArgs
  generalize hQ : ((w.alloc (.cells (stC 3 t.nd.v t.nd.f t.nd.t (.slice sa na ca) (.slice sb nb cb) (.slice sc nc cc)).toArray 78)).setCell ⟨gr, 3, none⟩ (.int .i64 (k : Int))) = Q at *
  unfold stC at *
  by_cases hx : x = 0
  · subst hx
    rw [if_pos rfl] at hB
    by_cases hBk : B.k = 0
    · have hee := RR.end_on hBk
      clear hBk
      go_enter Try.func35, Try.ntmps35
      go_wp2_with (first
        | (go_at_call 42; go_must (refine hbn.mono ?_; rintro e w1 ⟨rfl, h, -⟩; replace h := h.symm; subst h))
        | (go_at_call 43; go_must (refine hvs.mono ?_; rintro e w2 ⟨hn, -, hb2⟩; obtain ⟨g, c, hn', hg, hcl, hlc, hgl⟩ := hn _ rfl; subst hn'; have A2 := A.bl hb2; have k0 := A2.cell 0; have kf := A2.cell 6; have x0 := hcl 0 _ rfl; have hlw := hlowQ.trans (hb2.mono (by have := hlowQ.size; omega)); have hcc := hB w2 sc nc cc (by have := hlw.size; omega) (hKQ _ hb2) (hSc.imp hlw (StM.below hlw d)); have hc2 := hcP _ hb2))
        | (go_at_call 27; go_must (refine hcc.mono ?_; rintro e w3 ⟨he, hK3, hc3⟩; replace he := he.trans hee; subst he)))
      go_end0
      exact ⟨hee.symm, hK3, hc2.trans hc3⟩
    · obtain ⟨pv, hee⟩ := RR.end_off hBk
      clear hBk
      go_enter Try.func35, Try.ntmps35
      go_wp2_with (first
        | (go_at_call 42; go_must (refine hbn.mono ?_; rintro e w1 ⟨rfl, h, -⟩; replace h := h.symm; subst h))
        | (go_at_call 43; go_must (refine hvs.mono ?_; rintro e w2 ⟨hn, -, hb2⟩; obtain ⟨g, c, hn', hg, hcl, hlc, hgl⟩ := hn _ rfl; subst hn'; have A2 := A.bl hb2; have k0 := A2.cell 0; have kf := A2.cell 6; have x0 := hcl 0 _ rfl; have hlw := hlowQ.trans (hb2.mono (by have := hlowQ.size; omega)); have hcc := hB w2 sc nc cc (by have := hlw.size; omega) (hKQ _ hb2) (hSc.imp hlw (StM.below hlw d)); have hc2 := hcP _ hb2))
        | (go_at_call 27; go_must (refine hcc.mono ?_; rintro e w3 ⟨he, hK3, hc3⟩; replace he := he.trans hee; subst he)))
      exact ⟨rfl, hee.symm, hK3, hc2.trans hc3⟩
  · rw [if_neg hx] at hB
    by_cases hBk : B.k = 0
    · have hee := RR.end_on hBk
      clear hBk
      go_enter Try.func35, Try.ntmps35
      go_wp2_with (first
        | (go_at_call 42; go_must (refine hbn.mono ?_; rintro e w1 ⟨rfl, h, -⟩; replace h := h.symm; subst h))
        | (go_at_call 43; go_must (refine hvs.mono ?_; rintro e w2 ⟨hn, -, hb2⟩; obtain ⟨g, c, hn', hg, hcl, hlc, hgl⟩ := hn _ rfl; subst hn'; have A2 := A.bl hb2; have k0 := A2.cell 0; have kf := A2.cell 5; have x0 := hcl 0 _ rfl; have hlw := hlowQ.trans (hb2.mono (by have := hlowQ.size; omega)); have hcc := hB w2 sb nb cb (by have := hlw.size; omega) (hKQ _ hb2) (hSb.imp hlw (StM.below hlw d)); have hc2 := hcP _ hb2))
        | (go_at_call 27; go_must (refine hcc.mono ?_; rintro e w3 ⟨he, hK3, hc3⟩; replace he := he.trans hee; subst he)))
      go_end0
      exact ⟨hee.symm, hK3, hc2.trans hc3⟩
    · obtain ⟨pv, hee⟩ := RR.end_off hBk
      clear hBk
      go_enter Try.func35, Try.ntmps35
      go_wp2_with (first
        | (go_at_call 42; go_must (refine hbn.mono ?_; rintro e w1 ⟨rfl, h, -⟩; replace h := h.symm; subst h))
        | (go_at_call 43; go_must (refine hvs.mono ?_; rintro e w2 ⟨hn, -, hb2⟩; obtain ⟨g, c, hn', hg, hcl, hlc, hgl⟩ := hn _ rfl; subst hn'; have A2 := A.bl hb2; have k0 := A2.cell 0; have kf := A2.cell 5; have x0 := hcl 0 _ rfl; have hlw := hlowQ.trans (hb2.mono (by have := hlowQ.size; omega)); have hcc := hB w2 sb nb cb (by have := hlw.size; omega) (hKQ _ hb2) (hSb.imp hlw (StM.below hlw d)); have hc2 := hcP _ hb2))
        | (go_at_call 27; go_must (refine hcc.mono ?_; rintro e w3 ⟨he, hK3, hc3⟩; replace he := he.trans hee; subst he)))
      exact ⟨rfl, hee.symm, hK3, hc2.trans hc3⟩
end Go.Proofs.Ytmljihggooaboaa
/- Layer interp: a loop. -/
namespace Go.Proofs.Ytmljihggooaboaa
open Go.RowKit
set_option maxRecDepth 100000
set_option linter.unusedVariables false
set_option linter.unusedSimpArgs false

variable {X : World → Prop} {Z N gr gw n gm : Nat} {p0 p1 kv mv : Value} {gv nv : Nat} {W V : List Int} {d k : Nat} {t : StT (d + 1)} {cs : List Value} {ps : List Int} {E : Env}
def lfOf (gr : Nat) (w : World) : Nat := match w.cell? ⟨gr, 3, none⟩ with | some v => (intOf v).toNat | none => 0
theorem KI.lfOf {s : SS} {w : World} (h : KI X Z N gr gw n p0 p1 kv mv gv nv s w) : lfOf gr w = s.lf := by
  unfold Ytmljihggooaboaa.lfOf
  rw [h.st.run.ar.cell 3]
  show (intOf (.int .i64 (s.lf : Int))).toNat = _
  simp [intOf]
theorem onef {a : Nat} {L : List Int} (h : L.length = a) (h1 : (a : Int) = 1) : ∃ x, L = [x] := by
  match L, h with
  | [x], _ => exact ⟨x, rfl⟩
  | [], h => subst h; simp at h1
  | _ :: _ :: _, h => subst h; simp at h1; omega
/-- Behind the parts: fuel, and the condition once more. -/
theorem again {sa : Option Addr} {na ca : Nat} {l : List (ExT 8)} {k2 : Nat} {W2 V2 : List Int} (hX : XK X Z gr gw) (u : World) (hN : N ≤ u.heap.size) (h : KI X Z N gr gw n p0 p1 kv mv gv nv ⟨W2, V2, k2 + 1⟩ u) (hS : RS N u 5 (ExM N u 8) sa na ca l) (hok : ∀ a ∈ l, okX nv 8 a) (hna : na ≤ 64) :
    KI X Z N gr gw n p0 p1 kv mv gv nv ⟨W2, V2, k2⟩ (u.setCell ⟨gr, 3, none⟩ (.int .i64 (k2 : Int))) ∧ Ch (PP gr gw gm gv) u (u.setCell ⟨gr, 3, none⟩ (.int .i64 (k2 : Int))) ∧ Calls Try.prog 42 #[.pointer (some ⟨gr, 0, none⟩)] u (fun e w' => e = .returned (.tuple #[]) ∧ w' = u.setCell ⟨gr, 3, none⟩ (.int .i64 (k2 : Int))) ∧
    Calls Try.prog 43 #[.pointer (some ⟨gr, 0, none⟩), .slice sa na ca, .slice (some ⟨gv, 0, none⟩) nv nv] (u.setCell ⟨gr, 3, none⟩ (.int .i64 (k2 : Int))) (VsP (evs W2 V2 8 l) (u.setCell ⟨gr, 3, none⟩ (.int .i64 (k2 : Int)))) := by
  have hk : k2 ≤ 4194304 := by have := h.lf; simp at this; omega
  obtain ⟨h2, hv⟩ := begun (k := k2) u hN h.st hS hok hna
  have hc : ∀ P : Nat → Prop, P gr → Ch P u (u.setCell ⟨gr, 3, none⟩ (.int .i64 (k2 : Int))) := fun P hP => (Ch.refl P u).st _ (fun _ => hP)
  refine ⟨⟨h2, hX _ _ h.x h.zz (hc _ (.inl rfl)), h.z, hk⟩, hc _ (.inl rfl), (burn_ok u h.st.run hk).mono fun e w' ⟨h1, h2, _⟩ => ⟨h1, h2⟩, hv⟩
set_option maxHeartbeats 4000000 in
theorem stmt_while {x : Int} {G : Nat} (w : World) (hN : N ≤ w.heap.size) (hX : XK X Z gr gw) (h : KI X Z N gr gw n p0 p1 kv mv gv nv ⟨W, V, k + 1⟩ w) (hM : StM N w (d + 1) cs t) (hok : okS ps nv (d + 1) t) (hps : ∀ p ∈ ps, p ≤ 64) (h1 : t.nd.k = 4) (hm : N ≤ gm) (hmz : gm < Z) (hev : evs W V 8 t.nd.a = some [x]) (hG : k ≤ G)
    (hB : ∀ (G' : Nat) (s : SS) (u : World) (sp : Option Addr) (m cap : Nat), G' ≤ G → s.lf ≤ G' → N ≤ u.heap.size → KI X Z N gr gw n p0 p1 kv mv gv nv s u → RS N u 7 (StM N u d) sp m cap t.nd.th → Calls Try.prog 27 #[.pointer (some ⟨gr, 0, none⟩), .slice sp m cap, .slice (some ⟨gv, 0, none⟩) nv nv] u (KP (KI X Z N gr gw n p0 p1 kv mv gv nv) (PP gr gw gm gv) (runL (stm E G' d) t.nd.th s) u)) :
    Calls Try.prog 35 (stArgs gr gv nv cs) w (KP (KI X Z N gr gw n p0 p1 kv mv gv nv) (PP gr gw gm gv) (one E (runL (stm E G d)) (stm E G (d + 1) t) (runL (stm E G 8)) t.nd [x] ⟨W, V, k⟩) w) := by
  obtain ⟨hmy, hoa, -, -⟩ := okS_s hok
  obtain ⟨sa, na, ca, sb, nb, cb, sc, nc, cc, hcs, hk0, hSa, hSb, hSc⟩ := hM
  rw [h1] at hcs
  subst hcs
  have hI := h.st
  replace hI : StI N gr gw n p0 p1 kv mv gv nv W V ((k + 1 : Nat) : Int) w := hI
  have hk : k ≤ 4194304 := by have := h.lf; simp at this; omega
  have b0 := ab w (.cells (stC 4 t.nd.v t.nd.f t.nd.t (.slice sa na ca) (.slice sb nb cb) (.slice sc nc cc)).toArray 78)
  have hI1 := hI.bl b0
  have hbn := burn_ok _ hI1.run hk
  obtain ⟨hI2, hvs⟩ := begun (k := k) _ (by simp; omega) hI1 (hSa.imp (b0.mono hN) (ExM.below (b0.mono hN) 8)) hoa (by rw [hSa.len.out]; exact fewS hps hmy)
  have A := (Arr.new w 78 (stC 4 t.nd.v t.nd.f t.nd.t (.slice sa na ca) (.slice sb nb cb) (.slice sc nc cc)).toArray).setOther (a := ⟨gr, 3, none⟩) (.int .i64 (k : Int)) (by have := hI.run.ar.lt; show w.heap.size ≠ gr; omega)
  have a4 := A.cell 4
  have hc : Ch (fun k => k = gr ∨ k = gw ∨ k = gv) w ((w.alloc (.cells (stC 4 t.nd.v t.nd.f t.nd.t (.slice sa na ca) (.slice sb nb cb) (.slice sc nc cc)).toArray 78)).setCell ⟨gr, 3, none⟩ (.int .i64 (k : Int))) := (Ch.ob b0).st _ (fun _ => .inl rfl)
  have hlowQ := hI.low hN hc
  have hKQ : ∀ u, Below _ _ u → KI X Z N gr gw n p0 p1 kv mv gv nv ⟨W, V, k⟩ u := fun u hb => (KI.of (gm := 0) hX h (r := ⟨0, 0, ⟨W, V, k⟩⟩) (by simp) ⟨rfl, hI2, hc⟩).2.1.bl hX hb
  have hcP : ∀ u, Below _ _ u → Ch (PP gr gw gm gv) w u := fun u hb => (hc.imp fun k hk => by rcases hk with hk | hk | hk; exact .inl hk; exact .inr (.inl hk); exact .inr (.inr (.inr hk))).trans (Ch.ob hb)
  have hwP : ¬ PP gr gw gm gv w.heap.size := by
    have q1 := hI.run.ar.lt; have q2 := hI.run.aw.lt; have q3 := hI.var.av.lt; have q4 := h.zz
    rintro (e | e | e | e) <;> omega
  have hal : (t.nd.a.length : Int) = 1 := by simp [mayS, h1] at hmy; omega
  have hna : na ≤ 64 := by rw [hSa.len.out]; exact fewS hps hmy
  rw [hev] at hvs
  obtain ⟨R, hR⟩ : ∃ R, one E (runL (stm E G d)) (stm E G (d + 1) t) (runL (stm E G 8)) t.nd [x] ⟨W, V, k⟩ = R := ⟨_, rfl⟩
  rw [hR]
  clear hmy hok hI1 hev
  unfold stArgs
  generalize hQ : ((w.alloc (.cells (stC 4 t.nd.v t.nd.f t.nd.t (.slice sa na ca) (.slice sb nb cb) (.slice sc nc cc)).toArray 78)).setCell ⟨gr, 3, none⟩ (.int .i64 (k : Int))) = Q at *
  unfold stC at a4 hQ hbn ⊢
  go_enter Try.func35, Try.ntmps35
  go_upto_region 13 with (first
    | (go_at_call 42; go_must (refine hbn.mono ?_; rintro e w1 ⟨rfl, h, -⟩; replace h := h.symm; subst h))
    | (go_at_call 43; go_must (refine hvs.mono ?_; rintro e w2 ⟨hn, -, hb2⟩; obtain ⟨g, c, hn', hg, hcl, hlc, hgl⟩ := hn _ rfl; subst hn'; have A2 := A.bl hb2; have k0 : w2.cell? ⟨w.heap.size, 0, none⟩ = some (.int .u8 4) := A2.cell 0; have x0z := hcl 0 _ rfl)))
  go_loopw [6] (fun a wr => ∃ (G' : Nat) (s : SS) (g c : Nat) (x : Int), a = .slice (some ⟨g, 0, none⟩) 1 c ∧ wr.cell? ⟨g, 0, none⟩ = some (.int .u64 x) ∧ g < wr.heap.size ∧ 1 ≤ c ∧ Hid (s.lf ≤ G' ∧ G' ≤ G) ∧ KI X Z N gr gw n p0 p1 kv mv gv nv s wr ∧ Arr wr w.heap.size 78 (stC 4 t.nd.v t.nd.f t.nd.t (.slice sa na ca) (.slice sb nb cb) (.slice sc nc cc)).toArray ∧ Ch (PP gr gw gm gv) w wr ∧ Hid (one E (runL (stm E G' d)) (stm E G' (d + 1) t) (runL (stm E G' 8)) t.nd [x] s = R))
    (fun _ wr => lfOf gr wr)
  case atStart => exact ⟨G, ⟨W, V, k⟩, g, c, x, rfl, x0z, hgl, hlc, hid ⟨hG, Nat.le_refl _⟩, hKQ _ hb2, A2, hcP _ hb2, hid hR⟩
  case round =>
    obtain ⟨G', s, g, c, x, rfl, x0, hg, hc1, hGG, hK, hA, hch, hr⟩ := hrel
    obtain ⟨hg1, hg2⟩ := hGG.out
    have hrr := hr.out
    have e4 : t.nd.k = 4 := h1
    rw [one_4 e4] at hrr
    have hlow := h.low hm hN hch
    have hsz := hlow.size
    clear hr hGG hR hb2 x0z k0 A2 hgl hlc hvs hbn a4 hKQ hcP hcl
    by_cases hx : x = 0
    · subst hx
      rw [if_pos rfl] at hrr
      subst hrr
      go_wp2_with fail
      go_end0
      exact ⟨rfl, hK, hch⟩
    rw [if_neg hx] at hrr
    have hcc := hB G' s wr sb nb cb hg2 hg1 (by omega) hK (hSb.imp hlow (StM.below hlow d))
    have kf : wr.cell? ⟨w.heap.size, 5, none⟩ = some (.slice sb nb cb) := hA.cell 5
    generalize hBB : runL (stm E G' d) t.nd.th s = B at *
    have hlf : B.s.lf ≤ s.lf := by rw [← hBB]; exact runL_lf (stm_lf G' d) _ _
    by_cases hBk : B.k = 0
    · rw [if_pos hBk] at hrr
      have hee := RR.end_on hBk
      obtain ⟨bk, bx, W2, V2, l2⟩ := B
      replace hlf : l2 ≤ s.lf := hlf
      replace hrr : stm E G' (d + 1) t ⟨W2, V2, l2⟩ = R := hrr
      cases l2 with
      | zero =>
        rw [stm_sp _ _ rfl] at hrr
        clear hBB hBk hlf
        subst hrr
        go_wp2_with (first
          | (go_at_call 27; go_must (refine hcc.mono ?_; rintro e w3 ⟨he, hK3, hc3⟩; replace he := he.trans hee; subst he; have hbn := burn_no w3 hK3.st.run))
          | (go_at_call 42; go_must (refine hbn.mono ?_; rintro e w1 ⟨rfl, h⟩; replace h := h.symm; subst h)))
        exact ⟨rfl, rfl, hK3, hch.trans hc3⟩
      | succ k2 =>
        obtain ⟨G2, rfl⟩ : ∃ G2, G' = G2 + 1 := ⟨G' - 1, by omega⟩
        cases hev2 : evs W2 V2 8 t.nd.a with
        | none =>
          rw [stm_tr hev2] at hrr
          clear hBB hBk hlf
          subst hrr
          go_wp2_with (first
            | (go_at_call 27; go_must (refine hcc.mono ?_; rintro e w3 ⟨he, hK3, hc3⟩; replace he := he.trans hee; subst he; have hl3 := hK.low hm (by omega) hc3; have hl4 := hlow.trans hl3; obtain ⟨hK4, hc4, hbn, hvs⟩ := again (gm := gm) hX w3 (by have := hl4.size; omega) hK3 (hSa.imp hl4 (ExM.below hl4 8)) hoa hna; have kf4 : w3.cell? ⟨w.heap.size, 4, none⟩ = some (.slice sa na ca) := (hc3.arr hA hwP).cell 4; rw [hev2] at hvs))
            | (go_at_call 42; go_must (refine hbn.mono ?_; rintro e w1 ⟨rfl, h⟩; replace h := h.symm; subst h))
            | (go_at_call 43; go_must (refine hvs.mono ?_; rintro e w4 ⟨-, hn, hb4⟩; have hn' := hn rfl; subst hn')))
          exact ⟨rfl, rfl, hK4.bl hX hb4, ((hch.trans hc3).trans hc4).trans (Ch.ob hb4)⟩
        | some L =>
          rw [stm_on hev2] at hrr
          obtain ⟨x2, rfl⟩ := onef (evs_len _ _ hev2) hal
          have hrr2 := hid hrr
          have hgg2 : Hid (k2 ≤ G2 ∧ G2 ≤ G) := hid ⟨by omega, by omega⟩
          have hms : Hid (k2 < s.lf) := hid (by omega)
          clear hBB hBk hlf hrr
          go_wp2_with (first
            | (go_at_call 27; go_must (refine hcc.mono ?_; rintro e w3 ⟨he, hK3, hc3⟩; replace he := he.trans hee; subst he; have hl3 := hK.low hm (by omega) hc3; have hl4 := hlow.trans hl3; obtain ⟨hK4, hc4, hbn, hvs⟩ := again (gm := gm) hX w3 (by have := hl4.size; omega) hK3 (hSa.imp hl4 (ExM.below hl4 8)) hoa hna; have A3 := hc3.arr hA hwP; have kf4 : w3.cell? ⟨w.heap.size, 4, none⟩ = some (.slice sa na ca) := A3.cell 4; rw [hev2] at hvs))
            | (go_at_call 42; go_must (refine hbn.mono ?_; rintro e w1 ⟨rfl, h⟩; replace h := h.symm; subst h))
            | (go_at_call 43; go_must (refine hvs.mono ?_; rintro e w4 ⟨hn, -, hb4⟩; obtain ⟨g4, c4, hn', hg4, hcl4, hlc4, hgl4⟩ := hn _ rfl; subst hn')))
          go_roundw
          case rel => exact ⟨G2, ⟨W2, V2, k2⟩, g4, c4, x2, rfl, hcl4 0 _ rfl, hgl4, hlc4, hgg2, hK4.bl hX hb4, (hc4.arr A3 hwP).bl hb4, ((hch.trans hc3).trans hc4).trans (Ch.ob hb4), hrr2⟩
          case measure => rw [(hK4.bl hX hb4).lfOf, hK.lfOf]; exact hms.out
    · rw [if_neg hBk] at hrr
      obtain ⟨pv, hee⟩ := RR.end_off hBk
      clear hBB hBk hlf
      subst hrr
      go_wp2_with (go_at_call 27; go_must (refine hcc.mono ?_; rintro e w3 ⟨he, hK3, hc3⟩; replace he := he.trans hee; subst he))
      exact ⟨rfl, hee.symm, hK3, hch.trans hc3⟩
end Go.Proofs.Ytmljihggooaboaa
/- A row of a region that draws its order, in short. -/
namespace Go.Proofs.Ytmljihggooaboaa
open Go.RowKit
/-- An operation that only yields, taken ahead of the rest. -/
theorem tk {P : Program} {ops : Array Oper} {Q : Exit → Act → World → Prop} {md : Region.Mode} {S : World → Prop} (i : Nat) {dst : Option Tmp} {op : Op} {ty : TypeId} {pos : String} {af : Array Edge} {gd : Option (Nat × Bool)} {v : Value} {fuel : Nat} {listed : Array Bool} {a a' : Act} {w : World} (hi : ops[i]? = some ⟨dst, op, ty, pos, af, gd⟩)
    (h : wpAnyH P md ops Q S fuel (listed.setIfInBounds i true) a' w)
    (hs : Region.noSelect ops = true := by kernel_rfl) (hf : Region.free md ops listed i = true := by kernel_rfl) (hr : (Region.ready md ops listed).contains i = true := by kernel_rfl)
    (hw : Region.wanted ⟨dst, op, ty, pos, af, gd⟩ (yielded ops a.tmps) = true := by rfl)
    (hy : ∀ u, S u → (execOp a.eval ⟨dst, op, ty, pos, af, gd⟩).run P u = .ok (.value v) u := by (intro u hSw; go_simp; try (with_reducible rfl)))
    (hQ : ∀ c a w, Q (.panic c) (a.put dst v) w → Q (.panic c) a w := by exact fun _ _ _ h => h)
    (ha : a.put dst v = a' := by (conv => (lhs; try simp only [Act.put, List.setIfInBounds_toArray, List.set_cons_zero, List.set_cons_succ])); (try rfl)) (hS : S w := by assumption) : wpAnyH P md ops Q S (fuel + 1) listed a w :=
  wpAnyH_take hi hs hf hr hQ (Or.inl ⟨hw, hy⟩) hS (by rw [ha]; exact h)
theorem tks {P : Program} {ops : Array Oper} {Q : Exit → Act → World → Prop} {md : Region.Mode} {S : World → Prop} (i : Nat) {dst : Option Tmp} {op : Op} {ty : TypeId} {pos : String} {af : Array Edge} {gd : Option (Nat × Bool)} {v : Value} {fuel : Nat} {listed : Array Bool} {a a' : Act} {w : World} (hi : ops[i]? = some ⟨dst, op, ty, pos, af, gd⟩)
    (h : wpAnyH P md ops Q S fuel (listed.setIfInBounds i true) a' w)
    (hs : Region.noSelect ops = true := by kernel_rfl) (hf : Region.free md ops listed i = true := by kernel_rfl) (hr : (Region.ready md ops listed).contains i = true := by kernel_rfl)
    (hw : Region.wanted ⟨dst, op, ty, pos, af, gd⟩ (yielded ops a.tmps) = true := by rfl)
    (hy : ∀ u, S u → (execOp a.eval ⟨dst, op, ty, pos, af, gd⟩).run P u = .ok (.value v) u := by (intro u hSw; subst hSw; go_simp; try (with_reducible rfl)))
    (hQ : ∀ c a w, Q (.panic c) (a.put dst v) w → Q (.panic c) a w := by exact fun _ _ _ h => h)
    (ha : a.put dst v = a' := by (conv => (lhs; try simp only [Act.put, List.setIfInBounds_toArray, List.set_cons_zero, List.set_cons_succ])); (try rfl)) (hS : S w := by assumption) : wpAnyH P md ops Q S (fuel + 1) listed a w :=
  wpAnyH_take hi hs hf hr hQ (Or.inl ⟨hw, hy⟩) hS (by rw [ha]; exact h)
theorem tk2 {P : Program} {ops : Array Oper} {Q : Exit → Act → World → Prop} {md : Region.Mode} {S : World → Prop} (i : Nat) {dst : Option Tmp} {op : Op} {ty : TypeId} {pos : String} {af : Array Edge} {gd : Option (Nat × Bool)} {v : Value} {fuel : Nat} {listed : Array Bool} {a a' : Act} {w : World} (hi : ops[i]? = some ⟨dst, op, ty, pos, af, gd⟩)
    (h : wpAnyH P md ops Q S fuel (listed.setIfInBounds i true) a' w)
    (hs : Region.noSelect ops = true := by kernel_rfl) (hf : Region.free md ops listed i = true := by kernel_rfl) (hr : (Region.ready md ops listed).contains i = true := by kernel_rfl)
    (hw : Region.wanted ⟨dst, op, ty, pos, af, gd⟩ (yielded ops a.tmps) = true := by rfl)
    (hy : ∀ u, S u → (execOp a.eval ⟨dst, op, ty, pos, af, gd⟩).run P u = .ok (.value v) u := by (intro u hSw; obtain ⟨s1, s2⟩ := hSw; go_simp; try (with_reducible rfl)))
    (hQ : ∀ c a w, Q (.panic c) (a.put dst v) w → Q (.panic c) a w := by exact fun _ _ _ h => h)
    (ha : a.put dst v = a' := by (conv => (lhs; try simp only [Act.put, List.setIfInBounds_toArray, List.set_cons_zero, List.set_cons_succ])); (try rfl)) (hS : S w := by assumption) : wpAnyH P md ops Q S (fuel + 1) listed a w :=
  wpAnyH_take hi hs hf hr hQ (Or.inl ⟨hw, hy⟩) hS (by rw [ha]; exact h)
theorem tk3 {P : Program} {ops : Array Oper} {Q : Exit → Act → World → Prop} {md : Region.Mode} {S : World → Prop} (i : Nat) {dst : Option Tmp} {op : Op} {ty : TypeId} {pos : String} {af : Array Edge} {gd : Option (Nat × Bool)} {v : Value} {fuel : Nat} {listed : Array Bool} {a a' : Act} {w : World} (hi : ops[i]? = some ⟨dst, op, ty, pos, af, gd⟩)
    (h : wpAnyH P md ops Q S fuel (listed.setIfInBounds i true) a' w)
    (hs : Region.noSelect ops = true := by kernel_rfl) (hf : Region.free md ops listed i = true := by kernel_rfl) (hr : (Region.ready md ops listed).contains i = true := by kernel_rfl)
    (hw : Region.wanted ⟨dst, op, ty, pos, af, gd⟩ (yielded ops a.tmps) = true := by rfl)
    (hy : ∀ u, S u → (execOp a.eval ⟨dst, op, ty, pos, af, gd⟩).run P u = .ok (.value v) u := by (intro u hSw; obtain ⟨s1, s2, s3⟩ := hSw; go_simp; try (with_reducible rfl)))
    (hQ : ∀ c a w, Q (.panic c) (a.put dst v) w → Q (.panic c) a w := by exact fun _ _ _ h => h)
    (ha : a.put dst v = a' := by (conv => (lhs; try simp only [Act.put, List.setIfInBounds_toArray, List.set_cons_zero, List.set_cons_succ])); (try rfl)) (hS : S w := by assumption) : wpAnyH P md ops Q S (fuel + 1) listed a w :=
  wpAnyH_take hi hs hf hr hQ (Or.inl ⟨hw, hy⟩) hS (by rw [ha]; exact h)
theorem dn {P : Program} {ops : Array Oper} {Q : Exit → Act → World → Prop} {md : Region.Mode} {S : World → Prop} {listed : Array Bool} {a : Act} {w : World} {fuel : Nat} (h : Q .normal a w) (hr : Region.ready md ops listed = [] := by kernel_rfl) : wpAnyH P md ops Q S fuel listed a w := wpAnyH_done hr h fuel
theorem rgn {P : Program} {ops : Array Oper} {Q : Exit → Act → World → Prop} (S : World → Prop) {id : Nat} {a : Act} {w : World} (hS : S w.drew) (h : S w.drew → wpAnyH P .any ops Q S ops.size (Array.replicate ops.size false) a w.drew) (hm : P.follows .mixedOrders = true := by kernel_rfl) : (Code.region id ops true).wp P Q a w := wp_region_held_drew hm hS h
/-- .. whose value is told by a law. -/
theorem tl {P : Program} {ops : Array Oper} {Q : Exit → Act → World → Prop} {md : Region.Mode} {S : World → Prop} (i : Nat) {dst : Option Tmp} {op : Op} {ty : TypeId} {pos : String} {af : Array Edge} {gd : Option (Nat × Bool)} {v : Value} {fuel : Nat} {listed : Array Bool} {a a' : Act} {w : World} (hi : ops[i]? = some ⟨dst, op, ty, pos, af, gd⟩)
    (hy : YieldsIf P ops S ⟨dst, op, ty, pos, af, gd⟩ v a) (h : wpAnyH P md ops Q S fuel (listed.setIfInBounds i true) a' w)
    (hs : Region.noSelect ops = true := by kernel_rfl) (hf : Region.free md ops listed i = true := by kernel_rfl) (hr : (Region.ready md ops listed).contains i = true := by kernel_rfl)
    (hQ : ∀ c a w, Q (.panic c) (a.put dst v) w → Q (.panic c) a w := by exact fun _ _ _ h => h)
    (ha : a.put dst v = a' := by (conv => (lhs; try simp only [Act.put, List.setIfInBounds_toArray, List.set_cons_zero, List.set_cons_succ])); (try rfl)) (hS : S w := by assumption) : wpAnyH P md ops Q S (fuel + 1) listed a w :=
  wpAnyH_take hi hs hf hr hQ hy hS (by rw [ha]; exact h)
/-- The one operation that may come up. -/
theorem rd {P : Program} {ops : Array Oper} {Q : Exit → Act → World → Prop} {md : Region.Mode} {S : World → Prop} (i : Nat) {dst : Option Tmp} {op : Op} {ty : TypeId} {pos : String} {af : Array Edge} {gd : Option (Nat × Bool)} {fuel : Nat} {listed : Array Bool} {a : Act} {w : World} (hi : ops[i]? = some ⟨dst, op, ty, pos, af, gd⟩) (h : (∀ K' : Act → World → Prop, Shut (∀ a w, S w → (S w → wpAnyH P md ops Q S fuel (listed.setIfInBounds i true) a w) → K' a w) → if Region.wanted ⟨dst, op, ty, pos, af, gd⟩ (yielded ops a.tmps) = true then Oper.wp P ⟨dst, op, ty, pos, af, gd⟩ a w K' Q else K' (a.put dst undef) w))
    (hr : Region.ready md ops listed = [i] := by kernel_rfl) : wpAnyH P md ops Q S (fuel + 1) listed a w :=
  wpAnyH_ready hr (by simp) (AllReadyH.cons hi h AllReadyH.nil)
/-- .. of two. -/
theorem rd2 {P : Program} {ops : Array Oper} {Q : Exit → Act → World → Prop} {md : Region.Mode} {S : World → Prop} (i j : Nat) {dst : Option Tmp} {op : Op} {ty : TypeId} {pos : String} {af : Array Edge} {gd : Option (Nat × Bool)} {dst2 : Option Tmp} {op2 : Op} {ty2 : TypeId} {pos2 : String} {af2 : Array Edge} {gd2 : Option (Nat × Bool)} {fuel : Nat} {listed : Array Bool} {a : Act} {w : World} (hi : ops[i]? = some ⟨dst, op, ty, pos, af, gd⟩) (hj : ops[j]? = some ⟨dst2, op2, ty2, pos2, af2, gd2⟩) (h : (∀ K' : Act → World → Prop, Shut (∀ a w, S w → (S w → wpAnyH P md ops Q S fuel (listed.setIfInBounds i true) a w) → K' a w) → if Region.wanted ⟨dst, op, ty, pos, af, gd⟩ (yielded ops a.tmps) = true then Oper.wp P ⟨dst, op, ty, pos, af, gd⟩ a w K' Q else K' (a.put dst undef) w)) (h2 : (∀ K' : Act → World → Prop, Shut (∀ a w, S w → (S w → wpAnyH P md ops Q S fuel (listed.setIfInBounds j true) a w) → K' a w) → if Region.wanted ⟨dst2, op2, ty2, pos2, af2, gd2⟩ (yielded ops a.tmps) = true then Oper.wp P ⟨dst2, op2, ty2, pos2, af2, gd2⟩ a w K' Q else K' (a.put dst2 undef) w))
    (hr : Region.ready md ops listed = [i, j] := by kernel_rfl) : wpAnyH P md ops Q S (fuel + 1) listed a w :=
  wpAnyH_ready hr (by simp) (AllReadyH.cons hi h (AllReadyH.cons hj h2 AllReadyH.nil))
/-- Back into the region. -/
theorem ko {P : Program} {ops : Array Oper} {Q : Exit → Act → World → Prop} {md : Region.Mode} {S : World → Prop} {K : Act → World → Prop} {fuel : Nat} {listed : Array Bool} {a a' : Act} {w : World} (hK : Shut (∀ a w, S w → (S w → wpAnyH P md ops Q S fuel listed a w) → K a w)) (hS : S w) (h : S w → wpAnyH P md ops Q S fuel listed a' w)
    (ha : a = a' := by (conv => (lhs; try simp only [Act.put, List.setIfInBounds_toArray, List.set_cons_zero, List.set_cons_succ])); (try rfl)) : K a w := by
  subst ha
  exact hK.out _ _ hS h
end Go.Proofs.Ytmljihggooaboaa

/- Jl, Jm. -/
import Derived.Test.YtmljihggooaboaaW09
import Derived.Test.YtmljihggooaboaaW10
import Derived.Test.YtmljihggooaboaaW22
import Derived.Test.YtmljihggooaboaaW11
import Derived.Test.YtmljihggooaboaaW19
/- Layer interp: what a run comes to are words (pure). -/
namespace Go.Proofs.Ytmljihggooaboaa
open Go.RowKit
set_option maxRecDepth 100000
set_option linter.unusedVariables false
set_option linter.unusedSimpArgs false

theorem RS.mem {α : Type} {N : Nat} {w : World} {sz : Nat} {R : List Value → α → Prop} {sp : Option Addr} {n cap : Nat} {l : List α} (h : RS N w sz R sp n cap l) {a : α} (ha : a ∈ l) : ∃ cs, R cs a := by
  obtain ⟨i, hi⟩ := List.getElem?_of_mem ha
  have hlt := (List.getElem?_eq_some_iff.1 hi).1
  obtain ⟨g, off, -, -, hB⟩ := h.at0 (by rw [h.len.out]; omega)
  obtain ⟨cs, -, hR⟩ := hB i a hi
  exact ⟨cs, hR⟩
/-- Its numbers are words. -/
def cuE : (d : Nat) → ExT d → Prop
  | 0, _ => True
  | d + 1, t => U64 t.nd.n ∧ ∀ a ∈ t.nd.l, cuE d a
def cuS : (d : Nat) → StT d → Prop
  | 0, _ => True
  | d + 1, t => (∀ a ∈ t.nd.a, cuE 8 a) ∧ (∀ a ∈ t.nd.th, cuS d a) ∧ (∀ a ∈ t.nd.el, cuS d a)
theorem ExM.cu {N : Nat} {w : World} : ∀ (d : Nat) (cs : List Value) (t : ExT d), ExM N w d cs t → cuE d t
  | 0, _, _, _ => trivial
  | d + 1, _, t, h => by
    obtain ⟨sp, m, cap, -, hk, hR⟩ := h
    refine ⟨hk.n, fun a ha => ?_⟩
    obtain ⟨cs, hc⟩ := hR.mem ha
    exact ExM.cu d cs a hc
theorem StM.cu {N : Nat} {w : World} : ∀ (d : Nat) (cs : List Value) (t : StT d), StM N w d cs t → cuS d t
  | 0, _, _, _ => trivial
  | d + 1, _, t, h => by
    obtain ⟨sa, na, ca, sb, nb, cb, sc, nc, cc, -, -, h1, h2, h3⟩ := h
    refine ⟨fun a ha => ?_, fun a ha => ?_, fun a ha => ?_⟩
    · obtain ⟨cs, hc⟩ := h1.mem ha
      exact ExM.cu 8 cs a hc
    · obtain ⟨cs, hc⟩ := h2.mem ha
      exact StM.cu d cs a hc
    · obtain ⟨cs, hc⟩ := h3.mem ha
      exact StM.cu d cs a hc
theorem evX_u {W V : List Int} {vs : Int} (hW : ∀ x ∈ W, U64 x) (hV : ∀ x ∈ V, U64 x) : ∀ (d : Nat) (t : ExT d) (x : Int), cuE d t → okX vs d t → evX W V d t = some x → U64 x
  | 0, _, _, _, _, h => by cases h
  | d + 1, t, x, hc, hok, h => by
    obtain ⟨hmy, hch⟩ := okX_s hok
    unfold evX at h
    by_cases h1 : t.nd.k = 1
    · rw [if_pos h1] at h
      cases h
      exact hc.1
    rw [if_neg h1] at h
    by_cases h2 : t.nd.k = 2
    · rw [if_pos h2] at h
      cases h
      exact U64_getD hV _
    rw [if_neg h2] at h
    by_cases h4 : t.nd.k = 4
    · rw [if_pos h4] at h
      cases e1 : t.nd.l[0]? with
      | none => rw [e1] at h; cases h
      | some a =>
        rw [e1] at h
        replace h : (evX W V d a).bind (fun x => if x < W.length then some (W.getD x.toNat 0) else none) = some x := h
        cases e2 : evX W V d a with
        | none => rw [e2] at h; cases h
        | some y =>
          rw [e2] at h
          replace h : (if y < W.length then some (W.getD y.toNat 0) else none) = some x := h
          split at h
          · cases h; exact U64_getD hW _
          · cases h
    rw [if_neg h4] at h
    have h3 : t.nd.k = 3 ∧ 5 ≤ t.nd.o ∧ t.nd.o ≤ 16 := by
      unfold mayE at hmy
      rw [if_neg h1, if_neg h2] at hmy
      by_cases h3 : t.nd.k = 3
      · rw [if_pos h3] at hmy
        have := of_decide_eq_true hmy
        exact ⟨h3, this.1, this.2.1⟩
      · rw [if_neg h3, if_neg h4] at hmy
        cases hmy
    cases e1 : t.nd.l[0]? with
    | none => rw [e1] at h; cases h
    | some a =>
      rw [e1] at h
      cases e2 : t.nd.l[1]? with
      | none => rw [e2] at h; cases h
      | some b =>
        rw [e2] at h
        replace h : (evX W V d a).bind (fun x => (evX W V d b).bind fun y => rk t.nd.o x y) = some x := h
        cases e3 : evX W V d a with
        | none => rw [e3] at h; cases h
        | some p =>
          rw [e3] at h
          replace h : (evX W V d b).bind (fun y => rk t.nd.o p y) = some x := h
          cases e4 : evX W V d b with
          | none => rw [e4] at h; cases h
          | some q =>
            rw [e4] at h
            exact rkU h3.2 (evX_u hW hV d a p (hc.2 a (List.mem_of_getElem? e1)) (hch a (List.mem_of_getElem? e1)) e3) (evX_u hW hV d b q (hc.2 b (List.mem_of_getElem? e2)) (hch b (List.mem_of_getElem? e2)) e4) h
theorem evs_u {W V : List Int} {vs : Int} {d : Nat} (hW : ∀ x ∈ W, U64 x) (hV : ∀ x ∈ V, U64 x) : ∀ (l : List (ExT d)) (L : List Int), (∀ a ∈ l, cuE d a) → (∀ a ∈ l, okX vs d a) → evs W V d l = some L → ∀ x ∈ L, U64 x
  | [], L, _, _, h => by cases h; exact fun x hx => by cases hx
  | a :: r, L, hc, ho, h => by
    unfold evs at h
    cases h1 : evX W V d a with
    | none => rw [h1] at h; cases h
    | some x =>
      rw [h1] at h
      cases h2 : evs W V d r with
      | none => rw [h2] at h; cases h
      | some R =>
        rw [h2] at h
        cases h
        intro y hy
        rcases List.mem_cons.1 hy with rfl | hy
        · exact evX_u hW hV d a _ (hc a (by simp)) (ho a (by simp)) h1
        · exact evs_u hW hV r R (fun b hb => hc b (by simp [hb])) (fun b hb => ho b (by simp [hb])) h2 y hy
def UU (s : SS) : Prop := (∀ x ∈ s.W, U64 x) ∧ ∀ x ∈ s.V, U64 x
def RU (r : RR) : Prop := UU r.s ∧ U64 r.x
theorem u0 : U64 0 := by unfold U64; omega
theorem runL_u {α : Type} {F : α → SS → RR} : ∀ (l : List α) (s : SS), (∀ t ∈ l, ∀ s, UU s → RU (F t s)) → UU s → RU (runL F l s)
  | [], s, _, h => ⟨h, u0⟩
  | t :: l, s, hF, h => by
    have h1 := hF t (by simp) s h
    unfold runL
    split
    · exact runL_u l _ (fun a ha => hF a (by simp [ha])) h1.1
    · exact h1
theorem U_set {L : List Int} {j : Nat} {y : Int} (h1 : ∀ x ∈ L, U64 x) (h2 : U64 y) : ∀ x ∈ L.set j y, U64 x := fun x hx => by
  rcases List.mem_or_eq_of_mem_set hx with h | h
  · exact h1 x h
  · rw [h]; exact h2
structure EnvU (E : Env) : Prop where
  hsh : ∀ W t a b z W', (∀ x ∈ W, U64 x) → E.hsh W t a b z = some W' → ∀ x ∈ W', U64 x
  prm : ∀ W a b, E.prm W a = some b → U64 (b.length : Int) ∧ ∀ x, U64 (E.pce b x)
  fs : ∀ f ∈ E.fs, ∀ b ∈ f.b, cuS 8 b ∧ ∃ ps vs, okS ps vs 8 b
theorem stm_u {E : Env} (hE : EnvU E) : ∀ (G d : Nat) (t : StT d) (s : SS) (ps : List Int) (vs : Int), UU s → cuS d t → okS ps vs d t → RU (stm E G d t s)
  | 0, d, t, s, ps, vs, h, _, _ => ⟨h, u0⟩
  | G + 1, 0, t, s, ps, vs, h, _, _ => ⟨h, u0⟩
  | G + 1, d + 1, t, s, ps, vs, h, hc, hok => by
    obtain ⟨W, V, lf⟩ := s
    obtain ⟨hmy, hoa, hob, hoe⟩ := okS_s hok
    cases lf with
    | zero => rw [stm_sp t _ rfl]; exact ⟨h, u0⟩
    | succ k =>
      cases hev : evs W V 8 t.nd.a with
      | none => rw [stm_tr hev]; exact ⟨h, u0⟩
      | some L =>
        have hL := evs_u h.1 h.2 _ _ hc.1 hoa hev
        have hL0 : ∀ i, U64 (L.getD i 0) := fun i => U64_getD hL i
        rw [stm_on hev]
        have hS : UU ⟨W, V, k⟩ := h
        have hB : ∀ l : List (StT d), (∀ a ∈ l, cuS d a) → (∀ a ∈ l, okS ps vs d a) → ∀ s, UU s → RU (runL (stm E G d) l s) := fun l h1 h2 s hs => runL_u l s (fun a ha s hs => stm_u hE G d a s ps vs hs (h1 a ha) (h2 a ha)) hs
        unfold one
        by_cases h1 : t.nd.k = 1
        · rw [if_pos h1]; exact ⟨⟨h.1, U_set h.2 (hL0 0)⟩, u0⟩
        rw [if_neg h1]
        by_cases h2 : t.nd.k = 2
        · rw [if_pos h2]
          split
          · exact ⟨⟨U_set h.1 (hL0 1), h.2⟩, u0⟩
          · exact ⟨h, u0⟩
        rw [if_neg h2]
        by_cases h3 : t.nd.k = 3
        · rw [if_pos h3]
          split
          · exact hB _ hc.2.2 hoe _ hS
          · exact hB _ hc.2.1 hob _ hS
        rw [if_neg h3]
        by_cases h4 : t.nd.k = 4
        · rw [if_pos h4]
          have hb := hB _ hc.2.1 hob _ hS
          split
          · exact ⟨h, u0⟩
          · split
            · exact stm_u hE G (d + 1) t _ ps vs hb.1 hc hok
            · exact hb
        rw [if_neg h4]
        by_cases h5 : t.nd.k = 5
        · rw [if_pos h5]; exact ⟨h, hL0 0⟩
        rw [if_neg h5]
        by_cases h6 : t.nd.k = 6
        · rw [if_pos h6]
          have hC : RU (runL (stm E G 8) ((E.fs[t.nd.f.toNat]?).elim [] FuT.b) (fr0 ⟨W, V, k⟩ ((E.fs[t.nd.f.toNat]?).elim 0 FuT.v) L)) := by
            refine runL_u _ _ (fun a ha s hs => ?_) ⟨h.1, fun x hx => ?_⟩
            · cases hf : E.fs[t.nd.f.toNat]? with
              | none => rw [hf] at ha; cases ha
              | some f =>
                rw [hf] at ha
                obtain ⟨g1, ps', vs', g2⟩ := hE.fs f (List.mem_of_getElem? hf) a ha
                exact stm_u hE G 8 a s ps' vs' hs g1 g2
            · rcases List.mem_append.1 hx with h | h
              · exact hL x h
              · rw [(List.mem_replicate.1 h).2]; exact u0
          unfold back
          split
          · exact ⟨⟨hC.1.1, U_set h.2 u0⟩, u0⟩
          · split
            · exact ⟨⟨hC.1.1, U_set h.2 hC.2⟩, u0⟩
            · exact ⟨⟨hC.1.1, h.2⟩, u0⟩
        rw [if_neg h6]
        by_cases h7 : t.nd.k = 7
        · rw [if_pos h7]
          split
          · exact ⟨h, u0⟩
          · next W' hw => exact ⟨⟨hE.hsh _ _ _ _ _ _ h.1 hw, h.2⟩, u0⟩
        rw [if_neg h7]
        by_cases h8 : t.nd.k = 8
        · rw [if_pos h8]
          split
          · exact ⟨h, u0⟩
          · next b hb => exact ⟨⟨h.1, U_set h.2 ((hE.prm _ _ _ hb).2 _)⟩, u0⟩
        rw [if_neg h8]
        split
        · exact ⟨h, u0⟩
        · next b hb => exact ⟨⟨h.1, U_set h.2 (hE.prm _ _ _ hb).1⟩, u0⟩
/-- This layer's. -/
def EV (fs : List FuT) (es : List En) : Env := ⟨fs, hsW, prW es, fun b a => pcN b a.toNat 8⟩
theorem prW_bd {es : List En} {W : List Int} {a : Int} {b : List Int} (hes : ∀ e ∈ es, Bts e.bs ∧ e.bs.length ≤ 140737488355328) (h : prW es W a = some b) : Bts b ∧ b.length ≤ 140737488355328 := by
  unfold prW at h
  split at h
  · cases h
  · obtain ⟨e, he, rfl⟩ := Option.map_eq_some_iff.1 h
    refine hes e ?_
    unfold pre at he
    split at he
    · next e' he' =>
      split at he
      · cases he; exact List.mem_of_find?_eq_some he'
      · cases he
    · cases he
theorem EV.u {fs : List FuT} {es : List En} (hes : ∀ e ∈ es, Bts e.bs ∧ e.bs.length ≤ 140737488355328) (hfs : ∀ f ∈ fs, ∀ b ∈ f.b, cuS 8 b ∧ ∃ ps vs, okS ps vs 8 b) : EnvU (EV fs es) := by
  refine ⟨fun W t a b z W' hW h => ?_, fun W a b h => ?_, hfs⟩
  · replace h : hsW W t a b z = some W' := h
    unfold hsW at h
    split at h
    · cases h
    split at h
    · cases h
    split at h
    · cases h
    cases h
    exact mem_put4 hW (fun j hj => wsu_u _ hj)
  · have := prW_bd hes h
    exact ⟨by unfold U64; omega, fun x => pcN_u this.1 _⟩
end Go.Proofs.Ytmljihggooaboaa
/- Layer interp: every statement. -/
namespace Go.Proofs.Ytmljihggooaboaa
open Go.RowKit
set_option maxRecDepth 100000
set_option linter.unusedVariables false
set_option linter.unusedSimpArgs false

theorem len1 {α : Type} {L : List α} (h : L.length = 1) : ∃ x, L = [x] := by
  match L, h with
  | [x], _ => exact ⟨x, rfl⟩
theorem len2 {α : Type} {L : List α} (h : L.length = 2) : ∃ x y, L = [x, y] := by
  match L, h with
  | [x, y], _ => exact ⟨x, y, rfl⟩
theorem len3 {α : Type} {L : List α} (h : L.length = 3) : ∃ x y z, L = [x, y, z] := by
  match L, h with
  | [x, y, z], _ => exact ⟨x, y, z, rfl⟩
/-- The functions may be. -/
def okF (fs : List FuT) : Prop := ∀ i f, fs[i]? = some f → (0 ≤ f.v ∧ f.v ≤ 64 ∧ 0 ≤ f.p ∧ f.p ≤ f.v) ∧ ∀ b ∈ f.b, okS ((fs.take i).map FuT.p) f.v 8 b
theorem okF.ps {fs : List FuT} (h : okF fs) (i : Nat) : ∀ p ∈ (fs.take i).map FuT.p, p ≤ 64 := by
  intro p hp
  obtain ⟨f, hf, rfl⟩ := List.mem_map.1 hp
  obtain ⟨j, hj⟩ := List.getElem?_of_mem (List.mem_of_mem_take hf)
  have := (h j f hj).1
  omega
variable {Z N gr gw n gm : Nat} {p1 : Value} {es : List En} {kp : Option Addr} {kn kc : Nat} {fp : Option Addr} {fm fc : Nat} {fs : List FuT}
/-- What stays all through a run. -/
abbrev XR (fs : List FuT) (es : List En) (Z N gm : Nat) (kp : Option Addr) (kn kc : Nat) (fp : Option Addr) (fm fc : Nat) : World → Prop := XB (fun u => RS N u 3 (FuM N u) fp fm fc fs) es Z N gm kp kn kc
abbrev KR (fs : List FuT) (es : List En) (Z N gr gw n gm : Nat) (p1 : Value) (kp : Option Addr) (kn kc : Nat) (fp : Option Addr) (fm fc : Nat) (gv nv : Nat) : SS → World → Prop := KI (XR fs es Z N gm kp kn kc fp fm fc) Z N gr gw n (.slice fp fm fc) p1 (.slice kp kn kc) (.map (some gm)) gv nv
structure PL (Z N gr gw gm : Nat) : Prop where
  nz : N ≤ Z
  m1 : N ≤ gm
  m2 : gm < Z
  rz : gr < Z
  wz : gw < Z
  n1 : gm ≠ gr
  n2 : gm ≠ gw
  r1 : N ≤ gr
  w1 : N ≤ gw
set_option maxHeartbeats 1000000 in
theorem stm_any (hp : PL Z N gr gw gm) (hF0 : okF fs) (hU : EnvU (EV fs es)) : ∀ (G d : Nat) (t : StT d) (s : SS) (gv nv i : Nat) (w : World) (cs : List Value), N ≤ w.heap.size → s.lf ≤ G → KR fs es Z N gr gw n gm p1 kp kn kc fp fm fc gv nv s w → StM N w d cs t → okS ((fs.take i).map FuT.p) nv d t →
    Calls Try.prog 35 (stArgs gr gv nv cs) w (KP (KR fs es Z N gr gw n gm p1 kp kn kc fp fm fc gv nv) (PP gr gw gm gv) (stm (EV fs es) G d t s) w) := by
  have hX : XK (XR fs es Z N gm kp kn kc fp fm fc) Z gr gw := XB.keeps hp.r1 hp.w1 hp.nz hp.rz hp.wz hp.m2 hp.n1 hp.n2
  intro G
  induction G using Nat.strongRecOn with
  | _ G ih =>
    intro d t s gv nv i w cs hN hl hK hM hok
    have hBod : ∀ (d' G' : Nat) (l : List (StT d')) (gv nv i : Nat) (s : SS) (u : World) (sp : Option Addr) (m cap : Nat), G' < G → (∀ a ∈ l, okS ((fs.take i).map FuT.p) nv d' a) → s.lf ≤ G' → N ≤ u.heap.size → KR fs es Z N gr gw n gm p1 kp kn kc fp fm fc gv nv s u → RS N u 7 (StM N u d') sp m cap l → Calls Try.prog 27 #[.pointer (some ⟨gr, 0, none⟩), .slice sp m cap, .slice (some ⟨gv, 0, none⟩) nv nv] u (KP (KR fs es Z N gr gw n gm p1 kp kn kc fp fm fc gv nv) (PP gr gw gm gv) (runL (stm (EV fs es) G' d') l s) u) := by
      intro d' G' l gv nv i s u sp m cap hG' hol hlf hNu hKu hSu
      refine Calls.mono (stmts_any (fun s u => KR fs es Z N gr gw n gm p1 kp kn kc fp fm fc gv nv s u ∧ s.lf ≤ G') (fun s u u' h hb => ⟨h.1.bl hX hb, h.2⟩) (PP gr gw gm gv) (fun k hk => ?_) (stm (EV fs es) G' d') s u hNu ⟨hKu, hlf⟩ hSu (fun a ha s2 u2 cs2 hN2 hK2 hM2 => ?_)) (fun e w' h => ⟨h.1, h.2.1.1, h.2.2⟩)
      · rcases hk with h | h | h | h
        · rw [h]; exact hp.r1
        · rw [h]; exact hp.w1
        · rw [h]; exact hp.m1
        · rw [h]; exact hKu.st.l3
      · exact Calls.mono (ih G' hG' d' a s2 gv nv i u2 cs2 hN2 hK2.2 hK2.1 hM2 (hol a ha)) (fun e w' h => ⟨h.1, ⟨h.2.1, Nat.le_trans (stm_lf _ _ _ _) hK2.2⟩, h.2.2⟩)
    cases d with
    | zero => obtain ⟨_, _, h⟩ := hok; cases h
    | succ d =>
      obtain ⟨W, V, lf⟩ := s
      cases lf with
      | zero =>
        rw [stm_sp t _ rfl]
        exact Calls.mono (stmt_spent w hK.st hM) (fun e w' hq => hK.of hX (by simp) hq)
      | succ k =>
        replace hl : k + 1 ≤ G := hl
        obtain ⟨G, rfl⟩ : ∃ G', G = G' + 1 := ⟨G - 1, by omega⟩
        have hk4 : k + 1 ≤ 4194304 := hK.lf
        obtain ⟨hmy, hoa, hob, hoe⟩ := okS_s hok
        have hps := hF0.ps i
        have hcu := StM.cu _ _ _ hM
        have hWn : W.length = n := hK.st.run.len.out
        cases hev : evs W V 8 t.nd.a with
        | none =>
          rw [stm_tr hev]
          exact Calls.mono (stmt_trap w hN hK.st (by omega) hM hok hps hev) (fun e w' hq => hK.of hX (by simp) hq)
        | some L =>
          have hL := evs_u hK.st.run.wU hK.st.var.vU _ _ hcu.1 hoa hev
          have hln := evs_len _ _ hev
          rw [stm_on hev]
          by_cases h1 : t.nd.k = 1
          · have hv : (0 ≤ t.nd.v ∧ t.nd.v < nv) ∧ (t.nd.a.length : Int) = 1 := by simp [mayS, h1] at hmy; omega
            obtain ⟨x, rfl⟩ := len1 (show L.length = 1 by omega)
            have e1 : one (EV fs es) (runL (stm (EV fs es) G d)) (stm (EV fs es) G (d + 1) t) (runL (stm (EV fs es) G 8)) t.nd [x] ⟨W, V, k⟩ = ⟨0, 0, ⟨W, V.set t.nd.v.toNat x, k⟩⟩ := by unfold one; rw [if_pos h1]; rfl
            rw [e1]
            exact Calls.mono (stmt_set w hN hK.st (by omega) hM hok hps h1 hev (hL x (by simp))) (fun e w' hq => hK.of hX (by simp) hq)
          by_cases h2 : t.nd.k = 2
          · have hv : (t.nd.a.length : Int) = 2 := by simp [mayS, h2] at hmy; omega
            obtain ⟨q, x, rfl⟩ := len2 (show L.length = 2 by omega)
            have hq := hL q (by simp)
            have e1 : one (EV fs es) (runL (stm (EV fs es) G d)) (stm (EV fs es) G (d + 1) t) (runL (stm (EV fs es) G 8)) t.nd [q, x] ⟨W, V, k⟩ = if q < W.length then ⟨0, 0, ⟨W.set q.toNat x, V, k⟩⟩ else ⟨2, 0, ⟨W, V, k⟩⟩ := by unfold one; rw [if_neg h1, if_pos h2]; rfl
            rw [e1]
            by_cases hqn : q < W.length
            · rw [if_pos hqn]
              have hq0 := hq.1
              have hq1 : ((q.toNat : Nat) : Int) = q := Int.toNat_of_nonneg hq0
              rw [← hq1] at hev
              exact Calls.mono (stmt_store (q := q.toNat) w hN hK.st (by omega) hM hok hps h2 hev (hL x (by simp)) (by omega)) (fun e w' hq => hK.of hX (by simp) hq)
            · rw [if_neg hqn]
              exact stmt_stno w hN hX hK hM hok hps h2 hev (by rw [← hWn]; exact hqn)
          by_cases h3 : t.nd.k = 3
          · have hv : (t.nd.a.length : Int) = 1 := by simp [mayS, h3] at hmy; omega
            obtain ⟨x, rfl⟩ := len1 (show L.length = 1 by omega)
            have e1 : one (EV fs es) (runL (stm (EV fs es) G d)) (stm (EV fs es) G (d + 1) t) (runL (stm (EV fs es) G 8)) t.nd [x] ⟨W, V, k⟩ = runL (stm (EV fs es) G d) (if x = 0 then t.nd.el else t.nd.th) ⟨W, V, k⟩ := by unfold one; rw [if_neg h1, if_neg h2, if_pos h3]; rfl
            rw [e1]
            refine stmt_if w hN hX hK hM hok hps h3 hev (fun u sp m cap h1 h2 h3 => hBod d G _ gv nv i _ u sp m cap (by omega) ?_ (by show k ≤ G; omega) h1 h2 h3)
            split
            · exact hoe
            · exact hob
          by_cases h4 : t.nd.k = 4
          · have hv : (t.nd.a.length : Int) = 1 := by simp [mayS, h4] at hmy; omega
            obtain ⟨x, rfl⟩ := len1 (show L.length = 1 by omega)
            exact stmt_while w hN hX hK hM hok hps h4 hp.m1 hp.m2 hev (by omega) (fun G' s u sp m cap g1 g2 g3 g4 g5 => hBod d G' _ gv nv i s u sp m cap (by omega) hob g2 g3 g4 g5)
          by_cases h5 : t.nd.k = 5
          · have hv : (t.nd.a.length : Int) = 1 := by simp [mayS, h5] at hmy; omega
            obtain ⟨x, rfl⟩ := len1 (show L.length = 1 by omega)
            have e1 : one (EV fs es) (runL (stm (EV fs es) G d)) (stm (EV fs es) G (d + 1) t) (runL (stm (EV fs es) G 8)) t.nd [x] ⟨W, V, k⟩ = ⟨1, x, ⟨W, V, k⟩⟩ := by unfold one; rw [if_neg h1, if_neg h2, if_neg h3, if_neg h4, if_pos h5]; rfl
            rw [e1]
            exact stmt_ret w hN hX hK hM hok hps h5 hev
          by_cases h6 : t.nd.k = 6
          · have hv : (0 ≤ t.nd.v ∧ t.nd.v < nv) ∧ tkB ((fs.take i).map FuT.p) t.nd.f t.nd.a.length = true := by
              unfold mayS at hmy
              rw [if_neg (by omega), if_neg (by omega), if_neg (by omega), if_neg (by omega), if_neg (by omega), if_pos h6] at hmy
              have := of_decide_eq_true hmy
              exact ⟨this.1, this.2.1⟩
            have hk2 := of_decide_eq_true (show decide _ = true from hv.2)
            have hjf : t.nd.f.toNat < (fs.take i).length := by have := hk2.2.1; rw [List.length_map] at this; omega
            obtain ⟨f, hf⟩ : ∃ f, (fs.take i)[t.nd.f.toNat]? = some f := ⟨_, List.getElem?_eq_getElem hjf⟩
            have hf2 : fs[t.nd.f.toNat]? = some f := by
              rw [List.getElem?_take_of_lt (by have := hjf; rw [List.length_take] at this; omega)] at hf
              exact hf
            have hpv : (t.nd.a.length : Int) = f.p := by
              have := hk2.2.2
              rw [List.getD_eq_getElem?_getD, List.getElem?_map, hf] at this
              exact this
            obtain ⟨hfb, hfo⟩ := hF0 _ f hf2
            have e1 : one (EV fs es) (runL (stm (EV fs es) G d)) (stm (EV fs es) G (d + 1) t) (runL (stm (EV fs es) G 8)) t.nd L ⟨W, V, k⟩ = back ⟨W, V, k⟩ t.nd.v (runL (stm (EV fs es) G 8) f.b ⟨W, L ++ List.replicate (f.v.toNat - L.length) 0, k⟩) := by
              unfold one
              rw [if_neg h1, if_neg h2, if_neg h3, if_neg h4, if_neg h5, if_pos h6]
              show back _ _ (runL _ ((fs[t.nd.f.toNat]?).elim [] FuT.b) (fr0 _ ((fs[t.nd.f.toNat]?).elim 0 FuT.v) L)) = _
              rw [hf2]
              rfl
            rw [e1]
            have hru : RU (runL (stm (EV fs es) G 8) f.b ⟨W, L ++ List.replicate (f.v.toNat - L.length) 0, k⟩) := by
              refine runL_u _ _ (fun a ha s hs => ?_) ⟨hK.st.run.wU, fun x hx => ?_⟩
              · obtain ⟨g1, ps', vs', g2⟩ := hU.fs f (List.mem_of_getElem? hf2) a ha
                exact stm_u hU G 8 a s ps' vs' hs g1 g2
              · rcases List.mem_append.1 hx with h | h
                · exact hL x h
                · rw [(List.mem_replicate.1 h).2]; exact u0
            have hlf := runL_lf (fun t s => stm_lf (E := EV fs es) G 8 t s) f.b ⟨W, L ++ List.replicate (f.v.toNat - L.length) 0, k⟩
            replace hlf : _ ≤ k := hlf
            exact stmt_call (j := t.nd.v.toNat) (jf := t.nd.f.toNat) (nf := f.v.toNat) w hN hX hK hM hok hps h6 hp.m1 hp.m2 hp.rz hp.wz hev hL hK.x.rst (by omega) (by omega) (by omega) hf2 (by omega) (by omega) (by omega) (by unfold fvB; split; exact hru.2; exact u0) (by omega)
              (fun gv' u sp m cap g1 g2 g3 => hBod 8 G f.b gv' f.v.toNat t.nd.f.toNat _ u sp m cap (by omega) (fun a ha => by have := hfo a ha; rw [show f.v = ((f.v.toNat : Nat) : Int) by omega] at this; exact this) (by show k ≤ G; omega) g1 g2 g3)
          by_cases h7 : t.nd.k = 7
          · have hv : (t.nd.a.length : Int) = 3 := by simp [mayS, h7] at hmy; omega
            obtain ⟨a, b, z, rfl⟩ := len3 (show L.length = 3 by omega)
            cases hh : hsW W t.nd.t a b z with
            | none =>
              have e1 : one (EV fs es) (runL (stm (EV fs es) G d)) (stm (EV fs es) G (d + 1) t) (runL (stm (EV fs es) G 8)) t.nd [a, b, z] ⟨W, V, k⟩ = ⟨2, 0, ⟨W, V, k⟩⟩ := by
                unfold one
                rw [if_neg h1, if_neg h2, if_neg h3, if_neg h4, if_neg h5, if_neg h6, if_pos h7]
                show (match hsW W t.nd.t a b z with | none => _ | some W => _) = _
                rw [hh]
              rw [e1]
              exact stmt_hashno w hN hX hK hM hok hps h7 hev (hL a (by simp)) (hL b (by simp)) (hL z (by simp)) hh
            | some W2 =>
              have e1 : one (EV fs es) (runL (stm (EV fs es) G d)) (stm (EV fs es) G (d + 1) t) (runL (stm (EV fs es) G 8)) t.nd [a, b, z] ⟨W, V, k⟩ = ⟨0, 0, ⟨W2, V, k⟩⟩ := by
                unfold one
                rw [if_neg h1, if_neg h2, if_neg h3, if_neg h4, if_neg h5, if_neg h6, if_pos h7]
                show (match hsW W t.nd.t a b z with | none => _ | some W => _) = _
                rw [hh]
              rw [e1]
              exact stmt_hash w hN hX hK hM hok hps h7 hev (hL a (by simp)) (hL b (by simp)) (hL z (by simp)) hh
          by_cases h8 : t.nd.k = 8
          · have hv : (0 ≤ t.nd.v ∧ t.nd.v < nv) ∧ (t.nd.a.length : Int) = 2 := by simp [mayS, h8] at hmy; omega
            obtain ⟨a, b, rfl⟩ := len2 (show L.length = 2 by omega)
            cases hh : prW es W a with
            | none =>
              have e1 : one (EV fs es) (runL (stm (EV fs es) G d)) (stm (EV fs es) G (d + 1) t) (runL (stm (EV fs es) G 8)) t.nd [a, b] ⟨W, V, k⟩ = ⟨2, 0, ⟨W, V, k⟩⟩ := by
                unfold one
                rw [if_neg h1, if_neg h2, if_neg h3, if_neg h4, if_neg h5, if_neg h6, if_neg h7, if_pos h8]
                show (match prW es W a with | none => _ | some b => _) = _
                rw [hh]
              rw [e1]
              exact stmt_preno (j := t.nd.v.toNat) hh w hN hX hK hM hok hps h8 hev (hL a (by simp)) (hL b (by simp)) (by omega) (by omega) hp.nz hp.m1 hp.m2 hp.n1 hp.n2
            | some bs =>
              have e1 : one (EV fs es) (runL (stm (EV fs es) G d)) (stm (EV fs es) G (d + 1) t) (runL (stm (EV fs es) G 8)) t.nd [a, b] ⟨W, V, k⟩ = ⟨0, 0, ⟨W, V.set t.nd.v.toNat (pcN bs b.toNat 8), k⟩⟩ := by
                unfold one
                rw [if_neg h1, if_neg h2, if_neg h3, if_neg h4, if_neg h5, if_neg h6, if_neg h7, if_pos h8]
                show (match prW es W a with | none => _ | some b => _) = _
                rw [hh]
                rfl
              rw [e1]
              exact stmt_pre (j := t.nd.v.toNat) hh w hN hX hK hM hok hps h8 hev (hL a (by simp)) (hL b (by simp)) (by omega) (by omega) hp.nz hp.m1 hp.m2 hp.n1 hp.n2
          have h9 : t.nd.k = 9 := by
            unfold mayS at hmy
            by_cases h9 : t.nd.k = 9
            · exact h9
            · rw [if_neg (by omega), if_neg h2, if_neg h3, if_neg h4, if_neg h5, if_neg h6, if_neg h7, if_neg h8] at hmy
              cases hmy
          have hv : (0 ≤ t.nd.v ∧ t.nd.v < nv) ∧ (t.nd.a.length : Int) = 1 := by simp [mayS, h9] at hmy; omega
          obtain ⟨a, rfl⟩ := len1 (show L.length = 1 by omega)
          cases hh : prW es W a with
          | none =>
            have e1 : one (EV fs es) (runL (stm (EV fs es) G d)) (stm (EV fs es) G (d + 1) t) (runL (stm (EV fs es) G 8)) t.nd [a] ⟨W, V, k⟩ = ⟨2, 0, ⟨W, V, k⟩⟩ := by
              unfold one
              rw [if_neg h1, if_neg h2, if_neg h3, if_neg h4, if_neg h5, if_neg h6, if_neg h7, if_neg h8]
              show (match prW es W a with | none => _ | some b => _) = _
              rw [hh]
            rw [e1]
            exact stmt_plenno (j := t.nd.v.toNat) (b := 0) hh w hN hX hK hM hok hps h9 hev (hL a (by simp)) u0 (by omega) (by omega) hp.nz hp.m1 hp.m2 hp.n1 hp.n2
          | some bs =>
            have e1 : one (EV fs es) (runL (stm (EV fs es) G d)) (stm (EV fs es) G (d + 1) t) (runL (stm (EV fs es) G 8)) t.nd [a] ⟨W, V, k⟩ = ⟨0, 0, ⟨W, V.set t.nd.v.toNat (bs.length : Int), k⟩⟩ := by
              unfold one
              rw [if_neg h1, if_neg h2, if_neg h3, if_neg h4, if_neg h5, if_neg h6, if_neg h7, if_neg h8]
              show (match prW es W a with | none => _ | some b => _) = _
              rw [hh]
              rfl
            rw [e1]
            exact stmt_plen (j := t.nd.v.toNat) (b := 0) hh w hN hX hK hM hok hps h9 hev (hL a (by simp)) u0 (by omega) (by omega) hp.nz hp.m1 hp.m2 hp.n1 hp.n2
end Go.Proofs.Ytmljihggooaboaa

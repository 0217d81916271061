/- Layer interp: what a run comes to are words (pure). -/
import Derived.Test.YtmljihggooaboaaX12
import Derived.Test.YtmljihggooaboaaX15
import Derived.Test.YtmljihggooaboaaX34
namespace Go.Proofs.Ytmljihggooaboaa
open Go.RowKit
set_option maxRecDepth 100000
set_option linter.unusedVariables false
set_option linter.unusedSimpArgs false

theorem RS.mem {α : Type} {N : Nat} {w : World} {sz : Nat} {R : List Value → α → Prop} {sp : Option Addr} {n cap : Nat} {l : List α} (h : RS N w sz R sp n cap l) {a : α} (ha : a ∈ l) : ∃ cs, R cs a := by
  obtain ⟨i, hi⟩ := List.getElem?_of_mem ha
  have hlt := (List.getElem?_eq_some_iff.1 hi).1
  obtain ⟨g, off, -, -, hB⟩ := h.at0 (by rw [h.len.out]; omega)
  obtain ⟨cs, -, hR⟩ := hB i a hi
  exact ⟨cs, hR⟩
/-- Its numbers are words. -/
def cuE : (d : Nat) → ExT d → Prop
  | 0, _ => True
  | d + 1, t => U64 t.nd.n ∧ ∀ a ∈ t.nd.l, cuE d a
def cuS : (d : Nat) → StT d → Prop
  | 0, _ => True
  | d + 1, t => (∀ a ∈ t.nd.a, cuE 8 a) ∧ (∀ a ∈ t.nd.th, cuS d a) ∧ (∀ a ∈ t.nd.el, cuS d a)
theorem ExM.cu {N : Nat} {w : World} : ∀ (d : Nat) (cs : List Value) (t : ExT d), ExM N w d cs t → cuE d t
  | 0, _, _, _ => trivial
  | d + 1, _, t, h => by
    obtain ⟨sp, m, cap, -, hk, hR⟩ := h
    refine ⟨hk.n, fun a ha => ?_⟩
    obtain ⟨cs, hc⟩ := hR.mem ha
    exact ExM.cu d cs a hc
theorem StM.cu {N : Nat} {w : World} : ∀ (d : Nat) (cs : List Value) (t : StT d), StM N w d cs t → cuS d t
  | 0, _, _, _ => trivial
  | d + 1, _, t, h => by
    obtain ⟨sa, na, ca, sb, nb, cb, sc, nc, cc, -, -, h1, h2, h3⟩ := h
    refine ⟨fun a ha => ?_, fun a ha => ?_, fun a ha => ?_⟩
    · obtain ⟨cs, hc⟩ := h1.mem ha
      exact ExM.cu 8 cs a hc
    · obtain ⟨cs, hc⟩ := h2.mem ha
      exact StM.cu d cs a hc
    · obtain ⟨cs, hc⟩ := h3.mem ha
      exact StM.cu d cs a hc
theorem evX_u {W V : List Int} {vs : Int} (hW : ∀ x ∈ W, U64 x) (hV : ∀ x ∈ V, U64 x) : ∀ (d : Nat) (t : ExT d) (x : Int), cuE d t → okX vs d t → evX W V d t = some x → U64 x
  | 0, _, _, _, _, h => by cases h
  | d + 1, t, x, hc, hok, h => by
    obtain ⟨hmy, hch⟩ := okX_s hok
    unfold evX at h
    by_cases h1 : t.nd.k = 1
    · rw [if_pos h1] at h
      cases h
      exact hc.1
    rw [if_neg h1] at h
    by_cases h2 : t.nd.k = 2
    · rw [if_pos h2] at h
      cases h
      exact U64_getD hV _
    rw [if_neg h2] at h
    by_cases h4 : t.nd.k = 4
    · rw [if_pos h4] at h
      cases e1 : t.nd.l[0]? with
      | none => rw [e1] at h; cases h
      | some a =>
        rw [e1] at h
        replace h : (evX W V d a).bind (fun x => if x < W.length then some (W.getD x.toNat 0) else none) = some x := h
        cases e2 : evX W V d a with
        | none => rw [e2] at h; cases h
        | some y =>
          rw [e2] at h
          replace h : (if y < W.length then some (W.getD y.toNat 0) else none) = some x := h
          split at h
          · cases h; exact U64_getD hW _
          · cases h
    rw [if_neg h4] at h
    have h3 : t.nd.k = 3 ∧ 5 ≤ t.nd.o ∧ t.nd.o ≤ 16 := by
      unfold mayE at hmy
      rw [if_neg h1, if_neg h2] at hmy
      by_cases h3 : t.nd.k = 3
      · rw [if_pos h3] at hmy
        have := of_decide_eq_true hmy
        exact ⟨h3, this.1, this.2.1⟩
      · rw [if_neg h3, if_neg h4] at hmy
        cases hmy
    cases e1 : t.nd.l[0]? with
    | none => rw [e1] at h; cases h
    | some a =>
      rw [e1] at h
      cases e2 : t.nd.l[1]? with
      | none => rw [e2] at h; cases h
      | some b =>
        rw [e2] at h
        replace h : (evX W V d a).bind (fun x => (evX W V d b).bind fun y => rk t.nd.o x y) = some x := h
        cases e3 : evX W V d a with
        | none => rw [e3] at h; cases h
        | some p =>
          rw [e3] at h
          replace h : (evX W V d b).bind (fun y => rk t.nd.o p y) = some x := h
          cases e4 : evX W V d b with
          | none => rw [e4] at h; cases h
          | some q =>
            rw [e4] at h
            exact rkU h3.2 (evX_u hW hV d a p (hc.2 a (List.mem_of_getElem? e1)) (hch a (List.mem_of_getElem? e1)) e3) (evX_u hW hV d b q (hc.2 b (List.mem_of_getElem? e2)) (hch b (List.mem_of_getElem? e2)) e4) h
theorem evs_u {W V : List Int} {vs : Int} {d : Nat} (hW : ∀ x ∈ W, U64 x) (hV : ∀ x ∈ V, U64 x) : ∀ (l : List (ExT d)) (L : List Int), (∀ a ∈ l, cuE d a) → (∀ a ∈ l, okX vs d a) → evs W V d l = some L → ∀ x ∈ L, U64 x
  | [], L, _, _, h => by cases h; exact fun x hx => by cases hx
  | a :: r, L, hc, ho, h => by
    unfold evs at h
    cases h1 : evX W V d a with
    | none => rw [h1] at h; cases h
    | some x =>
      rw [h1] at h
      cases h2 : evs W V d r with
      | none => rw [h2] at h; cases h
      | some R =>
        rw [h2] at h
        cases h
        intro y hy
        rcases List.mem_cons.1 hy with rfl | hy
        · exact evX_u hW hV d a _ (hc a (by simp)) (ho a (by simp)) h1
        · exact evs_u hW hV r R (fun b hb => hc b (by simp [hb])) (fun b hb => ho b (by simp [hb])) h2 y hy
def UU (s : SS) : Prop := (∀ x ∈ s.W, U64 x) ∧ ∀ x ∈ s.V, U64 x
def RU (r : RR) : Prop := UU r.s ∧ U64 r.x
theorem u0 : U64 0 := by unfold U64; omega
theorem runL_u {α : Type} {F : α → SS → RR} : ∀ (l : List α) (s : SS), (∀ t ∈ l, ∀ s, UU s → RU (F t s)) → UU s → RU (runL F l s)
  | [], s, _, h => ⟨h, u0⟩
  | t :: l, s, hF, h => by
    have h1 := hF t (by simp) s h
    unfold runL
    split
    · exact runL_u l _ (fun a ha => hF a (by simp [ha])) h1.1
    · exact h1
theorem U_set {L : List Int} {j : Nat} {y : Int} (h1 : ∀ x ∈ L, U64 x) (h2 : U64 y) : ∀ x ∈ L.set j y, U64 x := fun x hx => by
  rcases List.mem_or_eq_of_mem_set hx with h | h
  · exact h1 x h
  · rw [h]; exact h2
structure EnvU (E : Env) : Prop where
  hsh : ∀ W t a b z W', (∀ x ∈ W, U64 x) → E.hsh W t a b z = some W' → ∀ x ∈ W', U64 x
  prm : ∀ W a b, E.prm W a = some b → U64 (b.length : Int) ∧ ∀ x, U64 (E.pce b x)
  fs : ∀ f ∈ E.fs, ∀ b ∈ f.b, cuS 8 b ∧ ∃ ps vs, okS ps vs 8 b
theorem stm_u {E : Env} (hE : EnvU E) : ∀ (G d : Nat) (t : StT d) (s : SS) (ps : List Int) (vs : Int), UU s → cuS d t → okS ps vs d t → RU (stm E G d t s)
  | 0, d, t, s, ps, vs, h, _, _ => ⟨h, u0⟩
  | G + 1, 0, t, s, ps, vs, h, _, _ => ⟨h, u0⟩
  | G + 1, d + 1, t, s, ps, vs, h, hc, hok => by
    obtain ⟨W, V, lf⟩ := s
    obtain ⟨hmy, hoa, hob, hoe⟩ := okS_s hok
    cases lf with
    | zero => rw [stm_sp t _ rfl]; exact ⟨h, u0⟩
    | succ k =>
      cases hev : evs W V 8 t.nd.a with
      | none => rw [stm_tr hev]; exact ⟨h, u0⟩
      | some L =>
        have hL := evs_u h.1 h.2 _ _ hc.1 hoa hev
        have hL0 : ∀ i, U64 (L.getD i 0) := fun i => U64_getD hL i
        rw [stm_on hev]
        have hS : UU ⟨W, V, k⟩ := h
        have hB : ∀ l : List (StT d), (∀ a ∈ l, cuS d a) → (∀ a ∈ l, okS ps vs d a) → ∀ s, UU s → RU (runL (stm E G d) l s) := fun l h1 h2 s hs => runL_u l s (fun a ha s hs => stm_u hE G d a s ps vs hs (h1 a ha) (h2 a ha)) hs
        unfold one
        by_cases h1 : t.nd.k = 1
        · rw [if_pos h1]; exact ⟨⟨h.1, U_set h.2 (hL0 0)⟩, u0⟩
        rw [if_neg h1]
        by_cases h2 : t.nd.k = 2
        · rw [if_pos h2]
          split
          · exact ⟨⟨U_set h.1 (hL0 1), h.2⟩, u0⟩
          · exact ⟨h, u0⟩
        rw [if_neg h2]
        by_cases h3 : t.nd.k = 3
        · rw [if_pos h3]
          split
          · exact hB _ hc.2.2 hoe _ hS
          · exact hB _ hc.2.1 hob _ hS
        rw [if_neg h3]
        by_cases h4 : t.nd.k = 4
        · rw [if_pos h4]
          have hb := hB _ hc.2.1 hob _ hS
          split
          · exact ⟨h, u0⟩
          · split
            · exact stm_u hE G (d + 1) t _ ps vs hb.1 hc hok
            · exact hb
        rw [if_neg h4]
        by_cases h5 : t.nd.k = 5
        · rw [if_pos h5]; exact ⟨h, hL0 0⟩
        rw [if_neg h5]
        by_cases h6 : t.nd.k = 6
        · rw [if_pos h6]
          have hC : RU (runL (stm E G 8) ((E.fs[t.nd.f.toNat]?).elim [] FuT.b) (fr0 ⟨W, V, k⟩ ((E.fs[t.nd.f.toNat]?).elim 0 FuT.v) L)) := by
            refine runL_u _ _ (fun a ha s hs => ?_) ⟨h.1, fun x hx => ?_⟩
            · cases hf : E.fs[t.nd.f.toNat]? with
              | none => rw [hf] at ha; cases ha
              | some f =>
                rw [hf] at ha
                obtain ⟨g1, ps', vs', g2⟩ := hE.fs f (List.mem_of_getElem? hf) a ha
                exact stm_u hE G 8 a s ps' vs' hs g1 g2
            · rcases List.mem_append.1 hx with h | h
              · exact hL x h
              · rw [(List.mem_replicate.1 h).2]; exact u0
          unfold back
          split
          · exact ⟨⟨hC.1.1, U_set h.2 u0⟩, u0⟩
          · split
            · exact ⟨⟨hC.1.1, U_set h.2 hC.2⟩, u0⟩
            · exact ⟨⟨hC.1.1, h.2⟩, u0⟩
        rw [if_neg h6]
        by_cases h7 : t.nd.k = 7
        · rw [if_pos h7]
          split
          · exact ⟨h, u0⟩
          · next W' hw => exact ⟨⟨hE.hsh _ _ _ _ _ _ h.1 hw, h.2⟩, u0⟩
        rw [if_neg h7]
        by_cases h8 : t.nd.k = 8
        · rw [if_pos h8]
          split
          · exact ⟨h, u0⟩
          · next b hb => exact ⟨⟨h.1, U_set h.2 ((hE.prm _ _ _ hb).2 _)⟩, u0⟩
        rw [if_neg h8]
        split
        · exact ⟨h, u0⟩
        · next b hb => exact ⟨⟨h.1, U_set h.2 (hE.prm _ _ _ hb).1⟩, u0⟩
/-- This layer's. -/
def EV (fs : List FuT) (es : List En) : Env := ⟨fs, hsW, prW es, fun b a => pcN b a.toNat 8⟩
theorem prW_bd {es : List En} {W : List Int} {a : Int} {b : List Int} (hes : ∀ e ∈ es, Bts e.bs ∧ e.bs.length ≤ 140737488355328) (h : prW es W a = some b) : Bts b ∧ b.length ≤ 140737488355328 := by
  unfold prW at h
  split at h
  · cases h
  · obtain ⟨e, he, rfl⟩ := Option.map_eq_some_iff.1 h
    refine hes e ?_
    unfold pre at he
    split at he
    · next e' he' =>
      split at he
      · cases he; exact List.mem_of_find?_eq_some he'
      · cases he
    · cases he
theorem EV.u {fs : List FuT} {es : List En} (hes : ∀ e ∈ es, Bts e.bs ∧ e.bs.length ≤ 140737488355328) (hfs : ∀ f ∈ fs, ∀ b ∈ f.b, cuS 8 b ∧ ∃ ps vs, okS ps vs 8 b) : EnvU (EV fs es) := by
  refine ⟨fun W t a b z W' hW h => ?_, fun W a b h => ?_, hfs⟩
  · replace h : hsW W t a b z = some W' := h
    unfold hsW at h
    split at h
    · cases h
    split at h
    · cases h
    split at h
    · cases h
    cases h
    exact mem_put4 hW (fun j hj => wsu_u _ hj)
  · have := prW_bd hes h
    exact ⟨by unfold U64; omega, fun x => pcN_u this.1 _⟩
end Go.Proofs.Ytmljihggooaboaa

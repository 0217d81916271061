/- QCb, Jl, Ks, Kt. -/
import Derived.Test.YtimmiidkjpbffaaX01
import Derived.Test.YtimmiidkjpbffaaX02
import Derived.Test.YtimmiidkjpbffaaX03
import Derived.Test.YtimmiidkjpbffaaX20
import Derived.Test.YtimmiidkjpbffaaX08
import Derived.BigQuiet
import Derived.BigRegion
import Derived.ChangeKeysEq
import Derived.ChangeOld
import Derived.Deep.DeepCutAuto
import Derived.Deep.DrawnRows
import Derived.Deep.MidRow
import Derived.Deep.OwnRows
import Derived.Deep.QuietTactic
import Derived.Deep.RegionHeld3
import Derived.Deep.RegionLaw
import Derived.Deep.RegionWith
import Derived.Deep.WholeRow
import Derived.DeepKeys3
import Derived.Great.BuildSlice
import Derived.Great.FillDense
import Derived.Laws.AppendOwnNone
import Derived.Laws.BitsLemmas
import Derived.Laws.BytesArg
import Derived.Laws.CopyOwn
import Derived.Laws.OwnMore
import Derived.Laws.ResultCell
import Derived.Laws.Tables
import Derived.Lib.SlBytesConst
import Derived.LoopIn
import Derived.LoopNIn
import Derived.Maps.AppendAt
import Derived.OpenShut
import Derived.OwnWalkIn
import Derived.ProofKit
import Derived.RangeFuncBound
import Derived.RangeFuncCalls
import Derived.RangeFuncLeaves
import Derived.RangeFuncNested
import Derived.RangeFuncRecord
import Derived.Recover
import Derived.Shelf.Abstract
import Derived.Shelf.RegionOpen
import Derived.ShutString
import Derived.SizedLaws
import Derived.TacticsInMore
import Derived.WalkKit
import Derived.WalkLawsBesides
import Derived.WalkSpells
import Derived.Deep.RegionHeld
import Derived.Handy
import Derived.KernelRfl
import Derived.Laws.AppendOwn
import Derived.Laws.CopyRow
import Derived.Laws.DeepBits32
import Derived.Laws.MakeOwn
import Derived.Lib.AppendZeros
import Derived.LoopTactic
import Derived.OwnWalk
import Derived.Test.YtimmiidkjpbffaaX17
import Derived.Test.YtimmiidkjpbffaaX16
import Derived.Test.YtimmiidkjpbffaaX18
/- Layer compile: what the layers below give. -/
namespace Go.Proofs.Ytimmiidkjpbffaa
open Go.RowKit
set_option maxRecDepth 100000
set_option linter.unusedVariables false
set_option linter.unusedSimpArgs false

/-- An entry: its bytes and where they lie, and its sum. -/
structure En where
  sp : Option Addr
  n : Nat
  cap : Nat
  bs : List Int
  sm : List Int
def En.cells (e : En) : List Value := .slice e.sp e.n e.cap :: by8 e.sm
def En.arr (e : En) : Array Value := e.cells.toArray
structure EnOK (N : Nat) (w : World) (e : En) : Prop where
  body : BS N w e.sp e.n e.cap e.bs
  s32 : e.sm.length = 32
theorem EnOK.below {N : Nat} {w w' : World} {e : En} (h : EnOK N w e) (hb : Below N w w') : EnOK N w' e := ⟨h.body.below hb, h.s32⟩
theorem EnOK.mono {N N' : Nat} {w : World} {e : En} (h : EnOK N w e) (hN : N ≤ N') : EnOK N' w e := ⟨h.body.mono hN, h.s32⟩
theorem EnOK.here {N : Nat} {w : World} {e : En} (h : EnOK N w e) : EnOK w.heap.size w e := ⟨h.body.here, h.s32⟩
theorem En.len {e : En} (h : e.sm.length = 32) : e.cells.length = 33 := by simp [En.cells, by8_len, h]
theorem En.size {e : En} (h : e.sm.length = 32) : e.arr.size = 33 := by simp [En.arr, En.len h]
/-- Entries one behind the other, in blocks below N. -/
structure ES (N : Nat) (w : World) (sp : Option Addr) (n cap : Nat) (es : List En) : Prop where
  len : Hid (n = es.length)
  nil : sp = none → n = 0 ∧ cap = 0
  le : n ≤ cap
  big : cap ≤ 9223372036854775807
  small : n ≤ 140737488355328
  at0 : 0 < n → ∃ g off, sp = some ⟨g, off, none⟩ ∧ g < N ∧ ∀ i e, es[i]? = some e → w.rangeAt g (off + i * 33) e.cells
  ok : ∀ e ∈ es, EnOK N w e
theorem ES.below {N : Nat} {w w' : World} {sp : Option Addr} {n cap : Nat} {es : List En} (h : ES N w sp n cap es) (hb : Below N w w') : ES N w' sp n cap es :=
  ⟨h.len, h.nil, h.le, h.big, h.small, fun h0 => let ⟨b, off, e, hbN, hB⟩ := h.at0 h0; ⟨b, off, e, hbN, fun i X hX => range_below (hB i X hX) hb hbN⟩, fun e he => (h.ok e he).below hb⟩
theorem ES.mono {N N' : Nat} {w : World} {sp : Option Addr} {n cap : Nat} {es : List En} (h : ES N w sp n cap es) (hN : N ≤ N') : ES N' w sp n cap es :=
  ⟨h.len, h.nil, h.le, h.big, h.small, fun h0 => let ⟨b, off, e, hb, hB⟩ := h.at0 h0; ⟨b, off, e, by omega, hB⟩, fun e he => (h.ok e he).mono hN⟩
theorem ES.here {N : Nat} {w : World} {sp : Option Addr} {n cap : Nat} {es : List En} (h : ES N w sp n cap es) : ES w.heap.size w sp n cap es :=
  ⟨h.len, h.nil, h.le, h.big, h.small, fun h0 => by
    obtain ⟨b, off, e, hbN, hB⟩ := h.at0 h0
    refine ⟨b, off, e, ?_, hB⟩
    have hl : 0 < es.length := by rw [← h.len.out]; exact h0
    exact block_lt_of_cell (hB 0 es[0] (List.getElem?_eq_getElem hl) 0 _ rfl), fun e he => (h.ok e he).here⟩
theorem ES.nil0 (N : Nat) (w : World) : ES N w none 0 0 [] := ⟨rfl, fun _ => ⟨rfl, rfl⟩, Nat.le_refl _, by omega, by omega, fun h => absurd h (by omega), fun e h => by cases h⟩
theorem range_c0 {w : World} {g o : Nat} {e : En} (h : w.rangeAt g o e.cells) : w.cell? ⟨g, o, none⟩ = some (.slice e.sp e.n e.cap) := by simpa using h 0 _ rfl
theorem range_sm {w : World} {g o : Nat} {e : En} (h : w.rangeAt g o e.cells) : w.rangeAt g (o + 1) (by8 e.sm) := fun j v hv => by
  rw [Nat.add_assoc, Nat.add_comm 1 j]
  exact h (j + 1) v (by simpa [En.cells] using hv)
end Go.Proofs.Ytimmiidkjpbffaa
/- Layer compile: what the layers below give. -/
namespace Go.Proofs.Ytimmiidkjpbffaa
open Go.RowKit
set_option maxRecDepth 100000
set_option linter.unusedVariables false
set_option linter.unusedSimpArgs false

theorem RS.mem {α : Type} {N : Nat} {w : World} {sz : Nat} {R : List Value → α → Prop} {sp : Option Addr} {n cap : Nat} {l : List α} (h : RS N w sz R sp n cap l) {a : α} (ha : a ∈ l) : ∃ cs, R cs a := by
  obtain ⟨i, hi⟩ := List.getElem?_of_mem ha
  have hlt := (List.getElem?_eq_some_iff.1 hi).1
  obtain ⟨g, off, -, -, hB⟩ := h.at0 (by rw [h.len.out]; omega)
  obtain ⟨cs, -, hR⟩ := hB i a hi
  exact ⟨cs, hR⟩
/-- Its numbers are words. -/
def cuE : (d : Nat) → ExT d → Prop
  | 0, _ => True
  | d + 1, t => U64 t.nd.n ∧ ∀ a ∈ t.nd.l, cuE d a
def cuS : (d : Nat) → StT d → Prop
  | 0, _ => True
  | d + 1, t => (∀ a ∈ t.nd.a, cuE 8 a) ∧ (∀ a ∈ t.nd.th, cuS d a) ∧ (∀ a ∈ t.nd.el, cuS d a)
theorem ExM.cu {N : Nat} {w : World} : ∀ (d : Nat) (cs : List Value) (t : ExT d), ExM N w d cs t → cuE d t
  | 0, _, _, _ => trivial
  | d + 1, _, t, h => by
    obtain ⟨sp, m, cap, -, hk, hR⟩ := h
    refine ⟨hk.n, fun a ha => ?_⟩
    obtain ⟨cs, hc⟩ := hR.mem ha
    exact ExM.cu d cs a hc
theorem StM.cu {N : Nat} {w : World} : ∀ (d : Nat) (cs : List Value) (t : StT d), StM N w d cs t → cuS d t
  | 0, _, _, _ => trivial
  | d + 1, _, t, h => by
    obtain ⟨sa, na, ca, sb, nb, cb, sc, nc, cc, -, -, h1, h2, h3⟩ := h
    refine ⟨fun a ha => ?_, fun a ha => ?_, fun a ha => ?_⟩
    · obtain ⟨cs, hc⟩ := h1.mem ha
      exact ExM.cu 8 cs a hc
    · obtain ⟨cs, hc⟩ := h2.mem ha
      exact StM.cu d cs a hc
    · obtain ⟨cs, hc⟩ := h3.mem ha
      exact StM.cu d cs a hc
end Go.Proofs.Ytimmiidkjpbffaa
/- Layer compile: what is kept of code that is put (pure). -/
namespace Go.Proofs.Ytimmiidkjpbffaa
open Go.RowKit
set_option maxRecDepth 100000
set_option linter.unusedVariables false
set_option linter.unusedSimpArgs false

/-- What putting code keeps, for instructions of a kind. -/
structure KV2 (I : KS → Prop) (C : KI → Prop) : Prop where
  pt : ∀ s l, (∀ c ∈ l, C c) → I s → I (s.put l)
  tt : ∀ s l c, C c → I s → I (s.to l c)
  hh : ∀ s l, I s → I (s.here l)
  ff : ∀ s, I s → I s.fresh
/-- An instruction's parts are in range. -/
structure KI.ok (c : KI) : Prop where
  fo : 1 ≤ c.o ∧ c.o ≤ 25
  fa : 0 ≤ c.a ∧ c.a ≤ 15
  fb : 0 ≤ c.b ∧ c.b ≤ 15
  fc : 0 ≤ c.c ∧ c.c ≤ 15
  fi : 0 ≤ c.i ∧ c.i < 4294967296
theorem ki {o a b c i : Int} (h1 : 1 ≤ o ∧ o ≤ 25) (h2 : 0 ≤ a ∧ a ≤ 15) (h3 : 0 ≤ b ∧ b ≤ 15) (h4 : 0 ≤ c ∧ c ≤ 15) (h5 : 0 ≤ i ∧ i < 4294967296) : KI.ok ⟨o, a, b, c, i⟩ := ⟨h1, h2, h3, h4, h5⟩
variable {I : KS → Prop} {E : KE} {f lv : Int}
/-- The functions' slots are in range, and so are data. -/
structure EOk (E : KE) (f : Int) : Prop where
  r : ∀ g v : Int, (g = f ∨ (0 ≤ g ∧ g < E.fr.length)) → 0 ≤ v ∧ v ≤ 64 → 0 ≤ kHome E g v ∧ kHome E g v ≤ 1000000
  d : E.da ≤ 1024
theorem kX_inv (h : KV2 I KI.ok) (hE : EOk E f) : ∀ (d : Nat) (t : ExT d) (vs r : Int) (s : KS), cuE d t → okX vs d t → vs ≤ 64 → 0 ≤ r → r + d ≤ 13 → I s → I (kX E f d t r s)
  | 0, _, _, _, s, _, _, _, _, _, hs => hs
  | d + 1, t, vs, r, s, hc, hok, hvs, hr, hrd, hs => by
    obtain ⟨hmy, hkids⟩ := okX_s hok
    obtain ⟨hn, hcl⟩ := hc
    have hrd' : r + (d : Int) + 1 ≤ 13 := by push_cast at hrd; omega
    rw [kX]
    generalize t.nd = u at *
    obtain ⟨k, n, v, o, l⟩ := u
    obtain ⟨hn0, hn1⟩ : 0 ≤ n ∧ n < 18446744073709551616 := hn
    unfold kXone
    by_cases h1 : k = 1
    · subst h1
      rw [if_pos rfl]
      split
      · refine h.pt _ _ (fun c hc => ?_) hs
        simp at hc
        rcases hc with rfl | rfl
        · exact (ki (by omega) (by omega) (by omega) (by omega) (by omega))
        · exact (ki (by omega) (by omega) (by omega) (by omega) (by omega))
      · refine h.pt _ _ (fun c hc => ?_) hs
        simp at hc
        subst hc
        exact (ki (by omega) (by omega) (by omega) (by omega) (by omega))
    rw [if_neg h1]
    by_cases h2 : k = 2
    · subst h2
      rw [if_pos rfl]
      have hv : 0 ≤ v ∧ v ≤ 64 := by simp [mayE] at hmy; omega
      have := hE.r f v (.inl rfl) hv
      show I (kVar E f 17 r v s)
      exact h.tt _ _ _ (ki (by omega) (by omega) (by omega) (by omega) (by omega)) hs
    rw [if_neg h2]
    by_cases h3 : k = 3
    · subst h3
      have hl : l.length = 2 ∧ 5 ≤ o ∧ o ≤ 16 := by simp [mayE] at hmy; omega
      match l, hl, hkids, hcl with
      | [a, b], ⟨_, ho1, ho2⟩, hkids, hcl =>
        refine h.pt _ _ (fun c hc => ?_) (kX_inv h hE d b vs (r + 1) _ (hcl b (by simp)) (hkids b (by simp)) hvs (by omega) (by omega) (kX_inv h hE d a vs r s (hcl a (by simp)) (hkids a (by simp)) hvs hr (by omega) hs))
        simp at hc
        subst hc
        exact (ki (by omega) (by omega) (by omega) (by omega) (by omega))
    · have hl : l.length = 1 := by
        by_cases h4 : k = 4
        · subst h4; simp [mayE] at hmy; omega
        · simp [mayE, h1, h2, h3, h4] at hmy
      match l, hl, hkids, hcl with
      | [a], _, hkids, hcl =>
        show I (if kIn E d a = true then kData 17 r 0 (kNum d a) s else kData 17 r r 0 (kProbe r (kX E f d a r s)))
        by_cases hI : kIn E d a = true
        · rw [if_pos hI]
          have hnum : 0 ≤ kNum d a ∧ kNum d a < 4294967296 := by
            cases d with
            | zero => simp [kIn] at hI
            | succ d =>
              have h1 := (hcl a (by simp)).1.1
              have h2 := hE.d
              simp [kIn] at hI
              show 0 ≤ a.nd.n ∧ a.nd.n < 4294967296
              omega
          exact h.tt _ _ _ (ki (by omega) (by omega) (by omega) (by omega) (by omega)) hs
        · rw [if_neg hI]
          refine h.tt _ _ _ (ki (by omega) (by omega) (by omega) (by omega) (by omega)) (h.pt _ _ (fun c hc => ?_) (kX_inv h hE d a vs r s (hcl a (by simp)) (hkids a (by simp)) hvs hr (by omega) hs))
          simp at hc
          subst hc
          exact (ki (by omega) (by omega) (by omega) (by omega) (by omega))
theorem kNum_ok (hE : EOk E f) : ∀ {d : Nat} {a : ExT d}, cuE d a → kIn E d a = true → 0 ≤ kNum d a ∧ kNum d a < 4294967296
  | 0, a, _, hI => by simp [kIn] at hI
  | d + 1, a, hc, hI => by
    have h1 := hc.1.1
    have h2 := hE.d
    simp [kIn] at hI
    show 0 ≤ a.nd.n ∧ a.nd.n < 4294967296
    omega
theorem kAdr_inv (h : KV2 I KI.ok) (hE : EOk E f) {d : Nat} {t : ExT d} {vs r : Int} {s : KS} (hc : cuE d t) (hok : okX vs d t) (hvs : vs ≤ 64) (hr : 0 ≤ r) (hrd : r + d ≤ 13) (hs : I s) : I (kAdr E f d t r s) := by
  unfold kAdr
  by_cases hI : kIn E d t = true
  · rw [if_pos hI]
    have hnum := kNum_ok hE hc hI
    exact h.tt _ _ _ (ki (by omega) (by omega) (by omega) (by omega) hnum) hs
  · rw [if_neg hI]
    refine h.pt _ _ (fun c hc => ?_) (h.pt _ _ (fun c hc => ?_) (kX_inv h hE d t vs r s hc hok hvs hr hrd hs))
    · simp at hc; subst hc; exact ki (by omega) (by omega) (by omega) (by omega) (by omega)
    · simp at hc; subst hc; exact ki (by omega) (by omega) (by omega) (by omega) (by omega)
section
variable {l : List (ExT 8)} {vs : Int}
theorem kA_inv (h : KV2 I KI.ok) (hE : EOk E f) (hl : ∀ a ∈ l, cuE 8 a ∧ okX vs 8 a) (hvs : vs ≤ 64) (i : Nat) {r : Int} (hr : 0 ≤ r ∧ r ≤ 5) {s : KS} (hs : I s) : I (kA l i E f r s) := by
  unfold kA
  split
  · exact hs
  · next a ha =>
    have := hl a (List.mem_of_getElem? ha)
    exact kX_inv h hE 8 a vs r s this.1 this.2 hvs hr.1 (by omega) hs
theorem kAd_inv (h : KV2 I KI.ok) (hE : EOk E f) (hl : ∀ a ∈ l, cuE 8 a ∧ okX vs 8 a) (hvs : vs ≤ 64) (i : Nat) {r : Int} (hr : 0 ≤ r ∧ r ≤ 5) {s : KS} (hs : I s) : I (kAd l i E f r s) := by
  unfold kAd
  split
  · exact hs
  · next a ha =>
    have := hl a (List.mem_of_getElem? ha)
    exact kAdr_inv h hE this.1 this.2 hvs hr.1 (by omega) hs
theorem kArg_inv (h : KV2 I KI.ok) (hE : EOk E f) (hvs : vs ≤ 64) {g : Int} (hg : 0 ≤ g ∧ g < E.fr.length) : ∀ (l : List (ExT 8)) (j : Int) (s : KS), (∀ a ∈ l, cuE 8 a ∧ okX vs 8 a) → 0 ≤ j → j + l.length ≤ 65 → I s → I (kArg E f g l j s)
  | [], j, s, _, _, _, hs => hs
  | a :: r, j, s, hl, h0, hj, hs => by
    simp only [List.length_cons] at hj
    have ha := hl a (by simp)
    have hh := hE.r g j (.inr hg) ⟨h0, by omega⟩
    exact kArg_inv h hE hvs hg r (j + 1) _ (fun b hb => hl b (by simp [hb])) (by omega) (by omega) (h.tt _ _ _ (ki (by omega) (by omega) (by omega) (by omega) ⟨hh.1, by omega⟩) (kX_inv h hE 8 a vs 1 s ha.1 ha.2 hvs (by omega) (by omega) hs))
end
theorem kVar_inv (h : KV2 I KI.ok) (hE : EOk E f) {o r v : Int} (ho : 1 ≤ o ∧ o ≤ 25) (hr : 0 ≤ r ∧ r ≤ 15) (hv : 0 ≤ v ∧ v ≤ 64) {s : KS} (hs : I s) : I (kVar E f o r v s) := by
  have := hE.r f v (.inl rfl) hv
  exact h.tt _ _ _ (ki ho hr (by omega) (by omega) ⟨this.1, by omega⟩) hs
theorem kput1 (h : KV2 I KI.ok) {c : KI} (hc : c.ok) {s : KS} (hs : I s) : I (s.put [c]) := h.pt _ _ (fun d hd => by simp at hd; subst hd; exact hc) hs
theorem kOne_inv (h : KV2 I KI.ok) (hE : EOk E f) {α : Type} {B : List α → KS → KS} {t : StN α} {ps : List Int} {vs : Int} (hm : mayS ps vs t = true) (hl : ∀ a ∈ t.a, cuE 8 a ∧ okX vs 8 a) (hvs : vs ≤ 64) (hps : ps.length ≤ E.fr.length) (hp64 : ∀ x ∈ ps, x ≤ 64) (hB1 : ∀ s, I s → I (B t.th s)) (hB2 : ∀ s, I s → I (B t.el s)) {s : KS} (hs : I s) : I (kOne E f lv B t s) := by
  have A := fun i r (hr : 0 ≤ r ∧ r ≤ 5) s (hs : I s) => kA_inv (l := t.a) h hE hl hvs i hr hs
  have D := fun i r (hr : 0 ≤ r ∧ r ≤ 5) s (hs : I s) => kAd_inv (l := t.a) h hE hl hvs i hr hs
  obtain ⟨k, v, g, tg, a, th, el⟩ := t
  unfold kOne
  by_cases h1 : k = 1
  · subst h1
    have hv : 0 ≤ v ∧ v ≤ 64 := by simp [mayS] at hm; omega
    exact kVar_inv h hE (by omega) (by omega) hv (A 0 1 (by omega) _ hs)
  by_cases h2 : k = 2
  · subst h2
    show I (if kInAt a 0 E = true then kData 18 1 0 (kNumAt a 0) (kA a 1 E f 1 s) else kData 18 2 1 0 (kProbe 1 (kA a 1 E f 2 (kA a 0 E f 1 s))))
    by_cases hI : kInAt a 0 E = true
    · rw [if_pos hI]
      have hnum : 0 ≤ kNumAt a 0 ∧ kNumAt a 0 < 4294967296 := by
        cases a with
        | nil => cases hI
        | cons x r => exact kNum_ok hE (hl x (by simp)).1 hI
      exact h.tt _ _ _ (ki (by omega) (by omega) (by omega) (by omega) hnum) (A 1 1 (by omega) _ hs)
    · rw [if_neg hI]
      exact h.tt _ _ _ (ki (by omega) (by omega) (by omega) (by omega) (by omega)) (kput1 h (ki (by omega) (by omega) (by omega) (by omega) (by omega)) (A 1 2 (by omega) _ (A 0 1 (by omega) _ hs)))
  by_cases h3 : k = 3
  · subst h3
    exact h.hh _ _ (hB2 _ (h.hh _ _ (h.tt _ _ _ (ki (by omega) (by omega) (by omega) (by omega) (by omega)) (hB1 _ (h.tt _ _ _ (ki (by omega) (by omega) (by omega) (by omega) (by omega)) (A 0 1 (by omega) _ (h.ff _ (h.ff _ hs))))))))
  by_cases h4 : k = 4
  · subst h4
    exact h.hh _ _ (h.tt _ _ _ (ki (by omega) (by omega) (by omega) (by omega) (by omega)) (hB1 _ (h.tt _ _ _ (ki (by omega) (by omega) (by omega) (by omega) (by omega)) (A 0 1 (by omega) _ (h.hh _ _ (h.ff _ (h.ff _ hs)))))))
  by_cases h5 : k = 5
  · subst h5
    exact h.tt _ _ _ (ki (by omega) (by omega) (by omega) (by omega) (by omega)) (A 0 1 (by omega) _ hs)
  by_cases h6 : k = 6
  · subst h6
    have hv : 0 ≤ v ∧ v ≤ 64 := by simp [mayS] at hm; omega
    have htk : tkB ps g a.length = true := by simp [mayS] at hm; exact hm.2.1
    unfold tkB at htk
    obtain ⟨f0, f1, f2⟩ := of_decide_eq_true htk
    have hm64 : (a.length : Int) ≤ 64 := by
      have hmem : ps.getD g.toNat 0 ∈ ps := by
        rw [List.getD_eq_getElem?_getD, List.getElem?_eq_getElem (by omega)]
        exact List.getElem_mem _
      have := hp64 _ hmem
      omega
    have hg : 0 ≤ g ∧ g < E.fr.length := by omega
    exact kVar_inv h hE (by omega) (by omega) hv (h.hh _ _ (h.tt _ _ _ (ki (by omega) (by omega) (by omega) (by omega) (by omega)) (h.tt _ _ _ (ki (by omega) (by omega) (by omega) (by omega) (by omega)) (h.ff _ (kArg_inv h hE hvs hg a 0 s hl (by omega) (by omega) hs)))))
  by_cases h7 : k = 7
  · subst h7
    have htg : 0 ≤ tg ∧ tg ≤ 256 := by simp [mayS] at hm; omega
    have hah : 0 ≤ kAhead tg ∧ kAhead tg < 4294967296 := by unfold kAhead; split <;> omega
    show I ((if kInAt a 1 E = true then kA a 2 E f 3 (kAd a 1 E f 2 (kAd a 0 E f 1 s)) else (fun u : KS => kRaise 2 ((kProbe 2 (u.fresh.to u.nx ⟨20, 3, 0, 0, 0⟩)).here u.nx)) (kA a 2 E f 3 (kA a 1 E f 2 (kAd a 0 E f 1 s)))).put [⟨23, 1, 2, 3, kAhead tg⟩])
    refine kput1 h (ki (by omega) (by omega) (by omega) (by omega) hah) ?_
    split
    · exact A 2 3 (by omega) _ (D 1 2 (by omega) _ (D 0 1 (by omega) _ hs))
    · exact kput1 h (ki (by omega) (by omega) (by omega) (by omega) (by omega)) (h.hh _ _ (kput1 h (ki (by omega) (by omega) (by omega) (by omega) (by omega)) (h.tt _ _ _ (ki (by omega) (by omega) (by omega) (by omega) (by omega)) (h.ff _ (A 2 3 (by omega) _ (A 1 2 (by omega) _ (D 0 1 (by omega) _ hs)))))))
  have hv : 0 ≤ v ∧ v ≤ 64 := by
    by_cases h8 : k = 8
    · subst h8; simp [mayS] at hm; omega
    by_cases h9 : k = 9
    · subst h9; simp [mayS] at hm; omega
    · unfold mayS at hm; simp [h1, h2, h3, h4, h5, h6, h7, h8, h9] at hm
  rw [if_neg h1, if_neg h2, if_neg h3, if_neg h4, if_neg h5, if_neg h6, if_neg h7]
  split
  · exact kVar_inv h hE (by omega) (by omega) hv (kput1 h (ki (by omega) (by omega) (by omega) (by omega) (by omega)) (A 1 2 (by omega) _ (D 0 1 (by omega) _ hs)))
  · exact kVar_inv h hE (by omega) (by omega) hv (kput1 h (ki (by omega) (by omega) (by omega) (by omega) (by omega)) (D 0 1 (by omega) _ hs))
theorem kAll_inv {α : Type} {F : α → KS → KS} : ∀ (l : List α) (s : KS), (∀ a ∈ l, ∀ s, I s → I (F a s)) → I s → I (kAll F l s)
  | [], s, _, hs => hs
  | a :: r, s, h, hs => kAll_inv r (F a s) (fun b hb => h b (by simp [hb])) (h a (by simp) s hs)
theorem kS_inv (h : KV2 I KI.ok) (hE : EOk E f) {ps : List Int} {vs : Int} (hvs : vs ≤ 64) (hps : ps.length ≤ E.fr.length) (hp64 : ∀ x ∈ ps, x ≤ 64) : ∀ (d : Nat) (t : StT d) (s : KS), cuS d t → okS ps vs d t → I s → I (kS E f lv d t s)
  | 0, _, s, _, _, hs => hs
  | d + 1, t, s, hc, hok, hs => by
    obtain ⟨hmy, hka, hkt, hke⟩ := okS_s hok
    obtain ⟨c1, c2, c3⟩ := hc
    exact kOne_inv h hE hmy (fun a ha => ⟨c1 a ha, hka a ha⟩) hvs hps hp64 (fun s hs => kAll_inv _ _ (fun a ha s hs => kS_inv h hE hvs hps hp64 d a s (c2 a ha) (hkt a ha) hs) hs) (fun s hs => kAll_inv _ _ (fun a ha s hs => kS_inv h hE hvs hps hp64 d a s (c3 a ha) (hke a ha) hs) hs) hs
end Go.Proofs.Ytimmiidkjpbffaa
/- Layer compile: what is kept of a whole program; its image (pure). -/
namespace Go.Proofs.Ytimmiidkjpbffaa
open Go.RowKit
set_option maxRecDepth 100000
set_option linter.unusedVariables false
set_option linter.unusedSimpArgs false

variable {I : KS → Prop} {E : KE}
theorem kFrs_rng : ∀ (l : List FuT) (n : Int), (∀ f ∈ l, 0 ≤ f.v ∧ f.v ≤ 64) → 0 ≤ n → ∀ x ∈ kFrs l n, n ≤ x ∧ x ≤ n + 65 * l.length
  | [], n, _, _, x, hx => by cases hx
  | f :: r, n, h, hn, x, hx => by
    have h1 := h f (by simp)
    simp only [kFrs, List.mem_cons] at hx
    simp only [List.length_cons]
    push_cast
    rcases hx with rfl | hx
    · omega
    · have := kFrs_rng r (n + 1 + f.v) (fun g hg => h g (by simp [hg])) (by omega) x hx
      omega
/-- What is asked of a program that is compiled. -/
structure PgOk (p : PgT) : Prop where
  o : okF p.fs
  c : ∀ g ∈ p.fs, ∀ b ∈ g.b, cuS 8 b
  n : 0 < p.fs.length ∧ p.fs.length ≤ 32
  d : 0 ≤ p.da ∧ p.da ≤ 1024
theorem PgOk.v {p : PgT} (h : PgOk p) : ∀ f ∈ p.fs, 0 ≤ f.v ∧ f.v ≤ 64 := fun f hf => by
  obtain ⟨i, hi⟩ := List.getElem?_of_mem hf
  exact ⟨(h.o i f hi).1.1, (h.o i f hi).1.2.1⟩
theorem PgOk.fr {p : PgT} (h : PgOk p) : (kEnv p).fr.length = p.fs.length ∧ ∀ (j : Nat) (x : Int), (kEnv p).fr[j]? = some x → 0 ≤ x ∧ x ≤ 100000 :=
  ⟨kFrs_len p.fs 0, fun j x hx => by have := kFrs_rng p.fs 0 h.v (by omega) x (List.mem_of_getElem? hx); have := h.n.2; omega⟩
theorem PgOk.e {p : PgT} (h : PgOk p) {j : Nat} (hj : j < p.fs.length) : EOk (kEnv p) j :=
  ⟨fun g v hg hv => by
    have hgr : 0 ≤ g ∧ g < (kEnv p).fr.length := by rcases hg with rfl | hg; exact ⟨by omega, by rw [h.fr.1]; omega⟩; exact hg
    have hx := h.fr.2 g.toNat _ (List.getElem?_eq_getElem (by omega))
    unfold kHome
    rw [List.getD_eq_getElem?_getD, List.getElem?_eq_getElem (by omega)]
    simp only [Option.getD_some]
    omega, h.d.2⟩
theorem kBody_inv (h : KV2 I KI.ok) {p : PgT} (hp : PgOk p) {j : Nat} {g : FuT} (hj : p.fs[j]? = some g) {s : KS} (hs : I s) : I (kBody (kEnv p) j g.b s) := by
  have hlt := (List.getElem?_eq_some_iff.1 hj).1
  refine h.hh _ _ (kput1 h (ki (by omega) (by omega) (by omega) (by omega) (by omega)) (kAll_inv _ _ (fun a ha s hs => ?_) (h.ff _ hs)))
  refine kS_inv h (hp.e hlt) (hp.o j g hj).1.2.1 ?_ (fun x hx => ?_) 8 a s (hp.c g (List.mem_of_getElem? hj) a ha) ((hp.o j g hj).2 a ha) hs
  · rw [hp.fr.1, List.length_map, List.length_take]; omega
  · obtain ⟨g2, hg2, rfl⟩ := List.mem_map.1 hx
    obtain ⟨i, hi⟩ := List.getElem?_of_mem (List.mem_of_mem_take hg2)
    have := (hp.o i g2 hi).1
    omega
theorem kBegin_inv (h : KV2 I KI.ok) {p : PgT} (hp : PgOk p) {j : Nat} {g : FuT} (hj : p.fs[j]? = some g) {s : KS} (hs : I s) : I (kBegin (kEnv p) j g.b s) :=
  kput1 h (ki (by omega) (by omega) (by omega) (by omega) (by omega)) (kBody_inv h hp hj (h.tt _ _ _ (ki (by omega) (by omega) (by omega) (by omega) (by omega)) hs))
theorem kZero_inv (h : KV2 I KI.ok) {f : Int} (hE : EOk E f) : ∀ (n : Nat) (v : Int) (s : KS), 0 ≤ v → v + n ≤ 64 → I s → I (kZero E f n v s)
  | 0, v, s, _, _, hs => hs
  | n + 1, v, s, h0, hv, hs => by
    have := hE.r f v (.inl rfl) ⟨h0, by omega⟩
    exact kZero_inv h hE n (v + 1) _ (by omega) (by push_cast at hv; omega) (h.tt _ _ _ (ki (by omega) (by omega) (by omega) (by omega) ⟨this.1, by omega⟩) hs)
theorem kCalled_inv (h : KV2 I KI.ok) {p : PgT} (hp : PgOk p) {j : Nat} {g : FuT} (hj : p.fs[j]? = some g) {s : KS} (hs : I s) : I (kCalled (kEnv p) j g s) := by
  have hlt := (List.getElem?_eq_some_iff.1 hj).1
  have hb := (hp.o j g hj).1
  have hx := hp.fr.2 j _ (List.getElem?_eq_getElem (by rw [hp.fr.1]; exact hlt))
  have hgx : 0 ≤ (kEnv p).fr.getD ((j : Int)).toNat 0 ∧ (kEnv p).fr.getD ((j : Int)).toNat 0 ≤ 100000 := by
    rw [List.getD_eq_getElem?_getD, show ((j : Int)).toNat = j by omega, List.getElem?_eq_getElem (by rw [hp.fr.1]; exact hlt)]
    exact hx
  unfold kCalled
  exact kput1 h (ki (by omega) (by omega) (by omega) (by omega) (by omega)) (h.tt _ _ _ (ki (by omega) (by omega) (by omega) (by omega) ⟨hgx.1, by omega⟩) (kBody_inv h hp hj (kZero_inv h (hp.e hlt) _ _ _ hb.2.2.1 (by omega) (h.tt _ _ _ (ki (by omega) (by omega) (by omega) (by omega) ⟨hgx.1, by omega⟩) (h.hh _ _ hs)))))
theorem kFns_inv (h : KV2 I KI.ok) {p : PgT} (hp : PgOk p) : ∀ (l : List FuT) (j : Nat) (s : KS), p.fs.drop j = l → I s → I (kFns (kEnv p) l j s)
  | [], j, s, _, hs => hs
  | [_], j, s, _, hs => hs
  | g :: g' :: r, j, s, hl, hs => by
    have hj : p.fs[j]? = some g := by rw [← List.head?_drop, hl]; rfl
    have hl2 : p.fs.drop (j + 1) = g' :: r := by rw [← List.tail_drop, hl]; rfl
    have := kFns_inv h hp (g' :: r) (j + 1) _ hl2 (kCalled_inv h hp hj hs)
    rw [kFns]
    have e : ((j + 1 : Nat) : Int) = (j : Int) + 1 := by norm_cast
    rw [e] at this
    exact this
theorem kProg_inv (h : KV2 I KI.ok) {p : PgT} (hp : PgOk p) (h0 : I k0) : I (kProg p) := by
  obtain ⟨la, hla⟩ : ∃ n, p.fs.length = n + 1 := ⟨p.fs.length - 1, by have := hp.n.1; omega⟩
  obtain ⟨ft, hj⟩ : ∃ ft, p.fs[la]? = some ft := ⟨_, List.getElem?_eq_getElem (by omega)⟩
  have hlast : p.fs.getLast? = some ft := by rw [List.getLast?_eq_getElem?, hla]; exact hj
  unfold kProg
  rw [hlast]
  have e : ((p.fs.length : Int) - 1) = (la : Int) := by omega
  simp only [e]
  exact kFns_inv h hp p.fs 0 _ (by simp) (kBegin_inv h hp hj h0)
/-- The gaps lie in the code, and all instructions are in range. -/
def kGood (s : KS) : Prop := (∀ g ∈ s.gaps, 0 ≤ g.1 ∧ g.1 < s.code.length) ∧ ∀ c ∈ s.code, KI.ok c
theorem kGood_v : KV2 kGood KI.ok where
  pt s l hl hs := ⟨fun g hg => by have := hs.1 g hg; simp [KS.put]; omega, fun c hc => by
    rcases List.mem_append.1 (show c ∈ s.code ++ l from hc) with h | h
    · exact hs.2 c h
    · exact hl c h⟩
  tt s l c hc hs := ⟨fun g hg => by
    rcases List.mem_append.1 (show g ∈ s.gaps ++ [((s.code.length : Int), l)] from hg) with h | h
    · have := hs.1 g h; simp [KS.to]; omega
    · simp at h; subst h; simp [KS.to]; omega, fun d hd => by
    rcases List.mem_append.1 (show d ∈ s.code ++ [c] from hd) with h | h
    · exact hs.2 d h
    · simp at h; subst h; exact hc⟩
  hh s l hs := hs
  ff s hs := hs
theorem kProg_good {p : PgT} (hp : PgOk p) : kGood (kProg p) := kProg_inv kGood_v hp ⟨fun g hg => (by cases hg), fun c hc => (by cases hc)⟩
theorem mend1_ok {pl : Int → Option Int} {g : Int × Int} {c : List KI} (h : ∀ k ∈ c, KI.ok k) : ∀ k ∈ mend1 pl g c, KI.ok k := by
  unfold mend1
  split
  · exact h
  · next k hk =>
    have ok := h k (List.mem_of_getElem? hk)
    intro d hd
    rcases List.mem_or_eq_of_mem_set hd with hd | hd
    · exact h d hd
    · subst hd
      exact ⟨ok.fo, ok.fa, ok.fb, ok.fc, by show 0 ≤ (k.i + (pl g.2).getD 0) % 4294967296 ∧ (k.i + (pl g.2).getD 0) % 4294967296 < 4294967296; omega⟩
theorem mendC_ok {pl : Int → Option Int} : ∀ (l : List (Int × Int)) (c : List KI), (∀ k ∈ c, KI.ok k) → (∀ k ∈ mendC pl l c, KI.ok k) ∧ (mendC pl l c).length = c.length
  | [], c, h => ⟨h, rfl⟩
  | g :: r, c, h => ⟨(mendC_ok r (mend1 pl g c) (mend1_ok h)).1, (mendC_ok r (mend1 pl g c) (mend1_ok h)).2.trans (mend1_len pl g c)⟩
end Go.Proofs.Ytimmiidkjpbffaa

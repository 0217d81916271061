/- Layer oracle: what the layers below give. -/
import Derived.Test.YtbfelelngoonjaaX01
import Derived.Test.YtbfelelngoonjaaX02
import Derived.Test.YtbfelelngoonjaaX03
import Derived.Test.YtbfelelngoonjaaX04
import Derived.Test.YtbfelelngoonjaaX07
import Derived.Test.YtbfelelngoonjaaX05
import Derived.Test.YtbfelelngoonjaaX10
import Derived.Test.YtbfelelngoonjaaX06
import Derived.Test.YtbfelelngoonjaaX12
import Derived.Test.YtbfelelngoonjaaX13
import Derived.Test.YtbfelelngoonjaaX19
import Derived.Test.YtbfelelngoonjaaX14
import Derived.Test.YtbfelelngoonjaaX22
import Derived.Test.YtbfelelngoonjaaX16
import Derived.Test.YtbfelelngoonjaaX17
import Derived.Test.YtbfelelngoonjaaX18
import Derived.Test.YtbfelelngoonjaaX20
import Derived.Test.YtbfelelngoonjaaX23
import Derived.Test.YtbfelelngoonjaaX28
import Derived.Test.YtbfelelngoonjaaX21
import Derived.Test.YtbfelelngoonjaaX29
import Derived.Test.YtbfelelngoonjaaX30
import Derived.BigQuiet
import Derived.BigRegion
import Derived.ChangeKeysEq
import Derived.Deep.DeepCutAuto
import Derived.Deep.DrawnRows
import Derived.Deep.MidRow
import Derived.Deep.QuietTactic
import Derived.Deep.RegionHeld3
import Derived.Deep.RegionLaw
import Derived.Deep.RegionWith
import Derived.Deep.WholeRow
import Derived.Great.BuildSlice
import Derived.Great.FillDense
import Derived.Laws.AppendOwnNone
import Derived.Laws.BitsLemmas
import Derived.Laws.BytesArg
import Derived.Laws.CopyOwn
import Derived.Laws.CopyRow
import Derived.Laws.MakeOwn
import Derived.Laws.OwnMore
import Derived.Laws.Tables
import Derived.Lib.SlBytesConst
import Derived.LoopIn
import Derived.LoopNIn
import Derived.Maps.AppendAt
import Derived.OwnWalkIn
import Derived.RangeFuncBound
import Derived.RangeFuncCalls
import Derived.RangeFuncLeaves
import Derived.RangeFuncNested
import Derived.RangeFuncRecord
import Derived.Shelf.Abstract
import Derived.Shelf.RegionOpen
import Derived.TacticsInMore
import Derived.WalkKit
import Derived.WalkLawsBesides
import Derived.WalkSpells
namespace Go.Proofs.Ytbfelelngoonjaa
open Go.RowKit Go.Shelf
set_option maxRecDepth 100000
set_option linter.unusedVariables false
set_option linter.unusedSimpArgs false
attribute [local go_sem] Oper.semAt_some

/-- A slice of entries in a variable. -/
def MV (g : Nat) (sp : Option Addr) (n cap : Nat) (es : List En) (S0 : Nat) (W : World) : Prop := W.cell? ⟨g, 0, none⟩ = some (.slice sp n cap) ∧ ES S0 W sp n cap es
theorem ES.keep {B S0 n cap : Nat} {sp : Option Addr} {es : List En} {W W' : World} (h : ES S0 W sp n cap es) (l1 : ∀ b off, sp = some ⟨b, off, none⟩ → B ≤ b) (l2 : ∀ e ∈ es, ∀ b off, e.sp = some ⟨b, off, none⟩ → B ≤ b) (hb : ∀ b, B ≤ b → b < S0 → W'.heap[b]? = W.heap[b]?) : ES S0 W' sp n cap es :=
  ⟨h.len, h.nil, h.le, h.big, h.small, fun h0 => by
    obtain ⟨g, off, q, hg, hR⟩ := h.at0 h0
    exact ⟨g, off, q, hg, fun i X hX j v hv => (World.cell?_of_block (w := W) (a := ⟨g, off + i * 33 + j, none⟩) (hb g (l1 g off q) hg)).trans (hR i X hX j v hv)⟩, fun e he => by
    refine ⟨⟨(h.ok e he).body.len, (h.ok e he).body.nil, (h.ok e he).body.le, (h.ok e he).body.big, (h.ok e he).body.small, fun h0 => ?_, (h.ok e he).body.bts⟩, (h.ok e he).s32⟩
    obtain ⟨b, off, q, hg, hB⟩ := (h.ok e he).body.at0 h0
    exact ⟨b, off, q, hg, fun u hu => (World.cell?_of_block (w := W) (a := ⟨b, off + u, none⟩) (hb b (l2 e he b off q) hg)).trans (hB u hu)⟩⟩
theorem MV.keep {B g S0 n cap : Nat} {sp : Option Addr} {es : List En} {W W' : World} (h : MV g sp n cap es S0 W) (l1 : ∀ b off, sp = some ⟨b, off, none⟩ → B ≤ b) (l2 : ∀ e ∈ es, ∀ b off, e.sp = some ⟨b, off, none⟩ → B ≤ b) (hb : ∀ b, B ≤ b → b < S0 → W'.heap[b]? = W.heap[b]?) (hg : g < S0) (hg' : B ≤ g) : MV g sp n cap es S0 W' :=
  ⟨(World.cell?_of_block (w := W) (a := ⟨g, 0, none⟩) (hb g hg' hg)).trans h.1, h.2.keep l1 l2 hb⟩
theorem part_v1 (g S0 : Nat) (sp : Option Addr) (n cap : Nat) (es : List En) (hg : g < S0) (hn : n ≤ 1000) : Part.OK ⟨93, #[.pointer (some ⟨g, 0, none⟩)], MV g sp n cap es S0, fun j e => es[j]? = some e, n⟩ S0 :=
  ⟨fun S hS => (values1_in g S S0 sp n cap es (by omega) hS hn).weaken (fun W h => ⟨h.1, h.2⟩) (fun j e h => h), enters_of Try.func93 (by kernel_rfl) rfl⟩
theorem part_v2 (g S0 : Nat) (sp : Option Addr) (n cap : Nat) (es : List En) (hg : g < S0) (hn : n ≤ 1000) : Part.OK ⟨96, #[.pointer (some ⟨g, 0, none⟩)], MV g sp n cap es S0, fun j e => es[j]? = some e, n⟩ S0 :=
  ⟨fun S hS => (values2_in g S S0 sp n cap es (by omega) hS hn).weaken (fun W h => ⟨h.1, h.2⟩) (fun j e h => h), enters_of Try.func96 (by kernel_rfl) rfl⟩
theorem part_p (g S0 : Nat) (sp : Option Addr) (n cap : Nat) (es : List En) (ls : List (List Int)) (hg : g < S0) (hn : n ≤ 32) (hls : Hid (es.map En.sm = ls)) (bls : ∀ x ∈ ls, Bts x) : Part.OK ⟨94, #[.pointer (some ⟨g, 0, none⟩)], MV g sp n cap es S0, PT S0 (prs 5 (pad ls)), 31⟩ S0 :=
  ⟨fun S hS => (pairs_in g S S0 sp n cap es ls (by omega) hn hls bls).weaken (fun W h => ⟨h.1, h.2.mono hS⟩) (fun j e ⟨B, h1, h2, h3⟩ => ⟨B, h1, h2, fun b off q => by have := h3 b off q; omega⟩), enters_of Try.func94 (by kernel_rfl) rfl⟩
/-- What is told: the entry's bytes and its sum; all of it is new, and the last one lies apart from all others. -/
structure KT (L : List (List Int)) (B : Nat) (T : Nat → En → Prop) : Prop where
  bs : ∀ j e, T j e → L[j]? = some e.bs
  sm : ∀ j e, T j e → e.sm = shl e.bs
  new : ∀ j e, T j e → ∀ b off, e.sp = some ⟨b, off, none⟩ → B ≤ b
  last : ∀ j e f, T j e → T (L.length - 1) f → j + 1 < L.length → ∀ b off b' off', e.sp = some ⟨b, off, none⟩ → f.sp = some ⟨b', off', none⟩ → b ≠ b'
/-- What known answers. -/
def KNP (ps : List Ac) (os : List Ou) (w : World) (r : Ending) (w' : World) : Prop :=
  ∃ (gc : Nat) (M : World → Prop) (T : Nat → En → Prop), r = .returned (.func (Fn.func 92) #[] #[.pointer (some ⟨gc, 0, none⟩)]) ∧ (∀ S, w'.heap.size ≤ S → Tells 92 #[.pointer (some ⟨gc, 0, none⟩)] S w'.heap.size M T (knB ps os).length) ∧ M w' ∧ (∀ W W', M W → (∀ b, w.heap.size ≤ b → b < w'.heap.size → W'.heap[b]? = W.heap[b]?) → M W') ∧ KT (knB ps os) w.heap.size T ∧ Below w.heap.size w w'
theorem knB_get {A O P Q E : List (List Int)} {n j k : Nat} (hA : A.length = 32) (hO : O.length = n) (hP : P.length = 31) (hQ : Q.length = 31) (hE : E.length = 2) :
    (k < 32 → (A ++ O ++ P ++ Q ++ E)[k]? = A[k]?) ∧ (k < n → (A ++ O ++ P ++ Q ++ E)[32 + k]? = O[k]?) ∧ (k < 31 → (A ++ O ++ P ++ Q ++ E)[32 + n + k]? = P[k]?) ∧ (k < 31 → (A ++ O ++ P ++ Q ++ E)[32 + n + 31 + k]? = Q[k]?) ∧ (k < 2 → (A ++ O ++ P ++ Q ++ E)[32 + n + 31 + 31 + k]? = E[k]?) := by
  refine ⟨fun h => ?_, fun h => ?_, fun h => ?_, fun h => ?_, fun h => ?_⟩
  · rw [List.append_assoc, List.append_assoc, List.append_assoc, List.getElem?_append_left (by omega)]
  · rw [List.append_assoc, List.append_assoc, List.append_assoc, List.getElem?_append_right (by omega), List.getElem?_append_left (by omega), hA]; congr 1; omega
  · rw [List.append_assoc, List.append_assoc, List.getElem?_append_right (by simp; omega), List.getElem?_append_left (by simp; omega)]; congr 1; simp; omega
  · rw [List.append_assoc, List.getElem?_append_right (by simp; omega), List.getElem?_append_left (by simp; omega)]; congr 1; simp; omega
  · rw [List.getElem?_append_right (by simp; omega)]; congr 1; simp; omega
theorem path2 (X Y Z : List Int) (w : World) (hX : X.length = 32) (hY : Y.length = 32) (hZ : Z.length = 32) (bX : Bts X) (bY : Bts Y) (bZ : Bts Z) (N g c : Nat) (hS : HS N w (some ⟨g, 0, none⟩) 2 c [Y, Z]) :
    Calls Try.prog 69 #[.int .i64 0, .agg (h8 X), .slice (some ⟨g, 0, none⟩) 2 c] w fun r w' => ∃ (sp : Option Addr) (cp : Nat) (es : List En), r = .returned (.tuple #[.slice sp 2 cp, .int .i64 0]) ∧ ES w'.heap.size w' sp 2 cp es ∧ Hid (es.map En.bs = [1 :: (X ++ Y), 1 :: (pr X Y ++ Z)]) ∧ Hid (∀ e ∈ es, e.sm = shl e.bs) ∧ (∀ e ∈ es, ∀ b off, e.sp = some ⟨b, off, none⟩ → w.heap.size ≤ b) ∧ (∀ b off, sp = some ⟨b, off, none⟩ → w.heap.size ≤ b) ∧ Hid (Asc es) ∧ Below w.heap.size w w' := by
  refine (path_any 0 X N _ 2 c [Y, Z] w hX bX hS (fun x hx => by simp at hx; rcases hx with rfl | rfl <;> assumption)).mono ?_
  rintro r w' ⟨sp, n, cap, es, rfl, hE, hbs, hsm, hfr, hfs, hasc, hb⟩
  have hF : FoOK 0 [Y, Z].length := ⟨by simp, by omega, by simp⟩
  have hbs := hbs.out
  rw [if_pos hF] at hbs
  have hp : pth (0 : Int).toNat X [Y, Z] = [1 :: (X ++ Y), 1 :: (pr X Y ++ Z)] := by simp [pth, pb, pr]
  rw [hp] at hbs
  have hl2 : es.length = 2 := by simpa using congrArg List.length hbs
  have hn : n = 2 := hE.len.out.trans hl2
  subst hn
  have hfe : foE 0 [Y, Z] = 0 := by unfold foE; rw [if_pos hF]
  exact ⟨sp, cap, es, by rw [hfe], hE, Hid.mk' hbs, hsm, hfr, hfs, hasc, hb⟩
theorem tree_get {base : Nat} {w : World} {v : Value} {es : List En} {bs : List (List Int)} (h : TR base w v es bs) {j : Nat} {e : En} (he : es[j]? = some e) : bs[j]? = some e.bs ∧ e.sm = shl e.bs ∧ ∀ b off, e.sp = some ⟨b, off, none⟩ → base ≤ b ∧ b < w.heap.size := by
  refine ⟨by rw [← h.bs.out]; simp [he], h.sm.out e (List.mem_of_getElem? he), fun b off q => ?_⟩
  have := h.eo.ap e (List.mem_of_getElem? he) b off q
  exact ⟨this.1, this.2.1⟩
/-- The parts. -/
def PL (g : Nat) (s1 : Option Addr) (c1 : Nat) (es1 : List En) (s2 : Option Addr) (n c2 : Nat) (es2 : List En) (s9 : Option Addr) (c9 : Nat) (es9 : List En) (L1 L2 : List (List Int)) : List Part :=
  [⟨93, #[.pointer (some ⟨g, 0, none⟩)], MV g s1 32 c1 es1 (g + 7), fun j e => es1[j]? = some e, 32⟩,
   ⟨93, #[.pointer (some ⟨g + 1, 0, none⟩)], MV (g + 1) s2 n c2 es2 (g + 7), fun j e => es2[j]? = some e, n⟩,
   ⟨94, #[.pointer (some ⟨g + 1 + 1, 0, none⟩)], MV (g + 1 + 1) s1 32 c1 es1 (g + 7), PT (g + 7) (prs 5 (pad L1)), 31⟩,
   ⟨94, #[.pointer (some ⟨g + 1 + 1 + 1, 0, none⟩)], MV (g + 1 + 1 + 1) s2 n c2 es2 (g + 7), PT (g + 7) (prs 5 (pad L2)), 31⟩,
   ⟨96, #[.pointer (some ⟨g + 1 + 1 + 1 + 1, 0, none⟩)], MV (g + 1 + 1 + 1 + 1) s9 2 c9 es9 (g + 7), fun j e => es9[j]? = some e, 2⟩]
theorem PL_cases {g : Nat} {s1 : Option Addr} {c1 : Nat} {es1 : List En} {s2 : Option Addr} {n c2 : Nat} {es2 : List En} {s9 : Option Addr} {c9 : Nat} {es9 : List En} {L1 L2 : List (List Int)} {i j : Nat} {p : Part} {e : En} (hp : (PL g s1 c1 es1 s2 n c2 es2 s9 c9 es9 L1 L2)[i]? = some p)
    (h1 : sumN (PL g s1 c1 es1 s2 n c2 es2 s9 c9 es9 L1 L2) i ≤ j) (h2 : j < sumN (PL g s1 c1 es1 s2 n c2 es2 s9 c9 es9 L1 L2) i + p.n) (h3 : p.T (j - sumN (PL g s1 c1 es1 s2 n c2 es2 s9 c9 es9 L1 L2) i) e) :
    ∃ k, (k < 32 ∧ j = k ∧ es1[k]? = some e) ∨ (k < n ∧ j = 32 + k ∧ es2[k]? = some e) ∨ (k < 31 ∧ j = 32 + n + k ∧ PT (g + 7) (prs 5 (pad L1)) k e) ∨ (k < 31 ∧ j = 32 + n + 31 + k ∧ PT (g + 7) (prs 5 (pad L2)) k e) ∨ (k < 2 ∧ j = 32 + n + 31 + 31 + k ∧ es9[k]? = some e) := by
  have hi : i < 5 := by have := (List.getElem?_eq_some_iff.1 hp).1; simpa [PL] using this
  refine ⟨j - sumN (PL g s1 c1 es1 s2 n c2 es2 s9 c9 es9 L1 L2) i, ?_⟩
  match i, hi with
  | 0, _ =>
    simp [PL] at hp; subst hp
    simp only [sumN, PL, List.take, List.map, List.sum_nil] at h1 h2 h3 ⊢
    exact .inl ⟨by omega, by omega, h3⟩
  | 1, _ =>
    simp [PL] at hp; subst hp
    simp only [sumN, PL, List.take, List.map, List.sum_nil, List.sum_cons] at h1 h2 h3 ⊢
    exact .inr (.inl ⟨by omega, by omega, h3⟩)
  | 2, _ =>
    simp [PL] at hp; subst hp
    simp only [sumN, PL, List.take, List.map, List.sum_nil, List.sum_cons] at h1 h2 h3 ⊢
    exact .inr (.inr (.inl ⟨by omega, by omega, h3⟩))
  | 3, _ =>
    simp [PL] at hp; subst hp
    simp only [sumN, PL, List.take, List.map, List.sum_nil, List.sum_cons] at h1 h2 h3 ⊢
    exact .inr (.inr (.inr (.inl ⟨by omega, by omega, h3⟩)))
  | 4, _ =>
    simp [PL] at hp; subst hp
    simp only [sumN, PL, List.take, List.map, List.sum_nil, List.sum_cons] at h1 h2 h3 ⊢
    exact .inr (.inr (.inr (.inr ⟨by omega, by omega, h3⟩)))
theorem known_fin (ps : List Ac) (os : List Ou) (w u8 u9 : World) (s1 : Option Addr) (c1 : Nat) (es1 : List En) (s2 : Option Addr) (n c2 : Nat) (es2 : List En) (s9 : Option Addr) (c9 : Nat) (es9 : List En) (h1 : ps.length = 32) (hn : n = os.length) (hn32 : n ≤ 32)
    (hE1 : ES u9.heap.size u9 s1 32 c1 es1) (hE2 : ES u9.heap.size u9 s2 n c2 es2) (hE9 : ES u9.heap.size u9 s9 2 c9 es9) (hm1 : Hid (es1.map En.sm = al ps)) (hm2 : Hid (es2.map En.sm = ol os))
    (f1 : ∀ (j : Nat) (e : En), es1[j]? = some e → (ps.map fun a => 0 :: acb a)[j]? = some e.bs ∧ e.sm = shl e.bs ∧ ∀ b off, e.sp = some ⟨b, off, none⟩ → w.heap.size ≤ b ∧ b < u8.heap.size)
    (f2 : ∀ (j : Nat) (e : En), es2[j]? = some e → (os.map fun a => 0 :: oub a)[j]? = some e.bs ∧ e.sm = shl e.bs ∧ ∀ b off, e.sp = some ⟨b, off, none⟩ → w.heap.size ≤ b ∧ b < u8.heap.size)
    (hbs9 : es9.map En.bs = [1 :: (tr 5 (al ps) ++ tr 5 (ol os)), 1 :: (pr (tr 5 (al ps)) (tr 5 (ol os)) ++ cnt n)]) (hsm9 : ∀ e ∈ es9, e.sm = shl e.bs) (hfr9 : ∀ e ∈ es9, ∀ b off, e.sp = some ⟨b, off, none⟩ → u8.heap.size ≤ b) (hasc : Asc es9) (l1 : ∀ b off, s1 = some ⟨b, off, none⟩ → w.heap.size ≤ b) (l2 : ∀ b off, s2 = some ⟨b, off, none⟩ → w.heap.size ≤ b) (l9 : ∀ b off, s9 = some ⟨b, off, none⟩ → w.heap.size ≤ b)
    (hs8 : w.heap.size ≤ u8.heap.size) (hs9 : u8.heap.size ≤ u9.heap.size) (hb : Below w.heap.size w u9) :
    KNP ps os w (.returned (.func (Fn.func 92) #[] #[.pointer (some ⟨u9.heap.size + 1 + 1 + 1 + 1 + 1 + 1, 0, none⟩)]))
      (((((((u9.alloc (.cells #[.slice s1 32 c1] 121)).alloc (.cells #[.slice s2 n c2] 121)).alloc (.cells #[.slice s1 32 c1] 121)).alloc (.cells #[.slice s2 n c2] 121)).alloc (.cells #[.slice s9 2 c9] 26)).alloc
        (.cells #[.func (Fn.func 93) #[] #[.pointer (some ⟨u9.heap.size, 0, none⟩)], .func (Fn.func 93) #[] #[.pointer (some ⟨u9.heap.size + 1, 0, none⟩)], .func (Fn.func 94) #[] #[.pointer (some ⟨u9.heap.size + 1 + 1, 0, none⟩)], .func (Fn.func 94) #[] #[.pointer (some ⟨u9.heap.size + 1 + 1 + 1, 0, none⟩)], .func (Fn.func 96) #[] #[.pointer (some ⟨u9.heap.size + 1 + 1 + 1 + 1, 0, none⟩)]] 82)).alloc (.cells #[.slice (some ⟨u9.heap.size + 1 + 1 + 1 + 1 + 1, 0, none⟩) 5 5] 140)) := by
  have p1 := (((((Arr.new u9 121 #[.slice s1 32 c1]).alloc (.cells #[.slice s2 n c2] 121)).alloc (.cells #[.slice s1 32 c1] 121)).alloc (.cells #[.slice s2 n c2] 121)).alloc (.cells #[.slice s9 2 c9] 26)).alloc (.cells #[.func (Fn.func 93) #[] #[.pointer (some ⟨u9.heap.size, 0, none⟩)], .func (Fn.func 93) #[] #[.pointer (some ⟨u9.heap.size + 1, 0, none⟩)], .func (Fn.func 94) #[] #[.pointer (some ⟨u9.heap.size + 1 + 1, 0, none⟩)], .func (Fn.func 94) #[] #[.pointer (some ⟨u9.heap.size + 1 + 1 + 1, 0, none⟩)], .func (Fn.func 96) #[] #[.pointer (some ⟨u9.heap.size + 1 + 1 + 1 + 1, 0, none⟩)]] 82)
  have p2 := ((((Arr.new (u9.alloc (.cells #[.slice s1 32 c1] 121)) 121 #[.slice s2 n c2]).alloc (.cells #[.slice s1 32 c1] 121)).alloc (.cells #[.slice s2 n c2] 121)).alloc (.cells #[.slice s9 2 c9] 26)).alloc (.cells #[.func (Fn.func 93) #[] #[.pointer (some ⟨u9.heap.size, 0, none⟩)], .func (Fn.func 93) #[] #[.pointer (some ⟨u9.heap.size + 1, 0, none⟩)], .func (Fn.func 94) #[] #[.pointer (some ⟨u9.heap.size + 1 + 1, 0, none⟩)], .func (Fn.func 94) #[] #[.pointer (some ⟨u9.heap.size + 1 + 1 + 1, 0, none⟩)], .func (Fn.func 96) #[] #[.pointer (some ⟨u9.heap.size + 1 + 1 + 1 + 1, 0, none⟩)]] 82)
  have p3 := (((Arr.new ((u9.alloc (.cells #[.slice s1 32 c1] 121)).alloc (.cells #[.slice s2 n c2] 121)) 121 #[.slice s1 32 c1]).alloc (.cells #[.slice s2 n c2] 121)).alloc (.cells #[.slice s9 2 c9] 26)).alloc (.cells #[.func (Fn.func 93) #[] #[.pointer (some ⟨u9.heap.size, 0, none⟩)], .func (Fn.func 93) #[] #[.pointer (some ⟨u9.heap.size + 1, 0, none⟩)], .func (Fn.func 94) #[] #[.pointer (some ⟨u9.heap.size + 1 + 1, 0, none⟩)], .func (Fn.func 94) #[] #[.pointer (some ⟨u9.heap.size + 1 + 1 + 1, 0, none⟩)], .func (Fn.func 96) #[] #[.pointer (some ⟨u9.heap.size + 1 + 1 + 1 + 1, 0, none⟩)]] 82)
  have p4 := ((Arr.new (((u9.alloc (.cells #[.slice s1 32 c1] 121)).alloc (.cells #[.slice s2 n c2] 121)).alloc (.cells #[.slice s1 32 c1] 121)) 121 #[.slice s2 n c2]).alloc (.cells #[.slice s9 2 c9] 26)).alloc (.cells #[.func (Fn.func 93) #[] #[.pointer (some ⟨u9.heap.size, 0, none⟩)], .func (Fn.func 93) #[] #[.pointer (some ⟨u9.heap.size + 1, 0, none⟩)], .func (Fn.func 94) #[] #[.pointer (some ⟨u9.heap.size + 1 + 1, 0, none⟩)], .func (Fn.func 94) #[] #[.pointer (some ⟨u9.heap.size + 1 + 1 + 1, 0, none⟩)], .func (Fn.func 96) #[] #[.pointer (some ⟨u9.heap.size + 1 + 1 + 1 + 1, 0, none⟩)]] 82)
  have p5 := (Arr.new ((((u9.alloc (.cells #[.slice s1 32 c1] 121)).alloc (.cells #[.slice s2 n c2] 121)).alloc (.cells #[.slice s1 32 c1] 121)).alloc (.cells #[.slice s2 n c2] 121)) 26 #[.slice s9 2 c9]).alloc (.cells #[.func (Fn.func 93) #[] #[.pointer (some ⟨u9.heap.size, 0, none⟩)], .func (Fn.func 93) #[] #[.pointer (some ⟨u9.heap.size + 1, 0, none⟩)], .func (Fn.func 94) #[] #[.pointer (some ⟨u9.heap.size + 1 + 1, 0, none⟩)], .func (Fn.func 94) #[] #[.pointer (some ⟨u9.heap.size + 1 + 1 + 1, 0, none⟩)], .func (Fn.func 96) #[] #[.pointer (some ⟨u9.heap.size + 1 + 1 + 1 + 1, 0, none⟩)]] 82)
  have p6 := Arr.new (((((u9.alloc (.cells #[.slice s1 32 c1] 121)).alloc (.cells #[.slice s2 n c2] 121)).alloc (.cells #[.slice s1 32 c1] 121)).alloc (.cells #[.slice s2 n c2] 121)).alloc (.cells #[.slice s9 2 c9] 26)) 82 #[.func (Fn.func 93) #[] #[.pointer (some ⟨u9.heap.size, 0, none⟩)], .func (Fn.func 93) #[] #[.pointer (some ⟨u9.heap.size + 1, 0, none⟩)], .func (Fn.func 94) #[] #[.pointer (some ⟨u9.heap.size + 1 + 1, 0, none⟩)], .func (Fn.func 94) #[] #[.pointer (some ⟨u9.heap.size + 1 + 1 + 1, 0, none⟩)], .func (Fn.func 96) #[] #[.pointer (some ⟨u9.heap.size + 1 + 1 + 1 + 1, 0, none⟩)]]
  have bq : Below u9.heap.size u9 (((((u9.alloc (.cells #[.slice s1 32 c1] 121)).alloc (.cells #[.slice s2 n c2] 121)).alloc (.cells #[.slice s1 32 c1] 121)).alloc (.cells #[.slice s2 n c2] 121)).alloc (.cells #[.slice s9 2 c9] 26)) := ((((alloc_bel' u9 _).alloc (by simp) _).alloc (by simp; omega) _).alloc (by simp; omega) _).alloc (by simp; omega) _
  have bq6 := bq.alloc bq.size (.cells #[.func (Fn.func 93) #[] #[.pointer (some ⟨u9.heap.size, 0, none⟩)], .func (Fn.func 93) #[] #[.pointer (some ⟨u9.heap.size + 1, 0, none⟩)], .func (Fn.func 94) #[] #[.pointer (some ⟨u9.heap.size + 1 + 1, 0, none⟩)], .func (Fn.func 94) #[] #[.pointer (some ⟨u9.heap.size + 1 + 1 + 1, 0, none⟩)], .func (Fn.func 96) #[] #[.pointer (some ⟨u9.heap.size + 1 + 1 + 1 + 1, 0, none⟩)]] 82)
  simp only [World.size_alloc] at p2 p3 p4 p5 p6
  have hsz6 : ((((((u9.alloc (.cells #[.slice s1 32 c1] 121)).alloc (.cells #[.slice s2 n c2] 121)).alloc (.cells #[.slice s1 32 c1] 121)).alloc (.cells #[.slice s2 n c2] 121)).alloc (.cells #[.slice s9 2 c9] 26)).alloc (.cells #[.func (Fn.func 93) #[] #[.pointer (some ⟨u9.heap.size, 0, none⟩)], .func (Fn.func 93) #[] #[.pointer (some ⟨u9.heap.size + 1, 0, none⟩)], .func (Fn.func 94) #[] #[.pointer (some ⟨u9.heap.size + 1 + 1, 0, none⟩)], .func (Fn.func 94) #[] #[.pointer (some ⟨u9.heap.size + 1 + 1 + 1, 0, none⟩)], .func (Fn.func 96) #[] #[.pointer (some ⟨u9.heap.size + 1 + 1 + 1 + 1, 0, none⟩)]] 82)).heap.size = u9.heap.size + 6 := by simp
  generalize (((((u9.alloc (.cells #[.slice s1 32 c1] 121)).alloc (.cells #[.slice s2 n c2] 121)).alloc (.cells #[.slice s1 32 c1] 121)).alloc (.cells #[.slice s2 n c2] 121)).alloc (.cells #[.slice s9 2 c9] 26)).alloc (.cells #[.func (Fn.func 93) #[] #[.pointer (some ⟨u9.heap.size, 0, none⟩)], .func (Fn.func 93) #[] #[.pointer (some ⟨u9.heap.size + 1, 0, none⟩)], .func (Fn.func 94) #[] #[.pointer (some ⟨u9.heap.size + 1 + 1, 0, none⟩)], .func (Fn.func 94) #[] #[.pointer (some ⟨u9.heap.size + 1 + 1 + 1, 0, none⟩)], .func (Fn.func 96) #[] #[.pointer (some ⟨u9.heap.size + 1 + 1 + 1 + 1, 0, none⟩)]] 82) = W6 at *
  have p7 := Arr.new W6 140 #[.slice (some ⟨u9.heap.size + 1 + 1 + 1 + 1 + 1, 0, none⟩) 5 5]
  rw [hsz6] at p7
  have bW := bq6.alloc (by omega) (.cells #[.slice (some ⟨u9.heap.size + 1 + 1 + 1 + 1 + 1, 0, none⟩) 5 5] 140)
  have hszW : (W6.alloc (.cells #[.slice (some ⟨u9.heap.size + 1 + 1 + 1 + 1 + 1, 0, none⟩) 5 5] 140)).heap.size = u9.heap.size + 7 := by simp [hsz6]
  have q1 := p1.alloc (.cells #[.slice (some ⟨u9.heap.size + 1 + 1 + 1 + 1 + 1, 0, none⟩) 5 5] 140)
  have q2 := p2.alloc (.cells #[.slice (some ⟨u9.heap.size + 1 + 1 + 1 + 1 + 1, 0, none⟩) 5 5] 140)
  have q3 := p3.alloc (.cells #[.slice (some ⟨u9.heap.size + 1 + 1 + 1 + 1 + 1, 0, none⟩) 5 5] 140)
  have q4 := p4.alloc (.cells #[.slice (some ⟨u9.heap.size + 1 + 1 + 1 + 1 + 1, 0, none⟩) 5 5] 140)
  have q5 := p5.alloc (.cells #[.slice (some ⟨u9.heap.size + 1 + 1 + 1 + 1 + 1, 0, none⟩) 5 5] 140)
  have q6 := p6.alloc (.cells #[.slice (some ⟨u9.heap.size + 1 + 1 + 1 + 1 + 1, 0, none⟩) 5 5] 140)
  generalize W6.alloc (.cells #[.slice (some ⟨u9.heap.size + 1 + 1 + 1 + 1 + 1, 0, none⟩) 5 5] 140) = Wf at *
  clear p1 p2 p3 p4 p5 p6 bq bq6
  have e1 := (hE1.below bW).mono (show u9.heap.size ≤ u9.heap.size + 7 by omega)
  have e2 := (hE2.below bW).mono (show u9.heap.size ≤ u9.heap.size + 7 by omega)
  have e9 := (hE9.below bW).mono (show u9.heap.size ≤ u9.heap.size + 7 by omega)
  have lP1 := prs_len 5 (pad (al ps)) (pad_len (by rw [al_len]; omega))
  have lP2 := prs_len 5 (pad (ol os)) (pad_len (by rw [ol_len]; omega))
  have hkn := knB_len h1 (by omega : os.length ≤ 32)
  have hsum : sumN (PL u9.heap.size s1 c1 es1 s2 n c2 es2 s9 c9 es9 (al ps) (ol os)) 5 = (knB ps os).length := by
    rw [hkn]; simp only [sumN, PL, List.take, List.map, List.sum_cons, List.sum_nil]; omega
  have kg : ∀ k, _ := fun k => knB_get (A := ps.map fun a => 0 :: acb a) (O := os.map fun o => 0 :: oub o) (P := prs 5 (pad (al ps))) (Q := prs 5 (pad (ol os))) (E := [1 :: (tr 5 (al ps) ++ tr 5 (ol os)), 1 :: (pr (tr 5 (al ps)) (tr 5 (ol os)) ++ cnt os.length)]) (n := n) (j := 0) (k := k) (by simp [h1]) (by simp [hn]) (by omega) (by omega) rfl
  refine ⟨u9.heap.size + 1 + 1 + 1 + 1 + 1 + 1, _, _, rfl, fun S hS => by
    rw [← hsum]
    exact inTurn_in (u9.heap.size + 1 + 1 + 1 + 1 + 1 + 1) (u9.heap.size + 1 + 1 + 1 + 1 + 1) S Wf.heap.size (PL u9.heap.size s1 c1 es1 s2 n c2 es2 s9 c9 es9 (al ps) (ol os)) (by omega) (by omega) hS rfl (by
      rw [hszW]
      have hall : ∀ p ∈ PL u9.heap.size s1 c1 es1 s2 n c2 es2 s9 c9 es9 (al ps) (ol os), p.OK (u9.heap.size + 7) := by
        intro p hp
        simp only [PL, List.mem_cons, List.mem_nil_iff, or_false] at hp
        rcases hp with rfl | rfl | rfl | rfl | rfl
        · exact part_v1 _ _ _ _ _ _ (by omega) (by omega)
        · exact part_v1 _ _ _ _ _ _ (by omega) (by omega)
        · exact part_p _ _ _ _ _ _ _ (by omega) (by omega) hm1 (al_bts ps)
        · exact part_p _ _ _ _ _ _ _ (by omega) (by omega) hm2 (ol_bts os)
        · exact part_v2 _ _ _ _ _ _ (by omega) (by omega)
      exact hall), ?_, ?_, ?_, hb.trans (bW.mono hb.size)⟩
  · refine ⟨p7.cell 0, ?_, ?_⟩
    rotate_left
    · intro p hp
      simp only [PL, List.mem_cons, List.mem_nil_iff, or_false] at hp
      rcases hp with rfl | rfl | rfl | rfl | rfl
      · exact ⟨q1.cell 0, e1⟩
      · exact ⟨q2.cell 0, e2⟩
      · exact ⟨q3.cell 0, e1⟩
      · exact ⟨q4.cell 0, e2⟩
      · exact ⟨q5.cell 0, e9⟩
    intro i p hp
    have hi : i < 5 := by have := (List.getElem?_eq_some_iff.1 hp).1; simpa [PL] using this
    rw [q6.cell]
    match i, hi with
    | 0, _ => simp [PL] at hp; subst hp; rfl
    | 1, _ => simp [PL] at hp; subst hp; rfl
    | 2, _ => simp [PL] at hp; subst hp; rfl
    | 3, _ => simp [PL] at hp; subst hp; rfl
    | 4, _ => simp [PL] at hp; subst hp; rfl
  · rintro W W' ⟨m1, m2, m3⟩ hbb
    rw [hszW] at hbb
    have m1e : ∀ e ∈ es1, ∀ b off, e.sp = some ⟨b, off, none⟩ → w.heap.size ≤ b := fun e he b off q => by
      obtain ⟨i, hi⟩ := List.mem_iff_getElem?.1 he
      exact ((f1 i e hi).2.2 b off q).1
    have m2e : ∀ e ∈ es2, ∀ b off, e.sp = some ⟨b, off, none⟩ → w.heap.size ≤ b := fun e he b off q => by
      obtain ⟨i, hi⟩ := List.mem_iff_getElem?.1 he
      exact ((f2 i e hi).2.2 b off q).1
    have m9e : ∀ e ∈ es9, ∀ b off, e.sp = some ⟨b, off, none⟩ → w.heap.size ≤ b := fun e he b off q => by have := hfr9 e he b off q; omega
    refine ⟨(World.cell?_of_block (w := W) (a := ⟨u9.heap.size + 1 + 1 + 1 + 1 + 1 + 1, 0, none⟩) (hbb (u9.heap.size + 1 + 1 + 1 + 1 + 1 + 1) (by omega) (by omega))).trans m1, fun i p hp => (World.cell?_of_block (w := W) (a := ⟨u9.heap.size + 1 + 1 + 1 + 1 + 1, i, none⟩) (hbb (u9.heap.size + 1 + 1 + 1 + 1 + 1) (by omega) (by omega))).trans (m2 i p hp), fun p hp => ?_⟩
    have m3' := m3 p hp
    simp only [PL, List.mem_cons, List.mem_nil_iff, or_false] at hp
    rcases hp with rfl | rfl | rfl | rfl | rfl
    · exact MV.keep m3' l1 m1e hbb (by omega) (by omega)
    · exact MV.keep m3' l2 m2e hbb (by omega) (by omega)
    · exact MV.keep m3' l1 m1e hbb (by omega) (by omega)
    · exact MV.keep m3' l2 m2e hbb (by omega) (by omega)
    · exact MV.keep m3' l9 m9e hbb (by omega) (by omega)
  · have g9 : ∀ (k : Nat) (e : En), es9[k]? = some e → [1 :: (tr 5 (al ps) ++ tr 5 (ol os)), 1 :: (pr (tr 5 (al ps)) (tr 5 (ol os)) ++ cnt os.length)][k]? = some e.bs := fun (k : Nat) (e : En) he => by rw [← hn, ← hbs9]; simp [he]
    refine ⟨?_, ?_, ?_, ?_⟩
    · rintro j e ⟨i, p, hp, a1, a2, a3⟩
      obtain ⟨k, hk⟩ := PL_cases hp a1 a2 a3
      obtain ⟨k1, k2, k3, k4, k5⟩ := kg k
      rcases hk with ⟨hk, rfl, he⟩ | ⟨hk, rfl, he⟩ | ⟨hk, rfl, B, hB, he, -⟩ | ⟨hk, rfl, B, hB, he, -⟩ | ⟨hk, rfl, he⟩
      · exact (k1 hk).trans (f1 _ e he).1
      · exact (k2 hk).trans (f2 _ e he).1
      · exact (k3 hk).trans (by rw [hB, he.out.1])
      · exact (k4 hk).trans (by rw [hB, he.out.1])
      · exact (k5 hk).trans (g9 _ e he)
    · rintro j e ⟨i, p, hp, a1, a2, a3⟩
      obtain ⟨k, hk⟩ := PL_cases hp a1 a2 a3
      rcases hk with ⟨hk, rfl, he⟩ | ⟨hk, rfl, he⟩ | ⟨hk, rfl, B, hB, he, -⟩ | ⟨hk, rfl, B, hB, he, -⟩ | ⟨hk, rfl, he⟩
      · exact (f1 _ e he).2.1
      · exact (f2 _ e he).2.1
      · rw [he.out.2, he.out.1]
      · rw [he.out.2, he.out.1]
      · exact hsm9 e (List.mem_of_getElem? he)
    · rintro j e ⟨i, p, hp, a1, a2, a3⟩ b off q
      obtain ⟨k, hk⟩ := PL_cases hp a1 a2 a3
      rcases hk with ⟨hk, rfl, he⟩ | ⟨hk, rfl, he⟩ | ⟨hk, rfl, B, hB, he, hh⟩ | ⟨hk, rfl, B, hB, he, hh⟩ | ⟨hk, rfl, he⟩
      · exact ((f1 _ e he).2.2 b off q).1
      · exact ((f2 _ e he).2.2 b off q).1
      · have := hh b off q; omega
      · have := hh b off q; omega
      · have := hfr9 e (List.mem_of_getElem? he) b off q; omega
    · rintro j e f ⟨i, p, hp, a1, a2, a3⟩ ⟨i', p', hp', a1', a2', a3'⟩ hjl b off b' off' q q'
      rw [hkn] at hjl a1' a2' a3'
      obtain ⟨k', hk'⟩ := PL_cases hp' a1' a2' a3'
      have hf : es9[1]? = some f ∧ k' = 1 := by
        rcases hk' with ⟨hk, hj, he⟩ | ⟨hk, hj, he⟩ | ⟨hk, hj, he⟩ | ⟨hk, hj, he⟩ | ⟨hk, hj, he⟩
        · omega
        · omega
        · omega
        · omega
        · obtain rfl : k' = 1 := by omega
          exact ⟨he, rfl⟩
      have hfb := hfr9 f (List.mem_of_getElem? hf.1) b' off' q'
      have hfS : b' < u9.heap.size := by
        have := hE9.ok f (List.mem_of_getElem? hf.1)
        have hbs1 : f.bs ≠ [] := by
          have := g9 1 f hf.1
          simp at this
          rw [← this]; simp
        have hn0 : 0 < f.n := by
          rw [this.body.len.out]
          exact List.length_pos_iff.2 hbs1
        obtain ⟨b2, off2, e2', hb2, -⟩ := this.body.at0 hn0
        rw [q'] at e2'; cases e2'
        exact hb2
      obtain ⟨k, hk⟩ := PL_cases hp a1 a2 a3
      rcases hk with ⟨hk, rfl, he⟩ | ⟨hk, rfl, he⟩ | ⟨hk, rfl, B, hB, he, hh⟩ | ⟨hk, rfl, B, hB, he, hh⟩ | ⟨hk, rfl, he⟩
      · have := ((f1 _ e he).2.2 b off q).2; omega
      · have := ((f2 _ e he).2.2 b off q).2; omega
      · have := hh b off q; omega
      · have := hh b off q; omega
      · obtain rfl : k = 0 := by omega
        have h0 := (List.getElem?_eq_some_iff.1 he)
        have h1' := (List.getElem?_eq_some_iff.1 hf.1)
        have := List.pairwise_iff_getElem.1 hasc 0 1 h0.1 h1'.1 (by omega) b off b' off' (by rw [h0.2]; exact q) (by rw [h1'.2]; exact q')
        omega
set_option maxHeartbeats 4000000 in
theorem known_any (ps : List Ac) (N : Nat) (sp : Option Addr) (n cap : Nat) (os : List Ou) (w : World) (hS : SS N w ps sp n cap os) (hn32 : n ≤ 32) :
    Calls Try.prog 54 #[.agg (stA ps sp n cap)] w (KNP ps os w) := by
  have h1 := hS.a32.out
  have h2 := hS.l32
  have hok := hS.ok.out
  have hnl := hS.outs.len
  have hS := hS.here
  have A0 := (Arr.new w 38 (stA ps sp n cap)).drew
  have B0 := (alloc_bel' w (.cells (stA ps sp n cap) 38)).drew
  have hA32 := tr5_len (al_32 ps)
  have hO32 := tr5_len (ol_32 os)
  have hC32 := cnt_len n
  have bA := tr_bts 5 _ (al_bts ps)
  have bO := tr_bts 5 _ (ol_bts os)
  go_enter Try.func54, Try.ntmps54
  go_upto_region 1 with fail
  refine wp_region_held_drew (S := fun u => Below w.heap.size w u ∧ Arr u w.heap.size 38 (stA ps sp n cap)) (by kernel_rfl) (⟨B0, A0⟩) (fun hHeld => ?_)
  refine wpAnyH_take (i := 0) (oi := ⟨_, _, _, _, _, _⟩) rfl (by kernel_rfl) (by kernel_rfl) (by kernel_rfl) (fun _ _ _ h => h) (y30 (by rfl) (.tmp 1) rfl w.heap.size 38 rfl ps sp n cap h1 h2 (fun u hu => hu.2)) (by assumption) ?_
  try simp only [Act.put, List.setIfInBounds_toArray, List.set_cons_zero, List.set_cons_succ]
  refine wpAnyH_take (i := 2) (oi := ⟨_, _, _, _, _, _⟩) rfl (by kernel_rfl) (by kernel_rfl) (by kernel_rfl) (fun _ _ _ h => h) (y30 (by rfl) (.tmp 1) rfl w.heap.size 38 rfl ps sp n cap h1 h2 (fun u hu => hu.2)) (by assumption) ?_
  try simp only [Act.put, List.setIfInBounds_toArray, List.set_cons_zero, List.set_cons_succ]
  refine wpAnyH_ready (rs := [1]) (by kernel_rfl) (by simp) ?_
  refine AllReadyH.cons (o := ⟨_, _, _, _, _, _⟩) rfl (fun K hK => ?_) AllReadyH.nil
  go_simp
  refine (accs_any ps sp n cap _ h1 hok).mono ?_; rintro e u1 ⟨s1, c1, es1, rfl, hE1, hm1, hT1, hb1⟩; have B1 := B0.trans (hb1.mono B0.size); have A1 := A0.below hb1 A0.lt
  go_wp2_with fail
  refine hK.out _ _ ⟨B1, A1⟩ (fun hHeld => ?_)
  clear hK K
  try simp only [Act.put, List.setIfInBounds_toArray, List.set_cons_zero, List.set_cons_succ]
  refine wpAnyH_ready (rs := [3]) (by kernel_rfl) (by simp) ?_
  refine AllReadyH.cons (o := ⟨_, _, _, _, _, _⟩) rfl (fun K hK => ?_) AllReadyH.nil
  go_simp
  refine (outs_any ps _ sp n cap os _ (hS.below B1) hn32).mono ?_; rintro e u2 ⟨s2, c2, es2, rfl, hE2, hm2, hT2, hb2⟩; have B2 := B1.trans (hb2.mono B1.size); have A2 := A1.below hb2 A1.lt
  go_wp2_with fail
  refine hK.out _ _ ⟨B2, A2⟩ (fun hHeld => ?_)
  clear hK K
  try simp only [Act.put, List.setIfInBounds_toArray, List.set_cons_zero, List.set_cons_succ]
  refine wpAnyH_take (i := 4) (oi := ⟨_, _, _, _, _, _⟩) (v := ?_) rfl (by kernel_rfl) (by kernel_rfl) (by kernel_rfl) (fun _ _ _ h => h) (Or.inl ⟨by rfl, ?_⟩) (by assumption) ?_
  rotate_left
  · intro u hSw
    go_simp
    try (with_reducible rfl)
  try simp only [Act.put, List.setIfInBounds_toArray, List.set_cons_zero, List.set_cons_succ]
  refine wpAnyH_take (i := 5) (oi := ⟨_, _, _, _, _, _⟩) (v := ?_) rfl (by kernel_rfl) (by kernel_rfl) (by kernel_rfl) (fun _ _ _ h => h) (Or.inl ⟨by rfl, ?_⟩) (by assumption) ?_
  rotate_left
  · intro u hSw
    go_simp
    try (with_reducible rfl)
  try simp only [Act.put, List.setIfInBounds_toArray, List.set_cons_zero, List.set_cons_succ]
  refine wpAnyH_done (by kernel_rfl) ?_ _

  go_upto_region 2 with fail
  have hT12 := hT1.below hb2
  have hbd := (Below.refl u2.heap.size u2).drew
  have B3 := B2.drew
  have A3 := A2.drew
  have hs12 := hb2.size
  have hE1' : ES u1.heap.size u2.drew s1 32 c1 es1 := (hE1.below hb2).below (hbd.mono hs12)
  have hE2' : ES u2.heap.size u2.drew s2 n c2 es2 := hE2.below hbd
  have hs23 : u2.heap.size ≤ u2.drew.heap.size := hbd.size
  refine wp_region_held_drew (S := fun u => Below w.heap.size w u ∧ Arr u w.heap.size 38 (stA ps sp n cap)) (by kernel_rfl) (⟨B3, A3⟩) (fun hHeld => ?_)
  refine wpAnyH_take (i := 0) (oi := ⟨_, _, _, _, _, _⟩) (v := ?_) rfl (by kernel_rfl) (by kernel_rfl) (by kernel_rfl) (fun _ _ _ h => h) (Or.inl ⟨by rfl, ?_⟩) (by assumption) ?_
  rotate_left
  · intro u hSw
    go_simp
    try (with_reducible rfl)
  try simp only [Act.put, List.setIfInBounds_toArray, List.set_cons_zero, List.set_cons_succ]
  refine wpAnyH_take (i := 2) (oi := ⟨_, _, _, _, _, _⟩) (v := ?_) rfl (by kernel_rfl) (by kernel_rfl) (by kernel_rfl) (fun _ _ _ h => h) (Or.inl ⟨by rfl, ?_⟩) (by assumption) ?_
  rotate_left
  · intro u hSw
    go_simp
    try (with_reducible rfl)
  try simp only [Act.put, List.setIfInBounds_toArray, List.set_cons_zero, List.set_cons_succ]
  refine wpAnyH_take (i := 4) (oi := ⟨_, _, _, _, _, _⟩) rfl (by kernel_rfl) (by kernel_rfl) (by kernel_rfl) (fun _ _ _ h => h) (y30 (by rfl) (.tmp 1) rfl w.heap.size 38 rfl ps sp n cap h1 h2 (fun u hu => hu.2)) (by assumption) ?_
  try simp only [Act.put, List.setIfInBounds_toArray, List.set_cons_zero, List.set_cons_succ]
  refine wpAnyH_ready (rs := [1]) (by kernel_rfl) (by simp) ?_
  refine AllReadyH.cons (o := ⟨_, _, _, _, _, _⟩) rfl (fun K hK => ?_) AllReadyH.nil
  go_simp
  refine (troot_ls _ s1 32 c1 es1 _ _ hE1' hm1 (by omega)).mono ?_; rintro e u4 ⟨rfl, hb4⟩; have B4 := B3.trans (hb4.mono B3.size); have A4 := A3.below hb4 A3.lt
  go_wp2_with fail
  refine hK.out _ _ ⟨B4, A4⟩ (fun hHeld => ?_)
  clear hK K
  try simp only [Act.put, List.setIfInBounds_toArray, List.set_cons_zero, List.set_cons_succ]
  refine wpAnyH_ready (rs := [3]) (by kernel_rfl) (by simp) ?_
  refine AllReadyH.cons (o := ⟨_, _, _, _, _, _⟩) rfl (fun K hK => ?_) AllReadyH.nil
  go_simp
  refine (troot_ls _ s2 n c2 es2 _ _ (hE2'.below (hb4.mono hs23)) hm2 hn32).mono ?_; rintro e u5 ⟨rfl, hb5⟩; have B5 := B4.trans (hb5.mono B4.size); have A5 := A4.below hb5 A4.lt
  go_wp2_with fail
  refine hK.out _ _ ⟨B5, A5⟩ (fun hHeld => ?_)
  clear hK K
  try simp only [Act.put, List.setIfInBounds_toArray, List.set_cons_zero, List.set_cons_succ]
  refine wpAnyH_ready (rs := [5]) (by kernel_rfl) (by simp) ?_
  refine AllReadyH.cons (o := ⟨_, _, _, _, _, _⟩) rfl (fun K hK => ?_) AllReadyH.nil
  go_simp
  refine (count_any ps sp n cap _ h1 h2 (by omega)).mono ?_; rintro e u6 ⟨rfl, hb6⟩; have B6 := B5.trans (hb6.mono B5.size); have A6 := A5.below hb6 A5.lt
  go_wp2_with fail
  refine hK.out _ _ ⟨B6, A6⟩ (fun hHeld => ?_)
  clear hK K
  try simp only [Act.put, List.setIfInBounds_toArray, List.set_cons_zero, List.set_cons_succ]
  refine wpAnyH_ready (rs := [6]) (by kernel_rfl) (by simp) ?_
  refine AllReadyH.cons (o := ⟨_, _, _, _, _, _⟩) rfl (fun K hK => ?_) AllReadyH.nil
  go_simp
  refine (countSum_any n _).mono ?_; rintro e u7 ⟨rfl, hb7⟩; have B7 := B6.trans (hb7.mono B6.size); have A7 := A6.below hb7 A6.lt
  go_wp2_with fail
  refine hK.out _ _ ⟨B7, A7⟩ (fun hHeld => ?_)
  clear hK K
  try simp only [Act.put, List.setIfInBounds_toArray, List.set_cons_zero, List.set_cons_succ]
  refine wpAnyH_ready (rs := [7]) (by kernel_rfl) (by simp) ?_
  refine AllReadyH.cons (o := ⟨_, _, _, _, _, _⟩) rfl (fun K hK => ?_) AllReadyH.nil
  refine step_want rfl (wp_bld2 (.tmp 15) (.tmp 18) rfl (tr 5 (ol os)) (cnt n) rfl rfl hO32 hC32 ?_)
  refine hK.out _ _ ⟨B7.alloc B7.size _, A7.alloc _⟩ (fun hHeld => ?_)
  clear hK K
  try simp only [Act.put, List.setIfInBounds_toArray, List.set_cons_zero, List.set_cons_succ]
  have hH8 := hs_lit (Arr.new u7 32 (flat32 [tr 5 (ol os), cnt n]).toArray) (two32 hO32 hC32) (m := 2) rfl (by omega)
  have B8 := B7.alloc B7.size (.cells (flat32 [tr 5 (ol os), cnt n]).toArray 32)
  have A8 := A7.alloc (.cells (flat32 [tr 5 (ol os), cnt n]).toArray 32)
  have hb8 := alloc_bel' u7 (.cells (flat32 [tr 5 (ol os), cnt n]).toArray 32)
  have hpa := path2 (tr 5 (al ps)) (tr 5 (ol os)) (cnt n) _ hA32 hO32 hC32 bA bO (cnt_bts n) _ _ _ hH8
  generalize u7.alloc (.cells (flat32 [tr 5 (ol os), cnt n]).toArray 32) = u8 at *
  refine wpAnyH_ready (rs := [8]) (by kernel_rfl) (by simp) ?_
  refine AllReadyH.cons (o := ⟨_, _, _, _, _, _⟩) rfl (fun K hK => ?_) AllReadyH.nil
  go_simp
  refine (hpa).mono ?_; rintro e u9 ⟨s9, c9, es9, rfl, hE9, hbs9, hsm9, hfr9, hfs9, hasc9, hb9⟩; have B9 := B8.trans (hb9.mono B8.size); have A9 := A8.below hb9 A8.lt
  go_wp2_with fail
  refine hK.out _ _ ⟨B9, A9⟩ (fun hHeld => ?_)
  clear hK K
  try simp only [Act.put, List.setIfInBounds_toArray, List.set_cons_zero, List.set_cons_succ]
  refine wpAnyH_take (i := 9) (oi := ⟨_, _, _, _, _, _⟩) (v := ?_) rfl (by kernel_rfl) (by kernel_rfl) (by kernel_rfl) (fun _ _ _ h => h) (Or.inl ⟨by rfl, ?_⟩) (by assumption) ?_
  rotate_left
  · intro u hSw
    go_simp
    try (with_reducible rfl)
  try simp only [Act.put, List.setIfInBounds_toArray, List.set_cons_zero, List.set_cons_succ]
  refine wpAnyH_take (i := 10) (oi := ⟨_, _, _, _, _, _⟩) (v := ?_) rfl (by kernel_rfl) (by kernel_rfl) (by kernel_rfl) (fun _ _ _ h => h) (Or.inl ⟨by rfl, ?_⟩) (by assumption) ?_
  rotate_left
  · intro u hSw
    go_simp
    try (with_reducible rfl)
  try simp only [Act.put, List.setIfInBounds_toArray, List.set_cons_zero, List.set_cons_succ]
  refine wpAnyH_take (i := 11) (oi := ⟨_, _, _, _, _, _⟩) (v := ?_) rfl (by kernel_rfl) (by kernel_rfl) (by kernel_rfl) (fun _ _ _ h => h) (Or.inl ⟨by rfl, ?_⟩) (by assumption) ?_
  rotate_left
  · intro u hSw
    go_simp
    try (with_reducible rfl)
  try simp only [Act.put, List.setIfInBounds_toArray, List.set_cons_zero, List.set_cons_succ]
  refine wpAnyH_take (i := 12) (oi := ⟨_, _, _, _, _, _⟩) (v := ?_) rfl (by kernel_rfl) (by kernel_rfl) (by kernel_rfl) (fun _ _ _ h => h) (Or.inl ⟨by rfl, ?_⟩) (by assumption) ?_
  rotate_left
  · intro u hSw
    go_simp
    try (with_reducible rfl)
  try simp only [Act.put, List.setIfInBounds_toArray, List.set_cons_zero, List.set_cons_succ]
  refine wpAnyH_take (i := 13) (oi := ⟨_, _, _, _, _, _⟩) (v := ?_) rfl (by kernel_rfl) (by kernel_rfl) (by kernel_rfl) (fun _ _ _ h => h) (Or.inl ⟨by rfl, ?_⟩) (by assumption) ?_
  rotate_left
  · intro u hSw
    go_simp
    try (with_reducible rfl)
  try simp only [Act.put, List.setIfInBounds_toArray, List.set_cons_zero, List.set_cons_succ]
  refine wpAnyH_done (by kernel_rfl) ?_ _

  have hbT : Below u2.heap.size u2 u9 := (((((hbd.trans (hb4.mono hs23)).trans (hb5.mono (Nat.le_trans hs23 hb4.size))).trans (hb6.mono (Nat.le_trans (Nat.le_trans hs23 hb4.size) hb5.size))).trans (hb7.mono (Nat.le_trans (Nat.le_trans (Nat.le_trans hs23 hb4.size) hb5.size) hb6.size))).trans (hb8.mono (Nat.le_trans (Nat.le_trans (Nat.le_trans (Nat.le_trans hs23 hb4.size) hb5.size) hb6.size) hb7.size))).trans (hb9.mono (Nat.le_trans (Nat.le_trans (Nat.le_trans (Nat.le_trans (Nat.le_trans hs23 hb4.size) hb5.size) hb6.size) hb7.size) hb8.size))
  have hs28 : u2.heap.size ≤ u8.heap.size := Nat.le_trans (Nat.le_trans (Nat.le_trans (Nat.le_trans (Nat.le_trans hs23 hb4.size) hb5.size) hb6.size) hb7.size) hb8.size
  have hs89 := hb9.size
  have hE1 := (hE1'.below (show Below u1.heap.size u2.drew u9 from ⟨hbT.os.trans hbd.os.symm, hbT.tape.trans hbd.tape.symm, hbT.output.trans hbd.output.symm, by have := hbT.size; simpa using this, fun b hb => (hbT.block b (by omega)).trans (hbd.block b (by omega)).symm⟩)).mono (show u1.heap.size ≤ u9.heap.size by omega)
  have hE2 := (hE2'.below (show Below u2.heap.size u2.drew u9 from ⟨hbT.os.trans hbd.os.symm, hbT.tape.trans hbd.tape.symm, hbT.output.trans hbd.output.symm, by have := hbT.size; simpa using this, fun b hb => (hbT.block b hb).trans (hbd.block b hb).symm⟩)).mono (show u2.heap.size ≤ u9.heap.size by omega)
  have hs9 : w.heap.size ≤ u9.heap.size := B9.size
  have hw1 : w.heap.size ≤ u1.heap.size := B1.size
  clear hE1' hE2' hbT A0 A1 A2 A3 A4 A5 A6 A7 A8 A9 B0 B1 B2 B3 B4 B5 B6 B7 B8 hb1 hb2 hb4 hb5 hb6 hb7 hb8 hH8 hpa hbd
  have X0 : Below u9.heap.size u9 u9 := Below.refl _ _
  go_wp2_with (first
    | (go_at_call 74; go_must (refine (values1_any _ _ _ _).mono ?_; rintro e v1 ⟨rfl, rfl⟩))
    | (go_at_call 75; go_must (refine (pairs_any _ _ _ _).mono ?_; rintro e v1 ⟨rfl, rfl⟩))
    | (go_at_call 76; go_must (refine (values2_any _ _ _ _).mono ?_; rintro e v1 ⟨rfl, rfl⟩))
    | (go_at_call 73; go_must (refine (inTurn_any _ _ _ _).mono ?_; rintro e v1 ⟨rfl, rfl⟩)))
  go_ret
  refine known_fin ps os w u8 u9 s1 c1 es1 s2 n c2 es2 s9 c9 es9 h1 hnl.out hn32 hE1 hE2 hE9 hm1 hm2 (fun j e he => ?_) (fun j e he => ?_) hbs9.out hsm9.out hfr9 hasc9.out (fun b off q => by have := own_ge hT12.eo.own b (by rw [q]; rfl); simp at this; omega) (fun b off q => by have := own_ge hT2.eo.own b (by rw [q]; rfl); omega) (fun b off q => by have := hfs9 b off q; omega) (by omega) hs89 B9
  · obtain ⟨t1, t2, t3⟩ := tree_get hT12 he
    exact ⟨t1, t2, fun b off q => by have := t3 b off q; simp at this; omega⟩
  · obtain ⟨t1, t2, t3⟩ := tree_get hT2 he
    exact ⟨t1, t2, fun b off q => by have := t3 b off q; omega⟩
end Go.Proofs.Ytbfelelngoonjaa

/- Pq, Pr. -/
import Derived.Test.YtlebojbfcolkhaaA24
import Derived.Test.YtlebojbfcolkhaaA22
/- Layer state: what is known, told. -/
namespace Go.Proofs.Ytlebojbfcolkhaa
open Go.RowKit Go.Shelf
set_option maxRecDepth 100000
set_option linter.unusedVariables false
set_option linter.unusedSimpArgs false

attribute [local go_sem] Oper.semAt_some
/-- A slice of entries in a variable. -/
def MV (g : Nat) (sp : Option Addr) (n cap : Nat) (es : List En) (S0 : Nat) (W : World) : Prop := W.cell? ⟨g, 0, none⟩ = some (.slice sp n cap) ∧ ES S0 W sp n cap es
theorem ES.keep {B S0 n cap : Nat} {sp : Option Addr} {es : List En} {W W' : World} (h : ES S0 W sp n cap es) (l1 : ∀ b off, sp = some ⟨b, off, none⟩ → B ≤ b) (l2 : ∀ e ∈ es, ∀ b off, e.sp = some ⟨b, off, none⟩ → B ≤ b) (hb : ∀ b, B ≤ b → b < S0 → W'.heap[b]? = W.heap[b]?) : ES S0 W' sp n cap es :=
  ⟨h.len, h.nil, h.le, h.big, h.small, fun h0 => by
    obtain ⟨g, off, q, hg, hR⟩ := h.at0 h0
    exact ⟨g, off, q, hg, fun i X hX j v hv => (World.cell?_of_block (w := W) (a := ⟨g, off + i * 33 + j, none⟩) (hb g (l1 g off q) hg)).trans (hR i X hX j v hv)⟩, fun e he => by
    exact ⟨(h.ok e he).body.same (Nat.le_refl _) (fun b off _ q hg => hb b (l2 e he b off q) hg), (h.ok e he).s32⟩⟩
theorem MV.keep {B g S0 n cap : Nat} {sp : Option Addr} {es : List En} {W W' : World} (h : MV g sp n cap es S0 W) (l1 : ∀ b off, sp = some ⟨b, off, none⟩ → B ≤ b) (l2 : ∀ e ∈ es, ∀ b off, e.sp = some ⟨b, off, none⟩ → B ≤ b) (hb : ∀ b, B ≤ b → b < S0 → W'.heap[b]? = W.heap[b]?) (hg : g < S0) (hg' : B ≤ g) : MV g sp n cap es S0 W' :=
  ⟨(World.cell?_of_block (w := W) (a := ⟨g, 0, none⟩) (hb g hg' hg)).trans h.1, h.2.keep l1 l2 hb⟩
theorem part_v1 (g S0 : Nat) (sp : Option Addr) (n cap : Nat) (es : List En) (hg : g < S0) (hn : n ≤ 1000) : Part.OK ⟨101, #[.pointer (some ⟨g, 0, none⟩)], MV g sp n cap es S0, fun j e => es[j]? = some e, n⟩ S0 :=
  ⟨fun S hS => (values1_in g S S0 sp n cap es (by omega) hS hn).weaken (fun W h => ⟨h.1, h.2⟩) (fun j e h => h), enters_of Try.func101 (by kernel_rfl) rfl⟩
theorem part_v2 (g S0 : Nat) (sp : Option Addr) (n cap : Nat) (es : List En) (hg : g < S0) (hn : n ≤ 1000) : Part.OK ⟨104, #[.pointer (some ⟨g, 0, none⟩)], MV g sp n cap es S0, fun j e => es[j]? = some e, n⟩ S0 :=
  ⟨fun S hS => (values2_in g S S0 sp n cap es (by omega) hS hn).weaken (fun W h => ⟨h.1, h.2⟩) (fun j e h => h), enters_of Try.func104 (by kernel_rfl) rfl⟩
theorem part_p (g S0 : Nat) (sp : Option Addr) (n cap : Nat) (es : List En) (ls : List (List Int)) (hg : g < S0) (hn : n ≤ 32) (hls : Hid (es.map En.sm = ls)) (bls : ∀ x ∈ ls, Bts x) : Part.OK ⟨102, #[.pointer (some ⟨g, 0, none⟩)], MV g sp n cap es S0, PT S0 (prs 5 (pad ls)), 31⟩ S0 :=
  ⟨fun S hS => (pairs_in g S S0 sp n cap es ls (by omega) hn hls bls).weaken (fun W h => ⟨h.1, h.2.mono hS⟩) (fun j e ⟨B, h1, h2, h3⟩ => ⟨B, h1, h2, fun b off q => by have := h3 b off q; omega⟩), enters_of Try.func102 (by kernel_rfl) rfl⟩
/-- What is told: the entry's bytes and its sum; all of it is new, and the last one lies apart from all others. -/
structure KT (L : List (List Int)) (B : Nat) (T : Nat → En → Prop) : Prop where
  bs : ∀ j e, T j e → L[j]? = some e.bs
  sm : ∀ j e, T j e → e.sm = shl e.bs
  new : ∀ j e, T j e → ∀ b off, e.sp = some ⟨b, off, none⟩ → B ≤ b
  last : ∀ j e f, T j e → T (L.length - 1) f → j + 1 < L.length → ∀ b off b' off', e.sp = some ⟨b, off, none⟩ → f.sp = some ⟨b', off', none⟩ → b ≠ b'
/-- What known answers. -/
def KNP (ps : List Ac) (os : List Ou) (w : World) (r : Ending) (w' : World) : Prop :=
  ∃ (gc : Nat) (M : World → Prop) (T : Nat → En → Prop), r = .returned (.func (Fn.func 100) #[] #[.pointer (some ⟨gc, 0, none⟩)]) ∧ (∀ S, w'.heap.size ≤ S → Tells 100 #[.pointer (some ⟨gc, 0, none⟩)] S w'.heap.size M T (knB ps os).length) ∧ M w' ∧ (∀ W W', M W → (∀ b, w.heap.size ≤ b → b < w'.heap.size → W'.heap[b]? = W.heap[b]?) → M W') ∧ KT (knB ps os) w.heap.size T ∧ Below w.heap.size w w'
theorem knB_get {A O P Q E : List (List Int)} {n j k : Nat} (hA : A.length = 32) (hO : O.length = n) (hP : P.length = 31) (hQ : Q.length = 31) (hE : E.length = 2) :
    (k < 32 → (A ++ O ++ P ++ Q ++ E)[k]? = A[k]?) ∧ (k < n → (A ++ O ++ P ++ Q ++ E)[32 + k]? = O[k]?) ∧ (k < 31 → (A ++ O ++ P ++ Q ++ E)[32 + n + k]? = P[k]?) ∧ (k < 31 → (A ++ O ++ P ++ Q ++ E)[32 + n + 31 + k]? = Q[k]?) ∧ (k < 2 → (A ++ O ++ P ++ Q ++ E)[32 + n + 31 + 31 + k]? = E[k]?) := by
  refine ⟨fun h => ?_, fun h => ?_, fun h => ?_, fun h => ?_, fun h => ?_⟩
  · rw [List.append_assoc, List.append_assoc, List.append_assoc, List.getElem?_append_left (by omega)]
  · rw [List.append_assoc, List.append_assoc, List.append_assoc, List.getElem?_append_right (by omega), List.getElem?_append_left (by omega), hA]; congr 1; omega
  · rw [List.append_assoc, List.append_assoc, List.getElem?_append_right (by simp; omega), List.getElem?_append_left (by simp; omega)]; congr 1; simp; omega
  · rw [List.append_assoc, List.getElem?_append_right (by simp; omega), List.getElem?_append_left (by simp; omega)]; congr 1; simp; omega
  · rw [List.getElem?_append_right (by simp; omega)]; congr 1; simp; omega
theorem path2 (X Y Z : List Int) (w : World) (hX : X.length = 32) (hY : Y.length = 32) (hZ : Z.length = 32) (bX : Bts X) (bY : Bts Y) (bZ : Bts Z) (N g c : Nat) (hS : HS N w (some ⟨g, 0, none⟩) 2 c [Y, Z]) :
    Calls Try.prog 81 #[.int .i64 0, .agg (h8 X), .slice (some ⟨g, 0, none⟩) 2 c] w fun r w' => ∃ (sp : Option Addr) (cp : Nat) (es : List En), r = .returned (.tuple #[.slice sp 2 cp, .int .i64 0]) ∧ ES w'.heap.size w' sp 2 cp es ∧ Hid (es.map En.bs = [1 :: (X ++ Y), 1 :: (pr X Y ++ Z)]) ∧ Hid (∀ e ∈ es, e.sm = shl e.bs) ∧ (∀ e ∈ es, ∀ b off, e.sp = some ⟨b, off, none⟩ → w.heap.size ≤ b) ∧ (∀ b off, sp = some ⟨b, off, none⟩ → w.heap.size ≤ b) ∧ Hid (Asc es) ∧ Below w.heap.size w w' := by
  refine (path_any 0 X N _ 2 c [Y, Z] w hX bX hS (fun x hx => by simp at hx; rcases hx with rfl | rfl <;> assumption)).mono ?_
  rintro r w' ⟨sp, n, cap, es, rfl, hE, hbs, hsm, hfr, hfs, hasc, hb⟩
  have hF : FoOK 0 [Y, Z].length := ⟨by simp, by omega, by simp⟩
  have hbs := hbs.out
  rw [if_pos hF] at hbs
  have hp : pth (0 : Int).toNat X [Y, Z] = [1 :: (X ++ Y), 1 :: (pr X Y ++ Z)] := by simp [pth, pb, pr]
  rw [hp] at hbs
  have hl2 : es.length = 2 := by simpa using congrArg List.length hbs
  have hn : n = 2 := hE.len.out.trans hl2
  subst hn
  have hfe : foE 0 [Y, Z] = 0 := by unfold foE; rw [if_pos hF]
  exact ⟨sp, cap, es, by rw [hfe], hE, Hid.mk' hbs, hsm, hfr, hfs, hasc, hb⟩
theorem tree_get {base : Nat} {w : World} {v : Value} {es : List En} {bs : List (List Int)} (h : TR base w v es bs) {j : Nat} {e : En} (he : es[j]? = some e) : bs[j]? = some e.bs ∧ e.sm = shl e.bs ∧ ∀ b off, e.sp = some ⟨b, off, none⟩ → base ≤ b ∧ b < w.heap.size := by
  refine ⟨by rw [← h.bs.out]; simp [he], h.sm.out e (List.mem_of_getElem? he), fun b off q => ?_⟩
  have := h.eo.ap e (List.mem_of_getElem? he) b off q
  exact ⟨this.1, this.2.1⟩
/-- The parts. -/
def PL (g : Nat) (s1 : Option Addr) (c1 : Nat) (es1 : List En) (s2 : Option Addr) (n c2 : Nat) (es2 : List En) (s9 : Option Addr) (c9 : Nat) (es9 : List En) (L1 L2 : List (List Int)) : List Part :=
  [⟨101, #[.pointer (some ⟨g, 0, none⟩)], MV g s1 32 c1 es1 (g + 7), fun j e => es1[j]? = some e, 32⟩,
   ⟨101, #[.pointer (some ⟨g + 1, 0, none⟩)], MV (g + 1) s2 n c2 es2 (g + 7), fun j e => es2[j]? = some e, n⟩,
   ⟨102, #[.pointer (some ⟨g + 1 + 1, 0, none⟩)], MV (g + 1 + 1) s1 32 c1 es1 (g + 7), PT (g + 7) (prs 5 (pad L1)), 31⟩,
   ⟨102, #[.pointer (some ⟨g + 1 + 1 + 1, 0, none⟩)], MV (g + 1 + 1 + 1) s2 n c2 es2 (g + 7), PT (g + 7) (prs 5 (pad L2)), 31⟩,
   ⟨104, #[.pointer (some ⟨g + 1 + 1 + 1 + 1, 0, none⟩)], MV (g + 1 + 1 + 1 + 1) s9 2 c9 es9 (g + 7), fun j e => es9[j]? = some e, 2⟩]
theorem PL_cases {g : Nat} {s1 : Option Addr} {c1 : Nat} {es1 : List En} {s2 : Option Addr} {n c2 : Nat} {es2 : List En} {s9 : Option Addr} {c9 : Nat} {es9 : List En} {L1 L2 : List (List Int)} {i j : Nat} {p : Part} {e : En} (hp : (PL g s1 c1 es1 s2 n c2 es2 s9 c9 es9 L1 L2)[i]? = some p)
    (h1 : sumN (PL g s1 c1 es1 s2 n c2 es2 s9 c9 es9 L1 L2) i ≤ j) (h2 : j < sumN (PL g s1 c1 es1 s2 n c2 es2 s9 c9 es9 L1 L2) i + p.n) (h3 : p.T (j - sumN (PL g s1 c1 es1 s2 n c2 es2 s9 c9 es9 L1 L2) i) e) :
    ∃ k, (k < 32 ∧ j = k ∧ es1[k]? = some e) ∨ (k < n ∧ j = 32 + k ∧ es2[k]? = some e) ∨ (k < 31 ∧ j = 32 + n + k ∧ PT (g + 7) (prs 5 (pad L1)) k e) ∨ (k < 31 ∧ j = 32 + n + 31 + k ∧ PT (g + 7) (prs 5 (pad L2)) k e) ∨ (k < 2 ∧ j = 32 + n + 31 + 31 + k ∧ es9[k]? = some e) := by
  have hi : i < 5 := by have := (List.getElem?_eq_some_iff.1 hp).1; simpa [PL] using this
  refine ⟨j - sumN (PL g s1 c1 es1 s2 n c2 es2 s9 c9 es9 L1 L2) i, ?_⟩
  match i, hi with
  | 0, _ =>
    simp [PL] at hp; subst hp
    simp only [sumN, PL, List.take, List.map, List.sum_nil] at h1 h2 h3 ⊢
    exact .inl ⟨by omega, by omega, h3⟩
  | 1, _ =>
    simp [PL] at hp; subst hp
    simp only [sumN, PL, List.take, List.map, List.sum_nil, List.sum_cons] at h1 h2 h3 ⊢
    exact .inr (.inl ⟨by omega, by omega, h3⟩)
  | 2, _ =>
    simp [PL] at hp; subst hp
    simp only [sumN, PL, List.take, List.map, List.sum_nil, List.sum_cons] at h1 h2 h3 ⊢
    exact .inr (.inr (.inl ⟨by omega, by omega, h3⟩))
  | 3, _ =>
    simp [PL] at hp; subst hp
    simp only [sumN, PL, List.take, List.map, List.sum_nil, List.sum_cons] at h1 h2 h3 ⊢
    exact .inr (.inr (.inr (.inl ⟨by omega, by omega, h3⟩)))
  | 4, _ =>
    simp [PL] at hp; subst hp
    simp only [sumN, PL, List.take, List.map, List.sum_nil, List.sum_cons] at h1 h2 h3 ⊢
    exact .inr (.inr (.inr (.inr ⟨by omega, by omega, h3⟩)))
theorem known_fin (ps : List Ac) (os : List Ou) (w u8 u9 : World) (s1 : Option Addr) (c1 : Nat) (es1 : List En) (s2 : Option Addr) (n c2 : Nat) (es2 : List En) (s9 : Option Addr) (c9 : Nat) (es9 : List En) (h1 : ps.length = 32) (hn : n = os.length) (hn32 : n ≤ 32)
    (hE1 : ES u9.heap.size u9 s1 32 c1 es1) (hE2 : ES u9.heap.size u9 s2 n c2 es2) (hE9 : ES u9.heap.size u9 s9 2 c9 es9) (hm1 : Hid (es1.map En.sm = al ps)) (hm2 : Hid (es2.map En.sm = ol os))
    (f1 : ∀ (j : Nat) (e : En), es1[j]? = some e → (ps.map fun a => 0 :: acb a)[j]? = some e.bs ∧ e.sm = shl e.bs ∧ ∀ b off, e.sp = some ⟨b, off, none⟩ → w.heap.size ≤ b ∧ b < u8.heap.size)
    (f2 : ∀ (j : Nat) (e : En), es2[j]? = some e → (os.map fun a => 0 :: oub a)[j]? = some e.bs ∧ e.sm = shl e.bs ∧ ∀ b off, e.sp = some ⟨b, off, none⟩ → w.heap.size ≤ b ∧ b < u8.heap.size)
    (hbs9 : es9.map En.bs = [1 :: (tr 5 (al ps) ++ tr 5 (ol os)), 1 :: (pr (tr 5 (al ps)) (tr 5 (ol os)) ++ cnt n)]) (hsm9 : ∀ e ∈ es9, e.sm = shl e.bs) (hfr9 : ∀ e ∈ es9, ∀ b off, e.sp = some ⟨b, off, none⟩ → u8.heap.size ≤ b) (hasc : Asc es9) (l1 : ∀ b off, s1 = some ⟨b, off, none⟩ → w.heap.size ≤ b) (l2 : ∀ b off, s2 = some ⟨b, off, none⟩ → w.heap.size ≤ b) (l9 : ∀ b off, s9 = some ⟨b, off, none⟩ → w.heap.size ≤ b)
    (hs8 : w.heap.size ≤ u8.heap.size) (hs9 : u8.heap.size ≤ u9.heap.size) (hb : Below w.heap.size w u9) :
    KNP ps os w (.returned (.func (Fn.func 100) #[] #[.pointer (some ⟨u9.heap.size + 1 + 1 + 1 + 1 + 1 + 1, 0, none⟩)]))
      (((((((u9.alloc (.cells #[.slice s1 32 c1] 88)).alloc (.cells #[.slice s2 n c2] 88)).alloc (.cells #[.slice s1 32 c1] 88)).alloc (.cells #[.slice s2 n c2] 88)).alloc (.cells #[.slice s9 2 c9] 63)).alloc
        (.cells #[.func (Fn.func 101) #[] #[.pointer (some ⟨u9.heap.size, 0, none⟩)], .func (Fn.func 101) #[] #[.pointer (some ⟨u9.heap.size + 1, 0, none⟩)], .func (Fn.func 102) #[] #[.pointer (some ⟨u9.heap.size + 1 + 1, 0, none⟩)], .func (Fn.func 102) #[] #[.pointer (some ⟨u9.heap.size + 1 + 1 + 1, 0, none⟩)], .func (Fn.func 104) #[] #[.pointer (some ⟨u9.heap.size + 1 + 1 + 1 + 1, 0, none⟩)]] 105)).alloc (.cells #[.slice (some ⟨u9.heap.size + 1 + 1 + 1 + 1 + 1, 0, none⟩) 5 5] 153)) := by
  have p1 := (((((Arr.new u9 88 #[.slice s1 32 c1]).alloc (.cells #[.slice s2 n c2] 88)).alloc (.cells #[.slice s1 32 c1] 88)).alloc (.cells #[.slice s2 n c2] 88)).alloc (.cells #[.slice s9 2 c9] 63)).alloc (.cells #[.func (Fn.func 101) #[] #[.pointer (some ⟨u9.heap.size, 0, none⟩)], .func (Fn.func 101) #[] #[.pointer (some ⟨u9.heap.size + 1, 0, none⟩)], .func (Fn.func 102) #[] #[.pointer (some ⟨u9.heap.size + 1 + 1, 0, none⟩)], .func (Fn.func 102) #[] #[.pointer (some ⟨u9.heap.size + 1 + 1 + 1, 0, none⟩)], .func (Fn.func 104) #[] #[.pointer (some ⟨u9.heap.size + 1 + 1 + 1 + 1, 0, none⟩)]] 105)
  have p2 := ((((Arr.new (u9.alloc (.cells #[.slice s1 32 c1] 88)) 88 #[.slice s2 n c2]).alloc (.cells #[.slice s1 32 c1] 88)).alloc (.cells #[.slice s2 n c2] 88)).alloc (.cells #[.slice s9 2 c9] 63)).alloc (.cells #[.func (Fn.func 101) #[] #[.pointer (some ⟨u9.heap.size, 0, none⟩)], .func (Fn.func 101) #[] #[.pointer (some ⟨u9.heap.size + 1, 0, none⟩)], .func (Fn.func 102) #[] #[.pointer (some ⟨u9.heap.size + 1 + 1, 0, none⟩)], .func (Fn.func 102) #[] #[.pointer (some ⟨u9.heap.size + 1 + 1 + 1, 0, none⟩)], .func (Fn.func 104) #[] #[.pointer (some ⟨u9.heap.size + 1 + 1 + 1 + 1, 0, none⟩)]] 105)
  have p3 := (((Arr.new ((u9.alloc (.cells #[.slice s1 32 c1] 88)).alloc (.cells #[.slice s2 n c2] 88)) 88 #[.slice s1 32 c1]).alloc (.cells #[.slice s2 n c2] 88)).alloc (.cells #[.slice s9 2 c9] 63)).alloc (.cells #[.func (Fn.func 101) #[] #[.pointer (some ⟨u9.heap.size, 0, none⟩)], .func (Fn.func 101) #[] #[.pointer (some ⟨u9.heap.size + 1, 0, none⟩)], .func (Fn.func 102) #[] #[.pointer (some ⟨u9.heap.size + 1 + 1, 0, none⟩)], .func (Fn.func 102) #[] #[.pointer (some ⟨u9.heap.size + 1 + 1 + 1, 0, none⟩)], .func (Fn.func 104) #[] #[.pointer (some ⟨u9.heap.size + 1 + 1 + 1 + 1, 0, none⟩)]] 105)
  have p4 := ((Arr.new (((u9.alloc (.cells #[.slice s1 32 c1] 88)).alloc (.cells #[.slice s2 n c2] 88)).alloc (.cells #[.slice s1 32 c1] 88)) 88 #[.slice s2 n c2]).alloc (.cells #[.slice s9 2 c9] 63)).alloc (.cells #[.func (Fn.func 101) #[] #[.pointer (some ⟨u9.heap.size, 0, none⟩)], .func (Fn.func 101) #[] #[.pointer (some ⟨u9.heap.size + 1, 0, none⟩)], .func (Fn.func 102) #[] #[.pointer (some ⟨u9.heap.size + 1 + 1, 0, none⟩)], .func (Fn.func 102) #[] #[.pointer (some ⟨u9.heap.size + 1 + 1 + 1, 0, none⟩)], .func (Fn.func 104) #[] #[.pointer (some ⟨u9.heap.size + 1 + 1 + 1 + 1, 0, none⟩)]] 105)
  have p5 := (Arr.new ((((u9.alloc (.cells #[.slice s1 32 c1] 88)).alloc (.cells #[.slice s2 n c2] 88)).alloc (.cells #[.slice s1 32 c1] 88)).alloc (.cells #[.slice s2 n c2] 88)) 63 #[.slice s9 2 c9]).alloc (.cells #[.func (Fn.func 101) #[] #[.pointer (some ⟨u9.heap.size, 0, none⟩)], .func (Fn.func 101) #[] #[.pointer (some ⟨u9.heap.size + 1, 0, none⟩)], .func (Fn.func 102) #[] #[.pointer (some ⟨u9.heap.size + 1 + 1, 0, none⟩)], .func (Fn.func 102) #[] #[.pointer (some ⟨u9.heap.size + 1 + 1 + 1, 0, none⟩)], .func (Fn.func 104) #[] #[.pointer (some ⟨u9.heap.size + 1 + 1 + 1 + 1, 0, none⟩)]] 105)
  have p6 := Arr.new (((((u9.alloc (.cells #[.slice s1 32 c1] 88)).alloc (.cells #[.slice s2 n c2] 88)).alloc (.cells #[.slice s1 32 c1] 88)).alloc (.cells #[.slice s2 n c2] 88)).alloc (.cells #[.slice s9 2 c9] 63)) 105 #[.func (Fn.func 101) #[] #[.pointer (some ⟨u9.heap.size, 0, none⟩)], .func (Fn.func 101) #[] #[.pointer (some ⟨u9.heap.size + 1, 0, none⟩)], .func (Fn.func 102) #[] #[.pointer (some ⟨u9.heap.size + 1 + 1, 0, none⟩)], .func (Fn.func 102) #[] #[.pointer (some ⟨u9.heap.size + 1 + 1 + 1, 0, none⟩)], .func (Fn.func 104) #[] #[.pointer (some ⟨u9.heap.size + 1 + 1 + 1 + 1, 0, none⟩)]]
  have bq : Below u9.heap.size u9 (((((u9.alloc (.cells #[.slice s1 32 c1] 88)).alloc (.cells #[.slice s2 n c2] 88)).alloc (.cells #[.slice s1 32 c1] 88)).alloc (.cells #[.slice s2 n c2] 88)).alloc (.cells #[.slice s9 2 c9] 63)) := ((((alloc_bel' u9 _).alloc (by simp) _).alloc (by simp; omega) _).alloc (by simp; omega) _).alloc (by simp; omega) _
  have bq6 := bq.alloc bq.size (.cells #[.func (Fn.func 101) #[] #[.pointer (some ⟨u9.heap.size, 0, none⟩)], .func (Fn.func 101) #[] #[.pointer (some ⟨u9.heap.size + 1, 0, none⟩)], .func (Fn.func 102) #[] #[.pointer (some ⟨u9.heap.size + 1 + 1, 0, none⟩)], .func (Fn.func 102) #[] #[.pointer (some ⟨u9.heap.size + 1 + 1 + 1, 0, none⟩)], .func (Fn.func 104) #[] #[.pointer (some ⟨u9.heap.size + 1 + 1 + 1 + 1, 0, none⟩)]] 105)
  simp only [World.size_alloc] at p2 p3 p4 p5 p6
  have hsz6 : ((((((u9.alloc (.cells #[.slice s1 32 c1] 88)).alloc (.cells #[.slice s2 n c2] 88)).alloc (.cells #[.slice s1 32 c1] 88)).alloc (.cells #[.slice s2 n c2] 88)).alloc (.cells #[.slice s9 2 c9] 63)).alloc (.cells #[.func (Fn.func 101) #[] #[.pointer (some ⟨u9.heap.size, 0, none⟩)], .func (Fn.func 101) #[] #[.pointer (some ⟨u9.heap.size + 1, 0, none⟩)], .func (Fn.func 102) #[] #[.pointer (some ⟨u9.heap.size + 1 + 1, 0, none⟩)], .func (Fn.func 102) #[] #[.pointer (some ⟨u9.heap.size + 1 + 1 + 1, 0, none⟩)], .func (Fn.func 104) #[] #[.pointer (some ⟨u9.heap.size + 1 + 1 + 1 + 1, 0, none⟩)]] 105)).heap.size = u9.heap.size + 6 := by simp
  generalize (((((u9.alloc (.cells #[.slice s1 32 c1] 88)).alloc (.cells #[.slice s2 n c2] 88)).alloc (.cells #[.slice s1 32 c1] 88)).alloc (.cells #[.slice s2 n c2] 88)).alloc (.cells #[.slice s9 2 c9] 63)).alloc (.cells #[.func (Fn.func 101) #[] #[.pointer (some ⟨u9.heap.size, 0, none⟩)], .func (Fn.func 101) #[] #[.pointer (some ⟨u9.heap.size + 1, 0, none⟩)], .func (Fn.func 102) #[] #[.pointer (some ⟨u9.heap.size + 1 + 1, 0, none⟩)], .func (Fn.func 102) #[] #[.pointer (some ⟨u9.heap.size + 1 + 1 + 1, 0, none⟩)], .func (Fn.func 104) #[] #[.pointer (some ⟨u9.heap.size + 1 + 1 + 1 + 1, 0, none⟩)]] 105) = W6 at *
  have p7 := Arr.new W6 153 #[.slice (some ⟨u9.heap.size + 1 + 1 + 1 + 1 + 1, 0, none⟩) 5 5]
  rw [hsz6] at p7
  have bW := bq6.alloc (by omega) (.cells #[.slice (some ⟨u9.heap.size + 1 + 1 + 1 + 1 + 1, 0, none⟩) 5 5] 153)
  have hszW : (W6.alloc (.cells #[.slice (some ⟨u9.heap.size + 1 + 1 + 1 + 1 + 1, 0, none⟩) 5 5] 153)).heap.size = u9.heap.size + 7 := by simp [hsz6]
  have q1 := p1.alloc (.cells #[.slice (some ⟨u9.heap.size + 1 + 1 + 1 + 1 + 1, 0, none⟩) 5 5] 153)
  have q2 := p2.alloc (.cells #[.slice (some ⟨u9.heap.size + 1 + 1 + 1 + 1 + 1, 0, none⟩) 5 5] 153)
  have q3 := p3.alloc (.cells #[.slice (some ⟨u9.heap.size + 1 + 1 + 1 + 1 + 1, 0, none⟩) 5 5] 153)
  have q4 := p4.alloc (.cells #[.slice (some ⟨u9.heap.size + 1 + 1 + 1 + 1 + 1, 0, none⟩) 5 5] 153)
  have q5 := p5.alloc (.cells #[.slice (some ⟨u9.heap.size + 1 + 1 + 1 + 1 + 1, 0, none⟩) 5 5] 153)
  have q6 := p6.alloc (.cells #[.slice (some ⟨u9.heap.size + 1 + 1 + 1 + 1 + 1, 0, none⟩) 5 5] 153)
  generalize W6.alloc (.cells #[.slice (some ⟨u9.heap.size + 1 + 1 + 1 + 1 + 1, 0, none⟩) 5 5] 153) = Wf at *
  clear p1 p2 p3 p4 p5 p6 bq bq6
  have e1 := (hE1.below bW).mono (show u9.heap.size ≤ u9.heap.size + 7 by omega)
  have e2 := (hE2.below bW).mono (show u9.heap.size ≤ u9.heap.size + 7 by omega)
  have e9 := (hE9.below bW).mono (show u9.heap.size ≤ u9.heap.size + 7 by omega)
  have lP1 := prs_len 5 (pad (al ps)) (pad_len (by rw [al_len]; omega))
  have lP2 := prs_len 5 (pad (ol os)) (pad_len (by rw [ol_len]; omega))
  have hkn := knB_len h1 (by omega : os.length ≤ 32)
  have hsum : sumN (PL u9.heap.size s1 c1 es1 s2 n c2 es2 s9 c9 es9 (al ps) (ol os)) 5 = (knB ps os).length := by
    rw [hkn]; simp only [sumN, PL, List.take, List.map, List.sum_cons, List.sum_nil]; omega
  have kg : ∀ k, _ := fun k => knB_get (A := ps.map fun a => 0 :: acb a) (O := os.map fun o => 0 :: oub o) (P := prs 5 (pad (al ps))) (Q := prs 5 (pad (ol os))) (E := [1 :: (tr 5 (al ps) ++ tr 5 (ol os)), 1 :: (pr (tr 5 (al ps)) (tr 5 (ol os)) ++ cnt os.length)]) (n := n) (j := 0) (k := k) (by simp [h1]) (by simp [hn]) (by omega) (by omega) rfl
  refine ⟨u9.heap.size + 1 + 1 + 1 + 1 + 1 + 1, _, _, rfl, fun S hS => by
    rw [← hsum]
    exact inTurn_in (u9.heap.size + 1 + 1 + 1 + 1 + 1 + 1) (u9.heap.size + 1 + 1 + 1 + 1 + 1) S Wf.heap.size (PL u9.heap.size s1 c1 es1 s2 n c2 es2 s9 c9 es9 (al ps) (ol os)) (by omega) (by omega) hS rfl (by
      rw [hszW]
      have hall : ∀ p ∈ PL u9.heap.size s1 c1 es1 s2 n c2 es2 s9 c9 es9 (al ps) (ol os), p.OK (u9.heap.size + 7) := by
        intro p hp
        simp only [PL, List.mem_cons, List.mem_nil_iff, or_false] at hp
        rcases hp with rfl | rfl | rfl | rfl | rfl
        · exact part_v1 _ _ _ _ _ _ (by omega) (by omega)
        · exact part_v1 _ _ _ _ _ _ (by omega) (by omega)
        · exact part_p _ _ _ _ _ _ _ (by omega) (by omega) hm1 (al_bts ps)
        · exact part_p _ _ _ _ _ _ _ (by omega) (by omega) hm2 (ol_bts os)
        · exact part_v2 _ _ _ _ _ _ (by omega) (by omega)
      exact hall), ?_, ?_, ?_, hb.trans (bW.mono hb.size)⟩
  · refine ⟨p7.cell 0, ?_, ?_⟩
    rotate_left
    · intro p hp
      simp only [PL, List.mem_cons, List.mem_nil_iff, or_false] at hp
      rcases hp with rfl | rfl | rfl | rfl | rfl
      · exact ⟨q1.cell 0, e1⟩
      · exact ⟨q2.cell 0, e2⟩
      · exact ⟨q3.cell 0, e1⟩
      · exact ⟨q4.cell 0, e2⟩
      · exact ⟨q5.cell 0, e9⟩
    intro i p hp
    have hi : i < 5 := by have := (List.getElem?_eq_some_iff.1 hp).1; simpa [PL] using this
    rw [q6.cell]
    match i, hi with
    | 0, _ => simp [PL] at hp; subst hp; rfl
    | 1, _ => simp [PL] at hp; subst hp; rfl
    | 2, _ => simp [PL] at hp; subst hp; rfl
    | 3, _ => simp [PL] at hp; subst hp; rfl
    | 4, _ => simp [PL] at hp; subst hp; rfl
  · rintro W W' ⟨m1, m2, m3⟩ hbb
    rw [hszW] at hbb
    have m1e : ∀ e ∈ es1, ∀ b off, e.sp = some ⟨b, off, none⟩ → w.heap.size ≤ b := fun e he b off q => by
      obtain ⟨i, hi⟩ := List.mem_iff_getElem?.1 he
      exact ((f1 i e hi).2.2 b off q).1
    have m2e : ∀ e ∈ es2, ∀ b off, e.sp = some ⟨b, off, none⟩ → w.heap.size ≤ b := fun e he b off q => by
      obtain ⟨i, hi⟩ := List.mem_iff_getElem?.1 he
      exact ((f2 i e hi).2.2 b off q).1
    have m9e : ∀ e ∈ es9, ∀ b off, e.sp = some ⟨b, off, none⟩ → w.heap.size ≤ b := fun e he b off q => by have := hfr9 e he b off q; omega
    refine ⟨(World.cell?_of_block (w := W) (a := ⟨u9.heap.size + 1 + 1 + 1 + 1 + 1 + 1, 0, none⟩) (hbb (u9.heap.size + 1 + 1 + 1 + 1 + 1 + 1) (by omega) (by omega))).trans m1, fun i p hp => (World.cell?_of_block (w := W) (a := ⟨u9.heap.size + 1 + 1 + 1 + 1 + 1, i, none⟩) (hbb (u9.heap.size + 1 + 1 + 1 + 1 + 1) (by omega) (by omega))).trans (m2 i p hp), fun p hp => ?_⟩
    have m3' := m3 p hp
    simp only [PL, List.mem_cons, List.mem_nil_iff, or_false] at hp
    rcases hp with rfl | rfl | rfl | rfl | rfl
    · exact MV.keep m3' l1 m1e hbb (by omega) (by omega)
    · exact MV.keep m3' l2 m2e hbb (by omega) (by omega)
    · exact MV.keep m3' l1 m1e hbb (by omega) (by omega)
    · exact MV.keep m3' l2 m2e hbb (by omega) (by omega)
    · exact MV.keep m3' l9 m9e hbb (by omega) (by omega)
  · have g9 : ∀ (k : Nat) (e : En), es9[k]? = some e → [1 :: (tr 5 (al ps) ++ tr 5 (ol os)), 1 :: (pr (tr 5 (al ps)) (tr 5 (ol os)) ++ cnt os.length)][k]? = some e.bs := fun (k : Nat) (e : En) he => by rw [← hn, ← hbs9]; simp [he]
    refine ⟨?_, ?_, ?_, ?_⟩
    · rintro j e ⟨i, p, hp, a1, a2, a3⟩
      obtain ⟨k, hk⟩ := PL_cases hp a1 a2 a3
      obtain ⟨k1, k2, k3, k4, k5⟩ := kg k
      rcases hk with ⟨hk, rfl, he⟩ | ⟨hk, rfl, he⟩ | ⟨hk, rfl, B, hB, he, -⟩ | ⟨hk, rfl, B, hB, he, -⟩ | ⟨hk, rfl, he⟩
      · exact (k1 hk).trans (f1 _ e he).1
      · exact (k2 hk).trans (f2 _ e he).1
      · exact (k3 hk).trans (by rw [hB, he.out.1])
      · exact (k4 hk).trans (by rw [hB, he.out.1])
      · exact (k5 hk).trans (g9 _ e he)
    · rintro j e ⟨i, p, hp, a1, a2, a3⟩
      obtain ⟨k, hk⟩ := PL_cases hp a1 a2 a3
      rcases hk with ⟨hk, rfl, he⟩ | ⟨hk, rfl, he⟩ | ⟨hk, rfl, B, hB, he, -⟩ | ⟨hk, rfl, B, hB, he, -⟩ | ⟨hk, rfl, he⟩
      · exact (f1 _ e he).2.1
      · exact (f2 _ e he).2.1
      · rw [he.out.2, he.out.1]
      · rw [he.out.2, he.out.1]
      · exact hsm9 e (List.mem_of_getElem? he)
    · rintro j e ⟨i, p, hp, a1, a2, a3⟩ b off q
      obtain ⟨k, hk⟩ := PL_cases hp a1 a2 a3
      rcases hk with ⟨hk, rfl, he⟩ | ⟨hk, rfl, he⟩ | ⟨hk, rfl, B, hB, he, hh⟩ | ⟨hk, rfl, B, hB, he, hh⟩ | ⟨hk, rfl, he⟩
      · exact ((f1 _ e he).2.2 b off q).1
      · exact ((f2 _ e he).2.2 b off q).1
      · have := hh b off q; omega
      · have := hh b off q; omega
      · have := hfr9 e (List.mem_of_getElem? he) b off q; omega
    · rintro j e f ⟨i, p, hp, a1, a2, a3⟩ ⟨i', p', hp', a1', a2', a3'⟩ hjl b off b' off' q q'
      rw [hkn] at hjl a1' a2' a3'
      obtain ⟨k', hk'⟩ := PL_cases hp' a1' a2' a3'
      have hf : es9[1]? = some f ∧ k' = 1 := by
        rcases hk' with ⟨hk, hj, he⟩ | ⟨hk, hj, he⟩ | ⟨hk, hj, he⟩ | ⟨hk, hj, he⟩ | ⟨hk, hj, he⟩
        · omega
        · omega
        · omega
        · omega
        · obtain rfl : k' = 1 := by omega
          exact ⟨he, rfl⟩
      have hfb := hfr9 f (List.mem_of_getElem? hf.1) b' off' q'
      have hfS : b' < u9.heap.size := by
        have := hE9.ok f (List.mem_of_getElem? hf.1)
        have hbs1 : f.bs ≠ [] := by
          have := g9 1 f hf.1
          simp at this
          rw [← this]; simp
        have hn0 : 0 < f.n := by
          rw [this.body.len.out]
          exact List.length_pos_iff.2 hbs1
        obtain ⟨b2, off2, e2', hb2, -⟩ := this.body.at0 hn0
        rw [q'] at e2'; cases e2'
        exact hb2
      obtain ⟨k, hk⟩ := PL_cases hp a1 a2 a3
      rcases hk with ⟨hk, rfl, he⟩ | ⟨hk, rfl, he⟩ | ⟨hk, rfl, B, hB, he, hh⟩ | ⟨hk, rfl, B, hB, he, hh⟩ | ⟨hk, rfl, he⟩
      · have := ((f1 _ e he).2.2 b off q).2; omega
      · have := ((f2 _ e he).2.2 b off q).2; omega
      · have := hh b off q; omega
      · have := hh b off q; omega
      · obtain rfl : k = 0 := by omega
        have h0 := (List.getElem?_eq_some_iff.1 he)
        have h1' := (List.getElem?_eq_some_iff.1 hf.1)
        have := List.pairwise_iff_getElem.1 hasc 0 1 h0.1 h1'.1 (by omega) b off b' off' (by rw [h0.2]; exact q) (by rw [h1'.2]; exact q')
        omega
set_option maxHeartbeats 4000000 in
theorem known_any (ps : List Ac) (N : Nat) (sp : Option Addr) (n cap : Nat) (os : List Ou) (w : World) (hS : SS N w ps sp n cap os) (hn32 : n ≤ 32) :
    Calls Try.prog 61 #[.agg (stA ps sp n cap)] w (KNP ps os w) := by
  have h1 := hS.a32.out
  have h2 := hS.l32
  have hok := hS.ok.out
  have hnl := hS.outs.len
  have hS := hS.here
  have A0 := (Arr.new w 30 (stA ps sp n cap)).drew
  have B0 := (alloc_bel' w (.cells (stA ps sp n cap) 30)).drew
  have hA32 := tr5_len (al_32 ps)
  have hO32 := tr5_len (ol_32 os)
  have hC32 := cnt_len n
  have bA := tr_bts 5 _ (al_bts ps)
  have bO := tr_bts 5 _ (ol_bts os)
  go_enter Try.func61, Try.ntmps61
  go_upto_region 1 with fail
  refine wp_region_held_drew (S := fun u => Below w.heap.size w u ∧ Arr u w.heap.size 30 (stA ps sp n cap)) (by kernel_rfl) (⟨B0, A0⟩) (fun hHeld => ?_)
  refine wpAnyH_take (i := 0) (oi := ⟨_, _, _, _, _, _⟩) rfl (by kernel_rfl) (by kernel_rfl) (by kernel_rfl) (fun _ _ _ h => h) (y30 (by rfl) (.tmp 1) rfl w.heap.size 30 rfl ps sp n cap h1 h2 (fun u hu => hu.2)) (by assumption) ?_
  try simp only [Act.put, List.setIfInBounds_toArray, List.set_cons_zero, List.set_cons_succ]
  refine wpAnyH_take (i := 2) (oi := ⟨_, _, _, _, _, _⟩) rfl (by kernel_rfl) (by kernel_rfl) (by kernel_rfl) (fun _ _ _ h => h) (y30 (by rfl) (.tmp 1) rfl w.heap.size 30 rfl ps sp n cap h1 h2 (fun u hu => hu.2)) (by assumption) ?_
  try simp only [Act.put, List.setIfInBounds_toArray, List.set_cons_zero, List.set_cons_succ]
  refine wpAnyH_ready (rs := [1]) (by kernel_rfl) (by simp) ?_
  refine AllReadyH.cons (o := ⟨_, _, _, _, _, _⟩) rfl (fun K hK => ?_) AllReadyH.nil
  go_simp
  refine (accs_any ps sp n cap _ h1 hok).mono ?_; rintro e u1 ⟨s1, c1, es1, rfl, hE1, hm1, hT1, hb1⟩; have B1 := B0.trans (hb1.mono B0.size); have A1 := A0.below hb1 A0.lt
  go_wp2_with fail
  refine hK.out _ _ ⟨B1, A1⟩ (fun hHeld => ?_)
  clear hK K
  try simp only [Act.put, List.setIfInBounds_toArray, List.set_cons_zero, List.set_cons_succ]
  refine wpAnyH_ready (rs := [3]) (by kernel_rfl) (by simp) ?_
  refine AllReadyH.cons (o := ⟨_, _, _, _, _, _⟩) rfl (fun K hK => ?_) AllReadyH.nil
  go_simp
  refine (outs_any ps _ sp n cap os _ (hS.below B1) hn32).mono ?_; rintro e u2 ⟨s2, c2, es2, rfl, hE2, hm2, hT2, hb2⟩; have B2 := B1.trans (hb2.mono B1.size); have A2 := A1.below hb2 A1.lt
  go_wp2_with fail
  refine hK.out _ _ ⟨B2, A2⟩ (fun hHeld => ?_)
  clear hK K
  try simp only [Act.put, List.setIfInBounds_toArray, List.set_cons_zero, List.set_cons_succ]
  refine wpAnyH_take (i := 4) (oi := ⟨_, _, _, _, _, _⟩) (v := ?_) rfl (by kernel_rfl) (by kernel_rfl) (by kernel_rfl) (fun _ _ _ h => h) (Or.inl ⟨by rfl, ?_⟩) (by assumption) ?_
  rotate_left
  · intro u hSw
    go_simp
    try (with_reducible rfl)
  try simp only [Act.put, List.setIfInBounds_toArray, List.set_cons_zero, List.set_cons_succ]
  refine wpAnyH_take (i := 5) (oi := ⟨_, _, _, _, _, _⟩) (v := ?_) rfl (by kernel_rfl) (by kernel_rfl) (by kernel_rfl) (fun _ _ _ h => h) (Or.inl ⟨by rfl, ?_⟩) (by assumption) ?_
  rotate_left
  · intro u hSw
    go_simp
    try (with_reducible rfl)
  try simp only [Act.put, List.setIfInBounds_toArray, List.set_cons_zero, List.set_cons_succ]
  refine wpAnyH_done (by kernel_rfl) ?_ _

  go_upto_region 2 with fail
  have hT12 := hT1.below hb2
  have hbd := (Below.refl u2.heap.size u2).drew
  have B3 := B2.drew
  have A3 := A2.drew
  have hs12 := hb2.size
  have hE1' : ES u1.heap.size u2.drew s1 32 c1 es1 := (hE1.below hb2).below (hbd.mono hs12)
  have hE2' : ES u2.heap.size u2.drew s2 n c2 es2 := hE2.below hbd
  have hs23 : u2.heap.size ≤ u2.drew.heap.size := hbd.size
  refine wp_region_held_drew (S := fun u => Below w.heap.size w u ∧ Arr u w.heap.size 30 (stA ps sp n cap)) (by kernel_rfl) (⟨B3, A3⟩) (fun hHeld => ?_)
  refine wpAnyH_take (i := 0) (oi := ⟨_, _, _, _, _, _⟩) (v := ?_) rfl (by kernel_rfl) (by kernel_rfl) (by kernel_rfl) (fun _ _ _ h => h) (Or.inl ⟨by rfl, ?_⟩) (by assumption) ?_
  rotate_left
  · intro u hSw
    go_simp
    try (with_reducible rfl)
  try simp only [Act.put, List.setIfInBounds_toArray, List.set_cons_zero, List.set_cons_succ]
  refine wpAnyH_take (i := 2) (oi := ⟨_, _, _, _, _, _⟩) (v := ?_) rfl (by kernel_rfl) (by kernel_rfl) (by kernel_rfl) (fun _ _ _ h => h) (Or.inl ⟨by rfl, ?_⟩) (by assumption) ?_
  rotate_left
  · intro u hSw
    go_simp
    try (with_reducible rfl)
  try simp only [Act.put, List.setIfInBounds_toArray, List.set_cons_zero, List.set_cons_succ]
  refine wpAnyH_take (i := 4) (oi := ⟨_, _, _, _, _, _⟩) rfl (by kernel_rfl) (by kernel_rfl) (by kernel_rfl) (fun _ _ _ h => h) (y30 (by rfl) (.tmp 1) rfl w.heap.size 30 rfl ps sp n cap h1 h2 (fun u hu => hu.2)) (by assumption) ?_
  try simp only [Act.put, List.setIfInBounds_toArray, List.set_cons_zero, List.set_cons_succ]
  refine wpAnyH_ready (rs := [1]) (by kernel_rfl) (by simp) ?_
  refine AllReadyH.cons (o := ⟨_, _, _, _, _, _⟩) rfl (fun K hK => ?_) AllReadyH.nil
  go_simp
  refine (troot_ls _ s1 32 c1 es1 _ _ hE1' hm1 (by omega)).mono ?_; rintro e u4 ⟨rfl, hb4⟩; have B4 := B3.trans (hb4.mono B3.size); have A4 := A3.below hb4 A3.lt
  go_wp2_with fail
  refine hK.out _ _ ⟨B4, A4⟩ (fun hHeld => ?_)
  clear hK K
  try simp only [Act.put, List.setIfInBounds_toArray, List.set_cons_zero, List.set_cons_succ]
  refine wpAnyH_ready (rs := [3]) (by kernel_rfl) (by simp) ?_
  refine AllReadyH.cons (o := ⟨_, _, _, _, _, _⟩) rfl (fun K hK => ?_) AllReadyH.nil
  go_simp
  refine (troot_ls _ s2 n c2 es2 _ _ (hE2'.below (hb4.mono hs23)) hm2 hn32).mono ?_; rintro e u5 ⟨rfl, hb5⟩; have B5 := B4.trans (hb5.mono B4.size); have A5 := A4.below hb5 A4.lt
  go_wp2_with fail
  refine hK.out _ _ ⟨B5, A5⟩ (fun hHeld => ?_)
  clear hK K
  try simp only [Act.put, List.setIfInBounds_toArray, List.set_cons_zero, List.set_cons_succ]
  refine wpAnyH_ready (rs := [5]) (by kernel_rfl) (by simp) ?_
  refine AllReadyH.cons (o := ⟨_, _, _, _, _, _⟩) rfl (fun K hK => ?_) AllReadyH.nil
  go_simp
  refine (count_any ps sp n cap _ h1 h2 (by omega)).mono ?_; rintro e u6 ⟨rfl, hb6⟩; have B6 := B5.trans (hb6.mono B5.size); have A6 := A5.below hb6 A5.lt
  go_wp2_with fail
  refine hK.out _ _ ⟨B6, A6⟩ (fun hHeld => ?_)
  clear hK K
  try simp only [Act.put, List.setIfInBounds_toArray, List.set_cons_zero, List.set_cons_succ]
  refine wpAnyH_ready (rs := [6]) (by kernel_rfl) (by simp) ?_
  refine AllReadyH.cons (o := ⟨_, _, _, _, _, _⟩) rfl (fun K hK => ?_) AllReadyH.nil
  go_simp
  refine (countSum_any n _).mono ?_; rintro e u7 ⟨rfl, hb7⟩; have B7 := B6.trans (hb7.mono B6.size); have A7 := A6.below hb7 A6.lt
  go_wp2_with fail
  refine hK.out _ _ ⟨B7, A7⟩ (fun hHeld => ?_)
  clear hK K
  try simp only [Act.put, List.setIfInBounds_toArray, List.set_cons_zero, List.set_cons_succ]
  refine wpAnyH_ready (rs := [7]) (by kernel_rfl) (by simp) ?_
  refine AllReadyH.cons (o := ⟨_, _, _, _, _, _⟩) rfl (fun K hK => ?_) AllReadyH.nil
  refine step_want rfl (wp_bld2 (.tmp 15) (.tmp 18) rfl (tr 5 (ol os)) (cnt n) rfl rfl hO32 hC32 ?_)
  refine hK.out _ _ ⟨B7.alloc B7.size _, A7.alloc _⟩ (fun hHeld => ?_)
  clear hK K
  try simp only [Act.put, List.setIfInBounds_toArray, List.set_cons_zero, List.set_cons_succ]
  have hH8 := hs_lit (Arr.new u7 24 (flat32 [tr 5 (ol os), cnt n]).toArray) (two32 hO32 hC32) (m := 2) rfl (by omega)
  have B8 := B7.alloc B7.size (.cells (flat32 [tr 5 (ol os), cnt n]).toArray 24)
  have A8 := A7.alloc (.cells (flat32 [tr 5 (ol os), cnt n]).toArray 24)
  have hb8 := alloc_bel' u7 (.cells (flat32 [tr 5 (ol os), cnt n]).toArray 24)
  have hpa := path2 (tr 5 (al ps)) (tr 5 (ol os)) (cnt n) _ hA32 hO32 hC32 bA bO (cnt_bts n) _ _ _ hH8
  generalize u7.alloc (.cells (flat32 [tr 5 (ol os), cnt n]).toArray 24) = u8 at *
  refine wpAnyH_ready (rs := [8]) (by kernel_rfl) (by simp) ?_
  refine AllReadyH.cons (o := ⟨_, _, _, _, _, _⟩) rfl (fun K hK => ?_) AllReadyH.nil
  go_simp
  refine (hpa).mono ?_; rintro e u9 ⟨s9, c9, es9, rfl, hE9, hbs9, hsm9, hfr9, hfs9, hasc9, hb9⟩; have B9 := B8.trans (hb9.mono B8.size); have A9 := A8.below hb9 A8.lt
  go_wp2_with fail
  refine hK.out _ _ ⟨B9, A9⟩ (fun hHeld => ?_)
  clear hK K
  try simp only [Act.put, List.setIfInBounds_toArray, List.set_cons_zero, List.set_cons_succ]
  refine wpAnyH_take (i := 9) (oi := ⟨_, _, _, _, _, _⟩) (v := ?_) rfl (by kernel_rfl) (by kernel_rfl) (by kernel_rfl) (fun _ _ _ h => h) (Or.inl ⟨by rfl, ?_⟩) (by assumption) ?_
  rotate_left
  · intro u hSw
    go_simp
    try (with_reducible rfl)
  try simp only [Act.put, List.setIfInBounds_toArray, List.set_cons_zero, List.set_cons_succ]
  refine wpAnyH_take (i := 10) (oi := ⟨_, _, _, _, _, _⟩) (v := ?_) rfl (by kernel_rfl) (by kernel_rfl) (by kernel_rfl) (fun _ _ _ h => h) (Or.inl ⟨by rfl, ?_⟩) (by assumption) ?_
  rotate_left
  · intro u hSw
    go_simp
    try (with_reducible rfl)
  try simp only [Act.put, List.setIfInBounds_toArray, List.set_cons_zero, List.set_cons_succ]
  refine wpAnyH_take (i := 11) (oi := ⟨_, _, _, _, _, _⟩) (v := ?_) rfl (by kernel_rfl) (by kernel_rfl) (by kernel_rfl) (fun _ _ _ h => h) (Or.inl ⟨by rfl, ?_⟩) (by assumption) ?_
  rotate_left
  · intro u hSw
    go_simp
    try (with_reducible rfl)
  try simp only [Act.put, List.setIfInBounds_toArray, List.set_cons_zero, List.set_cons_succ]
  refine wpAnyH_take (i := 12) (oi := ⟨_, _, _, _, _, _⟩) (v := ?_) rfl (by kernel_rfl) (by kernel_rfl) (by kernel_rfl) (fun _ _ _ h => h) (Or.inl ⟨by rfl, ?_⟩) (by assumption) ?_
  rotate_left
  · intro u hSw
    go_simp
    try (with_reducible rfl)
  try simp only [Act.put, List.setIfInBounds_toArray, List.set_cons_zero, List.set_cons_succ]
  refine wpAnyH_take (i := 13) (oi := ⟨_, _, _, _, _, _⟩) (v := ?_) rfl (by kernel_rfl) (by kernel_rfl) (by kernel_rfl) (fun _ _ _ h => h) (Or.inl ⟨by rfl, ?_⟩) (by assumption) ?_
  rotate_left
  · intro u hSw
    go_simp
    try (with_reducible rfl)
  try simp only [Act.put, List.setIfInBounds_toArray, List.set_cons_zero, List.set_cons_succ]
  refine wpAnyH_done (by kernel_rfl) ?_ _

  have hbT : Below u2.heap.size u2 u9 := (((((hbd.trans (hb4.mono hs23)).trans (hb5.mono (Nat.le_trans hs23 hb4.size))).trans (hb6.mono (Nat.le_trans (Nat.le_trans hs23 hb4.size) hb5.size))).trans (hb7.mono (Nat.le_trans (Nat.le_trans (Nat.le_trans hs23 hb4.size) hb5.size) hb6.size))).trans (hb8.mono (Nat.le_trans (Nat.le_trans (Nat.le_trans (Nat.le_trans hs23 hb4.size) hb5.size) hb6.size) hb7.size))).trans (hb9.mono (Nat.le_trans (Nat.le_trans (Nat.le_trans (Nat.le_trans (Nat.le_trans hs23 hb4.size) hb5.size) hb6.size) hb7.size) hb8.size))
  have hs28 : u2.heap.size ≤ u8.heap.size := Nat.le_trans (Nat.le_trans (Nat.le_trans (Nat.le_trans (Nat.le_trans hs23 hb4.size) hb5.size) hb6.size) hb7.size) hb8.size
  have hs89 := hb9.size
  have hE1 := (hE1'.below (show Below u1.heap.size u2.drew u9 from ⟨hbT.os.trans hbd.os.symm, hbT.tape.trans hbd.tape.symm, hbT.output.trans hbd.output.symm, by have := hbT.size; simpa using this, fun b hb => (hbT.block b (by omega)).trans (hbd.block b (by omega)).symm⟩)).mono (show u1.heap.size ≤ u9.heap.size by omega)
  have hE2 := (hE2'.below (show Below u2.heap.size u2.drew u9 from ⟨hbT.os.trans hbd.os.symm, hbT.tape.trans hbd.tape.symm, hbT.output.trans hbd.output.symm, by have := hbT.size; simpa using this, fun b hb => (hbT.block b hb).trans (hbd.block b hb).symm⟩)).mono (show u2.heap.size ≤ u9.heap.size by omega)
  have hs9 : w.heap.size ≤ u9.heap.size := B9.size
  have hw1 : w.heap.size ≤ u1.heap.size := B1.size
  clear hE1' hE2' hbT A0 A1 A2 A3 A4 A5 A6 A7 A8 A9 B0 B1 B2 B3 B4 B5 B6 B7 B8 hb1 hb2 hb4 hb5 hb6 hb7 hb8 hH8 hpa hbd
  have X0 : Below u9.heap.size u9 u9 := Below.refl _ _
  go_wp2_with (first
    | (go_at_call 83; go_must (refine (values1_any _ _ _ _).mono ?_; rintro e v1 ⟨rfl, rfl⟩))
    | (go_at_call 84; go_must (refine (pairs_any _ _ _ _).mono ?_; rintro e v1 ⟨rfl, rfl⟩))
    | (go_at_call 85; go_must (refine (values2_any _ _ _ _).mono ?_; rintro e v1 ⟨rfl, rfl⟩))
    | (go_at_call 82; go_must (refine (inTurn_any _ _ _ _).mono ?_; rintro e v1 ⟨rfl, rfl⟩)))
  go_ret
  refine known_fin ps os w u8 u9 s1 c1 es1 s2 n c2 es2 s9 c9 es9 h1 hnl.out hn32 hE1 hE2 hE9 hm1 hm2 (fun j e he => ?_) (fun j e he => ?_) hbs9.out hsm9.out hfr9 hasc9.out (fun b off q => by have := own_ge hT12.eo.own b (by rw [q]; rfl); simp at this; omega) (fun b off q => by have := own_ge hT2.eo.own b (by rw [q]; rfl); omega) (fun b off q => by have := hfs9 b off q; omega) (by omega) hs89 B9
  · obtain ⟨t1, t2, t3⟩ := tree_get hT12 he
    exact ⟨t1, t2, fun b off q => by have := t3 b off q; simp at this; omega⟩
  · obtain ⟨t1, t2, t3⟩ := tree_get hT2 he
    exact ⟨t1, t2, fun b off q => by have := t3 b off q; omega⟩
end Go.Proofs.Ytlebojbfcolkhaa
/- Layer state: Known. -/
namespace Go.Proofs.Ytlebojbfcolkhaa
open Go.RowKit Go.Shelf
set_option maxRecDepth 100000
set_option linter.unusedVariables false
set_option linter.unusedSimpArgs false
attribute [local go_sem] Oper.semAt_some

/-- What Known answers. -/
def KPost (ps : List Ac) (os : List Ou) (w : World) (r : Ending) (w' : World) : Prop :=
  ∃ sp n cap es, r = .returned (.tuple #[.slice sp n cap, .int .i64 (rtE ps os)]) ∧ ES w'.heap.size w' sp n cap es ∧ Hid (es.map En.bs = if may ps os.length = true then knB ps os else []) ∧ Hid (∀ e ∈ es, e.sm = shl e.bs) ∧ Below w.heap.size w w'
/-- The last entry lies apart from all others. -/
def LU (es : List En) : Prop := ∀ i e f, es[i]? = some e → es[es.length - 1]? = some f → i + 1 < es.length → ∀ b off b' off', e.sp = some ⟨b, off, none⟩ → f.sp = some ⟨b', off', none⟩ → b ≠ b'
/-- What Known answers, and what is its own. -/
def KPostF (ps : List Ac) (os : List Ou) (w : World) (r : Ending) (w' : World) : Prop :=
  ∃ v es ax, r = .returned (.tuple #[v, .int .i64 (rtE ps os)]) ∧ EO w.heap.size ax w' v es ∧ Hid (es.map En.bs = if may ps os.length = true then knB ps os else []) ∧ Hid (∀ e ∈ es, e.sm = shl e.bs) ∧ Hid (LU es) ∧ Below w.heap.size w w'
theorem KPostF.small {ps : List Ac} {os : List Ou} {es : List En} (hl : ps.length = 32) (hb : Hid (es.map En.bs = if may ps os.length = true then knB ps os else [])) : es.length ≤ 1000 := by
  have h1 := congrArg List.length hb.out
  rw [List.length_map] at h1
  by_cases hm : may ps os.length = true
  · rw [if_pos hm, knB_len hl (may_le hm)] at h1
    have := may_le hm
    omega
  · rw [if_neg hm] at h1; rw [h1]; simp
theorem KPostF.k {ps : List Ac} {os : List Ou} {w w' : World} {r : Ending} (hl : ps.length = 32) (h : KPostF ps os w r w') : KPost ps os w r w' := by
  obtain ⟨v, es, ax, rfl, hE, hb, hs, -, hB⟩ := h
  obtain ⟨sp, cap, rfl, hES⟩ := hE.es (by have := KPostF.small hl hb; omega)
  exact ⟨sp, _, cap, es, rfl, hES, hb, hs, hB⟩
theorem ld30w {m : Nat} {ops : Array Oper} {rest : List Oper} {o : Oper} {a : Act} {w : World} {Q : Exit → Act → World → Prop} (hgd : o.guard = none) (x : Operand) (ho : o.op = .load 30 x)
    (g ty : Nat) (hx : a.eval x = .pointer (some ⟨g, 0, none⟩)) (ps : List Ac) (sp : Option Addr) (n cap : Nat) (h1 : ps.length = 32) (h2 : ∀ a ∈ ps, a.lk.length = 32) (hA : Arr w g ty (stA ps sp n cap))
    (h : wpListIn Fence.wide m Try.prog ops Q rest (a.put o.dst (.agg (stA ps sp n cap))) w) : wpListIn Fence.wide m Try.prog ops Q (o :: rest) a w :=
  wpListIn_plain hgd fun _ hK => opInw (by rw [ho]; intro c hc; cases hc) (wp_load_mid 30 x ho g 0 hx (stC ps sp n cap) _ hA.st Try.underlying30 rfl (by rw [stC_len h1 h2]; exact size30) (hK _ _ h))
theorem bldEr {l m : Nat} {ops : Array Oper} {rest : List Oper} {o : Oper} {a : Act} {w : World} {Q : Exit → Act → World → Prop} (hgd : o.guard = none) (x : Operand) (ho : o.op = .buildSlice 63 1 #[(0, x)]) (e : En) (hx : a.eval x = .agg e.arr) (he : e.sm.length = 32)
    (h : wpListIn (Fence.wide.inRound l) m Try.prog ops Q rest (a.put o.dst (.slice (some ⟨w.heap.size, 0, none⟩) 1 1)) (w.alloc (.cells e.arr 77))) : wpListIn (Fence.wide.inRound l) m Try.prog ops Q (o :: rest) a w :=
  wpListIn_plain hgd fun _ hK => opIn (by rw [ho]; intro c hc; cases hc) (wp_bldE x ho e hx he (hK _ _ h))
theorem appEr {l m : Nat} {ops : Array Oper} {rest : List Oper} {o : Oper} {a : Act} {w : World} {Q : Exit → Act → World → Prop} (hgd : o.guard = none) (s x : Operand) (ho : o.op = .call { callee := .builtin .append, args := #[s, x], argTypes := #[63, 63] })
    (base ax : Nat) (v : Value) (es : List En) (e : En) (hs : a.eval s = v) (hE : EO base ax w v es) (gx c : Nat) (hx : a.eval x = .slice (some ⟨gx, 0, none⟩) 1 c) (hA : Arr w gx 77 e.arr) (he : EnOK w.heap.size w e)
    (hap : ∀ b off, e.sp = some ⟨b, off, none⟩ → base ≤ b ∧ b < w.heap.size ∧ some b ≠ v.ownBlock ∧ b ≠ ax) (hk : es.length ≤ 1000000000) (hbase : base ≤ w.heap.size)
    (h : ∀ v' w', EO base ax w' v' (es ++ [e]) → w.grownBy w' v.ownBlock → (v'.ownBlock = v.ownBlock ∨ v'.ownBlock = some w.heap.size) → wpListIn (Fence.wide.inRound l) m Try.prog ops Q rest (a.put o.dst v') w') : wpListIn (Fence.wide.inRound l) m Try.prog ops Q (o :: rest) a w :=
  wpListIn_plain hgd fun _ hK => opIn (by rw [ho]; intro c hc; cases hc) (wp_appE s x ho base ax v es e hs hE gx c hx hA he hap hk hbase fun v' w' h1 h2 h3 => hK _ _ (h v' w' h1 h2 h3))
set_option maxHeartbeats 1000000 in
theorem known6_no (ps : List Ac) (sp : Option Addr) (n cap : Nat) (os : List Ou) (w : World) (h1 : ps.length = 32) (hok : ∀ a ∈ ps, AcOK a) (hn : n ≤ 140737488355328) (hl : n = os.length) (hm : may ps n = false) :
    Calls Try.prog 32 #[.agg (stA ps sp n cap)] w (KPostF ps os w) := by
  have h2 : ∀ a ∈ ps, a.lk.length = 32 := fun a ha => (hok a ha).l32
  have A0 := Arr.new w 30 (stA ps sp n cap)
  have B0 := alloc_bel' w (.cells (stA ps sp n cap) 30)
  have hM := may_any ps sp n cap (w.alloc (.cells (stA ps sp n cap) 30)) h1 hok hn
  rw [hm] at hM
  have hfin : Hid (rtE ps os = 2 ∧ (if may ps os.length = true then knB ps os else []) = []) := Hid.mk' (by unfold rtE; rw [← hl, hm]; exact ⟨rfl, rfl⟩)
  clear hl
  replace hM := Hid.mk' hM
  refine (callsIn_wide (n := 3)).1 ?_
  refine callsIn_of_wp_marks Try.func32 rfl trivial ?_ rfl
  simp only [Try.ntmps32, List.size_toArray, List.length_cons, List.length_nil, Nat.reduceAdd, Nat.reduceSub, Array.replicate_succ, Array.replicate_zero, List.push_toArray, List.append_toArray, List.nil_append, List.cons_append]
  gi_wp2_with (first
    | (refine ld30w (by rfl) _ (by rfl) w.heap.size 30 (by rfl) ps sp n cap h1 h2 A0 ?_)
    | (refine ⟨trivial, ?_⟩; gi_at_call 13; go_must (refine (callsIn_wide.2 hM.out).mono ?_; rintro e w1 ⟨rfl, hb1⟩)))
  exact ⟨_, results_tmp2 rfl _ _ _, _, [], 0, by rw [hfin.out.1]; rfl, EO.nil _ _ _, Hid.mk' (by rw [hfin.out.2]; rfl), Hid.mk' (fun e he => by cases he), Hid.mk' (fun i e f he => by simp at he), B0.trans (hb1.mono (by simp))⟩
/-- What the list owns. -/
def OWN (v : Value) (es : List En) (b : Nat) : Prop := v.ownBlock = some b ∨ ∃ e ∈ es, EB e b
theorem EO.sam {base ax D : Nat} {W W' : World} {v : Value} {es : List En} (h : EO base ax W v es) (hs : Sam D (OWN v es) W W') : EO base ax W' v es := by
  have hz := hs.size
  refine ⟨own_same h.own (fun k hk => hs.block k (own_lt h.own hk) (.inr (.inl hk))), fun e he => ⟨(h.ok e he).body.same hz (fun b off h0 q hb => hs.block b hb (.inr (.inr ⟨e, he, h0, off, q⟩))), (h.ok e he).s32⟩, fun e he b off q => ?_⟩
  · obtain ⟨a1, a2, a3⟩ := h.ap e he b off q
    exact ⟨a1, by omega, a3⟩
theorem knB_ne {ps : List Ac} {os : List Ou} {j : Nat} {x : List Int} (h : (knB ps os)[j]? = some x) : 0 < x.length := by
  have hx := List.mem_of_getElem? h
  have hl : ∀ (d : Nat) (l : List (List Int)), ∀ y ∈ prs d l, 0 < y.length := by
    intro d
    induction d with
    | zero => intro l y hy; cases hy
    | succ d ih =>
      intro l y hy
      rcases List.mem_append.1 hy with hy | hy
      · have key : ∀ (m : Nat) (l : List (List Int)), l.length ≤ m → ∀ y ∈ lvl l, 0 < y.length := by
          intro m
          induction m with
          | zero =>
            intro l hm y hy
            have : l = [] := List.eq_nil_of_length_eq_zero (by omega)
            subst this; cases hy
          | succ m ihm =>
            intro l hm y hy
            match l, hm, hy with
            | a :: b :: r, hm, hy =>
              simp only [lvl, List.mem_cons] at hy
              rcases hy with rfl | hy
              · simp
              · exact ihm r (by simp at hm; omega) y hy
        exact key _ l (Nat.le_refl _) y hy
      · exact ih _ y hy
  unfold knB at hx
  simp only [List.mem_append, List.mem_map, List.mem_cons, List.mem_nil_iff, or_false] at hx
  rcases hx with (((⟨a, -, rfl⟩ | ⟨a, -, rfl⟩) | h) | h) | (rfl | rfl)
  · simp
  · simp
  · exact hl _ _ x h
  · exact hl _ _ x h
  · simp
  · simp
/-- What the loop in Known keeps. -/
structure KI (w : World) (gl D : Nat) (M : World → Prop) (T : Nat → En → Prop) (j : Nat) (own : Nat → Prop) (v : Value) (es : List En) (W : World) : Prop where
  bel : Below w.heap.size w W
  m : M W
  o : own = OWN v es
  a : Arr W gl 63 #[v]
  eo : EO w.heap.size gl W v es
  len : es.length = j
  t : ∀ i e, es[i]? = some e → T i e
  r : ∀ b, v.ownBlock = some b → D ≤ b
  sz : D ≤ W.heap.size
set_option maxHeartbeats 4000000 in
theorem known6_ok (ps : List Ac) (N : Nat) (sp : Option Addr) (n cap : Nat) (os : List Ou) (w : World) (hS : SS N w ps sp n cap os) (hm : may ps n = true) :
    Calls Try.prog 32 #[.agg (stA ps sp n cap)] w (KPostF ps os w) := by
  have h1 := hS.a32.out
  have h2 := hS.l32
  have hok := hS.ok.out
  have hn32 := may_le hm
  have hnl := hS.outs.len
  have hS := hS.here
  have A0 := Arr.new w 30 (stA ps sp n cap)
  have B0 := alloc_bel' w (.cells (stA ps sp n cap) 30)
  have hM := may_any ps sp n cap (w.alloc (.cells (stA ps sp n cap) 30)) h1 hok (by omega)
  rw [hm] at hM
  have hfin : Hid (rtE ps os = 0 ∧ (if may ps os.length = true then knB ps os else []) = knB ps os) := Hid.mk' (by unfold rtE; rw [← hnl.out, hm]; exact ⟨rfl, rfl⟩)
  have hkl : Hid ((knB ps os).length = 96 + n) := Hid.mk' (by rw [knB_len h1 (by rw [← hnl.out]; exact hn32), hnl.out])
  replace hM := Hid.mk' hM
  refine (callsIn_wide (n := 3)).1 ?_
  refine callsIn_of_wp_marks Try.func32 rfl trivial ?_ rfl
  simp only [Try.ntmps32, List.size_toArray, List.length_cons, List.length_nil, Nat.reduceAdd, Nat.reduceSub, Array.replicate_succ, Array.replicate_zero, List.push_toArray, List.append_toArray, List.nil_append, List.cons_append]
  gi_wp2_with (first
    | (refine ld30w (by rfl) _ (by rfl) w.heap.size 30 (by rfl) ps sp n cap h1 h2 A2 ?_)
    | (refine ld30w (by rfl) _ (by rfl) w.heap.size 30 (by rfl) ps sp n cap h1 h2 A0 ?_)
    | (refine ⟨trivial, ?_⟩; gi_at_call 13; go_must (refine (callsIn_wide.2 hM.out).mono ?_; rintro e w1 ⟨rfl, hb1⟩; have A1 := A0.below hb1 A0.lt; have B1 := B0.trans (hb1.mono (by simp)); have A2 := A1.alloc (.cells #[.slice none 0 0] 63); have B2 := B1.alloc B1.size (.cells #[.slice none 0 0] 63); have L2 := Arr.new w1 63 #[.slice none 0 0]; have hK := Hid.mk' (known_any ps _ sp n cap os _ (hS.below B2) hn32)))
    | (refine ⟨trivial, ?_⟩; gi_at_call 61; go_must (refine (callsIn_wide.2 hK.out).mono ?_; rintro e W0 ⟨gc, M, T, rfl, hTl, hM0, hMs, hKT, hb0⟩)))
  have hsz0 : w1.heap.size + 1 ≤ W0.heap.size := by have := hb0.size; simpa using this
  have L0 : Arr W0 w1.heap.size 63 #[.slice none 0 0] := L2.below hb0 L2.lt
  have B3 : Below w.heap.size w W0 := B2.trans (hb0.mono B2.size)
  have hw1 : w.heap.size ≤ w1.heap.size := B1.size
  have hnew : ∀ j e, T j e → ∀ b off, e.sp = some ⟨b, off, none⟩ → w1.heap.size + 1 ≤ b := fun j e ht b off q => by have := hKT.new j e ht b off q; simpa using this
  have hMs' : ∀ W W', M W → (∀ b, w1.heap.size + 1 ≤ b → b < W0.heap.size → W'.heap[b]? = W.heap[b]?) → M W' := fun W W' h h' => hMs W W' h (fun b hb => h' b (by simpa using hb))
  clear hMs A2 A1 A0 B0 B1 B2 L2 hK hM hb1 hb0
  have hD1 : w1.heap.size < W0.heap.size := by omega
  have hpos : ∀ j e, T j e → EnOK w.heap.size w e ∨ True := fun _ _ _ => .inr trivial
  clear hpos
  refine range_one 100 #[.pointer (some ⟨gc, 0, none⟩)] W0.heap.size rfl (by rfl) (enters_of Try.func100 (by kernel_rfl) rfl) (knB ps os).length W0.heap.size T M (hTl _ (by omega)) (fun j own W => ∃ v es, KI w w1.heap.size W0.heap.size M T j own v es W) ?_ ?_ (OWN (.slice none 0 0) []) ?_ ?_ ?_
  · rintro j own W ⟨v, es, h⟩
    refine ⟨h.m, fun b hb => ?_⟩
    rw [h.o] at hb
    rcases hb with hb | ⟨e, he, h0, off, q⟩
    · exact own_lt h.eo.own hb
    · exact (h.eo.ap e he b off q).2.1
  · rintro j own W W' ⟨v, es, h⟩ hs
    have hz := h.sz
    have hb := hs.below hz
    exact ⟨v, es, h.bel.trans (hb.mono (by omega)), hMs' W W' h.m (fun b hb1 hb2 => hs.block b (by omega) (.inl hb2)), h.o, (hs.block _ (by omega) (.inl hD1)).trans h.a, h.eo.sam (by rw [← h.o]; exact hs), h.len, h.t, h.r, Nat.le_trans hz hs.size⟩
  · exact ⟨.slice none 0 0, [], B3, hM0, rfl, L0, EO.nil _ _ _, rfl, (fun i e h => by simp at h), (fun b h => by simp [Value.ownBlock] at h), Nat.le_refl _⟩
  · rintro j own W1 e - hjn hsz1 heo hte hqe m
    have he32 := heo.s32
    simp only [List.setIfInBounds_toArray, List.set_cons_zero, List.set_cons_succ]
    gi_wp2_with (refine si77n (by rfl) _ _ (by rfl) W1 W1.heap.size rfl (by rfl) e (by rfl) (by rfl) he32 ?_)
    refine ⟨alloc_bel' W1 _, ?_⟩
    rintro w2 hb2 hk2 hs2 heo2 ⟨v, es, hI⟩
    have hs2' : w2.heap.size = W1.heap.size + 1 := by rw [hs2]; simp
    have A2 : Arr w2 W1.heap.size 77 e.arr := (hk2 _ hsz1).trans (Arr.new W1 77 e.arr)
    have hen : 0 < e.n := by rw [heo2.body.len.out]; exact knB_ne (hKT.bs j e hte)
    have hE3 := hI.eo.below (alloc_bel' w2 (.cells e.arr 77))
    have heo3 := (heo2.below (alloc_bel' w2 (.cells e.arr 77))).mono (show w2.heap.size ≤ (w2.alloc (.cells e.arr 77)).heap.size by simp)
    have hap : ∀ b off, e.sp = some ⟨b, off, none⟩ → w.heap.size ≤ b ∧ b < (w2.alloc (.cells e.arr 77)).heap.size ∧ some b ≠ v.ownBlock ∧ b ≠ w1.heap.size := fun b off q => by
      have n1 := hnew j e hte b off q
      obtain ⟨b', off', q', hb', -⟩ := heo2.body.at0 hen
      rw [q] at q'; cases q'
      refine ⟨by omega, by simp; omega, fun h => ?_, by omega⟩
      rcases hqe b ⟨hen, off, q⟩ with hh | hh
      · have := hI.r b h.symm; omega
      · exact hh (by rw [hI.o]; exact .inl h.symm)
    have c4 := hI.a.cell 0
    have hbase := hI.bel.size
    have hlen := hI.len
    have L3 := hI.a.alloc (.cells e.arr 77)
    have hvl : ∀ k, v.ownBlock = some k → W0.heap.size ≤ k := hI.r
    have hkl' := hkl.out
    replace hlen := Hid.mk' hlen
    simp at c4
    have hel : es.length ≤ 1000 := by rw [hlen.out]; omega
    gi_wp2_with (first
      | (refine li77 (by rfl) _ (by rfl) W1.heap.size 0 (by rfl) e he32 (rangeE A2) ?_)
      | (refine bldEr (by rfl) _ (by rfl) e (by rfl) he32 ?_)
      | (refine appEr (by rfl) (.tmp 12) (.tmp 14) (by rfl) w.heap.size w1.heap.size v es e (by rfl) hE3 w2.heap.size 1 (by rfl) (Arr.new w2 77 _) heo3 hap (by omega) (by simp; omega) ?_; intro v' w6 hE6 hG6 hl6; have L6 := L3.grown hG6 (fun h => (by have := hvl _ h.symm; omega)); have c6 := L6.cell 0; have f6 := L6.frozen 0; obtain ⟨s6, k6, rfl, -⟩ := hE6.es (by simp; omega)))
    simp only [List.length_append, List.length_singleton] at hE6 hl6
    have hv6 : ∀ b, (Value.slice s6 (es.length + 1) k6).ownBlock = some b → W0.heap.size ≤ b := fun b h => by
      have hz := hI.sz
      rcases hl6 with q | q
      · exact hvl b (q.symm.trans h)
      · rw [h] at q; have := Option.some.inj q; simp at this; omega
    have hg6 := hG6.size
    have hsam : Sam 0 (OWN (.slice s6 (es.length + 1) k6) (es ++ [e])) w6 (w6.setCell ⟨w1.heap.size, 0, none⟩ (.slice s6 (es.length + 1) k6)) := ⟨rfl, rfl, rfl, by simp [World.setCell], fun b hb ho => Below.heap_setCell _ _ _ _ (fun q => by
      rcases ho with ho | ho | ⟨f, hf, h0, off, q2⟩
      · omega
      · have hh := hv6 b ho; rw [q] at hh; simp at hh; omega
      · exact (hE6.ap f hf b off q2).2.2.2 q)⟩
    refine ⟨OWN (.slice s6 (es.length + 1) k6) (es ++ [e]), ⟨_, es ++ [e], ⟨?_, ?_, rfl, ?_, hE6.sam hsam, by simp [hlen.out], ?_, hv6, ?_⟩⟩, ?_, ?_, ?_⟩
    · exact ((hI.bel.alloc hbase _).grown hG6 (by simp; omega) (fun k q => own_ge hI.eo.own k q)).setCell (p := ⟨w1.heap.size, 0, none⟩) hw1 _
    · refine hMs' w2 _ hI.m (fun b hb1 hb2' => ?_)
      have hz := hI.sz
      rw [Below.heap_setCell _ _ _ _ (show b ≠ w1.heap.size by omega), hG6.block b (by simp; omega) (fun q => by have := hvl b q.symm; omega)]
      exact (alloc_bel' w2 _).block b (by omega)
    · have := L6.set 0 (.slice s6 (es.length + 1) k6)
      simpa using this
    · intro i f hf
      by_cases hi : i < es.length
      · rw [List.getElem?_append_left hi] at hf; exact hI.t i f hf
      · have hie : i = es.length := by
          have := (List.getElem?_eq_some_iff.1 hf).1
          simp at this; omega
        subst hie
        simp at hf; subst hf
        rw [hlen.out]; exact hte
    · have hz := hI.sz; have : w2.heap.size ≤ w6.heap.size := by simp at hg6; omega
      simp [World.setCell]; omega
    · intro b hb
      rcases hb with hb | ⟨f, hf, hq⟩
      · rcases hl6 with q | q
        · exact .inl (by rw [hI.o]; exact .inl (q.symm.trans hb))
        · rw [hb] at q; have := Option.some.inj q; simp at this; exact .inr (.inl (by omega))
      · rcases List.mem_append.1 hf with hf | hf
        · exact .inl (by rw [hI.o]; exact .inr ⟨f, hf, hq⟩)
        · simp at hf; subst hf; exact .inr (.inr hq)
    · simp [World.setCell]; simp at hg6; omega
    · intro b hb1 hb2' hb3
      rw [Below.heap_setCell _ _ _ _ (show b ≠ w1.heap.size by omega), hG6.block b (by simp; omega) (fun q => hb3 (by rw [hI.o]; exact .inl q.symm))]
      exact (alloc_bel' w2 _).block b (by omega)
  · rintro own W' o ⟨v, es, hI⟩ hoD hsz2 hdf
    have hlen := hI.len
    obtain ⟨s6, k6, rfl, -⟩ := hI.eo.es (by rw [hlen, hkl.out]; omega)
    have hz := hI.sz
    have L7 := hI.a.put o (show w1.heap.size ≠ W0.heap.size + 1 by omega)
    have c7 := L7.cell 0
    simp at c7
    have hs1 : Sam 0 (OWN (.slice s6 es.length k6) es) W' (W'.putObj (W0.heap.size + 1) o) := sam_put (by omega) (by rw [← hI.o]; exact hoD.2) o
    have hs2 : Sam 0 (OWN (.slice s6 es.length k6) es) (W'.putObj (W0.heap.size + 1) o) ((W'.putObj (W0.heap.size + 1) o).putObj W0.heap.size (.deferred none)) := sam_put (by omega) (by rw [← hI.o]; exact hoD.1) _
    have hE8 := hI.eo.sam (hs1.trans hs2)
    have hK8 : (W'.putObj (W0.heap.size + 1) o).heap[W0.heap.size]? = some (.deferred (some [])) := (World.putObj_heap_other (by omega)).trans hdf
    have hB8 : Below w.heap.size w ((W'.putObj (W0.heap.size + 1) o).putObj W0.heap.size (.deferred none)) := below_put (below_put hI.bel (by omega) _) (by omega) _
    have hbs8 : Hid (es.map En.bs = knB ps os) := Hid.mk' (by
      apply List.ext_getElem?
      intro i
      by_cases hi : i < es.length
      · have he : es[i]? = some es[i] := List.getElem?_eq_getElem hi
        rw [hKT.bs i es[i] (hI.t i _ he), List.getElem?_map, he]; rfl
      · rw [List.getElem?_eq_none (by simp; omega), List.getElem?_eq_none (by omega)])
    have hsm8 : Hid (∀ e ∈ es, e.sm = shl e.bs) := Hid.mk' (fun e he => by
      obtain ⟨i, hi⟩ := List.mem_iff_getElem?.1 he
      exact hKT.sm i e (hI.t i e hi))
    have hlu8 : Hid (LU es) := Hid.mk' (fun i e f he hf hlt b off b' off' q q' => hKT.last i e f (hI.t i e he) (by have := hI.t _ f hf; rw [hlen] at this; exact this) (by omega) b off b' off' q q')
    clear hs1 hs2 hlen
    gi_wp2
    refine ⟨by simp, .inl ⟨_, _, rfl, run_takeDeferred hK8, ?_⟩⟩
    exact ⟨_, results_tmp2 rfl _ _ _, _, es, w1.heap.size, by rw [hfin.out.1]; rfl, hE8, Hid.mk' (by rw [hfin.out.2]; exact hbs8.out), hsm8, hlu8, hB8⟩
theorem known6F_any (ps : List Ac) (N : Nat) (sp : Option Addr) (n cap : Nat) (os : List Ou) (w : World) (hS : SS N w ps sp n cap os) : Calls Try.prog 32 #[.agg (stA ps sp n cap)] w (KPostF ps os w) := by
  cases hm : may ps n with
  | true => exact known6_ok ps N sp n cap os w hS hm
  | false => exact known6_no ps sp n cap os w hS.a32.out hS.ok.out hS.outs.small hS.outs.len.out hm
theorem known6_any (ps : List Ac) (N : Nat) (sp : Option Addr) (n cap : Nat) (os : List Ou) (w : World) (hS : SS N w ps sp n cap os) : Calls Try.prog 32 #[.agg (stA ps sp n cap)] w (KPost ps os w) :=
  (known6F_any ps N sp n cap os w hS).mono fun r w' h => KPostF.k hS.a32.out h
end Go.Proofs.Ytlebojbfcolkhaa

/- Layer spec: what stands along the fold, for a state, with what did something, with what flowed. -/
import Derived.Test.YtbhhbkoikocjgaaX28
import Derived.Test.YtbhhbkoikocjgaaX29
import Derived.Test.YtbhhbkoikocjgaaX30
namespace Go.Proofs.Ytbhhbkoikocjgaa
set_option linter.unusedSectionVars false
set_option maxHeartbeats 1000000
open Go.RowKit Go.Shelf
set_option maxRecDepth 100000
set_option linter.unusedVariables false
set_option linter.unusedSimpArgs false


variable [DecidableEq Ac] [DecidableEq Ou] [DecidableEq Mg]
theorem FoldM.up {bf bl bs N B ty sf : Nat} {C0 : Array Value} {sl : Option Addr} {nl cl : Nat} {es : List Bz} {W : World} (h : FoldM bf bl bs N ty sf C0 sl nl cl es W) (hB : N ≤ B) : FoldM bf bl bs B ty sf C0 sl nl cl es W :=
  ⟨h.first, h.list, h.step, h.msgs.mono hB, Nat.lt_of_lt_of_le h.f0 hB, Nat.lt_of_lt_of_le h.l0 hB, Nat.lt_of_lt_of_le h.s0 hB⟩
/-- What the fold of states wants: N is where it lies below. -/
def MM (bf bl bs N ty sf : Nat) (C0 : Array Value) (ps : List Ac) (s0 : Option Addr) (n0 c0 : Nat) (os : List Ou) (sl : Option Addr) (nl cl : Nat) (es : List Bz) (W : World) : Prop :=
  FoldM bf bl bs N ty sf C0 sl nl cl es W ∧ SS N W ps s0 n0 c0 os
theorem MM.below {bf bl bs N ty sf : Nat} {C0 : Array Value} {ps : List Ac} {s0 : Option Addr} {n0 c0 : Nat} {os : List Ou} {sl : Option Addr} {nl cl : Nat} {es : List Bz} {W W' : World} (h : MM bf bl bs N ty sf C0 ps s0 n0 c0 os sl nl cl es W) (hb : Below N W W') : MM bf bl bs N ty sf C0 ps s0 n0 c0 os sl nl cl es W' := ⟨h.1.below hb, h.2.below hb⟩
def TS (B : Nat) (s0 : Option Addr) (n0 c0 : Nat) (ps : List Ac) (os : List Ou) (Ls : List (List Int)) (j : Nat) (C : Array Value) (W : World) : Prop :=
  ∃ s n c, C = stA (rnA ps os Ls j).P s n c ∧ SR B s0 n0 c0 j (rnA ps os Ls j).O s n c W
def TC (B : Nat) (s0 : Option Addr) (n0 c0 : Nat) (ps : List Ac) (os : List Ou) (Ls : List (List Int)) (j : Nat) (C : Array Value) (W : World) : Prop :=
  ∃ s n c sd cd, C = crA (rnA ps os Ls j).P s n c (.slice sd j cd) ∧ SR B s0 n0 c0 j (rnA ps os Ls j).O s n c W ∧ W.ownsRow B 4 1 (.slice sd j cd) j (bls (rnA ps os Ls j).D)
def TF (B : Nat) (s0 : Option Addr) (n0 c0 : Nat) (ps : List Ac) (os : List Ou) (Ls : List (List Int)) (j : Nat) (C : Array Value) (W : World) : Prop :=
  ∃ s n c, C = flA (rnA ps os Ls j).P s n c (rnA ps os Ls j).I (rnA ps os Ls j).U ∧ SR B s0 n0 c0 j (rnA ps os Ls j).O s n c W
theorem SR.same {B : Nat} {s0 : Option Addr} {n0 c0 j : Nat} {O : List Ou} {s : Option Addr} {n c : Nat} {W W' : World} (h : SR B s0 n0 c0 j O s n c W) (hk : ∀ b, B ≤ b → b < W.heap.size → W'.heap[b]? = W.heap[b]?) : SR B s0 n0 c0 j O s n c W' := by
  rcases h with h | ⟨h1, h2, h3⟩
  · exact .inl h
  · exact .inr ⟨h1, h2, own_same h3 fun k e => hk k (own_ge h3 k e) (own_lt h3 e)⟩
theorem own_keep {W W' : World} {B e s n : Nat} {v : Value} {xs : List Value} (h : W.ownsRow B e s v n xs) (hk : ∀ b, B ≤ b → b < W.heap.size → W'.heap[b]? = W.heap[b]?) : W'.ownsRow B e s v n xs :=
  own_same h fun k e => hk k (own_ge h k e) (own_lt h e)
theorem staysS (B : Nat) (M : World → Prop) (s0 : Option Addr) (n0 c0 : Nat) (ps : List Ac) (os : List Ou) (Ls : List (List Int)) : Stays B M (TS B s0 n0 c0 ps os Ls) := by
  rintro j C W W' ⟨s, n, c, rfl, h⟩ - - hk
  exact ⟨s, n, c, rfl, h.same hk⟩
theorem staysC (B : Nat) (M : World → Prop) (s0 : Option Addr) (n0 c0 : Nat) (ps : List Ac) (os : List Ou) (Ls : List (List Int)) : Stays B M (TC B s0 n0 c0 ps os Ls) := by
  rintro j C W W' ⟨s, n, c, sd, cd, rfl, h, h2⟩ - - hk
  exact ⟨s, n, c, sd, cd, rfl, h.same hk, own_keep h2 hk⟩
theorem staysF (B : Nat) (M : World → Prop) (s0 : Option Addr) (n0 c0 : Nat) (ps : List Ac) (os : List Ou) (Ls : List (List Int)) : Stays B M (TF B s0 n0 c0 ps os Ls) := by
  rintro j C W W' ⟨s, n, c, rfl, h⟩ - - hk
  exact ⟨s, n, c, rfl, h.same hk⟩
section
variable {bf bl bs N B : Nat} {ps : List Ac} {s0 : Option Addr} {n0 c0 : Nat} {os : List Ou} {sl : Option Addr} {nl cl : Nat} {es : List Bz}
theorem foldTS (hok : ∀ j, RnOK (rnA ps os (bzs es) j)) (hNB : N ≤ B) : FoldT B 30 1089 32 (stA ps s0 n0 c0) es nl (MM bf bl bs N 30 32 (stA ps s0 n0 c0) ps s0 n0 c0 os sl nl cl es) (TS B s0 n0 c0 ps os (bzs es)) := by
  refine ⟨fun W h hs => ⟨s0, n0, c0, rfl, .inl ⟨rfl, rfl, rfl, rfl⟩⟩, ?_, ?_, ?_⟩
  · rintro j C W ⟨s, n, c, rfl, -⟩
    exact ⟨stA_size (hok j).a32 (fun a ha => ((hok j).ok a ha).l32), stA_one _ _ _ _⟩
  · rintro j C W W' g C' ⟨s, n, c, rfl, h⟩ hA hM hs hk
    exact ⟨s, n, c, rfl, h.stays hA (by decide) hk⟩
  · rintro j C e W g C' ⟨s, n, c, rfl, h⟩ ⟨hM, hS⟩ hB he hj hA hg
    have hss := h.ss (hS.mono hNB) (hok j)
    have hbs := hM.msgs.ok e (List.mem_of_getElem? he)
    refine (behind_any _ _ s n c _ e.sp e.n e.cap e.bs _ W hss hbs).mono ?_
    rintro r W' ⟨s', n', c', rfl, hn, own, hb⟩
    have hstep := rnA_succ (ps := ps) (os := os) (bzs_get he)
    refine ⟨_, rfl, ⟨s', n', c', by rw [hstep]; rfl, .inr ⟨Hid.mk' (by rw [hn.out, hstep]; rfl), ?_, ?_⟩⟩, hb.mono hB, hA.below hb hA.lt⟩
    · rw [hn.out]; exact xO_len _ _ _
    · rw [hstep]; exact own_mono own hB
theorem foldTC (hok : ∀ j, RnOK (rnA ps os (bzs es) j)) (hNB : N ≤ B) (hnl : nl ≤ 140737488351232) : FoldT B 69 1090 28 (crA ps s0 n0 c0 (.slice none 0 0)) es nl (MM bf bl bs N 69 28 (crA ps s0 n0 c0 (.slice none 0 0)) ps s0 n0 c0 os sl nl cl es) (TC B s0 n0 c0 ps os (bzs es)) := by
  refine ⟨fun W h hs => ⟨s0, n0, c0, none, 0, rfl, .inl ⟨rfl, rfl, rfl, rfl⟩, World.ownsRow_nil _ _ _ _⟩, ?_, ?_, ?_⟩
  · rintro j C W ⟨s, n, c, sd, cd, rfl, -⟩
    exact ⟨crA_size (hok j).a32 (fun a ha => ((hok j).ok a ha).l32), crA_one _ _ _ _ _ _ _⟩
  · rintro j C W W' g C' ⟨s, n, c, sd, cd, rfl, h, h2⟩ hA hM hs hk
    exact ⟨s, n, c, sd, cd, rfl, h.stays hA (by decide) hk, own_same h2 fun k e => hk k (own_ge h2 k e) (own_lt h2 e) (own_other h2 hA (by decide) k e)⟩
  · rintro j C e W g C' ⟨s, n, c, sd, cd, rfl, h, h2⟩ ⟨hM, hS⟩ hB he hj hA hg
    have hss := h.ss (hS.mono hNB) (hok j)
    have hbs := hM.msgs.ok e (List.mem_of_getElem? he)
    refine (with28_any _ _ s n c _ e.sp e.n e.cap e.bs _ sd j cd B _ W hss hbs h2 (by omega) hB).mono ?_
    rintro r W' ⟨s', n', c', sd', cd', rfl, hn, own, own2, hb⟩
    have hstep := rnA_succ (ps := ps) (os := os) (bzs_get he)
    refine ⟨_, rfl, ⟨s', n', c', sd', cd', by rw [hstep]; rfl, .inr ⟨Hid.mk' (by rw [hn.out, hstep]; rfl), ?_, ?_⟩, ?_⟩, hb.below (fun i hi => ⟨by omega, fun e => by have := own_ge h2 i e; omega⟩), hb.arr hA (fun e => own_other h2 hA (by decide) g e rfl)⟩
    · rw [hn.out]; exact xO_len _ _ _
    · rw [hstep]; exact own_mono own hB
    · rw [hstep]; exact own2
theorem foldTF (hok : ∀ j, RnOK (rnA ps os (bzs es) j)) (hNB : N ≤ B) : FoldT B 82 1091 35 (flA ps s0 n0 c0 0 0) es nl (MM bf bl bs N 82 35 (flA ps s0 n0 c0 0 0) ps s0 n0 c0 os sl nl cl es) (TF B s0 n0 c0 ps os (bzs es)) := by
  refine ⟨fun W h hs => ⟨s0, n0, c0, rfl, .inl ⟨rfl, rfl, rfl, rfl⟩⟩, ?_, ?_, ?_⟩
  · rintro j C W ⟨s, n, c, rfl, -⟩
    exact ⟨flA_size (hok j).a32 (fun a ha => ((hok j).ok a ha).l32), flA_one _ _ _ _ _ _⟩
  · rintro j C W W' g C' ⟨s, n, c, rfl, h⟩ hA hM hs hk
    exact ⟨s, n, c, rfl, h.stays hA (by decide) hk⟩
  · rintro j C e W g C' ⟨s, n, c, rfl, h⟩ ⟨hM, hS⟩ hB he hj hA hg
    have hss := h.ss (hS.mono hNB) (hok j)
    have hbs := hM.msgs.ok e (List.mem_of_getElem? he)
    refine (with35_any _ _ s n c _ e.sp e.n e.cap e.bs _ _ _ W hss hbs ⟨(hok j).i0, (hok j).i1⟩ ⟨(hok j).u0, (hok j).u1⟩).mono ?_
    rintro r W' ⟨s', n', c', rfl, hn, own, hb⟩
    have hstep := rnA_succ (ps := ps) (os := os) (bzs_get he)
    refine ⟨_, rfl, ⟨s', n', c', by rw [hstep]; rfl, .inr ⟨Hid.mk' (by rw [hn.out, hstep]; rfl), ?_, ?_⟩⟩, hb.mono hB, hA.below hb hA.lt⟩
    · rw [hn.out]; exact xO_len _ _ _
    · rw [hstep]; exact own_mono own hB
end

/-- The last of the fold: fold's variables lie at the end of the memory. -/
theorem finS (ps : List Ac) (s0 : Option Addr) (n0 c0 : Nat) (os : List Ou) (sl : Option Addr) (nl cl : Nat) (es : List Bz) (w : World) (hS : SS w.heap.size w ps s0 n0 c0 os) (hL : BL w.heap.size w sl nl cl es) :
    Calls Try.prog 30 #[.func (Fn.func 49) #[] #[.pointer (some ⟨w.heap.size + 1, 0, none⟩), .pointer (some ⟨w.heap.size, 0, none⟩), .pointer (some ⟨w.heap.size + 1 + 1, 0, none⟩)]] (((w.alloc (.cells #[.slice sl nl cl] 31)).alloc (.cells (stA ps s0 n0 c0) 30)).alloc (.cells #[.func (Fn.func 32) #[] #[]] 80)) fun e w' => ∃ C, e = .returned (.agg C) ∧ TS w.heap.size s0 n0 c0 ps os (bzs es) nl C w' ∧ Below w.heap.size w w' := by
  have hok := rnA_ok (Ls := bzs es) hS.a32.out hS.ok.out hS.outs.ok hL.bts
  have hsm := hL.small
  have B1 := ((alloc_bel' w (.cells #[.slice sl nl cl] 31)).alloc (by simp) (.cells (stA ps s0 n0 c0) 30)).alloc (by simp; omega) (.cells #[.func (Fn.func 32) #[] #[]] 80)
  have hM0 : MM (w.heap.size + 1) w.heap.size (w.heap.size + 1 + 1) (w.heap.size + 3) 30 32 (stA ps s0 n0 c0) ps s0 n0 c0 os sl nl cl es (((w.alloc (.cells #[.slice sl nl cl] 31)).alloc (.cells (stA ps s0 n0 c0) 30)).alloc (.cells #[.func (Fn.func 32) #[] #[]] 80)) := by
    refine ⟨⟨?_, ?_, ?_, (hL.below B1).mono (by omega), by omega, by omega, by omega⟩, (hS.below B1).mono (by omega)⟩
    · have h := Arr.new (w.alloc (.cells #[.slice sl nl cl] 31)) 30 (stA ps s0 n0 c0)
      simp only [World.size_alloc] at h
      exact h.alloc _
    · have h := ((Arr.new w 31 #[.slice sl nl cl]).alloc (.cells (stA ps s0 n0 c0) 30)).alloc (.cells #[.func (Fn.func 32) #[] #[]] 80)
      simpa using h.cell 0
    · have h := Arr.new ((w.alloc (.cells #[.slice sl nl cl] 31)).alloc (.cells (stA ps s0 n0 c0) 30)) 80 #[.func (Fn.func 32) #[] #[]]
      simp only [World.size_alloc] at h
      simpa using h.cell 0
  have hs3 : (((w.alloc (.cells #[.slice sl nl cl] 31)).alloc (.cells (stA ps s0 n0 c0) 30)).alloc (.cells #[.func (Fn.func 32) #[] #[]] 80)).heap.size = w.heap.size + 3 := by simp
  generalize ((w.alloc (.cells #[.slice sl nl cl] 31)).alloc (.cells (stA ps s0 n0 c0) 30)).alloc (.cells #[.func (Fn.func 32) #[] #[]] 80) = V at *
  have hT := foldTS (bf := w.heap.size + 1) (bl := w.heap.size) (bs := w.heap.size + 1 + 1) (N := w.heap.size + 3) (B := V.heap.size + 4) (s0 := s0) (n0 := n0) (c0 := c0) (sl := sl) (nl := nl) (cl := cl) hok (by omega)
  have hTl := fold49_in (w.heap.size + 1) w.heap.size (w.heap.size + 1 + 1) (V.heap.size + 4) (stA ps s0 n0 c0) sl nl cl es _ _ (fun W h => h.1.up (by omega)) hT
  refine (last30_any _ nl V _ _ (fun W W' h hb => h.below (hb.mono (by omega))) hM0 hTl (staysS _ _ _ _ _ _ _ _) hT.size).mono ?_
  rintro r w' ⟨C, rfl, hC, hb⟩
  refine ⟨C, rfl, ?_, B1.trans (hb.mono (by omega))⟩
  obtain ⟨s, n, c, rfl, h⟩ := hC
  exact ⟨s, n, c, rfl, h.up (by omega)⟩

/-- The last of the fold: fold's variables lie at the end of the memory. -/
theorem finC (ps : List Ac) (s0 : Option Addr) (n0 c0 : Nat) (os : List Ou) (sl : Option Addr) (nl cl : Nat) (es : List Bz) (w : World) (hS : SS w.heap.size w ps s0 n0 c0 os) (hL : BL w.heap.size w sl nl cl es) :
    Calls Try.prog 25 #[.func (Fn.func 44) #[] #[.pointer (some ⟨w.heap.size + 1, 0, none⟩), .pointer (some ⟨w.heap.size, 0, none⟩), .pointer (some ⟨w.heap.size + 1 + 1, 0, none⟩)]] (((w.alloc (.cells #[.slice sl nl cl] 31)).alloc (.cells (crA ps s0 n0 c0 (.slice none 0 0)) 69)).alloc (.cells #[.func (Fn.func 28) #[] #[]] 74)) fun e w' => ∃ C, e = .returned (.agg C) ∧ TC w.heap.size s0 n0 c0 ps os (bzs es) nl C w' ∧ Below w.heap.size w w' := by
  have hok := rnA_ok (Ls := bzs es) hS.a32.out hS.ok.out hS.outs.ok hL.bts
  have hsm := hL.small
  have B1 := ((alloc_bel' w (.cells #[.slice sl nl cl] 31)).alloc (by simp) (.cells (crA ps s0 n0 c0 (.slice none 0 0)) 69)).alloc (by simp; omega) (.cells #[.func (Fn.func 28) #[] #[]] 74)
  have hM0 : MM (w.heap.size + 1) w.heap.size (w.heap.size + 1 + 1) (w.heap.size + 3) 69 28 (crA ps s0 n0 c0 (.slice none 0 0)) ps s0 n0 c0 os sl nl cl es (((w.alloc (.cells #[.slice sl nl cl] 31)).alloc (.cells (crA ps s0 n0 c0 (.slice none 0 0)) 69)).alloc (.cells #[.func (Fn.func 28) #[] #[]] 74)) := by
    refine ⟨⟨?_, ?_, ?_, (hL.below B1).mono (by omega), by omega, by omega, by omega⟩, (hS.below B1).mono (by omega)⟩
    · have h := Arr.new (w.alloc (.cells #[.slice sl nl cl] 31)) 69 (crA ps s0 n0 c0 (.slice none 0 0))
      simp only [World.size_alloc] at h
      exact h.alloc _
    · have h := ((Arr.new w 31 #[.slice sl nl cl]).alloc (.cells (crA ps s0 n0 c0 (.slice none 0 0)) 69)).alloc (.cells #[.func (Fn.func 28) #[] #[]] 74)
      simpa using h.cell 0
    · have h := Arr.new ((w.alloc (.cells #[.slice sl nl cl] 31)).alloc (.cells (crA ps s0 n0 c0 (.slice none 0 0)) 69)) 74 #[.func (Fn.func 28) #[] #[]]
      simp only [World.size_alloc] at h
      simpa using h.cell 0
  have hs3 : (((w.alloc (.cells #[.slice sl nl cl] 31)).alloc (.cells (crA ps s0 n0 c0 (.slice none 0 0)) 69)).alloc (.cells #[.func (Fn.func 28) #[] #[]] 74)).heap.size = w.heap.size + 3 := by simp
  generalize ((w.alloc (.cells #[.slice sl nl cl] 31)).alloc (.cells (crA ps s0 n0 c0 (.slice none 0 0)) 69)).alloc (.cells #[.func (Fn.func 28) #[] #[]] 74) = V at *
  have hT := foldTC (bf := w.heap.size + 1) (bl := w.heap.size) (bs := w.heap.size + 1 + 1) (N := w.heap.size + 3) (B := V.heap.size + 4) (s0 := s0) (n0 := n0) (c0 := c0) (sl := sl) (nl := nl) (cl := cl) hok (by omega) (by omega)
  have hTl := fold44_in (w.heap.size + 1) w.heap.size (w.heap.size + 1 + 1) (V.heap.size + 4) (crA ps s0 n0 c0 (.slice none 0 0)) sl nl cl es _ _ (fun W h => h.1.up (by omega)) hT
  refine (last25_any _ nl V _ _ (fun W W' h hb => h.below (hb.mono (by omega))) hM0 hTl (staysC _ _ _ _ _ _ _ _) hT.size).mono ?_
  rintro r w' ⟨C, rfl, hC, hb⟩
  refine ⟨C, rfl, ?_, B1.trans (hb.mono (by omega))⟩
  obtain ⟨s, n, c, sd, cd, rfl, h, h2⟩ := hC
  exact ⟨s, n, c, sd, cd, rfl, h.up (by omega), own_mono h2 (by omega)⟩

/-- The last of the fold: fold's variables lie at the end of the memory. -/
theorem finF (ps : List Ac) (s0 : Option Addr) (n0 c0 : Nat) (os : List Ou) (sl : Option Addr) (nl cl : Nat) (es : List Bz) (w : World) (hS : SS w.heap.size w ps s0 n0 c0 os) (hL : BL w.heap.size w sl nl cl es) :
    Calls Try.prog 33 #[.func (Fn.func 50) #[] #[.pointer (some ⟨w.heap.size + 1, 0, none⟩), .pointer (some ⟨w.heap.size, 0, none⟩), .pointer (some ⟨w.heap.size + 1 + 1, 0, none⟩)]] (((w.alloc (.cells #[.slice sl nl cl] 31)).alloc (.cells (flA ps s0 n0 c0 0 0) 82)).alloc (.cells #[.func (Fn.func 35) #[] #[]] 87)) fun e w' => ∃ C, e = .returned (.agg C) ∧ TF w.heap.size s0 n0 c0 ps os (bzs es) nl C w' ∧ Below w.heap.size w w' := by
  have hok := rnA_ok (Ls := bzs es) hS.a32.out hS.ok.out hS.outs.ok hL.bts
  have hsm := hL.small
  have B1 := ((alloc_bel' w (.cells #[.slice sl nl cl] 31)).alloc (by simp) (.cells (flA ps s0 n0 c0 0 0) 82)).alloc (by simp; omega) (.cells #[.func (Fn.func 35) #[] #[]] 87)
  have hM0 : MM (w.heap.size + 1) w.heap.size (w.heap.size + 1 + 1) (w.heap.size + 3) 82 35 (flA ps s0 n0 c0 0 0) ps s0 n0 c0 os sl nl cl es (((w.alloc (.cells #[.slice sl nl cl] 31)).alloc (.cells (flA ps s0 n0 c0 0 0) 82)).alloc (.cells #[.func (Fn.func 35) #[] #[]] 87)) := by
    refine ⟨⟨?_, ?_, ?_, (hL.below B1).mono (by omega), by omega, by omega, by omega⟩, (hS.below B1).mono (by omega)⟩
    · have h := Arr.new (w.alloc (.cells #[.slice sl nl cl] 31)) 82 (flA ps s0 n0 c0 0 0)
      simp only [World.size_alloc] at h
      exact h.alloc _
    · have h := ((Arr.new w 31 #[.slice sl nl cl]).alloc (.cells (flA ps s0 n0 c0 0 0) 82)).alloc (.cells #[.func (Fn.func 35) #[] #[]] 87)
      simpa using h.cell 0
    · have h := Arr.new ((w.alloc (.cells #[.slice sl nl cl] 31)).alloc (.cells (flA ps s0 n0 c0 0 0) 82)) 87 #[.func (Fn.func 35) #[] #[]]
      simp only [World.size_alloc] at h
      simpa using h.cell 0
  have hs3 : (((w.alloc (.cells #[.slice sl nl cl] 31)).alloc (.cells (flA ps s0 n0 c0 0 0) 82)).alloc (.cells #[.func (Fn.func 35) #[] #[]] 87)).heap.size = w.heap.size + 3 := by simp
  generalize ((w.alloc (.cells #[.slice sl nl cl] 31)).alloc (.cells (flA ps s0 n0 c0 0 0) 82)).alloc (.cells #[.func (Fn.func 35) #[] #[]] 87) = V at *
  have hT := foldTF (bf := w.heap.size + 1) (bl := w.heap.size) (bs := w.heap.size + 1 + 1) (N := w.heap.size + 3) (B := V.heap.size + 4) (s0 := s0) (n0 := n0) (c0 := c0) (sl := sl) (nl := nl) (cl := cl) hok (by omega)
  have hTl := fold50_in (w.heap.size + 1) w.heap.size (w.heap.size + 1 + 1) (V.heap.size + 4) (flA ps s0 n0 c0 0 0) sl nl cl es _ _ (fun W h => h.1.up (by omega)) hT
  refine (last33_any _ nl V _ _ (fun W W' h hb => h.below (hb.mono (by omega))) hM0 hTl (staysF _ _ _ _ _ _ _ _) hT.size).mono ?_
  rintro r w' ⟨C, rfl, hC, hb⟩
  refine ⟨C, rfl, ?_, B1.trans (hb.mono (by omega))⟩
  obtain ⟨s, n, c, rfl, h⟩ := hC
  exact ⟨s, n, c, rfl, h.up (by omega)⟩
end Go.Proofs.Ytbhhbkoikocjgaa

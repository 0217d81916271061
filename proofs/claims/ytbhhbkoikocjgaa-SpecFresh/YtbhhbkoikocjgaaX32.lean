/- Nv1, Nk0, NkF. -/
import Derived.Test.YtbhhbkoikocjgaaX13
import Derived.Test.YtbhhbkoikocjgaaX14
import Derived.Test.YtbhhbkoikocjgaaX27
import Derived.Test.YtbhhbkoikocjgaaX31
import Derived.Test.YtbhhbkoikocjgaaX15
import Derived.Test.YtbhhbkoikocjgaaX12
import Derived.Test.YtbhhbkoikocjgaaX24
/- Layer spec: the iterator of All. -/
namespace Go.Proofs.Ytbhhbkoikocjgaa
set_option linter.unusedSectionVars false
set_option maxHeartbeats 1000000
open Go.RowKit Go.Shelf
set_option maxRecDepth 100000
set_option linter.unusedVariables false
set_option linter.unusedSimpArgs false
variable [DecidableEq Ac] [DecidableEq Ou] [DecidableEq Mg]
attribute [local go_sem] Oper.semAt_some


/-- What the iterator of All wants: its two variables, the state, the messages. -/
structure MA (bm bf N : Nat) (ps : List Ac) (s0 : Option Addr) (n0 c0 : Nat) (os : List Ou) (sm : Option Addr) (nl cm : Nat) (fs : List Bz) (W : World) : Prop where
  first : Arr W bf 30 (stA ps s0 n0 c0)
  list : Arr W bm 31 #[.slice sm nl cm]
  st : SS N W ps s0 n0 c0 os
  msgs : BL N W sm nl cm fs
def TA (B : Nat) (ps : List Ac) (os : List Ou) (Ls : List (List Int)) (j : Nat) (C : Array Value) (W : World) : Prop :=
  ∃ s n c, C = stA (rnA ps os Ls j).P s n c ∧ Hid (n = (rnA ps os Ls j).O.length) ∧ n ≤ 33 ∧ W.ownsRow B 66 2 (.slice s n c) n (ouF (rnA ps os Ls j).O)
def RA (C : Array Value) (b : Nat) : Prop := ∃ n c, C[1088]? = some (.slice (some ⟨b, 0, none⟩) n c)
theorem RA_own {P : List Ac} {s : Option Addr} {n c B b k : Nat} {W : World} {xs : List Value} (h1 : P.length = 32) (h2 : ∀ a ∈ P, a.lk.length = 32) (h : RA (stA P s n c) b) (ho : W.ownsRow B 66 2 (.slice s n c) k xs) : B ≤ b := by
  obtain ⟨n', c', e⟩ := h
  have hl : (acF P).length = 1088 := by rw [acF_len h2, h1]
  simp only [stA, stC, List.getElem?_toArray] at e
  rw [List.getElem?_append_right (by omega), hl] at e
  simp at e
  obtain ⟨rfl, -, -⟩ := e
  exact own_ge ho b rfl
theorem staysA (B : Nat) (M : World → Prop) (ps : List Ac) (os : List Ou) (Ls : List (List Int)) : Stays B M (TA B ps os Ls) := by
  rintro j C W W' ⟨s, n, c, rfl, h1, h2, h3⟩ - - hk
  exact ⟨s, n, c, rfl, h1, h2, own_keep h3 hk⟩
/-- What stands while the iterator of All ranges. -/
structure AI (G : Nat) (lp : Nat) (ps : List Ac) (s0 : Option Addr) (n0 c0 : Nat) (sm : Option Addr) (nl cm : Nat) (W : World) : Prop where
  yv : Arr W G 100 #[.func (.yield lp) #[] #[]]
  list : Arr W (G + 1) 31 #[.slice sm nl cm]
  first : Arr W (G + 1 + 1) 30 (stA ps s0 n0 c0)
  step : Arr W (G + 1 + 1 + 1) 80 #[.func (Fn.func 32) #[] #[]]
theorem AI.keep {G lp : Nat} {ps : List Ac} {s0 : Option Addr} {n0 c0 : Nat} {sm : Option Addr} {nl cm : Nat} {W W' : World} (h : AI G lp ps s0 n0 c0 sm nl cm W) (hk : ∀ b, G ≤ b → b < G + 4 → W'.heap[b]? = W.heap[b]?) : AI G lp ps s0 n0 c0 sm nl cm W' :=
  ⟨(hk _ (by omega) (by omega)).trans h.yv, (hk _ (by omega) (by omega)).trans h.list, (hk _ (by omega) (by omega)).trans h.first, (hk _ (by omega) (by omega)).trans h.step⟩
theorem AI.mm {G lp N : Nat} {ps : List Ac} {s0 : Option Addr} {n0 c0 : Nat} {os : List Ou} {sm : Option Addr} {nl cm bm bf : Nat} {fs : List Bz} {W : World} (h : AI G lp ps s0 n0 c0 sm nl cm W) (hM : MA bm bf N ps s0 n0 c0 os sm nl cm fs W) (hN : N ≤ G) : MM (G + 1 + 1) (G + 1) (G + 1 + 1 + 1) (G + 4) 30 32 (stA ps s0 n0 c0) ps s0 n0 c0 os sm nl cm fs W :=
  ⟨⟨h.first, by simpa using h.list.cell 0, by simpa using h.step.cell 0, hM.msgs.mono (by omega), by omega, by omega, by omega⟩, hM.st.mono (by omega)⟩

set_option maxHeartbeats 4000000 in
theorem all42_in (bm bf N B : Nat) (ps : List Ac) (s0 : Option Addr) (n0 c0 : Nat) (os : List Ou) (sm : Option Addr) (nl cm : Nat) (fs : List Bz) (hbm : bm < N) (hbf : bf < N) (hNB : N ≤ B) (hok : ∀ j, RnOK (rnA ps os (bzs fs) j)) (hn0 : n0 ≤ 33) :
    TellW 42 #[.pointer (some ⟨bm, 0, none⟩), .pointer (some ⟨bf, 0, none⟩)] B (MA bm bf N ps s0 n0 c0 os sm nl cm fs) (TA B ps os (bzs fs)) RA nl := by
  intro k lp J X hJM hJB hXB hY W C0 h0
  refine callsIn_of_wp_marks Try.func42 rfl trivial ?_ rfl
  simp only [Try.ntmps42, List.size_toArray, List.length_cons, List.length_nil, Nat.reduceAdd, Nat.reduceSub, Array.replicate_succ, Array.replicate_zero, List.push_toArray, List.append_toArray, List.nil_append, List.cons_append]
  obtain ⟨hMA, hsz⟩ := hJM 0 C0 W h0
  have bY := alloc_bel' W (.cells #[.func (.yield lp) #[] #[]] 100)
  have aF := hMA.first.below bY (by omega)
  have cM := (hMA.list.below bY (by omega)).cell 0
  simp at cM
  have hsq := stA_size (sp := s0) (n := n0) (cap := c0) (hok 0).a32 (fun a ha => ((hok 0).ok a ha).l32)
  have hp0 : (rnA ps os (bzs fs) 0).P = ps := rfl
  rw [hp0] at hsq
  have hz30 := zeroValue30N
  have hzs := zsize30
  generalize zero30N = Z at hz30 hzs
  gi_wp2_with (first
    | (refine atLi 30 (.tmp 2) ?_; refine ldBw (by rfl) 30 1089 _ (by rfl) bf 30 (by rfl) (stA ps s0 n0 c0) hsq aF Try.underlying30 rfl size30N ?_)
    | (refine ⟨trivial, fun h => (by cases h), ?_⟩; gi_at_call 31; go_must (refine (callsIn_wide.2 (fold31_any sm nl cm (stA ps s0 n0 c0) _)).mono ?_; rintro r w3 ⟨rfl, rfl⟩)))
  have hAI0 : AI W.heap.size lp ps s0 n0 c0 sm nl cm ((((W.alloc (.cells #[.func (.yield lp) #[] #[]] 100)).alloc (.cells #[.slice sm nl cm] 31)).alloc (.cells (stA ps s0 n0 c0) 30)).alloc (.cells #[.func (Fn.func 32) #[] #[]] 80)) := by
    refine ⟨(((Arr.new W 100 _).alloc _).alloc _).alloc _, ?_, ?_, ?_⟩
    · have h := Arr.new (W.alloc (.cells #[.func (.yield lp) #[] #[]] 100)) 31 #[.slice sm nl cm]
      simp only [World.size_alloc] at h
      exact (h.alloc _).alloc _
    · have h := Arr.new ((W.alloc (.cells #[.func (.yield lp) #[] #[]] 100)).alloc (.cells #[.slice sm nl cm] 31)) 30 (stA ps s0 n0 c0)
      simp only [World.size_alloc] at h
      exact h.alloc _
    · have h := Arr.new (((W.alloc (.cells #[.func (.yield lp) #[] #[]] 100)).alloc (.cells #[.slice sm nl cm] 31)).alloc (.cells (stA ps s0 n0 c0) 30)) 80 #[.func (Fn.func 32) #[] #[]]
      simp only [World.size_alloc] at h
      exact h
  have bF : Below W.heap.size W ((((W.alloc (.cells #[.func (.yield lp) #[] #[]] 100)).alloc (.cells #[.slice sm nl cm] 31)).alloc (.cells (stA ps s0 n0 c0) 30)).alloc (.cells #[.func (Fn.func 32) #[] #[]] 80)) := ((bY.alloc (by simp) _).alloc (by simp; omega) _).alloc (by simp; omega) _
  have hJ0 := hJB 0 C0 W _ h0 (bF.mono hsz)
  have hs3 : ((((W.alloc (.cells #[.func (.yield lp) #[] #[]] 100)).alloc (.cells #[.slice sm nl cm] 31)).alloc (.cells (stA ps s0 n0 c0) 30)).alloc (.cells #[.func (Fn.func 32) #[] #[]] 80)).heap.size = W.heap.size + 4 := by simp
  generalize (((W.alloc (.cells #[.func (.yield lp) #[] #[]] 100)).alloc (.cells #[.slice sm nl cm] 31)).alloc (.cells (stA ps s0 n0 c0) 30)).alloc (.cells #[.func (Fn.func 32) #[] #[]] 80) = V3 at *
  have hWN : N ≤ W.heap.size := by omega
  generalize W.heap.size = G at *
  clear aF cM hMA bY h0 bF
  have hT := foldTS (bf := G + 1 + 1) (bl := G + 1) (bs := G + 1 + 1 + 1) (N := G + 4) (B := G + 4 + 2) (s0 := s0) (n0 := n0) (c0 := c0) (sl := sm) (nl := nl) (cl := cm) hok (by omega)
  have hTl := fold49_in (G + 1 + 1) (G + 1) (G + 1 + 1 + 1) (G + 4 + 2) (stA ps s0 n0 c0) sm nl cm fs (MM (G + 1 + 1) (G + 1) (G + 1 + 1 + 1) (G + 4) 30 32 (stA ps s0 n0 c0) ps s0 n0 c0 os sm nl cm fs) (TS (G + 4 + 2) s0 n0 c0 ps os (bzs fs)) (fun W h => h.1.up (by omega)) hT
  have hen := enters_of (P := Try.prog) Try.func49 (by kernel_rfl) rfl
  have hst := staysS (G + 4 + 2) (MM (G + 1 + 1) (G + 1) (G + 1 + 1 + 1) (G + 4) 30 32 (stA ps s0 n0 c0) ps s0 n0 c0 os sm nl cm fs) s0 n0 c0 ps os (bzs fs)
  refine range_tell 49 #[.pointer (some ⟨G + 1 + 1, 0, none⟩), .pointer (some ⟨G + 1, 0, none⟩), .pointer (some ⟨G + 1 + 1 + 1, 0, none⟩)] (G + 4) hs3 rfl hen nl (MM (G + 1 + 1) (G + 1) (G + 1 + 1 + 1) (G + 4) 30 32 (stA ps s0 n0 c0) ps s0 n0 c0 os sm nl cm fs) (TS (G + 4 + 2) s0 n0 c0 ps os (bzs fs)) (fun _ _ => False) hTl hst (fun _ _ _ _ _ h => h.elim) (fun j C U => ∃ C', J j C' U ∧ AI G lp ps s0 n0 c0 sm nl cm U) (fun c U => c = .ret ∧ X U) (fun j C U h => h.choose_spec.2.mm (hJM _ _ _ h.choose_spec.1).1 hWN) (fun j C U U' h hb => ⟨h.choose, hJB _ _ _ _ h.choose_spec.1 (hb.mono (by omega)), h.choose_spec.2.keep (fun b h1 h2 => hb.block b (by omega))⟩) (fun c U r o h hr => ⟨h.1, hXB _ _ h.2 (bel_put (Below.refl _ _) (by omega) _)⟩) Z ⟨C0, hJ0, hAI0⟩ ?round ?done ?stop
  case round =>
    intro j Cp C U hI hj hTU hsU m
    clear hTl hJ0 hAI0
    obtain ⟨hC, hC1⟩ := hT.size j C U hTU
    clear hT
    gi_wp2_with (refine atSi 30 (.tmp 5) (.tmp 10) ?_; refine stBnr (by rfl) 30 1089 _ _ (by rfl) U U.heap.size 30 rfl C (by rfl) (by rfl) hC hC1 hzs size30N ?_)
    refine ⟨alloc_bel' U _, fun w2 hb2 hk2 hs2 hI2 hT2 => ?_⟩
    have E2 : Arr w2 U.heap.size 30 C := (hk2 _ (by omega)).trans (Arr.new U 30 C)
    simp only [World.size_alloc] at hs2
    obtain ⟨C1, hJ2, hAI2⟩ := hI2
    obtain ⟨s, n, c, rfl, hSR⟩ := hT2
    have hMA2 := (hJM _ _ _ hJ2).1
    have hSS := hSR.ss ((hMA2.st.mono (by omega))) (hok j)
    have hn33 : n ≤ 33 := by
      rcases hSR with ⟨-, -, rfl, -⟩ | ⟨-, h, -⟩
      · exact hn0
      · exact h
    have hnl := hSS.outs.len
    have hp1 := (hok j).a32
    have hp2 : ∀ a ∈ (rnA ps os (bzs fs) j).P, a.lk.length = 32 := fun a ha => ((hok j).ok a ha).l32
    have E3 := E2.drew
    have cY : w2.drew.cell? ⟨G, 0, none⟩ = some (.func (.yield lp) #[] #[]) := by simpa using hAI2.yv.drew.cell 0
    have hown := own_any (rnA ps os (bzs fs) j).P _ s n c (rnA ps os (bzs fs) j).O w2.drew (hSS.below (drew_bel w2)) (by omega)
    have hGw : G + 4 ≤ w2.heap.size := by omega
    have hyield : ∀ (u : World) s4 c4, u.ownsRow w2.drew.heap.size 66 2 (.slice s4 n c4) n (ouF (rnA ps os (bzs fs) j).O) → Below w2.drew.heap.size w2.drew u → YieldAt Fence.wide (k - 1) Try.prog lp #[.int .i64 (j : Int), .agg (stA (rnA ps os (bzs fs) j).P s4 n c4)] u fun r W' => (r = .returned (.bool true) ∧ ((∃ C', J (j + 1) C' W' ∧ AI G lp ps s0 n0 c0 sm nl cm W') ∧ w2.heap.size ≤ W'.heap.size ∧ ∀ b, G + 4 ≤ b → b < U.heap.size → ¬ False → W'.heap[b]? = w2.heap[b]?)) ∨ (r = .returned (.bool false) ∧ (X W' ∧ w2.heap.size ≤ W'.heap.size ∧ ∀ b, G + 4 ≤ b → b < U.heap.size → ¬ False → W'.heap[b]? = w2.heap[b]?)) := by
      intro u s4 c4 own4 hb4
      have hb24 : Below w2.heap.size w2 u := (drew_bel w2).trans hb4
      have hz4 := hb24.size
      have hJ4 := hJB _ _ _ _ hJ2 (hb24.mono (by omega))
      have hw2d : w2.drew.heap.size = w2.heap.size := rfl
      have hTA : TA B ps os (bzs fs) j (stA (rnA ps os (bzs fs) j).P s4 n c4) u := ⟨s4, n, c4, rfl, hnl, hn33, own_mono own4 (by omega)⟩
      have hra : ∀ b, b < w2.heap.size → ¬ RA (stA (rnA ps os (bzs fs) j).P s4 n c4) b := fun b hb h => by have := RA_own hp1 hp2 h own4; omega
      obtain ⟨fn, tmps, assign, body, hy, hR⟩ := hY j C1 _ u hJ4 hj hTA
      refine ⟨fn, tmps, assign, body, hy, hR.mono ?_⟩
      rintro r W' (⟨rfl, hJ', hs', hk'⟩ | ⟨rfl, hX', hs', hk'⟩)
      · have hkk : ∀ b, B ≤ b → b < w2.heap.size → W'.heap[b]? = w2.heap[b]? := fun b h1 h2 => (hk' b h1 (by omega) (hra b h2)).trans (hb24.block b h2)
        exact .inl ⟨rfl, ⟨_, hJ', hAI2.keep (fun b h1 h2 => hkk b (by omega) (by omega))⟩, by omega, fun b h1 h2 _ => hkk b (by omega) (by omega)⟩
      · have hkk : ∀ b, B ≤ b → b < w2.heap.size → W'.heap[b]? = w2.heap[b]? := fun b h1 h2 => (hk' b h1 (by omega) (hra b h2)).trans (hb24.block b h2)
        exact .inr ⟨rfl, hX', by omega, fun b h1 h2 _ => hkk b (by omega) (by omega)⟩
    replace hyield := Hid.mk' hyield
    have hyield := fun u s4 c4 h1 h2 => hyield.out u s4 c4 h1 h2
    clear hJM hJB hY hXB hMA2 hSR hk2 hb2 hI hTU E2
    gi_wp2
    refine region_yield (n := 0) (fun a' w' => ∃ (C4 : Array Value) (b : Bool), a' = { tmps := #[.func (.yield lp) #[] #[], .pointer (some ⟨bm, 0, none⟩), .pointer (some ⟨bf, 0, none⟩), .pointer (some ⟨G, 0, none⟩), .int .i64 (j : Int), .pointer (some ⟨U.heap.size, 0, none⟩), .slice sm nl cm, .agg (stA ps s0 n0 c0), .func (Fn.func 49) #[] #[.pointer (some ⟨G + 1 + 1, 0, none⟩), .pointer (some ⟨G + 1, 0, none⟩), .pointer (some ⟨G + 1 + 1 + 1, 0, none⟩)], .int .i64 (j : Int), .agg (stA (rnA ps os (bzs fs) j).P s n c), .func (.yield lp) #[] #[], .int .i64 (j : Int), .agg (stA (rnA ps os (bzs fs) j).P s n c), .agg C4, .bool b, .bool (!b)], defers := [] } ∧ ((b = true ∧ ((∃ C', J (j + 1) C' w' ∧ AI G lp ps s0 n0 c0 sm nl cm w') ∧ w2.heap.size ≤ w'.heap.size ∧ ∀ b, G + 4 ≤ b → b < U.heap.size → ¬ False → w'.heap[b]? = w2.heap[b]?)) ∨ (b = false ∧ (X w' ∧ w2.heap.size ≤ w'.heap.size ∧ ∀ b, G + 4 ≤ b → b < U.heap.size → ¬ False → w'.heap[b]? = w2.heap[b]?)))) (by kernel_rfl) (by kernel_rfl) ?reg ?rest
    case reg =>
      show wpAnyIn Fence.wide 0 Try.prog .any _ _ _ _ _ w2.drew
      refine wpAnyIn_take (i := 1) (oi := ⟨_, _, _, _, _, _⟩) (v := ?_) rfl rfl (by kernel_rfl) (by kernel_rfl) (by kernel_rfl) (fun c a w h => by cases h.1) ⟨Or.inl ⟨by rfl, ?_⟩, fun w => by rfl⟩ ?_
      rotate_left
      · intro u
        go_simp
        try (with_reducible rfl)
      try simp only [Act.put, List.setIfInBounds_toArray, List.set_cons_zero, List.set_cons_succ]
      refine wpAnyIn_ready (rs := [0, 2]) (by kernel_rfl) (by simp) ?_
      refine AllReadyIn.cons (o := ⟨_, _, _, _, _, _⟩) rfl (fun K hK => ?_) (AllReadyIn.cons (o := ⟨_, _, _, _, _, _⟩) rfl (fun K hK => ?_) AllReadyIn.nil)
      · refine step_wantIn rfl (opInw (by intro c hc; cases hc) ?_)
        go_simp
        go_wp2_with fail
        try (refine hK _ _ ?_)
        try clear hK
        try clear K
        try simp only [Act.put, List.setIfInBounds_toArray, List.set_cons_zero, List.set_cons_succ]
        refine wpAnyIn_ready (rs := [2]) (by kernel_rfl) (by simp) ?_
        refine AllReadyIn.cons (o := ⟨_, _, _, _, _, _⟩) rfl (fun K hK => ?_) AllReadyIn.nil
        refine step_wantIn rfl (opInw (by intro c hc; cases hc) (wp_load_mid 30 (.tmp 5) rfl U.heap.size 0 rfl (stC (rnA ps os (bzs fs) j).P s n c) _ E3.st Try.underlying30 rfl (by rw [stC_len hp1 hp2]; exact size30) (hK _ _ ?_)))
        clear hK K
        try simp only [Act.put, List.setIfInBounds_toArray, List.set_cons_zero, List.set_cons_succ]
        refine wpAnyIn_ready (rs := [3]) (by kernel_rfl) (by simp) ?_
        refine AllReadyIn.cons (o := ⟨_, _, _, _, _, _⟩) rfl (fun K hK => ?_) AllReadyIn.nil
        refine step_wantIn rfl (opInw (by intro c hc; cases hc) ?_)
        go_simp
        refine hown.mono ?_
        rintro r u ⟨s4, c4, rfl, own4, hb4⟩
        have cY4 := (hb4.cell (p := ⟨G, 0, none⟩) (show G < w2.heap.size by omega)).trans cY
        go_wp2_with fail
        try (refine hK _ _ ?_)
        try clear hK
        try clear K
        try simp only [Act.put, List.setIfInBounds_toArray, List.set_cons_zero, List.set_cons_succ]
        have hYY := hyield u s4 c4 own4 hb4
        refine wpAnyIn_ready (rs := [4]) (by kernel_rfl) (by simp) ?_
        refine AllReadyIn.cons (o := ⟨_, _, _, _, _, _⟩) rfl (fun K hK => ?_) AllReadyIn.nil
        refine step_wantIn rfl (yield_op (.tmp 11) (.tmp 12) (.tmp 14) _ rfl rfl _ _ rfl rfl hYY ?_)
        rintro rr W3 (⟨rfl, hfin⟩ | ⟨rfl, hfin⟩)
        · refine ⟨_, rfl, hK _ _ ?_⟩
          clear hK K
          try simp only [Act.put, List.setIfInBounds_toArray, List.set_cons_zero, List.set_cons_succ]
          refine wpAnyIn_take (i := 5) (oi := ⟨_, _, _, _, _, _⟩) (v := ?_) rfl rfl (by kernel_rfl) (by kernel_rfl) (by kernel_rfl) (fun c a w h => by cases h.1) ⟨Or.inl ⟨by rfl, ?_⟩, fun w => by rfl⟩ ?_
          rotate_left
          · intro u
            go_simp
            try (with_reducible rfl)
          try simp only [Act.put, List.setIfInBounds_toArray, List.set_cons_zero, List.set_cons_succ]
          refine wpAnyIn_done (by kernel_rfl) ?_ _
          exact ⟨rfl, _, true, rfl, .inl ⟨rfl, hfin⟩⟩
        · refine ⟨_, rfl, hK _ _ ?_⟩
          clear hK K
          try simp only [Act.put, List.setIfInBounds_toArray, List.set_cons_zero, List.set_cons_succ]
          refine wpAnyIn_take (i := 5) (oi := ⟨_, _, _, _, _, _⟩) (v := ?_) rfl rfl (by kernel_rfl) (by kernel_rfl) (by kernel_rfl) (fun c a w h => by cases h.1) ⟨Or.inl ⟨by rfl, ?_⟩, fun w => by rfl⟩ ?_
          rotate_left
          · intro u
            go_simp
            try (with_reducible rfl)
          try simp only [Act.put, List.setIfInBounds_toArray, List.set_cons_zero, List.set_cons_succ]
          refine wpAnyIn_done (by kernel_rfl) ?_ _
          exact ⟨rfl, _, false, rfl, .inr ⟨rfl, hfin⟩⟩
      · refine step_wantIn rfl (opInw (by intro c hc; cases hc) (wp_load_mid 30 (.tmp 5) rfl U.heap.size 0 rfl (stC (rnA ps os (bzs fs) j).P s n c) _ E3.st Try.underlying30 rfl (by rw [stC_len hp1 hp2]; exact size30) (hK _ _ ?_)))
        clear hK K
        try simp only [Act.put, List.setIfInBounds_toArray, List.set_cons_zero, List.set_cons_succ]
        refine wpAnyIn_ready (rs := [0, 3]) (by kernel_rfl) (by simp) ?_
        refine AllReadyIn.cons (o := ⟨_, _, _, _, _, _⟩) rfl (fun K hK => ?_) (AllReadyIn.cons (o := ⟨_, _, _, _, _, _⟩) rfl (fun K hK => ?_) AllReadyIn.nil)
        · refine step_wantIn rfl (opInw (by intro c hc; cases hc) ?_)
          go_simp
          go_wp2_with fail
          try (refine hK _ _ ?_)
          try clear hK
          try clear K
          try simp only [Act.put, List.setIfInBounds_toArray, List.set_cons_zero, List.set_cons_succ]
          refine wpAnyIn_ready (rs := [3]) (by kernel_rfl) (by simp) ?_
          refine AllReadyIn.cons (o := ⟨_, _, _, _, _, _⟩) rfl (fun K hK => ?_) AllReadyIn.nil
          refine step_wantIn rfl (opInw (by intro c hc; cases hc) ?_)
          go_simp
          refine hown.mono ?_
          rintro r u ⟨s4, c4, rfl, own4, hb4⟩
          have cY4 := (hb4.cell (p := ⟨G, 0, none⟩) (show G < w2.heap.size by omega)).trans cY
          go_wp2_with fail
          try (refine hK _ _ ?_)
          try clear hK
          try clear K
          try simp only [Act.put, List.setIfInBounds_toArray, List.set_cons_zero, List.set_cons_succ]
          have hYY := hyield u s4 c4 own4 hb4
          refine wpAnyIn_ready (rs := [4]) (by kernel_rfl) (by simp) ?_
          refine AllReadyIn.cons (o := ⟨_, _, _, _, _, _⟩) rfl (fun K hK => ?_) AllReadyIn.nil
          refine step_wantIn rfl (yield_op (.tmp 11) (.tmp 12) (.tmp 14) _ rfl rfl _ _ rfl rfl hYY ?_)
          rintro rr W3 (⟨rfl, hfin⟩ | ⟨rfl, hfin⟩)
          · refine ⟨_, rfl, hK _ _ ?_⟩
            clear hK K
            try simp only [Act.put, List.setIfInBounds_toArray, List.set_cons_zero, List.set_cons_succ]
            refine wpAnyIn_take (i := 5) (oi := ⟨_, _, _, _, _, _⟩) (v := ?_) rfl rfl (by kernel_rfl) (by kernel_rfl) (by kernel_rfl) (fun c a w h => by cases h.1) ⟨Or.inl ⟨by rfl, ?_⟩, fun w => by rfl⟩ ?_
            rotate_left
            · intro u
              go_simp
              try (with_reducible rfl)
            try simp only [Act.put, List.setIfInBounds_toArray, List.set_cons_zero, List.set_cons_succ]
            refine wpAnyIn_done (by kernel_rfl) ?_ _
            exact ⟨rfl, _, true, rfl, .inl ⟨rfl, hfin⟩⟩
          · refine ⟨_, rfl, hK _ _ ?_⟩
            clear hK K
            try simp only [Act.put, List.setIfInBounds_toArray, List.set_cons_zero, List.set_cons_succ]
            refine wpAnyIn_take (i := 5) (oi := ⟨_, _, _, _, _, _⟩) (v := ?_) rfl rfl (by kernel_rfl) (by kernel_rfl) (by kernel_rfl) (fun c a w h => by cases h.1) ⟨Or.inl ⟨by rfl, ?_⟩, fun w => by rfl⟩ ?_
            rotate_left
            · intro u
              go_simp
              try (with_reducible rfl)
            try simp only [Act.put, List.setIfInBounds_toArray, List.set_cons_zero, List.set_cons_succ]
            refine wpAnyIn_done (by kernel_rfl) ?_ _
            exact ⟨rfl, _, false, rfl, .inr ⟨rfl, hfin⟩⟩
        · refine step_wantIn rfl (opInw (by intro c hc; cases hc) ?_)
          go_simp
          refine hown.mono ?_
          rintro r u ⟨s4, c4, rfl, own4, hb4⟩
          have cY4 := (hb4.cell (p := ⟨G, 0, none⟩) (show G < w2.heap.size by omega)).trans cY
          go_wp2_with fail
          try (refine hK _ _ ?_)
          try clear hK
          try clear K
          try simp only [Act.put, List.setIfInBounds_toArray, List.set_cons_zero, List.set_cons_succ]
          refine wpAnyIn_ready (rs := [0]) (by kernel_rfl) (by simp) ?_
          refine AllReadyIn.cons (o := ⟨_, _, _, _, _, _⟩) rfl (fun K hK => ?_) AllReadyIn.nil
          refine step_wantIn rfl (opInw (by intro c hc; cases hc) ?_)
          go_simp
          go_wp2_with fail
          try (refine hK _ _ ?_)
          try clear hK
          try clear K
          try simp only [Act.put, List.setIfInBounds_toArray, List.set_cons_zero, List.set_cons_succ]
          have hYY := hyield u s4 c4 own4 hb4
          refine wpAnyIn_ready (rs := [4]) (by kernel_rfl) (by simp) ?_
          refine AllReadyIn.cons (o := ⟨_, _, _, _, _, _⟩) rfl (fun K hK => ?_) AllReadyIn.nil
          refine step_wantIn rfl (yield_op (.tmp 11) (.tmp 12) (.tmp 14) _ rfl rfl _ _ rfl rfl hYY ?_)
          rintro rr W3 (⟨rfl, hfin⟩ | ⟨rfl, hfin⟩)
          · refine ⟨_, rfl, hK _ _ ?_⟩
            clear hK K
            try simp only [Act.put, List.setIfInBounds_toArray, List.set_cons_zero, List.set_cons_succ]
            refine wpAnyIn_take (i := 5) (oi := ⟨_, _, _, _, _, _⟩) (v := ?_) rfl rfl (by kernel_rfl) (by kernel_rfl) (by kernel_rfl) (fun c a w h => by cases h.1) ⟨Or.inl ⟨by rfl, ?_⟩, fun w => by rfl⟩ ?_
            rotate_left
            · intro u
              go_simp
              try (with_reducible rfl)
            try simp only [Act.put, List.setIfInBounds_toArray, List.set_cons_zero, List.set_cons_succ]
            refine wpAnyIn_done (by kernel_rfl) ?_ _
            exact ⟨rfl, _, true, rfl, .inl ⟨rfl, hfin⟩⟩
          · refine ⟨_, rfl, hK _ _ ?_⟩
            clear hK K
            try simp only [Act.put, List.setIfInBounds_toArray, List.set_cons_zero, List.set_cons_succ]
            refine wpAnyIn_take (i := 5) (oi := ⟨_, _, _, _, _, _⟩) (v := ?_) rfl rfl (by kernel_rfl) (by kernel_rfl) (by kernel_rfl) (fun c a w h => by cases h.1) ⟨Or.inl ⟨by rfl, ?_⟩, fun w => by rfl⟩ ?_
            rotate_left
            · intro u
              go_simp
              try (with_reducible rfl)
            try simp only [Act.put, List.setIfInBounds_toArray, List.set_cons_zero, List.set_cons_succ]
            refine wpAnyIn_done (by kernel_rfl) ?_ _
            exact ⟨rfl, _, false, rfl, .inr ⟨rfl, hfin⟩⟩
    case rest =>
      rintro a' w' ⟨C4, b, rfl, ⟨rfl, hfin⟩ | ⟨rfl, hfin⟩⟩
      · gi_wp2
        exact hfin
      · gi_wp2
        exact ⟨⟨rfl, hfin.1⟩, hfin.2⟩
  case done =>
    intro C U o hI hT' hsU hdf
    obtain ⟨C', hJ', -⟩ := hI
    have hdf' : (U.putObj (G + 4 + 1) o).heap[G + 4]? = some (.deferred (some [])) := (World.putObj_heap_other (by omega)).trans hdf
    have hJ2 := hJB _ _ _ _ hJ' (bel_put (bel_put (r := G + 4 + 1) (Below.refl B U) (by omega) o) (r := G + 4) (by omega) (.deferred none))
    refine ⟨by simp, .inl ⟨_, _, rfl, run_takeDeferred hdf', ?_⟩⟩
    exact ⟨_, results_none rfl _ _ _, ⟨_, rfl⟩, .inl ⟨C', hJ2⟩⟩
  case stop =>
    rintro c U o ⟨rfl, hX'⟩ hsU hdf
    have hdf' : (U.putObj (G + 4 + 1) o).heap[G + 4]? = some (.deferred (some [])) := (World.putObj_heap_other (by omega)).trans hdf
    have hX2 := hXB _ _ hX' (bel_put (bel_put (r := G + 4 + 1) (Below.refl B U) (by omega) o) (r := G + 4) (by omega) (.deferred none))
    refine wpIn_ret ?_
    refine ⟨by simp, .inl ⟨_, _, rfl, run_takeDeferred hdf', ?_⟩⟩
    exact ⟨_, results_none rfl _ _ _, ⟨_, rfl⟩, .inr hX2⟩
end Go.Proofs.Ytbhhbkoikocjgaa
/- Layer spec: what a run answers. -/
namespace Go.Proofs.Ytbhhbkoikocjgaa
set_option linter.unusedSectionVars false
set_option maxHeartbeats 1000000
open Go.RowKit Go.Shelf
set_option maxRecDepth 100000
set_option linter.unusedVariables false
set_option linter.unusedSimpArgs false


variable [DecidableEq Ac] [DecidableEq Ou] [DecidableEq Mg]
/-- A state that is answered: its withdrawals are new memory. -/
structure NwS (w w' : World) (P : List Ac) (O : List Ou) (s : Option Addr) (n c : Nat) : Prop where
  len : Hid (n = O.length)
  le : n ≤ 33
  own : w'.ownsRow w.heap.size 66 2 (.slice s n c) n (ouF O)
  ss : SS w'.heap.size w' P s n c O
def yR (ps : List Ac) (os : List Ou) (Ls : List (List Int)) (n : Nat) : Rn := if may ps os.length = true then rnA ps os Ls n else ⟨zs, [], [], 0, 0⟩
def RunPost (R : Rn) (e : Int) (w : World) (r : Ending) (w' : World) : Prop :=
  ∃ s n c sd k cd, r = .returned (.tuple #[.agg (stA R.P s n c), .slice sd k cd, .int .i64 e]) ∧ NwS w w' R.P R.O s n c ∧ Hid (k = R.D.length) ∧ w'.ownsRow w.heap.size 4 1 (.slice sd k cd) k (bls R.D) ∧ Below w.heap.size w w'
theorem zsSS (w : World) : SS w.heap.size w zs none 0 0 [] := ⟨Hid.mk' zs_len, Hid.mk' zs_ok, OS.nil0 _ _⟩
theorem NwS.zero (w w' : World) : NwS w w' zs [] none 0 0 := ⟨Hid.mk' rfl, by omega, World.ownsRow_nil _ _ _ _, zsSS w'⟩
theorem RunPost.no {ps : List Ac} {os : List Ou} {Ls : List (List Int)} {n : Nat} {w w' : World} (h : may ps os.length = false) (hb : Below w.heap.size w w') : RunPost (yR ps os Ls n) (xE ps os) w (.returned (.tuple #[.agg (stA zs none 0 0), .slice none 0 0, .int .i64 2])) w' := by
  have e1 : yR ps os Ls n = ⟨zs, [], [], 0, 0⟩ := by unfold yR; rw [h]; rfl
  have e2 : xE ps os = 2 := by unfold xE; rw [h]; rfl
  rw [e1, e2]
  exact ⟨none, 0, 0, none, 0, 0, rfl, NwS.zero _ _, Hid.mk' rfl, World.ownsRow_nil _ _ _ _, hb⟩
theorem yR_yes {ps : List Ac} {os : List Ou} {Ls : List (List Int)} {n : Nat} (h : may ps os.length = true) : yR ps os Ls n = rnA ps os Ls n := by unfold yR; rw [if_pos h]
theorem xE_yes {ps : List Ac} {os : List Ou} (h : may ps os.length = true) : xE ps os = 0 := by unfold xE; rw [if_pos h]
/-- The state of a stand, its row its own. -/
theorem SR.st {w w1 w' : World} {s0 : Option Addr} {n0 c0 j : Nat} {s : Option Addr} {n c : Nat} {ps : List Ac} {os : List Ou} {Ls : List (List Int)} (h : SR w1.heap.size s0 n0 c0 j (rnA ps os Ls j).O s n c w') (hw : w.heap.size ≤ w1.heap.size) (hn : n0 = os.length) (hn3 : n0 ≤ 33) (h0 : w'.ownsRow w.heap.size 66 2 (.slice s0 n0 c0) n0 (ouF os)) (hok : RnOK (rnA ps os Ls j)) : NwS w w' (rnA ps os Ls j).P (rnA ps os Ls j).O s n c := by
  rcases h with ⟨rfl, rfl, rfl, rfl⟩ | ⟨h1, h2, h3⟩
  · exact ⟨Hid.mk' hn, hn3, h0, ⟨Hid.mk' hok.a32, Hid.mk' hok.ok, os_own h0 hn (by omega) hok.ou⟩⟩
  · exact ⟨h1, h2, own_mono h3 hw, ⟨Hid.mk' hok.a32, Hid.mk' hok.ok, os_own h3 h1.out (by omega) hok.ou⟩⟩
end Go.Proofs.Ytbhhbkoikocjgaa
/- Layer spec: Flow. -/
namespace Go.Proofs.Ytbhhbkoikocjgaa
set_option linter.unusedSectionVars false
set_option maxHeartbeats 1000000
open Go.RowKit Go.Shelf
set_option maxRecDepth 100000
set_option linter.unusedVariables false
set_option linter.unusedSimpArgs false


variable [DecidableEq Ac] [DecidableEq Ou] [DecidableEq Mg]
theorem res3 {f : Func} {w : World} {tmps : Array Value} {t k l : Nat} {x v u : Value} (hf : f.results = #[.tmp t, .tmp k, .tmp l]) (hp : tmps.getD t undef = x) (hk : tmps.getD k undef = v) (hl : tmps.getD l undef = u) :
    (results f tmps).run Try.prog w = .ok (.tuple #[x, v, u]) w := by
  have hp' : tmps[t]?.getD undef = x := by simpa using hp
  have hk' : tmps[k]?.getD undef = v := by simpa using hk
  have hll : tmps[l]?.getD undef = u := by simpa using hl
  simp [results, hf, hp', hk', hll]

set_option maxHeartbeats 2000000 in
theorem flow_any (ps : List Ac) (N : Nat) (sp : Option Addr) (n cap : Nat) (os : List Ou) (sl : Option Addr) (nl cl Nl : Nat) (es : List Bz) (w : World) (hS : SS N w ps sp n cap os) (hL : BL Nl w sl nl cl es) (hNl : Nl ≤ w.heap.size) :
    Calls Try.prog 13 #[.agg (stA ps sp n cap), .slice sl nl cl] w fun r w' => r = .returned (.tuple #[.int .u64 (yR ps os (bzs es) nl).I, .int .u64 (yR ps os (bzs es) nl).U, .int .i64 (xE ps os)]) ∧ Below w.heap.size w w' := by
  have hL := hL.mono hNl
  have hS := hS.here
  have h1 := hS.a32.out
  have h2 := hS.l32
  have hok := hS.ok
  have hnn := hS.outs.len
  have hns := hS.outs.small
  have A0 := Arr.new w 30 (stA ps sp n cap)
  have B0 := alloc_bel' w (.cells (stA ps sp n cap) 30)
  have hmay := fun u => may_any ps sp n cap u h1 hok.out hns
  cases hm : may ps n with
  | false =>
    have hm' : may ps os.length = false := by rw [← hnn.out]; exact hm
    have e1 : yR ps os (bzs es) nl = ⟨zs, [], [], 0, 0⟩ := by unfold yR; rw [hm']; rfl
    have e2 : xE ps os = 2 := by unfold xE; rw [hm']; rfl
    rw [e1, e2]
    rw [hm] at hmay
    go_enter Try.func13, Try.ntmps13
    go_wp2_with (first
      | (refine atL 30 (.tmp 2) ?_; refine ld30 (by rfl) _ (by rfl) w.heap.size 30 (by rfl) ps sp n cap h1 h2 A0 ?_)
      | (go_at_call 24; go_must (refine (hmay _).mono ?_; rintro r w1 ⟨rfl, hb1⟩)))
    exact bodyPost_ret (res3 Try.results13 rfl rfl rfl) rfl ⟨rfl, B0.trans (hb1.mono B0.size)⟩
  | true =>
    have hm' : may ps os.length = true := by rw [← hnn.out]; exact hm
    rw [yR_yes hm', xE_yes hm']
    rw [hm] at hmay
    have hrok := rnA_ok (Ls := bzs es) h1 hok.out hS.outs.ok hL.bts
    have hz82 := zeroValue82N
    have hzs82 := zsize82
    generalize zero82N = Z9 at hz82 hzs82
    have hb82 := built82a (ps := ps) (sp := sp) (n := n) (cap := cap) h1 h2
    go_enter Try.func13, Try.ntmps13
    go_upto_region 1 with fail
    generalize w.alloc (.cells (stA ps sp n cap) 30) = V at A0 B0 ⊢
    go_upto_region 3 with (first
      | (refine atL 30 (.tmp 2) ?_; refine ld30 (by rfl) _ (by rfl) w.heap.size 30 (by rfl) ps sp n cap h1 h2 A0 ?_)
      | (go_at_call 24; go_must (refine (hmay _).mono ?_; rintro r w1 ⟨rfl, hb1⟩)))
    have A1 := A0.below hb1 A0.lt
    have B1 := B0.trans (hb1.mono B0.size)
    have hfin := finF ps sp n cap os sl nl cl es w1 ((hS.below B1).mono B1.size) ((hL.below B1).mono B1.size)
    clear A0 B0 hb1
    go_upto_region 4 with (first
      | (refine atL 30 (.tmp 2) ?_; refine ld30 (by rfl) _ (by rfl) w.heap.size 30 (by rfl) ps sp n cap h1 h2 A1 ?_)
      | (refine atB 82 ?_; refine bdT (by rfl) 82 #[(0, .tmp 12)] (by rfl) (by rfl) hb82 ?_)
      | (go_at_call 34; go_must (refine (fold34_any sl nl cl (flA ps sp n cap 0 0) w1).mono ?_; rintro r w3 ⟨rfl, rfl⟩))
      | (go_at_call 33; go_must (refine hfin.mono ?_; rintro r w4 ⟨C4, rfl, hT4, hb4⟩; obtain ⟨s4, n4, c4, rfl, hR4⟩ := hT4))
      | (refine atS 82 (.tmp 7) (.tmp 15) ?_; refine stBn (by rfl) 82 1091 _ _ (by rfl) w4 w4.heap.size 82 rfl (flA (rnA ps os (bzs es) nl).P s4 n4 c4 (rnA ps os (bzs es) nl).I (rnA ps os (bzs es) nl).U) (by rfl) (by rfl) (flA_size (hrok nl).a32 (fun a ha => ((hrok nl).ok a ha).l32)) (flA_one _ _ _ _ _ _) hzs82 size82N ?_))
    have hq1 := (hrok nl).a32
    have hq2 : ∀ a ∈ (rnA ps os (bzs es) nl).P, a.lk.length = 32 := fun a ha => ((hrok nl).ok a ha).l32
    have B4 := B1.trans (hb4.mono B1.size)
    have A5 := (Arr.new w4 82 (flA (rnA ps os (bzs es) nl).P s4 n4 c4 (rnA ps os (bzs es) nl).I (rnA ps os (bzs es) nl).U)).drew
    have B5 := (B4.alloc B4.size (.cells (flA (rnA ps os (bzs es) nl).P s4 n4 c4 (rnA ps os (bzs es) nl).I (rnA ps os (bzs es) nl).U) 82)).drew
    clear hb4 hR4 hrok
    generalize hre : rnA ps os (bzs es) nl = R at *
    replace hre := Hid.mk' hre
    refine wp_region_held_drew (S := fun u => Arr u w4.heap.size 82 (flA R.P s4 n4 c4 R.I R.U)) (by kernel_rfl) A5 (fun hHeld => ?_)
    generalize (w4.alloc (.cells (flA R.P s4 n4 c4 R.I R.U) 82)).drew = W5 at *
    generalize w4.heap.size = G4 at *
    refine wpAnyH_take (i := 0) (oi := ⟨_, _, _, _, _, _⟩) (v := ?_) rfl (by kernel_rfl) (by kernel_rfl) (by kernel_rfl) (fun _ _ _ h => h) (Or.inl ⟨by rfl, ?_⟩) (by assumption) ?_
    rotate_left
    · intro u hSw
      go_simp
      try (with_reducible rfl)
    try simp only [Act.put, List.setIfInBounds_toArray, List.set_cons_zero, List.set_cons_succ]
    refine wpAnyH_take (i := 1) (oi := ⟨_, _, _, _, _, _⟩) (v := ?_) rfl (by kernel_rfl) (by kernel_rfl) (by kernel_rfl) (fun _ _ _ h => h) (Or.inl ⟨by rfl, ?_⟩) (by assumption) ?_
    rotate_left
    · intro u hSw
      have cc := Arr.flI hSw hq1 hq2
      go_simp
      try (with_reducible rfl)
    try simp only [Act.put, List.setIfInBounds_toArray, List.set_cons_zero, List.set_cons_succ]
    refine wpAnyH_take (i := 2) (oi := ⟨_, _, _, _, _, _⟩) (v := ?_) rfl (by kernel_rfl) (by kernel_rfl) (by kernel_rfl) (fun _ _ _ h => h) (Or.inl ⟨by rfl, ?_⟩) (by assumption) ?_
    rotate_left
    · intro u hSw
      go_simp
      try (with_reducible rfl)
    try simp only [Act.put, List.setIfInBounds_toArray, List.set_cons_zero, List.set_cons_succ]
    refine wpAnyH_take (i := 3) (oi := ⟨_, _, _, _, _, _⟩) (v := ?_) rfl (by kernel_rfl) (by kernel_rfl) (by kernel_rfl) (fun _ _ _ h => h) (Or.inl ⟨by rfl, ?_⟩) (by assumption) ?_
    rotate_left
    · intro u hSw
      have cc := Arr.flU hSw hq1 hq2
      go_simp
      try (with_reducible rfl)
    try simp only [Act.put, List.setIfInBounds_toArray, List.set_cons_zero, List.set_cons_succ]
    refine wpAnyH_take (i := 4) (oi := ⟨_, _, _, _, _, _⟩) (v := ?_) rfl (by kernel_rfl) (by kernel_rfl) (by kernel_rfl) (fun _ _ _ h => h) (Or.inl ⟨by rfl, ?_⟩) (by assumption) ?_
    rotate_left
    · intro u hSw
      go_simp
      try (with_reducible rfl)
    try simp only [Act.put, List.setIfInBounds_toArray, List.set_cons_zero, List.set_cons_succ]
    refine wpAnyH_take (i := 5) (oi := ⟨_, _, _, _, _, _⟩) (v := ?_) rfl (by kernel_rfl) (by kernel_rfl) (by kernel_rfl) (fun _ _ _ h => h) (Or.inl ⟨by rfl, ?_⟩) (by assumption) ?_
    rotate_left
    · intro u hSw
      go_simp
      try (with_reducible rfl)
    try simp only [Act.put, List.setIfInBounds_toArray, List.set_cons_zero, List.set_cons_succ]
    refine wpAnyH_take (i := 6) (oi := ⟨_, _, _, _, _, _⟩) (v := ?_) rfl (by kernel_rfl) (by kernel_rfl) (by kernel_rfl) (fun _ _ _ h => h) (Or.inl ⟨by rfl, ?_⟩) (by assumption) ?_
    rotate_left
    · intro u hSw
      go_simp
      try (with_reducible rfl)
    try simp only [Act.put, List.setIfInBounds_toArray, List.set_cons_zero, List.set_cons_succ]
    refine wpAnyH_done (by kernel_rfl) ?_ _
    go_wp2_with fail
    have hre0 := hre.out
    clear hre
    subst hre0
    exact bodyPost_ret (v := .tuple #[.int .u64 (rnA ps os (bzs es) nl).I, .int .u64 (rnA ps os (bzs es) nl).U, .int .i64 0]) (res3 Try.results13 rfl rfl rfl) rfl ⟨rfl, B5⟩
end Go.Proofs.Ytbhhbkoikocjgaa

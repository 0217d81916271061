/- NiC, NiF, Nj, Nk0. -/
import Derived.Test.YtbhhbkoikocjgaaX17
import Derived.Test.YtbhhbkoikocjgaaX26
import Derived.Test.YtbhhbkoikocjgaaX28
import Derived.Test.YtbhhbkoikocjgaaX12
/- Layer spec: the value that is told last. -/
namespace Go.Proofs.Ytbhhbkoikocjgaa
set_option linter.unusedSectionVars false
set_option maxHeartbeats 1000000
open Go.RowKit Go.Shelf
set_option maxRecDepth 100000
set_option linter.unusedVariables false
set_option linter.unusedSimpArgs false
variable [DecidableEq Ac] [DecidableEq Ou] [DecidableEq Mg]
attribute [local go_sem] Oper.semAt_some


/-- What stands while last ranges. -/
structure LI69 (w : World) (C : Array Value) (W : World) : Prop where
  bel : Below w.heap.size w W
  res : Arr W w.heap.size 69 zero69N
  fin : Arr W (w.heap.size + 1) 69 C
  sz : C.size = 1090
theorem LI69.below {w : World} {C : Array Value} {W W' : World} (h : LI69 w C W) (hb : Below (w.heap.size + 2) W W') : LI69 w C W' :=
  ⟨h.bel.trans (hb.mono (by omega)), h.res.below hb (by omega), h.fin.below hb (by omega), h.sz⟩
set_option maxHeartbeats 1000000 in
theorem last25_any (lb : Array Value) (nl : Nat) (w : World) (M : World → Prop) (T : Nat → Array Value → World → Prop) (hMB : ∀ W W', M W → Below w.heap.size W W' → M W') (hM0 : M w) (ht : Teller 44 lb (w.heap.size + 4) M T (fun _ _ => False) nl) (hst : Stays (w.heap.size + 4) M T) (hsz : ∀ j C W, T j C W → C.size = 1090 ∧ C.all (·.oneCell') = true) :
    Calls Try.prog 25 #[.func (Fn.func 44) #[] lb] w fun e w' => ∃ C, e = .returned (.agg C) ∧ T nl C w' ∧ Below w.heap.size w w' := by
  refine (callsIn_wide (n := 3)).1 ?_
  refine callsIn_of_wp_marks Try.func25 rfl trivial ?_ rfl
  simp only [Try.ntmps25, List.size_toArray, List.length_cons, List.length_nil, Nat.reduceAdd, Nat.reduceSub, Array.replicate_succ, Array.replicate_zero, List.push_toArray, List.append_toArray, List.nil_append, List.cons_append]
  have hz := zeroValue69N
  have hzs := zsize69
  have hI0 : LI69 w zero69N ((w.alloc (.cells zero69N 69)).alloc (.cells zero69N 69)) := by
    refine ⟨(alloc_bel' w _).alloc (by simp) _, (Arr.new w 69 _).alloc _, ?_, hzs⟩
    have h := Arr.new (w.alloc (.cells zero69N 69)) 69 zero69N
    simp only [World.size_alloc] at h
    exact h
  gi_wp2
  refine range_tell 44 lb (w.heap.size + 2) (by simp) rfl (enters_of Try.func44 (by kernel_rfl) rfl) nl M T (fun _ _ => False) ht hst (fun _ _ _ _ _ h => h.elim) (fun j C W => LI69 w C W) (fun _ _ => False) (fun j C W h => hMB _ _ hM0 h.bel) (fun j C W W' h hb => h.below hb) (fun c W r o h _ => h) zero69N hI0 ?round ?done (fun c W' o h => h.elim)
  case round =>
    intro j Cp C V hI hj hT hsV m
    clear hI0
    obtain ⟨hC, hC1⟩ := hsz j C V hT
    gi_wp2_with (refine atSi 69 (.tmp 5) (.tmp 8) ?_; refine stBnr (by rfl) 69 1090 _ _ (by rfl) V V.heap.size 69 rfl C (by rfl) (by rfl) hC hC1 hzs size69N ?_)
    refine ⟨alloc_bel' V _, fun w2 hb2 hk2 hs2 hI2 hT2 => ?_⟩
    have E2 : Arr w2 V.heap.size 69 C := (hk2 _ (by omega)).trans (Arr.new V 69 C)
    obtain ⟨hbel, A0, A1, hCp⟩ := hI2
    simp only [World.size_alloc] at hs2
    gi_wp2_with (first
      | (refine atLi 69 (.tmp 5) ?_; refine ldBr (by rfl) 69 1090 _ (by rfl) V.heap.size 69 (by rfl) C hC E2 Try.underlying69 rfl size69N ?_)
      | (refine atSi 69 (.tmp 3) (.tmp 9) ?_; refine stBr (by rfl) 69 1090 _ _ (by rfl) (w.heap.size + 1) 69 C Cp (by rfl) (by rfl) hC hC1 hCp A1 size69N ?_))
    exact ⟨⟨below_setRow hbel (by omega) _, A0.setRowOther _ (by omega), A1.setRow _, hC⟩, by simp, fun b h1 h2 _ => setRow_other _ _ _ _ (by omega)⟩
  case done =>
    intro C V o hI hT hsV hdf
    have hI2 := hI.below (bel_put (r := w.heap.size + 2 + 1) (Below.refl (w.heap.size + 2) V) (by omega) o)
    obtain ⟨hC, hC1⟩ := hsz _ C _ hT
    have hdf' : (V.putObj (w.heap.size + 2 + 1) o).heap[w.heap.size + 2]? = some (.deferred (some [])) := (World.putObj_heap_other (by omega)).trans hdf
    have hs2 : (V.putObj (w.heap.size + 2 + 1) o).heap.size = V.heap.size := by simp
    generalize V.putObj (w.heap.size + 2 + 1) o = V2 at *
    obtain ⟨hbel, A0, A1, -⟩ := hI2
    gi_wp2_with (first
      | (refine atLi 69 (.tmp 3) ?_; refine ldBw (by rfl) 69 1090 _ (by rfl) (w.heap.size + 1) 69 (by rfl) C hC A1 Try.underlying69 rfl size69N ?_)
      | (refine atSi 69 (.tmp 2) (.tmp 10) ?_; refine stBw (by rfl) 69 1090 _ _ (by rfl) w.heap.size 69 C zero69N (by rfl) (by rfl) hC hC1 hzs A0 size69N ?_))
    have U2 := A0.setRow C
    have hK : (V2.setRow w.heap.size C).heap[w.heap.size + 2]? = some (.deferred (some [])) := (setRow_other _ _ _ _ (by omega)).trans hdf'
    have hbz := bel_put (r := w.heap.size + 2) (below_setRow hbel (Nat.le_refl _) C) (by omega) (.deferred none)
    have hTz : T nl C ((V2.setRow w.heap.size C).putObj (w.heap.size + 2) (.deferred none)) := hst nl C V2 _ hT (hMB _ _ hM0 hbz) (by simp) (fun b h1 h2 => (World.putObj_heap_other (by omega)).trans (setRow_other _ _ _ _ (by omega)))
    refine ⟨by simp, .inl ⟨_, _, rfl, run_takeDeferred hK, ?_⟩⟩
    exact ⟨_, results_cell_row Try.results25 _ _ w.heap.size 69 C (0, 0) _ rfl (U2.putO _ (by omega)) Try.underlying69 rfl (by rw [hC]; exact size69N), C, rfl, hTz, hbz⟩
end Go.Proofs.Ytbhhbkoikocjgaa
/- Layer spec: the value that is told last. -/
namespace Go.Proofs.Ytbhhbkoikocjgaa
set_option linter.unusedSectionVars false
set_option maxHeartbeats 1000000
open Go.RowKit Go.Shelf
set_option maxRecDepth 100000
set_option linter.unusedVariables false
set_option linter.unusedSimpArgs false
variable [DecidableEq Ac] [DecidableEq Ou] [DecidableEq Mg]
attribute [local go_sem] Oper.semAt_some


/-- What stands while last ranges. -/
structure LI82 (w : World) (C : Array Value) (W : World) : Prop where
  bel : Below w.heap.size w W
  res : Arr W w.heap.size 82 zero82N
  fin : Arr W (w.heap.size + 1) 82 C
  sz : C.size = 1091
theorem LI82.below {w : World} {C : Array Value} {W W' : World} (h : LI82 w C W) (hb : Below (w.heap.size + 2) W W') : LI82 w C W' :=
  ⟨h.bel.trans (hb.mono (by omega)), h.res.below hb (by omega), h.fin.below hb (by omega), h.sz⟩
set_option maxHeartbeats 1000000 in
theorem last33_any (lb : Array Value) (nl : Nat) (w : World) (M : World → Prop) (T : Nat → Array Value → World → Prop) (hMB : ∀ W W', M W → Below w.heap.size W W' → M W') (hM0 : M w) (ht : Teller 50 lb (w.heap.size + 4) M T (fun _ _ => False) nl) (hst : Stays (w.heap.size + 4) M T) (hsz : ∀ j C W, T j C W → C.size = 1091 ∧ C.all (·.oneCell') = true) :
    Calls Try.prog 33 #[.func (Fn.func 50) #[] lb] w fun e w' => ∃ C, e = .returned (.agg C) ∧ T nl C w' ∧ Below w.heap.size w w' := by
  refine (callsIn_wide (n := 3)).1 ?_
  refine callsIn_of_wp_marks Try.func33 rfl trivial ?_ rfl
  simp only [Try.ntmps33, List.size_toArray, List.length_cons, List.length_nil, Nat.reduceAdd, Nat.reduceSub, Array.replicate_succ, Array.replicate_zero, List.push_toArray, List.append_toArray, List.nil_append, List.cons_append]
  have hz := zeroValue82N
  have hzs := zsize82
  have hI0 : LI82 w zero82N ((w.alloc (.cells zero82N 82)).alloc (.cells zero82N 82)) := by
    refine ⟨(alloc_bel' w _).alloc (by simp) _, (Arr.new w 82 _).alloc _, ?_, hzs⟩
    have h := Arr.new (w.alloc (.cells zero82N 82)) 82 zero82N
    simp only [World.size_alloc] at h
    exact h
  gi_wp2
  refine range_tell 50 lb (w.heap.size + 2) (by simp) rfl (enters_of Try.func50 (by kernel_rfl) rfl) nl M T (fun _ _ => False) ht hst (fun _ _ _ _ _ h => h.elim) (fun j C W => LI82 w C W) (fun _ _ => False) (fun j C W h => hMB _ _ hM0 h.bel) (fun j C W W' h hb => h.below hb) (fun c W r o h _ => h) zero82N hI0 ?round ?done (fun c W' o h => h.elim)
  case round =>
    intro j Cp C V hI hj hT hsV m
    clear hI0
    obtain ⟨hC, hC1⟩ := hsz j C V hT
    gi_wp2_with (refine atSi 82 (.tmp 5) (.tmp 8) ?_; refine stBnr (by rfl) 82 1091 _ _ (by rfl) V V.heap.size 82 rfl C (by rfl) (by rfl) hC hC1 hzs size82N ?_)
    refine ⟨alloc_bel' V _, fun w2 hb2 hk2 hs2 hI2 hT2 => ?_⟩
    have E2 : Arr w2 V.heap.size 82 C := (hk2 _ (by omega)).trans (Arr.new V 82 C)
    obtain ⟨hbel, A0, A1, hCp⟩ := hI2
    simp only [World.size_alloc] at hs2
    gi_wp2_with (first
      | (refine atLi 82 (.tmp 5) ?_; refine ldBr (by rfl) 82 1091 _ (by rfl) V.heap.size 82 (by rfl) C hC E2 Try.underlying82 rfl size82N ?_)
      | (refine atSi 82 (.tmp 3) (.tmp 9) ?_; refine stBr (by rfl) 82 1091 _ _ (by rfl) (w.heap.size + 1) 82 C Cp (by rfl) (by rfl) hC hC1 hCp A1 size82N ?_))
    exact ⟨⟨below_setRow hbel (by omega) _, A0.setRowOther _ (by omega), A1.setRow _, hC⟩, by simp, fun b h1 h2 _ => setRow_other _ _ _ _ (by omega)⟩
  case done =>
    intro C V o hI hT hsV hdf
    have hI2 := hI.below (bel_put (r := w.heap.size + 2 + 1) (Below.refl (w.heap.size + 2) V) (by omega) o)
    obtain ⟨hC, hC1⟩ := hsz _ C _ hT
    have hdf' : (V.putObj (w.heap.size + 2 + 1) o).heap[w.heap.size + 2]? = some (.deferred (some [])) := (World.putObj_heap_other (by omega)).trans hdf
    have hs2 : (V.putObj (w.heap.size + 2 + 1) o).heap.size = V.heap.size := by simp
    generalize V.putObj (w.heap.size + 2 + 1) o = V2 at *
    obtain ⟨hbel, A0, A1, -⟩ := hI2
    gi_wp2_with (first
      | (refine atLi 82 (.tmp 3) ?_; refine ldBw (by rfl) 82 1091 _ (by rfl) (w.heap.size + 1) 82 (by rfl) C hC A1 Try.underlying82 rfl size82N ?_)
      | (refine atSi 82 (.tmp 2) (.tmp 10) ?_; refine stBw (by rfl) 82 1091 _ _ (by rfl) w.heap.size 82 C zero82N (by rfl) (by rfl) hC hC1 hzs A0 size82N ?_))
    have U2 := A0.setRow C
    have hK : (V2.setRow w.heap.size C).heap[w.heap.size + 2]? = some (.deferred (some [])) := (setRow_other _ _ _ _ (by omega)).trans hdf'
    have hbz := bel_put (r := w.heap.size + 2) (below_setRow hbel (Nat.le_refl _) C) (by omega) (.deferred none)
    have hTz : T nl C ((V2.setRow w.heap.size C).putObj (w.heap.size + 2) (.deferred none)) := hst nl C V2 _ hT (hMB _ _ hM0 hbz) (by simp) (fun b h1 h2 => (World.putObj_heap_other (by omega)).trans (setRow_other _ _ _ _ (by omega)))
    refine ⟨by simp, .inl ⟨_, _, rfl, run_takeDeferred hK, ?_⟩⟩
    exact ⟨_, results_cell_row Try.results33 _ _ w.heap.size 82 C (0, 0) _ rfl (U2.putO _ (by omega)) Try.underlying82 rfl (by rw [hC]; exact size82N), C, rfl, hTz, hbz⟩
end Go.Proofs.Ytbhhbkoikocjgaa
/- Layer spec: what stands along the fold, for a state, with what did something, with what flowed. -/
namespace Go.Proofs.Ytbhhbkoikocjgaa
set_option linter.unusedSectionVars false
set_option maxHeartbeats 1000000
open Go.RowKit Go.Shelf
set_option maxRecDepth 100000
set_option linter.unusedVariables false
set_option linter.unusedSimpArgs false


variable [DecidableEq Ac] [DecidableEq Ou] [DecidableEq Mg]
theorem FoldM.up {bf bl bs N B ty sf : Nat} {C0 : Array Value} {sl : Option Addr} {nl cl : Nat} {es : List Bz} {W : World} (h : FoldM bf bl bs N ty sf C0 sl nl cl es W) (hB : N ≤ B) : FoldM bf bl bs B ty sf C0 sl nl cl es W :=
  ⟨h.first, h.list, h.step, h.msgs.mono hB, Nat.lt_of_lt_of_le h.f0 hB, Nat.lt_of_lt_of_le h.l0 hB, Nat.lt_of_lt_of_le h.s0 hB⟩
/-- What the fold of states wants: N is where it lies below. -/
def MM (bf bl bs N ty sf : Nat) (C0 : Array Value) (ps : List Ac) (s0 : Option Addr) (n0 c0 : Nat) (os : List Ou) (sl : Option Addr) (nl cl : Nat) (es : List Bz) (W : World) : Prop :=
  FoldM bf bl bs N ty sf C0 sl nl cl es W ∧ SS N W ps s0 n0 c0 os
theorem MM.below {bf bl bs N ty sf : Nat} {C0 : Array Value} {ps : List Ac} {s0 : Option Addr} {n0 c0 : Nat} {os : List Ou} {sl : Option Addr} {nl cl : Nat} {es : List Bz} {W W' : World} (h : MM bf bl bs N ty sf C0 ps s0 n0 c0 os sl nl cl es W) (hb : Below N W W') : MM bf bl bs N ty sf C0 ps s0 n0 c0 os sl nl cl es W' := ⟨h.1.below hb, h.2.below hb⟩
def TS (B : Nat) (s0 : Option Addr) (n0 c0 : Nat) (ps : List Ac) (os : List Ou) (Ls : List (List Int)) (j : Nat) (C : Array Value) (W : World) : Prop :=
  ∃ s n c, C = stA (rnA ps os Ls j).P s n c ∧ SR B s0 n0 c0 j (rnA ps os Ls j).O s n c W
def TC (B : Nat) (s0 : Option Addr) (n0 c0 : Nat) (ps : List Ac) (os : List Ou) (Ls : List (List Int)) (j : Nat) (C : Array Value) (W : World) : Prop :=
  ∃ s n c sd cd, C = crA (rnA ps os Ls j).P s n c (.slice sd j cd) ∧ SR B s0 n0 c0 j (rnA ps os Ls j).O s n c W ∧ W.ownsRow B 4 1 (.slice sd j cd) j (bls (rnA ps os Ls j).D)
def TF (B : Nat) (s0 : Option Addr) (n0 c0 : Nat) (ps : List Ac) (os : List Ou) (Ls : List (List Int)) (j : Nat) (C : Array Value) (W : World) : Prop :=
  ∃ s n c, C = flA (rnA ps os Ls j).P s n c (rnA ps os Ls j).I (rnA ps os Ls j).U ∧ SR B s0 n0 c0 j (rnA ps os Ls j).O s n c W
theorem SR.same {B : Nat} {s0 : Option Addr} {n0 c0 j : Nat} {O : List Ou} {s : Option Addr} {n c : Nat} {W W' : World} (h : SR B s0 n0 c0 j O s n c W) (hk : ∀ b, B ≤ b → b < W.heap.size → W'.heap[b]? = W.heap[b]?) : SR B s0 n0 c0 j O s n c W' := by
  rcases h with h | ⟨h1, h2, h3⟩
  · exact .inl h
  · exact .inr ⟨h1, h2, own_same h3 fun k e => hk k (own_ge h3 k e) (own_lt h3 e)⟩
theorem own_keep {W W' : World} {B e s n : Nat} {v : Value} {xs : List Value} (h : W.ownsRow B e s v n xs) (hk : ∀ b, B ≤ b → b < W.heap.size → W'.heap[b]? = W.heap[b]?) : W'.ownsRow B e s v n xs :=
  own_same h fun k e => hk k (own_ge h k e) (own_lt h e)
theorem staysS (B : Nat) (M : World → Prop) (s0 : Option Addr) (n0 c0 : Nat) (ps : List Ac) (os : List Ou) (Ls : List (List Int)) : Stays B M (TS B s0 n0 c0 ps os Ls) := by
  rintro j C W W' ⟨s, n, c, rfl, h⟩ - - hk
  exact ⟨s, n, c, rfl, h.same hk⟩
theorem staysC (B : Nat) (M : World → Prop) (s0 : Option Addr) (n0 c0 : Nat) (ps : List Ac) (os : List Ou) (Ls : List (List Int)) : Stays B M (TC B s0 n0 c0 ps os Ls) := by
  rintro j C W W' ⟨s, n, c, sd, cd, rfl, h, h2⟩ - - hk
  exact ⟨s, n, c, sd, cd, rfl, h.same hk, own_keep h2 hk⟩
theorem staysF (B : Nat) (M : World → Prop) (s0 : Option Addr) (n0 c0 : Nat) (ps : List Ac) (os : List Ou) (Ls : List (List Int)) : Stays B M (TF B s0 n0 c0 ps os Ls) := by
  rintro j C W W' ⟨s, n, c, rfl, h⟩ - - hk
  exact ⟨s, n, c, rfl, h.same hk⟩
section
variable {bf bl bs N B : Nat} {ps : List Ac} {s0 : Option Addr} {n0 c0 : Nat} {os : List Ou} {sl : Option Addr} {nl cl : Nat} {es : List Bz}
theorem foldTS (hok : ∀ j, RnOK (rnA ps os (bzs es) j)) (hNB : N ≤ B) : FoldT B 30 1089 32 (stA ps s0 n0 c0) es nl (MM bf bl bs N 30 32 (stA ps s0 n0 c0) ps s0 n0 c0 os sl nl cl es) (TS B s0 n0 c0 ps os (bzs es)) := by
  refine ⟨fun W h hs => ⟨s0, n0, c0, rfl, .inl ⟨rfl, rfl, rfl, rfl⟩⟩, ?_, ?_, ?_⟩
  · rintro j C W ⟨s, n, c, rfl, -⟩
    exact ⟨stA_size (hok j).a32 (fun a ha => ((hok j).ok a ha).l32), stA_one _ _ _ _⟩
  · rintro j C W W' g C' ⟨s, n, c, rfl, h⟩ hA hM hs hk
    exact ⟨s, n, c, rfl, h.stays hA (by decide) hk⟩
  · rintro j C e W g C' ⟨s, n, c, rfl, h⟩ ⟨hM, hS⟩ hB he hj hA hg
    have hss := h.ss (hS.mono hNB) (hok j)
    have hbs := hM.msgs.ok e (List.mem_of_getElem? he)
    refine (behind_any _ _ s n c _ e.sp e.n e.cap e.bs _ W hss hbs).mono ?_
    rintro r W' ⟨s', n', c', rfl, hn, own, hb⟩
    have hstep := rnA_succ (ps := ps) (os := os) (bzs_get he)
    refine ⟨_, rfl, ⟨s', n', c', by rw [hstep]; rfl, .inr ⟨Hid.mk' (by rw [hn.out, hstep]; rfl), ?_, ?_⟩⟩, hb.mono hB, hA.below hb hA.lt⟩
    · rw [hn.out]; exact xO_len _ _ _
    · rw [hstep]; exact own_mono own hB
theorem foldTC (hok : ∀ j, RnOK (rnA ps os (bzs es) j)) (hNB : N ≤ B) (hnl : nl ≤ 140737488351232) : FoldT B 69 1090 28 (crA ps s0 n0 c0 (.slice none 0 0)) es nl (MM bf bl bs N 69 28 (crA ps s0 n0 c0 (.slice none 0 0)) ps s0 n0 c0 os sl nl cl es) (TC B s0 n0 c0 ps os (bzs es)) := by
  refine ⟨fun W h hs => ⟨s0, n0, c0, none, 0, rfl, .inl ⟨rfl, rfl, rfl, rfl⟩, World.ownsRow_nil _ _ _ _⟩, ?_, ?_, ?_⟩
  · rintro j C W ⟨s, n, c, sd, cd, rfl, -⟩
    exact ⟨crA_size (hok j).a32 (fun a ha => ((hok j).ok a ha).l32), crA_one _ _ _ _ _ _ _⟩
  · rintro j C W W' g C' ⟨s, n, c, sd, cd, rfl, h, h2⟩ hA hM hs hk
    exact ⟨s, n, c, sd, cd, rfl, h.stays hA (by decide) hk, own_same h2 fun k e => hk k (own_ge h2 k e) (own_lt h2 e) (own_other h2 hA (by decide) k e)⟩
  · rintro j C e W g C' ⟨s, n, c, sd, cd, rfl, h, h2⟩ ⟨hM, hS⟩ hB he hj hA hg
    have hss := h.ss (hS.mono hNB) (hok j)
    have hbs := hM.msgs.ok e (List.mem_of_getElem? he)
    refine (with28_any _ _ s n c _ e.sp e.n e.cap e.bs _ sd j cd B _ W hss hbs h2 (by omega) hB).mono ?_
    rintro r W' ⟨s', n', c', sd', cd', rfl, hn, own, own2, hb⟩
    have hstep := rnA_succ (ps := ps) (os := os) (bzs_get he)
    refine ⟨_, rfl, ⟨s', n', c', sd', cd', by rw [hstep]; rfl, .inr ⟨Hid.mk' (by rw [hn.out, hstep]; rfl), ?_, ?_⟩, ?_⟩, hb.below (fun i hi => ⟨by omega, fun e => by have := own_ge h2 i e; omega⟩), hb.arr hA (fun e => own_other h2 hA (by decide) g e rfl)⟩
    · rw [hn.out]; exact xO_len _ _ _
    · rw [hstep]; exact own_mono own hB
    · rw [hstep]; exact own2
theorem foldTF (hok : ∀ j, RnOK (rnA ps os (bzs es) j)) (hNB : N ≤ B) : FoldT B 82 1091 35 (flA ps s0 n0 c0 0 0) es nl (MM bf bl bs N 82 35 (flA ps s0 n0 c0 0 0) ps s0 n0 c0 os sl nl cl es) (TF B s0 n0 c0 ps os (bzs es)) := by
  refine ⟨fun W h hs => ⟨s0, n0, c0, rfl, .inl ⟨rfl, rfl, rfl, rfl⟩⟩, ?_, ?_, ?_⟩
  · rintro j C W ⟨s, n, c, rfl, -⟩
    exact ⟨flA_size (hok j).a32 (fun a ha => ((hok j).ok a ha).l32), flA_one _ _ _ _ _ _⟩
  · rintro j C W W' g C' ⟨s, n, c, rfl, h⟩ hA hM hs hk
    exact ⟨s, n, c, rfl, h.stays hA (by decide) hk⟩
  · rintro j C e W g C' ⟨s, n, c, rfl, h⟩ ⟨hM, hS⟩ hB he hj hA hg
    have hss := h.ss (hS.mono hNB) (hok j)
    have hbs := hM.msgs.ok e (List.mem_of_getElem? he)
    refine (with35_any _ _ s n c _ e.sp e.n e.cap e.bs _ _ _ W hss hbs ⟨(hok j).i0, (hok j).i1⟩ ⟨(hok j).u0, (hok j).u1⟩).mono ?_
    rintro r W' ⟨s', n', c', rfl, hn, own, hb⟩
    have hstep := rnA_succ (ps := ps) (os := os) (bzs_get he)
    refine ⟨_, rfl, ⟨s', n', c', by rw [hstep]; rfl, .inr ⟨Hid.mk' (by rw [hn.out, hstep]; rfl), ?_, ?_⟩⟩, hb.mono hB, hA.below hb hA.lt⟩
    · rw [hn.out]; exact xO_len _ _ _
    · rw [hstep]; exact own_mono own hB
end

/-- The last of the fold: fold's variables lie at the end of the memory. -/
theorem finS (ps : List Ac) (s0 : Option Addr) (n0 c0 : Nat) (os : List Ou) (sl : Option Addr) (nl cl : Nat) (es : List Bz) (w : World) (hS : SS w.heap.size w ps s0 n0 c0 os) (hL : BL w.heap.size w sl nl cl es) :
    Calls Try.prog 30 #[.func (Fn.func 49) #[] #[.pointer (some ⟨w.heap.size + 1, 0, none⟩), .pointer (some ⟨w.heap.size, 0, none⟩), .pointer (some ⟨w.heap.size + 1 + 1, 0, none⟩)]] (((w.alloc (.cells #[.slice sl nl cl] 31)).alloc (.cells (stA ps s0 n0 c0) 30)).alloc (.cells #[.func (Fn.func 32) #[] #[]] 80)) fun e w' => ∃ C, e = .returned (.agg C) ∧ TS w.heap.size s0 n0 c0 ps os (bzs es) nl C w' ∧ Below w.heap.size w w' := by
  have hok := rnA_ok (Ls := bzs es) hS.a32.out hS.ok.out hS.outs.ok hL.bts
  have hsm := hL.small
  have B1 := ((alloc_bel' w (.cells #[.slice sl nl cl] 31)).alloc (by simp) (.cells (stA ps s0 n0 c0) 30)).alloc (by simp; omega) (.cells #[.func (Fn.func 32) #[] #[]] 80)
  have hM0 : MM (w.heap.size + 1) w.heap.size (w.heap.size + 1 + 1) (w.heap.size + 3) 30 32 (stA ps s0 n0 c0) ps s0 n0 c0 os sl nl cl es (((w.alloc (.cells #[.slice sl nl cl] 31)).alloc (.cells (stA ps s0 n0 c0) 30)).alloc (.cells #[.func (Fn.func 32) #[] #[]] 80)) := by
    refine ⟨⟨?_, ?_, ?_, (hL.below B1).mono (by omega), by omega, by omega, by omega⟩, (hS.below B1).mono (by omega)⟩
    · have h := Arr.new (w.alloc (.cells #[.slice sl nl cl] 31)) 30 (stA ps s0 n0 c0)
      simp only [World.size_alloc] at h
      exact h.alloc _
    · have h := ((Arr.new w 31 #[.slice sl nl cl]).alloc (.cells (stA ps s0 n0 c0) 30)).alloc (.cells #[.func (Fn.func 32) #[] #[]] 80)
      simpa using h.cell 0
    · have h := Arr.new ((w.alloc (.cells #[.slice sl nl cl] 31)).alloc (.cells (stA ps s0 n0 c0) 30)) 80 #[.func (Fn.func 32) #[] #[]]
      simp only [World.size_alloc] at h
      simpa using h.cell 0
  have hs3 : (((w.alloc (.cells #[.slice sl nl cl] 31)).alloc (.cells (stA ps s0 n0 c0) 30)).alloc (.cells #[.func (Fn.func 32) #[] #[]] 80)).heap.size = w.heap.size + 3 := by simp
  generalize ((w.alloc (.cells #[.slice sl nl cl] 31)).alloc (.cells (stA ps s0 n0 c0) 30)).alloc (.cells #[.func (Fn.func 32) #[] #[]] 80) = V at *
  have hT := foldTS (bf := w.heap.size + 1) (bl := w.heap.size) (bs := w.heap.size + 1 + 1) (N := w.heap.size + 3) (B := V.heap.size + 4) (s0 := s0) (n0 := n0) (c0 := c0) (sl := sl) (nl := nl) (cl := cl) hok (by omega)
  have hTl := fold49_in (w.heap.size + 1) w.heap.size (w.heap.size + 1 + 1) (V.heap.size + 4) (stA ps s0 n0 c0) sl nl cl es _ _ (fun W h => h.1.up (by omega)) hT
  refine (last30_any _ nl V _ _ (fun W W' h hb => h.below (hb.mono (by omega))) hM0 hTl (staysS _ _ _ _ _ _ _ _) hT.size).mono ?_
  rintro r w' ⟨C, rfl, hC, hb⟩
  refine ⟨C, rfl, ?_, B1.trans (hb.mono (by omega))⟩
  obtain ⟨s, n, c, rfl, h⟩ := hC
  exact ⟨s, n, c, rfl, h.up (by omega)⟩

/-- The last of the fold: fold's variables lie at the end of the memory. -/
theorem finC (ps : List Ac) (s0 : Option Addr) (n0 c0 : Nat) (os : List Ou) (sl : Option Addr) (nl cl : Nat) (es : List Bz) (w : World) (hS : SS w.heap.size w ps s0 n0 c0 os) (hL : BL w.heap.size w sl nl cl es) :
    Calls Try.prog 25 #[.func (Fn.func 44) #[] #[.pointer (some ⟨w.heap.size + 1, 0, none⟩), .pointer (some ⟨w.heap.size, 0, none⟩), .pointer (some ⟨w.heap.size + 1 + 1, 0, none⟩)]] (((w.alloc (.cells #[.slice sl nl cl] 31)).alloc (.cells (crA ps s0 n0 c0 (.slice none 0 0)) 69)).alloc (.cells #[.func (Fn.func 28) #[] #[]] 74)) fun e w' => ∃ C, e = .returned (.agg C) ∧ TC w.heap.size s0 n0 c0 ps os (bzs es) nl C w' ∧ Below w.heap.size w w' := by
  have hok := rnA_ok (Ls := bzs es) hS.a32.out hS.ok.out hS.outs.ok hL.bts
  have hsm := hL.small
  have B1 := ((alloc_bel' w (.cells #[.slice sl nl cl] 31)).alloc (by simp) (.cells (crA ps s0 n0 c0 (.slice none 0 0)) 69)).alloc (by simp; omega) (.cells #[.func (Fn.func 28) #[] #[]] 74)
  have hM0 : MM (w.heap.size + 1) w.heap.size (w.heap.size + 1 + 1) (w.heap.size + 3) 69 28 (crA ps s0 n0 c0 (.slice none 0 0)) ps s0 n0 c0 os sl nl cl es (((w.alloc (.cells #[.slice sl nl cl] 31)).alloc (.cells (crA ps s0 n0 c0 (.slice none 0 0)) 69)).alloc (.cells #[.func (Fn.func 28) #[] #[]] 74)) := by
    refine ⟨⟨?_, ?_, ?_, (hL.below B1).mono (by omega), by omega, by omega, by omega⟩, (hS.below B1).mono (by omega)⟩
    · have h := Arr.new (w.alloc (.cells #[.slice sl nl cl] 31)) 69 (crA ps s0 n0 c0 (.slice none 0 0))
      simp only [World.size_alloc] at h
      exact h.alloc _
    · have h := ((Arr.new w 31 #[.slice sl nl cl]).alloc (.cells (crA ps s0 n0 c0 (.slice none 0 0)) 69)).alloc (.cells #[.func (Fn.func 28) #[] #[]] 74)
      simpa using h.cell 0
    · have h := Arr.new ((w.alloc (.cells #[.slice sl nl cl] 31)).alloc (.cells (crA ps s0 n0 c0 (.slice none 0 0)) 69)) 74 #[.func (Fn.func 28) #[] #[]]
      simp only [World.size_alloc] at h
      simpa using h.cell 0
  have hs3 : (((w.alloc (.cells #[.slice sl nl cl] 31)).alloc (.cells (crA ps s0 n0 c0 (.slice none 0 0)) 69)).alloc (.cells #[.func (Fn.func 28) #[] #[]] 74)).heap.size = w.heap.size + 3 := by simp
  generalize ((w.alloc (.cells #[.slice sl nl cl] 31)).alloc (.cells (crA ps s0 n0 c0 (.slice none 0 0)) 69)).alloc (.cells #[.func (Fn.func 28) #[] #[]] 74) = V at *
  have hT := foldTC (bf := w.heap.size + 1) (bl := w.heap.size) (bs := w.heap.size + 1 + 1) (N := w.heap.size + 3) (B := V.heap.size + 4) (s0 := s0) (n0 := n0) (c0 := c0) (sl := sl) (nl := nl) (cl := cl) hok (by omega) (by omega)
  have hTl := fold44_in (w.heap.size + 1) w.heap.size (w.heap.size + 1 + 1) (V.heap.size + 4) (crA ps s0 n0 c0 (.slice none 0 0)) sl nl cl es _ _ (fun W h => h.1.up (by omega)) hT
  refine (last25_any _ nl V _ _ (fun W W' h hb => h.below (hb.mono (by omega))) hM0 hTl (staysC _ _ _ _ _ _ _ _) hT.size).mono ?_
  rintro r w' ⟨C, rfl, hC, hb⟩
  refine ⟨C, rfl, ?_, B1.trans (hb.mono (by omega))⟩
  obtain ⟨s, n, c, sd, cd, rfl, h, h2⟩ := hC
  exact ⟨s, n, c, sd, cd, rfl, h.up (by omega), own_mono h2 (by omega)⟩

/-- The last of the fold: fold's variables lie at the end of the memory. -/
theorem finF (ps : List Ac) (s0 : Option Addr) (n0 c0 : Nat) (os : List Ou) (sl : Option Addr) (nl cl : Nat) (es : List Bz) (w : World) (hS : SS w.heap.size w ps s0 n0 c0 os) (hL : BL w.heap.size w sl nl cl es) :
    Calls Try.prog 33 #[.func (Fn.func 50) #[] #[.pointer (some ⟨w.heap.size + 1, 0, none⟩), .pointer (some ⟨w.heap.size, 0, none⟩), .pointer (some ⟨w.heap.size + 1 + 1, 0, none⟩)]] (((w.alloc (.cells #[.slice sl nl cl] 31)).alloc (.cells (flA ps s0 n0 c0 0 0) 82)).alloc (.cells #[.func (Fn.func 35) #[] #[]] 87)) fun e w' => ∃ C, e = .returned (.agg C) ∧ TF w.heap.size s0 n0 c0 ps os (bzs es) nl C w' ∧ Below w.heap.size w w' := by
  have hok := rnA_ok (Ls := bzs es) hS.a32.out hS.ok.out hS.outs.ok hL.bts
  have hsm := hL.small
  have B1 := ((alloc_bel' w (.cells #[.slice sl nl cl] 31)).alloc (by simp) (.cells (flA ps s0 n0 c0 0 0) 82)).alloc (by simp; omega) (.cells #[.func (Fn.func 35) #[] #[]] 87)
  have hM0 : MM (w.heap.size + 1) w.heap.size (w.heap.size + 1 + 1) (w.heap.size + 3) 82 35 (flA ps s0 n0 c0 0 0) ps s0 n0 c0 os sl nl cl es (((w.alloc (.cells #[.slice sl nl cl] 31)).alloc (.cells (flA ps s0 n0 c0 0 0) 82)).alloc (.cells #[.func (Fn.func 35) #[] #[]] 87)) := by
    refine ⟨⟨?_, ?_, ?_, (hL.below B1).mono (by omega), by omega, by omega, by omega⟩, (hS.below B1).mono (by omega)⟩
    · have h := Arr.new (w.alloc (.cells #[.slice sl nl cl] 31)) 82 (flA ps s0 n0 c0 0 0)
      simp only [World.size_alloc] at h
      exact h.alloc _
    · have h := ((Arr.new w 31 #[.slice sl nl cl]).alloc (.cells (flA ps s0 n0 c0 0 0) 82)).alloc (.cells #[.func (Fn.func 35) #[] #[]] 87)
      simpa using h.cell 0
    · have h := Arr.new ((w.alloc (.cells #[.slice sl nl cl] 31)).alloc (.cells (flA ps s0 n0 c0 0 0) 82)) 87 #[.func (Fn.func 35) #[] #[]]
      simp only [World.size_alloc] at h
      simpa using h.cell 0
  have hs3 : (((w.alloc (.cells #[.slice sl nl cl] 31)).alloc (.cells (flA ps s0 n0 c0 0 0) 82)).alloc (.cells #[.func (Fn.func 35) #[] #[]] 87)).heap.size = w.heap.size + 3 := by simp
  generalize ((w.alloc (.cells #[.slice sl nl cl] 31)).alloc (.cells (flA ps s0 n0 c0 0 0) 82)).alloc (.cells #[.func (Fn.func 35) #[] #[]] 87) = V at *
  have hT := foldTF (bf := w.heap.size + 1) (bl := w.heap.size) (bs := w.heap.size + 1 + 1) (N := w.heap.size + 3) (B := V.heap.size + 4) (s0 := s0) (n0 := n0) (c0 := c0) (sl := sl) (nl := nl) (cl := cl) hok (by omega)
  have hTl := fold50_in (w.heap.size + 1) w.heap.size (w.heap.size + 1 + 1) (V.heap.size + 4) (flA ps s0 n0 c0 0 0) sl nl cl es _ _ (fun W h => h.1.up (by omega)) hT
  refine (last33_any _ nl V _ _ (fun W W' h hb => h.below (hb.mono (by omega))) hM0 hTl (staysF _ _ _ _ _ _ _ _) hT.size).mono ?_
  rintro r w' ⟨C, rfl, hC, hb⟩
  refine ⟨C, rfl, ?_, B1.trans (hb.mono (by omega))⟩
  obtain ⟨s, n, c, rfl, h⟩ := hC
  exact ⟨s, n, c, rfl, h.up (by omega)⟩
end Go.Proofs.Ytbhhbkoikocjgaa
/- Layer spec: what a run answers. -/
namespace Go.Proofs.Ytbhhbkoikocjgaa
set_option linter.unusedSectionVars false
set_option maxHeartbeats 1000000
open Go.RowKit Go.Shelf
set_option maxRecDepth 100000
set_option linter.unusedVariables false
set_option linter.unusedSimpArgs false


variable [DecidableEq Ac] [DecidableEq Ou] [DecidableEq Mg]
/-- A state that is answered: its withdrawals are new memory. -/
structure NwS (w w' : World) (P : List Ac) (O : List Ou) (s : Option Addr) (n c : Nat) : Prop where
  len : Hid (n = O.length)
  le : n ≤ 33
  own : w'.ownsRow w.heap.size 66 2 (.slice s n c) n (ouF O)
  ss : SS w'.heap.size w' P s n c O
def yR (ps : List Ac) (os : List Ou) (Ls : List (List Int)) (n : Nat) : Rn := if may ps os.length = true then rnA ps os Ls n else ⟨zs, [], [], 0, 0⟩
def RunPost (R : Rn) (e : Int) (w : World) (r : Ending) (w' : World) : Prop :=
  ∃ s n c sd k cd, r = .returned (.tuple #[.agg (stA R.P s n c), .slice sd k cd, .int .i64 e]) ∧ NwS w w' R.P R.O s n c ∧ Hid (k = R.D.length) ∧ w'.ownsRow w.heap.size 4 1 (.slice sd k cd) k (bls R.D) ∧ Below w.heap.size w w'
theorem zsSS (w : World) : SS w.heap.size w zs none 0 0 [] := ⟨Hid.mk' zs_len, Hid.mk' zs_ok, OS.nil0 _ _⟩
theorem NwS.zero (w w' : World) : NwS w w' zs [] none 0 0 := ⟨Hid.mk' rfl, by omega, World.ownsRow_nil _ _ _ _, zsSS w'⟩
theorem RunPost.no {ps : List Ac} {os : List Ou} {Ls : List (List Int)} {n : Nat} {w w' : World} (h : may ps os.length = false) (hb : Below w.heap.size w w') : RunPost (yR ps os Ls n) (xE ps os) w (.returned (.tuple #[.agg (stA zs none 0 0), .slice none 0 0, .int .i64 2])) w' := by
  have e1 : yR ps os Ls n = ⟨zs, [], [], 0, 0⟩ := by unfold yR; rw [h]; rfl
  have e2 : xE ps os = 2 := by unfold xE; rw [h]; rfl
  rw [e1, e2]
  exact ⟨none, 0, 0, none, 0, 0, rfl, NwS.zero _ _, Hid.mk' rfl, World.ownsRow_nil _ _ _ _, hb⟩
theorem yR_yes {ps : List Ac} {os : List Ou} {Ls : List (List Int)} {n : Nat} (h : may ps os.length = true) : yR ps os Ls n = rnA ps os Ls n := by unfold yR; rw [if_pos h]
theorem xE_yes {ps : List Ac} {os : List Ou} (h : may ps os.length = true) : xE ps os = 0 := by unfold xE; rw [if_pos h]
/-- The state of a stand, its row its own. -/
theorem SR.st {w w1 w' : World} {s0 : Option Addr} {n0 c0 j : Nat} {s : Option Addr} {n c : Nat} {ps : List Ac} {os : List Ou} {Ls : List (List Int)} (h : SR w1.heap.size s0 n0 c0 j (rnA ps os Ls j).O s n c w') (hw : w.heap.size ≤ w1.heap.size) (hn : n0 = os.length) (hn3 : n0 ≤ 33) (h0 : w'.ownsRow w.heap.size 66 2 (.slice s0 n0 c0) n0 (ouF os)) (hok : RnOK (rnA ps os Ls j)) : NwS w w' (rnA ps os Ls j).P (rnA ps os Ls j).O s n c := by
  rcases h with ⟨rfl, rfl, rfl, rfl⟩ | ⟨h1, h2, h3⟩
  · exact ⟨Hid.mk' hn, hn3, h0, ⟨Hid.mk' hok.a32, Hid.mk' hok.ok, os_own h0 hn (by omega) hok.ou⟩⟩
  · exact ⟨h1, h2, own_mono h3 hw, ⟨Hid.mk' hok.a32, Hid.mk' hok.ok, os_own h3 h1.out (by omega) hok.ou⟩⟩
end Go.Proofs.Ytbhhbkoikocjgaa

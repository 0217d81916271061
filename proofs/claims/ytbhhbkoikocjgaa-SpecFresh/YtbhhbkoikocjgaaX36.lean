/- Layer spec: the law SpecAll, where the state may be and the loop is left. -/
import Derived.Test.YtbhhbkoikocjgaaX32
import Derived.Test.YtbhhbkoikocjgaaX33
import Derived.Test.YtbhhbkoikocjgaaX35
import Derived.BigFrameIn
import Derived.LoopNIn
namespace Go.Proofs.Ytbhhbkoikocjgaa
set_option linter.unusedSectionVars false
set_option maxHeartbeats 1000000
open Go.RowKit Go.Shelf
set_option maxRecDepth 100000
set_option linter.unusedVariables false
set_option linter.unusedSimpArgs false
variable [DecidableEq Ac] [DecidableEq Ou] [DecidableEq Mg]
attribute [local go_sem] Oper.semAt_some


theorem ldBwg {n : Nat} {ops : Array Oper} {rest : List Oper} {o : Oper} {a : Act} {w : World} {Q : Exit → Act → World → Prop} (hgd : Region.wanted o (yielded ops a.tmps) = true) (t s : Nat) (x : Operand) (ho : o.op = .load t x)
    (g ty : Nat) (hx : a.eval x = .pointer (some ⟨g, 0, none⟩)) (C : Array Value) (hC : C.size = s) (hA : Arr w g ty C) {d : TypeDesc} (hu : Try.prog.underlying t = some d) (hd : d.isRow = true) (hi : (Try.prog.info? t).map (·.size) = some s)
    (h : wpListIn Fence.wide n Try.prog ops Q rest (a.put o.dst (.agg C)) w) : wpListIn Fence.wide n Try.prog ops Q (o :: rest) a w :=
  BigFrame.wpListIn_want hgd fun _ hK => opInw (by rw [ho]; intro c hc; cases hc) (wp_load_mid t x ho g 0 hx C.toList _ hA.whole hu hd (by rw [hi, ← hC]; simp) (hK _ _ (by rw [Array.toArray_toList]; exact h)))
theorem ldBrg {l n : Nat} {ops : Array Oper} {rest : List Oper} {o : Oper} {a : Act} {w : World} {Q : Exit → Act → World → Prop} (hgd : Region.wanted o (yielded ops a.tmps) = true) (t s : Nat) (x : Operand) (ho : o.op = .load t x)
    (g ty : Nat) (hx : a.eval x = .pointer (some ⟨g, 0, none⟩)) (C : Array Value) (hC : C.size = s) (hA : Arr w g ty C) {d : TypeDesc} (hu : Try.prog.underlying t = some d) (hd : d.isRow = true) (hi : (Try.prog.info? t).map (·.size) = some s)
    (h : wpListIn (Fence.wide.inRound l) n Try.prog ops Q rest (a.put o.dst (.agg C)) w) : wpListIn (Fence.wide.inRound l) n Try.prog ops Q (o :: rest) a w :=
  BigFrame.wpListIn_want hgd fun _ hK => opIn (by rw [ho]; intro c hc; cases hc) (wp_load_mid t x ho g 0 hx C.toList _ hA.whole hu hd (by rw [hi, ← hC]; simp) (hK _ _ (by rw [Array.toArray_toList]; exact h)))
theorem run_fnil (fn : Fn) (a b : Array Value) (u : World) : (binOp .eql 56 (.func fn a b) .nilFunc).run Try.prog u = .ok (.bool false) u := by
  have h : (Op.equalIn (9999 + 1) 56 (.func fn a b) .nilFunc).run Try.prog u = .ok false u := by
    rw [Op.equalIn]
    simp only [Sem.run_bind, run_underlying Try.underlying56, Result.andThen_ok]
    rfl
  simp only [binOp, Op.equal, Op.maxDepth, Sem.run_bind]
  rw [h]
  rfl
/-- The variables of the law. -/
structure VI (w : World) (C0 : Array Value) (sl : Option Addr) (nl cl mm : Nat) (W : World) : Prop where
  bel : Below w.heap.size w W
  a0 : Arr W w.heap.size 30 C0
  a1 : Arr W (w.heap.size + 1) 31 #[.slice sl nl cl]
  a2 : Arr W (w.heap.size + 1 + 1) 5 #[.int .u8 (mm : Int)]
  a3 : Arr W (w.heap.size + 1 + 1 + 1) 4 #[.bool false]
theorem VI.keep {w : World} {C0 : Array Value} {sl : Option Addr} {nl cl mm : Nat} {W W' : World} {N : Nat} (h : VI w C0 sl nl cl mm W) (hb : Below N W W') (hN : w.heap.size + 4 ≤ N) : VI w C0 sl nl cl mm W' :=
  ⟨h.bel.trans (hb.mono (by omega)), h.a0.below hb (by omega), h.a1.below hb (by omega), h.a2.below hb (by omega), h.a3.below hb (by omega)⟩
theorem MA.keep {bm bf N : Nat} {ps : List Ac} {s0 : Option Addr} {n0 c0 : Nat} {os : List Ou} {sm : Option Addr} {nl cm : Nat} {fs : List Bz} {W W' : World} {D : Nat} (h : MA bm bf N ps s0 n0 c0 os sm nl cm fs W) (hb : Below D W W') (hN : N ≤ D) (hm : bm < N) (hf : bf < N) : MA bm bf N ps s0 n0 c0 os sm nl cm fs W' :=
  ⟨h.first.below hb (by omega), h.list.below hb (by omega), h.st.below (hb.mono hN), h.msgs.below (hb.mono hN)⟩
structure IT (w : World) (C0 : Array Value) (sl : Option Addr) (nl cl mm : Nat) (bm bf NA : Nat) (ps : List Ac) (s0 : Option Addr) (n c0 : Nat) (os : List Ou) (sm : Option Addr) (cm : Nat) (fs : List Bz) (E : Option Nat) (GA : Nat) (v : Int) (U : World) : Prop where
  vi : VI w C0 sl nl cl mm U
  ma : MA bm bf NA ps s0 n c0 os sm nl cm fs U
  at_ : Arr U GA 3 #[.int .i64 v]
  df : ∀ e, E = some e → U.heap[e]? = some (.deferred (some []))
theorem IT.keep {w : World} {C0 : Array Value} {sl : Option Addr} {nl cl mm : Nat} {bm bf NA : Nat} {ps : List Ac} {s0 : Option Addr} {n c0 : Nat} {os : List Ou} {sm : Option Addr} {cm : Nat} {fs : List Bz} {E : Option Nat} {GA : Nat} {v : Int} {U U' : World} {D : Nat} (h : IT w C0 sl nl cl mm bm bf NA ps s0 n c0 os sm cm fs E GA v U) (hb : Below D U U') (hw : w.heap.size + 4 ≤ NA) (hN : NA ≤ D) (hm : bm < NA) (hf : bf < NA) (hG : GA < D) (hE : ∀ e, E = some e → e < D) : IT w C0 sl nl cl mm bm bf NA ps s0 n c0 os sm cm fs E GA v U' :=
  ⟨h.vi.keep hb (by omega), h.ma.keep hb hN hm hf, h.at_.below hb hG, fun e he => (hb.block e (hE e he)).trans (h.df e he)⟩
theorem IT.next {w : World} {C0 : Array Value} {sl : Option Addr} {nl cl mm : Nat} {bm bf NA : Nat} {ps : List Ac} {s0 : Option Addr} {n c0 : Nat} {os : List Ou} {sm : Option Addr} {cm : Nat} {fs : List Bz} {E : Option Nat} {GA : Nat} {v : Int} {U : World} (h : IT w C0 sl nl cl mm bm bf NA ps s0 n c0 os sm cm fs E GA v U) (hNG : NA ≤ GA) (hw : w.heap.size + 4 ≤ NA) (hm : bm < NA) (hf : bf < NA) (hE : ∀ e, E = some e → e < GA) (v' : Int) : IT w C0 sl nl cl mm bm bf NA ps s0 n c0 os sm cm fs E GA v' (U.setCell ⟨GA, 0, none⟩ (.int .i64 v')) := by
  have hb : Below NA U (U.setCell ⟨GA, 0, none⟩ (.int .i64 v')) := (Below.refl NA U).setCell (p := ⟨GA, 0, none⟩) hNG _
  refine ⟨h.vi.keep hb hw, h.ma.keep hb (Nat.le_refl _) hm hf, ?_, fun e he => (Below.heap_setCell _ _ _ _ (by have := hE e he; show e ≠ GA; omega)).trans (h.df e he)⟩
  have := h.at_.set 0 (.int .i64 v')
  simpa using this
theorem TA_RA {B : Nat} {ps : List Ac} {os : List Ou} {Ls : List (List Int)} {j : Nat} {C : Array Value} {W : World} {b : Nat} (hR : RnOK (rnA ps os Ls j)) (hT : TA B ps os Ls j C W) (h : RA C b) : B ≤ b := by
  obtain ⟨s, n, c, rfl, -, -, ho⟩ := hT
  exact RA_own hR.a32 (fun a ha => (hR.ok a ha).l32) h ho
theorem resB {w : World} {tmps : Array Value} {g : Nat} {b : Bool} (hp : tmps.getD 6 undef = .pointer (some ⟨g, 0, none⟩)) (hA : Arr w g 4 #[.bool b]) : (results Try.f5 tmps).run Try.prog w = .ok (.bool b) w := by
  have hp' : tmps[6]?.getD undef = .pointer (some ⟨g, 0, none⟩) := by simpa using hp
  have c := hA.cell 0
  simp at c
  have h : Try.f5.results = #[.cell 6 4] := rfl
  simp [results, h, hp', asAddr]
  go_simp
/-- The range, where the loop may also be left by an exit that goes on at the same place. -/
theorem range_tellJ {k : Nat} {g : Operand} {t u : Tmp} {assign body : Code} {Q : Exit → Act → World → Prop} {a : Act} {W0 : World} (id : Nat) (gf : Nat) (lb : Array Value) (D : Nat) (hD : W0.heap.size = D) (hg : a.eval g = .func (.func gf) #[] lb) (eg : ∀ args w, (callFunc gf args).run Try.prog w = .ok (.enter gf args) w)
    (n : Nat) (M : World → Prop) (T : Nat → Array Value → World → Prop) (R : Array Value → Nat → Prop) (ht : TellW gf lb (D + 2) M T R n) (hst : Stays (D + 2) M T) (hRo : ∀ j C W b, T j C W → R C b → D + 2 ≤ b)
    (I : Nat → Array Value → World → Prop) (X : World → Prop) (hIM : ∀ j C W, I j C W → M W) (hIB : ∀ j C W W', I j C W → Below D W W' → I j C W') (hXB : ∀ W W', X W → Below D W W' → X W') (C0 : Array Value) (h0 : I 0 C0 W0) (hq : ∀ a w, Q (.exit id) a w = Q .normal a w)
    (hround : ∀ j Cp C W, I j Cp W → j ≤ n → T j C W → D + 2 ≤ W.heap.size → ∀ m,
      assign.wpIn (Fence.wide.inRound (D + 1)) m Try.prog (Exit.then (fun a1 w1 => Below W.heap.size W w1 ∧ ∀ w2, Below (D + 1) w1 w2 → (∀ b, D + 2 ≤ b → w2.heap[b]? = w1.heap[b]?) → w2.heap.size = w1.heap.size → I j Cp w2 → T j C w2 →
        body.wpIn (Fence.wide.inRound (D + 1)) m Try.prog (RoundEnds (I (j + 1) C) (fun c W => c = .exit id ∧ X W) (fun w3 => w2.heap.size ≤ w3.heap.size ∧ ∀ b, D ≤ b → b < W.heap.size → ¬ R C b → w3.heap[b]? = w2.heap[b]?)) a1 w2) (fun _ _ _ => False))
        { tmps := (a.tmps.setIfInBounds t (.int .i64 (j : Int))).setIfInBounds u (.agg C), defers := [] } W)
    (hend : ∀ W' o, ((∃ C, I (n + 1) C W') ∨ X W') → D + 2 ≤ W'.heap.size → W'.heap[D]? = some (.deferred (some [])) → Q .normal { a with defers := { target := .collected D, args := #[] } :: a.defers } (W'.putObj (D + 1) o)) :
    (Code.rangeFunc g #[t, u] assign body).wpIn Fence.wide k Try.prog Q a W0 :=
  range_tellW gf lb D hD hg eg n M T R ht hst hRo I (fun c W => c = .exit id ∧ X W) hIM hIB (fun c W W' h hb => ⟨h.1, hXB W W' h.2 hb⟩) C0 h0 hround (fun C W' o h1 h2 h3 => hend W' o (.inl ⟨C, h1⟩) h2 h3)
    (fun c W' o h h2 h3 => by obtain ⟨rfl, hX⟩ := h; exact wpIn_exit (by rw [hq]; exact hend W' o (.inr hX) h2 h3))

set_option maxHeartbeats 8000000 in
theorem all_may (ps : List Ac) (sp : Option Addr) (n cap : Nat) (os : List Ou) (sl : Option Addr) (nl cl : Nat) (es : List Bz) (mm : Nat) (w : World) (hS : SS w.heap.size w ps sp n cap os) (hL : BL w.heap.size w sl nl cl es) (hmm : mm < 256) (hm : may ps n = true) :
    Calls Try.prog 5 #[.agg (stA ps sp n cap), .slice sl nl cl, .int .u8 (mm : Int)] w fun e w' => e = .returned (.bool true) ∧ Below w.heap.size w w' := by
  have h1 := hS.a32.out
  have h2 := hS.l32
  have hok := hS.ok
  have hnn := hS.outs.len
  have hns := hS.outs.small
  have hm' : may ps os.length = true := by rw [← hnn.out]; exact hm
  have hn32 : n ≤ 32 := (may_sum hok.out).1 hm |>.2
  have hsq := stA_size (sp := sp) (n := n) (cap := cap) h1 h2
  have hrok := rnA_ok (Ls := bzs es) h1 hok.out hS.outs.ok hL.bts
  have hsm := hL.small
  have hnlI : (nl : Int) ≤ 9223372036854775000 := by omega
  have hmmI : (mm : Int) < 256 := by omega
  have hnl0 : (0 : Int) ≤ nl := by omega
  have hmm0 : (0 : Int) ≤ mm := by omega
  obtain ⟨wv, hwv⟩ : ∃ wv : Int, (if nl < mm then (nl : Int) else (mm : Int)) = wv := ⟨_, rfl⟩
  have hwv0 : 0 ≤ wv ∧ wv ≤ 255 := by subst hwv; split <;> omega
  have hz30 := zeroValue30N
  have hzs := zsize30
  generalize zero30N = Z at hz30 hzs
  have hAf := Hid.mk' (fun u (k : Nat) (hk : k ≤ nl) (hb : Below w.heap.size w u) => by
    have h := refAfter_any ps w.heap.size sp n cap os sl nl cl w.heap.size es (k : Int) u (hS.below hb) (hL.below hb) hb.size
    obtain ⟨-, ea, ee⟩ := aR_yes (Ls := bzs es) hm' hk
    rw [ea, ee] at h
    exact h)
  unfold AfterPost at hAf
  have hAll := Hid.mk' (fun u (hb : Below w.heap.size w u) => all_yes ps w.heap.size sp n cap os sl nl cl w.heap.size es u (hS.below hb) (hL.below hb) hb.size hm)
  unfold AllPost at hAll
  have hmay := fun u => refMay_any ps sp n cap u h1 hok.out hns
  rw [hm] at hmay
  refine (callsIn_wide (n := 9)).1 ?_
  refine callsIn_of_wp_marks Try.func5 rfl trivial ?_ rfl
  simp only [Try.ntmps5, List.size_toArray, List.length_cons, List.length_nil, Nat.reduceAdd, Nat.reduceSub, Array.replicate_succ, Array.replicate_zero, List.push_toArray, List.append_toArray, List.nil_append, List.cons_append]
  have hV0 : VI w (stA ps sp n cap) sl nl cl mm ((((w.alloc (.cells (stA ps sp n cap) 30)).alloc (.cells #[.slice sl nl cl] 31)).alloc (.cells #[.int .u8 (mm : Int)] 5)).alloc (.cells #[.bool false] 4)) := by
    refine ⟨(((alloc_bel' w _).alloc (by simp) _).alloc (by simp; omega) _).alloc (by simp; omega) _, (((Arr.new w 30 _).alloc _).alloc _).alloc _, ?_, ?_, ?_⟩
    · have h := Arr.new (w.alloc (.cells (stA ps sp n cap) 30)) 31 #[.slice sl nl cl]
      simp only [World.size_alloc] at h
      exact (h.alloc _).alloc _
    · have h := Arr.new ((w.alloc (.cells (stA ps sp n cap) 30)).alloc (.cells #[.slice sl nl cl] 31)) 5 #[.int .u8 (mm : Int)]
      simp only [World.size_alloc] at h
      exact h.alloc _
    · have h := Arr.new (((w.alloc (.cells (stA ps sp n cap) 30)).alloc (.cells #[.slice sl nl cl] 31)).alloc (.cells #[.int .u8 (mm : Int)] 5)) 4 #[.bool false]
      simp only [World.size_alloc] at h
      exact h
  have hsV : w.heap.size + 4 ≤ ((((w.alloc (.cells (stA ps sp n cap) 30)).alloc (.cells #[.slice sl nl cl] 31)).alloc (.cells #[.int .u8 (mm : Int)] 5)).alloc (.cells #[.bool false] 4)).heap.size := by simp
  have hnf := run_fnil
  gi_wp2_with (first
    | (refine atLi 30 (.tmp 3) ?_; refine ldBw (by rfl) 30 1089 _ (by rfl) w.heap.size 30 (by rfl) (stA ps sp n cap) hsq hV2.a0 Try.underlying30 rfl size30N ?_)
    | (refine atLi 30 (.tmp 3) ?_; refine ldBwg (by rfl) 30 1089 _ (by rfl) w.heap.size 30 (by rfl) (stA ps sp n cap) hsq hV1.a0 Try.underlying30 rfl size30N ?_)
    | (refine ⟨trivial, ?_⟩; gi_at_call 15; go_must (refine (callsIn_wide.2 (anchored_any _)).mono ?_; rintro r w1 ⟨rfl, hb1⟩; have hV1 := hV0.keep hb1 hsV; have hz1 := hb1.size; have c41 := hV1.a1.cell 0; simp at c41))
    | (refine ⟨trivial, ?_⟩; gi_at_call 18; have htok := hV2; go_must (refine (callsIn_wide.2 (hAll.out _ hV2.bel)).mono ?_; rintro r w3 ⟨bm, bf, s0, c0, sm, cm, fs, rfl, aF, aM, hSS, hbz, hBL, hb3⟩))
    | (refine ⟨trivial, ?_⟩; gi_at_call 18; have htok := hV1; go_must (refine (callsIn_wide.2 (hAll.out _ hV1.bel)).mono ?_; rintro r w2 ⟨bm', bf', s0', c0', sm', cm', fs', rfl, -, -, -, -, -, hb2⟩; have hV2 := hV1.keep hb2 (Nat.le_trans hsV hz1); have hz2 := hb2.size; clear c41; have c42 := hV2.a1.cell 0; simp at c42)))
  have hz3 := hb3.size
  have hV3 := hV2.keep hb3 (by omega)
  have hM3 : MA bm bf w3.heap.size ps s0 n c0 os sm nl cm fs w3 := ⟨aF, aM, hSS, hBL⟩
  have hbm := aM.lt
  have hbf := aF.lt
  have hwA : w.heap.size + 4 ≤ w3.heap.size := by omega
  clear hV0 hV1 hV2 aF aM hSS hBL hb1 hb2 hb3 hAll c42 htok hsV hz1 hz2 hz3
  refine wpIn_loop_rounds 3 ?_
  rw [roundsIn_succ]
  gi_wp2
  have hI0 : IT w (stA ps sp n cap) sl nl cl mm bm bf w3.heap.size ps s0 n c0 os sm cm fs none w3.heap.size 0 (w3.alloc (.cells #[.int .i64 0] 3)) := ⟨hV3.keep (alloc_bel' w3 _) hwA, hM3.keep (alloc_bel' w3 _) (Nat.le_refl _) hbm hbf, Arr.new w3 3 _, fun e h => by cases h⟩
  have hs0 : (w3.alloc (.cells #[.int .i64 0] 3)).heap.size = w3.heap.size + 1 := by simp
  clear hV3 hM3
  generalize w3.alloc (.cells #[.int .i64 0] 3) = V1 at *
  generalize w3.heap.size = NA at *
  have hRn : ∀ j, RnOK (rnA ps os (bzs fs) j) := by rw [hbz]; exact hrok
  have ht1 := all42_in bm bf NA (NA + 1 + 2) ps s0 n c0 os sm nl cm fs hbm hbf (by omega) hRn (by omega)
  rw [hbz] at ht1
  have hen1 := enters_of (P := Try.prog) Try.func42 (by kernel_rfl) rfl
  refine range_tellJ 2 42 #[.pointer (some ⟨bm, 0, none⟩), .pointer (some ⟨bf, 0, none⟩)] (NA + 1) hs0 rfl hen1 nl (MA bm bf NA ps s0 n c0 os sm nl cm fs) (TA (NA + 1 + 2) ps os (bzs es)) RA ht1 (staysA _ _ _ _ _) (fun j C W b hT hR => TA_RA (hrok j) hT hR) (fun j C U => IT w (stA ps sp n cap) sl nl cl mm bm bf NA ps s0 n c0 os sm cm fs none NA (j : Int) U ∧ j ≤ mm) (fun U => IT w (stA ps sp n cap) sl nl cl mm bm bf NA ps s0 n c0 os sm cm fs none NA ((mm : Int) + 1) U ∧ mm ≤ nl) (fun j C U h => h.1.ma) (fun j C U U' h hb => ⟨h.1.keep hb hwA (by omega) hbm hbf (by omega) (fun e h => by cases h), h.2⟩) (fun U U' h hb => ⟨h.1.keep hb hwA (by omega) hbm hbf (by omega) (fun e h => by cases h), h.2⟩) Z ⟨hI0, by omega⟩ (fun _ _ => rfl) ?round1 ?end1
  case round1 =>
    intro j Cp C U hI hj hTU hsU m
    clear ht1 hen1 hI0
    have hC : C.size = 1089 := by
      obtain ⟨s, nt, c, rfl, -⟩ := hTU
      exact stA_size (hrok j).a32 (fun a ha => ((hrok j).ok a ha).l32)
    have hC1 : C.all (·.oneCell') = true := by
      obtain ⟨s, nt, c, rfl, -⟩ := hTU
      exact stA_one _ _ _ _
    gi_wp2_with (refine atSi 30 (.tmp 11) (.tmp 32) ?_; refine stBnr (by rfl) 30 1089 _ _ (by rfl) U U.heap.size 30 rfl C (by rfl) (by rfl) hC hC1 hzs size30N ?_)
    refine ⟨alloc_bel' U _, fun w2 hb2 hk2 hs2 hI2 hT2 => ?_⟩
    have E2 : Arr w2 U.heap.size 30 C := (hk2 _ (by omega)).trans (Arr.new U 30 C)
    simp only [World.size_alloc] at hs2
    obtain ⟨hIT, hjm⟩ := hI2
    obtain ⟨s, nt, c, rfl, hnt, hnt3, hown⟩ := hT2
    have hR := hrok j
    have hSt : SS w2.heap.size w2 (rnA ps os (bzs es) j).P s nt c (rnA ps os (bzs es) j).O := ⟨Hid.mk' hR.a32, Hid.mk' hR.ok, os_own hown hnt.out (by omega) hR.ou⟩
    have hsz6 : ∀ s n c, (stA (rnA ps os (bzs es) j).P s n c).size = 1089 := fun s n c => stA_size hR.a32 (fun a ha => (hR.ok a ha).l32)
    have hra : ∀ b, RA (stA (rnA ps os (bzs es) j).P s nt c) b → NA + 1 + 2 ≤ b := fun b h => RA_own hR.a32 (fun a ha => (hR.ok a ha).l32) h hown
    have hsm6 := smB_self (rnA ps os (bzs es) j).P (rnA ps os (bzs es) j).O
    have hAj := hAf.out w2 j hj hIT.vi.bel
    clear hI hTU hb2 hk2 hown hmay hAf hrok
    have fin : Hid (∀ u : World, Below w2.heap.size w2 u → IT w (stA ps sp n cap) sl nl cl mm bm bf NA ps s0 n c0 os sm cm fs none NA (j : Int) u ∧ (IT w (stA ps sp n cap) sl nl cl mm bm bf NA ps s0 n c0 os sm cm fs none NA ((j : Int) + 1) (u.setCell ⟨NA, 0, none⟩ (.int .i64 ((j : Int) + 1)))) ∧ w2.heap.size ≤ (u.setCell ⟨NA, 0, none⟩ (.int .i64 ((j : Int) + 1))).heap.size ∧ ∀ b, NA + 1 ≤ b → b < U.heap.size → ¬ RA (stA (rnA ps os (bzs es) j).P s nt c) b → (u.setCell ⟨NA, 0, none⟩ (.int .i64 ((j : Int) + 1))).heap[b]? = w2.heap[b]?) := Hid.mk' (by
      intro u hb
      have hz := hb.size
      have h1 := hIT.keep hb hwA (by omega) hbm hbf (by omega) (fun e h => by cases h)
      exact ⟨h1, h1.next (by omega) hwA hbm hbf (fun e h => by cases h) _, by simp [World.setCell]; omega, fun b hb1 hb2 _ => (Below.heap_setCell _ _ _ _ (by show b ≠ NA; omega)).trans (hb.block b (by omega))⟩)
    have c4 := hIT.vi.a1.cell 0
    have c9 := hIT.at_.cell 0
    simp at c4 c9
    have hjI : (j : Int) < 256 := by omega
    have hj0 : (0 : Int) ≤ j := by omega
    gi_wp2_with (first
      | (refine atLi 30 (.tmp 3) ?_; refine ldBr (by rfl) 30 1089 _ (by rfl) w.heap.size 30 (by rfl) (stA ps sp n cap) hsq hIT.vi.a0 Try.underlying30 rfl size30N ?_)
      | (refine ⟨trivial, fun h => (by cases h), ?_⟩; gi_at_call 12; go_must (refine (callsIn_round hAj).mono ?_; rintro r w4 ⟨s6, n6, c6, rfl, hN6, hb4⟩; have hz4 := hb4.size; have E6 := Arr.new w4 30 (stA (rnA ps os (bzs es) j).P s6 n6 c6); have bA := hb4.trans ((alloc_bel' w4 (.cells (stA (rnA ps os (bzs es) j).P s6 n6 c6) 30)).mono hz4); have E5 := E2.below bA E2.lt; have S6 := hN6.ss.below (alloc_bel' w4 (.cells (stA (rnA ps os (bzs es) j).P s6 n6 c6) 30)); have S5 := hSt.below bA; have h5 := (fin.out _ bA).1; clear c4 c9; have c9 := h5.at_.cell 0; simp at c9))
      | (refine atSi 30 (.tmp 12) (.tmp 38) ?_; refine stBnr (by rfl) 30 1089 _ _ (by rfl) w4 w4.heap.size 30 rfl (stA (rnA ps os (bzs es) j).P s6 n6 c6) (by rfl) (by rfl) (hsz6 _ _ _) (stA_one _ _ _ _) hzs size30N ?_)
      | (refine atLi 30 (.tmp 11) ?_; refine ldBrg (by rfl) 30 1089 _ (by rfl) U.heap.size 30 (by rfl) (stA (rnA ps os (bzs es) j).P s nt c) (hsz6 _ _ _) E5 Try.underlying30 rfl size30N ?_)
      | (refine atLi 30 (.tmp 12) ?_; refine ldBrg (by rfl) 30 1089 _ (by rfl) w4.heap.size 30 (by rfl) (stA (rnA ps os (bzs es) j).P s6 n6 c6) (hsz6 _ _ _) E6 Try.underlying30 rfl size30N ?_)
      | (refine ⟨trivial, fun h => (by cases h), ?_⟩; gi_at_call 10; go_must (refine (callsIn_round (refSsame_any (rnA ps os (bzs es) j).P _ s nt c (rnA ps os (bzs es) j).O (rnA ps os (bzs es) j).P _ s6 n6 c6 (rnA ps os (bzs es) j).O _ S5 S6)).mono ?_; rw [hsm6]; rintro r w7 ⟨rfl, hb7⟩; have b7 := bA.trans (hb7.mono (by simp; omega)); obtain ⟨h7, f7⟩ := fin.out _ b7; clear c9; have c9 := h7.at_.cell 0; have c5 := h7.vi.a2.cell 0; have fr9 := h7.at_.frozen 0; simp at c9 c5)))
    · rename_i hjq
      have e : j = mm := by simp at hjq; omega
      refine ⟨⟨rfl, ?_, by omega⟩, f7.2⟩
      subst e
      exact f7.1
    · rename_i hjq
      have e : j ≠ mm := by simp at hjq; omega
      refine ⟨⟨?_, by omega⟩, f7.2⟩
      rw [show ((j + 1 : Nat) : Int) = (j : Int) + 1 by omega]
      exact f7.1
  case end1 =>
    intro U o hEd hsz hdf
    have hIe : IT w (stA ps sp n cap) sl nl cl mm bm bf NA ps s0 n c0 os sm cm fs none NA (wv + 1) U := by
      rcases hEd with ⟨C, h, hle⟩ | ⟨h, hle⟩
      · have e : ((nl + 1 : Nat) : Int) = wv + 1 := by rw [← hwv, if_pos (by omega)]; omega
        rwa [e] at h
      · have e : (mm : Int) + 1 = wv + 1 := by rw [← hwv, if_neg (by omega)]
        rwa [e] at h
    clear ht1 hen1 hI0 hEd
    have hIf1 := hIe.keep (bel_put (r := NA + 1 + 1) (Below.refl (NA + 1) U) (by omega) o) hwA (by omega) hbm hbf (by omega) (fun e h => by cases h)
    have hdf1 : (U.putObj (NA + 1 + 1) o).heap[NA + 1]? = some (.deferred (some [])) := (World.putObj_heap_other (by omega)).trans hdf
    have hsz1 : NA + 1 + 2 ≤ (U.putObj (NA + 1 + 1) o).heap.size := by simpa using hsz
    clear hIe hdf hsz
    generalize U.putObj (NA + 1 + 1) o = X1 at *
    have c4 := hIf1.vi.a1.cell 0
    have c5 := hIf1.vi.a2.cell 0
    simp at c4 c5
    gi_wp2_with (first
      | (refine atLi 30 (.tmp 3) ?_; refine ldBw (by rfl) 30 1089 _ (by rfl) w.heap.size 30 (by rfl) (stA ps sp n cap) hsq hIf1.vi.a0 Try.underlying30 rfl size30N ?_)
      | (refine ⟨trivial, ?_⟩; gi_at_call 19; go_must (refine (callsIn_wide.2 (hmay _)).mono ?_; rintro r y1 ⟨rfl, hby1⟩; have hzy1 := hby1.size; have c9 := (hIf1.at_.below hby1 (by omega)).cell 0; simp at c9)))
    rw [roundsIn_succ]
    gi_wp2
    have hI6 := hIf1.keep hby1 hwA (by omega) hbm hbf (by omega) (fun e h => by cases h)
    have hJ0 : IT w (stA ps sp n cap) sl nl cl mm bm bf NA ps s0 n c0 os sm cm fs (some (NA + 1)) y1.heap.size 0 (y1.alloc (.cells #[.int .i64 0] 3)) := ⟨hI6.vi.keep (alloc_bel' y1 _) (by omega), hI6.ma.keep (alloc_bel' y1 _) (by omega) hbm hbf, Arr.new y1 3 _, fun e h => by cases h; exact ((alloc_bel' y1 _).block _ (by omega)).trans ((hby1.block _ (by omega)).trans hdf1)⟩
    have hs1 : (y1.alloc (.cells #[.int .i64 0] 3)).heap.size = y1.heap.size + 1 := by simp
    have hGB : NA + 1 + 2 ≤ y1.heap.size := by omega
    clear hI6 hIf1 hdf1 hsz1 c4 c5 c9 hby1 hzy1
    generalize y1.alloc (.cells #[.int .i64 0] 3) = V2 at *
    generalize y1.heap.size = GB at *
    have ht2 := all42_in bm bf NA (GB + 1 + 2) ps s0 n c0 os sm nl cm fs hbm hbf (by omega) hRn (by omega)
    rw [hbz] at ht2
    have hen2 := enters_of (P := Try.prog) Try.func42 (by kernel_rfl) rfl
    refine range_tellJ 2 42 #[.pointer (some ⟨bm, 0, none⟩), .pointer (some ⟨bf, 0, none⟩)] (GB + 1) hs1 rfl hen2 nl (MA bm bf NA ps s0 n c0 os sm nl cm fs) (TA (GB + 1 + 2) ps os (bzs es)) RA ht2 (staysA _ _ _ _ _) (fun j C W b hT hR => TA_RA (hrok j) hT hR) (fun j C U => IT w (stA ps sp n cap) sl nl cl mm bm bf NA ps s0 n c0 os sm cm fs (some (NA + 1)) GB (j : Int) U ∧ j ≤ mm) (fun U => IT w (stA ps sp n cap) sl nl cl mm bm bf NA ps s0 n c0 os sm cm fs (some (NA + 1)) GB ((mm : Int) + 1) U ∧ mm ≤ nl) (fun j C U h => h.1.ma) (fun j C U U' h hb => ⟨h.1.keep hb hwA (by omega) hbm hbf (by omega) (fun e h => by cases h; omega), h.2⟩) (fun U U' h hb => ⟨h.1.keep hb hwA (by omega) hbm hbf (by omega) (fun e h => by cases h; omega), h.2⟩) Z ⟨hJ0, by omega⟩ (fun _ _ => rfl) ?round2 ?end2
    case round2 =>
      intro j Cp C U hI hj hTU hsU m
      clear ht2 hen2 hJ0
      have hC : C.size = 1089 := by
        obtain ⟨s, nt, c, rfl, -⟩ := hTU
        exact stA_size (hrok j).a32 (fun a ha => ((hrok j).ok a ha).l32)
      have hC1 : C.all (·.oneCell') = true := by
        obtain ⟨s, nt, c, rfl, -⟩ := hTU
        exact stA_one _ _ _ _
      gi_wp2_with (refine atSi 30 (.tmp 11) (.tmp 32) ?_; refine stBnr (by rfl) 30 1089 _ _ (by rfl) U U.heap.size 30 rfl C (by rfl) (by rfl) hC hC1 hzs size30N ?_)
      refine ⟨alloc_bel' U _, fun w2 hb2 hk2 hs2 hI2 hT2 => ?_⟩
      have E2 : Arr w2 U.heap.size 30 C := (hk2 _ (by omega)).trans (Arr.new U 30 C)
      simp only [World.size_alloc] at hs2
      obtain ⟨hIT, hjm⟩ := hI2
      obtain ⟨s, nt, c, rfl, hnt, hnt3, hown⟩ := hT2
      have hR := hrok j
      have hSt : SS w2.heap.size w2 (rnA ps os (bzs es) j).P s nt c (rnA ps os (bzs es) j).O := ⟨Hid.mk' hR.a32, Hid.mk' hR.ok, os_own hown hnt.out (by omega) hR.ou⟩
      have hsz6 : ∀ s n c, (stA (rnA ps os (bzs es) j).P s n c).size = 1089 := fun s n c => stA_size hR.a32 (fun a ha => (hR.ok a ha).l32)
      have hra : ∀ b, RA (stA (rnA ps os (bzs es) j).P s nt c) b → GB + 1 + 2 ≤ b := fun b h => RA_own hR.a32 (fun a ha => (hR.ok a ha).l32) h hown
      have hsm6 := smB_self (rnA ps os (bzs es) j).P (rnA ps os (bzs es) j).O
      have hAj := hAf.out w2 j hj hIT.vi.bel
      clear hI hTU hb2 hk2 hown hmay hAf hrok
      have fin : Hid (∀ u : World, Below w2.heap.size w2 u → IT w (stA ps sp n cap) sl nl cl mm bm bf NA ps s0 n c0 os sm cm fs (some (NA + 1)) GB (j : Int) u ∧ (IT w (stA ps sp n cap) sl nl cl mm bm bf NA ps s0 n c0 os sm cm fs (some (NA + 1)) GB ((j : Int) + 1) (u.setCell ⟨GB, 0, none⟩ (.int .i64 ((j : Int) + 1)))) ∧ w2.heap.size ≤ (u.setCell ⟨GB, 0, none⟩ (.int .i64 ((j : Int) + 1))).heap.size ∧ ∀ b, GB + 1 ≤ b → b < U.heap.size → ¬ RA (stA (rnA ps os (bzs es) j).P s nt c) b → (u.setCell ⟨GB, 0, none⟩ (.int .i64 ((j : Int) + 1))).heap[b]? = w2.heap[b]?) := Hid.mk' (by
        intro u hb
        have hz := hb.size
        have h1 := hIT.keep hb hwA (by omega) hbm hbf (by omega) (fun e h => by cases h; omega)
        exact ⟨h1, h1.next (by omega) hwA hbm hbf (fun e h => by cases h; omega) _, by simp [World.setCell]; omega, fun b hb1 hb2 _ => (Below.heap_setCell _ _ _ _ (by show b ≠ GB; omega)).trans (hb.block b (by omega))⟩)
      have c4 := hIT.vi.a1.cell 0
      have c9 := hIT.at_.cell 0
      simp at c4 c9
      have hjI : (j : Int) < 256 := by omega
      have hj0 : (0 : Int) ≤ j := by omega
      gi_wp2_with (first
        | (refine atLi 30 (.tmp 3) ?_; refine ldBr (by rfl) 30 1089 _ (by rfl) w.heap.size 30 (by rfl) (stA ps sp n cap) hsq hIT.vi.a0 Try.underlying30 rfl size30N ?_)
        | (refine ⟨trivial, fun h => (by cases h), ?_⟩; gi_at_call 12; go_must (refine (callsIn_round hAj).mono ?_; rintro r w4 ⟨s6, n6, c6, rfl, hN6, hb4⟩; have hz4 := hb4.size; have E6 := Arr.new w4 30 (stA (rnA ps os (bzs es) j).P s6 n6 c6); have bA := hb4.trans ((alloc_bel' w4 (.cells (stA (rnA ps os (bzs es) j).P s6 n6 c6) 30)).mono hz4); have E5 := E2.below bA E2.lt; have S6 := hN6.ss.below (alloc_bel' w4 (.cells (stA (rnA ps os (bzs es) j).P s6 n6 c6) 30)); have S5 := hSt.below bA; have h5 := (fin.out _ bA).1; clear c4 c9; have c9 := h5.at_.cell 0; simp at c9))
        | (refine atSi 30 (.tmp 12) (.tmp 38) ?_; refine stBnr (by rfl) 30 1089 _ _ (by rfl) w4 w4.heap.size 30 rfl (stA (rnA ps os (bzs es) j).P s6 n6 c6) (by rfl) (by rfl) (hsz6 _ _ _) (stA_one _ _ _ _) hzs size30N ?_)
        | (refine atLi 30 (.tmp 11) ?_; refine ldBrg (by rfl) 30 1089 _ (by rfl) U.heap.size 30 (by rfl) (stA (rnA ps os (bzs es) j).P s nt c) (hsz6 _ _ _) E5 Try.underlying30 rfl size30N ?_)
        | (refine atLi 30 (.tmp 12) ?_; refine ldBrg (by rfl) 30 1089 _ (by rfl) w4.heap.size 30 (by rfl) (stA (rnA ps os (bzs es) j).P s6 n6 c6) (hsz6 _ _ _) E6 Try.underlying30 rfl size30N ?_)
        | (refine ⟨trivial, fun h => (by cases h), ?_⟩; gi_at_call 10; go_must (refine (callsIn_round (refSsame_any (rnA ps os (bzs es) j).P _ s nt c (rnA ps os (bzs es) j).O (rnA ps os (bzs es) j).P _ s6 n6 c6 (rnA ps os (bzs es) j).O _ S5 S6)).mono ?_; rw [hsm6]; rintro r w7 ⟨rfl, hb7⟩; have b7 := bA.trans (hb7.mono (by simp; omega)); obtain ⟨h7, f7⟩ := fin.out _ b7; clear c9; have c9 := h7.at_.cell 0; have c5 := h7.vi.a2.cell 0; have fr9 := h7.at_.frozen 0; simp at c9 c5)))
      · rename_i hjq
        have e : j = mm := by simp at hjq; omega
        refine ⟨⟨rfl, ?_, by omega⟩, f7.2⟩
        subst e
        exact f7.1
      · rename_i hjq
        have e : j ≠ mm := by simp at hjq; omega
        refine ⟨⟨?_, by omega⟩, f7.2⟩
        rw [show ((j + 1 : Nat) : Int) = (j : Int) + 1 by omega]
        exact f7.1
    case end2 =>
      intro U o hEd hsz hdf
      have hIe : IT w (stA ps sp n cap) sl nl cl mm bm bf NA ps s0 n c0 os sm cm fs (some (NA + 1)) GB (wv + 1) U := by
        rcases hEd with ⟨C, h, hle⟩ | ⟨h, hle⟩
        · have e : ((nl + 1 : Nat) : Int) = wv + 1 := by rw [← hwv, if_pos (by omega)]; omega
          rwa [e] at h
        · have e : (mm : Int) + 1 = wv + 1 := by rw [← hwv, if_neg (by omega)]
          rwa [e] at h
      clear ht2 hen2 hJ0 hEd
      have hIf2 := hIe.keep (bel_put (r := GB + 1 + 1) (Below.refl (GB + 1) U) (by omega) o) hwA (by omega) hbm hbf (by omega) (fun e h => by cases h; omega)
      have hdf2 : (U.putObj (GB + 1 + 1) o).heap[GB + 1]? = some (.deferred (some [])) := (World.putObj_heap_other (by omega)).trans hdf
      have hsz2 : GB + 1 + 2 ≤ (U.putObj (GB + 1 + 1) o).heap.size := by simpa using hsz
      clear hIe hdf hsz
      generalize U.putObj (GB + 1 + 1) o = X2 at *
      have c4 := hIf2.vi.a1.cell 0
      have c5 := hIf2.vi.a2.cell 0
      simp at c4 c5
      gi_wp2_with (first
        | (refine atLi 30 (.tmp 3) ?_; refine ldBw (by rfl) 30 1089 _ (by rfl) w.heap.size 30 (by rfl) (stA ps sp n cap) hsq hIf2.vi.a0 Try.underlying30 rfl size30N ?_)
        | (refine ⟨trivial, ?_⟩; gi_at_call 19; go_must (refine (callsIn_wide.2 (hmay _)).mono ?_; rintro r y2 ⟨rfl, hby2⟩; have hzy2 := hby2.size; have c9 := (hIf2.at_.below hby2 (by omega)).cell 0; simp at c9)))
      rw [roundsIn_succ]
      have hI6 := hIf2.keep hby2 hwA (by omega) hbm hbf (by omega) (fun e h => by cases h; omega)
      have hd1 := hI6.df _ rfl
      have hd2 : y2.heap[GB + 1]? = some (.deferred (some [])) := (hby2.block _ (by omega)).trans hdf2
      gi_wp2_with (refine ⟨trivial, ?_⟩; gi_at_call 15; go_must (refine (callsIn_wide.2 (anchored_any _)).mono ?_; rintro r z ⟨rfl, hz⟩; have hzz := hz.size; have c3 := (hI6.vi.a3.below hz (by omega)).cell 0; have f3 := (hI6.vi.a3.below hz (by omega)).frozen 0; simp at c3))
      have hz6 := hI6.vi.bel.trans (hz.mono (by have := hI6.vi.bel.size; omega))
      have hR0 := (hI6.vi.a3.below hz (by omega)).set 0 (.bool true)
      have hR1 := (hR0.putO (r := GB + 1) (.deferred none) (by omega)).putO (r := NA + 1) (.deferred none) (by omega)
      refine ⟨by simp, .inl ⟨_, _, rfl, run_takeDeferred ((Below.heap_setCell _ _ _ _ (by show GB + 1 ≠ w.heap.size + 1 + 1 + 1; omega)).trans ((hz.block _ (by omega)).trans hd2)), ?_⟩⟩
      refine ⟨by simp, .inl ⟨_, _, rfl, run_takeDeferred ((World.putObj_heap_other (by omega)).trans ((Below.heap_setCell _ _ _ _ (by show NA + 1 ≠ w.heap.size + 1 + 1 + 1; omega)).trans ((hz.block _ (by omega)).trans hd1))), ?_⟩⟩
      exact ⟨_, resB (by rfl) hR1, rfl, bel_put (bel_put (hz6.setCell (p := ⟨w.heap.size + 1 + 1 + 1, 0, none⟩) (by show w.heap.size ≤ w.heap.size + 1 + 1 + 1; omega) _) (by omega) _) (by omega) _⟩
end Go.Proofs.Ytbhhbkoikocjgaa

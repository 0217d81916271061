/- NhF, NfS, NfC, NfF, NiS. -/
import Derived.Test.YtbhhbkoikocjgaaX17
import Derived.Test.YtbhhbkoikocjgaaX26
import Derived.Test.YtbhhbkoikocjgaaX25
import Derived.Test.YtbhhbkoikocjgaaX27
/- Layer spec: a run with what flowed, one message on. -/
namespace Go.Proofs.Ytbhhbkoikocjgaa
set_option linter.unusedSectionVars false
set_option maxHeartbeats 1000000
open Go.RowKit Go.Shelf
set_option maxRecDepth 100000
set_option linter.unusedVariables false
set_option linter.unusedSimpArgs false


variable [DecidableEq Ac] [DecidableEq Ou] [DecidableEq Mg]
/-- A load of the state in a course, in a flow. -/
theorem ldF {ops : Array Oper} {rest : List Oper} {o : Oper} {a : Act} {w : World} {Q : Exit → Act → World → Prop} (hgd : o.guard = none) (x : Operand) (ho : o.op = .load 30 x)
    (g : Nat) (hx : a.eval x = .pointer (some ⟨g, 0, none⟩)) (ps : List Ac) (sp : Option Addr) (n cap : Nat) (h1 : ps.length = 32) (h2 : ∀ a ∈ ps, a.lk.length = 32) (hA : w.rangeAt g 0 (stC ps sp n cap))
    (h : wpList Try.prog ops Q rest (a.put o.dst (.agg (stA ps sp n cap))) w) : wpList Try.prog ops Q (o :: rest) a w :=
  wpList_load_mid hgd 30 x ho g 0 hx (stC ps sp n cap) _ hA Try.underlying30 rfl (by rw [stC_len h1 h2]; exact size30) h

set_option maxHeartbeats 2000000 in
theorem with35_any (ps : List Ac) (N : Nat) (sp : Option Addr) (n cap : Nat) (os : List Ou) (sb : Option Addr) (nb cb : Nat) (L : List Int) (Nb : Nat) (I U : Int) (w : World) (hS : SS N w ps sp n cap os) (hL : BS Nb w sb nb cb L) (hI : 0 ≤ I ∧ I < 18446744073709551616) (hU : 0 ≤ U ∧ U < 18446744073709551616) :
    Calls Try.prog 35 #[.agg (flA ps sp n cap I U), .slice sb nb cb] w fun r w' => ∃ s n c, r = .returned (.agg (flA (xP ps os L) s n c (if xD ps os L = true then (I + gI L) % 18446744073709551616 else I) (if xD ps os L = true then (U + gO L) % 18446744073709551616 else U))) ∧ Hid (n = (xO ps os L).length) ∧ w'.ownsRow w.heap.size 66 2 (.slice s n c) n (ouF (xO ps os L)) ∧ Below w.heap.size w w' := by
  have hGn := Hid.mk' (fun u h => gain_any sb nb cb L w.heap.size u h)
  have hS := hS.here
  have hL := hL.here
  have h1 := hS.a32.out
  have h2 := hS.l32
  have A0 := (Arr.new w 82 (flA ps sp n cap I U)).alloc (.cells zero82N 82)
  have R0 : Arr ((w.alloc (.cells (flA ps sp n cap I U) 82)).alloc (.cells zero82N 82)) (w.heap.size + 1) 82 zero82N := by simpa using Arr.new (w.alloc (.cells (flA ps sp n cap I U) 82)) 82 zero82N
  have B0 := (alloc_bel' w (.cells (flA ps sp n cap I U) 82)).alloc (by simp) (.cells zero82N 82)
  have hz30 := zeroValue30N
  have hz82 := zeroValue82N
  have hzsz := zsize30
  have hzs82 := zsize82
  generalize zero30N = Z0 at hz30 hzsz
  generalize zero82N = Z at A0 R0 B0 hz82 hzs82
  have hD := Hid.mk' (fun u h h' => delta_x ps w.heap.size sp n cap os sb nb cb L w.heap.size u h h')
  obtain ⟨hq1, hq3, -⟩ := xP_ok (os := os) hL.bts h1 hS.ok.out hS.outs.ok
  have hq2 : ∀ a ∈ xP ps os L, a.lk.length = 32 := fun a ha => (hq3 a ha).l32
  unfold DX at hD
  generalize xP ps os L = Q at *
  generalize xO ps os L = O at *
  generalize xD ps os L = d at *
  generalize xE ps os = e at *
  have hwr : ∀ x : Int, IntKind.u64.wrap x = x % 18446744073709551616 := fun x => by simp [IntKind.wrap, IntKind.min, IntKind.max, IntKind.bits, IntKind.signed]
  generalize gI L = gi at *
  generalize gO L = go at *
  go_enter Try.func35, Try.ntmps35
  go_upto_region 1 with fail
  generalize (w.alloc (.cells (flA ps sp n cap I U) 82)).alloc (.cells Z 82) = V at A0 R0 B0 ⊢
  have hVz := R0.lt
  have hVs := B0.size
  have G0 := A0.flS
  go_upto_region 2 with (first
    | (refine atL 30 (.tmp 11) ?_; refine ldF (by rfl) _ (by rfl) w.heap.size (by rfl) ps sp n cap h1 h2 G0 ?_)
    | (go_at_call 46; go_must (refine (hD.out _ (hS.below B0) (hL.below B0)).mono ?_; rintro r w1 ⟨s1, n1, c1, rfl, S1, own1, hb1⟩))
    | (refine atS 30 (.tmp 5) (.tmp 15) ?_; refine st30n (by rfl) _ _ (by rfl) w1 w1.heap.size rfl hzsz Q s1 n1 c1 (by rfl) (by rfl) hq1 hq2 ?_))
  have hz1 := hb1.size
  have R1 := (R0.below hb1 R0.lt).alloc (.cells (stA Q s1 n1 c1) 30)
  have T1 := Arr.new w1 30 (stA Q s1 n1 c1)
  have A1 := (A0.below hb1 A0.lt).alloc (.cells (stA Q s1 n1 c1) 30)
  have B1 := (B0.trans (hb1.mono B0.size)).alloc (Nat.le_trans B0.size hb1.size) (.cells (stA Q s1 n1 c1) 30)
  have own2 := own1.alloc (.cells (stA Q s1 n1 c1) 30)
  have hn1 := S1.outs.len
  have th1 := fl_there A1 h1 h2
  clear G0 S1 own1 hb1 A0 R0
  generalize w1.alloc (.cells (stA Q s1 n1 c1) 30) = W1 at *
  generalize w1.heap.size = G1 at *
  have hsz : (Try.prog.info? 30).map (·.size) = some (stA Q s1 n1 c1).size := by rw [stA_size hq1 hq2]; exact size30
  go_upto_region 3 with (first
    | (refine atL 30 (.tmp 5) ?_; refine ld30 (by rfl) _ (by rfl) G1 30 (by rfl) Q s1 n1 c1 hq1 hq2 T1 ?_)
    | (refine atS 30 (.tmp 19) (.tmp 18) ?_; refine wpList_store_mid (by rfl) 30 (.tmp 19) (.tmp 18) (by rfl) w.heap.size 0 (stA Q s1 n1 c1) (by rfl) (by rfl) (by rw [stA_size hq1 hq2]; exact th1) hsz (stA_one Q s1 n1 c1) ?_))
  have eC : (stA Q s1 n1 c1).toList = stC Q s1 n1 c1 := rfl
  rw [eC]
  have A2 := A1.flSet (sq := s1) (m := n1) (cq := c1) h1 h2 hq1 hq2
  have R2 := R1.setCellsOther (k := w.heap.size) (by omega) 0 (stC Q s1 n1 c1)
  have C2 := (Chg.of_below (S := fun b => b = w.heap.size) B1).setCells (stC Q s1 n1 c1) (g := w.heap.size) (o := 0) (fun h => rfl)
  have B2 : Below w.heap.size w (W1.setCells w.heap.size 0 (stC Q s1 n1 c1)) := C2.below (fun i hi => ⟨hi, by omega⟩)
  have own3 := own_same own2 (w' := W1.setCells w.heap.size 0 (stC Q s1 n1 c1)) (fun b hb => heap_setCells_other (by have := own_ge own2 b hb; omega) _ _ _)
  generalize W1.setCells w.heap.size 0 (stC Q s1 n1 c1) = W2 at *
  clear A1 R1 B1 own2 T1 th1 C2
  have cI := A2.flI hq1 hq2
  have cU := A2.flU hq1 hq2
  have fI := A2.frozen 1089
  have fU := A2.frozen 1090
  cases d with
  | false =>
    go_wp2_with (first
      | (refine atL 82 (.tmp 2) ?_; refine ldB (by rfl) 82 1091 _ (by rfl) w.heap.size 82 (by rfl) _ (flA_size hq1 hq2) A2 Try.underlying82 rfl size82N ?_)
      | (refine atS 82 (.tmp 4) (.tmp 36) ?_; refine stB (by rfl) 82 1091 _ _ (by rfl) (w.heap.size + 1) 82 (flA Q s1 n1 c1 I U) Z (by rfl) (by rfl) (flA_size hq1 hq2) (flA_one _ _ _ _ _ _) hzs82 R2 size82N ?_))
    have own5 := own_row own3 (flA Q s1 n1 c1 I U) (show w.heap.size + 1 < V.heap.size by omega)
    exact bodyPost_ret (v := .agg (flA Q s1 n1 c1 I U)) (results_cell_row Try.results35 _ _ (w.heap.size + 1) 82 _ (0, 0) _ rfl (R2.setRow _) Try.underlying82 rfl (by rw [flA_size hq1 hq2]; exact size82N)) rfl ⟨s1, n1, c1, rfl, hn1, own_mono own5 (by omega), below_setRow B2 (by omega) _⟩
  | true =>
    go_upto_region 5 with (first
      | (go_at_call 51; go_must (refine (hGn.out _ (hL.below B2)).mono ?_; rintro r w3 ⟨rfl, hb3⟩)))
    have hz3 := hb3.size
    have A3 := A2.below hb3 A2.lt
    have R3 := R2.below hb3 R2.lt
    have B3 := B2.trans (hb3.mono B2.size)
    have own4 := own_same own3 (fun b hb => hb3.block b (own_lt own3 hb))
    clear cI cU fI fU A2 R2 B2 own3 hb3
    have cI := A3.flI hq1 hq2
    have fI := A3.frozen 1089
    go_upto_region 6 with fail
    try simp only [hwr]
    have A4 := A3.set 1089 (.int .u64 ((I + gi) % 18446744073709551616))
    rw [fl_setI hq1 hq2] at A4
    have R4 := R3.setOther (a := ⟨w.heap.size, 1089, none⟩) (.int .u64 ((I + gi) % 18446744073709551616)) (by simp)
    have B4 := B3.setCell (p := ⟨w.heap.size, 1089, none⟩) (by simp) (.int .u64 ((I + gi) % 18446744073709551616))
    have own5 := own_cellO (o := 1089) (u := .int .u64 ((I + gi) % 18446744073709551616)) own4 (show w.heap.size < V.heap.size by omega)
    generalize w3.setCell ⟨w.heap.size, 1089, none⟩ (.int .u64 ((I + gi) % 18446744073709551616)) = W4 at *
    clear cI fI A3 R3 B3 own4
    have cU := A4.flU hq1 hq2
    have fU := A4.frozen 1090
    go_upto_region 7 with fail
    try simp only [hwr]
    have A5 := A4.set 1090 (.int .u64 ((U + go) % 18446744073709551616))
    rw [fl_setU hq1 hq2] at A5
    have R5 := R4.setOther (a := ⟨w.heap.size, 1090, none⟩) (.int .u64 ((U + go) % 18446744073709551616)) (by simp)
    have B5 := B4.setCell (p := ⟨w.heap.size, 1090, none⟩) (by simp) (.int .u64 ((U + go) % 18446744073709551616))
    have own6 := own_cellO (o := 1090) (u := .int .u64 ((U + go) % 18446744073709551616)) own5 (show w.heap.size < V.heap.size by omega)
    generalize W4.setCell ⟨w.heap.size, 1090, none⟩ (.int .u64 ((U + go) % 18446744073709551616)) = W5 at *
    clear cU fU A4 R4 B4 own5
    generalize hI' : (I + gi) % 18446744073709551616 = I' at A5 R5 B5 own6 ⊢
    generalize hU' : (U + go) % 18446744073709551616 = U' at A5 R5 B5 own6 ⊢
    replace hI' := Hid.mk' hI'
    replace hU' := Hid.mk' hU'
    go_wp2_with (first
      | (refine atL 82 (.tmp 2) ?_; refine ldB (by rfl) 82 1091 _ (by rfl) w.heap.size 82 (by rfl) _ (flA_size hq1 hq2) A5 Try.underlying82 rfl size82N ?_)
      | (refine atS 82 (.tmp 4) (.tmp 36) ?_; refine stB (by rfl) 82 1091 _ _ (by rfl) (w.heap.size + 1) 82 (flA Q s1 n1 c1 I' U') Z (by rfl) (by rfl) (flA_size hq1 hq2) (flA_one _ _ _ _ _ _) hzs82 R5 size82N ?_))
    have own7 := own_row own6 (flA Q s1 n1 c1 I' U') (show w.heap.size + 1 < V.heap.size by omega)
    exact bodyPost_ret (v := .agg (flA Q s1 n1 c1 I' U')) (results_cell_row Try.results35 _ _ (w.heap.size + 1) 82 _ (0, 0) _ rfl (R5.setRow _) Try.underlying82 rfl (by rw [flA_size hq1 hq2]; exact size82N)) rfl ⟨s1, n1, c1, by rw [← hI'.out, ← hU'.out], hn1, own_mono own7 (by omega), below_setRow B5 (by omega) _⟩
end Go.Proofs.Ytbhhbkoikocjgaa
/- Layer spec: the fold, a stand at a time. -/
namespace Go.Proofs.Ytbhhbkoikocjgaa
set_option linter.unusedSectionVars false
set_option maxHeartbeats 1000000
open Go.RowKit Go.Shelf
set_option maxRecDepth 100000
set_option linter.unusedVariables false
set_option linter.unusedSimpArgs false
variable [DecidableEq Ac] [DecidableEq Ou] [DecidableEq Mg]
attribute [local go_sem] Oper.semAt_some


set_option maxHeartbeats 400000 in
theorem fold31_any (sl : Option Addr) (nl cl : Nat) (C : Array Value) (w : World) :
    Calls Try.prog 31 #[.slice sl nl cl, .agg C, .func (Fn.func 32) #[] #[]] w fun e w' => e = .returned (.func (Fn.func 49) #[] #[.pointer (some ⟨w.heap.size + 1, 0, none⟩), .pointer (some ⟨w.heap.size, 0, none⟩), .pointer (some ⟨w.heap.size + 1 + 1, 0, none⟩)]) ∧ w' = ((w.alloc (.cells #[.slice sl nl cl] 31)).alloc (.cells C 30)).alloc (.cells #[.func (Fn.func 32) #[] #[]] 80) := by
  have hmf : ∀ (fn : Fn) (first cap : Array Value) (w : World), (Instr.makeFunc fn first cap).run Try.prog w = .ok (.func fn first cap) w := fun _ _ _ _ => rfl
  go_enter Try.func31, Try.ntmps31
  go_wp2
  go_ret
  exact ⟨rfl, rfl⟩
set_option maxHeartbeats 2000000 in
theorem fold49_in (bf bl bs B : Nat) (C0 : Array Value) (sl : Option Addr) (nl cl : Nat) (es : List Bz) (M : World → Prop) (T : Nat → Array Value → World → Prop) (hM : ∀ W, M W → FoldM bf bl bs B 30 32 C0 sl nl cl es W) (hT : FoldT B 30 1089 32 C0 es nl M T) :
    Teller 49 #[.pointer (some ⟨bf, 0, none⟩), .pointer (some ⟨bl, 0, none⟩), .pointer (some ⟨bs, 0, none⟩)] B M T (fun _ _ => False) nl := by
  intro k lp J X hJM hJB hY W Cp h0
  refine callsIn_of_wp Try.func49 rfl trivial ?_ rfl
  simp only [Try.ntmps49, List.size_toArray, List.length_cons, List.length_nil, Nat.reduceAdd, Nat.reduceSub, Array.replicate_succ, Array.replicate_zero, List.push_toArray, List.append_toArray, List.nil_append, List.cons_append]
  obtain ⟨hM0, hsz⟩ := hJM 0 Cp W h0
  have hF0 := hM W hM0
  obtain ⟨hC0, hC1⟩ := hT.size 0 C0 W (hT.first W hM0 hsz)
  have A0 := hF0.first
  have hz := zeroValue30N
  have hzs := zsize30
  have hbV := alloc_bel' W (.cells C0 30)
  have AV := Arr.new W 30 C0
  have hJV := hJB 0 Cp W _ h0 (hbV.mono hsz)
  have hsV : (W.alloc (.cells C0 30)).heap.size = W.heap.size + 1 := by simp
  have hTV := hT.first _ (hJM _ _ _ hJV).1 (hJM _ _ _ hJV).2
  obtain ⟨fn, tmps, assign, body, hy, hR⟩ := hY 0 Cp C0 _ hJV (Nat.zero_le _) hTV
  rw [show ((0 : Nat) : Int) = 0 from rfl] at hy
  generalize zero30N = Z at hz hzs
  gi_wp2_with (first
    | (refine atLi 30 (.tmp 1) ?_; refine ldBw (by rfl) 30 1089 _ (by rfl) bf 30 (by rfl) C0 hC0 A0 Try.underlying30 rfl size30N ?_)
    | (refine atSi 30 (.tmp 5) (.tmp 8) ?_; refine stBnw (by rfl) 30 1089 _ _ (by rfl) W W.heap.size 30 rfl C0 (by rfl) (by rfl) hC0 hC1 hzs size30N ?_)
    | (refine atLi 30 (.tmp 5) ?_; refine ldBw (by rfl) 30 1089 _ (by rfl) W.heap.size 30 (by rfl) C0 hC0 AV Try.underlying30 rfl size30N ?_))
  refine ⟨fun h => (by cases h), hR.mono ?_⟩
  clear hR hy hJV hTV A0
  rintro r W3 (⟨rfl, hJ3, hs3, hk3⟩ | ⟨rfl, hX⟩)
  rotate_left
  · gi_wp2
    exact bodyPost_ret (results_none rfl _ _ _) rfl ⟨⟨_, rfl⟩, .inr hX⟩
  obtain ⟨hM3, hB3⟩ := hJM _ _ _ hJ3
  have hF3 := hM W3 hM3
  have A3 : Arr W3 W.heap.size 30 C0 := (hk3 _ hsz (by omega) id).trans AV
  have hT3 := hT.first W3 hM3 hB3
  have cl3 := hF3.list
  have hlen := hF3.msgs.len
  have hnl : nl ≤ 9223372036854775807 := Nat.le_trans hF3.msgs.le hF3.msgs.big
  clear hF0 hF3 AV hbV
  gi_wp2
  gi_loopw [15] (fun d wr => ∃ (j : Nat) (C : Array Value), d = .int .i64 (j : Int) ∧ j ≤ nl ∧ J (j + 1) C wr ∧ T j C wr ∧ Arr wr W.heap.size 30 C) (fun d _ => nl - (intOf d).toNat)
  case atStart => exact ⟨0, C0, rfl, by omega, hJ3, hT3, A3⟩
  case round =>
    obtain ⟨j, C, rfl, hj, hJj, hTj, hAj⟩ := hrel
    clear hJ3 hT3 A3 cl3 hM3 hB3 hk3 hs3 hsV
    obtain ⟨hMr, hBr⟩ := hJM _ _ _ hJj
    have hFr := hM wr hMr
    obtain ⟨hC2, hC3⟩ := hT.size _ _ _ hTj
    by_cases hlt : j < nl
    · have hI : (j : Int) < nl := by omega
      obtain ⟨g, off, e, rfl, he, hce, hBe⟩ := hFr.msgs.get hlt
      have cs := hFr.step
      have hst := hT.step j C e wr W.heap.size C hTj hMr hBr he hlt hAj hsz
      replace he := Hid.mk' he
      gi_wp2_with (first
        | (refine atLi 30 (.tmp 5) ?_; refine ldBw (by rfl) 30 1089 _ (by rfl) W.heap.size 30 (by rfl) C4 hC4 hA5 Try.underlying30 rfl size30N ?_)
        | (refine atLi 30 (.tmp 5) ?_; refine ldBw (by rfl) 30 1089 _ (by rfl) W.heap.size 30 (by rfl) C hC2 hAj Try.underlying30 rfl size30N ?_)
        | (refine ⟨trivial, fun h => (by cases h), ?_⟩; gi_at_call 32; go_must (refine (callsIn_wide.2 hst).mono ?_; rintro r w4 ⟨C4, rfl, hT4, hb4, hA4⟩; obtain ⟨hC4, hC5⟩ := hT.size _ _ _ hT4))
        | (refine atSi 30 (.tmp 5) (.tmp 23) ?_; go_must (refine stBw (by rfl) 30 1089 _ _ (by rfl) W.heap.size 30 C4 C (by rfl) (by rfl) hC4 hC5 hC2 hA4 size30N ?_; have hb5 : Below B wr (w4.setRow W.heap.size C4) := below_setRow hb4 hsz _; have hJ5 := hJB _ _ _ _ hJj hb5; have hA5 : Arr (w4.setRow W.heap.size C4) W.heap.size 30 C4 := hA4.setRow _; have hT5 := hT.stays _ _ w4 (w4.setRow W.heap.size C4) _ _ hT4 hA4 (hJM _ _ _ hJ5).1 (by simp) (fun b _ _ hn => setRow_other _ _ _ _ hn); generalize w4.setRow W.heap.size C4 = w5 at *; clear hJj hTj hAj hT4 hA4 hb4 hb5; obtain ⟨fn, tmps, assign, body, hy, hR⟩ := hY (j + 1) C C4 w5 hJ5 hlt hT5; rw [show ((j + 1 : Nat) : Int) = (j : Int) + 1 by omega] at hy)))
      refine ⟨fun h => (by cases h), hR.mono ?_⟩
      clear hR hy
      rintro r W6 (⟨rfl, hJ6, hs6, hk6⟩ | ⟨rfl, hX⟩)
      · have hM6 := (hJM _ _ _ hJ6).1
        have hA6 : Arr W6 W.heap.size 30 C4 := (hk6 _ hsz hA5.lt id).trans hA5
        have hT6 := hT.stays _ _ w5 W6 _ _ hT5 hA5 hM6 hs6 (fun b h1 h2 _ => hk6 b h1 h2 id)
        gi_wp2
        go_roundw
        case rel => exact ⟨j + 1, C4, by go_num, by omega, hJ6, hT6, hA6⟩
        case measure => simp [intOf]; omega
      · gi_wp2
        exact bodyPost_ret (results_none rfl _ _ _) rfl ⟨⟨_, rfl⟩, .inr hX⟩
    · obtain rfl : j = nl := by omega
      have hI : ¬ (j : Int) < j := by omega
      gi_wp2
      go_end0
      exact ⟨⟨_, rfl⟩, .inl ⟨C, hJj, hTj⟩⟩
end Go.Proofs.Ytbhhbkoikocjgaa
/- Layer spec: the fold, a stand at a time. -/
namespace Go.Proofs.Ytbhhbkoikocjgaa
set_option linter.unusedSectionVars false
set_option maxHeartbeats 1000000
open Go.RowKit Go.Shelf
set_option maxRecDepth 100000
set_option linter.unusedVariables false
set_option linter.unusedSimpArgs false
variable [DecidableEq Ac] [DecidableEq Ou] [DecidableEq Mg]
attribute [local go_sem] Oper.semAt_some


set_option maxHeartbeats 400000 in
theorem fold26_any (sl : Option Addr) (nl cl : Nat) (C : Array Value) (w : World) :
    Calls Try.prog 26 #[.slice sl nl cl, .agg C, .func (Fn.func 28) #[] #[]] w fun e w' => e = .returned (.func (Fn.func 44) #[] #[.pointer (some ⟨w.heap.size + 1, 0, none⟩), .pointer (some ⟨w.heap.size, 0, none⟩), .pointer (some ⟨w.heap.size + 1 + 1, 0, none⟩)]) ∧ w' = ((w.alloc (.cells #[.slice sl nl cl] 31)).alloc (.cells C 69)).alloc (.cells #[.func (Fn.func 28) #[] #[]] 74) := by
  have hmf : ∀ (fn : Fn) (first cap : Array Value) (w : World), (Instr.makeFunc fn first cap).run Try.prog w = .ok (.func fn first cap) w := fun _ _ _ _ => rfl
  go_enter Try.func26, Try.ntmps26
  go_wp2
  go_ret
  exact ⟨rfl, rfl⟩
set_option maxHeartbeats 2000000 in
theorem fold44_in (bf bl bs B : Nat) (C0 : Array Value) (sl : Option Addr) (nl cl : Nat) (es : List Bz) (M : World → Prop) (T : Nat → Array Value → World → Prop) (hM : ∀ W, M W → FoldM bf bl bs B 69 28 C0 sl nl cl es W) (hT : FoldT B 69 1090 28 C0 es nl M T) :
    Teller 44 #[.pointer (some ⟨bf, 0, none⟩), .pointer (some ⟨bl, 0, none⟩), .pointer (some ⟨bs, 0, none⟩)] B M T (fun _ _ => False) nl := by
  intro k lp J X hJM hJB hY W Cp h0
  refine callsIn_of_wp Try.func44 rfl trivial ?_ rfl
  simp only [Try.ntmps44, List.size_toArray, List.length_cons, List.length_nil, Nat.reduceAdd, Nat.reduceSub, Array.replicate_succ, Array.replicate_zero, List.push_toArray, List.append_toArray, List.nil_append, List.cons_append]
  obtain ⟨hM0, hsz⟩ := hJM 0 Cp W h0
  have hF0 := hM W hM0
  obtain ⟨hC0, hC1⟩ := hT.size 0 C0 W (hT.first W hM0 hsz)
  have A0 := hF0.first
  have hz := zeroValue69N
  have hzs := zsize69
  have hbV := alloc_bel' W (.cells C0 69)
  have AV := Arr.new W 69 C0
  have hJV := hJB 0 Cp W _ h0 (hbV.mono hsz)
  have hsV : (W.alloc (.cells C0 69)).heap.size = W.heap.size + 1 := by simp
  have hTV := hT.first _ (hJM _ _ _ hJV).1 (hJM _ _ _ hJV).2
  obtain ⟨fn, tmps, assign, body, hy, hR⟩ := hY 0 Cp C0 _ hJV (Nat.zero_le _) hTV
  rw [show ((0 : Nat) : Int) = 0 from rfl] at hy
  generalize zero69N = Z at hz hzs
  gi_wp2_with (first
    | (refine atLi 69 (.tmp 1) ?_; refine ldBw (by rfl) 69 1090 _ (by rfl) bf 69 (by rfl) C0 hC0 A0 Try.underlying69 rfl size69N ?_)
    | (refine atSi 69 (.tmp 5) (.tmp 8) ?_; refine stBnw (by rfl) 69 1090 _ _ (by rfl) W W.heap.size 69 rfl C0 (by rfl) (by rfl) hC0 hC1 hzs size69N ?_)
    | (refine atLi 69 (.tmp 5) ?_; refine ldBw (by rfl) 69 1090 _ (by rfl) W.heap.size 69 (by rfl) C0 hC0 AV Try.underlying69 rfl size69N ?_))
  refine ⟨fun h => (by cases h), hR.mono ?_⟩
  clear hR hy hJV hTV A0
  rintro r W3 (⟨rfl, hJ3, hs3, hk3⟩ | ⟨rfl, hX⟩)
  rotate_left
  · gi_wp2
    exact bodyPost_ret (results_none rfl _ _ _) rfl ⟨⟨_, rfl⟩, .inr hX⟩
  obtain ⟨hM3, hB3⟩ := hJM _ _ _ hJ3
  have hF3 := hM W3 hM3
  have A3 : Arr W3 W.heap.size 69 C0 := (hk3 _ hsz (by omega) id).trans AV
  have hT3 := hT.first W3 hM3 hB3
  have cl3 := hF3.list
  have hlen := hF3.msgs.len
  have hnl : nl ≤ 9223372036854775807 := Nat.le_trans hF3.msgs.le hF3.msgs.big
  clear hF0 hF3 AV hbV
  gi_wp2
  gi_loopw [15] (fun d wr => ∃ (j : Nat) (C : Array Value), d = .int .i64 (j : Int) ∧ j ≤ nl ∧ J (j + 1) C wr ∧ T j C wr ∧ Arr wr W.heap.size 69 C) (fun d _ => nl - (intOf d).toNat)
  case atStart => exact ⟨0, C0, rfl, by omega, hJ3, hT3, A3⟩
  case round =>
    obtain ⟨j, C, rfl, hj, hJj, hTj, hAj⟩ := hrel
    clear hJ3 hT3 A3 cl3 hM3 hB3 hk3 hs3 hsV
    obtain ⟨hMr, hBr⟩ := hJM _ _ _ hJj
    have hFr := hM wr hMr
    obtain ⟨hC2, hC3⟩ := hT.size _ _ _ hTj
    by_cases hlt : j < nl
    · have hI : (j : Int) < nl := by omega
      obtain ⟨g, off, e, rfl, he, hce, hBe⟩ := hFr.msgs.get hlt
      have cs := hFr.step
      have hst := hT.step j C e wr W.heap.size C hTj hMr hBr he hlt hAj hsz
      replace he := Hid.mk' he
      gi_wp2_with (first
        | (refine atLi 69 (.tmp 5) ?_; refine ldBw (by rfl) 69 1090 _ (by rfl) W.heap.size 69 (by rfl) C4 hC4 hA5 Try.underlying69 rfl size69N ?_)
        | (refine atLi 69 (.tmp 5) ?_; refine ldBw (by rfl) 69 1090 _ (by rfl) W.heap.size 69 (by rfl) C hC2 hAj Try.underlying69 rfl size69N ?_)
        | (refine ⟨trivial, fun h => (by cases h), ?_⟩; gi_at_call 28; go_must (refine (callsIn_wide.2 hst).mono ?_; rintro r w4 ⟨C4, rfl, hT4, hb4, hA4⟩; obtain ⟨hC4, hC5⟩ := hT.size _ _ _ hT4))
        | (refine atSi 69 (.tmp 5) (.tmp 23) ?_; go_must (refine stBw (by rfl) 69 1090 _ _ (by rfl) W.heap.size 69 C4 C (by rfl) (by rfl) hC4 hC5 hC2 hA4 size69N ?_; have hb5 : Below B wr (w4.setRow W.heap.size C4) := below_setRow hb4 hsz _; have hJ5 := hJB _ _ _ _ hJj hb5; have hA5 : Arr (w4.setRow W.heap.size C4) W.heap.size 69 C4 := hA4.setRow _; have hT5 := hT.stays _ _ w4 (w4.setRow W.heap.size C4) _ _ hT4 hA4 (hJM _ _ _ hJ5).1 (by simp) (fun b _ _ hn => setRow_other _ _ _ _ hn); generalize w4.setRow W.heap.size C4 = w5 at *; clear hJj hTj hAj hT4 hA4 hb4 hb5; obtain ⟨fn, tmps, assign, body, hy, hR⟩ := hY (j + 1) C C4 w5 hJ5 hlt hT5; rw [show ((j + 1 : Nat) : Int) = (j : Int) + 1 by omega] at hy)))
      refine ⟨fun h => (by cases h), hR.mono ?_⟩
      clear hR hy
      rintro r W6 (⟨rfl, hJ6, hs6, hk6⟩ | ⟨rfl, hX⟩)
      · have hM6 := (hJM _ _ _ hJ6).1
        have hA6 : Arr W6 W.heap.size 69 C4 := (hk6 _ hsz hA5.lt id).trans hA5
        have hT6 := hT.stays _ _ w5 W6 _ _ hT5 hA5 hM6 hs6 (fun b h1 h2 _ => hk6 b h1 h2 id)
        gi_wp2
        go_roundw
        case rel => exact ⟨j + 1, C4, by go_num, by omega, hJ6, hT6, hA6⟩
        case measure => simp [intOf]; omega
      · gi_wp2
        exact bodyPost_ret (results_none rfl _ _ _) rfl ⟨⟨_, rfl⟩, .inr hX⟩
    · obtain rfl : j = nl := by omega
      have hI : ¬ (j : Int) < j := by omega
      gi_wp2
      go_end0
      exact ⟨⟨_, rfl⟩, .inl ⟨C, hJj, hTj⟩⟩
end Go.Proofs.Ytbhhbkoikocjgaa
/- Layer spec: the fold, a stand at a time. -/
namespace Go.Proofs.Ytbhhbkoikocjgaa
set_option linter.unusedSectionVars false
set_option maxHeartbeats 1000000
open Go.RowKit Go.Shelf
set_option maxRecDepth 100000
set_option linter.unusedVariables false
set_option linter.unusedSimpArgs false
variable [DecidableEq Ac] [DecidableEq Ou] [DecidableEq Mg]
attribute [local go_sem] Oper.semAt_some


set_option maxHeartbeats 400000 in
theorem fold34_any (sl : Option Addr) (nl cl : Nat) (C : Array Value) (w : World) :
    Calls Try.prog 34 #[.slice sl nl cl, .agg C, .func (Fn.func 35) #[] #[]] w fun e w' => e = .returned (.func (Fn.func 50) #[] #[.pointer (some ⟨w.heap.size + 1, 0, none⟩), .pointer (some ⟨w.heap.size, 0, none⟩), .pointer (some ⟨w.heap.size + 1 + 1, 0, none⟩)]) ∧ w' = ((w.alloc (.cells #[.slice sl nl cl] 31)).alloc (.cells C 82)).alloc (.cells #[.func (Fn.func 35) #[] #[]] 87) := by
  have hmf : ∀ (fn : Fn) (first cap : Array Value) (w : World), (Instr.makeFunc fn first cap).run Try.prog w = .ok (.func fn first cap) w := fun _ _ _ _ => rfl
  go_enter Try.func34, Try.ntmps34
  go_wp2
  go_ret
  exact ⟨rfl, rfl⟩
set_option maxHeartbeats 2000000 in
theorem fold50_in (bf bl bs B : Nat) (C0 : Array Value) (sl : Option Addr) (nl cl : Nat) (es : List Bz) (M : World → Prop) (T : Nat → Array Value → World → Prop) (hM : ∀ W, M W → FoldM bf bl bs B 82 35 C0 sl nl cl es W) (hT : FoldT B 82 1091 35 C0 es nl M T) :
    Teller 50 #[.pointer (some ⟨bf, 0, none⟩), .pointer (some ⟨bl, 0, none⟩), .pointer (some ⟨bs, 0, none⟩)] B M T (fun _ _ => False) nl := by
  intro k lp J X hJM hJB hY W Cp h0
  refine callsIn_of_wp Try.func50 rfl trivial ?_ rfl
  simp only [Try.ntmps50, List.size_toArray, List.length_cons, List.length_nil, Nat.reduceAdd, Nat.reduceSub, Array.replicate_succ, Array.replicate_zero, List.push_toArray, List.append_toArray, List.nil_append, List.cons_append]
  obtain ⟨hM0, hsz⟩ := hJM 0 Cp W h0
  have hF0 := hM W hM0
  obtain ⟨hC0, hC1⟩ := hT.size 0 C0 W (hT.first W hM0 hsz)
  have A0 := hF0.first
  have hz := zeroValue82N
  have hzs := zsize82
  have hbV := alloc_bel' W (.cells C0 82)
  have AV := Arr.new W 82 C0
  have hJV := hJB 0 Cp W _ h0 (hbV.mono hsz)
  have hsV : (W.alloc (.cells C0 82)).heap.size = W.heap.size + 1 := by simp
  have hTV := hT.first _ (hJM _ _ _ hJV).1 (hJM _ _ _ hJV).2
  obtain ⟨fn, tmps, assign, body, hy, hR⟩ := hY 0 Cp C0 _ hJV (Nat.zero_le _) hTV
  rw [show ((0 : Nat) : Int) = 0 from rfl] at hy
  generalize zero82N = Z at hz hzs
  gi_wp2_with (first
    | (refine atLi 82 (.tmp 1) ?_; refine ldBw (by rfl) 82 1091 _ (by rfl) bf 82 (by rfl) C0 hC0 A0 Try.underlying82 rfl size82N ?_)
    | (refine atSi 82 (.tmp 5) (.tmp 8) ?_; refine stBnw (by rfl) 82 1091 _ _ (by rfl) W W.heap.size 82 rfl C0 (by rfl) (by rfl) hC0 hC1 hzs size82N ?_)
    | (refine atLi 82 (.tmp 5) ?_; refine ldBw (by rfl) 82 1091 _ (by rfl) W.heap.size 82 (by rfl) C0 hC0 AV Try.underlying82 rfl size82N ?_))
  refine ⟨fun h => (by cases h), hR.mono ?_⟩
  clear hR hy hJV hTV A0
  rintro r W3 (⟨rfl, hJ3, hs3, hk3⟩ | ⟨rfl, hX⟩)
  rotate_left
  · gi_wp2
    exact bodyPost_ret (results_none rfl _ _ _) rfl ⟨⟨_, rfl⟩, .inr hX⟩
  obtain ⟨hM3, hB3⟩ := hJM _ _ _ hJ3
  have hF3 := hM W3 hM3
  have A3 : Arr W3 W.heap.size 82 C0 := (hk3 _ hsz (by omega) id).trans AV
  have hT3 := hT.first W3 hM3 hB3
  have cl3 := hF3.list
  have hlen := hF3.msgs.len
  have hnl : nl ≤ 9223372036854775807 := Nat.le_trans hF3.msgs.le hF3.msgs.big
  clear hF0 hF3 AV hbV
  gi_wp2
  gi_loopw [15] (fun d wr => ∃ (j : Nat) (C : Array Value), d = .int .i64 (j : Int) ∧ j ≤ nl ∧ J (j + 1) C wr ∧ T j C wr ∧ Arr wr W.heap.size 82 C) (fun d _ => nl - (intOf d).toNat)
  case atStart => exact ⟨0, C0, rfl, by omega, hJ3, hT3, A3⟩
  case round =>
    obtain ⟨j, C, rfl, hj, hJj, hTj, hAj⟩ := hrel
    clear hJ3 hT3 A3 cl3 hM3 hB3 hk3 hs3 hsV
    obtain ⟨hMr, hBr⟩ := hJM _ _ _ hJj
    have hFr := hM wr hMr
    obtain ⟨hC2, hC3⟩ := hT.size _ _ _ hTj
    by_cases hlt : j < nl
    · have hI : (j : Int) < nl := by omega
      obtain ⟨g, off, e, rfl, he, hce, hBe⟩ := hFr.msgs.get hlt
      have cs := hFr.step
      have hst := hT.step j C e wr W.heap.size C hTj hMr hBr he hlt hAj hsz
      replace he := Hid.mk' he
      gi_wp2_with (first
        | (refine atLi 82 (.tmp 5) ?_; refine ldBw (by rfl) 82 1091 _ (by rfl) W.heap.size 82 (by rfl) C4 hC4 hA5 Try.underlying82 rfl size82N ?_)
        | (refine atLi 82 (.tmp 5) ?_; refine ldBw (by rfl) 82 1091 _ (by rfl) W.heap.size 82 (by rfl) C hC2 hAj Try.underlying82 rfl size82N ?_)
        | (refine ⟨trivial, fun h => (by cases h), ?_⟩; gi_at_call 35; go_must (refine (callsIn_wide.2 hst).mono ?_; rintro r w4 ⟨C4, rfl, hT4, hb4, hA4⟩; obtain ⟨hC4, hC5⟩ := hT.size _ _ _ hT4))
        | (refine atSi 82 (.tmp 5) (.tmp 23) ?_; go_must (refine stBw (by rfl) 82 1091 _ _ (by rfl) W.heap.size 82 C4 C (by rfl) (by rfl) hC4 hC5 hC2 hA4 size82N ?_; have hb5 : Below B wr (w4.setRow W.heap.size C4) := below_setRow hb4 hsz _; have hJ5 := hJB _ _ _ _ hJj hb5; have hA5 : Arr (w4.setRow W.heap.size C4) W.heap.size 82 C4 := hA4.setRow _; have hT5 := hT.stays _ _ w4 (w4.setRow W.heap.size C4) _ _ hT4 hA4 (hJM _ _ _ hJ5).1 (by simp) (fun b _ _ hn => setRow_other _ _ _ _ hn); generalize w4.setRow W.heap.size C4 = w5 at *; clear hJj hTj hAj hT4 hA4 hb4 hb5; obtain ⟨fn, tmps, assign, body, hy, hR⟩ := hY (j + 1) C C4 w5 hJ5 hlt hT5; rw [show ((j + 1 : Nat) : Int) = (j : Int) + 1 by omega] at hy)))
      refine ⟨fun h => (by cases h), hR.mono ?_⟩
      clear hR hy
      rintro r W6 (⟨rfl, hJ6, hs6, hk6⟩ | ⟨rfl, hX⟩)
      · have hM6 := (hJM _ _ _ hJ6).1
        have hA6 : Arr W6 W.heap.size 82 C4 := (hk6 _ hsz hA5.lt id).trans hA5
        have hT6 := hT.stays _ _ w5 W6 _ _ hT5 hA5 hM6 hs6 (fun b h1 h2 _ => hk6 b h1 h2 id)
        gi_wp2
        go_roundw
        case rel => exact ⟨j + 1, C4, by go_num, by omega, hJ6, hT6, hA6⟩
        case measure => simp [intOf]; omega
      · gi_wp2
        exact bodyPost_ret (results_none rfl _ _ _) rfl ⟨⟨_, rfl⟩, .inr hX⟩
    · obtain rfl : j = nl := by omega
      have hI : ¬ (j : Int) < j := by omega
      gi_wp2
      go_end0
      exact ⟨⟨_, rfl⟩, .inl ⟨C, hJj, hTj⟩⟩
end Go.Proofs.Ytbhhbkoikocjgaa
/- Layer spec: the value that is told last. -/
namespace Go.Proofs.Ytbhhbkoikocjgaa
set_option linter.unusedSectionVars false
set_option maxHeartbeats 1000000
open Go.RowKit Go.Shelf
set_option maxRecDepth 100000
set_option linter.unusedVariables false
set_option linter.unusedSimpArgs false
variable [DecidableEq Ac] [DecidableEq Ou] [DecidableEq Mg]
attribute [local go_sem] Oper.semAt_some


/-- What stands while last ranges. -/
structure LI30 (w : World) (C : Array Value) (W : World) : Prop where
  bel : Below w.heap.size w W
  res : Arr W w.heap.size 30 zero30N
  fin : Arr W (w.heap.size + 1) 30 C
  sz : C.size = 1089
theorem LI30.below {w : World} {C : Array Value} {W W' : World} (h : LI30 w C W) (hb : Below (w.heap.size + 2) W W') : LI30 w C W' :=
  ⟨h.bel.trans (hb.mono (by omega)), h.res.below hb (by omega), h.fin.below hb (by omega), h.sz⟩
set_option maxHeartbeats 1000000 in
theorem last30_any (lb : Array Value) (nl : Nat) (w : World) (M : World → Prop) (T : Nat → Array Value → World → Prop) (hMB : ∀ W W', M W → Below w.heap.size W W' → M W') (hM0 : M w) (ht : Teller 49 lb (w.heap.size + 4) M T (fun _ _ => False) nl) (hst : Stays (w.heap.size + 4) M T) (hsz : ∀ j C W, T j C W → C.size = 1089 ∧ C.all (·.oneCell') = true) :
    Calls Try.prog 30 #[.func (Fn.func 49) #[] lb] w fun e w' => ∃ C, e = .returned (.agg C) ∧ T nl C w' ∧ Below w.heap.size w w' := by
  refine (callsIn_wide (n := 3)).1 ?_
  refine callsIn_of_wp_marks Try.func30 rfl trivial ?_ rfl
  simp only [Try.ntmps30, List.size_toArray, List.length_cons, List.length_nil, Nat.reduceAdd, Nat.reduceSub, Array.replicate_succ, Array.replicate_zero, List.push_toArray, List.append_toArray, List.nil_append, List.cons_append]
  have hz := zeroValue30N
  have hzs := zsize30
  have hI0 : LI30 w zero30N ((w.alloc (.cells zero30N 30)).alloc (.cells zero30N 30)) := by
    refine ⟨(alloc_bel' w _).alloc (by simp) _, (Arr.new w 30 _).alloc _, ?_, hzs⟩
    have h := Arr.new (w.alloc (.cells zero30N 30)) 30 zero30N
    simp only [World.size_alloc] at h
    exact h
  gi_wp2
  refine range_tell 49 lb (w.heap.size + 2) (by simp) rfl (enters_of Try.func49 (by kernel_rfl) rfl) nl M T (fun _ _ => False) ht hst (fun _ _ _ _ _ h => h.elim) (fun j C W => LI30 w C W) (fun _ _ => False) (fun j C W h => hMB _ _ hM0 h.bel) (fun j C W W' h hb => h.below hb) (fun c W r o h _ => h) zero30N hI0 ?round ?done (fun c W' o h => h.elim)
  case round =>
    intro j Cp C V hI hj hT hsV m
    clear hI0
    obtain ⟨hC, hC1⟩ := hsz j C V hT
    gi_wp2_with (refine atSi 30 (.tmp 5) (.tmp 8) ?_; refine stBnr (by rfl) 30 1089 _ _ (by rfl) V V.heap.size 30 rfl C (by rfl) (by rfl) hC hC1 hzs size30N ?_)
    refine ⟨alloc_bel' V _, fun w2 hb2 hk2 hs2 hI2 hT2 => ?_⟩
    have E2 : Arr w2 V.heap.size 30 C := (hk2 _ (by omega)).trans (Arr.new V 30 C)
    obtain ⟨hbel, A0, A1, hCp⟩ := hI2
    simp only [World.size_alloc] at hs2
    gi_wp2_with (first
      | (refine atLi 30 (.tmp 5) ?_; refine ldBr (by rfl) 30 1089 _ (by rfl) V.heap.size 30 (by rfl) C hC E2 Try.underlying30 rfl size30N ?_)
      | (refine atSi 30 (.tmp 3) (.tmp 9) ?_; refine stBr (by rfl) 30 1089 _ _ (by rfl) (w.heap.size + 1) 30 C Cp (by rfl) (by rfl) hC hC1 hCp A1 size30N ?_))
    exact ⟨⟨below_setRow hbel (by omega) _, A0.setRowOther _ (by omega), A1.setRow _, hC⟩, by simp, fun b h1 h2 _ => setRow_other _ _ _ _ (by omega)⟩
  case done =>
    intro C V o hI hT hsV hdf
    have hI2 := hI.below (bel_put (r := w.heap.size + 2 + 1) (Below.refl (w.heap.size + 2) V) (by omega) o)
    obtain ⟨hC, hC1⟩ := hsz _ C _ hT
    have hdf' : (V.putObj (w.heap.size + 2 + 1) o).heap[w.heap.size + 2]? = some (.deferred (some [])) := (World.putObj_heap_other (by omega)).trans hdf
    have hs2 : (V.putObj (w.heap.size + 2 + 1) o).heap.size = V.heap.size := by simp
    generalize V.putObj (w.heap.size + 2 + 1) o = V2 at *
    obtain ⟨hbel, A0, A1, -⟩ := hI2
    gi_wp2_with (first
      | (refine atLi 30 (.tmp 3) ?_; refine ldBw (by rfl) 30 1089 _ (by rfl) (w.heap.size + 1) 30 (by rfl) C hC A1 Try.underlying30 rfl size30N ?_)
      | (refine atSi 30 (.tmp 2) (.tmp 10) ?_; refine stBw (by rfl) 30 1089 _ _ (by rfl) w.heap.size 30 C zero30N (by rfl) (by rfl) hC hC1 hzs A0 size30N ?_))
    have U2 := A0.setRow C
    have hK : (V2.setRow w.heap.size C).heap[w.heap.size + 2]? = some (.deferred (some [])) := (setRow_other _ _ _ _ (by omega)).trans hdf'
    have hbz := bel_put (r := w.heap.size + 2) (below_setRow hbel (Nat.le_refl _) C) (by omega) (.deferred none)
    have hTz : T nl C ((V2.setRow w.heap.size C).putObj (w.heap.size + 2) (.deferred none)) := hst nl C V2 _ hT (hMB _ _ hM0 hbz) (by simp) (fun b h1 h2 => (World.putObj_heap_other (by omega)).trans (setRow_other _ _ _ _ (by omega)))
    refine ⟨by simp, .inl ⟨_, _, rfl, run_takeDeferred hK, ?_⟩⟩
    exact ⟨_, results_cell_row Try.results30 _ _ w.heap.size 30 C (0, 0) _ rfl (U2.putO _ (by omega)) Try.underlying30 rfl (by rw [hC]; exact size30N), C, rfl, hTz, hbz⟩
end Go.Proofs.Ytbhhbkoikocjgaa

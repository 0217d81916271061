/- NmF, Np. -/
import Derived.Test.YtbhhbkoikocjgaaX34
import Derived.Test.YtbhhbkoikocjgaaX32
import Derived.Test.YtbhhbkoikocjgaaX16
import Derived.Test.YtbhhbkoikocjgaaX37
import Derived.Test.YtbhhbkoikocjgaaX35
import Derived.Test.YtbhhbkoikocjgaaX33
import Derived.Test.YtbhhbkoikocjgaaX18
import Derived.Test.YtbhhbkoikocjgaaX26
/- Layer spec: the Flow of the document. -/
namespace Go.Proofs.Ytbhhbkoikocjgaa
set_option linter.unusedSectionVars false
set_option maxHeartbeats 1000000
open Go.RowKit Go.Shelf
set_option maxRecDepth 100000
set_option linter.unusedVariables false
set_option linter.unusedSimpArgs false


variable [DecidableEq Ac] [DecidableEq Ou] [DecidableEq Mg]
set_option maxHeartbeats 4000000 in
theorem refFlow_any (ps : List Ac) (N : Nat) (sp : Option Addr) (n cap : Nat) (os : List Ou) (sl : Option Addr) (nl cl Nl : Nat) (es : List Bz) (w : World) (hS : SS N w ps sp n cap os) (hL : BL Nl w sl nl cl es) (hNl : Nl ≤ w.heap.size) :
    Calls Try.prog 14 #[.agg (stA ps sp n cap), .slice sl nl cl] w fun r w' => r = .returned (.tuple #[.int .u64 (yR ps os (bzs es) nl).I, .int .u64 (yR ps os (bzs es) nl).U, .int .i64 (xE ps os)]) ∧ Below w.heap.size w w' := by
  have hL := hL.mono hNl
  have hS := hS.here
  have h1 := hS.a32.out
  have h2 := hS.l32
  have hok := hS.ok
  have A0 := Arr.new w 30 (stA ps sp n cap)
  have B0 := alloc_bel' w (.cells (stA ps sp n cap) 30)
  have hrok := rnA_ok (Ls := bzs es) h1 hok.out hS.outs.ok hL.bts
  have hrun := refRun_any ps w.heap.size sp n cap os sl nl cl w.heap.size es (w.alloc (.cells (stA ps sp n cap) 30)) (hS.below B0) (hL.below B0) B0.size
  unfold RunPost at hrun
  have hz30 := zeroValue30
  have hzsz : (stA zs none 0 0).size = 1089 := stA_size zs_len zs_l32
  generalize stA zs none 0 0 = Z at hz30 hzsz
  have hwr : ∀ x : Int, IntKind.u64.wrap x = x % 18446744073709551616 := wrapB
  cases hm : may ps os.length with
  | false =>
    have e1 : yR ps os (bzs es) nl = ⟨zs, [], [], 0, 0⟩ := by unfold yR; rw [hm]; rfl
    have e2 : xE ps os = 2 := by unfold xE; rw [hm]; rfl
    rw [e1, e2] at hrun ⊢
    simp only [] at hrun ⊢
    go_enter Try.func14, Try.ntmps14
    go_upto_region 2 with (first
      | (refine atL 30 (.tmp 2) ?_; refine ld30 (by rfl) _ (by rfl) w.heap.size 30 (by rfl) ps sp n cap h1 h2 A0 ?_)
      | (go_at_call 9; go_must (refine hrun.mono ?_; rintro r w1 ⟨s1, n1, c1, sd, kk, cd, rfl, hst1, hkk, hrow, hb1⟩))
      | (refine atS 30 (.tmp 7) (.tmp 19) ?_; refine st30n (by rfl) _ _ (by rfl) w1 w1.heap.size rfl hzsz zs s1 n1 c1 (by rfl) (by rfl) zs_len zs_l32 ?_))
    obtain rfl : kk = 0 := hkk.out
    have B1 := (B0.trans (hb1.mono B0.size)).alloc (Nat.le_trans B0.size hb1.size) (.cells (stA zs s1 n1 c1) 30)
    generalize w1.alloc (.cells (stA zs s1 n1 c1) 30) = W1 at *
    go_upto_region 4 with fail
    go_loopw [10, 11, 12] (fun x y d wr => x = .int .u64 0 ∧ y = .int .u64 0 ∧ d = .int .i64 0 ∧ Below w.heap.size w wr) (fun _ _ _ _ => 0)
    case atStart => exact ⟨rfl, rfl, rfl, B1⟩
    case round =>
      obtain ⟨rfl, rfl, rfl, hbr⟩ := hrel
      go_wp2_with fail
      exact bodyPost_ret (v := .tuple #[.int .u64 0, .int .u64 0, .int .i64 2]) (res3 Try.results14 rfl rfl rfl) rfl ⟨rfl, hbr⟩
  | true =>
    rw [yR_yes hm, xE_yes hm] at hrun ⊢
    have hq1 := (hrok nl).a32
    have hq2 : ∀ a ∈ (rnA ps os (bzs es) nl).P, a.lk.length = 32 := fun a ha => ((hrok nl).ok a ha).l32
    have hnlb : nl ≤ (bzs es).length := by rw [bzs_len, hL.len.out]; exact Nat.le_refl _
    have hrD := Hid.mk' (rnA_D (ps := ps) (os := os) (Ls := bzs es) nl hnlb)
    have hat := Hid.mk' (fun j L (h : (bzs es)[j]? = some L) (hj : j < nl) => rnA_Dat (ps := ps) (os := os) h nl hj hnlb)
    have hsm := hL.small
    have hnlI : (nl : Int) ≤ 9223372036854775807 := by omega
    clear hnlb
    go_enter Try.func14, Try.ntmps14
    go_upto_region 2 with (first
      | (refine atL 30 (.tmp 2) ?_; refine ld30 (by rfl) _ (by rfl) w.heap.size 30 (by rfl) ps sp n cap h1 h2 A0 ?_)
      | (go_at_call 9; go_must (refine hrun.mono ?_; rintro r w1 ⟨s1, n1, c1, sd, kk, cd, rfl, hst1, hkk, hrow, hb1⟩))
      | (refine atS 30 (.tmp 7) (.tmp 19) ?_; refine st30n (by rfl) _ _ (by rfl) w1 w1.heap.size rfl hzsz (rnA ps os (bzs es) nl).P s1 n1 c1 (by rfl) (by rfl) hq1 hq2 ?_))
    obtain rfl : kk = nl := by rw [hkk.out]; exact hrD.out
    have B1 := (B0.trans (hb1.mono B0.size)).alloc (Nat.le_trans B0.size hb1.size) (.cells (stA (rnA ps os (bzs es) kk).P s1 n1 c1) 30)
    have row1 := own_mono (hrow.alloc (.cells (stA (rnA ps os (bzs es) kk).P s1 n1 c1) 30)) B0.size
    generalize w1.alloc (.cells (stA (rnA ps os (bzs es) kk).P s1 n1 c1) 30) = W1 at *
    clear hst1 hrow hkk hrD hb1 hrun hq1 hq2
    go_upto_region 4 with fail
    go_loopw [10, 11, 12] (fun x y d wr => ∃ j : Nat, x = .int .u64 (rnA ps os (bzs es) j).I ∧ y = .int .u64 (rnA ps os (bzs es) j).U ∧ d = .int .i64 (j : Int) ∧ j ≤ kk ∧ Below w.heap.size w wr ∧ wr.ownsRow w.heap.size 4 1 (.slice sd kk cd) kk (bls (rnA ps os (bzs es) kk).D)) (fun _ _ d _ => kk - (intOf d).toNat)
    case atStart => exact ⟨0, rfl, rfl, rfl, by omega, B1, row1⟩
    case round =>
      obtain ⟨j, rfl, rfl, rfl, hj, hbr, rowr⟩ := hrel
      clear B1 row1
      by_cases hlt : j < kk
      · have hI : (j : Int) < kk := by omega
        have hLr := hL.below hbr
        obtain ⟨g, off, e, rfl, he, hce, hBe⟩ := hLr.get hlt
        have hd := hat.out j e.bs (bzs_get he) hlt
        have hstep := Hid.mk' (rnA_succ (ps := ps) (os := os) (bzs_get he))
        have hgn := refGain_any e.sp e.n e.cap e.bs _ wr hBe
        obtain ⟨gd, rfl⟩ : ∃ gd, sd = some ⟨gd, 0, none⟩ := by
          obtain ⟨-, ⟨-, q⟩ | ⟨g', cap', cur, q, -⟩⟩ := rowr
          · omega
          · simp at q; exact ⟨g', q.1⟩
        have hcd0 : (bls (rnA ps os (bzs es) kk).D)[j]? = some (.bool (xD (rnA ps os (bzs es) j).P (rnA ps os (bzs es) j).O e.bs)) := by
          simp only [bls, List.getElem?_map, hd, Option.map_some]
        have hI1 : Hid ((rnA ps os (bzs es) (j + 1)).I = if xD (rnA ps os (bzs es) j).P (rnA ps os (bzs es) j).O e.bs = true then ((rnA ps os (bzs es) j).I + gI e.bs) % 18446744073709551616 else (rnA ps os (bzs es) j).I) := Hid.mk' (by rw [hstep.out]; rfl)
        have hU1 : Hid ((rnA ps os (bzs es) (j + 1)).U = if xD (rnA ps os (bzs es) j).P (rnA ps os (bzs es) j).O e.bs = true then ((rnA ps os (bzs es) j).U + gO e.bs) % 18446744073709551616 else (rnA ps os (bzs es) j).U) := Hid.mk' (by rw [hstep.out]; rfl)
        clear hstep hd he hBe
        replace hcd0 := Hid.mk' hcd0
        generalize xD (rnA ps os (bzs es) j).P (rnA ps os (bzs es) j).O e.bs = d at *
        generalize gI e.bs = gi at *
        generalize gO e.bs = go at *
        have fin : Hid (∀ w3 : World, Below wr.heap.size wr w3 → Below w.heap.size w w3 ∧ w3.ownsRow w.heap.size 4 1 (.slice (some ⟨gd, 0, none⟩) kk cd) kk (bls (rnA ps os (bzs es) kk).D) ∧ w3.cell? ⟨gd, j, none⟩ = some (.bool d)) := Hid.mk' (fun w3 hb3 => by
          have r3 := own_same rowr (fun b hb => hb3.block b (own_lt rowr hb))
          exact ⟨hbr.trans (hb3.mono hbr.size), r3, (r3.cellAt j (by omega)).trans hcd0.out⟩)
        cases d with
        | true =>
          go_wp2_with (first
            | (go_at_call 36; go_must (refine hgn.mono ?_; rintro r w3 ⟨rfl, hb3⟩; obtain ⟨b3, r3, c3⟩ := fin.out w3 hb3)))
          go_roundw
          case rel => exact ⟨j + 1, by rw [hI1.out]; rfl, by rw [hU1.out]; rfl, by go_num, by omega, b3, r3⟩
          case measure => simp [intOf]; omega
        | false =>
          go_wp2_with (first
            | (go_at_call 36; go_must (refine hgn.mono ?_; rintro r w3 ⟨rfl, hb3⟩; obtain ⟨b3, r3, c3⟩ := fin.out w3 hb3)))
          go_roundw
          case rel => exact ⟨j + 1, by rw [hI1.out]; rfl, by rw [hU1.out]; rfl, by go_num, by omega, b3, r3⟩
          case measure => simp [intOf]; omega
      · obtain rfl : j = kk := by omega
        have hI : ¬ (j : Int) < j := by omega
        go_wp2_with fail
        exact bodyPost_ret (v := .tuple #[.int .u64 (rnA ps os (bzs es) j).I, .int .u64 (rnA ps os (bzs es) j).U, .int .i64 0]) (res3 Try.results14 rfl rfl rfl) rfl ⟨rfl, hbr⟩
end Go.Proofs.Ytbhhbkoikocjgaa
/- Layer spec: the law SpecRuns. -/
namespace Go.Proofs.Ytbhhbkoikocjgaa
set_option linter.unusedSectionVars false
set_option maxHeartbeats 1000000
open Go.RowKit Go.Shelf
set_option maxRecDepth 100000
set_option linter.unusedVariables false
set_option linter.unusedSimpArgs false


variable [DecidableEq Ac] [DecidableEq Ou] [DecidableEq Mg]
theorem yR_ok {ps : List Ac} {os : List Ou} {Ls : List (List Int)} {k : Nat} (h : RnOK (rnA ps os Ls k)) : (yR ps os Ls k).P.length = 32 ∧ (∀ a ∈ (yR ps os Ls k).P, AcOK a) ∧ (∀ o ∈ (yR ps os Ls k).O, OuOK o) := by
  unfold yR
  split
  · exact ⟨h.a32, h.ok, h.ou⟩
  · exact ⟨zs_len, zs_ok, fun o ho => by cases ho⟩
theorem aR_ok {ps : List Ac} {os : List Ou} {Ls : List (List Int)} {nl : Nat} {m : Int} (h : ∀ k, RnOK (rnA ps os Ls k)) : (aR ps os Ls nl m).P.length = 32 ∧ (∀ a ∈ (aR ps os Ls nl m).P, AcOK a) ∧ (∀ o ∈ (aR ps os Ls nl m).O, OuOK o) := by
  unfold aR
  split
  · exact ⟨(h _).a32, (h _).ok, (h _).ou⟩
  · exact ⟨zs_len, zs_ok, fun o ho => by cases ho⟩
/-- A bool of a row of one's own. -/
theorem row_bool {w : World} {base k cd j : Nat} {sd : Option Addr} {D : List Bool} (h : w.ownsRow base 4 1 (.slice sd k cd) k (bls D)) (hj : j < k) : ∃ g b, sd = some ⟨g, 0, none⟩ ∧ k ≤ cd ∧ g < w.heap.size ∧ D[j]? = some b ∧ w.cell? ⟨g, j, none⟩ = some (.bool b) := by
  have h0 := h
  obtain ⟨hl, ⟨-, q⟩ | ⟨g', cap', cur, q, hg, hh, hn, -⟩⟩ := h
  · omega
  · simp at q
    obtain ⟨rfl, rfl⟩ := q
    have hD : j < D.length := by rw [bls_len] at hl; omega
    have hc := h0.cellAt j (by omega)
    have hb : (bls D)[j]? = some (.bool D[j]) := by simp [bls, List.getElem?_eq_getElem hD]
    refine ⟨g', D[j], rfl, hn, ?_, List.getElem?_eq_getElem hD, hc.trans hb⟩
    exact (Array.getElem?_eq_some_iff.1 hh).1
set_option maxHeartbeats 4000000 in
theorem runs_walk (ps : List Ac) (sp : Option Addr) (n cap : Nat) (os : List Ou) (sl : Option Addr) (nl cl : Nat) (es : List Bz) (m : Int) (w : World) (hS : SS w.heap.size w ps sp n cap os) (hL : BL w.heap.size w sl nl cl es) :
    Calls Try.prog 3 #[.agg (stA ps sp n cap), .slice sl nl cl, .int .i64 m] w fun e w' => e = .returned (.bool true) ∧ Below w.heap.size w w' := by
  have h1 := hS.a32.out
  have h2 := hS.l32
  have hz30 := zeroValue30
  have hzsz : (stA zs none 0 0).size = 1089 := stA_size zs_len zs_l32
  generalize stA zs none 0 0 = Z at hz30 hzsz
  have A0 := Arr.new w 30 (stA ps sp n cap)
  have B0 := alloc_bel' w (.cells (stA ps sp n cap) 30)
  have hrok := rnA_ok (Ls := bzs es) h1 hS.ok.out hS.outs.ok hL.bts
  have hR8 := Hid.mk' (fun u (hb : Below w.heap.size w u) => run_any ps w.heap.size sp n cap os sl nl cl w.heap.size es u (hS.below hb) (hL.below hb) hb.size)
  have hR9 := Hid.mk' (fun u (hb : Below w.heap.size w u) => refRun_any ps w.heap.size sp n cap os sl nl cl w.heap.size es u (hS.below hb) (hL.below hb) hb.size)
  have hR11 := Hid.mk' (fun u (hb : Below w.heap.size w u) => after_any ps w.heap.size sp n cap os sl nl cl w.heap.size es m u (hS.below hb) (hL.below hb) hb.size)
  have hR12 := Hid.mk' (fun u (hb : Below w.heap.size w u) => refAfter_any ps w.heap.size sp n cap os sl nl cl w.heap.size es m u (hS.below hb) (hL.below hb) hb.size)
  have hR13 := Hid.mk' (fun u (hb : Below w.heap.size w u) => flow_any ps w.heap.size sp n cap os sl nl cl w.heap.size es u (hS.below hb) (hL.below hb) hb.size)
  have hR14 := Hid.mk' (fun u (hb : Below w.heap.size w u) => refFlow_any ps w.heap.size sp n cap os sl nl cl w.heap.size es u (hS.below hb) (hL.below hb) hb.size)
  obtain ⟨hq1, hq3, -⟩ := yR_ok (hrok nl)
  have hq2 : ∀ a ∈ (yR ps os (bzs es) nl).P, a.lk.length = 32 := fun a ha => (hq3 a ha).l32
  obtain ⟨ha1, ha3, -⟩ := aR_ok (nl := nl) (m := m) hrok
  have ha2 : ∀ a ∈ (aR ps os (bzs es) nl m).P, a.lk.length = 32 := fun a ha => (ha3 a ha).l32
  unfold RunPost at hR8 hR9
  unfold AfterPost at hR11 hR12
  have hdl : Hid ((yR ps os (bzs es) nl).D.length ≤ 140737488351232) := Hid.mk' (by
    unfold yR
    split
    · rw [rnA_D nl (by rw [bzs_len, hL.len.out]; exact Nat.le_refl _)]
      have := hL.small
      omega
    · simp)
  clear hq3 ha3 hrok
  generalize yR ps os (bzs es) nl = R at *
  generalize aR ps os (bzs es) nl m = A at *
  generalize xE ps os = e1 at *
  generalize aE ps os nl m = e2 at *
  have hsR := Hid.mk' (smB_self R.P R.O)
  have hsA := Hid.mk' (smB_self A.P A.O)
  have hee1 : (e1 == e1) = true := by simp
  have hee2 : (e2 == e2) = true := by simp
  have hii : (R.I == R.I) = true := by simp
  have huu : (R.U == R.U) = true := by simp
  generalize R.I = ri at *
  generalize R.U = ru at *
  go_enter Try.func3, Try.ntmps3
  go_upto_region 2 with (first
    | (refine atL 30 (.tmp 3) ?_; refine ld30 (by rfl) _ (by rfl) w.heap.size 30 (by rfl) ps sp n cap h1 h2 A0 ?_)
    | (go_at_call 8; go_must (refine (hR8.out _ B0).mono ?_; rintro r w1 ⟨s1, n1, c1, sd, k, cd, rfl, hst1, hk1, row1, hb1⟩))
    | (refine atS 30 (.tmp 7) (.tmp 28) ?_; refine st30n (by rfl) _ _ (by rfl) w1 w1.heap.size rfl hzsz R.P s1 n1 c1 (by rfl) (by rfl) hq1 hq2 ?_))
  have bb := alloc_bel' w1 (.cells (stA R.P s1 n1 c1) 30)
  have A1 := (A0.below hb1 A0.lt).alloc (.cells (stA R.P s1 n1 c1) 30)
  have B1 := (B0.trans (hb1.mono B0.size)).alloc (Nat.le_trans B0.size hb1.size) (.cells (stA R.P s1 n1 c1) 30)
  have T1 := Arr.new w1 30 (stA R.P s1 n1 c1)
  have S1 := (hst1.ss.below bb).here
  have rowA := own_mono (row1.alloc (.cells (stA R.P s1 n1 c1) 30)) B0.size
  generalize w1.alloc (.cells (stA R.P s1 n1 c1) 30) = W1 at *
  generalize w1.heap.size = G1 at *
  clear hb1 hst1 row1 A0 B0 hR8 bb
  go_upto_region 3 with (first
    | (refine atL 30 (.tmp 3) ?_; refine ld30 (by rfl) _ (by rfl) w.heap.size 30 (by rfl) ps sp n cap h1 h2 A1 ?_)
    | (go_at_call 9; go_must (refine (hR9.out _ B1).mono ?_; rintro r w2 ⟨s2, n2, c2, sd2, k2, cd2, rfl, hst2, hk2, row2, hb2⟩; obtain rfl : k2 = k := by rw [hk2.out, hk1.out]))
    | (refine atS 30 (.tmp 10) (.tmp 35) ?_; refine st30n (by rfl) _ _ (by rfl) w2 w2.heap.size rfl hzsz R.P s2 n2 c2 (by rfl) (by rfl) hq1 hq2 ?_))
  have bb := alloc_bel' w2 (.cells (stA R.P s2 n2 c2) 30)
  have A2 := (A1.below hb2 A1.lt).alloc (.cells (stA R.P s2 n2 c2) 30)
  have B2 := (B1.trans (hb2.mono B1.size)).alloc (Nat.le_trans B1.size hb2.size) (.cells (stA R.P s2 n2 c2) 30)
  have T12 := (T1.below hb2 T1.lt).alloc (.cells (stA R.P s2 n2 c2) 30)
  have T2 := Arr.new w2 30 (stA R.P s2 n2 c2)
  have S12 := ((S1.below hb2).mono hb2.size |>.below bb).here
  have S2 := (hst2.ss.below bb).here
  have rowA2 := (own_same rowA (fun b hb => hb2.block b (own_lt rowA hb))).alloc (.cells (stA R.P s2 n2 c2) 30)
  have rowB := own_mono (row2.alloc (.cells (stA R.P s2 n2 c2) 30)) B1.size
  generalize w2.alloc (.cells (stA R.P s2 n2 c2) 30) = W2 at *
  generalize w2.heap.size = G2 at *
  have hk9 : k2 ≤ 9223372036854775807 := by rw [hk2.out]; exact Nat.le_trans hdl.out (by omega)
  have hkI : (k2 : Int) ≤ 9223372036854775807 := by omega
  clear hb2 hst2 row2 A1 B1 hR9 bb S1 T1 rowA hk1 hk2 hdl
  go_upto_region 6 with (first
    | (refine atL 30 (.tmp 7) ?_; refine ld30 (by rfl) _ (by rfl) G1 30 (by rfl) R.P s1 n1 c1 hq1 hq2 T12 ?_)
    | (refine atL 30 (.tmp 10) ?_; refine ld30 (by rfl) _ (by rfl) G2 30 (by rfl) R.P s2 n2 c2 hq1 hq2 T2 ?_)
    | (go_at_call 10; go_must (refine (refSsame_any R.P _ s1 n1 c1 R.O R.P _ s2 n2 c2 R.O _ S12 S2).mono ?_; rw [hsR.out]; rintro r w3 ⟨rfl, hb3⟩)))
  have A3 := A2.below hb3 A2.lt
  have B3 := B2.trans (hb3.mono B2.size)
  have rowA3 := own_same rowA2 (fun b hb => hb3.block b (own_lt rowA2 hb))
  have rowB3 := own_same rowB (fun b hb => hb3.block b (own_lt rowB hb))
  clear A2 B2 S12 S2 T12 T2 rowA2 rowB hb3
  go_loopw [13] (fun d wr => ∃ j : Nat, d = .int .i64 (j : Int) ∧ j ≤ k2 ∧ Below w3.heap.size w3 wr) (fun d _ => k2 - (intOf d).toNat)
  case atStart => exact ⟨0, rfl, by omega, Below.refl _ _⟩
  case round =>
    obtain ⟨j, rfl, hj, hbr⟩ := hrel
    by_cases hlt : j < k2
    · have hI : (j : Int) < k2 := by omega
      obtain ⟨g1, b1, rfl, hc1, hg1, hD1, hcc1⟩ := row_bool rowA3 hlt
      obtain ⟨g2, b2, rfl, hc2, hg2, hD2, hcc2⟩ := row_bool rowB3 hlt
      obtain rfl : b1 = b2 := by rw [hD1] at hD2; exact Option.some.inj hD2
      have hbb : (b1 == b1) = true := by simp
      have hbb2 : (b1 != b1) = false := by simp
      replace hD1 := Hid.mk' hD1
      replace hD2 := Hid.mk' hD2
      go_upto_region 8 with fail
      refine wp_region_held_drew (S := fun u => Below w3.heap.size w3 u) (by kernel_rfl) (hbr.drew) (fun hHeld => ?_)
      refine wpAnyH_take (i := 0) (oi := ⟨_, _, _, _, _, _⟩) (v := ?_) rfl (by kernel_rfl) (by kernel_rfl) (by kernel_rfl) (fun _ _ _ h => h) (Or.inl ⟨by rfl, ?_⟩) (by assumption) ?_
      rotate_left
      · intro u hSw
        go_simp
        try (with_reducible rfl)
      try simp only [Act.put, List.setIfInBounds_toArray, List.set_cons_zero, List.set_cons_succ]
      refine wpAnyH_take (i := 1) (oi := ⟨_, _, _, _, _, _⟩) (v := ?_) rfl (by kernel_rfl) (by kernel_rfl) (by kernel_rfl) (fun _ _ _ h => h) (Or.inl ⟨by rfl, ?_⟩) (by assumption) ?_
      rotate_left
      · intro u hSw
        go_simp
        try (with_reducible rfl)
      try simp only [Act.put, List.setIfInBounds_toArray, List.set_cons_zero, List.set_cons_succ]
      refine wpAnyH_take (i := 2) (oi := ⟨_, _, _, _, _, _⟩) (v := ?_) rfl (by kernel_rfl) (by kernel_rfl) (by kernel_rfl) (fun _ _ _ h => h) (Or.inl ⟨by rfl, ?_⟩) (by assumption) ?_
      rotate_left
      · intro u hSw
        have cc := (hSw.cell (p := ⟨g1, j, none⟩) hg1).trans hcc1
        go_simp
        try (with_reducible rfl)
      try simp only [Act.put, List.setIfInBounds_toArray, List.set_cons_zero, List.set_cons_succ]
      refine wpAnyH_take (i := 3) (oi := ⟨_, _, _, _, _, _⟩) (v := ?_) rfl (by kernel_rfl) (by kernel_rfl) (by kernel_rfl) (fun _ _ _ h => h) (Or.inl ⟨by rfl, ?_⟩) (by assumption) ?_
      rotate_left
      · intro u hSw
        have cc := (hSw.cell (p := ⟨g1, j, none⟩) hg1).trans hcc1
        go_simp
        try (with_reducible rfl)
      try simp only [Act.put, List.setIfInBounds_toArray, List.set_cons_zero, List.set_cons_succ]
      refine wpAnyH_take (i := 4) (oi := ⟨_, _, _, _, _, _⟩) (v := ?_) rfl (by kernel_rfl) (by kernel_rfl) (by kernel_rfl) (fun _ _ _ h => h) (Or.inl ⟨by rfl, ?_⟩) (by assumption) ?_
      rotate_left
      · intro u hSw
        go_simp
        try (with_reducible rfl)
      try simp only [Act.put, List.setIfInBounds_toArray, List.set_cons_zero, List.set_cons_succ]
      refine wpAnyH_take (i := 5) (oi := ⟨_, _, _, _, _, _⟩) (v := ?_) rfl (by kernel_rfl) (by kernel_rfl) (by kernel_rfl) (fun _ _ _ h => h) (Or.inl ⟨by rfl, ?_⟩) (by assumption) ?_
      rotate_left
      · intro u hSw
        go_simp
        try (with_reducible rfl)
      try simp only [Act.put, List.setIfInBounds_toArray, List.set_cons_zero, List.set_cons_succ]
      refine wpAnyH_take (i := 6) (oi := ⟨_, _, _, _, _, _⟩) (v := ?_) rfl (by kernel_rfl) (by kernel_rfl) (by kernel_rfl) (fun _ _ _ h => h) (Or.inl ⟨by rfl, ?_⟩) (by assumption) ?_
      rotate_left
      · intro u hSw
        have cc := (hSw.cell (p := ⟨g2, j, none⟩) hg2).trans hcc2
        go_simp
        try (with_reducible rfl)
      try simp only [Act.put, List.setIfInBounds_toArray, List.set_cons_zero, List.set_cons_succ]
      refine wpAnyH_take (i := 7) (oi := ⟨_, _, _, _, _, _⟩) (v := ?_) rfl (by kernel_rfl) (by kernel_rfl) (by kernel_rfl) (fun _ _ _ h => h) (Or.inl ⟨by rfl, ?_⟩) (by assumption) ?_
      rotate_left
      · intro u hSw
        have cc := (hSw.cell (p := ⟨g2, j, none⟩) hg2).trans hcc2
        go_simp
        try (with_reducible rfl)
      try simp only [Act.put, List.setIfInBounds_toArray, List.set_cons_zero, List.set_cons_succ]
      refine wpAnyH_take (i := 8) (oi := ⟨_, _, _, _, _, _⟩) (v := ?_) rfl (by kernel_rfl) (by kernel_rfl) (by kernel_rfl) (fun _ _ _ h => h) (Or.inl ⟨by rfl, ?_⟩) (by assumption) ?_
      rotate_left
      · intro u hSw
        go_simp
        try (with_reducible rfl)
      try simp only [Act.put, List.setIfInBounds_toArray, List.set_cons_zero, List.set_cons_succ]
      refine wpAnyH_done (by kernel_rfl) ?_ _
      go_wp2_with fail
      go_roundw
      case rel => exact ⟨j + 1, by go_num, by omega, hHeld⟩
      case measure => simp [intOf]; omega
    · obtain rfl : j = k2 := by omega
      have hI : ¬ (j : Int) < j := by omega
      have A4 := A3.below hbr A3.lt
      have B4 := B3.trans (hbr.mono B3.size)
      clear A3 B3 rowA3 rowB3 hbr
      go_upto_region 11 with (first
        | (refine atL 30 (.tmp 3) ?_; refine ld30 (by rfl) _ (by rfl) w.heap.size 30 (by rfl) ps sp n cap h1 h2 A4 ?_)
        | (go_at_call 11; go_must (refine (hR11.out _ B4).mono ?_; rintro r w5 ⟨s5, n5, c5, rfl, hst5, hb5⟩))
        | (refine atS 30 (.tmp 14) (.tmp 74) ?_; refine st30n (by rfl) _ _ (by rfl) w5 w5.heap.size rfl hzsz A.P s5 n5 c5 (by rfl) (by rfl) ha1 ha2 ?_))
      have bb := alloc_bel' w5 (.cells (stA A.P s5 n5 c5) 30)
      have A5 := (A4.below hb5 A4.lt).alloc (.cells (stA A.P s5 n5 c5) 30)
      have B5 := (B4.trans (hb5.mono B4.size)).alloc (Nat.le_trans B4.size hb5.size) (.cells (stA A.P s5 n5 c5) 30)
      have T5 := Arr.new w5 30 (stA A.P s5 n5 c5)
      have S5 := (hst5.ss.below bb).here
      generalize w5.alloc (.cells (stA A.P s5 n5 c5) 30) = W5 at *
      generalize w5.heap.size = G5 at *
      clear hb5 hst5 A4 B4 hR11 bb
      go_upto_region 12 with (first
        | (refine atL 30 (.tmp 3) ?_; refine ld30 (by rfl) _ (by rfl) w.heap.size 30 (by rfl) ps sp n cap h1 h2 A5 ?_)
        | (go_at_call 12; go_must (refine (hR12.out _ B5).mono ?_; rintro r w6 ⟨s6, n6, c6, rfl, hst6, hb6⟩))
        | (refine atS 30 (.tmp 16) (.tmp 81) ?_; refine st30n (by rfl) _ _ (by rfl) w6 w6.heap.size rfl hzsz A.P s6 n6 c6 (by rfl) (by rfl) ha1 ha2 ?_))
      have bb := alloc_bel' w6 (.cells (stA A.P s6 n6 c6) 30)
      have A6 := (A5.below hb6 A5.lt).alloc (.cells (stA A.P s6 n6 c6) 30)
      have B6 := (B5.trans (hb6.mono B5.size)).alloc (Nat.le_trans B5.size hb6.size) (.cells (stA A.P s6 n6 c6) 30)
      have T56 := (T5.below hb6 T5.lt).alloc (.cells (stA A.P s6 n6 c6) 30)
      have T6 := Arr.new w6 30 (stA A.P s6 n6 c6)
      have S56 := ((S5.below hb6).mono hb6.size |>.below bb).here
      have S6 := (hst6.ss.below bb).here
      generalize w6.alloc (.cells (stA A.P s6 n6 c6) 30) = W6 at *
      generalize w6.heap.size = G6 at *
      clear hb6 hst6 A5 B5 hR12 bb T5 S5
      go_upto_region 13 with (first
        | (refine atL 30 (.tmp 3) ?_; refine ld30 (by rfl) _ (by rfl) w.heap.size 30 (by rfl) ps sp n cap h1 h2 A6 ?_)
        | (go_at_call 13; go_must (refine (hR13.out _ B6).mono ?_; rintro r w7 ⟨rfl, hb7⟩)))
      have A7 := A6.below hb7 A6.lt
      have B7 := B6.trans (hb7.mono B6.size)
      have T57 := T56.below hb7 T56.lt
      have T67 := T6.below hb7 T6.lt
      have S57 := (S56.below hb7).mono hb7.size
      have S67 := (S6.below hb7).mono hb7.size
      clear hb7 A6 B6 T56 T6 S56 S6 hR13
      go_upto_region 14 with (first
        | (refine atL 30 (.tmp 3) ?_; refine ld30 (by rfl) _ (by rfl) w.heap.size 30 (by rfl) ps sp n cap h1 h2 A7 ?_)
        | (go_at_call 14; go_must (refine (hR14.out _ B7).mono ?_; rintro r w8 ⟨rfl, hb8⟩)))
      have B8 := B7.trans (hb8.mono B7.size)
      have T58 := T57.below hb8 T57.lt
      have T68 := T67.below hb8 T67.lt
      have S58 := (S57.below hb8).mono hb8.size
      have S68 := (S67.below hb8).mono hb8.size
      clear hb8 A7 B7 T57 T67 S57 S67 hR14
      go_wp2_with (first
        | (refine atL 30 (.tmp 14) ?_; refine ld30 (by rfl) _ (by rfl) G5 30 (by rfl) A.P s5 n5 c5 ha1 ha2 T58 ?_)
        | (refine atL 30 (.tmp 16) ?_; refine ld30 (by rfl) _ (by rfl) G6 30 (by rfl) A.P s6 n6 c6 ha1 ha2 T68 ?_)
        | (go_at_call 10; go_must (refine (refSsame_any A.P _ s5 n5 c5 A.O A.P _ s6 n6 c6 A.O _ S58 S68).mono ?_; rw [hsA.out]; rintro r w9 ⟨rfl, hb9⟩; have B9 := B8.trans (hb9.mono B8.size)))
        | (go_at_call 15; go_must (refine (anchored_any _).mono ?_; rintro r w10 ⟨rfl, hb10⟩; have B10 := B9.trans (hb10.mono B9.size))))
      go_ret
      exact ⟨rfl, B10⟩
end Go.Proofs.Ytbhhbkoikocjgaa

/- NhC, Mc, ZMa, ZTk, ZTl, ZMc. -/
import Derived.Test.YtbhhbkoikocjgaaX27
import Derived.Test.YtbhhbkoikocjgaaX01
import Derived.Test.YtbhhbkoikocjgaaX02
import Derived.Test.YtbhhbkoikocjgaaX03
import Derived.Test.YtbhhbkoikocjgaaX04
import Derived.Test.YtbhhbkoikocjgaaX05
import Derived.Test.YtbhhbkoikocjgaaX06
import Derived.Test.YtbhhbkoikocjgaaX07
import Derived.BigQuiet
import Derived.BigRegion
import Derived.ChangeKeysEq
import Derived.ChangeOld
import Derived.Deep.DeepCutAuto
import Derived.Deep.DrawnRows
import Derived.Deep.MidRow
import Derived.Deep.QuietTactic
import Derived.Deep.RegionHeld3
import Derived.Deep.RegionLaw
import Derived.Deep.RegionWith
import Derived.Deep.WholeRow
import Derived.JoinedTies
import Derived.KernelRfl
import Derived.Laws.AppendOwnNone
import Derived.Laws.BitsLemmas
import Derived.Laws.BytesArg
import Derived.Laws.CopyOwn
import Derived.Lib.SlBytesConst
import Derived.OpenShut
import Derived.ProofKit
import Derived.ShutString
import Derived.SizedLaws
import Derived.WalkKit
import Derived.WalkLawsBesides
import Derived.WalkSpells
import GoSem.Claim
import GoSem.ClaimJoined
import GoSem.ClaimMapViews
import Derived.Test.YtbhhbkoikocjgaaX11
import Derived.Test.YtbhhbkoikocjgaaX08
import Derived.Test.YtbhhbkoikocjgaaX19
/- Layer spec: a run with what did something, one message on. -/
namespace Go.Proofs.Ytbhhbkoikocjgaa
set_option linter.unusedSectionVars false
set_option maxHeartbeats 1000000
open Go.RowKit Go.Shelf
set_option maxRecDepth 100000
set_option linter.unusedVariables false
set_option linter.unusedSimpArgs false


variable [DecidableEq Ac] [DecidableEq Ou] [DecidableEq Mg]
/-- A load of the state in a course, in a flow. -/
theorem ldC {ops : Array Oper} {rest : List Oper} {o : Oper} {a : Act} {w : World} {Q : Exit → Act → World → Prop} (hgd : o.guard = none) (x : Operand) (ho : o.op = .load 30 x)
    (g : Nat) (hx : a.eval x = .pointer (some ⟨g, 0, none⟩)) (ps : List Ac) (sp : Option Addr) (n cap : Nat) (h1 : ps.length = 32) (h2 : ∀ a ∈ ps, a.lk.length = 32) (hA : w.rangeAt g 0 (stC ps sp n cap))
    (h : wpList Try.prog ops Q rest (a.put o.dst (.agg (stA ps sp n cap))) w) : wpList Try.prog ops Q (o :: rest) a w :=
  wpList_load_mid hgd 30 x ho g 0 hx (stC ps sp n cap) _ hA Try.underlying30 rfl (by rw [stC_len h1 h2]; exact size30) h
set_option maxHeartbeats 2000000 in
theorem with28_any (ps : List Ac) (N : Nat) (sp : Option Addr) (n cap : Nat) (os : List Ou) (sb : Option Addr) (nb cb : Nat) (L : List Int) (Nb : Nat) (sd : Option Addr) (k cd base : Nat) (D : List Bool) (w : World) (hS : SS N w ps sp n cap os) (hL : BS Nb w sb nb cb L) (hR : w.ownsRow base 4 1 (.slice sd k cd) k (bls D)) (hk : k + 1 ≤ 140737488355328) (hbase : base ≤ w.heap.size) :
    Calls Try.prog 28 #[.agg (crA ps sp n cap (.slice sd k cd)), .slice sb nb cb] w fun r w' => ∃ s n c sd' cd', r = .returned (.agg (crA (xP ps os L) s n c (.slice sd' (k + 1) cd'))) ∧ Hid (n = (xO ps os L).length) ∧ w'.ownsRow w.heap.size 66 2 (.slice s n c) n (ouF (xO ps os L)) ∧ w'.ownsRow base 4 1 (.slice sd' (k + 1) cd') (k + 1) (bls (D ++ [xD ps os L])) ∧ Chg (fun b => (Value.slice sd k cd).ownBlock = some b) w w' := by
  have hS := hS.here
  have hL := hL.here
  have h1 := hS.a32.out
  have h2 := hS.l32
  have A0 := (Arr.new w 69 (crA ps sp n cap (.slice sd k cd))).alloc (.cells zero69N 69)
  have R0 : Arr ((w.alloc (.cells (crA ps sp n cap (.slice sd k cd)) 69)).alloc (.cells zero69N 69)) (w.heap.size + 1) 69 zero69N := by simpa using Arr.new (w.alloc (.cells (crA ps sp n cap (.slice sd k cd)) 69)) 69 zero69N
  have B0 := (alloc_bel' w (.cells (crA ps sp n cap (.slice sd k cd)) 69)).alloc (by simp) (.cells zero69N 69)
  have hz30 := zeroValue30N
  have hz69 := zeroValue69N
  have hzsz := zsize30
  have hzs69 := zsize69
  generalize zero30N = Z0 at hz30 hzsz
  generalize zero69N = Z at A0 R0 B0 hz69 hzs69
  have hD := Hid.mk' (fun u h h' => delta_x ps w.heap.size sp n cap os sb nb cb L w.heap.size u h h')
  obtain ⟨hq1, hq3, -⟩ := xP_ok (os := os) hL.bts h1 hS.ok.out hS.outs.ok
  have hq2 : ∀ a ∈ xP ps os L, a.lk.length = 32 := fun a ha => (hq3 a ha).l32
  unfold DX at hD
  generalize xP ps os L = Q at *
  generalize xO ps os L = O at *
  generalize xD ps os L = d at *
  generalize xE ps os = e at *
  go_enter Try.func28, Try.ntmps28
  go_upto_region 1 with fail
  generalize (w.alloc (.cells (crA ps sp n cap (.slice sd k cd)) 69)).alloc (.cells Z 69) = V at A0 R0 B0 ⊢
  have hVz := R0.lt
  have hVs := B0.size
  have hRV := own_same hR (fun b hb => B0.block b (own_lt hR hb))
  have G0 := A0.crS
  go_upto_region 2 with (first
    | (refine atL 30 (.tmp 9) ?_; refine ldC (by rfl) _ (by rfl) w.heap.size (by rfl) ps sp n cap h1 h2 G0 ?_)
    | (go_at_call 46; go_must (refine (hD.out _ (hS.below B0) (hL.below B0)).mono ?_; rintro r w1 ⟨s1, n1, c1, rfl, S1, own1, hb1⟩))
    | (refine atS 30 (.tmp 5) (.tmp 13) ?_; refine st30n (by rfl) _ _ (by rfl) w1 w1.heap.size rfl hzsz Q s1 n1 c1 (by rfl) (by rfl) hq1 hq2 ?_))
  have hz1 := hb1.size
  have bb1 := alloc_bel' w1 (.cells (stA Q s1 n1 c1) 30)
  have R1 := ((R0.below hb1 R0.lt).alloc (.cells (stA Q s1 n1 c1) 30)).drew
  have T1 := (Arr.new w1 30 (stA Q s1 n1 c1)).drew
  have A1 := ((A0.below hb1 A0.lt).alloc (.cells (stA Q s1 n1 c1) 30)).drew
  have B1 := ((B0.trans (hb1.mono B0.size)).alloc (Nat.le_trans B0.size hb1.size) (.cells (stA Q s1 n1 c1) 30)).drew
  have own2 := (own1.alloc (.cells (stA Q s1 n1 c1) 30)).drew
  have hR1 := (own_same hRV (w' := (w1.alloc (.cells (stA Q s1 n1 c1) 30)).drew) (fun b hb => ((bb1.mono hz1).drew.block b (own_lt hRV hb)).trans (hb1.block b (own_lt hRV hb))))
  have hn1 := S1.outs.len
  have hW1 : w1.heap.size + 1 ≤ (w1.alloc (.cells (stA Q s1 n1 c1) 30)).drew.heap.size := by simp
  have hW2 : (w1.alloc (.cells (stA Q s1 n1 c1) 30)).drew.heap.size ≤ w1.heap.size + 1 := by simp
  have cD := A1.crD h1 h2
  have hown0 := own_ge own2
  have hrow := fun (b : Nat) => own_lt (b := b) hR
  clear G0 S1 own1 hb1 bb1 hRV A0 R0
  refine wp_region_held_drew (S := fun u => Arr u w1.heap.size 30 (stA Q s1 n1 c1) ∧ u.cell? ⟨w.heap.size, 1089, none⟩ = some (.slice sd k cd)) (by kernel_rfl) (⟨T1, cD⟩) (fun hHeld => ?_)
  generalize (w1.alloc (.cells (stA Q s1 n1 c1) 30)).drew = W1 at *
  generalize w1.heap.size = G1 at *
  refine wpAnyH_take (i := 0) (oi := ⟨_, _, _, _, _, _⟩) rfl (by kernel_rfl) (by kernel_rfl) (by kernel_rfl) (fun _ _ _ h => h) (y30 (by rfl) (.tmp 5) rfl G1 30 rfl Q s1 n1 c1 hq1 hq2 (fun u hu => hu.1)) (by assumption) ?_
  try simp only [Act.put, List.setIfInBounds_toArray, List.set_cons_zero, List.set_cons_succ]
  refine wpAnyH_take (i := 1) (oi := ⟨_, _, _, _, _, _⟩) (v := ?_) rfl (by kernel_rfl) (by kernel_rfl) (by kernel_rfl) (fun _ _ _ h => h) (Or.inl ⟨by rfl, ?_⟩) (by assumption) ?_
  rotate_left
  · intro u hSw
    go_simp
    try (with_reducible rfl)
  try simp only [Act.put, List.setIfInBounds_toArray, List.set_cons_zero, List.set_cons_succ]
  refine wpAnyH_take (i := 2) (oi := ⟨_, _, _, _, _, _⟩) (v := ?_) rfl (by kernel_rfl) (by kernel_rfl) (by kernel_rfl) (fun _ _ _ h => h) (Or.inl ⟨by rfl, ?_⟩) (by assumption) ?_
  rotate_left
  · intro u hSw
    have cc := hSw.2
    go_simp
    try (with_reducible rfl)
  try simp only [Act.put, List.setIfInBounds_toArray, List.set_cons_zero, List.set_cons_succ]
  refine wpAnyH_take (i := 3) (oi := ⟨_, _, _, _, _, _⟩) (v := ?_) rfl (by kernel_rfl) (by kernel_rfl) (by kernel_rfl) (fun _ _ _ h => h) (Or.inl ⟨by rfl, ?_⟩) (by assumption) ?_
  rotate_left
  · intro u hSw
    go_simp
    try (with_reducible rfl)
  try simp only [Act.put, List.setIfInBounds_toArray, List.set_cons_zero, List.set_cons_succ]
  refine wpAnyH_ready (rs := [4]) (by kernel_rfl) (by simp) ?_
  refine AllReadyH.cons (o := ⟨_, _, _, _, _, _⟩) rfl (fun K hK => ?_) AllReadyH.nil
  have b2 := alloc_bel' W1 (.cells #[.bool d] 4)
  have T2 := T1.alloc (.cells #[.bool d] 4)
  have E2 := Arr.new W1 4 #[.bool d]
  have A2 := A1.alloc (.cells #[.bool d] 4)
  have R2 := R1.alloc (.cells #[.bool d] 4)
  have own3 := own2.alloc (.cells #[.bool d] 4)
  have hR2 := hR1.alloc (.cells #[.bool d] 4)
  have cD2 := A2.crD h1 h2
  have B2 := B1.trans (b2.mono (by omega))
  go_simp
  go_wp2_with fail
  refine hK.out _ _ ⟨T2, cD2⟩ (fun hHeld => ?_)
  clear hK K
  try simp only [Act.put, List.setIfInBounds_toArray, List.set_cons_zero, List.set_cons_succ]
  have hs2 : W1.heap.size ≤ (W1.alloc (.cells #[.bool d] 4)).heap.size := by simp
  refine wpAnyH_ready (rs := [5]) (by kernel_rfl) (by simp) ?_
  refine AllReadyH.cons (o := ⟨_, _, _, _, _, _⟩) rfl (fun K hK => ?_) AllReadyH.nil
  refine step_want rfl (wp_ap4 (.tmp 18) (.tmp 20) rfl base _ k D rfl hR2 W1.heap.size d rfl E2 hk (by omega) ?_)
  intro v3 W3 hR3 hg3
  obtain ⟨gd, cd3, rfl⟩ := own_some hR3
  have hne : ∀ g ty C, Arr (W1.alloc (.cells #[.bool d] 4)) g ty C → ty ≠ 4 → some g ≠ (Value.slice sd k cd).ownBlock := fun g ty C hA hty he => own_other hR2 hA hty g he.symm rfl
  have T3 := T2.grown hg3 (hne _ _ _ T2 (by decide))
  have A3 := A2.grown hg3 (hne _ _ _ A2 (by decide))
  have R3 := R2.grown hg3 (hne _ _ _ R2 (by decide))
  have own4 : W3.ownsRow V.heap.size 66 2 (.slice s1 n1 c1) n1 (ouF O) := own_same own3 (fun b hb => hg3.block b (own_lt own3 hb) (fun e => by
    have hlt := hrow b e.symm
    have hge := hown0 b hb
    omega))
  have C3 : Chg (fun b => (Value.slice sd k cd).ownBlock = some b) w W3 := (Chg.of_below B2).grown hg3 (fun b _ h => h)
  refine hK.out _ _ ⟨T3, A3.crD h1 h2⟩ (fun hHeld => ?_)
  clear hK K
  try simp only [Act.put, List.setIfInBounds_toArray, List.set_cons_zero, List.set_cons_succ]
  refine wpAnyH_take (i := 6) (oi := ⟨_, _, _, _, _, _⟩) rfl (by kernel_rfl) (by kernel_rfl) (by kernel_rfl) (fun _ _ _ h => h) (y_bd (by rfl) 69 _ rfl (by rfl) (built69 hq1 hq2)) (by assumption) ?_
  try simp only [Act.put, List.setIfInBounds_toArray, List.set_cons_zero, List.set_cons_succ]
  have hC := crA_size (sp := s1) (n := n1) (cap := c1) (v := .slice (some ⟨gd, 0, none⟩) (k + 1) cd3) hq1 hq2
  have hC1 := crA_one Q s1 n1 c1 (some ⟨gd, 0, none⟩) (k + 1) cd3
  have hgd := own_other hR3 R3 (by decide) gd rfl
  have C4 : Chg (fun b => (Value.slice sd k cd).ownBlock = some b) w (W3.setRow (w.heap.size + 1) (crA Q s1 n1 c1 (.slice (some ⟨gd, 0, none⟩) (k + 1) cd3))) := ⟨C3.os, C3.tape, C3.output, by simpa using C3.size, fun b hb hn => (setRow_other _ _ _ _ (by omega)).trans (C3.block b hb hn)⟩
  have T4 := T3.setRowOther (k := w.heap.size + 1) (crA Q s1 n1 c1 (.slice (some ⟨gd, 0, none⟩) (k + 1) cd3)) (by omega)
  have A4 := A3.setRowOther (k := w.heap.size + 1) (crA Q s1 n1 c1 (.slice (some ⟨gd, 0, none⟩) (k + 1) cd3)) (by omega)
  have own5 := own_row own4 (crA Q s1 n1 c1 (.slice (some ⟨gd, 0, none⟩) (k + 1) cd3)) (show w.heap.size + 1 < V.heap.size by omega)
  have hR4 := own_same hR3 (w' := W3.setRow (w.heap.size + 1) (crA Q s1 n1 c1 (.slice (some ⟨gd, 0, none⟩) (k + 1) cd3))) (fun b hb => setRow_other _ _ _ _ (fun e => by
    simp [Value.ownBlock] at hb
    exact hgd (by omega)))
  have R4 := R3.setRow (crA Q s1 n1 c1 (.slice (some ⟨gd, 0, none⟩) (k + 1) cd3))
  refine wpAnyH_ready (rs := [7]) (by kernel_rfl) (by simp) ?_
  refine AllReadyH.cons (o := ⟨_, _, _, _, _, _⟩) rfl (fun K hK => ?_) AllReadyH.nil
  refine step_want rfl (wp_store_row 69 (.tmp 4) (.tmp 22) rfl (w.heap.size + 1) (crA Q s1 n1 c1 (.slice (some ⟨gd, 0, none⟩) (k + 1) cd3)) rfl rfl 69 _ R3 (by rw [hC]; exact size69N) (by rw [hC, hzs69]) hC1 ?_)
  refine hK.out _ _ ⟨T4, A4.crD h1 h2⟩ (fun hHeld => ?_)
  clear hK K
  try simp only [Act.put, List.setIfInBounds_toArray, List.set_cons_zero, List.set_cons_succ]
  refine wpAnyH_done (by kernel_rfl) ?_ _
  go_wp2_with fail
  exact bodyPost_ret (v := .agg (crA Q s1 n1 c1 (.slice (some ⟨gd, 0, none⟩) (k + 1) cd3))) (results_cell_row Try.results28 _ _ (w.heap.size + 1) 69 _ (0, 0) _ rfl R4 Try.underlying69 rfl (by rw [hC]; exact size69N)) rfl ⟨s1, n1, c1, _, _, rfl, hn1, own_mono own5 (by omega), hR4, C4⟩
end Go.Proofs.Ytbhhbkoikocjgaa
/- Layer spec: what the layers below give. -/
namespace Go.Proofs.Ytbhhbkoikocjgaa
set_option linter.unusedSectionVars false
set_option maxHeartbeats 1000000
open Go.RowKit
set_option maxRecDepth 100000
set_option linter.unusedVariables false
set_option linter.unusedSimpArgs false

variable [DecidableEq Ac] [DecidableEq Ou] [DecidableEq Mg]
theorem i64_and1 (n : Int) : bits .and .i64 n 1 = n % 2 := by
  have h1 : (BitVec.ofInt 64 1).toNat = 2 ^ 1 - 1 := by decide
  have key : (BitVec.ofInt 64 n &&& BitVec.ofInt 64 1).toNat = (n % ((2 ^ 64 : Nat) : Int)).toNat % 2 ^ 1 := by
    rw [BitVec.toNat_and, BitVec.toNat_ofInt, h1, Nat.and_two_pow_sub_one_eq_mod]
  show IntKind.i64.wrap ((BitVec.ofInt 64 n &&& BitVec.ofInt 64 1).toNat : Nat) = n % 2
  rw [key, IntKind.wrap_i64]
  omega
theorem pow16 {d : Nat} (h : d ≤ 16) : 2 ^ d ≤ 65536 := Nat.pow_le_pow_right (n := 2) (by omega) h
theorem powc (d : Nat) : ((2 : Int) ^ d) = ((2 ^ d : Nat) : Int) := (Int.natCast_pow 2 d).symm
theorem wrap_pow {d : Nat} (h : d ≤ 16) : wrap64 ((2 : Int) ^ d) = ((2 ^ d : Nat) : Int) := by
  have := pow16 h
  rw [powc]
  generalize 2 ^ d = p at *
  unfold wrap64; omega
/-- A sum out of memory. -/
theorem ld24 {ops : Array Oper} {rest : List Oper} {o : Oper} {a : Act} {w : World} {Q : Exit → Act → World → Prop} (hgd : o.guard = none) (x : Operand) (ho : o.op = .load 24 x)
    (b off : Nat) (hx : a.eval x = .pointer (some ⟨b, off, none⟩)) (X : List Int) (hX : X.length = 32) (hc : w.rangeAt b off (by8 X))
    (h : wpList Try.prog ops Q rest (a.put o.dst (.agg (h8 X))) w) : wpList Try.prog ops Q (o :: rest) a w :=
  wpList_load_mid hgd 24 x ho b off hx (by8 X) _ hc Try.underlying24 rfl (by rw [by8_len, hX]; exact size24) h
/-- A sum into a block of its own. -/
theorem st24 {ops : Array Oper} {rest : List Oper} {o : Oper} {a : Act} {w : World} {Q : Exit → Act → World → Prop} (hgd : o.guard = none) (x y : Operand) (ho : o.op = .store 24 x y)
    (g : Nat) (X Y : List Int) (hx : a.eval x = .pointer (some ⟨g, 0, none⟩)) (hy : a.eval y = .agg (h8 X)) (hX : X.length = 32) (hY : Y.length = 32) (hg : Arr w g 24 (h8 Y))
    (h : wpList Try.prog ops Q rest (a.put o.dst undef) (w.setRow g (h8 X))) : wpList Try.prog ops Q (o :: rest) a w :=
  wpList_store_arr hgd 24 x y ho g (h8 X) hx hy 24 _ hg (s24h8 hX) (by rw [h8_size, h8_size, hX, hY]) (h8_one X) h
/-- .. into the newest block. -/
theorem st24n {ops : Array Oper} {rest : List Oper} {o : Oper} {a : Act} {Q : Exit → Act → World → Prop} (hgd : o.guard = none) (x y : Operand) (ho : o.op = .store 24 x y) (W : World) (g : Nat) (hgW : W.heap.size = g) {z : Array Value} (hz : z.size = 32)
    (X : List Int) (hx : a.eval x = .pointer (some ⟨g, 0, none⟩)) (hy : a.eval y = .agg (h8 X)) (hX : X.length = 32)
    (h : wpList Try.prog ops Q rest (a.put o.dst undef) (W.alloc (.cells (h8 X) 24))) : wpList Try.prog ops Q (o :: rest) a (W.alloc (.cells z 24)) := by
  subst hgW
  exact wpList_store_new W z 24 hgd 24 x y ho (h8 X) hx hy (s24h8 hX) (by rw [hz, h8_size, hX]) (h8_one X) h
/-- What is returned out of a block. -/
theorem res24 {f : Func} {w : World} {tmps : Array Value} {g t : Nat} {X : List Int} (hf : f.results = #[.cell t 24]) (hp : tmps.getD t undef = .pointer (some ⟨g, 0, none⟩)) (hX : X.length = 32) (hA : Arr w g 24 (h8 X)) :
    (results f tmps).run Try.prog w = .ok (.agg (h8 X)) w := results_cell_row hf _ _ g 24 _ (0, 0) _ hp hA Try.underlying24 rfl (s24h8 hX)
theorem resP {f : Func} {w : World} {tmps : Array Value} {g t k : Nat} {X : List Int} {v : Value} (hf : f.results = #[.cell t 24, .tmp k]) (hp : tmps.getD t undef = .pointer (some ⟨g, 0, none⟩)) (hk : tmps.getD k undef = v) (hX : X.length = 32) (hA : Arr w g 24 (h8 X)) :
    (results f tmps).run Try.prog w = .ok (.tuple #[.agg (h8 X), v]) w := by
  have hl := run_loadVar_mid (P := Try.prog) w g 0 24 (by8 X) _ hA.range Try.underlying24 rfl (by rw [by8_len, hX]; exact size24)
  have hp' : tmps[t]?.getD undef = .pointer (some ⟨g, 0, none⟩) := by simpa using hp
  have hk' : tmps[k]?.getD undef = v := by simpa using hk
  simp [results, hf, hp', hk', asAddr, hl, h8]
end Go.Proofs.Ytbhhbkoikocjgaa
/- Layer spec: what the layers below give. -/
namespace Go.Proofs.Ytbhhbkoikocjgaa
set_option linter.unusedSectionVars false
set_option maxHeartbeats 1000000
open Go.RowKit
set_option maxRecDepth 100000
set_option linter.unusedVariables false
set_option linter.unusedSimpArgs false

variable [DecidableEq Ac] [DecidableEq Ou] [DecidableEq Mg]
theorem pr_len (x y : List Int) : (pr x y).length = 32 := shl_len _
theorem tr_len (d : Nat) : ∀ l : List (List Int), (∀ x ∈ l, x.length = 32) → (tr d l).length = 32 := by
  cases d with
  | zero =>
    intro l h
    cases l with
    | nil => exact Z32_len
    | cons a r => exact h a (by simp)
  | succ d => intro l h; exact pr_len _ _
theorem tr_take (d : Nat) : ∀ l : List (List Int), tr d (l.take (2 ^ d)) = tr d l := by
  induction d with
  | zero => intro l; cases l <;> simp [tr]
  | succ d ih =>
    intro l
    have h2 : 2 ^ (d + 1) = 2 ^ d + 2 ^ d := by rw [Nat.pow_succ]; omega
    have hp : 0 < 2 ^ d := Nat.pow_pos (by omega)
    simp only [tr]
    rw [List.take_take, Nat.min_eq_left (by omega)]
    congr 1
    rw [List.drop_take, show 2 ^ (d + 1) - 2 ^ d = 2 ^ d by omega]
    exact ih _
theorem tr_succ (d : Nat) (l : List (List Int)) : tr (d + 1) l = pr (tr d l) (tr d (l.drop (2 ^ d))) := by
  rw [tr, tr_take]
theorem tr_nil (d : Nat) : tr (d + 1) [] = pr (tr d []) (tr d []) := by rw [tr_succ]; simp
/-- Two halves side by side. -/
theorem tr_two (d q : Nat) (l : List (List Int)) : pr (tr d (l.drop (2 * q * 2 ^ d))) (tr d (l.drop ((2 * q + 1) * 2 ^ d))) = tr (d + 1) (l.drop (q * 2 ^ (d + 1))) := by
  rw [tr_succ, List.drop_drop]
  have h1 : 2 * q * 2 ^ d = q * 2 ^ (d + 1) := by rw [Nat.pow_succ, Nat.mul_comm 2 q, Nat.mul_assoc, Nat.mul_comm 2]
  have h2 : (2 * q + 1) * 2 ^ d = q * 2 ^ (d + 1) + 2 ^ d := by rw [Nat.add_mul, h1, Nat.one_mul]
  rw [h1, h2]
/-- The array of halves that wait, of the first n leaves. -/
def Wt (l : List (List Int)) (n : Nat) (W : Nat → List Int) : Prop := ∀ k, (n / 2 ^ k) % 2 = 1 → W k = tr k (l.drop ((n / 2 ^ (k + 1)) * 2 ^ (k + 1)))
theorem div_succ (n k : Nat) : n / 2 ^ (k + 1) = n / 2 ^ k / 2 := by rw [Nat.pow_succ, Nat.div_div_eq_div_mul]
/-- A leaf on its way up: below k all were second halves. -/
theorem wt_up {l : List (List Int)} {n k : Nat} {W : Nat → List Int} {r : List Int} (hW : Wt l n W) (hb : (n / 2 ^ k) % 2 = 1) (hr : r = tr k (l.drop ((n / 2 ^ k) * 2 ^ k))) :
    pr (W k) r = tr (k + 1) (l.drop ((n / 2 ^ (k + 1)) * 2 ^ (k + 1))) := by
  rw [hW k hb, hr, ← tr_two, div_succ]
  have : n / 2 ^ k = 2 * (n / 2 ^ k / 2) + 1 := by omega
  congr 2
  · rw [Nat.pow_succ, Nat.mul_comm (2 ^ k) 2, ← Nat.mul_assoc, Nat.mul_comm (n / 2 ^ k / 2) 2]
  · rw [← this]
/-- .. and where it stays. -/
theorem wt_stay {l : List (List Int)} {n k : Nat} {W : Nat → List Int} {r : List Int} (hW : Wt l n W) (hb : (n / 2 ^ k) % 2 = 0) (hlow : n % 2 ^ k + 1 = 2 ^ k) (hr : r = tr k (l.drop ((n / 2 ^ k) * 2 ^ k))) :
    Wt l (n + 1) (fun j => if j = k then r else W j) := by
  have hn : n + 1 = 2 ^ k * (n / 2 ^ k + 1) := by
    have := Nat.div_add_mod n (2 ^ k)
    rw [Nat.mul_add]; omega
  have hpos : 0 < 2 ^ k := Nat.pow_pos (by omega)
  have hk : (n + 1) / 2 ^ k = n / 2 ^ k + 1 := by rw [hn, Nat.mul_div_cancel_left _ hpos]
  have habove : ∀ j, (n + 1) / 2 ^ (k + 1 + j) = n / 2 ^ (k + 1 + j) := by
    intro j
    have e : 2 ^ (k + 1 + j) = 2 ^ k * (2 * 2 ^ j) := by rw [Nat.pow_add, Nat.pow_succ, Nat.mul_assoc]
    rw [e, ← Nat.div_div_eq_div_mul, ← Nat.div_div_eq_div_mul, ← Nat.div_div_eq_div_mul, ← Nat.div_div_eq_div_mul, hk]
    congr 1; omega
  intro j hj
  by_cases hjk : j = k
  · subst hjk
    show (if j = j then r else W j) = _
    rw [if_pos rfl, hr, habove 0, Nat.add_zero, div_succ]
    congr 2
    have h2 : n / 2 ^ j = 2 * (n / 2 ^ j / 2) := by omega
    rw [Nat.pow_succ, Nat.mul_comm (2 ^ j) 2, ← Nat.mul_assoc, Nat.mul_comm (n / 2 ^ j / 2) 2, ← h2]
  · show (if j = k then r else W j) = _
    rw [if_neg hjk]
    by_cases hlt : j < k
    · exfalso
      obtain ⟨m, rfl⟩ : ∃ m, k = j + 1 + m := ⟨k - j - 1, by omega⟩
      have e : n + 1 = 2 ^ j * (2 * (2 ^ m * (n / 2 ^ (j + 1 + m) + 1))) := by
        rw [show 2 ^ j * (2 * (2 ^ m * (n / 2 ^ (j + 1 + m) + 1))) = 2 ^ (j + 1 + m) * (n / 2 ^ (j + 1 + m) + 1) by rw [Nat.pow_add 2 (j + 1) m, Nat.pow_succ]; simp only [Nat.mul_assoc]]
        exact hn
      rw [e, Nat.mul_div_cancel_left _ (Nat.pow_pos (by omega))] at hj
      omega
    · obtain ⟨m, rfl⟩ : ∃ m, j = k + 1 + m := ⟨j - k - 1, by omega⟩
      rw [habove m] at hj
      rw [show k + 1 + m + 1 = k + 1 + (m + 1) by omega, habove (m + 1)]
      exact hW _ hj
theorem wt_fill0 {l : List (List Int)} {k : Nat} {r : List Int} (hb : (l.length / 2 ^ k) % 2 = 0) (hr : r = tr k (l.drop ((l.length / 2 ^ k) * 2 ^ k))) :
    pr r (tr k []) = tr (k + 1) (l.drop ((l.length / 2 ^ (k + 1)) * 2 ^ (k + 1))) := by
  have h2 : l.length / 2 ^ k = 2 * (l.length / 2 ^ k / 2) := by omega
  have hlt : l.length < (2 * (l.length / 2 ^ k / 2) + 1) * 2 ^ k := by
    rw [← h2]
    have := Nat.div_add_mod l.length (2 ^ k)
    have hm := Nat.mod_lt l.length (show 0 < 2 ^ k from Nat.pow_pos (by omega))
    rw [Nat.add_mul, Nat.mul_comm]; omega
  rw [hr, div_succ, ← tr_two, ← h2]
  congr 2
  rw [h2]
  exact (List.drop_eq_nil_of_le (by omega)).symm
theorem wt_zero (l : List (List Int)) (W : Nat → List Int) : Wt l 0 W := fun k hk => by simp at hk
theorem wt_all {l : List (List Int)} {d : Nat} {W : Nat → List Int} (hW : Wt l (2 ^ d) W) : W d = tr d l := by
  have hp : 0 < 2 ^ d := Nat.pow_pos (by omega)
  have := hW d (by rw [Nat.div_self hp])
  rw [this, Nat.div_eq_of_lt (by rw [Nat.pow_succ]; omega)]
  simp
theorem wt_end {l : List (List Int)} {d : Nat} {r : List Int} (h : l.length < 2 ^ d) (hr : r = tr d (l.drop ((l.length / 2 ^ d) * 2 ^ d))) : r = tr d l := by
  rw [hr, Nat.div_eq_of_lt h]; simp
theorem fill_start (l : List (List Int)) : Z32 = tr 0 (l.drop ((l.length / 2 ^ 0) * 2 ^ 0)) := by simp [tr]
theorem put_start {l : List (List Int)} {n : Nat} {x : List Int} (h : l[n]? = some x) : x = tr 0 (l.drop ((n / 2 ^ 0) * 2 ^ 0)) := by
  have hn := (List.getElem?_eq_some_iff.1 h).1
  rw [List.drop_eq_getElem_cons (by simpa using hn)]
  have := (List.getElem?_eq_some_iff.1 h).2
  simp [tr, this]
/-- What a proof folds to. -/
def fo : Nat → List Int → List (List Int) → List Int
  | _, x, [] => x
  | i, x, p :: ps => fo (i / 2) (if i % 2 = 0 then pr x p else pr p x) ps
end Go.Proofs.Ytbhhbkoikocjgaa
/- Layer spec: what the layers below give. -/
namespace Go.Proofs.Ytbhhbkoikocjgaa
set_option linter.unusedSectionVars false
set_option maxHeartbeats 1000000
open Go.RowKit
set_option maxRecDepth 100000
set_option linter.unusedVariables false
set_option linter.unusedSimpArgs false

variable [DecidableEq Ac] [DecidableEq Ou] [DecidableEq Mg]
theorem sum_n (b off n cap : Nat) (L : List Int) (w : World) (hnL : Hid (n = L.length)) (hB : Bytes w b off L.length (bat L)) (hcap : n ≤ cap) (hn : n ≤ 140737488355328) :
    Calls Try.prog 95 #[.slice (some ⟨b, off, none⟩) n cap] w fun e w' => e = .returned (.agg (sha L)) ∧ Below w.heap.size w w' := by
  have h := hnL.out
  subst h
  exact sum_list b off cap L w hB hcap hn
end Go.Proofs.Ytbhhbkoikocjgaa
/- Layer spec: what the layers below give. -/
namespace Go.Proofs.Ytbhhbkoikocjgaa
set_option linter.unusedSectionVars false
set_option maxHeartbeats 1000000
open Go.RowKit
set_option maxRecDepth 100000
set_option linter.unusedVariables false
set_option linter.unusedSimpArgs false

variable [DecidableEq Ac] [DecidableEq Ou] [DecidableEq Mg]
theorem Arr.new3 (w : World) (o1 o2 : Obj) (ty : Nat) (C : Array Value) : Arr (((w.alloc o1).alloc o2).alloc (.cells C ty)) (w.heap.size + 2) ty C := by
  simpa using Arr.new ((w.alloc o1).alloc o2) ty C
set_option maxRecDepth 100000 in
set_option maxHeartbeats 600000 in
theorem pair_any (X Y : List Int) (w : World) (hX : X.length = 32) (hY : Y.length = 32) :
    Calls Try.prog 72 #[.agg (h8 X), .agg (h8 Y)] w fun e w' => e = .returned (.agg (sha (1 :: (X ++ Y)))) ∧ Below w.heap.size w w' := by
  obtain ⟨i0, hi, hz0, hz1, hz2⟩ := info_parts info5
  have HX := Hid.mk' hX
  have HY := Hid.mk' hY
  clear hX hY
  go_enter Try.func72, Try.ntmps72
  go_wp2_with (first
    | (at_make; go_must (refine wpList_make_own _ (by rfl) (.const (.int .i64 0)) (.const (.int .i64 65)) 63 (by rfl) (w.heap.size + 3) 5 i0 (.int .u8 0) 1 Try.underlying63 hi hz0 hz1 .i64 .i64 _ 65 (by rfl) (by rfl) (by omega) (by rw [hz2]; omega) (Nat.le_trans (by omega) maxLen_ge) (by simp) ?_; intro w1 hown1 hg1; have hown1 : w1.ownsRow (w.heap.size + 3) 5 1 (.slice (some ⟨w.heap.size + 3, 0, none⟩) 0 65) 0 [] := (by simpa using hown1); have hs1 : w.heap.size + 3 ≤ w1.heap.size := (by have := hg1.size; simpa using this); have hX1 : Arr w1 w.heap.size 24 (h8 X) := (((Arr.new w 24 _).alloc _).alloc _).grown hg1 (by simp); have hY1 : Arr w1 (w.heap.size + 1) 24 (h8 Y) := ((show Arr ((w.alloc _).alloc _) (w.heap.size + 1) 24 (h8 Y) from (by simpa using Arr.new (w.alloc (.cells (h8 X) 24)) 24 (h8 Y))).alloc _).grown hg1 (by simp); have hZ1 : ∃ Z : Array Value, Z.size = 32 ∧ Arr w1 (w.heap.size + 2) 24 Z := ⟨_, by rfl, (Arr.new3 w _ _ 24 _).grown hg1 (by simp)⟩; have hB1 : Below w.heap.size w w1 := ((((Below.refl _ _).alloc (Nat.le_refl _) _).alloc (by simp) _).alloc (by simp; omega) _).grown hg1 (by simp; omega) (by simp)))
    | (at_builtin; refine append_bytes (by rfl) (.tmp 7) (.tmp 8) (by rfl) (w.heap.size + 3) _ 0 [] (by rfl) (hown1.alloc _) (some ⟨w1.heap.size, 0, none⟩) 1 1 [1] (by rfl) (by rfl) (fun h => by cases h) (Arr.sl (Arr.new w1 5 _)) (by omega) (by simp; omega) ?_; intro v2 w2 hown2 hg2; obtain ⟨Z, hZs, hZ1⟩ := hZ1; have hZ2 := (hZ1.alloc _).grown hg2 (ne_own hown1 (by omega)); have hX2 := (hX1.alloc _).grown hg2 (ne_own hown1 (by omega)); have hY2 := (hY1.alloc _).grown hg2 (ne_own hown1 (by omega)); have hB2 := (hB1.alloc (by omega) _).grown hg2 (by simp; omega) (fun k e => by have := own_ge hown1 k e; omega); have hs2 : w.heap.size + 3 ≤ w2.heap.size := (by have := hg2.size; simp at this; omega))
    | (at_builtin; refine append_bytes (by rfl) (.tmp 10) (.tmp 11) (by rfl) (w.heap.size + 3) _ 1 [1] (by rfl) hown2 (some ⟨w.heap.size, 0, none⟩) 32 32 X (by rfl) HX.out.symm (fun h => by cases h) (Arr.sl hX2) (by omega) hs2 ?_; intro v3 w3 hown3 hg3; have hZ3 := hZ2.grown hg3 (ne_own hown2 (by omega)); have hY3 := hY2.grown hg3 (ne_own hown2 (by omega)); have hB3 := hB2.grown hg3 (by omega) (fun k e => by have := own_ge hown2 k e; omega); have hs3 : w.heap.size + 3 ≤ w3.heap.size := Nat.le_trans hs2 hg3.size)
    | (at_builtin; refine append_bytes (by rfl) (.tmp 13) (.tmp 14) (by rfl) (w.heap.size + 3) _ 33 ([1] ++ X) (by rfl) hown3 (some ⟨w.heap.size + 1, 0, none⟩) 32 32 Y (by rfl) HY.out.symm (fun h => by cases h) (Arr.sl hY3) (by omega) hs3 ?_; intro v4 w4 hown4 hg4; have hZ4 := hZ3.grown hg4 (ne_own hown3 (by omega)); have hB4 := hB3.grown hg4 (by omega) (fun k e => by have := own_ge hown3 k e; omega); obtain ⟨g, cap4, rfl, hn4, hcap4, hg, hBy, -⟩ := own_slice hown4 (by omega))
    | (go_at_call 95; go_must (refine (sum_n g 0 65 cap4 ([1] ++ X ++ Y) _ hn4 hBy hcap4 (by omega)).mono ?_; rintro e w5 ⟨rfl, hb5⟩; have hZ5 := hZ4.below hb5 hZ4.lt))
    | (refine wpList_store_arr (by rfl) 24 (.tmp 4) (.tmp 16) (by rfl) (w.heap.size + 2) (sha ([1] ++ X ++ Y)) (by rfl) (by rfl) 24 Z hZ5 (s24sha _) (by rw [hZs, sha_size]) (sha_one _) ?_))
  exact bodyPost_ret (v := .agg (sha (1 :: (X ++ Y)))) (results_cell_row Try.results72 _ _ (w.heap.size + 2) 24 _ (0, 0) _ rfl (hZ5.setRow _) Try.underlying24 rfl (s24sha _)) rfl ⟨rfl, below_setRow (hB4.trans (hb5.mono hB4.size)) (by omega) _⟩
end Go.Proofs.Ytbhhbkoikocjgaa
/- Layer spec: what the layers below give. -/
namespace Go.Proofs.Ytbhhbkoikocjgaa
set_option linter.unusedSectionVars false
set_option maxHeartbeats 1000000
open Go.RowKit
set_option maxRecDepth 100000
set_option linter.unusedVariables false
set_option linter.unusedSimpArgs false

variable [DecidableEq Ac] [DecidableEq Ou] [DecidableEq Mg]
set_option maxRecDepth 100000 in
set_option maxHeartbeats 400000 in
theorem mayDepth_any (d : Int) (w : World) : Calls Try.prog 69 #[.int .i64 d] w fun e w' => e = .returned (.bool (decide (0 ≤ d ∧ d ≤ 16))) ∧ w' = w := by
  by_cases h1 : 0 ≤ d
  · by_cases h2 : d ≤ 16
    · rw [decide_eq_true ⟨h1, h2⟩]
      go_enter Try.func69, Try.ntmps69
      go_wp2
      go_ret
      exact ⟨rfl, rfl⟩
    · rw [decide_eq_false (fun h => h2 h.2)]
      go_enter Try.func69, Try.ntmps69
      go_wp2
      go_ret
      exact ⟨rfl, rfl⟩
  · rw [decide_eq_false (fun h => h1 h.1)]
    go_enter Try.func69, Try.ntmps69
    go_wp2
    go_ret
    exact ⟨rfl, rfl⟩
set_option maxRecDepth 100000 in
set_option maxHeartbeats 400000 in
theorem width_any (d : Nat) (hd : d ≤ 16) (w : World) : Calls Try.prog 94 #[.int .i64 d] w fun e w' => e = .returned (.int .i64 (2 ^ d : Nat)) ∧ w' = w := by
  have hp := Hid.mk' (wrap_pow hd)
  go_enter Try.func94, Try.ntmps94
  go_wp2
  go_ret
  exact ⟨by rw [hp.out]; rfl, rfl⟩
set_option maxRecDepth 100000 in
set_option maxHeartbeats 400000 in
theorem isSecond_any (i k : Nat) (hi : i ≤ 9223372036854775807) (hk : k ≤ 17) (w : World) : Calls Try.prog 71 #[.int .i64 i, .int .i64 k] w fun e w' => e = .returned (.bool (decide ((i / 2 ^ k) % 2 = 1))) ∧ w' = w := by
  have hp : (bits .and .i64 ((i : Int) / 2 ^ k) 1 == 1) = decide ((i / 2 ^ k) % 2 = 1) := by
    rw [i64_and1, powc, ← Int.natCast_ediv]
    rw [Bool.eq_iff_iff, beq_iff_eq, decide_eq_true_eq]
    omega
  replace hp := Hid.mk' hp
  go_enter Try.func71, Try.ntmps71
  go_wp2
  go_ret
  exact ⟨by rw [hp.out]; rfl, rfl⟩
set_option maxRecDepth 100000 in
set_option maxHeartbeats 400000 in
theorem mayPlace_any (d : Nat) (hd : d ≤ 16) (i : Int) (w : World) : Calls Try.prog 70 #[.int .i64 d, .int .i64 i] w fun e w' => e = .returned (.bool (decide (0 ≤ i ∧ i < (2 ^ d : Nat)))) ∧ w' = w := by
  obtain ⟨p, hp⟩ : ∃ p : Int, p = (2 ^ d : Nat) := ⟨_, rfl⟩
  have hw : ∀ w, Calls Try.prog 94 #[.int .i64 d] w fun e w' => e = .returned (.int .i64 p) ∧ w' = w := fun w => by rw [hp]; exact width_any d hd w
  rw [← hp]
  clear hp
  by_cases h1 : 0 ≤ i
  · by_cases h2 : i < p
    · rw [decide_eq_true ⟨h1, h2⟩]
      go_enter Try.func70, Try.ntmps70
      go_wp2_with (go_at_call 94; go_must (refine (hw _).mono ?_; rintro e w2 ⟨rfl, rfl⟩))
      go_ret
      exact ⟨rfl, rfl⟩
    · rw [decide_eq_false (fun h => h2 h.2)]
      go_enter Try.func70, Try.ntmps70
      go_wp2_with (go_at_call 94; go_must (refine (hw _).mono ?_; rintro e w2 ⟨rfl, rfl⟩))
      go_ret
      exact ⟨by simp [h2], rfl⟩
  · rw [decide_eq_false (fun h => h1 h.1)]
    go_enter Try.func70, Try.ntmps70
    go_wp2_with (go_at_call 94; go_must (refine (hw _).mono ?_; rintro e w2 ⟨rfl, rfl⟩))
    go_ret
    exact ⟨rfl, rfl⟩
theorem pair_h (X Y : List Int) (w : World) (hX : X.length = 32) (hY : Y.length = 32) :
    Calls Try.prog 72 #[.agg (h8 X), .agg (h8 Y)] w fun e w' => e = .returned (.agg (h8 (pr X Y))) ∧ Below w.heap.size w w' := by
  have h := pair_any X Y w hX hY
  rw [sha_h8] at h
  exact h
set_option maxRecDepth 100000 in
set_option maxHeartbeats 400000 in
theorem itself_any (X : List Int) (hX : X.length = 32) (w : World) : Calls Try.prog 99 #[.agg (h8 X)] w fun e w' => e = .returned (.agg (h8 X)) ∧ Below w.heap.size w w' := by
  have A0 := (Arr.new w 24 (h8 X)).alloc (.cells (h8 Z32) 24)
  have A1 := Arr.new (w.alloc (.cells (h8 X) 24)) 24 (h8 Z32)
  rw [World.size_alloc] at A1
  go_enter Try.func99, Try.ntmps99
  go_wp2_with (first
    | (refine ld24 (by rfl) _ (by rfl) w.heap.size 0 (by rfl) X hX A0.range ?_)
    | (refine st24 (by rfl) _ _ (by rfl) (w.heap.size + 1) X Z32 (by rfl) (by rfl) hX Z32_len A1 ?_))
  exact bodyPost_ret (v := .agg (h8 X)) (res24 Try.results99 rfl hX (A1.setRow _)) rfl ⟨rfl, below_setRow ((alloc_bel' w _).alloc (by simp) _) (by omega) _⟩
end Go.Proofs.Ytbhhbkoikocjgaa

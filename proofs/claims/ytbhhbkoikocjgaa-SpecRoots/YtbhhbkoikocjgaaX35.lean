/- Ns0, Nk0, NsR. -/
import Derived.Test.YtbhhbkoikocjgaaX29
import Derived.Test.YtbhhbkoikocjgaaX34
import Derived.Test.YtbhhbkoikocjgaaX32
import Derived.Deep.DeepAppendWide
import Derived.Test.YtbhhbkoikocjgaaX13
import Derived.Test.YtbhhbkoikocjgaaX12
/- Layer spec: roots along a list; sums that are appended. -/
namespace Go.Proofs.Ytbhhbkoikocjgaa
set_option linter.unusedSectionVars false
set_option maxHeartbeats 1000000
open Go.RowKit Go.Shelf
set_option maxRecDepth 100000
set_option linter.unusedVariables false
set_option linter.unusedSimpArgs false


variable [DecidableEq Ac] [DecidableEq Ou] [DecidableEq Mg]
theorem rtV_len (ps : List Ac) (os : List Ou) : (rtV ps os).length = 32 := by
  unfold rtV
  split
  · exact rtS_len _ _
  · rfl
/-- All roots along a list. -/
def rts (ps : List Ac) (os : List Ou) (Ls : List (List Int)) (k : Nat) : List (List Int) := (List.range k).map fun i => rtV (rnA ps os Ls i).P (rnA ps os Ls i).O
theorem rts_succ (ps : List Ac) (os : List Ou) (Ls : List (List Int)) (k : Nat) : rts ps os Ls (k + 1) = rts ps os Ls k ++ [rtV (rnA ps os Ls k).P (rnA ps os Ls k).O] := by simp [rts, List.range_succ]
theorem rts_len (ps : List Ac) (os : List Ou) (Ls : List (List Int)) (k : Nat) : (rts ps os Ls k).length = k := by simp [rts]
theorem rts_32 (ps : List Ac) (os : List Ou) (Ls : List (List Int)) (k : Nat) : ∀ X ∈ rts ps os Ls k, X.length = 32 := by
  intro X hX
  simp only [rts, List.mem_map] at hX
  obtain ⟨i, -, rfl⟩ := hX
  exact rtV_len _ _
def zR (ps : List Ac) (os : List Ou) (Ls : List (List Int)) (n : Nat) : List (List Int) := if may ps os.length = true then rts ps os Ls (n + 1) else []
theorem zR_32 (ps : List Ac) (os : List Ou) (Ls : List (List Int)) (k : Nat) : ∀ X ∈ zR ps os Ls k, X.length = 32 := by
  unfold zR
  split
  · exact rts_32 _ _ _ _
  · intro X hX; cases hX
def RootsPost (hs : List (List Int)) (e : Int) (w : World) (r : Ending) (w' : World) : Prop :=
  ∃ s k c, r = .returned (.tuple #[.slice s k c, .int .i64 e]) ∧ Hid (k = hs.length) ∧ w'.ownsRow w.heap.size 24 32 (.slice s k c) k (flat32 hs) ∧ Below w.heap.size w w'
theorem RootsPost.no {ps : List Ac} {os : List Ou} {Ls : List (List Int)} {n : Nat} {w w' : World} (h : may ps os.length = false) (hb : Below w.heap.size w w') : RootsPost (zR ps os Ls n) (xE ps os) w (.returned (.tuple #[.slice none 0 0, .int .i64 2])) w' := by
  have e1 : zR ps os Ls n = [] := by unfold zR; rw [h]; rfl
  have e2 : xE ps os = 2 := by unfold xE; rw [h]; rfl
  rw [e1, e2]
  exact ⟨none, 0, 0, rfl, Hid.mk' rfl, World.ownsRow_nil _ _ _ _, hb⟩
theorem zR_yes {ps : List Ac} {os : List Ou} {Ls : List (List Int)} {n : Nat} (h : may ps os.length = true) : zR ps os Ls n = rts ps os Ls (n + 1) := by unfold zR; rw [if_pos h]
/-- A sum is appended: wherever there is no room, new memory is. -/
theorem wp_ap24 {o : Oper} {a : Act} {w : World} {K : Act → World → Prop} {Q : Exit → Act → World → Prop} (s x : Operand) (ho : o.op = .call { callee := .builtin .append, args := #[s, x], argTypes := #[49, 49] })
    (base : Nat) (v : Value) (k : Nat) (ls : List (List Int)) (hs : a.eval s = v) (hown : w.ownsRow base 24 32 v k (flat32 ls)) (g : Nat) (X : List Int) (hx : a.eval x = .slice (some ⟨g, 0, none⟩) 1 1) (hg : Arr w g 24 (h8 X)) (hX : X.length = 32) (hk : k + 1 ≤ 6000000000000) (hb : base ≤ w.heap.size)
    (h : ∀ v' w', w'.ownsRow base 24 32 v' (k + 1) (flat32 (ls ++ [X])) → w.grownBy w' v.ownBlock → K (a.put o.dst v') w') : o.wp Try.prog a w K Q := by
  obtain ⟨i0, hi0, hz0, hz1, hz2⟩ := info_parts info24
  refine wp_append_own_wide w s x 49 ho base 24 i0 (.agg (h8 Z32)) 32 32 Try.underlying49 hi0 hz0 hz1 hz2 rfl (by omega) v k _ hs hown ⟨g, 0, none⟩ 1 1 (by8 X) hx (by rw [by8_len, hX]) (fun j u hj => ?_) (by8_one X) (by unfold maxLen; omega) (by omega) hb (fun v' w' h1 h2 _ => h v' w' (by rw [flat32_app]; exact h1) h2)
  rw [Addr.add_mid]
  exact hg.range j u hj
/-- .. where there is room. -/
theorem wp_ap24r {o : Oper} {a : Act} {w : World} {K : Act → World → Prop} {Q : Exit → Act → World → Prop} (s x : Operand) (ho : o.op = .call { callee := .builtin .append, args := #[s, x], argTypes := #[49, 49] })
    (base gr cap : Nat) (k : Nat) (ls : List (List Int)) (hs : a.eval s = .slice (some ⟨gr, 0, none⟩) k cap) (hown : w.ownsRow base 24 32 (.slice (some ⟨gr, 0, none⟩) k cap) k (flat32 ls)) (g : Nat) (X : List Int) (hx : a.eval x = .slice (some ⟨g, 0, none⟩) 1 1) (hg : Arr w g 24 (h8 X)) (hX : X.length = 32) (hk : k + 1 ≤ 6000000000000) (hroom : k + 1 ≤ cap) (hb : base ≤ w.heap.size)
    (h : ∀ w', w'.ownsRow base 24 32 (.slice (some ⟨gr, 0, none⟩) (k + 1) cap) (k + 1) (flat32 (ls ++ [X])) → w.grownBy w' (some gr) → K (a.put o.dst (.slice (some ⟨gr, 0, none⟩) (k + 1) cap)) w') : o.wp Try.prog a w K Q := by
  obtain ⟨i0, hi0, hz0, hz1, hz2⟩ := info_parts info24
  have hnews : ∀ j u, (by8 X)[j]? = some u → w.cell? ((⟨g, 0, none⟩ : Addr).add j) = some u := fun j u hj => by rw [Addr.add_mid]; exact hg.range j u hj
  obtain ⟨v', w', hr, h2, h3, -⟩ := run_append_own_wide (P := Try.prog) w base 49 o.type 24 i0 (.agg (h8 Z32)) 32 32 Try.underlying49 hi0 hz0 hz1 hz2 rfl (by omega) _ k _ hown ⟨g, 0, none⟩ 1 1 (by8 X) (by rw [by8_len, hX]) hnews (by8_one X) (by unfold maxLen; omega) (by omega) hb
  obtain ⟨-, ⟨q, -⟩ | ⟨g', cap', cur, q, -, hh, hn, -, hcs, -⟩⟩ := id hown
  · cases q
  · cases q
    have hr2 := run_append_room (P := Try.prog) w 49 o.type 24 i0 Try.underlying49 hi0 gr k cap cur hh ⟨g, 0, none⟩ 1 1 (by8 X) (by rw [by8_len, hX, hz1]) hnews (by8_one X) hroom (by rw [by8_len, hX, hz1, hcs]; omega)
    rw [hr] at hr2
    have hv : v' = .slice (some ⟨gr, 0, none⟩) (k + 1) cap := by cases hr2; rfl
    subst hv
    unfold Oper.wp execOp
    simp only [ho, resolve, invoke, builtin, Sem.run_bind, Sem.run_pure, Result.andThen_ok, List.map_toArray, List.map_cons, List.map_nil, hs, hx, hr]
    exact h w' (by rw [flat32_app]; exact h2) h3
theorem b1R {l n : Nat} {ops : Array Oper} {rest : List Oper} {o : Oper} {a : Act} {w : World} {Q : Exit → Act → World → Prop} (hgd : o.guard = none) (x : Operand) (ho : o.op = .buildSlice 49 1 #[(0, x)]) (X : List Int) (hx : a.eval x = .agg (h8 X)) (hX : X.length = 32)
    (h : wpListIn (Fence.wide.inRound l) n Try.prog ops Q rest (a.put o.dst (.slice (some ⟨w.heap.size, 0, none⟩) 1 1)) (w.alloc (.cells (h8 X) 24))) : wpListIn (Fence.wide.inRound l) n Try.prog ops Q (o :: rest) a w :=
  wpListIn_plain hgd fun _ hK => opIn (by rw [ho]; intro c hc; cases hc) (wp_bld1 x ho X hx hX (hK _ _ h))
theorem b1P {ops : Array Oper} {rest : List Oper} {o : Oper} {a : Act} {w : World} {Q : Exit → Act → World → Prop} (hgd : o.guard = none) (x : Operand) (ho : o.op = .buildSlice 49 1 #[(0, x)]) (X : List Int) (hx : a.eval x = .agg (h8 X)) (hX : X.length = 32)
    (h : wpList Try.prog ops Q rest (a.put o.dst (.slice (some ⟨w.heap.size, 0, none⟩) 1 1)) (w.alloc (.cells (h8 X) 24))) : wpList Try.prog ops Q (o :: rest) a w :=
  wpList_plain hgd fun _ hK => wp_bld1 x ho X hx hX (hK _ _ h)
theorem a1R {l n : Nat} {ops : Array Oper} {rest : List Oper} {o : Oper} {a : Act} {w : World} {Q : Exit → Act → World → Prop} (hgd : o.guard = none) (s x : Operand) (ho : o.op = .call { callee := .builtin .append, args := #[s, x], argTypes := #[49, 49] })
    (base gr cap : Nat) (k : Nat) (ls : List (List Int)) (hs : a.eval s = .slice (some ⟨gr, 0, none⟩) k cap) (hown : w.ownsRow base 24 32 (.slice (some ⟨gr, 0, none⟩) k cap) k (flat32 ls)) (g : Nat) (X : List Int) (hx : a.eval x = .slice (some ⟨g, 0, none⟩) 1 1) (hg : Arr w g 24 (h8 X)) (hX : X.length = 32) (hk : k + 1 ≤ 6000000000000) (hroom : k + 1 ≤ cap) (hb : base ≤ w.heap.size)
    (h : ∀ w', w'.ownsRow base 24 32 (.slice (some ⟨gr, 0, none⟩) (k + 1) cap) (k + 1) (flat32 (ls ++ [X])) → w.grownBy w' (some gr) → wpListIn (Fence.wide.inRound l) n Try.prog ops Q rest (a.put o.dst (.slice (some ⟨gr, 0, none⟩) (k + 1) cap)) w') : wpListIn (Fence.wide.inRound l) n Try.prog ops Q (o :: rest) a w :=
  wpListIn_plain hgd fun _ hK => opIn (by rw [ho]; intro c hc; cases hc) (wp_ap24r s x ho base gr cap k ls hs hown g X hx hg hX hk hroom hb fun w' h1 h2 => hK _ _ (h w' h1 h2))
theorem a1P {ops : Array Oper} {rest : List Oper} {o : Oper} {a : Act} {w : World} {Q : Exit → Act → World → Prop} (hgd : o.guard = none) (s x : Operand) (ho : o.op = .call { callee := .builtin .append, args := #[s, x], argTypes := #[49, 49] })
    (base : Nat) (v : Value) (k : Nat) (ls : List (List Int)) (hs : a.eval s = v) (hown : w.ownsRow base 24 32 v k (flat32 ls)) (g : Nat) (X : List Int) (hx : a.eval x = .slice (some ⟨g, 0, none⟩) 1 1) (hg : Arr w g 24 (h8 X)) (hX : X.length = 32) (hk : k + 1 ≤ 6000000000000) (hb : base ≤ w.heap.size)
    (h : ∀ v' w', w'.ownsRow base 24 32 v' (k + 1) (flat32 (ls ++ [X])) → w.grownBy w' v.ownBlock → wpList Try.prog ops Q rest (a.put o.dst v') w') : wpList Try.prog ops Q (o :: rest) a w :=
  wpList_plain hgd fun _ hK => wp_ap24 s x ho base v k ls hs hown g X hx hg hX hk hb fun v' w' h1 h2 => hK _ _ (h v' w' h1 h2)
theorem atAi {P : Program} {F : Fence} {n : Nat} {ops : Array Oper} {rest : List Oper} {a : Act} {w : World} {Q : Exit → Act → World → Prop} (x y : Operand) {t u : TypeId} {d} {ty} {pos} {af} {g} (h : wpListIn F n P ops Q (⟨d, .call { callee := .builtin .append, args := #[x, y], argTypes := #[t, u] }, ty, pos, af, g⟩ :: rest) a w) : wpListIn F n P ops Q (⟨d, .call { callee := .builtin .append, args := #[x, y], argTypes := #[t, u] }, ty, pos, af, g⟩ :: rest) a w := h
theorem atBSi {P : Program} {F : Fence} {n : Nat} {ops : Array Oper} {rest : List Oper} {a : Act} {w : World} {Q : Exit → Act → World → Prop} (t : TypeId) {d} {k} {ps} {ty} {pos} {af} {g} (h : wpListIn F n P ops Q (⟨d, .buildSlice t k ps, ty, pos, af, g⟩ :: rest) a w) : wpListIn F n P ops Q (⟨d, .buildSlice t k ps, ty, pos, af, g⟩ :: rest) a w := h
theorem make49 (c : Nat) (hc : c ≤ 6000000000000) : ∃ MC : Array Value, MC.size = c * 32 ∧ ∀ u : World, (Instr.makeSlice 49 (.int .i64 0) (.int .i64 (c : Int))).run Try.prog u = .ok (.slice (some ⟨u.heap.size, 0, none⟩) 0 c) (u.alloc (.cells MC 24)) := by
  obtain ⟨i0, hi0, hz0, hz1, hz2⟩ := info_parts info24
  refine ⟨madeCells (Value.agg (h8 Z32)).cells (c * i0.size), by rw [size_madeCells, hz1], fun u => ?_⟩
  have h := run_make (P := Try.prog) u 49 24 i0 (.agg (h8 Z32)) Try.underlying49 hi0 hz0 .i64 .i64 0 (c : Int) (by omega) (by omega) (by rw [hz2]; omega) (by omega)
  simpa using h
end Go.Proofs.Ytbhhbkoikocjgaa
/- Layer spec: what a run answers. -/
namespace Go.Proofs.Ytbhhbkoikocjgaa
set_option linter.unusedSectionVars false
set_option maxHeartbeats 1000000
open Go.RowKit Go.Shelf
set_option maxRecDepth 100000
set_option linter.unusedVariables false
set_option linter.unusedSimpArgs false


variable [DecidableEq Ac] [DecidableEq Ou] [DecidableEq Mg]
/-- A state that is answered: its withdrawals are new memory. -/
structure NwS (w w' : World) (P : List Ac) (O : List Ou) (s : Option Addr) (n c : Nat) : Prop where
  len : Hid (n = O.length)
  le : n ≤ 33
  own : w'.ownsRow w.heap.size 66 2 (.slice s n c) n (ouF O)
  ss : SS w'.heap.size w' P s n c O
def yR (ps : List Ac) (os : List Ou) (Ls : List (List Int)) (n : Nat) : Rn := if may ps os.length = true then rnA ps os Ls n else ⟨zs, [], [], 0, 0⟩
def RunPost (R : Rn) (e : Int) (w : World) (r : Ending) (w' : World) : Prop :=
  ∃ s n c sd k cd, r = .returned (.tuple #[.agg (stA R.P s n c), .slice sd k cd, .int .i64 e]) ∧ NwS w w' R.P R.O s n c ∧ Hid (k = R.D.length) ∧ w'.ownsRow w.heap.size 4 1 (.slice sd k cd) k (bls R.D) ∧ Below w.heap.size w w'
theorem zsSS (w : World) : SS w.heap.size w zs none 0 0 [] := ⟨Hid.mk' zs_len, Hid.mk' zs_ok, OS.nil0 _ _⟩
theorem NwS.zero (w w' : World) : NwS w w' zs [] none 0 0 := ⟨Hid.mk' rfl, by omega, World.ownsRow_nil _ _ _ _, zsSS w'⟩
theorem RunPost.no {ps : List Ac} {os : List Ou} {Ls : List (List Int)} {n : Nat} {w w' : World} (h : may ps os.length = false) (hb : Below w.heap.size w w') : RunPost (yR ps os Ls n) (xE ps os) w (.returned (.tuple #[.agg (stA zs none 0 0), .slice none 0 0, .int .i64 2])) w' := by
  have e1 : yR ps os Ls n = ⟨zs, [], [], 0, 0⟩ := by unfold yR; rw [h]; rfl
  have e2 : xE ps os = 2 := by unfold xE; rw [h]; rfl
  rw [e1, e2]
  exact ⟨none, 0, 0, none, 0, 0, rfl, NwS.zero _ _, Hid.mk' rfl, World.ownsRow_nil _ _ _ _, hb⟩
theorem yR_yes {ps : List Ac} {os : List Ou} {Ls : List (List Int)} {n : Nat} (h : may ps os.length = true) : yR ps os Ls n = rnA ps os Ls n := by unfold yR; rw [if_pos h]
theorem xE_yes {ps : List Ac} {os : List Ou} (h : may ps os.length = true) : xE ps os = 0 := by unfold xE; rw [if_pos h]
/-- The state of a stand, its row its own. -/
theorem SR.st {w w1 w' : World} {s0 : Option Addr} {n0 c0 j : Nat} {s : Option Addr} {n c : Nat} {ps : List Ac} {os : List Ou} {Ls : List (List Int)} (h : SR w1.heap.size s0 n0 c0 j (rnA ps os Ls j).O s n c w') (hw : w.heap.size ≤ w1.heap.size) (hn : n0 = os.length) (hn3 : n0 ≤ 33) (h0 : w'.ownsRow w.heap.size 66 2 (.slice s0 n0 c0) n0 (ouF os)) (hok : RnOK (rnA ps os Ls j)) : NwS w w' (rnA ps os Ls j).P (rnA ps os Ls j).O s n c := by
  rcases h with ⟨rfl, rfl, rfl, rfl⟩ | ⟨h1, h2, h3⟩
  · exact ⟨Hid.mk' hn, hn3, h0, ⟨Hid.mk' hok.a32, Hid.mk' hok.ok, os_own h0 hn (by omega) hok.ou⟩⟩
  · exact ⟨h1, h2, own_mono h3 hw, ⟨Hid.mk' hok.a32, Hid.mk' hok.ok, os_own h3 h1.out (by omega) hok.ou⟩⟩
end Go.Proofs.Ytbhhbkoikocjgaa
/- Layer spec: Roots. -/
namespace Go.Proofs.Ytbhhbkoikocjgaa
set_option linter.unusedSectionVars false
set_option maxHeartbeats 1000000
open Go.RowKit Go.Shelf
set_option maxRecDepth 100000
set_option linter.unusedVariables false
set_option linter.unusedSimpArgs false
variable [DecidableEq Ac] [DecidableEq Ou] [DecidableEq Mg]
attribute [local go_sem] Oper.semAt_some


/-- What stands while Roots ranges. -/
structure QI (w : World) (G V : Nat) (C0 : Array Value) (hs : Nat → List (List Int)) (sl : Option Addr) (nl cl j : Nat) (W : World) : Prop where
  bel : Below w.heap.size w W
  first : Arr W (V + 1) 30 C0
  list : Arr W V 31 #[.slice sl nl cl]
  step : Arr W (V + 1 + 1) 80 #[.func (Fn.func 32) #[] #[]]
  var : Arr W (G + 1) 49 #[.slice (some ⟨G, 0, none⟩) j (nl + 1)]
  row : W.ownsRow w.heap.size 24 32 (.slice (some ⟨G, 0, none⟩) j (nl + 1)) j (flat32 (hs j))
theorem QI.below {w : World} {G V : Nat} {C0 : Array Value} {hs : Nat → List (List Int)} {sl : Option Addr} {nl cl j : Nat} {W W' : World} (h : QI w G V C0 hs sl nl cl j W) (hb : Below (V + 3) W W') (hw : w.heap.size ≤ V) (hg : G + 2 ≤ V) : QI w G V C0 hs sl nl cl j W' :=
  ⟨h.bel.trans (hb.mono (by omega)), h.first.below hb (by omega), h.list.below hb (by omega), h.step.below hb (by omega), h.var.below hb (by omega), own_same h.row (fun b hb' => by simp [Value.ownBlock] at hb'; subst hb'; exact hb.block _ (by omega))⟩
theorem QI.mm {w : World} {G V : Nat} {hs : Nat → List (List Int)} {ps : List Ac} {sp : Option Addr} {n cap : Nat} {os : List Ou} {sl : Option Addr} {nl cl : Nat} {es : List Bz} {j : Nat} {W : World} (h : QI w G V (stA ps sp n cap) hs sl nl cl j W) (hS : SS w.heap.size w ps sp n cap os) (hL : BL w.heap.size w sl nl cl es) (hw : w.heap.size ≤ V) : MM (V + 1) V (V + 1 + 1) (V + 3) 30 32 (stA ps sp n cap) ps sp n cap os sl nl cl es W :=
  ⟨⟨h.first, by simpa using h.list.cell 0, by simpa using h.step.cell 0, (hL.below h.bel).mono (by omega), by omega, by omega, by omega⟩, (hS.below h.bel).mono (by omega)⟩
set_option maxHeartbeats 4000000 in
theorem roots_any (ps : List Ac) (N : Nat) (sp : Option Addr) (n cap : Nat) (os : List Ou) (sl : Option Addr) (nl cl Nl : Nat) (es : List Bz) (w : World) (hS : SS N w ps sp n cap os) (hL : BL Nl w sl nl cl es) (hNl : Nl ≤ w.heap.size) :
    Calls Try.prog 16 #[.agg (stA ps sp n cap), .slice sl nl cl] w (RootsPost (zR ps os (bzs es) nl) (xE ps os) w) := by
  have hL := hL.mono hNl
  have hS := hS.here
  have h1 := hS.a32.out
  have h2 := hS.l32
  have hok := hS.ok
  have hnn := hS.outs.len
  have hns := hS.outs.small
  have A0 := Arr.new w 30 (stA ps sp n cap)
  have B0 := alloc_bel' w (.cells (stA ps sp n cap) 30)
  have hsq := stA_size (sp := sp) (n := n) (cap := cap) h1 h2
  have hmay := fun u => may_any ps sp n cap u h1 hok.out hns
  have hz30 := zeroValue30N
  have hzs := zsize30
  generalize zero30N = Z at hz30 hzs
  refine (callsIn_wide (n := 3)).1 ?_
  refine callsIn_of_wp_marks Try.func16 rfl trivial ?_ rfl
  simp only [Try.ntmps16, List.size_toArray, List.length_cons, List.length_nil, Nat.reduceAdd, Nat.reduceSub, Array.replicate_succ, Array.replicate_zero, List.push_toArray, List.append_toArray, List.nil_append, List.cons_append]
  cases hm : may ps n with
  | false =>
    have hm' : may ps os.length = false := by rw [← hnn.out]; exact hm
    rw [hm] at hmay
    gi_wp2_with (first
      | (refine atLi 30 (.tmp 2) ?_; refine ldBw (by rfl) 30 1089 _ (by rfl) w.heap.size 30 (by rfl) (stA ps sp n cap) hsq A0 Try.underlying30 rfl size30N ?_)
      | (refine ⟨trivial, ?_⟩; gi_at_call 24; go_must (refine (callsIn_wide.2 (hmay _)).mono ?_; rintro r w1 ⟨rfl, hb1⟩)))
    exact ⟨_, results_tmp2 rfl _ _ _, RootsPost.no hm' (B0.trans (hb1.mono B0.size))⟩
  | true =>
    have hm' : may ps os.length = true := by rw [← hnn.out]; exact hm
    rw [hm] at hmay
    rw [zR_yes hm', xE_yes hm']
    have hrok := rnA_ok (Ls := bzs es) h1 hok.out hS.outs.ok hL.bts
    have hsm := hL.small
    have hnlI : (nl : Int) ≤ 9223372036854775000 := by omega
    obtain ⟨MC, hMC, hmk⟩ := make49 (nl + 1) (by omega)
    rw [show ((nl + 1 : Nat) : Int) = (nl : Int) + 1 by omega] at hmk
    gi_wp2_with (first
      | (refine atLi 30 (.tmp 2) ?_; refine ldBw (by rfl) 30 1089 _ (by rfl) w.heap.size 30 (by rfl) (stA ps sp n cap) hsq A2 Try.underlying30 rfl size30N ?_)
      | (refine atLi 30 (.tmp 2) ?_; refine ldBw (by rfl) 30 1089 _ (by rfl) w.heap.size 30 (by rfl) (stA ps sp n cap) hsq A0 Try.underlying30 rfl size30N ?_)
      | (refine ⟨trivial, ?_⟩; gi_at_call 24; go_must (refine (callsIn_wide.2 (hmay _)).mono ?_; rintro r w1 ⟨rfl, hb1⟩; have A2 := ((A0.below hb1 A0.lt).alloc (.cells MC 24)).alloc (.cells #[.slice (some ⟨w1.heap.size, 0, none⟩) 0 (nl + 1)] 49)))
      | (refine ⟨trivial, ?_⟩; gi_at_call 31; go_must (refine (callsIn_wide.2 (fold31_any sl nl cl (stA ps sp n cap) _)).mono ?_; rintro r w3 ⟨rfl, rfl⟩)))
    have B1 := B0.trans (hb1.mono B0.size)
    have bV := (alloc_bel' w1 (.cells MC 24)).alloc (by simp) (.cells #[.slice (some ⟨w1.heap.size, 0, none⟩) 0 (nl + 1)] 49)
    have BV := B1.trans (bV.mono B1.size)
    have row0 : ((w1.alloc (.cells MC 24)).alloc (.cells #[.slice (some ⟨w1.heap.size, 0, none⟩) 0 (nl + 1)] 49)).ownsRow w.heap.size 24 32 (.slice (some ⟨w1.heap.size, 0, none⟩) 0 (nl + 1)) 0 (flat32 (rts ps os (bzs es) 0)) := (World.ownsRow_made w1 MC (nl + 1) B1.size (by unfold maxLen; omega) hMC).alloc _
    have var0 : Arr ((w1.alloc (.cells MC 24)).alloc (.cells #[.slice (some ⟨w1.heap.size, 0, none⟩) 0 (nl + 1)] 49)) (w1.heap.size + 1) 49 #[.slice (some ⟨w1.heap.size, 0, none⟩) 0 (nl + 1)] := by
      have h := Arr.new (w1.alloc (.cells MC 24)) 49 #[.slice (some ⟨w1.heap.size, 0, none⟩) 0 (nl + 1)]
      simpa using h
    have hsV : ((w1.alloc (.cells MC 24)).alloc (.cells #[.slice (some ⟨w1.heap.size, 0, none⟩) 0 (nl + 1)] 49)).heap.size = w1.heap.size + 2 := by simp
    have hz1 := B1.size
    generalize (w1.alloc (.cells MC 24)).alloc (.cells #[.slice (some ⟨w1.heap.size, 0, none⟩) 0 (nl + 1)] 49) = V at *
    generalize w1.heap.size = G1 at *
    have B3 := ((alloc_bel' V (.cells #[.slice sl nl cl] 31)).alloc (by simp) (.cells (stA ps sp n cap) 30)).alloc (by simp; omega) (.cells #[.func (Fn.func 32) #[] #[]] 80)
    have hvl := var0.lt
    have hrl : G1 < V.heap.size := by omega
    have hI0 : QI w G1 V.heap.size (stA ps sp n cap) (rts ps os (bzs es)) sl nl cl 0 (((V.alloc (.cells #[.slice sl nl cl] 31)).alloc (.cells (stA ps sp n cap) 30)).alloc (.cells #[.func (Fn.func 32) #[] #[]] 80)) := by
      refine ⟨BV.trans (B3.mono BV.size), ?_, ((Arr.new V 31 #[.slice sl nl cl]).alloc _).alloc _, ?_, var0.below B3 hvl, own_same row0 (fun b hb => B3.block b (own_lt row0 hb))⟩
      · have h := Arr.new (V.alloc (.cells #[.slice sl nl cl] 31)) 30 (stA ps sp n cap)
        simp only [World.size_alloc] at h
        exact h.alloc _
      · have h := Arr.new ((V.alloc (.cells #[.slice sl nl cl] 31)).alloc (.cells (stA ps sp n cap) 30)) 80 #[.func (Fn.func 32) #[] #[]]
        simp only [World.size_alloc] at h
        exact h
    have hs3 : (((V.alloc (.cells #[.slice sl nl cl] 31)).alloc (.cells (stA ps sp n cap) 30)).alloc (.cells #[.func (Fn.func 32) #[] #[]] 80)).heap.size = V.heap.size + 3 := by simp
    generalize ((V.alloc (.cells #[.slice sl nl cl] 31)).alloc (.cells (stA ps sp n cap) 30)).alloc (.cells #[.func (Fn.func 32) #[] #[]] 80) = V3 at *
    have hGV : G1 + 2 ≤ V.heap.size := by omega
    have hVD : V.heap.size = G1 + 1 + 1 := by omega
    rw [hVD] at hI0 hs3
    have hT := foldTS (bf := (G1 + 1 + 1) + 1) (bl := (G1 + 1 + 1)) (bs := (G1 + 1 + 1) + 1 + 1) (N := (G1 + 1 + 1) + 3) (B := (G1 + 1 + 1) + 3 + 2) (s0 := sp) (n0 := n) (c0 := cap) (sl := sl) (nl := nl) (cl := cl) hrok (by omega)
    have hTl := fold49_in ((G1 + 1 + 1) + 1) (G1 + 1 + 1) ((G1 + 1 + 1) + 1 + 1) ((G1 + 1 + 1) + 3 + 2) (stA ps sp n cap) sl nl cl es (MM ((G1 + 1 + 1) + 1) (G1 + 1 + 1) ((G1 + 1 + 1) + 1 + 1) ((G1 + 1 + 1) + 3) 30 32 (stA ps sp n cap) ps sp n cap os sl nl cl es) (TS ((G1 + 1 + 1) + 3 + 2) sp n cap ps os (bzs es)) (fun W h => h.1.up (by omega)) hT
    have hwV : w.heap.size ≤ (G1 + 1 + 1) := by omega
    have hGV2 : G1 + 2 ≤ G1 + 1 + 1 := by omega
    clear hmk var0 row0 BV bV B3 hsV hvl hVD A2 B1 hb1
    have hen := enters_of (P := Try.prog) Try.func49 (by kernel_rfl) rfl
    have hst := staysS ((G1 + 1 + 1) + 3 + 2) (MM ((G1 + 1 + 1) + 1) (G1 + 1 + 1) ((G1 + 1 + 1) + 1 + 1) ((G1 + 1 + 1) + 3) 30 32 (stA ps sp n cap) ps sp n cap os sl nl cl es) sp n cap ps os (bzs es)
    refine range_tell 49 #[.pointer (some ⟨(G1 + 1 + 1) + 1, 0, none⟩), .pointer (some ⟨(G1 + 1 + 1), 0, none⟩), .pointer (some ⟨(G1 + 1 + 1) + 1 + 1, 0, none⟩)] ((G1 + 1 + 1) + 3) hs3 rfl hen nl (MM ((G1 + 1 + 1) + 1) (G1 + 1 + 1) ((G1 + 1 + 1) + 1 + 1) ((G1 + 1 + 1) + 3) 30 32 (stA ps sp n cap) ps sp n cap os sl nl cl es) (TS ((G1 + 1 + 1) + 3 + 2) sp n cap ps os (bzs es)) (fun _ _ => False) hTl hst (fun _ _ _ _ _ h => h.elim) (fun j C W => QI w G1 (G1 + 1 + 1) (stA ps sp n cap) (rts ps os (bzs es)) sl nl cl j W) (fun _ _ => False) (fun j C W h => h.mm hS hL hwV) (fun j C W W' h hb => h.below hb hwV hGV2) (fun c W r o h _ => h) Z hI0 ?round ?done (fun c W' o h => h.elim)
    case round =>
      intro j Cp C U hI hj hTU hsU m
      clear hI0 hTl
      obtain ⟨hC, hC1⟩ := hT.size j C U hTU
      clear hT
      gi_wp2_with (refine atSi 30 (.tmp 8) (.tmp 22) ?_; refine stBnr (by rfl) 30 1089 _ _ (by rfl) U U.heap.size 30 rfl C (by rfl) (by rfl) hC hC1 hzs size30N ?_)
      refine ⟨alloc_bel' U _, fun w2 hb2 hk2 hs2 hI2 hT2 => ?_⟩
      have E2 : Arr w2 U.heap.size 30 C := (hk2 _ (by omega)).trans (Arr.new U 30 C)
      have hmm := hI2.mm hS hL hwV
      obtain ⟨hbel, q1, q2, q3, hvar, hrow⟩ := hI2
      simp only [World.size_alloc] at hs2
      obtain ⟨s, n', c, rfl, hSR⟩ := hT2
      have hSS := hSR.ss (hmm.2.mono (by omega)) (hrok j)
      have hroot := sroot_any (rnA ps os (bzs es) j).P _ s n' c (rnA ps os (bzs es) j).O w2 hSS
      have hX := rtV_len (rnA ps os (bzs es) j).P (rnA ps os (bzs es) j).O
      have hsc := Hid.mk' (rts_succ ps os (bzs es) j)
      generalize rtV (rnA ps os (bzs es) j).P (rnA ps os (bzs es) j).O = X at *
      generalize rtE (rnA ps os (bzs es) j).P (rnA ps os (bzs es) j).O = re at *
      clear hSR hSS hb2 hk2 hTU hI
      have fin : Hid (∀ w3 w4 : World, Below w2.heap.size w2 w3 → w4.ownsRow w.heap.size 24 32 (.slice (some ⟨G1, 0, none⟩) (j + 1) (nl + 1)) (j + 1) (flat32 (rts ps os (bzs es) j ++ [X])) → ((w3.alloc (.cells (h8 X) 24)).alloc (.cells (h8 X) 24)).grownBy w4 (some G1) → Arr w4 (G1 + 1) 49 #[.slice (some ⟨G1, 0, none⟩) j (nl + 1)] ∧ (QI w G1 (G1 + 1 + 1) (stA ps sp n cap) (rts ps os (bzs es)) sl nl cl (j + 1) (w4.setCell ⟨G1 + 1, 0, none⟩ (.slice (some ⟨G1, 0, none⟩) (j + 1) (nl + 1))) ∧ w2.heap.size ≤ (w4.setCell ⟨G1 + 1, 0, none⟩ (.slice (some ⟨G1, 0, none⟩) (j + 1) (nl + 1))).heap.size ∧ ∀ b, (G1 + 1 + 1) + 3 ≤ b → b < U.heap.size → ¬ False → (w4.setCell ⟨G1 + 1, 0, none⟩ (.slice (some ⟨G1, 0, none⟩) (j + 1) (nl + 1))).heap[b]? = w2.heap[b]?)) := Hid.mk' (by
        intro w3 w4 hb3 h4 hg4
        have hz3 := hb3.size
        have bb := (alloc_bel' w3 (.cells (h8 X) 24)).alloc (by simp) (.cells (h8 X) 24)
        have hz4 := hg4.size
        simp only [World.size_alloc] at hz4
        have b23 := hb3.trans (bb.mono hz3)
        have hv3 := hvar.below b23 hvar.lt
        have hv4 := hv3.grown hg4 (by simp)
        have hblk : ∀ b, b < w2.heap.size → b ≠ G1 → w4.heap[b]? = w2.heap[b]? := fun b hb hne => (hg4.block b (by simp; omega) (by simpa using hne)).trans (b23.block b hb)
        have hkeep : ∀ b, b < w2.heap.size → b ≠ G1 → b ≠ G1 + 1 → (w4.setCell ⟨G1 + 1, 0, none⟩ (.slice (some ⟨G1, 0, none⟩) (j + 1) (nl + 1))).heap[b]? = w2.heap[b]? := fun b hb h1' h2' => (Below.heap_setCell _ _ _ _ h2').trans (hblk b hb h1')
        have hbz := hbel.size
        have hu1 := q1.lt
        have hu2 := q2.lt
        have hu3 := q3.lt
        refine ⟨hv4, ⟨?_, (hkeep _ hu1 (by omega) (by omega)).trans q1, (hkeep _ hu2 (by omega) (by omega)).trans q2, (hkeep _ hu3 (by omega) (by omega)).trans q3, ?_, ?_⟩, by simp [World.setCell]; omega, fun b h1' h2' _ => hkeep b (by omega) (by omega) (by omega)⟩
        · exact ⟨hg4.os.trans (b23.os.trans hbel.os), hg4.tape.trans (b23.tape.trans hbel.tape), hg4.output.trans (b23.output.trans hbel.output), by simp [World.setCell]; omega, fun b hb => (hkeep b (by omega) (by omega) (by omega)).trans (hbel.block b hb)⟩
        · have := hv4.set 0 (.slice (some ⟨G1, 0, none⟩) (j + 1) (nl + 1))
          simpa using this
        · rw [hsc.out]
          exact own_same h4 (fun b hb => Below.heap_setCell _ _ _ _ (by simp [Value.ownBlock] at hb; subst hb; show G1 ≠ G1 + 1; omega)))
      have fin0 : Hid (∀ w3 : World, Below w2.heap.size w2 w3 → Arr (w3.alloc (.cells (h8 X) 24)) (G1 + 1) 49 #[.slice (some ⟨G1, 0, none⟩) j (nl + 1)] ∧ ((w3.alloc (.cells (h8 X) 24)).alloc (.cells (h8 X) 24)).ownsRow w.heap.size 24 32 (.slice (some ⟨G1, 0, none⟩) j (nl + 1)) j (flat32 (rts ps os (bzs es) j)) ∧ w.heap.size ≤ ((w3.alloc (.cells (h8 X) 24)).alloc (.cells (h8 X) 24)).heap.size) := Hid.mk' (by
        intro w3 hb3
        have hz3 := hb3.size
        have hbz := hbel.size
        exact ⟨(hvar.below hb3 hvar.lt).alloc _, ((own_same hrow (fun b hb => hb3.block b (own_lt hrow hb))).alloc _).alloc _, by simp; omega⟩)
      have hsq2 := hC
      gi_wp2_with (first
        | (refine atLi 30 (.tmp 8) ?_; refine ldBr (by rfl) 30 1089 _ (by rfl) U.heap.size 30 (by rfl) _ hC E2 Try.underlying30 rfl size30N ?_)
        | (refine ⟨trivial, fun h => (by cases h), ?_⟩; gi_at_call 38; go_must (refine (callsIn_round hroot).mono ?_; rintro r w3 ⟨rfl, hb3⟩; obtain ⟨v3, o3, z3⟩ := fin0.out w3 hb3; have c3 := v3.cell 0; have E3 := Arr.new w3 24 (h8 X); have N3 := Arr.new (w3.alloc (.cells (h8 X) 24)) 24 (h8 X); simp at c3))
        | (refine atSi 24 (.tmp 9) (.tmp 26) ?_; refine si24n (by rfl) _ _ (by rfl) w3 w3.heap.size rfl (by rfl) X (by rfl) (by rfl) hX ?_)
        | (refine atLi 24 (.tmp 9) ?_; refine li24 (by rfl) _ (by rfl) w3.heap.size 0 (by rfl) X hX E3.range ?_)
        | (refine atBSi 49 ?_; refine b1R (by rfl) (.tmp 29) (by rfl) X (by rfl) hX ?_)
        | (refine atAi (.tmp 28) (.tmp 30) ?_; go_must (refine a1R (by rfl) (.tmp 28) (.tmp 30) (by rfl) w.heap.size G1 (nl + 1) j (rts ps os (bzs es) j) (by rfl) o3 (w3.alloc (.cells (h8 X) 24)).heap.size X (by rfl) N3 hX (by omega) (by omega) z3 ?_; intro w4 h4 hg4; obtain ⟨hv4, hfin⟩ := fin.out w3 w4 hb3 h4 hg4; have c4 := hv4.cell 0; have f4 := hv4.frozen 0; simp at c4)))
      exact hfin
    case done =>
      intro C U o hI hT' hsU hdf
      have hI2 := hI.below (bel_put (r := (G1 + 1 + 1) + 3 + 1) (Below.refl ((G1 + 1 + 1) + 3) U) (by omega) o) hwV hGV2
      have hdf' : (U.putObj ((G1 + 1 + 1) + 3 + 1) o).heap[(G1 + 1 + 1) + 3]? = some (.deferred (some [])) := (World.putObj_heap_other (by omega)).trans hdf
      generalize U.putObj ((G1 + 1 + 1) + 3 + 1) o = V2 at *
      obtain ⟨hbel, -, -, -, hvar, hrow⟩ := hI2
      have c6 := hvar.cell 0
      simp at c6
      gi_wp2
      have hbz := bel_put (r := (G1 + 1 + 1) + 3) hbel (by omega) (.deferred none)
      refine ⟨by simp, .inl ⟨_, _, rfl, run_takeDeferred hdf', ?_⟩⟩
      exact ⟨_, results_tmp2 rfl _ _ _, some ⟨G1, 0, none⟩, nl + 1, nl + 1, rfl, Hid.mk' (rts_len _ _ _ _).symm, own_same hrow (fun b hb => World.putObj_heap_other (by simp [Value.ownBlock] at hb; omega)), hbz⟩
end Go.Proofs.Ytbhhbkoikocjgaa

/- Layer spec: what the layers below give. -/
import Derived.Test.YtbhhbkoikocjgaaX01
import Derived.Test.YtbhhbkoikocjgaaX02
import Derived.Test.YtbhhbkoikocjgaaX03
import Derived.Test.YtbhhbkoikocjgaaX04
import Derived.Test.YtbhhbkoikocjgaaX05
import Derived.Test.YtbhhbkoikocjgaaX06
import Derived.Test.YtbhhbkoikocjgaaX07
import Derived.Test.YtbhhbkoikocjgaaX08
import Derived.Test.YtbhhbkoikocjgaaX14
import Derived.Test.YtbhhbkoikocjgaaX15
import Derived.Test.YtbhhbkoikocjgaaX12
import Derived.Test.YtbhhbkoikocjgaaX16
import Derived.Test.YtbhhbkoikocjgaaX17
import Derived.BigQuiet
import Derived.BigRegion
import Derived.ChangeKeysEq
import Derived.ChangeOld
import Derived.Deep.DeepCutAuto
import Derived.Deep.DrawnRows
import Derived.Deep.MidRow
import Derived.Deep.QuietTactic
import Derived.Deep.RegionHeld3
import Derived.Deep.RegionLaw
import Derived.Deep.RegionWith
import Derived.Deep.WholeRow
import Derived.Great.BuildSlice
import Derived.Great.FillDense
import Derived.JoinedTies
import Derived.KernelRfl
import Derived.Laws.AppendOwnNone
import Derived.Laws.BitsLemmas
import Derived.Laws.BytesArg
import Derived.Laws.CopyOwn
import Derived.Laws.CopyRow
import Derived.Laws.MakeOwn
import Derived.Laws.OwnMore
import Derived.Laws.ResultCell
import Derived.Laws.Tables
import Derived.Lib.AppendZeros
import Derived.Lib.SlBytesConst
import Derived.Lib.SliceRun
import Derived.LoopIn
import Derived.LoopNIn
import Derived.Maps.AppendAt
import Derived.OpenShut
import Derived.OwnWalkIn
import Derived.ProofKit
import Derived.RangeFuncBound
import Derived.RangeFuncCalls
import Derived.RangeFuncLeaves
import Derived.RangeFuncNested
import Derived.RangeFuncRecord
import Derived.Shelf.Abstract
import Derived.Shelf.RegionOpen
import Derived.ShutString
import Derived.SizedLaws
import Derived.TacticsInMore
import Derived.WalkKit
import Derived.WalkLawsBesides
import Derived.WalkSpells
import GoSem.Claim
import GoSem.ClaimJoined
import GoSem.ClaimMapViews
namespace Go.Proofs.Ytbhhbkoikocjgaa
set_option linter.unusedSectionVars false
set_option maxHeartbeats 1000000
open Go.RowKit
set_option maxRecDepth 100000
set_option linter.unusedVariables false
set_option linter.unusedSimpArgs false

variable [DecidableEq Ac] [DecidableEq Ou] [DecidableEq Mg]
set_option maxHeartbeats 2000000 in
theorem copyO_any (ps : List Ac) (N : Nat) (sp : Option Addr) (n cap : Nat) (os : List Ou) (w : World) (hS : SS N w ps sp n cap os) (hb : n * 16 ≤ 140737488351232) : Calls Try.prog 21 #[.agg (stA ps sp n cap)] w fun r w' => ∃ sp cap, r = .returned (.agg (stA ps sp n cap)) ∧ w'.ownsRow w.heap.size 66 2 (.slice sp n cap) n (ouF os) ∧ Below w.heap.size w w' := by
  have hS := hS.here
  have h1 := hS.a32.out
  have h2 := hS.l32
  have A0 := (Arr.new w 30 (stA ps sp n cap)).alloc (.cells (stA zs none 0 0) 30)
  have R0 : Arr ((w.alloc (.cells (stA ps sp n cap) 30)).alloc (.cells (stA zs none 0 0) 30)) (w.heap.size + 1) 30 (stA zs none 0 0) := by simpa using Arr.new (w.alloc (.cells (stA ps sp n cap) 30)) 30 (stA zs none 0 0)
  have B0 := (alloc_bel' w (.cells (stA ps sp n cap) 30)).alloc (by simp) (.cells (stA zs none 0 0) 30)
  have hz30 := zeroValue30
  have hzsz : (stA zs none 0 0).size = 1089 := stA_size zs_len zs_l32
  generalize stA zs none 0 0 = Z at A0 R0 B0 hz30 hzsz
  go_enter Try.func21, Try.ntmps21
  go_upto_region 1 with fail
  generalize (w.alloc (.cells (stA ps sp n cap) 30)).alloc (.cells Z 30) = V at A0 R0 B0 ⊢
  have cO := A0.stOut h1 h2
  have fO := A0.frozen 1088
  have a1 := alloc_bel' V (.cells #[] 66)
  have own0 : (V.alloc (.cells #[] 66)).ownsRow (w.heap.size + 1 + 1) 66 2 (.slice (some ⟨V.heap.size, 0, none⟩) 0 0) 0 (ouF []) := World.ownsRow_made V #[] 0 (by have := R0.lt; omega) (by unfold maxLen; omega) rfl
  have S1 := (hS.outs.below B0).below (a1.mono B0.size)
  have A1 := A0.bel a1
  have R1 := R0.bel a1
  have B1 := B0.trans (a1.mono B0.size)
  have hVz := R0.lt
  have cO1 := A1.stOut h1 h2
  have fO1 := A1.frozen 1088
  clear cO fO
  go_upto_region 2 with (first
    | (refine atA (.tmp 3) (.tmp 5) ?_; go_must (refine as53 (by rfl) (.tmp 3) (.tmp 5) (by rfl) (w.heap.size + 1 + 1) _ _ (by rfl) own0 sp n cap os (by rfl) S1 hb (by simp; omega) ?_; intro v2 w2 own2 g2; have A2 := A1.grown g2 (fun e => by have := own_ge own0 _ e.symm; omega); have R2 := R1.grown g2 (fun e => by have := own_ge own0 _ e.symm; omega); have B2 := B1.grown g2 B1.size (fun k e => by have := own_ge own0 k e; omega); obtain ⟨s2, c2, rfl, O2, hs2⟩ := own_os own2 S1.len.out S1.small S1.ok; have cO2 := A2.stOut h1 h2; have fO2 := A2.frozen 1088)))
  have A3 := A2.set 1088 (.slice s2 n c2)
  rw [stA_set h1 h2] at A3
  have R3 := R2.setOther (a := ⟨w.heap.size, 1088, none⟩) (.slice s2 n c2) (by simp)
  have B3 := B2.setCell (p := ⟨w.heap.size, 1088, none⟩) (by simp) (.slice s2 n c2)
  have own3 := own_cellO (o := 1088) (u := .slice s2 n c2) own2 (show w.heap.size < w.heap.size + 1 + 1 by omega)
  generalize w2.setCell ⟨w.heap.size, 1088, none⟩ (.slice s2 n c2) = W3 at A3 R3 B3 own3 ⊢
  have hsz : (Try.prog.info? 30).map (·.size) = some (stA ps s2 n c2).size := by rw [stA_size h1 h2]; exact size30
  go_wp2_with (first
    | (refine atL 30 (.tmp 1) ?_; refine ld30 (by rfl) _ (by rfl) w.heap.size 30 (by rfl) ps s2 n c2 h1 h2 A3 ?_)
    | (refine atS 30 (.tmp 2) (.tmp 8) ?_; refine wpList_store_arr (by rfl) 30 (.tmp 2) (.tmp 8) (by rfl) (w.heap.size + 1) (stA ps s2 n c2) (by rfl) (by rfl) 30 _ R3 hsz (by rw [hzsz, stA_size h1 h2]) (stA_one ps s2 n c2) ?_))
  have own4 := own_row own3 (stA ps s2 n c2) (show w.heap.size + 1 < w.heap.size + 1 + 1 by omega)
  exact bodyPost_ret (v := .agg (stA ps s2 n c2)) (results_cell_row Try.results21 _ _ (w.heap.size + 1) 30 _ (0, 0) _ rfl (R3.setRow _) Try.underlying30 rfl hsz) rfl ⟨s2, c2, rfl, own_mono own4 (by omega), below_setRow B3 (by omega) _⟩
theorem DLPost.stay {ps : List Ac} {os : List Ou} {L : List Int} {w w' : World} {sp : Option Addr} {n cap : Nat} (h : may ps os.length = true) (ha : dlt ps os L = none) (ho : w'.ownsRow w.heap.size 66 2 (.slice sp n cap) n (ouF os)) (hn : Hid (n = os.length)) (hb : Below w.heap.size w w') : DLPost ps os L w (.returned (.tuple #[.agg (stA ps sp n cap), .bool false, .int .i64 0])) w' :=
  DLPost.ok h (by unfold dlP; rw [ha]; rfl) (by unfold dlO; rw [ha]; rfl) (by unfold dlD; rw [ha]; rfl) ho hn hb
theorem DLPost.did {ps q : List Ac} {os u : List Ou} {L : List Int} {w w' : World} {sp : Option Addr} {n cap : Nat} (h : may ps os.length = true) (ha : dlt ps os L = some (q, u)) (ho : w'.ownsRow w.heap.size 66 2 (.slice sp n cap) n (ouF u)) (hn : Hid (n = u.length)) (hb : Below w.heap.size w w') : DLPost ps os L w (.returned (.tuple #[.agg (stA q sp n cap), .bool true, .int .i64 0])) w' :=
  DLPost.ok h (by unfold dlP; rw [ha]; rfl) (by unfold dlO; rw [ha]; rfl) (by unfold dlD; rw [ha]; rfl) ho hn hb
theorem built26 (x y : Int) (X : List Int) (hX : X.length = 32) : Try.prog.built 26 [(0, .int .u64 x), (1, .int .u64 y), (2, .agg (h8 X))] = some (Ac.arr ⟨x, y, X⟩) :=
  list32 (P := fun X => Try.prog.built 26 [(0, .int .u64 x), (1, .int .u64 y), (2, .agg (h8 X))] = some (Ac.arr ⟨x, y, X⟩)) (fun x0 x1 x2 x3 x4 x5 x6 x7 x8 x9 x10 x11 x12 x13 x14 x15 x16 x17 x18 x19 x20 x21 x22 x23 x24 x25 x26 x27 x28 x29 x30 x31 => by kernel_rfl) X hX
theorem bldO {ops : Array Oper} {rest : List Oper} {o : Oper} {a : Act} {w : World} {Q : Exit → Act → World → Prop} (hgd : o.guard = none) (x : Operand) (ho : o.op = .buildSlice 28 1 #[(0, x)]) (e : Ou) (hx : a.eval x = .agg e.arr)
    (h : wpList Try.prog ops Q rest (a.put o.dst (.slice (some ⟨w.heap.size, 0, none⟩) 1 1)) (w.alloc (.cells e.arr 66))) : wpList Try.prog ops Q (o :: rest) a w :=
  wpList_plain hgd fun _ hK => wp_bldO x ho e hx (hK _ _ h)
theorem ap53 {ops : Array Oper} {rest : List Oper} {o : Oper} {a : Act} {w : World} {Q : Exit → Act → World → Prop} (hgd : o.guard = none) (s x : Operand) (ho : o.op = .call { callee := .builtin .append, args := #[s, x], argTypes := #[28, 28] })
    (base : Nat) (v : Value) (n : Nat) (os : List Ou) (e : Ou) (hs : a.eval s = v) (hE : w.ownsRow base 66 2 v n (ouF os)) (gx c : Nat) (hx : a.eval x = .slice (some ⟨gx, 0, none⟩) 1 c) (hA : Arr w gx 66 e.arr) (hk : n ≤ 1000000000) (hbase : base ≤ w.heap.size)
    (h : ∀ v' w', w'.ownsRow base 66 2 v' (n + 1) (ouF (os ++ [e])) → w.grownBy w' v.ownBlock → wpList Try.prog ops Q rest (a.put o.dst v') w') : wpList Try.prog ops Q (o :: rest) a w :=
  wpList_plain hgd fun _ hK => wp_ap53 s x ho base v n os e hs hE gx c hx hA hk hbase fun v' w' h1 h2 => hK _ _ (h v' w' h1 h2)
theorem atBS {P : Program} {ops : Array Oper} {rest : List Oper} {a : Act} {w : World} {Q : Exit → Act → World → Prop} (t : TypeId) {d} {k} {ps} {ty} {pos} {af} {g} (h : wpList P ops Q (⟨d, .buildSlice t k ps, ty, pos, af, g⟩ :: rest) a w) : wpList P ops Q (⟨d, .buildSlice t k ps, ty, pos, af, g⟩ :: rest) a w := h
end Go.Proofs.Ytbhhbkoikocjgaa

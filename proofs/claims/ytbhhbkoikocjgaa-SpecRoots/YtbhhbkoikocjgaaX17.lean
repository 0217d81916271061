/- Ee0, Ne, Nh0, Cv. -/
import Derived.Test.YtbhhbkoikocjgaaX01
import Derived.Test.YtbhhbkoikocjgaaX02
import Derived.Test.YtbhhbkoikocjgaaX03
import Derived.Test.YtbhhbkoikocjgaaX04
import Derived.Test.YtbhhbkoikocjgaaX05
import Derived.Test.YtbhhbkoikocjgaaX06
import Derived.Test.YtbhhbkoikocjgaaX07
import Derived.Test.YtbhhbkoikocjgaaX08
import Derived.Test.YtbhhbkoikocjgaaX14
import Derived.Test.YtbhhbkoikocjgaaX15
import Derived.Test.YtbhhbkoikocjgaaX16
import Derived.BigQuiet
import Derived.BigRegion
import Derived.ChangeKeysEq
import Derived.ChangeOld
import Derived.Deep.DeepCutAuto
import Derived.Deep.DrawnRows
import Derived.Deep.MidRow
import Derived.Deep.QuietTactic
import Derived.Deep.RegionHeld3
import Derived.Deep.RegionLaw
import Derived.Deep.RegionWith
import Derived.Deep.WholeRow
import Derived.Great.BuildSlice
import Derived.Great.FillDense
import Derived.JoinedTies
import Derived.KernelRfl
import Derived.Laws.AppendOwnNone
import Derived.Laws.BitsLemmas
import Derived.Laws.BytesArg
import Derived.Laws.CopyOwn
import Derived.Laws.CopyRow
import Derived.Laws.MakeOwn
import Derived.Laws.OwnMore
import Derived.Laws.ResultCell
import Derived.Laws.Tables
import Derived.Lib.AppendZeros
import Derived.Lib.SlBytesConst
import Derived.Lib.SliceRun
import Derived.LoopIn
import Derived.LoopNIn
import Derived.Maps.AppendAt
import Derived.OpenShut
import Derived.OwnWalkIn
import Derived.ProofKit
import Derived.RangeFuncBound
import Derived.RangeFuncCalls
import Derived.RangeFuncLeaves
import Derived.RangeFuncNested
import Derived.RangeFuncRecord
import Derived.Shelf.Abstract
import Derived.Shelf.RegionOpen
import Derived.ShutString
import Derived.SizedLaws
import Derived.TacticsInMore
import Derived.WalkKit
import Derived.WalkLawsBesides
import Derived.WalkSpells
import GoSem.Claim
import GoSem.ClaimJoined
import GoSem.ClaimMapViews
import Derived.Test.YtbhhbkoikocjgaaX13
import Derived.Test.YtbhhbkoikocjgaaX12
/- Layer spec: what the layers below give. -/
namespace Go.Proofs.Ytbhhbkoikocjgaa
set_option linter.unusedSectionVars false
set_option maxHeartbeats 1000000
open Go.RowKit
set_option maxRecDepth 100000
set_option linter.unusedVariables false
set_option linter.unusedSimpArgs false

variable [DecidableEq Ac] [DecidableEq Ou] [DecidableEq Mg]
theorem size57 : (Try.prog.info? 127).map (·.size) = some 1089 := by kernel_rfl
theorem zero57 : (Try.prog.info? 127).map (·.zero) = some (some (.agg (stA zs none 0 0))) := by kernel_rfl
theorem zeroValue57 (w : World) : (zeroValue 127).run Try.prog w = .ok (.agg (stA zs none 0 0)) w := by
  have h := zero57
  cases hq : Try.prog.info? 127 with
  | none => rw [hq] at h; cases h
  | some i =>
    rw [hq] at h
    have hz : i.zero = some (.agg (stA zs none 0 0)) := by simpa using h
    simp [zeroValue, typeInfo, hq, hz]
theorem built30z : Try.prog.built 30 [] = some (stA zs none 0 0) := by kernel_rfl
theorem places57 : (match Try.prog.underlying 127 with | some (.struct fs) => fs.toList.mapM (fun f => (Try.prog.info? f.type).map fun i => (f.offset, i.size)) | _ => none) = some [(0, 1089)] := by kernel_rfl
theorem built57 {C : Array Value} (hC : C.size = 1089) : Try.prog.built 127 [(0, .agg C)] = some C := by
  have hz := zero57
  have hp := places57
  unfold Program.built
  cases hi : Try.prog.info? 127 with
  | none => rw [hi] at hz; cases hz
  | some it =>
    rw [hi] at hz
    have hz : it.zero = some (.agg (stA zs none 0 0)) := by simpa using hz
    have hw := Great.fill_whole (s := 1089) (by omega) [.agg C] (stA zs none 0 0) (fun v hv => by simp only [List.mem_singleton] at hv; rw [hv]; exact hC) (by rw [stA_size zs_len zs_l32]; rfl)
    have hs : (stA zs none 0 0).size = 1089 := stA_size zs_len zs_l32
    cases hu : Try.prog.underlying 127 with
    | none => rw [hu] at hp; cases hp
    | some d =>
      rw [hu] at hp
      cases d <;> try (cases hp; done)
      next fs =>
        simp only [] at hp
        simp only [hz, hp]
        generalize stA zs none 0 0 = Z at hw hs ⊢
        simp [Instr.fill, Value.cells, hC, hs] at hw ⊢
        exact hw
theorem st57n {ops : Array Oper} {rest : List Oper} {o : Oper} {a : Act} {Q : Exit → Act → World → Prop} (hgd : o.guard = none) (x y : Operand) (ho : o.op = .store 127 x y) (W : World) (g : Nat) (hgW : W.heap.size = g) {z : Array Value} (hz : z.size = 1089)
    (ps : List Ac) (sp : Option Addr) (n cap : Nat) (hx : a.eval x = .pointer (some ⟨g, 0, none⟩)) (hy : a.eval y = .agg (stA ps sp n cap)) (h1 : ps.length = 32) (h2 : ∀ a ∈ ps, a.lk.length = 32)
    (h : wpList Try.prog ops Q rest (a.put o.dst undef) (W.alloc (.cells (stA ps sp n cap) 127))) : wpList Try.prog ops Q (o :: rest) a (W.alloc (.cells z 127)) := by
  subst hgW
  exact wpList_store_new W z 127 hgd 127 x y ho (stA ps sp n cap) hx hy (by rw [stA_size h1 h2]; exact size57) (by rw [hz, stA_size h1 h2]) (stA_one ps sp n cap) h
theorem st30n {ops : Array Oper} {rest : List Oper} {o : Oper} {a : Act} {Q : Exit → Act → World → Prop} (hgd : o.guard = none) (x y : Operand) (ho : o.op = .store 30 x y) (W : World) (g : Nat) (hgW : W.heap.size = g) {z : Array Value} (hz : z.size = 1089)
    (ps : List Ac) (sp : Option Addr) (n cap : Nat) (hx : a.eval x = .pointer (some ⟨g, 0, none⟩)) (hy : a.eval y = .agg (stA ps sp n cap)) (h1 : ps.length = 32) (h2 : ∀ a ∈ ps, a.lk.length = 32)
    (h : wpList Try.prog ops Q rest (a.put o.dst undef) (W.alloc (.cells (stA ps sp n cap) 30))) : wpList Try.prog ops Q (o :: rest) a (W.alloc (.cells z 30)) := by
  subst hgW
  exact wpList_store_new W z 30 hgd 30 x y ho (stA ps sp n cap) hx hy (by rw [stA_size h1 h2]; exact size30) (by rw [hz, stA_size h1 h2]) (stA_one ps sp n cap) h
theorem yAc {ops : Array Oper} {S : World → Prop} {op : Oper} {a : Act} (hw : Region.wanted op (yielded ops a.tmps) = true) (x : Operand) (ho : op.op = .load 27 x)
    (g ty : Nat) (hx : a.eval x = .pointer (some ⟨g, 0, none⟩)) (ps : List Ac) (sp : Option Addr) (n cap : Nat) (h1 : ps.length = 32) (h2 : ∀ a ∈ ps, a.lk.length = 32) (hS : ∀ w, S w → Arr w g ty (stA ps sp n cap)) : YieldsIf Try.prog ops S op (.agg (acA ps)) a :=
  yieldsIf_load_mid hw 27 x ho g 0 hx (acF ps) _ (fun w h => (hS w h).stAc) Try.underlying27 rfl (by rw [acF_len h2, h1]; exact size27)
theorem own_mono {w : World} {b b' e s n : Nat} {v : Value} {xs : List Value} (h : w.ownsRow b e s v n xs) (hb : b' ≤ b) : w.ownsRow b' e s v n xs := by
  obtain ⟨hl, h' | ⟨g, cap, cur, e1, hg, r⟩⟩ := h
  · exact ⟨hl, .inl h'⟩
  · exact ⟨hl, .inr ⟨g, cap, cur, e1, by omega, r⟩⟩
theorem own_row {w : World} {base n g : Nat} {v : Value} {xs : List Value} (h : w.ownsRow base 66 2 v n xs) (D : Array Value) (hg : g < base) : (w.setRow g D).ownsRow base 66 2 v n xs :=
  own_same h (fun k hk => setRow_other w g k D (fun e => by have := own_ge h k hk; omega))
theorem resD {f : Func} {w : World} {tmps : Array Value} {g t k l : Nat} {ps : List Ac} {sp : Option Addr} {n cap : Nat} {v u : Value} (hf : f.results = #[.cell t 30, .tmp k, .tmp l]) (hp : tmps.getD t undef = .pointer (some ⟨g, 0, none⟩)) (hk : tmps.getD k undef = v) (hl : tmps.getD l undef = u) (h1 : ps.length = 32) (h2 : ∀ a ∈ ps, a.lk.length = 32) (hA : Arr w g 30 (stA ps sp n cap)) :
    (results f tmps).run Try.prog w = .ok (.tuple #[.agg (stA ps sp n cap), v, u]) w := by
  have hl' := run_loadVar_mid (P := Try.prog) w g 0 30 (stC ps sp n cap) _ hA.st Try.underlying30 rfl (by rw [stC_len h1 h2]; exact size30)
  have hp' : tmps[t]?.getD undef = .pointer (some ⟨g, 0, none⟩) := by simpa using hp
  have hk' : tmps[k]?.getD undef = v := by simpa using hk
  have hll : tmps[l]?.getD undef = u := by simpa using hl
  simp [results, hf, hp', hk', hll, asAddr, hl', stA]
def xP (ps : List Ac) (os : List Ou) (L : List Int) : List Ac := if may ps os.length = true then dlP ps os L else zs
def xO (ps : List Ac) (os : List Ou) (L : List Int) : List Ou := if may ps os.length = true then dlO ps os L else []
def xD (ps : List Ac) (os : List Ou) (L : List Int) : Bool := may ps os.length && dlD ps os L
def xE (ps : List Ac) (os : List Ou) : Int := if may ps os.length = true then 0 else 2
/-- What Delta answers. -/
def DLPost (ps : List Ac) (os : List Ou) (L : List Int) (w : World) (r : Ending) (w' : World) : Prop :=
  ∃ sp n cap, r = .returned (.tuple #[.agg (stA (xP ps os L) sp n cap), .bool (xD ps os L), .int .i64 (xE ps os)]) ∧ w'.ownsRow w.heap.size 66 2 (.slice sp n cap) n (ouF (xO ps os L)) ∧ Hid (n = (xO ps os L).length) ∧ Below w.heap.size w w'
theorem DLPost.no {ps : List Ac} {os : List Ou} {L : List Int} {w w' : World} (h : may ps os.length = false) (hb : Below w.heap.size w w') : DLPost ps os L w (.returned (.tuple #[.agg (stA zs none 0 0), .bool false, .int .i64 2])) w' := by
  refine ⟨none, 0, 0, ?_, ?_, ?_, hb⟩
  · unfold xP xD xE; rw [h]; rfl
  · unfold xO; rw [h]; exact World.ownsRow_nil _ _ _ _
  · refine Hid.mk' ?_; unfold xO; rw [h]; rfl
theorem DLPost.ok {ps q : List Ac} {os u : List Ou} {L : List Int} {d : Bool} {w w' : World} {sp : Option Addr} {n cap : Nat} (h : may ps os.length = true) (e1 : dlP ps os L = q) (e2 : dlO ps os L = u) (e3 : dlD ps os L = d) (ho : w'.ownsRow w.heap.size 66 2 (.slice sp n cap) n (ouF u)) (hn : Hid (n = u.length)) (hb : Below w.heap.size w w') : DLPost ps os L w (.returned (.tuple #[.agg (stA q sp n cap), .bool d, .int .i64 0])) w' := by
  refine ⟨sp, n, cap, ?_, ?_, ?_, hb⟩
  · unfold xP xD xE; rw [h, e1, e3]; rfl
  · unfold xO; rw [h, if_pos rfl, e2]; exact ho
  · refine Hid.mk' ?_; unfold xO; rw [h, if_pos rfl, e2]; exact hn.out
theorem dl_bad {ps : List Ac} {os : List Ou} {L : List Int} (h : rdE L ≠ 0) : dlP ps os L = ps ∧ dlO ps os L = os ∧ dlD ps os L = false := by
  unfold dlP dlO dlD dlt; rw [if_neg h]; exact ⟨rfl, rfl, rfl⟩
theorem dl_good {ps : List Ac} {os : List Ou} {L : List Int} (hL : Bts L) (hl : ps.length = 32) (h1 : ∀ a ∈ ps, AcOK a) (h : rdE L = 0) : dlP ps os L = actP ps os (rdM L) ∧ dlO ps os L = actO ps os (rdM L) ∧ dlD ps os L = (!decide (actP ps os (rdM L) = ps)) := by
  unfold dlP dlO dlD dlt actP actO; rw [if_pos h]
  refine ⟨rfl, rfl, ?_⟩
  cases ha : act ps os (rdM L) with
  | none => simp
  | some r =>
    have := act_ne (rdM_ok hL) (rdE_may h) hl h1 ha
    simp [this]
theorem actP_ok {ps : List Ac} {os : List Ou} {m : Mg} (hm : MgOK m) (hl : ps.length = 32) (h1 : ∀ a ∈ ps, AcOK a) (h2 : ∀ o ∈ os, OuOK o) : (actP ps os m).length = 32 ∧ (∀ a ∈ actP ps os m, AcOK a) := by
  unfold actP
  cases h : act ps os m with
  | none => exact ⟨hl, h1⟩
  | some r => have := act_ok hm hl h1 h2 h; exact ⟨this.1, this.2.1⟩
end Go.Proofs.Ytbhhbkoikocjgaa
/- Layer spec: values along a list; what is a great value. -/
namespace Go.Proofs.Ytbhhbkoikocjgaa
set_option linter.unusedSectionVars false
set_option maxHeartbeats 1000000
open Go.RowKit Go.Shelf
set_option maxRecDepth 100000
set_option linter.unusedVariables false
set_option linter.unusedSimpArgs false
variable [DecidableEq Ac] [DecidableEq Ou] [DecidableEq Mg]
attribute [local go_sem] Oper.semAt_some


/-- What the fold wants of the memory: its three variables, and the list. -/
structure FoldM (bf bl bs B ty sf : Nat) (C0 : Array Value) (sl : Option Addr) (nl cl : Nat) (es : List Bz) (W : World) : Prop where
  first : Arr W bf ty C0
  list : W.cell? ⟨bl, 0, none⟩ = some (.slice sl nl cl)
  step : W.cell? ⟨bs, 0, none⟩ = some (.func (.func sf) #[] #[])
  msgs : BL B W sl nl cl es
  f0 : bf < B
  l0 : bl < B
  s0 : bs < B
theorem FoldM.below {bf bl bs B ty sf : Nat} {C0 : Array Value} {sl : Option Addr} {nl cl : Nat} {es : List Bz} {W W' : World} (h : FoldM bf bl bs B ty sf C0 sl nl cl es W) (hb : Below B W W') : FoldM bf bl bs B ty sf C0 sl nl cl es W' :=
  ⟨h.first.below hb h.f0, (hb.cell (p := ⟨bl, 0, none⟩) h.l0).trans h.list, (hb.cell (p := ⟨bs, 0, none⟩) h.s0).trans h.step, h.msgs.below hb, h.f0, h.l0, h.s0⟩
/-- What the values along the fold are: T j C W. -/
structure FoldT (B ty sz sf : Nat) (C0 : Array Value) (es : List Bz) (n : Nat) (M : World → Prop) (T : Nat → Array Value → World → Prop) : Prop where
  first : ∀ W, M W → B ≤ W.heap.size → T 0 C0 W
  size : ∀ j C W, T j C W → C.size = sz ∧ C.all (·.oneCell') = true
  stays : ∀ j C W W' g C', T j C W → Arr W g ty C' → M W' → W.heap.size ≤ W'.heap.size → (∀ b, B ≤ b → b < W.heap.size → b ≠ g → W'.heap[b]? = W.heap[b]?) → T j C W'
  step : ∀ j C e W g C', T j C W → M W → B ≤ W.heap.size → es[j]? = some e → j < n → Arr W g ty C' → B ≤ g → Calls Try.prog sf #[.agg C, .slice e.sp e.n e.cap] W fun r W' => ∃ C2, r = .returned (.agg C2) ∧ T (j + 1) C2 W' ∧ Below B W W' ∧ Arr W' g ty C'

/-- A run's stand with what did something; a run's stand with what flowed. -/
def crA (ps : List Ac) (sp : Option Addr) (n cap : Nat) (v : Value) : Array Value := (stC ps sp n cap ++ [v]).toArray
def flA (ps : List Ac) (sp : Option Addr) (n cap : Nat) (i u : Int) : Array Value := (stC ps sp n cap ++ [Value.int .u64 i, Value.int .u64 u]).toArray
theorem crA_size {ps : List Ac} {sp : Option Addr} {n cap : Nat} {v : Value} (h : ps.length = 32) (h2 : ∀ a ∈ ps, a.lk.length = 32) : (crA ps sp n cap v).size = 1090 := by
  simp [crA, stC_len h h2]
theorem flA_size {ps : List Ac} {sp : Option Addr} {n cap : Nat} {i u : Int} (h : ps.length = 32) (h2 : ∀ a ∈ ps, a.lk.length = 32) : (flA ps sp n cap i u).size = 1091 := by
  simp [flA, stC_len h h2]
theorem crA_one (ps : List Ac) (sp : Option Addr) (n cap : Nat) (s : Option Addr) (k c : Nat) : (crA ps sp n cap (.slice s k c)).all (·.oneCell') = true := all_oneCell_toArray (fun v hv => by
  rcases List.mem_append.1 hv with h | h
  · exact stC_one ps sp n cap v h
  · simp at h; subst h; rfl)
theorem flA_one (ps : List Ac) (sp : Option Addr) (n cap : Nat) (i u : Int) : (flA ps sp n cap i u).all (·.oneCell') = true := all_oneCell_toArray (fun v hv => by
  rcases List.mem_append.1 hv with h | h
  · exact stC_one ps sp n cap v h
  · simp at h; rcases h with rfl | rfl <;> rfl)
def zero30N : Array Value := stA zs none 0 0
def zero69N : Array Value := crA zs none 0 0 (.slice none 0 0)
def zero82N : Array Value := flA zs none 0 0 0 0
theorem zsize30 : zero30N.size = 1089 := stA_size zs_len zs_l32
theorem zsize69 : zero69N.size = 1090 := crA_size zs_len zs_l32
theorem zsize82 : zero82N.size = 1091 := flA_size zs_len zs_l32
theorem size30N : (Try.prog.info? 30).map (·.size) = some 1089 := by kernel_rfl
theorem size69N : (Try.prog.info? 69).map (·.size) = some 1090 := by kernel_rfl
theorem size82N : (Try.prog.info? 82).map (·.size) = some 1091 := by kernel_rfl
theorem zeroI30 : (Try.prog.info? 30).map (·.zero) = some (some (.agg zero30N)) := by kernel_rfl
theorem zeroI69 : (Try.prog.info? 69).map (·.zero) = some (some (.agg zero69N)) := by kernel_rfl
theorem zeroI82 : (Try.prog.info? 82).map (·.zero) = some (some (.agg zero82N)) := by kernel_rfl
theorem zeroV {t : Nat} {Z : Array Value} (h : (Try.prog.info? t).map (·.zero) = some (some (.agg Z))) (w : World) : (zeroValue t).run Try.prog w = .ok (.agg Z) w := by
  cases hq : Try.prog.info? t with
  | none => rw [hq] at h; cases h
  | some i =>
    rw [hq] at h
    have hz : i.zero = some (.agg Z) := by simpa using h
    simp [zeroValue, typeInfo, hq, hz]
theorem zeroValue30N (w : World) : (zeroValue 30).run Try.prog w = .ok (.agg zero30N) w := zeroV zeroI30 w
theorem zeroValue69N (w : World) : (zeroValue 69).run Try.prog w = .ok (.agg zero69N) w := zeroV zeroI69 w
theorem zeroValue82N (w : World) : (zeroValue 82).run Try.prog w = .ok (.agg zero82N) w := zeroV zeroI82 w
end Go.Proofs.Ytbhhbkoikocjgaa
/- Layer spec: a run with what did something, a run with what flowed: their cells. -/
namespace Go.Proofs.Ytbhhbkoikocjgaa
set_option linter.unusedSectionVars false
set_option maxHeartbeats 1000000
open Go.RowKit Go.Shelf
set_option maxRecDepth 100000
set_option linter.unusedVariables false
set_option linter.unusedSimpArgs false


variable [DecidableEq Ac] [DecidableEq Ou] [DecidableEq Mg]
theorem crA_push (ps : List Ac) (sp : Option Addr) (n cap : Nat) (v : Value) : crA ps sp n cap v = (stA ps sp n cap).push v := by simp [crA, stA]
theorem flA_push (ps : List Ac) (sp : Option Addr) (n cap : Nat) (i u : Int) : flA ps sp n cap i u = ((stA ps sp n cap).push (.int .u64 i)).push (.int .u64 u) := by simp [flA, stA]
/-- A part goes in. -/
theorem foldl_mid (A B C : List Value) (v : Array Value) (h : B.length = v.size) : v.zipIdx.foldl (fun cs (x : Value × Nat) => cs.setIfInBounds (A.length + x.2) x.1) (A ++ B ++ C).toArray = (A ++ v.toList ++ C).toArray := by
  have e : v.zipIdx.foldl (fun cs (x : Value × Nat) => cs.setIfInBounds (A.length + x.2) x.1) (A ++ B ++ C).toArray = (v.toList.zipIdx 0).foldl (fun cs (x : Value × Nat) => cs.setIfInBounds (A.length + x.2) x.1) (A ++ B ++ C).toArray := by
    rw [← Array.foldl_toList, Array.toList_zipIdx]
  rw [e]
  obtain ⟨g1, g2⟩ := Great.foldl_set A.length v.toList 0 (A ++ B ++ C).toArray
  apply Array.ext_getElem?
  intro k
  rw [g2 k]
  simp only [List.size_toArray, List.length_append, Array.length_toList, List.getElem?_toArray, Nat.add_zero]
  by_cases h1 : A.length ≤ k ∧ k < A.length + v.size
  · rw [if_pos (by omega), List.append_assoc, List.getElem?_append_right (by omega), List.getElem?_append_left (by simp; omega)]
  · rw [if_neg (by omega)]
    by_cases h2 : k < A.length
    · rw [List.append_assoc, List.append_assoc, List.getElem?_append_left h2, List.getElem?_append_left h2]
    · rw [List.append_assoc, List.append_assoc, List.getElem?_append_right (by omega), List.getElem?_append_right (by omega), List.getElem?_append_right (by omega), List.getElem?_append_right (by simp; omega)]
      simp [h]
theorem places69 : (match Try.prog.underlying 69 with | some (.struct fs) => fs.toList.mapM (fun f => (Try.prog.info? f.type).map fun i => (f.offset, i.size)) | _ => none) = some [(0, 1089), (1089, 1)] := by kernel_rfl
theorem places82 : (match Try.prog.underlying 82 with | some (.struct fs) => fs.toList.mapM (fun f => (Try.prog.info? f.type).map fun i => (f.offset, i.size)) | _ => none) = some [(0, 1089), (1089, 1), (1090, 1)] := by kernel_rfl
theorem built_of {t : Nat} {Z : Array Value} {pl : List (Nat × Nat)} {parts : List (Nat × Value)} (hz : (Try.prog.info? t).map (·.zero) = some (some (.agg Z))) (hp : (match Try.prog.underlying t with | some (.struct fs) => fs.toList.mapM (fun f => (Try.prog.info? f.type).map fun i => (f.offset, i.size)) | _ => none) = some pl) : Try.prog.built t parts = Instr.fill (pl.toArray[·]?) Z parts := by
  unfold Program.built
  cases hi : Try.prog.info? t with
  | none => rw [hi] at hz; cases hz
  | some it =>
    rw [hi] at hz
    have hz : it.zero = some (.agg Z) := by simpa using hz
    cases hu : Try.prog.underlying t with
    | none => rw [hu] at hp; cases hp
    | some d =>
      rw [hu] at hp
      cases d <;> try (cases hp; done)
      next fs =>
        simp only [] at hp
        simp only [hz, hp, Value.cells]
theorem fill_one {pl : Nat → Option (Nat × Nat)} {A B C : List Value} {v : Value} {i off : Nat} {rest : List (Nat × Value)} (hp : pl i = some (off, v.cells.size)) (ho : off = A.length) (hB : B.length = v.cells.size) : Instr.fill pl (A ++ B ++ C).toArray ((i, v) :: rest) = Instr.fill pl (A ++ v.cells.toList ++ C).toArray rest := by
  subst ho
  rw [Instr.fill, hp]
  simp only []
  rw [if_neg (by simp; omega)]
  rw [foldl_mid A B C v.cells hB]
theorem zero69_eq : zero69N = ([] ++ (stC zs none 0 0) ++ [Value.slice none 0 0]).toArray := rfl
theorem zero82_eq : zero82N = ([] ++ (stC zs none 0 0) ++ [Value.int .u64 0, Value.int .u64 0]).toArray := rfl
theorem built69 {ps : List Ac} {sp : Option Addr} {n cap : Nat} {s : Option Addr} {k c : Nat} (h1 : ps.length = 32) (h2 : ∀ a ∈ ps, a.lk.length = 32) : Try.prog.built 69 [(0, .agg (stA ps sp n cap)), (1, .slice s k c)] = some (crA ps sp n cap (.slice s k c)) := by
  rw [built_of zeroI69 places69, zero69_eq, fill_one (off := 0) (by simp [Value.cells, stA, stC_len h1 h2]) rfl (by simp [Value.cells, stA, stC_len h1 h2, stC_len zs_len zs_l32])]
  have e : ([] ++ (Value.agg (stA ps sp n cap)).cells.toList ++ [Value.slice none 0 0]) = stC ps sp n cap ++ [.slice none 0 0] ++ [] := by simp [Value.cells, stA]
  rw [e, fill_one (A := stC ps sp n cap) (B := [Value.slice none 0 0]) (C := []) (off := 1089) (by simp [Value.cells]) (by rw [stC_len h1 h2]) rfl]
  simp [Instr.fill, Value.cells, crA]
theorem built69a {ps : List Ac} {sp : Option Addr} {n cap : Nat} (h1 : ps.length = 32) (h2 : ∀ a ∈ ps, a.lk.length = 32) : Try.prog.built 69 [(0, .agg (stA ps sp n cap))] = some (crA ps sp n cap (.slice none 0 0)) := by
  rw [built_of zeroI69 places69, zero69_eq, fill_one (off := 0) (by simp [Value.cells, stA, stC_len h1 h2]) rfl (by simp [Value.cells, stA, stC_len h1 h2, stC_len zs_len zs_l32])]
  simp [Instr.fill, Value.cells, crA, stA]
theorem built82a {ps : List Ac} {sp : Option Addr} {n cap : Nat} (h1 : ps.length = 32) (h2 : ∀ a ∈ ps, a.lk.length = 32) : Try.prog.built 82 [(0, .agg (stA ps sp n cap))] = some (flA ps sp n cap 0 0) := by
  rw [built_of zeroI82 places82, zero82_eq, fill_one (off := 0) (by simp [Value.cells, stA, stC_len h1 h2]) rfl (by simp [Value.cells, stA, stC_len h1 h2, stC_len zs_len zs_l32])]
  simp [Instr.fill, Value.cells, flA, stA]
/-- What lies in the block of a course, of a flow. -/
theorem Arr.crS {w : World} {g ty : Nat} {ps : List Ac} {sp : Option Addr} {n cap : Nat} {v : Value} (h : Arr w g ty (crA ps sp n cap v)) : w.rangeAt g 0 (stC ps sp n cap) := fun j u hu => by
  have hj := (List.getElem?_eq_some_iff.1 hu).1
  rw [Nat.zero_add, h.cell]
  simp only [crA, List.getElem?_toArray]
  rw [List.getElem?_append_left hj]; exact hu
theorem Arr.crD {w : World} {g ty : Nat} {ps : List Ac} {sp : Option Addr} {n cap : Nat} {v : Value} (h : Arr w g ty (crA ps sp n cap v)) (h1 : ps.length = 32) (h2 : ∀ a ∈ ps, a.lk.length = 32) : w.cell? ⟨g, 1089, none⟩ = some v := by
  rw [h.cell]
  simp only [crA, List.getElem?_toArray]
  rw [List.getElem?_append_right (by rw [stC_len h1 h2]; omega), stC_len h1 h2]; rfl
theorem Arr.flS {w : World} {g ty : Nat} {ps : List Ac} {sp : Option Addr} {n cap : Nat} {i u : Int} (h : Arr w g ty (flA ps sp n cap i u)) : w.rangeAt g 0 (stC ps sp n cap) := fun j v hv => by
  have hj := (List.getElem?_eq_some_iff.1 hv).1
  rw [Nat.zero_add, h.cell]
  simp only [flA, List.getElem?_toArray]
  rw [List.getElem?_append_left hj]; exact hv
theorem Arr.flI {w : World} {g ty : Nat} {ps : List Ac} {sp : Option Addr} {n cap : Nat} {i u : Int} (h : Arr w g ty (flA ps sp n cap i u)) (h1 : ps.length = 32) (h2 : ∀ a ∈ ps, a.lk.length = 32) : w.cell? ⟨g, 1089, none⟩ = some (.int .u64 i) := by
  rw [h.cell]
  simp only [flA, List.getElem?_toArray]
  rw [List.getElem?_append_right (by rw [stC_len h1 h2]; omega), stC_len h1 h2]; rfl
theorem Arr.flU {w : World} {g ty : Nat} {ps : List Ac} {sp : Option Addr} {n cap : Nat} {i u : Int} (h : Arr w g ty (flA ps sp n cap i u)) (h1 : ps.length = 32) (h2 : ∀ a ∈ ps, a.lk.length = 32) : w.cell? ⟨g, 1090, none⟩ = some (.int .u64 u) := by
  rw [h.cell]
  simp only [flA, List.getElem?_toArray]
  rw [List.getElem?_append_right (by rw [stC_len h1 h2]; omega), stC_len h1 h2]; rfl
theorem fl_there {w : World} {g ty : Nat} {ps : List Ac} {sp : Option Addr} {n cap : Nat} {i u : Int} (h : Arr w g ty (flA ps sp n cap i u)) (h1 : ps.length = 32) (h2 : ∀ a ∈ ps, a.lk.length = 32) : w.there g 0 1089 := fun j hj => by
  refine ⟨?_, ?_⟩
  · rw [Nat.zero_add, h.cell, Array.getElem?_eq_getElem (by rw [flA_size h1 h2]; omega)]; simp
  · rw [Nat.zero_add]; exact h.frozen j
/-- The state of a flow is set. -/
theorem Arr.flSet {w : World} {g ty : Nat} {ps qs : List Ac} {sp sq : Option Addr} {n cap m cq : Nat} {i u : Int} (h : Arr w g ty (flA ps sp n cap i u)) (h1 : ps.length = 32) (h2 : ∀ a ∈ ps, a.lk.length = 32) (k1 : qs.length = 32) (k2 : ∀ a ∈ qs, a.lk.length = 32) : Arr (w.setCells g 0 (stC qs sq m cq)) g ty (flA qs sq m cq i u) := by
  have e := (arr_setCells (stC qs sq m cq) 0 w _ h).1
  have e2 := setA_mid (stC ps sp n cap) (stC qs sq m cq) [] [Value.int .u64 i, Value.int .u64 u] (by rw [stC_len h1 h2, stC_len k1 k2])
  rw [List.nil_append, List.length_nil] at e2
  have e3 : setA (flA ps sp n cap i u) 0 (stC qs sq m cq) = flA qs sq m cq i u := e2
  rw [e3] at e; exact e
theorem fl_setI {ps : List Ac} {sp : Option Addr} {n cap : Nat} {i u x : Int} (h1 : ps.length = 32) (h2 : ∀ a ∈ ps, a.lk.length = 32) : (flA ps sp n cap i u).setIfInBounds 1089 (.int .u64 x) = flA ps sp n cap x u := by
  have := stC_len (sp := sp) (n := n) (cap := cap) h1 h2
  unfold flA
  generalize stC ps sp n cap = l at *
  simp [List.set_append, this]
theorem fl_setU {ps : List Ac} {sp : Option Addr} {n cap : Nat} {i u x : Int} (h1 : ps.length = 32) (h2 : ∀ a ∈ ps, a.lk.length = 32) : (flA ps sp n cap i u).setIfInBounds 1090 (.int .u64 x) = flA ps sp n cap i x := by
  have := stC_len (sp := sp) (n := n) (cap := cap) h1 h2
  unfold flA
  generalize stC ps sp n cap = l at *
  simp [List.set_append, this]
/-- Bools in a row. -/
def bls (D : List Bool) : List Value := D.map Value.bool
theorem bls_len (D : List Bool) : (bls D).length = D.length := by simp [bls]
theorem info4 : (Try.prog.info? 4).map (fun i => (i.zero, i.size, i.bytes)) = some (some (.bool false), 1, 1) := by kernel_rfl
theorem wp_ap4 {o : Oper} {a : Act} {w : World} {K : Act → World → Prop} {Q : Exit → Act → World → Prop} (s x : Operand) (ho : o.op = .call { callee := .builtin .append, args := #[s, x], argTypes := #[32, 32] })
    (base : Nat) (v : Value) (k : Nat) (D : List Bool) (hs : a.eval s = v) (hown : w.ownsRow base 4 1 v k (bls D)) (g : Nat) (d : Bool) (hx : a.eval x = .slice (some ⟨g, 0, none⟩) 1 1) (hg : Arr w g 4 #[.bool d]) (hk : k + 1 ≤ 140737488355328) (hb : base ≤ w.heap.size)
    (h : ∀ v' w', w'.ownsRow base 4 1 v' (k + 1) (bls (D ++ [d])) → w.grownBy w' v.ownBlock → K (a.put o.dst v') w') : o.wp Try.prog a w K Q := by
  obtain ⟨i0, hi0, hz0, hz1, hz2⟩ := info_parts info4
  refine wp_append_own w s x 32 ho base 4 i0 (.bool false) 1 1 Try.underlying32 hi0 hz0 hz1 hz2 rfl (by omega) v k _ hs hown ⟨g, 0, none⟩ 1 1 [.bool d] hx rfl (fun j u hj => ?_) (fun u hu => by simp at hu; subst hu; rfl) (by unfold maxLen; omega) (by omega) hb (fun v' w' h1 h2 _ => h v' w' (by simpa [bls] using h1) h2)
  have hj0 : j = 0 := by have := (List.getElem?_eq_some_iff.1 hj).1; simp at this; exact this
  subst hj0
  rw [Addr.add_mid, Nat.zero_add, hg.cell]
  simpa using hj
end Go.Proofs.Ytbhhbkoikocjgaa
/- Layer spec: what the layers below give. -/
namespace Go.Proofs.Ytbhhbkoikocjgaa
set_option linter.unusedSectionVars false
set_option maxHeartbeats 1000000
open Go.RowKit
set_option maxRecDepth 100000
set_option linter.unusedVariables false
set_option linter.unusedSimpArgs false

variable [DecidableEq Ac] [DecidableEq Ou] [DecidableEq Mg]
theorem list_take_ne {α : Type} {l l' : List α} {j : Nat} {a b : α} (ha : l[j]? = some a) (hb : l'[j]? = some b) (hab : a ≠ b) : l ≠ l' := fun e => by subst e; rw [ha] at hb; exact hab (Option.some.inj hb)
theorem list_ext_take {α : Type} {l l' : List α} (hl : l.length = l'.length) (h : ∀ i, i < l.length → l[i]? = l'[i]?) : l = l' := by
  apply List.ext_getElem?
  intro i
  by_cases hi : i < l.length
  · exact h i hi
  · rw [List.getElem?_eq_none (by omega), List.getElem?_eq_none (by omega)]
end Go.Proofs.Ytbhhbkoikocjgaa

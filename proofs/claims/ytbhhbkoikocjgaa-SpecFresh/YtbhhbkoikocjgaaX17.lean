/- Ee0, El, Nu1, Nu2. -/
import Derived.Test.YtbhhbkoikocjgaaX01
import Derived.Test.YtbhhbkoikocjgaaX02
import Derived.Test.YtbhhbkoikocjgaaX03
import Derived.Test.YtbhhbkoikocjgaaX04
import Derived.Test.YtbhhbkoikocjgaaX05
import Derived.Test.YtbhhbkoikocjgaaX06
import Derived.Test.YtbhhbkoikocjgaaX07
import Derived.Test.YtbhhbkoikocjgaaX08
import Derived.Test.YtbhhbkoikocjgaaX14
import Derived.Test.YtbhhbkoikocjgaaX15
import Derived.Test.YtbhhbkoikocjgaaX16
import Derived.BigQuiet
import Derived.BigRegion
import Derived.ChangeKeysEq
import Derived.ChangeOld
import Derived.Deep.DeepCutAuto
import Derived.Deep.DrawnRows
import Derived.Deep.MidRow
import Derived.Deep.QuietTactic
import Derived.Deep.RegionHeld3
import Derived.Deep.RegionLaw
import Derived.Deep.RegionWith
import Derived.Deep.WholeRow
import Derived.Great.BuildSlice
import Derived.Great.FillDense
import Derived.JoinedTies
import Derived.KernelRfl
import Derived.Laws.AppendOwnNone
import Derived.Laws.BitsLemmas
import Derived.Laws.BytesArg
import Derived.Laws.CopyOwn
import Derived.Laws.CopyRow
import Derived.Laws.MakeOwn
import Derived.Laws.OwnMore
import Derived.Laws.ResultCell
import Derived.Laws.Tables
import Derived.Lib.AppendZeros
import Derived.Lib.SlBytesConst
import Derived.Lib.SliceRun
import Derived.LoopIn
import Derived.LoopNIn
import Derived.Maps.AppendAt
import Derived.OpenShut
import Derived.OwnWalkIn
import Derived.ProofKit
import Derived.RangeFuncBound
import Derived.RangeFuncCalls
import Derived.RangeFuncLeaves
import Derived.RangeFuncNested
import Derived.RangeFuncRecord
import Derived.Shelf.Abstract
import Derived.Shelf.RegionOpen
import Derived.ShutString
import Derived.SizedLaws
import Derived.TacticsInMore
import Derived.WalkKit
import Derived.WalkLawsBesides
import Derived.WalkSpells
import GoSem.Claim
import GoSem.ClaimJoined
import GoSem.ClaimMapViews
/- Layer spec: what the layers below give. -/
namespace Go.Proofs.Ytbhhbkoikocjgaa
set_option linter.unusedSectionVars false
set_option maxHeartbeats 1000000
open Go.RowKit
set_option maxRecDepth 100000
set_option linter.unusedVariables false
set_option linter.unusedSimpArgs false

variable [DecidableEq Ac] [DecidableEq Ou] [DecidableEq Mg]
theorem size57 : (Try.prog.info? 127).map (·.size) = some 1089 := by kernel_rfl
theorem zero57 : (Try.prog.info? 127).map (·.zero) = some (some (.agg (stA zs none 0 0))) := by kernel_rfl
theorem zeroValue57 (w : World) : (zeroValue 127).run Try.prog w = .ok (.agg (stA zs none 0 0)) w := by
  have h := zero57
  cases hq : Try.prog.info? 127 with
  | none => rw [hq] at h; cases h
  | some i =>
    rw [hq] at h
    have hz : i.zero = some (.agg (stA zs none 0 0)) := by simpa using h
    simp [zeroValue, typeInfo, hq, hz]
theorem built30z : Try.prog.built 30 [] = some (stA zs none 0 0) := by kernel_rfl
theorem places57 : (match Try.prog.underlying 127 with | some (.struct fs) => fs.toList.mapM (fun f => (Try.prog.info? f.type).map fun i => (f.offset, i.size)) | _ => none) = some [(0, 1089)] := by kernel_rfl
theorem built57 {C : Array Value} (hC : C.size = 1089) : Try.prog.built 127 [(0, .agg C)] = some C := by
  have hz := zero57
  have hp := places57
  unfold Program.built
  cases hi : Try.prog.info? 127 with
  | none => rw [hi] at hz; cases hz
  | some it =>
    rw [hi] at hz
    have hz : it.zero = some (.agg (stA zs none 0 0)) := by simpa using hz
    have hw := Great.fill_whole (s := 1089) (by omega) [.agg C] (stA zs none 0 0) (fun v hv => by simp only [List.mem_singleton] at hv; rw [hv]; exact hC) (by rw [stA_size zs_len zs_l32]; rfl)
    have hs : (stA zs none 0 0).size = 1089 := stA_size zs_len zs_l32
    cases hu : Try.prog.underlying 127 with
    | none => rw [hu] at hp; cases hp
    | some d =>
      rw [hu] at hp
      cases d <;> try (cases hp; done)
      next fs =>
        simp only [] at hp
        simp only [hz, hp]
        generalize stA zs none 0 0 = Z at hw hs ⊢
        simp [Instr.fill, Value.cells, hC, hs] at hw ⊢
        exact hw
theorem st57n {ops : Array Oper} {rest : List Oper} {o : Oper} {a : Act} {Q : Exit → Act → World → Prop} (hgd : o.guard = none) (x y : Operand) (ho : o.op = .store 127 x y) (W : World) (g : Nat) (hgW : W.heap.size = g) {z : Array Value} (hz : z.size = 1089)
    (ps : List Ac) (sp : Option Addr) (n cap : Nat) (hx : a.eval x = .pointer (some ⟨g, 0, none⟩)) (hy : a.eval y = .agg (stA ps sp n cap)) (h1 : ps.length = 32) (h2 : ∀ a ∈ ps, a.lk.length = 32)
    (h : wpList Try.prog ops Q rest (a.put o.dst undef) (W.alloc (.cells (stA ps sp n cap) 127))) : wpList Try.prog ops Q (o :: rest) a (W.alloc (.cells z 127)) := by
  subst hgW
  exact wpList_store_new W z 127 hgd 127 x y ho (stA ps sp n cap) hx hy (by rw [stA_size h1 h2]; exact size57) (by rw [hz, stA_size h1 h2]) (stA_one ps sp n cap) h
theorem st30n {ops : Array Oper} {rest : List Oper} {o : Oper} {a : Act} {Q : Exit → Act → World → Prop} (hgd : o.guard = none) (x y : Operand) (ho : o.op = .store 30 x y) (W : World) (g : Nat) (hgW : W.heap.size = g) {z : Array Value} (hz : z.size = 1089)
    (ps : List Ac) (sp : Option Addr) (n cap : Nat) (hx : a.eval x = .pointer (some ⟨g, 0, none⟩)) (hy : a.eval y = .agg (stA ps sp n cap)) (h1 : ps.length = 32) (h2 : ∀ a ∈ ps, a.lk.length = 32)
    (h : wpList Try.prog ops Q rest (a.put o.dst undef) (W.alloc (.cells (stA ps sp n cap) 30))) : wpList Try.prog ops Q (o :: rest) a (W.alloc (.cells z 30)) := by
  subst hgW
  exact wpList_store_new W z 30 hgd 30 x y ho (stA ps sp n cap) hx hy (by rw [stA_size h1 h2]; exact size30) (by rw [hz, stA_size h1 h2]) (stA_one ps sp n cap) h
theorem yAc {ops : Array Oper} {S : World → Prop} {op : Oper} {a : Act} (hw : Region.wanted op (yielded ops a.tmps) = true) (x : Operand) (ho : op.op = .load 27 x)
    (g ty : Nat) (hx : a.eval x = .pointer (some ⟨g, 0, none⟩)) (ps : List Ac) (sp : Option Addr) (n cap : Nat) (h1 : ps.length = 32) (h2 : ∀ a ∈ ps, a.lk.length = 32) (hS : ∀ w, S w → Arr w g ty (stA ps sp n cap)) : YieldsIf Try.prog ops S op (.agg (acA ps)) a :=
  yieldsIf_load_mid hw 27 x ho g 0 hx (acF ps) _ (fun w h => (hS w h).stAc) Try.underlying27 rfl (by rw [acF_len h2, h1]; exact size27)
theorem own_mono {w : World} {b b' e s n : Nat} {v : Value} {xs : List Value} (h : w.ownsRow b e s v n xs) (hb : b' ≤ b) : w.ownsRow b' e s v n xs := by
  obtain ⟨hl, h' | ⟨g, cap, cur, e1, hg, r⟩⟩ := h
  · exact ⟨hl, .inl h'⟩
  · exact ⟨hl, .inr ⟨g, cap, cur, e1, by omega, r⟩⟩
theorem own_row {w : World} {base n g : Nat} {v : Value} {xs : List Value} (h : w.ownsRow base 66 2 v n xs) (D : Array Value) (hg : g < base) : (w.setRow g D).ownsRow base 66 2 v n xs :=
  own_same h (fun k hk => setRow_other w g k D (fun e => by have := own_ge h k hk; omega))
theorem resD {f : Func} {w : World} {tmps : Array Value} {g t k l : Nat} {ps : List Ac} {sp : Option Addr} {n cap : Nat} {v u : Value} (hf : f.results = #[.cell t 30, .tmp k, .tmp l]) (hp : tmps.getD t undef = .pointer (some ⟨g, 0, none⟩)) (hk : tmps.getD k undef = v) (hl : tmps.getD l undef = u) (h1 : ps.length = 32) (h2 : ∀ a ∈ ps, a.lk.length = 32) (hA : Arr w g 30 (stA ps sp n cap)) :
    (results f tmps).run Try.prog w = .ok (.tuple #[.agg (stA ps sp n cap), v, u]) w := by
  have hl' := run_loadVar_mid (P := Try.prog) w g 0 30 (stC ps sp n cap) _ hA.st Try.underlying30 rfl (by rw [stC_len h1 h2]; exact size30)
  have hp' : tmps[t]?.getD undef = .pointer (some ⟨g, 0, none⟩) := by simpa using hp
  have hk' : tmps[k]?.getD undef = v := by simpa using hk
  have hll : tmps[l]?.getD undef = u := by simpa using hl
  simp [results, hf, hp', hk', hll, asAddr, hl', stA]
def xP (ps : List Ac) (os : List Ou) (L : List Int) : List Ac := if may ps os.length = true then dlP ps os L else zs
def xO (ps : List Ac) (os : List Ou) (L : List Int) : List Ou := if may ps os.length = true then dlO ps os L else []
def xD (ps : List Ac) (os : List Ou) (L : List Int) : Bool := may ps os.length && dlD ps os L
def xE (ps : List Ac) (os : List Ou) : Int := if may ps os.length = true then 0 else 2
/-- What Delta answers. -/
def DLPost (ps : List Ac) (os : List Ou) (L : List Int) (w : World) (r : Ending) (w' : World) : Prop :=
  ∃ sp n cap, r = .returned (.tuple #[.agg (stA (xP ps os L) sp n cap), .bool (xD ps os L), .int .i64 (xE ps os)]) ∧ w'.ownsRow w.heap.size 66 2 (.slice sp n cap) n (ouF (xO ps os L)) ∧ Hid (n = (xO ps os L).length) ∧ Below w.heap.size w w'
theorem DLPost.no {ps : List Ac} {os : List Ou} {L : List Int} {w w' : World} (h : may ps os.length = false) (hb : Below w.heap.size w w') : DLPost ps os L w (.returned (.tuple #[.agg (stA zs none 0 0), .bool false, .int .i64 2])) w' := by
  refine ⟨none, 0, 0, ?_, ?_, ?_, hb⟩
  · unfold xP xD xE; rw [h]; rfl
  · unfold xO; rw [h]; exact World.ownsRow_nil _ _ _ _
  · refine Hid.mk' ?_; unfold xO; rw [h]; rfl
theorem DLPost.ok {ps q : List Ac} {os u : List Ou} {L : List Int} {d : Bool} {w w' : World} {sp : Option Addr} {n cap : Nat} (h : may ps os.length = true) (e1 : dlP ps os L = q) (e2 : dlO ps os L = u) (e3 : dlD ps os L = d) (ho : w'.ownsRow w.heap.size 66 2 (.slice sp n cap) n (ouF u)) (hn : Hid (n = u.length)) (hb : Below w.heap.size w w') : DLPost ps os L w (.returned (.tuple #[.agg (stA q sp n cap), .bool d, .int .i64 0])) w' := by
  refine ⟨sp, n, cap, ?_, ?_, ?_, hb⟩
  · unfold xP xD xE; rw [h, e1, e3]; rfl
  · unfold xO; rw [h, if_pos rfl, e2]; exact ho
  · refine Hid.mk' ?_; unfold xO; rw [h, if_pos rfl, e2]; exact hn.out
theorem dl_bad {ps : List Ac} {os : List Ou} {L : List Int} (h : rdE L ≠ 0) : dlP ps os L = ps ∧ dlO ps os L = os ∧ dlD ps os L = false := by
  unfold dlP dlO dlD dlt; rw [if_neg h]; exact ⟨rfl, rfl, rfl⟩
theorem dl_good {ps : List Ac} {os : List Ou} {L : List Int} (hL : Bts L) (hl : ps.length = 32) (h1 : ∀ a ∈ ps, AcOK a) (h : rdE L = 0) : dlP ps os L = actP ps os (rdM L) ∧ dlO ps os L = actO ps os (rdM L) ∧ dlD ps os L = (!decide (actP ps os (rdM L) = ps)) := by
  unfold dlP dlO dlD dlt actP actO; rw [if_pos h]
  refine ⟨rfl, rfl, ?_⟩
  cases ha : act ps os (rdM L) with
  | none => simp
  | some r =>
    have := act_ne (rdM_ok hL) (rdE_may h) hl h1 ha
    simp [this]
theorem actP_ok {ps : List Ac} {os : List Ou} {m : Mg} (hm : MgOK m) (hl : ps.length = 32) (h1 : ∀ a ∈ ps, AcOK a) (h2 : ∀ o ∈ os, OuOK o) : (actP ps os m).length = 32 ∧ (∀ a ∈ actP ps os m, AcOK a) := by
  unfold actP
  cases h : act ps os m with
  | none => exact ⟨hl, h1⟩
  | some r => have := act_ok hm hl h1 h2 h; exact ⟨this.1, this.2.1⟩
end Go.Proofs.Ytbhhbkoikocjgaa
/- Layer spec: what the layers below give. -/
namespace Go.Proofs.Ytbhhbkoikocjgaa
set_option linter.unusedSectionVars false
set_option maxHeartbeats 1000000
open Go.RowKit
set_option maxRecDepth 100000
set_option linter.unusedVariables false
set_option linter.unusedSimpArgs false

variable [DecidableEq Ac] [DecidableEq Ou] [DecidableEq Mg]
theorem copy01_any (sp : Option Addr) (n cap : Nat) (L : List Int) (N : Nat) (w : World) (hS : BS N w sp n cap L) :
    Calls Try.prog 22 #[.slice sp n cap] w fun e w' => ∃ s c, e = .returned (.slice s n c) ∧ BS w'.heap.size w' s n c L ∧ Below w.heap.size w w' := by
  have hn := hS.len
  have hsm := hS.small
  have hni := hS.nil
  have hbt := hS.bts
  have hlit : (w.alloc (.cells #[] 5)).ownsRow w.heap.size 5 1 (.slice (some ⟨w.heap.size, 0, none⟩) 0 0) 0 (by8 []) := World.ownsRow_lit _ _ _ (Nat.le_refl _) (by unfold maxLen; omega) rfl
  have hS' := (hS.here.below ((Below.refl _ _).alloc (Nat.le_refl _) (.cells #[] 5))).sl
  go_enter Try.func22, Try.ntmps22
  go_wp2_with (at_builtin; go_must (refine append_bytes (by rfl) (.tmp 3) (.tmp 4) (by rfl) w.heap.size _ 0 [] (by rfl) hlit sp n cap L (by rfl) hn.out hni hS' (by omega) (by simp) ?_; intro v1 w1 hown1 hg1))
  go_ret
  rw [Nat.zero_add, List.nil_append] at hown1
  obtain ⟨s, c, rfl, hB, -⟩ := own_bs hown1 hbt hsm
  exact ⟨s, c, rfl, hB, ((Below.refl _ _).alloc (Nat.le_refl _) _).grown hg1 (by simp) (fun k e => by simp [Value.ownBlock] at e; omega)⟩
end Go.Proofs.Ytbhhbkoikocjgaa
/- Layer spec: copies of byte strings. -/
namespace Go.Proofs.Ytbhhbkoikocjgaa
set_option linter.unusedSectionVars false
set_option maxHeartbeats 1000000
open Go.RowKit Go.Shelf
set_option maxRecDepth 100000
set_option linter.unusedVariables false
set_option linter.unusedSimpArgs false


variable [DecidableEq Ac] [DecidableEq Ou] [DecidableEq Mg]
set_option maxHeartbeats 400000 in
/-- bytes.Clone. -/
theorem bclone_any (sp : Option Addr) (n cap : Nat) (L : List Int) (N : Nat) (w : World) (hS : BS N w sp n cap L) :
    Calls Try.prog 63 #[.slice sp n cap] w fun e w' => ∃ s c, e = .returned (.slice s n c) ∧ BS w'.heap.size w' s n c L ∧ (∀ b off, s = some ⟨b, off, none⟩ → w.heap.size ≤ b) ∧ Below w.heap.size w w' := by
  have hn := hS.len
  have hsm := hS.small
  have hni := hS.nil
  have hbt := hS.bts
  have q63 : ∀ (w : World) (a : Option Addr) (n c n' c' : Nat), (binOp .eql 63 (.slice a n c) (.slice none n' c')).run Try.prog w = .ok (.bool a.isNone) w := fun w a n c n' c' => Lib.run_eql_slice_nil w _ _ a n c n' c' Try.underlying63
  have hlit : (w.alloc (.cells #[] 5)).ownsRow w.heap.size 5 1 (.slice (some ⟨w.heap.size, 0, none⟩) 0 0) 0 (by8 []) := World.ownsRow_lit _ _ _ (Nat.le_refl _) (by unfold maxLen; omega) rfl
  have hS' := (hS.here.below ((Below.refl _ _).alloc (Nat.le_refl _) (.cells #[] 5))).sl
  cases sp with
  | none =>
    obtain ⟨rfl, rfl⟩ := hni rfl
    go_enter Try.func63, Try.ntmps63
    go_wp2
    go_ret
    exact ⟨none, 0, rfl, hS.here, (fun b off h => by cases h), Below.refl _ _⟩
  | some ad =>
    go_enter Try.func63, Try.ntmps63
    go_wp2_with (at_builtin; go_must (refine append_bytes (by rfl) (.tmp 5) (.tmp 6) (by rfl) w.heap.size _ 0 [] (by rfl) hlit (some ad) n cap L (by rfl) hn.out hni hS' (by omega) (by simp) ?_; intro v1 w1 hown1 hg1))
    go_ret
    rw [Nat.zero_add, List.nil_append] at hown1
    obtain ⟨s, c, rfl, hB, hfr⟩ := own_bs hown1 hbt hsm
    exact ⟨s, c, rfl, hB, (fun b off h => (hfr b off h).1), ((Below.refl _ _).alloc (Nat.le_refl _) _).grown hg1 (by simp) (fun k e => by simp [Value.ownBlock] at e; omega)⟩
/-- Byte strings in a row of one's own. -/
def bzV (es : List Bz) : List Value := es.map fun e => .slice e.sp e.n e.cap
theorem bzV_len (es : List Bz) : (bzV es).length = es.length := by simp [bzV]
theorem info63 : (Try.prog.info? 63).map (fun i => (i.zero, i.size, i.bytes)) = some (some (.slice none 0 0), 1, 24) := by kernel_rfl
theorem wp_ap31 {o : Oper} {a : Act} {w : World} {K : Act → World → Prop} {Q : Exit → Act → World → Prop} (s x : Operand) (ho : o.op = .call { callee := .builtin .append, args := #[s, x], argTypes := #[31, 31] })
    (base : Nat) (v : Value) (k : Nat) (es : List Bz) (hs : a.eval s = v) (hown : w.ownsRow base 63 1 v k (bzV es)) (g : Nat) (e : Bz) (hx : a.eval x = .slice (some ⟨g, 0, none⟩) 1 1) (hg : Arr w g 63 #[.slice e.sp e.n e.cap]) (hk : (k + 1) * 24 ≤ 140737488355328) (hb : base ≤ w.heap.size)
    (h : ∀ v' w', w'.ownsRow base 63 1 v' (k + 1) (bzV (es ++ [e])) → w.grownBy w' v.ownBlock → (v'.ownBlock = v.ownBlock ∨ v'.ownBlock = some w.heap.size) → K (a.put o.dst v') w') : o.wp Try.prog a w K Q := by
  obtain ⟨i0, hi0, hz0, hz1, hz2⟩ := info_parts info63
  have hnews : ∀ j u, [Value.slice e.sp e.n e.cap][j]? = some u → w.cell? ((⟨g, 0, none⟩ : Addr).add j) = some u := fun j u hj => by
    have hj0 : j = 0 := by have := (List.getElem?_eq_some_iff.1 hj).1; simp at this; exact this
    subst hj0
    rw [Addr.add_mid, Nat.zero_add, hg.cell]
    simpa using hj
  have hone : ∀ u ∈ [Value.slice e.sp e.n e.cap], u.oneCell' = true := fun u hu => by simp at hu; subst hu; rfl
  obtain ⟨v', w', hr, h2, h3, -⟩ := run_append_own (P := Try.prog) w base 31 o.type 63 i0 (.slice none 0 0) 1 24 Try.underlying31 hi0 hz0 hz1 hz2 rfl (by omega) v k _ hown ⟨g, 0, none⟩ 1 1 [.slice e.sp e.n e.cap] rfl hnews hone (by unfold maxLen; omega) (by omega) hb
  have hwh := append_where (P := Try.prog) (base := base) Try.underlying31 hi0 hz0 (by rw [hz1]; exact hown) (m := 1) (by omega) (by rw [hz1]; rfl) hnews hone (by unfold maxLen; omega) (by rw [hz2]; omega) hr
  unfold Oper.wp execOp
  simp only [ho, resolve, invoke, builtin, Sem.run_bind, Sem.run_pure, Result.andThen_ok, List.map_toArray, List.map_cons, List.map_nil, hs, hx, hr]
  refine h v' w' (by simpa [bzV] using h2) h3 ?_
  rcases hwh with ⟨g', cap', rfl, rfl⟩ | ⟨h, -⟩
  · exact .inl rfl
  · exact .inr h
theorem ap31 {ops : Array Oper} {rest : List Oper} {o : Oper} {a : Act} {w : World} {Q : Exit → Act → World → Prop} (hgd : o.guard = none) (s x : Operand) (ho : o.op = .call { callee := .builtin .append, args := #[s, x], argTypes := #[31, 31] })
    (base : Nat) (v : Value) (k : Nat) (es : List Bz) (hs : a.eval s = v) (hown : w.ownsRow base 63 1 v k (bzV es)) (g : Nat) (e : Bz) (hx : a.eval x = .slice (some ⟨g, 0, none⟩) 1 1) (hg : Arr w g 63 #[.slice e.sp e.n e.cap]) (hk : (k + 1) * 24 ≤ 140737488355328) (hb : base ≤ w.heap.size)
    (h : ∀ v' w', w'.ownsRow base 63 1 v' (k + 1) (bzV (es ++ [e])) → w.grownBy w' v.ownBlock → (v'.ownBlock = v.ownBlock ∨ v'.ownBlock = some w.heap.size) → wpList Try.prog ops Q rest (a.put o.dst v') w') : wpList Try.prog ops Q (o :: rest) a w :=
  wpList_plain hgd fun _ hK => wp_ap31 s x ho base v k es hs hown g e hx hg hk hb fun v' w' h1 h2 h3 => hK _ _ (h v' w' h1 h2 h3)
/-- A list of byte strings that is being copied: j are done. -/
structure CI (es : List Bz) (w : World) (j : Nat) (sv : Option Addr) (cv : Nat) (W : World) : Prop where
  bel : Below w.heap.size w W
  cop : ∃ fs, fs.length = j ∧ bzs fs = bzs (es.take j) ∧ W.ownsRow w.heap.size 63 1 (.slice sv j cv) j (bzV fs) ∧ ∀ f ∈ fs, BS W.heap.size W f.sp f.n f.cap f.bs ∧ ∀ b off, 0 < f.n → f.sp = some ⟨b, off, none⟩ → (Value.slice sv j cv).ownBlock ≠ some b
theorem BS.far {N : Nat} {w w' : World} {sp : Option Addr} {n cap : Nat} {L : List Int} (h : BS N w sp n cap L) {row : Option Nat} (hg : w.grownBy w' row) (hN : N ≤ w.heap.size) (hne : ∀ b off, 0 < n → sp = some ⟨b, off, none⟩ → row ≠ some b) : BS w'.heap.size w' sp n cap L := by
  have hz := hg.size
  refine ⟨h.len, h.nil, h.le, h.big, h.small, fun h0 => ?_, h.bts⟩
  obtain ⟨b, off, e, hb, hB⟩ := h.at0 h0
  refine ⟨b, off, e, by omega, fun t ht => ?_⟩
  rw [World.cell?_of_block (w := w) (a := ⟨b, off + t, none⟩) (hg.block b (by omega) (fun q => hne b off h0 e q.symm))]
  exact hB t ht
theorem CI.step {es : List Bz} {w W W1 W3 : World} {j : Nat} {sv s1 : Option Addr} {cv c1 : Nat} {e : Bz} {v' : Value} (h : CI es w j sv cv W) (he : es[j]? = some e) (hb1 : Below W.heap.size W W1) (hB1 : BS W1.heap.size W1 s1 e.n c1 e.bs) (hf1 : ∀ b off, s1 = some ⟨b, off, none⟩ → W.heap.size ≤ b)
    (fs : List Bz) (hl : fs.length = j) (hbz : bzs fs = bzs (es.take j)) (hrow : W.ownsRow w.heap.size 63 1 (.slice sv j cv) j (bzV fs)) (hok : ∀ f ∈ fs, BS W.heap.size W f.sp f.n f.cap f.bs ∧ ∀ b off, 0 < f.n → f.sp = some ⟨b, off, none⟩ → (Value.slice sv j cv).ownBlock ≠ some b)
    (h3 : W3.ownsRow w.heap.size 63 1 v' (j + 1) (bzV (fs ++ [⟨s1, e.n, c1, e.bs⟩]))) (hg : (W1.alloc (.cells #[.slice s1 e.n c1] 63)).grownBy W3 (Value.slice sv j cv).ownBlock) (hw : v'.ownBlock = (Value.slice sv j cv).ownBlock ∨ v'.ownBlock = some (W1.alloc (.cells #[.slice s1 e.n c1] 63)).heap.size) : ∃ sv' cv', v' = .slice sv' (j + 1) cv' ∧ CI es w (j + 1) sv' cv' W3 := by
  obtain ⟨gd, cd, rfl⟩ := own_some h3
  have hz1 := hb1.size
  have bb := alloc_bel' W1 (.cells #[.slice s1 e.n c1] 63)
  have b12 : Below W.heap.size W (W1.alloc (.cells #[.slice s1 e.n c1] 63)) := hb1.trans (bb.mono hz1)
  have hs2 : (W1.alloc (.cells #[.slice s1 e.n c1] 63)).heap.size = W1.heap.size + 1 := by simp
  refine ⟨_, _, rfl, ⟨(h.bel.trans (b12.mono h.bel.size)).grown hg (Nat.le_trans h.bel.size b12.size) (fun k hk => own_ge hrow k hk), fs ++ [⟨s1, e.n, c1, e.bs⟩], by simp [hl], ?_, h3, ?_⟩⟩
  · have ht : es.take (j + 1) = es.take j ++ [e] := by rw [List.take_add_one, he]; rfl
    rw [ht]
    simp only [bzs, List.map_append, List.map_cons, List.map_nil] at hbz ⊢
    rw [hbz]
  · intro f hf
    rcases List.mem_append.1 hf with hf | hf
    · obtain ⟨q1, q2⟩ := hok f hf
      refine ⟨(q1.below b12).far hg (by omega) q2, fun b off h0 hq e' => ?_⟩
      obtain ⟨b', off', e'', hb', -⟩ := q1.at0 h0
      rw [hq] at e''
      cases e''
      rcases hw with hw | hw
      · rw [hw] at e'; exact q2 b off h0 hq e'
      · rw [hw, hs2] at e'; have := Option.some.inj e'; omega
    · simp only [List.mem_singleton] at hf
      subst hf
      have hB2 := hB1.below bb
      refine ⟨(hB2.mono (by omega)).far hg (Nat.le_refl _) (fun b off h0 hq e' => ?_), fun b off h0 hq e' => ?_⟩
      · have h1 := hf1 b off hq
        have h2 := own_lt hrow e'
        omega
      · have h1 := hf1 b off hq
        obtain ⟨b', off', e'', hb', -⟩ := hB1.at0 h0
        have hq' : s1 = some ⟨b, off, none⟩ := hq
        rw [hq'] at e''
        cases e''
        rcases hw with hw | hw
        · rw [hw] at e'; have h2 := own_lt hrow e'; omega
        · rw [hw, hs2] at e'; have := Option.some.inj e'; omega
theorem CI.bl {es : List Bz} {w W : World} {nl : Nat} {sv : Option Addr} {cv : Nat} (h : CI es w nl sv cv W) (hn : nl = es.length) (hsm : nl * 24 ≤ 140737488351232) : ∃ fs, bzs fs = bzs es ∧ BL W.heap.size W sv nl cv fs := by
  obtain ⟨fs, hl, hb, hrow, hok⟩ := h.cop
  refine ⟨fs, by rw [hb, List.take_of_length_le (by omega)], ?_⟩
  obtain ⟨hlen, ⟨q, q0⟩ | ⟨g, cap, cur, q, hg, hh, hnc, hcm, hcs, ht⟩⟩ := id hrow
  · cases q
    refine ⟨Hid.mk' hl.symm, fun _ => ⟨rfl, rfl⟩, by omega, by omega, hsm, (fun h0 => by omega), fun f hf => (hok f hf).1⟩
  · cases q
    refine ⟨Hid.mk' hl.symm, (fun e => by cases e), hnc, by unfold maxLen at hcm; omega, hsm, fun _ => ⟨g, 0, rfl, (Array.getElem?_eq_some_iff.1 hh).1, fun i f hf => ?_⟩, fun f hf => (hok f hf).1⟩
    have := hrow.cells (g := g) rfl i (.slice f.sp f.n f.cap) (by simp [bzV, hf])
    rwa [Addr.add_mid] at this
end Go.Proofs.Ytbhhbkoikocjgaa
/- Layer spec: copies. -/
namespace Go.Proofs.Ytbhhbkoikocjgaa
set_option linter.unusedSectionVars false
set_option maxHeartbeats 1000000
open Go.RowKit Go.Shelf
set_option maxRecDepth 100000
set_option linter.unusedVariables false
set_option linter.unusedSimpArgs false


variable [DecidableEq Ac] [DecidableEq Ou] [DecidableEq Mg]
theorem make31 (c : Nat) (hc : c * 24 ≤ 140737488355328) : ∃ MC : Array Value, MC.size = c * 1 ∧ ∀ u : World, (Instr.makeSlice 31 (.int .i64 0) (.int .i64 (c : Int))).run Try.prog u = .ok (.slice (some ⟨u.heap.size, 0, none⟩) 0 c) (u.alloc (.cells MC 63)) := by
  obtain ⟨i0, hi0, hz0, hz1, hz2⟩ := info_parts info63
  refine ⟨madeCells (Value.slice none 0 0).cells (c * i0.size), by rw [size_madeCells, hz1], fun u => ?_⟩
  have h := run_make (P := Try.prog) u 31 63 i0 (.slice none 0 0) Try.underlying31 hi0 hz0 .i64 .i64 0 (c : Int) (by omega) (by omega) (by rw [hz2]; omega) (by omega)
  simpa using h
def CopPost (nl : Nat) (es : List Bz) (w : World) (r : Ending) (w' : World) : Prop := ∃ s c fs, r = .returned (.slice s nl c) ∧ bzs fs = bzs es ∧ BL w'.heap.size w' s nl c fs ∧ Below w.heap.size w w'
set_option maxHeartbeats 2000000 in
theorem copies_any (sl : Option Addr) (nl cl N : Nat) (es : List Bz) (w : World) (hL : BL N w sl nl cl es) (hN : N ≤ w.heap.size) :
    Calls Try.prog 41 #[.slice sl nl cl] w (CopPost nl es w) := by
  have hL := hL.mono hN
  have hsm := hL.small
  have hln := hL.len
  have hnlI : (nl : Int) ≤ 9223372036854775000 := by omega
  obtain ⟨MC, hMC, hmk⟩ := make31 nl (by omega)
  have hC0 : CI es w 0 (some ⟨w.heap.size, 0, none⟩) nl (w.alloc (.cells MC 63)) := ⟨alloc_bel' w _, [], rfl, rfl, World.ownsRow_made w MC nl (Nat.le_refl _) (by unfold maxLen; omega) hMC, fun f hf => by cases hf⟩
  go_enter Try.func41, Try.ntmps41
  go_upto_region 3 with fail
  clear hmk
  go_loopw [3, 11] (fun v d wr => ∃ (j : Nat) (sv : Option Addr) (cv : Nat), v = .slice sv j cv ∧ d = .int .i64 (j : Int) ∧ j ≤ nl ∧ CI es w j sv cv wr) (fun _ d _ => nl - (intOf d).toNat)
  case atStart => exact ⟨0, _, _, rfl, rfl, by omega, hC0⟩
  case round =>
    obtain ⟨j, sv, cv, rfl, rfl, hj, hCI⟩ := hrel
    clear hC0
    by_cases hlt : j < nl
    · have hI : (j : Int) < nl := by omega
      have hLr := hL.below hCI.bel
      obtain ⟨g, off, e, rfl, he, hce, hBe⟩ := hLr.get hlt
      obtain ⟨fs, hl, hbz, hrow, hok⟩ := hCI.cop
      have hcl := bclone_any e.sp e.n e.cap e.bs _ wr hBe
      have hzz := hCI.bel.size
      replace he := Hid.mk' he
      replace hl := Hid.mk' hl
      replace hbz := Hid.mk' hbz
      replace hok := Hid.mk' hok
      go_wp2_with (first
        | (go_at_call 63; go_must (refine hcl.mono ?_; rintro r w1 ⟨s1, c1, rfl, hB1, hf1, hb1⟩; have row1 := (own_same hrow (fun b hb => hb1.block b (own_lt hrow hb))).alloc (.cells #[.slice s1 e.n c1] 63); have E1 := Arr.new w1 63 #[.slice s1 e.n c1]; have hz1 := hb1.size; replace hf1 := Hid.mk' hf1))
        | (refine atA (.tmp 15) (.tmp 18) ?_; go_must (refine ap31 (by rfl) (.tmp 15) (.tmp 18) (by rfl) w.heap.size _ j fs (by rfl) row1 w1.heap.size ⟨s1, e.n, c1, e.bs⟩ (by rfl) E1 (by omega) (by simp; omega) ?_; intro v3 W3 h3 hg3 hw3; obtain ⟨sv', cv', rfl, hCI3⟩ := hCI.step he.out hb1 hB1 hf1.out fs hl.out hbz.out hrow hok.out h3 hg3 hw3)))
      go_roundw
      case rel => exact ⟨j + 1, sv', cv', rfl, by go_num, by omega, hCI3⟩
      case measure => simp [intOf]; omega
    · obtain rfl : j = nl := by omega
      have hI : ¬ (j : Int) < j := by omega
      obtain ⟨fs, hbz, hBL⟩ := hCI.bl hln.out hsm
      go_wp2_with fail
      go_ret
      exact ⟨sv, cv, fs, rfl, hbz, hBL, hCI.bel⟩
end Go.Proofs.Ytbhhbkoikocjgaa

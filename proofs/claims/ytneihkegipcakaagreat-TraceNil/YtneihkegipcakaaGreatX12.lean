/- QVn, QVp0, QVo1. -/
import Derived.Test.YtneihkegipcakaaGreatX01
import Derived.Test.YtneihkegipcakaaGreatX02
import Derived.Test.YtneihkegipcakaaGreatX03
import Derived.Test.YtneihkegipcakaaGreatX04
import Derived.Test.YtneihkegipcakaaGreatX05
import Derived.Test.YtneihkegipcakaaGreatX06
import Derived.Test.YtneihkegipcakaaGreatX07
import Derived.Test.YtneihkegipcakaaGreatX08
import Derived.Test.YtneihkegipcakaaGreatX10
import Derived.BigQuiet
import Derived.BigRegion
import Derived.ChangeKeysEq
import Derived.Deep.DeepCutAuto
import Derived.Deep.DrawnRows
import Derived.Deep.MidRow
import Derived.Deep.QuietTactic
import Derived.Deep.RegionHeld3
import Derived.Deep.RegionLaw
import Derived.Deep.RegionWith
import Derived.Deep.WholeRow
import Derived.DeepKeys3
import Derived.Great.BuildSlice
import Derived.Laws.AppendOwnNone
import Derived.Laws.BitsLemmas
import Derived.Laws.BytesArg
import Derived.Laws.CopyOwn
import Derived.Laws.ResultCell
import Derived.Laws.Tables
import Derived.Lib.SlBytesConst
import Derived.LoopIn
import Derived.LoopNIn
import Derived.Maps.AppendAt
import Derived.OwnWalkIn
import Derived.RangeFuncBound
import Derived.RangeFuncCalls
import Derived.RangeFuncLeaves
import Derived.RangeFuncNested
import Derived.RangeFuncRecord
import Derived.Shelf.Abstract
import Derived.Shelf.RegionOpen
import Derived.TacticsInMore
import Derived.WalkKit
import Derived.WalkLawsBesides
import Derived.WalkSpells
import Derived.Test.YtneihkegipcakaaGreatX09
import Derived.Test.YtneihkegipcakaaGreatX11
/- Layer trace: what the layers below give. -/
namespace Go.Proofs.YtneihkegipcakaaGreat
open Go.RowKit
set_option maxRecDepth 100000
set_option linter.unusedVariables false
set_option linter.unusedSimpArgs false

/-- A machine that is stepped, and what is known to it. -/
structure VM (N : Nat) (es : List En) (w : World) (g gm gp n cap : Nat) (sp : Option Addr) (nk ck : Nat) (m : Mc) : Prop where
  en : EN w g 157 [.slice sp nk ck, .map (some gp)] gm n cap m
  known : ES N w sp nk ck es
  map : ∃ f, MapH w gp f ∧ FIV es f
  le : N ≤ g ∧ N ≤ gm ∧ N ≤ gp
  ne : g ≠ gp ∧ gm ≠ gp
section
variable {N : Nat} {es : List En} {w w' : World} {g gm gp n cap : Nat} {sp : Option Addr} {nk ck : Nat} {m m' : Mc}
theorem VM.ltp (h : VM N es w g gm gp n cap sp nk ck m) : gp < w.heap.size := by
  obtain ⟨f, hf, -⟩ := h.map
  exact hf.lt
theorem VM.bel (h : VM N es w g gm gp n cap sp nk ck m) (hb : Below w.heap.size w w') : VM N es w' g gm gp n cap sp nk ck m := by
  obtain ⟨f, hf, hi⟩ := h.map
  have h1 := h.ltp
  have h2 := h.le
  exact ⟨h.en.bel hb, h.known.below (hb.mono (by omega)), ⟨f, hf.same (hb.block gp h1), hi⟩, h.le, h.ne⟩
theorem VM.setCell (h : VM N es w g gm gp n cap sp nk ck m) {a : Addr} {v : Value} (ha : a.block = g ∨ a.block = gm) (he : EN (w.setCell a v) g 157 [.slice sp nk ck, .map (some gp)] gm n cap m') : VM N es (w.setCell a v) g gm gp n cap sp nk ck m' := by
  obtain ⟨f, hf, hi⟩ := h.map
  have h2 := h.le
  have h3 := h.ne
  exact ⟨he, h.known.below ((Below.refl N w).setCell (by rcases ha with e | e <;> rw [e] <;> omega) v), ⟨f, hf.same (Below.heap_setCell _ _ _ _ (by rcases ha with e | e <;> rw [e] <;> omega)), hi⟩, h.le, h.ne⟩
/-- The blocks that a step writes into. -/
def C3 (g gm gp k : Nat) : Prop := k = g ∨ k = gm ∨ k = gp
theorem Chg.sg {a b : World} (h : Chg (C3 g gm gp) a b) (j : Nat) (v : Value) : Chg (C3 g gm gp) a (b.setCell ⟨g, j, none⟩ v) := h.setCell v (fun _ => .inl rfl)
theorem Chg.sm {a b : World} (h : Chg (C3 g gm gp) a b) (j : Nat) (v : Value) : Chg (C3 g gm gp) a (b.setCell ⟨gm, j, none⟩ v) := h.setCell v (fun _ => .inr (.inl rfl))
/-- What a step comes to. -/
def StPost (N : Nat) (es : List En) (g gm gp n cap : Nat) (sp : Option Addr) (nk ck : Nat) (m : Mc) (o : Option Mc) (w : World) (e : Ending) (w' : World) : Prop :=
  Chg (C3 g gm gp) w w' ∧ w.heap.size ≤ w'.heap.size ∧ ((∃ m', o = some m' ∧ e = .returned (.tuple #[]) ∧ VM N es w' g gm gp n cap sp nk ck m') ∨ (o = none ∧ e = .panicked trapV ∧ VM N es w' g gm gp n cap sp nk ck m))
theorem stYes {o : Option Mc} {W : World} (hW : Below w.heap.size w W) (hV : VM N es w g gm gp n cap sp nk ck m) {m' : Mc} (ho : o = some m') (hb : Chg (C3 g gm gp) W w') (hs : W.heap.size ≤ w'.heap.size) (hV' : VM N es w' g gm gp n cap sp nk ck m') : StPost N es g gm gp n cap sp nk ck m o w (.returned (.tuple #[])) w' :=
  ⟨(Chg.of_below hW).trans hb, Nat.le_trans hW.size hs, .inl ⟨m', ho, rfl, hV'⟩⟩
theorem stNo {o : Option Mc} (hV : VM N es w g gm gp n cap sp nk ck m) (ho : o = none) (hW : Below w.heap.size w w') : StPost N es g gm gp n cap sp nk ck m o w (.panicked trapV) w' :=
  ⟨Chg.of_below hW, hW.size, .inr ⟨ho, rfl, hV.bel hW⟩⟩
theorem cell_set_ne {w : World} {a b : Addr} (v : Value) (h : a ≠ b) : (w.setCell a v).cell? b = w.cell? b := World.cell?_setCell_other w a b v h
theorem VM.setReg (h : VM N es w g gm gp n cap sp nk ck m) {a : Nat} (ha : a < 16) {x : Int} (hx : U64 x) : VM N es (w.setCell ⟨g, 1 + a, none⟩ (.int .u64 x)) g gm gp n cap sp nk ck { m with rg := m.rg.set a x } := h.setCell (.inl rfl) (h.en.setReg ha hx)
theorem VM.setPc (h : VM N es w g gm gp n cap sp nk ck m) {x : Int} (hx : U64 x) : VM N es (w.setCell ⟨g, 0, none⟩ (.int .u64 x)) g gm gp n cap sp nk ck { m with pc := x } := h.setCell (.inl rfl) (h.en.setPc hx)
theorem VM.setSt (h : VM N es w g gm gp n cap sp nk ck m) {x : Int} (hx : 0 ≤ x ∧ x < 256) : VM N es (w.setCell ⟨g, 17, none⟩ (.int .u8 x)) g gm gp n cap sp nk ck { m with st := x } := h.setCell (.inl rfl) (h.en.setSt hx)
theorem VM.setMem (h : VM N es w g gm gp n cap sp nk ck m) {k : Nat} (hk : k < n) {x : Int} (hx : U64 x) : VM N es (w.setCell ⟨gm, k, none⟩ (.int .u64 x)) g gm gp n cap sp nk ck { m with me := m.me.set k x } := h.setCell (.inr rfl) (h.en.setMem hk hx)
/-- A register set, and on. -/
theorem VM.put (h : VM N es w g gm gp n cap sp nk ck m) {a : Nat} (ha : a < 16) {x : Int} (hx : U64 x) : VM N es ((w.setCell ⟨g, 1 + a, none⟩ (.int .u64 x)).setCell ⟨g, 0, none⟩ (.int .u64 (IntKind.u64.wrap (m.pc + 1)))) g gm gp n cap sp nk ck (m.put a x) := (h.setReg ha hx).setPc (U64.wrap _)
theorem VM.low (h : VM N es w g gm gp n cap sp nk ck m) {W : World} {j : Nat} (v : Value) (hb : Chg (C3 g gm gp) w W) (hx : True ∨ True) : Chg (C3 g gm gp) w (W.setCell ⟨g, j, none⟩ v) := hb.sg j v
end
end Go.Proofs.YtneihkegipcakaaGreat
/- Layer trace: what the layers below give. -/
namespace Go.Proofs.YtneihkegipcakaaGreat
open Go.RowKit
set_option maxRecDepth 100000
set_option linter.unusedVariables false
set_option linter.unusedSimpArgs false

section
variable {N : Nat} {es : List En} {w w' : World} {g gm gp n cap : Nat} {sp : Option Addr} {nk ck : Nat} {m m' : Mc}
theorem Chg.low {S : Nat → Prop} {a b : World} (h : Chg S a b) (hN : N ≤ a.heap.size) (hS : ∀ k, k < N → ¬ S k) : Below N a b :=
  ⟨h.os, h.tape, h.output, h.size, fun k hk => h.block k (by omega) (hS k hk)⟩
theorem VM.chg (h : VM N es w g gm gp n cap sp nk ck m) (hc : Chg (fun k => k = gm) w w') (he : EN w' g 157 [.slice sp nk ck, .map (some gp)] gm n cap m') : VM N es w' g gm gp n cap sp nk ck m' ∧ Chg (C3 g gm gp) w w' := by
  have h1 := h.le
  have h2 := h.en.ltm
  have h3 := h.ne
  have hb : Below N w w' := hc.low (by omega) (fun k hk e => by omega)
  obtain ⟨f, hf, hi⟩ := h.map
  exact ⟨⟨he, h.known.below hb, ⟨f, hf.same (hc.block gp h.ltp (fun e => h3.2 e.symm)), hi⟩, h.le, h.ne⟩, hc.monoV (fun k e => .inr (.inl e))⟩
/-- What the shelf's preimage leaves. -/
structure ShW (N : Nat) (es : List En) (w w' : World) (g gm gp n cap : Nat) (sp : Option Addr) (nk ck : Nat) (m : Mc) : Prop where
  vm : VM N es w' g gm gp n cap sp nk ck m
  low : Below N w w'
  chg : Chg (C3 g gm gp) w w'
  size : w.heap.size ≤ w'.heap.size
  oth : ∀ b, b < w.heap.size → b ≠ gp → w'.heap[b]? = w.heap[b]?
theorem shw {X : List Int} {r : Ending} (h : VM N es w g gm gp n cap sp nk ck m) (hp : ShPost es X N gp w r w') : ShW N es w w' g gm gp n cap sp nk ck m := by
  obtain ⟨hM, h1, h2, h3, h4, h5, -⟩ := hp
  have hl := h.le
  have hg := h.en.lt
  have hgm := h.en.ltm
  have hb : Below N w w' := ⟨h2, h3, h4, h1, fun k hk => h5 k (by omega) (by omega)⟩
  exact ⟨⟨h.en.block (h5 g hg h.ne.1) (h5 gm hgm h.ne.2), h.known.below hb, hM, h.le, h.ne⟩, hb, ⟨h2, h3, h4, h1, fun k hk hs => h5 k hk (fun e => hs (.inr (.inr e)))⟩, h1, h5⟩
theorem shelf_yes {X : List Int} {e : En} (h : VM N es w g gm gp n cap sp nk ck m) (hX : X.length = 32) (hp : pre es X = some e) :
    Calls Tryz.prog 135 #[.agg #[.slice sp nk ck, .map (some gp)], .agg (h8 X)] w fun r w' => r = .returned (.slice e.sp e.n e.cap) ∧ e ∈ es ∧ ShW N es w w' g gm gp n cap sp nk ck m := by
  obtain ⟨f, hf, hi⟩ := h.map
  refine (shelf_any sp nk ck es X N gp w h.known h.le.2.2 hX hf hi).mono fun r w' hs => ?_
  have hw := shw h hs
  obtain ⟨-, -, -, -, -, -, ⟨e', he', hm, hr⟩ | ⟨he', hr⟩⟩ := hs
  · rw [hp] at he'; cases he'
    exact ⟨hr, hm, hw⟩
  · rw [hp] at he'; cases he'
theorem shelf_no {X : List Int} (h : VM N es w g gm gp n cap sp nk ck m) (hX : X.length = 32) (hp : pre es X = none) :
    Calls Tryz.prog 135 #[.agg #[.slice sp nk ck, .map (some gp)], .agg (h8 X)] w fun r w' => r = .panicked trapV ∧ ShW N es w w' g gm gp n cap sp nk ck m := by
  obtain ⟨f, hf, hi⟩ := h.map
  refine (shelf_any sp nk ck es X N gp w h.known h.le.2.2 hX hf hi).mono fun r w' hs => ?_
  have hw := shw h hs
  obtain ⟨-, -, -, -, -, -, ⟨e', he', hm, hr⟩ | ⟨he', hr⟩⟩ := hs
  · rw [hp] at he'; cases he'
  · exact ⟨hr, hw⟩
theorem stNoS {o : Option Mc} {W U : World} (hV : VM N es w g gm gp n cap sp nk ck m) (ho : o = none) (hW : Below w.heap.size w W) (hS : ShW N es W U g gm gp n cap sp nk ck m) : StPost N es g gm gp n cap sp nk ck m o w (.panicked trapV) U :=
  ⟨(Chg.of_below hW).trans hS.chg, Nat.le_trans hW.size hS.size, .inr ⟨ho, rfl, hS.vm⟩⟩
theorem mkL_one {i : Int} {P : List Int} (h : mkL i = some P) : P.length ≤ 1 := by
  unfold mkL at h
  split at h
  · cases h; simp
  · split at h
    · cases h; simp
    · cases h
end
end Go.Proofs.YtneihkegipcakaaGreat
/- Layer trace: what the layers below give. -/
namespace Go.Proofs.YtneihkegipcakaaGreat
open Go.RowKit
set_option maxRecDepth 100000
set_option linter.unusedVariables false
set_option linter.unusedSimpArgs false

set_option maxHeartbeats 2000000 in
theorem step_1 {N : Nat} {es : List En} {g gm gp n cap pN : Nat} {sp : Option Addr} {nk ck : Nat} {m : Mc} {x i : Int} {a b c : Nat} (w : World) (hV : VM N es w g gm gp n cap sp nk ck m) (hp : m.pc = (pN : Int)) (hpn : pN < n) (hx : m.me.getD pN 0 = x) (hd : dOk x = true) (ho : dOp x = 1) (ha : dA x = (a : Nat)) (hb : dB x = (b : Nat)) (hc : dC x = (c : Nat)) (hi : dI x = i) :
    Calls Tryz.prog 110 #[.pointer (some ⟨g, 0, none⟩)] w (StPost N es g gm gp n cap sp nk ck m (ex es m 1 a b c i) w) := by
  have hE := hV.en
  have hok := hE.ok
  have hU : U64 x := by rw [← hx]; exact hok.me _
  have hR := dRg hU
  rw [ha, hb, hc, hi] at hR
  obtain ⟨-, ha2, hb2, hc2, hi2⟩ := hR
  have haI : (a : Int) < 16 := ha2.2
  have hbI : (b : Int) < 16 := hb2.2
  have hcI : (c : Int) < 16 := hc2.2
  have ha16 : a < 16 := by omega
  have hb16 : b < 16 := by omega
  have hc16 : c < 16 := by omega
  have hi0 : 0 ≤ i := hi2.1
  have hi1 : i < 4294967296 := hi2.2
  have hUi : U64 i := by unfold U64; omega
  have hwi : IntKind.u64.wrap i = i := wrap_u64 hUi
  have hUa : U64 (m.get a) := hok.rg a
  have hUb : U64 (m.get b) := hok.rg b
  have hUc : U64 (m.get c) := hok.rg c
  have hv := dV_yes hd
  rw [ho, ha, hb, hc, hi] at hv
  have c0 := hE.c0
  have c18 := hE.c18
  have hn := hE.small
  have cx := hE.cm hpn
  rw [hx] at cx
  have hlen := hE.len
  replace hv := Hid.mk' hv
  replace hd := Hid.mk' hd
  replace hp := Hid.mk' hp
  clear ho ha hb hc hi ha2 hb2 hc2 hi2 hx hE
  go_enter Tryz.func110, Tryz.ntmps110
  go_upto_region 3 with (first
    | (go_at_call 132; go_must (refine (word_ok w c18 hn hp.out hpn).mono ?_; rintro e w1 ⟨rfl, h⟩; replace h := h.symm; subst h))
    | (go_at_call 119; go_must (refine (decode_any w hU).mono ?_; rintro e w2 ⟨rfl, hb2⟩; rw [hv.out, hd.out]; have A0 := Arr.new w2 75 (cdA 1 a b c i); have hB0 := hb2.alloc hb2.size (.cells (cdA 1 a b c i) 75); have hV2 := hV.bel hB0; have rb0 := hV2.en.cr hb16; have q1 : (w2.alloc (.cells (cdA 1 a b c i) 75)).cell? ⟨w2.heap.size, 1, none⟩ = some (.int .u8 (a : Int)) := A0.cell 1; have q2 : (w2.alloc (.cells (cdA 1 a b c i) 75)).cell? ⟨w2.heap.size, 2, none⟩ = some (.int .u8 (b : Int)) := A0.cell 2; have q4 : (w2.alloc (.cells (cdA 1 a b c i) 75)).cell? ⟨w2.heap.size, 4, none⟩ = some (.int .u32 i) := A0.cell 4; change _ = some (Value.int IntKind.u64 (m.get b)) at rb0; generalize hcd : cdA 1 a b c i = CD at A0 hB0 hV2 rb0 q1 q2 q4 ⊢))
    | (refine wpList_store_new w2 _ 75 (by rfl) 75 (.tmp 2) (.tmp 18) (by rfl) CD (by rfl) (by rfl) (by rw [← hcd]; exact size25) (by rw [← hcd]; rfl) (by rw [← hcd]; exact one25 _ _ _ _ _) ?_))
  refine wp_region_held_drew (S := fun u => u = (w2.alloc (.cells CD 75)).drew) (by kernel_rfl) (rfl) (fun hHeld => ?_)
  refine wpAnyH_take (i := 0) (oi := ⟨_, _, _, _, _, _⟩) (v := ?_) rfl (by kernel_rfl) (by kernel_rfl) (by kernel_rfl) (fun _ _ _ h => h) (Or.inl ⟨by rfl, ?_⟩) (by assumption) ?_
  rotate_left
  · intro u hSw
    go_simp
    try (with_reducible rfl)
  try simp only [Act.put, List.setIfInBounds_toArray, List.set_cons_zero, List.set_cons_succ]
  refine wpAnyH_take (i := 1) (oi := ⟨_, _, _, _, _, _⟩) (v := ?_) rfl (by kernel_rfl) (by kernel_rfl) (by kernel_rfl) (fun _ _ _ h => h) (Or.inl ⟨by rfl, ?_⟩) (by assumption) ?_
  rotate_left
  · intro u hSw
    go_simp
    try (with_reducible rfl)
  try simp only [Act.put, List.setIfInBounds_toArray, List.set_cons_zero, List.set_cons_succ]
  refine wpAnyH_take (i := 2) (oi := ⟨_, _, _, _, _, _⟩) (v := ?_) rfl (by kernel_rfl) (by kernel_rfl) (by kernel_rfl) (fun _ _ _ h => h) (Or.inl ⟨by rfl, ?_⟩) (by assumption) ?_
  rotate_left
  · intro u hSw
    subst hSw
    go_simp
    try (with_reducible rfl)
  try simp only [Act.put, List.setIfInBounds_toArray, List.set_cons_zero, List.set_cons_succ]
  refine wpAnyH_take (i := 3) (oi := ⟨_, _, _, _, _, _⟩) (v := ?_) rfl (by kernel_rfl) (by kernel_rfl) (by kernel_rfl) (fun _ _ _ h => h) (Or.inl ⟨by rfl, ?_⟩) (by assumption) ?_
  rotate_left
  · intro u hSw
    go_simp
    try (with_reducible rfl)
  try simp only [Act.put, List.setIfInBounds_toArray, List.set_cons_zero, List.set_cons_succ]
  refine wpAnyH_take (i := 4) (oi := ⟨_, _, _, _, _, _⟩) (v := ?_) rfl (by kernel_rfl) (by kernel_rfl) (by kernel_rfl) (fun _ _ _ h => h) (Or.inl ⟨by rfl, ?_⟩) (by assumption) ?_
  rotate_left
  · intro u hSw
    go_simp
    try (with_reducible rfl)
  try simp only [Act.put, List.setIfInBounds_toArray, List.set_cons_zero, List.set_cons_succ]
  refine wpAnyH_take (i := 5) (oi := ⟨_, _, _, _, _, _⟩) (v := ?_) rfl (by kernel_rfl) (by kernel_rfl) (by kernel_rfl) (fun _ _ _ h => h) (Or.inl ⟨by rfl, ?_⟩) (by assumption) ?_
  rotate_left
  · intro u hSw
    go_simp
    try (with_reducible rfl)
  try simp only [Act.put, List.setIfInBounds_toArray, List.set_cons_zero, List.set_cons_succ]
  refine wpAnyH_take (i := 6) (oi := ⟨_, _, _, _, _, _⟩) (v := ?_) rfl (by kernel_rfl) (by kernel_rfl) (by kernel_rfl) (fun _ _ _ h => h) (Or.inl ⟨by rfl, ?_⟩) (by assumption) ?_
  rotate_left
  · intro u hSw
    go_simp
    try (with_reducible rfl)
  try simp only [Act.put, List.setIfInBounds_toArray, List.set_cons_zero, List.set_cons_succ]
  refine wpAnyH_take (i := 7) (oi := ⟨_, _, _, _, _, _⟩) (v := ?_) rfl (by kernel_rfl) (by kernel_rfl) (by kernel_rfl) (fun _ _ _ h => h) (Or.inl ⟨by rfl, ?_⟩) (by assumption) ?_
  rotate_left
  · intro u hSw
    go_simp
    try (with_reducible rfl)
  try simp only [Act.put, List.setIfInBounds_toArray, List.set_cons_zero, List.set_cons_succ]
  refine wpAnyH_take (i := 8) (oi := ⟨_, _, _, _, _, _⟩) (v := ?_) rfl (by kernel_rfl) (by kernel_rfl) (by kernel_rfl) (fun _ _ _ h => h) (Or.inl ⟨by rfl, ?_⟩) (by assumption) ?_
  rotate_left
  · intro u hSw
    go_simp
    try (with_reducible rfl)
  try simp only [Act.put, List.setIfInBounds_toArray, List.set_cons_zero, List.set_cons_succ]
  refine wpAnyH_take (i := 9) (oi := ⟨_, _, _, _, _, _⟩) (v := ?_) rfl (by kernel_rfl) (by kernel_rfl) (by kernel_rfl) (fun _ _ _ h => h) (Or.inl ⟨by rfl, ?_⟩) (by assumption) ?_
  rotate_left
  · intro u hSw
    subst hSw
    go_simp
    try (with_reducible rfl)
  try simp only [Act.put, List.setIfInBounds_toArray, List.set_cons_zero, List.set_cons_succ]
  refine wpAnyH_take (i := 10) (oi := ⟨_, _, _, _, _, _⟩) (v := ?_) rfl (by kernel_rfl) (by kernel_rfl) (by kernel_rfl) (fun _ _ _ h => h) (Or.inl ⟨by rfl, ?_⟩) (by assumption) ?_
  rotate_left
  · intro u hSw
    go_simp
    try (with_reducible rfl)
  try simp only [Act.put, List.setIfInBounds_toArray, List.set_cons_zero, List.set_cons_succ]
  refine wpAnyH_take (i := 11) (oi := ⟨_, _, _, _, _, _⟩) (v := ?_) rfl (by kernel_rfl) (by kernel_rfl) (by kernel_rfl) (fun _ _ _ h => h) (Or.inl ⟨by rfl, ?_⟩) (by assumption) ?_
  rotate_left
  · intro u hSw
    go_simp
    try (with_reducible rfl)
  try simp only [Act.put, List.setIfInBounds_toArray, List.set_cons_zero, List.set_cons_succ]
  refine wpAnyH_take (i := 12) (oi := ⟨_, _, _, _, _, _⟩) (v := ?_) rfl (by kernel_rfl) (by kernel_rfl) (by kernel_rfl) (fun _ _ _ h => h) (Or.inl ⟨by rfl, ?_⟩) (by assumption) ?_
  rotate_left
  · intro u hSw
    go_simp
    try (with_reducible rfl)
  try simp only [Act.put, List.setIfInBounds_toArray, List.set_cons_zero, List.set_cons_succ]
  refine wpAnyH_take (i := 13) (oi := ⟨_, _, _, _, _, _⟩) (v := ?_) rfl (by kernel_rfl) (by kernel_rfl) (by kernel_rfl) (fun _ _ _ h => h) (Or.inl ⟨by rfl, ?_⟩) (by assumption) ?_
  rotate_left
  · intro u hSw
    go_simp
    try (with_reducible rfl)
  try simp only [Act.put, List.setIfInBounds_toArray, List.set_cons_zero, List.set_cons_succ]
  refine wpAnyH_take (i := 14) (oi := ⟨_, _, _, _, _, _⟩) (v := ?_) rfl (by kernel_rfl) (by kernel_rfl) (by kernel_rfl) (fun _ _ _ h => h) (Or.inl ⟨by rfl, ?_⟩) (by assumption) ?_
  rotate_left
  · intro u hSw
    subst hSw
    go_simp
    try (with_reducible rfl)
  try simp only [Act.put, List.setIfInBounds_toArray, List.set_cons_zero, List.set_cons_succ]
  refine wpAnyH_take (i := 15) (oi := ⟨_, _, _, _, _, _⟩) (v := ?_) rfl (by kernel_rfl) (by kernel_rfl) (by kernel_rfl) (fun _ _ _ h => h) (Or.inl ⟨by rfl, ?_⟩) (by assumption) ?_
  rotate_left
  · intro u hSw
    go_simp
    try (with_reducible rfl)
  try simp only [Act.put, List.setIfInBounds_toArray, List.set_cons_zero, List.set_cons_succ]
  refine wpAnyH_take (i := 16) (oi := ⟨_, _, _, _, _, _⟩) (v := ?_) rfl (by kernel_rfl) (by kernel_rfl) (by kernel_rfl) (fun _ _ _ h => h) (Or.inl ⟨by rfl, ?_⟩) (by assumption) ?_
  rotate_left
  · intro u hSw
    subst hSw
    go_simp
    try (with_reducible rfl)
  try simp only [Act.put, List.setIfInBounds_toArray, List.set_cons_zero, List.set_cons_succ]
  refine wpAnyH_take (i := 17) (oi := ⟨_, _, _, _, _, _⟩) (v := ?_) rfl (by kernel_rfl) (by kernel_rfl) (by kernel_rfl) (fun _ _ _ h => h) (Or.inl ⟨by rfl, ?_⟩) (by assumption) ?_
  rotate_left
  · intro u hSw
    go_simp
    try (with_reducible rfl)
  try simp only [Act.put, List.setIfInBounds_toArray, List.set_cons_zero, List.set_cons_succ]
  refine wpAnyH_take (i := 18) (oi := ⟨_, _, _, _, _, _⟩) (v := ?_) rfl (by kernel_rfl) (by kernel_rfl) (by kernel_rfl) (fun _ _ _ h => h) (Or.inl ⟨by rfl, ?_⟩) (by assumption) ?_
  rotate_left
  · intro u hSw
    go_simp
    try (with_reducible rfl)
  try simp only [Act.put, List.setIfInBounds_toArray, List.set_cons_zero, List.set_cons_succ]
  refine wpAnyH_take (i := 19) (oi := ⟨_, _, _, _, _, _⟩) (v := ?_) rfl (by kernel_rfl) (by kernel_rfl) (by kernel_rfl) (fun _ _ _ h => h) (Or.inl ⟨by rfl, ?_⟩) (by assumption) ?_
  rotate_left
  · intro u hSw
    go_simp
    try (with_reducible rfl)
  try simp only [Act.put, List.setIfInBounds_toArray, List.set_cons_zero, List.set_cons_succ]
  refine wpAnyH_take (i := 20) (oi := ⟨_, _, _, _, _, _⟩) (v := ?_) rfl (by kernel_rfl) (by kernel_rfl) (by kernel_rfl) (fun _ _ _ h => h) (Or.inl ⟨by rfl, ?_⟩) (by assumption) ?_
  rotate_left
  · intro u hSw
    go_simp
    try (with_reducible rfl)
  try simp only [Act.put, List.setIfInBounds_toArray, List.set_cons_zero, List.set_cons_succ]
  refine wpAnyH_done (by kernel_rfl) ?_ _
  go_upto_region 4 with fail
  obtain ⟨W, hW⟩ : ∃ W : World, W = (w2.alloc (.cells CD 75)).drew := ⟨_, rfl⟩
  obtain ⟨G, hG⟩ : ∃ G : Nat, G = w2.heap.size := ⟨_, rfl⟩
  have AW : Arr W G 75 CD := by rw [hW, hG]; exact A0
  have hBW : Below w.heap.size w W := by rw [hW]; exact hB0.drew
  have hVW : VM N es W g gm gp n cap sp nk ck m := by rw [hW]; exact hV2.bel ((Below.refl _ _).drew)
  rw [← hW, ← hG]
  clear hW hG A0 hB0 hV2 rb0 q1 q2 q4 hb2 cx c0 c18 hv hd hp
  have hEW := hVW.en
  have c0 := hEW.c0
  have c17 := hEW.c17
  have c18 := hEW.c18
  have x0 : W.cell? ⟨g, 19, none⟩ = some (.slice sp nk ck) := hEW.cx 0
  have x1 : W.cell? ⟨g, 20, none⟩ = some (.map (some gp)) := hEW.cx 1
  have ra := hEW.cr ha16
  have rb := hEW.cr hb16
  have rc := hEW.cr hc16
  change _ = some (Value.int IntKind.u64 (m.get a)) at ra
  change _ = some (Value.int IntKind.u64 (m.get b)) at rb
  change _ = some (Value.int IntKind.u64 (m.get c)) at rc
  have fz := hEW.fz
  have fm := hEW.fm
  have hne := hEW.ne
  have hGg : g ≠ G := fun e => by rw [e] at hEW; have h1 := hEW.eng; rw [Arr, AW] at h1; cases h1
  subst hcd
  have k0 : W.cell? ⟨G, 0, none⟩ = some (.int .u8 1) := AW.cell 0
  have k1 : W.cell? ⟨G, 1, none⟩ = some (.int .u8 (a : Int)) := AW.cell 1
  have k3 : W.cell? ⟨G, 3, none⟩ = some (.int .u8 (c : Int)) := AW.cell 3
  have c0' : ∀ v, (W.setCell ⟨g, 1 + a, none⟩ v).cell? ⟨g, 0, none⟩ = some (.int .u64 m.pc) := fun v => (cell_set_ne v (fun e => by injection e with _ e2 _; omega)).trans c0
  have f' : ∀ v j, (W.setCell ⟨g, 1 + a, none⟩ v).frozen? ⟨g, j, none⟩ = false := fun v j => (hEW.eng.set (1 + a) v).frozen j
  go_wp2_with fail
  exact ⟨rfl, _, results_none Tryz.results110 _ _ _, stYes hBW hV (m' := { m with st := 1 }) (by simp [ex]) (hVW.low _ (Chg.refl _ _) (.inl trivial)) (by simp) (hVW.setSt (by omega))⟩
set_option maxHeartbeats 2000000 in
theorem step_4 {N : Nat} {es : List En} {g gm gp n cap pN : Nat} {sp : Option Addr} {nk ck : Nat} {m : Mc} {x i : Int} {a b c : Nat} (w : World) (hV : VM N es w g gm gp n cap sp nk ck m) (hp : m.pc = (pN : Int)) (hpn : pN < n) (hx : m.me.getD pN 0 = x) (hd : dOk x = true) (ho : dOp x = 4) (ha : dA x = (a : Nat)) (hb : dB x = (b : Nat)) (hc : dC x = (c : Nat)) (hi : dI x = i) :
    Calls Tryz.prog 110 #[.pointer (some ⟨g, 0, none⟩)] w (StPost N es g gm gp n cap sp nk ck m (ex es m 4 a b c i) w) := by
  have hE := hV.en
  have hok := hE.ok
  have hU : U64 x := by rw [← hx]; exact hok.me _
  have hR := dRg hU
  rw [ha, hb, hc, hi] at hR
  obtain ⟨-, ha2, hb2, hc2, hi2⟩ := hR
  have haI : (a : Int) < 16 := ha2.2
  have hbI : (b : Int) < 16 := hb2.2
  have hcI : (c : Int) < 16 := hc2.2
  have ha16 : a < 16 := by omega
  have hb16 : b < 16 := by omega
  have hc16 : c < 16 := by omega
  have hi0 : 0 ≤ i := hi2.1
  have hi1 : i < 4294967296 := hi2.2
  have hUi : U64 i := by unfold U64; omega
  have hwi : IntKind.u64.wrap i = i := wrap_u64 hUi
  have hUa : U64 (m.get a) := hok.rg a
  have hUb : U64 (m.get b) := hok.rg b
  have hUc : U64 (m.get c) := hok.rg c
  have hv := dV_yes hd
  rw [ho, ha, hb, hc, hi] at hv
  have c0 := hE.c0
  have c18 := hE.c18
  have hn := hE.small
  have cx := hE.cm hpn
  rw [hx] at cx
  have hlen := hE.len
  replace hv := Hid.mk' hv
  replace hd := Hid.mk' hd
  replace hp := Hid.mk' hp
  clear ho ha hb hc hi ha2 hb2 hc2 hi2 hx hE
  go_enter Tryz.func110, Tryz.ntmps110
  go_upto_region 3 with (first
    | (go_at_call 132; go_must (refine (word_ok w c18 hn hp.out hpn).mono ?_; rintro e w1 ⟨rfl, h⟩; replace h := h.symm; subst h))
    | (go_at_call 119; go_must (refine (decode_any w hU).mono ?_; rintro e w2 ⟨rfl, hb2⟩; rw [hv.out, hd.out]; have A0 := Arr.new w2 75 (cdA 4 a b c i); have hB0 := hb2.alloc hb2.size (.cells (cdA 4 a b c i) 75); have hV2 := hV.bel hB0; have rb0 := hV2.en.cr hb16; have q1 : (w2.alloc (.cells (cdA 4 a b c i) 75)).cell? ⟨w2.heap.size, 1, none⟩ = some (.int .u8 (a : Int)) := A0.cell 1; have q2 : (w2.alloc (.cells (cdA 4 a b c i) 75)).cell? ⟨w2.heap.size, 2, none⟩ = some (.int .u8 (b : Int)) := A0.cell 2; have q4 : (w2.alloc (.cells (cdA 4 a b c i) 75)).cell? ⟨w2.heap.size, 4, none⟩ = some (.int .u32 i) := A0.cell 4; change _ = some (Value.int IntKind.u64 (m.get b)) at rb0; generalize hcd : cdA 4 a b c i = CD at A0 hB0 hV2 rb0 q1 q2 q4 ⊢))
    | (refine wpList_store_new w2 _ 75 (by rfl) 75 (.tmp 2) (.tmp 18) (by rfl) CD (by rfl) (by rfl) (by rw [← hcd]; exact size25) (by rw [← hcd]; rfl) (by rw [← hcd]; exact one25 _ _ _ _ _) ?_))
  refine wp_region_held_drew (S := fun u => u = (w2.alloc (.cells CD 75)).drew) (by kernel_rfl) (rfl) (fun hHeld => ?_)
  refine wpAnyH_take (i := 0) (oi := ⟨_, _, _, _, _, _⟩) (v := ?_) rfl (by kernel_rfl) (by kernel_rfl) (by kernel_rfl) (fun _ _ _ h => h) (Or.inl ⟨by rfl, ?_⟩) (by assumption) ?_
  rotate_left
  · intro u hSw
    go_simp
    try (with_reducible rfl)
  try simp only [Act.put, List.setIfInBounds_toArray, List.set_cons_zero, List.set_cons_succ]
  refine wpAnyH_take (i := 1) (oi := ⟨_, _, _, _, _, _⟩) (v := ?_) rfl (by kernel_rfl) (by kernel_rfl) (by kernel_rfl) (fun _ _ _ h => h) (Or.inl ⟨by rfl, ?_⟩) (by assumption) ?_
  rotate_left
  · intro u hSw
    go_simp
    try (with_reducible rfl)
  try simp only [Act.put, List.setIfInBounds_toArray, List.set_cons_zero, List.set_cons_succ]
  refine wpAnyH_take (i := 2) (oi := ⟨_, _, _, _, _, _⟩) (v := ?_) rfl (by kernel_rfl) (by kernel_rfl) (by kernel_rfl) (fun _ _ _ h => h) (Or.inl ⟨by rfl, ?_⟩) (by assumption) ?_
  rotate_left
  · intro u hSw
    subst hSw
    go_simp
    try (with_reducible rfl)
  try simp only [Act.put, List.setIfInBounds_toArray, List.set_cons_zero, List.set_cons_succ]
  refine wpAnyH_take (i := 3) (oi := ⟨_, _, _, _, _, _⟩) (v := ?_) rfl (by kernel_rfl) (by kernel_rfl) (by kernel_rfl) (fun _ _ _ h => h) (Or.inl ⟨by rfl, ?_⟩) (by assumption) ?_
  rotate_left
  · intro u hSw
    go_simp
    try (with_reducible rfl)
  try simp only [Act.put, List.setIfInBounds_toArray, List.set_cons_zero, List.set_cons_succ]
  refine wpAnyH_take (i := 4) (oi := ⟨_, _, _, _, _, _⟩) (v := ?_) rfl (by kernel_rfl) (by kernel_rfl) (by kernel_rfl) (fun _ _ _ h => h) (Or.inl ⟨by rfl, ?_⟩) (by assumption) ?_
  rotate_left
  · intro u hSw
    go_simp
    try (with_reducible rfl)
  try simp only [Act.put, List.setIfInBounds_toArray, List.set_cons_zero, List.set_cons_succ]
  refine wpAnyH_take (i := 5) (oi := ⟨_, _, _, _, _, _⟩) (v := ?_) rfl (by kernel_rfl) (by kernel_rfl) (by kernel_rfl) (fun _ _ _ h => h) (Or.inl ⟨by rfl, ?_⟩) (by assumption) ?_
  rotate_left
  · intro u hSw
    go_simp
    try (with_reducible rfl)
  try simp only [Act.put, List.setIfInBounds_toArray, List.set_cons_zero, List.set_cons_succ]
  refine wpAnyH_take (i := 6) (oi := ⟨_, _, _, _, _, _⟩) (v := ?_) rfl (by kernel_rfl) (by kernel_rfl) (by kernel_rfl) (fun _ _ _ h => h) (Or.inl ⟨by rfl, ?_⟩) (by assumption) ?_
  rotate_left
  · intro u hSw
    go_simp
    try (with_reducible rfl)
  try simp only [Act.put, List.setIfInBounds_toArray, List.set_cons_zero, List.set_cons_succ]
  refine wpAnyH_take (i := 7) (oi := ⟨_, _, _, _, _, _⟩) (v := ?_) rfl (by kernel_rfl) (by kernel_rfl) (by kernel_rfl) (fun _ _ _ h => h) (Or.inl ⟨by rfl, ?_⟩) (by assumption) ?_
  rotate_left
  · intro u hSw
    go_simp
    try (with_reducible rfl)
  try simp only [Act.put, List.setIfInBounds_toArray, List.set_cons_zero, List.set_cons_succ]
  refine wpAnyH_take (i := 8) (oi := ⟨_, _, _, _, _, _⟩) (v := ?_) rfl (by kernel_rfl) (by kernel_rfl) (by kernel_rfl) (fun _ _ _ h => h) (Or.inl ⟨by rfl, ?_⟩) (by assumption) ?_
  rotate_left
  · intro u hSw
    go_simp
    try (with_reducible rfl)
  try simp only [Act.put, List.setIfInBounds_toArray, List.set_cons_zero, List.set_cons_succ]
  refine wpAnyH_take (i := 9) (oi := ⟨_, _, _, _, _, _⟩) (v := ?_) rfl (by kernel_rfl) (by kernel_rfl) (by kernel_rfl) (fun _ _ _ h => h) (Or.inl ⟨by rfl, ?_⟩) (by assumption) ?_
  rotate_left
  · intro u hSw
    subst hSw
    go_simp
    try (with_reducible rfl)
  try simp only [Act.put, List.setIfInBounds_toArray, List.set_cons_zero, List.set_cons_succ]
  refine wpAnyH_take (i := 10) (oi := ⟨_, _, _, _, _, _⟩) (v := ?_) rfl (by kernel_rfl) (by kernel_rfl) (by kernel_rfl) (fun _ _ _ h => h) (Or.inl ⟨by rfl, ?_⟩) (by assumption) ?_
  rotate_left
  · intro u hSw
    go_simp
    try (with_reducible rfl)
  try simp only [Act.put, List.setIfInBounds_toArray, List.set_cons_zero, List.set_cons_succ]
  refine wpAnyH_take (i := 11) (oi := ⟨_, _, _, _, _, _⟩) (v := ?_) rfl (by kernel_rfl) (by kernel_rfl) (by kernel_rfl) (fun _ _ _ h => h) (Or.inl ⟨by rfl, ?_⟩) (by assumption) ?_
  rotate_left
  · intro u hSw
    go_simp
    try (with_reducible rfl)
  try simp only [Act.put, List.setIfInBounds_toArray, List.set_cons_zero, List.set_cons_succ]
  refine wpAnyH_take (i := 12) (oi := ⟨_, _, _, _, _, _⟩) (v := ?_) rfl (by kernel_rfl) (by kernel_rfl) (by kernel_rfl) (fun _ _ _ h => h) (Or.inl ⟨by rfl, ?_⟩) (by assumption) ?_
  rotate_left
  · intro u hSw
    go_simp
    try (with_reducible rfl)
  try simp only [Act.put, List.setIfInBounds_toArray, List.set_cons_zero, List.set_cons_succ]
  refine wpAnyH_take (i := 13) (oi := ⟨_, _, _, _, _, _⟩) (v := ?_) rfl (by kernel_rfl) (by kernel_rfl) (by kernel_rfl) (fun _ _ _ h => h) (Or.inl ⟨by rfl, ?_⟩) (by assumption) ?_
  rotate_left
  · intro u hSw
    go_simp
    try (with_reducible rfl)
  try simp only [Act.put, List.setIfInBounds_toArray, List.set_cons_zero, List.set_cons_succ]
  refine wpAnyH_take (i := 14) (oi := ⟨_, _, _, _, _, _⟩) (v := ?_) rfl (by kernel_rfl) (by kernel_rfl) (by kernel_rfl) (fun _ _ _ h => h) (Or.inl ⟨by rfl, ?_⟩) (by assumption) ?_
  rotate_left
  · intro u hSw
    subst hSw
    go_simp
    try (with_reducible rfl)
  try simp only [Act.put, List.setIfInBounds_toArray, List.set_cons_zero, List.set_cons_succ]
  refine wpAnyH_take (i := 15) (oi := ⟨_, _, _, _, _, _⟩) (v := ?_) rfl (by kernel_rfl) (by kernel_rfl) (by kernel_rfl) (fun _ _ _ h => h) (Or.inl ⟨by rfl, ?_⟩) (by assumption) ?_
  rotate_left
  · intro u hSw
    go_simp
    try (with_reducible rfl)
  try simp only [Act.put, List.setIfInBounds_toArray, List.set_cons_zero, List.set_cons_succ]
  refine wpAnyH_take (i := 16) (oi := ⟨_, _, _, _, _, _⟩) (v := ?_) rfl (by kernel_rfl) (by kernel_rfl) (by kernel_rfl) (fun _ _ _ h => h) (Or.inl ⟨by rfl, ?_⟩) (by assumption) ?_
  rotate_left
  · intro u hSw
    subst hSw
    go_simp
    try (with_reducible rfl)
  try simp only [Act.put, List.setIfInBounds_toArray, List.set_cons_zero, List.set_cons_succ]
  refine wpAnyH_take (i := 17) (oi := ⟨_, _, _, _, _, _⟩) (v := ?_) rfl (by kernel_rfl) (by kernel_rfl) (by kernel_rfl) (fun _ _ _ h => h) (Or.inl ⟨by rfl, ?_⟩) (by assumption) ?_
  rotate_left
  · intro u hSw
    go_simp
    try (with_reducible rfl)
  try simp only [Act.put, List.setIfInBounds_toArray, List.set_cons_zero, List.set_cons_succ]
  refine wpAnyH_take (i := 18) (oi := ⟨_, _, _, _, _, _⟩) (v := ?_) rfl (by kernel_rfl) (by kernel_rfl) (by kernel_rfl) (fun _ _ _ h => h) (Or.inl ⟨by rfl, ?_⟩) (by assumption) ?_
  rotate_left
  · intro u hSw
    go_simp
    try (with_reducible rfl)
  try simp only [Act.put, List.setIfInBounds_toArray, List.set_cons_zero, List.set_cons_succ]
  refine wpAnyH_take (i := 19) (oi := ⟨_, _, _, _, _, _⟩) (v := ?_) rfl (by kernel_rfl) (by kernel_rfl) (by kernel_rfl) (fun _ _ _ h => h) (Or.inl ⟨by rfl, ?_⟩) (by assumption) ?_
  rotate_left
  · intro u hSw
    go_simp
    try (with_reducible rfl)
  try simp only [Act.put, List.setIfInBounds_toArray, List.set_cons_zero, List.set_cons_succ]
  refine wpAnyH_take (i := 20) (oi := ⟨_, _, _, _, _, _⟩) (v := ?_) rfl (by kernel_rfl) (by kernel_rfl) (by kernel_rfl) (fun _ _ _ h => h) (Or.inl ⟨by rfl, ?_⟩) (by assumption) ?_
  rotate_left
  · intro u hSw
    go_simp
    try (with_reducible rfl)
  try simp only [Act.put, List.setIfInBounds_toArray, List.set_cons_zero, List.set_cons_succ]
  refine wpAnyH_done (by kernel_rfl) ?_ _
  go_upto_region 4 with fail
  obtain ⟨W, hW⟩ : ∃ W : World, W = (w2.alloc (.cells CD 75)).drew := ⟨_, rfl⟩
  obtain ⟨G, hG⟩ : ∃ G : Nat, G = w2.heap.size := ⟨_, rfl⟩
  have AW : Arr W G 75 CD := by rw [hW, hG]; exact A0
  have hBW : Below w.heap.size w W := by rw [hW]; exact hB0.drew
  have hVW : VM N es W g gm gp n cap sp nk ck m := by rw [hW]; exact hV2.bel ((Below.refl _ _).drew)
  rw [← hW, ← hG]
  clear hW hG A0 hB0 hV2 rb0 q1 q2 q4 hb2 cx c0 c18 hv hd hp
  have hEW := hVW.en
  have c0 := hEW.c0
  have c17 := hEW.c17
  have c18 := hEW.c18
  have x0 : W.cell? ⟨g, 19, none⟩ = some (.slice sp nk ck) := hEW.cx 0
  have x1 : W.cell? ⟨g, 20, none⟩ = some (.map (some gp)) := hEW.cx 1
  have ra := hEW.cr ha16
  have rb := hEW.cr hb16
  have rc := hEW.cr hc16
  change _ = some (Value.int IntKind.u64 (m.get a)) at ra
  change _ = some (Value.int IntKind.u64 (m.get b)) at rb
  change _ = some (Value.int IntKind.u64 (m.get c)) at rc
  have fz := hEW.fz
  have fm := hEW.fm
  have hne := hEW.ne
  have hGg : g ≠ G := fun e => by rw [e] at hEW; have h1 := hEW.eng; rw [Arr, AW] at h1; cases h1
  subst hcd
  have k0 : W.cell? ⟨G, 0, none⟩ = some (.int .u8 4) := AW.cell 0
  have k1 : W.cell? ⟨G, 1, none⟩ = some (.int .u8 (a : Int)) := AW.cell 1
  have k3 : W.cell? ⟨G, 3, none⟩ = some (.int .u8 (c : Int)) := AW.cell 3
  have c0' : ∀ v, (W.setCell ⟨g, 1 + a, none⟩ v).cell? ⟨g, 0, none⟩ = some (.int .u64 m.pc) := fun v => (cell_set_ne v (fun e => by injection e with _ e2 _; omega)).trans c0
  have f' : ∀ v j, (W.setCell ⟨g, 1 + a, none⟩ v).frozen? ⟨g, j, none⟩ = false := fun v j => (hEW.eng.set (1 + a) v).frozen j
  go_wp2_with fail
  exact ⟨rfl, _, results_none Tryz.results110 _ _ _, stYes hBW hV (m' := m.put a (m.get b)) (by simp [ex]) (hVW.low _ (hVW.low _ (Chg.refl _ _) (.inl trivial)) (.inl trivial)) (by simp) (hVW.put ha16 hUb)⟩
set_option maxHeartbeats 2000000 in
theorem step_19 {N : Nat} {es : List En} {g gm gp n cap pN : Nat} {sp : Option Addr} {nk ck : Nat} {m : Mc} {x i : Int} {a b c : Nat} (w : World) (hV : VM N es w g gm gp n cap sp nk ck m) (hp : m.pc = (pN : Int)) (hpn : pN < n) (hx : m.me.getD pN 0 = x) (hd : dOk x = true) (ho : dOp x = 19) (ha : dA x = (a : Nat)) (hb : dB x = (b : Nat)) (hc : dC x = (c : Nat)) (hi : dI x = i) :
    Calls Tryz.prog 110 #[.pointer (some ⟨g, 0, none⟩)] w (StPost N es g gm gp n cap sp nk ck m (ex es m 19 a b c i) w) := by
  have hE := hV.en
  have hok := hE.ok
  have hU : U64 x := by rw [← hx]; exact hok.me _
  have hR := dRg hU
  rw [ha, hb, hc, hi] at hR
  obtain ⟨-, ha2, hb2, hc2, hi2⟩ := hR
  have haI : (a : Int) < 16 := ha2.2
  have hbI : (b : Int) < 16 := hb2.2
  have hcI : (c : Int) < 16 := hc2.2
  have ha16 : a < 16 := by omega
  have hb16 : b < 16 := by omega
  have hc16 : c < 16 := by omega
  have hi0 : 0 ≤ i := hi2.1
  have hi1 : i < 4294967296 := hi2.2
  have hUi : U64 i := by unfold U64; omega
  have hwi : IntKind.u64.wrap i = i := wrap_u64 hUi
  have hUa : U64 (m.get a) := hok.rg a
  have hUb : U64 (m.get b) := hok.rg b
  have hUc : U64 (m.get c) := hok.rg c
  have hv := dV_yes hd
  rw [ho, ha, hb, hc, hi] at hv
  have c0 := hE.c0
  have c18 := hE.c18
  have hn := hE.small
  have cx := hE.cm hpn
  rw [hx] at cx
  have hlen := hE.len
  replace hv := Hid.mk' hv
  replace hd := Hid.mk' hd
  replace hp := Hid.mk' hp
  clear ho ha hb hc hi ha2 hb2 hc2 hi2 hx hE
  go_enter Tryz.func110, Tryz.ntmps110
  go_upto_region 3 with (first
    | (go_at_call 132; go_must (refine (word_ok w c18 hn hp.out hpn).mono ?_; rintro e w1 ⟨rfl, h⟩; replace h := h.symm; subst h))
    | (go_at_call 119; go_must (refine (decode_any w hU).mono ?_; rintro e w2 ⟨rfl, hb2⟩; rw [hv.out, hd.out]; have A0 := Arr.new w2 75 (cdA 19 a b c i); have hB0 := hb2.alloc hb2.size (.cells (cdA 19 a b c i) 75); have hV2 := hV.bel hB0; have rb0 := hV2.en.cr hb16; have q1 : (w2.alloc (.cells (cdA 19 a b c i) 75)).cell? ⟨w2.heap.size, 1, none⟩ = some (.int .u8 (a : Int)) := A0.cell 1; have q2 : (w2.alloc (.cells (cdA 19 a b c i) 75)).cell? ⟨w2.heap.size, 2, none⟩ = some (.int .u8 (b : Int)) := A0.cell 2; have q4 : (w2.alloc (.cells (cdA 19 a b c i) 75)).cell? ⟨w2.heap.size, 4, none⟩ = some (.int .u32 i) := A0.cell 4; change _ = some (Value.int IntKind.u64 (m.get b)) at rb0; generalize hcd : cdA 19 a b c i = CD at A0 hB0 hV2 rb0 q1 q2 q4 ⊢))
    | (refine wpList_store_new w2 _ 75 (by rfl) 75 (.tmp 2) (.tmp 18) (by rfl) CD (by rfl) (by rfl) (by rw [← hcd]; exact size25) (by rw [← hcd]; rfl) (by rw [← hcd]; exact one25 _ _ _ _ _) ?_))
  refine wp_region_held_drew (S := fun u => u = (w2.alloc (.cells CD 75)).drew) (by kernel_rfl) (rfl) (fun hHeld => ?_)
  refine wpAnyH_take (i := 0) (oi := ⟨_, _, _, _, _, _⟩) (v := ?_) rfl (by kernel_rfl) (by kernel_rfl) (by kernel_rfl) (fun _ _ _ h => h) (Or.inl ⟨by rfl, ?_⟩) (by assumption) ?_
  rotate_left
  · intro u hSw
    go_simp
    try (with_reducible rfl)
  try simp only [Act.put, List.setIfInBounds_toArray, List.set_cons_zero, List.set_cons_succ]
  refine wpAnyH_take (i := 1) (oi := ⟨_, _, _, _, _, _⟩) (v := ?_) rfl (by kernel_rfl) (by kernel_rfl) (by kernel_rfl) (fun _ _ _ h => h) (Or.inl ⟨by rfl, ?_⟩) (by assumption) ?_
  rotate_left
  · intro u hSw
    go_simp
    try (with_reducible rfl)
  try simp only [Act.put, List.setIfInBounds_toArray, List.set_cons_zero, List.set_cons_succ]
  refine wpAnyH_take (i := 2) (oi := ⟨_, _, _, _, _, _⟩) (v := ?_) rfl (by kernel_rfl) (by kernel_rfl) (by kernel_rfl) (fun _ _ _ h => h) (Or.inl ⟨by rfl, ?_⟩) (by assumption) ?_
  rotate_left
  · intro u hSw
    subst hSw
    go_simp
    try (with_reducible rfl)
  try simp only [Act.put, List.setIfInBounds_toArray, List.set_cons_zero, List.set_cons_succ]
  refine wpAnyH_take (i := 3) (oi := ⟨_, _, _, _, _, _⟩) (v := ?_) rfl (by kernel_rfl) (by kernel_rfl) (by kernel_rfl) (fun _ _ _ h => h) (Or.inl ⟨by rfl, ?_⟩) (by assumption) ?_
  rotate_left
  · intro u hSw
    go_simp
    try (with_reducible rfl)
  try simp only [Act.put, List.setIfInBounds_toArray, List.set_cons_zero, List.set_cons_succ]
  refine wpAnyH_take (i := 4) (oi := ⟨_, _, _, _, _, _⟩) (v := ?_) rfl (by kernel_rfl) (by kernel_rfl) (by kernel_rfl) (fun _ _ _ h => h) (Or.inl ⟨by rfl, ?_⟩) (by assumption) ?_
  rotate_left
  · intro u hSw
    go_simp
    try (with_reducible rfl)
  try simp only [Act.put, List.setIfInBounds_toArray, List.set_cons_zero, List.set_cons_succ]
  refine wpAnyH_take (i := 5) (oi := ⟨_, _, _, _, _, _⟩) (v := ?_) rfl (by kernel_rfl) (by kernel_rfl) (by kernel_rfl) (fun _ _ _ h => h) (Or.inl ⟨by rfl, ?_⟩) (by assumption) ?_
  rotate_left
  · intro u hSw
    go_simp
    try (with_reducible rfl)
  try simp only [Act.put, List.setIfInBounds_toArray, List.set_cons_zero, List.set_cons_succ]
  refine wpAnyH_take (i := 6) (oi := ⟨_, _, _, _, _, _⟩) (v := ?_) rfl (by kernel_rfl) (by kernel_rfl) (by kernel_rfl) (fun _ _ _ h => h) (Or.inl ⟨by rfl, ?_⟩) (by assumption) ?_
  rotate_left
  · intro u hSw
    go_simp
    try (with_reducible rfl)
  try simp only [Act.put, List.setIfInBounds_toArray, List.set_cons_zero, List.set_cons_succ]
  refine wpAnyH_take (i := 7) (oi := ⟨_, _, _, _, _, _⟩) (v := ?_) rfl (by kernel_rfl) (by kernel_rfl) (by kernel_rfl) (fun _ _ _ h => h) (Or.inl ⟨by rfl, ?_⟩) (by assumption) ?_
  rotate_left
  · intro u hSw
    go_simp
    try (with_reducible rfl)
  try simp only [Act.put, List.setIfInBounds_toArray, List.set_cons_zero, List.set_cons_succ]
  refine wpAnyH_take (i := 8) (oi := ⟨_, _, _, _, _, _⟩) (v := ?_) rfl (by kernel_rfl) (by kernel_rfl) (by kernel_rfl) (fun _ _ _ h => h) (Or.inl ⟨by rfl, ?_⟩) (by assumption) ?_
  rotate_left
  · intro u hSw
    go_simp
    try (with_reducible rfl)
  try simp only [Act.put, List.setIfInBounds_toArray, List.set_cons_zero, List.set_cons_succ]
  refine wpAnyH_take (i := 9) (oi := ⟨_, _, _, _, _, _⟩) (v := ?_) rfl (by kernel_rfl) (by kernel_rfl) (by kernel_rfl) (fun _ _ _ h => h) (Or.inl ⟨by rfl, ?_⟩) (by assumption) ?_
  rotate_left
  · intro u hSw
    subst hSw
    go_simp
    try (with_reducible rfl)
  try simp only [Act.put, List.setIfInBounds_toArray, List.set_cons_zero, List.set_cons_succ]
  refine wpAnyH_take (i := 10) (oi := ⟨_, _, _, _, _, _⟩) (v := ?_) rfl (by kernel_rfl) (by kernel_rfl) (by kernel_rfl) (fun _ _ _ h => h) (Or.inl ⟨by rfl, ?_⟩) (by assumption) ?_
  rotate_left
  · intro u hSw
    go_simp
    try (with_reducible rfl)
  try simp only [Act.put, List.setIfInBounds_toArray, List.set_cons_zero, List.set_cons_succ]
  refine wpAnyH_take (i := 11) (oi := ⟨_, _, _, _, _, _⟩) (v := ?_) rfl (by kernel_rfl) (by kernel_rfl) (by kernel_rfl) (fun _ _ _ h => h) (Or.inl ⟨by rfl, ?_⟩) (by assumption) ?_
  rotate_left
  · intro u hSw
    go_simp
    try (with_reducible rfl)
  try simp only [Act.put, List.setIfInBounds_toArray, List.set_cons_zero, List.set_cons_succ]
  refine wpAnyH_take (i := 12) (oi := ⟨_, _, _, _, _, _⟩) (v := ?_) rfl (by kernel_rfl) (by kernel_rfl) (by kernel_rfl) (fun _ _ _ h => h) (Or.inl ⟨by rfl, ?_⟩) (by assumption) ?_
  rotate_left
  · intro u hSw
    go_simp
    try (with_reducible rfl)
  try simp only [Act.put, List.setIfInBounds_toArray, List.set_cons_zero, List.set_cons_succ]
  refine wpAnyH_take (i := 13) (oi := ⟨_, _, _, _, _, _⟩) (v := ?_) rfl (by kernel_rfl) (by kernel_rfl) (by kernel_rfl) (fun _ _ _ h => h) (Or.inl ⟨by rfl, ?_⟩) (by assumption) ?_
  rotate_left
  · intro u hSw
    go_simp
    try (with_reducible rfl)
  try simp only [Act.put, List.setIfInBounds_toArray, List.set_cons_zero, List.set_cons_succ]
  refine wpAnyH_take (i := 14) (oi := ⟨_, _, _, _, _, _⟩) (v := ?_) rfl (by kernel_rfl) (by kernel_rfl) (by kernel_rfl) (fun _ _ _ h => h) (Or.inl ⟨by rfl, ?_⟩) (by assumption) ?_
  rotate_left
  · intro u hSw
    subst hSw
    go_simp
    try (with_reducible rfl)
  try simp only [Act.put, List.setIfInBounds_toArray, List.set_cons_zero, List.set_cons_succ]
  refine wpAnyH_take (i := 15) (oi := ⟨_, _, _, _, _, _⟩) (v := ?_) rfl (by kernel_rfl) (by kernel_rfl) (by kernel_rfl) (fun _ _ _ h => h) (Or.inl ⟨by rfl, ?_⟩) (by assumption) ?_
  rotate_left
  · intro u hSw
    go_simp
    try (with_reducible rfl)
  try simp only [Act.put, List.setIfInBounds_toArray, List.set_cons_zero, List.set_cons_succ]
  refine wpAnyH_take (i := 16) (oi := ⟨_, _, _, _, _, _⟩) (v := ?_) rfl (by kernel_rfl) (by kernel_rfl) (by kernel_rfl) (fun _ _ _ h => h) (Or.inl ⟨by rfl, ?_⟩) (by assumption) ?_
  rotate_left
  · intro u hSw
    subst hSw
    go_simp
    try (with_reducible rfl)
  try simp only [Act.put, List.setIfInBounds_toArray, List.set_cons_zero, List.set_cons_succ]
  refine wpAnyH_take (i := 17) (oi := ⟨_, _, _, _, _, _⟩) (v := ?_) rfl (by kernel_rfl) (by kernel_rfl) (by kernel_rfl) (fun _ _ _ h => h) (Or.inl ⟨by rfl, ?_⟩) (by assumption) ?_
  rotate_left
  · intro u hSw
    go_simp
    try (with_reducible rfl)
  try simp only [Act.put, List.setIfInBounds_toArray, List.set_cons_zero, List.set_cons_succ]
  refine wpAnyH_take (i := 18) (oi := ⟨_, _, _, _, _, _⟩) (v := ?_) rfl (by kernel_rfl) (by kernel_rfl) (by kernel_rfl) (fun _ _ _ h => h) (Or.inl ⟨by rfl, ?_⟩) (by assumption) ?_
  rotate_left
  · intro u hSw
    go_simp
    try (with_reducible rfl)
  try simp only [Act.put, List.setIfInBounds_toArray, List.set_cons_zero, List.set_cons_succ]
  refine wpAnyH_take (i := 19) (oi := ⟨_, _, _, _, _, _⟩) (v := ?_) rfl (by kernel_rfl) (by kernel_rfl) (by kernel_rfl) (fun _ _ _ h => h) (Or.inl ⟨by rfl, ?_⟩) (by assumption) ?_
  rotate_left
  · intro u hSw
    go_simp
    try (with_reducible rfl)
  try simp only [Act.put, List.setIfInBounds_toArray, List.set_cons_zero, List.set_cons_succ]
  refine wpAnyH_take (i := 20) (oi := ⟨_, _, _, _, _, _⟩) (v := ?_) rfl (by kernel_rfl) (by kernel_rfl) (by kernel_rfl) (fun _ _ _ h => h) (Or.inl ⟨by rfl, ?_⟩) (by assumption) ?_
  rotate_left
  · intro u hSw
    go_simp
    try (with_reducible rfl)
  try simp only [Act.put, List.setIfInBounds_toArray, List.set_cons_zero, List.set_cons_succ]
  refine wpAnyH_done (by kernel_rfl) ?_ _
  go_upto_region 4 with fail
  obtain ⟨W, hW⟩ : ∃ W : World, W = (w2.alloc (.cells CD 75)).drew := ⟨_, rfl⟩
  obtain ⟨G, hG⟩ : ∃ G : Nat, G = w2.heap.size := ⟨_, rfl⟩
  have AW : Arr W G 75 CD := by rw [hW, hG]; exact A0
  have hBW : Below w.heap.size w W := by rw [hW]; exact hB0.drew
  have hVW : VM N es W g gm gp n cap sp nk ck m := by rw [hW]; exact hV2.bel ((Below.refl _ _).drew)
  rw [← hW, ← hG]
  clear hW hG A0 hB0 hV2 rb0 q1 q2 q4 hb2 cx c0 c18 hv hd hp
  have hEW := hVW.en
  have c0 := hEW.c0
  have c17 := hEW.c17
  have c18 := hEW.c18
  have x0 : W.cell? ⟨g, 19, none⟩ = some (.slice sp nk ck) := hEW.cx 0
  have x1 : W.cell? ⟨g, 20, none⟩ = some (.map (some gp)) := hEW.cx 1
  have ra := hEW.cr ha16
  have rb := hEW.cr hb16
  have rc := hEW.cr hc16
  change _ = some (Value.int IntKind.u64 (m.get a)) at ra
  change _ = some (Value.int IntKind.u64 (m.get b)) at rb
  change _ = some (Value.int IntKind.u64 (m.get c)) at rc
  have fz := hEW.fz
  have fm := hEW.fm
  have hne := hEW.ne
  have hGg : g ≠ G := fun e => by rw [e] at hEW; have h1 := hEW.eng; rw [Arr, AW] at h1; cases h1
  subst hcd
  have k0 : W.cell? ⟨G, 0, none⟩ = some (.int .u8 19) := AW.cell 0
  have k1 : W.cell? ⟨G, 1, none⟩ = some (.int .u8 (a : Int)) := AW.cell 1
  have k3 : W.cell? ⟨G, 3, none⟩ = some (.int .u8 (c : Int)) := AW.cell 3
  have c0' : ∀ v, (W.setCell ⟨g, 1 + a, none⟩ v).cell? ⟨g, 0, none⟩ = some (.int .u64 m.pc) := fun v => (cell_set_ne v (fun e => by injection e with _ e2 _; omega)).trans c0
  have f' : ∀ v j, (W.setCell ⟨g, 1 + a, none⟩ v).frozen? ⟨g, j, none⟩ = false := fun v j => (hEW.eng.set (1 + a) v).frozen j
  go_wp2_with fail
  exact ⟨rfl, _, results_none Tryz.results110 _ _ _, stYes hBW hV (m' := { m with pc := i }) (by simp [ex]) (hVW.low _ (Chg.refl _ _) (.inl trivial)) (by simp) (hVW.setPc hUi)⟩
end Go.Proofs.YtneihkegipcakaaGreat

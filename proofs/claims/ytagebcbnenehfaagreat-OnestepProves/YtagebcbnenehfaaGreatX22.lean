/- QVn, QVp0. -/
import Derived.Test.YtagebcbnenehfaaGreatX16
namespace Go.Proofs.YtagebcbnenehfaaGreat
open Go.RowKit
set_option maxRecDepth 100000
set_option linter.unusedVariables false
set_option linter.unusedSimpArgs false
set_option maxHeartbeats 40000000
section
structure VM (N : Nat) (es : List En) (w : World) (g gm gp n cap : Nat) (sp : Option Addr) (nk ck : Nat) (m : Mc) : Prop where
 en : EN w g 248 [.slice sp nk ck, .map (some gp)] gm n cap m
 known : ES N w sp nk ck es
 map : ∃ f, MapH w gp f ∧ FIV es f
 le : N ≤ g ∧ N ≤ gm ∧ N ≤ gp
 ne : g ≠ gp ∧ gm ≠ gp
section
variable {N : Nat} {es : List En} {w w' : World} {g gm gp n cap : Nat} {sp : Option Addr} {nk ck : Nat} {m m' : Mc}
theorem VM.ltp (h : VM N es w g gm gp n cap sp nk ck m) : gp < w.heap.size := by
 obtain ⟨f, hf, -⟩ := h.map
 exact hf.lt
theorem VM.bel (h : VM N es w g gm gp n cap sp nk ck m) (hb : Below w.heap.size w w') : VM N es w' g gm gp n cap sp nk ck m := by
 obtain ⟨f, hf, hi⟩ := h.map
 have h1 := h.ltp
 have h2 := h.le
 exact ⟨h.en.bel hb, h.known.below (hb.mono (by omega)), ⟨f, hf.same (hb.block gp h1), hi⟩, h.le, h.ne⟩
theorem VM.setCell (h : VM N es w g gm gp n cap sp nk ck m) {a : Addr} {v : Value} (ha : a.block = g ∨ a.block = gm) (he : EN (w.setCell a v) g 248 [.slice sp nk ck, .map (some gp)] gm n cap m') : VM N es (w.setCell a v) g gm gp n cap sp nk ck m' := by
 obtain ⟨f, hf, hi⟩ := h.map
 have h2 := h.le
 have h3 := h.ne
 exact ⟨he, h.known.below ((Below.refl N w).setCell (by rcases ha with e | e <;> rw [e] <;> omega) v), ⟨f, hf.same (Below.heap_setCell _ _ _ _ (by rcases ha with e | e <;> rw [e] <;> omega)), hi⟩, h.le, h.ne⟩
def C3 (g gm gp k : Nat) : Prop := k = g ∨ k = gm ∨ k = gp
theorem Chg.sg {a b : World} (h : Chg (C3 g gm gp) a b) (j : Nat) (v : Value) : Chg (C3 g gm gp) a (b.setCell ⟨g, j, none⟩ v) := h.setCell v (fun _ => .inl rfl)
theorem Chg.sm {a b : World} (h : Chg (C3 g gm gp) a b) (j : Nat) (v : Value) : Chg (C3 g gm gp) a (b.setCell ⟨gm, j, none⟩ v) := h.setCell v (fun _ => .inr (.inl rfl))
def StPost (N : Nat) (es : List En) (g gm gp n cap : Nat) (sp : Option Addr) (nk ck : Nat) (m : Mc) (o : Option Mc) (w : World) (e : Ending) (w' : World) : Prop :=
 Chg (C3 g gm gp) w w' ∧ w.heap.size ≤ w'.heap.size ∧ ((∃ m', o = some m' ∧ e = .returned (.tuple #[]) ∧ VM N es w' g gm gp n cap sp nk ck m') ∨ (o = none ∧ e = .panicked trapV ∧ VM N es w' g gm gp n cap sp nk ck m))
theorem stYes {o : Option Mc} {W : World} (hW : Below w.heap.size w W) (hV : VM N es w g gm gp n cap sp nk ck m) {m' : Mc} (ho : o = some m') (hb : Chg (C3 g gm gp) W w') (hs : W.heap.size ≤ w'.heap.size) (hV' : VM N es w' g gm gp n cap sp nk ck m') : StPost N es g gm gp n cap sp nk ck m o w (.returned (.tuple #[])) w' :=
 ⟨(Chg.of_below hW).trans hb, Nat.le_trans hW.size hs, .inl ⟨m', ho, rfl, hV'⟩⟩
theorem stNo {o : Option Mc} (hV : VM N es w g gm gp n cap sp nk ck m) (ho : o = none) (hW : Below w.heap.size w w') : StPost N es g gm gp n cap sp nk ck m o w (.panicked trapV) w' :=
 ⟨Chg.of_below hW, hW.size, .inr ⟨ho, rfl, hV.bel hW⟩⟩
theorem cell_set_ne {w : World} {a b : Addr} (v : Value) (h : a ≠ b) : (w.setCell a v).cell? b = w.cell? b := World.cell?_setCell_other w a b v h
theorem VM.setReg (h : VM N es w g gm gp n cap sp nk ck m) {a : Nat} (ha : a < 16) {x : Int} (hx : U64 x) : VM N es (w.setCell ⟨g, 1 + a, none⟩ (.int .u64 x)) g gm gp n cap sp nk ck { m with rg := m.rg.set a x } := h.setCell (.inl rfl) (h.en.setReg ha hx)
theorem VM.setPc (h : VM N es w g gm gp n cap sp nk ck m) {x : Int} (hx : U64 x) : VM N es (w.setCell ⟨g, 0, none⟩ (.int .u64 x)) g gm gp n cap sp nk ck { m with pc := x } := h.setCell (.inl rfl) (h.en.setPc hx)
theorem VM.setSt (h : VM N es w g gm gp n cap sp nk ck m) {x : Int} (hx : 0 ≤ x ∧ x < 256) : VM N es (w.setCell ⟨g, 17, none⟩ (.int .u8 x)) g gm gp n cap sp nk ck { m with st := x } := h.setCell (.inl rfl) (h.en.setSt hx)
theorem VM.setMem (h : VM N es w g gm gp n cap sp nk ck m) {k : Nat} (hk : k < n) {x : Int} (hx : U64 x) : VM N es (w.setCell ⟨gm, k, none⟩ (.int .u64 x)) g gm gp n cap sp nk ck { m with me := m.me.set k x } := h.setCell (.inr rfl) (h.en.setMem hk hx)
theorem VM.put (h : VM N es w g gm gp n cap sp nk ck m) {a : Nat} (ha : a < 16) {x : Int} (hx : U64 x) : VM N es ((w.setCell ⟨g, 1 + a, none⟩ (.int .u64 x)).setCell ⟨g, 0, none⟩ (.int .u64 (IntKind.u64.wrap (m.pc + 1)))) g gm gp n cap sp nk ck (m.put a x) := (h.setReg ha hx).setPc (U64.wrap _)
theorem VM.low (h : VM N es w g gm gp n cap sp nk ck m) {W : World} {j : Nat} (v : Value) (hb : Chg (C3 g gm gp) w W) (hx : True ∨ True) : Chg (C3 g gm gp) w (W.setCell ⟨g, j, none⟩ v) := hb.sg j v
end
end
section
section
variable {N : Nat} {es : List En} {w w' : World} {g gm gp n cap : Nat} {sp : Option Addr} {nk ck : Nat} {m m' : Mc}
theorem Chg.low {S : Nat → Prop} {a b : World} (h : Chg S a b) (hN : N ≤ a.heap.size) (hS : ∀ k, k < N → ¬ S k) : Below N a b :=
 ⟨h.os, h.tape, h.output, h.size, fun k hk => h.block k (by omega) (hS k hk)⟩
theorem VM.chg (h : VM N es w g gm gp n cap sp nk ck m) (hc : Chg (fun k => k = gm) w w') (he : EN w' g 248 [.slice sp nk ck, .map (some gp)] gm n cap m') : VM N es w' g gm gp n cap sp nk ck m' ∧ Chg (C3 g gm gp) w w' := by
 have h1 := h.le
 have h2 := h.en.ltm
 have h3 := h.ne
 have hb : Below N w w' := hc.low (by omega) (fun k hk e => by omega)
 obtain ⟨f, hf, hi⟩ := h.map
 exact ⟨⟨he, h.known.below hb, ⟨f, hf.same (hc.block gp h.ltp (fun e => h3.2 e.symm)), hi⟩, h.le, h.ne⟩, hc.monoV (fun k e => .inr (.inl e))⟩
structure ShW (N : Nat) (es : List En) (w w' : World) (g gm gp n cap : Nat) (sp : Option Addr) (nk ck : Nat) (m : Mc) : Prop where
 vm : VM N es w' g gm gp n cap sp nk ck m
 low : Below N w w'
 chg : Chg (C3 g gm gp) w w'
 size : w.heap.size ≤ w'.heap.size
 oth : ∀ b, b < w.heap.size → b ≠ gp → w'.heap[b]? = w.heap[b]?
theorem shw {X : List Int} {r : Ending} (h : VM N es w g gm gp n cap sp nk ck m) (hp : ShPost es X N gp w r w') : ShW N es w w' g gm gp n cap sp nk ck m := by
 obtain ⟨hM, h1, h2, h3, h4, h5, -⟩ := hp
 have hl := h.le
 have hg := h.en.lt
 have hgm := h.en.ltm
 have hb : Below N w w' := ⟨h2, h3, h4, h1, fun k hk => h5 k (by omega) (by omega)⟩
 exact ⟨⟨h.en.block (h5 g hg h.ne.1) (h5 gm hgm h.ne.2), h.known.below hb, hM, h.le, h.ne⟩, hb, ⟨h2, h3, h4, h1, fun k hk hs => h5 k hk (fun e => hs (.inr (.inr e)))⟩, h1, h5⟩
theorem shelf_yes {X : List Int} {e : En} (h : VM N es w g gm gp n cap sp nk ck m) (hX : X.length = 32) (hp : pre es X = some e) :
   Calls Tryz.prog 200 #[.agg #[.slice sp nk ck, .map (some gp)], .agg (h8 X)] w fun r w' => r = .returned (.slice e.sp e.n e.cap) ∧ e ∈ es ∧ ShW N es w w' g gm gp n cap sp nk ck m := by
 obtain ⟨f, hf, hi⟩ := h.map
 refine (shelf_any sp nk ck es X N gp w h.known h.le.2.2 hX hf hi).mono fun r w' hs => ?_
 have hw := shw h hs
 obtain ⟨-, -, -, -, -, -, ⟨e', he', hm, hr⟩ | ⟨he', hr⟩⟩ := hs
 · rw [hp] at he'; cases he'
   exact ⟨hr, hm, hw⟩
 · rw [hp] at he'; cases he'
theorem shelf_no {X : List Int} (h : VM N es w g gm gp n cap sp nk ck m) (hX : X.length = 32) (hp : pre es X = none) :
   Calls Tryz.prog 200 #[.agg #[.slice sp nk ck, .map (some gp)], .agg (h8 X)] w fun r w' => r = .panicked trapV ∧ ShW N es w w' g gm gp n cap sp nk ck m := by
 obtain ⟨f, hf, hi⟩ := h.map
 refine (shelf_any sp nk ck es X N gp w h.known h.le.2.2 hX hf hi).mono fun r w' hs => ?_
 have hw := shw h hs
 obtain ⟨-, -, -, -, -, -, ⟨e', he', hm, hr⟩ | ⟨he', hr⟩⟩ := hs
 · rw [hp] at he'; cases he'
 · exact ⟨hr, hw⟩
theorem stNoS {o : Option Mc} {W U : World} (hV : VM N es w g gm gp n cap sp nk ck m) (ho : o = none) (hW : Below w.heap.size w W) (hS : ShW N es W U g gm gp n cap sp nk ck m) : StPost N es g gm gp n cap sp nk ck m o w (.panicked trapV) U :=
 ⟨(Chg.of_below hW).trans hS.chg, Nat.le_trans hW.size hS.size, .inr ⟨ho, rfl, hS.vm⟩⟩
theorem mkL_one {i : Int} {P : List Int} (h : mkL i = some P) : P.length ≤ 1 := by
 unfold mkL at h
 split at h
 · cases h; simp
 · split at h
   · cases h; simp
   · cases h
end
end
end Go.Proofs.YtagebcbnenehfaaGreat

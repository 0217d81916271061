/- Pg, QVn, QVx. -/
import Derived.Test.YtmljihggooaboaaW37
import Derived.Test.YtmljihggooaboaaW10
import Derived.Handy
import Derived.BigQuiet
import Derived.BigRegion
import Derived.Laws.MakeOwn
import Derived.Laws.CopyOwn
import Derived.Test.YtmljihggooaboaaW11
import Derived.Test.YtmljihggooaboaaW14
import Derived.Test.YtmljihggooaboaaW15
import Derived.ChangeKeysEq
import Derived.Deep.DeepCutAuto
import Derived.Deep.DrawnRows
import Derived.Deep.MidRow
import Derived.Deep.QuietTactic
import Derived.Deep.RegionHeld3
import Derived.Deep.RegionLaw
import Derived.Deep.RegionWith
import Derived.Deep.WholeRow
import Derived.DeepKeys3
import Derived.Great.BuildSlice
import Derived.Laws.AppendOwnNone
import Derived.Laws.BitsLemmas
import Derived.Laws.BytesArg
import Derived.Laws.ResultCell
import Derived.Laws.Tables
import Derived.Lib.SlBytesConst
import Derived.LoopIn
import Derived.LoopNIn
import Derived.Maps.AppendAt
import Derived.OwnWalkIn
import Derived.RangeFuncBound
import Derived.RangeFuncCalls
import Derived.RangeFuncLeaves
import Derived.RangeFuncNested
import Derived.RangeFuncRecord
import Derived.Shelf.Abstract
import Derived.Shelf.RegionOpen
import Derived.TacticsInMore
import Derived.WalkKit
import Derived.WalkLawsBesides
import Derived.WalkSpells
import Derived.Test.YtmljihggooaboaaW01
import Derived.Test.YtmljihggooaboaaW12
import Derived.Test.YtmljihggooaboaaW13
import Derived.Test.YtmljihggooaboaaW18
import Derived.Test.YtmljihggooaboaaW20
import Derived.Deep.OwnRows
import Derived.Laws.OwnMore
import Derived.Recover
/- Layer interp: a call in the document's run. -/
namespace Go.Proofs.Ytmljihggooaboaa
open Go.RowKit
set_option maxRecDepth 100000
set_option linter.unusedVariables false
set_option linter.unusedSimpArgs false

def CQ (gr gw n : Nat) (p0 p1 kv : Value) (fu : Nat) (B : RR) (w : World) (e : Ending) (w' : World) : Prop :=
  e = .returned (.int .u64 (if B.k ≤ 1 then fvB B else 0)) ∧ DunI gr gw n p0 p1 kv B.s.W fu ((fu : Int) - B.s.lf) (if B.k ≤ 1 then 0 else (B.k : Int)) 0 w' ∧ Ch (fun k => k = gr ∨ k = gw) w w' ∧ B.s.lf ≤ fu
variable {R : World → Prop} {N gr gw n : Nat} {p1 kv : Value} {fp : Option Addr} {fm fc : Nat} {fu : Nat} {W : List Int} {lf : Nat}
set_option maxHeartbeats 4000000 in
theorem dcall {jf nf na ca : Nat} {sx : Option Addr} {f : FuT} {fs : List FuT} {L : List Int} {B : RR} (hR : RB R N) (w : World) (hN : N ≤ w.heap.size) (hD : DunI gr gw n (.slice fp fm fc) p1 kv W fu ((fu : Int) - lf) 0 0 w) (l1 : N ≤ gr) (l2 : N ≤ gw) (hr : R w) (hle : lf ≤ fu) (hf4 : fu ≤ 4194304) (hF : RS N w 3 (FuM N w) fp fm fc fs) (hf : fs[jf]? = some f) (hnf : f.v = nf) (hn64 : nf ≤ 64) (hL : AG sx na L w) (hLn : L.length ≤ nf) (hLU : ∀ x ∈ L, U64 x)
    (hB : ∀ (gv : Nat) (u : World) (sp : Option Addr) (m cap : Nat), N ≤ u.heap.size → KD R N gr gw n (.slice fp fm fc) p1 kv fu gv nf ⟨W, L ++ List.replicate (nf - L.length) 0, lf⟩ 0 0 u → RS N u 7 (StM N u 8) sp m cap f.b → Calls Try.prog 28 #[.pointer (some ⟨gr, 0, none⟩), .slice sp m cap, .slice (some ⟨gv, 0, none⟩) nf nf] u (KQ R N gr gw n (.slice fp fm fc) p1 kv fu gv nf B u)) :
    Calls Try.prog 19 #[.pointer (some ⟨gr, 0, none⟩), .int .i64 (jf : Int), .slice sx na ca] w (CQ gr gw n (.slice fp fm fc) p1 kv fu B w) := by
  unfold CQ
  obtain ⟨fv, hfv⟩ : ∃ fv, (if B.k ≤ 1 then fvB B else 0) = fv := ⟨_, rfl⟩
  obtain ⟨ek, hek⟩ : ∃ ek, (if B.k ≤ 1 then 0 else (B.k : Int)) = ek := ⟨_, rfl⟩
  rw [hfv, hek]
  replace hfv := hid hfv
  replace hek := hid hek
  have hjf : jf < fm := by rw [hF.len.out]; exact (List.getElem?_eq_some_iff.1 hf).1
  have hjf' : (jf : Int) < fm := by omega
  have hfs := hF.small
  obtain ⟨gf, of, rfl, hgf, hFR⟩ := hF.at0 (by omega)
  obtain ⟨fcs, hfr, fsp, fmm, fca, rfl, -, hfS⟩ := hFR jf f hf
  have c0 : w.cell? ⟨gr, 0, none⟩ = some (.slice (some ⟨gf, of, none⟩) fm fc) := hD.ar.cell 0
  have hgr := hD.ar.lt
  have hgw := hD.aw.lt
  have c1 : w.cell? ⟨gf, of + jf * 3 + 1, none⟩ = some (.int .i64 (nf : Int)) := by rw [← hnf]; exact hfr 1 _ rfl
  have hmk := fun (u : World) => mk25 nf nf u (by omega) (by omega)
  have b0 := ab w (.cells (madeCells #[.int .u64 0] nf) 30)
  have hA3 : (w.alloc (.cells (madeCells #[.int .u64 0] nf) 30)).heap[w.heap.size]? = some (.cells ((madeCells #[.int .u64 0] nf).toList).toArray 30 (0, 0)) := Arr.new w 30 (madeCells #[.int .u64 0] nf)
  have hLs : Hid (L.length = na) := hL.1
  have hsrc : 0 < (L.map fun x => Value.int .u64 x).length → (some (⟨w.heap.size, 0, none⟩ : Addr)) = some ⟨w.heap.size, 0, none⟩ ∧ ∃ ad, sx = some ad ∧ ∀ j v, (L.map fun x => Value.int .u64 x)[j]? = some v → (w.alloc (.cells (madeCells #[.int .u64 0] nf) 30)).cell? (ad.add j) = some v := by
    intro h0
    obtain ⟨ad, e, hc⟩ := hL.2 (by simpa using h0)
    refine ⟨rfl, ad, e, fun j v hv => ?_⟩
    rw [List.getElem?_map] at hv
    obtain ⟨x, hx, rfl⟩ := Option.map_eq_some_iff.1 hv
    have := hc j x hx
    exact (b0.cell (block_lt_of_cell this)).trans this
  obtain ⟨C, hC⟩ : ∃ C, C = (L.map fun x => Value.int .u64 x) := ⟨_, rfl⟩
  rw [← hC] at hsrc
  have hCl : C.length = L.length := by rw [hC]; simp
  have hmin : C.length = Nat.min na nf := by rw [hCl, hLs.out]; exact (Nat.min_eq_left (by rw [← hLs.out]; exact hLn)).symm
  have hfit : 0 + C.length ≤ (madeCells #[Value.int .u64 0] nf).toList.length := by rw [hCl, made_uA, uA_list]; simp; omega
  have hone : ∀ v ∈ C, v.oneCell' = true := by
    rw [hC]
    intro v hv
    obtain ⟨x, -, rfl⟩ := List.mem_map.1 hv
    rfl
  have hst : Hid (∀ w1, Hid (w1.heap[w.heap.size]? = some (.cells (splice (madeCells #[.int .u64 0] nf).toList 0 C).toArray 30 (0, 0))) → Below w.heap.size (w.alloc (.cells (madeCells #[.int .u64 0] nf) 30)) w1 → Below w.heap.size w w1 ∧ DunI gr gw n (.slice (some ⟨gf, of, none⟩) fm fc) p1 kv W fu ((fu : Int) - lf) 0 0 w1 ∧ (∀ u, DunI gr gw n (.slice (some ⟨gf, of, none⟩) fm fc) p1 kv W fu ((fu : Int) - lf) 0 0 u → Ch (fun k => k = gr) w1 u → Calls Try.prog 28 #[.pointer (some ⟨gr, 0, none⟩), .slice fsp fmm fca, .slice (some ⟨w.heap.size, 0, none⟩) nf nf] u (KQ R N gr gw n (.slice (some ⟨gf, of, none⟩) fm fc) p1 kv fu w.heap.size nf B u))) := hid fun w1 h1 h2 => by
    have h3 : Below w.heap.size w w1 := b0.trans h2
    have h4 := h1.out
    rw [hC, spl hLn] at h4
    have hD1 := hD.bl h3
    refine ⟨h3, hD1, fun u hDu hcu => ?_⟩
    have hA4 : Arr w1 w.heap.size 30 (uA (L ++ List.replicate (nf - L.length) 0)) := h4
    have hl : Below N w u := (h3.mono hN).trans (hcu.bl fun i hi => ⟨by have := h3.size; omega, by omega⟩)
    refine hB _ u _ _ _ (by have := hl.size; omega) ⟨hDu, ⟨hcu.arr hA4 (by omega), hid (by simp; omega), hn64, fun x hx => ?_⟩, by omega, by omega, l1, l2, hN, hR _ _ hl hr, hle, hf4⟩ (hfS.imp hl (StM.below hl 8))
    rcases List.mem_append.1 hx with h | h
    · exact hLU x h
    · rw [(List.mem_replicate.1 h).2]; exact u0
  clear hL hLs hC hCl hLU hLn hB hFR hfS hr
  have c2 : w.cell? ⟨gf, of + jf * 3 + 2, none⟩ = some (.slice fsp fmm fca) := hfr 2 _ rfl
  have hgfw : gf < w.heap.size := by omega
  have hgfr : gf ≠ gr := by omega
  clear hfr hF hD hnf hf
  go_enter Try.func19, Try.ntmps19
  go_upto_region 3 with (refine wpList_copy_splice (by rfl) (.tmp 19) (.tmp 20) 25 25 (by rfl) 30 Try.underlying25 (by exact s30) (some ⟨w.heap.size, 0, none⟩) sx nf nf na ca (by rfl) (by rfl) w.heap.size 0 (madeCells #[.int .u64 0] nf).toList 30 hA3 C hmin hsrc hfit hone w.heap.size _ (Below.refl _ _) (Nat.le_refl _) ?_; intro w1 hg1 hb1)
  obtain ⟨hb2, hD1, hcall⟩ := hst.out w1 hg1 hb1
  have c7 := hD1.ar.cell 7
  have f7 := hD1.ar.frozen 7
  have H7 := hD1.va' 0
  have hc7 := (Ch.refl (fun k => k = gr) w1).st (g := gr) (j := 7) (.int .u64 0) (fun _ => rfl)
  have hc28 := hid (hcall _ H7 hc7)
  have d0 : (w1.setCell ⟨gr, 7, none⟩ (.int .u64 0)).cell? ⟨gr, 0, none⟩ = some (.slice (some ⟨gf, of, none⟩) fm fc) := H7.ar.cell 0
  have d2 : (w1.setCell ⟨gr, 7, none⟩ (.int .u64 0)).cell? ⟨gf, of + jf * 3 + 2, none⟩ = some (.slice fsp fmm fca) := (World.cell?_setCell_far _ _ _ _ (by show gr ≠ gf; omega)).trans ((hb2.cell (p := ⟨gf, of + jf * 3 + 2, none⟩) hgfw).trans c2)
  have hcw : Ch (fun k => k = gr ∨ k = gw) w (w1.setCell ⟨gr, 7, none⟩ (.int .u64 0)) := ((Ch.ob hb2).st (g := gr) (j := 7) (.int .u64 0) (fun _ => .inl rfl))
  clear hst hcall hg1 hb1 hmk hA3 hsrc hmin hfit hone H7 hc7 hD1 c0 c1 c2
  go_upto_region 4 with fail
  generalize w1.setCell ⟨gr, 7, none⟩ (.int .u64 0) = T at *
  have hfin : ∀ u, Ch (PD gr gw w.heap.size) T u → Ch (fun k => k = gr ∨ k = gw) w u := fun u hc => by
    have h1 : Ch (fun k => k = gr ∨ k = gw ∨ k = w.heap.size) w u := (hcw.imp fun k hk => by rcases hk with h | h; exact .inl h; exact .inr (.inl h)).trans (hc.imp fun k hk => by rcases hk with h | h | h; exact .inl h; exact .inr (.inl h); exact .inr (.inr h))
    exact h1.mono fun i hi h => by
      rcases h with h | h | h
      · exact .inl h
      · exact .inr h
      · omega
  replace hfin := hid hfin
  obtain ⟨kb, hkb⟩ : ∃ kb, B.k = kb := ⟨_, rfl⟩
  have hkq : Hid (∀ u e, KQ R N gr gw n (.slice (some ⟨gf, of, none⟩) fm fc) p1 kv fu w.heap.size nf B T e u → e = .returned (.tuple #[]) ∧ DunI gr gw n (.slice (some ⟨gf, of, none⟩) fm fc) p1 kv B.s.W fu ((fu : Int) - B.s.lf) (kb : Int) (fvB B) u ∧ Ch (PD gr gw w.heap.size) T u ∧ B.s.lf ≤ fu) := hid fun u e h => by rw [← hkb]; exact ⟨h.1, h.2.1.run, h.2.2, h.2.1.le⟩
  by_cases hB1 : 1 < kb
  · have e1 : decide ((1 : Int) < (kb : Int)) = true := by simp; omega
    have h1 : fv = 0 := by rw [← hfv.out, if_neg (by omega)]
    have h2 : ek = kb := by rw [← hek.out, if_neg (by omega), hkb]
    have h3 : fvB B = 0 := fvB_n (by omega)
    rw [h3] at hkq
    subst h1 h2
    clear hB1 h3 hkb
    go_wp2_with (go_at_call 28; go_must (refine hc28.out.mono ?_; intro e u hq; obtain ⟨rfl, hDu, hcu, hlu⟩ := hkq.out u e hq; have d6 := hDu.ar.cell 6))
    go_ret
    exact ⟨rfl, hDu, hfin.out u hcu, hlu⟩
  · have e1 : decide ((1 : Int) < (kb : Int)) = false := by simp; omega
    have h1 : fv = fvB B := by rw [← hfv.out, if_pos (by omega)]
    have h2 : ek = 0 := by rw [← hek.out, if_pos (by omega)]
    subst h2
    by_cases hB0 : kb = 0
    · have h3 : fvB B = 0 := fvB_n (by omega)
      rw [h3] at hkq h1
      subst h1 hB0
      clear hB1 h3 hkb e1
      go_wp2_with (go_at_call 28; go_must (refine hc28.out.mono ?_; intro e u hq; obtain ⟨rfl, hDu, hcu, hlu⟩ := hkq.out u e hq; have d6 := hDu.ar.cell 6; have d7 := hDu.ar.cell 7; have f6 := hDu.ar.frozen 6; have H6 := hDu.en' 0; have g7 := H6.ar.cell 7; have f7 := H6.ar.frozen 7))
      go_ret
      exact ⟨rfl, H6.va' 0, hfin.out _ ((hcu.st (g := gr) (j := 6) (.int .i64 0) (fun _ => .inl rfl)).st (g := gr) (j := 7) (.int .u64 0) (fun _ => .inl rfl)), hlu⟩
    · have e0 : ((kb : Int) == 0) = false := by simp; omega
      rw [← h1] at hkq
      clear hB1 hkb h1
      go_wp2_with (go_at_call 28; go_must (refine hc28.out.mono ?_; intro e u hq; obtain ⟨rfl, hDu, hcu, hlu⟩ := hkq.out u e hq; have d6 := hDu.ar.cell 6; have d7 := hDu.ar.cell 7; have f6 := hDu.ar.frozen 6; have H6 := hDu.en' 0; have g7 := H6.ar.cell 7; have f7 := H6.ar.frozen 7))
      go_ret
      exact ⟨rfl, H6.va' 0, hfin.out _ ((hcu.st (g := gr) (j := 6) (.int .i64 0) (fun _ => .inl rfl)).st (g := gr) (j := 7) (.int .u64 0) (fun _ => .inl rfl)), hlu⟩
end Go.Proofs.Ytmljihggooaboaa
/- Layer interp: what the layers below give. -/
namespace Go.Proofs.Ytmljihggooaboaa
open Go.RowKit
set_option maxRecDepth 100000
set_option linter.unusedVariables false
set_option linter.unusedSimpArgs false

section
variable {N : Nat} {es : List En} {w w' : World} {g gm gp n cap : Nat} {sp : Option Addr} {nk ck : Nat} {m m' : Mc}
/-- The blocks that a step writes into. -/
def C3 (g gm gp k : Nat) : Prop := k = g ∨ k = gm ∨ k = gp
theorem Chg.sm {a b : World} (h : Chg (C3 g gm gp) a b) (j : Nat) (v : Value) : Chg (C3 g gm gp) a (b.setCell ⟨gm, j, none⟩ v) := h.setCell v (fun _ => .inr (.inl rfl))
end
end Go.Proofs.Ytmljihggooaboaa
/- Layer interp: what the layers below give. -/
namespace Go.Proofs.Ytmljihggooaboaa
open Go.RowKit
set_option maxRecDepth 100000
set_option linter.unusedVariables false
set_option linter.unusedSimpArgs false

/-- An instruction, as numbers. -/
structure Cd where
  o : Int
  a : Int
  b : Int
  c : Int
  i : Int
def Cd.arr (c : Cd) : Array Value := cdA c.o c.a c.b c.c c.i
structure Cd.ok (x : Cd) : Prop where
  o : 0 ≤ x.o ∧ x.o < 256
  a : 0 ≤ x.a ∧ x.a < 256
  b : 0 ≤ x.b ∧ x.b < 256
  c : 0 ≤ x.c ∧ x.c < 256
  i : 0 ≤ x.i ∧ x.i < 4294967296
/-- Instructions in memory. -/
structure CS (N : Nat) (w : World) (sp : Option Addr) (n cap : Nat) (cs : List Cd) : Prop where
  len : Hid (n = cs.length)
  nil : sp = none → n = 0 ∧ cap = 0
  le : n ≤ cap
  big : cap ≤ 9223372036854775807
  small : n ≤ 140737488355328
  at0 : 0 < n → ∃ g off, sp = some ⟨g, off, none⟩ ∧ g < N ∧ ∀ i e, cs[i]? = some e → w.rangeAt g (off + i * 5) e.arr.toList
  ok : ∀ e ∈ cs, e.ok
theorem CS.below {N : Nat} {w w' : World} {sp : Option Addr} {n cap : Nat} {cs : List Cd} (h : CS N w sp n cap cs) (hb : Below N w w') : CS N w' sp n cap cs :=
  ⟨h.len, h.nil, h.le, h.big, h.small, fun h0 => let ⟨b, off, e, hbN, hB⟩ := h.at0 h0; ⟨b, off, e, hbN, fun i X hX => range_below (hB i X hX) hb hbN⟩, h.ok⟩
theorem CS.here {N : Nat} {w : World} {sp : Option Addr} {n cap : Nat} {cs : List Cd} (h : CS N w sp n cap cs) : CS w.heap.size w sp n cap cs :=
  ⟨h.len, h.nil, h.le, h.big, h.small, fun h0 => by
    obtain ⟨b, off, e, hbN, hB⟩ := h.at0 h0
    refine ⟨b, off, e, ?_, hB⟩
    have hl : 0 < cs.length := by rw [← h.len.out]; exact h0
    exact block_lt_of_cell (hB 0 cs[0] (List.getElem?_eq_getElem hl) 0 _ rfl), h.ok⟩
end Go.Proofs.Ytmljihggooaboaa

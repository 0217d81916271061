/- Layer compile: newBuilder. -/
import Derived.Test.YtimmiidkjpbffaaX18
import Derived.Test.YtimmiidkjpbffaaX06
import Derived.Handy
import Derived.BigQuiet
import Derived.BigRegion
import Derived.Great.BuildSlice
import Derived.Laws.EntriesVeiled
namespace Go.Proofs.Ytimmiidkjpbffaa
open Go.RowKit
set_option maxRecDepth 100000
set_option linter.unusedVariables false
set_option linter.unusedSimpArgs false

variable {N : Nat}
theorem NB.c {w0 w : World} {b gc gm g : Nat} {sv fv : Value} {da sl : Int} {fr : List Int} (h : NB w0 b sv da gc gm g fv fr sl w) : w.cell? ⟨g, 6, none⟩ = some fv ∧ w.cell? ⟨g, 7, none⟩ = some (.int .i64 sl) ∧ w.frozen? ⟨g, 6, none⟩ = false ∧ w.frozen? ⟨g, 7, none⟩ = false := ⟨h.ar.cell 6, h.ar.cell 7, h.ar.frozen 6, h.ar.frozen 7⟩
theorem NB.start (w : World) (sv : Value) (da : Int) (gc : Nat) : NB w w.heap.size sv da gc (w.heap.size + 1) (w.heap.size + 2) (.slice none 0 0) [] 0 (((w.alloc (.cells #[sv, .int .i64 da] 47)).alloc (.map #[] 0)).alloc (.cells (nbA sv da gc (w.heap.size + 1) (.slice none 0 0) 0) 79)) := by
  have b1 := alloc_bel' w (.cells #[sv, .int .i64 da] 47)
  refine ⟨?_, ?_, World.ownsRow_nil _ _ _ _, ⟨by omega, (by intro h; cases h), (by intro h; cases h)⟩, ⟨by omega, by omega⟩, (b1.alloc (by simp) _).alloc (by simp; omega) _⟩
  · have h := Arr.new ((w.alloc (.cells #[sv, .int .i64 da] 47)).alloc (.map #[] 0)) 79 (nbA sv da gc (w.heap.size + 1) (.slice none 0 0) 0)
    simp only [World.size_alloc] at h
    exact h
  · have h := MapL.new (w.alloc (.cells #[sv, .int .i64 da] 47))
    rw [show (w.alloc (.cells #[sv, .int .i64 da] 47)).heap.size = w.heap.size + 1 by simp] at h
    exact h.same (heap_alloc_old _ _ h.lt)
set_option maxHeartbeats 4000000 in
theorem newBuilder_any {p : PgT} {da : Int} {sp : Option Addr} {k cap gc : Nat} (w : World) (hN : N ≤ w.heap.size) (hda : p.da = da) (hS : RS N w 3 (FuM N w) sp k cap p.fs) (hv : ∀ f ∈ p.fs, 0 ≤ f.v ∧ f.v ≤ 64) (h32 : p.fs.length ≤ 32) (h1 : 0 < p.fs.length) (hgc : N ≤ gc ∧ gc < w.heap.size) (hcd : Arr w gc 65 #[.slice none 0 0]) :
    Calls Try.prog 28 #[.agg #[.slice sp k cap, .int .i64 da], .func (Fn.func 29) #[] #[.pointer (some ⟨gc, 0, none⟩)]] w fun e w' => ∃ g gm gf fv, e = .returned (.pointer (some ⟨g, 0, none⟩)) ∧ KK N (fun i => (i = gc ∨ w.heap.size ≤ i) ∧ i ≠ gf) ⟨g, gc, gm, .slice sp k cap, kEnv p, fv, kSlots p.fs, 0, 0⟩ k0 w' ∧ Below w.heap.size w w' ∧ w.heap.size ≤ gf := by
  have hlen := hid hS.len.out
  have hk32 : k ≤ 32 := by rw [hlen.out]; exact h32
  have hmk : ∀ (u : World), (Instr.makeMap 70 none).run Try.prog u = .ok (.map (some u.heap.size)) (u.alloc (.map #[] 0)) := fun u => by
    simp [Instr.makeMap, Sem.run_bind, run_underlying Try.underlying70, Result.andThen, go_sem]
  have h0 := NB.start w (.slice sp k cap) da gc
  unfold nbA pF at h0
  have hsm := kSlots_le p.fs hv
  replace hv := hid hv
  replace hda := hid hda
  replace hcd := hid hcd
  replace hgc := hid hgc
  go_enter Try.func28, Try.ntmps28
  go_upto_region 3 with fail
  generalize hV : (((w.alloc (.cells #[.slice sp k cap, .int .i64 da] 47)).alloc (.map #[] 0)).alloc (.cells #[.slice sp k cap, .int .i64 da, .func (Fn.func 29) #[] #[.pointer (some ⟨gc, 0, none⟩)], .map (some (w.heap.size + 1)), .slice none 0 0, .int .i64 34, .slice none 0 0, .int .i64 0, .int .i64 0, .int .i64 0, .nilFunc, .nilFunc, .nilFunc, .nilFunc, .nilFunc, .nilFunc, .nilFunc, .nilFunc, .nilFunc, .nilFunc, .nilFunc, .nilFunc, .nilFunc, .nilFunc, .nilFunc] 79)) = V at *
  clear hV
  go_loopw [16] (fun i wr => ∃ (j : Nat) (fv : Value), i = .int .i64 (j : Int) ∧ j ≤ k ∧ NB w w.heap.size (.slice sp k cap) da gc (w.heap.size + 1) (w.heap.size + 2) fv (kFrs (p.fs.take j) 0) (kSlots (p.fs.take j)) wr)
    (fun i _ => k - (intOf i).toNat)
  case atStart => exact ⟨0, .slice none 0 0, rfl, by omega, h0⟩
  case round =>
    obtain ⟨j, fv, rfl, hj, hB⟩ := hrel
    have hws : w.heap.size ≤ wr.heap.size := hB.bl.size
    by_cases hlt : j < k
    · obtain ⟨t, ht⟩ : ∃ t, p.fs[j]? = some t := ⟨p.fs[j]'(by rw [← hlen.out]; exact hlt), List.getElem?_eq_getElem _⟩
      obtain ⟨tv0, tv1⟩ := hv.out t (List.mem_of_getElem? ht)
      obtain ⟨g, off, rfl, hg, hR⟩ := hS.at0 (by omega)
      obtain ⟨cs, hrg, sb, mb, cb, hcs, -, -⟩ := hR j t ht
      subst hcs
      have hrg2 := rgk hrg (hB.bl.mono hN) hg
      have c0 := hrg2 0 _ rfl
      have c1 := hrg2 1 _ rfl
      have c2 := hrg2 2 _ rfl
      simp only [Nat.add_zero] at c0
      have htk : p.fs.take (j + 1) = p.fs.take j ++ [t] := by rw [List.take_add_one, ht]; rfl
      have hjl : (p.fs.take j).length = j := by rw [List.length_take, ← hlen.out]; omega
      have hsl := kSlots_le (p.fs.take j) fun f hf => hv.out f (List.mem_of_mem_take hf)
      rw [hjl] at hsl
      have hnf : Hid (kFrs (p.fs.take (j + 1)) 0 = kFrs (p.fs.take j) 0 ++ [kSlots (p.fs.take j)]) := hid (by rw [htk, kFrs_snoc]; simp)
      have hns : Hid (kSlots (p.fs.take (j + 1)) = kSlots (p.fs.take j) + (1 + t.v)) := hid (by rw [htk, kSlots_snoc])
      have hfl : (kFrs (p.fs.take j) 0).length = j := by rw [kFrs_len, hjl]
      have hlt' : (j : Int) < k := by omega
      have hj0 : (0 : Int) ≤ j := by omega
      have hB1 := hB.al hws (.cells (fuC t.p t.v (.slice sb mb cb)).toArray 85)
      have A1 := Arr.new wr 85 (fuC t.p t.v (.slice sb mb cb)).toArray
      have hw1 : IntKind.i64.wrap (1 + t.v) = 1 + t.v := by rw [IntKind.wrap_i64]; omega
      have hw2 : IntKind.i64.wrap (kSlots (p.fs.take j) + (1 + t.v)) = kSlots (p.fs.take j) + (1 + t.v) := by rw [IntKind.wrap_i64]; omega
      clear hR hrg hrg2 ht htk hjl hS
      unfold fuC at *
      generalize t.p = tp at *
      generalize t.v = tv at *
      obtain ⟨fs', hfs'⟩ : ∃ x, x = p.fs.take (j + 1) := ⟨_, rfl⟩
      rw [← hfs'] at hnf hns
      replace hfs' := hid hfs'
      generalize kFrs (p.fs.take j) 0 = fr at *
      generalize kSlots (p.fs.take j) = sl at *
      go_upto_region 5 with fail
      clear c0 c1 c2
      generalize hbx : wr.heap.size = bx at *
      generalize hV1 : wr.alloc (.cells #[.int .i64 tp, .int .i64 tv, .slice sb mb cb] 85) = V1 at *
      have hbV : w.heap.size ≤ V1.heap.size := hB1.bl.size
      have hgx : w.heap.size + 2 ≠ bx := by have := hB.ar.lt; omega
      have hgx2 : fv.ownBlock ≠ some bx := fun e => by have := (own_in hB.ow bx e).2; omega
      clear hV1 hB
      obtain ⟨sf, cf, hfv⟩ := own_slc hB1.ow
      rw [hfl] at hfv
      subst hfv
      refine rgn (fun u => u.cell? ⟨w.heap.size + 2, 7, none⟩ = some (.int .i64 sl)) hB1.dw.c.2.1 (fun _ => ?_)
      refine tk 0 rfl ?_ (hy := by (intro u hSw; go_simp; try (with_reducible rfl)))
      refine tk 1 rfl ?_ (hy := by (intro u hSw; go_simp; try (with_reducible rfl)))
      refine tk 2 rfl ?_ (hy := by (intro u hSw; go_simp; try (with_reducible rfl)))
      refine tk 3 rfl ?_ (hy := by (intro u hSw; go_simp; try (with_reducible rfl)))
      refine tk 5 rfl ?_ (hy := by (intro u hSw; go_simp; try (with_reducible rfl)))
      refine tk 6 rfl ?_ (hy := by (intro u hSw; go_simp; try (with_reducible rfl)))
      refine tk 7 rfl ?_ (hy := by (intro u hSw; go_simp; try (with_reducible rfl)))
      refine tk 8 rfl ?_ (hy := by (intro u hSw; go_simp; try (with_reducible rfl)))
      obtain ⟨q6, q7, q6f, q7f⟩ := hB1.dw.c
      refine rd2 4 9 rfl rfl (fun K hK' => ?_) (fun K hK' => ?_)
      · go_simp
        refine ko hK' q7 (fun _ => ?_)
        clear hK'
        refine rd 9 rfl (fun K hK' => ?_)
        go_simp
        have hB3 := (hB1.al hbV (.cells #[.int .i64 sl] 3)).dw
        have A3 := (A1.alloc (.cells #[.int .i64 sl] 3)).drew
        have R3 := (Arr.new V1 3 #[.int .i64 sl]).drew
        have hb3 : w.heap.size ≤ ((V1.alloc (.cells #[.int .i64 sl] 3)).drew).heap.size := by simp; omega
        refine ko hK' hB3.c.2.1 (fun _ => ?_)
        clear hK' q6 q7 q6f q7f
        generalize (V1.alloc (.cells #[.int .i64 sl] 3)).drew = V3 at *
        refine rd 10 rfl (fun K hK' => ?_)
        rw [if_pos (by rfl)]
        refine wp_apI (.tmp 24) (.tmp 29) (by rfl) (.slice sf j cf) fr sl (by rfl) w.heap.size hB3.ow _ _ (by rfl) 3 R3 (by omega) hb3 ?_
        intro v5 w5 ho hg5 hne
        have hB5 := hB3.app hb3 ho hg5 hne
        obtain ⟨sp5, cp5, hv5⟩ := own_slc ho
        subst hv5
        have r5 : Arr w5 (w.heap.size + 2) 79 (nbA (.slice (some ⟨g, off, none⟩) k cap) da gc (w.heap.size + 1) (.slice sf j cf) sl) := (hg5.block _ hB3.ar.lt (fun e => hB3.ne.2.1 e.symm)).trans hB3.ar
        have x5 : Arr w5 bx 85 #[.int .i64 tp, .int .i64 tv, .slice sb mb cb] := (hg5.block _ A3.lt (fun e => hgx2 e.symm)).trans A3
        have q7 : w5.cell? ⟨w.heap.size + 2, 7, none⟩ = some (.int .i64 sl) := r5.cell 7
        refine ko hK' q7 (fun _ => ?_)
        clear hK'
        refine tk 11 rfl ?_ (hy := by (intro u hSw; go_simp; try (with_reducible rfl)))
        refine tk 12 rfl ?_ (hy := by (intro u hSw; go_simp; try (with_reducible rfl)))
        have q6 : w5.cell? ⟨w.heap.size + 2, 6, none⟩ = some (.slice sf j cf) := r5.cell 6
        have q6f := r5.frozen 6
        refine rd 13 rfl (fun K hK' => ?_)
        go_simp
        simp only [List.length_append, List.length_cons, List.length_nil, Nat.zero_add, hfl] at hB5
        have x6 := x5.setOther (a := ⟨w.heap.size + 2, 6, none⟩) (.slice sp5 (j + 1) cp5) (show bx ≠ w.heap.size + 2 from fun e => hgx e.symm)
        refine ko hK' hB5.c.2.1 (fun _ => ?_)
        clear hK' q6 q6f q7
        refine dn ?_
        go_upto_region 6 with fail
        generalize hW5 : w5.setCell ⟨w.heap.size + 2, 6, none⟩ (.slice sp5 (j + 1) cp5) = V6 at *
        clear hW5
        have z1 := x6.drew.cell 1
        refine rgn (fun u => u.cell? ⟨bx, 1, none⟩ = some (.int .i64 tv)) z1 (fun _ => ?_)
        refine tk 0 rfl ?_ (hy := by (intro u hSw; go_simp; try (with_reducible rfl)))
        refine tk 1 rfl ?_ (hy := by (intro u hSw; go_simp; try (with_reducible rfl)))
        refine tk 2 rfl ?_ (hy := by (intro u hSw; go_simp; try (with_reducible rfl)))
        refine tk 4 rfl ?_ (hy := by (intro u hSw; go_simp; try (with_reducible rfl)))
        refine tk 5 rfl ?_ (hy := by (intro u hSw; go_simp; try (with_reducible rfl)))
        refine tk 6 rfl ?_ (hy := by (intro u hSw; go_simp; try (with_reducible rfl)))
        obtain ⟨-, q7, -, q7f⟩ := hB5.dw.c
        refine rd 3 rfl (fun K hK' => ?_)
        go_simp
        refine ko hK' z1 (fun _ => ?_)
        clear hK'
        refine tk 7 rfl ?_ (hy := by (intro u hSw; go_simp; try (with_reducible rfl)))
        refine tk 8 rfl ?_ (hy := by (intro u hSw; go_simp; try (with_reducible rfl)))
        refine tk 9 rfl ?_ (hy := by (intro u hSw; go_simp; try (with_reducible rfl)))
        refine rd 10 rfl (fun K hK' => ?_)
        go_simp
        have hB7 := (hB5.dw).sl (y := sl + (1 + tv))
        have x7 := x6.drew.setOther (a := ⟨w.heap.size + 2, 7, none⟩) (.int .i64 (sl + (1 + tv))) (show bx ≠ w.heap.size + 2 from fun e => hgx e.symm)
        refine ko hK' (x7.cell 1) (fun _ => ?_)
        clear hK'
        refine dn ?_
        go_wp2_with fail
        go_roundw
        case rel =>
          exact ⟨j + 1, _, by go_num, by omega, by rw [← hfs'.out, hnf.out, hns.out]; exact hB7⟩
        case measure => simp [intOf]; omega
      · go_simp
        have hB3 := (hB1.al hbV (.cells #[.int .i64 sl] 3)).dw
        have A3 := (A1.alloc (.cells #[.int .i64 sl] 3)).drew
        have R3 := (Arr.new V1 3 #[.int .i64 sl]).drew
        have hb3 : w.heap.size ≤ ((V1.alloc (.cells #[.int .i64 sl] 3)).drew).heap.size := by simp; omega
        refine ko hK' hB3.c.2.1 (fun _ => ?_)
        clear hK' q6 q7 q6f q7f
        generalize (V1.alloc (.cells #[.int .i64 sl] 3)).drew = V3 at *
        obtain ⟨q6, q7, q6f, q7f⟩ := hB3.c
        refine rd 4 rfl (fun K hK' => ?_)
        go_simp
        refine ko hK' q7 (fun _ => ?_)
        clear hK' q6 q7 q6f q7f
        refine rd 10 rfl (fun K hK' => ?_)
        rw [if_pos (by rfl)]
        refine wp_apI (.tmp 24) (.tmp 29) (by rfl) (.slice sf j cf) fr sl (by rfl) w.heap.size hB3.ow _ _ (by rfl) 3 R3 (by omega) hb3 ?_
        intro v5 w5 ho hg5 hne
        have hB5 := hB3.app hb3 ho hg5 hne
        obtain ⟨sp5, cp5, hv5⟩ := own_slc ho
        subst hv5
        have r5 : Arr w5 (w.heap.size + 2) 79 (nbA (.slice (some ⟨g, off, none⟩) k cap) da gc (w.heap.size + 1) (.slice sf j cf) sl) := (hg5.block _ hB3.ar.lt (fun e => hB3.ne.2.1 e.symm)).trans hB3.ar
        have x5 : Arr w5 bx 85 #[.int .i64 tp, .int .i64 tv, .slice sb mb cb] := (hg5.block _ A3.lt (fun e => hgx2 e.symm)).trans A3
        have q7 : w5.cell? ⟨w.heap.size + 2, 7, none⟩ = some (.int .i64 sl) := r5.cell 7
        refine ko hK' q7 (fun _ => ?_)
        clear hK'
        refine tk 11 rfl ?_ (hy := by (intro u hSw; go_simp; try (with_reducible rfl)))
        refine tk 12 rfl ?_ (hy := by (intro u hSw; go_simp; try (with_reducible rfl)))
        have q6 : w5.cell? ⟨w.heap.size + 2, 6, none⟩ = some (.slice sf j cf) := r5.cell 6
        have q6f := r5.frozen 6
        refine rd 13 rfl (fun K hK' => ?_)
        go_simp
        simp only [List.length_append, List.length_cons, List.length_nil, Nat.zero_add, hfl] at hB5
        have x6 := x5.setOther (a := ⟨w.heap.size + 2, 6, none⟩) (.slice sp5 (j + 1) cp5) (show bx ≠ w.heap.size + 2 from fun e => hgx e.symm)
        refine ko hK' hB5.c.2.1 (fun _ => ?_)
        clear hK' q6 q6f q7
        refine dn ?_
        go_upto_region 6 with fail
        generalize hW5 : w5.setCell ⟨w.heap.size + 2, 6, none⟩ (.slice sp5 (j + 1) cp5) = V6 at *
        clear hW5
        have z1 := x6.drew.cell 1
        refine rgn (fun u => u.cell? ⟨bx, 1, none⟩ = some (.int .i64 tv)) z1 (fun _ => ?_)
        refine tk 0 rfl ?_ (hy := by (intro u hSw; go_simp; try (with_reducible rfl)))
        refine tk 1 rfl ?_ (hy := by (intro u hSw; go_simp; try (with_reducible rfl)))
        refine tk 2 rfl ?_ (hy := by (intro u hSw; go_simp; try (with_reducible rfl)))
        refine tk 4 rfl ?_ (hy := by (intro u hSw; go_simp; try (with_reducible rfl)))
        refine tk 5 rfl ?_ (hy := by (intro u hSw; go_simp; try (with_reducible rfl)))
        refine tk 6 rfl ?_ (hy := by (intro u hSw; go_simp; try (with_reducible rfl)))
        obtain ⟨-, q7, -, q7f⟩ := hB5.dw.c
        refine rd 3 rfl (fun K hK' => ?_)
        go_simp
        refine ko hK' z1 (fun _ => ?_)
        clear hK'
        refine tk 7 rfl ?_ (hy := by (intro u hSw; go_simp; try (with_reducible rfl)))
        refine tk 8 rfl ?_ (hy := by (intro u hSw; go_simp; try (with_reducible rfl)))
        refine tk 9 rfl ?_ (hy := by (intro u hSw; go_simp; try (with_reducible rfl)))
        refine rd 10 rfl (fun K hK' => ?_)
        go_simp
        have hB7 := (hB5.dw).sl (y := sl + (1 + tv))
        have x7 := x6.drew.setOther (a := ⟨w.heap.size + 2, 7, none⟩) (.int .i64 (sl + (1 + tv))) (show bx ≠ w.heap.size + 2 from fun e => hgx e.symm)
        refine ko hK' (x7.cell 1) (fun _ => ?_)
        clear hK'
        refine dn ?_
        go_wp2_with fail
        go_roundw
        case rel =>
          exact ⟨j + 1, _, by go_num, by omega, by rw [← hfs'.out, hnf.out, hns.out]; exact hB7⟩
        case measure => simp [intOf]; omega
    · obtain rfl : j = k := by omega
      rw [show p.fs.take j = p.fs by rw [hlen.out]; exact List.take_length] at hB
      have hfl := kFrs_len p.fs 0
      rw [← hlen.out] at hfl
      have hj0 : 0 < j := by rw [hlen.out]; exact h1
      have ct1 := hid fun (u : World) => stmtKinds_any (g := w.heap.size + 2) u
      have ct2 := hid fun (u : World) => exprKinds_any (g := w.heap.size + 2) u
      have hlt' : ¬ (j : Int) < j := by omega
      obtain ⟨fr, hfr⟩ : ∃ x, x = kFrs p.fs 0 := ⟨_, rfl⟩
      obtain ⟨sl, hsl⟩ : ∃ x, x = kSlots p.fs := ⟨_, rfl⟩
      rw [← hfr, ← hsl] at hB
      rw [← hfr] at hfl
      replace hfr := hid hfr
      replace hsl := hid hsl
      have hrow := hB.ow
      rw [hfl] at hrow
      obtain ⟨sf, cf, hfv⟩ := own_slc hrow
      subst hfv
      obtain ⟨gf, hgf, hcf⟩ := own_cells hrow hj0
      subst hgf
      have hgfr := own_in hrow gf rfl
      have hgf1 : gf ≠ w.heap.size + 2 := fun e => hB.ne.2.1 (by rw [e]; rfl)
      have hgf2 : gf ≠ w.heap.size + 1 := fun e => hB.ne.2.2 (by rw [e]; rfl)
      unfold stA mF at ct1
      unfold exA mF at ct2
      have A0 := hB.ar
      unfold nbA at A0
      have hmp := hB.mp
      have hbl := hB.bl
      clear hB hS
      go_upto_region 9 with (go_at_call 40; go_must (refine (ct1.out _).mono ?_; rintro e w3 ⟨rfl, hb3⟩; have A1 := A0.bl hb3; have a0 := A1.cell 10; have f0 := A1.frozen 10;  have a1 := A1.cell 11; have f1 := A1.frozen 11;  have a2 := A1.cell 12; have f2 := A1.frozen 12;  have a3 := A1.cell 13; have f3 := A1.frozen 13;  have a4 := A1.cell 14; have f4 := A1.frozen 14;  have a5 := A1.cell 15; have f5 := A1.frozen 15;  have a6 := A1.cell 16; have f6 := A1.frozen 16;  have a7 := A1.cell 17; have f7 := A1.frozen 17;  have a8 := A1.cell 18; have f8 := A1.frozen 18;  have a9 := A1.cell 19; have f9 := A1.frozen 19))
      have A2 := ((((((((((A1.set 10 (.nilFunc)).set 11 (.func (Fn.func 49) #[.pointer (some ⟨w.heap.size + 2, 0, none⟩)] #[])).set 12 (.func (Fn.func 50) #[.pointer (some ⟨w.heap.size + 2, 0, none⟩)] #[])).set 13 (.func (Fn.func 51) #[.pointer (some ⟨w.heap.size + 2, 0, none⟩)] #[])).set 14 (.func (Fn.func 52) #[.pointer (some ⟨w.heap.size + 2, 0, none⟩)] #[])).set 15 (.func (Fn.func 53) #[.pointer (some ⟨w.heap.size + 2, 0, none⟩)] #[])).set 16 (.func (Fn.func 54) #[.pointer (some ⟨w.heap.size + 2, 0, none⟩)] #[])).set 17 (.func (Fn.func 55) #[.pointer (some ⟨w.heap.size + 2, 0, none⟩)] #[])).set 18 (.func (Fn.func 56) #[.pointer (some ⟨w.heap.size + 2, 0, none⟩)] #[])).set 19 (.func (Fn.func 57) #[.pointer (some ⟨w.heap.size + 2, 0, none⟩)] #[]))
      clear a0 f0 a1 f1 a2 f2 a3 f3 a4 f4 a5 f5 a6 f6 a7 f7 a8 f8 a9 f9
      simp only [List.setIfInBounds_toArray, List.set_cons_zero, List.set_cons_succ] at A2
      have hC2 : Ch (fun i => i = w.heap.size + 2) wr w3 := Ch.ob hb3
      have hC3 := ((((((((((hC2.st (g := w.heap.size + 2) (j := 10) (.nilFunc) (fun _ => rfl)).st (g := w.heap.size + 2) (j := 11) (.func (Fn.func 49) #[.pointer (some ⟨w.heap.size + 2, 0, none⟩)] #[]) (fun _ => rfl)).st (g := w.heap.size + 2) (j := 12) (.func (Fn.func 50) #[.pointer (some ⟨w.heap.size + 2, 0, none⟩)] #[]) (fun _ => rfl)).st (g := w.heap.size + 2) (j := 13) (.func (Fn.func 51) #[.pointer (some ⟨w.heap.size + 2, 0, none⟩)] #[]) (fun _ => rfl)).st (g := w.heap.size + 2) (j := 14) (.func (Fn.func 52) #[.pointer (some ⟨w.heap.size + 2, 0, none⟩)] #[]) (fun _ => rfl)).st (g := w.heap.size + 2) (j := 15) (.func (Fn.func 53) #[.pointer (some ⟨w.heap.size + 2, 0, none⟩)] #[]) (fun _ => rfl)).st (g := w.heap.size + 2) (j := 16) (.func (Fn.func 54) #[.pointer (some ⟨w.heap.size + 2, 0, none⟩)] #[]) (fun _ => rfl)).st (g := w.heap.size + 2) (j := 17) (.func (Fn.func 55) #[.pointer (some ⟨w.heap.size + 2, 0, none⟩)] #[]) (fun _ => rfl)).st (g := w.heap.size + 2) (j := 18) (.func (Fn.func 56) #[.pointer (some ⟨w.heap.size + 2, 0, none⟩)] #[]) (fun _ => rfl)).st (g := w.heap.size + 2) (j := 19) (.func (Fn.func 57) #[.pointer (some ⟨w.heap.size + 2, 0, none⟩)] #[]) (fun _ => rfl))
      generalize hW4 : ((((((((((w3.setCell ⟨w.heap.size + 2, 10, none⟩ (.nilFunc)).setCell ⟨w.heap.size + 2, 11, none⟩ (.func (Fn.func 49) #[.pointer (some ⟨w.heap.size + 2, 0, none⟩)] #[])).setCell ⟨w.heap.size + 2, 12, none⟩ (.func (Fn.func 50) #[.pointer (some ⟨w.heap.size + 2, 0, none⟩)] #[])).setCell ⟨w.heap.size + 2, 13, none⟩ (.func (Fn.func 51) #[.pointer (some ⟨w.heap.size + 2, 0, none⟩)] #[])).setCell ⟨w.heap.size + 2, 14, none⟩ (.func (Fn.func 52) #[.pointer (some ⟨w.heap.size + 2, 0, none⟩)] #[])).setCell ⟨w.heap.size + 2, 15, none⟩ (.func (Fn.func 53) #[.pointer (some ⟨w.heap.size + 2, 0, none⟩)] #[])).setCell ⟨w.heap.size + 2, 16, none⟩ (.func (Fn.func 54) #[.pointer (some ⟨w.heap.size + 2, 0, none⟩)] #[])).setCell ⟨w.heap.size + 2, 17, none⟩ (.func (Fn.func 55) #[.pointer (some ⟨w.heap.size + 2, 0, none⟩)] #[])).setCell ⟨w.heap.size + 2, 18, none⟩ (.func (Fn.func 56) #[.pointer (some ⟨w.heap.size + 2, 0, none⟩)] #[])).setCell ⟨w.heap.size + 2, 19, none⟩ (.func (Fn.func 57) #[.pointer (some ⟨w.heap.size + 2, 0, none⟩)] #[])) = w4 at *
      clear hW4 A1 hb3 hC2
      go_wp2_with (go_at_call 41; go_must (refine (ct2.out _).mono ?_; rintro e w5 ⟨rfl, hb5⟩; have A3 := A2.bl hb5; have a0 := A3.cell 20; have f0 := A3.frozen 20;  have a1 := A3.cell 21; have f1 := A3.frozen 21;  have a2 := A3.cell 22; have f2 := A3.frozen 22;  have a3 := A3.cell 23; have f3 := A3.frozen 23;  have a4 := A3.cell 24; have f4 := A3.frozen 24))
      have A4 := (((((A3.set 20 (.nilFunc)).set 21 (.func (Fn.func 58) #[.pointer (some ⟨w.heap.size + 2, 0, none⟩)] #[])).set 22 (.func (Fn.func 59) #[.pointer (some ⟨w.heap.size + 2, 0, none⟩)] #[])).set 23 (.func (Fn.func 60) #[.pointer (some ⟨w.heap.size + 2, 0, none⟩)] #[])).set 24 (.func (Fn.func 61) #[.pointer (some ⟨w.heap.size + 2, 0, none⟩)] #[]))
      simp only [List.setIfInBounds_toArray, List.set_cons_zero, List.set_cons_succ] at A4
      have hC4 : Ch (fun i => i = w.heap.size + 2) wr w5 := hC3.trans (Ch.ob hb5)
      have hC5 := (((((hC4.st (g := w.heap.size + 2) (j := 20) (.nilFunc) (fun _ => rfl)).st (g := w.heap.size + 2) (j := 21) (.func (Fn.func 58) #[.pointer (some ⟨w.heap.size + 2, 0, none⟩)] #[]) (fun _ => rfl)).st (g := w.heap.size + 2) (j := 22) (.func (Fn.func 59) #[.pointer (some ⟨w.heap.size + 2, 0, none⟩)] #[]) (fun _ => rfl)).st (g := w.heap.size + 2) (j := 23) (.func (Fn.func 60) #[.pointer (some ⟨w.heap.size + 2, 0, none⟩)] #[]) (fun _ => rfl)).st (g := w.heap.size + 2) (j := 24) (.func (Fn.func 61) #[.pointer (some ⟨w.heap.size + 2, 0, none⟩)] #[]) (fun _ => rfl))
      clear a0 f0 a1 f1 a2 f2 a3 f3 a4 f4
      generalize hW6 : (((((w5.setCell ⟨w.heap.size + 2, 20, none⟩ (.nilFunc)).setCell ⟨w.heap.size + 2, 21, none⟩ (.func (Fn.func 58) #[.pointer (some ⟨w.heap.size + 2, 0, none⟩)] #[])).setCell ⟨w.heap.size + 2, 22, none⟩ (.func (Fn.func 59) #[.pointer (some ⟨w.heap.size + 2, 0, none⟩)] #[])).setCell ⟨w.heap.size + 2, 23, none⟩ (.func (Fn.func 60) #[.pointer (some ⟨w.heap.size + 2, 0, none⟩)] #[])).setCell ⟨w.heap.size + 2, 24, none⟩ (.func (Fn.func 61) #[.pointer (some ⟨w.heap.size + 2, 0, none⟩)] #[])) = w6 at *
      clear hW6 A3 hb5 hC4
      have hfin : Below w.heap.size w w6 := hbl.trans (hC5.bl fun i hi => ⟨by omega, by omega⟩)
      have hkeep : ∀ i, i < wr.heap.size → i ≠ w.heap.size + 2 → w6.heap[i]? = wr.heap[i]? := fun i h1 h2 => hC5.block i h1 h2
      have hs6 := hC5.size
      have hlg := A4.lt
      have hlm := hmp.lt
      have hg := hgc.out
      go_ret
      refine ⟨w.heap.size + 2, w.heap.size + 1, gf, .slice (some ⟨gf, 0, none⟩) j cf, rfl, ⟨⟨.slice none 0 0, .slice none 0 0, ?_⟩, ⟨gf, cf, ?_, by omega, fun e => e.2 rfl, fun i x hx => ?_⟩, fun i hi => ⟨by omega, fun e => by omega⟩⟩, hfin, hgfr.1⟩
      · refine { ar := ?_, cd := (hfin.block gc hg.2).trans hcd.out, oc := World.ownsRow_nil _ _ _ _, og := World.ownsRow_nil _ _ _ _, mp := ?_, n1 := ⟨by show w.heap.size + 2 ≠ gc; omega, by show w.heap.size + 2 ≠ w.heap.size + 1; omega, by show gc ≠ w.heap.size + 1; omega⟩, n2 := ⟨(by intro h; cases h), (by intro h; cases h), (by intro h; cases h)⟩, n3 := ⟨(by intro h; cases h), (by intro h; cases h), (by intro h; cases h)⟩, n4 := fun i h => (by cases h), pg := ⟨⟨.inr (by show w.heap.size ≤ w.heap.size + 2; omega), fun e => hgf1 e.symm⟩, ⟨.inl rfl, by show gc ≠ gf; omega⟩, ⟨.inr (by show w.heap.size ≤ w.heap.size + 1; omega), fun e => hgf2 e.symm⟩⟩, pc := fun i h => (by cases h), pp := fun i h => (by cases h), up := fun i hi => ⟨.inr (by omega), by omega⟩, le := Nat.le_refl _ }
        · show Arr w6 (w.heap.size + 2) 79 (kbA _ _ _)
          rw [← hsl.out]
          unfold kbA pF mF kEnv
          rw [hda.out]
          exact A4
        · exact hmp.same (hkeep _ hlm (by show w.heap.size + 1 ≠ w.heap.size + 2; omega))
      · show _ = Value.slice (some ⟨gf, 0, none⟩) (kFrs p.fs 0).length cf
        rw [← hfr.out, hfl]
      · have hx' : fr[i]? = some x := by rw [hfr.out]; exact hx
        have h2 := hcf i (.int .i64 x) (by simp [iC, hx'])
        exact (World.cell?_of_block (a := ⟨gf, i, none⟩) (hkeep gf hgfr.2 hgf1)).trans h2
end Go.Proofs.Ytimmiidkjpbffaa

/- K4, K5. -/
import Derived.Test.YtimmiidkjpbffaaX06
import Derived.Handy
import Derived.BigQuiet
import Derived.BigRegion
import Derived.Great.BuildSlice
import Derived.Test.YtimmiidkjpbffaaX03
/- Layer compile: labels that stand, gaps. -/
namespace Go.Proofs.Ytimmiidkjpbffaa
open Go.RowKit
set_option maxRecDepth 100000
set_option linter.unusedVariables false
set_option linter.unusedSimpArgs false

variable {P : Nat → Prop} {q : KQ} {s : KS} {cv gv : Value}
theorem KB.map {w : World} {o : Obj} {m : Int → Option Int} (h : KB P q s cv gv w) (hm : MapL (w.putObj q.gm o) q.gm m) : KB P q ⟨s.code, s.gaps, m, s.nx⟩ cv gv (w.putObj q.gm o) ∧ Ch P w (w.putObj q.gm o) := by
  have hs : ∀ k, k ≠ q.gm → (w.putObj q.gm o).heap[k]? = w.heap[k]? := fun k hk => World.putObj_heap_other hk
  refine ⟨{ h with ar := (hs _ h.n1.2.1).trans h.ar, cd := (hs _ h.n1.2.2).trans h.cd, oc := own_mv h.oc fun k e => hs k (fun e' => h.n2.2.2 (e' ▸ e)), og := own_mv h.og fun k e => hs k (fun e' => h.n3.2.2 (e' ▸ e)), mp := hm, up := fun k hk => h.up k (by simpa using hk) }, ?_⟩
  exact ⟨rfl, rfl, rfl, by simp, fun k h1 h2 => hs k (fun e => h2 (by rw [e]; exact h.pg.2.2))⟩
theorem KS.put_nil (s : KS) : s.put [] = s := by simp [KS.put]
set_option maxHeartbeats 1000000 in
theorem here_any {l : Int} (w : World) (hK : KB P q s cv gv w) (hb : s.code.length ≤ 1000000) :
    Calls Try.prog 64 #[.pointer (some ⟨q.g, 0, none⟩), .int .i64 l] w (KD P q (s.here l) w) := by
  have hp := fun (u : World) (h : KB P q s cv gv u) => put_any (sp := none) (m := 0) (cap := 0) (l := []) u h (CR.nil u) (by simpa using hb)
  have c2 := hK.c2
  have c3 := hK.c3
  go_enter Try.func64, Try.ntmps64
  refine rgn (fun u => u.cell? ⟨q.g, 2, none⟩ = some (pF q.gc) ∧ u.cell? ⟨q.g, 3, none⟩ = some (.map (some q.gm))) ⟨c2, c3⟩ (fun hHeld => ?_)
  refine tk2 0 rfl ?_
  refine tk2 1 rfl ?_
  refine tk2 2 rfl ?_
  refine tk2 3 rfl ?_
  refine tk2 4 rfl ?_
  refine tk2 5 rfl ?_
  refine tk2 6 rfl ?_
  refine tk2 7 rfl ?_
  refine tk2 8 rfl ?_
  refine rd 9 rfl (fun K hK' => ?_)
  go_simp
  refine (hp _ hK.dw).mono ?_
  rintro e w2 ⟨rfl, ⟨cv2, hK2⟩, hc2⟩
  rw [KS.put_nil] at hK2
  refine ko hK' ⟨hK2.c2, hK2.c3⟩ (fun hHeld2 => ?_)
  clear hK'
  refine rd 10 rfl (fun K hK' => ?_)
  obtain ⟨o, hrun, hm⟩ := lupd hK2.mp l s.code.length
  go_simp
  obtain ⟨hK3, hc3⟩ := hK2.map hm
  refine ko hK' ⟨hK3.c2, hK3.c3⟩ (fun _ => ?_)
  refine dn ?_
  go_wp2_with fail
  go_end0
  exact ⟨rfl, ⟨_, _, hK3⟩, ((Ch.refl P w).dw.trans hc2).trans hc3⟩
set_option maxHeartbeats 2000000 in
/-- An instruction with a gap. -/
theorem putTo_any {l o a b c i : Int} (w : World) (hK : KB P q s cv gv w) (hb : s.code.length + 1 ≤ 1000000) :
    Calls Try.prog 62 #[.pointer (some ⟨q.g, 0, none⟩), .int .i64 l, .agg #[.int .u8 o, .int .u8 a, .int .u8 b, .int .u8 c, .int .u32 i]] w (KD P q (s.to l ⟨o, a, b, c, i⟩) w) := by
  have A0 := Arr.new w 108 #[.int .u8 o, .int .u8 a, .int .u8 b, .int .u8 c, .int .u32 i]
  have hK1 := hK.al (.cells #[.int .u8 o, .int .u8 a, .int .u8 b, .int .u8 c, .int .u32 i] 108)
  have hgl := hK.ar.lt
  obtain ⟨spg, cg, hgv⟩ := own_slc hK.og
  subst hgv
  have hw : IntKind.i64.wrap (s.code.length : Int) = s.code.length := by rw [IntKind.wrap_i64]; omega
  go_enter Try.func62, Try.ntmps62
  go_upto_region 1 with fail
  generalize hV : w.alloc (.cells #[.int .u8 o, .int .u8 a, .int .u8 b, .int .u8 c, .int .u32 i] 108) = V at *
  have hVw : Ch P w V := by rw [← hV]; exact (Ch.refl P w).al _
  generalize hbx : w.heap.size = bx at *
  have hbg : q.g ≠ bx := by omega
  clear hV hK
  generalize hPP : (fun k => P k ∧ k ≠ bx) = P' at *
  have hpt : ∀ k, P' k → P k := by rw [← hPP]; exact fun k h => h.1
  have hpx : ¬ P' bx := by rw [← hPP]; exact fun e => e.2 rfl
  have hcx : ∀ {u u' : World}, Ch P' u u' → Arr u bx 108 #[.int .u8 o, .int .u8 a, .int .u8 b, .int .u8 c, .int .u32 i] → Arr u' bx 108 #[.int .u8 o, .int .u8 a, .int .u8 b, .int .u8 c, .int .u32 i] := fun h h' => h.arr h' hpx
  have hSx : ∀ {s' : KS} {cv' gv' : Value} (u : World), KB P' q s' cv' gv' u → Arr u bx 108 #[.int .u8 o, .int .u8 a, .int .u8 b, .int .u8 c, .int .u32 i] → u.cell? ⟨q.g, 2, none⟩ = some (pF q.gc) ∧ u.cell? ⟨bx, 0, none⟩ = some (.int .u8 o) ∧ u.cell? ⟨bx, 1, none⟩ = some (.int .u8 a) ∧ u.cell? ⟨bx, 2, none⟩ = some (.int .u8 b) ∧ u.cell? ⟨bx, 3, none⟩ = some (.int .u8 c) ∧ u.cell? ⟨bx, 4, none⟩ = some (.int .u32 i) := fun u h A => ⟨h.c2, A.cell 0, A.cell 1, A.cell 2, A.cell 3, A.cell 4⟩
  refine rgn (fun u => u.cell? ⟨q.g, 2, none⟩ = some (pF q.gc) ∧ u.cell? ⟨bx, 0, none⟩ = some (.int .u8 o) ∧ u.cell? ⟨bx, 1, none⟩ = some (.int .u8 a) ∧ u.cell? ⟨bx, 2, none⟩ = some (.int .u8 b) ∧ u.cell? ⟨bx, 3, none⟩ = some (.int .u8 c) ∧ u.cell? ⟨bx, 4, none⟩ = some (.int .u32 i)) (hSx _ hK1.dw A0.drew) (fun hHeld => ?_)
  refine tk 0 rfl ?_ (hy := by (intro u hSw; obtain ⟨s1, s2, s3, s4, s5, s6⟩ := hSw; go_simp; try (with_reducible rfl)))
  refine tk 1 rfl ?_ (hy := by (intro u hSw; obtain ⟨s1, s2, s3, s4, s5, s6⟩ := hSw; go_simp; try (with_reducible rfl)))
  refine tk 2 rfl ?_ (hy := by (intro u hSw; obtain ⟨s1, s2, s3, s4, s5, s6⟩ := hSw; go_simp; try (with_reducible rfl)))
  refine tk 3 rfl ?_ (hy := by (intro u hSw; obtain ⟨s1, s2, s3, s4, s5, s6⟩ := hSw; go_simp; try (with_reducible rfl)))
  refine tk 5 rfl ?_ (hy := by (intro u hSw; obtain ⟨s1, s2, s3, s4, s5, s6⟩ := hSw; go_simp; try (with_reducible rfl)))
  refine tk 6 rfl ?_ (hy := by (intro u hSw; obtain ⟨s1, s2, s3, s4, s5, s6⟩ := hSw; go_simp; try (with_reducible rfl)))
  refine tk 7 rfl ?_ (hy := by (intro u hSw; obtain ⟨s1, s2, s3, s4, s5, s6⟩ := hSw; go_simp; try (with_reducible rfl)))
  refine tk 8 rfl ?_ (hy := by (intro u hSw; obtain ⟨s1, s2, s3, s4, s5, s6⟩ := hSw; go_simp; try (with_reducible rfl)))
  refine tk 9 rfl ?_ (hy := by (intro u hSw; obtain ⟨s1, s2, s3, s4, s5, s6⟩ := hSw; go_simp; try (with_reducible rfl)))
  refine tk 13 rfl ?_ (hy := by (intro u hSw; obtain ⟨s1, s2, s3, s4, s5, s6⟩ := hSw; go_simp; try (with_reducible rfl)))
  refine rd2 4 10 rfl rfl (fun K hK' => ?_) (fun K hK' => ?_)
  · have c4 := (hK1.dw).c4
    go_simp
    refine ko hK' (hSx _ (hK1.dw) (A0.drew)) (fun _ => ?_)
    clear hK' c4
    refine rd 10 rfl (fun K hK' => ?_)
    go_simp
    have hK2 := (hK1.al0 (.cells #[.int .u8 o, .int .u8 a, .int .u8 b, .int .u8 c, .int .u32 i] 108)).dw
    have A2 := (A0.alloc (.cells #[.int .u8 o, .int .u8 a, .int .u8 b, .int .u8 c, .int .u32 i] 108)).drew
    have R2 := (Arr.new V 108 #[.int .u8 o, .int .u8 a, .int .u8 b, .int .u8 c, .int .u32 i]).drew
    have hc2 : Ch P' V (V.alloc (.cells #[.int .u8 o, .int .u8 a, .int .u8 b, .int .u8 c, .int .u32 i] 108)).drew := ((Ch.refl P' V).al _).dw
    generalize hV2 : (V.alloc (.cells #[.int .u8 o, .int .u8 a, .int .u8 b, .int .u8 c, .int .u32 i] 108)).drew = V2 at *
    refine ko hK' (hSx _ hK2 A2) (fun _ => ?_)
    clear hK' hV2
    refine rd 11 rfl (fun K hK' => ?_)
    go_simp
    refine (put_any (l := [⟨o, a, b, c, i⟩]) V2 hK2 (CR.one R2) hb).mono ?_
    rintro e w3 ⟨rfl, ⟨cv3, hK3⟩, hc3⟩
    have A3 := hcx hc3 A2
    refine ko hK' (hSx _ hK3 A3) (fun _ => ?_)
    clear hK'
    refine tk 12 rfl ?_ (hy := by (intro u hSw; obtain ⟨s1, s2, s3, s4, s5, s6⟩ := hSw; go_simp; try (with_reducible rfl)))
    refine tk 14 rfl ?_ (hy := by (intro u hSw; obtain ⟨s1, s2, s3, s4, s5, s6⟩ := hSw; go_simp; try (with_reducible rfl)))
    refine rd 15 rfl (fun K hK' => ?_)
    go_simp
    have hK4 := hK3.al0 (.cells #[.int .i64 s.code.length, .int .i64 l] 105)
    have A4 := A3.alloc (.cells #[.int .i64 s.code.length, .int .i64 l] 105)
    have R4 := Arr.new w3 105 #[.int .i64 s.code.length, .int .i64 l]
    have hc4 : Ch P' w3 (w3.alloc (.cells #[.int .i64 s.code.length, .int .i64 l] 105)) := (Ch.refl P' w3).al _
    generalize hV4 : w3.alloc (.cells #[.int .i64 s.code.length, .int .i64 l] 105) = V4 at *
    refine ko hK' (hSx _ hK4 A4) (fun _ => ?_)
    clear hK' hV4
    refine rd 16 rfl (fun K hK' => ?_)
    rw [if_pos (by rfl)]
    refine wp_apG (.tmp 10) (.tmp 21) (by rfl) (.slice spg s.gaps.length cg) s.gaps ((s.code.length : Int), l) (by rfl) hK4.og _ _ (by rfl) 105 R4 (by have := hK4.le; simp [KS.put] at this; omega) ?_
    intro v5 w5 ho hg hne
    obtain ⟨hK5, hc5⟩ := hK4.gap ho hg hne (by have := hK1.le; simp [KS.put] at this ⊢; omega)
    obtain ⟨sp5, cp5, hv5⟩ := own_slc ho
    subst hv5
    have r5 : Arr w5 q.g 79 (kbA q (.slice spg s.gaps.length cg) s.nx) := (hg.block _ hK4.ar.lt (fun e => hK4.n3.1 e.symm)).trans hK4.ar
    have x5 : Arr w5 bx 108 #[.int .u8 o, .int .u8 a, .int .u8 b, .int .u8 c, .int .u32 i] := (hg.block _ A4.lt (fun e => hpx (hK4.pp bx e.symm))).trans A4
    refine ko hK' ⟨r5.cell 2, x5.cell 0, x5.cell 1, x5.cell 2, x5.cell 3, x5.cell 4⟩ (fun _ => ?_)
    clear hK'
    refine tk 17 rfl ?_ (hy := by (intro u hSw; obtain ⟨s1, s2, s3, s4, s5, s6⟩ := hSw; go_simp; try (with_reducible rfl)))
    refine tk 18 rfl ?_ (hy := by (intro u hSw; obtain ⟨s1, s2, s3, s4, s5, s6⟩ := hSw; go_simp; try (with_reducible rfl)))
    refine rd 19 rfl (fun K hK' => ?_)
    have c4' : w5.cell? ⟨q.g, 4, none⟩ = some (.slice spg s.gaps.length cg) := r5.cell 4
    have f4' := r5.frozen 4
    go_simp
    simp only [List.length_append, List.length_cons, List.length_nil, Nat.zero_add] at hK5 hc5
    have x6 := x5.setOther (a := ⟨q.g, 4, none⟩) (.slice sp5 (s.gaps.length + 1) cp5) (show bx ≠ q.g from hbg.symm)
    refine ko hK' ⟨hK5.c2, x6.cell 0, x6.cell 1, x6.cell 2, x6.cell 3, x6.cell 4⟩ (fun _ => ?_)
    refine dn ?_
    go_wp2_with fail
    go_end0
    exact ⟨rfl, ⟨_, _, hK5.wk hpt⟩, (((hVw.trans (hc2.mono fun k _ => hpt k)).trans (hc3.mono fun k _ => hpt k)).trans (hc4.mono fun k _ => hpt k)).trans (hc5.mono fun k _ => hpt k)⟩
  · go_simp
    have hK2 := (hK1.al0 (.cells #[.int .u8 o, .int .u8 a, .int .u8 b, .int .u8 c, .int .u32 i] 108)).dw
    have A2 := (A0.alloc (.cells #[.int .u8 o, .int .u8 a, .int .u8 b, .int .u8 c, .int .u32 i] 108)).drew
    have R2 := (Arr.new V 108 #[.int .u8 o, .int .u8 a, .int .u8 b, .int .u8 c, .int .u32 i]).drew
    have hc2 : Ch P' V (V.alloc (.cells #[.int .u8 o, .int .u8 a, .int .u8 b, .int .u8 c, .int .u32 i] 108)).drew := ((Ch.refl P' V).al _).dw
    generalize hV2 : (V.alloc (.cells #[.int .u8 o, .int .u8 a, .int .u8 b, .int .u8 c, .int .u32 i] 108)).drew = V2 at *
    refine ko hK' (hSx _ hK2 A2) (fun _ => ?_)
    clear hK' hV2
    refine rd2 4 11 rfl rfl (fun K hK' => ?_) (fun K hK' => ?_)
    · have c4 := (hK2).c4
      go_simp
      refine ko hK' (hSx _ (hK2) (A2)) (fun _ => ?_)
      clear hK' c4
      refine rd 11 rfl (fun K hK' => ?_)
      go_simp
      refine (put_any (l := [⟨o, a, b, c, i⟩]) V2 hK2 (CR.one R2) hb).mono ?_
      rintro e w3 ⟨rfl, ⟨cv3, hK3⟩, hc3⟩
      have A3 := hcx hc3 A2
      refine ko hK' (hSx _ hK3 A3) (fun _ => ?_)
      clear hK'
      refine tk 12 rfl ?_ (hy := by (intro u hSw; obtain ⟨s1, s2, s3, s4, s5, s6⟩ := hSw; go_simp; try (with_reducible rfl)))
      refine tk 14 rfl ?_ (hy := by (intro u hSw; obtain ⟨s1, s2, s3, s4, s5, s6⟩ := hSw; go_simp; try (with_reducible rfl)))
      refine rd 15 rfl (fun K hK' => ?_)
      go_simp
      have hK4 := hK3.al0 (.cells #[.int .i64 s.code.length, .int .i64 l] 105)
      have A4 := A3.alloc (.cells #[.int .i64 s.code.length, .int .i64 l] 105)
      have R4 := Arr.new w3 105 #[.int .i64 s.code.length, .int .i64 l]
      have hc4 : Ch P' w3 (w3.alloc (.cells #[.int .i64 s.code.length, .int .i64 l] 105)) := (Ch.refl P' w3).al _
      generalize hV4 : w3.alloc (.cells #[.int .i64 s.code.length, .int .i64 l] 105) = V4 at *
      refine ko hK' (hSx _ hK4 A4) (fun _ => ?_)
      clear hK' hV4
      refine rd 16 rfl (fun K hK' => ?_)
      rw [if_pos (by rfl)]
      refine wp_apG (.tmp 10) (.tmp 21) (by rfl) (.slice spg s.gaps.length cg) s.gaps ((s.code.length : Int), l) (by rfl) hK4.og _ _ (by rfl) 105 R4 (by have := hK4.le; simp [KS.put] at this; omega) ?_
      intro v5 w5 ho hg hne
      obtain ⟨hK5, hc5⟩ := hK4.gap ho hg hne (by have := hK1.le; simp [KS.put] at this ⊢; omega)
      obtain ⟨sp5, cp5, hv5⟩ := own_slc ho
      subst hv5
      have r5 : Arr w5 q.g 79 (kbA q (.slice spg s.gaps.length cg) s.nx) := (hg.block _ hK4.ar.lt (fun e => hK4.n3.1 e.symm)).trans hK4.ar
      have x5 : Arr w5 bx 108 #[.int .u8 o, .int .u8 a, .int .u8 b, .int .u8 c, .int .u32 i] := (hg.block _ A4.lt (fun e => hpx (hK4.pp bx e.symm))).trans A4
      refine ko hK' ⟨r5.cell 2, x5.cell 0, x5.cell 1, x5.cell 2, x5.cell 3, x5.cell 4⟩ (fun _ => ?_)
      clear hK'
      refine tk 17 rfl ?_ (hy := by (intro u hSw; obtain ⟨s1, s2, s3, s4, s5, s6⟩ := hSw; go_simp; try (with_reducible rfl)))
      refine tk 18 rfl ?_ (hy := by (intro u hSw; obtain ⟨s1, s2, s3, s4, s5, s6⟩ := hSw; go_simp; try (with_reducible rfl)))
      refine rd 19 rfl (fun K hK' => ?_)
      have c4' : w5.cell? ⟨q.g, 4, none⟩ = some (.slice spg s.gaps.length cg) := r5.cell 4
      have f4' := r5.frozen 4
      go_simp
      simp only [List.length_append, List.length_cons, List.length_nil, Nat.zero_add] at hK5 hc5
      have x6 := x5.setOther (a := ⟨q.g, 4, none⟩) (.slice sp5 (s.gaps.length + 1) cp5) (show bx ≠ q.g from hbg.symm)
      refine ko hK' ⟨hK5.c2, x6.cell 0, x6.cell 1, x6.cell 2, x6.cell 3, x6.cell 4⟩ (fun _ => ?_)
      refine dn ?_
      go_wp2_with fail
      go_end0
      exact ⟨rfl, ⟨_, _, hK5.wk hpt⟩, (((hVw.trans (hc2.mono fun k _ => hpt k)).trans (hc3.mono fun k _ => hpt k)).trans (hc4.mono fun k _ => hpt k)).trans (hc5.mono fun k _ => hpt k)⟩
    · go_simp
      refine (put_any (l := [⟨o, a, b, c, i⟩]) V2 hK2 (CR.one R2) hb).mono ?_
      rintro e w3 ⟨rfl, ⟨cv3, hK3⟩, hc3⟩
      have A3 := hcx hc3 A2
      refine ko hK' (hSx _ hK3 A3) (fun _ => ?_)
      clear hK'
      refine tk 12 rfl ?_ (hy := by (intro u hSw; obtain ⟨s1, s2, s3, s4, s5, s6⟩ := hSw; go_simp; try (with_reducible rfl)))
      refine tk 14 rfl ?_ (hy := by (intro u hSw; obtain ⟨s1, s2, s3, s4, s5, s6⟩ := hSw; go_simp; try (with_reducible rfl)))
      refine rd2 4 15 rfl rfl (fun K hK' => ?_) (fun K hK' => ?_)
      · have c4 := (hK3).c4
        go_simp
        refine ko hK' (hSx _ (hK3) (A3)) (fun _ => ?_)
        clear hK' c4
        refine rd 15 rfl (fun K hK' => ?_)
        go_simp
        have hK4 := hK3.al0 (.cells #[.int .i64 s.code.length, .int .i64 l] 105)
        have A4 := A3.alloc (.cells #[.int .i64 s.code.length, .int .i64 l] 105)
        have R4 := Arr.new w3 105 #[.int .i64 s.code.length, .int .i64 l]
        have hc4 : Ch P' w3 (w3.alloc (.cells #[.int .i64 s.code.length, .int .i64 l] 105)) := (Ch.refl P' w3).al _
        generalize hV4 : w3.alloc (.cells #[.int .i64 s.code.length, .int .i64 l] 105) = V4 at *
        refine ko hK' (hSx _ hK4 A4) (fun _ => ?_)
        clear hK' hV4
        refine rd 16 rfl (fun K hK' => ?_)
        rw [if_pos (by rfl)]
        refine wp_apG (.tmp 10) (.tmp 21) (by rfl) (.slice spg s.gaps.length cg) s.gaps ((s.code.length : Int), l) (by rfl) hK4.og _ _ (by rfl) 105 R4 (by have := hK4.le; simp [KS.put] at this; omega) ?_
        intro v5 w5 ho hg hne
        obtain ⟨hK5, hc5⟩ := hK4.gap ho hg hne (by have := hK1.le; simp [KS.put] at this ⊢; omega)
        obtain ⟨sp5, cp5, hv5⟩ := own_slc ho
        subst hv5
        have r5 : Arr w5 q.g 79 (kbA q (.slice spg s.gaps.length cg) s.nx) := (hg.block _ hK4.ar.lt (fun e => hK4.n3.1 e.symm)).trans hK4.ar
        have x5 : Arr w5 bx 108 #[.int .u8 o, .int .u8 a, .int .u8 b, .int .u8 c, .int .u32 i] := (hg.block _ A4.lt (fun e => hpx (hK4.pp bx e.symm))).trans A4
        refine ko hK' ⟨r5.cell 2, x5.cell 0, x5.cell 1, x5.cell 2, x5.cell 3, x5.cell 4⟩ (fun _ => ?_)
        clear hK'
        refine tk 17 rfl ?_ (hy := by (intro u hSw; obtain ⟨s1, s2, s3, s4, s5, s6⟩ := hSw; go_simp; try (with_reducible rfl)))
        refine tk 18 rfl ?_ (hy := by (intro u hSw; obtain ⟨s1, s2, s3, s4, s5, s6⟩ := hSw; go_simp; try (with_reducible rfl)))
        refine rd 19 rfl (fun K hK' => ?_)
        have c4' : w5.cell? ⟨q.g, 4, none⟩ = some (.slice spg s.gaps.length cg) := r5.cell 4
        have f4' := r5.frozen 4
        go_simp
        simp only [List.length_append, List.length_cons, List.length_nil, Nat.zero_add] at hK5 hc5
        have x6 := x5.setOther (a := ⟨q.g, 4, none⟩) (.slice sp5 (s.gaps.length + 1) cp5) (show bx ≠ q.g from hbg.symm)
        refine ko hK' ⟨hK5.c2, x6.cell 0, x6.cell 1, x6.cell 2, x6.cell 3, x6.cell 4⟩ (fun _ => ?_)
        refine dn ?_
        go_wp2_with fail
        go_end0
        exact ⟨rfl, ⟨_, _, hK5.wk hpt⟩, (((hVw.trans (hc2.mono fun k _ => hpt k)).trans (hc3.mono fun k _ => hpt k)).trans (hc4.mono fun k _ => hpt k)).trans (hc5.mono fun k _ => hpt k)⟩
      · go_simp
        have hK4 := hK3.al0 (.cells #[.int .i64 s.code.length, .int .i64 l] 105)
        have A4 := A3.alloc (.cells #[.int .i64 s.code.length, .int .i64 l] 105)
        have R4 := Arr.new w3 105 #[.int .i64 s.code.length, .int .i64 l]
        have hc4 : Ch P' w3 (w3.alloc (.cells #[.int .i64 s.code.length, .int .i64 l] 105)) := (Ch.refl P' w3).al _
        generalize hV4 : w3.alloc (.cells #[.int .i64 s.code.length, .int .i64 l] 105) = V4 at *
        refine ko hK' (hSx _ hK4 A4) (fun _ => ?_)
        clear hK' hV4
        refine rd 4 rfl (fun K hK' => ?_)
        have c4 := (hK4).c4
        go_simp
        refine ko hK' (hSx _ (hK4) (A4)) (fun _ => ?_)
        clear hK' c4
        refine rd 16 rfl (fun K hK' => ?_)
        rw [if_pos (by rfl)]
        refine wp_apG (.tmp 10) (.tmp 21) (by rfl) (.slice spg s.gaps.length cg) s.gaps ((s.code.length : Int), l) (by rfl) hK4.og _ _ (by rfl) 105 R4 (by have := hK4.le; simp [KS.put] at this; omega) ?_
        intro v5 w5 ho hg hne
        obtain ⟨hK5, hc5⟩ := hK4.gap ho hg hne (by have := hK1.le; simp [KS.put] at this ⊢; omega)
        obtain ⟨sp5, cp5, hv5⟩ := own_slc ho
        subst hv5
        have r5 : Arr w5 q.g 79 (kbA q (.slice spg s.gaps.length cg) s.nx) := (hg.block _ hK4.ar.lt (fun e => hK4.n3.1 e.symm)).trans hK4.ar
        have x5 : Arr w5 bx 108 #[.int .u8 o, .int .u8 a, .int .u8 b, .int .u8 c, .int .u32 i] := (hg.block _ A4.lt (fun e => hpx (hK4.pp bx e.symm))).trans A4
        refine ko hK' ⟨r5.cell 2, x5.cell 0, x5.cell 1, x5.cell 2, x5.cell 3, x5.cell 4⟩ (fun _ => ?_)
        clear hK'
        refine tk 17 rfl ?_ (hy := by (intro u hSw; obtain ⟨s1, s2, s3, s4, s5, s6⟩ := hSw; go_simp; try (with_reducible rfl)))
        refine tk 18 rfl ?_ (hy := by (intro u hSw; obtain ⟨s1, s2, s3, s4, s5, s6⟩ := hSw; go_simp; try (with_reducible rfl)))
        refine rd 19 rfl (fun K hK' => ?_)
        have c4' : w5.cell? ⟨q.g, 4, none⟩ = some (.slice spg s.gaps.length cg) := r5.cell 4
        have f4' := r5.frozen 4
        go_simp
        simp only [List.length_append, List.length_cons, List.length_nil, Nat.zero_add] at hK5 hc5
        have x6 := x5.setOther (a := ⟨q.g, 4, none⟩) (.slice sp5 (s.gaps.length + 1) cp5) (show bx ≠ q.g from hbg.symm)
        refine ko hK' ⟨hK5.c2, x6.cell 0, x6.cell 1, x6.cell 2, x6.cell 3, x6.cell 4⟩ (fun _ => ?_)
        refine dn ?_
        go_wp2_with fail
        go_end0
        exact ⟨rfl, ⟨_, _, hK5.wk hpt⟩, (((hVw.trans (hc2.mono fun k _ => hpt k)).trans (hc3.mono fun k _ => hpt k)).trans (hc4.mono fun k _ => hpt k)).trans (hc5.mono fun k _ => hpt k)⟩
end Go.Proofs.Ytimmiidkjpbffaa
/- Layer compile: slots, variables, data words, probes. -/
namespace Go.Proofs.Ytimmiidkjpbffaa
open Go.RowKit
set_option maxRecDepth 100000
set_option linter.unusedVariables false
set_option linter.unusedSimpArgs false

variable {P : Nat → Prop} {q : KQ} {s : KS} {N : Nat}
/-- The functions' first slots in memory. -/
def KF (P : Nat → Prop) (q : KQ) (w : World) : Prop := ∃ gf cap, q.fv = .slice (some ⟨gf, 0, none⟩) q.E.fr.length cap ∧ gf < w.heap.size ∧ ¬ P gf ∧ ∀ i x, q.E.fr[i]? = some x → w.cell? ⟨gf, i, none⟩ = some (.int .i64 x)
/-- All that a method of the builder wants. -/
structure KK (N : Nat) (P : Nat → Prop) (q : KQ) (s : KS) (w : World) : Prop where
  b : ∃ cv gv, KB P q s cv gv w
  f : KF P q w
  n : ∀ k, k < N → k < w.heap.size ∧ ¬ P k
theorem KF.ch {w w' : World} (h : KF P q w) (hc : Ch P w w') : KF P q w' :=
  let ⟨gf, cap, h1, h2, h3, h4⟩ := h
  ⟨gf, cap, h1, Nat.lt_of_lt_of_le h2 hc.size, h3, fun i x hx => (World.cell?_of_block (a := ⟨gf, i, none⟩) (hc.block gf h2 h3)).trans (h4 i x hx)⟩
theorem KK.next {s' : KS} {cv gv : Value} {w w' : World} (h : KK N P q s w) (hb : KB P q s' cv gv w') (hc : Ch P w w') : KK N P q s' w' :=
  ⟨⟨_, _, hb⟩, h.f.ch hc, fun k hk => ⟨Nat.lt_of_lt_of_le (h.n k hk).1 hc.size, (h.n k hk).2⟩⟩
theorem KK.al {w : World} (h : KK N P q s w) (o : Obj) : KK N (fun k => P k ∧ k ≠ w.heap.size) q s (w.alloc o) :=
  let ⟨cv, gv, hb⟩ := h.b
  let ⟨gf, cap, h1, h2, h3, h4⟩ := h.f
  ⟨⟨cv, gv, hb.al o⟩, ⟨gf, cap, h1, by simp; omega, fun e => h3 e.1, fun i x hx => (World.cell?_of_block (a := ⟨gf, i, none⟩) (heap_alloc_old w o h2)).trans (h4 i x hx)⟩, fun k hk => ⟨by have := (h.n k hk).1; simp; omega, fun e => (h.n k hk).2 e.1⟩⟩
theorem KK.al0 {w : World} (h : KK N P q s w) (o : Obj) : KK N P q s (w.alloc o) :=
  let ⟨cv, gv, hb⟩ := h.b
  h.next (hb.al0 o) ((Ch.refl P w).al o)
theorem KK.dw {w : World} (h : KK N P q s w) : KK N P q s w.drew :=
  let ⟨cv, gv, hb⟩ := h.b
  h.next hb.dw (Ch.refl P w).dw
theorem KK.dwN {w : World} (h : KK N P q s w) (n : Nat) : KK N P q s (w.drewN n) :=
  let ⟨cv, gv, hb⟩ := h.b
  h.next (hb.dwN n) ((Ch.refl P w).dwN n)
theorem KK.bel {w w' : World} (h : KK N P q s w) (hc : Ch P w w') : Below N w w' := hc.bl h.n
theorem KK.g {w : World} (h : KK N P q s w) : q.g < w.heap.size := let ⟨cv, gv, hb⟩ := h.b; hb.ar.lt
/-- What a call of a method leaves, that answers nothing. -/
def KZ (N : Nat) (P : Nat → Prop) (q : KQ) (s : KS) (w : World) (e : Ending) (w' : World) : Prop := e = .returned (.tuple #[]) ∧ KK N P q s w' ∧ Ch P w w'
theorem KK.up {w w' : World} {s' : KS} {b : Nat} (h : KK N P q s w) (h' : KK N (fun k => P k ∧ k ≠ b) q s' w') (hc : Ch P w w') : KK N P q s' w' :=
  let ⟨cv, gv, hb⟩ := h'.b
  h.next (hb.wk fun k e => e.1) hc
theorem KD.kz {w w' : World} {s' : KS} {e : Ending} (h : KK N P q s w) (hd : KD P q s' w e w') : KZ N P q s' w e w' :=
  let ⟨cv, gv, hb⟩ := hd.2.1
  ⟨hd.1, h.next hb hd.2.2, hd.2.2⟩
theorem putTo_k {l o a b c i : Int} (w : World) (hK : KK N P q s w) (hb : s.code.length + 1 ≤ 1000000) :
    Calls Try.prog 62 #[.pointer (some ⟨q.g, 0, none⟩), .int .i64 l, .agg #[.int .u8 o, .int .u8 a, .int .u8 b, .int .u8 c, .int .u32 i]] w (KZ N P q (s.to l ⟨o, a, b, c, i⟩) w) := by
  obtain ⟨cv, gv, hB⟩ := hK.b
  exact (putTo_any w hB hb).mono fun e w' h => KD.kz hK h
theorem here_k {l : Int} (w : World) (hK : KK N P q s w) (hb : s.code.length ≤ 1000000) :
    Calls Try.prog 64 #[.pointer (some ⟨q.g, 0, none⟩), .int .i64 l] w (KZ N P q (s.here l) w) := by
  obtain ⟨cv, gv, hB⟩ := hK.b
  exact (here_any w hB hb).mono fun e w' h => KD.kz hK h
theorem fresh_k (w : World) (hK : KK N P q s w) (h0 : 0 ≤ s.nx) (h1 : s.nx ≤ 1000000) :
    Calls Try.prog 85 #[.pointer (some ⟨q.g, 0, none⟩)] w fun e w' => e = .returned (.int .i64 s.nx) ∧ KK N P q s.fresh w' ∧ Ch P w w' := by
  obtain ⟨cv, gv, hB⟩ := hK.b
  exact (fresh_any w hB h0 h1).mono fun e w' h => ⟨h.1, hK.next h.2.1 h.2.2, h.2.2⟩
theorem put_k {sp : Option Addr} {m cap : Nat} {l : List KI} (w : World) (hK : KK N P q s w) (hm : CR w sp m cap l) (hb : s.code.length + l.length ≤ 1000000) :
    Calls Try.prog 29 #[.slice sp m cap, .pointer (some ⟨q.gc, 0, none⟩)] w fun e w' => e = .returned (.int .i64 ((s.code.length : Int) + l.length)) ∧ KK N P q (s.put l) w' ∧ Ch P w w' := by
  obtain ⟨cv, gv, hB⟩ := hK.b
  refine (put_any w hB hm hb).mono fun e w' h => ?_
  obtain ⟨h1, ⟨cv', h2⟩, h3⟩ := h
  exact ⟨h1, hK.next h2 h3, h3⟩
theorem slot_any {o r n : Int} (w : World) (hK : KK N P q s w) (hb : s.code.length + 1 ≤ 1000000) (hn : 0 ≤ n ∧ n ≤ 1000000) :
    Calls Try.prog 65 #[.pointer (some ⟨q.g, 0, none⟩), .int .u8 o, .int .u8 r, .int .i64 n] w (KZ N P q (kSlot o r n s) w) := by
  have hw : IntKind.u32.wrap n = n := by simp only [IntKind.wrap]; first | omega | (simp [IntKind.bits, IntKind.signed]; omega)
  have hp := putTo_k (l := 32) (o := o) (a := r) (b := 0) (c := 0) (i := n) w hK hb
  replace hK := hid hK
  replace hp := hid hp
  go_enter Try.func65, Try.ntmps65
  go_wp2_with (go_at_call 62; go_must (refine hp.out.mono ?_; rintro e w1 ⟨rfl, hK1, hc1⟩))
  go_end0
  exact ⟨rfl, hK1, hc1⟩
theorem home_any {f v x : Int} {j : Nat} (w : World) (hK : KK N P q s w) (hf : f = (j : Int)) (hx : q.E.fr[j]? = some x) (hx0 : 0 ≤ x ∧ x ≤ 100000) (hv : 0 ≤ v ∧ v ≤ 64) :
    Calls Try.prog 66 #[.pointer (some ⟨q.g, 0, none⟩), .int .i64 f, .int .i64 v] w fun e w' => e = .returned (.int .i64 (kHome q.E f v)) ∧ w' = w := by
  subst hf
  obtain ⟨cv, gv, hB⟩ := hK.b
  obtain ⟨gf, cap, h1, h2, h3, h4⟩ := hK.f
  have hj := (List.getElem?_eq_some_iff.1 hx).1
  have c6 := hB.c6
  rw [h1] at c6
  have cx := h4 j x hx
  have hR : kHome q.E j v = x + 1 + v := by unfold kHome; rw [List.getD_eq_getElem?_getD, show ((j : Int)).toNat = j by omega, hx]; rfl
  rw [hR]
  have hw : IntKind.i64.wrap (x + 1) = x + 1 := by rw [IntKind.wrap_i64]; omega
  have hw2 : IntKind.i64.wrap (x + 1 + v) = x + 1 + v := by rw [IntKind.wrap_i64]; omega
  generalize q.E.fr.length = n at *
  clear hB hK h1 h4 hx hR
  have hjn : (j : Int) < n := by omega
  go_enter Try.func66, Try.ntmps66
  go_wp2_with fail
  go_ret
  exact ⟨rfl, rfl⟩
end Go.Proofs.Ytimmiidkjpbffaa

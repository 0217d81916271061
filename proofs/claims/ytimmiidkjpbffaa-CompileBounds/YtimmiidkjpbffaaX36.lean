/- Layer compile: Start, of the program. -/
import Derived.Test.YtimmiidkjpbffaaX35
import Derived.Handy
import Derived.BigQuiet
import Derived.BigRegion
import Derived.Great.BuildSlice
namespace Go.Proofs.Ytimmiidkjpbffaa
open Go.RowKit
set_option maxRecDepth 100000
set_option linter.unusedVariables false
set_option linter.unusedSimpArgs false


/-- The machine that an image begins as, and the error. -/
def iSOk (L : List Int) (b d : Int) (k : Nat) : Bool := imOk L.length b d && decide ((k : Int) ≤ d)
def iSM (L : List Int) (b d : Int) (ds : List Int) : Mc := if iSOk L b d ds.length = true then { zM with me := spL L b.toNat d.toNat (fun j => ds.getD j 0) } else zM
def iSE (L : List Int) (b d : Int) (ds : List Int) : Int := if iSOk L b d ds.length = true then 0 else 2
/-- What Start comes to. -/
def IsP (L : List Int) (b d : Int) (ds : List Int) (w : World) (e : Ending) (w' : World) : Prop :=
  ∃ sp n cap, e = .returned (.tuple #[.agg (mcA (iSM L b d ds) sp n cap), .int .i64 (iSE L b d ds)]) ∧ MS w'.heap.size w' sp n cap (iSM L b d ds).me ∧ (0 < n → ∃ gm, sp = some ⟨gm, 0, none⟩ ∧ w.heap.size ≤ gm ∧ MW w' gm (iSM L b d ds).me) ∧ Below w.heap.size w w'
theorem isNo {L : List Int} {b d : Int} {ds : List Int} {w w' : World} (h : iSOk L b d ds.length = false) (hb : Below w.heap.size w w') : IsP L b d ds w (.returned (.tuple #[.agg (mcA zM none 0 0), .int .i64 2])) w' := by
  have h1 : iSM L b d ds = zM := by unfold iSM; rw [h]; rfl
  have h2 : iSE L b d ds = 2 := by unfold iSE; rw [h]; rfl
  refine ⟨none, 0, 0, by rw [h1, h2], ?_, fun h => by omega, hb⟩
  rw [h1]
  exact MS.nil0 _ _
theorem isYes {L : List Int} {b d : Nat} {ds : List Int} {w w' : World} {gm cap : Nat} (h : iSOk L b d ds.length = true) (hb : Below w.heap.size w w') (hg : w.heap.size ≤ gm) (hc : L.length ≤ cap ∧ cap ≤ 9223372036854775807) (hl : L.length ≤ 4096) (hM : MW w' gm (spL L b d (fun j => ds.getD j 0))) :
    IsP L b d ds w (.returned (.tuple #[.agg (mcA { zM with me := spL L b d (fun j => ds.getD j 0) } (some ⟨gm, 0, none⟩) L.length cap), .int .i64 0])) w' := by
  have h1 : iSM L b d ds = { zM with me := spL L b d (fun j => ds.getD j 0) } := by unfold iSM; rw [h]; rfl
  have h2 : iSE L b d ds = 0 := by unfold iSE; rw [h]; rfl
  refine ⟨some ⟨gm, 0, none⟩, L.length, cap, by rw [h1, h2], ?_, fun _ => ⟨gm, rfl, hg, ?_⟩, hb⟩
  · rw [h1]; exact hM.ms (spL_len _ _ _ _).symm (by omega) hc
  · rw [h1]; exact hM
set_option maxHeartbeats 2000000 in
theorem start6_any {N : Nat} (L ds : List Int) (b d : Int) (sp : Option Addr) (n cap : Nat) (sq : Option Addr) (nd cd : Nat) (w : World) (hM : MS N w sp n cap L) (hD : MS N w sq nd cd ds) (hb : -9223372036854775808 ≤ b ∧ b ≤ 9223372036854775807) (hd : -9223372036854775808 ≤ d ∧ d ≤ 9223372036854775807) :
    Calls Try.prog 6 #[.agg #[.slice sp n cap, .int .i64 b, .int .i64 d], .slice sq nd cd] w (IsP L b d ds w) := by
  have A0 := (Arr.new w 24 #[.slice sp n cap, .int .i64 b, .int .i64 d]).alloc (.cells (mcA zM none 0 0) 29)
  have A1 := Arr.new (w.alloc (.cells #[.slice sp n cap, .int .i64 b, .int .i64 d] 24)) 29 (mcA zM none 0 0)
  simp only [World.size_alloc] at A1
  have hsz := mcA_size zM_ok.r16 none 0 0
  have hoz := mcA_one zM none 0 0
  have hb0 := (alloc_bel' w (.cells #[.slice sp n cap, .int .i64 b, .int .i64 d] 24)).alloc (by simp) (.cells (mcA zM none 0 0) 29)
  have hl := hM.len.out
  have hld := hD.len.out
  have hns := hM.small
  have hnds := hD.small
  have hmay : ∀ U, Calls Try.prog 19 #[.agg #[.slice sp n cap, .int .i64 b, .int .i64 d]] U fun e w' => e = .returned (.bool (imOk n b d)) ∧ Below U.heap.size U w' := fun U => may19_any sp n cap b d U hns hb hd
  have a0 := A0.cell 0
  have a1 := A0.cell 1
  have a2 := A0.cell 2
  cases him : imOk n b d with
  | false =>

    have hno : ∀ w', Below w.heap.size w w' → IsP L b d ds w (.returned (.tuple #[.agg (mcA zM none 0 0), .int .i64 2])) w' := fun w' h => isNo (by unfold iSOk; rw [← hl, him]; rfl) h
    rw [him] at hmay
    replace hno := hid hno
    clear him hl hld hM hD
    go_enter Try.func6, Try.ntmps6
    go_wp2_with (go_at_call 19; refine (hmay _).mono ?_; rintro e w1 ⟨rfl, hb1⟩; have B1 := hb0.trans (hb1.mono (by simp; omega)); have A11 := A1.bl hb1; clear a0 a1 a2; go_wp2_with (refine st45 (by rfl) (.tmp 4) (.tmp 18) (by rfl) (w.heap.size + 1) (mcA zM none 0 0) (by rfl) (by rfl) hsz hoz _ hsz A11 ?_))
    exact bodyPost_ret (v := .tuple #[.agg (mcA zM none 0 0), .int .i64 2]) (res45b Try.results6 rfl rfl hsz (A11.setRow _)) rfl (hno.out _ (below_setRow B1 (by omega) _))
  | true =>
    obtain ⟨hs, hr⟩ : szB n = true ∧ 0 ≤ d ∧ 0 ≤ b ∧ b ≤ n - d := by
      unfold imOk at him
      obtain ⟨h1, h2⟩ := Bool.and_eq_true_iff.1 him
      exact ⟨h1, of_decide_eq_true h2⟩
    have hn4 := szB_le hs
    obtain ⟨bN, rfl⟩ : ∃ k : Nat, b = k := ⟨b.toNat, by omega⟩
    obtain ⟨dN, rfl⟩ : ∃ k : Nat, d = k := ⟨d.toNat, by omega⟩
    rw [him] at hmay
    by_cases hle : nd ≤ dN
    · have hyes : ∀ w' gm cap, Below w.heap.size w w' → w.heap.size ≤ gm → n ≤ cap ∧ cap ≤ 9223372036854775807 → MW w' gm (spL L bN dN (fun j => ds.getD j 0)) → IsP L bN dN ds w (.returned (.tuple #[.agg (mcA { zM with me := spL L bN dN (fun j => ds.getD j 0) } (some ⟨gm, 0, none⟩) n cap), .int .i64 0])) w' := fun w' gm cap h1 h2 h3 h4 => by
        have := isYes (L := L) (b := bN) (d := dN) (ds := ds) (by unfold iSOk; rw [← hl, him, ← hld]; simpa using hle) h1 h2 (by rw [← hl]; exact h3) (by omega) h4
        rw [← hl] at this
        exact this
      have hclone := fun (U : World) (hU : MS w.heap.size U sp n cap L) => clone64_any sp n cap L w.heap.size U hU (by omega)
      have hMs := hM.here
      have hDs := hD.here
      have hfit : bN + dN ≤ n := by omega
      have htwo := hid (spL_two (L := L) (b := bN) (d := dN) (ds := ds) (by omega) (by omega))
      replace hl := hid hl
      replace hld := hid hld
      have hle' : ¬ ((dN : Int) < nd) := by omega
      have hsw := fun (gm cp : Nat) (X : List Int) => mcA_size (m := { zM with me := X }) zM_ok.r16 (some ⟨gm, 0, none⟩) n cp
      have how := fun (gm cp : Nat) (X : List Int) => mcA_one { zM with me := X } (some ⟨gm, 0, none⟩) n cp
      replace hyes := hid hyes
      clear him hr hs hM hD hb hd
      go_enter Try.func6, Try.ntmps6
      go_upto_region 3 with (go_at_call 19; go_must (refine (hmay _).mono ?_; rintro e w1 ⟨rfl, hb1⟩; have B1 := hb0.trans (hb1.mono (by simp; omega)); have A01 := A0.bl hb1; have A11 := A1.bl hb1; have c0 := A01.cell 0; have c1 := A01.cell 1; have c2 := A01.cell 2; clear a0 a1 a2 hmay))
      go_upto_region 4 with (go_at_call 20; go_must (refine (hclone _ (hMs.below B1)).mono ?_; rintro e w2 ⟨gm, cap', rfl, hgm, hc1, hc2, hMW, hb2⟩; have B2 := B1.trans (hb2.mono B1.size); have A02 := A01.bl hb2; have A12 := A11.bl hb2; clear c0 c1 c2 hclone; have c0 := A02.cell 0; have c1 := A02.cell 1; have c2 := A02.cell 2))
      by_cases hcb : cap' = bN
      · have hd0 : dN = 0 := by omega
        have hn0 : nd = 0 := by omega
        subst hcb
        subst hd0
        subst hn0
        go_upto_region 5 with fail
        go_upto_region 6 with (first
          | (refine copy_mw (by rfl) (.tmp 32) (.tmp 33) (by rfl) gm 0 0 _ (by rfl) sq 0 cd (by rfl) hMW (hDs.below B2) (Nat.le_refl _) (Nat.zero_le _) ?_; intro W hMW2 hch)
          | (refine clear_mw (by rfl) (.tmp 35) (by rfl) gm 0 0 _ (by rfl) hMW2 (Nat.zero_le _) ?_; intro W2 hMW3 hch2))
        · rw [← hld.out, spL_zero, spL_zero, ← spL_zero L cap' (fun j => ds.getD j 0)] at hMW3

          have hs1 := hb1.size
          simp only [World.size_alloc] at hs1
          have hne : ¬ (w.heap.size + 1 = gm) := by omega
          have A3 := (hch.trans hch2).arr A12 hne
          have B3 := B2.trans ((hch.trans hch2).bl (N := w.heap.size) (fun i hi => ⟨by have := B2.size; omega, by omega⟩))
          clear hb1 hb2 hb0 A01 A11 A0 A1 hch hch2 hMW hMW2 A12 A02 c0 c1 c2
          go_wp2_with (first
            | (refine wpList_plain (by rfl) fun K hK => wp_bdT 29 #[(3, .tmp 36)] (by rfl) (by rfl) (built45 (some ⟨gm, 0, none⟩) n cap' (spL L cap' 0 (fun j => ds.getD j 0))) (hK _ _ ?_))
            | (refine st45 (by rfl) (.tmp 4) (.tmp 37) (by rfl) (w.heap.size + 1) (mcA { zM with me := spL L cap' 0 (fun j => ds.getD j 0) } (some ⟨gm, 0, none⟩) n cap') (by rfl) (by rfl) (hsw gm cap' _) (how gm cap' _) _ hsz A3 ?_))
          exact bodyPost_ret (v := .tuple #[.agg (mcA { zM with me := spL L cap' 0 (fun j => ds.getD j 0) } (some ⟨gm, 0, none⟩) n cap'), .int .i64 0]) (res45b Try.results6 rfl rfl (hsw gm cap' _) (A3.setRow _)) rfl (hyes.out _ gm cap' (below_setRow B3 (by omega) _) (by omega) ⟨hc1, hc2⟩ (hMW3.block (setRow_other _ _ _ _ (by omega))))

      · go_upto_region 5 with fail
        simp only [Nat.add_sub_cancel_left]
        by_cases hcn : cap' - bN = nd
        · have hdn : dN - nd = 0 := by omega
          go_upto_region 6 with (first
            | (refine copy_mw (by rfl) (.tmp 32) (.tmp 33) (by rfl) gm bN dN _ (by rfl) sq nd cd (by rfl) hMW (hDs.below B2) hle (by rw [← hl.out]; exact hfit) ?_; intro W hMW2 hch)
            | (refine clear_mw (by rfl) (.tmp 35) (by rfl) gm bN 0 _ (by rfl) hMW2 (by rw [spL_len, ← hl.out]; omega) ?_; intro W2 hMW3 hch2))
          have hMW3 : MW W2 gm (spL L bN dN (fun j => ds.getD j 0)) := by
            rw [spL_zero] at hMW3
            rw [← hld.out, show nd = dN by omega] at hMW3
            exact hMW3

          have hs1 := hb1.size
          simp only [World.size_alloc] at hs1
          have hne : ¬ (w.heap.size + 1 = gm) := by omega
          have A3 := (hch.trans hch2).arr A12 hne
          have B3 := B2.trans ((hch.trans hch2).bl (N := w.heap.size) (fun i hi => ⟨by have := B2.size; omega, by omega⟩))
          clear hb1 hb2 hb0 A01 A11 A0 A1 hch hch2 hMW hMW2 A12 A02 c0 c1 c2
          go_wp2_with (first
            | (refine wpList_plain (by rfl) fun K hK => wp_bdT 29 #[(3, .tmp 36)] (by rfl) (by rfl) (built45 (some ⟨gm, 0, none⟩) n cap' (spL L bN dN (fun j => ds.getD j 0))) (hK _ _ ?_))
            | (refine st45 (by rfl) (.tmp 4) (.tmp 37) (by rfl) (w.heap.size + 1) (mcA { zM with me := spL L bN dN (fun j => ds.getD j 0) } (some ⟨gm, 0, none⟩) n cap') (by rfl) (by rfl) (hsw gm cap' _) (how gm cap' _) _ hsz A3 ?_))
          exact bodyPost_ret (v := .tuple #[.agg (mcA { zM with me := spL L bN dN (fun j => ds.getD j 0) } (some ⟨gm, 0, none⟩) n cap'), .int .i64 0]) (res45b Try.results6 rfl rfl (hsw gm cap' _) (A3.setRow _)) rfl (hyes.out _ gm cap' (below_setRow B3 (by omega) _) (by omega) ⟨hc1, hc2⟩ (hMW3.block (setRow_other _ _ _ _ (by omega))))

        · go_upto_region 6 with (first
            | (refine copy_mw (by rfl) (.tmp 32) (.tmp 33) (by rfl) gm bN dN _ (by rfl) sq nd cd (by rfl) hMW (hDs.below B2) hle (by rw [← hl.out]; exact hfit) ?_; intro W hMW2 hch)
            | (refine clear_mw (by rfl) (.tmp 35) (by rfl) gm (bN + nd) (dN - nd) _ (by rfl) hMW2 (by rw [spL_len, ← hl.out]; omega) ?_; intro W2 hMW3 hch2))
          have hMW3 : MW W2 gm (spL L bN dN (fun j => ds.getD j 0)) := by
            have := htwo.out
            rw [← hld.out] at this hMW3
            rw [this] at hMW3
            exact hMW3

          have hs1 := hb1.size
          simp only [World.size_alloc] at hs1
          have hne : ¬ (w.heap.size + 1 = gm) := by omega
          have A3 := (hch.trans hch2).arr A12 hne
          have B3 := B2.trans ((hch.trans hch2).bl (N := w.heap.size) (fun i hi => ⟨by have := B2.size; omega, by omega⟩))
          clear hb1 hb2 hb0 A01 A11 A0 A1 hch hch2 hMW hMW2 A12 A02 c0 c1 c2
          go_wp2_with (first
            | (refine wpList_plain (by rfl) fun K hK => wp_bdT 29 #[(3, .tmp 36)] (by rfl) (by rfl) (built45 (some ⟨gm, 0, none⟩) n cap' (spL L bN dN (fun j => ds.getD j 0))) (hK _ _ ?_))
            | (refine st45 (by rfl) (.tmp 4) (.tmp 37) (by rfl) (w.heap.size + 1) (mcA { zM with me := spL L bN dN (fun j => ds.getD j 0) } (some ⟨gm, 0, none⟩) n cap') (by rfl) (by rfl) (hsw gm cap' _) (how gm cap' _) _ hsz A3 ?_))
          exact bodyPost_ret (v := .tuple #[.agg (mcA { zM with me := spL L bN dN (fun j => ds.getD j 0) } (some ⟨gm, 0, none⟩) n cap'), .int .i64 0]) (res45b Try.results6 rfl rfl (hsw gm cap' _) (A3.setRow _)) rfl (hyes.out _ gm cap' (below_setRow B3 (by omega) _) (by omega) ⟨hc1, hc2⟩ (hMW3.block (setRow_other _ _ _ _ (by omega))))

    · have hno : ∀ w', Below w.heap.size w w' → IsP L bN dN ds w (.returned (.tuple #[.agg (mcA zM none 0 0), .int .i64 2])) w' := fun w' h => isNo (by unfold iSOk; rw [← hl, him, ← hld]; simp; omega) h
      replace hno := hid hno
      have hgt : (dN : Int) < nd := by omega
      clear him hl hld hM hD hr hs hb hd
      go_enter Try.func6, Try.ntmps6
      go_upto_region 2 with (go_at_call 19; go_must (refine (hmay _).mono ?_; rintro e w1 ⟨rfl, hb1⟩; have B1 := hb0.trans (hb1.mono (by simp; omega)); have A01 := A0.bl hb1; have A11 := A1.bl hb1; have c0 := A01.cell 0; have c1 := A01.cell 1; have c2 := A01.cell 2; clear a0 a1 a2 hmay))
      go_wp2_with (refine st45 (by rfl) (.tmp 4) (.tmp 18) (by rfl) (w.heap.size + 1) (mcA zM none 0 0) (by rfl) (by rfl) hsz hoz _ hsz A11 ?_)
      exact bodyPost_ret (v := .tuple #[.agg (mcA zM none 0 0), .int .i64 2]) (res45b Try.results6 rfl rfl hsz (A11.setRow _)) rfl (hno.out _ (below_setRow B1 (by omega) _))
end Go.Proofs.Ytimmiidkjpbffaa

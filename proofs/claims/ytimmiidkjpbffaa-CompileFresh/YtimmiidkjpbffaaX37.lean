/- S3, Io. -/
import Derived.Test.YtimmiidkjpbffaaX36
import Derived.Handy
import Derived.BigQuiet
import Derived.BigRegion
import Derived.Great.BuildSlice
import Derived.Test.YtimmiidkjpbffaaX01
import Derived.Test.YtimmiidkjpbffaaX02
import Derived.Test.YtimmiidkjpbffaaX16
import Derived.Test.YtimmiidkjpbffaaX03
import Derived.Test.YtimmiidkjpbffaaX09
import Derived.Test.YtimmiidkjpbffaaX08
import Derived.ChangeKeysEq
import Derived.Deep.DeepCutAuto
import Derived.Deep.DrawnRows
import Derived.Deep.MidRow
import Derived.Deep.QuietTactic
import Derived.Deep.RegionHeld3
import Derived.Deep.RegionLaw
import Derived.Deep.RegionWith
import Derived.Deep.WholeRow
import Derived.DeepKeys3
import Derived.Laws.AppendOwnNone
import Derived.Laws.BitsLemmas
import Derived.Laws.BytesArg
import Derived.Laws.CopyOwn
import Derived.Laws.ResultCell
import Derived.Laws.Tables
import Derived.Lib.SlBytesConst
import Derived.LoopIn
import Derived.LoopNIn
import Derived.LoopTactic
import Derived.Maps.AppendAt
import Derived.OwnWalkIn
import Derived.RangeFuncBound
import Derived.RangeFuncCalls
import Derived.RangeFuncLeaves
import Derived.RangeFuncNested
import Derived.RangeFuncRecord
import Derived.Shelf.Abstract
import Derived.Shelf.RegionOpen
import Derived.SizedLaws
import Derived.TacticsInMore
import Derived.WalkKit
import Derived.WalkLawsBesides
import Derived.WalkSpells
/- Layer compile: Start, of the document. -/
namespace Go.Proofs.Ytimmiidkjpbffaa
open Go.RowKit
set_option maxRecDepth 100000
set_option linter.unusedVariables false
set_option linter.unusedSimpArgs false


set_option maxHeartbeats 2000000 in
theorem start7_any {N : Nat} (L ds : List Int) (b d : Int) (sp : Option Addr) (n cap : Nat) (sq : Option Addr) (nd cd : Nat) (w : World) (hM : MS N w sp n cap L) (hD : MS N w sq nd cd ds) (hb : -9223372036854775808 ≤ b ∧ b ≤ 9223372036854775807) (hd : -9223372036854775808 ≤ d ∧ d ≤ 9223372036854775807) :
    Calls Try.prog 7 #[.agg #[.slice sp n cap, .int .i64 b, .int .i64 d], .slice sq nd cd] w (IsP L b d ds w) := by
  have A0 := (Arr.new w 24 #[.slice sp n cap, .int .i64 b, .int .i64 d]).alloc (.cells (mcA zM none 0 0) 29)
  have A1 := Arr.new (w.alloc (.cells #[.slice sp n cap, .int .i64 b, .int .i64 d] 24)) 29 (mcA zM none 0 0)
  simp only [World.size_alloc] at A1
  have hsz := mcA_size zM_ok.r16 none 0 0
  have hoz := mcA_one zM none 0 0
  have hb0 := (alloc_bel' w (.cells #[.slice sp n cap, .int .i64 b, .int .i64 d] 24)).alloc (by simp) (.cells (mcA zM none 0 0) 29)
  have hl := hM.len.out
  have hld := hD.len.out
  have hns := hM.small
  have hnds := hD.small
  have hmay : ∀ U, Calls Try.prog 18 #[.agg #[.slice sp n cap, .int .i64 b, .int .i64 d]] U fun e w' => e = .returned (.bool (imOk n b d)) ∧ Below U.heap.size U w' := fun U => may18_any sp n cap b d U hns hb hd
  have a0 := A0.cell 0
  have a1 := A0.cell 1
  have a2 := A0.cell 2
  cases him : imOk n b d with
  | false =>
    have hno : ∀ w', Below w.heap.size w w' → IsP L b d ds w (.returned (.tuple #[.agg (mcA zM none 0 0), .int .i64 2])) w' := fun w' h => isNo (by unfold iSOk; rw [← hl, him]; rfl) h
    rw [him] at hmay
    replace hno := hid hno
    clear him hl hld hM hD
    go_enter Try.func7, Try.ntmps7
    go_upto_region 2 with (go_at_call 18; go_must (refine (hmay _).mono ?_; rintro e w1 ⟨rfl, hb1⟩; have B1 := hb0.trans (hb1.mono (by simp; omega)); have A01 := A0.bl hb1; have A11 := A1.bl hb1; clear a0 a1 a2 hmay))
    go_wp2_with (refine st45 (by rfl) (.tmp 4) (.tmp 19) (by rfl) (w.heap.size + 1) (mcA zM none 0 0) (by rfl) (by rfl) hsz hoz _ hsz A11 ?_)
    exact bodyPost_ret (v := .tuple #[.agg (mcA zM none 0 0), .int .i64 2]) (res45b Try.results7 rfl rfl hsz (A11.setRow _)) rfl (hno.out _ (below_setRow B1 (by omega) _))
  | true =>
    obtain ⟨hs, hr⟩ : szB n = true ∧ 0 ≤ d ∧ 0 ≤ b ∧ b ≤ n - d := by
      unfold imOk at him
      obtain ⟨h1, h2⟩ := Bool.and_eq_true_iff.1 him
      exact ⟨h1, of_decide_eq_true h2⟩
    have hn4 := szB_le hs
    obtain ⟨bN, rfl⟩ : ∃ k : Nat, b = k := ⟨b.toNat, by omega⟩
    obtain ⟨dN, rfl⟩ : ∃ k : Nat, d = k := ⟨d.toNat, by omega⟩
    rw [him] at hmay
    by_cases hle : nd ≤ dN
    · have hyes : ∀ w' gm cap, Below w.heap.size w w' → w.heap.size ≤ gm → n ≤ cap ∧ cap ≤ 9223372036854775807 → MW w' gm (spL L bN dN (fun j => ds.getD j 0)) → IsP L bN dN ds w (.returned (.tuple #[.agg (mcA { zM with me := spL L bN dN (fun j => ds.getD j 0) } (some ⟨gm, 0, none⟩) n cap), .int .i64 0])) w' := fun w' gm cap h1 h2 h3 h4 => by
        have := isYes (L := L) (b := bN) (d := dN) (ds := ds) (by unfold iSOk; rw [← hl, him, ← hld]; simpa using hle) h1 h2 (by rw [← hl]; exact h3) (by omega) h4
        rw [← hl] at this
        exact this
      have hMs := hM.here
      have hDs := hD.here
      have hn0 : 0 < n := by omega
      obtain ⟨g0, off, hsp, -⟩ := hM.at0 hn0
      subst hsp
      have hfit : bN + dN ≤ n := by omega
      replace hl := hid hl
      replace hld := hid hld
      have hle' : ¬ ((dN : Int) < nd) := by omega
      have hsw := fun (gm cp : Nat) (X : List Int) => mcA_size (m := { zM with me := X }) zM_ok.r16 (some ⟨gm, 0, none⟩) n cp
      have how := fun (gm cp : Nat) (X : List Int) => mcA_one { zM with me := X } (some ⟨gm, 0, none⟩) n cp
      have h18 := fun (gm cp : Nat) (X : List Int) => mcA_18 (m := { zM with me := X }) zM_ok.r16 (some ⟨gm, 0, none⟩) n cp
      replace hyes := hid hyes
      replace h18 := hid h18
      clear him hr hs hM hD hb hd
      go_enter Try.func7, Try.ntmps7
      go_upto_region 3 with (go_at_call 18; go_must (refine (hmay _).mono ?_; rintro e w1 ⟨rfl, hb1⟩; have B1 := hb0.trans (hb1.mono (by simp; omega)); have A01 := A0.bl hb1; have A11 := A1.bl hb1; have c0 := A01.cell 0; have c1 := A01.cell 1; have c2 := A01.cell 2; clear a0 a1 a2 hmay))
      have hlit : (w1.alloc (.cells #[] 25)).ownsRow w1.heap.size 25 1 (.slice (some ⟨w1.heap.size, 0, none⟩) 0 0) 0 (by64 []) := World.ownsRow_lit _ _ _ (Nat.le_refl _) (by unfold maxLen; omega) rfl
      have hM1 := (hMs.below B1).here.below (alloc_bel' w1 (.cells #[] 25))
      have hs1 := hb1.size
      simp only [World.size_alloc] at hs1
      have A02 := A01.alloc (.cells #[] 25)
      have A12 := A11.alloc (.cells #[] 25)
      have B2 := B1.trans ((alloc_bel' w1 (.cells #[] 25)).mono (by omega))
      clear c0 c1 c2
      have c0 := A02.cell 0
      go_upto_region 4 with (first
        | (at_builtin; go_must (refine append_words (by rfl) (.tmp 20) (.tmp 22) (by rfl) w1.heap.size _ (by rfl) hlit (some ⟨g0, off, none⟩) n cap L (by rfl) hM1 (by simp) ?_; intro v1 w2 hown1 hg1; obtain ⟨gm, cap', rfl, -, hgm, hc1, hc2, hMW⟩ := own64 hown1 hn0; have hb2 := ((Below.refl _ _).alloc (Nat.le_refl _) _).grown hg1 (by simp) (fun k e => by simp [Value.ownBlock] at e; omega)))
        | (refine wpList_plain (by rfl) fun K hK => wp_bdT 29 #[(3, .tmp 23)] (by rfl) (by rfl) (built45 (some ⟨gm, 0, none⟩) n cap' L) (hK _ _ ?_))
        | (refine st45n (by rfl) (.tmp 6) (.tmp 24) (by rfl) w2 w2.heap.size rfl (by rfl) (mcA { zM with me := L } (some ⟨gm, 0, none⟩) n cap') (by rfl) (by rfl) (hsw gm cap' L) (how gm cap' L) ?_))
      have B3 : Below w.heap.size w (w2.alloc (.cells (mcA { zM with me := L } (some ⟨gm, 0, none⟩) n cap') 29)) := (B1.trans (hb2.mono B1.size)).alloc (by have := B1.size; have := hb2.size; omega) _
      have hs2 := hb2.size
      have A9 := Arr.new w2 29 (mcA { zM with me := L } (some ⟨gm, 0, none⟩) n cap')
      have A03 := (A01.bl hb2).alloc (.cells (mcA { zM with me := L } (some ⟨gm, 0, none⟩) n cap') 29)
      have A13 := (A11.bl hb2).alloc (.cells (mcA { zM with me := L } (some ⟨gm, 0, none⟩) n cap') 29)
      have hgl := hMW.lt
      have MW9 : MW (w2.alloc (.cells (mcA { zM with me := L } (some ⟨gm, 0, none⟩) n cap') 29)) gm L := hMW.below (alloc_bel' _ _) hgl
      have hDs3 := hDs.below B3
      obtain ⟨g9, hg9⟩ : ∃ g9, g9 = w2.heap.size := ⟨_, rfl⟩
      rw [← hg9] at A9 ⊢
      generalize w2.alloc (.cells (mcA { zM with me := L } (some ⟨gm, 0, none⟩) n cap') 29) = W9 at *
      have h9 : gm ≠ g9 := by omega
      have h9b : w.heap.size + 1 < g9 := by omega
      have hgb : w.heap.size + 1 < gm := by omega
      clear A0 A1 hb0 A01 A11 hb1 hb2 A02 A12 B1 B2 hMW hown1 hg1 hlit hM1 hMs hDs c0 hs1 hs2 hgm hgl hg9
      go_wp2_with fail
      go_loopw [7, 8] (fun v u wr => ∃ k : Nat, v = .int .i64 (k : Int) ∧ k ≤ dN ∧ MW wr gm (spL L bN k (fun j => ds.getD j 0)) ∧ Ch (fun j => j = gm) W9 wr)
        (fun v _ _ => dN - (intOf v).toNat)
      case atStart => exact ⟨0, rfl, by omega, by rw [spL_zero]; exact MW9, Ch.refl _ _⟩
      case round =>
        obtain ⟨k, rfl, hk, hMk, hch⟩ := hrel
        have E0 := hch.arr A03 (by omega)
        have E1 := hch.arr A13 (by omega)
        have E9 := hch.arr A9 (by omega)
        have c1 := E0.cell 1
        have c2 := E0.cell 2
        have c18 : wr.cell? ⟨g9, 18, none⟩ = some (.slice (some ⟨gm, 0, none⟩) n cap') := (E9.cell 18).trans (h18.out gm cap' L)
        by_cases hlt : k < dN
        · have hI : (k : Int) < dN := by omega
          have hbk : bN + k < n := by omega
          have fz := hMk.frozen (bN + k)
          have cm := hMk.cell (t := bN + k) (by rw [spL_len, ← hl.out]; exact hbk)
          have hset := hid (spL_set (L := L) (b := bN) (k := k) (f := fun j => ds.getD j 0) (by rw [← hl.out]; exact hbk))
          by_cases hdk : k < nd
          · have hI2 : (k : Int) < nd := by omega
            obtain ⟨gd, od, hsq, hgd, hcd⟩ := hDs3.at0 (by omega)
            subst hsq
            have hck := ((hch.bl (N := w.heap.size) (fun i hi => ⟨by have := B3.size; omega, by omega⟩)).cell (p := ⟨gd, od + k, none⟩) hgd).trans (hcd k hdk)
            clear hcd hDs3
            go_wp2_with fail
            go_roundw
            case rel =>
              refine ⟨k + 1, by go_num, by omega, ?_, hch.st _ (fun _ => rfl)⟩
              have := hMk.set (i := bN + k) (by rw [spL_len, ← hl.out]; exact hbk) (ds.getD k 0)
              rw [hset.out] at this
              rw [← List.getD_eq_getElem?_getD]
              exact this
            case measure => simp [intOf]; omega
          · have hI2 : ¬ (k : Int) < nd := by omega
            have hz : ds.getD k 0 = 0 := by rw [List.getD_eq_getElem?_getD, List.getElem?_eq_none (by rw [← hld.out]; omega)]; rfl
            rw [hz] at hset
            replace hz := hid hz
            go_wp2_with fail
            go_roundw
            case rel =>
              refine ⟨k + 1, by go_num, by omega, ?_, hch.st _ (fun _ => rfl)⟩
              have := hMk.set (i := bN + k) (by rw [spL_len, ← hl.out]; exact hbk) 0
              rw [hset.out] at this
              exact this
            case measure => simp [intOf]; omega
        · obtain rfl : k = dN := by omega
          have hI : ¬ (k : Int) < k := by omega
          have hs9 := hsw gm cap' L
          have B4 := B3.trans (hch.bl (N := w.heap.size) (fun i hi => ⟨by have := B3.size; omega, by omega⟩))
          have E9b : Arr wr g9 29 (mcA { zM with me := spL L bN k (fun j => ds.getD j 0) } (some ⟨gm, 0, none⟩) n cap') := E9
          go_wp2_with (first
            | (refine ld45 (by rfl) (.tmp 6) (by rfl) g9 (by rfl) _ (hsw gm cap' (spL L bN k (fun j => ds.getD j 0))) E9b ?_)
            | (refine st45 (by rfl) (.tmp 4) (.tmp 47) (by rfl) (w.heap.size + 1) (mcA { zM with me := spL L bN k (fun j => ds.getD j 0) } (some ⟨gm, 0, none⟩) n cap') (by rfl) (by rfl) (hsw gm cap' _) (how gm cap' _) _ hsz E1 ?_))
          exact bodyPost_ret (v := .tuple #[.agg (mcA { zM with me := spL L bN k (fun j => ds.getD j 0) } (some ⟨gm, 0, none⟩) n cap'), .int .i64 0]) (res45b Try.results7 rfl rfl (hsw gm cap' _) (E1.setRow _)) rfl (hyes.out _ gm cap' (below_setRow B4 (by omega) _) (by omega) ⟨hc1, hc2⟩ (hMk.block (setRow_other _ _ _ _ (by omega))))
    · have hno : ∀ w', Below w.heap.size w w' → IsP L bN dN ds w (.returned (.tuple #[.agg (mcA zM none 0 0), .int .i64 2])) w' := fun w' h => isNo (by unfold iSOk; rw [← hl, him, ← hld]; simp; omega) h
      replace hno := hid hno
      have hgt : (dN : Int) < nd := by omega
      clear him hl hld hM hD hr hs hb hd
      go_enter Try.func7, Try.ntmps7
      go_upto_region 2 with (go_at_call 18; go_must (refine (hmay _).mono ?_; rintro e w1 ⟨rfl, hb1⟩; have B1 := hb0.trans (hb1.mono (by simp; omega)); have A01 := A0.bl hb1; have A11 := A1.bl hb1; have c0 := A01.cell 0; have c1 := A01.cell 1; have c2 := A01.cell 2; clear a0 a1 a2 hmay))
      go_wp2_with (refine st45 (by rfl) (.tmp 4) (.tmp 19) (by rfl) (w.heap.size + 1) (mcA zM none 0 0) (by rfl) (by rfl) hsz hoz _ hsz A11 ?_)
      exact bodyPost_ret (v := .tuple #[.agg (mcA zM none 0 0), .int .i64 2]) (res45b Try.results7 rfl rfl hsz (A11.setRow _)) rfl (hno.out _ (below_setRow B1 (by omega) _))
end Go.Proofs.Ytimmiidkjpbffaa
/- Layer compile: what the layers below give. -/
namespace Go.Proofs.Ytimmiidkjpbffaa
open Go.RowKit
set_option maxRecDepth 100000
set_option linter.unusedVariables false
set_option linter.unusedSimpArgs false

/-- Words somewhere. -/
structure DS (w : World) (sp : Option Addr) (n : Nat) (L : List Int) : Prop where
  len : Hid (n = L.length)
  few : n ≤ 1024
  at0 : 0 < n → ∃ g, sp = some ⟨g, 0, none⟩ ∧ g < w.heap.size ∧ ∀ (i : Nat) (x : Int), L[i]? = some x → w.cell? ⟨g, i, none⟩ = some (.int .u64 x)
theorem DS.bl {w w' : World} {sp : Option Addr} {n : Nat} {L : List Int} (h : DS w sp n L) (hb : Below w.heap.size w w') : DS w' sp n L :=
  ⟨h.len, h.few, fun h0 => let ⟨g, e, hg, hc⟩ := h.at0 h0; ⟨g, e, by have := hb.size; omega, fun i x hx => (hb.cell (p := ⟨g, i, none⟩) hg).trans (hc i x hx)⟩⟩
def ouA (s v : Int) (sp : Option Addr) (n cap : Nat) (k : Int) : Array Value := #[.int .u8 s, .int .u64 v, .slice sp n cap, .int .i64 k]
set_option maxHeartbeats 1000000 in
theorem same_any {s1 v1 k1 s2 v2 k2 : Int} {sp sq : Option Addr} {n m c1 c2 : Nat} {L M : List Int} (w : World) (h1 : DS w sp n L) (h2 : DS w sq m M) :
    Calls Try.prog 11 #[.agg (ouA s1 v1 sp n c1 k1), .agg (ouA s2 v2 sq m c2 k2)] w (BoP (decide (s1 = s2 ∧ v1 = v2 ∧ k1 = k2 ∧ L = M)) w) := by
  have b0 : Below w.heap.size w ((w.alloc (.cells (ouA s1 v1 sp n c1 k1) 36)).alloc (.cells (ouA s2 v2 sq m c2 k2) 36)) := (ab w _).alloc (by simp) _
  have hl1 := h1.len
  have hl2 := h2.len
  by_cases e1 : s1 = s2
  rotate_left
  · rw [decide_eq_false (fun h => e1 h.1)]
    have g1 : (s1 != s2) = true := by simpa using e1
    clear h1 h2 hl1 hl2 e1
    unfold ouA at *
    go_enter Try.func11, Try.ntmps11
    go_wp2_with fail
    go_ret
    exact ⟨rfl, b0⟩
  by_cases e2 : v1 = v2
  rotate_left
  · rw [decide_eq_false (fun h => e2 h.2.1)]
    have g2 : (v1 != v2) = true := by simpa using e2
    subst e1
    clear h1 h2 hl1 hl2 e2
    unfold ouA at *
    go_enter Try.func11, Try.ntmps11
    go_wp2_with fail
    go_ret
    exact ⟨rfl, b0⟩
  by_cases e3 : k1 = k2
  rotate_left
  · rw [decide_eq_false (fun h => e3 h.2.2.1)]
    have g3 : (k1 != k2) = true := by simpa using e3
    subst e1 e2
    clear h1 h2 hl1 hl2 e3
    unfold ouA at *
    go_enter Try.func11, Try.ntmps11
    go_wp2_with fail
    go_ret
    exact ⟨rfl, b0⟩
  by_cases e4 : n = m
  rotate_left
  · rw [decide_eq_false (fun h => e4 (by rw [hl1.out, hl2.out, h.2.2.2]))]
    have g4 : ((n : Int) != (m : Int)) = true := by simp; omega
    subst e1 e2 e3
    clear h1 h2 hl1 hl2 e4
    unfold ouA at *
    go_enter Try.func11, Try.ntmps11
    go_wp2_with fail
    go_ret
    exact ⟨rfl, b0⟩
  subst e1 e2 e3 e4
  obtain ⟨r, hr⟩ : ∃ r, r = decide (s1 = s1 ∧ v1 = v1 ∧ k1 = k1 ∧ L = M) := ⟨_, rfl⟩
  rw [← hr]
  replace hr : Hid (r = decide (L = M)) := hid (by rw [hr]; simp)
  have A1 := (Arr.new w 36 (ouA s1 v1 sp n c1 k1)).alloc (.cells (ouA s1 v1 sq n c2 k1) 36)
  have A2 := Arr.new (w.alloc (.cells (ouA s1 v1 sp n c1 k1) 36)) 36 (ouA s1 v1 sq n c2 k1)
  simp only [World.size_alloc] at A2
  have h1' := h1.bl b0
  have h2' := h2.bl b0
  have hn10 := h1.few
  have q1 := A1.cell 2
  have q2 := A2.cell 2
  unfold ouA at *
  go_enter Try.func11, Try.ntmps11
  go_upto_region 4 with fail
  generalize hU : (w.alloc (.cells #[.int .u8 s1, .int .u64 v1, .slice sp n c1, .int .i64 k1] 36)).alloc (.cells #[.int .u8 s1, .int .u64 v1, .slice sq n c2, .int .i64 k1] 36) = U at *
  go_loopw [5] (fun i wr => ∃ (j : Nat), i = .int .i64 (j : Int) ∧ j ≤ n ∧ Hid (∀ p, wr.cell? p = U.cell? p) ∧ Below w.heap.size w wr ∧ Hid (L.take j = M.take j))
    (fun i _ => n - (intOf i).toNat)
  case atStart => exact ⟨0, rfl, by omega, hid (fun _ => rfl), b0, hid (by simp)⟩
  case round =>
    obtain ⟨j, rfl, hj, hcl, b0', hf⟩ := hrel
    by_cases hlt : j < n
    · obtain ⟨g1, rfl, hg1, hc1⟩ := h1'.at0 (by omega)
      obtain ⟨g2, rfl, hg2, hc2⟩ := h2'.at0 (by omega)
      obtain ⟨x, hx⟩ : ∃ x, L[j]? = some x := ⟨L[j]'(by rw [← hl1.out]; exact hlt), List.getElem?_eq_getElem _⟩
      obtain ⟨y, hy⟩ : ∃ y, M[j]? = some y := ⟨M[j]'(by rw [← hl2.out]; exact hlt), List.getElem?_eq_getElem _⟩
      have d1 : wr.cell? ⟨g1, j, none⟩ = some (.int .u64 x) := (hcl.out _).trans (hc1 j x hx)
      have d2 : wr.cell? ⟨g2, j, none⟩ = some (.int .u64 y) := (hcl.out _).trans (hc2 j y hy)
      have d3 : wr.cell? ⟨w.heap.size, 2, none⟩ = some (.slice (some ⟨g1, 0, none⟩) n c1) := (hcl.out _).trans q1
      have d4 : wr.cell? ⟨w.heap.size + 1, 2, none⟩ = some (.slice (some ⟨g2, 0, none⟩) n c2) := (hcl.out _).trans q2
      have hlt' : (j : Int) < n := by omega
      have h0 : (0 : Int) ≤ j := by omega
      by_cases hxy : x = y
      · subst hxy
        have hf2 : Hid (L.take (j + 1) = M.take (j + 1)) := hid (by rw [List.take_add_one, List.take_add_one, hf.out, hx, hy])
        clear hx hy hc1 hc2 h1 h2 h1' h2' hl1 hl2 A1 A2 q1 q2
        go_upto_region 6 with fail
        go_quiet (fail)
        go_wp2_with fail
        go_roundw
        case rel => exact ⟨j + 1, by go_num, by omega, hid (fun p => hcl.out p), dwN b0' _, hf2⟩
        case measure => simp [intOf]; omega
      · have hrn : Hid (r = false) := hid (by
          rw [hr.out]
          refine decide_eq_false (fun e => hxy ?_)
          rw [e, hy] at hx
          exact (Option.some.inj hx).symm)
        have hxy' : (x != y) = true := by simpa using hxy
        clear hx hy hc1 hc2 h1 h2 h1' h2' hl1 hl2 A1 A2 q1 q2 hxy
        go_upto_region 6 with fail
        go_quiet (fail)
        go_wp2_with fail
        go_ret
        rw [hrn.out]
        exact ⟨rfl, dwN b0' _⟩
    · obtain rfl : j = n := by omega
      have hrn : Hid (r = true) := hid (by
        rw [hr.out]
        refine decide_eq_true ?_
        have h3 := hf.out
        rw [List.take_of_length_le (by rw [← hl1.out]; omega), List.take_of_length_le (by rw [← hl2.out]; omega)] at h3
        exact h3)
      have d3 : wr.cell? ⟨w.heap.size, 2, none⟩ = some (.slice sp j c1) := (hcl.out _).trans q1
      clear h1 h2 h1' h2' hl1 hl2 A1 A2
      go_wp2_with fail
      go_ret
      rw [hrn.out]
      exact ⟨rfl, b0'⟩
end Go.Proofs.Ytimmiidkjpbffaa

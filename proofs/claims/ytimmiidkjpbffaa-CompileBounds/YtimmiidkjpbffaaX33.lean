/- Layer compile: Load, and where its words lie. -/
import Derived.Test.YtimmiidkjpbffaaX32
import Derived.BigQuiet
import Derived.BigRegion
import Derived.ChangeKeysEq
import Derived.Deep.DeepCutAuto
import Derived.Deep.DrawnRows
import Derived.Deep.MidRow
import Derived.Deep.OwnRows
import Derived.Deep.QuietTactic
import Derived.Deep.RegionHeld3
import Derived.Deep.RegionLaw
import Derived.Deep.RegionWith
import Derived.Deep.WholeRow
import Derived.DeepKeys3
import Derived.Great.BuildSlice
import Derived.Laws.AppendOwnNone
import Derived.Laws.BitsLemmas
import Derived.Laws.BytesArg
import Derived.Laws.CopyOwn
import Derived.Laws.OwnMore
import Derived.Laws.ResultCell
import Derived.Laws.Tables
import Derived.Lib.SlBytesConst
import Derived.LoopIn
import Derived.LoopNIn
import Derived.Maps.AppendAt
import Derived.OwnWalkIn
import Derived.RangeFuncBound
import Derived.RangeFuncCalls
import Derived.RangeFuncLeaves
import Derived.RangeFuncNested
import Derived.RangeFuncRecord
import Derived.Recover
import Derived.Shelf.Abstract
import Derived.Shelf.RegionOpen
import Derived.TacticsInMore
import Derived.WalkKit
import Derived.WalkLawsBesides
import Derived.WalkSpells
namespace Go.Proofs.Ytimmiidkjpbffaa
open Go.RowKit
set_option maxRecDepth 100000
set_option linter.unusedVariables false
set_option linter.unusedSimpArgs false

def LdF (X : Nat) (cs : List Cd) (ds : List Int) (w : World) (e : Ending) (w' : World) : Prop := e = .returned (.tuple #[.agg (mcA { zM with me := ldW X cs ds } (some ⟨w.heap.size + 1, 0, none⟩) X X), .int .i64 0]) ∧ MW w' (w.heap.size + 1) (ldW X cs ds) ∧ Below w.heap.size w w'
theorem ldYesF {x : Int} {X : Nat} {cs : List Cd} {ds : List Int} {w w' : World} (hr : lO x cs ds = ({ zM with me := ldW X cs ds }, 0)) (hok : Mc.ok { zM with me := ldW X cs ds }) (hM : MW w' (w.heap.size + 1) (ldW X cs ds)) (hl : X = (ldW X cs ds).length) (hX : X ≤ 4096) (hb : Below w.heap.size w w') : LdF X cs ds w (.returned (.tuple #[.agg (mcA { zM with me := ldW X cs ds } (some ⟨w.heap.size + 1, 0, none⟩) X X), .int .i64 0])) w' := ⟨rfl, hM, hb⟩
set_option maxHeartbeats 2000000 in
theorem load_own (x : Int) (sp : Option Addr) (n cap : Nat) (cs : List Cd) (sq : Option Addr) (nd cd : Nat) (ds : List Int) (N : Nat) (w : World) (hx : -9223372036854775808 ≤ x ∧ x ≤ 9223372036854775807) (hS : CS N w sp n cap cs) (hD : MS N w sq nd cd ds) (hU : ∀ k, U64 (ds.getD k 0)) (hq : szI x = true) {X : Nat} (hX : x = (X : Int)) (hle : cs.length + ds.length ≤ X) :
    Calls Try.prog 33 #[.int .i64 x, .slice sp n cap, .slice sq nd cd] w (LdF X cs ds w) := by
  subst hX
  obtain ⟨i0, hi, hz0, hz1, hz2⟩ := info_parts info26
  have A0 := Arr.new w 29 (mcA zM none 0 0)
  have hsz := mcA_size zM_ok.r16 none 0 0
  have hb0 := alloc_bel' w (.cells (mcA zM none 0 0) 29)
  have hn := hS.small
  have hl := hS.len
  have hl2 := hD.len
  have hX4 := szB_le (by rw [szI_nat] at hq; exact hq)
  have hnX : n ≤ X := by rw [hl.out]; omega
  have hndX : nd ≤ X - n := by rw [hl.out, hl2.out]; omega
  have hcmp : ¬ ((X : Int) - n < nd) := by omega
  have hr : lO (X : Int) cs ds = ({ zM with me := ldW X cs ds }, 0) := by
    unfold lO
    rw [if_neg (by rw [hq]; simp), if_neg (by omega), Int.toNat_natCast]
  have hokR : Mc.ok { zM with me := ldW X cs ds } := ⟨zM_ok.pc, zM_ok.r16, zM_ok.rg, zM_ok.st, ldW_u hle hS.ok hU⟩
  replace hr := Hid.mk' hr
  replace hq := Hid.mk' hq
  go_enter Try.func33, Try.ntmps33
  go_wp2_with (first
    | (go_at_call 36; go_must (refine (maySize_any _ _ hx).mono ?_; rintro e w1 ⟨rfl, h⟩; subst h; rw [hq.out]))
    | (at_make; go_must (refine wpList_make_row _ (by rfl) (.tmp 23) (.tmp 23) 22 (by rfl) 25 i0 (.int .u64 0) Try.underlying22 hi hz0 hz1 rfl .i64 .i64 X (by rfl) (by rfl) (by rw [hz2]; omega) (by omega) ?_)))
  go_loopw [27] (fun q wr => ∃ (k : Nat), q = .int .i64 (k : Int) ∧ k ≤ n ∧ Below w.heap.size w wr ∧ Arr wr w.heap.size 29 (mcA zM none 0 0) ∧ MW wr (w.heap.size + 1) (lay X cs k))
    (fun q _ => n - (intOf q).toNat)
  case atStart => exact ⟨0, rfl, by omega, hb0.alloc (by simp) _, A0.alloc _, by rw [lay_zero]; have h := made_mw (w.alloc (.cells (mcA zM none 0 0) 29)) X; simp only [World.size_alloc] at h; exact h⟩
  case round =>
    obtain ⟨k, rfl, hk, hbl, hA, hMW⟩ := hrel
    by_cases hlt : k < n
    · have hI : (k : Int) < n := by omega
      have hIX : (k : Int) < X := by omega
      have hSr := hS.here.below hbl
      obtain ⟨g, off, rfl, hgN, hR⟩ := hSr.at0 (by omega)
      obtain ⟨e, he⟩ : ∃ e, cs[k]? = some e := ⟨cs[k]'(by rw [← hl.out]; exact hlt), List.getElem?_eq_getElem _⟩
      have hok := hS.ok e (List.mem_of_getElem? he)
      have hRe := hR k e he
      have hset := lay_set he (show cs.length ≤ X by omega)
      have hlay : (lay X cs k).length = X := lay_len (by rw [← hl.out]; omega) (by omega)
      have hbW := hbl.alloc hbl.size (.cells e.arr 108)
      have AE := Arr.new wr 108 e.arr
      replace he := Hid.mk' he
      replace hset := Hid.mk' hset
      replace hlay := Hid.mk' hlay
      have hlts := hMW.lt
      go_wp2_with (first
        | (refine ld25 (by rfl) _ (by rfl) g (off + k * 5) (by rfl) e hRe ?_)
        | (refine st25n (by rfl) _ _ (by rfl) wr wr.heap.size rfl (by rfl) e (by rfl) (by rfl) ?_)
        | (refine ldA25 (by rfl) (.tmp 10) (by rfl) wr.heap.size (by rfl) e.arr rfl AE ?_)
        | (go_at_call 44; go_must (refine (wdc_any e hok _).mono ?_; rintro r w2 ⟨rfl, hb2⟩; have hM2 := (hMW.below (alloc_bel' wr _) hlts).below hb2 (by simp; omega); have f2 := hM2.frozen k; have c2 := hM2.cell (t := k) (by rw [hlay.out]; omega); have A2 := (hA.alloc _).below hb2 (by have := hA.lt; simp; omega); have B2 := hbW.trans (hb2.mono (by have := hbl.size; simp; omega)))))
      go_roundw
      case rel => exact ⟨k + 1, by go_num, by omega, B2.setCell (by simp) _, A2.setOther _ (by simp), by rw [← hset.out]; exact hM2.set (by rw [hlay.out]; omega) _⟩
      case measure => simp [intOf]; omega
    · obtain rfl : k = n := by omega
      have hnlt : ¬ (k : Int) < k := by omega
      have hkX : (k : Int) ≤ X := by omega
      have hkl : k = cs.length := hl.out
      by_cases hd0 : nd = 0
      · have hds : ds = [] := List.eq_nil_of_length_eq_zero (by rw [← hl2.out]; exact hd0)
        have hM2 : MW wr (w.heap.size + 1) (ldW X cs ds) := by rw [hds, ← lay_all (by omega), ← hkl]; exact hMW
        subst hd0
        replace hkl := Hid.mk' hkl
        replace hds := Hid.mk' hds
        by_cases hXk : X = k
        · subst hXk
          go_wp2_with (first | (refine wpList_copy_nothing (by rfl) (.tmp 41) (.tmp 42) 22 22 (by rfl) 25 Try.underlying22 size26 _ _ _ _ 0 cd (by rfl) (by rfl) (by simp) ?_) | (refine wpList_plain (by rfl) fun K hK => wp_bdT 29 #[(3, .tmp 44)] (by rfl) (by rfl) (built45 (some ⟨w.heap.size + 1, 0, none⟩) X X (ldW X cs ds)) (hK _ _ ?_)) | (refine st45 (by rfl) (.tmp 6) (.tmp 45) (by rfl) w.heap.size (mcA { zM with me := ldW X cs ds } (some ⟨w.heap.size + 1, 0, none⟩) X X) (by rfl) (by rfl) (mcA_size zM_ok.r16 _ _ _) (mcA_one _ _ _ _) _ hsz hA ?_))
          exact bodyPost_ret (v := .tuple #[.agg (mcA { zM with me := ldW X cs ds } (some ⟨w.heap.size + 1, 0, none⟩) X X), .int .i64 0]) (res45b Try.results33 rfl rfl (mcA_size zM_ok.r16 _ _ _) (hA.setRow _)) rfl (ldYesF hr.out hokR (hM2.block (setRow_other _ _ _ _ (by omega))) (by rw [ldW_len hle]) (by omega) (below_setRow hbl (Nat.le_refl _) _))
        · go_wp2_with (first | (refine wpList_copy_nothing (by rfl) (.tmp 41) (.tmp 42) 22 22 (by rfl) 25 Try.underlying22 size26 _ _ _ _ 0 cd (by rfl) (by rfl) (by simp) ?_) | (refine wpList_plain (by rfl) fun K hK => wp_bdT 29 #[(3, .tmp 44)] (by rfl) (by rfl) (built45 (some ⟨w.heap.size + 1, 0, none⟩) X X (ldW X cs ds)) (hK _ _ ?_)) | (refine st45 (by rfl) (.tmp 6) (.tmp 45) (by rfl) w.heap.size (mcA { zM with me := ldW X cs ds } (some ⟨w.heap.size + 1, 0, none⟩) X X) (by rfl) (by rfl) (mcA_size zM_ok.r16 _ _ _) (mcA_one _ _ _ _) _ hsz hA ?_))
          exact bodyPost_ret (v := .tuple #[.agg (mcA { zM with me := ldW X cs ds } (some ⟨w.heap.size + 1, 0, none⟩) X X), .int .i64 0]) (res45b Try.results33 rfl rfl (mcA_size zM_ok.r16 _ _ _) (hA.setRow _)) rfl (ldYesF hr.out hokR (hM2.block (setRow_other _ _ _ _ (by omega))) (by rw [ldW_len hle]) (by omega) (below_setRow hbl (Nat.le_refl _) _))
      · have hXk : ¬ X = k := by omega
        obtain ⟨gd, od, rfl, hgd, hcd⟩ := (hD.here.below hbl).at0 (by omega)
        obtain ⟨C, hCA, hC⟩ := hMW
        have hC' := hC
        rw [hkl] at hC'
        have hCs : X ≤ C.size := by
          have h1 : (lay X cs k).length = X := lay_len (by omega) (by omega)
          have := (Array.getElem?_eq_some_iff.1 (hC (X - 1) (by omega))).1
          omega
        have hsrc : ∀ j v, (by64 ds)[j]? = some v → wr.cell? ((⟨gd, od, none⟩ : Addr).add j) = some v := fun j v hv => by
          have hj : j < ds.length := by have := (List.getElem?_eq_some_iff.1 hv).1; rwa [by64_len] at this
          rw [by64_getV hj] at hv
          rw [Addr.add_mid, hcd j (by rw [hl2.out]; exact hj)]; exact hv
        have hM2 : MW (wr.setRow (w.heap.size + 1) (C.toList.take k ++ (by64 ds ++ C.toList.drop (k + (by64 ds).length))).toArray) (w.heap.size + 1) (ldW X cs ds) := ⟨_, hCA.setRow _, by have := ldW_splice hle hC'; rw [← hkl] at this; exact this⟩
        have A2 : Arr (wr.setRow (w.heap.size + 1) (C.toList.take k ++ (by64 ds ++ C.toList.drop (k + (by64 ds).length))).toArray) w.heap.size 29 (mcA zM none 0 0) := hA.setRowOther _ (by omega)
        replace hsrc := Hid.mk' hsrc
        replace hkl := Hid.mk' hkl
        clear hC hC' hcd
        go_wp2_with (first | (refine wpList_copy_own (by rfl) (.tmp 41) (.tmp 42) 22 22 (by rfl) 25 Try.underlying22 size26 (w.heap.size + 1) k (X - k) (X - k) ⟨gd, od, none⟩ nd cd (by rfl) (by rfl) C 25 hCA (by64 ds) (by rw [by64_len, ← hl2.out]; exact (Nat.min_eq_left (by omega)).symm) hsrc.out (by rw [by64_len, ← hl2.out]; omega) (by64_one _) ?_) | (refine wpList_plain (by rfl) fun K hK => wp_bdT 29 #[(3, .tmp 44)] (by rfl) (by rfl) (built45 (some ⟨w.heap.size + 1, 0, none⟩) X X (ldW X cs ds)) (hK _ _ ?_)) | (refine st45 (by rfl) (.tmp 6) (.tmp 45) (by rfl) w.heap.size (mcA { zM with me := ldW X cs ds } (some ⟨w.heap.size + 1, 0, none⟩) X X) (by rfl) (by rfl) (mcA_size zM_ok.r16 _ _ _) (mcA_one _ _ _ _) _ hsz A2 ?_))
        exact bodyPost_ret (v := .tuple #[.agg (mcA { zM with me := ldW X cs ds } (some ⟨w.heap.size + 1, 0, none⟩) X X), .int .i64 0]) (res45b Try.results33 rfl rfl (mcA_size zM_ok.r16 _ _ _) (A2.setRow _)) rfl (ldYesF hr.out hokR (hM2.block (setRow_other _ _ _ _ (by omega))) (by rw [ldW_len hle]) (by omega) (below_setRow (below_setRow hbl (by omega) _) (Nat.le_refl _) _))
end Go.Proofs.Ytimmiidkjpbffaa

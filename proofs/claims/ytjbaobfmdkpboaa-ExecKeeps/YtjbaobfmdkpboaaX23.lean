/- K, Cv. -/
import Derived.Test.YtjbaobfmdkpboaaX01
import Derived.Test.YtjbaobfmdkpboaaX02
import Derived.Test.YtjbaobfmdkpboaaX03
import Derived.Test.YtjbaobfmdkpboaaX04
import Derived.Test.YtjbaobfmdkpboaaX05
import Derived.Test.YtjbaobfmdkpboaaX06
import Derived.Test.YtjbaobfmdkpboaaX07
import Derived.Test.YtjbaobfmdkpboaaX16
import Derived.Test.YtjbaobfmdkpboaaX09
import Derived.Test.YtjbaobfmdkpboaaX20
import Derived.Test.YtjbaobfmdkpboaaX10
import Derived.Test.YtjbaobfmdkpboaaX11
import Derived.Test.YtjbaobfmdkpboaaX21
import Derived.Test.YtjbaobfmdkpboaaX22
import Derived.BigQuiet
import Derived.BigRegion
import Derived.ChangeKeysEq
import Derived.ChangeOld
import Derived.Deep.DeepCutAuto
import Derived.Deep.DrawnRows
import Derived.Deep.MidRow
import Derived.Deep.QuietTactic
import Derived.Deep.RegionHeld3
import Derived.Deep.RegionLaw
import Derived.Deep.RegionWith
import Derived.Deep.WholeRow
import Derived.Great.BuildSlice
import Derived.Great.FillDense
import Derived.JoinedTies
import Derived.KernelRfl
import Derived.Laws.AppendOwnNone
import Derived.Laws.BitsLemmas
import Derived.Laws.BytesArg
import Derived.Laws.CopyOwn
import Derived.Laws.OwnMore
import Derived.Laws.ResultCell
import Derived.Lib.SlBytesConst
import Derived.Maps.AppendAt
import Derived.OpenShut
import Derived.ProofKit
import Derived.ShutString
import Derived.SizedLaws
import Derived.WalkKit
import Derived.WalkLawsBesides
import Derived.WalkSpells
import GoSem.Claim
import GoSem.ClaimJoined
import GoSem.ClaimMapViews
import Derived.Test.YtjbaobfmdkpboaaRows
import Derived.Laws.Tables
import Derived.LoopIn
import Derived.LoopNIn
import Derived.OwnWalkIn
import Derived.RangeFuncBound
import Derived.RangeFuncCalls
import Derived.RangeFuncLeaves
import Derived.RangeFuncNested
import Derived.RangeFuncRecord
import Derived.Shelf.Abstract
import Derived.Shelf.RegionOpen
import Derived.TacticsInMore
/- Layer exec: what the layers below give. -/
namespace Go.Proofs.Ytjbaobfmdkpboaa
set_option linter.unusedSectionVars false
set_option maxHeartbeats 1000000
open Go.RowKit
set_option maxRecDepth 100000
set_option linter.unusedVariables false
set_option linter.unusedSimpArgs false

variable [DecidableEq Ac] [DecidableEq Ou] [DecidableEq Mg]
def RPost (L : List Int) (w : World) (e : Ending) (w' : World) : Prop := e = .returned (.tuple #[.agg (rdM L).arr, .int .i64 (rdE L)]) ∧ Below w.heap.size w w'
theorem rd_far {L : List Int} (h : L.length ≠ 104) : rdM L = mg0 ∧ rdE L = we L := by
  have h2 : ¬ (L.length = 104 ∧ goodM L = true) := fun h' => h h'.1
  refine ⟨by unfold rdM; rw [if_neg h2], ?_⟩
  unfold rdE we
  by_cases h3 : L.length < 104
  · rw [if_pos h3, if_pos h3]
  · rw [if_neg h3, if_neg h3, if_neg h2, if_pos (by omega)]
theorem rd_bad {L : List Int} (h : L.length = 104) (hg : goodM L = false) : rdM L = mg0 ∧ rdE L = 8 := by
  have h2 : ¬ (L.length = 104 ∧ goodM L = true) := fun h' => by rw [hg] at h'; exact absurd h'.2 (by simp)
  exact ⟨by unfold rdM; rw [if_neg h2], by unfold rdE; rw [if_neg (by omega), if_neg h2]⟩
theorem rd_good {L : List Int} (h : L.length = 104) (hg : goodM L = true) : rdM L = mgOf L ∧ rdE L = 0 :=
  ⟨by unfold rdM; rw [if_pos ⟨h, hg⟩], by unfold rdE; rw [if_neg (by omega), if_pos ⟨h, hg⟩]⟩
theorem RPost.far {L : List Int} {w w' : World} (h : L.length ≠ 104) (hb : Below w.heap.size w w') : RPost L w (.returned (.tuple #[.agg mg0.arr, .int .i64 (we L)])) w' := ⟨by rw [(rd_far h).1, (rd_far h).2], hb⟩
theorem RPost.bad {L : List Int} {w w' : World} (h : L.length = 104) (hg : goodM L = false) (hb : Below w.heap.size w w') : RPost L w (.returned (.tuple #[.agg mg0.arr, .int .i64 8])) w' := ⟨by rw [(rd_bad h hg).1, (rd_bad h hg).2], hb⟩
theorem RPost.good {L : List Int} {w w' : World} (h : L.length = 104) (hg : goodM L = true) (hb : Below w.heap.size w w') : RPost L w (.returned (.tuple #[.agg (mgOf L).arr, .int .i64 0])) w' := ⟨by rw [(rd_good h hg).1, (rd_good h hg).2], hb⟩
theorem we_ne {L : List Int} (h : L.length ≠ 104) : we L ≠ 0 := by
  unfold we
  by_cases h3 : L.length < 104
  · rw [if_pos h3]; omega
  · rw [if_neg h3, if_pos (by omega)]; omega
theorem we_eq {L : List Int} (h : L.length = 104) : we L = 0 := by
  unfold we; rw [if_neg (by omega), if_neg (by omega)]
theorem wordsC {L : List Int} {sp : Option Addr} {n cap N : Nat} {w : World} (hS : BS N w sp n cap L) {e : Int} {f : Nat → Int} (he : Hid (we L = e)) (hf : Hid (wv L = f)) :
    Calls Try.prog 33 #[.slice sp n cap] w fun r w' => r = .returned (.tuple #[.agg (u64s 13 f), .int .i64 e]) ∧ Below w.heap.size w w' := by
  have := words14_any sp n cap N L w hS
  rw [he.out, hf.out] at this
  exact this
theorem refWordsC {L : List Int} {sp : Option Addr} {n cap N : Nat} {w : World} (hS : BS N w sp n cap L) {e : Int} {f : Nat → Int} (he : Hid (we L = e)) (hf : Hid (wv L = f)) :
    Calls Try.prog 29 #[.slice sp n cap] w fun r w' => r = .returned (.tuple #[.agg (u64s 13 f), .int .i64 e]) ∧ Below w.heap.size w w' := by
  have := refWords15_any sp n cap N L w hS
  rw [he.out, hf.out] at this
  exact this
set_option maxHeartbeats 2000000 in
theorem read_any (sp : Option Addr) (n cap N : Nat) (L : List Int) (w : World) (hS : BS N w sp n cap L) : Calls Try.prog 24 #[.slice sp n cap] w (RPost L w) := by
  have R0 := Arr.new w 44 mg0.arr
  have hB0 := alloc_bel' w (.cells mg0.arr 44)
  have hS0 := (hS.here).below hB0
  have hbts := hS.bts
  have hlen := hS.len
  have z27 := zv27
  have hb0 := built27z
  have hsz0 := Mg.size mg0_ok
  go_enter Try.func24, Try.ntmps24
  by_cases hl : L.length = 104
  · have E := Hid.mk' (we_eq hl)
    have F := Hid.mk' (wv_yes hl)
    have hl := Hid.mk' hl
    go_upto_region 4 with (first
      | (go_at_call 33; go_must (refine (wordsC hS0 E F).mono ?_; rintro e w1 ⟨rfl, hb1⟩; have R1 := R0.bel hb1; have B1 := hB0.trans (hb1.mono (by simp)); clear R0 hB0 hS0))
      | (refine atS 65 (.tmp 4) (.tmp 10) ?_; refine st41n (by rfl) (.tmp 4) (.tmp 10) (by rfl) w1 w1.heap.size rfl (by rfl) (u64s 13 (wd L)) (by rfl) (by rfl) (u64s_size _ _) (u64s_one _ _) ?_))
    have A2 := Arr.new w1 65 (u64s 13 (wd L))
    have R2 := R1.alloc (.cells (u64s 13 (wd L)) 65)
    have B2 := B1.alloc B1.size (.cells (u64s 13 (wd L)) 65)
    generalize hG : w1.heap.size = G at A2 ⊢
    have hRG : w.heap.size < G := by rw [← hG]; exact R1.lt
    generalize w1.alloc (.cells (u64s 13 (wd L)) 65) = V at A2 R2 B2 ⊢
    clear R1 B1 hb1 hG
    have hok := mgOf_ok hbts hl.out
    go_upto_region 5 with (first
      | (refine atL 65 (.tmp 4) ?_; refine wpList_load_row (by rfl) 65 (.tmp 4) (by rfl) G (by rfl) 65 (u64s 13 (wd L)) (0, 0) _ A2 Try.underlying65 rfl (s41u _) ?_)
      | (go_at_call 34; go_must (refine (msgOf_any L _ hbts hl.out).mono ?_; rintro e w3 ⟨rfl, hb3⟩; have A3 := A2.bel hb3; have R3 := R2.bel hb3; have B3 := B2.trans (hb3.mono B2.size); clear A2 R2 B2))
      | (refine atS 44 (.tmp 6) (.tmp 17) ?_; refine st27n (by rfl) (.tmp 6) (.tmp 17) (by rfl) w3 w3.heap.size rfl hsz0 (mgOf L) (by rfl) (by rfl) hok ?_))
    have M4 := Arr.new w3 44 (mgOf L).arr
    have A4 := A3.alloc (.cells (mgOf L).arr 44)
    have R4 := R3.alloc (.cells (mgOf L).arr 44)
    have B4 := B3.alloc B3.size (.cells (mgOf L).arr 44)
    generalize hG2 : w3.heap.size = G2 at M4 ⊢
    have hRG2 : w.heap.size < G2 := by rw [← hG2]; exact R3.lt
    generalize w3.alloc (.cells (mgOf L).arr 44) = V4 at M4 A4 R4 B4 ⊢
    clear A3 R3 B3 hb3 hG2
    have c0 := mg_c0 M4
    have d0 : V4.cell? ⟨G, 0, none⟩ = some (.int .u64 (wd L 0)) := (A4.cell 0).trans (u64s_get (by omega))
    have k0 := hok.k0
    have k1 := hok.k1
    have kw : IntKind.u64.wrap (mgOf L).kd = (mgOf L).kd := wrap64_of k0 (by omega)
    have km : (mgOf L).kd % 18446744073709551616 = (mgOf L).kd := by omega
    have GK := Hid.mk' (goodM_kd hbts)
    generalize hkd : (mgOf L).kd = kd at c0 kw km GK k0 k1
    generalize hw0 : wd L 0 = x0 at d0 GK
    have hkd := Hid.mk' hkd
    have hw0 := Hid.mk' hw0
    by_cases hq : x0 = kd
    · have hq' : (kd != x0) = false := by simp [hq]
      subst hq
      cases hmay : (mgOf L).may
      · have hg : Hid (goodM L = false) := Hid.mk' (by rw [GK.out, hmay]; simp)
        go_wp2_with (first
          | (refine atL 44 (.tmp 6) ?_; refine ld27M (by rfl) (.tmp 6) (by rfl) G2 44 (by rfl) (mgOf L) hok M4 ?_)
          | (go_at_call 35; go_must (refine (may_anyM (mgOf L) _ hok).mono ?_; rintro e w5 ⟨rfl, hb5⟩; have R5 := R4.bel hb5; have B5 := B4.trans (hb5.mono B4.size)))
          | (refine atB 44 ?_; refine bdT (by rfl) 44 #[] (by rfl) (ps := []) (by rfl) hb0 ?_)
          | (refine atS 44 (.tmp 2) (.tmp 29) ?_; refine st27 (by rfl) (.tmp 2) (.tmp 29) (by rfl) w.heap.size mg0 (by rfl) (by rfl) mg0_ok hsz0 R5 ?_))
        exact bodyPost_ret (v := .tuple #[.agg mg0.arr, .int .i64 8]) (resM Try.results24 rfl rfl mg0_ok (R5.setRow _)) rfl (RPost.bad hl.out hg.out (below_setRow B5 (by omega) _))
      · have hg : Hid (goodM L = true) := Hid.mk' (by rw [GK.out, hmay]; simp)
        go_wp2_with (first
          | (refine atL 44 (.tmp 6) ?_; refine ld27M (by rfl) (.tmp 6) (by rfl) G2 44 (by rfl) (mgOf L) hok (by assumption) ?_)
          | (go_at_call 35; go_must (refine (may_anyM (mgOf L) _ hok).mono ?_; rintro e w5 ⟨rfl, hb5⟩; have R5 := R4.bel hb5; have B5 := B4.trans (hb5.mono B4.size); have M5 := M4.bel hb5))
          | (refine atS 44 (.tmp 2) (.tmp 30) ?_; refine st27 (by rfl) (.tmp 2) (.tmp 30) (by rfl) w.heap.size (mgOf L) (by rfl) (by rfl) hok hsz0 R5 ?_))
        exact bodyPost_ret (v := .tuple #[.agg (mgOf L).arr, .int .i64 0]) (resM Try.results24 rfl rfl hok (R5.setRow _)) rfl (RPost.good hl.out hg.out (below_setRow B5 (by omega) _))
    · have hq' : (kd != x0) = true := by simp; omega
      have hq2 : ¬ kd = x0 := fun h => hq h.symm
      have hg : Hid (goodM L = false) := Hid.mk' (by rw [GK.out]; simp [hq])
      go_wp2_with (first
        | (refine atB 44 ?_; refine bdT (by rfl) 44 #[] (by rfl) (ps := []) (by rfl) hb0 ?_)
        | (refine atS 44 (.tmp 2) (.tmp 29) ?_; refine st27 (by rfl) (.tmp 2) (.tmp 29) (by rfl) w.heap.size mg0 (by rfl) (by rfl) mg0_ok hsz0 R4 ?_))
      exact bodyPost_ret (v := .tuple #[.agg mg0.arr, .int .i64 8]) (resM Try.results24 rfl rfl mg0_ok (R4.setRow _)) rfl (RPost.bad hl.out hg.out (below_setRow B4 (by omega) _))
  · have F := Hid.mk' (wv_no hl)
    have hne := we_ne hl
    obtain ⟨ee, E⟩ : ∃ x, Hid (we L = x) := ⟨_, rfl⟩
    rw [E.out] at hne
    have HL := Hid.mk' hl
    go_wp2_with (first
      | (go_at_call 33; go_must (refine (wordsC hS0 E F).mono ?_; rintro e w1 ⟨rfl, hb1⟩; have R1 := R0.bel hb1; have B1 := hB0.trans (hb1.mono (by simp)); have R2 := R1.alloc (.cells (u64s 13 (fun _ => 0)) 65); have B2 := B1.alloc B1.size (.cells (u64s 13 (fun _ => 0)) 65); clear R0 hB0 hS0))
      | (refine atS 65 (.tmp 4) (.tmp 10) ?_; refine st41n (by rfl) (.tmp 4) (.tmp 10) (by rfl) w1 w1.heap.size rfl (by rfl) (u64s 13 (fun _ => 0)) (by rfl) (by rfl) (u64s_size _ _) (u64s_one _ _) ?_)
      | (refine atB 44 ?_; refine bdT (by rfl) 44 #[] (by rfl) (ps := []) (by rfl) hb0 ?_)
      | (refine atS 44 (.tmp 2) (.tmp 14) ?_; refine st27 (by rfl) (.tmp 2) (.tmp 14) (by rfl) w.heap.size mg0 (by rfl) (by rfl) mg0_ok hsz0 R2 ?_))
    have P := RPost.far HL.out (below_setRow B2 (Nat.le_refl _) mg0.arr)
    rw [E.out] at P
    exact bodyPost_ret (v := .tuple #[.agg mg0.arr, .int .i64 ee]) (resM Try.results24 rfl rfl mg0_ok (R2.setRow _)) rfl P
end Go.Proofs.Ytjbaobfmdkpboaa
/- Layer exec: what the layers below give. -/
namespace Go.Proofs.Ytjbaobfmdkpboaa
set_option linter.unusedSectionVars false
set_option maxHeartbeats 1000000
open Go.RowKit
set_option maxRecDepth 100000
set_option linter.unusedVariables false
set_option linter.unusedSimpArgs false

variable [DecidableEq Ac] [DecidableEq Ou] [DecidableEq Mg]
theorem list_take_ne {α : Type} {l l' : List α} {j : Nat} {a b : α} (ha : l[j]? = some a) (hb : l'[j]? = some b) (hab : a ≠ b) : l ≠ l' := fun e => by subst e; rw [ha] at hb; exact hab (Option.some.inj hb)
theorem list_ext_take {α : Type} {l l' : List α} (hl : l.length = l'.length) (h : ∀ i, i < l.length → l[i]? = l'[i]?) : l = l' := by
  apply List.ext_getElem?
  intro i
  by_cases hi : i < l.length
  · exact h i hi
  · rw [List.getElem?_eq_none (by omega), List.getElem?_eq_none (by omega)]
end Go.Proofs.Ytjbaobfmdkpboaa

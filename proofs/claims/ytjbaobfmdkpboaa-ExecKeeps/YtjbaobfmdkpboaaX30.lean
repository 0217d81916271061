/- L, Ei. -/
import Derived.Test.YtjbaobfmdkpboaaX01
import Derived.Test.YtjbaobfmdkpboaaX02
import Derived.Test.YtjbaobfmdkpboaaX03
import Derived.Test.YtjbaobfmdkpboaaX04
import Derived.Test.YtjbaobfmdkpboaaX05
import Derived.Test.YtjbaobfmdkpboaaX06
import Derived.Test.YtjbaobfmdkpboaaX07
import Derived.Test.YtjbaobfmdkpboaaX29
import Derived.Test.YtjbaobfmdkpboaaX16
import Derived.Test.YtjbaobfmdkpboaaX09
import Derived.Test.YtjbaobfmdkpboaaX20
import Derived.Test.YtjbaobfmdkpboaaX10
import Derived.Test.YtjbaobfmdkpboaaX11
import Derived.Test.YtjbaobfmdkpboaaX25
import Derived.BigQuiet
import Derived.BigRegion
import Derived.ChangeKeysEq
import Derived.ChangeOld
import Derived.Deep.DeepCutAuto
import Derived.Deep.DrawnRows
import Derived.Deep.MidRow
import Derived.Deep.QuietTactic
import Derived.Deep.RegionHeld3
import Derived.Deep.RegionLaw
import Derived.Deep.RegionWith
import Derived.Deep.WholeRow
import Derived.Great.BuildSlice
import Derived.Great.FillDense
import Derived.JoinedTies
import Derived.KernelRfl
import Derived.Laws.AppendOwnNone
import Derived.Laws.BitsLemmas
import Derived.Laws.BytesArg
import Derived.Laws.CopyOwn
import Derived.Laws.OwnMore
import Derived.Laws.ResultCell
import Derived.Lib.SlBytesConst
import Derived.Maps.AppendAt
import Derived.OpenShut
import Derived.ProofKit
import Derived.ShutString
import Derived.SizedLaws
import Derived.WalkKit
import Derived.WalkLawsBesides
import Derived.WalkSpells
import GoSem.Claim
import GoSem.ClaimJoined
import GoSem.ClaimMapViews
import Derived.Test.YtjbaobfmdkpboaaX14
/- Layer exec: what the layers below give. -/
namespace Go.Proofs.Ytjbaobfmdkpboaa
set_option linter.unusedSectionVars false
set_option maxHeartbeats 1000000
open Go.RowKit
set_option maxRecDepth 100000
set_option linter.unusedVariables false
set_option linter.unusedSimpArgs false

variable [DecidableEq Ac] [DecidableEq Ou] [DecidableEq Mg]
theorem cat5 (m : Mg) : cat (w13 m) 5 ++ m.ky ++ m.nx = m.bytes := by simp [cat, w13, Mg.bytes]
theorem lit5 (m : Mg) {k : Nat} (h : k < 5) : (#[.int .u64 m.kd, .int .u64 m.fr, .int .u64 m.tw, .int .u64 m.am, .int .u64 m.no] : Array Value)[k]? = some (.int .u64 (w13 m k)) := by
  match k, h with
  | 0, _ => rfl
  | 1, _ => rfl
  | 2, _ => rfl
  | 3, _ => rfl
  | 4, _ => rfl
set_option maxHeartbeats 2000000 in
theorem refWrite_any (m : Mg) (w : World) (hm : MgOK m) : Calls Try.prog 27 #[.agg m.arr] w (WPost m w) := by
  have A0 := Arr.new w 44 m.arr
  have hB0 := alloc_bel' w (.cells m.arr 44)
  have hcat := Hid.mk' (cat5 m)
  have hkl := hm.kl
  have hnl := hm.nl
  go_enter Try.func27, Try.ntmps27
  cases hmay : m.may
  · go_wp2_with (first
      | (refine atL 44 (.tmp 1) ?_; refine ld27M (by rfl) (.tmp 1) (by rfl) w.heap.size 44 (by rfl) m hm A0 ?_)
      | (go_at_call 31; go_must (refine (refMay_anyM m _ hm).mono ?_; rintro e w1 ⟨rfl, hb1⟩; have A1 := A0.bel hb1; have B1 := hB0.trans (hb1.mono (by simp)); clear A0)))
    go_ret2
    exact WPost.no hmay B1
  · go_upto_region 3 with (first
      | (refine atL 44 (.tmp 1) ?_; refine ld27M (by rfl) (.tmp 1) (by rfl) w.heap.size 44 (by rfl) m hm A0 ?_)
      | (go_at_call 31; go_must (refine (refMay_anyM m _ hm).mono ?_; rintro e w1 ⟨rfl, hb1⟩; have A1 := A0.bel hb1; have B1 := hB0.trans (hb1.mono (by simp)); clear A0)))
    have c0 := mg_c0 A1
    have c1 := mg_c1 A1
    have c2 := mg_c2 A1
    have c3 := mg_c3 A1
    have c4 := mg_c4 A1
    have k0 := hm.k0
    have k1 := hm.k1
    have kw : IntKind.u64.wrap m.kd = m.kd := wrap64_of k0 (by omega)
    have km : m.kd % 18446744073709551616 = m.kd := by omega
    have A2 := A1.alloc (.cells #[.int .u64 m.kd, .int .u64 m.fr, .int .u64 m.tw, .int .u64 m.am, .int .u64 m.no] 22)
    have L2 := Arr.new w1 22 #[.int .u64 m.kd, .int .u64 m.fr, .int .u64 m.tw, .int .u64 m.am, .int .u64 m.no]
    have B2 := B1.alloc B1.size (.cells #[.int .u64 m.kd, .int .u64 m.fr, .int .u64 m.tw, .int .u64 m.am, .int .u64 m.no] 22)
    have hA1 := A1.lt
    go_upto_region 6 with fail
    generalize hG : w1.heap.size = G at L2 ⊢
    have hGw : w.heap.size < G := by omega
    generalize w1.alloc (.cells #[.int .u64 m.kd, .int .u64 m.fr, .int .u64 m.tw, .int .u64 m.am, .int .u64 m.no] 22) = V at A2 L2 B2 ⊢
    clear c0 c1 c2 c3 c4 A1 B1 hb1 hB0
    go_loopw [5, 6] (fun u q wr => ∃ k : Nat, k ≤ 5 ∧ q = .int .i64 k ∧ wr.ownsRow (G + 1) 5 1 u (8 * k) (by8 (cat (w13 m) k)) ∧ Arr wr w.heap.size 44 m.arr ∧ Arr wr G 22 #[.int .u64 m.kd, .int .u64 m.fr, .int .u64 m.tw, .int .u64 m.am, .int .u64 m.no] ∧ Below w.heap.size w wr) (fun _ q _ => 5 - (intOf q).toNat)
    case atStart => exact ⟨0, by omega, rfl, World.ownsRow_nil _ _ _ _, A2, L2, B2⟩
    case round =>
      obtain ⟨k, hk, rfl, hou, A3, L3, B3⟩ := hrel
      clear A2 L2 B2
      have hsz := L3.lt
      by_cases hlt : k < 5
      · have h3 : (k : Int) < 5 := by omega
        have h4 : (0 : Int) ≤ k := by omega
        have x1 : wr.cell? ⟨G, k, none⟩ = some (.int .u64 (w13 m k)) := (L3.cell k).trans (lit5 m hlt)
        obtain ⟨x, hx⟩ : ∃ x, x = w13 m k := ⟨_, rfl⟩
        rw [← hx] at x1
        replace hx := Hid.mk' hx
        have het : Hid (cat (w13 m) (k + 1) = cat (w13 m) k ++ e8 x) := Hid.mk' (by rw [hx.out]; rfl)
        go_wp2_with (first
          | (go_at_call 40; go_must (refine (eight_any x _).mono ?_; rintro e u2 ⟨v2, rfl, hown2, hb2⟩; have B4 := B3.trans (hb2.mono B3.size); have A4 := A3.below hb2 A3.lt; have L4 := L3.below hb2 L3.lt; obtain ⟨s2, q2, rfl, hS2, hsp2⟩ := own_bs hown2 (e8_bts _) (by omega); have hou' := own_same hou (fun k hk => hb2.block k (own_lt hou hk)); have hn2 := hS2.nil; have hl2 := hS2.len; have hz2 := hb2.size; clear hou A3 L3 B3))
          | (at_builtin; go_must (refine append_bytes (by rfl) (.tmp 26) (.tmp 31) (by rfl) (G + 1) _ (8 * k) (cat (w13 m) k) (by rfl) hou' s2 8 q2 (e8 x) (by rfl) hl2.out hn2 hS2.sl (by omega) (by omega) ?_; intro v3 u3 hown3 hg3; have B5 := B4.grown hg3 B4.size (fun k e => by have := own_ge hou' k e; omega); have A5 := A4.grown hg3 (ne_own hou' (by omega)); have L5 := L4.grown hg3 (ne_own hou' (by omega)))))
        go_roundw
        case rel => exact ⟨k + 1, by omega, by go_num, by rw [het.out]; exact hown3, A5, L5, B5⟩
        case measure => simp [intOf]; omega
      · obtain rfl : k = 5 := by omega
        have K3 := mg_ky A3
        have lk := range_sl K3
        go_upto_region 9 with fail
        refine wp_region_held_drew (S := fun _ => True) (by kernel_rfl) trivial (fun hHeld => ?_)
        refine wpAnyH_take (i := 0) (oi := ⟨_, _, _, _, _, _⟩) (v := ?_) rfl (by kernel_rfl) (by kernel_rfl) (by kernel_rfl) (fun _ _ _ h => h) (Or.inl ⟨by rfl, ?_⟩) (by assumption) ?_
        rotate_left
        · intro u hSw
          go_simp
          try (with_reducible rfl)
        try simp only [Act.put, List.setIfInBounds_toArray, List.set_cons_zero, List.set_cons_succ]
        refine wpAnyH_take (i := 1) (oi := ⟨_, _, _, _, _, _⟩) (v := ?_) rfl (by kernel_rfl) (by kernel_rfl) (by kernel_rfl) (fun _ _ _ h => h) (Or.inl ⟨by rfl, ?_⟩) (by assumption) ?_
        rotate_left
        · intro u hSw
          go_simp
          try (with_reducible rfl)
        try simp only [Act.put, List.setIfInBounds_toArray, List.set_cons_zero, List.set_cons_succ]
        refine wpAnyH_take (i := 2) (oi := ⟨_, _, _, _, _, _⟩) (v := ?_) rfl (by kernel_rfl) (by kernel_rfl) (by kernel_rfl) (fun _ _ _ h => h) (Or.inl ⟨by rfl, ?_⟩) (by assumption) ?_
        rotate_left
        · intro u hSw
          go_simp
          try (with_reducible rfl)
        try simp only [Act.put, List.setIfInBounds_toArray, List.set_cons_zero, List.set_cons_succ]
        refine wpAnyH_take (i := 4) (oi := ⟨_, _, _, _, _, _⟩) (v := ?_) rfl (by kernel_rfl) (by kernel_rfl) (by kernel_rfl) (fun _ _ _ h => h) (Or.inl ⟨by rfl, ?_⟩) (by assumption) ?_
        rotate_left
        · intro u hSw
          go_simp
          try (with_reducible rfl)
        try simp only [Act.put, List.setIfInBounds_toArray, List.set_cons_zero, List.set_cons_succ]
        refine wpAnyH_take (i := 5) (oi := ⟨_, _, _, _, _, _⟩) (v := ?_) rfl (by kernel_rfl) (by kernel_rfl) (by kernel_rfl) (fun _ _ _ h => h) (Or.inl ⟨by rfl, ?_⟩) (by assumption) ?_
        rotate_left
        · intro u hSw
          go_simp
          try (with_reducible rfl)
        try simp only [Act.put, List.setIfInBounds_toArray, List.set_cons_zero, List.set_cons_succ]
        have hd : w.heap.size < G := hGw
        refine wpAnyH_ready (rs := [3]) (by kernel_rfl) (by simp) ?_
        refine AllReadyH.cons (o := ⟨_, _, _, _, _, _⟩) rfl (fun K hK => ?_) AllReadyH.nil
        refine step_append_bytes rfl (.tmp 33) (.tmp 35) rfl (G + 1) _ (8 * 5) (cat (w13 m) 5) rfl (own_same hou (fun k hk => rfl)) (some ⟨w.heap.size, 5, none⟩) 32 32 m.ky rfl hkl.symm (fun h => by cases h) lk (by omega) (by first | omega | (show G + 1 ≤ wr.heap.size; omega)) ?_; intro v4 u4 hown4 hg4; have B4 := B3.drew.grown hg4 (by simpa using B3.size) (fun k e => by have := own_ge hou k e; omega); have A4 := A3.drew.grown hg4 (ne_own hou (by omega)); have ln := range_sl (mg_nx A4 hkl); have hz4 := A4.lt; have hzz : wr.heap.size ≤ u4.heap.size := hg4.size
        refine hK.out _ _ trivial (fun hHeld => ?_)
        clear hK K
        try simp only [Act.put, List.setIfInBounds_toArray, List.set_cons_zero, List.set_cons_succ]
        refine wpAnyH_ready (rs := [6]) (by kernel_rfl) (by simp) ?_
        refine AllReadyH.cons (o := ⟨_, _, _, _, _, _⟩) rfl (fun K hK => ?_) AllReadyH.nil
        refine step_append_bytes rfl (.tmp 36) (.tmp 38) rfl (G + 1) _ (8 * 5 + 32) (cat (w13 m) 5 ++ m.ky) rfl hown4 (some ⟨w.heap.size, 37, none⟩) 32 32 m.nx rfl hnl.symm (fun h => by cases h) ln (by omega) (by first | omega | (show G + 1 ≤ wr.heap.size; omega)) ?_; intro v5 u5 hown5 hg5; have B5 := B4.grown hg5 B4.size (fun k e => by have := own_ge hown4 k e; omega)
        refine hK.out _ _ trivial (fun hHeld => ?_)
        clear hK K
        try simp only [Act.put, List.setIfInBounds_toArray, List.set_cons_zero, List.set_cons_succ]
        refine wpAnyH_take (i := 7) (oi := ⟨_, _, _, _, _, _⟩) (v := ?_) rfl (by kernel_rfl) (by kernel_rfl) (by kernel_rfl) (fun _ _ _ h => h) (Or.inl ⟨by rfl, ?_⟩) (by assumption) ?_
        rotate_left
        · intro u hSw
          go_simp
          try (with_reducible rfl)
        try simp only [Act.put, List.setIfInBounds_toArray, List.set_cons_zero, List.set_cons_succ]
        refine wpAnyH_take (i := 8) (oi := ⟨_, _, _, _, _, _⟩) (v := ?_) rfl (by kernel_rfl) (by kernel_rfl) (by kernel_rfl) (fun _ _ _ h => h) (Or.inl ⟨by rfl, ?_⟩) (by assumption) ?_
        rotate_left
        · intro u hSw
          go_simp
          try (with_reducible rfl)
        try simp only [Act.put, List.setIfInBounds_toArray, List.set_cons_zero, List.set_cons_succ]
        refine wpAnyH_done (by kernel_rfl) ?_ _
        go_wp2_with fail
        go_ret2
        exact WPost.yes hm hmay (by rw [← hcat.out]; exact hown5) B5
end Go.Proofs.Ytjbaobfmdkpboaa
/- Layer exec: Opens is as the document says: its own anchor first. -/
namespace Go.Proofs.Ytjbaobfmdkpboaa
set_option linter.unusedSectionVars false
set_option maxHeartbeats 1000000
open Go.RowKit
set_option maxRecDepth 100000
set_option linter.unusedVariables false
set_option linter.unusedSimpArgs false

variable [DecidableEq Ac] [DecidableEq Ou] [DecidableEq Mg]
def X7 : List Int := 7 :: List.replicate 31 0
theorem X7_len : X7.length = 32 := rfl
theorem X7_bts : Bts X7 := by
  intro x hx; simp only [X7, List.mem_cons, List.mem_replicate] at hx; omega
theorem built24s : Try.prog.built 24 [(0, .int .u8 7)] = some (h8 X7) := by kernel_rfl
theorem built26p (x : Int) (X : List Int) (hX : X.length = 32) : Try.prog.built 26 [(0, .int .u64 x), (2, .agg (h8 X))] = some (Ac.arr ⟨x, 0, X⟩) :=
  list32 (P := fun X => Try.prog.built 26 [(0, .int .u64 x), (2, .agg (h8 X))] = some (Ac.arr ⟨x, 0, X⟩)) (fun x0 x1 x2 x3 x4 x5 x6 x7 x8 x9 x10 x11 x12 x13 x14 x15 x16 x17 x18 x19 x20 x21 x22 x23 x24 x25 x26 x27 x28 x29 x30 x31 => by kernel_rfl) X hX
theorem built26q (x y : Int) (X : List Int) (hX : X.length = 32) : Try.prog.built 26 [(0, .int .u64 x), (1, .int .u64 y), (2, .agg (h8 X))] = some (Ac.arr ⟨x, y, X⟩) :=
  list32 (P := fun X => Try.prog.built 26 [(0, .int .u64 x), (1, .int .u64 y), (2, .agg (h8 X))] = some (Ac.arr ⟨x, y, X⟩)) (fun x0 x1 x2 x3 x4 x5 x6 x7 x8 x9 x10 x11 x12 x13 x14 x15 x16 x17 x18 x19 x20 x21 x22 x23 x24 x25 x26 x27 x28 x29 x30 x31 => by kernel_rfl) X hX
theorem built44s (X Y : List Int) (hX : X.length = 32) (hY : Y.length = 32) : Try.prog.built 44 [(0, .int .u8 2), (2, .int .u64 1), (3, .int .u64 4), (5, .agg (h8 X)), (6, .agg (h8 Y))] = some (Mg.arr ⟨2, 0, 1, 4, 0, X, Y⟩) :=
  list32 (P := fun X => Try.prog.built 44 [(0, .int .u8 2), (2, .int .u64 1), (3, .int .u64 4), (5, .agg (h8 X)), (6, .agg (h8 Y))] = some (Mg.arr ⟨2, 0, 1, 4, 0, X, Y⟩)) (fun x0 x1 x2 x3 x4 x5 x6 x7 x8 x9 x10 x11 x12 x13 x14 x15 x16 x17 x18 x19 x20 x21 x22 x23 x24 x25 x26 x27 x28 x29 x30 x31 =>
    list32 (P := fun Y => Try.prog.built 44 [(0, .int .u8 2), (2, .int .u64 1), (3, .int .u64 4), (5, .agg (h8 [x0, x1, x2, x3, x4, x5, x6, x7, x8, x9, x10, x11, x12, x13, x14, x15, x16, x17, x18, x19, x20, x21, x22, x23, x24, x25, x26, x27, x28, x29, x30, x31])), (6, .agg (h8 Y))] = some (Mg.arr ⟨2, 0, 1, 4, 0, [x0, x1, x2, x3, x4, x5, x6, x7, x8, x9, x10, x11, x12, x13, x14, x15, x16, x17, x18, x19, x20, x21, x22, x23, x24, x25, x26, x27, x28, x29, x30, x31], Y⟩))
      (fun y0 y1 y2 y3 y4 y5 y6 y7 y8 y9 y10 y11 y12 y13 y14 y15 y16 y17 y18 y19 y20 y21 y22 y23 y24 y25 y26 y27 y28 y29 y30 y31 => by kernel_rfl) Y hY) X hX
/-- The anchor's state, its message. -/
def aK : List Int := shl [107]
def aA : Ac := ⟨10, 0, shl aK⟩
def aS : List Ac := zs.set 0 aA
def aM : Mg := ⟨2, 0, 1, 4, 0, aK, X7⟩
theorem shlB (L : List Int) : Bts (shl L) := shl_bts L
theorem aA_ok : AcOK aA := ⟨by decide, by decide, by decide, by decide, shl_len _, shlB _⟩
theorem aS_len : aS.length = 32 := by simp [aS, zs_len]
theorem aS_ok : ∀ a ∈ aS, AcOK a := set_ok zs_ok 0 aA_ok
theorem aS_l32 : ∀ a ∈ aS, a.lk.length = 32 := fun a ha => (aS_ok a ha).l32
theorem aM_ok : MgOK aM := ⟨by decide, by decide, by decide, by decide, by decide, by decide, by decide, by decide, by decide, by decide, shl_len _, shlB _, X7_len, X7_bts⟩
theorem aM_may : aM.may = true := by simp [Mg.may, aM]
theorem aS_may : may aS 0 = true := by kernel_rfl
theorem aS_at : aS[0]? = some aA := by simp [aS, zs]
theorem a_act : act aS [] aM = some (addB (aS.set 0 (spent aA aM)) 1 4, []) := by
  have h1 : spd aA aM = true := by simp [spd, opn, aA, aM]
  unfold act
  rw [if_neg (by decide)]
  have e : aM.fr.toNat = 0 := rfl
  rw [e, aS_at]
  simp only [h1, if_true]
  rfl
theorem a_dlt : dlt aS [] aM.bytes = some (addB (aS.set 0 (spent aA aM)) 1 4, []) := by
  unfold dlt; rw [if_pos (rdE_bytes aM_ok aM_may), rdM_bytes aM_ok aM_may, a_act]
def aQ : List Ac := addB (aS.set 0 (spent aA aM)) 1 4
theorem aQ_0 : aQ[0]? = some ⟨6, 1, X7⟩ := by
  have h : (aS.set 0 (spent aA aM))[1]? = some za := by simp [aS, zs]
  unfold aQ; rw [addB_some h, List.getElem?_set_ne (by omega), List.getElem?_set_self (by rw [aS_len]; omega)]
  rfl
theorem aQ_1 : aQ[1]? = some ⟨4, 0, Z32⟩ := by
  have h : (aS.set 0 (spent aA aM))[1]? = some za := by simp [aS, zs]
  unfold aQ; rw [addB_some h, List.getElem?_set_self (by rw [List.length_set, aS_len]; omega)]
  rfl
theorem aQ_len : aQ.length = 32 := by unfold aQ; rw [addB_len, List.length_set, aS_len]
theorem aQ_l32 : ∀ a ∈ aQ, a.lk.length = 32 := fun a ha => (addB_ok (set_ok aS_ok 0 (spent_ok aA_ok aM_ok (by simp [spd, opn, aA, aM]))) 1 4 a ha).l32
theorem a_delta (sb : Option Addr) (nb cb Nb : Nat) (w : World) (hL : BS Nb w sb nb cb aM.bytes) : Calls Try.prog 8 #[.agg (stA aS none 0 0), .slice sb nb cb] w fun r w' => ∃ sp n cap, r = .returned (.tuple #[.agg (stA aQ sp n cap), .bool true, .int .i64 0]) ∧ Below w.heap.size w w' := by
  refine (delta_any aS w.heap.size none 0 0 [] sb nb cb aM.bytes Nb w ⟨Hid.mk' aS_len, Hid.mk' aS_ok, OS.nil0 _ _⟩ hL).mono ?_
  rintro r w' ⟨sp, n, cap, rfl, -, -, hb⟩
  refine ⟨sp, n, cap, ?_, hb⟩
  have hm : may aS ([] : List Ou).length = true := aS_may
  unfold xP xD xE dlP dlD
  rw [hm, a_dlt]; rfl
theorem a_write (w : World) : Calls Try.prog 27 #[.agg aM.arr] w fun e w' => ∃ sp n cap, e = .returned (.tuple #[.slice sp n cap, .int .i64 0]) ∧ BS w'.heap.size w' sp n cap aM.bytes ∧ Below w.heap.size w w' := by
  refine (refWrite_any aM w aM_ok).mono ?_
  rintro r w' ⟨sp, n, cap, rfl, hB, hb⟩
  refine ⟨sp, n, cap, by rw [aM_may]; rfl, ?_, hb⟩
  rw [wb_yes aM_may] at hB; exact hB
theorem ld26g {ops : Array Oper} {rest : List Oper} {o : Oper} {a : Act} {w : World} {Q : Exit → Act → World → Prop} (hgd : Region.wanted o (yielded ops a.tmps) = true) (x : Operand) (ho : o.op = .load 26 x)
    (b off : Nat) (hx : a.eval x = .pointer (some ⟨b, off, none⟩)) (e : Ac) (he : e.lk.length = 32) (hc : w.rangeAt b off e.cells)
    (h : wpList Try.prog ops Q rest (a.put o.dst (.agg e.arr)) w) : wpList Try.prog ops Q (o :: rest) a w :=
  wpList_want hgd fun _ hK => wp_load_mid 26 x ho b off hx e.cells _ hc Try.underlying26 rfl (by rw [Ac.len he]; exact size26) (hK _ _ h)
set_option maxHeartbeats 2000000 in
theorem anchored_any (w : World) : Calls Try.prog 13 #[] w fun r w' => r = .returned (.bool true) ∧ Below w.heap.size w w' := by
  have hz30 := zeroValue30
  have hzsz : (stA zs none 0 0).size = 1089 := stA_size zs_len zs_l32
  have S0 := Arr.new w 30 (stA zs none 0 0)
  have B0 := alloc_bel' w (.cells (stA zs none 0 0) 30)
  have hKl : aK.length = 32 := shl_len _
  have hk2 : Hid (aS = zs.set 0 ⟨10, 0, shl aK⟩) := Hid.mk' rfl
  have hKe : Hid (sha [107] = h8 aK) := Hid.mk' (sha_h8 _)
  have hKKe : Hid (sha aK = h8 (shl aK)) := Hid.mk' (sha_h8 _)
  have hKKl : (shl aK).length = 32 := shl_len _
  have hmE : Hid (Mg.arr ⟨2, 0, 1, 4, 0, aK, X7⟩ = aM.arr) := Hid.mk' rfl
  have hb24 := built24s
  have hX7 := X7_len
  go_enter Try.func13, Try.ntmps13
  go_upto_region 2 with fail
  generalize hV : w.alloc (.cells (stA zs none 0 0) 30) = V at S0 B0 ⊢
  have hcv := Go.Lib.run_convert_bytes_const (P := Try.prog) V 31 5 #[.int .u8 107] 1 1 Try.underlying31 Try.underlying5
  have hS1 : SlL (V.alloc (.cells #[.int .u8 107] 5 (1, 2))) (some ⟨V.heap.size, 0, none⟩) [107] := fun _ => ⟨V.heap.size, 0, rfl, fun t ht => by
    rw [cell_of_row _ _ _ _ _ _ (heap_alloc_new V _), Nat.zero_add]
    match t, ht with
    | 0, _ => rfl⟩
  have S1 := S0.alloc (.cells #[.int .u8 107] 5 (1, 2))
  have B1 := B0.alloc B0.size (.cells #[.int .u8 107] 5 (1, 2))
  have hVz := S0.lt
  clear hV
  go_upto_region 3 with (first
    | (go_at_call 26; go_must (refine (refSum_any (some ⟨V.heap.size, 0, none⟩) 1 1 [107] _ rfl (fun e => by cases e) hS1 (by omega)).mono ?_; rintro r w2 ⟨rfl, hb2⟩; rw [hKe.out]))
    | (refine atS 24 (.tmp 2) (.tmp 10) ?_; refine st24n (by rfl) _ _ (by rfl) w2 w2.heap.size rfl (by rfl) aK (by rfl) (by rfl) hKl ?_))
  have S2 := (S1.below hb2 S1.lt).alloc (.cells (h8 aK) 24)
  have B2 := (B1.trans (hb2.mono B1.size)).alloc (Nat.le_trans B1.size hb2.size) (.cells (h8 aK) 24)
  have K2 := Arr.new w2 24 (h8 aK)
  have hz2 : w.heap.size < w2.heap.size := by have := hb2.size; have := S1.lt; omega
  generalize w2.alloc (.cells (h8 aK) 24) = W2 at *
  generalize w2.heap.size = GK at *
  have hKr : W2.rangeAt GK 0 (by8 aK) := fun j v hv => by rw [Nat.zero_add, K2.cell]; simpa [h8] using hv
  have hb26 := built26p 10 (shl aK) hKKl
  clear S1 B1 hS1 S0 B0 hb2 hcv
  go_upto_region 4 with (first
    | (go_at_call 26; go_must (refine (refSum_any (some ⟨GK, 0, none⟩) 32 32 aK _ (by rw [hKl]) (fun e => by cases e) (slL_at hKr) (by omega)).mono ?_; rintro r w3 ⟨rfl, hb3⟩; rw [hKKe.out]; have S3 := S2.below hb3 S2.lt; have hth : w3.there w.heap.size 0 (Ac.arr ⟨10, 0, shl aK⟩).size := arr_there S3 (by rw [hzsz, Ac.size hKKl]; omega)))
    | (refine atB 26 ?_; refine bdT (by rfl) 26 #[(0, .const (.int .u64 10)), (2, .tmp 12)] (by rfl) (by rfl) hb26 ?_)
    | (refine atS 26 (.tmp 15) (.tmp 13) ?_; refine wpList_store_mid (by rfl) 26 (.tmp 15) (.tmp 13) (by rfl) w.heap.size 0 (Ac.arr ⟨10, 0, shl aK⟩) (by rfl) (by rfl) hth (s26 hKKl) (Ac.oneA _) ?_))
  obtain ⟨S4, O4⟩ := arr_setCells (Ac.cells ⟨10, 0, shl aK⟩) 0 w3 _ S3
  have e4 : setA (stA zs none 0 0) 0 (Ac.cells ⟨10, 0, shl aK⟩) = stA aS none 0 0 := by
    have h := stA_acc (ps := zs) (i := 0) (a := za) (a' := ⟨10, 0, shl aK⟩) (sp := none) (n := 0) (cap := 0) (by simp [zs]) zs_l32 hKKl
    rw [Nat.zero_mul] at h
    rw [h, hk2.out]
  rw [e4] at S4
  have K4 := O4.arr (K2.below hb3 K2.lt) (show GK ≠ w.heap.size by omega)
  have B4 := (B2.trans (hb3.mono B2.size)).trans (O4.bel.mono (Nat.le_refl _))
  have e9 : w3.setCells w.heap.size 0 (Ac.arr ⟨10, 0, shl aK⟩).toList = w3.setCells w.heap.size 0 (Ac.cells ⟨10, 0, shl aK⟩) := rfl
  try rw [e9]
  generalize w3.setCells w.heap.size 0 (Ac.cells ⟨10, 0, shl aK⟩) = W4 at *
  have hKr4 : W4.rangeAt GK 0 (by8 aK) := fun j v hv => by rw [Nat.zero_add, K4.cell]; simpa [h8] using hv
  have hb44 := built44s aK X7 hKl hX7
  rw [hmE.out] at hb44
  clear e4 e9 hth O4 S3 S2 B2 K2 hKr hb3 hb26 hmE
  go_upto_region 5 with (first
    | (refine atL 24 (.tmp 2) ?_; refine ld25 (by rfl) (.tmp 2) (by rfl) GK 0 (by rfl) aK hKl hKr4 ?_)
    | (refine atB 24 ?_; refine bdT (by rfl) 24 #[(0, .const (.int .u8 7))] (by rfl) (by rfl) hb24 ?_)
    | (refine atB 44 ?_; refine bdT (by rfl) 44 #[(0, .const (.int .u8 2)), (2, .const (.int .u64 1)), (3, .const (.int .u64 4)), (5, .tmp 17), (6, .tmp 18)] (by rfl) (by rfl) hb44 ?_)
    | (go_at_call 27; go_must (refine (a_write _).mono ?_; rintro r w5 ⟨s5, n5, c5, rfl, L5, hb5⟩)))
  have S5 := S4.below hb5 S4.lt
  have B5 := B4.trans (hb5.mono B4.size)
  have hQl := aQ_len
  have hQ2 := aQ_l32
  have hQ0 := Hid.mk' aQ_0
  have hQ1 := Hid.mk' aQ_1
  have hD := Hid.mk' (fun sb nb cb Nb u h => a_delta sb nb cb Nb u h)
  have hSl := aS_len
  have hS2 := aS_l32
  generalize stA zs none 0 0 = Z at *
  generalize aQ = Q at *
  generalize aS = Sx at *
  go_upto_region 6 with (first
    | (refine atL 30 (.tmp 1) ?_; refine ld30 (by rfl) _ (by rfl) w.heap.size 30 (by rfl) Sx none 0 0 hSl hS2 S5 ?_)
    | (go_at_call 8; go_must (refine (hD.out _ _ _ _ _ L5).mono ?_; rintro r w6 ⟨s6, n6, c6, rfl, hb6⟩))
    | (refine atS 30 (.tmp 5) (.tmp 27) ?_; refine st30n (by rfl) _ _ (by rfl) w6 w6.heap.size rfl hzsz Q s6 n6 c6 (by rfl) (by rfl) hQl hQ2 ?_))
  have T6 := Arr.new w6 30 (stA Q s6 n6 c6)
  have B6 := (B5.trans (hb6.mono B5.size)).alloc (Nat.le_trans B5.size hb6.size) (.cells (stA Q s6 n6 c6) 30)
  generalize w6.alloc (.cells (stA Q s6 n6 c6) 30) = W6 at *
  generalize w6.heap.size = GT at *
  have r0 := T6.stAt hQ2 hQ0.out
  have r1 := ac_c0 (T6.stAt hQ2 hQ1.out)
  have hb26 := built26q 6 1 X7 hX7
  have heq := run_eq26 (a := ⟨6, 1, X7⟩) (b := ⟨6, 1, X7⟩) hX7 hX7
  rw [decide_eq_true rfl] at heq
  simp only [Nat.zero_mul, Nat.one_mul] at r0 r1
  clear S5 S4 K4 B5 B4 hKr4
  go_wp2_with (first
    | go_skip
    | (refine atL 26 (.tmp 37) ?_; refine ld26g (by rfl) (.tmp 37) (by rfl) GT 0 (by rfl) ⟨6, 1, X7⟩ hX7 r0 ?_)
    | (refine atB 24 ?_; refine bdT (by rfl) 24 #[(0, .const (.int .u8 7))] (by rfl) (by rfl) hb24 ?_)
    | (refine atB 26 ?_; refine bdT (by rfl) 26 #[(0, .const (.int .u64 6)), (1, .const (.int .u64 1)), (2, .tmp 39)] (by rfl) (by rfl) hb26 ?_))
  go_ret
  exact ⟨rfl, B6⟩
end Go.Proofs.Ytjbaobfmdkpboaa

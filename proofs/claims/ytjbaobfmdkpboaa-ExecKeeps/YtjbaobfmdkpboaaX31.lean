/- Ej, Cm, Qk. -/
import Derived.Test.YtjbaobfmdkpboaaX28
import Derived.Test.YtjbaobfmdkpboaaX29
import Derived.Test.YtjbaobfmdkpboaaX30
import Derived.Test.YtjbaobfmdkpboaaX24
import Derived.Test.YtjbaobfmdkpboaaX03
import Derived.Test.YtjbaobfmdkpboaaX04
import Derived.Test.YtjbaobfmdkpboaaX05
import Derived.BigQuiet
import Derived.BigRegion
import Derived.ChangeKeysEq
import Derived.ChangeOld
import Derived.Deep.DeepCutAuto
import Derived.Deep.DrawnRows
import Derived.Deep.MidRow
import Derived.Deep.QuietTactic
import Derived.Deep.RegionHeld3
import Derived.Deep.RegionLaw
import Derived.Deep.RegionWith
import Derived.Deep.WholeRow
import Derived.Great.BuildSlice
import Derived.JoinedTies
import Derived.KernelRfl
import Derived.Laws.AppendOwnNone
import Derived.Laws.BitsLemmas
import Derived.Laws.BytesArg
import Derived.Laws.CopyOwn
import Derived.Laws.Tables
import Derived.Lib.SlBytesConst
import Derived.LoopIn
import Derived.LoopNIn
import Derived.Maps.AppendAt
import Derived.OpenShut
import Derived.OwnWalkIn
import Derived.ProofKit
import Derived.RangeFuncBound
import Derived.RangeFuncCalls
import Derived.RangeFuncLeaves
import Derived.RangeFuncNested
import Derived.RangeFuncRecord
import Derived.Shelf.Abstract
import Derived.Shelf.RegionOpen
import Derived.ShutString
import Derived.SizedLaws
import Derived.TacticsInMore
import Derived.WalkKit
import Derived.WalkLawsBesides
import Derived.WalkSpells
import GoSem.Claim
import GoSem.ClaimJoined
import GoSem.ClaimMapViews
import Derived.Test.YtjbaobfmdkpboaaX01
import Derived.Test.YtjbaobfmdkpboaaX02
import Derived.Test.YtjbaobfmdkpboaaX06
import Derived.Test.YtjbaobfmdkpboaaX07
import Derived.Great.FillDense
import Derived.Laws.CopyRow
import Derived.Laws.MakeOwn
import Derived.Laws.OwnMore
import Derived.Lib.AppendZeros
/- Layer exec: the laws ExecOpens and ExecDeltas. -/
namespace Go.Proofs.Ytjbaobfmdkpboaa
set_option linter.unusedSectionVars false
set_option maxHeartbeats 1000000
open Go.RowKit
set_option maxRecDepth 100000
set_option linter.unusedVariables false
set_option linter.unusedSimpArgs false

variable [DecidableEq Ac] [DecidableEq Ou] [DecidableEq Mg]
theorem dl_len (ps : List Ac) (os : List Ou) (L : List Int) : (dlO ps os L).length ≤ os.length + 1 := by
  unfold dlO dlt
  split
  · unfold act
    split
    · split <;> simp
    · split
      · simp
      · split
        · split
          · simp
          · split <;> simp
        · simp
  · simp
theorem xO_len (ps : List Ac) (os : List Ou) (L : List Int) : (xO ps os L).length ≤ 33 := by
  unfold xO
  split
  · next h => have := may_le h; have := dl_len ps os L; omega
  · simp
theorem xP_ok {ps : List Ac} {os : List Ou} {L : List Int} (hL : Bts L) (hl : ps.length = 32) (h1 : ∀ a ∈ ps, AcOK a) (h2 : ∀ o ∈ os, OuOK o) : (xP ps os L).length = 32 ∧ (∀ a ∈ xP ps os L, AcOK a) ∧ (∀ o ∈ xO ps os L, OuOK o) := by
  have := dl_ok (ps := ps) (os := os) hL hl h1 h2
  unfold xP xO
  split
  · exact this
  · exact ⟨zs_len, zs_ok, fun o ho => by cases ho⟩
theorem os_own {w : World} {base n cap : Nat} {sp : Option Addr} {os : List Ou} (own : w.ownsRow base 50 2 (.slice sp n cap) n (ouF os)) (hn : n = os.length) (hsm : n ≤ 140737488355328) (hoo : ∀ o ∈ os, OuOK o) : OS w.heap.size w sp n cap os := by
  obtain ⟨s, c, e, h, -⟩ := own_os own hn hsm hoo
  cases e; exact h
/-- What Delta answers, as a state. -/
def DX (Q : List Ac) (O : List Ou) (d : Bool) (e : Int) (w : World) (r : Ending) (w' : World) : Prop :=
  ∃ sp n cap, r = .returned (.tuple #[.agg (stA Q sp n cap), .bool d, .int .i64 e]) ∧ SS w'.heap.size w' Q sp n cap O ∧ w'.ownsRow w.heap.size 50 2 (.slice sp n cap) n (ouF O) ∧ Below w.heap.size w w'
theorem DLPost.x {ps : List Ac} {os : List Ou} {L : List Int} {w w' : World} {r : Ending} (hL : Bts L) (hl : ps.length = 32) (h1 : ∀ a ∈ ps, AcOK a) (h2 : ∀ o ∈ os, OuOK o) (h : DLPost ps os L w r w') : DX (xP ps os L) (xO ps os L) (xD ps os L) (xE ps os) w r w' := by
  obtain ⟨sp, n, cap, rfl, own, hn, hb⟩ := h
  obtain ⟨a1, a2, a3⟩ := xP_ok (os := os) hL hl h1 h2
  exact ⟨sp, n, cap, rfl, ⟨Hid.mk' a1, Hid.mk' a2, os_own own hn.out (by have := xO_len ps os L; have := hn.out; omega) a3⟩, own, hb⟩
theorem delta_x (ps : List Ac) (N : Nat) (sp : Option Addr) (n cap : Nat) (os : List Ou) (sb : Option Addr) (nb cb : Nat) (L : List Int) (Nb : Nat) (w : World) (hS : SS N w ps sp n cap os) (hL : BS Nb w sb nb cb L) : Calls Try.prog 8 #[.agg (stA ps sp n cap), .slice sb nb cb] w (DX (xP ps os L) (xO ps os L) (xD ps os L) (xE ps os) w) :=
  (delta_any ps N sp n cap os sb nb cb L Nb w hS hL).mono fun r w' h => DLPost.x hL.bts hS.a32.out hS.ok.out hS.outs.ok h
theorem refDelta_x (ps : List Ac) (N : Nat) (sp : Option Addr) (n cap : Nat) (os : List Ou) (sb : Option Addr) (nb cb : Nat) (L : List Int) (Nb : Nat) (w : World) (hS : SS N w ps sp n cap os) (hL : BS Nb w sb nb cb L) : Calls Try.prog 9 #[.agg (stA ps sp n cap), .slice sb nb cb] w (DX (xP ps os L) (xO ps os L) (xD ps os L) (xE ps os) w) :=
  (refDelta_any ps N sp n cap os sb nb cb L Nb w hS hL).mono fun r w' h => DLPost.x hL.bts hS.a32.out hS.ok.out hS.outs.ok h
theorem ld30g {ops : Array Oper} {rest : List Oper} {o : Oper} {a : Act} {w : World} {Q : Exit → Act → World → Prop} (hgd : Region.wanted o (yielded ops a.tmps) = true) (x : Operand) (ho : o.op = .load 30 x)
    (g ty : Nat) (hx : a.eval x = .pointer (some ⟨g, 0, none⟩)) (ps : List Ac) (sp : Option Addr) (n cap : Nat) (h1 : ps.length = 32) (h2 : ∀ a ∈ ps, a.lk.length = 32) (hA : Arr w g ty (stA ps sp n cap))
    (h : wpList Try.prog ops Q rest (a.put o.dst (.agg (stA ps sp n cap))) w) : wpList Try.prog ops Q (o :: rest) a w :=
  wpList_want hgd fun _ hK => wp_load_mid 30 x ho g 0 hx (stC ps sp n cap) _ hA.st Try.underlying30 rfl (by rw [stC_len h1 h2]; exact size30) (hK _ _ h)
theorem smB_self (Q : List Ac) (O : List Ou) : smB Q O Q O = true := by simp [smB]
set_option maxHeartbeats 2000000 in
theorem deltas_walk (ps : List Ac) (sp : Option Addr) (n cap : Nat) (os : List Ou) (sb : Option Addr) (nb cb : Nat) (L : List Int) (w : World) (hS : SS w.heap.size w ps sp n cap os) (hL : BS w.heap.size w sb nb cb L) :
    Calls Try.prog 3 #[.agg (stA ps sp n cap), .slice sb nb cb] w fun e w' => e = .returned (.bool true) ∧ Below w.heap.size w w' := by
  have h1 := hS.a32.out
  have h2 := hS.l32
  have hz30 := zeroValue30
  have hzsz : (stA zs none 0 0).size = 1089 := stA_size zs_len zs_l32
  generalize stA zs none 0 0 = Z at hz30 hzsz
  have A0 := Arr.new w 30 (stA ps sp n cap)
  have B0 := alloc_bel' w (.cells (stA ps sp n cap) 30)
  have hD := Hid.mk' (fun u h h' => delta_x ps w.heap.size sp n cap os sb nb cb L w.heap.size u h h')
  have hE := Hid.mk' (fun u h h' => refDelta_x ps w.heap.size sp n cap os sb nb cb L w.heap.size u h h')
  have hG := Hid.mk' (fun u h => gain_any sb nb cb L w.heap.size u h)
  have hH := Hid.mk' (fun u h => refGain_any sb nb cb L w.heap.size u h)
  obtain ⟨hq1, hq3, -⟩ := xP_ok (os := os) hL.bts h1 hS.ok.out hS.outs.ok
  have hq2 : ∀ a ∈ xP ps os L, a.lk.length = 32 := fun a ha => (hq3 a ha).l32
  have hsame := Hid.mk' (smB_self (xP ps os L) (xO ps os L))
  unfold DX at hD hE
  generalize xP ps os L = Q at *
  generalize xO ps os L = O at *
  generalize xD ps os L = d at *
  generalize xE ps os = e at *
  generalize gI L = gi at *
  generalize gO L = go at *
  have hdd : (d == d) = true := by simp
  have hee : (e == e) = true := by simp
  have hgg : (gi == gi) = true := by simp
  have hgo : (go == go) = true := by simp
  go_enter Try.func3, Try.ntmps3
  go_upto_region 2 with (first
    | (refine atL 30 (.tmp 2) ?_; refine ld30 (by rfl) _ (by rfl) w.heap.size 30 (by rfl) ps sp n cap h1 h2 A0 ?_)
    | (go_at_call 8; go_must (refine (hD.out _ (hS.below B0) (hL.below B0)).mono ?_; rintro r w1 ⟨s1, n1, c1, rfl, S1, -, hb1⟩))
    | (refine atS 30 (.tmp 5) (.tmp 19) ?_; refine st30n (by rfl) _ _ (by rfl) w1 w1.heap.size rfl hzsz Q s1 n1 c1 (by rfl) (by rfl) hq1 hq2 ?_))
  have A1 := (A0.below hb1 A0.lt).alloc (.cells (stA Q s1 n1 c1) 30)
  have T1 := Arr.new w1 30 (stA Q s1 n1 c1)
  have B1 := (B0.trans (hb1.mono (by simp))).alloc (by have := hb1.size; simp at this; omega) (.cells (stA Q s1 n1 c1) 30)
  have S1' := S1.below (alloc_bel' w1 (.cells (stA Q s1 n1 c1) 30))
  have hz1 : w1.heap.size < (w1.alloc (.cells (stA Q s1 n1 c1) 30)).heap.size := by simp
  generalize w1.alloc (.cells (stA Q s1 n1 c1) 30) = W1 at *
  generalize w1.heap.size = G1 at *
  clear S1 hb1 A0 B0
  go_upto_region 3 with (first
    | (refine atL 30 (.tmp 2) ?_; refine ld30 (by rfl) _ (by rfl) w.heap.size 30 (by rfl) ps sp n cap h1 h2 A1 ?_)
    | (go_at_call 9; go_must (refine (hE.out _ (hS.below B1) (hL.below B1)).mono ?_; rintro r w2 ⟨s2, n2, c2, rfl, S2, -, hb2⟩))
    | (refine atS 30 (.tmp 8) (.tmp 26) ?_; refine st30n (by rfl) _ _ (by rfl) w2 w2.heap.size rfl hzsz Q s2 n2 c2 (by rfl) (by rfl) hq1 hq2 ?_))
  have hz2 := hb2.size
  have T2 := (T1.below hb2 T1.lt).alloc (.cells (stA Q s2 n2 c2) 30)
  have U2 := Arr.new w2 30 (stA Q s2 n2 c2)
  have bb2 := alloc_bel' w2 (.cells (stA Q s2 n2 c2) 30)
  have B2 := (B1.trans (hb2.mono B1.size)).alloc (Nat.le_trans B1.size hz2) (.cells (stA Q s2 n2 c2) 30)
  have S12 := (S1'.below (hb2.mono (by omega))).below (bb2.mono (by omega))
  have S22 := S2.below bb2
  have hz2' : w2.heap.size < (w2.alloc (.cells (stA Q s2 n2 c2) 30)).heap.size := by simp
  generalize w2.alloc (.cells (stA Q s2 n2 c2) 30) = W2 at *
  generalize w2.heap.size = G2 at *
  clear S1' S2 hb2 bb2 A1 B1 T1
  go_upto_region 5 with (first
    | (go_at_call 10; go_must (refine (hG.out _ (hL.below B2)).mono ?_; rintro r w3 ⟨rfl, hb3⟩; have B3 := B2.trans (hb3.mono B2.size)))
    | (go_at_call 11; go_must (refine (hH.out _ (hL.below B3)).mono ?_; rintro r w4 ⟨rfl, hb4⟩; have B4 := B3.trans (hb4.mono B3.size))))
  have hb24 := hb3.trans (hb4.mono hb3.size)
  have T4 := T2.below hb24 T2.lt
  have U4 := U2.below hb24 U2.lt
  have S14 := S12.below (hb24.mono (by omega))
  have S24 := S22.below (hb24.mono (by omega))
  clear T2 U2 S12 S22 B2 B3 hb3 hb4 hb24
  go_wp2_with (first
    | (refine atL 30 (.tmp 5) ?_; refine ld30 (by rfl) _ (by rfl) G1 30 (by rfl) Q s1 n1 c1 hq1 hq2 T4 ?_)
    | (refine atL 30 (.tmp 8) ?_; refine ld30 (by rfl) _ (by rfl) G2 30 (by rfl) Q s2 n2 c2 hq1 hq2 U4 ?_)
    | (go_at_call 12; go_must (refine (refSsame_any Q _ s1 n1 c1 O Q _ s2 n2 c2 O _ S14 S24).mono ?_; rw [hsame.out]; rintro r w5 ⟨rfl, hb5⟩; have B5 := B4.trans (hb5.mono B4.size)))
    | (go_at_call 13; go_must (refine (anchored_any _).mono ?_; rintro r w6 ⟨rfl, hb6⟩; have B6 := B5.trans (hb6.mono B5.size))))
  go_ret
  exact ⟨rfl, B6⟩
set_option maxHeartbeats 1000000 in
theorem opens_walk (a : Ac) (m : Mg) (w : World) (ha : AcOK a) (hm : MgOK m) : Calls Try.prog 4 #[.agg a.arr, .agg m.arr] w fun r w' => r = .returned (.bool true) ∧ Below w.heap.size w w' := by
  have A0 := ((Arr.new w 26 a.arr).alloc (.cells m.arr 44)).drew
  have M0 : Arr ((w.alloc (.cells a.arr 26)).alloc (.cells m.arr 44)).drew (w.heap.size + 1) 44 m.arr := by simpa using (Arr.new (w.alloc (.cells a.arr 26)) 44 m.arr).drew
  have B0 := ((alloc_bel' w (.cells a.arr 26)).alloc (by simp) (.cells m.arr 44)).drew
  have hO := Hid.mk' (fun u => opens_any a m u ha hm)
  have hR := Hid.mk' (fun u => refOpens_any a m u ha hm)
  generalize opn a m = d at hO hR
  have hdd : (d == d) = true := by simp
  go_enter Try.func4, Try.ntmps4
  go_upto_region 1 with fail
  refine wp_region_held_drew (S := fun u => Below w.heap.size w u ∧ Arr u w.heap.size 26 a.arr ∧ Arr u (w.heap.size + 1) 44 m.arr) (by kernel_rfl) (⟨B0, A0, M0⟩) (fun hHeld => ?_)
  refine wpAnyH_take (i := 0) (oi := ⟨_, _, _, _, _, _⟩) rfl (by kernel_rfl) (by kernel_rfl) (by kernel_rfl) (fun _ _ _ h => h) (y26 (by rfl) (.tmp 2) rfl w.heap.size 0 rfl a ha.l32 (fun u hu => hu.2.1.ac)) (by assumption) ?_
  try simp only [Act.put, List.setIfInBounds_toArray, List.set_cons_zero, List.set_cons_succ]
  refine wpAnyH_take (i := 1) (oi := ⟨_, _, _, _, _, _⟩) rfl (by kernel_rfl) (by kernel_rfl) (by kernel_rfl) (fun _ _ _ h => h) (y27 (by rfl) (.tmp 3) rfl (w.heap.size + 1) 44 rfl m hm (fun u hu => hu.2.2)) (by assumption) ?_
  try simp only [Act.put, List.setIfInBounds_toArray, List.set_cons_zero, List.set_cons_succ]
  refine wpAnyH_take (i := 3) (oi := ⟨_, _, _, _, _, _⟩) rfl (by kernel_rfl) (by kernel_rfl) (by kernel_rfl) (fun _ _ _ h => h) (y26 (by rfl) (.tmp 2) rfl w.heap.size 0 rfl a ha.l32 (fun u hu => hu.2.1.ac)) (by assumption) ?_
  try simp only [Act.put, List.setIfInBounds_toArray, List.set_cons_zero, List.set_cons_succ]
  refine wpAnyH_take (i := 4) (oi := ⟨_, _, _, _, _, _⟩) rfl (by kernel_rfl) (by kernel_rfl) (by kernel_rfl) (fun _ _ _ h => h) (y27 (by rfl) (.tmp 3) rfl (w.heap.size + 1) 44 rfl m hm (fun u hu => hu.2.2)) (by assumption) ?_
  try simp only [Act.put, List.setIfInBounds_toArray, List.set_cons_zero, List.set_cons_succ]
  refine wpAnyH_ready (rs := [2]) (by kernel_rfl) (by simp) ?_
  refine AllReadyH.cons (o := ⟨_, _, _, _, _, _⟩) rfl (fun K hK => ?_) AllReadyH.nil
  go_simp
  refine (hO.out _).mono ?_; rintro r u1 ⟨rfl, hb1⟩; have B1 := B0.trans (hb1.mono B0.size); have A1 := A0.below hb1 A0.lt; have M1 := M0.below hb1 M0.lt
  go_wp2_with fail
  refine hK.out _ _ ⟨B1, A1, M1⟩ (fun hHeld => ?_)
  clear hK K
  try simp only [Act.put, List.setIfInBounds_toArray, List.set_cons_zero, List.set_cons_succ]
  refine wpAnyH_ready (rs := [5]) (by kernel_rfl) (by simp) ?_
  refine AllReadyH.cons (o := ⟨_, _, _, _, _, _⟩) rfl (fun K hK => ?_) AllReadyH.nil
  go_simp
  refine (hR.out _).mono ?_; rintro r u2 ⟨rfl, hb2⟩; have B2 := B1.trans (hb2.mono B1.size); have A2 := A1.below hb2 A1.lt; have M2 := M1.below hb2 M1.lt
  go_wp2_with fail
  refine hK.out _ _ ⟨B2, A2, M2⟩ (fun hHeld => ?_)
  clear hK K
  try simp only [Act.put, List.setIfInBounds_toArray, List.set_cons_zero, List.set_cons_succ]
  refine wpAnyH_take (i := 6) (oi := ⟨_, _, _, _, _, _⟩) (v := ?_) rfl (by kernel_rfl) (by kernel_rfl) (by kernel_rfl) (fun _ _ _ h => h) (Or.inl ⟨by rfl, ?_⟩) (by assumption) ?_
  rotate_left
  · intro u hSw
    go_simp
    try (with_reducible rfl)
  try simp only [Act.put, List.setIfInBounds_toArray, List.set_cons_zero, List.set_cons_succ]
  refine wpAnyH_take (i := 7) (oi := ⟨_, _, _, _, _, _⟩) (v := ?_) rfl (by kernel_rfl) (by kernel_rfl) (by kernel_rfl) (fun _ _ _ h => h) (Or.inl ⟨by rfl, ?_⟩) (by assumption) ?_
  rotate_left
  · intro u hSw
    go_simp
    try (with_reducible rfl)
  try simp only [Act.put, List.setIfInBounds_toArray, List.set_cons_zero, List.set_cons_succ]
  refine wpAnyH_ready (rs := [8]) (by kernel_rfl) (by simp) ?_
  refine AllReadyH.cons (o := ⟨_, _, _, _, _, _⟩) rfl (fun K hK => ?_) AllReadyH.nil
  go_simp
  refine (anchored_any _).mono ?_; rintro r u3 ⟨rfl, hb3⟩; have B3 := B2.trans (hb3.mono B2.size); have A3 := A2.below hb3 A2.lt; have M3 := M2.below hb3 M2.lt
  go_wp2_with fail
  refine hK.out _ _ ⟨B3, A3, M3⟩ (fun hHeld => ?_)
  clear hK K
  try simp only [Act.put, List.setIfInBounds_toArray, List.set_cons_zero, List.set_cons_succ]
  refine wpAnyH_take (i := 9) (oi := ⟨_, _, _, _, _, _⟩) (v := ?_) rfl (by kernel_rfl) (by kernel_rfl) (by kernel_rfl) (fun _ _ _ h => h) (Or.inl ⟨by rfl, ?_⟩) (by assumption) ?_
  rotate_left
  · intro u hSw
    go_simp
    try (with_reducible rfl)
  try simp only [Act.put, List.setIfInBounds_toArray, List.set_cons_zero, List.set_cons_succ]
  refine wpAnyH_take (i := 10) (oi := ⟨_, _, _, _, _, _⟩) (v := ?_) rfl (by kernel_rfl) (by kernel_rfl) (by kernel_rfl) (fun _ _ _ h => h) (Or.inl ⟨by rfl, ?_⟩) (by assumption) ?_
  rotate_left
  · intro u hSw
    go_simp
    try (with_reducible rfl)
  try simp only [Act.put, List.setIfInBounds_toArray, List.set_cons_zero, List.set_cons_succ]
  refine wpAnyH_done (by kernel_rfl) ?_ _
  go_wp2_with fail
  go_ret
  exact ⟨rfl, B3⟩
end Go.Proofs.Ytjbaobfmdkpboaa
/- Layer exec: what the layers below give. -/
namespace Go.Proofs.Ytjbaobfmdkpboaa
set_option linter.unusedSectionVars false
set_option maxHeartbeats 1000000
open Go.ChangeAt Go.ChangeShapes Go.RowKit Go.WideShapes
set_option maxRecDepth 100000
set_option linter.unusedVariables false
set_option linter.unusedSimpArgs false

variable [DecidableEq Ac] [DecidableEq Ou] [DecidableEq Mg]
theorem exists_list {α : Type} {P : Nat → α → Prop} : ∀ (n : Nat), (∀ i, i < n → ∃ a, P i a) → ∃ l : List α, l.length = n ∧ ∀ i a, l[i]? = some a → P i a
  | 0, _ => ⟨[], rfl, fun i a h => by simp at h⟩
  | n + 1, h => by
    obtain ⟨l, hl, hP⟩ := exists_list n (fun i hi => h i (by omega))
    obtain ⟨a, ha⟩ := h n (by omega)
    refine ⟨l ++ [a], by simp [hl], fun i b hb => ?_⟩
    by_cases hi : i < n
    · rw [List.getElem?_append_left (by omega)] at hb; exact hP i b hb
    · rw [List.getElem?_append_right (by omega)] at hb
      have : i - l.length = 0 := by have := (List.getElem?_eq_some_iff.1 hb).1; simp at this; omega
      rw [this] at hb
      simp at hb
      subst hb
      obtain rfl : i = n := by omega
      exact ha
/-- Nothing in it is greater than the reach. -/
def Small {H : Type} (t : TypeId) (d : DataW H) : Prop := ∀ n ∈ d.weights Try.prog t, n ≤ reachBytes
theorem bts_wf {L : List Int} (h : ∀ x ∈ L, (Lit.int .u8 x).wf = true) : Bts L := fun x hx => by
  have h1 := h x hx
  have hmin : IntKind.u8.min = 0 := rfl
  have hmax : IntKind.u8.max = 255 := rfl
  simp only [Lit.wf, Bool.and_eq_true, decide_eq_true_eq] at h1
  omega
theorem cells5 : Try.prog.cellsOf 5 = 1 := by kernel_rfl
theorem cells29 : Try.prog.cellsOf 24 = 32 := by kernel_rfl
section
variable {H : Type} {enc : TypeId × Value → H} {W : World} {base : Nat}

theorem h_of_trod {fuel : Nat} {cs : List Value} {x : DataW H × List MemPlace} (h : DataW.trod enc Try.prog W base (fun _ => true) true fuel 24 cs = some x) : ∃ X : List Int, X.length = 32 ∧ Bts X ∧ cs = by8 X := by
  obtain ⟨xs, m, -, hx, hl, hxs, hi⟩ := DataW.trod_array Try.underlying24 h
  rw [cells29] at hl
  have key : ∀ i, i < 32 → ∃ z, cs[i]? = some (.int .u8 z) ∧ (Lit.int .u8 z).wf = true := fun i hin => by
    have := hi i hin
    rw [List.getElem?_eq_getElem (by omega), cells5] at this
    obtain ⟨z, hz, -, hw⟩ := DataW.trod_int Try.underlying5 this
    refine ⟨z, ?_, hw⟩
    simp only [Nat.mul_one] at hz
    have h2 : (List.take 1 (List.drop i cs))[0]? = some (.int .u8 z) := by rw [hz]; rfl
    simpa using h2
  refine ⟨cs.map fun v => match v with | .int _ z => z | _ => 0, by simp [hl], bts_wf fun y hy => ?_, ?_⟩
  · obtain ⟨v, hv, rfl⟩ := List.mem_map.1 hy
    obtain ⟨i, hin, rfl⟩ := List.mem_iff_getElem.1 hv
    obtain ⟨z, hz, hw⟩ := key i (by omega)
    rw [List.getElem?_eq_getElem hin] at hz
    rw [Option.some.inj hz]; exact hw
  · apply List.ext_getElem?
    intro i
    by_cases hin : i < 32
    · obtain ⟨z, hz, -⟩ := key i hin
      simp [by8, hz]
    · rw [List.getElem?_eq_none (by omega), List.getElem?_eq_none (by rw [by8_len]; simp; omega)]
/-- The cells at an address. -/
theorem cells_at {a : Addr} {k : Nat} {cs : List Value} (hk : 0 < k) (h : W.cells? base a k = some cs) : ∃ b off, a = ⟨b, off, none⟩ ∧ W.rangeAt b off cs := by
  obtain ⟨-, hl, hc⟩ := World.cells?_some h
  have h0 := hc 0 hk
  have h0' : ∃ v, cs[0]? = some v := by
    cases cs with
    | nil => simp at hl; omega
    | cons x r => exact ⟨x, rfl⟩
  obtain ⟨v0, hv0⟩ := h0'
  rw [hv0] at h0
  obtain ⟨b, off, spot⟩ := a
  have hspot : spot = none := by simpa [Addr.add] using World.cell?_spot h0
  subst hspot
  refine ⟨b, off, rfl, fun j v hv => ?_⟩
  have hj : j < k := by have := (List.getElem?_eq_some_iff.1 hv).1; omega
  have := hc j hj
  rw [Addr.add_mid] at this
  rw [this]; exact hv
end
end Go.Proofs.Ytjbaobfmdkpboaa
/- Layer exec: what the layers below give. -/
namespace Go.Proofs.Ytjbaobfmdkpboaa
set_option linter.unusedSectionVars false
set_option maxHeartbeats 1000000
open Go.RowKit
set_option maxRecDepth 100000
set_option linter.unusedVariables false
set_option linter.unusedSimpArgs false

variable [DecidableEq Ac] [DecidableEq Ou] [DecidableEq Mg]
theorem cells22 : Try.prog.cellsOf 22 = 1 := by kernel_rfl
theorem cells26 : Try.prog.cellsOf 26 = 34 := by kernel_rfl
theorem cells27 : Try.prog.cellsOf 27 = 1088 := by kernel_rfl
theorem cells28 : Try.prog.cellsOf 28 = 1 := by kernel_rfl
theorem cells30s : Try.prog.cellsOf 30 = 1089 := by kernel_rfl
theorem cells53 : Try.prog.cellsOf 50 = 2 := by kernel_rfl
theorem bytes53 : Try.prog.bytesOf 50 = 16 := by kernel_rfl
theorem u64_wf {z : Int} (h : (Lit.int .u64 z).wf = true) : 0 ≤ z ∧ z < 18446744073709551616 := by
  have hmin : IntKind.u64.min = 0 := rfl
  have hmax : IntKind.u64.max = 18446744073709551615 := rfl
  simp only [Lit.wf, Bool.and_eq_true, decide_eq_true_eq] at h
  omega
section
variable {H : Type} {enc : TypeId × Value → H} {W : World} {base : Nat}

theorem ou_of_trod (fuel : Nat) (cs : List Value) (x : DataW H × List MemPlace) (h : DataW.trod enc Try.prog W base (fun _ => true) true fuel 50 cs = some x) : ∃ o : Ou, cs = o.cells ∧ OuOK o := by
  obtain ⟨xs, n, rfl, rfl, hl, hxl, hf⟩ := DataW.trod_struct Try.underlying50 h
  rw [cells53] at hl
  simp at hxl
  match xs, hxl with
  | [x0, x1], _ =>
  have f0 := hf 0 _ rfl
  have f1 := hf 1 _ rfl
  simp [cells22] at f0 f1
  obtain ⟨a, e0, -, w0⟩ := DataW.trod_int Try.underlying22 f0
  obtain ⟨b, e1, -, w1⟩ := DataW.trod_int Try.underlying22 f1
  refine ⟨⟨a, b⟩, ?_, (u64_wf w0).1, (u64_wf w0).2, (u64_wf w1).1, (u64_wf w1).2⟩
  match cs, hl with
  | [c, d], _ =>
    simp at e0 e1
    subst e0; subst e1
    rfl
theorem ac_of_trod (fuel : Nat) (cs : List Value) (x : DataW H × List MemPlace) (h : DataW.trod enc Try.prog W base (fun _ => true) true fuel 26 cs = some x) : ∃ o : Ac, cs = o.cells ∧ AcOK o := by
  obtain ⟨xs, n, rfl, rfl, hl, hxl, hf⟩ := DataW.trod_struct Try.underlying26 h
  rw [cells26] at hl
  simp at hxl
  match xs, hxl with
  | [x0, x1, x2], _ =>
  have f0 := hf 0 _ rfl
  have f1 := hf 1 _ rfl
  have f2 := hf 2 _ rfl
  simp [cells22, cells29] at f0 f1 f2
  obtain ⟨a, e0, -, w0⟩ := DataW.trod_int Try.underlying22 f0
  obtain ⟨b, e1, -, w1⟩ := DataW.trod_int Try.underlying22 f1
  obtain ⟨X, hX, bX, e2⟩ := h_of_trod f2
  refine ⟨⟨a, b, X⟩, ?_, (u64_wf w0).1, (u64_wf w0).2, (u64_wf w1).1, (u64_wf w1).2, hX, bX⟩
  match cs, hl with
  | c :: d :: r, hl =>
    simp at e0 e1 e2 hl
    subst e0; subst e1
    rw [List.take_of_length_le (by omega)] at e2
    rw [e2]; rfl
/-- A list out of its parts. -/
theorem parts_of {α : Type} (P : α → Prop) (cells : α → List Value) (k : Nat) (hk : ∀ a, P a → (cells a).length = k) : ∀ (n : Nat) (cs : List Value), cs.length = n * k → (∀ i, i < n → ∃ a, List.take k (List.drop (i * k) cs) = cells a ∧ P a) → ∃ l : List α, l.length = n ∧ (∀ a ∈ l, P a) ∧ cs = (l.map cells).flatten
  | 0, cs, hl, _ => ⟨[], rfl, (fun a h => by cases h), by simpa using hl⟩
  | n + 1, cs, hl, h => by
    obtain ⟨a, ha, hp⟩ := h 0 (by omega)
    simp at ha
    obtain ⟨l, hl', hP, he⟩ := parts_of P cells k hk n (cs.drop k) (by rw [List.length_drop, hl, Nat.succ_mul]; omega) (fun i hi => by
      obtain ⟨b, hb, hpb⟩ := h (i + 1) (by omega)
      refine ⟨b, ?_, hpb⟩
      rw [List.drop_drop, ← hb, Nat.succ_mul, Nat.add_comm k])
    refine ⟨a :: l, by simp [hl'], fun b hb => ?_, ?_⟩
    · rcases List.mem_cons.1 hb with rfl | hb
      · exact hp
      · exact hP b hb
    · rw [List.map_cons, List.flatten_cons, ← he, ← ha, List.take_append_drop]
theorem acs_of_trod {fuel : Nat} {cs : List Value} {x : DataW H × List MemPlace} (h : DataW.trod enc Try.prog W base (fun _ => true) true fuel 27 cs = some x) : ∃ ps : List Ac, ps.length = 32 ∧ (∀ a ∈ ps, AcOK a) ∧ cs = acF ps := by
  obtain ⟨xs, m, -, hx, hl, hxs, hi⟩ := DataW.trod_array Try.underlying27 h
  rw [cells27] at hl
  obtain ⟨l, h1, h2, h3⟩ := parts_of AcOK Ac.cells 34 (fun a ha => Ac.len ha.l32) 32 cs hl (fun i hin => by
    have := hi i hin
    rw [List.getElem?_eq_getElem (by omega), cells26] at this
    exact ac_of_trod _ _ _ this)
  exact ⟨l, h1, h2, h3⟩
theorem os_of_trod {fuel : Nat} {cs : List Value} {x : DataW H × List MemPlace} (h : DataW.trod enc Try.prog W base (fun _ => true) true fuel 28 cs = some x) (hs : Small 28 x.1) :
    ∃ sp n cap os, cs = [.slice sp n cap] ∧ OS W.heap.size W sp n cap os ∧ n * 16 ≤ 140737488351232 := by
  rcases DataW.trod_slice Try.underlying28 h with ⟨rfl, -⟩ | ⟨a, len, cap, elems, rest, n, rfl, rfl, rfl, hb, hlc, hm, hlen, hel, hsp, -⟩
  · exact ⟨none, 0, 0, [], rfl, OS.nil0 _ _, by omega⟩
  · obtain ⟨hrl, -⟩ := hsp rfl
    have hr := hs ((elems.length + rest.length) * 16) (by simp [DataW.weights, Try.underlying28, bytes53])
    simp only [reachBytes] at hr
    have hstep : ∀ i, i < len → ∃ g off, ∃ X : Ou, a.add (i * 2) = ⟨g, off, none⟩ ∧ OuOK X ∧ W.rangeAt g off X.cells := fun i hi => by
      have h1 := hel i hi
      rw [cells53, List.getElem?_eq_getElem (by omega), Option.bind_eq_some_iff] at h1
      obtain ⟨cs, hcs, ht⟩ := h1
      obtain ⟨g, off, e, hR⟩ := cells_at (by omega) hcs
      obtain ⟨X, rfl, hX⟩ := ou_of_trod _ _ _ ht
      exact ⟨g, off, X, e, hX, hR⟩
    by_cases h0 : 0 < len
    · obtain ⟨g, off, -, e, -⟩ := hstep 0 h0
      have ha : a = ⟨g, off, none⟩ := by simpa [Addr.add] using e
      subst ha
      obtain ⟨l, hl, hP⟩ := exists_list (P := fun i (X : Ou) => OuOK X ∧ W.rangeAt g (off + i * 2) X.cells) len (fun i hi => by
        obtain ⟨g', off', X, e', h1, ho⟩ := hstep i hi
        rw [Addr.add_mid] at e'
        cases e'
        exact ⟨X, h1, ho⟩)
      refine ⟨some ⟨g, off, none⟩, len, cap, l, rfl, ⟨show _ = _ by simp [hl], (fun e => by cases e), hlc, by unfold maxLen at hm; omega, by omega, fun _ => ⟨g, off, rfl, ?_, fun i X hX => (hP i X hX).2⟩, fun X hX => ?_⟩, by omega⟩
      · obtain ⟨X, hX⟩ : ∃ X, l[0]? = some X := ⟨l[0], List.getElem?_eq_getElem (by omega)⟩
        exact block_lt_of_cell ((hP 0 X hX).2 0 _ rfl)
      · obtain ⟨i, hi⟩ := List.mem_iff_getElem?.1 hX
        exact (hP i X hi).1
    · obtain rfl : len = 0 := by omega
      exact ⟨some a, 0, cap, [], rfl, ⟨rfl, (fun e => by cases e), by omega, by unfold maxLen at hm; omega, by omega, fun h => by omega, fun X hX => by cases hX⟩, by omega⟩
/-- A STATE THAT CAME IN. -/
theorem open_state {b0 : Nat} {v : Value} {d : DataW H} {p : List MemPlace} {ts : List TypeId} {ds : List (DataW H)} {j : Nat}
    (hv : Value.okWide Try.prog W .any b0 30 v) (h : DataW.Trod enc Try.prog W base (fun _ => true) true 30 v d p)
    (hsz : (DataW.weightsEach Try.prog ts ds).all (· ≤ reachBytes) = true) (ht : ts[j]? = some 30) (hd : ds[j]? = some d) :
    ∃ ps sp n cap os, v = .agg (stA ps sp n cap) ∧ SS W.heap.size W ps sp n cap os ∧ n * 16 ≤ 140737488351232 := by
  unfold Value.okWide at hv
  rw [Try.underlying30] at hv
  obtain ⟨cs, rfl, hc, -⟩ := hv
  obtain ⟨fuel, hf⟩ := h
  have hs : Small 30 d := fun n hn => by
    have := List.all_eq_true.1 hsz n (DataW.weights_mem_each ht hd n hn)
    simpa using this
  obtain ⟨xs, n, -, hdx, hl, hxl, hff⟩ := DataW.trod_struct Try.underlying30 hf
  rw [cells30s] at hl
  simp at hxl
  match xs, hxl with
  | [x0, x1], _ =>
  have hd0 : d = _ := (Prod.ext_iff.1 hdx).1
  have f0 := hff 0 _ rfl
  have f1 := hff 1 _ rfl
  simp [cells27, cells28, Value.cells] at f0 f1
  obtain ⟨ps, hp1, hp2, e0⟩ := acs_of_trod f0
  have s1 : Small 28 x1.1 := fun m hm => hs m (by rw [hd0]; simp [DataW.weights, Try.underlying30, DataW.weightsEach, hm])
  obtain ⟨sp, m, cap, os, e1, hO, h16⟩ := os_of_trod f1 s1
  refine ⟨ps, sp, m, cap, os, ?_, ⟨Hid.mk' hp1, Hid.mk' hp2, hO⟩, h16⟩
  have hl' : cs.toList.length = 1089 := hl
  congr 1
  apply Array.toList_inj.1
  show cs.toList = stC ps sp m cap
  have e : cs.toList = List.take 1088 cs.toList ++ List.take 1 (List.drop 1088 cs.toList) := by
    rw [List.take_of_length_le (l := List.drop 1088 cs.toList) (by rw [List.length_drop]; omega), List.take_append_drop]
  rw [e, e0, e1]
  rfl
end
end Go.Proofs.Ytjbaobfmdkpboaa

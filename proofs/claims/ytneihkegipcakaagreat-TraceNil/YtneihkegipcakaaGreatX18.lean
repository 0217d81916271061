/- QVp3, QVq, QVr, QVs, QVt. -/
import Derived.Test.YtneihkegipcakaaGreatX01
import Derived.Test.YtneihkegipcakaaGreatX02
import Derived.Test.YtneihkegipcakaaGreatX03
import Derived.Test.YtneihkegipcakaaGreatX04
import Derived.Test.YtneihkegipcakaaGreatX05
import Derived.Test.YtneihkegipcakaaGreatX06
import Derived.Test.YtneihkegipcakaaGreatX07
import Derived.Test.YtneihkegipcakaaGreatX08
import Derived.Test.YtneihkegipcakaaGreatX09
import Derived.Test.YtneihkegipcakaaGreatX10
import Derived.Test.YtneihkegipcakaaGreatX11
import Derived.Test.YtneihkegipcakaaGreatX12
import Derived.BigQuiet
import Derived.BigRegion
import Derived.ChangeKeysEq
import Derived.Deep.DeepCutAuto
import Derived.Deep.DrawnRows
import Derived.Deep.MidRow
import Derived.Deep.QuietTactic
import Derived.Deep.RegionHeld3
import Derived.Deep.RegionLaw
import Derived.Deep.RegionWith
import Derived.Deep.WholeRow
import Derived.DeepKeys3
import Derived.Great.BuildSlice
import Derived.Laws.AppendOwnNone
import Derived.Laws.BitsLemmas
import Derived.Laws.BytesArg
import Derived.Laws.CopyOwn
import Derived.Laws.ResultCell
import Derived.Laws.Tables
import Derived.Lib.SlBytesConst
import Derived.LoopIn
import Derived.LoopNIn
import Derived.Maps.AppendAt
import Derived.OwnWalkIn
import Derived.RangeFuncBound
import Derived.RangeFuncCalls
import Derived.RangeFuncLeaves
import Derived.RangeFuncNested
import Derived.RangeFuncRecord
import Derived.Shelf.Abstract
import Derived.Shelf.RegionOpen
import Derived.TacticsInMore
import Derived.WalkKit
import Derived.WalkLawsBesides
import Derived.WalkSpells
import Derived.Test.YtneihkegipcakaaGreatX13
import Derived.Test.YtneihkegipcakaaGreatX14
import Derived.Test.YtneihkegipcakaaGreatX15
import Derived.Test.YtneihkegipcakaaGreatX16
import Derived.Test.YtneihkegipcakaaGreatX17
import Derived.Recover
/- Layer trace: what the layers below give. -/
namespace Go.Proofs.YtneihkegipcakaaGreat
open Go.RowKit
set_option maxRecDepth 100000
set_option linter.unusedVariables false
set_option linter.unusedSimpArgs false

theorem keepS3 {N : Nat} {es : List En} {w w' : World} {g gm gp n cap G : Nat} {sp : Option Addr} {nk ck : Nat} {m' : Mc} {c : Int} (h : w.cell? ⟨G, 3, none⟩ = some (.int .u8 c)) (hG : G ≠ gp) (hb : ∀ b, b < w.heap.size → b ≠ gp → w'.heap[b]? = w.heap[b]?) (hV : VM N es w' g gm gp n cap sp nk ck m') :
    w'.cell? ⟨G, 3, none⟩ = some (.int .u8 c) ∧ w'.cell? ⟨g, 19, none⟩ = some (.slice sp nk ck) ∧ w'.cell? ⟨g, 20, none⟩ = some (.map (some gp)) :=
  ⟨(World.cell?_of_block (w := w) (a := ⟨G, 3, none⟩) (hb G (World.block_lt_of_cell? w _ h) hG)).trans h, hV.en.cx 0, hV.en.cx 1⟩
set_option maxHeartbeats 2000000 in
theorem step_25 {N : Nat} {es : List En} {g gm gp n cap pN : Nat} {sp : Option Addr} {nk ck : Nat} {m : Mc} {x i : Int} {a b c : Nat} (w : World) (hV : VM N es w g gm gp n cap sp nk ck m) (hp : m.pc = (pN : Int)) (hpn : pN < n) (hx : m.me.getD pN 0 = x) (hd : dOk x = true) (ho : dOp x = 25) (ha : dA x = (a : Nat)) (hb : dB x = (b : Nat)) (hc : dC x = (c : Nat)) (hi : dI x = i) :
    Calls Tryz.prog 110 #[.pointer (some ⟨g, 0, none⟩)] w (StPost N es g gm gp n cap sp nk ck m (ex es m 25 a b c i) w) := by
  have hE := hV.en
  have hok := hE.ok
  have hU : U64 x := by rw [← hx]; exact hok.me _
  have hR := dRg hU
  rw [ha, hb, hc, hi] at hR
  obtain ⟨-, ha2, hb2, hc2, hi2⟩ := hR
  have haI : (a : Int) < 16 := ha2.2
  have hbI : (b : Int) < 16 := hb2.2
  have hcI : (c : Int) < 16 := hc2.2
  have ha16 : a < 16 := by omega
  have hb16 : b < 16 := by omega
  have hc16 : c < 16 := by omega
  have hi0 : 0 ≤ i := hi2.1
  have hi1 : i < 4294967296 := hi2.2
  have hUi : U64 i := by unfold U64; omega
  have hwi : IntKind.u64.wrap i = i := wrap_u64 hUi
  have hUa : U64 (m.get a) := hok.rg a
  have hUb : U64 (m.get b) := hok.rg b
  have hUc : U64 (m.get c) := hok.rg c
  have hv := dV_yes hd
  rw [ho, ha, hb, hc, hi] at hv
  have c0 := hE.c0
  have c18 := hE.c18
  have hn := hE.small
  have cx := hE.cm hpn
  rw [hx] at cx
  have hlen := hE.len
  replace hv := Hid.mk' hv
  replace hd := Hid.mk' hd
  replace hp := Hid.mk' hp
  clear ho ha hb hc hi ha2 hb2 hc2 hi2 hx hE
  go_enter Tryz.func110, Tryz.ntmps110
  go_upto_region 3 with (first
    | (go_at_call 132; go_must (refine (word_ok w c18 hn hp.out hpn).mono ?_; rintro e w1 ⟨rfl, h⟩; replace h := h.symm; subst h))
    | (go_at_call 119; go_must (refine (decode_any w hU).mono ?_; rintro e w2 ⟨rfl, hb2⟩; rw [hv.out, hd.out]; have A0 := Arr.new w2 75 (cdA 25 a b c i); have hB0 := hb2.alloc hb2.size (.cells (cdA 25 a b c i) 75); have hV2 := hV.bel hB0; have rb0 := hV2.en.cr hb16; have q1 : (w2.alloc (.cells (cdA 25 a b c i) 75)).cell? ⟨w2.heap.size, 1, none⟩ = some (.int .u8 (a : Int)) := A0.cell 1; have q2 : (w2.alloc (.cells (cdA 25 a b c i) 75)).cell? ⟨w2.heap.size, 2, none⟩ = some (.int .u8 (b : Int)) := A0.cell 2; have q4 : (w2.alloc (.cells (cdA 25 a b c i) 75)).cell? ⟨w2.heap.size, 4, none⟩ = some (.int .u32 i) := A0.cell 4; change _ = some (Value.int IntKind.u64 (m.get b)) at rb0; generalize hcd : cdA 25 a b c i = CD at A0 hB0 hV2 rb0 q1 q2 q4 ⊢))
    | (refine wpList_store_new w2 _ 75 (by rfl) 75 (.tmp 2) (.tmp 18) (by rfl) CD (by rfl) (by rfl) (by rw [← hcd]; exact size25) (by rw [← hcd]; rfl) (by rw [← hcd]; exact one25 _ _ _ _ _) ?_))
  refine wp_region_held_drew (S := fun u => u = (w2.alloc (.cells CD 75)).drew) (by kernel_rfl) (rfl) (fun hHeld => ?_)
  refine wpAnyH_take (i := 0) (oi := ⟨_, _, _, _, _, _⟩) (v := ?_) rfl (by kernel_rfl) (by kernel_rfl) (by kernel_rfl) (fun _ _ _ h => h) (Or.inl ⟨by rfl, ?_⟩) (by assumption) ?_
  rotate_left
  · intro u hSw
    go_simp
    try (with_reducible rfl)
  try simp only [Act.put, List.setIfInBounds_toArray, List.set_cons_zero, List.set_cons_succ]
  refine wpAnyH_take (i := 1) (oi := ⟨_, _, _, _, _, _⟩) (v := ?_) rfl (by kernel_rfl) (by kernel_rfl) (by kernel_rfl) (fun _ _ _ h => h) (Or.inl ⟨by rfl, ?_⟩) (by assumption) ?_
  rotate_left
  · intro u hSw
    go_simp
    try (with_reducible rfl)
  try simp only [Act.put, List.setIfInBounds_toArray, List.set_cons_zero, List.set_cons_succ]
  refine wpAnyH_take (i := 2) (oi := ⟨_, _, _, _, _, _⟩) (v := ?_) rfl (by kernel_rfl) (by kernel_rfl) (by kernel_rfl) (fun _ _ _ h => h) (Or.inl ⟨by rfl, ?_⟩) (by assumption) ?_
  rotate_left
  · intro u hSw
    subst hSw
    go_simp
    try (with_reducible rfl)
  try simp only [Act.put, List.setIfInBounds_toArray, List.set_cons_zero, List.set_cons_succ]
  refine wpAnyH_take (i := 3) (oi := ⟨_, _, _, _, _, _⟩) (v := ?_) rfl (by kernel_rfl) (by kernel_rfl) (by kernel_rfl) (fun _ _ _ h => h) (Or.inl ⟨by rfl, ?_⟩) (by assumption) ?_
  rotate_left
  · intro u hSw
    go_simp
    try (with_reducible rfl)
  try simp only [Act.put, List.setIfInBounds_toArray, List.set_cons_zero, List.set_cons_succ]
  refine wpAnyH_take (i := 4) (oi := ⟨_, _, _, _, _, _⟩) (v := ?_) rfl (by kernel_rfl) (by kernel_rfl) (by kernel_rfl) (fun _ _ _ h => h) (Or.inl ⟨by rfl, ?_⟩) (by assumption) ?_
  rotate_left
  · intro u hSw
    go_simp
    try (with_reducible rfl)
  try simp only [Act.put, List.setIfInBounds_toArray, List.set_cons_zero, List.set_cons_succ]
  refine wpAnyH_take (i := 5) (oi := ⟨_, _, _, _, _, _⟩) (v := ?_) rfl (by kernel_rfl) (by kernel_rfl) (by kernel_rfl) (fun _ _ _ h => h) (Or.inl ⟨by rfl, ?_⟩) (by assumption) ?_
  rotate_left
  · intro u hSw
    go_simp
    try (with_reducible rfl)
  try simp only [Act.put, List.setIfInBounds_toArray, List.set_cons_zero, List.set_cons_succ]
  refine wpAnyH_take (i := 6) (oi := ⟨_, _, _, _, _, _⟩) (v := ?_) rfl (by kernel_rfl) (by kernel_rfl) (by kernel_rfl) (fun _ _ _ h => h) (Or.inl ⟨by rfl, ?_⟩) (by assumption) ?_
  rotate_left
  · intro u hSw
    go_simp
    try (with_reducible rfl)
  try simp only [Act.put, List.setIfInBounds_toArray, List.set_cons_zero, List.set_cons_succ]
  refine wpAnyH_take (i := 7) (oi := ⟨_, _, _, _, _, _⟩) (v := ?_) rfl (by kernel_rfl) (by kernel_rfl) (by kernel_rfl) (fun _ _ _ h => h) (Or.inl ⟨by rfl, ?_⟩) (by assumption) ?_
  rotate_left
  · intro u hSw
    go_simp
    try (with_reducible rfl)
  try simp only [Act.put, List.setIfInBounds_toArray, List.set_cons_zero, List.set_cons_succ]
  refine wpAnyH_take (i := 8) (oi := ⟨_, _, _, _, _, _⟩) (v := ?_) rfl (by kernel_rfl) (by kernel_rfl) (by kernel_rfl) (fun _ _ _ h => h) (Or.inl ⟨by rfl, ?_⟩) (by assumption) ?_
  rotate_left
  · intro u hSw
    go_simp
    try (with_reducible rfl)
  try simp only [Act.put, List.setIfInBounds_toArray, List.set_cons_zero, List.set_cons_succ]
  refine wpAnyH_take (i := 9) (oi := ⟨_, _, _, _, _, _⟩) (v := ?_) rfl (by kernel_rfl) (by kernel_rfl) (by kernel_rfl) (fun _ _ _ h => h) (Or.inl ⟨by rfl, ?_⟩) (by assumption) ?_
  rotate_left
  · intro u hSw
    subst hSw
    go_simp
    try (with_reducible rfl)
  try simp only [Act.put, List.setIfInBounds_toArray, List.set_cons_zero, List.set_cons_succ]
  refine wpAnyH_take (i := 10) (oi := ⟨_, _, _, _, _, _⟩) (v := ?_) rfl (by kernel_rfl) (by kernel_rfl) (by kernel_rfl) (fun _ _ _ h => h) (Or.inl ⟨by rfl, ?_⟩) (by assumption) ?_
  rotate_left
  · intro u hSw
    go_simp
    try (with_reducible rfl)
  try simp only [Act.put, List.setIfInBounds_toArray, List.set_cons_zero, List.set_cons_succ]
  refine wpAnyH_take (i := 11) (oi := ⟨_, _, _, _, _, _⟩) (v := ?_) rfl (by kernel_rfl) (by kernel_rfl) (by kernel_rfl) (fun _ _ _ h => h) (Or.inl ⟨by rfl, ?_⟩) (by assumption) ?_
  rotate_left
  · intro u hSw
    go_simp
    try (with_reducible rfl)
  try simp only [Act.put, List.setIfInBounds_toArray, List.set_cons_zero, List.set_cons_succ]
  refine wpAnyH_take (i := 12) (oi := ⟨_, _, _, _, _, _⟩) (v := ?_) rfl (by kernel_rfl) (by kernel_rfl) (by kernel_rfl) (fun _ _ _ h => h) (Or.inl ⟨by rfl, ?_⟩) (by assumption) ?_
  rotate_left
  · intro u hSw
    go_simp
    try (with_reducible rfl)
  try simp only [Act.put, List.setIfInBounds_toArray, List.set_cons_zero, List.set_cons_succ]
  refine wpAnyH_take (i := 13) (oi := ⟨_, _, _, _, _, _⟩) (v := ?_) rfl (by kernel_rfl) (by kernel_rfl) (by kernel_rfl) (fun _ _ _ h => h) (Or.inl ⟨by rfl, ?_⟩) (by assumption) ?_
  rotate_left
  · intro u hSw
    go_simp
    try (with_reducible rfl)
  try simp only [Act.put, List.setIfInBounds_toArray, List.set_cons_zero, List.set_cons_succ]
  refine wpAnyH_take (i := 14) (oi := ⟨_, _, _, _, _, _⟩) (v := ?_) rfl (by kernel_rfl) (by kernel_rfl) (by kernel_rfl) (fun _ _ _ h => h) (Or.inl ⟨by rfl, ?_⟩) (by assumption) ?_
  rotate_left
  · intro u hSw
    subst hSw
    go_simp
    try (with_reducible rfl)
  try simp only [Act.put, List.setIfInBounds_toArray, List.set_cons_zero, List.set_cons_succ]
  refine wpAnyH_take (i := 15) (oi := ⟨_, _, _, _, _, _⟩) (v := ?_) rfl (by kernel_rfl) (by kernel_rfl) (by kernel_rfl) (fun _ _ _ h => h) (Or.inl ⟨by rfl, ?_⟩) (by assumption) ?_
  rotate_left
  · intro u hSw
    go_simp
    try (with_reducible rfl)
  try simp only [Act.put, List.setIfInBounds_toArray, List.set_cons_zero, List.set_cons_succ]
  refine wpAnyH_take (i := 16) (oi := ⟨_, _, _, _, _, _⟩) (v := ?_) rfl (by kernel_rfl) (by kernel_rfl) (by kernel_rfl) (fun _ _ _ h => h) (Or.inl ⟨by rfl, ?_⟩) (by assumption) ?_
  rotate_left
  · intro u hSw
    subst hSw
    go_simp
    try (with_reducible rfl)
  try simp only [Act.put, List.setIfInBounds_toArray, List.set_cons_zero, List.set_cons_succ]
  refine wpAnyH_take (i := 17) (oi := ⟨_, _, _, _, _, _⟩) (v := ?_) rfl (by kernel_rfl) (by kernel_rfl) (by kernel_rfl) (fun _ _ _ h => h) (Or.inl ⟨by rfl, ?_⟩) (by assumption) ?_
  rotate_left
  · intro u hSw
    go_simp
    try (with_reducible rfl)
  try simp only [Act.put, List.setIfInBounds_toArray, List.set_cons_zero, List.set_cons_succ]
  refine wpAnyH_take (i := 18) (oi := ⟨_, _, _, _, _, _⟩) (v := ?_) rfl (by kernel_rfl) (by kernel_rfl) (by kernel_rfl) (fun _ _ _ h => h) (Or.inl ⟨by rfl, ?_⟩) (by assumption) ?_
  rotate_left
  · intro u hSw
    go_simp
    try (with_reducible rfl)
  try simp only [Act.put, List.setIfInBounds_toArray, List.set_cons_zero, List.set_cons_succ]
  refine wpAnyH_take (i := 19) (oi := ⟨_, _, _, _, _, _⟩) (v := ?_) rfl (by kernel_rfl) (by kernel_rfl) (by kernel_rfl) (fun _ _ _ h => h) (Or.inl ⟨by rfl, ?_⟩) (by assumption) ?_
  rotate_left
  · intro u hSw
    go_simp
    try (with_reducible rfl)
  try simp only [Act.put, List.setIfInBounds_toArray, List.set_cons_zero, List.set_cons_succ]
  refine wpAnyH_take (i := 20) (oi := ⟨_, _, _, _, _, _⟩) (v := ?_) rfl (by kernel_rfl) (by kernel_rfl) (by kernel_rfl) (fun _ _ _ h => h) (Or.inl ⟨by rfl, ?_⟩) (by assumption) ?_
  rotate_left
  · intro u hSw
    go_simp
    try (with_reducible rfl)
  try simp only [Act.put, List.setIfInBounds_toArray, List.set_cons_zero, List.set_cons_succ]
  refine wpAnyH_done (by kernel_rfl) ?_ _
  go_upto_region 4 with fail
  obtain ⟨W, hW⟩ : ∃ W : World, W = (w2.alloc (.cells CD 75)).drew := ⟨_, rfl⟩
  obtain ⟨G, hG⟩ : ∃ G : Nat, G = w2.heap.size := ⟨_, rfl⟩
  have AW : Arr W G 75 CD := by rw [hW, hG]; exact A0
  have hBW : Below w.heap.size w W := by rw [hW]; exact hB0.drew
  have hVW : VM N es W g gm gp n cap sp nk ck m := by rw [hW]; exact hV2.bel ((Below.refl _ _).drew)
  rw [← hW, ← hG]
  clear hW hG A0 hB0 hV2 rb0 q1 q2 q4 hb2 cx c0 c18 hv hd hp
  have hEW := hVW.en
  have c0 := hEW.c0
  have c17 := hEW.c17
  have c18 := hEW.c18
  have x0 : W.cell? ⟨g, 19, none⟩ = some (.slice sp nk ck) := hEW.cx 0
  have x1 : W.cell? ⟨g, 20, none⟩ = some (.map (some gp)) := hEW.cx 1
  have ra := hEW.cr ha16
  have rb := hEW.cr hb16
  have rc := hEW.cr hc16
  change _ = some (Value.int IntKind.u64 (m.get a)) at ra
  change _ = some (Value.int IntKind.u64 (m.get b)) at rb
  change _ = some (Value.int IntKind.u64 (m.get c)) at rc
  have fz := hEW.fz
  have fm := hEW.fm
  have hne := hEW.ne
  have hGg : g ≠ G := fun e => by rw [e] at hEW; have h1 := hEW.eng; rw [Arr, AW] at h1; cases h1
  subst hcd
  have k0 : W.cell? ⟨G, 0, none⟩ = some (.int .u8 25) := AW.cell 0
  have k1 : W.cell? ⟨G, 1, none⟩ = some (.int .u8 (a : Int)) := AW.cell 1
  have k3 : W.cell? ⟨G, 3, none⟩ = some (.int .u8 (c : Int)) := AW.cell 3
  have c0' : ∀ v, (W.setCell ⟨g, 1 + a, none⟩ v).cell? ⟨g, 0, none⟩ = some (.int .u64 m.pc) := fun v => (cell_set_ne v (fun e => by injection e with _ e2 _; omega)).trans c0
  have f' : ∀ v j, (W.setCell ⟨g, 1 + a, none⟩ v).frozen? ⟨g, j, none⟩ = false := fun v j => (hEW.eng.set (1 + a) v).frozen j
  have hGp : G ≠ gp := fun e => by obtain ⟨f, hf, -⟩ := hVW.map; obtain ⟨Lm, ck', h1, -⟩ := hf; rw [← e] at h1; have h2 : W.heap[G]? = _ := AW; rw [h1] at h2; cases h2
  have hVD := hVW.bel ((Below.refl W.heap.size W).drew)
  obtain ⟨XX, hXX⟩ : ∃ XX, XX = fmL (m.wds (m.get b).toNat) := ⟨_, rfl⟩
  have hlX : XX.length = 32 := by rw [hXX]; exact fmL_len _
  replace hXX := Hid.mk' hXX
  by_cases hq : m.get b + 4 ≤ (n : Int)
  rotate_left
  · have hex : ex es m 25 a b c i = none := by simp [ex, prm]; intro h; exact absurd h (by rw [← hlen.out]; exact hq)
    replace hex := Hid.mk' hex
    go_upto_region 30 with fail
    refine wp_region_held_drew (S := fun u => u.cell? ⟨G, 3, none⟩ = some (.int .u8 (c : Int)) ∧ u.cell? ⟨g, 19, none⟩ = some (.slice sp nk ck) ∧ u.cell? ⟨g, 20, none⟩ = some (.map (some gp))) (by kernel_rfl) (⟨by exact k3, by exact x0, by exact x1⟩) (fun hHeld => ?_)
    refine wpAnyH_take (i := 0) (oi := ⟨_, _, _, _, _, _⟩) (v := ?_) rfl (by kernel_rfl) (by kernel_rfl) (by kernel_rfl) (fun _ _ _ h => h) (Or.inl ⟨by rfl, ?_⟩) (by assumption) ?_
    rotate_left
    · intro u hSw
      go_simp
      try (with_reducible rfl)
    try simp only [Act.put, List.setIfInBounds_toArray, List.set_cons_zero, List.set_cons_succ]
    refine wpAnyH_take (i := 1) (oi := ⟨_, _, _, _, _, _⟩) (v := ?_) rfl (by kernel_rfl) (by kernel_rfl) (by kernel_rfl) (fun _ _ _ h => h) (Or.inl ⟨by rfl, ?_⟩) (by assumption) ?_
    rotate_left
    · intro u hSw
      go_simp
      try (with_reducible rfl)
    try simp only [Act.put, List.setIfInBounds_toArray, List.set_cons_zero, List.set_cons_succ]
    refine wpAnyH_take (i := 2) (oi := ⟨_, _, _, _, _, _⟩) (v := ?_) rfl (by kernel_rfl) (by kernel_rfl) (by kernel_rfl) (fun _ _ _ h => h) (Or.inl ⟨by rfl, ?_⟩) (by assumption) ?_
    rotate_left
    · intro u hSw
      go_simp
      try (with_reducible rfl)
    try simp only [Act.put, List.setIfInBounds_toArray, List.set_cons_zero, List.set_cons_succ]
    refine wpAnyH_take (i := 3) (oi := ⟨_, _, _, _, _, _⟩) (v := ?_) rfl (by kernel_rfl) (by kernel_rfl) (by kernel_rfl) (fun _ _ _ h => h) (Or.inl ⟨by rfl, ?_⟩) (by assumption) ?_
    rotate_left
    · intro u hSw
      go_simp
      try (with_reducible rfl)
    try simp only [Act.put, List.setIfInBounds_toArray, List.set_cons_zero, List.set_cons_succ]
    refine wpAnyH_take (i := 4) (oi := ⟨_, _, _, _, _, _⟩) (v := ?_) rfl (by kernel_rfl) (by kernel_rfl) (by kernel_rfl) (fun _ _ _ h => h) (Or.inl ⟨by rfl, ?_⟩) (by assumption) ?_
    rotate_left
    · intro u hSw
      obtain ⟨s1, s2, s3⟩ := hSw
      go_simp
      try (with_reducible rfl)
    try simp only [Act.put, List.setIfInBounds_toArray, List.set_cons_zero, List.set_cons_succ]
    refine wpAnyH_take (i := 5) (oi := ⟨_, _, _, _, _, _⟩) (v := ?_) rfl (by kernel_rfl) (by kernel_rfl) (by kernel_rfl) (fun _ _ _ h => h) (Or.inl ⟨by rfl, ?_⟩) (by assumption) ?_
    rotate_left
    · intro u hSw
      go_simp
      try (with_reducible rfl)
    try simp only [Act.put, List.setIfInBounds_toArray, List.set_cons_zero, List.set_cons_succ]
    refine wpAnyH_take (i := 6) (oi := ⟨_, _, _, _, _, _⟩) (v := ?_) rfl (by kernel_rfl) (by kernel_rfl) (by kernel_rfl) (fun _ _ _ h => h) (Or.inl ⟨by rfl, ?_⟩) (by assumption) ?_
    rotate_left
    · intro u hSw
      go_simp
      try (with_reducible rfl)
    try simp only [Act.put, List.setIfInBounds_toArray, List.set_cons_zero, List.set_cons_succ]
    refine wpAnyH_ready (rs := [7]) (by kernel_rfl) (by simp) ?_
    refine AllReadyH.cons (o := ⟨_, _, _, _, _, _⟩) rfl (fun K hK => ?_) AllReadyH.nil
    go_simp
    refine (sumAt_no _ hVD.en hUb (by omega)).mono ?_
    rintro e u1 ⟨rfl, hu1⟩
    go_wp2_with fail
    exact ⟨rfl, stNo hV hex.out (hBW.drew.trans (hu1.mono hBW.size))⟩
  obtain ⟨kb, hkb⟩ : ∃ k : Nat, m.get b = k := ⟨(m.get b).toNat, by have := hUb.1; omega⟩
  have hkn : kb + 4 ≤ n := by omega
  have hXk : fmL (fun t => m.me.getD (kb + t) 0) = XX := by rw [hXX.out, hkb, Int.toNat_natCast]; rfl
  have hpr : prm es m (m.get b) = pre es XX := by unfold prm; rw [if_pos (by rw [← hlen.out]; exact hq), hXX.out]
  replace hkb := Hid.mk' hkb
  replace hXk := Hid.mk' hXk
  replace hpr := Hid.mk' hpr
  replace hq := Hid.mk' hq
  rcases hp : pre es XX with _ | e
  · have hex : ex es m 25 a b c i = none := by simp [ex, hpr.out, hp]
    replace hex := Hid.mk' hex
    replace hp := Hid.mk' hp
    go_upto_region 30 with fail
    refine wp_region_held_drew (S := fun u => u.cell? ⟨G, 3, none⟩ = some (.int .u8 (c : Int)) ∧ u.cell? ⟨g, 19, none⟩ = some (.slice sp nk ck) ∧ u.cell? ⟨g, 20, none⟩ = some (.map (some gp))) (by kernel_rfl) (⟨by exact k3, by exact x0, by exact x1⟩) (fun hHeld => ?_)
    refine wpAnyH_take (i := 0) (oi := ⟨_, _, _, _, _, _⟩) (v := ?_) rfl (by kernel_rfl) (by kernel_rfl) (by kernel_rfl) (fun _ _ _ h => h) (Or.inl ⟨by rfl, ?_⟩) (by assumption) ?_
    rotate_left
    · intro u hSw
      go_simp
      try (with_reducible rfl)
    try simp only [Act.put, List.setIfInBounds_toArray, List.set_cons_zero, List.set_cons_succ]
    refine wpAnyH_take (i := 1) (oi := ⟨_, _, _, _, _, _⟩) (v := ?_) rfl (by kernel_rfl) (by kernel_rfl) (by kernel_rfl) (fun _ _ _ h => h) (Or.inl ⟨by rfl, ?_⟩) (by assumption) ?_
    rotate_left
    · intro u hSw
      go_simp
      try (with_reducible rfl)
    try simp only [Act.put, List.setIfInBounds_toArray, List.set_cons_zero, List.set_cons_succ]
    refine wpAnyH_take (i := 2) (oi := ⟨_, _, _, _, _, _⟩) (v := ?_) rfl (by kernel_rfl) (by kernel_rfl) (by kernel_rfl) (fun _ _ _ h => h) (Or.inl ⟨by rfl, ?_⟩) (by assumption) ?_
    rotate_left
    · intro u hSw
      go_simp
      try (with_reducible rfl)
    try simp only [Act.put, List.setIfInBounds_toArray, List.set_cons_zero, List.set_cons_succ]
    refine wpAnyH_take (i := 3) (oi := ⟨_, _, _, _, _, _⟩) (v := ?_) rfl (by kernel_rfl) (by kernel_rfl) (by kernel_rfl) (fun _ _ _ h => h) (Or.inl ⟨by rfl, ?_⟩) (by assumption) ?_
    rotate_left
    · intro u hSw
      go_simp
      try (with_reducible rfl)
    try simp only [Act.put, List.setIfInBounds_toArray, List.set_cons_zero, List.set_cons_succ]
    refine wpAnyH_take (i := 4) (oi := ⟨_, _, _, _, _, _⟩) (v := ?_) rfl (by kernel_rfl) (by kernel_rfl) (by kernel_rfl) (fun _ _ _ h => h) (Or.inl ⟨by rfl, ?_⟩) (by assumption) ?_
    rotate_left
    · intro u hSw
      obtain ⟨s1, s2, s3⟩ := hSw
      go_simp
      try (with_reducible rfl)
    try simp only [Act.put, List.setIfInBounds_toArray, List.set_cons_zero, List.set_cons_succ]
    refine wpAnyH_take (i := 5) (oi := ⟨_, _, _, _, _, _⟩) (v := ?_) rfl (by kernel_rfl) (by kernel_rfl) (by kernel_rfl) (fun _ _ _ h => h) (Or.inl ⟨by rfl, ?_⟩) (by assumption) ?_
    rotate_left
    · intro u hSw
      go_simp
      try (with_reducible rfl)
    try simp only [Act.put, List.setIfInBounds_toArray, List.set_cons_zero, List.set_cons_succ]
    refine wpAnyH_take (i := 6) (oi := ⟨_, _, _, _, _, _⟩) (v := ?_) rfl (by kernel_rfl) (by kernel_rfl) (by kernel_rfl) (fun _ _ _ h => h) (Or.inl ⟨by rfl, ?_⟩) (by assumption) ?_
    rotate_left
    · intro u hSw
      go_simp
      try (with_reducible rfl)
    try simp only [Act.put, List.setIfInBounds_toArray, List.set_cons_zero, List.set_cons_succ]
    refine wpAnyH_ready (rs := [7]) (by kernel_rfl) (by simp) ?_
    refine AllReadyH.cons (o := ⟨_, _, _, _, _, _⟩) rfl (fun K hK => ?_) AllReadyH.nil
    go_simp
    refine (sumAt_ok _ hVD.en hkb.out hkn).mono ?_
    rintro e u1 ⟨rfl, hu1⟩
    rw [show fmL (fun t => m.me.getD (kb + t) 0) = XX from hXk.out]
    have hV1 := hVD.bel hu1
    have hS1 := keepS3 (G := G) (w := W.drew) (by exact k3) hGp (fun b hb _ => hu1.block b hb) hV1
    have hB1 : Below w.heap.size w u1 := hBW.drew.trans (hu1.mono hBW.size)
    go_wp2_with fail
    refine hK.out _ _ hS1 (fun hHeld => ?_)
    clear hK K
    try simp only [Act.put, List.setIfInBounds_toArray, List.set_cons_zero, List.set_cons_succ]
    refine wpAnyH_ready (rs := [8]) (by kernel_rfl) (by simp) ?_
    refine AllReadyH.cons (o := ⟨_, _, _, _, _, _⟩) rfl (fun K hK => ?_) AllReadyH.nil
    go_simp
    refine (shelf_no hV1 hlX hp.out).mono ?_
    rintro e u2 ⟨rfl, hu2⟩
    go_wp2_with fail
    exact ⟨rfl, stNoS hV hex.out hB1 hu2⟩
  · have hex : ex es m 25 a b c i = some (m.put a (e.n : Int)) := by simp [ex, hpr.out, hp]
    replace hex := Hid.mk' hex
    replace hp := Hid.mk' hp
    go_upto_region 30 with fail
    refine wp_region_held_drew (S := fun u => u.cell? ⟨G, 3, none⟩ = some (.int .u8 (c : Int)) ∧ u.cell? ⟨g, 19, none⟩ = some (.slice sp nk ck) ∧ u.cell? ⟨g, 20, none⟩ = some (.map (some gp))) (by kernel_rfl) (⟨by exact k3, by exact x0, by exact x1⟩) (fun hHeld => ?_)
    refine wpAnyH_take (i := 0) (oi := ⟨_, _, _, _, _, _⟩) (v := ?_) rfl (by kernel_rfl) (by kernel_rfl) (by kernel_rfl) (fun _ _ _ h => h) (Or.inl ⟨by rfl, ?_⟩) (by assumption) ?_
    rotate_left
    · intro u hSw
      go_simp
      try (with_reducible rfl)
    try simp only [Act.put, List.setIfInBounds_toArray, List.set_cons_zero, List.set_cons_succ]
    refine wpAnyH_take (i := 1) (oi := ⟨_, _, _, _, _, _⟩) (v := ?_) rfl (by kernel_rfl) (by kernel_rfl) (by kernel_rfl) (fun _ _ _ h => h) (Or.inl ⟨by rfl, ?_⟩) (by assumption) ?_
    rotate_left
    · intro u hSw
      go_simp
      try (with_reducible rfl)
    try simp only [Act.put, List.setIfInBounds_toArray, List.set_cons_zero, List.set_cons_succ]
    refine wpAnyH_take (i := 2) (oi := ⟨_, _, _, _, _, _⟩) (v := ?_) rfl (by kernel_rfl) (by kernel_rfl) (by kernel_rfl) (fun _ _ _ h => h) (Or.inl ⟨by rfl, ?_⟩) (by assumption) ?_
    rotate_left
    · intro u hSw
      go_simp
      try (with_reducible rfl)
    try simp only [Act.put, List.setIfInBounds_toArray, List.set_cons_zero, List.set_cons_succ]
    refine wpAnyH_take (i := 3) (oi := ⟨_, _, _, _, _, _⟩) (v := ?_) rfl (by kernel_rfl) (by kernel_rfl) (by kernel_rfl) (fun _ _ _ h => h) (Or.inl ⟨by rfl, ?_⟩) (by assumption) ?_
    rotate_left
    · intro u hSw
      go_simp
      try (with_reducible rfl)
    try simp only [Act.put, List.setIfInBounds_toArray, List.set_cons_zero, List.set_cons_succ]
    refine wpAnyH_take (i := 4) (oi := ⟨_, _, _, _, _, _⟩) (v := ?_) rfl (by kernel_rfl) (by kernel_rfl) (by kernel_rfl) (fun _ _ _ h => h) (Or.inl ⟨by rfl, ?_⟩) (by assumption) ?_
    rotate_left
    · intro u hSw
      obtain ⟨s1, s2, s3⟩ := hSw
      go_simp
      try (with_reducible rfl)
    try simp only [Act.put, List.setIfInBounds_toArray, List.set_cons_zero, List.set_cons_succ]
    refine wpAnyH_take (i := 5) (oi := ⟨_, _, _, _, _, _⟩) (v := ?_) rfl (by kernel_rfl) (by kernel_rfl) (by kernel_rfl) (fun _ _ _ h => h) (Or.inl ⟨by rfl, ?_⟩) (by assumption) ?_
    rotate_left
    · intro u hSw
      go_simp
      try (with_reducible rfl)
    try simp only [Act.put, List.setIfInBounds_toArray, List.set_cons_zero, List.set_cons_succ]
    refine wpAnyH_take (i := 6) (oi := ⟨_, _, _, _, _, _⟩) (v := ?_) rfl (by kernel_rfl) (by kernel_rfl) (by kernel_rfl) (fun _ _ _ h => h) (Or.inl ⟨by rfl, ?_⟩) (by assumption) ?_
    rotate_left
    · intro u hSw
      go_simp
      try (with_reducible rfl)
    try simp only [Act.put, List.setIfInBounds_toArray, List.set_cons_zero, List.set_cons_succ]
    refine wpAnyH_ready (rs := [7]) (by kernel_rfl) (by simp) ?_
    refine AllReadyH.cons (o := ⟨_, _, _, _, _, _⟩) rfl (fun K hK => ?_) AllReadyH.nil
    go_simp
    refine (sumAt_ok _ hVD.en hkb.out hkn).mono ?_
    rintro e u1 ⟨rfl, hu1⟩
    rw [show fmL (fun t => m.me.getD (kb + t) 0) = XX from hXk.out]
    have hV1 := hVD.bel hu1
    have hS1 := keepS3 (G := G) (w := W.drew) (by exact k3) hGp (fun b hb _ => hu1.block b hb) hV1
    have hB1 : Below w.heap.size w u1 := hBW.drew.trans (hu1.mono hBW.size)
    go_wp2_with fail
    refine hK.out _ _ hS1 (fun hHeld => ?_)
    clear hK K
    try simp only [Act.put, List.setIfInBounds_toArray, List.set_cons_zero, List.set_cons_succ]
    refine wpAnyH_ready (rs := [8]) (by kernel_rfl) (by simp) ?_
    refine AllReadyH.cons (o := ⟨_, _, _, _, _, _⟩) rfl (fun K hK => ?_) AllReadyH.nil
    go_simp
    refine (shelf_yes hV1 hlX hp.out).mono ?_
    rintro e' u2 ⟨rfl, hme, hu2⟩
    have hV2 := hu2.vm
    have hS2 := keepS3 (w := u1) hS1.1 hGp hu2.oth hV2
    have hB := (hV2.known.ok e hme).body
    go_wp2_with fail
    refine hK.out _ _ hS2 (fun hHeld => ?_)
    clear hK K
    try simp only [Act.put, List.setIfInBounds_toArray, List.set_cons_zero, List.set_cons_succ]
    have hnn := hB.small
    have hwn : IntKind.u64.wrap (e.n : Int) = e.n := wrap64_of (by omega) (by omega)
    have hUz : U64 (e.n : Int) := by unfold U64; omega
    have c0d : ∀ v, (u2.setCell ⟨g, 1 + a, none⟩ v).cell? ⟨g, 0, none⟩ = some (.int .u64 m.pc) := fun v => (cell_set_ne v (fun e => by injection e with _ e2 _; omega)).trans hV2.en.c0
    have f0d : ∀ v j, (u2.setCell ⟨g, 1 + a, none⟩ v).frozen? ⟨g, j, none⟩ = false := fun v j => (hV2.en.eng.set (1 + a) v).frozen j
    have cad := hV2.en.cr ha16
    have fad := hV2.en.fz
    refine wpAnyH_take (i := 9) (oi := ⟨_, _, _, _, _, _⟩) (v := ?_) rfl (by kernel_rfl) (by kernel_rfl) (by kernel_rfl) (fun _ _ _ h => h) (Or.inl ⟨by rfl, ?_⟩) (by assumption) ?_
    rotate_left
    · intro u hSw
      go_simp
      try (with_reducible rfl)
    try simp only [Act.put, List.setIfInBounds_toArray, List.set_cons_zero, List.set_cons_succ]
    refine wpAnyH_take (i := 10) (oi := ⟨_, _, _, _, _, _⟩) (v := ?_) rfl (by kernel_rfl) (by kernel_rfl) (by kernel_rfl) (fun _ _ _ h => h) (Or.inl ⟨by rfl, ?_⟩) (by assumption) ?_
    rotate_left
    · intro u hSw
      go_simp
      try (with_reducible rfl)
    try simp only [Act.put, List.setIfInBounds_toArray, List.set_cons_zero, List.set_cons_succ]
    refine wpAnyH_take (i := 11) (oi := ⟨_, _, _, _, _, _⟩) (v := ?_) rfl (by kernel_rfl) (by kernel_rfl) (by kernel_rfl) (fun _ _ _ h => h) (Or.inl ⟨by rfl, ?_⟩) (by assumption) ?_
    rotate_left
    · intro u hSw
      go_simp
      try (with_reducible rfl)
    try simp only [Act.put, List.setIfInBounds_toArray, List.set_cons_zero, List.set_cons_succ]
    refine wpAnyH_ready (rs := [12]) (by kernel_rfl) (by simp) ?_
    refine AllReadyH.cons (o := ⟨_, _, _, _, _, _⟩) rfl (fun K hK => ?_) AllReadyH.nil
    go_simp
    go_wp2_with fail
    refine hK.out _ _ ⟨(cell_set_ne _ (fun e => by injection e with e1; exact hGg e1)).trans hS2.1, (cell_set_ne _ (fun e => by injection e with _ e2 _; omega)).trans hS2.2.1, (cell_set_ne _ (fun e => by injection e with _ e2 _; omega)).trans hS2.2.2⟩ (fun hHeld => ?_)
    clear hK K
    try simp only [Act.put, List.setIfInBounds_toArray, List.set_cons_zero, List.set_cons_succ]
    refine wpAnyH_done (by kernel_rfl) ?_ _
    go_wp2_with fail
    exact ⟨rfl, _, results_none Tryz.results110 _ _ _, stYes hB1 hV hex.out ((hu2.chg.sg _ _).sg _ _) (by have := hu2.size; simp; omega) (hV2.put ha16 hUz)⟩
end Go.Proofs.YtneihkegipcakaaGreat
/- Layer trace: what the layers below give. -/
namespace Go.Proofs.YtneihkegipcakaaGreat
open Go.RowKit
set_option maxRecDepth 100000
set_option linter.unusedVariables false
set_option linter.unusedSimpArgs false

theorem nil20 (w : World) : (binOp .eql 20 .nilIface .nilIface).run Tryz.prog w = .ok (.bool true) w := by rfl
theorem some20 (w : World) : (binOp .eql 20 (.iface 194 (.agg #[])) .nilIface).run Tryz.prog w = .ok (.bool false) w := by rfl
theorem assert90 (w : World) : (Instr.typeAssert (.iface 194 (.agg #[])) 20 194 true).run Tryz.prog w = .ok (.tuple #[.agg #[], .bool true]) w := by kernel_rfl
theorem catch_idle (p : Addr) (w : World) :
    CallsD Tryz.prog 109 #[.pointer (some p)] .returning w fun e u' w' => e = .returned (.tuple #[]) ∧ u' = .returning ∧ w' = w := by
  have h1 := nil20
  refine callsD_of_wpS Tryz.func109 rfl fun c₀ cs hu => ?_
  apply wpS_seq
  apply wpS_region
  simp [wpOpsS, go_sem, recoverD, hu, Tryz.ntmps109, Exit.thenS]
  refine wpS_of_wp ?_
  go_wp2
  cases c₀
  simp_all [bodyPostS, results, Tryz.results109]
set_option maxHeartbeats 1000000 in
theorem catch_trap (q g : Nat) (w : World) (hq : Arr w q 192 #[.pointer (some ⟨g, 0, none⟩)]) (c17 : ∃ x, w.cell? ⟨g, 17, none⟩ = some x) (fz : w.frozen? ⟨g, 17, none⟩ = false) (hg : g < w.heap.size) :
    CallsD Tryz.prog 109 #[.pointer (some ⟨q, 0, none⟩)] (.panicking trapV) w fun e u' w' => e = .returned (.tuple #[]) ∧ u' = .panicking [{ v := .iface 194 (.agg #[]), recovered := true }] ∧ w' = (w.setCell ⟨g, 17, none⟩ (.int .u8 2)).alloc (.cells #[] 194) := by
  have h1 := some20
  have h2 := assert90
  have hc : ∀ o, (w.alloc o).cell? ⟨q, 0, none⟩ = some (.pointer (some ⟨g, 0, none⟩)) := fun o => (hq.alloc o).cell 0
  obtain ⟨x, hx⟩ := c17
  have hc2 : ∀ o, (w.alloc o).cell? ⟨g, 17, none⟩ = some x := fun o => (World.cell?_alloc_lt _ _ _ hg).trans hx
  have hz : ∀ o, (w.alloc o).frozen? ⟨g, 17, none⟩ = false := fun o => by
    simp only [World.frozen?] at fz ⊢
    rw [Below.heap_alloc _ _ _ hg]
    exact fz
  refine callsD_of_wpS Tryz.func109 rfl fun c₀ cs hu => ?_
  apply wpS_seq
  apply wpS_region
  simp [wpOpsS, go_sem, recoverD, hu, Tryz.ntmps109, Exit.thenS, trapV]
  refine wpS_of_wp ?_
  change Code.wp _ _ _ { tmps := #[.pointer (some ⟨q, 0, none⟩), undef, undef, undef, .iface 194 (.agg #[]), undef, undef, undef, undef, undef, undef, undef, undef, undef], defers := [] } _
  go_wp2
  exact ⟨rfl, _, rfl, _, results_none Tryz.results109 _ _ _, rfl, rfl, rfl⟩
section
variable {N : Nat} {es : List En} {g gm gp n cap : Nat} {sp : Option Addr} {nk ck : Nat} {m : Mc}
set_option maxHeartbeats 1000000 in
theorem step_t0 (w : World) (hV : VM N es w g gm gp n cap sp nk ck m) (hp : (n : Int) ≤ m.pc) : Calls Tryz.prog 110 #[.pointer (some ⟨g, 0, none⟩)] w (StPost N es g gm gp n cap sp nk ck m (stp es m) w) := by
  have hex : stp es m = none := by unfold stp; rw [if_neg (by rw [← hV.en.len.out]; omega)]
  have c0 := hV.en.c0
  have c18 := hV.en.c18
  have hn := hV.en.small
  replace hex := Hid.mk' hex
  go_enter Tryz.func110, Tryz.ntmps110
  go_wp2_with (go_at_call 132; go_must (refine (word_no w c18 hn hp).mono ?_; rintro e w1 ⟨rfl, h⟩; replace h := h.symm; subst h))
  exact ⟨rfl, stNo hV hex.out (Below.refl _ _)⟩
set_option maxHeartbeats 1000000 in
theorem step_t1 (w : World) (hV : VM N es w g gm gp n cap sp nk ck m) {pN : Nat} {x : Int} (hp : m.pc = (pN : Int)) (hpn : pN < n) (hx : m.me.getD pN 0 = x) (hd : dOk x = false) : Calls Tryz.prog 110 #[.pointer (some ⟨g, 0, none⟩)] w (StPost N es g gm gp n cap sp nk ck m (stp es m) w) := by
  have hex : stp es m = none := by
    unfold stp
    rw [hp, Int.toNat_natCast, hx, hd]
    simp
  have c0 := hV.en.c0
  have c18 := hV.en.c18
  have hn := hV.en.small
  have cx := hV.en.cm hpn
  rw [hx] at cx
  have hU : U64 x := by rw [← hx]; exact hV.en.ok.me _
  have hv := dV_no hd
  replace hv := Hid.mk' hv
  replace hd := Hid.mk' hd
  replace hp := Hid.mk' hp
  replace hex := Hid.mk' hex
  clear hx
  go_enter Tryz.func110, Tryz.ntmps110
  go_wp2_with (first
    | (go_at_call 132; go_must (refine (word_ok w c18 hn hp.out hpn).mono ?_; rintro e w1 ⟨rfl, h⟩; replace h := h.symm; subst h))
    | (go_at_call 119; go_must (refine (decode_any w hU).mono ?_; rintro e w2 ⟨rfl, hb2⟩; rw [hv.out, hd.out]; unfold cdA)))
  exact ⟨rfl, stNo hV hex.out (hb2.alloc hb2.size _)⟩
theorem ops25 {o : Int} (h : 1 ≤ o ∧ o ≤ 25) : o = 1 ∨ o = 2 ∨ o = 3 ∨ o = 4 ∨ (5 ≤ o ∧ o ≤ 16) ∨ o = 17 ∨ o = 18 ∨ o = 19 ∨ o = 20 ∨ o = 21 ∨ o = 22 ∨ o = 23 ∨ o = 24 ∨ o = 25 := by omega
theorem step_any (w : World) (hV : VM N es w g gm gp n cap sp nk ck m) : Calls Tryz.prog 110 #[.pointer (some ⟨g, 0, none⟩)] w (StPost N es g gm gp n cap sp nk ck m (stp es m) w) := by
  have hp0 := hV.en.ok.pc.1
  by_cases hp : m.pc < n
  · obtain ⟨pN, hpN⟩ : ∃ k : Nat, m.pc = k := ⟨m.pc.toNat, by omega⟩
    have hpn : pN < n := by omega
    obtain ⟨x, hx⟩ : ∃ x, m.me.getD pN 0 = x := ⟨_, rfl⟩
    have hU : U64 x := by rw [← hx]; exact hV.en.ok.me _
    cases hd : dOk x with
    | false => exact step_t1 w hV hpN hpn hx hd
    | true =>
      have hR := dRg hU
      obtain ⟨a, ha⟩ : ∃ k : Nat, dA x = k := ⟨(dA x).toNat, by omega⟩
      obtain ⟨b, hb⟩ : ∃ k : Nat, dB x = k := ⟨(dB x).toNat, by omega⟩
      obtain ⟨c, hc⟩ : ∃ k : Nat, dC x = k := ⟨(dC x).toNat, by omega⟩
      have hst : stp es m = ex es m (dOp x) a b c (dI x) := by
        unfold stp
        rw [hpN, Int.toNat_natCast, hx, hd, ha, hb, hc, if_pos (by rw [← hV.en.len.out]; omega), if_pos rfl]
        simp
      rw [hst]
      have ho25 : 1 ≤ dOp x ∧ dOp x ≤ 25 := by
        unfold dOk at hd
        have := of_decide_eq_true hd
        exact ⟨this.1, this.2.1⟩
      obtain ⟨i, hi⟩ : ∃ i, dI x = i := ⟨_, rfl⟩
      obtain ⟨o, ho⟩ : ∃ o, dOp x = o := ⟨_, rfl⟩
      rw [hi, ho]
      rw [ho] at ho25
      rcases ops25 ho25 with rfl | rfl | rfl | rfl | h5 | rfl | rfl | rfl | rfl | rfl | rfl | rfl | rfl | rfl
      · exact step_1 w hV hpN hpn hx hd ho ha hb hc hi
      · exact step_2 w hV hpN hpn hx hd ho ha hb hc hi
      · exact step_3 w hV hpN hpn hx hd ho ha hb hc hi
      · exact step_4 w hV hpN hpn hx hd ho ha hb hc hi
      · exact step_o w hV hpN hpn hx hd ho ha hb hc hi h5
      · exact step_17 w hV hpN hpn hx hd ho ha hb hc hi
      · exact step_18 w hV hpN hpn hx hd ho ha hb hc hi
      · exact step_19 w hV hpN hpn hx hd ho ha hb hc hi
      · exact step_20 w hV hpN hpn hx hd ho ha hb hc hi
      · exact step_21 w hV hpN hpn hx hd ho ha hb hc hi
      · exact step_22 w hV hpN hpn hx hd ho ha hb hc hi
      · exact step_23 w hV hpN hpn hx hd ho ha hb hc hi
      · exact step_24 w hV hpN hpn hx hd ho ha hb hc hi
      · exact step_25 w hV hpN hpn hx hd ho ha hb hc hi
  · exact step_t0 w hV (by omega)
end
end Go.Proofs.YtneihkegipcakaaGreat
/- Layer trace: what the layers below give. -/
namespace Go.Proofs.YtneihkegipcakaaGreat
open Go.RowKit
set_option maxRecDepth 100000
set_option linter.unusedVariables false
set_option linter.unusedSimpArgs false

theorem rn_stop {es : List En} {m : Mc} (h : m.st ≠ 0) (k : Nat) : rn es k m = (m, 0) := by
  cases k with
  | zero => rfl
  | succ k => simp [rn, h]
theorem rn_go {es : List En} {m : Mc} (h : m.st = 0) (k : Nat) : rn es (k + 1) m = ((rn es k (tick es m)).1, (rn es k (tick es m)).2 + 1) := by simp [rn, h]
theorem rn_next {es : List En} {m mk : Mc} {F k : Nat} (hk : k < F) (h0 : mk.st = 0) (h : rn es F m = ((rn es (F - k) mk).1, (rn es (F - k) mk).2 + k)) : rn es F m = ((rn es (F - (k + 1)) (tick es mk)).1, (rn es (F - (k + 1)) (tick es mk)).2 + (k + 1)) := by
  rw [h, show F - k = (F - (k + 1)) + 1 by omega, rn_go h0]
  simp only [Prod.mk.injEq, true_and]
  omega
section
variable {N : Nat} {es : List En} {g gm gp n cap : Nat} {sp : Option Addr} {nk ck : Nat} {m : Mc}
/-- What run comes to. -/
def RuPost (N : Nat) (es : List En) (g gm gp n cap : Nat) (sp : Option Addr) (nk ck : Nat) (r : Mc × Nat) (w : World) (e : Ending) (w' : World) : Prop :=
  e = .returned (.int .i64 (r.2 : Int)) ∧ Chg (C3 g gm gp) w w' ∧ VM N es w' g gm gp n cap sp nk ck r.1
theorem VM.oth {w w' : World} (hV : VM N es w g gm gp n cap sp nk ck m) {q : Nat} {C : Array Value} {t : TypeId} (hq : Arr w q t C) (ht : t ≠ 157) (ht2 : t ≠ 22) (hc : Chg (C3 g gm gp) w w') : Arr w' q t C := by
  refine (hc.block q hq.lt ?_).trans hq
  rintro (e | e | e)
  · subst e
    have h1 := hV.en.eng
    rw [Arr, hq] at h1
    cases h1
    exact ht rfl
  · subst e
    obtain ⟨D, h1, -⟩ := hV.en.mem
    rw [Arr, hq] at h1
    cases h1
    exact ht2 rfl
  · subst e
    obtain ⟨f, ⟨L, ck', h1, -⟩, -⟩ := hV.map
    rw [Arr, h1] at hq
    cases hq
set_option maxHeartbeats 2000000 in
theorem run_any (w : World) (hV : VM N es w g gm gp n cap sp nk ck m) {F : Nat} {x : Int} (hx : x = (F : Int)) (hF : F ≤ 4194304) :
    Calls Tryz.prog 83 #[.pointer (some ⟨g, 0, none⟩), .int .i64 x] w (RuPost N es g gm gp n cap sp nk ck (rn es F m) w) := by
  subst hx
  have hmf : ∀ (fn : Fn) (first cap : Array Value) (w : World), (Instr.makeFunc fn first cap).run Tryz.prog w = .ok (.func fn first cap) w := fun _ _ _ _ => rfl
  have hV1 := hV.bel (alloc_bel' w (.cells #[.pointer (some ⟨g, 0, none⟩)] 192))
  go_enter_defers Tryz.func83, Tryz.ntmps83
  go_wp2_with fail
  go_loopw [4] (fun v wr => ∃ (k : Nat) (mk : Mc), v = .int .i64 (k : Int) ∧ k ≤ F ∧ VM N es wr g gm gp n cap sp nk ck mk ∧ Chg (C3 g gm gp) w wr ∧ Arr wr w.heap.size 192 #[.pointer (some ⟨g, 0, none⟩)] ∧ Hid (rn es F m = ((rn es (F - k) mk).1, (rn es (F - k) mk).2 + k)))
    (fun v _ => F - (intOf v).toNat)
  case atStart => exact ⟨0, m, rfl, by omega, hV1, Chg.of_below (alloc_bel' _ _), Arr.new _ _ _, Hid.mk' (by simp)⟩
  case round =>
    clear hV1
    obtain ⟨k, mk, rfl, hk, hVr, hcg, hA, hrn⟩ := hrel
    have qc : wr.cell? ⟨w.heap.size, 0, none⟩ = some (.pointer (some ⟨g, 0, none⟩)) := hA.cell 0
    have c17 := hVr.en.c17
    by_cases hlt : k < F
    · have hI : (k : Int) < F := by omega
      by_cases hst : mk.st = 0
      · have hst' : (mk.st == 0) = true := by simpa using hst
        have hnx := Hid.mk' (rn_next hlt hst hrn.out)
        replace hst := Hid.mk' hst
        go_wp2_with (go_at_call 110; go_must (refine (step_any wr hVr).mono ?_; rintro e w1 ⟨hc1, hs1, ⟨m', hm', rfl, hV1⟩ | ⟨hm', rfl, hV1⟩⟩))
        · have A1 := hVr.oth hA (by decide) (by decide) hc1
          have ht : tick es mk = m' := by unfold tick; rw [hm']; rfl
          rw [ht] at hnx
          clear hm' ht
          go_roundw
          case rel => exact ⟨k + 1, m', by go_num, by omega, hV1, hcg.trans hc1, A1, hnx⟩
          case measure => simp [intOf]; omega
        · have A1 := hVr.oth hA (by decide) (by decide) hc1
          have ht : tick es mk = { mk with st := 2 } := by unfold tick; rw [hm']; rfl
          have hfin : rn es F m = ({ mk with st := 2 }, k + 1) := by
            rw [hnx.out, ht, rn_stop (by simp)]
            simp
          refine leaves_cons (f := 109) (args := #[.pointer (some ⟨w.heap.size, 0, none⟩)]) (by simp) (by simp [go_sem]) ?_
          refine (catch_trap w.heap.size g w1 A1 ⟨_, hV1.en.c17⟩ (hV1.en.fz 17) hV1.en.lt).mono ?_
          rintro e u' w'' ⟨rfl, rfl, rfl⟩
          refine ⟨.int .i64 ((k : Int) + 1), by simp [results, Tryz.results83, go_sem], ?_⟩
          unfold RuPost
          rw [hfin]
          have hV2 := hV1.setSt (x := 2) (by omega)
          exact ⟨by simp, ((hcg.trans hc1).sg _ _).alloc _, hV2.bel (alloc_bel' _ _)⟩
      · have hst' : (mk.st == 0) = false := by simpa using hst
        have hfin : Hid (rn es F m = (mk, k)) := Hid.mk' (by rw [hrn.out, rn_stop hst]; simp)
        replace hst := Hid.mk' hst
        go_wp2_with fail
        refine leaves_cons (f := 109) (args := #[.pointer (some ⟨w.heap.size, 0, none⟩)]) (by simp) (by simp [go_sem]) ?_
        refine (catch_idle ⟨w.heap.size, 0, none⟩ _).mono ?_
        rintro e u' w'' ⟨rfl, rfl, rfl⟩
        refine ⟨.int .i64 (k : Int), by simp [results, Tryz.results83, go_sem], ?_⟩
        unfold RuPost
        rw [hfin.out]
        exact ⟨rfl, hcg, hVr⟩
    · obtain rfl : k = F := by omega
      have hI : ¬ (k : Int) < k := by omega
      have hfin : Hid (rn es k m = (mk, k)) := Hid.mk' (by rw [hrn.out]; simp [rn])
      go_wp2_with fail
      refine leaves_cons (f := 109) (args := #[.pointer (some ⟨w.heap.size, 0, none⟩)]) (by simp) (by simp [go_sem]) ?_
      refine (catch_idle ⟨w.heap.size, 0, none⟩ _).mono ?_
      rintro e u' w'' ⟨rfl, rfl, rfl⟩
      refine ⟨.int .i64 (k : Int), by simp [results, Tryz.results83, go_sem], ?_⟩
      unfold RuPost
      rw [hfin.out]
      exact ⟨rfl, hcg, hVr⟩
end
end Go.Proofs.YtneihkegipcakaaGreat
/- Layer trace: what the layers below give. -/
namespace Go.Proofs.YtneihkegipcakaaGreat
open Go.RowKit
set_option maxRecDepth 100000
set_option linter.unusedVariables false
set_option linter.unusedSimpArgs false

set_option maxHeartbeats 400000 in
theorem may_any (m : Mc) (sp : Option Addr) (n cap : Nat) (w : World) (hok : m.ok) (hl : Hid (n = m.me.length)) (hn : n ≤ 17592186044416) :
    Calls Tryz.prog 26 #[.agg (mcA m sp n cap)] w fun e w' => e = .returned (.bool (mayM m)) ∧ Below w.heap.size w w' := by
  have A0 := Arr.new w 27 (mcA m sp n cap)
  have c17 := (A0.cell 17).trans (mcA_17 hok.r16 sp n cap)
  have c18 := (A0.cell 18).trans (mcA_18 hok.r16 sp n cap)
  have hz : szI (n : Int) = szB m.me.length := by rw [szI_nat, hl.out]
  have hz := Hid.mk' hz
  unfold mayM
  generalize szB m.me.length = b at *
  generalize mcA m sp n cap = C at *
  cases b
  · go_enter Tryz.func26, Tryz.ntmps26
    go_wp2_with (go_at_call 48; go_must (refine (maySize_any _ _ (by omega)).mono ?_; rintro e w1 ⟨rfl, h⟩; subst h; rw [hz.out]))
    go_ret
    exact ⟨rfl, alloc_bel' _ _⟩
  · go_enter Tryz.func26, Tryz.ntmps26
    go_wp2_with (go_at_call 48; go_must (refine (maySize_any _ _ (by omega)).mono ?_; rintro e w1 ⟨rfl, h⟩; subst h; rw [hz.out]))
    go_ret
    exact ⟨rfl, alloc_bel' _ _⟩
end Go.Proofs.YtneihkegipcakaaGreat
/- Layer trace: what the layers below give. -/
namespace Go.Proofs.YtneihkegipcakaaGreat
open Go.RowKit
set_option maxRecDepth 100000
set_option linter.unusedVariables false
set_option linter.unusedSimpArgs false

set_option maxHeartbeats 400000 in
theorem newShelf_any (v : Value) (sp : Option Addr) (n cap : Nat) (hv : v = .slice sp n cap) (w : World) :
    Calls Tryz.prog 82 #[v] w fun e w' => ∃ gp, e = .returned (.agg #[.slice sp n cap, .map (some gp)]) ∧ w.heap.size ≤ gp ∧ MapH w' gp (fun _ => none) ∧ Below w.heap.size w w' := by
  subst hv
  have hmm := @run_makeMap Tryz.prog
  go_enter Tryz.func82, Tryz.ntmps82
  go_wp2
  exact bodyPost_ret (v := .agg #[.slice sp n cap, .map (some (w.heap.size + 1))]) (results_cell_row Tryz.results82 _ _ w.heap.size 154 _ (0, 0) _ rfl ((Arr.new w 154 _).alloc _) Tryz.underlying154 rfl (by kernel_rfl)) rfl ⟨_, rfl, by omega, by simpa using MapH.new (w.alloc (.cells #[.slice sp n cap, .map (some (w.heap.size + 1))] 154)), (alloc_bel' _ _).alloc (by simp) _⟩
end Go.Proofs.YtneihkegipcakaaGreat

/- Layer trace: what the layers below give. -/
import Derived.Test.YtneihkegipcakaaGreatX01
import Derived.Test.YtneihkegipcakaaGreatX02
import Derived.Test.YtneihkegipcakaaGreatX03
import Derived.Test.YtneihkegipcakaaGreatX04
import Derived.Test.YtneihkegipcakaaGreatX05
import Derived.Test.YtneihkegipcakaaGreatX06
import Derived.Test.YtneihkegipcakaaGreatX07
import Derived.Test.YtneihkegipcakaaGreatX08
import Derived.Test.YtneihkegipcakaaGreatX09
import Derived.Test.YtneihkegipcakaaGreatX10
import Derived.Test.YtneihkegipcakaaGreatX11
import Derived.Test.YtneihkegipcakaaGreatX12
import Derived.BigQuiet
import Derived.BigRegion
import Derived.ChangeKeysEq
import Derived.Deep.DeepCutAuto
import Derived.Deep.DrawnRows
import Derived.Deep.MidRow
import Derived.Deep.QuietTactic
import Derived.Deep.RegionHeld3
import Derived.Deep.RegionLaw
import Derived.Deep.RegionWith
import Derived.Deep.WholeRow
import Derived.DeepKeys3
import Derived.Great.BuildSlice
import Derived.Laws.AppendOwnNone
import Derived.Laws.BitsLemmas
import Derived.Laws.BytesArg
import Derived.Laws.CopyOwn
import Derived.Laws.ResultCell
import Derived.Laws.Tables
import Derived.Lib.SlBytesConst
import Derived.LoopIn
import Derived.LoopNIn
import Derived.Maps.AppendAt
import Derived.OwnWalkIn
import Derived.RangeFuncBound
import Derived.RangeFuncCalls
import Derived.RangeFuncLeaves
import Derived.RangeFuncNested
import Derived.RangeFuncRecord
import Derived.Shelf.Abstract
import Derived.Shelf.RegionOpen
import Derived.TacticsInMore
import Derived.WalkKit
import Derived.WalkLawsBesides
import Derived.WalkSpells
namespace Go.Proofs.YtneihkegipcakaaGreat
open Go.RowKit
set_option maxRecDepth 100000
set_option linter.unusedVariables false
set_option linter.unusedSimpArgs false

theorem keepS {N : Nat} {es : List En} {w w' : World} {g gm gp n cap G : Nat} {sp : Option Addr} {nk ck : Nat} {m' : Mc} {c : Int} (h : w.cell? ⟨G, 3, none⟩ = some (.int .u8 c)) (hG : G ≠ gp) (hb : ∀ b, b < w.heap.size → b ≠ gp → w'.heap[b]? = w.heap[b]?) (hV : VM N es w' g gm gp n cap sp nk ck m') :
    w'.cell? ⟨G, 3, none⟩ = some (.int .u8 c) ∧ w'.cell? ⟨g, 19, none⟩ = some (.slice sp nk ck) ∧ w'.cell? ⟨g, 20, none⟩ = some (.map (some gp)) :=
  ⟨(World.cell?_of_block (w := w) (a := ⟨G, 3, none⟩) (hb G (World.block_lt_of_cell? w _ h) hG)).trans h, hV.en.cx 0, hV.en.cx 1⟩
set_option maxHeartbeats 2000000 in
theorem step_24 {N : Nat} {es : List En} {g gm gp n cap pN : Nat} {sp : Option Addr} {nk ck : Nat} {m : Mc} {x i : Int} {a b c : Nat} (w : World) (hV : VM N es w g gm gp n cap sp nk ck m) (hp : m.pc = (pN : Int)) (hpn : pN < n) (hx : m.me.getD pN 0 = x) (hd : dOk x = true) (ho : dOp x = 24) (ha : dA x = (a : Nat)) (hb : dB x = (b : Nat)) (hc : dC x = (c : Nat)) (hi : dI x = i) :
    Calls Tryz.prog 110 #[.pointer (some ⟨g, 0, none⟩)] w (StPost N es g gm gp n cap sp nk ck m (ex es m 24 a b c i) w) := by
  have hE := hV.en
  have hok := hE.ok
  have hU : U64 x := by rw [← hx]; exact hok.me _
  have hR := dRg hU
  rw [ha, hb, hc, hi] at hR
  obtain ⟨-, ha2, hb2, hc2, hi2⟩ := hR
  have haI : (a : Int) < 16 := ha2.2
  have hbI : (b : Int) < 16 := hb2.2
  have hcI : (c : Int) < 16 := hc2.2
  have ha16 : a < 16 := by omega
  have hb16 : b < 16 := by omega
  have hc16 : c < 16 := by omega
  have hi0 : 0 ≤ i := hi2.1
  have hi1 : i < 4294967296 := hi2.2
  have hUi : U64 i := by unfold U64; omega
  have hwi : IntKind.u64.wrap i = i := wrap_u64 hUi
  have hUa : U64 (m.get a) := hok.rg a
  have hUb : U64 (m.get b) := hok.rg b
  have hUc : U64 (m.get c) := hok.rg c
  have hv := dV_yes hd
  rw [ho, ha, hb, hc, hi] at hv
  have c0 := hE.c0
  have c18 := hE.c18
  have hn := hE.small
  have cx := hE.cm hpn
  rw [hx] at cx
  have hlen := hE.len
  replace hv := Hid.mk' hv
  replace hd := Hid.mk' hd
  replace hp := Hid.mk' hp
  clear ho ha hb hc hi ha2 hb2 hc2 hi2 hx hE
  go_enter Tryz.func110, Tryz.ntmps110
  go_upto_region 3 with (first
    | (go_at_call 132; go_must (refine (word_ok w c18 hn hp.out hpn).mono ?_; rintro e w1 ⟨rfl, h⟩; replace h := h.symm; subst h))
    | (go_at_call 119; go_must (refine (decode_any w hU).mono ?_; rintro e w2 ⟨rfl, hb2⟩; rw [hv.out, hd.out]; have A0 := Arr.new w2 75 (cdA 24 a b c i); have hB0 := hb2.alloc hb2.size (.cells (cdA 24 a b c i) 75); have hV2 := hV.bel hB0; have rb0 := hV2.en.cr hb16; have q1 : (w2.alloc (.cells (cdA 24 a b c i) 75)).cell? ⟨w2.heap.size, 1, none⟩ = some (.int .u8 (a : Int)) := A0.cell 1; have q2 : (w2.alloc (.cells (cdA 24 a b c i) 75)).cell? ⟨w2.heap.size, 2, none⟩ = some (.int .u8 (b : Int)) := A0.cell 2; have q4 : (w2.alloc (.cells (cdA 24 a b c i) 75)).cell? ⟨w2.heap.size, 4, none⟩ = some (.int .u32 i) := A0.cell 4; change _ = some (Value.int IntKind.u64 (m.get b)) at rb0; generalize hcd : cdA 24 a b c i = CD at A0 hB0 hV2 rb0 q1 q2 q4 ⊢))
    | (refine wpList_store_new w2 _ 75 (by rfl) 75 (.tmp 2) (.tmp 18) (by rfl) CD (by rfl) (by rfl) (by rw [← hcd]; exact size25) (by rw [← hcd]; rfl) (by rw [← hcd]; exact one25 _ _ _ _ _) ?_))
  refine wp_region_held_drew (S := fun u => u = (w2.alloc (.cells CD 75)).drew) (by kernel_rfl) (rfl) (fun hHeld => ?_)
  refine wpAnyH_take (i := 0) (oi := ⟨_, _, _, _, _, _⟩) (v := ?_) rfl (by kernel_rfl) (by kernel_rfl) (by kernel_rfl) (fun _ _ _ h => h) (Or.inl ⟨by rfl, ?_⟩) (by assumption) ?_
  rotate_left
  · intro u hSw
    go_simp
    try (with_reducible rfl)
  try simp only [Act.put, List.setIfInBounds_toArray, List.set_cons_zero, List.set_cons_succ]
  refine wpAnyH_take (i := 1) (oi := ⟨_, _, _, _, _, _⟩) (v := ?_) rfl (by kernel_rfl) (by kernel_rfl) (by kernel_rfl) (fun _ _ _ h => h) (Or.inl ⟨by rfl, ?_⟩) (by assumption) ?_
  rotate_left
  · intro u hSw
    go_simp
    try (with_reducible rfl)
  try simp only [Act.put, List.setIfInBounds_toArray, List.set_cons_zero, List.set_cons_succ]
  refine wpAnyH_take (i := 2) (oi := ⟨_, _, _, _, _, _⟩) (v := ?_) rfl (by kernel_rfl) (by kernel_rfl) (by kernel_rfl) (fun _ _ _ h => h) (Or.inl ⟨by rfl, ?_⟩) (by assumption) ?_
  rotate_left
  · intro u hSw
    subst hSw
    go_simp
    try (with_reducible rfl)
  try simp only [Act.put, List.setIfInBounds_toArray, List.set_cons_zero, List.set_cons_succ]
  refine wpAnyH_take (i := 3) (oi := ⟨_, _, _, _, _, _⟩) (v := ?_) rfl (by kernel_rfl) (by kernel_rfl) (by kernel_rfl) (fun _ _ _ h => h) (Or.inl ⟨by rfl, ?_⟩) (by assumption) ?_
  rotate_left
  · intro u hSw
    go_simp
    try (with_reducible rfl)
  try simp only [Act.put, List.setIfInBounds_toArray, List.set_cons_zero, List.set_cons_succ]
  refine wpAnyH_take (i := 4) (oi := ⟨_, _, _, _, _, _⟩) (v := ?_) rfl (by kernel_rfl) (by kernel_rfl) (by kernel_rfl) (fun _ _ _ h => h) (Or.inl ⟨by rfl, ?_⟩) (by assumption) ?_
  rotate_left
  · intro u hSw
    go_simp
    try (with_reducible rfl)
  try simp only [Act.put, List.setIfInBounds_toArray, List.set_cons_zero, List.set_cons_succ]
  refine wpAnyH_take (i := 5) (oi := ⟨_, _, _, _, _, _⟩) (v := ?_) rfl (by kernel_rfl) (by kernel_rfl) (by kernel_rfl) (fun _ _ _ h => h) (Or.inl ⟨by rfl, ?_⟩) (by assumption) ?_
  rotate_left
  · intro u hSw
    go_simp
    try (with_reducible rfl)
  try simp only [Act.put, List.setIfInBounds_toArray, List.set_cons_zero, List.set_cons_succ]
  refine wpAnyH_take (i := 6) (oi := ⟨_, _, _, _, _, _⟩) (v := ?_) rfl (by kernel_rfl) (by kernel_rfl) (by kernel_rfl) (fun _ _ _ h => h) (Or.inl ⟨by rfl, ?_⟩) (by assumption) ?_
  rotate_left
  · intro u hSw
    go_simp
    try (with_reducible rfl)
  try simp only [Act.put, List.setIfInBounds_toArray, List.set_cons_zero, List.set_cons_succ]
  refine wpAnyH_take (i := 7) (oi := ⟨_, _, _, _, _, _⟩) (v := ?_) rfl (by kernel_rfl) (by kernel_rfl) (by kernel_rfl) (fun _ _ _ h => h) (Or.inl ⟨by rfl, ?_⟩) (by assumption) ?_
  rotate_left
  · intro u hSw
    go_simp
    try (with_reducible rfl)
  try simp only [Act.put, List.setIfInBounds_toArray, List.set_cons_zero, List.set_cons_succ]
  refine wpAnyH_take (i := 8) (oi := ⟨_, _, _, _, _, _⟩) (v := ?_) rfl (by kernel_rfl) (by kernel_rfl) (by kernel_rfl) (fun _ _ _ h => h) (Or.inl ⟨by rfl, ?_⟩) (by assumption) ?_
  rotate_left
  · intro u hSw
    go_simp
    try (with_reducible rfl)
  try simp only [Act.put, List.setIfInBounds_toArray, List.set_cons_zero, List.set_cons_succ]
  refine wpAnyH_take (i := 9) (oi := ⟨_, _, _, _, _, _⟩) (v := ?_) rfl (by kernel_rfl) (by kernel_rfl) (by kernel_rfl) (fun _ _ _ h => h) (Or.inl ⟨by rfl, ?_⟩) (by assumption) ?_
  rotate_left
  · intro u hSw
    subst hSw
    go_simp
    try (with_reducible rfl)
  try simp only [Act.put, List.setIfInBounds_toArray, List.set_cons_zero, List.set_cons_succ]
  refine wpAnyH_take (i := 10) (oi := ⟨_, _, _, _, _, _⟩) (v := ?_) rfl (by kernel_rfl) (by kernel_rfl) (by kernel_rfl) (fun _ _ _ h => h) (Or.inl ⟨by rfl, ?_⟩) (by assumption) ?_
  rotate_left
  · intro u hSw
    go_simp
    try (with_reducible rfl)
  try simp only [Act.put, List.setIfInBounds_toArray, List.set_cons_zero, List.set_cons_succ]
  refine wpAnyH_take (i := 11) (oi := ⟨_, _, _, _, _, _⟩) (v := ?_) rfl (by kernel_rfl) (by kernel_rfl) (by kernel_rfl) (fun _ _ _ h => h) (Or.inl ⟨by rfl, ?_⟩) (by assumption) ?_
  rotate_left
  · intro u hSw
    go_simp
    try (with_reducible rfl)
  try simp only [Act.put, List.setIfInBounds_toArray, List.set_cons_zero, List.set_cons_succ]
  refine wpAnyH_take (i := 12) (oi := ⟨_, _, _, _, _, _⟩) (v := ?_) rfl (by kernel_rfl) (by kernel_rfl) (by kernel_rfl) (fun _ _ _ h => h) (Or.inl ⟨by rfl, ?_⟩) (by assumption) ?_
  rotate_left
  · intro u hSw
    go_simp
    try (with_reducible rfl)
  try simp only [Act.put, List.setIfInBounds_toArray, List.set_cons_zero, List.set_cons_succ]
  refine wpAnyH_take (i := 13) (oi := ⟨_, _, _, _, _, _⟩) (v := ?_) rfl (by kernel_rfl) (by kernel_rfl) (by kernel_rfl) (fun _ _ _ h => h) (Or.inl ⟨by rfl, ?_⟩) (by assumption) ?_
  rotate_left
  · intro u hSw
    go_simp
    try (with_reducible rfl)
  try simp only [Act.put, List.setIfInBounds_toArray, List.set_cons_zero, List.set_cons_succ]
  refine wpAnyH_take (i := 14) (oi := ⟨_, _, _, _, _, _⟩) (v := ?_) rfl (by kernel_rfl) (by kernel_rfl) (by kernel_rfl) (fun _ _ _ h => h) (Or.inl ⟨by rfl, ?_⟩) (by assumption) ?_
  rotate_left
  · intro u hSw
    subst hSw
    go_simp
    try (with_reducible rfl)
  try simp only [Act.put, List.setIfInBounds_toArray, List.set_cons_zero, List.set_cons_succ]
  refine wpAnyH_take (i := 15) (oi := ⟨_, _, _, _, _, _⟩) (v := ?_) rfl (by kernel_rfl) (by kernel_rfl) (by kernel_rfl) (fun _ _ _ h => h) (Or.inl ⟨by rfl, ?_⟩) (by assumption) ?_
  rotate_left
  · intro u hSw
    go_simp
    try (with_reducible rfl)
  try simp only [Act.put, List.setIfInBounds_toArray, List.set_cons_zero, List.set_cons_succ]
  refine wpAnyH_take (i := 16) (oi := ⟨_, _, _, _, _, _⟩) (v := ?_) rfl (by kernel_rfl) (by kernel_rfl) (by kernel_rfl) (fun _ _ _ h => h) (Or.inl ⟨by rfl, ?_⟩) (by assumption) ?_
  rotate_left
  · intro u hSw
    subst hSw
    go_simp
    try (with_reducible rfl)
  try simp only [Act.put, List.setIfInBounds_toArray, List.set_cons_zero, List.set_cons_succ]
  refine wpAnyH_take (i := 17) (oi := ⟨_, _, _, _, _, _⟩) (v := ?_) rfl (by kernel_rfl) (by kernel_rfl) (by kernel_rfl) (fun _ _ _ h => h) (Or.inl ⟨by rfl, ?_⟩) (by assumption) ?_
  rotate_left
  · intro u hSw
    go_simp
    try (with_reducible rfl)
  try simp only [Act.put, List.setIfInBounds_toArray, List.set_cons_zero, List.set_cons_succ]
  refine wpAnyH_take (i := 18) (oi := ⟨_, _, _, _, _, _⟩) (v := ?_) rfl (by kernel_rfl) (by kernel_rfl) (by kernel_rfl) (fun _ _ _ h => h) (Or.inl ⟨by rfl, ?_⟩) (by assumption) ?_
  rotate_left
  · intro u hSw
    go_simp
    try (with_reducible rfl)
  try simp only [Act.put, List.setIfInBounds_toArray, List.set_cons_zero, List.set_cons_succ]
  refine wpAnyH_take (i := 19) (oi := ⟨_, _, _, _, _, _⟩) (v := ?_) rfl (by kernel_rfl) (by kernel_rfl) (by kernel_rfl) (fun _ _ _ h => h) (Or.inl ⟨by rfl, ?_⟩) (by assumption) ?_
  rotate_left
  · intro u hSw
    go_simp
    try (with_reducible rfl)
  try simp only [Act.put, List.setIfInBounds_toArray, List.set_cons_zero, List.set_cons_succ]
  refine wpAnyH_take (i := 20) (oi := ⟨_, _, _, _, _, _⟩) (v := ?_) rfl (by kernel_rfl) (by kernel_rfl) (by kernel_rfl) (fun _ _ _ h => h) (Or.inl ⟨by rfl, ?_⟩) (by assumption) ?_
  rotate_left
  · intro u hSw
    go_simp
    try (with_reducible rfl)
  try simp only [Act.put, List.setIfInBounds_toArray, List.set_cons_zero, List.set_cons_succ]
  refine wpAnyH_done (by kernel_rfl) ?_ _
  go_upto_region 4 with fail
  obtain ⟨W, hW⟩ : ∃ W : World, W = (w2.alloc (.cells CD 75)).drew := ⟨_, rfl⟩
  obtain ⟨G, hG⟩ : ∃ G : Nat, G = w2.heap.size := ⟨_, rfl⟩
  have AW : Arr W G 75 CD := by rw [hW, hG]; exact A0
  have hBW : Below w.heap.size w W := by rw [hW]; exact hB0.drew
  have hVW : VM N es W g gm gp n cap sp nk ck m := by rw [hW]; exact hV2.bel ((Below.refl _ _).drew)
  rw [← hW, ← hG]
  clear hW hG A0 hB0 hV2 rb0 q1 q2 q4 hb2 cx c0 c18 hv hd hp
  have hEW := hVW.en
  have c0 := hEW.c0
  have c17 := hEW.c17
  have c18 := hEW.c18
  have x0 : W.cell? ⟨g, 19, none⟩ = some (.slice sp nk ck) := hEW.cx 0
  have x1 : W.cell? ⟨g, 20, none⟩ = some (.map (some gp)) := hEW.cx 1
  have ra := hEW.cr ha16
  have rb := hEW.cr hb16
  have rc := hEW.cr hc16
  change _ = some (Value.int IntKind.u64 (m.get a)) at ra
  change _ = some (Value.int IntKind.u64 (m.get b)) at rb
  change _ = some (Value.int IntKind.u64 (m.get c)) at rc
  have fz := hEW.fz
  have fm := hEW.fm
  have hne := hEW.ne
  have hGg : g ≠ G := fun e => by rw [e] at hEW; have h1 := hEW.eng; rw [Arr, AW] at h1; cases h1
  subst hcd
  have k0 : W.cell? ⟨G, 0, none⟩ = some (.int .u8 24) := AW.cell 0
  have k1 : W.cell? ⟨G, 1, none⟩ = some (.int .u8 (a : Int)) := AW.cell 1
  have k3 : W.cell? ⟨G, 3, none⟩ = some (.int .u8 (c : Int)) := AW.cell 3
  have c0' : ∀ v, (W.setCell ⟨g, 1 + a, none⟩ v).cell? ⟨g, 0, none⟩ = some (.int .u64 m.pc) := fun v => (cell_set_ne v (fun e => by injection e with _ e2 _; omega)).trans c0
  have f' : ∀ v j, (W.setCell ⟨g, 1 + a, none⟩ v).frozen? ⟨g, j, none⟩ = false := fun v j => (hEW.eng.set (1 + a) v).frozen j
  have hGp : G ≠ gp := fun e => by obtain ⟨f, hf, -⟩ := hVW.map; obtain ⟨Lm, ck', h1, -⟩ := hf; rw [← e] at h1; have h2 : W.heap[G]? = _ := AW; rw [h1] at h2; cases h2
  have hVD := hVW.bel ((Below.refl W.heap.size W).drew)
  obtain ⟨XX, hXX⟩ : ∃ XX, XX = fmL (m.wds (m.get b).toNat) := ⟨_, rfl⟩
  have hlX : XX.length = 32 := by rw [hXX]; exact fmL_len _
  replace hXX := Hid.mk' hXX
  by_cases hq : m.get b + 4 ≤ (n : Int)
  rotate_left
  · have hex : ex es m 24 a b c i = none := by simp [ex, prm]; intro h; exact absurd h (by rw [← hlen.out]; exact hq)
    replace hex := Hid.mk' hex
    go_upto_region 29 with fail
    refine wp_region_held_drew (S := fun u => u.cell? ⟨G, 3, none⟩ = some (.int .u8 (c : Int)) ∧ u.cell? ⟨g, 19, none⟩ = some (.slice sp nk ck) ∧ u.cell? ⟨g, 20, none⟩ = some (.map (some gp))) (by kernel_rfl) (⟨by exact k3, by exact x0, by exact x1⟩) (fun hHeld => ?_)
    refine wpAnyH_take (i := 0) (oi := ⟨_, _, _, _, _, _⟩) (v := ?_) rfl (by kernel_rfl) (by kernel_rfl) (by kernel_rfl) (fun _ _ _ h => h) (Or.inl ⟨by rfl, ?_⟩) (by assumption) ?_
    rotate_left
    · intro u hSw
      go_simp
      try (with_reducible rfl)
    try simp only [Act.put, List.setIfInBounds_toArray, List.set_cons_zero, List.set_cons_succ]
    refine wpAnyH_take (i := 1) (oi := ⟨_, _, _, _, _, _⟩) (v := ?_) rfl (by kernel_rfl) (by kernel_rfl) (by kernel_rfl) (fun _ _ _ h => h) (Or.inl ⟨by rfl, ?_⟩) (by assumption) ?_
    rotate_left
    · intro u hSw
      go_simp
      try (with_reducible rfl)
    try simp only [Act.put, List.setIfInBounds_toArray, List.set_cons_zero, List.set_cons_succ]
    refine wpAnyH_take (i := 2) (oi := ⟨_, _, _, _, _, _⟩) (v := ?_) rfl (by kernel_rfl) (by kernel_rfl) (by kernel_rfl) (fun _ _ _ h => h) (Or.inl ⟨by rfl, ?_⟩) (by assumption) ?_
    rotate_left
    · intro u hSw
      go_simp
      try (with_reducible rfl)
    try simp only [Act.put, List.setIfInBounds_toArray, List.set_cons_zero, List.set_cons_succ]
    refine wpAnyH_take (i := 3) (oi := ⟨_, _, _, _, _, _⟩) (v := ?_) rfl (by kernel_rfl) (by kernel_rfl) (by kernel_rfl) (fun _ _ _ h => h) (Or.inl ⟨by rfl, ?_⟩) (by assumption) ?_
    rotate_left
    · intro u hSw
      go_simp
      try (with_reducible rfl)
    try simp only [Act.put, List.setIfInBounds_toArray, List.set_cons_zero, List.set_cons_succ]
    refine wpAnyH_take (i := 4) (oi := ⟨_, _, _, _, _, _⟩) (v := ?_) rfl (by kernel_rfl) (by kernel_rfl) (by kernel_rfl) (fun _ _ _ h => h) (Or.inl ⟨by rfl, ?_⟩) (by assumption) ?_
    rotate_left
    · intro u hSw
      obtain ⟨s1, s2, s3⟩ := hSw
      go_simp
      try (with_reducible rfl)
    try simp only [Act.put, List.setIfInBounds_toArray, List.set_cons_zero, List.set_cons_succ]
    refine wpAnyH_take (i := 5) (oi := ⟨_, _, _, _, _, _⟩) (v := ?_) rfl (by kernel_rfl) (by kernel_rfl) (by kernel_rfl) (fun _ _ _ h => h) (Or.inl ⟨by rfl, ?_⟩) (by assumption) ?_
    rotate_left
    · intro u hSw
      go_simp
      try (with_reducible rfl)
    try simp only [Act.put, List.setIfInBounds_toArray, List.set_cons_zero, List.set_cons_succ]
    refine wpAnyH_take (i := 6) (oi := ⟨_, _, _, _, _, _⟩) (v := ?_) rfl (by kernel_rfl) (by kernel_rfl) (by kernel_rfl) (fun _ _ _ h => h) (Or.inl ⟨by rfl, ?_⟩) (by assumption) ?_
    rotate_left
    · intro u hSw
      go_simp
      try (with_reducible rfl)
    try simp only [Act.put, List.setIfInBounds_toArray, List.set_cons_zero, List.set_cons_succ]
    refine wpAnyH_take (i := 9) (oi := ⟨_, _, _, _, _, _⟩) (v := ?_) rfl (by kernel_rfl) (by kernel_rfl) (by kernel_rfl) (fun _ _ _ h => h) (Or.inl ⟨by rfl, ?_⟩) (by assumption) ?_
    rotate_left
    · intro u hSw
      go_simp
      try (with_reducible rfl)
    try simp only [Act.put, List.setIfInBounds_toArray, List.set_cons_zero, List.set_cons_succ]
    refine wpAnyH_take (i := 10) (oi := ⟨_, _, _, _, _, _⟩) (v := ?_) rfl (by kernel_rfl) (by kernel_rfl) (by kernel_rfl) (fun _ _ _ h => h) (Or.inl ⟨by rfl, ?_⟩) (by assumption) ?_
    rotate_left
    · intro u hSw
      go_simp
      try (with_reducible rfl)
    try simp only [Act.put, List.setIfInBounds_toArray, List.set_cons_zero, List.set_cons_succ]
    refine wpAnyH_take (i := 11) (oi := ⟨_, _, _, _, _, _⟩) (v := ?_) rfl (by kernel_rfl) (by kernel_rfl) (by kernel_rfl) (fun _ _ _ h => h) (Or.inl ⟨by rfl, ?_⟩) (by assumption) ?_
    rotate_left
    · intro u hSw
      obtain ⟨s1, s2, s3⟩ := hSw
      go_simp
      try (with_reducible rfl)
    try simp only [Act.put, List.setIfInBounds_toArray, List.set_cons_zero, List.set_cons_succ]
    refine wpAnyH_take (i := 12) (oi := ⟨_, _, _, _, _, _⟩) (v := ?_) rfl (by kernel_rfl) (by kernel_rfl) (by kernel_rfl) (fun _ _ _ h => h) (Or.inl ⟨by rfl, ?_⟩) (by assumption) ?_
    rotate_left
    · intro u hSw
      go_simp
      try (with_reducible rfl)
    try simp only [Act.put, List.setIfInBounds_toArray, List.set_cons_zero, List.set_cons_succ]
    refine wpAnyH_take (i := 13) (oi := ⟨_, _, _, _, _, _⟩) (v := ?_) rfl (by kernel_rfl) (by kernel_rfl) (by kernel_rfl) (fun _ _ _ h => h) (Or.inl ⟨by rfl, ?_⟩) (by assumption) ?_
    rotate_left
    · intro u hSw
      go_simp
      try (with_reducible rfl)
    try simp only [Act.put, List.setIfInBounds_toArray, List.set_cons_zero, List.set_cons_succ]
    refine wpAnyH_take (i := 14) (oi := ⟨_, _, _, _, _, _⟩) (v := ?_) rfl (by kernel_rfl) (by kernel_rfl) (by kernel_rfl) (fun _ _ _ h => h) (Or.inl ⟨by rfl, ?_⟩) (by assumption) ?_
    rotate_left
    · intro u hSw
      go_simp
      try (with_reducible rfl)
    try simp only [Act.put, List.setIfInBounds_toArray, List.set_cons_zero, List.set_cons_succ]
    refine wpAnyH_take (i := 15) (oi := ⟨_, _, _, _, _, _⟩) (v := ?_) rfl (by kernel_rfl) (by kernel_rfl) (by kernel_rfl) (fun _ _ _ h => h) (Or.inl ⟨by rfl, ?_⟩) (by assumption) ?_
    rotate_left
    · intro u hSw
      go_simp
      try (with_reducible rfl)
    try simp only [Act.put, List.setIfInBounds_toArray, List.set_cons_zero, List.set_cons_succ]
    refine wpAnyH_ready (rs := [7, 16]) (by kernel_rfl) (by simp) ?_
    refine AllReadyH.cons (o := ⟨_, _, _, _, _, _⟩) rfl (fun K hK => ?_) (AllReadyH.cons (o := ⟨_, _, _, _, _, _⟩) rfl (fun K hK => ?_) AllReadyH.nil)
    · go_simp
      refine (sumAt_no _ hVD.en hUb (by omega)).mono ?_
      rintro e u1 ⟨rfl, hu1⟩
      go_wp2_with fail
      exact ⟨rfl, stNo hV hex.out (hBW.drew.trans (hu1.mono hBW.size))⟩
    · have rcx := hVD.en.cr hc16
      go_simp
      go_wp2_with fail
      refine hK.out _ _ ⟨by exact k3, by exact x0, by exact x1⟩ (fun hHeld => ?_)
      clear hK K
      try simp only [Act.put, List.setIfInBounds_toArray, List.set_cons_zero, List.set_cons_succ]
      refine wpAnyH_ready (rs := [7]) (by kernel_rfl) (by simp) ?_
      refine AllReadyH.cons (o := ⟨_, _, _, _, _, _⟩) rfl (fun K hK => ?_) AllReadyH.nil
      go_simp
      refine (sumAt_no _ hVD.en hUb (by omega)).mono ?_
      rintro e u1 ⟨rfl, hu1⟩
      go_wp2_with fail
      exact ⟨rfl, stNo hV hex.out (hBW.drew.trans (hu1.mono hBW.size))⟩
  obtain ⟨kb, hkb⟩ : ∃ k : Nat, m.get b = k := ⟨(m.get b).toNat, by have := hUb.1; omega⟩
  have hkn : kb + 4 ≤ n := by omega
  have hXk : fmL (fun t => m.me.getD (kb + t) 0) = XX := by rw [hXX.out, hkb, Int.toNat_natCast]; rfl
  have hpr : prm es m (m.get b) = pre es XX := by unfold prm; rw [if_pos (by rw [← hlen.out]; exact hq), hXX.out]
  replace hkb := Hid.mk' hkb
  replace hXk := Hid.mk' hXk
  replace hpr := Hid.mk' hpr
  replace hq := Hid.mk' hq
  rcases hp : pre es XX with _ | e
  · have hex : ex es m 24 a b c i = none := by simp [ex, hpr.out, hp]
    replace hex := Hid.mk' hex
    replace hp := Hid.mk' hp
    go_upto_region 29 with fail
    refine wp_region_held_drew (S := fun u => u.cell? ⟨G, 3, none⟩ = some (.int .u8 (c : Int)) ∧ u.cell? ⟨g, 19, none⟩ = some (.slice sp nk ck) ∧ u.cell? ⟨g, 20, none⟩ = some (.map (some gp))) (by kernel_rfl) (⟨by exact k3, by exact x0, by exact x1⟩) (fun hHeld => ?_)
    refine wpAnyH_take (i := 0) (oi := ⟨_, _, _, _, _, _⟩) (v := ?_) rfl (by kernel_rfl) (by kernel_rfl) (by kernel_rfl) (fun _ _ _ h => h) (Or.inl ⟨by rfl, ?_⟩) (by assumption) ?_
    rotate_left
    · intro u hSw
      go_simp
      try (with_reducible rfl)
    try simp only [Act.put, List.setIfInBounds_toArray, List.set_cons_zero, List.set_cons_succ]
    refine wpAnyH_take (i := 1) (oi := ⟨_, _, _, _, _, _⟩) (v := ?_) rfl (by kernel_rfl) (by kernel_rfl) (by kernel_rfl) (fun _ _ _ h => h) (Or.inl ⟨by rfl, ?_⟩) (by assumption) ?_
    rotate_left
    · intro u hSw
      go_simp
      try (with_reducible rfl)
    try simp only [Act.put, List.setIfInBounds_toArray, List.set_cons_zero, List.set_cons_succ]
    refine wpAnyH_take (i := 2) (oi := ⟨_, _, _, _, _, _⟩) (v := ?_) rfl (by kernel_rfl) (by kernel_rfl) (by kernel_rfl) (fun _ _ _ h => h) (Or.inl ⟨by rfl, ?_⟩) (by assumption) ?_
    rotate_left
    · intro u hSw
      go_simp
      try (with_reducible rfl)
    try simp only [Act.put, List.setIfInBounds_toArray, List.set_cons_zero, List.set_cons_succ]
    refine wpAnyH_take (i := 3) (oi := ⟨_, _, _, _, _, _⟩) (v := ?_) rfl (by kernel_rfl) (by kernel_rfl) (by kernel_rfl) (fun _ _ _ h => h) (Or.inl ⟨by rfl, ?_⟩) (by assumption) ?_
    rotate_left
    · intro u hSw
      go_simp
      try (with_reducible rfl)
    try simp only [Act.put, List.setIfInBounds_toArray, List.set_cons_zero, List.set_cons_succ]
    refine wpAnyH_take (i := 4) (oi := ⟨_, _, _, _, _, _⟩) (v := ?_) rfl (by kernel_rfl) (by kernel_rfl) (by kernel_rfl) (fun _ _ _ h => h) (Or.inl ⟨by rfl, ?_⟩) (by assumption) ?_
    rotate_left
    · intro u hSw
      obtain ⟨s1, s2, s3⟩ := hSw
      go_simp
      try (with_reducible rfl)
    try simp only [Act.put, List.setIfInBounds_toArray, List.set_cons_zero, List.set_cons_succ]
    refine wpAnyH_take (i := 5) (oi := ⟨_, _, _, _, _, _⟩) (v := ?_) rfl (by kernel_rfl) (by kernel_rfl) (by kernel_rfl) (fun _ _ _ h => h) (Or.inl ⟨by rfl, ?_⟩) (by assumption) ?_
    rotate_left
    · intro u hSw
      go_simp
      try (with_reducible rfl)
    try simp only [Act.put, List.setIfInBounds_toArray, List.set_cons_zero, List.set_cons_succ]
    refine wpAnyH_take (i := 6) (oi := ⟨_, _, _, _, _, _⟩) (v := ?_) rfl (by kernel_rfl) (by kernel_rfl) (by kernel_rfl) (fun _ _ _ h => h) (Or.inl ⟨by rfl, ?_⟩) (by assumption) ?_
    rotate_left
    · intro u hSw
      go_simp
      try (with_reducible rfl)
    try simp only [Act.put, List.setIfInBounds_toArray, List.set_cons_zero, List.set_cons_succ]
    refine wpAnyH_take (i := 9) (oi := ⟨_, _, _, _, _, _⟩) (v := ?_) rfl (by kernel_rfl) (by kernel_rfl) (by kernel_rfl) (fun _ _ _ h => h) (Or.inl ⟨by rfl, ?_⟩) (by assumption) ?_
    rotate_left
    · intro u hSw
      go_simp
      try (with_reducible rfl)
    try simp only [Act.put, List.setIfInBounds_toArray, List.set_cons_zero, List.set_cons_succ]
    refine wpAnyH_take (i := 10) (oi := ⟨_, _, _, _, _, _⟩) (v := ?_) rfl (by kernel_rfl) (by kernel_rfl) (by kernel_rfl) (fun _ _ _ h => h) (Or.inl ⟨by rfl, ?_⟩) (by assumption) ?_
    rotate_left
    · intro u hSw
      go_simp
      try (with_reducible rfl)
    try simp only [Act.put, List.setIfInBounds_toArray, List.set_cons_zero, List.set_cons_succ]
    refine wpAnyH_take (i := 11) (oi := ⟨_, _, _, _, _, _⟩) (v := ?_) rfl (by kernel_rfl) (by kernel_rfl) (by kernel_rfl) (fun _ _ _ h => h) (Or.inl ⟨by rfl, ?_⟩) (by assumption) ?_
    rotate_left
    · intro u hSw
      obtain ⟨s1, s2, s3⟩ := hSw
      go_simp
      try (with_reducible rfl)
    try simp only [Act.put, List.setIfInBounds_toArray, List.set_cons_zero, List.set_cons_succ]
    refine wpAnyH_take (i := 12) (oi := ⟨_, _, _, _, _, _⟩) (v := ?_) rfl (by kernel_rfl) (by kernel_rfl) (by kernel_rfl) (fun _ _ _ h => h) (Or.inl ⟨by rfl, ?_⟩) (by assumption) ?_
    rotate_left
    · intro u hSw
      go_simp
      try (with_reducible rfl)
    try simp only [Act.put, List.setIfInBounds_toArray, List.set_cons_zero, List.set_cons_succ]
    refine wpAnyH_take (i := 13) (oi := ⟨_, _, _, _, _, _⟩) (v := ?_) rfl (by kernel_rfl) (by kernel_rfl) (by kernel_rfl) (fun _ _ _ h => h) (Or.inl ⟨by rfl, ?_⟩) (by assumption) ?_
    rotate_left
    · intro u hSw
      go_simp
      try (with_reducible rfl)
    try simp only [Act.put, List.setIfInBounds_toArray, List.set_cons_zero, List.set_cons_succ]
    refine wpAnyH_take (i := 14) (oi := ⟨_, _, _, _, _, _⟩) (v := ?_) rfl (by kernel_rfl) (by kernel_rfl) (by kernel_rfl) (fun _ _ _ h => h) (Or.inl ⟨by rfl, ?_⟩) (by assumption) ?_
    rotate_left
    · intro u hSw
      go_simp
      try (with_reducible rfl)
    try simp only [Act.put, List.setIfInBounds_toArray, List.set_cons_zero, List.set_cons_succ]
    refine wpAnyH_take (i := 15) (oi := ⟨_, _, _, _, _, _⟩) (v := ?_) rfl (by kernel_rfl) (by kernel_rfl) (by kernel_rfl) (fun _ _ _ h => h) (Or.inl ⟨by rfl, ?_⟩) (by assumption) ?_
    rotate_left
    · intro u hSw
      go_simp
      try (with_reducible rfl)
    try simp only [Act.put, List.setIfInBounds_toArray, List.set_cons_zero, List.set_cons_succ]
    refine wpAnyH_ready (rs := [7, 16]) (by kernel_rfl) (by simp) ?_
    refine AllReadyH.cons (o := ⟨_, _, _, _, _, _⟩) rfl (fun K hK => ?_) (AllReadyH.cons (o := ⟨_, _, _, _, _, _⟩) rfl (fun K hK => ?_) AllReadyH.nil)
    · go_simp
      refine (sumAt_ok _ hVD.en hkb.out hkn).mono ?_
      rintro e u1 ⟨rfl, hu1⟩
      rw [show fmL (fun t => m.me.getD (kb + t) 0) = XX from hXk.out]
      have hV1 := hVD.bel hu1
      have hS1 := keepS (G := G) (w := W.drew) (by exact k3) hGp (fun b hb _ => hu1.block b hb) hV1
      have hB1 : Below w.heap.size w u1 := hBW.drew.trans (hu1.mono hBW.size)
      go_wp2_with fail
      refine hK.out _ _ hS1 (fun hHeld => ?_)
      clear hK K
      try simp only [Act.put, List.setIfInBounds_toArray, List.set_cons_zero, List.set_cons_succ]
      refine wpAnyH_ready (rs := [8, 16]) (by kernel_rfl) (by simp) ?_
      refine AllReadyH.cons (o := ⟨_, _, _, _, _, _⟩) rfl (fun K hK => ?_) (AllReadyH.cons (o := ⟨_, _, _, _, _, _⟩) rfl (fun K hK => ?_) AllReadyH.nil)
      · go_simp
        refine (shelf_no hV1 hlX hp.out).mono ?_
        rintro e u2 ⟨rfl, hu2⟩
        go_wp2_with fail
        exact ⟨rfl, stNoS hV hex.out hB1 hu2⟩
      · have rcx := hV1.en.cr hc16
        go_simp
        go_wp2_with fail
        refine hK.out _ _ hS1 (fun hHeld => ?_)
        clear hK K
        try simp only [Act.put, List.setIfInBounds_toArray, List.set_cons_zero, List.set_cons_succ]
        refine wpAnyH_ready (rs := [8]) (by kernel_rfl) (by simp) ?_
        refine AllReadyH.cons (o := ⟨_, _, _, _, _, _⟩) rfl (fun K hK => ?_) AllReadyH.nil
        go_simp
        refine (shelf_no hV1 hlX hp.out).mono ?_
        rintro e u2 ⟨rfl, hu2⟩
        go_wp2_with fail
        exact ⟨rfl, stNoS hV hex.out hB1 hu2⟩
    · have rcx := hVD.en.cr hc16
      go_simp
      go_wp2_with fail
      refine hK.out _ _ ⟨by exact k3, by exact x0, by exact x1⟩ (fun hHeld => ?_)
      clear hK K
      try simp only [Act.put, List.setIfInBounds_toArray, List.set_cons_zero, List.set_cons_succ]
      refine wpAnyH_ready (rs := [7]) (by kernel_rfl) (by simp) ?_
      refine AllReadyH.cons (o := ⟨_, _, _, _, _, _⟩) rfl (fun K hK => ?_) AllReadyH.nil
      go_simp
      refine (sumAt_ok _ hVD.en hkb.out hkn).mono ?_
      rintro e u1 ⟨rfl, hu1⟩
      rw [show fmL (fun t => m.me.getD (kb + t) 0) = XX from hXk.out]
      have hV1 := hVD.bel hu1
      have hS1 := keepS (G := G) (w := W.drew) (by exact k3) hGp (fun b hb _ => hu1.block b hb) hV1
      have hB1 : Below w.heap.size w u1 := hBW.drew.trans (hu1.mono hBW.size)
      go_wp2_with fail
      refine hK.out _ _ hS1 (fun hHeld => ?_)
      clear hK K
      try simp only [Act.put, List.setIfInBounds_toArray, List.set_cons_zero, List.set_cons_succ]
      refine wpAnyH_ready (rs := [8]) (by kernel_rfl) (by simp) ?_
      refine AllReadyH.cons (o := ⟨_, _, _, _, _, _⟩) rfl (fun K hK => ?_) AllReadyH.nil
      go_simp
      refine (shelf_no hV1 hlX hp.out).mono ?_
      rintro e u2 ⟨rfl, hu2⟩
      go_wp2_with fail
      exact ⟨rfl, stNoS hV hex.out hB1 hu2⟩
  · have hex : ex es m 24 a b c i = some (m.put a (pcN e.bs (m.get c).toNat 8)) := by simp [ex, hpr.out, hp]
    replace hex := Hid.mk' hex
    replace hp := Hid.mk' hp
    go_upto_region 29 with fail
    refine wp_region_held_drew (S := fun u => u.cell? ⟨G, 3, none⟩ = some (.int .u8 (c : Int)) ∧ u.cell? ⟨g, 19, none⟩ = some (.slice sp nk ck) ∧ u.cell? ⟨g, 20, none⟩ = some (.map (some gp))) (by kernel_rfl) (⟨by exact k3, by exact x0, by exact x1⟩) (fun hHeld => ?_)
    refine wpAnyH_take (i := 0) (oi := ⟨_, _, _, _, _, _⟩) (v := ?_) rfl (by kernel_rfl) (by kernel_rfl) (by kernel_rfl) (fun _ _ _ h => h) (Or.inl ⟨by rfl, ?_⟩) (by assumption) ?_
    rotate_left
    · intro u hSw
      go_simp
      try (with_reducible rfl)
    try simp only [Act.put, List.setIfInBounds_toArray, List.set_cons_zero, List.set_cons_succ]
    refine wpAnyH_take (i := 1) (oi := ⟨_, _, _, _, _, _⟩) (v := ?_) rfl (by kernel_rfl) (by kernel_rfl) (by kernel_rfl) (fun _ _ _ h => h) (Or.inl ⟨by rfl, ?_⟩) (by assumption) ?_
    rotate_left
    · intro u hSw
      go_simp
      try (with_reducible rfl)
    try simp only [Act.put, List.setIfInBounds_toArray, List.set_cons_zero, List.set_cons_succ]
    refine wpAnyH_take (i := 2) (oi := ⟨_, _, _, _, _, _⟩) (v := ?_) rfl (by kernel_rfl) (by kernel_rfl) (by kernel_rfl) (fun _ _ _ h => h) (Or.inl ⟨by rfl, ?_⟩) (by assumption) ?_
    rotate_left
    · intro u hSw
      go_simp
      try (with_reducible rfl)
    try simp only [Act.put, List.setIfInBounds_toArray, List.set_cons_zero, List.set_cons_succ]
    refine wpAnyH_take (i := 3) (oi := ⟨_, _, _, _, _, _⟩) (v := ?_) rfl (by kernel_rfl) (by kernel_rfl) (by kernel_rfl) (fun _ _ _ h => h) (Or.inl ⟨by rfl, ?_⟩) (by assumption) ?_
    rotate_left
    · intro u hSw
      go_simp
      try (with_reducible rfl)
    try simp only [Act.put, List.setIfInBounds_toArray, List.set_cons_zero, List.set_cons_succ]
    refine wpAnyH_take (i := 4) (oi := ⟨_, _, _, _, _, _⟩) (v := ?_) rfl (by kernel_rfl) (by kernel_rfl) (by kernel_rfl) (fun _ _ _ h => h) (Or.inl ⟨by rfl, ?_⟩) (by assumption) ?_
    rotate_left
    · intro u hSw
      obtain ⟨s1, s2, s3⟩ := hSw
      go_simp
      try (with_reducible rfl)
    try simp only [Act.put, List.setIfInBounds_toArray, List.set_cons_zero, List.set_cons_succ]
    refine wpAnyH_take (i := 5) (oi := ⟨_, _, _, _, _, _⟩) (v := ?_) rfl (by kernel_rfl) (by kernel_rfl) (by kernel_rfl) (fun _ _ _ h => h) (Or.inl ⟨by rfl, ?_⟩) (by assumption) ?_
    rotate_left
    · intro u hSw
      go_simp
      try (with_reducible rfl)
    try simp only [Act.put, List.setIfInBounds_toArray, List.set_cons_zero, List.set_cons_succ]
    refine wpAnyH_take (i := 6) (oi := ⟨_, _, _, _, _, _⟩) (v := ?_) rfl (by kernel_rfl) (by kernel_rfl) (by kernel_rfl) (fun _ _ _ h => h) (Or.inl ⟨by rfl, ?_⟩) (by assumption) ?_
    rotate_left
    · intro u hSw
      go_simp
      try (with_reducible rfl)
    try simp only [Act.put, List.setIfInBounds_toArray, List.set_cons_zero, List.set_cons_succ]
    refine wpAnyH_take (i := 9) (oi := ⟨_, _, _, _, _, _⟩) (v := ?_) rfl (by kernel_rfl) (by kernel_rfl) (by kernel_rfl) (fun _ _ _ h => h) (Or.inl ⟨by rfl, ?_⟩) (by assumption) ?_
    rotate_left
    · intro u hSw
      go_simp
      try (with_reducible rfl)
    try simp only [Act.put, List.setIfInBounds_toArray, List.set_cons_zero, List.set_cons_succ]
    refine wpAnyH_take (i := 10) (oi := ⟨_, _, _, _, _, _⟩) (v := ?_) rfl (by kernel_rfl) (by kernel_rfl) (by kernel_rfl) (fun _ _ _ h => h) (Or.inl ⟨by rfl, ?_⟩) (by assumption) ?_
    rotate_left
    · intro u hSw
      go_simp
      try (with_reducible rfl)
    try simp only [Act.put, List.setIfInBounds_toArray, List.set_cons_zero, List.set_cons_succ]
    refine wpAnyH_take (i := 11) (oi := ⟨_, _, _, _, _, _⟩) (v := ?_) rfl (by kernel_rfl) (by kernel_rfl) (by kernel_rfl) (fun _ _ _ h => h) (Or.inl ⟨by rfl, ?_⟩) (by assumption) ?_
    rotate_left
    · intro u hSw
      obtain ⟨s1, s2, s3⟩ := hSw
      go_simp
      try (with_reducible rfl)
    try simp only [Act.put, List.setIfInBounds_toArray, List.set_cons_zero, List.set_cons_succ]
    refine wpAnyH_take (i := 12) (oi := ⟨_, _, _, _, _, _⟩) (v := ?_) rfl (by kernel_rfl) (by kernel_rfl) (by kernel_rfl) (fun _ _ _ h => h) (Or.inl ⟨by rfl, ?_⟩) (by assumption) ?_
    rotate_left
    · intro u hSw
      go_simp
      try (with_reducible rfl)
    try simp only [Act.put, List.setIfInBounds_toArray, List.set_cons_zero, List.set_cons_succ]
    refine wpAnyH_take (i := 13) (oi := ⟨_, _, _, _, _, _⟩) (v := ?_) rfl (by kernel_rfl) (by kernel_rfl) (by kernel_rfl) (fun _ _ _ h => h) (Or.inl ⟨by rfl, ?_⟩) (by assumption) ?_
    rotate_left
    · intro u hSw
      go_simp
      try (with_reducible rfl)
    try simp only [Act.put, List.setIfInBounds_toArray, List.set_cons_zero, List.set_cons_succ]
    refine wpAnyH_take (i := 14) (oi := ⟨_, _, _, _, _, _⟩) (v := ?_) rfl (by kernel_rfl) (by kernel_rfl) (by kernel_rfl) (fun _ _ _ h => h) (Or.inl ⟨by rfl, ?_⟩) (by assumption) ?_
    rotate_left
    · intro u hSw
      go_simp
      try (with_reducible rfl)
    try simp only [Act.put, List.setIfInBounds_toArray, List.set_cons_zero, List.set_cons_succ]
    refine wpAnyH_take (i := 15) (oi := ⟨_, _, _, _, _, _⟩) (v := ?_) rfl (by kernel_rfl) (by kernel_rfl) (by kernel_rfl) (fun _ _ _ h => h) (Or.inl ⟨by rfl, ?_⟩) (by assumption) ?_
    rotate_left
    · intro u hSw
      go_simp
      try (with_reducible rfl)
    try simp only [Act.put, List.setIfInBounds_toArray, List.set_cons_zero, List.set_cons_succ]
    refine wpAnyH_ready (rs := [7, 16]) (by kernel_rfl) (by simp) ?_
    refine AllReadyH.cons (o := ⟨_, _, _, _, _, _⟩) rfl (fun K hK => ?_) (AllReadyH.cons (o := ⟨_, _, _, _, _, _⟩) rfl (fun K hK => ?_) AllReadyH.nil)
    · go_simp
      refine (sumAt_ok _ hVD.en hkb.out hkn).mono ?_
      rintro e u1 ⟨rfl, hu1⟩
      rw [show fmL (fun t => m.me.getD (kb + t) 0) = XX from hXk.out]
      have hV1 := hVD.bel hu1
      have hS1 := keepS (G := G) (w := W.drew) (by exact k3) hGp (fun b hb _ => hu1.block b hb) hV1
      have hB1 : Below w.heap.size w u1 := hBW.drew.trans (hu1.mono hBW.size)
      go_wp2_with fail
      refine hK.out _ _ hS1 (fun hHeld => ?_)
      clear hK K
      try simp only [Act.put, List.setIfInBounds_toArray, List.set_cons_zero, List.set_cons_succ]
      refine wpAnyH_ready (rs := [8, 16]) (by kernel_rfl) (by simp) ?_
      refine AllReadyH.cons (o := ⟨_, _, _, _, _, _⟩) rfl (fun K hK => ?_) (AllReadyH.cons (o := ⟨_, _, _, _, _, _⟩) rfl (fun K hK => ?_) AllReadyH.nil)
      · go_simp
        refine (shelf_yes hV1 hlX hp.out).mono ?_
        rintro e' u2 ⟨rfl, hme, hu2⟩
        have hV2 := hu2.vm
        have hS2 := keepS (w := u1) hS1.1 hGp hu2.oth hV2
        have hB := (hV2.known.ok e hme).body
        go_wp2_with fail
        refine hK.out _ _ hS2 (fun hHeld => ?_)
        clear hK K
        try simp only [Act.put, List.setIfInBounds_toArray, List.set_cons_zero, List.set_cons_succ]
        refine wpAnyH_ready (rs := [16]) (by kernel_rfl) (by simp) ?_
        refine AllReadyH.cons (o := ⟨_, _, _, _, _, _⟩) rfl (fun K hK => ?_) AllReadyH.nil
        have rcx := hV2.en.cr hc16
        go_simp
        go_wp2_with fail
        refine hK.out _ _ hS2 (fun hHeld => ?_)
        clear hK K
        try simp only [Act.put, List.setIfInBounds_toArray, List.set_cons_zero, List.set_cons_succ]
        refine wpAnyH_ready (rs := [17]) (by kernel_rfl) (by simp) ?_
        refine AllReadyH.cons (o := ⟨_, _, _, _, _, _⟩) rfl (fun K hK => ?_) AllReadyH.nil
        go_simp
        refine (piece_any _ hB hUc).mono ?_
        rintro e3 u3 ⟨rfl, hu3⟩
        have hV3 := hV2.bel hu3
        have hS3 := keepS (w := u2) hS2.1 hGp (fun b hb _ => hu3.block b hb) hV3
        have hUz : U64 (pcN e.bs (m.get c).toNat 8) := pcN_u hB.bts _
        have c0d : ∀ v, (u3.setCell ⟨g, 1 + a, none⟩ v).cell? ⟨g, 0, none⟩ = some (.int .u64 m.pc) := fun v => (cell_set_ne v (fun e => by injection e with _ e2 _; omega)).trans hV3.en.c0
        have f0d : ∀ v j, (u3.setCell ⟨g, 1 + a, none⟩ v).frozen? ⟨g, j, none⟩ = false := fun v j => (hV3.en.eng.set (1 + a) v).frozen j
        have cad := hV3.en.cr ha16
        have fad := hV3.en.fz
        go_wp2_with fail
        refine hK.out _ _ hS3 (fun hHeld => ?_)
        clear hK K
        try simp only [Act.put, List.setIfInBounds_toArray, List.set_cons_zero, List.set_cons_succ]
        refine wpAnyH_take (i := 18) (oi := ⟨_, _, _, _, _, _⟩) (v := ?_) rfl (by kernel_rfl) (by kernel_rfl) (by kernel_rfl) (fun _ _ _ h => h) (Or.inl ⟨by rfl, ?_⟩) (by assumption) ?_
        rotate_left
        · intro u hSw
          go_simp
          try (with_reducible rfl)
        try simp only [Act.put, List.setIfInBounds_toArray, List.set_cons_zero, List.set_cons_succ]
        refine wpAnyH_ready (rs := [19]) (by kernel_rfl) (by simp) ?_
        refine AllReadyH.cons (o := ⟨_, _, _, _, _, _⟩) rfl (fun K hK => ?_) AllReadyH.nil
        go_simp
        go_wp2_with fail
        refine hK.out _ _ ⟨(cell_set_ne _ (fun e => by injection e with e1; exact hGg e1)).trans hS3.1, (cell_set_ne _ (fun e => by injection e with _ e2 _; omega)).trans hS3.2.1, (cell_set_ne _ (fun e => by injection e with _ e2 _; omega)).trans hS3.2.2⟩ (fun hHeld => ?_)
        clear hK K
        try simp only [Act.put, List.setIfInBounds_toArray, List.set_cons_zero, List.set_cons_succ]
        refine wpAnyH_done (by kernel_rfl) ?_ _
        go_wp2_with fail
        exact ⟨rfl, _, results_none Tryz.results110 _ _ _, stYes hB1 hV hex.out (((hu2.chg.trans (Chg.of_below hu3)).sg _ _).sg _ _) (by have := hu2.size; have := hu3.size; simp; omega) (hV3.put ha16 hUz)⟩
      · have rcx := hV1.en.cr hc16
        go_simp
        go_wp2_with fail
        refine hK.out _ _ hS1 (fun hHeld => ?_)
        clear hK K
        try simp only [Act.put, List.setIfInBounds_toArray, List.set_cons_zero, List.set_cons_succ]
        refine wpAnyH_ready (rs := [8]) (by kernel_rfl) (by simp) ?_
        refine AllReadyH.cons (o := ⟨_, _, _, _, _, _⟩) rfl (fun K hK => ?_) AllReadyH.nil
        go_simp
        refine (shelf_yes hV1 hlX hp.out).mono ?_
        rintro e' u2 ⟨rfl, hme, hu2⟩
        have hV2 := hu2.vm
        have hS2 := keepS (w := u1) hS1.1 hGp hu2.oth hV2
        have hB := (hV2.known.ok e hme).body
        go_wp2_with fail
        refine hK.out _ _ hS2 (fun hHeld => ?_)
        clear hK K
        try simp only [Act.put, List.setIfInBounds_toArray, List.set_cons_zero, List.set_cons_succ]
        refine wpAnyH_ready (rs := [17]) (by kernel_rfl) (by simp) ?_
        refine AllReadyH.cons (o := ⟨_, _, _, _, _, _⟩) rfl (fun K hK => ?_) AllReadyH.nil
        go_simp
        refine (piece_any _ hB hUc).mono ?_
        rintro e3 u3 ⟨rfl, hu3⟩
        have hV3 := hV2.bel hu3
        have hS3 := keepS (w := u2) hS2.1 hGp (fun b hb _ => hu3.block b hb) hV3
        have hUz : U64 (pcN e.bs (m.get c).toNat 8) := pcN_u hB.bts _
        have c0d : ∀ v, (u3.setCell ⟨g, 1 + a, none⟩ v).cell? ⟨g, 0, none⟩ = some (.int .u64 m.pc) := fun v => (cell_set_ne v (fun e => by injection e with _ e2 _; omega)).trans hV3.en.c0
        have f0d : ∀ v j, (u3.setCell ⟨g, 1 + a, none⟩ v).frozen? ⟨g, j, none⟩ = false := fun v j => (hV3.en.eng.set (1 + a) v).frozen j
        have cad := hV3.en.cr ha16
        have fad := hV3.en.fz
        go_wp2_with fail
        refine hK.out _ _ hS3 (fun hHeld => ?_)
        clear hK K
        try simp only [Act.put, List.setIfInBounds_toArray, List.set_cons_zero, List.set_cons_succ]
        refine wpAnyH_take (i := 18) (oi := ⟨_, _, _, _, _, _⟩) (v := ?_) rfl (by kernel_rfl) (by kernel_rfl) (by kernel_rfl) (fun _ _ _ h => h) (Or.inl ⟨by rfl, ?_⟩) (by assumption) ?_
        rotate_left
        · intro u hSw
          go_simp
          try (with_reducible rfl)
        try simp only [Act.put, List.setIfInBounds_toArray, List.set_cons_zero, List.set_cons_succ]
        refine wpAnyH_ready (rs := [19]) (by kernel_rfl) (by simp) ?_
        refine AllReadyH.cons (o := ⟨_, _, _, _, _, _⟩) rfl (fun K hK => ?_) AllReadyH.nil
        go_simp
        go_wp2_with fail
        refine hK.out _ _ ⟨(cell_set_ne _ (fun e => by injection e with e1; exact hGg e1)).trans hS3.1, (cell_set_ne _ (fun e => by injection e with _ e2 _; omega)).trans hS3.2.1, (cell_set_ne _ (fun e => by injection e with _ e2 _; omega)).trans hS3.2.2⟩ (fun hHeld => ?_)
        clear hK K
        try simp only [Act.put, List.setIfInBounds_toArray, List.set_cons_zero, List.set_cons_succ]
        refine wpAnyH_done (by kernel_rfl) ?_ _
        go_wp2_with fail
        exact ⟨rfl, _, results_none Tryz.results110 _ _ _, stYes hB1 hV hex.out (((hu2.chg.trans (Chg.of_below hu3)).sg _ _).sg _ _) (by have := hu2.size; have := hu3.size; simp; omega) (hV3.put ha16 hUz)⟩
    · have rcx := hVD.en.cr hc16
      go_simp
      go_wp2_with fail
      refine hK.out _ _ ⟨by exact k3, by exact x0, by exact x1⟩ (fun hHeld => ?_)
      clear hK K
      try simp only [Act.put, List.setIfInBounds_toArray, List.set_cons_zero, List.set_cons_succ]
      refine wpAnyH_ready (rs := [7]) (by kernel_rfl) (by simp) ?_
      refine AllReadyH.cons (o := ⟨_, _, _, _, _, _⟩) rfl (fun K hK => ?_) AllReadyH.nil
      go_simp
      refine (sumAt_ok _ hVD.en hkb.out hkn).mono ?_
      rintro e u1 ⟨rfl, hu1⟩
      rw [show fmL (fun t => m.me.getD (kb + t) 0) = XX from hXk.out]
      have hV1 := hVD.bel hu1
      have hS1 := keepS (G := G) (w := W.drew) (by exact k3) hGp (fun b hb _ => hu1.block b hb) hV1
      have hB1 : Below w.heap.size w u1 := hBW.drew.trans (hu1.mono hBW.size)
      go_wp2_with fail
      refine hK.out _ _ hS1 (fun hHeld => ?_)
      clear hK K
      try simp only [Act.put, List.setIfInBounds_toArray, List.set_cons_zero, List.set_cons_succ]
      refine wpAnyH_ready (rs := [8]) (by kernel_rfl) (by simp) ?_
      refine AllReadyH.cons (o := ⟨_, _, _, _, _, _⟩) rfl (fun K hK => ?_) AllReadyH.nil
      go_simp
      refine (shelf_yes hV1 hlX hp.out).mono ?_
      rintro e' u2 ⟨rfl, hme, hu2⟩
      have hV2 := hu2.vm
      have hS2 := keepS (w := u1) hS1.1 hGp hu2.oth hV2
      have hB := (hV2.known.ok e hme).body
      go_wp2_with fail
      refine hK.out _ _ hS2 (fun hHeld => ?_)
      clear hK K
      try simp only [Act.put, List.setIfInBounds_toArray, List.set_cons_zero, List.set_cons_succ]
      refine wpAnyH_ready (rs := [17]) (by kernel_rfl) (by simp) ?_
      refine AllReadyH.cons (o := ⟨_, _, _, _, _, _⟩) rfl (fun K hK => ?_) AllReadyH.nil
      go_simp
      refine (piece_any _ hB hUc).mono ?_
      rintro e3 u3 ⟨rfl, hu3⟩
      have hV3 := hV2.bel hu3
      have hS3 := keepS (w := u2) hS2.1 hGp (fun b hb _ => hu3.block b hb) hV3
      have hUz : U64 (pcN e.bs (m.get c).toNat 8) := pcN_u hB.bts _
      have c0d : ∀ v, (u3.setCell ⟨g, 1 + a, none⟩ v).cell? ⟨g, 0, none⟩ = some (.int .u64 m.pc) := fun v => (cell_set_ne v (fun e => by injection e with _ e2 _; omega)).trans hV3.en.c0
      have f0d : ∀ v j, (u3.setCell ⟨g, 1 + a, none⟩ v).frozen? ⟨g, j, none⟩ = false := fun v j => (hV3.en.eng.set (1 + a) v).frozen j
      have cad := hV3.en.cr ha16
      have fad := hV3.en.fz
      go_wp2_with fail
      refine hK.out _ _ hS3 (fun hHeld => ?_)
      clear hK K
      try simp only [Act.put, List.setIfInBounds_toArray, List.set_cons_zero, List.set_cons_succ]
      refine wpAnyH_take (i := 18) (oi := ⟨_, _, _, _, _, _⟩) (v := ?_) rfl (by kernel_rfl) (by kernel_rfl) (by kernel_rfl) (fun _ _ _ h => h) (Or.inl ⟨by rfl, ?_⟩) (by assumption) ?_
      rotate_left
      · intro u hSw
        go_simp
        try (with_reducible rfl)
      try simp only [Act.put, List.setIfInBounds_toArray, List.set_cons_zero, List.set_cons_succ]
      refine wpAnyH_ready (rs := [19]) (by kernel_rfl) (by simp) ?_
      refine AllReadyH.cons (o := ⟨_, _, _, _, _, _⟩) rfl (fun K hK => ?_) AllReadyH.nil
      go_simp
      go_wp2_with fail
      refine hK.out _ _ ⟨(cell_set_ne _ (fun e => by injection e with e1; exact hGg e1)).trans hS3.1, (cell_set_ne _ (fun e => by injection e with _ e2 _; omega)).trans hS3.2.1, (cell_set_ne _ (fun e => by injection e with _ e2 _; omega)).trans hS3.2.2⟩ (fun hHeld => ?_)
      clear hK K
      try simp only [Act.put, List.setIfInBounds_toArray, List.set_cons_zero, List.set_cons_succ]
      refine wpAnyH_done (by kernel_rfl) ?_ _
      go_wp2_with fail
      exact ⟨rfl, _, results_none Tryz.results110 _ _ _, stYes hB1 hV hex.out (((hu2.chg.trans (Chg.of_below hu3)).sg _ _).sg _ _) (by have := hu2.size; have := hu3.size; simp; omega) (hV3.put ha16 hUz)⟩
end Go.Proofs.YtneihkegipcakaaGreat

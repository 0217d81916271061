/- Uc, Mi, Mj, Mk, Ub. -/
import Derived.Test.YtneihkegipcakaaGreatX01
import Derived.Test.YtneihkegipcakaaGreatX02
import Derived.Test.YtneihkegipcakaaGreatX03
import Derived.BigQuiet
import Derived.BigRegion
import Derived.ChangeKeysEq
import Derived.Deep.DeepCutAuto
import Derived.Deep.DrawnRows
import Derived.Deep.MidRow
import Derived.Deep.QuietTactic
import Derived.Deep.RegionHeld3
import Derived.Deep.RegionLaw
import Derived.Deep.RegionWith
import Derived.Deep.WholeRow
import Derived.Laws.AppendOwnNone
import Derived.Laws.BytesArg
import Derived.Laws.CopyOwn
import Derived.Lib.SlBytesConst
import Derived.WalkKit
import Derived.WalkLawsBesides
import Derived.WalkSpells
import Derived.Laws.BitsLemmas
import Derived.LoopIn
import Derived.LoopNIn
import Derived.OwnWalkIn
import Derived.RangeFuncBound
import Derived.RangeFuncCalls
import Derived.RangeFuncLeaves
import Derived.RangeFuncNested
import Derived.RangeFuncRecord
import Derived.Shelf.Abstract
import Derived.Shelf.RegionOpen
import Derived.TacticsInMore
/- Layer trace: what the layers below give. -/
namespace Go.Proofs.YtneihkegipcakaaGreat
open Go.RowKit
set_option maxRecDepth 100000
set_option linter.unusedVariables false
set_option linter.unusedSimpArgs false
attribute [local go_sem ↓] Go.wp_at_zero Go.wp_at_succ

theorem St.get (s : St) {t : Nat} (h : t < 8) : s.cells[t]? = some (.int .u32 (s.at t)) := by
  match t, h with
  | 0, _ => rfl
  | 1, _ => rfl
  | 2, _ => rfl
  | 3, _ => rfl
  | 4, _ => rfl
  | 5, _ => rfl
  | 6, _ => rfl
  | 7, _ => rfl
theorem plus_at (s r : St) {t : Nat} (h : t < 8) : (s.plus r).at t = (s.at t + r.at t) % 4294967296 := by
  match t, h with
  | 0, _ => rfl
  | 1, _ => rfl
  | 2, _ => rfl
  | 3, _ => rfl
  | 4, _ => rfl
  | 5, _ => rfl
  | 6, _ => rfl
  | 7, _ => rfl
set_option maxRecDepth 100000 in
set_option maxHeartbeats 2000000 in
theorem refBlock_any (s : St) (b off cap : Nat) (B : Nat → Int) (w : World) (hB : Bytes w b off 64 B) :
    Calls Tryz.prog 103 #[.agg s.cells, .slice (some ⟨b, off, none⟩) 64 cap] w fun e w' => e = .returned (.agg (s.plus (rnd kOf (WW B) s 64)).cells) ∧ Below w.heap.size w w' := by
  have hb : b < w.heap.size := block_lt_of_cell (hB 0 (by omega))
  have hs8 := St.size s
  have hR0 : Arr ((w.alloc (.cells s.cells 186)).alloc (.cells (St.cells ⟨0, 0, 0, 0, 0, 0, 0, 0⟩) 186)) (w.heap.size + 1) 186 (St.cells ⟨0, 0, 0, 0, 0, 0, 0, 0⟩) := by simpa using Arr.new (w.alloc (.cells s.cells 186)) 186 _
  have hH0 : Arr ((w.alloc (.cells s.cells 186)).alloc (.cells (St.cells ⟨0, 0, 0, 0, 0, 0, 0, 0⟩) 186)) w.heap.size 186 s.cells := (Arr.new _ _ _).alloc _
  go_enter Tryz.func103, Tryz.ntmps103
  go_upto_region 3 with (first
    | (go_at_call 127; go_must (refine (kays_any _).mono ?_; rintro e w1 ⟨rfl, hb1⟩))
    | (refine wpList_store_new w1 _ 205 (by rfl) 205 (.tmp 5) (.tmp 19) (by rfl) kCells (by rfl) (by rfl) (Eq.trans size46 (by rfl)) (by rfl) (one_ints kCells_size kCells_get) ?_))
  have hs1 : w.heap.size + 2 ≤ w1.heap.size := by have := hb1.size; simpa using this
  have hB1 : Below w.heap.size w w1 := ((((Below.refl _ _).alloc (Nat.le_refl _) _).alloc (by simp) _).trans (hb1.mono (by simp; omega)))
  have hH1 : Arr w1 w.heap.size 186 s.cells := hH0.below hb1 (by simp; omega)
  have hR1 : Arr w1 (w.heap.size + 1) 186 _ := hR0.below hb1 (by simp)
  clear hH0 hR0 hb1
  have hKn := (Arr.new w1 205 kCells)
  go_wp2_with fail
  go_loopw [7] (fun i wr => ∃ (k : Nat) (C : Array Value) (Z : St), k ≤ 16 ∧ i = .int .i64 k ∧ Arr wr w.heap.size 186 s.cells ∧ Arr wr (w.heap.size + 1) 186 Z.cells ∧ Arr wr w1.heap.size 205 kCells ∧ Arr wr (w1.heap.size + 1) 205 C ∧ C.size = 64 ∧ (∀ t, t < k → C[t]? = some (.int .u32 (WW B t))) ∧ Below w.heap.size w wr)
    (fun i _ => 16 - (intOf i).toNat)
  case atStart => exact ⟨0, _, _, by omega, rfl, (hH1.alloc _).alloc _, (hR1.alloc _).alloc _, hKn.alloc _, by simpa using Arr.new (w1.alloc (.cells kCells 205)) 205 _, rfl, fun t h => by omega, (hB1.alloc (by omega) _).alloc (by simp; omega) _⟩
  case round =>
    clear hH1 hR1 hKn hB1
    generalize w1.heap.size = g5 at *
    obtain ⟨k, C, Z, hk, rfl, hH, hR, hK, hC, hCs, hw, hbl⟩ := hrel
    by_cases hlt : k < 16
    · have h3 : (k : Int) < 16 := by omega
      have h4 : (0 : Int) ≤ k := by omega
      have c0 : wr.cell? ⟨b, off + 4 * k, none⟩ = some (.int .u8 (B (4 * k))) := by have := (hbl.cell (p := ⟨b, off + (4 * k), none⟩) hb).trans (hB (4 * k) (by omega)); exact this
      have c1 : wr.cell? ⟨b, off + (4 * k + 1), none⟩ = some (.int .u8 (B (4 * k + 1))) := by have := (hbl.cell (p := ⟨b, off + (4 * k + 1), none⟩) hb).trans (hB (4 * k + 1) (by omega)); exact this
      have c2 : wr.cell? ⟨b, off + (4 * k + 2), none⟩ = some (.int .u8 (B (4 * k + 2))) := by have := (hbl.cell (p := ⟨b, off + (4 * k + 2), none⟩) hb).trans (hB (4 * k + 2) (by omega)); exact this
      have c3 : wr.cell? ⟨b, off + (4 * k + 3), none⟩ = some (.int .u8 (B (4 * k + 3))) := by have := (hbl.cell (p := ⟨b, off + (4 * k + 3), none⟩) hb).trans (hB (4 * k + 3) (by omega)); exact this
      have cC : wr.cell? ⟨g5 + 1, k, none⟩ = some (C[k]'(by omega)) := by rw [hC.cell, Array.getElem?_eq_getElem]
      have cF := hC.frozen k
      have hne : b ≠ g5 + 1 := by omega
      have hne' : g5 + 1 ≠ b := by omega
      have h5 : (k : Int) < 64 := by omega
      have i0 : IntKind.i64.wrap (4 * (k : Int)) = 4 * (k : Int) := by simp [IntKind.wrap, IntKind.bits, IntKind.signed]; omega
      have i1 : IntKind.i64.wrap (4 * (k : Int) + 1) = 4 * (k : Int) + 1 := by simp [IntKind.wrap, IntKind.bits, IntKind.signed]; omega
      have i2 : IntKind.i64.wrap (4 * (k : Int) + 2) = 4 * (k : Int) + 2 := by simp [IntKind.wrap, IntKind.bits, IntKind.signed]; omega
      have i3 : IntKind.i64.wrap (4 * (k : Int) + 3) = 4 * (k : Int) + 3 := by simp [IntKind.wrap, IntKind.bits, IntKind.signed]; omega
      have a0 : (0 : Int) ≤ 4 * (k : Int) := by omega
      have a1 : (0 : Int) ≤ 4 * (k : Int) + 1 := by omega
      have a2 : (0 : Int) ≤ 4 * (k : Int) + 2 := by omega
      have a3 : (0 : Int) ≤ 4 * (k : Int) + 3 := by omega
      have z0 : 4 * (k : Int) < 64 := by omega
      have z1 : 4 * (k : Int) + 1 < 64 := by omega
      have z2 : 4 * (k : Int) + 2 < 64 := by omega
      have z3 : 4 * (k : Int) + 3 < 64 := by omega
      have t0 : (4 * (k : Int)).toNat = 4 * k := by omega
      have t1 : (4 * (k : Int) + 1).toNat = 4 * k + 1 := by omega
      have t2 : (4 * (k : Int) + 2).toNat = 4 * k + 2 := by omega
      have t3 : (4 * (k : Int) + 3).toNat = 4 * k + 3 := by omega
      clear hB
      go_wp2
      go_region_held3 (fun w' => w'.cell? ⟨b, off + 4 * k, none⟩ = some (.int .u8 (B (4 * k))) ∧ w'.cell? ⟨b, off + (4 * k + 1), none⟩ = some (.int .u8 (B (4 * k + 1))) ∧ w'.cell? ⟨b, off + (4 * k + 2), none⟩ = some (.int .u8 (B (4 * k + 2))) ∧ w'.cell? ⟨b, off + (4 * k + 3), none⟩ = some (.int .u8 (B (4 * k + 3)))) (go_keep) (fail)
      all_goals go_wp2
      all_goals go_roundw
      case rel =>
        have e := WW_lo B k hlt
        refine ⟨k + 1, _, Z, by omega, by go_num, (hH.setOther _ (by simp; omega)).drew, (hR.setOther _ (by simp; omega)).drew, (hK.setOther _ (by simp)).drew, (hC.set k _).drew, by simp [hCs], ?_, (hbl.setCell (by simp; omega) _).drew⟩
        have := set_step (f := fun t => .int .u32 (WW B t)) hCs (by omega) hw
        simp only [e] at this
        exact this
      case measure => simp [intOf]; omega
    · obtain rfl : k = 16 := by omega
      clear hlt hk hB
      obtain ⟨wo, rfl⟩ : ∃ wo : World, wo = wr := ⟨_, rfl⟩
      go_wp2_with fail
      go_loopw [8] (fun i wr => ∃ (k : Nat) (C : Array Value), 16 ≤ k ∧ k ≤ 64 ∧ i = .int .i64 k ∧ Arr wr w.heap.size 186 s.cells ∧ Arr wr (w.heap.size + 1) 186 Z.cells ∧ Arr wr g5 205 kCells ∧ Arr wr (g5 + 1) 205 C ∧ C.size = 64 ∧ (∀ t, t < k → C[t]? = some (.int .u32 (WW B t))) ∧ Below w.heap.size w wr)
        (fun i _ => 64 - (intOf i).toNat)
      case atStart => exact ⟨16, C, by omega, by omega, rfl, hH, hR, hK, hC, hCs, hw, hbl⟩
      case round =>
        clear hC hCs hw hbl hH hR hK
        obtain ⟨k, C, hk, hk2, rfl, hH, hR, hK, hC, hCs, hw, hbl⟩ := hrel
        by_cases hlt : k < 64
        · have h3 : (k : Int) < 64 := by omega
          have h4 : (16 : Int) ≤ k := by omega
          have c2 : wr.cell? ⟨g5 + 1, k - 2, none⟩ = some (.int .u32 (WW B (k - 2))) := (hC.cell _).trans (hw _ (by omega))
          have c7 : wr.cell? ⟨g5 + 1, k - 7, none⟩ = some (.int .u32 (WW B (k - 7))) := (hC.cell _).trans (hw _ (by omega))
          have c15 : wr.cell? ⟨g5 + 1, k - 15, none⟩ = some (.int .u32 (WW B (k - 15))) := (hC.cell _).trans (hw _ (by omega))
          have c16 : wr.cell? ⟨g5 + 1, k - 16, none⟩ = some (.int .u32 (WW B (k - 16))) := (hC.cell _).trans (hw _ (by omega))
          have e2 : ((k : Int) - 2).toNat = k - 2 := by omega
          have e7 : ((k : Int) - 7).toNat = k - 7 := by omega
          have e15 : ((k : Int) - 15).toNat = k - 15 := by omega
          have e16 : ((k : Int) - 16).toNat = k - 16 := by omega
          have w2 : IntKind.i64.wrap ((k : Int) - 2) = (k : Int) - 2 := by simp [IntKind.wrap, IntKind.bits, IntKind.signed]; omega
          have a2 : (2 : Int) ≤ (k : Int) := by omega
          have z2 : (k : Int) - 2 < 64 := by omega
          have w7 : IntKind.i64.wrap ((k : Int) - 7) = (k : Int) - 7 := by simp [IntKind.wrap, IntKind.bits, IntKind.signed]; omega
          have a7 : (7 : Int) ≤ (k : Int) := by omega
          have z7 : (k : Int) - 7 < 64 := by omega
          have w15 : IntKind.i64.wrap ((k : Int) - 15) = (k : Int) - 15 := by simp [IntKind.wrap, IntKind.bits, IntKind.signed]; omega
          have a15 : (15 : Int) ≤ (k : Int) := by omega
          have z15 : (k : Int) - 15 < 64 := by omega
          have w16 : IntKind.i64.wrap ((k : Int) - 16) = (k : Int) - 16 := by simp [IntKind.wrap, IntKind.bits, IntKind.signed]; omega
          have a16 : (16 : Int) ≤ (k : Int) := by omega
          have z16 : (k : Int) - 16 < 64 := by omega
          generalize hx15 : WW B (k - 15) = x15 at *
          generalize hx2 : WW B (k - 2) = x2 at *
          generalize hx7 : WW B (k - 7) = x7 at *
          generalize hx16 : WW B (k - 16) = x16 at *
          have hWk : Hid (WW B k = (sg1 x2 + x7 + sg0 x15 + x16) % 4294967296) := by show _ = _; rw [WW_hi B k hk hlt, hx15, hx2, hx7, hx16]
          have HW := Hid.mk' hw
          clear hx15 hx2 hx7 hx16 hw
          go_wp2
          go_quiet ((go_at_call 128; exact Calls.quiet_of_same (turn_any _ _ _ (by omega) (by omega))))
          have E0 : bits .xor .u32 (bits .xor .u32 (rotr x15 7) (rotr x15 18)) (x15 / 8) = sg0 x15 := rfl
          have hH := hH.drewN nq
          have hR := hR.drewN nq
          have hK := hK.drewN nq
          have hC := hC.drewN nq
          have hbl := below_drewN hbl nq
          have c2 : (wr.drewN nq).cell? ⟨g5 + 1, k - 2, none⟩ = some (.int .u32 x2) := c2
          have c7 : (wr.drewN nq).cell? ⟨g5 + 1, k - 7, none⟩ = some (.int .u32 x7) := c7
          have c16 : (wr.drewN nq).cell? ⟨g5 + 1, k - 16, none⟩ = some (.int .u32 x16) := c16
          rw [E0]
          clear E0 c15 e15 w15 a15 z15
          generalize wr.drewN nq = wa at *
          go_wp2
          go_quiet ((go_at_call 128; exact Calls.quiet_of_same (turn_any _ _ _ (by omega) (by omega))))
          have E1 : bits .xor .u32 (bits .xor .u32 (rotr x2 17) (rotr x2 19)) (x2 / 1024) = sg1 x2 := rfl
          have hH := hH.drewN nq
          have hR := hR.drewN nq
          have hK := hK.drewN nq
          have hC := hC.drewN nq
          have hbl := below_drewN hbl nq
          have c7 : (wa.drewN nq).cell? ⟨g5 + 1, k - 7, none⟩ = some (.int .u32 x7) := c7
          have c16 : (wa.drewN nq).cell? ⟨g5 + 1, k - 16, none⟩ = some (.int .u32 x16) := c16
          rw [E1]
          clear E1 c2 e2 w2 a2 z2
          generalize wa.drewN nq = wc at *
          have cC : wc.cell? ⟨g5 + 1, k, none⟩ = some (C[k]'(by omega)) := by rw [hC.cell, Array.getElem?_eq_getElem]
          have cF := hC.frozen k
          have n7 : k ≠ k - 7 := by omega
          have n16 : k ≠ k - 16 := by omega
          generalize sg0 x15 = s0 at *
          generalize sg1 x2 = s1 at *
          go_wp2
          go_region_held3 (fun w' => w'.cell? ⟨g5 + 1, k - 7, none⟩ = some (.int .u32 x7) ∧ w'.cell? ⟨g5 + 1, k - 16, none⟩ = some (.int .u32 x16)) (first | exact ⟨keep_set c7 n7, keep_set c16 n16⟩ | go_keep) (fail)
          all_goals go_wp2
          all_goals go_roundw
          case rel =>
            repeat apply Exists.intro
            refine And.intro ?_ rfl
            have e' : WW B k = (((s1 + x7) % 4294967296 + s0) % 4294967296 + x16) % 4294967296 := by rw [hWk.out]; omega
            refine ⟨k + 1, _, by omega, by omega, by go_num, (hH.setOther _ (by simp; omega)).drew, (hR.setOther _ (by simp; omega)).drew, (hK.setOther _ (by simp)).drew, (hC.set k _).drew, by simp [hCs], ?_, (hbl.setCell (by simp; omega) _).drew⟩
            have := set_step (f := fun t => .int .u32 (WW B t)) hCs (by omega) HW.out
            rw [← e']
            exact this
          case measure => simp [intOf]; omega
        · obtain rfl : k = 64 := by omega
          clear hlt hk hk2
          have HW := Hid.mk' hw
          clear hw
          obtain ⟨wo2, rfl⟩ : ∃ wo2 : World, wo2 = wr := ⟨_, rfl⟩
          go_wp2_with (first
            | (refine wpList_load_row rfl 186 (.tmp 2) rfl w.heap.size rfl 186 s.cells (0, 0) _ hH Tryz.underlying186 rfl (s48 _) ?_)
            | (refine wpList_store_new wo2 _ 186 (by rfl) 186 (.tmp 11) (.tmp 112) (by rfl) s.cells (by rfl) (by rfl) (s48 _) (by rfl) (St.one _) ?_))
          have hV := Arr.new wo2 186 s.cells
          have hg11 : g5 + 1 < wo2.heap.size := hC.lt
          have hH := hH.alloc (.cells s.cells 186)
          have hR := hR.alloc (.cells s.cells 186)
          have hK := hK.alloc (.cells s.cells 186)
          have hC := hC.alloc (.cells s.cells 186)
          have hbl := hbl.alloc hbl.size (.cells s.cells 186)
          generalize wo2.alloc (.cells s.cells 186) = wv at *
          generalize wo2.heap.size = g11 at *
          go_loopw [12] (fun i wr => ∃ k : Nat, k ≤ 64 ∧ i = .int .i64 k ∧ Arr wr g11 186 (rnd kOf (WW B) s k).cells ∧ Arr wr w.heap.size 186 s.cells ∧ Arr wr (w.heap.size + 1) 186 Z.cells ∧ Arr wr g5 205 kCells ∧ Arr wr (g5 + 1) 205 C ∧ Below w.heap.size w wr)
            (fun i _ => 64 - (intOf i).toNat)
          case atStart => exact ⟨0, by omega, rfl, hV, hH, hR, hK, hC, hbl⟩
          case round =>
            clear hV hH hR hK hC hbl
            obtain ⟨k, hk, rfl, hV, hH, hR, hK, hC, hbl⟩ := hrel
            by_cases hlt : k < 64
            · have h3 : (k : Int) < 64 := by omega
              have h4 : (0 : Int) ≤ k := by omega
              have cK : wr.cell? ⟨g5, k, none⟩ = some (.int .u32 (kOf k)) := (hK.cell k).trans (kCells_get k hlt)
              have cW : wr.cell? ⟨g5 + 1, k, none⟩ = some (.int .u32 (WW B k)) := (hC.cell k).trans (HW.out k hlt)
              generalize hr : rnd kOf (WW B) s k = r at *
              generalize hkk : kOf k = kk at *
              generalize hww : WW B k = ww at *
              have hst : Hid (rnd kOf (WW B) s (k + 1) = step r kk ww) := by show _ = _; rw [rnd, hr, hkk, hww]
              clear hr hkk hww
              obtain ⟨v0, v1, v2, v3, v4, v5, v6, v7⟩ := hV.cells8
              go_wp2
              go_quiet (fail)
              clear v0 v1 v2 v3 v4 v5 v6 v7
              have hH := hH.drewN nq
              have hR := hR.drewN nq
              have hK := hK.drewN nq
              have hC := hC.drewN nq
              have hV := hV.drewN nq
              have hbl := below_drewN hbl nq
              have cK : (wr.drewN nq).cell? ⟨g5, k, none⟩ = some (.int .u32 kk) := cK
              have cW : (wr.drewN nq).cell? ⟨g5 + 1, k, none⟩ = some (.int .u32 ww) := cW
              generalize wr.drewN nq = wa at *
              obtain ⟨v0, v1, v2, v3, v4, v5, v6, v7⟩ := hV.cells8
              go_wp2
              go_quiet ((go_at_call 128; exact Calls.quiet_of_same (turn_any _ _ _ (by omega) (by omega))))
              clear v0 v1 v2 v3 v4 v5 v6 v7
              have hH := hH.drewN nq
              have hR := hR.drewN nq
              have hK := hK.drewN nq
              have hC := hC.drewN nq
              have hV := hV.drewN nq
              have hbl := below_drewN hbl nq
              clear cK cW
              generalize wa.drewN nq = wb at *
              obtain ⟨v0, v1, v2, v3, v4, v5, v6, v7⟩ := hV.cells8
              go_wp2
              go_quiet ((go_at_call 128; exact Calls.quiet_of_same (turn_any _ _ _ (by omega) (by omega))))
              clear v0 v1 v2 v3 v4 v5 v6 v7
              have hH := hH.drewN nq
              have hR := hR.drewN nq
              have hK := hK.drewN nq
              have hC := hC.drewN nq
              have hV := hV.drewN nq
              have hbl := below_drewN hbl nq
              generalize wb.drewN nq = wc at *
              have T1e : (r.h + bits .xor .u32 (bits .xor .u32 (rotr r.e 6) (rotr r.e 11)) (rotr r.e 25) + bits .xor .u32 (bits .and .u32 r.e r.f) (bits .and .u32 (bits .xor .u32 IntKind.u32.max r.e) r.g) + kk + ww) % 4294967296 = (r.h + bg1 r.e + cho r.e r.f r.g + kk + ww) % 4294967296 := by rw [cho_xor]; rfl
              have T2e : (bits .xor .u32 (bits .xor .u32 (rotr r.a 2) (rotr r.a 13)) (rotr r.a 22) + bits .xor .u32 (bits .xor .u32 (bits .and .u32 r.a r.b) (bits .and .u32 r.a r.c)) (bits .and .u32 r.b r.c)) % 4294967296 = (bg0 r.a + maj r.a r.b r.c) % 4294967296 := by rw [maj_xor]; rfl
              rw [T1e, T2e]
              generalize hT1 : (r.h + bg1 r.e + cho r.e r.f r.g + kk + ww) % 4294967296 = T1
              generalize hT2 : (bg0 r.a + maj r.a r.b r.c) % 4294967296 = T2
              have hst' : Hid (rnd kOf (WW B) s (k + 1) = ⟨(T1 + T2) % 4294967296, r.a, r.b, r.c, (r.d + T1) % 4294967296, r.e, r.f, r.g⟩) := by show _ = _; rw [hst.out]; unfold step; rw [hT1, hT2]
              clear hst hT1 hT2 T1e T2e
              obtain ⟨v0, v1, v2, v3, v4, v5, v6, v7⟩ := hV.cells8
              generalize hA : (T1 + T2) % 4294967296 = xA at hst'
              generalize hE : (r.d + T1) % 4294967296 = xE at hst'
              go_wp2_with (refine wpList_store_arr (w := wc) (by rfl) 186 (.tmp 11) (.tmp 191) (by rfl) g11 (St.cells ⟨xA, r.a, r.b, r.c, xE, r.e, r.f, r.g⟩) (by rfl) (by rfl) 186 _ hV (s48 _) (by rw [St.size, St.size]) (St.one _) ?_)
              go_roundw
              case rel => exact ⟨k + 1, by omega, by go_num, by rw [hst'.out]; exact hV.setRow _, hH.setRowOther _ (by omega), hR.setRowOther _ (by omega), hK.setRowOther _ (by omega), hC.setRowOther _ (by omega), below_setRow hbl (by omega) _⟩
              case measure => simp [intOf]; omega
            · obtain rfl : k = 64 := by omega
              clear hlt hk HW hC hK
              obtain ⟨r, hr⟩ : ∃ r, r = rnd kOf (WW B) s 64 := ⟨_, rfl⟩
              rw [← hr] at hV
              have HR := Hid.mk' hr
              clear hr
              obtain ⟨wo3, rfl⟩ : ∃ wo3 : World, wo3 = wr := ⟨_, rfl⟩
              go_wp2_with fail
              go_loopw [18] (fun i wr => ∃ (k : Nat) (C : Array Value), k ≤ 8 ∧ i = .int .i64 k ∧ Arr wr g11 186 r.cells ∧ Arr wr w.heap.size 186 C ∧ C.size = 8 ∧ (∀ t, t < k → C[t]? = some (.int .u32 ((s.plus r).at t))) ∧ (∀ t, k ≤ t → t < 8 → C[t]? = some (.int .u32 (s.at t))) ∧ Arr wr (w.heap.size + 1) 186 Z.cells ∧ Below w.heap.size w wr)
                (fun i _ => 8 - (intOf i).toNat)
              case atStart => exact ⟨0, s.cells, by omega, rfl, hV, hH, rfl, fun t h => by omega, fun t _ h => St.get s h, hR, hbl⟩
              case round =>
                clear hV hH hR hbl
                obtain ⟨k, C, hk, rfl, hV, hH, hCs, hw1, hw2, hR, hbl⟩ := hrel
                by_cases hlt : k < 8
                · have h3 : (k : Int) < 8 := by omega
                  have h4 : (0 : Int) ≤ k := by omega
                  have cH : wr.cell? ⟨w.heap.size, k, none⟩ = some (.int .u32 (s.at k)) := (hH.cell k).trans (hw2 k (Nat.le_refl _) hlt)
                  have cV : wr.cell? ⟨g11, k, none⟩ = some (.int .u32 (r.at k)) := (hV.cell k).trans (St.get r hlt)
                  have cF := hH.frozen k
                  have hne : w.heap.size ≠ g11 := by omega
                  have hne' : g11 ≠ w.heap.size := by omega
                  have HW1 := Hid.mk' hw1
                  have HW2 := Hid.mk' hw2
                  clear hw1 hw2
                  go_wp2
                  go_region
                  all_goals go_wp2
                  all_goals go_roundw
                  case rel =>
                    have q := set_step (f := fun t => .int .u32 ((s.plus r).at t)) hCs (by omega) HW1.out
                    rw [plus_at s r hlt] at q
                    refine ⟨k + 1, _, by omega, by go_num, (hV.setOther _ (by simp; omega)).drew, (hH.set k _).drew, by simp [hCs], q, fun t ht1 ht2 => ?_, (hR.setOther _ (by simp)).drew, (hbl.setCell (Nat.le_refl _) _).drew⟩
                    rw [Array.getElem?_setIfInBounds, if_neg (by omega)]
                    exact HW2.out t (by omega) ht2
                  case measure => simp [intOf]; omega
                · obtain rfl : k = 8 := by omega
                  have hCe : C = (s.plus r).cells := by
                    refine Array.ext_getElem? fun i => ?_
                    by_cases hi : i < 8
                    · rw [hw1 i hi, St.get _ hi]
                    · rw [Array.getElem?_eq_none (by omega), Array.getElem?_eq_none (by rw [St.size]; omega)]
                  subst hCe
                  clear hw1 hw2 hCs
                  have hRe := HR.out
                  go_wp2_with (first
                    | (refine wpList_load_row rfl 186 (.tmp 2) rfl w.heap.size rfl 186 (s.plus r).cells (0, 0) _ hH Tryz.underlying186 rfl (s48 _) ?_)
                    | (refine wpList_store_arr rfl 186 (.tmp 4) (.tmp 204) rfl (w.heap.size + 1) (s.plus r).cells rfl rfl 186 _ hR (s48 _) rfl (St.one _) ?_))
                  exact bodyPost_ret (v := .agg (s.plus r).cells) (results_cell_row Tryz.results103 _ _ (w.heap.size + 1) 186 _ (0, 0) _ rfl (hR.setRow _) Tryz.underlying186 rfl (s48 _)) rfl ⟨by rw [hRe], below_setRow hbl (by omega) _⟩
end Go.Proofs.YtneihkegipcakaaGreat
/- Layer trace: what the layers below give. -/
namespace Go.Proofs.YtneihkegipcakaaGreat
open Go.RowKit Go.Shelf
set_option maxRecDepth 100000
set_option linter.unusedVariables false
set_option linter.unusedSimpArgs false

theorem callsIn_round {l n : Nat} {f : FuncId} {args : Array Value} {w : World} {R : Ending → World → Prop} (h : Calls Tryz.prog f args w R) : CallsIn (Fence.wide.inRound l) n Tryz.prog f args w R :=
  (callsIn_wide (n := n)).2 h
theorem rowsIn_round {l n : Nat} {row : String} {args : Array Value} {w : World} {R : Value → World → Prop} (h : Rows Tryz.prog row args w R) : RowsIn (Fence.wide.inRound l) n Tryz.prog row args w R := fun c cs _ => by
  obtain ⟨v, w', r, s⟩ := h c cs
  exact ⟨v, w', r, (stepsIn_wide (P := Tryz.prog)).2 s⟩
/-- An operation that is no defer does in a round what it does elsewhere. -/
theorem opIn {l n : Nat} {o : Oper} {a : Act} {w : World} {K : Act → World → Prop} {Q : Exit → Act → World → Prop} (hd : ∀ c, o.op ≠ .defer c) (h : o.wp Tryz.prog a w K Q) : o.wpIn (Fence.wide.inRound l) n Tryz.prog a w K Q := by
  refine ⟨fun _ _ => trivial, ?_⟩
  rw [Oper.semAt_plain _ _ _ hd]
  unfold Oper.wp at h
  generalize (execOp a.eval o).run Tryz.prog w = r at *
  cases r with
  | ok x w' =>
    cases x <;> simp only [Oper.upon, Oper.uponIn] at h ⊢ <;>
      first
        | exact h
        | exact ⟨(fun h' => by cases h'), callsIn_round h⟩
        | exact ⟨(fun h' => by cases h'), rowsIn_round h⟩
  | halt x w' => cases x <;> simp only [Oper.upon, Oper.uponIn] at h ⊢ <;> exact h
def noDefer (ops : Array Oper) : Bool := ops.all fun o => match o.op with | .defer _ => false | _ => true
theorem noDefer_get {ops : Array Oper} (h : noDefer ops = true) {i : Nat} {o : Oper} (hi : ops[i]? = some o) : ∀ c, o.op ≠ .defer c := by
  intro c hc
  have := (Array.all_eq_true_iff_forall_mem.1 h) o (Array.mem_of_getElem? hi)
  rw [hc] at this
  cases this
theorem wpOpIn_of {l n : Nat} {ops : Array Oper} (hd : noDefer ops = true) {Q : Exit → Act → World → Prop} {i : Nat} {K : Act → World → Prop} {a : Act} {w : World} (hno : ¬ LetsOut Q) (h : wpOp Tryz.prog ops Q i K a w) : wpOpIn (Fence.wide.inRound l) n Tryz.prog ops Q i K a w := by
  unfold wpOp at h
  unfold wpOpIn
  cases ho : ops[i]? with
  | none => simpa [ho] using h
  | some o =>
    simp only [ho] at h ⊢
    split
    · rename_i hw
      rw [if_pos hw] at h
      rcases h with h | h
      · exact opIn (noDefer_get hd ho) h
      · exact absurd h.2 hno
    · rename_i hw
      rw [if_neg hw] at h
      exact ⟨fun _ _ => trivial, h⟩
theorem wpAnyIn_of {l n : Nat} {ops : Array Oper} (hd : noDefer ops = true) {md : Region.Mode} {Q : Exit → Act → World → Prop} (hno : ¬ LetsOut Q) : ∀ (fuel : Nat) (listed : Array Bool) (a : Act) (w : World), wpAny Tryz.prog md ops Q fuel listed a w → wpAnyIn (Fence.wide.inRound l) n Tryz.prog md ops Q fuel listed a w
  | 0, _, _, _, h => h
  | fuel + 1, _, _, _, h => ⟨h.1, fun i hi => wpOpIn_mono (fun a' w' h' => wpAnyIn_of hd hno fuel _ a' w' h') (wpOpIn_of hd hno (h.2 i hi))⟩
/-- Only the normal way out. -/
def Q0 (Q : Exit → Act → World → Prop) : Exit → Act → World → Prop
  | .normal, a, w => Q .normal a w
  | _, _, _ => False
/-- A region that draws its order, in a round. -/
theorem region_round {l n id : Nat} {ops : Array Oper} {S : World → Prop} {Q : Exit → Act → World → Prop} {a : Act} {w : World} (hm : Tryz.prog.follows .mixedOrders = true) (hd : noDefer ops = true) (hS : S w.drew)
    (h : S w.drew → wpAnyH Tryz.prog .any ops (Q0 Q) S ops.size (Array.replicate ops.size false) a w.drew) : (Code.region id ops true).wpIn (Fence.wide.inRound l) n Tryz.prog Q a w := by
  refine wpIn_mono (Q := Q0 Q) (wpIn_region_any hm (wpAnyIn_of hd (by rintro ⟨_, _, h⟩; exact h) _ _ _ _ (wpAny_of_held _ _ _ _ (h hS)))) ?_
  intro e a w hq
  cases e <;> first | exact hq | exact hq.elim
/-- The laws of sums, in a round. -/
theorem li24 {l n : Nat} {ops : Array Oper} {rest : List Oper} {o : Oper} {a : Act} {w : World} {Q : Exit → Act → World → Prop} (hgd : o.guard = none) (x : Operand) (ho : o.op = .load 40 x)
    (b off : Nat) (hx : a.eval x = .pointer (some ⟨b, off, none⟩)) (X : List Int) (hX : X.length = 32) (hc : w.rangeAt b off (by8 X))
    (h : wpListIn (Fence.wide.inRound l) n Tryz.prog ops Q rest (a.put o.dst (.agg (h8 X))) w) : wpListIn (Fence.wide.inRound l) n Tryz.prog ops Q (o :: rest) a w :=
  wpListIn_plain hgd fun _ hK => opIn (by rw [ho]; intro c hc; cases hc) (wp_load_mid 40 x ho b off hx (by8 X) _ hc Tryz.underlying40 rfl (by rw [by8_len, hX]; exact size24) (hK _ _ h))
theorem si24 {l n : Nat} {ops : Array Oper} {rest : List Oper} {o : Oper} {a : Act} {w : World} {Q : Exit → Act → World → Prop} (hgd : o.guard = none) (x y : Operand) (ho : o.op = .store 40 x y)
    (g : Nat) (X Y : List Int) (hx : a.eval x = .pointer (some ⟨g, 0, none⟩)) (hy : a.eval y = .agg (h8 X)) (hX : X.length = 32) (hY : Y.length = 32) (hg : Arr w g 40 (h8 Y))
    (h : wpListIn (Fence.wide.inRound l) n Tryz.prog ops Q rest (a.put o.dst undef) (w.setRow g (h8 X))) : wpListIn (Fence.wide.inRound l) n Tryz.prog ops Q (o :: rest) a w :=
  wpListIn_plain hgd fun _ hK => opIn (by rw [ho]; intro c hc; cases hc) (wp_store_row 40 x y ho g (h8 X) hx hy 40 _ hg (s24h8 hX) (by rw [h8_size, h8_size, hX, hY]) (h8_one X) (hK _ _ h))
theorem si24n {l n : Nat} {ops : Array Oper} {rest : List Oper} {o : Oper} {a : Act} {Q : Exit → Act → World → Prop} (hgd : o.guard = none) (x y : Operand) (ho : o.op = .store 40 x y) (W : World) (g : Nat) (hgW : W.heap.size = g) {z : Array Value} (hz : z.size = 32)
    (X : List Int) (hx : a.eval x = .pointer (some ⟨g, 0, none⟩)) (hy : a.eval y = .agg (h8 X)) (hX : X.length = 32)
    (h : wpListIn (Fence.wide.inRound l) n Tryz.prog ops Q rest (a.put o.dst undef) (W.alloc (.cells (h8 X) 40))) : wpListIn (Fence.wide.inRound l) n Tryz.prog ops Q (o :: rest) a (W.alloc (.cells z 40)) := by
  subst hgW
  exact wpListIn_plain hgd fun _ hK => opIn (by rw [ho]; intro c hc; cases hc) (wp_store_row 40 x y ho W.heap.size (h8 X) hx hy 40 z (Arr.new W 40 z) (s24h8 hX) (by rw [hz, h8_size, hX]) (h8_one X) (hK _ _ (by rw [World.setRow_alloc_new]; exact h)))
/-- .. and outside of one. -/
theorem opInw {n : Nat} {o : Oper} {a : Act} {w : World} {K : Act → World → Prop} {Q : Exit → Act → World → Prop} (hd : ∀ c, o.op ≠ .defer c) (h : o.wp Tryz.prog a w K Q) : o.wpIn Fence.wide n Tryz.prog a w K Q := by
  refine ⟨fun _ _ => trivial, ?_⟩
  rw [Oper.semAt_plain _ _ _ hd]
  unfold Oper.wp at h
  generalize (execOp a.eval o).run Tryz.prog w = r at *
  cases r with
  | ok x w' =>
    cases x <;> simp only [Oper.upon, Oper.uponIn] at h ⊢ <;>
      first
        | exact h
        | exact ⟨(fun h' => by cases h'), (callsIn_wide (n := n - 1)).2 h⟩
        | exact ⟨(fun h' => by cases h'), (rowsIn_round (l := 0) h : RowsIn Fence.wide _ _ _ _ _ _)⟩
  | halt x w' => cases x <;> simp only [Oper.upon, Oper.uponIn] at h ⊢ <;> exact h
theorem li24w {n : Nat} {ops : Array Oper} {rest : List Oper} {o : Oper} {a : Act} {w : World} {Q : Exit → Act → World → Prop} (hgd : o.guard = none) (x : Operand) (ho : o.op = .load 40 x)
    (b off : Nat) (hx : a.eval x = .pointer (some ⟨b, off, none⟩)) (X : List Int) (hX : X.length = 32) (hc : w.rangeAt b off (by8 X))
    (h : wpListIn Fence.wide n Tryz.prog ops Q rest (a.put o.dst (.agg (h8 X))) w) : wpListIn Fence.wide n Tryz.prog ops Q (o :: rest) a w :=
  wpListIn_plain hgd fun _ hK => opInw (by rw [ho]; intro c hc; cases hc) (wp_load_mid 40 x ho b off hx (by8 X) _ hc Tryz.underlying40 rfl (by rw [by8_len, hX]; exact size24) (hK _ _ h))
theorem si24w {n : Nat} {ops : Array Oper} {rest : List Oper} {o : Oper} {a : Act} {w : World} {Q : Exit → Act → World → Prop} (hgd : o.guard = none) (x y : Operand) (ho : o.op = .store 40 x y)
    (g : Nat) (X Y : List Int) (hx : a.eval x = .pointer (some ⟨g, 0, none⟩)) (hy : a.eval y = .agg (h8 X)) (hX : X.length = 32) (hY : Y.length = 32) (hg : Arr w g 40 (h8 Y))
    (h : wpListIn Fence.wide n Tryz.prog ops Q rest (a.put o.dst undef) (w.setRow g (h8 X))) : wpListIn Fence.wide n Tryz.prog ops Q (o :: rest) a w :=
  wpListIn_plain hgd fun _ hK => opInw (by rw [ho]; intro c hc; cases hc) (wp_store_row 40 x y ho g (h8 X) hx hy 40 _ hg (s24h8 hX) (by rw [h8_size, h8_size, hX, hY]) (h8_one X) (hK _ _ h))
/-- A range over a function with two loop variables that is called once, and always goes on. -/
theorem wp_range2 {g : Operand} {ts : Array Tmp} {assign body : Code} {Q : Exit → Act → World → Prop} {a : Act} {W0 : World} (gf : Nat) (lb : Array Value) (hg : a.eval g = .func (.func gf) #[] lb) (eg : ∀ args w, (callFunc gf args).run Tryz.prog w = .ok (.enter gf args) w)
    (I : World → Prop)
    (hcall : ∀ rc : Loop, rc.state = .ready → rc.pending = none → rc.params = ts → rc.tmps = a.tmps → rc.assign = assign → rc.body = body →
      CallsIn Fence.wide 2 Tryz.prog gf (#[.func (.yield (W0.heap.size + 1)) #[] #[]] ++ lb) ((W0.alloc (.deferred (some []))).alloc (.loop rc)) fun e W' => (∃ v, e = .returned v) ∧ I W' ∧ W'.heap[W0.heap.size + 1]? = some (.loop rc) ∧ W'.heap[W0.heap.size]? = some (.deferred (some [])))
    (hdone : ∀ W' o, I W' → W'.heap[W0.heap.size]? = some (.deferred (some [])) → Q .normal { a with defers := { target := .collected W0.heap.size, args := #[] } :: a.defers } (W'.putObj (W0.heap.size + 1) o)) :
    (Code.rangeFunc g ts assign body).wpIn Fence.wide 3 Tryz.prog Q a W0 := by
  refine wpIn_rangeFunc fun fn hfn => ?_
  have hent := run_enterLoop_outer (P := Tryz.prog) (w := W0) fn a.tmps ts assign body
  obtain ⟨rc, hrc⟩ : ∃ rc : Loop, rc = { state := .ready, pending := none, fn, tmps := a.tmps, params := ts, assign, body, defers := W0.heap.size } := ⟨_, rfl⟩
  rw [← hrc] at hent
  refine ⟨_, _, _, { target := .fn (.func gf) lb, args := #[.func (.yield (W0.heap.size + 1)) #[] #[]] }, (W0.alloc (.deferred (some []))).alloc (.loop rc), gf, #[.func (.yield (W0.heap.size + 1)) #[] #[]] ++ lb, (W0.alloc (.deferred (some []))).alloc (.loop rc), hent, ?_, fun _ _ => trivial, ?_, fun h => (by cases h), ?_⟩
  · simp only [resolve, hg]
    simp [go_sem]
  · simp [invoke, go_sem, eg]
  · refine (hcall rc (by rw [hrc]) (by rw [hrc]) (by rw [hrc]) (by rw [hrc]) (by rw [hrc]) (by rw [hrc])).mono ?_
    rintro e W2 ⟨⟨v, rfl⟩, hI, hl, hk⟩
    have hend := run_endLoop (P := Tryz.prog) hl (by rw [hrc]; simp)
    rw [show rc.pending = none by rw [hrc]] at hend
    exact ⟨none, _, hend, hdone W2 _ hI hk⟩
/-- One round. -/
theorem yield_at2 {l m : Nat} {t u : Tmp} {rc : Loop} {W : World} {R : Ending → World → Prop} (x y : Value) (hl : W.heap[l]? = some (.loop rc)) (hp : rc.params = #[t, u])
    (h : rc.assign.wpIn (Fence.wide.inRound l) m Tryz.prog (Exit.then (fun a₁ w₁ => ∃ w₂, (Instr.beginRound l).run Tryz.prog w₁ = .ok () w₂ ∧ rc.body.wpIn (Fence.wide.inRound l) m Tryz.prog (roundPost Tryz.prog l R) a₁ w₂) (fun _ _ _ => False)) { tmps := (rc.tmps.setIfInBounds t x).setIfInBounds u y, defers := [] } W) :
    YieldAt Fence.wide m Tryz.prog l #[x, y] W R :=
  ⟨_, _, _, _, run_yield hl (by rw [hp]; rfl), roundIn_of_wpIn trivial (by rw [hp]; simpa using h)⟩
end Go.Proofs.YtneihkegipcakaaGreat
/- Layer trace: what the layers below give. -/
namespace Go.Proofs.YtneihkegipcakaaGreat
open Go.RowKit Go.Shelf
set_option maxRecDepth 100000
set_option linter.unusedVariables false
set_option linter.unusedSimpArgs false
attribute [local go_sem] Oper.semAt_some

set_option maxRecDepth 100000 in
set_option maxHeartbeats 400000 in
theorem empties_any (c : Int) (w : World) :
    Calls Tryz.prog 163 #[.int .i64 c] w fun e w' => e = .returned (.func (Fn.func 170) #[] #[.pointer (some ⟨w.heap.size, 0, none⟩)]) ∧ w' = w.alloc (.cells #[.int .i64 c] 3) := by
  have hmf : ∀ (fn : Fn) (first cap : Array Value) (w : World), (Instr.makeFunc fn first cap).run Tryz.prog w = .ok (.func fn first cap) w := fun _ _ _ _ => rfl
  go_enter Tryz.func163, Tryz.ntmps163
  go_wp2
  go_ret
  exact ⟨rfl, rfl⟩
set_option maxRecDepth 100000 in
set_option maxHeartbeats 1000000 in
/-- The first c roots are told; J: what holds when so many have been told. -/
theorem empt_in (m lp gc c S0 : Nat) (hgc : gc < S0) (J : Nat → World → Prop)
    (hJc : ∀ j W, J j W → W.cell? ⟨gc, 0, none⟩ = some (.int .i64 c) ∧ S0 ≤ W.heap.size)
    (hJB : ∀ j W W', J j W → Below S0 W W' → J j W')
    (hY : ∀ j W, J j W → j < c → YieldAt Fence.wide (m - 1) Tryz.prog lp #[.int .i64 j, .agg (h8 (tr j []))] W fun e W' => e = .returned (.bool true) ∧ J (j + 1) W' ∧ (∀ b, S0 ≤ b → b < W.heap.size → W'.heap[b]? = W.heap[b]?))
    (W : World) (h0 : J 0 W) (hc : c ≤ 17) :
    CallsIn Fence.wide m Tryz.prog 170 #[.func (.yield lp) #[] #[], .pointer (some ⟨gc, 0, none⟩)] W fun e W' => (∃ v, e = .returned v) ∧ J c W' := by
  refine callsIn_of_wp Tryz.func170 rfl trivial ?_ rfl
  simp only [Tryz.ntmps170, List.size_toArray, List.length_cons, List.length_nil, Nat.reduceAdd, Nat.reduceSub, Array.replicate_succ, Array.replicate_zero, List.push_toArray, List.append_toArray, List.nil_append, List.cons_append]
  obtain ⟨c1, hsz⟩ := hJc 0 W h0
  have c1' : (W.alloc (.cells (h8 Z32) 40)).cell? ⟨gc, 0, none⟩ = some (.int .i64 c) := by rw [World.cell?_alloc_lt _ _ _ (by show gc < _; omega)]; exact c1
  have hJ0 := hJB 0 W _ h0 ((alloc_bel' W (.cells (h8 Z32) 40)).mono hsz)
  have A0 := Arr.new W 40 (h8 Z32)
  rw [h8_Z] at c1'
  gi_wp2
  gi_loopw [6] (fun d wr => ∃ j : Nat, d = .int .i64 (j : Int) ∧ j ≤ c ∧ J j wr ∧ W.heap.size < wr.heap.size ∧ Arr wr W.heap.size 40 (h8 (tr (j - 1) []))) (fun d _ => c - (intOf d).toNat)
  case atStart => exact ⟨0, rfl, by omega, hJ0, by simp, A0⟩
  case round =>
    obtain ⟨j, rfl, hj, hJj, hlt1, R0⟩ := hrel
    clear A0 hJ0 c1' c1 h0
    have hl32 : ∀ k, (tr k []).length = 32 := fun k => tr_len k [] (fun x h => by cases h)
    obtain ⟨-, hszr⟩ := hJc j wr hJj
    by_cases hlt : j < c
    · have hI : (j : Int) < c := by omega
      by_cases hj0 : j = 0
      · subst hj0
        have R0 : Arr wr W.heap.size 40 (h8 (tr 0 [])) := R0
        obtain ⟨fn, tmps, assign, body, hy, hR⟩ := hY 0 wr hJj hlt
        simp only [Int.natCast_zero] at hy
        gi_wp2_with (refine li24w (by rfl) _ (by rfl) W.heap.size 0 (by rfl) _ (hl32 0) R0.range ?_)
        refine ⟨fun h => (by cases h), hR.mono ?_⟩
        rintro e W3 ⟨rfl, hJ3, hkeep⟩
        have R3 : Arr W3 W.heap.size 40 (h8 (tr 0 [])) := (hkeep _ hsz hlt1).trans R0
        have hl3 := R3.lt
        gi_wp2
        go_roundw
        case rel => exact ⟨1, by go_num, by omega, hJ3, hl3, R3⟩
        case measure => simp [intOf]; omega
      · have hp : (0 : Int) < j := by omega
        have hprev := hl32 (j - 1)
        have htr : pr (tr (j - 1) []) (tr (j - 1) []) = tr j [] := by
          obtain ⟨k, rfl⟩ : ∃ k, j = k + 1 := ⟨j - 1, by omega⟩
          rw [tr_nil]; rfl
        have hpair := fun w => pair_h (tr (j - 1) []) (tr (j - 1) []) w hprev hprev
        rw [htr] at hpair
        clear htr
        gi_wp2_with (first
          | (refine li24w (by rfl) _ (by rfl) W.heap.size 0 (by rfl) _ hprev R0.range ?_)
          | (refine ⟨trivial, fun h => (by cases h), ?_⟩; gi_at_call 147; go_must (refine (callsIn_wide.2 (hpair _)).mono ?_; rintro e w2 ⟨rfl, hb2⟩; have hs2 := hb2.size; have R2 := R0.below hb2 hlt1; have hJ2 := hJB j wr _ hJj (below_setRow (hb2.mono hszr) hsz (h8 (tr j []))); have R2' := R2.setRow (h8 (tr j [])); obtain ⟨fn, tmps, assign, body, hy, hR⟩ := hY j _ hJ2 hlt))
          | (refine si24w (by rfl) _ _ (by rfl) W.heap.size (tr j []) _ (by rfl) (by rfl) (hl32 j) hprev R2 ?_)
          | (refine li24w (by rfl) _ (by rfl) W.heap.size 0 (by rfl) _ (hl32 j) R2'.range ?_))
        refine ⟨fun h => (by cases h), hR.mono ?_⟩
        rintro e W3 ⟨rfl, hJ3, hkeep⟩
        have R3 : Arr W3 W.heap.size 40 (h8 (tr j [])) := (hkeep _ hsz (by simp; omega)).trans R2'
        have hl3 := R3.lt
        gi_wp2
        go_roundw
        case rel => exact ⟨j + 1, by go_num, by omega, hJ3, hl3, by rw [Nat.add_sub_cancel]; exact R3⟩
        case measure => simp [intOf]; omega
    · obtain rfl : j = c := by omega
      have hI : ¬ (j : Int) < j := by omega
      gi_wp2
      go_end0
      exact ⟨⟨_, rfl⟩, hJj⟩
end Go.Proofs.YtneihkegipcakaaGreat
/- Layer trace: what the layers below give. -/
namespace Go.Proofs.YtneihkegipcakaaGreat
open Go.RowKit Go.Shelf
set_option maxRecDepth 100000
set_option linter.unusedVariables false
set_option linter.unusedSimpArgs false
attribute [local go_sem] Oper.semAt_some

theorem below_put {B : Nat} {a w : World} (h : Below B a w) {r : Nat} (hr : B ≤ r) (o : Obj) : Below B a (w.putObj r o) :=
  ⟨h.os, h.tape, h.output, by simpa using h.size, fun k hk => (World.putObj_heap_other (by omega)).trans (h.block k hk)⟩
theorem Arr.put {w : World} {g ty : Nat} {C : Array Value} (h : Arr w g ty C) {r : Nat} (o : Obj) (hne : g ≠ r) : Arr (w.putObj r o) g ty C := (World.putObj_heap_other hne).trans h
/-- The whole loop: I is what holds of the blocks below when so many rounds are done. -/
theorem range_emp {g : Operand} {t u : Tmp} {assign body : Code} {Q : Exit → Act → World → Prop} {a : Act} {W0 : World} (gc c D : Nat) (hD : W0.heap.size = D) (hc : c ≤ 17) (hg : a.eval g = .func (.func 170) #[] #[.pointer (some ⟨gc, 0, none⟩)]) (hgc : gc < D)
    (I : Nat → World → Prop) (hIB : ∀ j W W', I j W → Below D W W' → I j W') (hIc : ∀ j W, I j W → W.cell? ⟨gc, 0, none⟩ = some (.int .i64 c)) (h0 : I 0 W0)
    (hround : ∀ j W, I j W → j < c → D + 2 ≤ W.heap.size → ∀ m,
      assign.wpIn (Fence.wide.inRound (D + 1)) m Tryz.prog (Exit.then (fun a1 w1 => Below W.heap.size W w1 ∧ ∀ w2, Below (D + 1) w1 w2 → (∀ b, D + 2 ≤ b → w2.heap[b]? = w1.heap[b]?) → w2.heap.size = w1.heap.size →
        body.wpIn (Fence.wide.inRound (D + 1)) m Tryz.prog (Exit.then (fun a3 w3 => I (j + 1) w3 ∧ w2.heap.size ≤ w3.heap.size ∧ ∀ b, D ≤ b → b < w2.heap.size → w3.heap[b]? = w2.heap[b]?) (fun _ _ _ => False)) a1 w2) (fun _ _ _ => False))
        { tmps := (a.tmps.setIfInBounds t (.int .i64 j)).setIfInBounds u (.agg (h8 (tr j []))), defers := [] } W)
    (hdone : ∀ W' o, I c W' → D + 2 ≤ W'.heap.size → W'.heap[D]? = some (.deferred (some [])) → Q .normal { a with defers := { target := .collected D, args := #[] } :: a.defers } (W'.putObj (D + 1) o)) :
    (Code.rangeFunc g #[t, u] assign body).wpIn Fence.wide 3 Tryz.prog Q a W0 := by
  refine wp_range2 170 #[.pointer (some ⟨gc, 0, none⟩)] hg (enters_of Tryz.func170 (by kernel_rfl) rfl) (fun W => I c W ∧ D + 2 ≤ W.heap.size) ?_ (fun W' o h1 h2 => by rw [hD] at h2 ⊢; exact hdone W' o h1.1 h1.2 h2)
  intro rc h1 hpend h2 h3 h4 h5
  rw [hD]
  refine (empt_in 2 (D + 1) gc c (D + 2) (by omega) (fun j W => I j W ∧ W.heap[D]? = some (.deferred (some [])) ∧ W.heap[D + 1]? = some (.loop rc) ∧ D + 2 ≤ W.heap.size) ?hJc ?hJB ?hY _ ?h0 hc).mono ?fin
  case hJc => exact fun j W h => ⟨hIc j W h.1, h.2.2.2⟩
  case hJB => exact fun j W W' h hb => ⟨hIB j W W' h.1 (hb.mono (by omega)), (hb.block D (by omega)).trans h.2.1, (hb.block (D + 1) (by omega)).trans h.2.2.1, Nat.le_trans h.2.2.2 hb.size⟩
  case fin =>
    rintro e W' ⟨hv, hI, hdf, hlp, hsz⟩
    exact ⟨hv, ⟨hI, hsz⟩, hlp, hdf⟩
  case h0 =>
    have hb : Below D W0 ((W0.alloc (.deferred (some []))).alloc (.loop rc)) := by
      rw [← hD]; exact (alloc_bel' W0 _).alloc (by simp) _
    refine ⟨hIB 0 W0 _ h0 hb, ?_, ?_, by simp; omega⟩
    · rw [Below.heap_alloc _ _ _ (by simp; omega), ← hD]; exact heap_alloc_new W0 _
    · have := heap_alloc_new (W0.alloc (.deferred (some []))) (.loop rc)
      rwa [World.size_alloc, hD] at this
  case hY =>
    rintro j W ⟨hI, hdf, hlp, hsz⟩ hj
    refine yield_at2 _ _ hlp h2 ?_
    rw [h3, h4, h5]
    refine wpIn_mono (hround j W hI hj hsz _) ?_
    intro e a1 w1 hq
    cases e with
    | normal =>
      obtain ⟨hb1, hbody⟩ := hq
      have hl1 : w1.heap[D + 1]? = some (.loop rc) := (hb1.block _ (by omega)).trans hlp
      have hs1 := hb1.size
      refine ⟨_, run_beginRound hl1 h1, ?_⟩
      have hs2 : (w1.putObj (D + 1) (.loop { rc with state := .busy })).heap.size = w1.heap.size := by simp
      refine wpIn_mono (hbody _ (below_put (Below.refl _ _) (Nat.le_refl _) _) (fun b hb => World.putObj_heap_other (by omega)) hs2) ?_
      intro e a3 w3 hq3
      cases e with
      | normal =>
        obtain ⟨hI3, hs3, hk3⟩ := hq3
        rw [hs2] at hs3 hk3
        have l3 : w3.heap[D + 1]? = some (.loop { rc with state := .busy }) := (hk3 _ (by omega) (by omega)).trans (World.putObj_heap_same (by omega))
        refine ⟨_, _, run_endRound none l3, rfl, ⟨?_, ?_, ?_, ?_⟩, ?_⟩
        · exact hIB (j + 1) w3 _ hI3 (below_put (Below.refl _ _) (by omega) _)
        · rw [World.putObj_heap_other (by omega), hk3 D (Nat.le_refl _) (by omega), World.putObj_heap_other (by omega)]
          exact (hb1.block D (by omega)).trans hdf
        · rw [World.putObj_heap_same (by omega)]
          obtain ⟨st, pe, fn', tm, ps, asg, bd, df⟩ := rc
          cases h1; cases hpend
          rfl
        · simp; omega
        · intro b hb1' hb2
          rw [World.putObj_heap_other (by omega), hk3 b (by omega) (by omega), World.putObj_heap_other (by omega)]
          exact hb1.block b hb2
      | _ => exact hq3.elim
    | _ => exact hq.elim
end Go.Proofs.YtneihkegipcakaaGreat
/- Layer trace: what the layers below give. -/
namespace Go.Proofs.YtneihkegipcakaaGreat
open Go.RowKit
set_option maxRecDepth 100000
set_option linter.unusedVariables false
set_option linter.unusedSimpArgs false

/-- How many noughts are put behind n bytes and the byte 128. -/
def nulls (n : Nat) : Nat := (119 - n % 64) % 64
def zerosL (k : Nat) : List Int := List.replicate k 0
/-- The first j of the length's eight bytes, the highest first. -/
def lenL (n j : Nat) : List Int := (List.range j).map fun t => (n : Int) * 8 / 2 ^ (8 * (7 - t)) % 256
def padL (L : List Int) : List Int := L ++ [128] ++ zerosL (nulls L.length) ++ lenL L.length 8
theorem zerosL_len (k : Nat) : (zerosL k).length = k := by simp [zerosL]
theorem zerosL_succ (k : Nat) : zerosL k ++ [0] = zerosL (k + 1) := by simp [zerosL, List.replicate_succ']
theorem lenL_succ (n j : Nat) : lenL n j ++ [(n : Int) * 8 / 2 ^ (8 * (7 - j)) % 256] = lenL n (j + 1) := by simp [lenL, List.range_succ]
theorem nulls_mod (n : Nat) : (n + 1 + nulls n) % 64 = 56 := by unfold nulls; omega
theorem nulls_lt (n k : Nat) (h : k < nulls n) : (n + 1 + k) % 64 ≠ 56 := by unfold nulls at h; omega
theorem nulls_le (n : Nat) : nulls n ≤ 63 := by unfold nulls; omega
def vlen : Value → Nat | .slice _ l _ => l | _ => 0
set_option maxRecDepth 100000 in
set_option maxHeartbeats 1000000 in
theorem padded_any (sp : Option Addr) (n cap : Nat) (L : List Int) (w : World) (hn : Hid (n = L.length)) (hnil : sp = none → n = 0 ∧ cap = 0) (hS : SlL w sp L) (hb : n ≤ 140737488355000) :
    Calls Tryz.prog 102 #[.slice sp n cap] w fun e w' => ∃ v, e = .returned v ∧ w'.ownsRow w.heap.size 5 1 v (n + 1 + nulls n + 8) (by8 (padL L)) ∧ Below w.heap.size w w' := by
  have hnI : (n : Int) ≤ 140737488355000 := by omega
  have hn0 : (0 : Int) ≤ n := by omega
  have hlit : (w.alloc (.cells #[] 5)).ownsRow w.heap.size 5 1 (.slice (some ⟨w.heap.size, 0, none⟩) 0 0) 0 (by8 []) := World.ownsRow_lit _ _ _ (Nat.le_refl _) (by unfold maxLen; omega) rfl
  go_enter Tryz.func102, Tryz.ntmps102
  go_wp2_with (first
    | (at_builtin; refine append_bytes (by rfl) (.tmp 6) (.tmp 7) (by rfl) w.heap.size _ 0 [] (by rfl) hlit sp n cap L (by rfl) hn.out hnil (Sl.alloc hS _) (by omega) (by simp) ?_; intro v1 w1 hown1 hg1; have hs1 : w.heap.size ≤ w1.heap.size := (by have := hg1.size; simp at this; omega))
    | (at_builtin; refine append_bytes (by rfl) (.tmp 8) (.tmp 9) (by rfl) w.heap.size _ n ([] ++ L) (by rfl) ((show w1.ownsRow w.heap.size 5 1 v1 n (by8 ([] ++ L)) from (by simpa using hown1)).alloc _) (some ⟨w1.heap.size, 0, none⟩) 1 1 [128] (by rfl) (by rfl) (fun h => by cases h) (Arr.sl (Arr.new w1 5 _)) (by omega) (by simp; omega) ?_; intro v2 w2 hown2 hg2))
  have hs2 : w.heap.size ≤ w2.heap.size := by have := hg2.size; simp at this; omega
  have hB2 : Below w.heap.size w w2 := ((((Below.refl _ _).alloc (Nat.le_refl _) _).grown hg1 (by simp) (fun k e => by simp [Value.ownBlock] at e; omega)).alloc hs1 _).grown hg2 (by simp; omega) (fun k e => own_ge hown1 k e)
  have hown2 : w2.ownsRow w.heap.size 5 1 v2 (n + 1) (by8 (L ++ [128])) := by simpa using hown2
  clear hown1 hg1 hg2 hs1 hlit hS
  obtain ⟨g2, cap2, rfl, -, hc2, -⟩ := own_slice hown2 (by omega)
  go_loopw [3] (fun v wr => ∃ (k g c : Nat), k ≤ nulls n ∧ v = .slice (some ⟨g, 0, none⟩) (n + 1 + k) c ∧ wr.ownsRow w.heap.size 5 1 v (n + 1 + k) (by8 (L ++ [128] ++ zerosL k)) ∧ Below w.heap.size w wr)
    (fun v _ => n + 1 + nulls n - vlen v)
  case atStart => exact ⟨0, g2, cap2, by omega, rfl, by simpa [zerosL] using hown2, hB2⟩
  case round =>
    clear hown2 hB2 hs2
    obtain ⟨k, g, c, hk, rfl, hown, hbl⟩ := hrel
    have hkI : (k : Int) ≤ 63 := by have := nulls_le n; omega
    have hN := nulls_le n
    by_cases hlt : k < nulls n
    · have hm : ¬ ((n : Int) + 1 + k) % 64 = 56 := by have := nulls_lt n k hlt; omega
      have hm' : (((n : Int) + 1 + k) % 64 == 56) = false := by simpa using hm
      go_wp2_with (at_builtin; go_must (refine append_bytes (by rfl) (.tmp 15) (.tmp 16) (by rfl) w.heap.size _ (n + 1 + k) (L ++ [128] ++ zerosL k) (by rfl) (hown.alloc _) (some ⟨wr.heap.size, 0, none⟩) 1 1 [0] (by rfl) (by rfl) (fun h => by cases h) (Arr.sl (Arr.new wr 5 _)) (by omega) (by have := hbl.size; simp; omega) ?_; intro v3 w3 hown3 hg3))
      have hs3 : w.heap.size ≤ wr.heap.size := hbl.size
      have hB3 : Below w.heap.size w w3 := (hbl.alloc hs3 _).grown hg3 (by simp; omega) (fun k e => own_ge hown k e)
      obtain ⟨g3, c3, rfl, -, hc3, -⟩ := own_slice hown3 (by omega)
      go_roundw
      case rel => exact ⟨k + 1, g3, c3, by omega, by rw [Nat.add_assoc (n + 1) k 1], by rw [← zerosL_succ, ← List.append_assoc, ← Nat.add_assoc]; exact hown3, hB3⟩
      case measure => simp only [vlen]; omega
    · obtain rfl : k = nulls n := by omega
      have hm : ((n : Int) + 1 + nulls n) % 64 = 56 := by have := nulls_mod n; omega
      go_wp2
      obtain ⟨wo, rfl⟩ : ∃ wo : World, wo = wr := ⟨_, rfl⟩
      go_loopw [3, 5] (fun v i wr => ∃ (j g c : Nat), j ≤ 8 ∧ i = .int .i64 (7 - (j : Int)) ∧ v = .slice (some ⟨g, 0, none⟩) (n + 1 + nulls n + j) c ∧ wr.ownsRow w.heap.size 5 1 v (n + 1 + nulls n + j) (by8 (L ++ [128] ++ zerosL (nulls n) ++ lenL n j)) ∧ Below w.heap.size w wr)
        (fun v _ _ => n + 1 + nulls n + 8 - vlen v)
      case atStart => exact ⟨0, g, c, by omega, rfl, rfl, by simpa [lenL] using hown, hbl⟩
      case round =>
        clear hown hbl hm
        obtain ⟨j, g, c, hj, rfl, rfl, hown, hbl⟩ := hrel
        have hjI : (j : Int) ≤ 8 := by omega
        have hj0 : (0 : Int) ≤ j := by omega
        by_cases hlt : j < 8
        · have h7 : (0 : Int) ≤ 7 - (j : Int) := by omega
          have e8 : (8 * (7 - (j : Int))).toNat = 8 * (7 - j) := by omega
          go_wp2_with (at_builtin; go_must (refine append_bytes (by rfl) (.tmp 26) (.tmp 33) (by rfl) w.heap.size _ (n + 1 + nulls n + j) (L ++ [128] ++ zerosL (nulls n) ++ lenL n j) (by rfl) (hown.alloc _) (some ⟨wr.heap.size, 0, none⟩) 1 1 [(n : Int) * 8 / 2 ^ (8 * (7 - j)) % 256] (by rfl) (by rfl) (fun h => by cases h) (Arr.sl (Arr.new wr 5 _)) (by omega) (by have := hbl.size; simp; omega) ?_; intro v3 w3 hown3 hg3))
          have hs3 : w.heap.size ≤ wr.heap.size := hbl.size
          have hB3 : Below w.heap.size w w3 := (hbl.alloc hs3 _).grown hg3 (by simp; omega) (fun k e => own_ge hown k e)
          obtain ⟨g3, c3, rfl, -, hc3, -⟩ := own_slice hown3 (by omega)
          go_wp2
          go_roundw
          case rel => exact ⟨j + 1, g3, c3, by omega, by go_num, by rw [Nat.add_assoc (n + 1 + nulls n) j 1], by rw [← lenL_succ, ← List.append_assoc, ← Nat.add_assoc]; exact hown3, hB3⟩
          case measure => simp only [vlen]; omega
        · obtain rfl : j = 8 := by omega
          go_wp2
          go_ret
          refine ⟨_, rfl, ?_, hbl⟩
          have := hn.out
          unfold padL
          rw [← this]
          exact hown
end Go.Proofs.YtneihkegipcakaaGreat

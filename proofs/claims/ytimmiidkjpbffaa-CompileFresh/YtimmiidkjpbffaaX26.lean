/- Layer compile: what the layers below give. -/
import Derived.Test.YtimmiidkjpbffaaX01
import Derived.Test.YtimmiidkjpbffaaX02
import Derived.Test.YtimmiidkjpbffaaX08
import Derived.Test.YtimmiidkjpbffaaX25
import Derived.BigQuiet
import Derived.BigRegion
import Derived.ChangeKeysEq
import Derived.Deep.DeepCutAuto
import Derived.Deep.DrawnRows
import Derived.Deep.MidRow
import Derived.Deep.QuietTactic
import Derived.Deep.RegionHeld3
import Derived.Deep.RegionLaw
import Derived.Deep.RegionWith
import Derived.Deep.WholeRow
import Derived.Laws.AppendOwnNone
import Derived.Laws.BitsLemmas
import Derived.Laws.BytesArg
import Derived.Laws.CopyOwn
import Derived.Lib.SlBytesConst
import Derived.LoopIn
import Derived.LoopNIn
import Derived.OwnWalkIn
import Derived.RangeFuncBound
import Derived.RangeFuncCalls
import Derived.RangeFuncLeaves
import Derived.RangeFuncNested
import Derived.RangeFuncRecord
import Derived.Shelf.Abstract
import Derived.Shelf.RegionOpen
import Derived.TacticsInMore
import Derived.WalkKit
import Derived.WalkLawsBesides
import Derived.WalkSpells
namespace Go.Proofs.Ytimmiidkjpbffaa
open Go.RowKit
set_option maxRecDepth 100000
set_option linter.unusedVariables false
set_option linter.unusedSimpArgs false
attribute [local go_sem ↓] Go.wp_at_zero Go.wp_at_succ

theorem St.get (s : St) {t : Nat} (h : t < 8) : s.cells[t]? = some (.int .u32 (s.at t)) := by
  match t, h with
  | 0, _ => rfl
  | 1, _ => rfl
  | 2, _ => rfl
  | 3, _ => rfl
  | 4, _ => rfl
  | 5, _ => rfl
  | 6, _ => rfl
  | 7, _ => rfl
theorem plus_at (s r : St) {t : Nat} (h : t < 8) : (s.plus r).at t = (s.at t + r.at t) % 4294967296 := by
  match t, h with
  | 0, _ => rfl
  | 1, _ => rfl
  | 2, _ => rfl
  | 3, _ => rfl
  | 4, _ => rfl
  | 5, _ => rfl
  | 6, _ => rfl
  | 7, _ => rfl
set_option maxRecDepth 100000 in
set_option maxHeartbeats 2000000 in
theorem refBlock_any (s : St) (b off cap : Nat) (B : Nat → Int) (w : World) (hB : Bytes w b off 64 B) :
    Calls Try.prog 94 #[.agg s.cells, .slice (some ⟨b, off, none⟩) 64 cap] w fun e w' => e = .returned (.agg (s.plus (rnd kOf (WW B) s 64)).cells) ∧ Below w.heap.size w w' := by
  have hb : b < w.heap.size := block_lt_of_cell (hB 0 (by omega))
  have hs8 := St.size s
  have hR0 : Arr ((w.alloc (.cells s.cells 148)).alloc (.cells (St.cells ⟨0, 0, 0, 0, 0, 0, 0, 0⟩) 148)) (w.heap.size + 1) 148 (St.cells ⟨0, 0, 0, 0, 0, 0, 0, 0⟩) := by simpa using Arr.new (w.alloc (.cells s.cells 148)) 148 _
  have hH0 : Arr ((w.alloc (.cells s.cells 148)).alloc (.cells (St.cells ⟨0, 0, 0, 0, 0, 0, 0, 0⟩) 148)) w.heap.size 148 s.cells := (Arr.new _ _ _).alloc _
  go_enter Try.func94, Try.ntmps94
  go_upto_region 3 with (first
    | (go_at_call 97; go_must (refine (kays_any _).mono ?_; rintro e w1 ⟨rfl, hb1⟩))
    | (refine wpList_store_new w1 _ 155 (by rfl) 155 (.tmp 5) (.tmp 19) (by rfl) kCells (by rfl) (by rfl) (Eq.trans size46 (by rfl)) (by rfl) (one_ints kCells_size kCells_get) ?_))
  have hs1 : w.heap.size + 2 ≤ w1.heap.size := by have := hb1.size; simpa using this
  have hB1 : Below w.heap.size w w1 := ((((Below.refl _ _).alloc (Nat.le_refl _) _).alloc (by simp) _).trans (hb1.mono (by simp; omega)))
  have hH1 : Arr w1 w.heap.size 148 s.cells := hH0.below hb1 (by simp; omega)
  have hR1 : Arr w1 (w.heap.size + 1) 148 _ := hR0.below hb1 (by simp)
  clear hH0 hR0 hb1
  have hKn := (Arr.new w1 155 kCells)
  go_wp2_with fail
  go_loopw [7] (fun i wr => ∃ (k : Nat) (C : Array Value) (Z : St), k ≤ 16 ∧ i = .int .i64 k ∧ Arr wr w.heap.size 148 s.cells ∧ Arr wr (w.heap.size + 1) 148 Z.cells ∧ Arr wr w1.heap.size 155 kCells ∧ Arr wr (w1.heap.size + 1) 155 C ∧ C.size = 64 ∧ (∀ t, t < k → C[t]? = some (.int .u32 (WW B t))) ∧ Below w.heap.size w wr)
    (fun i _ => 16 - (intOf i).toNat)
  case atStart => exact ⟨0, _, _, by omega, rfl, (hH1.alloc _).alloc _, (hR1.alloc _).alloc _, hKn.alloc _, by simpa using Arr.new (w1.alloc (.cells kCells 155)) 155 _, rfl, fun t h => by omega, (hB1.alloc (by omega) _).alloc (by simp; omega) _⟩
  case round =>
    clear hH1 hR1 hKn hB1
    generalize w1.heap.size = g5 at *
    obtain ⟨k, C, Z, hk, rfl, hH, hR, hK, hC, hCs, hw, hbl⟩ := hrel
    by_cases hlt : k < 16
    · have h3 : (k : Int) < 16 := by omega
      have h4 : (0 : Int) ≤ k := by omega
      have c0 : wr.cell? ⟨b, off + 4 * k, none⟩ = some (.int .u8 (B (4 * k))) := by have := (hbl.cell (p := ⟨b, off + (4 * k), none⟩) hb).trans (hB (4 * k) (by omega)); exact this
      have c1 : wr.cell? ⟨b, off + (4 * k + 1), none⟩ = some (.int .u8 (B (4 * k + 1))) := by have := (hbl.cell (p := ⟨b, off + (4 * k + 1), none⟩) hb).trans (hB (4 * k + 1) (by omega)); exact this
      have c2 : wr.cell? ⟨b, off + (4 * k + 2), none⟩ = some (.int .u8 (B (4 * k + 2))) := by have := (hbl.cell (p := ⟨b, off + (4 * k + 2), none⟩) hb).trans (hB (4 * k + 2) (by omega)); exact this
      have c3 : wr.cell? ⟨b, off + (4 * k + 3), none⟩ = some (.int .u8 (B (4 * k + 3))) := by have := (hbl.cell (p := ⟨b, off + (4 * k + 3), none⟩) hb).trans (hB (4 * k + 3) (by omega)); exact this
      have cC : wr.cell? ⟨g5 + 1, k, none⟩ = some (C[k]'(by omega)) := by rw [hC.cell, Array.getElem?_eq_getElem]
      have cF := hC.frozen k
      have hne : b ≠ g5 + 1 := by omega
      have hne' : g5 + 1 ≠ b := by omega
      have h5 : (k : Int) < 64 := by omega
      have i0 : IntKind.i64.wrap (4 * (k : Int)) = 4 * (k : Int) := by simp [IntKind.wrap, IntKind.bits, IntKind.signed]; omega
      have i1 : IntKind.i64.wrap (4 * (k : Int) + 1) = 4 * (k : Int) + 1 := by simp [IntKind.wrap, IntKind.bits, IntKind.signed]; omega
      have i2 : IntKind.i64.wrap (4 * (k : Int) + 2) = 4 * (k : Int) + 2 := by simp [IntKind.wrap, IntKind.bits, IntKind.signed]; omega
      have i3 : IntKind.i64.wrap (4 * (k : Int) + 3) = 4 * (k : Int) + 3 := by simp [IntKind.wrap, IntKind.bits, IntKind.signed]; omega
      have a0 : (0 : Int) ≤ 4 * (k : Int) := by omega
      have a1 : (0 : Int) ≤ 4 * (k : Int) + 1 := by omega
      have a2 : (0 : Int) ≤ 4 * (k : Int) + 2 := by omega
      have a3 : (0 : Int) ≤ 4 * (k : Int) + 3 := by omega
      have z0 : 4 * (k : Int) < 64 := by omega
      have z1 : 4 * (k : Int) + 1 < 64 := by omega
      have z2 : 4 * (k : Int) + 2 < 64 := by omega
      have z3 : 4 * (k : Int) + 3 < 64 := by omega
      have t0 : (4 * (k : Int)).toNat = 4 * k := by omega
      have t1 : (4 * (k : Int) + 1).toNat = 4 * k + 1 := by omega
      have t2 : (4 * (k : Int) + 2).toNat = 4 * k + 2 := by omega
      have t3 : (4 * (k : Int) + 3).toNat = 4 * k + 3 := by omega
      clear hB
      go_wp2
      go_region_held3 (fun w' => w'.cell? ⟨b, off + 4 * k, none⟩ = some (.int .u8 (B (4 * k))) ∧ w'.cell? ⟨b, off + (4 * k + 1), none⟩ = some (.int .u8 (B (4 * k + 1))) ∧ w'.cell? ⟨b, off + (4 * k + 2), none⟩ = some (.int .u8 (B (4 * k + 2))) ∧ w'.cell? ⟨b, off + (4 * k + 3), none⟩ = some (.int .u8 (B (4 * k + 3)))) (go_keep) (fail)
      all_goals go_wp2
      all_goals go_roundw
      case rel =>
        have e := WW_lo B k hlt
        refine ⟨k + 1, _, Z, by omega, by go_num, (hH.setOther _ (by simp; omega)).drew, (hR.setOther _ (by simp; omega)).drew, (hK.setOther _ (by simp)).drew, (hC.set k _).drew, by simp [hCs], ?_, (hbl.setCell (by simp; omega) _).drew⟩
        have := set_step (f := fun t => .int .u32 (WW B t)) hCs (by omega) hw
        simp only [e] at this
        exact this
      case measure => simp [intOf]; omega
    · obtain rfl : k = 16 := by omega
      clear hlt hk hB
      obtain ⟨wo, rfl⟩ : ∃ wo : World, wo = wr := ⟨_, rfl⟩
      go_wp2_with fail
      go_loopw [8] (fun i wr => ∃ (k : Nat) (C : Array Value), 16 ≤ k ∧ k ≤ 64 ∧ i = .int .i64 k ∧ Arr wr w.heap.size 148 s.cells ∧ Arr wr (w.heap.size + 1) 148 Z.cells ∧ Arr wr g5 155 kCells ∧ Arr wr (g5 + 1) 155 C ∧ C.size = 64 ∧ (∀ t, t < k → C[t]? = some (.int .u32 (WW B t))) ∧ Below w.heap.size w wr)
        (fun i _ => 64 - (intOf i).toNat)
      case atStart => exact ⟨16, C, by omega, by omega, rfl, hH, hR, hK, hC, hCs, hw, hbl⟩
      case round =>
        clear hC hCs hw hbl hH hR hK
        obtain ⟨k, C, hk, hk2, rfl, hH, hR, hK, hC, hCs, hw, hbl⟩ := hrel
        by_cases hlt : k < 64
        · have h3 : (k : Int) < 64 := by omega
          have h4 : (16 : Int) ≤ k := by omega
          have c2 : wr.cell? ⟨g5 + 1, k - 2, none⟩ = some (.int .u32 (WW B (k - 2))) := (hC.cell _).trans (hw _ (by omega))
          have c7 : wr.cell? ⟨g5 + 1, k - 7, none⟩ = some (.int .u32 (WW B (k - 7))) := (hC.cell _).trans (hw _ (by omega))
          have c15 : wr.cell? ⟨g5 + 1, k - 15, none⟩ = some (.int .u32 (WW B (k - 15))) := (hC.cell _).trans (hw _ (by omega))
          have c16 : wr.cell? ⟨g5 + 1, k - 16, none⟩ = some (.int .u32 (WW B (k - 16))) := (hC.cell _).trans (hw _ (by omega))
          have e2 : ((k : Int) - 2).toNat = k - 2 := by omega
          have e7 : ((k : Int) - 7).toNat = k - 7 := by omega
          have e15 : ((k : Int) - 15).toNat = k - 15 := by omega
          have e16 : ((k : Int) - 16).toNat = k - 16 := by omega
          have w2 : IntKind.i64.wrap ((k : Int) - 2) = (k : Int) - 2 := by simp [IntKind.wrap, IntKind.bits, IntKind.signed]; omega
          have a2 : (2 : Int) ≤ (k : Int) := by omega
          have z2 : (k : Int) - 2 < 64 := by omega
          have w7 : IntKind.i64.wrap ((k : Int) - 7) = (k : Int) - 7 := by simp [IntKind.wrap, IntKind.bits, IntKind.signed]; omega
          have a7 : (7 : Int) ≤ (k : Int) := by omega
          have z7 : (k : Int) - 7 < 64 := by omega
          have w15 : IntKind.i64.wrap ((k : Int) - 15) = (k : Int) - 15 := by simp [IntKind.wrap, IntKind.bits, IntKind.signed]; omega
          have a15 : (15 : Int) ≤ (k : Int) := by omega
          have z15 : (k : Int) - 15 < 64 := by omega
          have w16 : IntKind.i64.wrap ((k : Int) - 16) = (k : Int) - 16 := by simp [IntKind.wrap, IntKind.bits, IntKind.signed]; omega
          have a16 : (16 : Int) ≤ (k : Int) := by omega
          have z16 : (k : Int) - 16 < 64 := by omega
          generalize hx15 : WW B (k - 15) = x15 at *
          generalize hx2 : WW B (k - 2) = x2 at *
          generalize hx7 : WW B (k - 7) = x7 at *
          generalize hx16 : WW B (k - 16) = x16 at *
          have hWk : Hid (WW B k = (sg1 x2 + x7 + sg0 x15 + x16) % 4294967296) := by show _ = _; rw [WW_hi B k hk hlt, hx15, hx2, hx7, hx16]
          have HW := Hid.mk' hw
          clear hx15 hx2 hx7 hx16 hw
          go_wp2
          go_quiet ((go_at_call 98; exact Calls.quiet_of_same (turn_any _ _ _ (by omega) (by omega))))
          have E0 : bits .xor .u32 (bits .xor .u32 (rotr x15 7) (rotr x15 18)) (x15 / 8) = sg0 x15 := rfl
          have hH := hH.drewN nq
          have hR := hR.drewN nq
          have hK := hK.drewN nq
          have hC := hC.drewN nq
          have hbl := below_drewN hbl nq
          have c2 : (wr.drewN nq).cell? ⟨g5 + 1, k - 2, none⟩ = some (.int .u32 x2) := c2
          have c7 : (wr.drewN nq).cell? ⟨g5 + 1, k - 7, none⟩ = some (.int .u32 x7) := c7
          have c16 : (wr.drewN nq).cell? ⟨g5 + 1, k - 16, none⟩ = some (.int .u32 x16) := c16
          rw [E0]
          clear E0 c15 e15 w15 a15 z15
          generalize wr.drewN nq = wa at *
          go_wp2
          go_quiet ((go_at_call 98; exact Calls.quiet_of_same (turn_any _ _ _ (by omega) (by omega))))
          have E1 : bits .xor .u32 (bits .xor .u32 (rotr x2 17) (rotr x2 19)) (x2 / 1024) = sg1 x2 := rfl
          have hH := hH.drewN nq
          have hR := hR.drewN nq
          have hK := hK.drewN nq
          have hC := hC.drewN nq
          have hbl := below_drewN hbl nq
          have c7 : (wa.drewN nq).cell? ⟨g5 + 1, k - 7, none⟩ = some (.int .u32 x7) := c7
          have c16 : (wa.drewN nq).cell? ⟨g5 + 1, k - 16, none⟩ = some (.int .u32 x16) := c16
          rw [E1]
          clear E1 c2 e2 w2 a2 z2
          generalize wa.drewN nq = wc at *
          have cC : wc.cell? ⟨g5 + 1, k, none⟩ = some (C[k]'(by omega)) := by rw [hC.cell, Array.getElem?_eq_getElem]
          have cF := hC.frozen k
          have n7 : k ≠ k - 7 := by omega
          have n16 : k ≠ k - 16 := by omega
          generalize sg0 x15 = s0 at *
          generalize sg1 x2 = s1 at *
          go_wp2
          go_region_held3 (fun w' => w'.cell? ⟨g5 + 1, k - 7, none⟩ = some (.int .u32 x7) ∧ w'.cell? ⟨g5 + 1, k - 16, none⟩ = some (.int .u32 x16)) (first | exact ⟨keep_set c7 n7, keep_set c16 n16⟩ | go_keep) (fail)
          all_goals go_wp2
          all_goals go_roundw
          case rel =>
            repeat apply Exists.intro
            refine And.intro ?_ rfl
            have e' : WW B k = (((s1 + x7) % 4294967296 + s0) % 4294967296 + x16) % 4294967296 := by rw [hWk.out]; omega
            refine ⟨k + 1, _, by omega, by omega, by go_num, (hH.setOther _ (by simp; omega)).drew, (hR.setOther _ (by simp; omega)).drew, (hK.setOther _ (by simp)).drew, (hC.set k _).drew, by simp [hCs], ?_, (hbl.setCell (by simp; omega) _).drew⟩
            have := set_step (f := fun t => .int .u32 (WW B t)) hCs (by omega) HW.out
            rw [← e']
            exact this
          case measure => simp [intOf]; omega
        · obtain rfl : k = 64 := by omega
          clear hlt hk hk2
          have HW := Hid.mk' hw
          clear hw
          obtain ⟨wo2, rfl⟩ : ∃ wo2 : World, wo2 = wr := ⟨_, rfl⟩
          go_wp2_with (first
            | (refine wpList_load_row rfl 148 (.tmp 2) rfl w.heap.size rfl 148 s.cells (0, 0) _ hH Try.underlying148 rfl (s48 _) ?_)
            | (refine wpList_store_new wo2 _ 148 (by rfl) 148 (.tmp 11) (.tmp 112) (by rfl) s.cells (by rfl) (by rfl) (s48 _) (by rfl) (St.one _) ?_))
          have hV := Arr.new wo2 148 s.cells
          have hg11 : g5 + 1 < wo2.heap.size := hC.lt
          have hH := hH.alloc (.cells s.cells 148)
          have hR := hR.alloc (.cells s.cells 148)
          have hK := hK.alloc (.cells s.cells 148)
          have hC := hC.alloc (.cells s.cells 148)
          have hbl := hbl.alloc hbl.size (.cells s.cells 148)
          generalize wo2.alloc (.cells s.cells 148) = wv at *
          generalize wo2.heap.size = g11 at *
          go_loopw [12] (fun i wr => ∃ k : Nat, k ≤ 64 ∧ i = .int .i64 k ∧ Arr wr g11 148 (rnd kOf (WW B) s k).cells ∧ Arr wr w.heap.size 148 s.cells ∧ Arr wr (w.heap.size + 1) 148 Z.cells ∧ Arr wr g5 155 kCells ∧ Arr wr (g5 + 1) 155 C ∧ Below w.heap.size w wr)
            (fun i _ => 64 - (intOf i).toNat)
          case atStart => exact ⟨0, by omega, rfl, hV, hH, hR, hK, hC, hbl⟩
          case round =>
            clear hV hH hR hK hC hbl
            obtain ⟨k, hk, rfl, hV, hH, hR, hK, hC, hbl⟩ := hrel
            by_cases hlt : k < 64
            · have h3 : (k : Int) < 64 := by omega
              have h4 : (0 : Int) ≤ k := by omega
              have cK : wr.cell? ⟨g5, k, none⟩ = some (.int .u32 (kOf k)) := (hK.cell k).trans (kCells_get k hlt)
              have cW : wr.cell? ⟨g5 + 1, k, none⟩ = some (.int .u32 (WW B k)) := (hC.cell k).trans (HW.out k hlt)
              generalize hr : rnd kOf (WW B) s k = r at *
              generalize hkk : kOf k = kk at *
              generalize hww : WW B k = ww at *
              have hst : Hid (rnd kOf (WW B) s (k + 1) = step r kk ww) := by show _ = _; rw [rnd, hr, hkk, hww]
              clear hr hkk hww
              obtain ⟨v0, v1, v2, v3, v4, v5, v6, v7⟩ := hV.cells8
              go_wp2
              go_quiet (fail)
              clear v0 v1 v2 v3 v4 v5 v6 v7
              have hH := hH.drewN nq
              have hR := hR.drewN nq
              have hK := hK.drewN nq
              have hC := hC.drewN nq
              have hV := hV.drewN nq
              have hbl := below_drewN hbl nq
              have cK : (wr.drewN nq).cell? ⟨g5, k, none⟩ = some (.int .u32 kk) := cK
              have cW : (wr.drewN nq).cell? ⟨g5 + 1, k, none⟩ = some (.int .u32 ww) := cW
              generalize wr.drewN nq = wa at *
              obtain ⟨v0, v1, v2, v3, v4, v5, v6, v7⟩ := hV.cells8
              go_wp2
              go_quiet ((go_at_call 98; exact Calls.quiet_of_same (turn_any _ _ _ (by omega) (by omega))))
              clear v0 v1 v2 v3 v4 v5 v6 v7
              have hH := hH.drewN nq
              have hR := hR.drewN nq
              have hK := hK.drewN nq
              have hC := hC.drewN nq
              have hV := hV.drewN nq
              have hbl := below_drewN hbl nq
              clear cK cW
              generalize wa.drewN nq = wb at *
              obtain ⟨v0, v1, v2, v3, v4, v5, v6, v7⟩ := hV.cells8
              go_wp2
              go_quiet ((go_at_call 98; exact Calls.quiet_of_same (turn_any _ _ _ (by omega) (by omega))))
              clear v0 v1 v2 v3 v4 v5 v6 v7
              have hH := hH.drewN nq
              have hR := hR.drewN nq
              have hK := hK.drewN nq
              have hC := hC.drewN nq
              have hV := hV.drewN nq
              have hbl := below_drewN hbl nq
              generalize wb.drewN nq = wc at *
              have T1e : (r.h + bits .xor .u32 (bits .xor .u32 (rotr r.e 6) (rotr r.e 11)) (rotr r.e 25) + bits .xor .u32 (bits .and .u32 r.e r.f) (bits .and .u32 (bits .xor .u32 IntKind.u32.max r.e) r.g) + kk + ww) % 4294967296 = (r.h + bg1 r.e + cho r.e r.f r.g + kk + ww) % 4294967296 := by rw [cho_xor]; rfl
              have T2e : (bits .xor .u32 (bits .xor .u32 (rotr r.a 2) (rotr r.a 13)) (rotr r.a 22) + bits .xor .u32 (bits .xor .u32 (bits .and .u32 r.a r.b) (bits .and .u32 r.a r.c)) (bits .and .u32 r.b r.c)) % 4294967296 = (bg0 r.a + maj r.a r.b r.c) % 4294967296 := by rw [maj_xor]; rfl
              rw [T1e, T2e]
              generalize hT1 : (r.h + bg1 r.e + cho r.e r.f r.g + kk + ww) % 4294967296 = T1
              generalize hT2 : (bg0 r.a + maj r.a r.b r.c) % 4294967296 = T2
              have hst' : Hid (rnd kOf (WW B) s (k + 1) = ⟨(T1 + T2) % 4294967296, r.a, r.b, r.c, (r.d + T1) % 4294967296, r.e, r.f, r.g⟩) := by show _ = _; rw [hst.out]; unfold step; rw [hT1, hT2]
              clear hst hT1 hT2 T1e T2e
              obtain ⟨v0, v1, v2, v3, v4, v5, v6, v7⟩ := hV.cells8
              generalize hA : (T1 + T2) % 4294967296 = xA at hst'
              generalize hE : (r.d + T1) % 4294967296 = xE at hst'
              go_wp2_with (refine wpList_store_arr (w := wc) (by rfl) 148 (.tmp 11) (.tmp 191) (by rfl) g11 (St.cells ⟨xA, r.a, r.b, r.c, xE, r.e, r.f, r.g⟩) (by rfl) (by rfl) 148 _ hV (s48 _) (by rw [St.size, St.size]) (St.one _) ?_)
              go_roundw
              case rel => exact ⟨k + 1, by omega, by go_num, by rw [hst'.out]; exact hV.setRow _, hH.setRowOther _ (by omega), hR.setRowOther _ (by omega), hK.setRowOther _ (by omega), hC.setRowOther _ (by omega), below_setRow hbl (by omega) _⟩
              case measure => simp [intOf]; omega
            · obtain rfl : k = 64 := by omega
              clear hlt hk HW hC hK
              obtain ⟨r, hr⟩ : ∃ r, r = rnd kOf (WW B) s 64 := ⟨_, rfl⟩
              rw [← hr] at hV
              have HR := Hid.mk' hr
              clear hr
              obtain ⟨wo3, rfl⟩ : ∃ wo3 : World, wo3 = wr := ⟨_, rfl⟩
              go_wp2_with fail
              go_loopw [18] (fun i wr => ∃ (k : Nat) (C : Array Value), k ≤ 8 ∧ i = .int .i64 k ∧ Arr wr g11 148 r.cells ∧ Arr wr w.heap.size 148 C ∧ C.size = 8 ∧ (∀ t, t < k → C[t]? = some (.int .u32 ((s.plus r).at t))) ∧ (∀ t, k ≤ t → t < 8 → C[t]? = some (.int .u32 (s.at t))) ∧ Arr wr (w.heap.size + 1) 148 Z.cells ∧ Below w.heap.size w wr)
                (fun i _ => 8 - (intOf i).toNat)
              case atStart => exact ⟨0, s.cells, by omega, rfl, hV, hH, rfl, fun t h => by omega, fun t _ h => St.get s h, hR, hbl⟩
              case round =>
                clear hV hH hR hbl
                obtain ⟨k, C, hk, rfl, hV, hH, hCs, hw1, hw2, hR, hbl⟩ := hrel
                by_cases hlt : k < 8
                · have h3 : (k : Int) < 8 := by omega
                  have h4 : (0 : Int) ≤ k := by omega
                  have cH : wr.cell? ⟨w.heap.size, k, none⟩ = some (.int .u32 (s.at k)) := (hH.cell k).trans (hw2 k (Nat.le_refl _) hlt)
                  have cV : wr.cell? ⟨g11, k, none⟩ = some (.int .u32 (r.at k)) := (hV.cell k).trans (St.get r hlt)
                  have cF := hH.frozen k
                  have hne : w.heap.size ≠ g11 := by omega
                  have hne' : g11 ≠ w.heap.size := by omega
                  have HW1 := Hid.mk' hw1
                  have HW2 := Hid.mk' hw2
                  clear hw1 hw2
                  go_wp2
                  go_region
                  all_goals go_wp2
                  all_goals go_roundw
                  case rel =>
                    have q := set_step (f := fun t => .int .u32 ((s.plus r).at t)) hCs (by omega) HW1.out
                    rw [plus_at s r hlt] at q
                    refine ⟨k + 1, _, by omega, by go_num, (hV.setOther _ (by simp; omega)).drew, (hH.set k _).drew, by simp [hCs], q, fun t ht1 ht2 => ?_, (hR.setOther _ (by simp)).drew, (hbl.setCell (Nat.le_refl _) _).drew⟩
                    rw [Array.getElem?_setIfInBounds, if_neg (by omega)]
                    exact HW2.out t (by omega) ht2
                  case measure => simp [intOf]; omega
                · obtain rfl : k = 8 := by omega
                  have hCe : C = (s.plus r).cells := by
                    refine Array.ext_getElem? fun i => ?_
                    by_cases hi : i < 8
                    · rw [hw1 i hi, St.get _ hi]
                    · rw [Array.getElem?_eq_none (by omega), Array.getElem?_eq_none (by rw [St.size]; omega)]
                  subst hCe
                  clear hw1 hw2 hCs
                  have hRe := HR.out
                  go_wp2_with (first
                    | (refine wpList_load_row rfl 148 (.tmp 2) rfl w.heap.size rfl 148 (s.plus r).cells (0, 0) _ hH Try.underlying148 rfl (s48 _) ?_)
                    | (refine wpList_store_arr rfl 148 (.tmp 4) (.tmp 204) rfl (w.heap.size + 1) (s.plus r).cells rfl rfl 148 _ hR (s48 _) rfl (St.one _) ?_))
                  exact bodyPost_ret (v := .agg (s.plus r).cells) (results_cell_row Try.results94 _ _ (w.heap.size + 1) 148 _ (0, 0) _ rfl (hR.setRow _) Try.underlying148 rfl (s48 _)) rfl ⟨by rw [hRe], below_setRow hbl (by omega) _⟩
end Go.Proofs.Ytimmiidkjpbffaa

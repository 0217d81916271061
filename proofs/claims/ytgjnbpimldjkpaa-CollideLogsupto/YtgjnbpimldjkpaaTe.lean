import Derived.Test.YtgjnbpimldjkpaaTd
namespace Go.Proofs.Ytgjnbpimldjkpaa
open Go.RowKit

def St.at (s : St) (i : Nat) : Int := match i with | 0 => s.a | 1 => s.b | 2 => s.c | 3 => s.d | 4 => s.e | 5 => s.f | 6 => s.g | _ => s.h

def outB (s : St) (t : Nat) : Int := s.at (t / 4) / 2 ^ (24 - 8 * (t % 4)) % 256

theorem index48 (s : St) (k : Nat) (hk : k < 8) (w : World) : (Instr.index 72 (.agg s.cells) (.int .i64 k)).run Try.prog w = .ok (.int .u32 (s.at k)) w := by
  match k, hk with
  | 0, _ => rfl
  | 1, _ => rfl
  | 2, _ => rfl
  | 3, _ => rfl
  | 4, _ => rfl
  | 5, _ => rfl
  | 6, _ => rfl
  | 7, _ => rfl

theorem outB_at (s : St) (k i : Nat) (hi : i < 4) : outB s (4 * k + i) = s.at k / 2 ^ (24 - 8 * i) % 256 := by
  unfold outB; rw [show (4 * k + i) / 4 = k by omega, show (4 * k + i) % 4 = i by omega]

set_option maxRecDepth 100000 in
set_option maxHeartbeats 1000000 in
theorem fromWords_any (s : St) (w : World) :
    Calls Try.prog 44 #[.agg s.cells] w fun e w' => ∃ C : Array Value, e = .returned (.agg C) ∧ C.size = 32 ∧ (∀ t, t < 32 → C[t]? = some (.int .u8 (outB s t))) ∧ Below w.heap.size w w' := by
  have hA : ∀ o1 o2, Arr (((w.alloc (.cells s.cells 72)).alloc o1).alloc o2) w.heap.size 72 s.cells := fun o1 o2 => ((Arr.new _ _ _).alloc _).alloc _
  go_enter Try.func44, Try.ntmps44
  go_wp2_with (refine wpList_load_row rfl 72 (.tmp 1) rfl w.heap.size rfl 72 s.cells (0, 0) _ (hA _ _) Try.underlying72 rfl (s48 _) ?_)
  go_loopw [7] (fun i wr => ∃ (k : Nat) (C Z : Array Value), k ≤ 8 ∧ i = .int .i64 k ∧ Arr wr (w.heap.size + 1) 29 Z ∧ Arr wr (w.heap.size + 1 + 1) 29 C ∧ Z.size = 32 ∧ C.size = 32 ∧ (∀ t, t < 4 * k → C[t]? = some (.int .u8 (outB s t))) ∧ Below w.heap.size w wr)
    (fun i _ => 8 - (intOf i).toNat)
  case atStart => exact ⟨0, _, _, by omega, rfl, by simpa using (Arr.new (w.alloc _) 29 _).alloc _, by simpa using Arr.new ((w.alloc _).alloc _) 29 _, rfl, rfl, fun t h => by omega, (((Below.refl _ _).alloc (by simp) _).alloc (by simp) _).alloc (by simp; omega) _⟩
  case round =>
    obtain ⟨k, C, Z, hk, rfl, hZ, hC, hZs, hCs, hw, hbl⟩ := hrel
    by_cases hlt : k < 8
    · have h3 : (k : Int) < 8 := by omega
      have h4 : (0 : Int) ≤ k := by omega
      have hix := index48 s k hlt
      have c0 : wr.cell? ⟨w.heap.size + 1 + 1, 4 * k, none⟩ = some (C[4 * k]'(by omega)) := by rw [hC.cell, Array.getElem?_eq_getElem]
      have c1 : wr.cell? ⟨w.heap.size + 1 + 1, 4 * k + 1, none⟩ = some (C[4 * k + 1]'(by omega)) := by rw [hC.cell, Array.getElem?_eq_getElem]
      have c2 : wr.cell? ⟨w.heap.size + 1 + 1, 4 * k + 2, none⟩ = some (C[4 * k + 2]'(by omega)) := by rw [hC.cell, Array.getElem?_eq_getElem]
      have c3 : wr.cell? ⟨w.heap.size + 1 + 1, 4 * k + 3, none⟩ = some (C[4 * k + 3]'(by omega)) := by rw [hC.cell, Array.getElem?_eq_getElem]
      have f0 := hC.frozen (4 * k)
      have f1 := hC.frozen (4 * k + 1)
      have f2 := hC.frozen (4 * k + 2)
      have f3 := hC.frozen (4 * k + 3)
      go_wp2
      go_roundw
      case rel =>
        clear c0 c1 c2 c3 f0 f1 f2 f3 hix
        have o0 := outB_at s k 0 (by omega)
        have o1 := outB_at s k 1 (by omega)
        have o2 := outB_at s k 2 (by omega)
        have o3 := outB_at s k 3 (by omega)
        have q0 := set_step (f := fun t => .int .u8 (outB s t)) hCs (by omega) hw
        have q1 := set_step (f := fun t => .int .u8 (outB s t)) (k := 4 * k + 1) (n := 32) (by simp [hCs]) (by omega) q0
        have q2 := set_step (f := fun t => .int .u8 (outB s t)) (k := 4 * k + 2) (n := 32) (by simp [hCs]) (by omega) q1
        have q3 := set_step (f := fun t => .int .u8 (outB s t)) (k := 4 * k + 3) (n := 32) (by simp [hCs]) (by omega) q2
        have e0 : s.at k / 16777216 % 256 = outB s (4 * k) := o0.symm
        have e1 : s.at k / 65536 % 256 = outB s (4 * k + 1) := o1.symm
        have e2 : s.at k / 256 % 256 = outB s (4 * k + 2) := o2.symm
        have e3 : s.at k % 256 = outB s (4 * k + 3) := by rw [o3]; simp
        rw [e0, e1, e2, e3]
        exact ⟨k + 1, _, Z, by omega, by go_num, (((hZ.setOther _ (by simp)).setOther _ (by simp)).setOther _ (by simp)).setOther _ (by simp), (((hC.set _ _).set _ _).set _ _).set _ _, hZs, by simp [hCs], q3, (((hbl.setCell (by simp; omega) _).setCell (by simp; omega) _).setCell (by simp; omega) _).setCell (by simp; omega) _⟩
      case measure => simp [intOf]; omega
    · obtain rfl : k = 8 := by omega
      have s24 : (Try.prog.info? 29).map (·.size) = some C.size := by rw [hCs]; exact size24
      have o24 := one_ints hCs hw
      have z24 : Z.size = C.size := by rw [hZs, hCs]
      go_wp2_with (first | (refine wpList_load_row rfl 29 (.tmp 3) rfl (w.heap.size + 1 + 1) rfl 29 C (0, 0) _ hC Try.underlying29 rfl s24 ?_) | (refine wpList_store_arr rfl 29 (.tmp 2) (.tmp 38) rfl (w.heap.size + 1) C rfl rfl 29 Z hZ s24 z24 o24 ?_))
      exact bodyPost_ret (v := .agg C) (results_cell_row Try.results44 _ _ (w.heap.size + 1) 29 C (0, 0) _ rfl (hZ.setRow C) Try.underlying29 rfl s24) rfl ⟨C, rfl, hCs, hw, below_setRow hbl (by omega) C⟩
end Go.Proofs.Ytgjnbpimldjkpaa

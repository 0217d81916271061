/- Tc. -/
import Derived.Test.YtagebcbnenehfaaGreatX01
import Derived.Deep.DrawnRows
import Derived.Deep.RegionHeld3
namespace Go.Proofs.YtagebcbnenehfaaGreat
open Go.RowKit
set_option maxRecDepth 100000
set_option linter.unusedVariables false
set_option linter.unusedSimpArgs false
set_option maxHeartbeats 40000000
attribute [local go_sem ↓] Go.wp_at_zero Go.wp_at_succ
def Bytes (w : World) (b off n : Nat) (B : Nat → Int) : Prop := ∀ t, t < n → w.cell? ⟨b, off + t, none⟩ = some (.int .u8 (B t))
def word (B : Nat → Int) (t : Nat) : Int :=
 bits .or .u32 (bits .or .u32 (bits .or .u32 (B (4 * t) % 4294967296 * 16777216 % 4294967296) (B (4 * t + 1) % 4294967296 * 65536 % 4294967296)) (B (4 * t + 2) % 4294967296 * 256 % 4294967296)) (B (4 * t + 3) % 4294967296)
def wnext (l : List Int) : Int := (sg1 (l.getD (l.length - 2) 0) + l.getD (l.length - 7) 0 + sg0 (l.getD (l.length - 15) 0) + l.getD (l.length - 16) 0) % 4294967296
def wsn (B : Nat → Int) : Nat → List Int
 | 0 => (List.range 16).map (word B)
 | k + 1 => wsn B k ++ [wnext (wsn B k)]
def WW (B : Nat → Int) (t : Nat) : Int := (wsn B 48).getD t 0
theorem wsn_len (B : Nat → Int) (k : Nat) : (wsn B k).length = 16 + k := by
 induction k with
 | zero => simp [wsn]
 | succ k ih => simp [wsn, ih]; omega
theorem wsn_pre (B : Nat → Int) (j k t : Nat) (ht : t < 16 + k) : (wsn B (k + j)).getD t 0 = (wsn B k).getD t 0 := by
 induction j with
 | zero => rfl
 | succ j ih =>
   rw [← ih, ← Nat.add_assoc, wsn]
   have := wsn_len B (k + j)
   simp only [List.getD_eq_getElem?_getD]
   rw [List.getElem?_append_left (by omega)]
theorem WW_pre (B : Nat → Int) (k t : Nat) (hk : k ≤ 48) (ht : t < 16 + k) : WW B t = (wsn B k).getD t 0 := by
 have := wsn_pre B (48 - k) k t ht
 rw [show k + (48 - k) = 48 by omega] at this
 exact this
theorem WW_lo (B : Nat → Int) (t : Nat) (ht : t < 16) : WW B t = word B t := by
 rw [WW_pre B 0 t (by omega) (by omega)]; simp [wsn, List.getElem?_range ht]
theorem WW_hi (B : Nat → Int) (t : Nat) (h1 : 16 ≤ t) (h2 : t < 64) :
   WW B t = (sg1 (WW B (t - 2)) + WW B (t - 7) + sg0 (WW B (t - 15)) + WW B (t - 16)) % 4294967296 := by
 obtain ⟨k, rfl⟩ : ∃ k, t = 16 + k := ⟨t - 16, by omega⟩
 rw [WW_pre B (k + 1) _ (by omega) (by omega), WW_pre B k (16 + k - 2) (by omega) (by omega), WW_pre B k (16 + k - 7) (by omega) (by omega), WW_pre B k (16 + k - 15) (by omega) (by omega), WW_pre B k (16 + k - 16) (by omega) (by omega), wsn]
 have := wsn_len B k
 simp only [List.getD_eq_getElem?_getD]
 rw [List.getElem?_append_right (by omega), this, Nat.sub_self]
 simp [wnext, this]
theorem set_step {C : Array Value} {f : Nat → Value} {k n : Nat} (hs : C.size = n) (hk : k < n) (h : ∀ t, t < k → C[t]? = some (f t)) :
   ∀ t, t < k + 1 → (C.setIfInBounds k (f k))[t]? = some (f t) := by
 intro t ht
 rw [Array.getElem?_setIfInBounds]
 by_cases e : k = t
 · subst e; simp [hs, hk]
 · rw [if_neg e]; exact h t (by omega)
theorem keep_set {w : World} {g k j : Nat} {u v : Value} (h : w.cell? ⟨g, j, none⟩ = some v) (hk : k ≠ j) : (w.setCell ⟨g, k, none⟩ u).drew.cell? ⟨g, j, none⟩ = some v := by
 rw [World.cell?_drew, World.cell?_setCell_other]
 · exact h
 · intro e; injection e; contradiction
set_option maxRecDepth 100000 in
theorem schedule_any (b off cap : Nat) (B : Nat → Int) (w : World) (hb : b < w.heap.size) (hB : Bytes w b off 64 B) (hcap : 64 ≤ cap) :
   Calls Tryz.prog 174 #[.slice (some ⟨b, off, none⟩) 64 cap] w fun e w' => ∃ C : Array Value, e = .returned (.agg C) ∧ C.size = 64 ∧ (∀ t, t < 64 → C[t]? = some (.int .u32 (WW B t))) ∧ Below w.heap.size w w' := by
 go_enter Tryz.func174, Tryz.ntmps174
 go_wp2
 go_loopw [7] (fun i wr => ∃ (k : Nat) (C Z : Array Value), k ≤ 16 ∧ i = .int .i64 k ∧ Arr wr w.heap.size 207 Z ∧ Arr wr (w.heap.size + 1) 207 C ∧ Z.size = 64 ∧ C.size = 64 ∧ (∀ t, t < k → C[t]? = some (.int .u32 (WW B t))) ∧ Below w.heap.size w wr)
   (fun i _ => 16 - (intOf i).toNat)
 case atStart => exact ⟨0, _, _, by omega, rfl, (Arr.new _ _ _).alloc _, by simpa using Arr.new (w.alloc _) 207 _, rfl, rfl, fun t h => by omega, ((Below.refl _ _).alloc (by simp) _).alloc (by simp) _⟩
 case round =>
   obtain ⟨k, C, Z, hk, rfl, hZ, hC, hZs, hCs, hw, hbl⟩ := hrel
   by_cases hlt : k < 16
   · have h3 : (k : Int) < 16 := by omega
     have h4 : (0 : Int) ≤ k := by omega
     have c0 : wr.cell? ⟨b, off + 4 * k, none⟩ = some (.int .u8 (B (4 * k))) := by have := (hbl.cell (p := ⟨b, off + (4 * k), none⟩) hb).trans (hB (4 * k) (by omega)); exact this
     have c1 : wr.cell? ⟨b, off + 4 * k + 1, none⟩ = some (.int .u8 (B (4 * k + 1))) := by have := (hbl.cell (p := ⟨b, off + (4 * k + 1), none⟩) hb).trans (hB (4 * k + 1) (by omega)); exact this
     have c2 : wr.cell? ⟨b, off + 4 * k + 2, none⟩ = some (.int .u8 (B (4 * k + 2))) := by have := (hbl.cell (p := ⟨b, off + (4 * k + 2), none⟩) hb).trans (hB (4 * k + 2) (by omega)); exact this
     have c3 : wr.cell? ⟨b, off + 4 * k + 3, none⟩ = some (.int .u8 (B (4 * k + 3))) := by have := (hbl.cell (p := ⟨b, off + (4 * k + 3), none⟩) hb).trans (hB (4 * k + 3) (by omega)); exact this
     have cC : wr.cell? ⟨w.heap.size + 1, k, none⟩ = some (C[k]'(by omega)) := by rw [hC.cell, Array.getElem?_eq_getElem]
     have cF := hC.frozen k
     have hl : 4 * k + 4 - 4 * k = 4 := by omega
     have hne : b ≠ w.heap.size + 1 := by omega
     have hne' : w.heap.size + 1 ≠ b := by omega
     have h5 : (k : Int) < 64 := by omega
     clear hB
     go_wp2
     go_region_held3 (fun w' => w'.cell? ⟨b, off + 4 * k, none⟩ = some (.int .u8 (B (4 * k))) ∧ w'.cell? ⟨b, off + 4 * k + 1, none⟩ = some (.int .u8 (B (4 * k + 1))) ∧ w'.cell? ⟨b, off + 4 * k + 2, none⟩ = some (.int .u8 (B (4 * k + 2))) ∧ w'.cell? ⟨b, off + 4 * k + 3, none⟩ = some (.int .u8 (B (4 * k + 3)))) (go_keep) (fail)
     all_goals go_wp2
     all_goals go_roundw
     case rel =>
       have e := WW_lo B k hlt
       refine ⟨k + 1, _, Z, by omega, by go_num, (hZ.setOther _ (by simp)).drew, (hC.set k _).drew, hZs, by simp [hCs], ?_, (hbl.setCell (by simp) _).drew⟩
       have := set_step (f := fun t => .int .u32 (WW B t)) hCs (by omega) hw
       simp only [e] at this
       exact this
     case measure => simp [intOf]; omega
   · obtain rfl : k = 16 := by omega
     clear hlt hk hB
     obtain ⟨wo, rfl⟩ : ∃ wo : World, wo = wr := ⟨_, rfl⟩
     go_wp2
     go_loopw [6] (fun i wr => ∃ (k : Nat) (C : Array Value), 16 ≤ k ∧ k ≤ 64 ∧ i = .int .i64 k ∧ Arr wr w.heap.size 207 Z ∧ Arr wr (w.heap.size + 1) 207 C ∧ C.size = 64 ∧ (∀ t, t < k → C[t]? = some (.int .u32 (WW B t))) ∧ Below w.heap.size w wr)
       (fun i _ => 64 - (intOf i).toNat)
     case atStart => exact ⟨16, C, by omega, by omega, rfl, hZ, hC, hCs, hw, hbl⟩
     case round =>
       clear hC hCs hw hbl hZ
       obtain ⟨k, C, hk, hk2, rfl, hZ, hC, hCs, hw, hbl⟩ := hrel
       by_cases hlt : k < 64
       · have h3 : (k : Int) < 64 := by omega
         have h4 : (16 : Int) ≤ k := by omega
         have c2 : wr.cell? ⟨w.heap.size + 1, k - 2, none⟩ = some (.int .u32 (WW B (k - 2))) := (hC.cell _).trans (hw _ (by omega))
         have c7 : wr.cell? ⟨w.heap.size + 1, k - 7, none⟩ = some (.int .u32 (WW B (k - 7))) := (hC.cell _).trans (hw _ (by omega))
         have c15 : wr.cell? ⟨w.heap.size + 1, k - 15, none⟩ = some (.int .u32 (WW B (k - 15))) := (hC.cell _).trans (hw _ (by omega))
         have c16 : wr.cell? ⟨w.heap.size + 1, k - 16, none⟩ = some (.int .u32 (WW B (k - 16))) := (hC.cell _).trans (hw _ (by omega))
         have cC : wr.cell? ⟨w.heap.size + 1, k, none⟩ = some (C[k]'(by omega)) := by rw [hC.cell, Array.getElem?_eq_getElem]
         have cF := hC.frozen k
         have n2 : k ≠ k - 2 := by omega
         have n7 : k ≠ k - 7 := by omega
         have n15 : k ≠ k - 15 := by omega
         have n16 : k ≠ k - 16 := by omega
         have e2 : ((k : Int) - 2).toNat = k - 2 := by omega
         have e7 : ((k : Int) - 7).toNat = k - 7 := by omega
         have e15 : ((k : Int) - 15).toNat = k - 15 := by omega
         have e16 : ((k : Int) - 16).toNat = k - 16 := by omega
         have w2 : IntKind.i64.wrap ((k : Int) - 2) = (k : Int) - 2 := by simp [IntKind.wrap, IntKind.bits, IntKind.signed]; omega
         have a2 : (2 : Int) ≤ (k : Int) := by omega
         have z2 : (k : Int) - 2 < 64 := by omega
         have w7 : IntKind.i64.wrap ((k : Int) - 7) = (k : Int) - 7 := by simp [IntKind.wrap, IntKind.bits, IntKind.signed]; omega
         have a7 : (7 : Int) ≤ (k : Int) := by omega
         have z7 : (k : Int) - 7 < 64 := by omega
         have w15 : IntKind.i64.wrap ((k : Int) - 15) = (k : Int) - 15 := by simp [IntKind.wrap, IntKind.bits, IntKind.signed]; omega
         have a15 : (15 : Int) ≤ (k : Int) := by omega
         have z15 : (k : Int) - 15 < 64 := by omega
         have w16 : IntKind.i64.wrap ((k : Int) - 16) = (k : Int) - 16 := by simp [IntKind.wrap, IntKind.bits, IntKind.signed]; omega
         have a16 : (16 : Int) ≤ (k : Int) := by omega
         have z16 : (k : Int) - 16 < 64 := by omega
         go_wp2
         go_region_held3 (fun w' => w'.cell? ⟨w.heap.size + 1, k - 2, none⟩ = some (.int .u32 (WW B (k - 2))) ∧ w'.cell? ⟨w.heap.size + 1, k - 7, none⟩ = some (.int .u32 (WW B (k - 7))) ∧ w'.cell? ⟨w.heap.size + 1, k - 15, none⟩ = some (.int .u32 (WW B (k - 15))) ∧ w'.cell? ⟨w.heap.size + 1, k - 16, none⟩ = some (.int .u32 (WW B (k - 16)))) (first | exact ⟨keep_set c2 n2, keep_set c7 n7, keep_set c15 n15, keep_set c16 n16⟩ | go_keep) ((first | (go_at_call 189; refine (sg1_any _ _).mono ?_; rintro e w' ⟨rfl, rfl⟩) | (go_at_call 190; refine (sg0_any _ _).mono ?_; rintro e w' ⟨rfl, rfl⟩)))
         all_goals clear c2 c7 c15 c16 n2 n7 n15 n16 e2 e7 e15 e16 w2 w7 w15 w16 a2 a7 a15 a16 z2 z7 z15 z16 cC cF
         all_goals go_wp2
         all_goals go_roundw
         case rel =>
           repeat apply Exists.intro
           refine And.intro ?_ rfl
           have e := WW_hi B k hk hlt
           refine ⟨k + 1, _, by omega, by omega, by go_num, (hZ.setOther _ (by simp)).drew, (hC.set k _).drew, by simp [hCs], ?_, (hbl.setCell (by simp) _).drew⟩
           have := set_step (f := fun t => .int .u32 (WW B t)) hCs (by omega) hw
           have e' : WW B k = (((sg1 (WW B (k - 2)) + WW B (k - 7)) % 4294967296 + sg0 (WW B (k - 15))) % 4294967296 + WW B (k - 16)) % 4294967296 := by rw [e]; omega
           simp only [e'] at this
           simp only [← e'] at this
           rw [← e']
           exact this
         case measure => simp [intOf]; omega
       · obtain rfl : k = 64 := by omega
         have s46 : (Tryz.prog.info? 207).map (·.size) = some C.size := by rw [hCs]; exact size46
         have o46 := one_ints hCs hw
         have z46 : Z.size = C.size := by rw [hZs, hCs]
         go_wp2_with (first | (refine wpList_load_row rfl 207 (.tmp 3) rfl (w.heap.size + 1) rfl 207 C (0, 0) _ hC Tryz.underlying207 rfl s46 ?_) | (refine wpList_store_arr rfl 207 (.tmp 2) (.tmp 72) rfl w.heap.size C rfl rfl 207 Z hZ s46 z46 o46 ?_))
         refine bodyPost_ret (v := .agg C) (results_cell_row Tryz.results174 _ _ w.heap.size 207 C (0, 0) _ rfl (hZ.setRow C) Tryz.underlying207 rfl s46) rfl ⟨C, rfl, hCs, hw, below_setRow hbl (by omega) C⟩
end Go.Proofs.YtagebcbnenehfaaGreat

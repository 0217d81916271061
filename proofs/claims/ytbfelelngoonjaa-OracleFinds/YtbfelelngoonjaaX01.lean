/- Ta, Tb, Tw, Tc. -/
import Derived.Test.YtbfelelngoonjaaRows
import Derived.BigQuiet
import Derived.Deep.QuietTactic
import Derived.WalkKit
import Derived.WalkLawsBesides
import Derived.WalkSpells
import Derived.Deep.WholeRow
import Derived.BigRegion
import Derived.Deep.DrawnRows
import Derived.Deep.RegionHeld3
/- Layer oracle: what the layers below give. -/
namespace Go.Proofs.Ytbfelelngoonjaa
open Go.RowKit
set_option maxRecDepth 100000
set_option linter.unusedVariables false
set_option linter.unusedSimpArgs false

/-- A word turned right. -/
def rotr (x : Int) (n : Nat) : Int := bits .or .u32 (x / 2 ^ n) (x * 2 ^ (32 - n) % 4294967296)
def sg0 (x : Int) : Int := bits .xor .u32 (bits .xor .u32 (rotr x 7) (rotr x 18)) (x / 2 ^ 3)
def sg1 (x : Int) : Int := bits .xor .u32 (bits .xor .u32 (rotr x 17) (rotr x 19)) (x / 2 ^ 10)
def bg0 (x : Int) : Int := bits .xor .u32 (bits .xor .u32 (rotr x 2) (rotr x 13)) (rotr x 22)
def bg1 (x : Int) : Int := bits .xor .u32 (bits .xor .u32 (rotr x 6) (rotr x 11)) (rotr x 25)
def cho (x y z : Int) : Int := bits .or .u32 (bits .and .u32 x y) (bits .and .u32 (bits .xor .u32 IntKind.u32.max x) z)
def maj (x y z : Int) : Int := bits .or .u32 (bits .or .u32 (bits .and .u32 x y) (bits .and .u32 x z)) (bits .and .u32 y z)
set_option maxRecDepth 100000 in
set_option maxHeartbeats 400000 in
theorem turnRight_any (x n : Int) (w : World) (h0 : 0 ≤ n) (h1 : n ≤ 31) :
    Calls Try.prog 97 #[.int .u32 x, .int .u64 n] w fun e w' => e = .returned (.int .u32 (rotr x n.toNat)) ∧ w' = w := by
  have e : (32 - n).toNat = 32 - n.toNat := by omega
  have E : Hid ((32 - n).toNat = 32 - n.toNat) := e
  clear e
  go_enter Try.func97, Try.ntmps97
  go_wp2
  go_ret
  refine ⟨?_, rfl⟩
  unfold rotr
  rw [← E.out]; rfl
set_option maxRecDepth 100000 in
set_option maxHeartbeats 400000 in
theorem choose_any (x y z : Int) (w : World) :
    Calls Try.prog 80 #[.int .u32 x, .int .u32 y, .int .u32 z] w fun e w' => e = .returned (.int .u32 (cho x y z)) ∧ w' = w := by
  have hs : IntKind.u32.signed = false := rfl
  go_enter Try.func80, Try.ntmps80
  go_wp2
  go_ret
  exact ⟨rfl, rfl⟩
set_option maxRecDepth 100000 in
set_option maxHeartbeats 400000 in
theorem majority_any (x y z : Int) (w : World) :
    Calls Try.prog 82 #[.int .u32 x, .int .u32 y, .int .u32 z] w fun e w' => e = .returned (.int .u32 (maj x y z)) ∧ w' = w := by
  go_enter Try.func82, Try.ntmps82
  go_wp2
  go_ret
  exact ⟨rfl, rfl⟩
set_option maxRecDepth 100000 in
set_option maxHeartbeats 400000 in
theorem sg1_any (x : Int) (w : World) :
    Calls Try.prog 77 #[.int .u32 x] w fun e w' => e = .returned (.int .u32 (sg1 x)) ∧ w' = w := by
  go_enter Try.func77, Try.ntmps77
  go_wp2_with (go_at_call 97; refine (turnRight_any _ _ _ (by omega) (by omega)).mono ?_; rintro e w' ⟨rfl, rfl⟩)
  go_ret
  exact ⟨rfl, rfl⟩
set_option maxRecDepth 100000 in
set_option maxHeartbeats 400000 in
theorem sg0_any (x : Int) (w : World) :
    Calls Try.prog 78 #[.int .u32 x] w fun e w' => e = .returned (.int .u32 (sg0 x)) ∧ w' = w := by
  go_enter Try.func78, Try.ntmps78
  go_wp2_with (go_at_call 97; refine (turnRight_any _ _ _ (by omega) (by omega)).mono ?_; rintro e w' ⟨rfl, rfl⟩)
  go_ret
  exact ⟨rfl, rfl⟩
set_option maxRecDepth 100000 in
set_option maxHeartbeats 400000 in
theorem bg1_any (x : Int) (w : World) :
    Calls Try.prog 79 #[.int .u32 x] w fun e w' => e = .returned (.int .u32 (bg1 x)) ∧ w' = w := by
  go_enter Try.func79, Try.ntmps79
  go_wp2_with (go_at_call 97; refine (turnRight_any _ _ _ (by omega) (by omega)).mono ?_; rintro e w' ⟨rfl, rfl⟩)
  go_ret
  exact ⟨rfl, rfl⟩
set_option maxRecDepth 100000 in
set_option maxHeartbeats 400000 in
theorem bg0_any (x : Int) (w : World) :
    Calls Try.prog 81 #[.int .u32 x] w fun e w' => e = .returned (.int .u32 (bg0 x)) ∧ w' = w := by
  go_enter Try.func81, Try.ntmps81
  go_wp2_with (go_at_call 97; refine (turnRight_any _ _ _ (by omega) (by omega)).mono ?_; rintro e w' ⟨rfl, rfl⟩)
  go_ret
  exact ⟨rfl, rfl⟩
end Go.Proofs.Ytbfelelngoonjaa
/- Layer oracle: what the layers below give. -/
namespace Go.Proofs.Ytbfelelngoonjaa
open Go.RowKit
set_option maxRecDepth 100000
set_option linter.unusedVariables false
set_option linter.unusedSimpArgs false

structure St where
  (a b c d e f g h : Int)
def step (s : St) (k w : Int) : St :=
  { a := ((s.h + bg1 s.e + cho s.e s.f s.g + k + w) % 4294967296 + (bg0 s.a + maj s.a s.b s.c) % 4294967296) % 4294967296,
    b := s.a, c := s.b, d := s.c,
    e := (s.d + (s.h + bg1 s.e + cho s.e s.f s.g + k + w) % 4294967296) % 4294967296,
    f := s.e, g := s.f, h := s.g }
def St.plus (s r : St) : St :=
  { a := (s.a + r.a) % 4294967296, b := (s.b + r.b) % 4294967296, c := (s.c + r.c) % 4294967296, d := (s.d + r.d) % 4294967296,
    e := (s.e + r.e) % 4294967296, f := (s.f + r.f) % 4294967296, g := (s.g + r.g) % 4294967296, h := (s.h + r.h) % 4294967296 }
def St.cells (s : St) : Array Value := #[.int .u32 s.a, .int .u32 s.b, .int .u32 s.c, .int .u32 s.d, .int .u32 s.e, .int .u32 s.f, .int .u32 s.g, .int .u32 s.h]
def rnd (K W : Nat → Int) (s : St) : Nat → St
  | 0 => s
  | t + 1 => step (rnd K W s t) (K t) (W t)
def Row (w : World) (b n : Nat) (f : Nat → Int) : Prop := ∀ t, t < n → w.cell? ⟨b, t, none⟩ = some (.int .u32 (f t))
set_option maxRecDepth 100000 in
set_option maxHeartbeats 1000000 in
theorem compress_any (s : St) (bw bk : Nat) (W K : Nat → Int) (w : World) (hbw : bw < w.heap.size) (hbk : bk < w.heap.size)
    (hW : Row w bw 64 W) (hK : Row w bk 64 K) :
    Calls Try.prog 63 #[.agg #[.int .u32 s.a, .int .u32 s.b, .int .u32 s.c, .int .u32 s.d, .int .u32 s.e, .int .u32 s.f, .int .u32 s.g, .int .u32 s.h], .pointer (some ⟨bw, 0, none⟩), .pointer (some ⟨bk, 0, none⟩)] w fun e w' => e = .returned (.agg (s.plus (rnd K W s 64)).cells) ∧ Below w.heap.size w w' := by
  go_enter Try.func63, Try.ntmps63
  go_wp2
  go_quiet (fail)
  go_wp2
  go_loopw [7, 8, 9, 10, 11, 12, 13, 14, 34] (fun a b c d e f g h i wr => ∃ (k n : Nat), k ≤ 64 ∧ i = .int .i64 k ∧ a = .int .u32 (rnd K W s k).a ∧ b = .int .u32 (rnd K W s k).b ∧ c = .int .u32 (rnd K W s k).c ∧ d = .int .u32 (rnd K W s k).d
     ∧ e = .int .u32 (rnd K W s k).e ∧ f = .int .u32 (rnd K W s k).f ∧ g = .int .u32 (rnd K W s k).g ∧ h = .int .u32 (rnd K W s k).h ∧ wr = ((w.alloc (.cells #[.int .u32 s.a, .int .u32 s.b, .int .u32 s.c, .int .u32 s.d, .int .u32 s.e, .int .u32 s.f, .int .u32 s.g, .int .u32 s.h] 79)).alloc (.cells #[.int .u32 0, .int .u32 0, .int .u32 0, .int .u32 0, .int .u32 0, .int .u32 0, .int .u32 0, .int .u32 0] 79)).drewN n)
     (fun _ _ _ _ _ _ _ _ i _ => 64 - (intOf i).toNat)
  case atStart => exact ⟨0, nq, by omega, rfl, rfl, rfl, rfl, rfl, rfl, rfl, rfl, rfl, rfl⟩
  case round =>
    obtain ⟨k, n, hk, rfl, rfl, rfl, rfl, rfl, rfl, rfl, rfl, rfl, hw⟩ := hrel
    by_cases hlt : k < 64
    · have h1 : wr.cell? ⟨bw, k, none⟩ = some (.int .u32 (W k)) := by rw [hw]; simpa [World.cell?_alloc_lt, hbw, Nat.lt_succ_of_lt hbw] using hW k hlt
      have h2 : wr.cell? ⟨bk, k, none⟩ = some (.int .u32 (K k)) := by rw [hw]; simpa [World.cell?_alloc_lt, hbk, Nat.lt_succ_of_lt hbk] using hK k hlt
      have h3 : (k : Int) < 64 := by omega
      have h4 : (0 : Int) ≤ k := by omega
      generalize hr : rnd K W s k = r
      have HR : Hid (rnd K W s k = r) := hr
      have HW : Hid (wr = _) := hw
      clear hr hW hK hw
      go_wp2
      go_quiet ((first | (go_at_call 79; exact Calls.quiet_of_same (bg1_any _ _)) | (go_at_call 80; exact Calls.quiet_of_same (choose_any _ _ _ _))))
      go_wp2_with (first | (go_at_call 81; refine (bg0_any _ _).mono ?_; rintro e w' ⟨rfl, rfl⟩) | (go_at_call 82; refine (majority_any _ _ _ _).mono ?_; rintro e w' ⟨rfl, rfl⟩))
      go_roundw
      case rel => exact ⟨k + 1, n + nq, by omega, by go_num, by rw [rnd, HR.out]; rfl, by rw [rnd, HR.out]; rfl, by rw [rnd, HR.out]; rfl, by rw [rnd, HR.out]; rfl, by rw [rnd, HR.out]; rfl, by rw [rnd, HR.out]; rfl, by rw [rnd, HR.out]; rfl, by rw [rnd, HR.out]; rfl, by rw [HW.out, World.drewN_drewN]⟩
      case measure => simp [intOf]; omega
    · have : k = 64 := by omega
      subst this
      subst hw
      go_wp2
      refine bodyPost_ret (v := .agg (s.plus (rnd K W s 64)).cells) (by simp [results, Try.results63, go_sem, St.cells, St.plus]) rfl ⟨rfl, ?_⟩
      repeat (with_reducible first | exact Below.refl _ _ | refine Below.setCell ?_ (by simp) _ | refine Below.alloc ?_ (by simp) _ | refine below_drewN ?_ _)
end Go.Proofs.Ytbfelelngoonjaa
/- Layer oracle: what the layers below give. -/
namespace Go.Proofs.Ytbfelelngoonjaa
open Go.RowKit
set_option maxRecDepth 100000
set_option linter.unusedVariables false
set_option linter.unusedSimpArgs false

/-- Block g holds the cells C, and may be written. -/
def Arr (w : World) (g : Nat) (ty : TypeId) (C : Array Value) : Prop := w.heap[g]? = some (.cells C ty (0, 0))
theorem Arr.cell {w : World} {g ty : Nat} {C : Array Value} (h : Arr w g ty C) (j : Nat) : w.cell? ⟨g, j, none⟩ = C[j]? := by
  unfold Arr at h; simp [World.cell?, h]
theorem Arr.frozen {w : World} {g ty : Nat} {C : Array Value} (h : Arr w g ty C) (j : Nat) : w.frozen? ⟨g, j, none⟩ = false := by
  unfold Arr at h; simp [World.frozen?, h]
theorem Arr.lt {w : World} {g ty : Nat} {C : Array Value} (h : Arr w g ty C) : g < w.heap.size := by
  unfold Arr at h; exact (Array.getElem?_eq_some_iff.1 h).1
theorem Arr.set {w : World} {g ty : Nat} {C : Array Value} (h : Arr w g ty C) (j : Nat) (v : Value) : Arr (w.setCell ⟨g, j, none⟩ v) g ty (C.setIfInBounds j v) := by
  unfold Arr at h ⊢; simp [World.setCell, Array.getElem?_modify, h]
theorem Arr.setOther {w : World} {g ty : Nat} {C : Array Value} (h : Arr w g ty C) {a : Addr} (v : Value) (ha : g ≠ a.block) : Arr (w.setCell a v) g ty C := by
  unfold Arr at h ⊢; rw [Below.heap_setCell _ _ _ _ ha]; exact h
theorem Arr.drew {w : World} {g ty : Nat} {C : Array Value} (h : Arr w g ty C) : Arr w.drew g ty C := h
theorem Arr.drewN {w : World} {g ty : Nat} {C : Array Value} (h : Arr w g ty C) (n : Nat) : Arr (w.drewN n) g ty C := h
theorem Arr.alloc {w : World} {g ty : Nat} {C : Array Value} (h : Arr w g ty C) (o : Obj) : Arr (w.alloc o) g ty C := by
  have := h.lt; unfold Arr at h ⊢; rw [Below.heap_alloc _ _ _ this]; exact h
theorem Arr.new (w : World) (ty : Nat) (C : Array Value) : Arr (w.alloc (.cells C ty)) w.heap.size ty C := by
  show (w.heap.push _)[w.heap.size]? = _; rw [Array.getElem?_push_size]
theorem Arr.below {w w' : World} {g ty B : Nat} {C : Array Value} (h : Arr w g ty C) (hb : Below B w w') (hg : g < B) : Arr w' g ty C := by
  unfold Arr at h ⊢; rw [hb.block g hg]; exact h
theorem Arr.setRow {w : World} {g ty : Nat} {C : Array Value} (h : Arr w g ty C) (D : Array Value) : Arr (w.setRow g D) g ty D := setRow_heap w g C D ty (0, 0) h
theorem Arr.setRowOther {w : World} {g ty k : Nat} {C : Array Value} (h : Arr w g ty C) (D : Array Value) (hk : g ≠ k) : Arr (w.setRow k D) g ty C := by
  unfold Arr at h ⊢; rw [setRow_other w k g D hk]; exact h
theorem below_setRow {B : Nat} {a w : World} (h : Below B a w) {g : Nat} (hg : B ≤ g) (D : Array Value) : Below B a (w.setRow g D) :=
  h.trans ⟨rfl, rfl, rfl, by simp, fun k hk => setRow_other w g k D (by omega)⟩
theorem wpList_store_arr {P : Program} {ops : Array Oper} {rest : List Oper} {o : Oper} {a : Act} {w : World} {Q : Exit → Act → World → Prop} (hgd : o.guard = none) (ty : TypeId) (x y : Operand) (ho : o.op = .store ty x y)
    (g : Nat) (cells : Array Value) (hx : a.eval x = .pointer (some ⟨g, 0, none⟩)) (hy : a.eval y = .agg cells)
    (t : TypeId) (old : Array Value) (hg : Arr w g t old) (hi : (P.info? ty).map (·.size) = some cells.size)
    (hold : old.size = cells.size) (h1 : cells.all (·.oneCell') = true)
    (h : wpList P ops Q rest (a.put o.dst undef) (w.setRow g cells)) : wpList P ops Q (o :: rest) a w :=
  wpList_plain hgd fun _ hK => wp_store_row ty x y ho g cells hx hy t old hg hi hold h1 (hK _ _ h)
theorem wpList_store_new {P : Program} {ops : Array Oper} {rest : List Oper} {o : Oper} {a : Act} {Q : Exit → Act → World → Prop} (w1 : World) (z : Array Value) (t : TypeId) (hgd : o.guard = none) (ty : TypeId) (x y : Operand) (ho : o.op = .store ty x y)
    (cells : Array Value) (hx : a.eval x = .pointer (some ⟨w1.heap.size, 0, none⟩)) (hy : a.eval y = .agg cells)
    (hi : (P.info? ty).map (·.size) = some cells.size)
    (hold : z.size = cells.size) (h1 : cells.all (·.oneCell') = true)
    (h : wpList P ops Q rest (a.put o.dst undef) (w1.alloc (.cells cells t))) : wpList P ops Q (o :: rest) a (w1.alloc (.cells z t)) :=
  wpList_store_arr hgd ty x y ho w1.heap.size cells hx hy t z (Arr.new w1 t z) hi hold h1 (by rw [World.setRow_alloc_new]; exact h)
theorem one_ints {C : Array Value} {n : Nat} {k : IntKind} {f : Nat → Int} (hs : C.size = n) (h : ∀ t, t < n → C[t]? = some (.int k (f t))) : C.all (·.oneCell') = true := by
  refine Array.all_eq_true_iff_forall_mem.2 fun v hv => ?_
  obtain ⟨j, hj, rfl⟩ := Array.mem_iff_getElem.1 hv
  have := h j (by omega)
  rw [Array.getElem?_eq_getElem hj] at this
  rw [Option.some.inj this]; rfl
theorem size46 : (Try.prog.info? 100).map (·.size) = some 64 := by kernel_rfl
theorem size48 : (Try.prog.info? 79).map (·.size) = some 8 := by kernel_rfl
theorem size24 : (Try.prog.info? 32).map (·.size) = some 32 := by kernel_rfl
end Go.Proofs.Ytbfelelngoonjaa
/- Layer oracle: what the layers below give. -/
namespace Go.Proofs.Ytbfelelngoonjaa
open Go.RowKit
set_option maxRecDepth 100000
set_option linter.unusedVariables false
set_option linter.unusedSimpArgs false
attribute [local go_sem ↓] Go.wp_at_zero Go.wp_at_succ

def Bytes (w : World) (b off n : Nat) (B : Nat → Int) : Prop := ∀ t, t < n → w.cell? ⟨b, off + t, none⟩ = some (.int .u8 (B t))
def word (B : Nat → Int) (t : Nat) : Int :=
  bits .or .u32 (bits .or .u32 (bits .or .u32 (B (4 * t) % 4294967296 * 16777216 % 4294967296) (B (4 * t + 1) % 4294967296 * 65536 % 4294967296)) (B (4 * t + 2) % 4294967296 * 256 % 4294967296)) (B (4 * t + 3) % 4294967296)
def wnext (l : List Int) : Int := (sg1 (l.getD (l.length - 2) 0) + l.getD (l.length - 7) 0 + sg0 (l.getD (l.length - 15) 0) + l.getD (l.length - 16) 0) % 4294967296
def wsn (B : Nat → Int) : Nat → List Int
  | 0 => (List.range 16).map (word B)
  | k + 1 => wsn B k ++ [wnext (wsn B k)]
def WW (B : Nat → Int) (t : Nat) : Int := (wsn B 48).getD t 0
theorem wsn_len (B : Nat → Int) (k : Nat) : (wsn B k).length = 16 + k := by
  induction k with
  | zero => simp [wsn]
  | succ k ih => simp [wsn, ih]; omega
theorem wsn_pre (B : Nat → Int) (j k t : Nat) (ht : t < 16 + k) : (wsn B (k + j)).getD t 0 = (wsn B k).getD t 0 := by
  induction j with
  | zero => rfl
  | succ j ih =>
    rw [← ih, ← Nat.add_assoc, wsn]
    have := wsn_len B (k + j)
    simp only [List.getD_eq_getElem?_getD]
    rw [List.getElem?_append_left (by omega)]
theorem WW_pre (B : Nat → Int) (k t : Nat) (hk : k ≤ 48) (ht : t < 16 + k) : WW B t = (wsn B k).getD t 0 := by
  have := wsn_pre B (48 - k) k t ht
  rw [show k + (48 - k) = 48 by omega] at this
  exact this
theorem WW_lo (B : Nat → Int) (t : Nat) (ht : t < 16) : WW B t = word B t := by
  rw [WW_pre B 0 t (by omega) (by omega)]; simp [wsn, List.getElem?_range ht]
theorem WW_hi (B : Nat → Int) (t : Nat) (h1 : 16 ≤ t) (h2 : t < 64) :
    WW B t = (sg1 (WW B (t - 2)) + WW B (t - 7) + sg0 (WW B (t - 15)) + WW B (t - 16)) % 4294967296 := by
  obtain ⟨k, rfl⟩ : ∃ k, t = 16 + k := ⟨t - 16, by omega⟩
  rw [WW_pre B (k + 1) _ (by omega) (by omega), WW_pre B k (16 + k - 2) (by omega) (by omega), WW_pre B k (16 + k - 7) (by omega) (by omega), WW_pre B k (16 + k - 15) (by omega) (by omega), WW_pre B k (16 + k - 16) (by omega) (by omega), wsn]
  have := wsn_len B k
  simp only [List.getD_eq_getElem?_getD]
  rw [List.getElem?_append_right (by omega), this, Nat.sub_self]
  simp [wnext, this]
theorem set_step {C : Array Value} {f : Nat → Value} {k n : Nat} (hs : C.size = n) (hk : k < n) (h : ∀ t, t < k → C[t]? = some (f t)) :
    ∀ t, t < k + 1 → (C.setIfInBounds k (f k))[t]? = some (f t) := by
  intro t ht
  rw [Array.getElem?_setIfInBounds]
  by_cases e : k = t
  · subst e; simp [hs, hk]
  · rw [if_neg e]; exact h t (by omega)
theorem keep_set {w : World} {g k j : Nat} {u v : Value} (h : w.cell? ⟨g, j, none⟩ = some v) (hk : k ≠ j) : (w.setCell ⟨g, k, none⟩ u).drew.cell? ⟨g, j, none⟩ = some v := by
  rw [World.cell?_drew, World.cell?_setCell_other]
  · exact h
  · intro e; injection e; contradiction
set_option maxRecDepth 100000 in
set_option maxHeartbeats 1000000 in
theorem schedule_any (b off cap : Nat) (B : Nat → Int) (w : World) (hb : b < w.heap.size) (hB : Bytes w b off 64 B) (hcap : 64 ≤ cap) :
    Calls Try.prog 62 #[.slice (some ⟨b, off, none⟩) 64 cap] w fun e w' => ∃ C : Array Value, e = .returned (.agg C) ∧ C.size = 64 ∧ (∀ t, t < 64 → C[t]? = some (.int .u32 (WW B t))) ∧ Below w.heap.size w w' := by
  go_enter Try.func62, Try.ntmps62
  go_wp2
  go_loopw [7] (fun i wr => ∃ (k : Nat) (C Z : Array Value), k ≤ 16 ∧ i = .int .i64 k ∧ Arr wr w.heap.size 100 Z ∧ Arr wr (w.heap.size + 1) 100 C ∧ Z.size = 64 ∧ C.size = 64 ∧ (∀ t, t < k → C[t]? = some (.int .u32 (WW B t))) ∧ Below w.heap.size w wr)
    (fun i _ => 16 - (intOf i).toNat)
  case atStart => exact ⟨0, _, _, by omega, rfl, (Arr.new _ _ _).alloc _, by simpa using Arr.new (w.alloc _) 100 _, rfl, rfl, fun t h => by omega, ((Below.refl _ _).alloc (by simp) _).alloc (by simp) _⟩
  case round =>
    obtain ⟨k, C, Z, hk, rfl, hZ, hC, hZs, hCs, hw, hbl⟩ := hrel
    by_cases hlt : k < 16
    · have h3 : (k : Int) < 16 := by omega
      have h4 : (0 : Int) ≤ k := by omega
      have c0 : wr.cell? ⟨b, off + 4 * k, none⟩ = some (.int .u8 (B (4 * k))) := by have := (hbl.cell (p := ⟨b, off + (4 * k), none⟩) hb).trans (hB (4 * k) (by omega)); exact this
      have c1 : wr.cell? ⟨b, off + 4 * k + 1, none⟩ = some (.int .u8 (B (4 * k + 1))) := by have := (hbl.cell (p := ⟨b, off + (4 * k + 1), none⟩) hb).trans (hB (4 * k + 1) (by omega)); exact this
      have c2 : wr.cell? ⟨b, off + 4 * k + 2, none⟩ = some (.int .u8 (B (4 * k + 2))) := by have := (hbl.cell (p := ⟨b, off + (4 * k + 2), none⟩) hb).trans (hB (4 * k + 2) (by omega)); exact this
      have c3 : wr.cell? ⟨b, off + 4 * k + 3, none⟩ = some (.int .u8 (B (4 * k + 3))) := by have := (hbl.cell (p := ⟨b, off + (4 * k + 3), none⟩) hb).trans (hB (4 * k + 3) (by omega)); exact this
      have cC : wr.cell? ⟨w.heap.size + 1, k, none⟩ = some (C[k]'(by omega)) := by rw [hC.cell, Array.getElem?_eq_getElem]
      have cF := hC.frozen k
      have hl : 4 * k + 4 - 4 * k = 4 := by omega
      have hne : b ≠ w.heap.size + 1 := by omega
      have hne' : w.heap.size + 1 ≠ b := by omega
      have h5 : (k : Int) < 64 := by omega
      clear hB
      go_wp2
      go_region_held3 (fun w' => w'.cell? ⟨b, off + 4 * k, none⟩ = some (.int .u8 (B (4 * k))) ∧ w'.cell? ⟨b, off + 4 * k + 1, none⟩ = some (.int .u8 (B (4 * k + 1))) ∧ w'.cell? ⟨b, off + 4 * k + 2, none⟩ = some (.int .u8 (B (4 * k + 2))) ∧ w'.cell? ⟨b, off + 4 * k + 3, none⟩ = some (.int .u8 (B (4 * k + 3)))) (go_keep) (fail)
      all_goals go_wp2
      all_goals go_roundw
      case rel =>
        have e := WW_lo B k hlt
        refine ⟨k + 1, _, Z, by omega, by go_num, (hZ.setOther _ (by simp)).drew, (hC.set k _).drew, hZs, by simp [hCs], ?_, (hbl.setCell (by simp) _).drew⟩
        have := set_step (f := fun t => .int .u32 (WW B t)) hCs (by omega) hw
        simp only [e] at this
        exact this
      case measure => simp [intOf]; omega
    · obtain rfl : k = 16 := by omega
      clear hlt hk hB
      obtain ⟨wo, rfl⟩ : ∃ wo : World, wo = wr := ⟨_, rfl⟩
      go_wp2
      go_loopw [6] (fun i wr => ∃ (k : Nat) (C : Array Value), 16 ≤ k ∧ k ≤ 64 ∧ i = .int .i64 k ∧ Arr wr w.heap.size 100 Z ∧ Arr wr (w.heap.size + 1) 100 C ∧ C.size = 64 ∧ (∀ t, t < k → C[t]? = some (.int .u32 (WW B t))) ∧ Below w.heap.size w wr)
        (fun i _ => 64 - (intOf i).toNat)
      case atStart => exact ⟨16, C, by omega, by omega, rfl, hZ, hC, hCs, hw, hbl⟩
      case round =>
        clear hC hCs hw hbl hZ
        obtain ⟨k, C, hk, hk2, rfl, hZ, hC, hCs, hw, hbl⟩ := hrel
        by_cases hlt : k < 64
        · have h3 : (k : Int) < 64 := by omega
          have h4 : (16 : Int) ≤ k := by omega
          have c2 : wr.cell? ⟨w.heap.size + 1, k - 2, none⟩ = some (.int .u32 (WW B (k - 2))) := (hC.cell _).trans (hw _ (by omega))
          have c7 : wr.cell? ⟨w.heap.size + 1, k - 7, none⟩ = some (.int .u32 (WW B (k - 7))) := (hC.cell _).trans (hw _ (by omega))
          have c15 : wr.cell? ⟨w.heap.size + 1, k - 15, none⟩ = some (.int .u32 (WW B (k - 15))) := (hC.cell _).trans (hw _ (by omega))
          have c16 : wr.cell? ⟨w.heap.size + 1, k - 16, none⟩ = some (.int .u32 (WW B (k - 16))) := (hC.cell _).trans (hw _ (by omega))
          have cC : wr.cell? ⟨w.heap.size + 1, k, none⟩ = some (C[k]'(by omega)) := by rw [hC.cell, Array.getElem?_eq_getElem]
          have cF := hC.frozen k
          have n2 : k ≠ k - 2 := by omega
          have n7 : k ≠ k - 7 := by omega
          have n15 : k ≠ k - 15 := by omega
          have n16 : k ≠ k - 16 := by omega
          have e2 : ((k : Int) - 2).toNat = k - 2 := by omega
          have e7 : ((k : Int) - 7).toNat = k - 7 := by omega
          have e15 : ((k : Int) - 15).toNat = k - 15 := by omega
          have e16 : ((k : Int) - 16).toNat = k - 16 := by omega
          have w2 : IntKind.i64.wrap ((k : Int) - 2) = (k : Int) - 2 := by simp [IntKind.wrap, IntKind.bits, IntKind.signed]; omega
          have a2 : (2 : Int) ≤ (k : Int) := by omega
          have z2 : (k : Int) - 2 < 64 := by omega
          have w7 : IntKind.i64.wrap ((k : Int) - 7) = (k : Int) - 7 := by simp [IntKind.wrap, IntKind.bits, IntKind.signed]; omega
          have a7 : (7 : Int) ≤ (k : Int) := by omega
          have z7 : (k : Int) - 7 < 64 := by omega
          have w15 : IntKind.i64.wrap ((k : Int) - 15) = (k : Int) - 15 := by simp [IntKind.wrap, IntKind.bits, IntKind.signed]; omega
          have a15 : (15 : Int) ≤ (k : Int) := by omega
          have z15 : (k : Int) - 15 < 64 := by omega
          have w16 : IntKind.i64.wrap ((k : Int) - 16) = (k : Int) - 16 := by simp [IntKind.wrap, IntKind.bits, IntKind.signed]; omega
          have a16 : (16 : Int) ≤ (k : Int) := by omega
          have z16 : (k : Int) - 16 < 64 := by omega
          go_wp2
          go_region_held3 (fun w' => w'.cell? ⟨w.heap.size + 1, k - 2, none⟩ = some (.int .u32 (WW B (k - 2))) ∧ w'.cell? ⟨w.heap.size + 1, k - 7, none⟩ = some (.int .u32 (WW B (k - 7))) ∧ w'.cell? ⟨w.heap.size + 1, k - 15, none⟩ = some (.int .u32 (WW B (k - 15))) ∧ w'.cell? ⟨w.heap.size + 1, k - 16, none⟩ = some (.int .u32 (WW B (k - 16)))) (first | exact ⟨keep_set c2 n2, keep_set c7 n7, keep_set c15 n15, keep_set c16 n16⟩ | go_keep) ((first | (go_at_call 77; refine (sg1_any _ _).mono ?_; rintro e w' ⟨rfl, rfl⟩) | (go_at_call 78; refine (sg0_any _ _).mono ?_; rintro e w' ⟨rfl, rfl⟩)))
          all_goals clear c2 c7 c15 c16 n2 n7 n15 n16 e2 e7 e15 e16 w2 w7 w15 w16 a2 a7 a15 a16 z2 z7 z15 z16 cC cF
          all_goals go_wp2
          all_goals go_roundw
          case rel =>
            repeat apply Exists.intro
            refine And.intro ?_ rfl
            have e := WW_hi B k hk hlt
            refine ⟨k + 1, _, by omega, by omega, by go_num, (hZ.setOther _ (by simp)).drew, (hC.set k _).drew, by simp [hCs], ?_, (hbl.setCell (by simp) _).drew⟩
            have := set_step (f := fun t => .int .u32 (WW B t)) hCs (by omega) hw
            have e' : WW B k = (((sg1 (WW B (k - 2)) + WW B (k - 7)) % 4294967296 + sg0 (WW B (k - 15))) % 4294967296 + WW B (k - 16)) % 4294967296 := by rw [e]; omega
            simp only [e'] at this
            simp only [← e'] at this
            rw [← e']
            exact this
          case measure => simp [intOf]; omega
        · obtain rfl : k = 64 := by omega
          have s46 : (Try.prog.info? 100).map (·.size) = some C.size := by rw [hCs]; exact size46
          have o46 := one_ints hCs hw
          have z46 : Z.size = C.size := by rw [hZs, hCs]
          go_wp2_with (first | (refine wpList_load_row rfl 100 (.tmp 3) rfl (w.heap.size + 1) rfl 100 C (0, 0) _ hC Try.underlying100 rfl s46 ?_) | (refine wpList_store_arr rfl 100 (.tmp 2) (.tmp 72) rfl w.heap.size C rfl rfl 100 Z hZ s46 z46 o46 ?_))
          refine bodyPost_ret (v := .agg C) (results_cell_row Try.results62 _ _ w.heap.size 100 C (0, 0) _ rfl (hZ.setRow C) Try.underlying100 rfl s46) rfl ⟨C, rfl, hCs, hw, below_setRow hbl (by omega) C⟩
end Go.Proofs.Ytbfelelngoonjaa

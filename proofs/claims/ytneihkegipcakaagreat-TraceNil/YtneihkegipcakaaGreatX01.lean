/- Tw, Ta, Tb, Tc, Td, Tf, Ti, Te, Tg. -/
import Derived.Test.YtneihkegipcakaaGreatRows
import Derived.BigQuiet
import Derived.Deep.QuietTactic
import Derived.Deep.WholeRow
import Derived.WalkKit
import Derived.WalkLawsBesides
import Derived.WalkSpells
import Derived.BigRegion
import Derived.Deep.DrawnRows
import Derived.Deep.RegionHeld3
import Derived.Laws.CopyOwn
import Derived.Deep.RegionLaw
import Derived.Laws.BytesArg
/- Layer trace: what the layers below give. -/
namespace Go.Proofs.YtneihkegipcakaaGreat
open Go.RowKit
set_option maxRecDepth 100000
set_option linter.unusedVariables false
set_option linter.unusedSimpArgs false

/-- Block g holds the cells C, and may be written. -/
def Arr (w : World) (g : Nat) (ty : TypeId) (C : Array Value) : Prop := w.heap[g]? = some (.cells C ty (0, 0))
theorem Arr.cell {w : World} {g ty : Nat} {C : Array Value} (h : Arr w g ty C) (j : Nat) : w.cell? ⟨g, j, none⟩ = C[j]? := by
  unfold Arr at h; simp [World.cell?, h]
theorem Arr.frozen {w : World} {g ty : Nat} {C : Array Value} (h : Arr w g ty C) (j : Nat) : w.frozen? ⟨g, j, none⟩ = false := by
  unfold Arr at h; simp [World.frozen?, h]
theorem Arr.lt {w : World} {g ty : Nat} {C : Array Value} (h : Arr w g ty C) : g < w.heap.size := by
  unfold Arr at h; exact (Array.getElem?_eq_some_iff.1 h).1
theorem Arr.set {w : World} {g ty : Nat} {C : Array Value} (h : Arr w g ty C) (j : Nat) (v : Value) : Arr (w.setCell ⟨g, j, none⟩ v) g ty (C.setIfInBounds j v) := by
  unfold Arr at h ⊢; simp [World.setCell, Array.getElem?_modify, h]
theorem Arr.setOther {w : World} {g ty : Nat} {C : Array Value} (h : Arr w g ty C) {a : Addr} (v : Value) (ha : g ≠ a.block) : Arr (w.setCell a v) g ty C := by
  unfold Arr at h ⊢; rw [Below.heap_setCell _ _ _ _ ha]; exact h
theorem Arr.drew {w : World} {g ty : Nat} {C : Array Value} (h : Arr w g ty C) : Arr w.drew g ty C := h
theorem Arr.drewN {w : World} {g ty : Nat} {C : Array Value} (h : Arr w g ty C) (n : Nat) : Arr (w.drewN n) g ty C := h
theorem Arr.alloc {w : World} {g ty : Nat} {C : Array Value} (h : Arr w g ty C) (o : Obj) : Arr (w.alloc o) g ty C := by
  have := h.lt; unfold Arr at h ⊢; rw [Below.heap_alloc _ _ _ this]; exact h
theorem Arr.new (w : World) (ty : Nat) (C : Array Value) : Arr (w.alloc (.cells C ty)) w.heap.size ty C := by
  show (w.heap.push _)[w.heap.size]? = _; rw [Array.getElem?_push_size]
theorem Arr.below {w w' : World} {g ty B : Nat} {C : Array Value} (h : Arr w g ty C) (hb : Below B w w') (hg : g < B) : Arr w' g ty C := by
  unfold Arr at h ⊢; rw [hb.block g hg]; exact h
theorem Arr.setRow {w : World} {g ty : Nat} {C : Array Value} (h : Arr w g ty C) (D : Array Value) : Arr (w.setRow g D) g ty D := setRow_heap w g C D ty (0, 0) h
theorem Arr.setRowOther {w : World} {g ty k : Nat} {C : Array Value} (h : Arr w g ty C) (D : Array Value) (hk : g ≠ k) : Arr (w.setRow k D) g ty C := by
  unfold Arr at h ⊢; rw [setRow_other w k g D hk]; exact h
theorem below_setRow {B : Nat} {a w : World} (h : Below B a w) {g : Nat} (hg : B ≤ g) (D : Array Value) : Below B a (w.setRow g D) :=
  h.trans ⟨rfl, rfl, rfl, by simp, fun k hk => setRow_other w g k D (by omega)⟩
theorem wpList_store_arr {P : Program} {ops : Array Oper} {rest : List Oper} {o : Oper} {a : Act} {w : World} {Q : Exit → Act → World → Prop} (hgd : o.guard = none) (ty : TypeId) (x y : Operand) (ho : o.op = .store ty x y)
    (g : Nat) (cells : Array Value) (hx : a.eval x = .pointer (some ⟨g, 0, none⟩)) (hy : a.eval y = .agg cells)
    (t : TypeId) (old : Array Value) (hg : Arr w g t old) (hi : (P.info? ty).map (·.size) = some cells.size)
    (hold : old.size = cells.size) (h1 : cells.all (·.oneCell') = true)
    (h : wpList P ops Q rest (a.put o.dst undef) (w.setRow g cells)) : wpList P ops Q (o :: rest) a w :=
  wpList_plain hgd fun _ hK => wp_store_row ty x y ho g cells hx hy t old hg hi hold h1 (hK _ _ h)
theorem wpList_store_new {P : Program} {ops : Array Oper} {rest : List Oper} {o : Oper} {a : Act} {Q : Exit → Act → World → Prop} (w1 : World) (z : Array Value) (t : TypeId) (hgd : o.guard = none) (ty : TypeId) (x y : Operand) (ho : o.op = .store ty x y)
    (cells : Array Value) (hx : a.eval x = .pointer (some ⟨w1.heap.size, 0, none⟩)) (hy : a.eval y = .agg cells)
    (hi : (P.info? ty).map (·.size) = some cells.size)
    (hold : z.size = cells.size) (h1 : cells.all (·.oneCell') = true)
    (h : wpList P ops Q rest (a.put o.dst undef) (w1.alloc (.cells cells t))) : wpList P ops Q (o :: rest) a (w1.alloc (.cells z t)) :=
  wpList_store_arr hgd ty x y ho w1.heap.size cells hx hy t z (Arr.new w1 t z) hi hold h1 (by rw [World.setRow_alloc_new]; exact h)
theorem one_ints {C : Array Value} {n : Nat} {k : IntKind} {f : Nat → Int} (hs : C.size = n) (h : ∀ t, t < n → C[t]? = some (.int k (f t))) : C.all (·.oneCell') = true := by
  refine Array.all_eq_true_iff_forall_mem.2 fun v hv => ?_
  obtain ⟨j, hj, rfl⟩ := Array.mem_iff_getElem.1 hv
  have := h j (by omega)
  rw [Array.getElem?_eq_getElem hj] at this
  rw [Option.some.inj this]; rfl
theorem size46 : (Tryz.prog.info? 205).map (·.size) = some 64 := by kernel_rfl
theorem size48 : (Tryz.prog.info? 186).map (·.size) = some 8 := by kernel_rfl
theorem size24 : (Tryz.prog.info? 40).map (·.size) = some 32 := by kernel_rfl
end Go.Proofs.YtneihkegipcakaaGreat
/- Layer trace: what the layers below give. -/
namespace Go.Proofs.YtneihkegipcakaaGreat
open Go.RowKit
set_option maxRecDepth 100000
set_option linter.unusedVariables false
set_option linter.unusedSimpArgs false

/-- A word turned right. -/
def rotr (x : Int) (n : Nat) : Int := bits .or .u32 (x / 2 ^ n) (x * 2 ^ (32 - n) % 4294967296)
def sg0 (x : Int) : Int := bits .xor .u32 (bits .xor .u32 (rotr x 7) (rotr x 18)) (x / 2 ^ 3)
def sg1 (x : Int) : Int := bits .xor .u32 (bits .xor .u32 (rotr x 17) (rotr x 19)) (x / 2 ^ 10)
def bg0 (x : Int) : Int := bits .xor .u32 (bits .xor .u32 (rotr x 2) (rotr x 13)) (rotr x 22)
def bg1 (x : Int) : Int := bits .xor .u32 (bits .xor .u32 (rotr x 6) (rotr x 11)) (rotr x 25)
def cho (x y z : Int) : Int := bits .or .u32 (bits .and .u32 x y) (bits .and .u32 (bits .xor .u32 IntKind.u32.max x) z)
def maj (x y z : Int) : Int := bits .or .u32 (bits .or .u32 (bits .and .u32 x y) (bits .and .u32 x z)) (bits .and .u32 y z)
set_option maxRecDepth 100000 in
set_option maxHeartbeats 400000 in
theorem turnRight_any (x n : Int) (w : World) (h0 : 0 ≤ n) (h1 : n ≤ 31) :
    Calls Tryz.prog 171 #[.int .u32 x, .int .u64 n] w fun e w' => e = .returned (.int .u32 (rotr x n.toNat)) ∧ w' = w := by
  have e : (32 - n).toNat = 32 - n.toNat := by omega
  have E : Hid ((32 - n).toNat = 32 - n.toNat) := e
  clear e
  go_enter Tryz.func171, Tryz.ntmps171
  go_wp2
  go_ret
  refine ⟨?_, rfl⟩
  unfold rotr
  rw [← E.out]; rfl
set_option maxRecDepth 100000 in
set_option maxHeartbeats 400000 in
theorem choose_any (x y z : Int) (w : World) :
    Calls Tryz.prog 167 #[.int .u32 x, .int .u32 y, .int .u32 z] w fun e w' => e = .returned (.int .u32 (cho x y z)) ∧ w' = w := by
  have hs : IntKind.u32.signed = false := rfl
  go_enter Tryz.func167, Tryz.ntmps167
  go_wp2
  go_ret
  exact ⟨rfl, rfl⟩
set_option maxRecDepth 100000 in
set_option maxHeartbeats 400000 in
theorem majority_any (x y z : Int) (w : World) :
    Calls Tryz.prog 169 #[.int .u32 x, .int .u32 y, .int .u32 z] w fun e w' => e = .returned (.int .u32 (maj x y z)) ∧ w' = w := by
  go_enter Tryz.func169, Tryz.ntmps169
  go_wp2
  go_ret
  exact ⟨rfl, rfl⟩
set_option maxRecDepth 100000 in
set_option maxHeartbeats 400000 in
theorem sg1_any (x : Int) (w : World) :
    Calls Tryz.prog 164 #[.int .u32 x] w fun e w' => e = .returned (.int .u32 (sg1 x)) ∧ w' = w := by
  go_enter Tryz.func164, Tryz.ntmps164
  go_wp2_with (go_at_call 171; refine (turnRight_any _ _ _ (by omega) (by omega)).mono ?_; rintro e w' ⟨rfl, rfl⟩)
  go_ret
  exact ⟨rfl, rfl⟩
set_option maxRecDepth 100000 in
set_option maxHeartbeats 400000 in
theorem sg0_any (x : Int) (w : World) :
    Calls Tryz.prog 165 #[.int .u32 x] w fun e w' => e = .returned (.int .u32 (sg0 x)) ∧ w' = w := by
  go_enter Tryz.func165, Tryz.ntmps165
  go_wp2_with (go_at_call 171; refine (turnRight_any _ _ _ (by omega) (by omega)).mono ?_; rintro e w' ⟨rfl, rfl⟩)
  go_ret
  exact ⟨rfl, rfl⟩
set_option maxRecDepth 100000 in
set_option maxHeartbeats 400000 in
theorem bg1_any (x : Int) (w : World) :
    Calls Tryz.prog 166 #[.int .u32 x] w fun e w' => e = .returned (.int .u32 (bg1 x)) ∧ w' = w := by
  go_enter Tryz.func166, Tryz.ntmps166
  go_wp2_with (go_at_call 171; refine (turnRight_any _ _ _ (by omega) (by omega)).mono ?_; rintro e w' ⟨rfl, rfl⟩)
  go_ret
  exact ⟨rfl, rfl⟩
set_option maxRecDepth 100000 in
set_option maxHeartbeats 400000 in
theorem bg0_any (x : Int) (w : World) :
    Calls Tryz.prog 168 #[.int .u32 x] w fun e w' => e = .returned (.int .u32 (bg0 x)) ∧ w' = w := by
  go_enter Tryz.func168, Tryz.ntmps168
  go_wp2_with (go_at_call 171; refine (turnRight_any _ _ _ (by omega) (by omega)).mono ?_; rintro e w' ⟨rfl, rfl⟩)
  go_ret
  exact ⟨rfl, rfl⟩
end Go.Proofs.YtneihkegipcakaaGreat
/- Layer trace: what the layers below give. -/
namespace Go.Proofs.YtneihkegipcakaaGreat
open Go.RowKit
set_option maxRecDepth 100000
set_option linter.unusedVariables false
set_option linter.unusedSimpArgs false

structure St where
  (a b c d e f g h : Int)
def step (s : St) (k w : Int) : St :=
  { a := ((s.h + bg1 s.e + cho s.e s.f s.g + k + w) % 4294967296 + (bg0 s.a + maj s.a s.b s.c) % 4294967296) % 4294967296,
    b := s.a, c := s.b, d := s.c,
    e := (s.d + (s.h + bg1 s.e + cho s.e s.f s.g + k + w) % 4294967296) % 4294967296,
    f := s.e, g := s.f, h := s.g }
def St.plus (s r : St) : St :=
  { a := (s.a + r.a) % 4294967296, b := (s.b + r.b) % 4294967296, c := (s.c + r.c) % 4294967296, d := (s.d + r.d) % 4294967296,
    e := (s.e + r.e) % 4294967296, f := (s.f + r.f) % 4294967296, g := (s.g + r.g) % 4294967296, h := (s.h + r.h) % 4294967296 }
def St.cells (s : St) : Array Value := #[.int .u32 s.a, .int .u32 s.b, .int .u32 s.c, .int .u32 s.d, .int .u32 s.e, .int .u32 s.f, .int .u32 s.g, .int .u32 s.h]
def rnd (K W : Nat → Int) (s : St) : Nat → St
  | 0 => s
  | t + 1 => step (rnd K W s t) (K t) (W t)
def Row (w : World) (b n : Nat) (f : Nat → Int) : Prop := ∀ t, t < n → w.cell? ⟨b, t, none⟩ = some (.int .u32 (f t))
set_option maxRecDepth 100000 in
set_option maxHeartbeats 1000000 in
theorem compress_any (s : St) (bw bk : Nat) (W K : Nat → Int) (w : World) (hbw : bw < w.heap.size) (hbk : bk < w.heap.size)
    (hW : Row w bw 64 W) (hK : Row w bk 64 K) :
    Calls Tryz.prog 160 #[.agg #[.int .u32 s.a, .int .u32 s.b, .int .u32 s.c, .int .u32 s.d, .int .u32 s.e, .int .u32 s.f, .int .u32 s.g, .int .u32 s.h], .pointer (some ⟨bw, 0, none⟩), .pointer (some ⟨bk, 0, none⟩)] w fun e w' => e = .returned (.agg (s.plus (rnd K W s 64)).cells) ∧ Below w.heap.size w w' := by
  go_enter Tryz.func160, Tryz.ntmps160
  go_wp2
  go_quiet (fail)
  go_wp2
  go_loopw [7, 8, 9, 10, 11, 12, 13, 14, 34] (fun a b c d e f g h i wr => ∃ (k n : Nat), k ≤ 64 ∧ i = .int .i64 k ∧ a = .int .u32 (rnd K W s k).a ∧ b = .int .u32 (rnd K W s k).b ∧ c = .int .u32 (rnd K W s k).c ∧ d = .int .u32 (rnd K W s k).d
     ∧ e = .int .u32 (rnd K W s k).e ∧ f = .int .u32 (rnd K W s k).f ∧ g = .int .u32 (rnd K W s k).g ∧ h = .int .u32 (rnd K W s k).h ∧ wr = ((w.alloc (.cells #[.int .u32 s.a, .int .u32 s.b, .int .u32 s.c, .int .u32 s.d, .int .u32 s.e, .int .u32 s.f, .int .u32 s.g, .int .u32 s.h] 186)).alloc (.cells #[.int .u32 0, .int .u32 0, .int .u32 0, .int .u32 0, .int .u32 0, .int .u32 0, .int .u32 0, .int .u32 0] 186)).drewN n)
     (fun _ _ _ _ _ _ _ _ i _ => 64 - (intOf i).toNat)
  case atStart => exact ⟨0, nq, by omega, rfl, rfl, rfl, rfl, rfl, rfl, rfl, rfl, rfl, rfl⟩
  case round =>
    obtain ⟨k, n, hk, rfl, rfl, rfl, rfl, rfl, rfl, rfl, rfl, rfl, hw⟩ := hrel
    by_cases hlt : k < 64
    · have h1 : wr.cell? ⟨bw, k, none⟩ = some (.int .u32 (W k)) := by rw [hw]; simpa [World.cell?_alloc_lt, hbw, Nat.lt_succ_of_lt hbw] using hW k hlt
      have h2 : wr.cell? ⟨bk, k, none⟩ = some (.int .u32 (K k)) := by rw [hw]; simpa [World.cell?_alloc_lt, hbk, Nat.lt_succ_of_lt hbk] using hK k hlt
      have h3 : (k : Int) < 64 := by omega
      have h4 : (0 : Int) ≤ k := by omega
      generalize hr : rnd K W s k = r
      have HR : Hid (rnd K W s k = r) := hr
      have HW : Hid (wr = _) := hw
      clear hr hW hK hw
      go_wp2
      go_quiet ((first | (go_at_call 166; exact Calls.quiet_of_same (bg1_any _ _)) | (go_at_call 167; exact Calls.quiet_of_same (choose_any _ _ _ _))))
      go_wp2_with (first | (go_at_call 168; refine (bg0_any _ _).mono ?_; rintro e w' ⟨rfl, rfl⟩) | (go_at_call 169; refine (majority_any _ _ _ _).mono ?_; rintro e w' ⟨rfl, rfl⟩))
      go_roundw
      case rel => exact ⟨k + 1, n + nq, by omega, by go_num, by rw [rnd, HR.out]; rfl, by rw [rnd, HR.out]; rfl, by rw [rnd, HR.out]; rfl, by rw [rnd, HR.out]; rfl, by rw [rnd, HR.out]; rfl, by rw [rnd, HR.out]; rfl, by rw [rnd, HR.out]; rfl, by rw [rnd, HR.out]; rfl, by rw [HW.out, World.drewN_drewN]⟩
      case measure => simp [intOf]; omega
    · have : k = 64 := by omega
      subst this
      subst hw
      go_wp2
      refine bodyPost_ret (v := .agg (s.plus (rnd K W s 64)).cells) (by simp [results, Tryz.results160, go_sem, St.cells, St.plus]) rfl ⟨rfl, ?_⟩
      repeat (with_reducible first | exact Below.refl _ _ | refine Below.setCell ?_ (by simp) _ | refine Below.alloc ?_ (by simp) _ | refine below_drewN ?_ _)
end Go.Proofs.YtneihkegipcakaaGreat
/- Layer trace: what the layers below give. -/
namespace Go.Proofs.YtneihkegipcakaaGreat
open Go.RowKit
set_option maxRecDepth 100000
set_option linter.unusedVariables false
set_option linter.unusedSimpArgs false
attribute [local go_sem ↓] Go.wp_at_zero Go.wp_at_succ

def Bytes (w : World) (b off n : Nat) (B : Nat → Int) : Prop := ∀ t, t < n → w.cell? ⟨b, off + t, none⟩ = some (.int .u8 (B t))
def word (B : Nat → Int) (t : Nat) : Int :=
  bits .or .u32 (bits .or .u32 (bits .or .u32 (B (4 * t) % 4294967296 * 16777216 % 4294967296) (B (4 * t + 1) % 4294967296 * 65536 % 4294967296)) (B (4 * t + 2) % 4294967296 * 256 % 4294967296)) (B (4 * t + 3) % 4294967296)
def wnext (l : List Int) : Int := (sg1 (l.getD (l.length - 2) 0) + l.getD (l.length - 7) 0 + sg0 (l.getD (l.length - 15) 0) + l.getD (l.length - 16) 0) % 4294967296
def wsn (B : Nat → Int) : Nat → List Int
  | 0 => (List.range 16).map (word B)
  | k + 1 => wsn B k ++ [wnext (wsn B k)]
def WW (B : Nat → Int) (t : Nat) : Int := (wsn B 48).getD t 0
theorem wsn_len (B : Nat → Int) (k : Nat) : (wsn B k).length = 16 + k := by
  induction k with
  | zero => simp [wsn]
  | succ k ih => simp [wsn, ih]; omega
theorem wsn_pre (B : Nat → Int) (j k t : Nat) (ht : t < 16 + k) : (wsn B (k + j)).getD t 0 = (wsn B k).getD t 0 := by
  induction j with
  | zero => rfl
  | succ j ih =>
    rw [← ih, ← Nat.add_assoc, wsn]
    have := wsn_len B (k + j)
    simp only [List.getD_eq_getElem?_getD]
    rw [List.getElem?_append_left (by omega)]
theorem WW_pre (B : Nat → Int) (k t : Nat) (hk : k ≤ 48) (ht : t < 16 + k) : WW B t = (wsn B k).getD t 0 := by
  have := wsn_pre B (48 - k) k t ht
  rw [show k + (48 - k) = 48 by omega] at this
  exact this
theorem WW_lo (B : Nat → Int) (t : Nat) (ht : t < 16) : WW B t = word B t := by
  rw [WW_pre B 0 t (by omega) (by omega)]; simp [wsn, List.getElem?_range ht]
theorem WW_hi (B : Nat → Int) (t : Nat) (h1 : 16 ≤ t) (h2 : t < 64) :
    WW B t = (sg1 (WW B (t - 2)) + WW B (t - 7) + sg0 (WW B (t - 15)) + WW B (t - 16)) % 4294967296 := by
  obtain ⟨k, rfl⟩ : ∃ k, t = 16 + k := ⟨t - 16, by omega⟩
  rw [WW_pre B (k + 1) _ (by omega) (by omega), WW_pre B k (16 + k - 2) (by omega) (by omega), WW_pre B k (16 + k - 7) (by omega) (by omega), WW_pre B k (16 + k - 15) (by omega) (by omega), WW_pre B k (16 + k - 16) (by omega) (by omega), wsn]
  have := wsn_len B k
  simp only [List.getD_eq_getElem?_getD]
  rw [List.getElem?_append_right (by omega), this, Nat.sub_self]
  simp [wnext, this]
theorem set_step {C : Array Value} {f : Nat → Value} {k n : Nat} (hs : C.size = n) (hk : k < n) (h : ∀ t, t < k → C[t]? = some (f t)) :
    ∀ t, t < k + 1 → (C.setIfInBounds k (f k))[t]? = some (f t) := by
  intro t ht
  rw [Array.getElem?_setIfInBounds]
  by_cases e : k = t
  · subst e; simp [hs, hk]
  · rw [if_neg e]; exact h t (by omega)
theorem keep_set {w : World} {g k j : Nat} {u v : Value} (h : w.cell? ⟨g, j, none⟩ = some v) (hk : k ≠ j) : (w.setCell ⟨g, k, none⟩ u).drew.cell? ⟨g, j, none⟩ = some v := by
  rw [World.cell?_drew, World.cell?_setCell_other]
  · exact h
  · intro e; injection e; contradiction
set_option maxRecDepth 100000 in
set_option maxHeartbeats 1000000 in
theorem schedule_any (b off cap : Nat) (B : Nat → Int) (w : World) (hb : b < w.heap.size) (hB : Bytes w b off 64 B) (hcap : 64 ≤ cap) :
    Calls Tryz.prog 159 #[.slice (some ⟨b, off, none⟩) 64 cap] w fun e w' => ∃ C : Array Value, e = .returned (.agg C) ∧ C.size = 64 ∧ (∀ t, t < 64 → C[t]? = some (.int .u32 (WW B t))) ∧ Below w.heap.size w w' := by
  go_enter Tryz.func159, Tryz.ntmps159
  go_wp2
  go_loopw [7] (fun i wr => ∃ (k : Nat) (C Z : Array Value), k ≤ 16 ∧ i = .int .i64 k ∧ Arr wr w.heap.size 205 Z ∧ Arr wr (w.heap.size + 1) 205 C ∧ Z.size = 64 ∧ C.size = 64 ∧ (∀ t, t < k → C[t]? = some (.int .u32 (WW B t))) ∧ Below w.heap.size w wr)
    (fun i _ => 16 - (intOf i).toNat)
  case atStart => exact ⟨0, _, _, by omega, rfl, (Arr.new _ _ _).alloc _, by simpa using Arr.new (w.alloc _) 205 _, rfl, rfl, fun t h => by omega, ((Below.refl _ _).alloc (by simp) _).alloc (by simp) _⟩
  case round =>
    obtain ⟨k, C, Z, hk, rfl, hZ, hC, hZs, hCs, hw, hbl⟩ := hrel
    by_cases hlt : k < 16
    · have h3 : (k : Int) < 16 := by omega
      have h4 : (0 : Int) ≤ k := by omega
      have c0 : wr.cell? ⟨b, off + 4 * k, none⟩ = some (.int .u8 (B (4 * k))) := by have := (hbl.cell (p := ⟨b, off + (4 * k), none⟩) hb).trans (hB (4 * k) (by omega)); exact this
      have c1 : wr.cell? ⟨b, off + 4 * k + 1, none⟩ = some (.int .u8 (B (4 * k + 1))) := by have := (hbl.cell (p := ⟨b, off + (4 * k + 1), none⟩) hb).trans (hB (4 * k + 1) (by omega)); exact this
      have c2 : wr.cell? ⟨b, off + 4 * k + 2, none⟩ = some (.int .u8 (B (4 * k + 2))) := by have := (hbl.cell (p := ⟨b, off + (4 * k + 2), none⟩) hb).trans (hB (4 * k + 2) (by omega)); exact this
      have c3 : wr.cell? ⟨b, off + 4 * k + 3, none⟩ = some (.int .u8 (B (4 * k + 3))) := by have := (hbl.cell (p := ⟨b, off + (4 * k + 3), none⟩) hb).trans (hB (4 * k + 3) (by omega)); exact this
      have cC : wr.cell? ⟨w.heap.size + 1, k, none⟩ = some (C[k]'(by omega)) := by rw [hC.cell, Array.getElem?_eq_getElem]
      have cF := hC.frozen k
      have hl : 4 * k + 4 - 4 * k = 4 := by omega
      have hne : b ≠ w.heap.size + 1 := by omega
      have hne' : w.heap.size + 1 ≠ b := by omega
      have h5 : (k : Int) < 64 := by omega
      clear hB
      go_wp2
      go_region_held3 (fun w' => w'.cell? ⟨b, off + 4 * k, none⟩ = some (.int .u8 (B (4 * k))) ∧ w'.cell? ⟨b, off + 4 * k + 1, none⟩ = some (.int .u8 (B (4 * k + 1))) ∧ w'.cell? ⟨b, off + 4 * k + 2, none⟩ = some (.int .u8 (B (4 * k + 2))) ∧ w'.cell? ⟨b, off + 4 * k + 3, none⟩ = some (.int .u8 (B (4 * k + 3)))) (go_keep) (fail)
      all_goals go_wp2
      all_goals go_roundw
      case rel =>
        have e := WW_lo B k hlt
        refine ⟨k + 1, _, Z, by omega, by go_num, (hZ.setOther _ (by simp)).drew, (hC.set k _).drew, hZs, by simp [hCs], ?_, (hbl.setCell (by simp) _).drew⟩
        have := set_step (f := fun t => .int .u32 (WW B t)) hCs (by omega) hw
        simp only [e] at this
        exact this
      case measure => simp [intOf]; omega
    · obtain rfl : k = 16 := by omega
      clear hlt hk hB
      obtain ⟨wo, rfl⟩ : ∃ wo : World, wo = wr := ⟨_, rfl⟩
      go_wp2
      go_loopw [6] (fun i wr => ∃ (k : Nat) (C : Array Value), 16 ≤ k ∧ k ≤ 64 ∧ i = .int .i64 k ∧ Arr wr w.heap.size 205 Z ∧ Arr wr (w.heap.size + 1) 205 C ∧ C.size = 64 ∧ (∀ t, t < k → C[t]? = some (.int .u32 (WW B t))) ∧ Below w.heap.size w wr)
        (fun i _ => 64 - (intOf i).toNat)
      case atStart => exact ⟨16, C, by omega, by omega, rfl, hZ, hC, hCs, hw, hbl⟩
      case round =>
        clear hC hCs hw hbl hZ
        obtain ⟨k, C, hk, hk2, rfl, hZ, hC, hCs, hw, hbl⟩ := hrel
        by_cases hlt : k < 64
        · have h3 : (k : Int) < 64 := by omega
          have h4 : (16 : Int) ≤ k := by omega
          have c2 : wr.cell? ⟨w.heap.size + 1, k - 2, none⟩ = some (.int .u32 (WW B (k - 2))) := (hC.cell _).trans (hw _ (by omega))
          have c7 : wr.cell? ⟨w.heap.size + 1, k - 7, none⟩ = some (.int .u32 (WW B (k - 7))) := (hC.cell _).trans (hw _ (by omega))
          have c15 : wr.cell? ⟨w.heap.size + 1, k - 15, none⟩ = some (.int .u32 (WW B (k - 15))) := (hC.cell _).trans (hw _ (by omega))
          have c16 : wr.cell? ⟨w.heap.size + 1, k - 16, none⟩ = some (.int .u32 (WW B (k - 16))) := (hC.cell _).trans (hw _ (by omega))
          have cC : wr.cell? ⟨w.heap.size + 1, k, none⟩ = some (C[k]'(by omega)) := by rw [hC.cell, Array.getElem?_eq_getElem]
          have cF := hC.frozen k
          have n2 : k ≠ k - 2 := by omega
          have n7 : k ≠ k - 7 := by omega
          have n15 : k ≠ k - 15 := by omega
          have n16 : k ≠ k - 16 := by omega
          have e2 : ((k : Int) - 2).toNat = k - 2 := by omega
          have e7 : ((k : Int) - 7).toNat = k - 7 := by omega
          have e15 : ((k : Int) - 15).toNat = k - 15 := by omega
          have e16 : ((k : Int) - 16).toNat = k - 16 := by omega
          have w2 : IntKind.i64.wrap ((k : Int) - 2) = (k : Int) - 2 := by simp [IntKind.wrap, IntKind.bits, IntKind.signed]; omega
          have a2 : (2 : Int) ≤ (k : Int) := by omega
          have z2 : (k : Int) - 2 < 64 := by omega
          have w7 : IntKind.i64.wrap ((k : Int) - 7) = (k : Int) - 7 := by simp [IntKind.wrap, IntKind.bits, IntKind.signed]; omega
          have a7 : (7 : Int) ≤ (k : Int) := by omega
          have z7 : (k : Int) - 7 < 64 := by omega
          have w15 : IntKind.i64.wrap ((k : Int) - 15) = (k : Int) - 15 := by simp [IntKind.wrap, IntKind.bits, IntKind.signed]; omega
          have a15 : (15 : Int) ≤ (k : Int) := by omega
          have z15 : (k : Int) - 15 < 64 := by omega
          have w16 : IntKind.i64.wrap ((k : Int) - 16) = (k : Int) - 16 := by simp [IntKind.wrap, IntKind.bits, IntKind.signed]; omega
          have a16 : (16 : Int) ≤ (k : Int) := by omega
          have z16 : (k : Int) - 16 < 64 := by omega
          go_wp2
          go_region_held3 (fun w' => w'.cell? ⟨w.heap.size + 1, k - 2, none⟩ = some (.int .u32 (WW B (k - 2))) ∧ w'.cell? ⟨w.heap.size + 1, k - 7, none⟩ = some (.int .u32 (WW B (k - 7))) ∧ w'.cell? ⟨w.heap.size + 1, k - 15, none⟩ = some (.int .u32 (WW B (k - 15))) ∧ w'.cell? ⟨w.heap.size + 1, k - 16, none⟩ = some (.int .u32 (WW B (k - 16)))) (first | exact ⟨keep_set c2 n2, keep_set c7 n7, keep_set c15 n15, keep_set c16 n16⟩ | go_keep) ((first | (go_at_call 164; refine (sg1_any _ _).mono ?_; rintro e w' ⟨rfl, rfl⟩) | (go_at_call 165; refine (sg0_any _ _).mono ?_; rintro e w' ⟨rfl, rfl⟩)))
          all_goals clear c2 c7 c15 c16 n2 n7 n15 n16 e2 e7 e15 e16 w2 w7 w15 w16 a2 a7 a15 a16 z2 z7 z15 z16 cC cF
          all_goals go_wp2
          all_goals go_roundw
          case rel =>
            repeat apply Exists.intro
            refine And.intro ?_ rfl
            have e := WW_hi B k hk hlt
            refine ⟨k + 1, _, by omega, by omega, by go_num, (hZ.setOther _ (by simp)).drew, (hC.set k _).drew, by simp [hCs], ?_, (hbl.setCell (by simp) _).drew⟩
            have := set_step (f := fun t => .int .u32 (WW B t)) hCs (by omega) hw
            have e' : WW B k = (((sg1 (WW B (k - 2)) + WW B (k - 7)) % 4294967296 + sg0 (WW B (k - 15))) % 4294967296 + WW B (k - 16)) % 4294967296 := by rw [e]; omega
            simp only [e'] at this
            simp only [← e'] at this
            rw [← e']
            exact this
          case measure => simp [intOf]; omega
        · obtain rfl : k = 64 := by omega
          have s46 : (Tryz.prog.info? 205).map (·.size) = some C.size := by rw [hCs]; exact size46
          have o46 := one_ints hCs hw
          have z46 : Z.size = C.size := by rw [hZs, hCs]
          go_wp2_with (first | (refine wpList_load_row rfl 205 (.tmp 3) rfl (w.heap.size + 1) rfl 205 C (0, 0) _ hC Tryz.underlying205 rfl s46 ?_) | (refine wpList_store_arr rfl 205 (.tmp 2) (.tmp 72) rfl w.heap.size C rfl rfl 205 Z hZ s46 z46 o46 ?_))
          refine bodyPost_ret (v := .agg C) (results_cell_row Tryz.results159 _ _ w.heap.size 205 C (0, 0) _ rfl (hZ.setRow C) Tryz.underlying205 rfl s46) rfl ⟨C, rfl, hCs, hw, below_setRow hbl (by omega) C⟩
end Go.Proofs.YtneihkegipcakaaGreat
/- Layer trace: what the layers below give. -/
namespace Go.Proofs.YtneihkegipcakaaGreat
open Go.RowKit
set_option maxRecDepth 100000
set_option linter.unusedVariables false
set_option linter.unusedSimpArgs false

def absorbN (K B : Nat → Int) (s : St) : Nat → St
  | 0 => s
  | m + 1 => (absorbN K B s m).plus (rnd K (WW fun t => B (64 * m + t)) (absorbN K B s m) 64)
theorem Arr.row {w : World} {g ty : Nat} {C : Array Value} (h : Arr w g ty C) {n : Nat} {f : Nat → Int} (hf : ∀ t, t < n → C[t]? = some (.int .u32 (f t))) : Row w g n f := fun t ht => (h.cell t).trans (hf t ht)
theorem Row.below {w w' : World} {b n B : Nat} {f : Nat → Int} (h : Row w b n f) (hb : Below B w w') (hlt : b < B) : Row w' b n f := fun t ht => (hb.cell (p := ⟨b, t, none⟩) hlt).trans (h t ht)
theorem Row.alloc {w : World} {b n : Nat} {f : Nat → Int} (h : Row w b n f) (hlt : b < w.heap.size) (o : Obj) : Row (w.alloc o) b n f := fun t ht => by
  rw [World.cell?_alloc_lt _ _ _ hlt]; exact h t ht
theorem St.size (s : St) : s.cells.size = 8 := rfl
theorem St.one (s : St) : s.cells.all (·.oneCell') = true := by simp [St.cells, Value.oneCell']
theorem compress_cells (s : St) (bw bk : Nat) (W K : Nat → Int) (w : World) (hbw : bw < w.heap.size) (hbk : bk < w.heap.size)
    (hW : Row w bw 64 W) (hK : Row w bk 64 K) :
    Calls Tryz.prog 160 #[.agg s.cells, .pointer (some ⟨bw, 0, none⟩), .pointer (some ⟨bk, 0, none⟩)] w fun e w' => e = .returned (.agg (s.plus (rnd K W s 64)).cells) ∧ Below w.heap.size w w' :=
  compress_any s bw bk W K w hbw hbk hW hK
theorem s48 (s : St) : (Tryz.prog.info? 186).map (·.size) = some s.cells.size := size48
set_option maxRecDepth 100000 in
set_option maxHeartbeats 1000000 in
theorem absorb_any (s : St) (b off cap m bk : Nat) (K B : Nat → Int) (w : World) (hB : Bytes w b off (64 * m) B) (hcap : 64 * m ≤ cap) (hcap2 : 64 * m ≤ 140737488355328) (hbk : bk < w.heap.size) (hK : Row w bk 64 K) :
    Calls Tryz.prog 144 #[.agg s.cells, .slice (some ⟨b, off, none⟩) (64 * m) cap, .pointer (some ⟨bk, 0, none⟩)] w fun e w' => e = .returned (.agg (absorbN K B s m).cells) ∧ Below w.heap.size w w' := by
  have hs8 := St.size s
  go_enter Tryz.func144, Tryz.ntmps144
  go_wp2_with fail
  go_loopw [7] (fun i wr => ∃ j : Nat, j ≤ m ∧ i = .int .i64 (64 * (j : Int)) ∧ Arr wr w.heap.size 186 (absorbN K B s j).cells ∧ (∃ Z : St, Arr wr (w.heap.size + 1) 186 Z.cells) ∧ Below w.heap.size w wr)
    (fun i _ => 64 * m - (intOf i).toNat)
  case atStart => exact ⟨0, by omega, rfl, (Arr.new _ _ _).alloc _, ⟨⟨0, 0, 0, 0, 0, 0, 0, 0⟩, by simpa [St.cells] using Arr.new (w.alloc _) 186 _⟩, ((Below.refl _ _).alloc (by simp) _).alloc (by simp) _⟩
  case round =>
    obtain ⟨j, hj, rfl, hA, ⟨Z, hZ⟩, hbl⟩ := hrel
    have h3 : (j : Int) ≤ m := by omega
    have h4 : (0 : Int) ≤ j := by omega
    by_cases hlt : j < m
    · have hb : b < w.heap.size := block_lt_of_cell (hB 0 (by omega))
      have hB' : Bytes wr b (off + 64 * j) 64 (fun t => B (64 * j + t)) := fun t ht => by
        have := (hbl.cell (p := ⟨b, off + (64 * j + t), none⟩) hb).trans (hB (64 * j + t) (by omega))
        rw [← Nat.add_assoc] at this; exact this
      have hbr : b < wr.heap.size := Nat.lt_of_lt_of_le hb hbl.size
      have hl : 64 * j + 64 - 64 * j = 64 := by omega
      have h5 : (j : Int) + 1 ≤ m := by omega
      have HB : Hid (Bytes w b off (64 * m) B) := hB
      have HK : Hid (Row w bk 64 K) := hK
      clear hB hK
      have hbkr : bk < wr.heap.size := Nat.lt_of_lt_of_le hbk hbl.size
      have hKr : Row wr bk 64 K := HK.out.below hbl hbk
      go_wp2_with (first
        | (go_at_call 159; go_must (refine (schedule_any b (off + 64 * j) 64 (fun t => B (64 * j + t)) wr hbr hB' (by omega)).mono ?_; rintro e w1 ⟨C, rfl, hCs, hCw, hb1⟩; have hA1 := (hA.below hb1 hA.lt).alloc (.cells C 205); have hZ1 := (hZ.below hb1 hZ.lt).alloc (.cells C 205); have hW1 := (Arr.new w1 205 C).row hCw; have hbk1 : bk < (w1.alloc (.cells C 205)).heap.size := Nat.lt_of_lt_of_le hbkr (Nat.le_trans hb1.size (by simp)); have hK1 := (hKr.below hb1 hbkr).alloc (Nat.lt_of_lt_of_le hbkr hb1.size) (.cells C 205)))
        | (refine wpList_store_new w1 _ 205 (by rfl) 205 (.tmp 8) (.tmp 22) (by rfl) C (by rfl) (by rfl) (by rw [hCs]; exact size46) (Eq.trans (by rfl) hCs.symm) (one_ints hCs hCw) ?_)
        | (refine wpList_load_row rfl 186 (.tmp 3) rfl w.heap.size rfl 186 (absorbN K B s j).cells (0, 0) _ hA1 Tryz.underlying186 rfl (s48 _) ?_)
        | (go_at_call 160; go_must (refine (compress_cells (absorbN K B s j) w1.heap.size bk (WW fun t => B (64 * j + t)) K (w1.alloc (.cells C 205)) (by simp) hbk1 hW1 hK1).mono ?_; rintro e w2 ⟨rfl, hb2⟩; have hA2 := hA1.below hb2 hA1.lt; have hZ2 := hZ1.below hb2 hZ1.lt))
        | (refine wpList_store_arr rfl 186 (.tmp 3) (.tmp 25) rfl w.heap.size (absorbN K B s (j + 1)).cells rfl rfl 186 _ hA2 (s48 _) rfl (St.one _) ?_))
      go_roundw
      case rel => exact ⟨j + 1, by omega, by go_num, hA2.setRow _, ⟨Z, hZ2.setRowOther _ (by omega)⟩, below_setRow ((hbl.trans (hb1.mono hbl.size)).trans (((Below.refl _ _).alloc (Nat.le_trans hbl.size hb1.size) _).trans (hb2.mono (by simp; have := hbl.size; have := hb1.size; omega)))) (by omega) _⟩
      case measure => simp [intOf]; omega
    · obtain rfl : j = m := by omega
      clear hB hK
      go_wp2_with (first
        | (refine wpList_load_row rfl 186 (.tmp 3) rfl w.heap.size rfl 186 (absorbN K B s j).cells (0, 0) _ hA Tryz.underlying186 rfl (s48 _) ?_)
        | (refine wpList_store_arr rfl 186 (.tmp 6) (.tmp 26) rfl (w.heap.size + 1) (absorbN K B s j).cells rfl rfl 186 _ hZ (s48 _) rfl (St.one _) ?_))
      exact bodyPost_ret (v := .agg (absorbN K B s j).cells) (results_cell_row Tryz.results144 _ _ (w.heap.size + 1) 186 _ (0, 0) _ rfl (hZ.setRow _) Tryz.underlying186 rfl (s48 _)) rfl ⟨rfl, below_setRow hbl (by omega) _⟩
set_option maxRecDepth 100000 in
set_option maxHeartbeats 1000000 in
theorem absorb_zero (s : St) (ad : Option Addr) (cap bk : Nat) (w : World) :
    Calls Tryz.prog 144 #[.agg s.cells, .slice ad 0 cap, .pointer (some ⟨bk, 0, none⟩)] w fun e w' => e = .returned (.agg s.cells) ∧ Below w.heap.size w w' := by
  have hA : Arr ((w.alloc (.cells s.cells 186)).alloc (.cells (St.cells ⟨0, 0, 0, 0, 0, 0, 0, 0⟩) 186)) w.heap.size 186 s.cells := (Arr.new _ _ _).alloc _
  have hZ : Arr ((w.alloc (.cells s.cells 186)).alloc (.cells (St.cells ⟨0, 0, 0, 0, 0, 0, 0, 0⟩) 186)) (w.heap.size + 1) 186 (St.cells ⟨0, 0, 0, 0, 0, 0, 0, 0⟩) := by simpa using Arr.new (w.alloc (.cells s.cells 186)) 186 _
  go_enter Tryz.func144, Tryz.ntmps144
  go_wp2_with fail
  go_loopw [7] (fun i wr => i = .int .i64 0 ∧ wr = (w.alloc (.cells s.cells 186)).alloc (.cells (St.cells ⟨0, 0, 0, 0, 0, 0, 0, 0⟩) 186)) (fun _ _ => 0)
  case atStart => exact ⟨rfl, rfl⟩
  case round =>
    obtain ⟨rfl, rfl⟩ := hrel
    go_wp2_with (first
        | (refine wpList_load_row rfl 186 (.tmp 3) rfl w.heap.size rfl 186 s.cells (0, 0) _ hA Tryz.underlying186 rfl (s48 _) ?_)
        | (refine wpList_store_arr rfl 186 (.tmp 6) (.tmp 26) rfl (w.heap.size + 1) s.cells rfl rfl 186 _ hZ (s48 _) rfl (St.one _) ?_))
    exact bodyPost_ret (v := .agg s.cells) (results_cell_row Tryz.results144 _ _ (w.heap.size + 1) 186 _ (0, 0) _ rfl (hZ.setRow _) Tryz.underlying186 rfl (s48 _)) rfl ⟨rfl, below_setRow (((Below.refl _ _).alloc (by simp) _).alloc (by simp) _) (by omega) _⟩
end Go.Proofs.YtneihkegipcakaaGreat
/- Layer trace: what the layers below give. -/
namespace Go.Proofs.YtneihkegipcakaaGreat
open Go.RowKit
set_option maxRecDepth 100000
set_option linter.unusedVariables false
set_option linter.unusedSimpArgs false

/-- What a slice of bytes reads: nil and empty ones too. -/
def Sl (w : World) (sp : Option Addr) (len : Nat) (B : Nat → Int) : Prop := 0 < len → ∃ b off, sp = some ⟨b, off, none⟩ ∧ Bytes w b off len B
set_option maxRecDepth 100000 in
set_option maxHeartbeats 400000 in
theorem lastRounds_two (r : Int) (w : World) (h : 55 < r) (h2 : r ≤ 1000) :
    Calls Tryz.prog 161 #[.int .i64 r] w fun e w' => e = .returned (.int .i64 2) ∧ w' = w := by
  have h3 : 64 < r + 1 + 8 := by omega
  go_enter Tryz.func161, Tryz.ntmps161
  go_wp2
  go_ret
  exact ⟨rfl, rfl⟩
set_option maxRecDepth 100000 in
set_option maxHeartbeats 400000 in
theorem lastRounds_one (r : Int) (w : World) (h0 : 0 ≤ r) (h : r ≤ 55) :
    Calls Tryz.prog 161 #[.int .i64 r] w fun e w' => e = .returned (.int .i64 1) ∧ w' = w := by
  have h3 : ¬ 64 < r + 1 + 8 := by omega
  go_enter Tryz.func161, Tryz.ntmps161
  go_wp2
  go_ret
  exact ⟨rfl, rfl⟩
theorem info5 : (Tryz.prog.info? 5).map (fun i => (i.zero, i.size, i.bytes)) = some (some (.int .u8 0), 1, 1) := by kernel_rfl
theorem size5 : (Tryz.prog.info? 5).map (·.size) = some 1 := by kernel_rfl
def lenB (T : Int) (n t : Nat) : Int := T * 8 / 2 ^ (8 * (n - 1 - t)) % 256
def baseB (B : Nat → Int) (r t : Nat) : Int := if t < r then B t else if t = r then 128 else 0
def padB (B : Nat → Int) (T : Int) (r n t : Nat) : Int := if t < n - 8 then baseB B r t else lenB T n t
theorem getElem?_madeCells (v : Value) (n t : Nat) (h : t < n) : (madeCells #[v] n)[t]? = some v := by
  simp [madeCells, h, Nat.mod_one]
theorem splice_head {L cs : List Value} (t : Nat) : (splice L 0 cs)[t]? = if t < cs.length then cs[t]? else L[t]? := by
  unfold splice
  by_cases ht : t < cs.length
  · simp [ht, List.getElem?_append_left]
  · rw [if_neg ht]; simp; rw [List.getElem?_append_right (by omega)]; simp; congr 1; omega
/-- The bytes of a slice as cells. -/
def cellsB (B : Nat → Int) (r : Nat) : List Value := (List.range r).map fun t => .int .u8 (B t)
theorem cellsB_len (B : Nat → Int) (r : Nat) : (cellsB B r).length = r := by simp [cellsB]
theorem cellsB_get {B : Nat → Int} {r t : Nat} (h : t < r) : (cellsB B r)[t]? = some (.int .u8 (B t)) := by simp [cellsB, h]
theorem cellsB_one (B : Nat → Int) (r : Nat) : ∀ v ∈ cellsB B r, v.oneCell' = true := by
  intro v hv; simp only [cellsB, List.mem_map] at hv; obtain ⟨t, -, rfl⟩ := hv; rfl
theorem Sl.pos {w : World} {sp : Option Addr} {r : Nat} {B : Nat → Int} (h : Sl w sp r B) (h0 : 0 < (cellsB B r).length) :
    ∃ ad, sp = some ad ∧ ∀ j v, (cellsB B r)[j]? = some v → w.cell? (ad.add j) = some v := by
  rw [cellsB_len] at h0
  obtain ⟨b, off, rfl, hB⟩ := h h0
  refine ⟨_, rfl, fun j v hv => ?_⟩
  have hj : j < r := by have := (List.getElem?_eq_some_iff.1 hv).1; rwa [cellsB_len] at this
  rw [cellsB_get hj] at hv
  rw [Addr.add_mid, hB j hj]; exact hv
theorem Sl.alloc {w : World} {sp : Option Addr} {r : Nat} {B : Nat → Int} (h : Sl w sp r B) (o : Obj) : Sl (w.alloc o) sp r B := fun h0 => by
  obtain ⟨b, off, rfl, hB⟩ := h h0
  exact ⟨b, off, rfl, fun t ht => by rw [World.cell?_alloc_lt _ _ _ (block_lt_of_cell (hB t ht))]; exact hB t ht⟩
theorem Sl.below {w w' : World} {sp : Option Addr} {r : Nat} {B : Nat → Int} (h : Sl w sp r B) (hb : Below w.heap.size w w') : Sl w' sp r B := fun h0 => by
  obtain ⟨b, off, rfl, hB⟩ := h h0
  exact ⟨b, off, rfl, fun t ht => by rw [hb.cell (p := ⟨b, off + t, none⟩) (block_lt_of_cell (hB t ht))]; exact hB t ht⟩
/-- The row behind the copy and the byte behind it. -/
theorem base_row {B : Nat → Int} {r n : Nat} (hr : r < n) (v0 : Value) (hv : v0 = .int .u8 0) :
    ∀ t, t < n → ((splice (madeCells #[v0] n).toList 0 (cellsB B r)).toArray.setIfInBounds r (.int .u8 128))[t]? = some (.int .u8 (baseB B r t)) := by
  intro t ht
  subst hv
  have hl : (splice (madeCells #[Value.int .u8 0] n).toList 0 (cellsB B r)).length = n := by
    rw [length_splice]
    · simp [size_madeCells]
    · simp [size_madeCells, cellsB_len]; omega
  rw [Array.getElem?_setIfInBounds]
  by_cases e : r = t
  · subst e; simp [hl, hr, baseB]
  · rw [if_neg e, List.getElem?_toArray, splice_head, cellsB_len]
    by_cases h : t < r
    · rw [if_pos h, cellsB_get h]; simp [baseB, h]
    · rw [if_neg h, Array.getElem?_toList, getElem?_madeCells _ _ _ ht]; simp [baseB, h]; omega
/-- A row whose last k bytes are the length's. -/
def lastK (B : Nat → Int) (T : Int) (r n k t : Nat) : Int := if t < n - k then baseB B r t else lenB T n t
theorem last_step {C : Array Value} {B : Nat → Int} {T : Int} {r n k : Nat} (hs : C.size = n) (hk : k < n) (h : ∀ t, t < n → C[t]? = some (.int .u8 (lastK B T r n k t))) :
    ∀ t, t < n → (C.setIfInBounds (n - 1 - k) (.int .u8 (lenB T n (n - 1 - k))))[t]? = some (.int .u8 (lastK B T r n (k + 1) t)) := by
  intro t ht
  rw [Array.getElem?_setIfInBounds]
  by_cases e : n - 1 - k = t
  · rw [if_pos e, if_pos (by omega), ← e]; simp only [lastK]; rw [if_neg (by omega)]
  · rw [if_neg e, h t ht]; simp only [lastK]
    by_cases h1 : t < n - k
    · rw [if_pos h1, if_pos (by omega)]
    · rw [if_neg h1, if_neg (by omega)]
theorem Hid.mk' {p : Prop} (h : p) : Hid p := h
theorem Arr.got {w : World} {g ty : Nat} {C : Array Value} (h : Arr w g ty C) {j : Nat} (hj : j < C.size) : ∃ v, w.cell? ⟨g, j, none⟩ = some v :=
  ⟨C[j], by rw [h.cell, Array.getElem?_eq_getElem hj]⟩
theorem splice_size {B : Nat → Int} {r n : Nat} (hr : r < n) : (splice (madeCells #[Value.int .u8 0] n).toList 0 (cellsB B r)).toArray.size = n := by
  rw [List.size_toArray, length_splice]
  · simp [size_madeCells]
  · simp [size_madeCells, cellsB_len]; omega
set_option maxRecDepth 100000 in
set_option maxHeartbeats 1000000 in
theorem lastBlocks_any (sp : Option Addr) (r cap n : Nat) (T : Int) (B : Nat → Int) (w : World) (hS : Sl w sp r B) (hn : (55 < r ∧ n = 128) ∨ (r ≤ 55 ∧ n = 64)) (hr : r < 64) (hT0 : 0 ≤ T) (hT : T ≤ 140737488355328) :
    Calls Tryz.prog 145 #[.slice sp r cap, .int .i64 T] w fun e w' => ∃ C : Array Value, e = .returned (.slice (some ⟨w.heap.size, 0, none⟩) n n) ∧ Arr w' w.heap.size 5 C ∧ C.size = n ∧ (∀ t, t < n → C[t]? = some (.int .u8 (padB B T r n t))) ∧ Below w.heap.size w w' := by
  obtain ⟨i0, hi, hz0, hz1, hz2⟩ := info_parts info5
  have hmk : ∀ (n : Nat) (u : World), n ≤ 128 → (Instr.makeSlice 50 (.int .i64 n) (.int .i64 n)).run Tryz.prog u = .ok (.slice (some ⟨u.heap.size, 0, none⟩) n n) (u.alloc (.cells (madeCells #[.int .u8 0] n) 5)) := fun n u hn => by
    have h := run_make (P := Tryz.prog) (w := u) 50 5 i0 (.int .u8 0) Tryz.underlying50 hi hz0 .i64 .i64 (n : Int) (n : Int) (by omega) (Int.le_refl _) (by rw [hz2]; omega) (by omega)
    simpa [hz1, Value.cells] using h
  have hrI : (r : Int) < 64 := by omega
  have hr0 : (0 : Int) ≤ r := by omega
  rcases hn with ⟨h, rfl⟩ | ⟨h, rfl⟩
  · have hm : ∀ u : World, (Instr.makeSlice 50 (.int .i64 128) (.int .i64 128)).run Tryz.prog u = .ok (.slice (some ⟨u.heap.size, 0, none⟩) 128 128) (u.alloc (.cells (madeCells #[.int .u8 0] 128) 5)) := fun u => hmk 128 u (by omega)
    clear hmk
    have h' : (55 : Int) < r := by omega
    have hrn : r < 128 := by omega
    have hrnI : (r : Int) < 128 := by omega
    go_enter Tryz.func145, Tryz.ntmps145
    go_wp2_with (first
      | (go_at_call 161; refine (lastRounds_two _ _ (by omega) (by omega)).mono ?_; rintro e w ⟨rfl, rfl⟩)
      | ((refine wpList_copy_splice (by rfl) (.tmp 13) (.tmp 14) 50 50 (by rfl) 5 Tryz.underlying50 size5 (some ⟨w.heap.size, 0, none⟩) sp 128 128 r cap (by rfl) (by rfl) w.heap.size 0 (madeCells #[.int .u8 0] 128).toList 5 (Arr.new w 5 (madeCells #[.int .u8 0] 128)) (cellsB B r) (by rw [cellsB_len]; exact (Nat.min_eq_left (by omega)).symm) (fun h0 => ⟨rfl, (hS.alloc _).pos h0⟩) (by simp [cellsB_len, size_madeCells]; omega) (cellsB_one B r) w.heap.size w ((Below.refl _ _).alloc (Nat.le_refl _) _) (Nat.le_refl _) ?_; intro w1 H1 hb1; have hA1 : Arr w1 w.heap.size 5 _ := H1.out; obtain ⟨v0, hv0⟩ := hA1.got (j := r) (by rw [splice_size hrn]; exact hrn); have hf0 := hA1.frozen r)))
    go_loopw [23] (fun i wr => ∃ (k : Nat) (C : Array Value), k ≤ 8 ∧ i = .int .i64 k ∧ Arr wr w.heap.size 5 C ∧ C.size = 128 ∧ (∀ t, t < 128 → C[t]? = some (.int .u8 (lastK B T r 128 k t))) ∧ Below w.heap.size w wr)
      (fun i _ => 8 - (intOf i).toNat)
    case atStart => exact ⟨0, _, by omega, rfl, hA1.set r _, by rw [Array.size_setIfInBounds, splice_size hrn], fun t ht => by rw [base_row hrn _ rfl t ht, lastK, if_pos (by omega)], hb1.setCell (Nat.le_refl _) _⟩
    case round =>
      clear hA1 H1 hv0 hf0 hb1 hS
      obtain ⟨k, C, hk, rfl, hC, hCs, hw, hbl⟩ := hrel
      have HW := Hid.mk' hw
      clear hw
      by_cases hlt : k < 8
      · have h3 : (k : Int) < 8 := by omega
        have h4 : (0 : Int) ≤ k := by omega
        obtain ⟨v1, hv1⟩ := hC.got (j := 128 - 1 - k) (by omega)
        have hf1 := hC.frozen (128 - 1 - k)
        have e1 : ((128 - 1 : Int) - k).toNat = 128 - 1 - k := by omega
        go_wp2
        go_roundw
        case rel =>
          have q := last_step hCs (by omega) HW.out
          have e2 : lenB T 128 (128 - 1 - k) = T * 8 / 2 ^ (8 * k) % 256 := by unfold lenB; rw [show 128 - 1 - (128 - 1 - k) = k by omega]
          rw [e2] at q
          exact ⟨k + 1, _, by omega, by go_num, hC.set _ _, by simp [hCs], q, hbl.setCell (Nat.le_refl _) _⟩
        case measure => simp [intOf]; omega
      · obtain rfl : k = 8 := by omega
        go_wp2
        go_ret
        exact ⟨C, rfl, hC, hCs, HW.out, hbl⟩
  · have hm : ∀ u : World, (Instr.makeSlice 50 (.int .i64 64) (.int .i64 64)).run Tryz.prog u = .ok (.slice (some ⟨u.heap.size, 0, none⟩) 64 64) (u.alloc (.cells (madeCells #[.int .u8 0] 64) 5)) := fun u => hmk 64 u (by omega)
    clear hmk
    have h' : (r : Int) ≤ 55 := by omega
    have hrn : r < 64 := by omega
    have hrnI : (r : Int) < 64 := by omega
    go_enter Tryz.func145, Tryz.ntmps145
    go_wp2_with (first
      | (go_at_call 161; refine (lastRounds_one _ _ (by omega) (by omega)).mono ?_; rintro e w ⟨rfl, rfl⟩)
      | ((refine wpList_copy_splice (by rfl) (.tmp 13) (.tmp 14) 50 50 (by rfl) 5 Tryz.underlying50 size5 (some ⟨w.heap.size, 0, none⟩) sp 64 64 r cap (by rfl) (by rfl) w.heap.size 0 (madeCells #[.int .u8 0] 64).toList 5 (Arr.new w 5 (madeCells #[.int .u8 0] 64)) (cellsB B r) (by rw [cellsB_len]; exact (Nat.min_eq_left (by omega)).symm) (fun h0 => ⟨rfl, (hS.alloc _).pos h0⟩) (by simp [cellsB_len, size_madeCells]; omega) (cellsB_one B r) w.heap.size w ((Below.refl _ _).alloc (Nat.le_refl _) _) (Nat.le_refl _) ?_; intro w1 H1 hb1; have hA1 : Arr w1 w.heap.size 5 _ := H1.out; obtain ⟨v0, hv0⟩ := hA1.got (j := r) (by rw [splice_size hrn]; exact hrn); have hf0 := hA1.frozen r)))
    go_loopw [23] (fun i wr => ∃ (k : Nat) (C : Array Value), k ≤ 8 ∧ i = .int .i64 k ∧ Arr wr w.heap.size 5 C ∧ C.size = 64 ∧ (∀ t, t < 64 → C[t]? = some (.int .u8 (lastK B T r 64 k t))) ∧ Below w.heap.size w wr)
      (fun i _ => 8 - (intOf i).toNat)
    case atStart => exact ⟨0, _, by omega, rfl, hA1.set r _, by rw [Array.size_setIfInBounds, splice_size hrn], fun t ht => by rw [base_row hrn _ rfl t ht, lastK, if_pos (by omega)], hb1.setCell (Nat.le_refl _) _⟩
    case round =>
      clear hA1 H1 hv0 hf0 hb1 hS
      obtain ⟨k, C, hk, rfl, hC, hCs, hw, hbl⟩ := hrel
      have HW := Hid.mk' hw
      clear hw
      by_cases hlt : k < 8
      · have h3 : (k : Int) < 8 := by omega
        have h4 : (0 : Int) ≤ k := by omega
        obtain ⟨v1, hv1⟩ := hC.got (j := 64 - 1 - k) (by omega)
        have hf1 := hC.frozen (64 - 1 - k)
        have e1 : ((64 - 1 : Int) - k).toNat = 64 - 1 - k := by omega
        go_wp2
        go_roundw
        case rel =>
          have q := last_step hCs (by omega) HW.out
          have e2 : lenB T 64 (64 - 1 - k) = T * 8 / 2 ^ (8 * k) % 256 := by unfold lenB; rw [show 64 - 1 - (64 - 1 - k) = k by omega]
          rw [e2] at q
          exact ⟨k + 1, _, by omega, by go_num, hC.set _ _, by simp [hCs], q, hbl.setCell (Nat.le_refl _) _⟩
        case measure => simp [intOf]; omega
      · obtain rfl : k = 8 := by omega
        go_wp2
        go_ret
        exact ⟨C, rfl, hC, hCs, HW.out, hbl⟩
end Go.Proofs.YtneihkegipcakaaGreat
/- Layer trace: what the layers below give. -/
namespace Go.Proofs.YtneihkegipcakaaGreat
open Go.RowKit
set_option maxRecDepth 100000
set_option linter.unusedVariables false
set_option linter.unusedSimpArgs false

/-- An array written by a rule. -/
def arr (n : Nat) (f : Nat → Value) : Array Value := ((List.range n).map f).toArray
theorem arr_size (n : Nat) (f : Nat → Value) : (arr n f).size = n := by simp [arr]
theorem arr_get {n : Nat} {f : Nat → Value} {t : Nat} (h : t < n) : (arr n f)[t]? = some (f t) := by simp [arr, h]
theorem arr_eq {C : Array Value} {n : Nat} {f : Nat → Value} (hs : C.size = n) (h : ∀ t, t < n → C[t]? = some (f t)) : C = arr n f := by
  apply Array.ext_getElem?
  intro i
  by_cases hi : i < n
  · rw [h i hi, arr_get hi]
  · rw [Array.getElem?_eq_none (by omega), Array.getElem?_eq_none (by rw [arr_size]; omega)]
def u8s (n : Nat) (f : Nat → Int) : Array Value := arr n fun t => .int .u8 (f t)
end Go.Proofs.YtneihkegipcakaaGreat
/- Layer trace: what the layers below give. -/
namespace Go.Proofs.YtneihkegipcakaaGreat
open Go.RowKit
set_option maxRecDepth 100000
set_option linter.unusedVariables false
set_option linter.unusedSimpArgs false

def St.at (s : St) (i : Nat) : Int := match i with | 0 => s.a | 1 => s.b | 2 => s.c | 3 => s.d | 4 => s.e | 5 => s.f | 6 => s.g | _ => s.h
def outB (s : St) (t : Nat) : Int := s.at (t / 4) / 2 ^ (24 - 8 * (t % 4)) % 256
theorem index48 (s : St) (k : Nat) (hk : k < 8) (w : World) : (Instr.index 186 (.agg s.cells) (.int .i64 k)).run Tryz.prog w = .ok (.int .u32 (s.at k)) w := by
  match k, hk with
  | 0, _ => rfl
  | 1, _ => rfl
  | 2, _ => rfl
  | 3, _ => rfl
  | 4, _ => rfl
  | 5, _ => rfl
  | 6, _ => rfl
  | 7, _ => rfl
theorem outB_at (s : St) (k i : Nat) (hi : i < 4) : outB s (4 * k + i) = s.at k / 2 ^ (24 - 8 * i) % 256 := by
  unfold outB; rw [show (4 * k + i) / 4 = k by omega, show (4 * k + i) % 4 = i by omega]
set_option maxRecDepth 100000 in
set_option maxHeartbeats 1000000 in
theorem fromWords_any (s : St) (w : World) :
    Calls Tryz.prog 146 #[.agg s.cells] w fun e w' => ∃ C : Array Value, e = .returned (.agg C) ∧ C.size = 32 ∧ (∀ t, t < 32 → C[t]? = some (.int .u8 (outB s t))) ∧ Below w.heap.size w w' := by
  have hA : ∀ o1 o2, Arr (((w.alloc (.cells s.cells 186)).alloc o1).alloc o2) w.heap.size 186 s.cells := fun o1 o2 => ((Arr.new _ _ _).alloc _).alloc _
  go_enter Tryz.func146, Tryz.ntmps146
  go_wp2_with (refine wpList_load_row rfl 186 (.tmp 1) rfl w.heap.size rfl 186 s.cells (0, 0) _ (hA _ _) Tryz.underlying186 rfl (s48 _) ?_)
  go_loopw [7] (fun i wr => ∃ (k : Nat) (C Z : Array Value), k ≤ 8 ∧ i = .int .i64 k ∧ Arr wr (w.heap.size + 1) 40 Z ∧ Arr wr (w.heap.size + 1 + 1) 40 C ∧ Z.size = 32 ∧ C.size = 32 ∧ (∀ t, t < 4 * k → C[t]? = some (.int .u8 (outB s t))) ∧ Below w.heap.size w wr)
    (fun i _ => 8 - (intOf i).toNat)
  case atStart => exact ⟨0, _, _, by omega, rfl, by simpa using (Arr.new (w.alloc _) 40 _).alloc _, by simpa using Arr.new ((w.alloc _).alloc _) 40 _, rfl, rfl, fun t h => by omega, (((Below.refl _ _).alloc (by simp) _).alloc (by simp) _).alloc (by simp; omega) _⟩
  case round =>
    obtain ⟨k, C, Z, hk, rfl, hZ, hC, hZs, hCs, hw, hbl⟩ := hrel
    by_cases hlt : k < 8
    · have h3 : (k : Int) < 8 := by omega
      have h4 : (0 : Int) ≤ k := by omega
      have hix := index48 s k hlt
      have c0 : wr.cell? ⟨w.heap.size + 1 + 1, 4 * k, none⟩ = some (C[4 * k]'(by omega)) := by rw [hC.cell, Array.getElem?_eq_getElem]
      have c1 : wr.cell? ⟨w.heap.size + 1 + 1, 4 * k + 1, none⟩ = some (C[4 * k + 1]'(by omega)) := by rw [hC.cell, Array.getElem?_eq_getElem]
      have c2 : wr.cell? ⟨w.heap.size + 1 + 1, 4 * k + 2, none⟩ = some (C[4 * k + 2]'(by omega)) := by rw [hC.cell, Array.getElem?_eq_getElem]
      have c3 : wr.cell? ⟨w.heap.size + 1 + 1, 4 * k + 3, none⟩ = some (C[4 * k + 3]'(by omega)) := by rw [hC.cell, Array.getElem?_eq_getElem]
      have f0 := hC.frozen (4 * k)
      have f1 := hC.frozen (4 * k + 1)
      have f2 := hC.frozen (4 * k + 2)
      have f3 := hC.frozen (4 * k + 3)
      go_wp2
      go_roundw
      case rel =>
        clear c0 c1 c2 c3 f0 f1 f2 f3 hix
        have o0 := outB_at s k 0 (by omega)
        have o1 := outB_at s k 1 (by omega)
        have o2 := outB_at s k 2 (by omega)
        have o3 := outB_at s k 3 (by omega)
        have q0 := set_step (f := fun t => .int .u8 (outB s t)) hCs (by omega) hw
        have q1 := set_step (f := fun t => .int .u8 (outB s t)) (k := 4 * k + 1) (n := 32) (by simp [hCs]) (by omega) q0
        have q2 := set_step (f := fun t => .int .u8 (outB s t)) (k := 4 * k + 2) (n := 32) (by simp [hCs]) (by omega) q1
        have q3 := set_step (f := fun t => .int .u8 (outB s t)) (k := 4 * k + 3) (n := 32) (by simp [hCs]) (by omega) q2
        have e0 : s.at k / 16777216 % 256 = outB s (4 * k) := o0.symm
        have e1 : s.at k / 65536 % 256 = outB s (4 * k + 1) := o1.symm
        have e2 : s.at k / 256 % 256 = outB s (4 * k + 2) := o2.symm
        have e3 : s.at k % 256 = outB s (4 * k + 3) := by rw [o3]; simp
        rw [e0, e1, e2, e3]
        exact ⟨k + 1, _, Z, by omega, by go_num, (((hZ.setOther _ (by simp)).setOther _ (by simp)).setOther _ (by simp)).setOther _ (by simp), (((hC.set _ _).set _ _).set _ _).set _ _, hZs, by simp [hCs], q3, (((hbl.setCell (by simp; omega) _).setCell (by simp; omega) _).setCell (by simp; omega) _).setCell (by simp; omega) _⟩
      case measure => simp [intOf]; omega
    · obtain rfl : k = 8 := by omega
      have s24 : (Tryz.prog.info? 40).map (·.size) = some C.size := by rw [hCs]; exact size24
      have o24 := one_ints hCs hw
      have z24 : Z.size = C.size := by rw [hZs, hCs]
      go_wp2_with (first | (refine wpList_load_row rfl 40 (.tmp 3) rfl (w.heap.size + 1 + 1) rfl 40 C (0, 0) _ hC Tryz.underlying40 rfl s24 ?_) | (refine wpList_store_arr rfl 40 (.tmp 2) (.tmp 38) rfl (w.heap.size + 1) C rfl rfl 40 Z hZ s24 z24 o24 ?_))
      exact bodyPost_ret (v := .agg C) (results_cell_row Tryz.results146 _ _ (w.heap.size + 1) 40 C (0, 0) _ rfl (hZ.setRow C) Tryz.underlying40 rfl s24) rfl ⟨C, rfl, hCs, hw, below_setRow hbl (by omega) C⟩
end Go.Proofs.YtneihkegipcakaaGreat
/- Layer trace: what the layers below give. -/
namespace Go.Proofs.YtneihkegipcakaaGreat
open Go.RowKit
set_option maxRecDepth 100000
set_option linter.unusedVariables false
set_option linter.unusedSimpArgs false

def kTab : List Int := [1116352408, 1899447441, 3049323471, 3921009573, 961987163, 1508970993, 2453635748, 2870763221, 3624381080, 310598401, 607225278, 1426881987, 1925078388, 2162078206, 2614888103, 3248222580, 3835390401, 4022224774, 264347078, 604807628, 770255983, 1249150122, 1555081692, 1996064986, 2554220882, 2821834349, 2952996808, 3210313671, 3336571891, 3584528711, 113926993, 338241895, 666307205, 773529912, 1294757372, 1396182291, 1695183700, 1986661051, 2177026350, 2456956037, 2730485921, 2820302411, 3259730800, 3345764771, 3516065817, 3600352804, 4094571909, 275423344, 430227734, 506948616, 659060556, 883997877, 958139571, 1322822218, 1537002063, 1747873779, 1955562222, 2024104815, 2227730452, 2361852424, 2428436474, 2756734187, 3204031479, 3329325298]
def kOf (t : Nat) : Int := kTab.getD t 0
def h0St : St := ⟨1779033703, 3144134277, 1013904242, 2773480762, 1359893119, 2600822924, 528734635, 1541459225⟩
def kCells : Array Value := (kTab.map (Value.int .u32)).toArray
theorem kCells_size : kCells.size = 64 := rfl
theorem kCells_get (t : Nat) (h : t < 64) : kCells[t]? = some (.int .u32 (kOf t)) := by
  have hl : kTab.length = 64 := rfl
  simp [kCells, kOf, List.getElem?_eq_getElem (show t < kTab.length by omega)]
set_option maxRecDepth 100000 in
set_option maxHeartbeats 1000000 in
theorem roundNumbers_any (w : World) :
    Calls Tryz.prog 142 #[] w fun e w' => e = .returned (.agg kCells) ∧ Below w.heap.size w w' := by
  have s46 : (Tryz.prog.info? 205).map (·.size) = some kCells.size := by rw [kCells_size]; exact size46
  have o46 := one_ints kCells_size kCells_get
  go_enter Tryz.func142, Tryz.ntmps142
  go_wp2_with ((refine wpList_store_new w _ 205 (by rfl) 205 (.tmp 0) (.tmp 1) (by rfl) kCells (by rfl) (by rfl) s46 (Eq.trans (by rfl) kCells_size.symm) o46 ?_))
  exact bodyPost_ret (v := .agg kCells) (results_cell_row Tryz.results142 _ _ w.heap.size 205 _ (0, 0) _ rfl (Arr.new w 205 kCells) Tryz.underlying205 rfl s46) rfl ⟨rfl, (Below.refl _ _).alloc (Nat.le_refl _) _⟩
set_option maxRecDepth 100000 in
set_option maxHeartbeats 1000000 in
theorem firstWords_any (w : World) :
    Calls Tryz.prog 143 #[] w fun e w' => e = .returned (.agg h0St.cells) ∧ Below w.heap.size w w' := by
  go_enter Tryz.func143, Tryz.ntmps143
  go_wp2_with ((refine wpList_store_new w _ 186 (by rfl) 186 (.tmp 0) (.tmp 1) (by rfl) h0St.cells (by rfl) (by rfl) (s48 _) (by rfl) (St.one _) ?_))
  exact bodyPost_ret (v := .agg h0St.cells) (results_cell_row Tryz.results143 _ _ w.heap.size 186 _ (0, 0) _ rfl (Arr.new w 186 _) Tryz.underlying186 rfl (s48 _)) rfl ⟨rfl, (Below.refl _ _).alloc (Nat.le_refl _) _⟩
end Go.Proofs.YtneihkegipcakaaGreat

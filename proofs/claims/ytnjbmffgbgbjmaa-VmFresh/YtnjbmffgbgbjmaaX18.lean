/- Vn, ZTv, Ya, Vp0. -/
import Derived.Test.YtnjbmffgbgbjmaaX16
import Derived.Test.YtnjbmffgbgbjmaaX17
import Derived.Test.YtnjbmffgbgbjmaaX01
import Derived.Test.YtnjbmffgbgbjmaaX02
import Derived.Test.YtnjbmffgbgbjmaaX03
import Derived.Test.YtnjbmffgbgbjmaaX06
import Derived.Test.YtnjbmffgbgbjmaaX07
import Derived.BigQuiet
import Derived.BigRegion
import Derived.ChangeKeysEq
import Derived.Deep.DeepCutAuto
import Derived.Deep.DrawnRows
import Derived.Deep.QuietTactic
import Derived.Deep.RegionHeld3
import Derived.Deep.RegionLaw
import Derived.Deep.RegionWith
import Derived.Deep.WholeRow
import Derived.Laws.AppendOwnNone
import Derived.Laws.BytesArg
import Derived.Laws.CopyOwn
import Derived.Laws.ResultCell
import Derived.Lib.SlBytesConst
import Derived.WalkKit
import Derived.WalkLawsBesides
import Derived.WalkSpells
import Derived.Test.YtnjbmffgbgbjmaaX15
/- Layer vm: a machine that is stepped. -/
namespace Go.Proofs.Ytnjbmffgbgbjmaa
open Go.RowKit
set_option maxRecDepth 100000
set_option linter.unusedVariables false
set_option linter.unusedSimpArgs false


/-- A machine that is stepped, and what is known to it. -/
structure VM (N : Nat) (es : List En) (w : World) (g gm gp n cap : Nat) (sp : Option Addr) (nk ck : Nat) (m : Mc) : Prop where
  en : EN w g 82 [.slice sp nk ck, .map (some gp)] gm n cap m
  known : ES N w sp nk ck es
  map : ∃ f, MapH w gp f ∧ FI es f
  le : N ≤ g ∧ N ≤ gm ∧ N ≤ gp
  ne : g ≠ gp ∧ gm ≠ gp
variable {N : Nat} {es : List En} {w w' : World} {g gm gp n cap : Nat} {sp : Option Addr} {nk ck : Nat} {m m' : Mc}
theorem VM.ltp (h : VM N es w g gm gp n cap sp nk ck m) : gp < w.heap.size := by
  obtain ⟨f, hf, -⟩ := h.map
  exact hf.lt
theorem VM.bel (h : VM N es w g gm gp n cap sp nk ck m) (hb : Below w.heap.size w w') : VM N es w' g gm gp n cap sp nk ck m := by
  obtain ⟨f, hf, hi⟩ := h.map
  have h1 := h.ltp
  have h2 := h.le
  exact ⟨h.en.bel hb, h.known.below (hb.mono (by omega)), ⟨f, hf.same (hb.block gp h1), hi⟩, h.le, h.ne⟩
theorem VM.setCell (h : VM N es w g gm gp n cap sp nk ck m) {a : Addr} {v : Value} (ha : a.block = g ∨ a.block = gm) (he : EN (w.setCell a v) g 82 [.slice sp nk ck, .map (some gp)] gm n cap m') : VM N es (w.setCell a v) g gm gp n cap sp nk ck m' := by
  obtain ⟨f, hf, hi⟩ := h.map
  have h2 := h.le
  have h3 := h.ne
  exact ⟨he, h.known.below ((Below.refl N w).setCell (by rcases ha with e | e <;> rw [e] <;> omega) v), ⟨f, hf.same (Below.heap_setCell _ _ _ _ (by rcases ha with e | e <;> rw [e] <;> omega)), hi⟩, h.le, h.ne⟩
/-- The blocks that a step writes into. -/
def C3 (g gm gp k : Nat) : Prop := k = g ∨ k = gm ∨ k = gp
theorem Chg.sg {a b : World} (h : Chg (C3 g gm gp) a b) (j : Nat) (v : Value) : Chg (C3 g gm gp) a (b.setCell ⟨g, j, none⟩ v) := h.setCell v (fun _ => .inl rfl)
theorem Chg.sm {a b : World} (h : Chg (C3 g gm gp) a b) (j : Nat) (v : Value) : Chg (C3 g gm gp) a (b.setCell ⟨gm, j, none⟩ v) := h.setCell v (fun _ => .inr (.inl rfl))
/-- What a step comes to. -/
def StPost (N : Nat) (es : List En) (g gm gp n cap : Nat) (sp : Option Addr) (nk ck : Nat) (m : Mc) (o : Option Mc) (w : World) (e : Ending) (w' : World) : Prop :=
  Chg (C3 g gm gp) w w' ∧ w.heap.size ≤ w'.heap.size ∧ ((∃ m', o = some m' ∧ e = .returned (.tuple #[]) ∧ VM N es w' g gm gp n cap sp nk ck m') ∨ (o = none ∧ e = .panicked trapV ∧ VM N es w' g gm gp n cap sp nk ck m))
theorem stYes {o : Option Mc} {W : World} (hW : Below w.heap.size w W) (hV : VM N es w g gm gp n cap sp nk ck m) {m' : Mc} (ho : o = some m') (hb : Chg (C3 g gm gp) W w') (hs : W.heap.size ≤ w'.heap.size) (hV' : VM N es w' g gm gp n cap sp nk ck m') : StPost N es g gm gp n cap sp nk ck m o w (.returned (.tuple #[])) w' :=
  ⟨(Chg.of_below hW).trans hb, Nat.le_trans hW.size hs, .inl ⟨m', ho, rfl, hV'⟩⟩
theorem stNo {o : Option Mc} (hV : VM N es w g gm gp n cap sp nk ck m) (ho : o = none) (hW : Below w.heap.size w w') : StPost N es g gm gp n cap sp nk ck m o w (.panicked trapV) w' :=
  ⟨Chg.of_below hW, hW.size, .inr ⟨ho, rfl, hV.bel hW⟩⟩
theorem cell_set_ne {w : World} {a b : Addr} (v : Value) (h : a ≠ b) : (w.setCell a v).cell? b = w.cell? b := World.cell?_setCell_other w a b v h
theorem VM.setReg (h : VM N es w g gm gp n cap sp nk ck m) {a : Nat} (ha : a < 16) {x : Int} (hx : U64 x) : VM N es (w.setCell ⟨g, 1 + a, none⟩ (.int .u64 x)) g gm gp n cap sp nk ck { m with rg := m.rg.set a x } := h.setCell (.inl rfl) (h.en.setReg ha hx)
theorem VM.setPc (h : VM N es w g gm gp n cap sp nk ck m) {x : Int} (hx : U64 x) : VM N es (w.setCell ⟨g, 0, none⟩ (.int .u64 x)) g gm gp n cap sp nk ck { m with pc := x } := h.setCell (.inl rfl) (h.en.setPc hx)
theorem VM.setSt (h : VM N es w g gm gp n cap sp nk ck m) {x : Int} (hx : 0 ≤ x ∧ x < 256) : VM N es (w.setCell ⟨g, 17, none⟩ (.int .u8 x)) g gm gp n cap sp nk ck { m with st := x } := h.setCell (.inl rfl) (h.en.setSt hx)
theorem VM.setMem (h : VM N es w g gm gp n cap sp nk ck m) {k : Nat} (hk : k < n) {x : Int} (hx : U64 x) : VM N es (w.setCell ⟨gm, k, none⟩ (.int .u64 x)) g gm gp n cap sp nk ck { m with me := m.me.set k x } := h.setCell (.inr rfl) (h.en.setMem hk hx)
/-- A register set, and on. -/
theorem VM.put (h : VM N es w g gm gp n cap sp nk ck m) {a : Nat} (ha : a < 16) {x : Int} (hx : U64 x) : VM N es ((w.setCell ⟨g, 1 + a, none⟩ (.int .u64 x)).setCell ⟨g, 0, none⟩ (.int .u64 (IntKind.u64.wrap (m.pc + 1)))) g gm gp n cap sp nk ck (m.put a x) := (h.setReg ha hx).setPc (U64.wrap _)
theorem VM.low (h : VM N es w g gm gp n cap sp nk ck m) {W : World} {j : Nat} (v : Value) (hb : Chg (C3 g gm gp) w W) (hx : True ∨ True) : Chg (C3 g gm gp) w (W.setCell ⟨g, j, none⟩ v) := hb.sg j v
end Go.Proofs.Ytnjbmffgbgbjmaa
/- Layer vm: what the layers below give. -/
namespace Go.Proofs.Ytnjbmffgbgbjmaa
open Go.RowKit
set_option maxRecDepth 100000
set_option linter.unusedVariables false
set_option linter.unusedSimpArgs false

theorem words_step1 {C : Array Value} {H : Nat → Int} {k : Nat} (hH : ∀ t, t < 32 → 0 ≤ H t ∧ H t ≤ 255) (hk : k < 32) (hs : C.size = 4) (h : ∀ j, j < 4 → C[j]? = some (.int .u64 (wpart H k j))) :
    ∀ j, j < 4 → (C.setIfInBounds (k / 8) (.int .u64 (bits .or .u64 (IntKind.u64.wrap (wpart H k (k / 8) * 256)) (IntKind.u64.wrap (H k)))))[j]? = some (.int .u64 (wpart H (k + 1) j)) := by
  intro j hj
  rw [words_val hH hk, Array.getElem?_setIfInBounds]
  by_cases e : k / 8 = j
  · subst e; simp [hs, hj]
  · rw [if_neg e, h j hj, words_other (Ne.symm e)]
set_option maxHeartbeats 1000000 in
theorem refWords_any (C0 : Array Value) (H : Nat → Int) (w : World) (hC0 : ∀ t, t < 32 → C0[t]? = some (.int .u8 (H t))) (hH : ∀ t, t < 32 → 0 ≤ H t ∧ H t ≤ 255) :
    Calls Try.prog 59 #[.agg C0] w fun e w' => e = .returned (.agg (wordsOf H)) ∧ Below w.heap.size w w' := by
  go_enter Try.func59, Try.ntmps59
  go_wp2
  go_loopw [4] (fun i wr => ∃ (k : Nat) (C Z : Array Value), k ≤ 32 ∧ i = .int .i64 k ∧ Arr wr w.heap.size 31 C0 ∧ Arr wr (w.heap.size + 1) 109 Z ∧ Z.size = 4 ∧ Arr wr (w.heap.size + 1 + 1) 109 C ∧ C.size = 4 ∧ (∀ j, j < 4 → C[j]? = some (.int .u64 (wpart H k j))) ∧ Below w.heap.size w wr)
    (fun i _ => 32 - (intOf i).toNat)
  case atStart => exact ⟨0, _, _, by omega, rfl, ((Arr.new w 31 C0).alloc _).alloc _, by simpa using (Arr.new (w.alloc _) 109 _).alloc _, rfl, by simpa using Arr.new ((w.alloc _).alloc _) 109 _, rfl, fun j hj => by (match j, hj with | 0, _ => rfl | 1, _ => rfl | 2, _ => rfl | 3, _ => rfl), (((Below.refl _ _).alloc (by simp) _).alloc (by simp) _).alloc (by simp; omega) _⟩
  case round =>
    obtain ⟨k, C, Z, hk, rfl, hX, hZ, hZs, hC, hCs, hw, hbl⟩ := hrel
    have HW := Hid.mk' hw
    clear hw
    by_cases hlt : k < 32
    · have h3 : (k : Int) < 32 := by omega
      have h4 : (0 : Int) ≤ k := by omega
      have h5 : (k : Int) / 8 < 4 := by omega
      have h6 : (0 : Int) ≤ (k : Int) / 8 := by omega
      have c1 : wr.cell? ⟨w.heap.size, k, none⟩ = some (.int .u8 (H k)) := (hX.cell _).trans (hC0 _ hlt)
      have c0 : wr.cell? ⟨w.heap.size + 1 + 1, k / 8, none⟩ = some (.int .u64 (wpart H k (k / 8))) := (hC.cell _).trans (HW.out _ (by omega))
      have f0 := hC.frozen (k / 8)
      go_wp2
      go_region
      all_goals go_wp2
      all_goals
        go_roundw
        case rel =>
          exact ⟨k + 1, _, Z, by omega, by go_num, (hX.setOther _ (by simp; omega)).drew, (hZ.setOther _ (by simp)).drew, hZs, (hC.set _ _).drew, by simp [hCs], words_step1 hH hlt hCs HW.out, (hbl.setCell (by simp; omega) _).drew⟩
        case measure => simp [intOf]; omega
    · obtain rfl : k = 32 := by omega
      have hCe : C = wordsOf H := arr_eq hCs (fun j hj => by rw [HW.out j hj]; unfold wpart; rw [show min (32 - 8 * j) 8 = 8 by omega])
      subst hCe
      go_wp2_with (first
        | (refine wpList_load_row (by rfl) 109 (.tmp 3) (by rfl) (w.heap.size + 1 + 1) (by rfl) 109 (wordsOf H) (0, 0) _ hC Try.underlying109 rfl (s30u _) ?_)
        | (refine wpList_store_arr (by rfl) 109 (.tmp 2) (.tmp 22) (by rfl) (w.heap.size + 1) (wordsOf H) (by rfl) (by rfl) 109 _ hZ (s30u _) (by rw [hZs]; exact (u64s_size _ _).symm) (u64s_one _ _) ?_))
      exact bodyPost_ret (v := .agg (wordsOf H)) (results_cell_row Try.results59 _ _ (w.heap.size + 1) 109 _ (0, 0) _ rfl (hZ.setRow _) Try.underlying109 rfl (s30u _)) rfl ⟨rfl, below_setRow hbl (by omega) _⟩
set_option maxHeartbeats 1000000 in
theorem refFrom_any (C0 : Array Value) (W : Nat → Int) (w : World) (hC0 : ∀ t, t < 4 → C0[t]? = some (.int .u64 (W t))) :
    Calls Try.prog 60 #[.agg C0] w fun e w' => e = .returned (.agg (u8s 32 (fromB W))) ∧ Below w.heap.size w w' := by
  go_enter Try.func60, Try.ntmps60
  go_wp2
  go_loopw [4] (fun i wr => ∃ (k : Nat) (C Z : Array Value), k ≤ 32 ∧ i = .int .i64 k ∧ Arr wr w.heap.size 109 C0 ∧ Arr wr (w.heap.size + 1) 31 Z ∧ Z.size = 32 ∧ Arr wr (w.heap.size + 1 + 1) 31 C ∧ C.size = 32 ∧ (∀ t, t < k → C[t]? = some (.int .u8 (fromB W t))) ∧ Below w.heap.size w wr)
    (fun i _ => 32 - (intOf i).toNat)
  case atStart => exact ⟨0, _, _, by omega, rfl, ((Arr.new w 109 C0).alloc _).alloc _, by simpa using (Arr.new (w.alloc _) 31 _).alloc _, rfl, by simpa using Arr.new ((w.alloc _).alloc _) 31 _, rfl, fun j hj => by omega, (((Below.refl _ _).alloc (by simp) _).alloc (by simp) _).alloc (by simp; omega) _⟩
  case round =>
    obtain ⟨k, C, Z, hk, rfl, hX, hZ, hZs, hC, hCs, hw, hbl⟩ := hrel
    have HW := Hid.mk' hw
    clear hw
    by_cases hlt : k < 32
    · have h3 : (k : Int) < 32 := by omega
      have h4 : (0 : Int) ≤ k := by omega
      have c0 : wr.cell? ⟨w.heap.size, k / 8, none⟩ = some (.int .u64 (W (k / 8))) := (hX.cell _).trans (hC0 _ (by omega))
      obtain ⟨v1, c1⟩ := hC.got (j := k) (by omega)
      have f0 := hC.frozen k
      go_wp2
      go_roundw
      case rel =>
        have q := set_step (f := fun t => .int .u8 (fromB W t)) hCs (by omega) HW.out
        exact ⟨k + 1, _, Z, by omega, by go_num, hX.setOther _ (by simp; omega), hZ.setOther _ (by simp), hZs, hC.set _ _, by simp [hCs], q, hbl.setCell (by simp; omega) _⟩
      case measure => simp [intOf]; omega
    · obtain rfl : k = 32 := by omega
      have hCe : C = u8s 32 (fromB W) := arr_eq hCs HW.out
      subst hCe
      go_wp2_with (first
        | (refine wpList_load_row (by rfl) 31 (.tmp 3) (by rfl) (w.heap.size + 1 + 1) (by rfl) 31 (u8s 32 (fromB W)) (0, 0) _ hC Try.underlying31 rfl (s24u8 _) ?_)
        | (refine wpList_store_arr (by rfl) 31 (.tmp 2) (.tmp 22) (by rfl) (w.heap.size + 1) (u8s 32 (fromB W)) (by rfl) (by rfl) 31 _ hZ (s24u8 _) (by rw [hZs]; exact (u8s_size _ _).symm) (u8s_one _ _) ?_))
      exact bodyPost_ret (v := .agg (u8s 32 (fromB W))) (results_cell_row Try.results60 _ _ (w.heap.size + 1) 31 _ (0, 0) _ rfl (hZ.setRow _) Try.underlying31 rfl (s24u8 _)) rfl ⟨rfl, below_setRow hbl (by omega) _⟩
end Go.Proofs.Ytnjbmffgbgbjmaa
/- Layer vm: what the document's step asks. -/
namespace Go.Proofs.Ytnjbmffgbgbjmaa
open Go.RowKit
set_option maxRecDepth 100000
set_option linter.unusedVariables false
set_option linter.unusedSimpArgs false

/-- Has the memory so many words from there on? -/
def inB (x k : Int) (n : Nat) : Bool := decide (k = 0 ∨ x + k ≤ n)
set_option maxHeartbeats 400000 in
theorem inside_any (x k : Int) (n : Nat) (w : World) (hx : U64 x) (hk : 0 ≤ k ∧ k ≤ 4096) (hn : n ≤ 4096) :
    Calls Try.prog 57 #[.int .u64 x, .int .i64 k, .int .i64 (n : Int)] w fun e w' => e = .returned (.bool (inB x k n)) ∧ w' = w := by
  have h1 := hx.1
  have h2 := hx.2
  have wn : IntKind.u64.wrap (n : Int) = n := wrap64_of (by omega) (by omega)
  have wk : IntKind.u64.wrap k = k := wrap64_of (by omega) (by omega)
  by_cases h0 : k = 0
  · have hf : Hid (inB x k n = true) := Hid.mk' (by simp [inB, h0])
    have h0' : (k == 0) = true := by simpa using h0
    replace h0 := Hid.mk' h0
    go_enter Try.func57, Try.ntmps57
    go_wp2
    go_ret
    exact ⟨by rw [hf.out]; rfl, rfl⟩
  · have h0' : (k == 0) = false := by simpa using h0
    by_cases hlt : x < n
    · have ws : IntKind.u64.wrap ((n : Int) - x) = (n : Int) - x := wrap64_of (by omega) (by omega)
      by_cases hle : k ≤ (n : Int) - x
      · have hf : Hid (inB x k n = true) := Hid.mk' (by simp [inB]; omega)
        go_enter Try.func57, Try.ntmps57
        go_wp2
        go_ret
        exact ⟨by rw [hf.out]; simp, rfl⟩
      · have hf : Hid (inB x k n = false) := Hid.mk' (by simp [inB]; omega)
        go_enter Try.func57, Try.ntmps57
        go_wp2
        go_ret
        exact ⟨by rw [hf.out]; simp, rfl⟩
    · have hf : Hid (inB x k n = false) := Hid.mk' (by simp [inB]; omega)
      go_enter Try.func57, Try.ntmps57
      go_wp2
      go_ret
      exact ⟨by rw [hf.out]; simp, rfl⟩
set_option maxHeartbeats 1000000 in
theorem summed_no {i y : Int} {v : Value} (w : World) (hi : 0 ≤ i ∧ i < 4294967296) (hy : ¬ 128 < y) (hL : mkL i = none) (hv : ∃ sp c cap, v = .slice sp c cap) :
    Calls Try.prog 58 #[.int .u32 i, .int .u64 y, v] w fun e w' => e = .returned (.tuple #[.slice none 0 0, .bool false]) ∧ w' = w := by
  obtain ⟨sp, c, cap, rfl⟩ := hv
  unfold mkL at hL
  by_cases h0 : i = 0
  · rw [if_pos h0] at hL
    cases hL
  · rw [if_neg h0] at hL
    by_cases h1 : 256 ≤ i ∧ i ≤ 511
    · rw [if_pos h1] at hL
      cases hL
    · have hp : 0 < i := by omega
      by_cases h2 : 511 < i
      · go_enter Try.func58, Try.ntmps58
        go_wp2
        go_ret2
        exact ⟨rfl, rfl⟩
      · have h3 : i < 256 := by omega
        go_enter Try.func58, Try.ntmps58
        go_wp2
        go_ret2
        exact ⟨rfl, rfl⟩
set_option maxHeartbeats 2000000 in
theorem summed_ok {i : Int} {P : List Int} {sp : Option Addr} {c cap s : Nat} {y : Int} {W : Nat → Int} (w : World) (hi : 0 ≤ i ∧ i < 4294967296) (hL : mkL i = some P) (hy : y = (s : Int)) (hs : s ≤ 128) (hW : ∀ t, U64 (W t)) (hc : s ≤ 8 * c) (hcc : c ≤ cap) (hb : c ≤ 4096)
    (hw : 0 < c → ∃ gm k, sp = some ⟨gm, k, none⟩ ∧ gm < w.heap.size ∧ ∀ t, t < c → w.cell? ⟨gm, k + t, none⟩ = some (.int .u64 (W t))) :
    Calls Try.prog 58 #[.int .u32 i, .int .u64 y, .slice sp c cap] w fun e w' => ∃ v, e = .returned (.tuple #[v, .bool true]) ∧ w'.ownsRow w.heap.size 5 1 v (P.length + s) (by8 (P ++ fbL W s)) ∧ Below w.heap.size w w' := by
  subst hy
  have hy1 : ¬ (128 : Int) < s := by omega
  have hPl : P.length ≤ 1 := by
    unfold mkL at hL
    split at hL
    · cases hL; simp
    · split at hL
      · cases hL; simp
      · cases hL
  unfold mkL at hL
  by_cases h0 : i = 0
  · rw [if_pos h0] at hL
    have hP : P = [] := (Option.some.inj hL).symm
    subst h0
    have hown1 : w.ownsRow w.heap.size 5 1 (.slice none 0 0) P.length (by8 P) := by rw [hP]; exact World.ownsRow_nil _ _ _ _
    have hB1 : Below w.heap.size w w := Below.refl _ _
    clear hi hL hP
    go_enter Try.func58, Try.ntmps58
    go_wp2_with fail
    go_loopw [8, 9] (fun v q wr => ∃ (k : Nat), q = .int .u64 (k : Int) ∧ k ≤ s ∧ wr.ownsRow w.heap.size 5 1 v (P.length + k) (by8 (P ++ fbL W k)) ∧ Below w.heap.size w wr)
      (fun _ q _ => s - (intOf q).toNat)
    case atStart => exact ⟨0, rfl, by omega, by simpa [fbL] using hown1, hB1⟩
    case round =>
      clear hown1 hB1
      obtain ⟨k, rfl, hk, hown, hbl⟩ := hrel
      by_cases hlt : k < s
      · have hI : (k : Int) < s := by omega
        obtain ⟨gm, o, rfl, hgl, hcell⟩ := hw (by omega)
        have hcl : wr.cell? ⟨gm, o + k / 8, none⟩ = some (.int .u64 (W (k / 8))) := (hbl.cell (p := ⟨gm, o + k / 8, none⟩) hgl).trans (hcell (k / 8) (by omega))
        have hki : ((k : Int) / 8) < c := by omega
        have hkn : ((k : Int) / 8).toNat = k / 8 := by omega
        have hU := hW (k / 8)
        have hU1 := hU.1
        have hU2 := hU.2
        have m8 : (k : Int) % 8 < 8 := by omega
        have m0 : 0 ≤ (k : Int) % 8 := by omega
        have e2 : (56 - 8 * ((k : Int) % 8)).toNat = 56 - 8 * (k % 8) := by omega
        go_wp2_with (at_builtin; go_must (refine append_bytes (by rfl) (.tmp 37) (.tmp 49) (by rfl) w.heap.size _ (P.length + k) (P ++ fbL W k) (by rfl) (hown.alloc _) (some ⟨wr.heap.size, 0, none⟩) 1 1 [fromB W k] (by rfl) (by rfl) (fun h => by cases h) (Arr.sl (Arr.new wr 5 _)) (by omega) (by have := hbl.size; simp; omega) ?_; intro v3 w3 hown3 hg3))
        have hB3 : Below w.heap.size w w3 := (hbl.alloc hbl.size _).grown hg3 (by have := hbl.size; simp; omega) (fun k e => own_ge hown k e)
        go_roundw
        case rel => exact ⟨k + 1, by go_num, by omega, by rw [← fbL_succ, ← List.append_assoc, ← Nat.add_assoc]; exact hown3, hB3⟩
        case measure => simp [intOf]; omega
      · obtain rfl : k = s := by omega
        go_wp2_with fail
        go_ret2
        exact ⟨_, rfl, hown, hbl⟩
  · rw [if_neg h0] at hL
    by_cases h1 : 256 ≤ i ∧ i ≤ 511
    · rw [if_pos h1] at hL
      have hP : P = [i - 256] := (Option.some.inj hL).symm
      have a2 : ¬ i < 256 := by omega
      have a3 : ¬ 511 < i := by omega
      have a4 : IntKind.u8.wrap (i - 256) = i - 256 := wrap8_of (by omega) (by omega)
      have a5 : IntKind.u32.wrap (i - 256) = i - 256 := by rw [w32]; omega
      have a6 : 0 < i := by omega
      have a7 : 256 ≤ i := by omega
      have hnil : w.ownsRow w.heap.size 5 1 (.slice none 0 0) 0 (by8 []) := World.ownsRow_nil _ _ _ _
      replace hP := Hid.mk' hP
      clear hi hL h1 h0
      go_enter Try.func58, Try.ntmps58
      go_wp2_with (at_builtin; go_must (refine append_bytes (by rfl) (.tmp 26) (.tmp 30) (by rfl) w.heap.size _ 0 [] (by rfl) (hnil.alloc _) (some ⟨w.heap.size, 0, none⟩) 1 1 [i - 256] (by rfl) (by rfl) (fun h => by cases h) (Arr.sl (Arr.new w 5 _)) (by omega) (by simp) ?_; intro v1 w1 hown0 hg1))
      have hB1 : Below w.heap.size w w1 := ((Below.refl _ _).alloc (Nat.le_refl _) _).grown hg1 (by simp) (fun k e => by cases e)
      have hown1 : w1.ownsRow w.heap.size 5 1 v1 P.length (by8 P) := by rw [hP.out]; simpa using hown0
      clear hown0 hg1 hnil
      go_loopw [8, 9] (fun v q wr => ∃ (k : Nat), q = .int .u64 (k : Int) ∧ k ≤ s ∧ wr.ownsRow w.heap.size 5 1 v (P.length + k) (by8 (P ++ fbL W k)) ∧ Below w.heap.size w wr)
        (fun _ q _ => s - (intOf q).toNat)
      case atStart => exact ⟨0, rfl, by omega, by simpa [fbL] using hown1, hB1⟩
      case round =>
        clear hown1 hB1
        obtain ⟨k, rfl, hk, hown, hbl⟩ := hrel
        by_cases hlt : k < s
        · have hI : (k : Int) < s := by omega
          obtain ⟨gm, o, rfl, hgl, hcell⟩ := hw (by omega)
          have hcl : wr.cell? ⟨gm, o + k / 8, none⟩ = some (.int .u64 (W (k / 8))) := (hbl.cell (p := ⟨gm, o + k / 8, none⟩) hgl).trans (hcell (k / 8) (by omega))
          have hki : ((k : Int) / 8) < c := by omega
          have hkn : ((k : Int) / 8).toNat = k / 8 := by omega
          have hU := hW (k / 8)
          have hU1 := hU.1
          have hU2 := hU.2
          have m8 : (k : Int) % 8 < 8 := by omega
          have m0 : 0 ≤ (k : Int) % 8 := by omega
          have e2 : (56 - 8 * ((k : Int) % 8)).toNat = 56 - 8 * (k % 8) := by omega
          go_wp2_with (at_builtin; go_must (refine append_bytes (by rfl) (.tmp 37) (.tmp 49) (by rfl) w.heap.size _ (P.length + k) (P ++ fbL W k) (by rfl) (hown.alloc _) (some ⟨wr.heap.size, 0, none⟩) 1 1 [fromB W k] (by rfl) (by rfl) (fun h => by cases h) (Arr.sl (Arr.new wr 5 _)) (by omega) (by have := hbl.size; simp; omega) ?_; intro v3 w3 hown3 hg3))
          have hB3 : Below w.heap.size w w3 := (hbl.alloc hbl.size _).grown hg3 (by have := hbl.size; simp; omega) (fun k e => own_ge hown k e)
          go_roundw
          case rel => exact ⟨k + 1, by go_num, by omega, by rw [← fbL_succ, ← List.append_assoc, ← Nat.add_assoc]; exact hown3, hB3⟩
          case measure => simp [intOf]; omega
        · obtain rfl : k = s := by omega
          go_wp2_with fail
          go_ret2
          exact ⟨_, rfl, hown, hbl⟩
    · rw [if_neg h1] at hL
      cases hL
set_option maxHeartbeats 1000000 in
theorem refPiece_any {N n cap : Nat} {sp : Option Addr} {bs : List Int} {x : Int} (w : World) (hB : BS N w sp n cap bs) (hx : U64 x) :
    Calls Try.prog 61 #[.slice sp n cap, .int .u64 x] w fun e w' => e = .returned (.int .u64 (pcN bs x.toNat 8)) ∧ w' = w := by
  have hl := hB.len
  have hsm := hB.small
  have hbts := hB.bts
  have hx1 := hx.1
  have hx2 := hx.2
  have wn : IntKind.u64.wrap (n : Int) = n := wrap64_of (by omega) (by omega)
  obtain ⟨p, rfl⟩ : ∃ p : Nat, x = p := ⟨x.toNat, by omega⟩
  rw [Int.toNat_natCast]
  go_enter Try.func61, Try.ntmps61
  go_wp2_with fail
  go_loopw [5, 6] (fun v q wr => wr = w ∧ ∃ (k : Nat), q = .int .u64 (k : Int) ∧ k ≤ 8 ∧ v = .int .u64 (pcN bs p k))
    (fun _ q _ => 8 - (intOf q).toNat)
  case atStart => exact ⟨rfl, 0, rfl, by omega, rfl⟩
  case round =>
    obtain ⟨rfl, k, rfl, hk, rfl⟩ := hrel
    by_cases hlt : k < 8
    · have hI : (k : Int) < 8 := by omega
      have hst := pcN_step hbts p hlt
      have hrg := pcN_rg hbts p k
      have h256 := pow256 hlt
      have hbr := bat_rg hbts (p + k)
      have wpc : IntKind.u64.wrap (pcN bs p k * 256) = pcN bs p k * 256 := wrap64_of (by omega) (by omega)
      have wb : IntKind.u64.wrap (bat bs (p + k)) = bat bs (p + k) := wrap64_of (by omega) (by omega)
      rw [wpc, wb] at hst
      have hz : ¬ p + k < n → pcN bs p (k + 1) = pcN bs p k * 256 := fun h => by
        have : bat bs (p + k) = 0 := by
          simp only [bat, List.getD_eq_getElem?_getD]
          rw [List.getElem?_eq_none (by rw [← hl.out]; omega)]
          rfl
        simp only [pcN, this]
        omega
      obtain ⟨q, hq⟩ : ∃ q, q = p + k := ⟨_, rfl⟩
      have hpos : 0 ≤ pcN bs p k := hrg.1
      have hpos2 : pcN bs p k < 72057594037927936 := by omega
      rw [← hq] at hst hbr wb hz
      generalize hP0 : pcN bs p k = p0 at *
      generalize hP1 : pcN bs p (k + 1) = p1 at *
      replace hP0 := Hid.mk' hP0
      replace hP1 := Hid.mk' hP1
      replace hz := Hid.mk' hz
      clear hrg h256
      by_cases hin : q < n
      · have ws : IntKind.u64.wrap ((p : Int) + k) = (q : Int) := by rw [wrap64_of (by omega) (by omega)]; omega
        have i1 : (p : Int) ≤ (q : Int) := by omega
        have i2 : (q : Int) < n := by omega
        obtain ⟨b, o, rfl, -, hby⟩ := hB.at0 (by omega)
        have hcl := hby q hin
        generalize bat bs q = bb at *
        replace hq := Hid.mk' hq
        go_wp2_with fail
        go_roundw
        case rel => exact ⟨by trivial, k + 1, by go_num, by omega, by rw [hP1.out, ← hst]⟩
        case measure => simp [intOf]; omega
      · have hzz := hz.out hin
        by_cases hwr : (p : Int) + k < 18446744073709551616
        · have ws : IntKind.u64.wrap ((p : Int) + k) = (q : Int) := by rw [wrap64_of (by omega) (by omega)]; omega
          have i1 : (p : Int) ≤ (q : Int) := by omega
          have i2 : ¬ (q : Int) < n := by omega
          replace hq := Hid.mk' hq
          replace hzz := Hid.mk' hzz
          clear hst wb hwr
          go_wp2_with fail
          go_roundw
          case rel => exact ⟨by trivial, k + 1, by go_num, by omega, by rw [hP1.out, hzz.out]⟩
          case measure => simp [intOf]; omega
        · obtain ⟨r, hr⟩ : ∃ r : Nat, (r : Int) = (p : Int) + k - 18446744073709551616 := ⟨((p : Int) + k - 18446744073709551616).toNat, by omega⟩
          have ws : IntKind.u64.wrap ((p : Int) + k) = (r : Int) := by rw [wrap_mod]; omega
          have i1 : ¬ (p : Int) ≤ (r : Int) := by omega
          replace hr := Hid.mk' hr
          replace hq := Hid.mk' hq
          replace hzz := Hid.mk' hzz
          clear hst wb hwr
          go_wp2_with fail
          go_roundw
          case rel => exact ⟨by trivial, k + 1, by go_num, by omega, by rw [hP1.out, hzz.out]⟩
          case measure => simp [intOf]; omega
    · obtain rfl : k = 8 := by omega
      go_wp2_with fail
      go_ret
      exact ⟨rfl, rfl⟩
end Go.Proofs.Ytnjbmffgbgbjmaa
/- Layer vm: a step that asks for a preimage, and one that sums. -/
namespace Go.Proofs.Ytnjbmffgbgbjmaa
open Go.RowKit
set_option maxRecDepth 100000
set_option linter.unusedVariables false
set_option linter.unusedSimpArgs false


variable {N : Nat} {es : List En} {w w' : World} {g gm gp n cap : Nat} {sp : Option Addr} {nk ck : Nat} {m m' : Mc}
theorem Chg.low {S : Nat → Prop} {a b : World} (h : Chg S a b) (hN : N ≤ a.heap.size) (hS : ∀ k, k < N → ¬ S k) : Below N a b :=
  ⟨h.os, h.tape, h.output, h.size, fun k hk => h.block k (by omega) (hS k hk)⟩
theorem VM.chg (h : VM N es w g gm gp n cap sp nk ck m) (hc : Chg (fun k => k = gm) w w') (he : EN w' g 82 [.slice sp nk ck, .map (some gp)] gm n cap m') : VM N es w' g gm gp n cap sp nk ck m' ∧ Chg (C3 g gm gp) w w' := by
  have h1 := h.le
  have h2 := h.en.ltm
  have h3 := h.ne
  have hb : Below N w w' := hc.low (by omega) (fun k hk e => by omega)
  obtain ⟨f, hf, hi⟩ := h.map
  exact ⟨⟨he, h.known.below hb, ⟨f, hf.same (hc.block gp h.ltp (fun e => h3.2 e.symm)), hi⟩, h.le, h.ne⟩, hc.mono (fun k e => .inr (.inl e))⟩
/-- What the shelf's preimage leaves. -/
structure ShW (N : Nat) (es : List En) (w w' : World) (g gm gp n cap : Nat) (sp : Option Addr) (nk ck : Nat) (m : Mc) : Prop where
  vm : VM N es w' g gm gp n cap sp nk ck m
  low : Below N w w'
  chg : Chg (C3 g gm gp) w w'
  size : w.heap.size ≤ w'.heap.size
  oth : ∀ b, b < w.heap.size → b ≠ gp → w'.heap[b]? = w.heap[b]?
theorem shw {X : List Int} {r : Ending} (h : VM N es w g gm gp n cap sp nk ck m) (hp : ShPost es X N gp w r w') : ShW N es w w' g gm gp n cap sp nk ck m := by
  obtain ⟨hM, h1, h2, h3, h4, h5, -⟩ := hp
  have hl := h.le
  have hg := h.en.lt
  have hgm := h.en.ltm
  have hb : Below N w w' := ⟨h2, h3, h4, h1, fun k hk => h5 k (by omega) (by omega)⟩
  exact ⟨⟨h.en.block (h5 g hg h.ne.1) (h5 gm hgm h.ne.2), h.known.below hb, hM, h.le, h.ne⟩, hb, ⟨h2, h3, h4, h1, fun k hk hs => h5 k hk (fun e => hs (.inr (.inr e)))⟩, h1, h5⟩
theorem shelf_yes {X : List Int} {e : En} (h : VM N es w g gm gp n cap sp nk ck m) (hX : X.length = 32) (hp : pre es X = some e) :
    Calls Try.prog 54 #[.agg #[.slice sp nk ck, .map (some gp)], .agg (h8 X)] w fun r w' => r = .returned (.slice e.sp e.n e.cap) ∧ e ∈ es ∧ ShW N es w w' g gm gp n cap sp nk ck m := by
  obtain ⟨f, hf, hi⟩ := h.map
  refine (shelf_any sp nk ck es X N gp w h.known h.le.2.2 hX hf hi).mono fun r w' hs => ?_
  have hw := shw h hs
  obtain ⟨-, -, -, -, -, -, ⟨e', he', hm, hr⟩ | ⟨he', hr⟩⟩ := hs
  · rw [hp] at he'; cases he'
    exact ⟨hr, hm, hw⟩
  · rw [hp] at he'; cases he'
theorem shelf_no {X : List Int} (h : VM N es w g gm gp n cap sp nk ck m) (hX : X.length = 32) (hp : pre es X = none) :
    Calls Try.prog 54 #[.agg #[.slice sp nk ck, .map (some gp)], .agg (h8 X)] w fun r w' => r = .panicked trapV ∧ ShW N es w w' g gm gp n cap sp nk ck m := by
  obtain ⟨f, hf, hi⟩ := h.map
  refine (shelf_any sp nk ck es X N gp w h.known h.le.2.2 hX hf hi).mono fun r w' hs => ?_
  have hw := shw h hs
  obtain ⟨-, -, -, -, -, -, ⟨e', he', hm, hr⟩ | ⟨he', hr⟩⟩ := hs
  · rw [hp] at he'; cases he'
  · exact ⟨hr, hw⟩
theorem stNoS {o : Option Mc} {W U : World} (hV : VM N es w g gm gp n cap sp nk ck m) (ho : o = none) (hW : Below w.heap.size w W) (hS : ShW N es W U g gm gp n cap sp nk ck m) : StPost N es g gm gp n cap sp nk ck m o w (.panicked trapV) U :=
  ⟨(Chg.of_below hW).trans hS.chg, Nat.le_trans hW.size hS.size, .inr ⟨ho, rfl, hS.vm⟩⟩
theorem mkL_one {i : Int} {P : List Int} (h : mkL i = some P) : P.length ≤ 1 := by
  unfold mkL at h
  split at h
  · cases h; simp
  · split at h
    · cases h; simp
    · cases h
end Go.Proofs.Ytnjbmffgbgbjmaa

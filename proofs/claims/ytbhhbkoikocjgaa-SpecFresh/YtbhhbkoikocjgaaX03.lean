/- Tj, Tk, Tl, Tm, Ts, Tu. -/
import Derived.Test.YtbhhbkoikocjgaaX01
import Derived.Test.YtbhhbkoikocjgaaX02
import Derived.BigQuiet
import Derived.BigRegion
import Derived.ChangeKeysEq
import Derived.Deep.DeepCutAuto
import Derived.Deep.DrawnRows
import Derived.Deep.QuietTactic
import Derived.Deep.RegionHeld3
import Derived.Deep.RegionLaw
import Derived.Deep.RegionWith
import Derived.Deep.WholeRow
import Derived.JoinedTies
import Derived.KernelRfl
import Derived.Laws.BytesArg
import Derived.Laws.CopyOwn
import Derived.Lib.SlBytesConst
import Derived.WalkKit
import Derived.WalkLawsBesides
import Derived.WalkSpells
import GoSem.Claim
import GoSem.ClaimJoined
import GoSem.ClaimMapViews
import Derived.Laws.AppendOwnNone
/- Layer spec: what the layers below give. -/
namespace Go.Proofs.Ytbhhbkoikocjgaa
open Go.RowKit
set_option maxRecDepth 100000
set_option linter.unusedVariables false
set_option linter.unusedSimpArgs false

/-- Byte t of the sum of n bytes. -/
def shaB (B : Nat → Int) (n t : Nat) : Int := outB (shaSt B (n / 64) (n % 64)) t
theorem outB_range (s : St) (t : Nat) : 0 ≤ outB s t ∧ outB s t ≤ 255 := by unfold outB; omega
theorem shaB_range (B : Nat → Int) (n t : Nat) : 0 ≤ shaB B n t ∧ shaB B n t ≤ 255 := outB_range _ _
theorem u8s_size (n : Nat) (f : Nat → Int) : (u8s n f).size = n := arr_size _ _
theorem u8s_get {n : Nat} {f : Nat → Int} {t : Nat} (h : t < n) : (u8s n f)[t]? = some (.int .u8 (f t)) := arr_get h
theorem sum_any (b off n cap : Nat) (B : Nat → Int) (w : World) (hB : Bytes w b off n B) (hcap : n ≤ cap) (hn : n ≤ 140737488355328) :
    Calls Try.prog 95 #[.slice (some ⟨b, off, none⟩) n cap] w fun e w' => e = .returned (.agg (u8s 32 (shaB B n))) ∧ Below w.heap.size w w' := by
  have e : 64 * (n / 64) + n % 64 = n := Nat.div_add_mod n 64
  have := sum_some b off (n / 64) (n % 64) cap B w (by rw [e]; exact hB) (Nat.mod_lt _ (by omega)) (by omega) (by omega)
  rw [e] at this
  refine this.mono ?_
  rintro e w' ⟨C, rfl, hs, hC, hb⟩
  exact ⟨by rw [arr_eq hs hC]; rfl, hb⟩
end Go.Proofs.Ytbhhbkoikocjgaa
/- Layer spec: what the layers below give. -/
namespace Go.Proofs.Ytbhhbkoikocjgaa
open Go.RowKit
set_option maxRecDepth 100000
set_option linter.unusedVariables false
set_option linter.unusedSimpArgs false

/-- Bytes as cells. -/
def by8 (L : List Int) : List Value := L.map (Value.int .u8)
theorem by8_len (L : List Int) : (by8 L).length = L.length := by simp [by8]
theorem by8_app (L M : List Int) : by8 (L ++ M) = by8 L ++ by8 M := by simp [by8]
theorem by8_one (L : List Int) : ∀ v ∈ by8 L, v.oneCell' = true := by
  intro v hv; simp only [by8, List.mem_map] at hv; obtain ⟨t, -, rfl⟩ := hv; rfl
/-- Byte t. -/
def bat (L : List Int) (t : Nat) : Int := L.getD t 0
theorem by8_get {L : List Int} {t : Nat} (h : t < L.length) : (by8 L)[t]? = some (.int .u8 (bat L t)) := by
  simp [by8, bat, List.getElem?_eq_getElem h]
/-- The sum of bytes. -/
def sha (L : List Int) : Array Value := u8s 32 (shaB (bat L) L.length)
/-- What a slice of bytes reads. -/
def SlL (w : World) (sp : Option Addr) (L : List Int) : Prop := Sl w sp L.length (bat L)
theorem sum_list (b off cap : Nat) (L : List Int) (w : World) (hB : Bytes w b off L.length (bat L)) (hcap : L.length ≤ cap) (hn : L.length ≤ 140737488355328) :
    Calls Try.prog 95 #[.slice (some ⟨b, off, none⟩) L.length cap] w fun e w' => e = .returned (.agg (sha L)) ∧ Below w.heap.size w w' :=
  sum_any b off L.length cap (bat L) w hB hcap hn
theorem Arr.sl {w : World} {g ty : Nat} {L : List Int} (h : Arr w g ty (by8 L).toArray) : SlL w (some ⟨g, 0, none⟩) L := fun _ => ⟨g, 0, rfl, fun t ht => by
  rw [Nat.zero_add, h.cell]; simpa using by8_get ht⟩
theorem own_ge {w : World} {base e s n : Nat} {v : Value} {xs : List Value} (h : w.ownsRow base e s v n xs) : ∀ k, v.ownBlock = some k → base ≤ k := by
  intro k hk
  obtain ⟨-, h | ⟨g, cap, cur, rfl, hg, -⟩⟩ := h
  · obtain ⟨rfl, -⟩ := h; simp [Value.ownBlock] at hk
  · simp [Value.ownBlock] at hk; omega
/-- What an own slice that is not empty looks like. -/
theorem own_slice {w : World} {base n : Nat} {v : Value} {L : List Int} (h : w.ownsRow base 5 1 v n (by8 L)) (h0 : 0 < n) :
    ∃ g cap, v = .slice (some ⟨g, 0, none⟩) n cap ∧ Hid (n = L.length) ∧ n ≤ cap ∧ base ≤ g ∧ Bytes w g 0 L.length (bat L) ∧ (∃ cur : Array Value, Arr w g 5 cur ∧ cur.size = cap) := by
  obtain ⟨hl, h | ⟨g, cap, cur, rfl, hg, hh, hn, -, hc, ht⟩⟩ := h
  · omega
  · rw [by8_len, Nat.mul_one] at hl
    subst hl
    refine ⟨g, cap, rfl, show _ = _ from rfl, hn, hg, fun t htl => ?_, cur, hh, by simpa using hc⟩
    rw [Nat.zero_add, cell_of_row w g t cur 5 (0, 0) hh, ← Array.getElem?_toList, ← List.getElem?_take_of_lt (show t < L.length * 1 by omega), ht, by8_get htl]
theorem maxLen_ge : 140737488355328 ≤ maxLen := by unfold maxLen; omega
/-- append of bytes onto a slice of the call's own: the operation. -/
theorem wp_append_bytes {o : Oper} {a : Act} {w : World} {K : Act → World → Prop} {Q : Exit → Act → World → Prop} (s x : Operand)
    (ho : o.op = .call { callee := .builtin .append, args := #[s, x], argTypes := #[63, 63] })
    (base : Nat) (v : Value) (n : Nat) (L : List Int) (hs : a.eval s = v) (hown : w.ownsRow base 5 1 v n (by8 L))
    (sp : Option Addr) (m c : Nat) (M : List Int) (hx : a.eval x = .slice sp m c) (hm : m = M.length) (hnil : sp = none → m = 0 ∧ c = 0) (hS : SlL w sp M) (hb : n + m ≤ 140737488355328) (hbase : base ≤ w.heap.size)
    (h : ∀ v' w', w'.ownsRow base 5 1 v' (n + m) (by8 (L ++ M)) → w.grownBy w' v.ownBlock → K (a.put o.dst v') w') : o.wp Try.prog a w K Q := by
  obtain ⟨i0, hi, hz0, hz1, hz2⟩ := info_parts info5
  subst hm
  cases sp with
  | none =>
    obtain ⟨h1, rfl⟩ := hnil rfl
    obtain rfl : M = [] := List.eq_nil_of_length_eq_zero h1
    have hrun := run_append_owned_none (P := Try.prog) (w := w) base 63 o.type 5 i0 1 Try.underlying63 hi v n _ hown
    unfold Oper.wp
    simp only [List.length_nil] at hx
    simp [execOp, ho, resolve, invoke, builtin, hs, hx, hrun, Result.andThen]
    exact h v w (by simpa using hown) ⟨rfl, rfl, rfl, Nat.le_refl _, fun _ _ _ => rfl⟩
  | some ad =>
    refine wp_append_own w s x 63 ho base 5 i0 (.int .u8 0) 1 1 Try.underlying63 hi hz0 hz1 hz2 rfl (by omega) v n _ hs hown ad M.length c (by8 M) hx (by rw [by8_len]; omega) ?_ (by8_one M) (Nat.le_trans hb maxLen_ge) (by omega) hbase ?_
    · intro j u hj
      have hjl : j < M.length := by have := (List.getElem?_eq_some_iff.1 hj).1; rwa [by8_len] at this
      obtain ⟨b, off, e, hB⟩ := hS (by omega)
      obtain rfl := Option.some.inj e
      rw [by8_get hjl] at hj
      rw [Addr.add_mid, hB j hjl]; exact hj
    · intro v' w' h1 h2 _
      exact h v' w' (by rw [by8_app]; exact h1) h2
theorem wpList_want {P : Program} {ops : Array Oper} {rest : List Oper} {o : Oper} {a : Act} {w : World} {Q : Exit → Act → World → Prop} (hw : Region.wanted o (yielded ops a.tmps) = true)
    (h : ∀ K : Act → World → Prop, (∀ a w, wpList P ops Q rest a w → K a w) → o.wp P a w K Q) : wpList P ops Q (o :: rest) a w :=
  wpList_step fun K hK => by rw [if_pos hw]; exact h K hK
theorem step_want {P : Program} {ops : Array Oper} {o : Oper} {a : Act} {w : World} {K : Act → World → Prop} {Q : Exit → Act → World → Prop} {E : Prop} (hg : o.guard = none) (h : Oper.wp P o a w K Q) :
    if Region.wanted o (yielded ops a.tmps) = true then Oper.wp P o a w K Q else E := by
  rw [if_pos (by simp [Region.wanted, hg])]; exact h
/-- .. in a region's list, guarded or not. -/
theorem append_bytes {ops : Array Oper} {rest : List Oper} {o : Oper} {a : Act} {w : World} {Q : Exit → Act → World → Prop} (hgd : Region.wanted o (yielded ops a.tmps) = true) (s x : Operand)
    (ho : o.op = .call { callee := .builtin .append, args := #[s, x], argTypes := #[63, 63] })
    (base : Nat) (v : Value) (n : Nat) (L : List Int) (hs : a.eval s = v) (hown : w.ownsRow base 5 1 v n (by8 L))
    (sp : Option Addr) (m c : Nat) (M : List Int) (hx : a.eval x = .slice sp m c) (hm : m = M.length) (hnil : sp = none → m = 0 ∧ c = 0) (hS : SlL w sp M) (hb : n + m ≤ 140737488355328) (hbase : base ≤ w.heap.size)
    (h : ∀ v' w', w'.ownsRow base 5 1 v' (n + m) (by8 (L ++ M)) → w.grownBy w' v.ownBlock → wpList Try.prog ops Q rest (a.put o.dst v') w') : wpList Try.prog ops Q (o :: rest) a w :=
  wpList_want hgd fun _ hK => wp_append_bytes s x ho base v n L hs hown sp m c M hx hm hnil hS hb hbase fun v' w' h1 h2 => hK _ _ (h v' w' h1 h2)
/-- .. in a region that draws its order. -/
theorem step_append_bytes {ops : Array Oper} {o : Oper} {a : Act} {w : World} {K : Act → World → Prop} {Q : Exit → Act → World → Prop} {E : Prop} (hgd : o.guard = none) (s x : Operand)
    (ho : o.op = .call { callee := .builtin .append, args := #[s, x], argTypes := #[63, 63] })
    (base : Nat) (v : Value) (n : Nat) (L : List Int) (hs : a.eval s = v) (hown : w.ownsRow base 5 1 v n (by8 L))
    (sp : Option Addr) (m c : Nat) (M : List Int) (hx : a.eval x = .slice sp m c) (hm : m = M.length) (hnil : sp = none → m = 0 ∧ c = 0) (hS : SlL w sp M) (hb : n + m ≤ 140737488355328) (hbase : base ≤ w.heap.size)
    (h : ∀ v' w', w'.ownsRow base 5 1 v' (n + m) (by8 (L ++ M)) → w.grownBy w' v.ownBlock → K (a.put o.dst v') w') :
    if Region.wanted o (yielded ops a.tmps) = true then Oper.wp Try.prog o a w K Q else E :=
  step_want hgd (wp_append_bytes s x ho base v n L hs hown sp m c M hx hm hnil hS hb hbase h)
end Go.Proofs.Ytbhhbkoikocjgaa
/- Layer spec: what the layers below give. -/
namespace Go.Proofs.Ytbhhbkoikocjgaa
open Go.RowKit
set_option maxRecDepth 100000
set_option linter.unusedVariables false
set_option linter.unusedSimpArgs false

theorem Sl.grown {w w' : World} {sp : Option Addr} {r : Nat} {B : Nat → Int} {row : Option Nat} (h : Sl w sp r B) (hg : w.grownBy w' row) (hr : ∀ b off, sp = some ⟨b, off, none⟩ → 0 < r → some b ≠ row) : Sl w' sp r B := fun h0 => by
  obtain ⟨b, off, rfl, hB⟩ := h h0
  refine ⟨b, off, rfl, fun t ht => ?_⟩
  rw [World.cell?_of_block (w := w) (a := ⟨b, off + t, none⟩) (hg.block b (block_lt_of_cell (hB t ht)) (hr b off rfl h0))]
  exact hB t ht
theorem Arr.grown {w w' : World} {g ty : Nat} {C : Array Value} {row : Option Nat} (h : Arr w g ty C) (hg : w.grownBy w' row) (hr : some g ≠ row) : Arr w' g ty C := by
  have := hg.block g h.lt hr
  unfold Arr at h ⊢; rw [this]; exact h
theorem Sl.lt {w : World} {b off r : Nat} {B : Nat → Int} (h : Sl w (some ⟨b, off, none⟩) r B) (h0 : 0 < r) : b < w.heap.size := by
  obtain ⟨b', off', e, hB⟩ := h h0
  cases e
  exact block_lt_of_cell (hB 0 h0)
theorem ne_own {w : World} {base e s n b : Nat} {v : Value} {xs : List Value} (h : w.ownsRow base e s v n xs) (hb : b < base) : some b ≠ v.ownBlock := fun h' => by
  have := own_ge h b h'.symm; omega
theorem sha_size (L : List Int) : (sha L).size = 32 := u8s_size _ _
theorem s24sha (L : List Int) : (Try.prog.info? 24).map (·.size) = some (sha L).size := by rw [sha_size]; exact size24
theorem sha_get (L : List Int) : ∀ t, t < 32 → (sha L)[t]? = some (.int .u8 (shaB (bat L) L.length t)) := fun _ h => u8s_get h
theorem sha_one (L : List Int) : (sha L).all (·.oneCell') = true := one_ints (sha_size L) (sha_get L)
/-- A sum by value. -/
def h8 (X : List Int) : Array Value := (by8 X).toArray
theorem h8_size (X : List Int) : (h8 X).size = X.length := by simp [h8, by8_len]
end Go.Proofs.Ytbhhbkoikocjgaa
/- Layer spec: what the layers below give. -/
namespace Go.Proofs.Ytbhhbkoikocjgaa
open Go.RowKit
set_option maxRecDepth 100000
set_option linter.unusedVariables false
set_option linter.unusedSimpArgs false

theorem Bytes.below {w w' : World} {b off n : Nat} {B : Nat → Int} (h : Bytes w b off n B) (hb : Below w.heap.size w w') : Bytes w' b off n B := fun t ht => by
  rw [hb.cell (p := ⟨b, off + t, none⟩) (block_lt_of_cell (h t ht))]; exact h t ht
theorem Arr.bel {w w' : World} {g ty : Nat} {C : Array Value} (h : Arr w g ty C) (hb : Below w.heap.size w w') : Arr w' g ty C := h.below hb h.lt
theorem s24h8 {X : List Int} (h : X.length = 32) : (Try.prog.info? 24).map (·.size) = some (h8 X).size := by rw [h8_size, h]; exact size24
end Go.Proofs.Ytbhhbkoikocjgaa
/- Layer spec: what the layers below give. -/
namespace Go.Proofs.Ytbhhbkoikocjgaa
open Go.RowKit
set_option maxRecDepth 100000
set_option linter.unusedVariables false
set_option linter.unusedSimpArgs false

set_option maxRecDepth 100000 in
set_option maxHeartbeats 2000000 in
theorem sum_none (B : Nat → Int) (w : World) :
    Calls Try.prog 95 #[.slice none 0 0] w fun e w' => ∃ C : Array Value, e = .returned (.agg C) ∧ C.size = 32 ∧ (∀ t, t < 32 → C[t]? = some (.int .u8 (outB (shaSt B 0 0) t))) ∧ Below w.heap.size w w' := by
  have hS0 : ∀ (u : World) (q : Option Addr), Sl u q 0 B := fun _ _ h0 => absurd h0 (by omega)
  have E1 : shaSt B 0 0 = absorbN kOf (padB B 0 0 64) h0St 1 := by rw [shaSt_one (by omega), show (fun t => B (64 * 0 + t)) = B from funext fun t => by rw [Nat.mul_zero, Nat.zero_add]]; rfl
  have E1 := Hid.mk' E1
  go_enter Try.func95, Try.ntmps95
  go_upto_region 4 with (first
    | (go_at_call 105; go_must (refine (roundNumbers_any _).mono ?_; rintro e w1 ⟨rfl, hb1⟩))
    | (refine wpList_store_new w1 _ 166 (by rfl) 166 (.tmp 3) (.tmp 6) (by rfl) kCells (by rfl) (by rfl) (Eq.trans size46 (by rfl)) (by rfl) (one_ints kCells_size kCells_get) ?_)
    | (go_at_call 106; go_must (refine (firstWords_any _).mono ?_; rintro e w2 ⟨rfl, hb2⟩))
    | (refine wpList_store_new w2 _ 156 (by rfl) 156 (.tmp 4) (.tmp 7) (by rfl) h0St.cells (by rfl) (by rfl) (s48 _) (by rfl) (St.one _) ?_))
  have hA4 : Arr (w2.alloc (.cells h0St.cells 156)) w2.heap.size 156 h0St.cells := Arr.new _ _ _
  have hK3 : Arr (w2.alloc (.cells h0St.cells 156)) w1.heap.size 166 kCells := ((Arr.new w1 166 kCells).below hb2 (by simp)).alloc _
  have hg34 : w.heap.size < w1.heap.size := by have := hb1.size; simp at this; omega
  have hg45 : w1.heap.size < w2.heap.size := by have := hb2.size; simp at this; omega
  have hbl : Below w.heap.size w (w2.alloc (.cells h0St.cells 156)) :=
    ((((((Below.refl _ _).alloc (Nat.le_refl _) _).trans (hb1.mono (by simp))).alloc (by omega) _).trans (hb2.mono (by simp; omega))).alloc (by omega) _)
  have hR : ∃ Z : Array Value, Z.size = 32 ∧ Arr (w2.alloc (.cells h0St.cells 156)) w.heap.size 24 Z :=
    ⟨_, by rfl, ((((Arr.new w 24 _).below hb1 (by simp)).alloc _).below hb2 (by simp; omega)).alloc _⟩
  obtain ⟨Z, hZs, hZ⟩ := hR
  clear hb1 hb2
  generalize w2.alloc (.cells h0St.cells 156) = W at *
  generalize w2.heap.size = g4 at *
  generalize w1.heap.size = g3 at *
  go_cut [] from 6 (fun wc => Arr wc g4 156 h0St.cells ∧ Arr wc g3 166 kCells ∧ Arr wc w.heap.size 24 Z ∧ Below w.heap.size w wc)
  case first =>
    obtain ⟨c0, c1, c2, c3, c4, c5, c6, c7⟩ := hA4.cells8
    go_region_with (first
      | (go_at_call 107; go_must (refine (absorb_zero h0St _ _ g3 _).mono ?_; rintro e w3 ⟨rfl, hb3⟩; have hA5 := hA4.drew.below hb3 hA4.lt; have hst := hA5.store8 h0St)))
    all_goals
      go_wp2_with fail
      go_meet
      exact ⟨hA5.setRow _, (hK3.drew.below hb3 hK3.lt).setRowOther _ (by omega), (hZ.drew.below hb3 hZ.lt).setRowOther _ (by omega), below_setRow (hbl.drew.trans (hb3.mono hbl.size)) (by omega) _⟩
  case rest =>
    clear hA4 hK3 hbl hZ
    obtain ⟨hA4, hK3, hZ, hbl⟩ := hcut
    go_upto_region 5 with fail
    obtain ⟨c0, c1, c2, c3, c4, c5, c6, c7⟩ := hA4.cells8
    go_cut [] from 6 (fun wc => Arr wc g4 156 (shaSt B 0 0).cells ∧ Arr wc w.heap.size 24 Z ∧ Below w.heap.size w wc)
    case first =>
      go_region_with (first
        | (go_at_call 108; go_must (refine (lastBlocks_any _ 0 _ 64 0 B wc.drew (hS0 _ _) (Or.inr ⟨by omega, rfl⟩) (by omega) (by omega) (by omega)).mono ?_; rintro e w4 ⟨C, rfl, hC, hCs, hCw, hb4⟩; have hA6 := hA4.drew.below hb4 hA4.lt; have hK6 := (hK3.drew.below hb4 hK3.lt).row kCells_get; have hg3 := (hK3.drew.below hb4 hK3.lt).lt; have hBy : Bytes w4 wc.heap.size 0 (64 * 1) (padB B 0 0 64) := (fun t ht => by rw [Nat.zero_add]; exact (hC.cell t).trans (hCw t ht)); obtain ⟨c0, c1, c2, c3, c4, c5, c6, c7⟩ := hA6.cells8; clear hCw))
        | (go_at_call 107; go_must (refine (absorb_any h0St wc.heap.size 0 64 1 g3 kOf _ w4 hBy (by omega) (by omega) hg3 hK6).mono ?_; rintro e w5 ⟨rfl, hb5⟩; have hA7 := hA6.below hb5 hA6.lt; have hst := hA7.store8 (absorbN kOf (padB B 0 0 64) h0St 1))))
      all_goals
        go_wp2_with fail
        go_meet
        rw [E1.out]
        exact ⟨hA7.setRow _, (((hZ.drew.below hb4 hZ.lt).below hb5 (hZ.drew.below hb4 hZ.lt).lt)).setRowOther _ (by omega), below_setRow ((hbl.drew.trans (hb4.mono hbl.size)).trans (hb5.mono (Nat.le_trans hbl.size hb4.size))) (by omega) _⟩
    case rest =>
      clear hA4 hK3 hbl hZ c0 c1 c2 c3 c4 c5 c6 c7
      obtain ⟨hA4, hZ, hbl⟩ := hcut
      go_wp2_with (first
        | (refine wpList_load_row rfl 156 (.tmp 4) rfl g4 rfl 156 (shaSt B 0 0).cells (0, 0) _ hA4 Try.underlying156 rfl (s48 _) ?_)
        | (go_at_call 109; go_must (refine (fromWords_any (shaSt B 0 0) _).mono ?_; rintro e w6 ⟨C, rfl, hCs, hCw, hb6⟩; have hZ6 := hZ.below hb6 hZ.lt))
        | (refine wpList_store_arr rfl 24 (.tmp 2) (.tmp 29) rfl w.heap.size C rfl rfl 24 Z hZ6 (by rw [hCs]; exact size24) (by rw [hCs]; exact hZs) (one_ints hCs hCw) ?_))
      exact bodyPost_ret (v := .agg C) (results_cell_row Try.results95 _ _ w.heap.size 24 C (0, 0) _ rfl (hZ6.setRow C) Try.underlying24 rfl (by rw [hCs]; exact size24)) rfl ⟨C, rfl, hCs, hCw, below_setRow (hbl.trans (hb6.mono hbl.size)) (Nat.le_refl _) C⟩
set_option maxRecDepth 100000 in
set_option maxHeartbeats 2000000 in
theorem sum_ad0 (ad : Addr) (B : Nat → Int) (w : World) :
    Calls Try.prog 95 #[.slice (some ad) 0 0] w fun e w' => ∃ C : Array Value, e = .returned (.agg C) ∧ C.size = 32 ∧ (∀ t, t < 32 → C[t]? = some (.int .u8 (outB (shaSt B 0 0) t))) ∧ Below w.heap.size w w' := by
  have hS0 : ∀ (u : World) (q : Option Addr), Sl u q 0 B := fun _ _ h0 => absurd h0 (by omega)
  have E1 : shaSt B 0 0 = absorbN kOf (padB B 0 0 64) h0St 1 := by rw [shaSt_one (by omega), show (fun t => B (64 * 0 + t)) = B from funext fun t => by rw [Nat.mul_zero, Nat.zero_add]]; rfl
  have E1 := Hid.mk' E1
  go_enter Try.func95, Try.ntmps95
  go_upto_region 4 with (first
    | (go_at_call 105; go_must (refine (roundNumbers_any _).mono ?_; rintro e w1 ⟨rfl, hb1⟩))
    | (refine wpList_store_new w1 _ 166 (by rfl) 166 (.tmp 3) (.tmp 6) (by rfl) kCells (by rfl) (by rfl) (Eq.trans size46 (by rfl)) (by rfl) (one_ints kCells_size kCells_get) ?_)
    | (go_at_call 106; go_must (refine (firstWords_any _).mono ?_; rintro e w2 ⟨rfl, hb2⟩))
    | (refine wpList_store_new w2 _ 156 (by rfl) 156 (.tmp 4) (.tmp 7) (by rfl) h0St.cells (by rfl) (by rfl) (s48 _) (by rfl) (St.one _) ?_))
  have hA4 : Arr (w2.alloc (.cells h0St.cells 156)) w2.heap.size 156 h0St.cells := Arr.new _ _ _
  have hK3 : Arr (w2.alloc (.cells h0St.cells 156)) w1.heap.size 166 kCells := ((Arr.new w1 166 kCells).below hb2 (by simp)).alloc _
  have hg34 : w.heap.size < w1.heap.size := by have := hb1.size; simp at this; omega
  have hg45 : w1.heap.size < w2.heap.size := by have := hb2.size; simp at this; omega
  have hbl : Below w.heap.size w (w2.alloc (.cells h0St.cells 156)) :=
    ((((((Below.refl _ _).alloc (Nat.le_refl _) _).trans (hb1.mono (by simp))).alloc (by omega) _).trans (hb2.mono (by simp; omega))).alloc (by omega) _)
  have hR : ∃ Z : Array Value, Z.size = 32 ∧ Arr (w2.alloc (.cells h0St.cells 156)) w.heap.size 24 Z :=
    ⟨_, by rfl, ((((Arr.new w 24 _).below hb1 (by simp)).alloc _).below hb2 (by simp; omega)).alloc _⟩
  obtain ⟨Z, hZs, hZ⟩ := hR
  clear hb1 hb2
  generalize w2.alloc (.cells h0St.cells 156) = W at *
  generalize w2.heap.size = g4 at *
  generalize w1.heap.size = g3 at *
  go_cut [] from 6 (fun wc => Arr wc g4 156 h0St.cells ∧ Arr wc g3 166 kCells ∧ Arr wc w.heap.size 24 Z ∧ Below w.heap.size w wc)
  case first =>
    obtain ⟨c0, c1, c2, c3, c4, c5, c6, c7⟩ := hA4.cells8
    go_region_with (first
      | (go_at_call 107; go_must (refine (absorb_zero h0St _ _ g3 _).mono ?_; rintro e w3 ⟨rfl, hb3⟩; have hA5 := hA4.drew.below hb3 hA4.lt; have hst := hA5.store8 h0St)))
    all_goals
      go_wp2_with fail
      go_meet
      exact ⟨hA5.setRow _, (hK3.drew.below hb3 hK3.lt).setRowOther _ (by omega), (hZ.drew.below hb3 hZ.lt).setRowOther _ (by omega), below_setRow (hbl.drew.trans (hb3.mono hbl.size)) (by omega) _⟩
  case rest =>
    clear hA4 hK3 hbl hZ
    obtain ⟨hA4, hK3, hZ, hbl⟩ := hcut
    go_upto_region 5 with fail
    obtain ⟨c0, c1, c2, c3, c4, c5, c6, c7⟩ := hA4.cells8
    go_cut [] from 6 (fun wc => Arr wc g4 156 (shaSt B 0 0).cells ∧ Arr wc w.heap.size 24 Z ∧ Below w.heap.size w wc)
    case first =>
      go_region_with (first
        | (go_at_call 108; go_must (refine (lastBlocks_any _ 0 _ 64 0 B wc.drew (hS0 _ _) (Or.inr ⟨by omega, rfl⟩) (by omega) (by omega) (by omega)).mono ?_; rintro e w4 ⟨C, rfl, hC, hCs, hCw, hb4⟩; have hA6 := hA4.drew.below hb4 hA4.lt; have hK6 := (hK3.drew.below hb4 hK3.lt).row kCells_get; have hg3 := (hK3.drew.below hb4 hK3.lt).lt; have hBy : Bytes w4 wc.heap.size 0 (64 * 1) (padB B 0 0 64) := (fun t ht => by rw [Nat.zero_add]; exact (hC.cell t).trans (hCw t ht)); obtain ⟨c0, c1, c2, c3, c4, c5, c6, c7⟩ := hA6.cells8; clear hCw))
        | (go_at_call 107; go_must (refine (absorb_any h0St wc.heap.size 0 64 1 g3 kOf _ w4 hBy (by omega) (by omega) hg3 hK6).mono ?_; rintro e w5 ⟨rfl, hb5⟩; have hA7 := hA6.below hb5 hA6.lt; have hst := hA7.store8 (absorbN kOf (padB B 0 0 64) h0St 1))))
      all_goals
        go_wp2_with fail
        go_meet
        rw [E1.out]
        exact ⟨hA7.setRow _, (((hZ.drew.below hb4 hZ.lt).below hb5 (hZ.drew.below hb4 hZ.lt).lt)).setRowOther _ (by omega), below_setRow ((hbl.drew.trans (hb4.mono hbl.size)).trans (hb5.mono (Nat.le_trans hbl.size hb4.size))) (by omega) _⟩
    case rest =>
      clear hA4 hK3 hbl hZ c0 c1 c2 c3 c4 c5 c6 c7
      obtain ⟨hA4, hZ, hbl⟩ := hcut
      go_wp2_with (first
        | (refine wpList_load_row rfl 156 (.tmp 4) rfl g4 rfl 156 (shaSt B 0 0).cells (0, 0) _ hA4 Try.underlying156 rfl (s48 _) ?_)
        | (go_at_call 109; go_must (refine (fromWords_any (shaSt B 0 0) _).mono ?_; rintro e w6 ⟨C, rfl, hCs, hCw, hb6⟩; have hZ6 := hZ.below hb6 hZ.lt))
        | (refine wpList_store_arr rfl 24 (.tmp 2) (.tmp 29) rfl w.heap.size C rfl rfl 24 Z hZ6 (by rw [hCs]; exact size24) (by rw [hCs]; exact hZs) (one_ints hCs hCw) ?_))
      exact bodyPost_ret (v := .agg C) (results_cell_row Try.results95 _ _ w.heap.size 24 C (0, 0) _ rfl (hZ6.setRow C) Try.underlying24 rfl (by rw [hCs]; exact size24)) rfl ⟨C, rfl, hCs, hCw, below_setRow (hbl.trans (hb6.mono hbl.size)) (Nat.le_refl _) C⟩
set_option maxRecDepth 100000 in
set_option maxHeartbeats 2000000 in
theorem sum_ad (ad : Addr) (cap : Nat) (hc : 0 < cap) (B : Nat → Int) (w : World) :
    Calls Try.prog 95 #[.slice (some ad) 0 cap] w fun e w' => ∃ C : Array Value, e = .returned (.agg C) ∧ C.size = 32 ∧ (∀ t, t < 32 → C[t]? = some (.int .u8 (outB (shaSt B 0 0) t))) ∧ Below w.heap.size w w' := by
  have hS0 : ∀ (u : World) (q : Option Addr), Sl u q 0 B := fun _ _ h0 => absurd h0 (by omega)
  have E1 : shaSt B 0 0 = absorbN kOf (padB B 0 0 64) h0St 1 := by rw [shaSt_one (by omega), show (fun t => B (64 * 0 + t)) = B from funext fun t => by rw [Nat.mul_zero, Nat.zero_add]]; rfl
  have E1 := Hid.mk' E1
  have hcI : (0 : Int) < cap := by omega
  go_enter Try.func95, Try.ntmps95
  go_upto_region 4 with (first
    | (go_at_call 105; go_must (refine (roundNumbers_any _).mono ?_; rintro e w1 ⟨rfl, hb1⟩))
    | (refine wpList_store_new w1 _ 166 (by rfl) 166 (.tmp 3) (.tmp 6) (by rfl) kCells (by rfl) (by rfl) (Eq.trans size46 (by rfl)) (by rfl) (one_ints kCells_size kCells_get) ?_)
    | (go_at_call 106; go_must (refine (firstWords_any _).mono ?_; rintro e w2 ⟨rfl, hb2⟩))
    | (refine wpList_store_new w2 _ 156 (by rfl) 156 (.tmp 4) (.tmp 7) (by rfl) h0St.cells (by rfl) (by rfl) (s48 _) (by rfl) (St.one _) ?_))
  have hA4 : Arr (w2.alloc (.cells h0St.cells 156)) w2.heap.size 156 h0St.cells := Arr.new _ _ _
  have hK3 : Arr (w2.alloc (.cells h0St.cells 156)) w1.heap.size 166 kCells := ((Arr.new w1 166 kCells).below hb2 (by simp)).alloc _
  have hg34 : w.heap.size < w1.heap.size := by have := hb1.size; simp at this; omega
  have hg45 : w1.heap.size < w2.heap.size := by have := hb2.size; simp at this; omega
  have hbl : Below w.heap.size w (w2.alloc (.cells h0St.cells 156)) :=
    ((((((Below.refl _ _).alloc (Nat.le_refl _) _).trans (hb1.mono (by simp))).alloc (by omega) _).trans (hb2.mono (by simp; omega))).alloc (by omega) _)
  have hR : ∃ Z : Array Value, Z.size = 32 ∧ Arr (w2.alloc (.cells h0St.cells 156)) w.heap.size 24 Z :=
    ⟨_, by rfl, ((((Arr.new w 24 _).below hb1 (by simp)).alloc _).below hb2 (by simp; omega)).alloc _⟩
  obtain ⟨Z, hZs, hZ⟩ := hR
  clear hb1 hb2
  generalize w2.alloc (.cells h0St.cells 156) = W at *
  generalize w2.heap.size = g4 at *
  generalize w1.heap.size = g3 at *
  go_cut [] from 6 (fun wc => Arr wc g4 156 h0St.cells ∧ Arr wc g3 166 kCells ∧ Arr wc w.heap.size 24 Z ∧ Below w.heap.size w wc)
  case first =>
    obtain ⟨c0, c1, c2, c3, c4, c5, c6, c7⟩ := hA4.cells8
    go_region_with (first
      | (go_at_call 107; go_must (refine (absorb_zero h0St _ _ g3 _).mono ?_; rintro e w3 ⟨rfl, hb3⟩; have hA5 := hA4.drew.below hb3 hA4.lt; have hst := hA5.store8 h0St)))
    all_goals
      go_wp2_with fail
      go_meet
      exact ⟨hA5.setRow _, (hK3.drew.below hb3 hK3.lt).setRowOther _ (by omega), (hZ.drew.below hb3 hZ.lt).setRowOther _ (by omega), below_setRow (hbl.drew.trans (hb3.mono hbl.size)) (by omega) _⟩
  case rest =>
    clear hA4 hK3 hbl hZ
    obtain ⟨hA4, hK3, hZ, hbl⟩ := hcut
    go_upto_region 5 with fail
    obtain ⟨c0, c1, c2, c3, c4, c5, c6, c7⟩ := hA4.cells8
    go_cut [] from 6 (fun wc => Arr wc g4 156 (shaSt B 0 0).cells ∧ Arr wc w.heap.size 24 Z ∧ Below w.heap.size w wc)
    case first =>
      go_region_with (first
        | (go_at_call 108; go_must (refine (lastBlocks_any _ 0 _ 64 0 B wc.drew (hS0 _ _) (Or.inr ⟨by omega, rfl⟩) (by omega) (by omega) (by omega)).mono ?_; rintro e w4 ⟨C, rfl, hC, hCs, hCw, hb4⟩; have hA6 := hA4.drew.below hb4 hA4.lt; have hK6 := (hK3.drew.below hb4 hK3.lt).row kCells_get; have hg3 := (hK3.drew.below hb4 hK3.lt).lt; have hBy : Bytes w4 wc.heap.size 0 (64 * 1) (padB B 0 0 64) := (fun t ht => by rw [Nat.zero_add]; exact (hC.cell t).trans (hCw t ht)); obtain ⟨c0, c1, c2, c3, c4, c5, c6, c7⟩ := hA6.cells8; clear hCw))
        | (go_at_call 107; go_must (refine (absorb_any h0St wc.heap.size 0 64 1 g3 kOf _ w4 hBy (by omega) (by omega) hg3 hK6).mono ?_; rintro e w5 ⟨rfl, hb5⟩; have hA7 := hA6.below hb5 hA6.lt; have hst := hA7.store8 (absorbN kOf (padB B 0 0 64) h0St 1))))
      all_goals
        go_wp2_with fail
        go_meet
        rw [E1.out]
        exact ⟨hA7.setRow _, (((hZ.drew.below hb4 hZ.lt).below hb5 (hZ.drew.below hb4 hZ.lt).lt)).setRowOther _ (by omega), below_setRow ((hbl.drew.trans (hb4.mono hbl.size)).trans (hb5.mono (Nat.le_trans hbl.size hb4.size))) (by omega) _⟩
    case rest =>
      clear hA4 hK3 hbl hZ c0 c1 c2 c3 c4 c5 c6 c7
      obtain ⟨hA4, hZ, hbl⟩ := hcut
      go_wp2_with (first
        | (refine wpList_load_row rfl 156 (.tmp 4) rfl g4 rfl 156 (shaSt B 0 0).cells (0, 0) _ hA4 Try.underlying156 rfl (s48 _) ?_)
        | (go_at_call 109; go_must (refine (fromWords_any (shaSt B 0 0) _).mono ?_; rintro e w6 ⟨C, rfl, hCs, hCw, hb6⟩; have hZ6 := hZ.below hb6 hZ.lt))
        | (refine wpList_store_arr rfl 24 (.tmp 2) (.tmp 29) rfl w.heap.size C rfl rfl 24 Z hZ6 (by rw [hCs]; exact size24) (by rw [hCs]; exact hZs) (one_ints hCs hCw) ?_))
      exact bodyPost_ret (v := .agg C) (results_cell_row Try.results95 _ _ w.heap.size 24 C (0, 0) _ rfl (hZ6.setRow C) Try.underlying24 rfl (by rw [hCs]; exact size24)) rfl ⟨C, rfl, hCs, hCw, below_setRow (hbl.trans (hb6.mono hbl.size)) (Nat.le_refl _) C⟩
end Go.Proofs.Ytbhhbkoikocjgaa
/- Layer spec: what the layers below give. -/
namespace Go.Proofs.Ytbhhbkoikocjgaa
open Go.RowKit
set_option maxRecDepth 100000
set_option linter.unusedVariables false
set_option linter.unusedSimpArgs false

/-- Sum of whatever slice. -/
theorem sum_sl (sp : Option Addr) (n cap : Nat) (L : List Int) (w : World) (hn : n = L.length) (hnil : sp = none → n = 0 ∧ cap = 0) (hS : SlL w sp L) (hcap : n ≤ cap) (hb : n ≤ 140737488355328) :
    Calls Try.prog 95 #[.slice sp n cap] w fun e w' => e = .returned (.agg (sha L)) ∧ Below w.heap.size w w' := by
  by_cases h0 : 0 < L.length
  · obtain ⟨b, off, rfl, hB⟩ := hS h0
    subst hn
    exact sum_list b off cap L w hB hcap hb
  · obtain rfl : L = [] := List.eq_nil_of_length_eq_zero (by omega)
    simp only [List.length_nil] at hn
    subst hn
    have key : ∀ (e : Ending) (w' : World), (∃ C : Array Value, e = .returned (.agg C) ∧ C.size = 32 ∧ (∀ t, t < 32 → C[t]? = some (.int .u8 (outB (shaSt (bat []) 0 0) t))) ∧ Below w.heap.size w w') → e = .returned (.agg (sha [])) ∧ Below w.heap.size w w' := by
      rintro e w' ⟨C, rfl, hs, hC, hb⟩
      exact ⟨by rw [arr_eq hs hC]; rfl, hb⟩
    cases sp with
    | none =>
      obtain ⟨-, rfl⟩ := hnil rfl
      exact (sum_none (bat []) w).mono fun e w' h => key e w' h
    | some ad =>
      by_cases hc : 0 < cap
      · exact (sum_ad ad cap hc (bat []) w).mono fun e w' h => key e w' h
      · obtain rfl : cap = 0 := by omega
        exact (sum_ad0 ad (bat []) w).mono fun e w' h => key e w' h
theorem Bytes.take {w : World} {b off : Nat} {L M : List Int} (h : Bytes w b off (L ++ M).length (bat (L ++ M))) : Bytes w b off L.length (bat L) := fun t ht => by
  rw [h t (by simp; omega)]; simp [bat, List.getElem?_append_left ht]
end Go.Proofs.Ytbhhbkoikocjgaa

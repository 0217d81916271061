/- Tk, Tl, Ma, Pa. -/
import Derived.Test.YtlebojbfcolkhaaA03
import Derived.Laws.AppendOwnNone
namespace Go.Proofs.Ytlebojbfcolkhaa
open Go.RowKit
set_option maxRecDepth 100000

/-- Bytes as cells. -/
def by8 (L : List Int) : List Value := L.map (Value.int .u8)
theorem by8_len (L : List Int) : (by8 L).length = L.length := by simp [by8]
theorem by8_app (L M : List Int) : by8 (L ++ M) = by8 L ++ by8 M := by simp [by8]
theorem by8_one (L : List Int) : ∀ v ∈ by8 L, v.oneCell' = true := by
  intro v hv; simp only [by8, List.mem_map] at hv; obtain ⟨t, -, rfl⟩ := hv; rfl
/-- Byte t. -/
def bat (L : List Int) (t : Nat) : Int := L.getD t 0
theorem by8_get {L : List Int} {t : Nat} (h : t < L.length) : (by8 L)[t]? = some (.int .u8 (bat L t)) := by
  simp [by8, bat, List.getElem?_eq_getElem h]
/-- The sum of bytes. -/
def sha (L : List Int) : Array Value := u8s 32 (shaB (bat L) L.length)
/-- What a slice of bytes reads. -/
def SlL (w : World) (sp : Option Addr) (L : List Int) : Prop := Sl w sp L.length (bat L)

theorem sum_list (b off cap : Nat) (L : List Int) (w : World) (hB : Bytes w b off L.length (bat L)) (hcap : L.length ≤ cap) (hn : L.length ≤ 140737488355328) :
    Calls Try.prog 79 #[.slice (some ⟨b, off, none⟩) L.length cap] w fun e w' => e = .returned (.agg (sha L)) ∧ Below w.heap.size w w' :=
  sum_any b off L.length cap (bat L) w hB hcap hn

theorem Arr.sl {w : World} {g ty : Nat} {L : List Int} (h : Arr w g ty (by8 L).toArray) : SlL w (some ⟨g, 0, none⟩) L := fun _ => ⟨g, 0, rfl, fun t ht => by
  rw [Nat.zero_add, h.cell]; simpa using by8_get ht⟩

theorem own_ge {w : World} {base e s n : Nat} {v : Value} {xs : List Value} (h : w.ownsRow base e s v n xs) : ∀ k, v.ownBlock = some k → base ≤ k := by
  intro k hk
  obtain ⟨-, h | ⟨g, cap, cur, rfl, hg, -⟩⟩ := h
  · obtain ⟨rfl, -⟩ := h; simp [Value.ownBlock] at hk
  · simp [Value.ownBlock] at hk; omega

/-- What an own slice that is not empty looks like. -/
theorem own_slice {w : World} {base n : Nat} {v : Value} {L : List Int} (h : w.ownsRow base 5 1 v n (by8 L)) (h0 : 0 < n) :
    ∃ g cap, v = .slice (some ⟨g, 0, none⟩) n cap ∧ Hid (n = L.length) ∧ n ≤ cap ∧ base ≤ g ∧ Bytes w g 0 L.length (bat L) ∧ (∃ cur : Array Value, Arr w g 5 cur ∧ cur.size = cap) := by
  obtain ⟨hl, h | ⟨g, cap, cur, rfl, hg, hh, hn, -, hc, ht⟩⟩ := h
  · omega
  · rw [by8_len, Nat.mul_one] at hl
    subst hl
    refine ⟨g, cap, rfl, show _ = _ from rfl, hn, hg, fun t htl => ?_, cur, hh, by simpa using hc⟩
    rw [Nat.zero_add, cell_of_row w g t cur 5 (0, 0) hh, ← Array.getElem?_toList, ← List.getElem?_take_of_lt (show t < L.length * 1 by omega), ht, by8_get htl]
theorem sum_n (b off n cap : Nat) (L : List Int) (w : World) (hnL : Hid (n = L.length)) (hB : Bytes w b off L.length (bat L)) (hcap : n ≤ cap) (hn : n ≤ 140737488355328) :
    Calls Try.prog 79 #[.slice (some ⟨b, off, none⟩) n cap] w fun e w' => e = .returned (.agg (sha L)) ∧ Below w.heap.size w w' := by
  have h := hnL.out
  subst h
  exact sum_list b off cap L w hB hcap hn

theorem maxLen_ge : 140737488355328 ≤ maxLen := by unfold maxLen; omega

/-- append of bytes onto a slice of the call's own: the operation. -/
theorem wp_append_bytes {o : Oper} {a : Act} {w : World} {K : Act → World → Prop} {Q : Exit → Act → World → Prop} (s x : Operand)
    (ho : o.op = .call { callee := .builtin .append, args := #[s, x], argTypes := #[59, 59] })
    (base : Nat) (v : Value) (n : Nat) (L : List Int) (hs : a.eval s = v) (hown : w.ownsRow base 5 1 v n (by8 L))
    (sp : Option Addr) (m c : Nat) (M : List Int) (hx : a.eval x = .slice sp m c) (hm : m = M.length) (hnil : sp = none → m = 0 ∧ c = 0) (hS : SlL w sp M) (hb : n + m ≤ 140737488355328) (hbase : base ≤ w.heap.size)
    (h : ∀ v' w', w'.ownsRow base 5 1 v' (n + m) (by8 (L ++ M)) → w.grownBy w' v.ownBlock → K (a.put o.dst v') w') : o.wp Try.prog a w K Q := by
  obtain ⟨i0, hi, hz0, hz1, hz2⟩ := info_parts info5
  subst hm
  cases sp with
  | none =>
    obtain ⟨h1, rfl⟩ := hnil rfl
    obtain rfl : M = [] := List.eq_nil_of_length_eq_zero h1
    have hrun := run_append_owned_none (P := Try.prog) (w := w) base 59 o.type 5 i0 1 Try.underlying59 hi v n _ hown
    unfold Oper.wp
    simp only [List.length_nil] at hx
    simp [execOp, ho, resolve, invoke, builtin, hs, hx, hrun, Result.andThen]
    exact h v w (by simpa using hown) ⟨rfl, rfl, rfl, Nat.le_refl _, fun _ _ _ => rfl⟩
  | some ad =>
    refine wp_append_own w s x 59 ho base 5 i0 (.int .u8 0) 1 1 Try.underlying59 hi hz0 hz1 hz2 rfl (by omega) v n _ hs hown ad M.length c (by8 M) hx (by rw [by8_len]; omega) ?_ (by8_one M) (Nat.le_trans hb maxLen_ge) (by omega) hbase ?_
    · intro j u hj
      have hjl : j < M.length := by have := (List.getElem?_eq_some_iff.1 hj).1; rwa [by8_len] at this
      obtain ⟨b, off, e, hB⟩ := hS (by omega)
      obtain rfl := Option.some.inj e
      rw [by8_get hjl] at hj
      rw [Addr.add_mid, hB j hjl]; exact hj
    · intro v' w' h1 h2 _
      exact h v' w' (by rw [by8_app]; exact h1) h2

theorem wpList_want {P : Program} {ops : Array Oper} {rest : List Oper} {o : Oper} {a : Act} {w : World} {Q : Exit → Act → World → Prop} (hw : Region.wanted o (yielded ops a.tmps) = true)
    (h : ∀ K : Act → World → Prop, (∀ a w, wpList P ops Q rest a w → K a w) → o.wp P a w K Q) : wpList P ops Q (o :: rest) a w :=
  wpList_step fun K hK => by rw [if_pos hw]; exact h K hK
theorem step_want {P : Program} {ops : Array Oper} {o : Oper} {a : Act} {w : World} {K : Act → World → Prop} {Q : Exit → Act → World → Prop} {E : Prop} (hg : o.guard = none) (h : Oper.wp P o a w K Q) :
    if Region.wanted o (yielded ops a.tmps) = true then Oper.wp P o a w K Q else E := by
  rw [if_pos (by simp [Region.wanted, hg])]; exact h

/-- .. in a region's list, guarded or not. -/
theorem append_bytes {ops : Array Oper} {rest : List Oper} {o : Oper} {a : Act} {w : World} {Q : Exit → Act → World → Prop} (hgd : Region.wanted o (yielded ops a.tmps) = true) (s x : Operand)
    (ho : o.op = .call { callee := .builtin .append, args := #[s, x], argTypes := #[59, 59] })
    (base : Nat) (v : Value) (n : Nat) (L : List Int) (hs : a.eval s = v) (hown : w.ownsRow base 5 1 v n (by8 L))
    (sp : Option Addr) (m c : Nat) (M : List Int) (hx : a.eval x = .slice sp m c) (hm : m = M.length) (hnil : sp = none → m = 0 ∧ c = 0) (hS : SlL w sp M) (hb : n + m ≤ 140737488355328) (hbase : base ≤ w.heap.size)
    (h : ∀ v' w', w'.ownsRow base 5 1 v' (n + m) (by8 (L ++ M)) → w.grownBy w' v.ownBlock → wpList Try.prog ops Q rest (a.put o.dst v') w') : wpList Try.prog ops Q (o :: rest) a w :=
  wpList_want hgd fun _ hK => wp_append_bytes s x ho base v n L hs hown sp m c M hx hm hnil hS hb hbase fun v' w' h1 h2 => hK _ _ (h v' w' h1 h2)

/-- .. in a region that draws its order. -/
theorem step_append_bytes {ops : Array Oper} {o : Oper} {a : Act} {w : World} {K : Act → World → Prop} {Q : Exit → Act → World → Prop} {E : Prop} (hgd : o.guard = none) (s x : Operand)
    (ho : o.op = .call { callee := .builtin .append, args := #[s, x], argTypes := #[59, 59] })
    (base : Nat) (v : Value) (n : Nat) (L : List Int) (hs : a.eval s = v) (hown : w.ownsRow base 5 1 v n (by8 L))
    (sp : Option Addr) (m c : Nat) (M : List Int) (hx : a.eval x = .slice sp m c) (hm : m = M.length) (hnil : sp = none → m = 0 ∧ c = 0) (hS : SlL w sp M) (hb : n + m ≤ 140737488355328) (hbase : base ≤ w.heap.size)
    (h : ∀ v' w', w'.ownsRow base 5 1 v' (n + m) (by8 (L ++ M)) → w.grownBy w' v.ownBlock → K (a.put o.dst v') w') :
    if Region.wanted o (yielded ops a.tmps) = true then Oper.wp Try.prog o a w K Q else E :=
  step_want hgd (wp_append_bytes s x ho base v n L hs hown sp m c M hx hm hnil hS hb hbase h)

/-- A whole array out of its block, guarded or not. -/
theorem load_arr {ops : Array Oper} {rest : List Oper} {o : Oper} {a : Act} {w : World} {Q : Exit → Act → World → Prop} (hgd : Region.wanted o (yielded ops a.tmps) = true) (ty : TypeId) (x : Operand) (ho : o.op = .load ty x)
    (g : Nat) (hx : a.eval x = .pointer (some ⟨g, 0, none⟩)) (t : TypeId) (C : Array Value) (n e : Nat) (hg : Arr w g t C)
    (hu : Try.prog.underlying ty = some (.array n e)) (hi : (Try.prog.info? ty).map (·.size) = some C.size)
    (h : wpList Try.prog ops Q rest (a.put o.dst (.agg C)) w) : wpList Try.prog ops Q (o :: rest) a w :=
  wpList_want hgd fun _ hK => wp_load_row ty x ho g hx t C (0, 0) _ hg hu rfl hi (hK _ _ h)

theorem eq24 (f : Nat → Int) (w : World) : (Op.equalIn 10000 24 (.agg (u8s 32 f)) (.agg (u8s 32 f))).run Try.prog w = .ok true w := by
  obtain ⟨i0, hi, -⟩ := info_parts info5
  have hc : Try.prog.cellsOf 5 = 1 := by kernel_rfl
  rw [run_equalIn_array w 9999 _ _ Try.underlying24 hi, hc, eqItems_same w 9998 Try.underlying5 Try.isAgg5 _ f (List.range 32) (fun i h => u8s_get (by simpa using h))]

end Go.Proofs.Ytlebojbfcolkhaa
namespace Go.Proofs.Ytlebojbfcolkhaa
open Go.RowKit
set_option maxRecDepth 100000

theorem Sl.grown {w w' : World} {sp : Option Addr} {r : Nat} {B : Nat → Int} {row : Option Nat} (h : Sl w sp r B) (hg : w.grownBy w' row) (hr : ∀ b off, sp = some ⟨b, off, none⟩ → 0 < r → some b ≠ row) : Sl w' sp r B := fun h0 => by
  obtain ⟨b, off, rfl, hB⟩ := h h0
  refine ⟨b, off, rfl, fun t ht => ?_⟩
  rw [World.cell?_of_block (w := w) (a := ⟨b, off + t, none⟩) (hg.block b (block_lt_of_cell (hB t ht)) (hr b off rfl h0))]
  exact hB t ht
theorem Arr.grown {w w' : World} {g ty : Nat} {C : Array Value} {row : Option Nat} (h : Arr w g ty C) (hg : w.grownBy w' row) (hr : some g ≠ row) : Arr w' g ty C := by
  have := hg.block g h.lt hr
  unfold Arr at h ⊢; rw [this]; exact h
theorem Sl.lt {w : World} {b off r : Nat} {B : Nat → Int} (h : Sl w (some ⟨b, off, none⟩) r B) (h0 : 0 < r) : b < w.heap.size := by
  obtain ⟨b', off', e, hB⟩ := h h0
  cases e
  exact block_lt_of_cell (hB 0 h0)
theorem ne_own {w : World} {base e s n b : Nat} {v : Value} {xs : List Value} (h : w.ownsRow base e s v n xs) (hb : b < base) : some b ≠ v.ownBlock := fun h' => by
  have := own_ge h b h'.symm; omega
theorem sha_size (L : List Int) : (sha L).size = 32 := u8s_size _ _
theorem s24sha (L : List Int) : (Try.prog.info? 24).map (·.size) = some (sha L).size := by rw [sha_size]; exact size24
theorem sha_get (L : List Int) : ∀ t, t < 32 → (sha L)[t]? = some (.int .u8 (shaB (bat L) L.length t)) := fun _ h => u8s_get h
theorem sha_one (L : List Int) : (sha L).all (·.oneCell') = true := one_ints (sha_size L) (sha_get L)

theorem Arr.new3 (w : World) (o1 o2 : Obj) (ty : Nat) (C : Array Value) : Arr (((w.alloc o1).alloc o2).alloc (.cells C ty)) (w.heap.size + 2) ty C := by
  simpa using Arr.new ((w.alloc o1).alloc o2) ty C
/-- A sum by value. -/
def h8 (X : List Int) : Array Value := (by8 X).toArray
theorem h8_size (X : List Int) : (h8 X).size = X.length := by simp [h8, by8_len]

set_option maxRecDepth 100000 in
set_option maxHeartbeats 600000 in
theorem pair_any (X Y : List Int) (w : World) (hX : X.length = 32) (hY : Y.length = 32) :
    Calls Try.prog 69 #[.agg (h8 X), .agg (h8 Y)] w fun e w' => e = .returned (.agg (sha (1 :: (X ++ Y)))) ∧ Below w.heap.size w w' := by
  obtain ⟨i0, hi, hz0, hz1, hz2⟩ := info_parts info5
  have HX := Hid.mk' hX
  have HY := Hid.mk' hY
  clear hX hY
  go_enter Try.func69, Try.ntmps69
  go_wp2_with (first
    | (at_make; go_must (refine wpList_make_own _ (by rfl) (.const (.int .i64 0)) (.const (.int .i64 65)) 59 (by rfl) (w.heap.size + 3) 5 i0 (.int .u8 0) 1 Try.underlying59 hi hz0 hz1 .i64 .i64 _ 65 (by rfl) (by rfl) (by omega) (by rw [hz2]; omega) (Nat.le_trans (by omega) maxLen_ge) (by simp) ?_; intro w1 hown1 hg1; have hown1 : w1.ownsRow (w.heap.size + 3) 5 1 (.slice (some ⟨w.heap.size + 3, 0, none⟩) 0 65) 0 [] := (by simpa using hown1); have hs1 : w.heap.size + 3 ≤ w1.heap.size := (by have := hg1.size; simpa using this); have hX1 : Arr w1 w.heap.size 24 (h8 X) := (((Arr.new w 24 _).alloc _).alloc _).grown hg1 (by simp); have hY1 : Arr w1 (w.heap.size + 1) 24 (h8 Y) := ((show Arr ((w.alloc _).alloc _) (w.heap.size + 1) 24 (h8 Y) from (by simpa using Arr.new (w.alloc (.cells (h8 X) 24)) 24 (h8 Y))).alloc _).grown hg1 (by simp); have hZ1 : ∃ Z : Array Value, Z.size = 32 ∧ Arr w1 (w.heap.size + 2) 24 Z := ⟨_, by rfl, (Arr.new3 w _ _ 24 _).grown hg1 (by simp)⟩; have hB1 : Below w.heap.size w w1 := ((((Below.refl _ _).alloc (Nat.le_refl _) _).alloc (by simp) _).alloc (by simp; omega) _).grown hg1 (by simp; omega) (by simp)))
    | (at_builtin; refine append_bytes (by rfl) (.tmp 7) (.tmp 8) (by rfl) (w.heap.size + 3) _ 0 [] (by rfl) (hown1.alloc _) (some ⟨w1.heap.size, 0, none⟩) 1 1 [1] (by rfl) (by rfl) (fun h => by cases h) (Arr.sl (Arr.new w1 5 _)) (by omega) (by simp; omega) ?_; intro v2 w2 hown2 hg2; obtain ⟨Z, hZs, hZ1⟩ := hZ1; have hZ2 := (hZ1.alloc _).grown hg2 (ne_own hown1 (by omega)); have hX2 := (hX1.alloc _).grown hg2 (ne_own hown1 (by omega)); have hY2 := (hY1.alloc _).grown hg2 (ne_own hown1 (by omega)); have hB2 := (hB1.alloc (by omega) _).grown hg2 (by simp; omega) (fun k e => by have := own_ge hown1 k e; omega); have hs2 : w.heap.size + 3 ≤ w2.heap.size := (by have := hg2.size; simp at this; omega))
    | (at_builtin; refine append_bytes (by rfl) (.tmp 10) (.tmp 11) (by rfl) (w.heap.size + 3) _ 1 [1] (by rfl) hown2 (some ⟨w.heap.size, 0, none⟩) 32 32 X (by rfl) HX.out.symm (fun h => by cases h) (Arr.sl hX2) (by omega) hs2 ?_; intro v3 w3 hown3 hg3; have hZ3 := hZ2.grown hg3 (ne_own hown2 (by omega)); have hY3 := hY2.grown hg3 (ne_own hown2 (by omega)); have hB3 := hB2.grown hg3 (by omega) (fun k e => by have := own_ge hown2 k e; omega); have hs3 : w.heap.size + 3 ≤ w3.heap.size := Nat.le_trans hs2 hg3.size)
    | (at_builtin; refine append_bytes (by rfl) (.tmp 13) (.tmp 14) (by rfl) (w.heap.size + 3) _ 33 ([1] ++ X) (by rfl) hown3 (some ⟨w.heap.size + 1, 0, none⟩) 32 32 Y (by rfl) HY.out.symm (fun h => by cases h) (Arr.sl hY3) (by omega) hs3 ?_; intro v4 w4 hown4 hg4; have hZ4 := hZ3.grown hg4 (ne_own hown3 (by omega)); have hB4 := hB3.grown hg4 (by omega) (fun k e => by have := own_ge hown3 k e; omega); obtain ⟨g, cap4, rfl, hn4, hcap4, hg, hBy, -⟩ := own_slice hown4 (by omega))
    | (go_at_call 79; go_must (refine (sum_n g 0 65 cap4 ([1] ++ X ++ Y) _ hn4 hBy hcap4 (by omega)).mono ?_; rintro e w5 ⟨rfl, hb5⟩; have hZ5 := hZ4.below hb5 hZ4.lt))
    | (refine wpList_store_arr (by rfl) 24 (.tmp 4) (.tmp 16) (by rfl) (w.heap.size + 2) (sha ([1] ++ X ++ Y)) (by rfl) (by rfl) 24 Z hZ5 (s24sha _) (by rw [hZs, sha_size]) (sha_one _) ?_))
  exact bodyPost_ret (v := .agg (sha (1 :: (X ++ Y)))) (results_cell_row Try.results69 _ _ (w.heap.size + 2) 24 _ (0, 0) _ rfl (hZ5.setRow _) Try.underlying24 rfl (s24sha _)) rfl ⟨rfl, below_setRow (hB4.trans (hb5.mono hB4.size)) (by omega) _⟩

end Go.Proofs.Ytlebojbfcolkhaa
/- Layer merkle: trees over sums, and the proofs of their leaves. Pure. -/
namespace Go.Proofs.Ytlebojbfcolkhaa
open Go.RowKit
set_option maxRecDepth 100000
set_option linter.unusedVariables false
set_option linter.unusedSimpArgs false

/-- A sum, as bytes. -/
def shl (L : List Int) : List Int := (List.range 32).map (shaB (bat L) L.length)
theorem shl_len (L : List Int) : (shl L).length = 32 := by simp [shl]
theorem sha_h8 (L : List Int) : sha L = h8 (shl L) := by
  simp only [sha, u8s, arr, h8, by8, shl, List.map_map]
  congr 1
/-- The sum of a pair. -/
def pr (x y : List Int) : List Int := shl (1 :: (x ++ y))
theorem pr_len (x y : List Int) : (pr x y).length = 32 := shl_len _
/-- The zero sum. -/
def Z32 : List Int := List.replicate 32 0
theorem Z32_len : Z32.length = 32 := by simp [Z32]
/-- The root of a tree: only its first 2^d leaves count; those that are not given are noughts. -/
def tr : Nat → List (List Int) → List Int
  | 0, l => l.headD Z32
  | d + 1, l => pr (tr d (l.take (2 ^ d))) (tr d (l.drop (2 ^ d)))
theorem tr_len (d : Nat) : ∀ l : List (List Int), (∀ x ∈ l, x.length = 32) → (tr d l).length = 32 := by
  cases d with
  | zero =>
    intro l h
    cases l with
    | nil => exact Z32_len
    | cons a r => exact h a (by simp)
  | succ d => intro l h; exact pr_len _ _
theorem tr_take (d : Nat) : ∀ l : List (List Int), tr d (l.take (2 ^ d)) = tr d l := by
  induction d with
  | zero => intro l; cases l <;> simp [tr]
  | succ d ih =>
    intro l
    have h2 : 2 ^ (d + 1) = 2 ^ d + 2 ^ d := by rw [Nat.pow_succ]; omega
    have hp : 0 < 2 ^ d := Nat.pow_pos (by omega)
    simp only [tr]
    rw [List.take_take, Nat.min_eq_left (by omega)]
    congr 1
    rw [List.drop_take, show 2 ^ (d + 1) - 2 ^ d = 2 ^ d by omega]
    exact ih _
theorem tr_succ (d : Nat) (l : List (List Int)) : tr (d + 1) l = pr (tr d l) (tr d (l.drop (2 ^ d))) := by
  rw [tr, tr_take]
theorem tr_nil (d : Nat) : tr (d + 1) [] = pr (tr d []) (tr d []) := by rw [tr_succ]; simp
/-- Two halves side by side. -/
theorem tr_two (d q : Nat) (l : List (List Int)) : pr (tr d (l.drop (2 * q * 2 ^ d))) (tr d (l.drop ((2 * q + 1) * 2 ^ d))) = tr (d + 1) (l.drop (q * 2 ^ (d + 1))) := by
  rw [tr_succ, List.drop_drop]
  have h1 : 2 * q * 2 ^ d = q * 2 ^ (d + 1) := by rw [Nat.pow_succ, Nat.mul_comm 2 q, Nat.mul_assoc, Nat.mul_comm 2]
  have h2 : (2 * q + 1) * 2 ^ d = q * 2 ^ (d + 1) + 2 ^ d := by rw [Nat.add_mul, h1, Nat.one_mul]
  rw [h1, h2]

/-- The array of halves that wait, of the first n leaves. -/
def Wt (l : List (List Int)) (n : Nat) (W : Nat → List Int) : Prop := ∀ k, (n / 2 ^ k) % 2 = 1 → W k = tr k (l.drop ((n / 2 ^ (k + 1)) * 2 ^ (k + 1)))
theorem div_succ (n k : Nat) : n / 2 ^ (k + 1) = n / 2 ^ k / 2 := by rw [Nat.pow_succ, Nat.div_div_eq_div_mul]
/-- A leaf on its way up: below k all were second halves. -/
theorem wt_up {l : List (List Int)} {n k : Nat} {W : Nat → List Int} {r : List Int} (hW : Wt l n W) (hb : (n / 2 ^ k) % 2 = 1) (hr : r = tr k (l.drop ((n / 2 ^ k) * 2 ^ k))) :
    pr (W k) r = tr (k + 1) (l.drop ((n / 2 ^ (k + 1)) * 2 ^ (k + 1))) := by
  rw [hW k hb, hr, ← tr_two, div_succ]
  have : n / 2 ^ k = 2 * (n / 2 ^ k / 2) + 1 := by omega
  congr 2
  · rw [Nat.pow_succ, Nat.mul_comm (2 ^ k) 2, ← Nat.mul_assoc, Nat.mul_comm (n / 2 ^ k / 2) 2]
  · rw [← this]
/-- .. and where it stays. -/
theorem wt_stay {l : List (List Int)} {n k : Nat} {W : Nat → List Int} {r : List Int} (hW : Wt l n W) (hb : (n / 2 ^ k) % 2 = 0) (hlow : n % 2 ^ k + 1 = 2 ^ k) (hr : r = tr k (l.drop ((n / 2 ^ k) * 2 ^ k))) :
    Wt l (n + 1) (fun j => if j = k then r else W j) := by
  have hn : n + 1 = 2 ^ k * (n / 2 ^ k + 1) := by
    have := Nat.div_add_mod n (2 ^ k)
    rw [Nat.mul_add]; omega
  have hpos : 0 < 2 ^ k := Nat.pow_pos (by omega)
  have hk : (n + 1) / 2 ^ k = n / 2 ^ k + 1 := by rw [hn, Nat.mul_div_cancel_left _ hpos]
  have habove : ∀ j, (n + 1) / 2 ^ (k + 1 + j) = n / 2 ^ (k + 1 + j) := by
    intro j
    have e : 2 ^ (k + 1 + j) = 2 ^ k * (2 * 2 ^ j) := by rw [Nat.pow_add, Nat.pow_succ, Nat.mul_assoc]
    rw [e, ← Nat.div_div_eq_div_mul, ← Nat.div_div_eq_div_mul, ← Nat.div_div_eq_div_mul, ← Nat.div_div_eq_div_mul, hk]
    congr 1; omega
  intro j hj
  by_cases hjk : j = k
  · subst hjk
    show (if j = j then r else W j) = _
    rw [if_pos rfl, hr, habove 0, Nat.add_zero, div_succ]
    congr 2
    have h2 : n / 2 ^ j = 2 * (n / 2 ^ j / 2) := by omega
    rw [Nat.pow_succ, Nat.mul_comm (2 ^ j) 2, ← Nat.mul_assoc, Nat.mul_comm (n / 2 ^ j / 2) 2, ← h2]
  · show (if j = k then r else W j) = _
    rw [if_neg hjk]
    by_cases hlt : j < k
    · exfalso
      obtain ⟨m, rfl⟩ : ∃ m, k = j + 1 + m := ⟨k - j - 1, by omega⟩
      have e : n + 1 = 2 ^ j * (2 * (2 ^ m * (n / 2 ^ (j + 1 + m) + 1))) := by
        rw [show 2 ^ j * (2 * (2 ^ m * (n / 2 ^ (j + 1 + m) + 1))) = 2 ^ (j + 1 + m) * (n / 2 ^ (j + 1 + m) + 1) by rw [Nat.pow_add 2 (j + 1) m, Nat.pow_succ]; simp only [Nat.mul_assoc]]
        exact hn
      rw [e, Nat.mul_div_cancel_left _ (Nat.pow_pos (by omega))] at hj
      omega
    · obtain ⟨m, rfl⟩ : ∃ m, j = k + 1 + m := ⟨j - k - 1, by omega⟩
      rw [habove m] at hj
      rw [show k + 1 + m + 1 = k + 1 + (m + 1) by omega, habove (m + 1)]
      exact hW _ hj
/-- Going up from the first leaf that is not there. -/
theorem wt_fill1 {l : List (List Int)} {k : Nat} {W : Nat → List Int} {r : List Int} (hW : Wt l l.length W) (hb : (l.length / 2 ^ k) % 2 = 1) (hr : r = tr k (l.drop ((l.length / 2 ^ k) * 2 ^ k))) :
    pr (W k) r = tr (k + 1) (l.drop ((l.length / 2 ^ (k + 1)) * 2 ^ (k + 1))) := wt_up hW hb hr
theorem wt_fill0 {l : List (List Int)} {k : Nat} {r : List Int} (hb : (l.length / 2 ^ k) % 2 = 0) (hr : r = tr k (l.drop ((l.length / 2 ^ k) * 2 ^ k))) :
    pr r (tr k []) = tr (k + 1) (l.drop ((l.length / 2 ^ (k + 1)) * 2 ^ (k + 1))) := by
  have h2 : l.length / 2 ^ k = 2 * (l.length / 2 ^ k / 2) := by omega
  have hlt : l.length < (2 * (l.length / 2 ^ k / 2) + 1) * 2 ^ k := by
    rw [← h2]
    have := Nat.div_add_mod l.length (2 ^ k)
    have hm := Nat.mod_lt l.length (show 0 < 2 ^ k from Nat.pow_pos (by omega))
    rw [Nat.add_mul, Nat.mul_comm]; omega
  rw [hr, div_succ, ← tr_two, ← h2]
  congr 2
  rw [h2]
  exact (List.drop_eq_nil_of_le (by omega)).symm
theorem wt_zero (l : List (List Int)) (W : Nat → List Int) : Wt l 0 W := fun k hk => by simp at hk
theorem wt_all {l : List (List Int)} {d : Nat} {W : Nat → List Int} (hW : Wt l (2 ^ d) W) : W d = tr d l := by
  have hp : 0 < 2 ^ d := Nat.pow_pos (by omega)
  have := hW d (by rw [Nat.div_self hp])
  rw [this, Nat.div_eq_of_lt (by rw [Nat.pow_succ]; omega)]
  simp
theorem wt_end {l : List (List Int)} {d : Nat} {r : List Int} (h : l.length < 2 ^ d) (hr : r = tr d (l.drop ((l.length / 2 ^ d) * 2 ^ d))) : r = tr d l := by
  rw [hr, Nat.div_eq_of_lt h]; simp
theorem fill_start (l : List (List Int)) : Z32 = tr 0 (l.drop ((l.length / 2 ^ 0) * 2 ^ 0)) := by simp [tr]
theorem put_start {l : List (List Int)} {n : Nat} {x : List Int} (h : l[n]? = some x) : x = tr 0 (l.drop ((n / 2 ^ 0) * 2 ^ 0)) := by
  have hn := (List.getElem?_eq_some_iff.1 h).1
  rw [List.drop_eq_getElem_cons (by simpa using hn)]
  have := (List.getElem?_eq_some_iff.1 h).2
  simp [tr, this]

/-- The other half's number. -/
def sib (j : Nat) : Nat := if j % 2 = 0 then j + 1 else j - 1
/-- A proof: from the leaf up. -/
def pf (d : Nat) (l : List (List Int)) (i : Nat) : List (List Int) := (List.range d).map fun k => tr k (l.drop (sib (i / 2 ^ k) * 2 ^ k))
theorem pf_len (d : Nat) (l : List (List Int)) (i : Nat) : (pf d l i).length = d := by simp [pf]
theorem pf_succ (d : Nat) (l : List (List Int)) (i : Nat) : pf (d + 1) l i = pf d l i ++ [tr d (l.drop (sib (i / 2 ^ d) * 2 ^ d))] := by simp [pf, List.range_succ]
/-- What a proof folds to. -/
def fo : Nat → List Int → List (List Int) → List Int
  | _, x, [] => x
  | i, x, p :: ps => fo (i / 2) (if i % 2 = 0 then pr x p else pr p x) ps
theorem fo_app (i : Nat) (x : List Int) (ps : List (List Int)) (q : List Int) : fo i x (ps ++ [q]) = if (i / 2 ^ ps.length) % 2 = 0 then pr (fo i x ps) q else pr q (fo i x ps) := by
  induction ps generalizing i x with
  | nil => simp [fo]
  | cons p ps ih =>
    simp only [List.cons_append, fo, List.length_cons]
    rw [ih, Nat.div_div_eq_div_mul, Nat.mul_comm 2, ← Nat.pow_succ]
theorem fo_len {i : Nat} {x : List Int} {ps : List (List Int)} (hx : x.length = 32) : (fo i x ps).length = 32 := by
  induction ps generalizing i x with
  | nil => exact hx
  | cons p ps ih =>
    simp only [fo]
    apply ih
    split <;> exact pr_len _ _
/-- Only the low bits of the place count. -/
theorem fo_low {i i' : Nat} {x : List Int} {ps : List (List Int)} (h : i % 2 ^ ps.length = i' % 2 ^ ps.length) : fo i x ps = fo i' x ps := by
  induction ps generalizing i i' x with
  | nil => rfl
  | cons p ps ih =>
    simp only [fo]
    rw [List.length_cons, Nat.pow_succ, Nat.mul_comm] at h
    have h2 : i % 2 = i' % 2 := by
      have := congrArg (· % 2) h
      simpa [Nat.mod_mul_right_mod] using this
    have h3 : i / 2 % 2 ^ ps.length = i' / 2 % 2 ^ ps.length := by
      have a := Nat.mod_mul_right_div_self i 2 (2 ^ ps.length)
      have b := Nat.mod_mul_right_div_self i' 2 (2 ^ ps.length)
      rw [← a, ← b, h]
    rw [h2, ih h3]
/-- In the second half the proof is that of the second half. -/
theorem pf_second {d i : Nat} (l : List (List Int)) (h1 : 2 ^ d ≤ i) (h2 : i < 2 ^ (d + 1)) : pf d l i = pf d (l.drop (2 ^ d)) (i - 2 ^ d) := by
  unfold pf
  apply List.map_congr_left
  intro k hk
  have hk : k < d := by simpa using hk
  rw [List.drop_drop]
  obtain ⟨m, rfl⟩ : ∃ m, d = k + 1 + m := ⟨d - k - 1, by omega⟩
  have hp : 0 < 2 ^ k := Nat.pow_pos (by omega)
  have e : 2 ^ (k + 1 + m) = 2 ^ k * (2 * 2 ^ m) := by rw [Nat.pow_add, Nat.pow_succ, Nat.mul_assoc]
  have e2 : i / 2 ^ k = (i - 2 ^ (k + 1 + m)) / 2 ^ k + 2 * 2 ^ m := by
    have : i = (i - 2 ^ (k + 1 + m)) + 2 ^ k * (2 * 2 ^ m) := by rw [← e]; omega
    conv => lhs; rw [this]
    rw [Nat.add_mul_div_left _ _ hp]
  have e3 : sib (i / 2 ^ k) = sib ((i - 2 ^ (k + 1 + m)) / 2 ^ k) + 2 * 2 ^ m := by
    rw [e2]
    unfold sib
    generalize (i - 2 ^ (k + 1 + m)) / 2 ^ k = q
    generalize 2 ^ m = p
    have : (q + 2 * p) % 2 = q % 2 := by omega
    rw [this]
    split <;> omega
  congr 2
  rw [e3, Nat.add_mul, e, Nat.mul_comm (2 ^ k)]
  omega
/-- The proof of the place i, folded from whatever leaf: the root with that leaf in its place. -/
theorem fo_set (d : Nat) : ∀ (l : List (List Int)) (i : Nat) (v : List Int), i < 2 ^ d → i < l.length → fo i v (pf d l i) = tr d (l.set i v) := by
  induction d with
  | zero =>
    intro l i v h1 h2
    obtain rfl : i = 0 := by simpa using h1
    cases l with
    | nil => simp at h2
    | cons a r => simp [pf, fo, tr]
  | succ d ih =>
    intro l i v h1 h2
    rw [pf_succ, fo_app, pf_len, tr_succ]
    have hp : 0 < 2 ^ d := Nat.pow_pos (by omega)
    by_cases hlt : i < 2 ^ d
    · have h0 : i / 2 ^ d = 0 := Nat.div_eq_of_lt hlt
      rw [h0, if_pos (by rfl), ih l i v hlt h2]
      congr 2
      rw [List.drop_set_of_lt hlt]
      simp [sib]
    · have h3 : 2 ^ (d + 1) = 2 ^ d + 2 ^ d := by rw [Nat.pow_succ]; omega
      have hq : i / 2 ^ d = 1 := by
        rw [Nat.div_eq_iff hp]; omega
      rw [hq, if_neg (by decide), pf_second l (by omega) h1, fo_low (i' := i - 2 ^ d) (by
        rw [pf_len]
        conv => lhs; rw [show i = (i - 2 ^ d) + 2 ^ d by omega]
        rw [Nat.add_mod_right])]
      rw [ih (l.drop (2 ^ d)) (i - 2 ^ d) v (by omega) (by rw [List.length_drop]; omega)]
      congr 1
      · rw [show sib 1 = 0 by rfl, Nat.zero_mul, List.drop_zero, ← tr_take d l, ← tr_take d (l.set i v), List.take_set_of_le (by omega)]
      · congr 1
        rw [List.drop_set, if_neg (by omega)]
/-- Noughts at the end are as good as nothing. -/
theorem tr_pad (d : Nat) : ∀ (l : List (List Int)) (m : Nat), tr d (l ++ List.replicate m Z32) = tr d l := by
  induction d with
  | zero =>
    intro l m
    cases l with
    | nil => cases m <;> simp [tr, List.replicate_succ]
    | cons a r => simp [tr]
  | succ d ih =>
    intro l m
    rw [tr_succ, tr_succ, ih, List.drop_append, List.drop_replicate, ih]
theorem pf_pad (d : Nat) (l : List (List Int)) (m i : Nat) : pf d (l ++ List.replicate m Z32) i = pf d l i := by
  unfold pf
  apply List.map_congr_left
  intro k _
  rw [List.drop_append, List.drop_replicate, tr_pad]
end Go.Proofs.Ytlebojbfcolkhaa
/- Layer state: accounts, withdrawals, their bytes, their root, what is known. Pure. -/
namespace Go.Proofs.Ytlebojbfcolkhaa
open Go.RowKit
set_option linter.unusedVariables false
set_option linter.unusedSimpArgs false

/-- A number in eight bytes. -/
def e8 (n : Int) : List Int := (List.range 8).map fun j => n / 2 ^ (56 - 8 * j) % 256
theorem e8_len (n : Int) : (e8 n).length = 8 := by simp [e8]
/-- An account. -/
structure Ac where
  bal : Int
  non : Int
  lk : List Int
structure Ou where
  tw : Int
  am : Int
/-- Its bytes. -/
def acb (a : Ac) : List Int := e8 a.bal ++ e8 a.non ++ a.lk
def oub (o : Ou) : List Int := e8 o.tw ++ e8 o.am
/-- A leaf. -/
def lf (b : List Int) : List Int := shl (0 :: b)
def al (ps : List Ac) : List (List Int) := ps.map fun a => lf (acb a)
def ol (os : List Ou) : List (List Int) := os.map fun o => lf (oub o)
theorem lf_len (b : List Int) : (lf b).length = 32 := shl_len _
theorem al_len (ps : List Ac) : (al ps).length = ps.length := by simp [al]
theorem ol_len (os : List Ou) : (ol os).length = os.length := by simp [ol]
theorem al_32 (ps : List Ac) : ∀ x ∈ al ps, x.length = 32 := by
  intro x hx; simp only [al, List.mem_map] at hx; obtain ⟨a, -, rfl⟩ := hx; exact lf_len _
theorem ol_32 (os : List Ou) : ∀ x ∈ ol os, x.length = 32 := by
  intro x hx; simp only [ol, List.mem_map] at hx; obtain ⟨a, -, rfl⟩ := hx; exact lf_len _
/-- The sum that stands for a number. -/
def cnt (n : Int) : List Int := List.replicate 24 0 ++ e8 n
theorem cnt_len (n : Int) : (cnt n).length = 32 := by simp [cnt, e8_len]
/-- All balances together. -/
def tt : List Ac → Int → Option Int
  | [], t => some t
  | a :: r, t => if a.bal > 4611686018427387904 - t then none else tt r (t + a.bal)
/-- The root of both trees' roots and the number. -/
def jn (a o : List Int) (n : Int) : List Int := pr (pr a o) (cnt n)
theorem jn_len (a o : List Int) (n : Int) : (jn a o n).length = 32 := pr_len _ _
def may (ps : List Ac) (n : Nat) : Bool := (tt ps 0).isSome && decide (n ≤ 32)
/-- The bytes of the pairs of a level. -/
def lvl : List (List Int) → List (List Int)
  | x :: y :: r => (1 :: (x ++ y)) :: lvl r
  | _ => []
/-- .. of all levels. -/
def prs : Nat → List (List Int) → List (List Int)
  | 0, _ => []
  | d + 1, l => lvl l ++ prs d ((lvl l).map shl)
def pad (l : List (List Int)) : List (List Int) := l ++ List.replicate (32 - l.length) Z32
theorem pad_len {l : List (List Int)} (h : l.length ≤ 32) : (pad l).length = 32 := by simp [pad]; omega
theorem pad_32 {l : List (List Int)} (h : ∀ x ∈ l, x.length = 32) : ∀ x ∈ pad l, x.length = 32 := by
  intro x hx
  rcases List.mem_append.1 hx with h1 | h1
  · exact h x h1
  · rw [(List.mem_replicate.1 h1).2]; exact Z32_len
theorem pad_tr (d : Nat) (l : List (List Int)) : tr d (pad l) = tr d l := tr_pad d l _
theorem lvl_len : ∀ (k : Nat) (l : List (List Int)), l.length = 2 * k → (lvl l).length = k
  | 0, l, h => by
    have : l = [] := List.eq_nil_of_length_eq_zero (by omega)
    subst this; rfl
  | k + 1, x :: y :: r, h => by
    simp only [lvl, List.length_cons] at h ⊢
    rw [lvl_len k r (by omega)]
  | k + 1, [], h => by simp at h
  | k + 1, [x], h => by simp at h; omega
theorem lvl_get : ∀ (l : List (List Int)) (i : Nat) (x y : List Int), l[2 * i]? = some x → l[2 * i + 1]? = some y → (lvl l)[i]? = some (1 :: (x ++ y))
  | [], i, x, y, hx, hy => by simp at hx
  | [z], 0, x, y, hx, hy => by simp at hy
  | [z], i + 1, x, y, hx, hy => by simp at hx
  | a :: b :: r, 0, x, y, hx, hy => by
    simp at hx hy; subst hx; subst hy; simp [lvl]
  | a :: b :: r, i + 1, x, y, hx, hy => by
    have e1 : 2 * (i + 1) = 2 * i + 1 + 1 := by omega
    rw [e1] at hx hy
    simp only [lvl, List.getElem?_cons_succ] at hx hy ⊢
    exact lvl_get r i x y hx hy
theorem lvl_drop : ∀ (k : Nat) (l : List (List Int)), lvl (l.drop (2 * k)) = (lvl l).drop k
  | 0, l => by simp
  | k + 1, [] => by simp [lvl]
  | k + 1, [x] => by
    rw [List.drop_eq_nil_of_le (by simp; omega)]; simp [lvl]
  | k + 1, x :: y :: r => by
    rw [show 2 * (k + 1) = 2 * k + 1 + 1 by omega]
    simp only [List.drop_succ_cons, lvl]
    exact lvl_drop k r
/-- A level up. -/
theorem tr_lvl (d : Nat) : ∀ l : List (List Int), 2 ^ (d + 1) ≤ l.length → tr (d + 1) l = tr d ((lvl l).map shl) := by
  induction d with
  | zero =>
    intro l h
    match l, h with
    | x :: y :: r, _ => simp [tr, lvl, pr]
  | succ d ih =>
    intro l h
    have h2 : 2 ^ (d + 1 + 1) = 2 ^ (d + 1) + 2 ^ (d + 1) := by rw [Nat.pow_succ 2 (d + 1)]; omega
    rw [tr_succ (d + 1), ih l (by omega), ih (l.drop (2 ^ (d + 1))) (by rw [List.length_drop]; omega), tr_succ d]
    rw [← List.map_drop, ← lvl_drop, Nat.pow_succ, Nat.mul_comm 2]
theorem prs_len (d : Nat) : ∀ l : List (List Int), l.length = 2 ^ d → (prs d l).length + 1 = 2 ^ d := by
  induction d with
  | zero => intro l h; rfl
  | succ d ih =>
    intro l h
    have h1 := lvl_len (2 ^ d) l (by rw [h, Nat.pow_succ]; omega)
    have h2 := ih ((lvl l).map shl) (by simp [h1])
    simp only [prs, List.length_append, h1]
    rw [Nat.pow_succ]; omega
/-- All that is summed. -/
def knB (ps : List Ac) (os : List Ou) : List (List Int) :=
  ps.map (fun a => 0 :: acb a) ++ os.map (fun o => 0 :: oub o) ++ prs 5 (pad (al ps)) ++ prs 5 (pad (ol os)) ++
    [1 :: (tr 5 (al ps) ++ tr 5 (ol os)), 1 :: (pr (tr 5 (al ps)) (tr 5 (ol os)) ++ cnt os.length)]
theorem knB_len {ps : List Ac} {os : List Ou} (ha : ps.length = 32) (ho : os.length ≤ 32) : (knB ps os).length = 96 + os.length := by
  have h1 := prs_len 5 (pad (al ps)) (pad_len (by rw [al_len]; omega))
  have h2 := prs_len 5 (pad (ol os)) (pad_len (by rw [ol_len]; omega))
  simp only [knB, List.length_append, List.length_map, List.length_cons, List.length_nil]
  omega
/-- The root. -/
def rtS (ps : List Ac) (os : List Ou) : List Int := jn (tr 5 (al ps)) (tr 5 (ol os)) os.length
end Go.Proofs.Ytlebojbfcolkhaa

/- Tj, Tk, Tl, Ma, Tm, Mb, Mc, Mh, Ca. -/
import Derived.Test.YtagebcbnenehfaaGreatX05
import Derived.ChangeKeysEq
import Derived.Lib.SlBytesConst
import Derived.Laws.AppendOwnNone
import Derived.Deep.MidRow
import Derived.Laws.BitsLemmas
import Derived.LoopIn
import Derived.LoopNIn
import Derived.OwnWalkIn
import Derived.RangeFuncBound
import Derived.RangeFuncCalls
import Derived.RangeFuncLeaves
import Derived.RangeFuncNested
import Derived.RangeFuncRecord
import Derived.Shelf.Abstract
import Derived.Shelf.RegionOpen
import Derived.TacticsInMore
namespace Go.Proofs.YtagebcbnenehfaaGreat
open Go.RowKit
set_option maxRecDepth 100000
set_option linter.unusedVariables false
set_option linter.unusedSimpArgs false
set_option maxHeartbeats 40000000
def shaB (B : Nat → Int) (n t : Nat) : Int := outB (shaSt B (n / 64) (n % 64)) t
theorem u8s_size (n : Nat) (f : Nat → Int) : (u8s n f).size = n := arr_size _ _
theorem u8s_get {n : Nat} {f : Nat → Int} {t : Nat} (h : t < n) : (u8s n f)[t]? = some (.int .u8 (f t)) := arr_get h
theorem sum_any (b off n cap : Nat) (B : Nat → Int) (w : World) (hB : Bytes w b off n B) (hcap : n ≤ cap) (hn : n ≤ 140737488355328) :
   Calls Tryz.prog 90 #[.slice (some ⟨b, off, none⟩) n cap] w fun e w' => e = .returned (.agg (u8s 32 (shaB B n))) ∧ Below w.heap.size w w' := by
 have e : 64 * (n / 64) + n % 64 = n := Nat.div_add_mod n 64
 have := sum_some b off (n / 64) (n % 64) cap B w (by rw [e]; exact hB) (Nat.mod_lt _ (by omega)) (by omega) (by omega)
 rw [e] at this
 refine this.mono ?_
 rintro e w' ⟨C, rfl, hs, hC, hb⟩
 exact ⟨by rw [arr_eq hs hC]; rfl, hb⟩
def by8 (L : List Int) : List Value := L.map (Value.int .u8)
theorem by8_len (L : List Int) : (by8 L).length = L.length := by simp [by8]
theorem by8_app (L M : List Int) : by8 (L ++ M) = by8 L ++ by8 M := by simp [by8]
theorem by8_one (L : List Int) : ∀ v ∈ by8 L, v.oneCell' = true := by
 intro v hv; simp only [by8, List.mem_map] at hv; obtain ⟨t, -, rfl⟩ := hv; rfl
def bat (L : List Int) (t : Nat) : Int := L.getD t 0
theorem by8_get {L : List Int} {t : Nat} (h : t < L.length) : (by8 L)[t]? = some (.int .u8 (bat L t)) := by
 simp [by8, bat, List.getElem?_eq_getElem h]
def sha (L : List Int) : Array Value := u8s 32 (shaB (bat L) L.length)
def SlL (w : World) (sp : Option Addr) (L : List Int) : Prop := Sl w sp L.length (bat L)
theorem sum_list (b off cap : Nat) (L : List Int) (w : World) (hB : Bytes w b off L.length (bat L)) (hcap : L.length ≤ cap) (hn : L.length ≤ 140737488355328) :
   Calls Tryz.prog 90 #[.slice (some ⟨b, off, none⟩) L.length cap] w fun e w' => e = .returned (.agg (sha L)) ∧ Below w.heap.size w w' :=
 sum_any b off L.length cap (bat L) w hB hcap hn
theorem Arr.sl {w : World} {g ty : Nat} {L : List Int} (h : Arr w g ty (by8 L).toArray) : SlL w (some ⟨g, 0, none⟩) L := fun _ => ⟨g, 0, rfl, fun t ht => by
 rw [Nat.zero_add, h.cell]; simpa using by8_get ht⟩
theorem own_ge {w : World} {base e s n : Nat} {v : Value} {xs : List Value} (h : w.ownsRow base e s v n xs) : ∀ k, v.ownBlock = some k → base ≤ k := by
 intro k hk
 obtain ⟨-, h | ⟨g, cap, cur, rfl, hg, -⟩⟩ := h
 · obtain ⟨rfl, -⟩ := h; simp [Value.ownBlock] at hk
 · simp [Value.ownBlock] at hk; omega
theorem own_slice {w : World} {base n : Nat} {v : Value} {L : List Int} (h : w.ownsRow base 5 1 v n (by8 L)) (h0 : 0 < n) :
   ∃ g cap, v = .slice (some ⟨g, 0, none⟩) n cap ∧ Hid (n = L.length) ∧ n ≤ cap ∧ base ≤ g ∧ Bytes w g 0 L.length (bat L) ∧ (∃ cur : Array Value, Arr w g 5 cur ∧ cur.size = cap) := by
 obtain ⟨hl, h | ⟨g, cap, cur, rfl, hg, hh, hn, -, hc, ht⟩⟩ := h
 · omega
 · rw [by8_len, Nat.mul_one] at hl
   subst hl
   refine ⟨g, cap, rfl, show _ = _ from rfl, hn, hg, fun t htl => ?_, cur, hh, by simpa using hc⟩
   rw [Nat.zero_add, cell_of_row w g t cur 5 (0, 0) hh, ← Array.getElem?_toList, ← List.getElem?_take_of_lt (show t < L.length * 1 by omega), ht, by8_get htl]
theorem sum_n (b off n cap : Nat) (L : List Int) (w : World) (hnL : Hid (n = L.length)) (hB : Bytes w b off L.length (bat L)) (hcap : n ≤ cap) (hn : n ≤ 140737488355328) :
   Calls Tryz.prog 90 #[.slice (some ⟨b, off, none⟩) n cap] w fun e w' => e = .returned (.agg (sha L)) ∧ Below w.heap.size w w' := by
 have h := hnL.out
 subst h
 exact sum_list b off cap L w hB hcap hn
theorem maxLen_ge : 140737488355328 ≤ maxLen := by unfold maxLen; omega
theorem wp_append_bytes {o : Oper} {a : Act} {w : World} {K : Act → World → Prop} {Q : Exit → Act → World → Prop} (s x : Operand)
   (ho : o.op = .call { callee := .builtin .append, args := #[s, x], argTypes := #[32, 32] })
   (base : Nat) (v : Value) (n : Nat) (L : List Int) (hs : a.eval s = v) (hown : w.ownsRow base 5 1 v n (by8 L))
   (sp : Option Addr) (m c : Nat) (M : List Int) (hx : a.eval x = .slice sp m c) (hm : m = M.length) (hnil : sp = none → m = 0 ∧ c = 0) (hS : SlL w sp M) (hb : n + m ≤ 140737488355328) (hbase : base ≤ w.heap.size)
   (h : ∀ v' w', w'.ownsRow base 5 1 v' (n + m) (by8 (L ++ M)) → w.grownBy w' v.ownBlock → K (a.put o.dst v') w') : o.wp Tryz.prog a w K Q := by
 obtain ⟨i0, hi, hz0, hz1, hz2⟩ := info_parts info5
 subst hm
 cases sp with
 | none =>
   obtain ⟨h1, rfl⟩ := hnil rfl
   obtain rfl : M = [] := List.eq_nil_of_length_eq_zero h1
   have hrun := run_append_owned_none (P := Tryz.prog) (w := w) base 32 o.type 5 i0 1 Tryz.underlying32 hi v n _ hown
   unfold Oper.wp
   simp only [List.length_nil] at hx
   simp [execOp, ho, resolve, invoke, builtin, hs, hx, hrun, Result.andThen]
   exact h v w (by simpa using hown) ⟨rfl, rfl, rfl, Nat.le_refl _, fun _ _ _ => rfl⟩
 | some ad =>
   refine wp_append_own w s x 32 ho base 5 i0 (.int .u8 0) 1 1 Tryz.underlying32 hi hz0 hz1 hz2 rfl (by omega) v n _ hs hown ad M.length c (by8 M) hx (by rw [by8_len]; omega) ?_ (by8_one M) (Nat.le_trans hb maxLen_ge) (by omega) hbase ?_
   · intro j u hj
     have hjl : j < M.length := by have := (List.getElem?_eq_some_iff.1 hj).1; rwa [by8_len] at this
     obtain ⟨b, off, e, hB⟩ := hS (by omega)
     obtain rfl := Option.some.inj e
     rw [by8_get hjl] at hj
     rw [Addr.add_mid, hB j hjl]; exact hj
   · intro v' w' h1 h2 _
     exact h v' w' (by rw [by8_app]; exact h1) h2
theorem wpList_want {P : Program} {ops : Array Oper} {rest : List Oper} {o : Oper} {a : Act} {w : World} {Q : Exit → Act → World → Prop} (hw : Region.wanted o (yielded ops a.tmps) = true)
   (h : ∀ K : Act → World → Prop, (∀ a w, wpList P ops Q rest a w → K a w) → o.wp P a w K Q) : wpList P ops Q (o :: rest) a w :=
 wpList_step fun K hK => by rw [if_pos hw]; exact h K hK
theorem step_want {P : Program} {ops : Array Oper} {o : Oper} {a : Act} {w : World} {K : Act → World → Prop} {Q : Exit → Act → World → Prop} {E : Prop} (hg : o.guard = none) (h : Oper.wp P o a w K Q) :
   if Region.wanted o (yielded ops a.tmps) = true then Oper.wp P o a w K Q else E := by
 rw [if_pos (by simp [Region.wanted, hg])]; exact h
theorem append_bytes {ops : Array Oper} {rest : List Oper} {o : Oper} {a : Act} {w : World} {Q : Exit → Act → World → Prop} (hgd : Region.wanted o (yielded ops a.tmps) = true) (s x : Operand)
   (ho : o.op = .call { callee := .builtin .append, args := #[s, x], argTypes := #[32, 32] })
   (base : Nat) (v : Value) (n : Nat) (L : List Int) (hs : a.eval s = v) (hown : w.ownsRow base 5 1 v n (by8 L))
   (sp : Option Addr) (m c : Nat) (M : List Int) (hx : a.eval x = .slice sp m c) (hm : m = M.length) (hnil : sp = none → m = 0 ∧ c = 0) (hS : SlL w sp M) (hb : n + m ≤ 140737488355328) (hbase : base ≤ w.heap.size)
   (h : ∀ v' w', w'.ownsRow base 5 1 v' (n + m) (by8 (L ++ M)) → w.grownBy w' v.ownBlock → wpList Tryz.prog ops Q rest (a.put o.dst v') w') : wpList Tryz.prog ops Q (o :: rest) a w :=
 wpList_want hgd fun _ hK => wp_append_bytes s x ho base v n L hs hown sp m c M hx hm hnil hS hb hbase fun v' w' h1 h2 => hK _ _ (h v' w' h1 h2)
theorem step_append_bytes {ops : Array Oper} {o : Oper} {a : Act} {w : World} {K : Act → World → Prop} {Q : Exit → Act → World → Prop} {E : Prop} (hgd : o.guard = none) (s x : Operand)
   (ho : o.op = .call { callee := .builtin .append, args := #[s, x], argTypes := #[32, 32] })
   (base : Nat) (v : Value) (n : Nat) (L : List Int) (hs : a.eval s = v) (hown : w.ownsRow base 5 1 v n (by8 L))
   (sp : Option Addr) (m c : Nat) (M : List Int) (hx : a.eval x = .slice sp m c) (hm : m = M.length) (hnil : sp = none → m = 0 ∧ c = 0) (hS : SlL w sp M) (hb : n + m ≤ 140737488355328) (hbase : base ≤ w.heap.size)
   (h : ∀ v' w', w'.ownsRow base 5 1 v' (n + m) (by8 (L ++ M)) → w.grownBy w' v.ownBlock → K (a.put o.dst v') w') :
   if Region.wanted o (yielded ops a.tmps) = true then Oper.wp Tryz.prog o a w K Q else E :=
 step_want hgd (wp_append_bytes s x ho base v n L hs hown sp m c M hx hm hnil hS hb hbase h)
theorem Sl.grown {w w' : World} {sp : Option Addr} {r : Nat} {B : Nat → Int} {row : Option Nat} (h : Sl w sp r B) (hg : w.grownBy w' row) (hr : ∀ b off, sp = some ⟨b, off, none⟩ → 0 < r → some b ≠ row) : Sl w' sp r B := fun h0 => by
 obtain ⟨b, off, rfl, hB⟩ := h h0
 refine ⟨b, off, rfl, fun t ht => ?_⟩
 rw [World.cell?_of_block (w := w) (a := ⟨b, off + t, none⟩) (hg.block b (block_lt_of_cell (hB t ht)) (hr b off rfl h0))]
 exact hB t ht
theorem Arr.grown {w w' : World} {g ty : Nat} {C : Array Value} {row : Option Nat} (h : Arr w g ty C) (hg : w.grownBy w' row) (hr : some g ≠ row) : Arr w' g ty C := by
 have := hg.block g h.lt hr
 unfold Arr at h ⊢; rw [this]; exact h
theorem Sl.lt {w : World} {b off r : Nat} {B : Nat → Int} (h : Sl w (some ⟨b, off, none⟩) r B) (h0 : 0 < r) : b < w.heap.size := by
 obtain ⟨b', off', e, hB⟩ := h h0
 cases e
 exact block_lt_of_cell (hB 0 h0)
theorem ne_own {w : World} {base e s n b : Nat} {v : Value} {xs : List Value} (h : w.ownsRow base e s v n xs) (hb : b < base) : some b ≠ v.ownBlock := fun h' => by
 have := own_ge h b h'.symm; omega
theorem sha_size (L : List Int) : (sha L).size = 32 := u8s_size _ _
theorem s24sha (L : List Int) : (Tryz.prog.info? 30).map (·.size) = some (sha L).size := by rw [sha_size]; exact size24
theorem sha_get (L : List Int) : ∀ t, t < 32 → (sha L)[t]? = some (.int .u8 (shaB (bat L) L.length t)) := fun _ h => u8s_get h
theorem sha_one (L : List Int) : (sha L).all (·.oneCell') = true := one_ints (sha_size L) (sha_get L)
theorem Arr.new3 (w : World) (o1 o2 : Obj) (ty : Nat) (C : Array Value) : Arr (((w.alloc o1).alloc o2).alloc (.cells C ty)) (w.heap.size + 2) ty C := by
 simpa using Arr.new ((w.alloc o1).alloc o2) ty C
def h8 (X : List Int) : Array Value := (by8 X).toArray
theorem h8_size (X : List Int) : (h8 X).size = X.length := by simp [h8, by8_len]
set_option maxRecDepth 100000 in
theorem pair_any (X Y : List Int) (w : World) (hX : X.length = 32) (hY : Y.length = 32) :
   Calls Tryz.prog 168 #[.agg (h8 X), .agg (h8 Y)] w fun e w' => e = .returned (.agg (sha (1 :: (X ++ Y)))) ∧ Below w.heap.size w w' := by
 obtain ⟨i0, hi, hz0, hz1, hz2⟩ := info_parts info5
 have HX := Hid.mk' hX
 have HY := Hid.mk' hY
 clear hX hY
 go_enter Tryz.func168, Tryz.ntmps168
 go_wp2_with (first
   | (at_make; go_must (refine wpList_make_own _ (by rfl) (.const (.int .i64 0)) (.const (.int .i64 65)) 32 (by rfl) (w.heap.size + 3) 5 i0 (.int .u8 0) 1 Tryz.underlying32 hi hz0 hz1 .i64 .i64 _ 65 (by rfl) (by rfl) (by omega) (by rw [hz2]; omega) (Nat.le_trans (by omega) maxLen_ge) (by simp) ?_; intro w1 hown1 hg1; have hown1 : w1.ownsRow (w.heap.size + 3) 5 1 (.slice (some ⟨w.heap.size + 3, 0, none⟩) 0 65) 0 [] := (by simpa using hown1); have hs1 : w.heap.size + 3 ≤ w1.heap.size := (by have := hg1.size; simpa using this); have hX1 : Arr w1 w.heap.size 30 (h8 X) := (((Arr.new w 30 _).alloc _).alloc _).grown hg1 (by simp); have hY1 : Arr w1 (w.heap.size + 1) 30 (h8 Y) := ((show Arr ((w.alloc _).alloc _) (w.heap.size + 1) 30 (h8 Y) from (by simpa using Arr.new (w.alloc (.cells (h8 X) 30)) 30 (h8 Y))).alloc _).grown hg1 (by simp); have hZ1 : ∃ Z : Array Value, Z.size = 32 ∧ Arr w1 (w.heap.size + 2) 30 Z := ⟨_, by rfl, (Arr.new3 w _ _ 30 _).grown hg1 (by simp)⟩; have hB1 : Below w.heap.size w w1 := ((((Below.refl _ _).alloc (Nat.le_refl _) _).alloc (by simp) _).alloc (by simp; omega) _).grown hg1 (by simp; omega) (by simp)))
   | (at_builtin; refine append_bytes (by rfl) (.tmp 7) (.tmp 8) (by rfl) (w.heap.size + 3) _ 0 [] (by rfl) (hown1.alloc _) (some ⟨w1.heap.size, 0, none⟩) 1 1 [1] (by rfl) (by rfl) (fun h => by cases h) (Arr.sl (Arr.new w1 5 _)) (by omega) (by simp; omega) ?_; intro v2 w2 hown2 hg2; obtain ⟨Z, hZs, hZ1⟩ := hZ1; have hZ2 := (hZ1.alloc _).grown hg2 (ne_own hown1 (by omega)); have hX2 := (hX1.alloc _).grown hg2 (ne_own hown1 (by omega)); have hY2 := (hY1.alloc _).grown hg2 (ne_own hown1 (by omega)); have hB2 := (hB1.alloc (by omega) _).grown hg2 (by simp; omega) (fun k e => by have := own_ge hown1 k e; omega); have hs2 : w.heap.size + 3 ≤ w2.heap.size := (by have := hg2.size; simp at this; omega))
   | (at_builtin; refine append_bytes (by rfl) (.tmp 10) (.tmp 11) (by rfl) (w.heap.size + 3) _ 1 [1] (by rfl) hown2 (some ⟨w.heap.size, 0, none⟩) 32 32 X (by rfl) HX.out.symm (fun h => by cases h) (Arr.sl hX2) (by omega) hs2 ?_; intro v3 w3 hown3 hg3; have hZ3 := hZ2.grown hg3 (ne_own hown2 (by omega)); have hY3 := hY2.grown hg3 (ne_own hown2 (by omega)); have hB3 := hB2.grown hg3 (by omega) (fun k e => by have := own_ge hown2 k e; omega); have hs3 : w.heap.size + 3 ≤ w3.heap.size := Nat.le_trans hs2 hg3.size)
   | (at_builtin; refine append_bytes (by rfl) (.tmp 13) (.tmp 14) (by rfl) (w.heap.size + 3) _ 33 ([1] ++ X) (by rfl) hown3 (some ⟨w.heap.size + 1, 0, none⟩) 32 32 Y (by rfl) HY.out.symm (fun h => by cases h) (Arr.sl hY3) (by omega) hs3 ?_; intro v4 w4 hown4 hg4; have hZ4 := hZ3.grown hg4 (ne_own hown3 (by omega)); have hB4 := hB3.grown hg4 (by omega) (fun k e => by have := own_ge hown3 k e; omega); obtain ⟨g, cap4, rfl, hn4, hcap4, hg, hBy, -⟩ := own_slice hown4 (by omega))
   | (go_at_call 90; go_must (refine (sum_n g 0 65 cap4 ([1] ++ X ++ Y) _ hn4 hBy hcap4 (by omega)).mono ?_; rintro e w5 ⟨rfl, hb5⟩; have hZ5 := hZ4.below hb5 hZ4.lt))
   | (refine wpList_store_arr (by rfl) 30 (.tmp 4) (.tmp 16) (by rfl) (w.heap.size + 2) (sha ([1] ++ X ++ Y)) (by rfl) (by rfl) 30 Z hZ5 (s24sha _) (by rw [hZs, sha_size]) (sha_one _) ?_))
 exact bodyPost_ret (v := .agg (sha (1 :: (X ++ Y)))) (results_cell_row Tryz.results168 _ _ (w.heap.size + 2) 30 _ (0, 0) _ rfl (hZ5.setRow _) Tryz.underlying30 rfl (s24sha _)) rfl ⟨rfl, below_setRow (hB4.trans (hb5.mono hB4.size)) (by omega) _⟩
def shl (L : List Int) : List Int := (List.range 32).map (shaB (bat L) L.length)
theorem shl_len (L : List Int) : (shl L).length = 32 := by simp [shl]
theorem sha_h8 (L : List Int) : sha L = h8 (shl L) := by
 simp only [sha, u8s, arr, h8, by8, shl, List.map_map]
 congr 1
def pr (x y : List Int) : List Int := shl (1 :: (x ++ y))
theorem pr_len (x y : List Int) : (pr x y).length = 32 := shl_len _
def Z32 : List Int := List.replicate 32 0
theorem Z32_len : Z32.length = 32 := by simp [Z32]
def tr : Nat → List (List Int) → List Int
 | 0, l => l.headD Z32
 | d + 1, l => pr (tr d (l.take (2 ^ d))) (tr d (l.drop (2 ^ d)))
theorem tr_len (d : Nat) : ∀ l : List (List Int), (∀ x ∈ l, x.length = 32) → (tr d l).length = 32 := by
 cases d with
 | zero =>
   intro l h
   cases l with
   | nil => exact Z32_len
   | cons a r => exact h a (by simp)
 | succ d => intro l h; exact pr_len _ _
theorem tr_take (d : Nat) : ∀ l : List (List Int), tr d (l.take (2 ^ d)) = tr d l := by
 induction d with
 | zero => intro l; cases l <;> simp [tr]
 | succ d ih =>
   intro l
   have h2 : 2 ^ (d + 1) = 2 ^ d + 2 ^ d := by rw [Nat.pow_succ]; omega
   have hp : 0 < 2 ^ d := Nat.pow_pos (by omega)
   simp only [tr]
   rw [List.take_take, Nat.min_eq_left (by omega)]
   congr 1
   rw [List.drop_take, show 2 ^ (d + 1) - 2 ^ d = 2 ^ d by omega]
   exact ih _
theorem tr_succ (d : Nat) (l : List (List Int)) : tr (d + 1) l = pr (tr d l) (tr d (l.drop (2 ^ d))) := by
 rw [tr, tr_take]
theorem tr_nil (d : Nat) : tr (d + 1) [] = pr (tr d []) (tr d []) := by rw [tr_succ]; simp
theorem tr_two (d q : Nat) (l : List (List Int)) : pr (tr d (l.drop (2 * q * 2 ^ d))) (tr d (l.drop ((2 * q + 1) * 2 ^ d))) = tr (d + 1) (l.drop (q * 2 ^ (d + 1))) := by
 rw [tr_succ, List.drop_drop]
 have h1 : 2 * q * 2 ^ d = q * 2 ^ (d + 1) := by rw [Nat.pow_succ, Nat.mul_comm 2 q, Nat.mul_assoc, Nat.mul_comm 2]
 have h2 : (2 * q + 1) * 2 ^ d = q * 2 ^ (d + 1) + 2 ^ d := by rw [Nat.add_mul, h1, Nat.one_mul]
 rw [h1, h2]
def Wt (l : List (List Int)) (n : Nat) (W : Nat → List Int) : Prop := ∀ k, (n / 2 ^ k) % 2 = 1 → W k = tr k (l.drop ((n / 2 ^ (k + 1)) * 2 ^ (k + 1)))
theorem div_succ (n k : Nat) : n / 2 ^ (k + 1) = n / 2 ^ k / 2 := by rw [Nat.pow_succ, Nat.div_div_eq_div_mul]
theorem wt_up {l : List (List Int)} {n k : Nat} {W : Nat → List Int} {r : List Int} (hW : Wt l n W) (hb : (n / 2 ^ k) % 2 = 1) (hr : r = tr k (l.drop ((n / 2 ^ k) * 2 ^ k))) :
   pr (W k) r = tr (k + 1) (l.drop ((n / 2 ^ (k + 1)) * 2 ^ (k + 1))) := by
 rw [hW k hb, hr, ← tr_two, div_succ]
 have : n / 2 ^ k = 2 * (n / 2 ^ k / 2) + 1 := by omega
 congr 2
 · rw [Nat.pow_succ, Nat.mul_comm (2 ^ k) 2, ← Nat.mul_assoc, Nat.mul_comm (n / 2 ^ k / 2) 2]
 · rw [← this]
theorem wt_stay {l : List (List Int)} {n k : Nat} {W : Nat → List Int} {r : List Int} (hW : Wt l n W) (hb : (n / 2 ^ k) % 2 = 0) (hlow : n % 2 ^ k + 1 = 2 ^ k) (hr : r = tr k (l.drop ((n / 2 ^ k) * 2 ^ k))) :
   Wt l (n + 1) (fun j => if j = k then r else W j) := by
 have hn : n + 1 = 2 ^ k * (n / 2 ^ k + 1) := by
   have := Nat.div_add_mod n (2 ^ k)
   rw [Nat.mul_add]; omega
 have hpos : 0 < 2 ^ k := Nat.pow_pos (by omega)
 have hk : (n + 1) / 2 ^ k = n / 2 ^ k + 1 := by rw [hn, Nat.mul_div_cancel_left _ hpos]
 have habove : ∀ j, (n + 1) / 2 ^ (k + 1 + j) = n / 2 ^ (k + 1 + j) := by
   intro j
   have e : 2 ^ (k + 1 + j) = 2 ^ k * (2 * 2 ^ j) := by rw [Nat.pow_add, Nat.pow_succ, Nat.mul_assoc]
   rw [e, ← Nat.div_div_eq_div_mul, ← Nat.div_div_eq_div_mul, ← Nat.div_div_eq_div_mul, ← Nat.div_div_eq_div_mul, hk]
   congr 1; omega
 intro j hj
 by_cases hjk : j = k
 · subst hjk
   show (if j = j then r else W j) = _
   rw [if_pos rfl, hr, habove 0, Nat.add_zero, div_succ]
   congr 2
   have h2 : n / 2 ^ j = 2 * (n / 2 ^ j / 2) := by omega
   rw [Nat.pow_succ, Nat.mul_comm (2 ^ j) 2, ← Nat.mul_assoc, Nat.mul_comm (n / 2 ^ j / 2) 2, ← h2]
 · show (if j = k then r else W j) = _
   rw [if_neg hjk]
   by_cases hlt : j < k
   · exfalso
     obtain ⟨m, rfl⟩ : ∃ m, k = j + 1 + m := ⟨k - j - 1, by omega⟩
     have e : n + 1 = 2 ^ j * (2 * (2 ^ m * (n / 2 ^ (j + 1 + m) + 1))) := by
       rw [show 2 ^ j * (2 * (2 ^ m * (n / 2 ^ (j + 1 + m) + 1))) = 2 ^ (j + 1 + m) * (n / 2 ^ (j + 1 + m) + 1) by rw [Nat.pow_add 2 (j + 1) m, Nat.pow_succ]; simp only [Nat.mul_assoc]]
       exact hn
     rw [e, Nat.mul_div_cancel_left _ (Nat.pow_pos (by omega))] at hj
     omega
   · obtain ⟨m, rfl⟩ : ∃ m, j = k + 1 + m := ⟨j - k - 1, by omega⟩
     rw [habove m] at hj
     rw [show k + 1 + m + 1 = k + 1 + (m + 1) by omega, habove (m + 1)]
     exact hW _ hj
theorem wt_fill0 {l : List (List Int)} {k : Nat} {r : List Int} (hb : (l.length / 2 ^ k) % 2 = 0) (hr : r = tr k (l.drop ((l.length / 2 ^ k) * 2 ^ k))) :
   pr r (tr k []) = tr (k + 1) (l.drop ((l.length / 2 ^ (k + 1)) * 2 ^ (k + 1))) := by
 have h2 : l.length / 2 ^ k = 2 * (l.length / 2 ^ k / 2) := by omega
 have hlt : l.length < (2 * (l.length / 2 ^ k / 2) + 1) * 2 ^ k := by
   rw [← h2]
   have := Nat.div_add_mod l.length (2 ^ k)
   have hm := Nat.mod_lt l.length (show 0 < 2 ^ k from Nat.pow_pos (by omega))
   rw [Nat.add_mul, Nat.mul_comm]; omega
 rw [hr, div_succ, ← tr_two, ← h2]
 congr 2
 rw [h2]
 exact (List.drop_eq_nil_of_le (by omega)).symm
theorem wt_zero (l : List (List Int)) (W : Nat → List Int) : Wt l 0 W := fun k hk => by simp at hk
theorem wt_all {l : List (List Int)} {d : Nat} {W : Nat → List Int} (hW : Wt l (2 ^ d) W) : W d = tr d l := by
 have hp : 0 < 2 ^ d := Nat.pow_pos (by omega)
 have := hW d (by rw [Nat.div_self hp])
 rw [this, Nat.div_eq_of_lt (by rw [Nat.pow_succ]; omega)]
 simp
theorem wt_end {l : List (List Int)} {d : Nat} {r : List Int} (h : l.length < 2 ^ d) (hr : r = tr d (l.drop ((l.length / 2 ^ d) * 2 ^ d))) : r = tr d l := by
 rw [hr, Nat.div_eq_of_lt h]; simp
theorem fill_start (l : List (List Int)) : Z32 = tr 0 (l.drop ((l.length / 2 ^ 0) * 2 ^ 0)) := by simp [tr]
theorem put_start {l : List (List Int)} {n : Nat} {x : List Int} (h : l[n]? = some x) : x = tr 0 (l.drop ((n / 2 ^ 0) * 2 ^ 0)) := by
 have hn := (List.getElem?_eq_some_iff.1 h).1
 rw [List.drop_eq_getElem_cons (by simpa using hn)]
 have := (List.getElem?_eq_some_iff.1 h).2
 simp [tr, this]
def sib (j : Nat) : Nat := if j % 2 = 0 then j + 1 else j - 1
def pf (d : Nat) (l : List (List Int)) (i : Nat) : List (List Int) := (List.range d).map fun k => tr k (l.drop (sib (i / 2 ^ k) * 2 ^ k))
theorem pf_len (d : Nat) (l : List (List Int)) (i : Nat) : (pf d l i).length = d := by simp [pf]
theorem pf_succ (d : Nat) (l : List (List Int)) (i : Nat) : pf (d + 1) l i = pf d l i ++ [tr d (l.drop (sib (i / 2 ^ d) * 2 ^ d))] := by simp [pf, List.range_succ]
def fo : Nat → List Int → List (List Int) → List Int
 | _, x, [] => x
 | i, x, p :: ps => fo (i / 2) (if i % 2 = 0 then pr x p else pr p x) ps
theorem fo_len {i : Nat} {x : List Int} {ps : List (List Int)} (hx : x.length = 32) : (fo i x ps).length = 32 := by
 induction ps generalizing i x with
 | nil => exact hx
 | cons p ps ih =>
   simp only [fo]
   apply ih
   split <;> exact pr_len _ _
theorem Bytes.below {w w' : World} {b off n : Nat} {B : Nat → Int} (h : Bytes w b off n B) (hb : Below w.heap.size w w') : Bytes w' b off n B := fun t ht => by
 rw [hb.cell (p := ⟨b, off + t, none⟩) (block_lt_of_cell (h t ht))]; exact h t ht
theorem Arr.bel {w w' : World} {g ty : Nat} {C : Array Value} (h : Arr w g ty C) (hb : Below w.heap.size w w') : Arr w' g ty C := h.below hb h.lt
theorem s24h8 {X : List Int} (h : X.length = 32) : (Tryz.prog.info? 30).map (·.size) = some (h8 X).size := by rw [h8_size, h]; exact size24
theorem alloc_bel' (w : World) (o : Obj) : Below w.heap.size w (w.alloc o) := (Below.refl _ _).alloc (Nat.le_refl _) o
theorem h8_get {X : List Int} {t : Nat} (h : t < X.length) : (h8 X)[t]? = some (.int .u8 (bat X t)) := by
 simpa [h8] using by8_get h
theorem h8_one (X : List Int) : (h8 X).all (·.oneCell') = true := all_oneCell_toArray (by8_one X)
theorem h8_list (X : List Int) : (h8 X).toList = by8 X := rfl
theorem h8_Z : h8 Z32 = #[.int .u8 0, .int .u8 0, .int .u8 0, .int .u8 0, .int .u8 0, .int .u8 0, .int .u8 0, .int .u8 0, .int .u8 0, .int .u8 0, .int .u8 0, .int .u8 0, .int .u8 0, .int .u8 0, .int .u8 0, .int .u8 0, .int .u8 0, .int .u8 0, .int .u8 0, .int .u8 0, .int .u8 0, .int .u8 0, .int .u8 0, .int .u8 0, .int .u8 0, .int .u8 0, .int .u8 0, .int .u8 0, .int .u8 0, .int .u8 0, .int .u8 0, .int .u8 0] := rfl
theorem eqItems_two (w : World) (d : Nat) (C D : Array Value) (f g : Nat → Int) :
   ∀ is : List Nat, (∀ i ∈ is, C[i]? = some (.int .u8 (f i))) → (∀ i ∈ is, D[i]? = some (.int .u8 (g i))) → (Op.eqItems (d + 1) 5 1 C D is).run Tryz.prog w = .ok (is.all fun i => f i == g i) w
 | [], _, _ => by simp [Op.eqItems]
 | i :: is, h, h' => by
   have hi := h i (by simp)
   have hi' := h' i (by simp)
   have ih := eqItems_two w d C D f g is (fun j hj => h j (by simp [hj])) (fun j hj => h' j (by simp [hj]))
   have ha := @Tryz.isAgg5
   by_cases he : f i = g i
   · simp [Op.eqItems, part, ha, hi, hi', run_equalIn_int w d 5 .u8 .u8 _ _ Tryz.underlying5, ih, he]
   · simp [Op.eqItems, part, ha, hi, hi', run_equalIn_int w d 5 .u8 .u8 _ _ Tryz.underlying5, ih, he]
theorem bat_ext {X Y : List Int} (hX : X.length = 32) (hY : Y.length = 32) : ((List.range 32).all fun i => bat X i == bat Y i) = decide (X = Y) := by
 rw [Bool.eq_iff_iff]
 simp only [List.all_eq_true, List.mem_range, beq_iff_eq, decide_eq_true_eq]
 constructor
 · intro h
   apply List.ext_getElem (by omega)
   intro i h1 h2
   have := h i (by omega)
   simpa [bat, List.getD_eq_getElem?_getD, List.getElem?_eq_getElem, h1, h2] using this
 · rintro rfl i _; rfl
theorem run_eqIn24 {X Y : List Int} (hX : X.length = 32) (hY : Y.length = 32) (w : World) : (Op.equalIn 10000 30 (.agg (h8 X)) (.agg (h8 Y))).run Tryz.prog w = .ok (decide (X = Y)) w := by
 obtain ⟨i0, hi, -⟩ := info_parts info5
 have hc : Tryz.prog.cellsOf 5 = 1 := by kernel_rfl
 rw [run_equalIn_array w 9999 _ _ Tryz.underlying30 hi, hc, eqItems_two w 9998 _ _ (bat X) (bat Y) (List.range 32) (fun i h => h8_get (by rw [hX]; simpa using h)) (fun i h => h8_get (by rw [hY]; simpa using h)), bat_ext hX hY]
theorem run_eq24 {X Y : List Int} (hX : X.length = 32) (hY : Y.length = 32) (w : World) : (binOp .eql 30 (.agg (h8 X)) (.agg (h8 Y))).run Tryz.prog w = .ok (.bool (decide (X = Y))) w := by
 rw [run_eql_struct, run_eqIn24 hX hY]; rfl
theorem range_below {w w' : World} {B b o : Nat} {cs : List Value} (h : w.rangeAt b o cs) (hb : Below B w w') (hlt : b < B) : w'.rangeAt b o cs := fun j v hv => (hb.cell (p := ⟨b, o + j, none⟩) hlt).trans (h j v hv)
theorem there_below {w w' : World} {B b o n : Nat} (h : w.there b o n) (hb : Below B w w') (hlt : b < B) : w'.there b o n := fun j hj =>
 ⟨by rw [hb.cell (p := ⟨b, o + j, none⟩) hlt]; exact (h j hj).1, by have h2 := (h j hj).2; simp only [World.frozen?] at h2 ⊢; rw [hb.block b hlt]; exact h2⟩
theorem Arr.range {w : World} {g ty : Nat} {X : List Int} (h : Arr w g ty (h8 X)) : w.rangeAt g 0 (by8 X) := fun j v hv => by
 rw [Nat.zero_add, h.cell]; simpa [h8] using hv
structure HS (N : Nat) (w : World) (sp : Option Addr) (n cap : Nat) (ls : List (List Int)) : Prop where
 len : Hid (n = ls.length)
 nil : sp = none → n = 0 ∧ cap = 0
 le : n ≤ cap
 big : cap ≤ 9223372036854775807
 small : n ≤ 140737488355328
 at0 : 0 < n → ∃ g off, sp = some ⟨g, off, none⟩ ∧ g < N ∧ ∀ i X, ls[i]? = some X → w.rangeAt g (off + i * 32) (by8 X)
 l32 : ∀ X ∈ ls, X.length = 32
theorem HS.mono {N N' : Nat} {w : World} {sp : Option Addr} {n cap : Nat} {ls : List (List Int)} (h : HS N w sp n cap ls) (hN : N ≤ N') : HS N' w sp n cap ls :=
 ⟨h.len, h.nil, h.le, h.big, h.small, fun h0 => let ⟨b, off, e, hb, hB⟩ := h.at0 h0; ⟨b, off, e, by omega, hB⟩, h.l32⟩
theorem HS.below {N : Nat} {w w' : World} {sp : Option Addr} {n cap : Nat} {ls : List (List Int)} (h : HS N w sp n cap ls) (hb : Below N w w') : HS N w' sp n cap ls :=
 ⟨h.len, h.nil, h.le, h.big, h.small, fun h0 => let ⟨b, off, e, hbN, hB⟩ := h.at0 h0; ⟨b, off, e, hbN, fun i X hX => range_below (hB i X hX) hb hbN⟩, h.l32⟩
theorem HS.here {N : Nat} {w : World} {sp : Option Addr} {n cap : Nat} {ls : List (List Int)} (h : HS N w sp n cap ls) : HS w.heap.size w sp n cap ls :=
 ⟨h.len, h.nil, h.le, h.big, h.small, fun h0 => by
   obtain ⟨b, off, e, hbN, hB⟩ := h.at0 h0
   refine ⟨b, off, e, ?_, hB⟩
   have hl : 0 < ls.length := by rw [← h.len.out]; exact h0
   have hX := hB 0 ls[0] (List.getElem?_eq_getElem hl)
   have h32 := h.l32 ls[0] (List.getElem_mem hl)
   exact block_lt_of_cell (hX 0 _ (by8_get (by omega))), h.l32⟩
theorem HS.nil0 (N : Nat) (w : World) : HS N w none 0 0 [] := ⟨rfl, fun _ => ⟨rfl, rfl⟩, Nat.le_refl _, by omega, by omega, fun h => absurd h (by omega), fun X h => by cases h⟩
theorem HS.part {N : Nat} {w : World} {g off n cap : Nat} {ls : List (List Int)} (h : HS N w (some ⟨g, off, none⟩) n cap ls) (l k m : Nat) (hk : l + k ≤ n) (hkm : k ≤ m) (hm : m ≤ cap) (hpos : 0 < n) : HS N w (some ⟨g, off + l * 32, none⟩) k m ((ls.drop l).take k) := by
 have hl := h.len.out
 refine ⟨?_, (fun e => by cases e), hkm, by have := h.big; omega, by have := h.small; omega, fun h0 => ?_, fun X hX => h.l32 X (List.mem_of_mem_drop (List.mem_of_mem_take hX))⟩
 · show k = _
   rw [List.length_take, List.length_drop]; omega
 · obtain ⟨g', off', e, hb, hB⟩ := h.at0 hpos
   cases e
   refine ⟨_, _, rfl, hb, fun i X hX => ?_⟩
   have hi : i < k := by
     have := (List.getElem?_eq_some_iff.1 hX).1
     rw [List.length_take] at this; omega
   rw [List.getElem?_take_of_lt hi, List.getElem?_drop] at hX
   have := hB (l + i) X hX
   rw [Nat.add_mul, ← Nat.add_assoc] at this
   exact this
theorem i64_and1 (n : Int) : bits .and .i64 n 1 = n % 2 := by
 have h1 : (BitVec.ofInt 64 1).toNat = 2 ^ 1 - 1 := by decide
 have key : (BitVec.ofInt 64 n &&& BitVec.ofInt 64 1).toNat = (n % ((2 ^ 64 : Nat) : Int)).toNat % 2 ^ 1 := by
   rw [BitVec.toNat_and, BitVec.toNat_ofInt, h1, Nat.and_two_pow_sub_one_eq_mod]
 show IntKind.i64.wrap ((BitVec.ofInt 64 n &&& BitVec.ofInt 64 1).toNat : Nat) = n % 2
 rw [key, IntKind.wrap_i64]
 omega
theorem xor_one (a : Nat) : a ^^^ 1 = sib a := by
 have h1 : (a ^^^ 1) / 2 = a / 2 := by rw [Nat.xor_div_two]; simp
 have h2 : (a ^^^ 1) % 2 = (a + 1) % 2 := by
   have h := Nat.xor_mod_two_pow (a := a) (b := 1) (n := 1)
   simp only [Nat.pow_one] at h
   rw [h]
   rcases Nat.mod_two_eq_zero_or_one a with e | e <;> rw [e] <;> simp <;> omega
 unfold sib
 split <;> omega
theorem i64_xor1 (a : Nat) (ha : a < 9223372036854775806) : bits .xor .i64 (a : Int) 1 = (sib a : Nat) := by
 have h1 : (BitVec.ofInt 64 (a : Int)).toNat = a := by
   rw [BitVec.ofInt_natCast, BitVec.toNat_ofNat]; exact Nat.mod_eq_of_lt (by omega)
 have h2 : (BitVec.ofInt 64 1).toNat = 1 := by decide
 show IntKind.i64.wrap ((BitVec.ofInt 64 (a : Int) ^^^ BitVec.ofInt 64 1).toNat : Int) = _
 rw [BitVec.toNat_xor, h1, h2, xor_one, IntKind.wrap_i64]
 unfold sib
 split <;> omega
theorem pow16 {d : Nat} (h : d ≤ 16) : 2 ^ d ≤ 65536 := Nat.pow_le_pow_right (n := 2) (by omega) h
theorem powc (d : Nat) : ((2 : Int) ^ d) = ((2 ^ d : Nat) : Int) := (Int.natCast_pow 2 d).symm
theorem wrap_pow {d : Nat} (h : d ≤ 16) : wrap64 ((2 : Int) ^ d) = ((2 ^ d : Nat) : Int) := by
 have := pow16 h
 rw [powc]
 generalize 2 ^ d = p at *
 unfold wrap64; omega
set_option maxRecDepth 100000 in
theorem mayDepth_any (d : Int) (w : World) : Calls Tryz.prog 248 #[.int .i64 d] w fun e w' => e = .returned (.bool (decide (0 ≤ d ∧ d ≤ 16))) ∧ w' = w := by
 by_cases h1 : 0 ≤ d
 · by_cases h2 : d ≤ 16
   · rw [decide_eq_true ⟨h1, h2⟩]
     go_enter Tryz.func248, Tryz.ntmps248
     go_wp2
     go_ret
     exact ⟨rfl, rfl⟩
   · rw [decide_eq_false (fun h => h2 h.2)]
     go_enter Tryz.func248, Tryz.ntmps248
     go_wp2
     go_ret
     exact ⟨rfl, rfl⟩
 · rw [decide_eq_false (fun h => h1 h.1)]
   go_enter Tryz.func248, Tryz.ntmps248
   go_wp2
   go_ret
   exact ⟨rfl, rfl⟩
set_option maxRecDepth 100000 in
theorem width_any (d : Nat) (hd : d ≤ 16) (w : World) : Calls Tryz.prog 252 #[.int .i64 d] w fun e w' => e = .returned (.int .i64 (2 ^ d : Nat)) ∧ w' = w := by
 have hp := Hid.mk' (wrap_pow hd)
 go_enter Tryz.func252, Tryz.ntmps252
 go_wp2
 go_ret
 exact ⟨by rw [hp.out]; rfl, rfl⟩
set_option maxRecDepth 100000 in
theorem isSecond_any (i k : Nat) (hi : i ≤ 9223372036854775807) (hk : k ≤ 17) (w : World) : Calls Tryz.prog 250 #[.int .i64 i, .int .i64 k] w fun e w' => e = .returned (.bool (decide ((i / 2 ^ k) % 2 = 1))) ∧ w' = w := by
 have hp : (bits .and .i64 ((i : Int) / 2 ^ k) 1 == 1) = decide ((i / 2 ^ k) % 2 = 1) := by
   rw [i64_and1, powc, ← Int.natCast_ediv]
   rw [Bool.eq_iff_iff, beq_iff_eq, decide_eq_true_eq]
   omega
 replace hp := Hid.mk' hp
 go_enter Tryz.func250, Tryz.ntmps250
 go_wp2
 go_ret
 exact ⟨by rw [hp.out]; rfl, rfl⟩
set_option maxRecDepth 100000 in
theorem mayPlace_any (d : Nat) (hd : d ≤ 16) (i : Int) (w : World) : Calls Tryz.prog 249 #[.int .i64 d, .int .i64 i] w fun e w' => e = .returned (.bool (decide (0 ≤ i ∧ i < (2 ^ d : Nat)))) ∧ w' = w := by
 obtain ⟨p, hp⟩ : ∃ p : Int, p = (2 ^ d : Nat) := ⟨_, rfl⟩
 have hw : ∀ w, Calls Tryz.prog 252 #[.int .i64 d] w fun e w' => e = .returned (.int .i64 p) ∧ w' = w := fun w => by rw [hp]; exact width_any d hd w
 rw [← hp]
 clear hp
 by_cases h1 : 0 ≤ i
 · by_cases h2 : i < p
   · rw [decide_eq_true ⟨h1, h2⟩]
     go_enter Tryz.func249, Tryz.ntmps249
     go_wp2_with (go_at_call 252; go_must (refine (hw _).mono ?_; rintro e w2 ⟨rfl, rfl⟩))
     go_ret
     exact ⟨rfl, rfl⟩
   · rw [decide_eq_false (fun h => h2 h.2)]
     go_enter Tryz.func249, Tryz.ntmps249
     go_wp2_with (go_at_call 252; go_must (refine (hw _).mono ?_; rintro e w2 ⟨rfl, rfl⟩))
     go_ret
     exact ⟨by simp [h2], rfl⟩
 · rw [decide_eq_false (fun h => h1 h.1)]
   go_enter Tryz.func249, Tryz.ntmps249
   go_wp2_with (go_at_call 252; go_must (refine (hw _).mono ?_; rintro e w2 ⟨rfl, rfl⟩))
   go_ret
   exact ⟨rfl, rfl⟩
theorem pair_h (X Y : List Int) (w : World) (hX : X.length = 32) (hY : Y.length = 32) :
   Calls Tryz.prog 168 #[.agg (h8 X), .agg (h8 Y)] w fun e w' => e = .returned (.agg (h8 (pr X Y))) ∧ Below w.heap.size w w' := by
 have h := pair_any X Y w hX hY
 rw [sha_h8] at h
 exact h
theorem ld24 {ops : Array Oper} {rest : List Oper} {o : Oper} {a : Act} {w : World} {Q : Exit → Act → World → Prop} (hgd : o.guard = none) (x : Operand) (ho : o.op = .load 30 x)
   (b off : Nat) (hx : a.eval x = .pointer (some ⟨b, off, none⟩)) (X : List Int) (hX : X.length = 32) (hc : w.rangeAt b off (by8 X))
   (h : wpList Tryz.prog ops Q rest (a.put o.dst (.agg (h8 X))) w) : wpList Tryz.prog ops Q (o :: rest) a w :=
 wpList_load_mid hgd 30 x ho b off hx (by8 X) _ hc Tryz.underlying30 rfl (by rw [by8_len, hX]; exact size24) h
theorem st24 {ops : Array Oper} {rest : List Oper} {o : Oper} {a : Act} {w : World} {Q : Exit → Act → World → Prop} (hgd : o.guard = none) (x y : Operand) (ho : o.op = .store 30 x y)
   (g : Nat) (X Y : List Int) (hx : a.eval x = .pointer (some ⟨g, 0, none⟩)) (hy : a.eval y = .agg (h8 X)) (hX : X.length = 32) (hY : Y.length = 32) (hg : Arr w g 30 (h8 Y))
   (h : wpList Tryz.prog ops Q rest (a.put o.dst undef) (w.setRow g (h8 X))) : wpList Tryz.prog ops Q (o :: rest) a w :=
 wpList_store_arr hgd 30 x y ho g (h8 X) hx hy 30 _ hg (s24h8 hX) (by rw [h8_size, h8_size, hX, hY]) (h8_one X) h
theorem st24n {ops : Array Oper} {rest : List Oper} {o : Oper} {a : Act} {Q : Exit → Act → World → Prop} (hgd : o.guard = none) (x y : Operand) (ho : o.op = .store 30 x y) (W : World) (g : Nat) (hgW : W.heap.size = g) {z : Array Value} (hz : z.size = 32)
   (X : List Int) (hx : a.eval x = .pointer (some ⟨g, 0, none⟩)) (hy : a.eval y = .agg (h8 X)) (hX : X.length = 32)
   (h : wpList Tryz.prog ops Q rest (a.put o.dst undef) (W.alloc (.cells (h8 X) 30))) : wpList Tryz.prog ops Q (o :: rest) a (W.alloc (.cells z 30)) := by
 subst hgW
 exact wpList_store_new W z 30 hgd 30 x y ho (h8 X) hx hy (s24h8 hX) (by rw [hz, h8_size, hX]) (h8_one X) h
theorem res24 {f : Func} {w : World} {tmps : Array Value} {g t : Nat} {X : List Int} (hf : f.results = #[.cell t 30]) (hp : tmps.getD t undef = .pointer (some ⟨g, 0, none⟩)) (hX : X.length = 32) (hA : Arr w g 30 (h8 X)) :
   (results f tmps).run Tryz.prog w = .ok (.agg (h8 X)) w := results_cell_row hf _ _ g 30 _ (0, 0) _ hp hA Tryz.underlying30 rfl (s24h8 hX)
set_option maxRecDepth 100000 in
theorem itself_any (X : List Int) (hX : X.length = 32) (w : World) : Calls Tryz.prog 254 #[.agg (h8 X)] w fun e w' => e = .returned (.agg (h8 X)) ∧ Below w.heap.size w w' := by
 have A0 := (Arr.new w 30 (h8 X)).alloc (.cells (h8 Z32) 30)
 have A1 := Arr.new (w.alloc (.cells (h8 X) 30)) 30 (h8 Z32)
 rw [World.size_alloc] at A1
 go_enter Tryz.func254, Tryz.ntmps254
 go_wp2_with (first
   | (refine ld24 (by rfl) _ (by rfl) w.heap.size 0 (by rfl) X hX A0.range ?_)
   | (refine st24 (by rfl) _ _ (by rfl) (w.heap.size + 1) X Z32 (by rfl) (by rfl) hX Z32_len A1 ?_))
 exact bodyPost_ret (v := .agg (h8 X)) (res24 Tryz.results254 rfl hX (A1.setRow _)) rfl ⟨rfl, below_setRow ((alloc_bel' w _).alloc (by simp) _) (by omega) _⟩
theorem resP {f : Func} {w : World} {tmps : Array Value} {g t k : Nat} {X : List Int} {v : Value} (hf : f.results = #[.cell t 30, .tmp k]) (hp : tmps.getD t undef = .pointer (some ⟨g, 0, none⟩)) (hk : tmps.getD k undef = v) (hX : X.length = 32) (hA : Arr w g 30 (h8 X)) :
   (results f tmps).run Tryz.prog w = .ok (.tuple #[.agg (h8 X), v]) w := by
 have hl := run_loadVar_mid (P := Tryz.prog) w g 0 30 (by8 X) _ hA.range Tryz.underlying30 rfl (by rw [by8_len, hX]; exact size24)
 have hp' : tmps[t]?.getD undef = .pointer (some ⟨g, 0, none⟩) := by simpa using hp
 have hk' : tmps[k]?.getD undef = v := by simpa using hk
 simp [results, hf, hp', hk', asAddr, hl, h8]
structure LV (w : World) (g : Nat) (W : Nat → List Int) : Prop where
 rg : ∀ k, k < 17 → w.rangeAt g (k * 32) (by8 (W k))
 l32 : ∀ k, (W k).length = 32
 th : w.there g 0 544
theorem LV.below {w w' : World} {g B : Nat} {W : Nat → List Int} (h : LV w g W) (hb : Below B w w') (hg : g < B) : LV w' g W :=
 ⟨fun k hk => range_below (h.rg k hk) hb hg, h.l32, there_below h.th hb hg⟩
theorem LV.lt {w : World} {g : Nat} {W : Nat → List Int} (h : LV w g W) : g < w.heap.size := by
 have := (h.th 0 (by omega)).1
 obtain ⟨v, hv⟩ := Option.isSome_iff_exists.1 this
 exact block_lt_of_cell hv
theorem LV.set {w : World} {g : Nat} {W : Nat → List Int} (h : LV w g W) {k : Nat} (hk : k < 17) {r : List Int} (hr : r.length = 32) : LV (w.setCells g (k * 32) (by8 r)) g (fun j => if j = k then r else W j) := by
 refine ⟨fun j hj => ?_, fun j => ?_, World.there_setCells h.th _ _ _⟩
 · show World.rangeAt _ _ _ (by8 (if j = k then r else W j))
   by_cases e : j = k
   · subst e
     rw [if_pos rfl]
     exact World.rangeAt_setCells_same _ _ _ _ (fun i hi => by
       rw [by8_len, hr] at hi
       have := h.th (j * 32 + i) (by omega)
       rwa [Nat.zero_add] at this)
   · rw [if_neg e]
     refine World.rangeAt_setCells_apart (h.rg j hj) _ _ _ (.inr ?_)
     rw [by8_len, by8_len, hr, h.l32]
     omega
 · show (if j = k then r else W j).length = 32
   split
   · exact hr
   · exact h.l32 j
theorem heap_setCells_other {k g : Nat} (hk : k ≠ g) : ∀ (vs : List Value) (o : Nat) (w : World), (w.setCells g o vs).heap[k]? = w.heap[k]?
 | [], _, _ => rfl
 | v :: r, o, w => by
   rw [World.setCells, heap_setCells_other hk r (o + 1)]
   exact Below.heap_setCell _ _ _ _ hk
theorem size_setCells (g : Nat) : ∀ (vs : List Value) (o : Nat) (w : World), (w.setCells g o vs).heap.size = w.heap.size
 | [], _, _ => rfl
 | v :: r, o, w => by rw [World.setCells, size_setCells g r (o + 1)]; simp [World.setCell]
theorem below_setCells {B : Nat} {a w : World} (h : Below B a w) {g : Nat} (hg : B ≤ g) : ∀ (vs : List Value) (o : Nat), Below B a (w.setCells g o vs) := by
 intro vs
 induction vs generalizing w with
 | nil => intro o; exact h
 | cons v r ih => intro o; rw [World.setCells]; exact ih (h.setCell (p := ⟨g, o, none⟩) hg v) (o + 1)
theorem Arr.setCellsOther {w : World} {g ty k : Nat} {C : Array Value} (h : Arr w g ty C) (hk : g ≠ k) (o : Nat) (vs : List Value) : Arr (w.setCells k o vs) g ty C := (heap_setCells_other hk vs o w).trans h
def PutPost (l : List (List Int)) (n : Nat) (W : Nat → List Int) (g : Nat) (w : World) (e : Ending) (w' : World) : Prop :=
 (∃ v, e = .returned v) ∧ ∃ w1 k r, Below w.heap.size w w1 ∧ k < 17 ∧ r.length = 32 ∧ w' = w1.setCells g (k * 32) (by8 r) ∧ Wt l (n + 1) (fun j => if j = k then r else W j)
theorem low_succ {n k : Nat} (h : n % 2 ^ k + 1 = 2 ^ k) (hb : (n / 2 ^ k) % 2 = 1) : n % 2 ^ (k + 1) + 1 = 2 ^ (k + 1) := by
 rw [Nat.mod_pow_succ, hb, Nat.mul_one, Nat.pow_succ]; omega
theorem low_lt {n k : Nat} (h : n % 2 ^ k + 1 = 2 ^ k) (hn : n < 65536) : k ≤ 16 := by
 by_cases hk : k ≤ 16
 · exact hk
 · exfalso
   have h1 : n % 2 ^ k ≤ n := Nat.mod_le _ _
   have h2 : 2 ^ 17 ≤ 2 ^ k := Nat.pow_le_pow_right (by omega) (by omega)
   have h3 : (2 : Nat) ^ 17 = 131072 := by rfl
   omega
set_option maxRecDepth 100000 in
theorem put_any (l : List (List Int)) (n : Nat) (X : List Int) (W : Nat → List Int) (g : Nat) (w : World) (hX : X.length = 32) (hl : l[n]? = some X) (hn : n < 65536) (hL : LV w g W) (hW : Wt l n W) :
   Calls Tryz.prog 255 #[.pointer (some ⟨g, 0, none⟩), .int .i64 n, .agg (h8 X)] w (PutPost l n W g w) := by
 have A0 := Arr.new w 30 (h8 X)
 have hst := Hid.mk' (put_start hl)
 replace hW := Hid.mk' hW
 replace hl := Hid.mk' hl
 have hgl := hL.lt
 have hb1 := (alloc_bel' w (.cells (h8 X) 30)).alloc (by simp) (.cells (h8 X) 30)
 have A1 := Arr.new (w.alloc (.cells (h8 X) 30)) 30 (h8 X)
 rw [World.size_alloc] at A1
 go_enter Tryz.func255, Tryz.ntmps255
 go_wp2_with (first
   | (refine ld24 (by rfl) _ (by rfl) w.heap.size 0 (by rfl) X hX A0.range ?_)
   | (refine st24n (by rfl) _ _ (by rfl) (w.alloc (.cells (h8 X) 30)) (w.heap.size + 1) (by simp) (by rfl) X (by rfl) (by rfl) hX ?_))
 go_loopw [7] (fun d wr => ∃ (k : Nat) (r : List Int), d = .int .i64 (k : Int) ∧ Below w.heap.size w wr ∧ w.heap.size + 2 ≤ wr.heap.size ∧ Arr wr (w.heap.size + 1) 30 (h8 r) ∧ Hid (r.length = 32) ∧ Hid (n % 2 ^ k + 1 = 2 ^ k) ∧ Hid (r = tr k (l.drop ((n / 2 ^ k) * 2 ^ k))))
   (fun d _ => 20 - (intOf d).toNat)
 case atStart => exact ⟨0, X, rfl, hb1, by simp, A1, Hid.mk' hX, Hid.mk' (by simp [Nat.mod_one]), hst⟩
 case round =>
   obtain ⟨k, r, rfl, hbl, hsz, R1, hr, hlow, hrt⟩ := hrel
   clear A0 A1 hb1 hst
   have hk := low_lt hlow.out hn
   have hkI : (k : Int) < 17 := by omega
   have hsec := isSecond_any n k (by omega) (by omega)
   have hRk := range_below (hL.rg k (by omega)) hbl hgl
   cases hd : decide (n / 2 ^ k % 2 = 1) with
   | true =>
     rw [hd] at hsec
     have hd := Hid.mk' (of_decide_eq_true hd)
     go_wp2_with (first
       | (go_at_call 250; go_must (refine (hsec _).mono ?_; rintro e w2 ⟨rfl, rfl⟩)))
     refine rgn (fun _ => True) trivial (fun hHeld => ?_)
     refine tk 0 rfl ?_
     refine tk 1 rfl ?_
     refine tk 2 rfl ?_
     refine tk 3 rfl ?_
     refine rd2 4 5 rfl rfl (fun K hK => ?_) (fun K hK => ?_)
     · refine step_want rfl (wp_load_mid 30 (.tmp 15) rfl g (k * 32) rfl (by8 (W k)) _ ((World.rangeAt_drew _ _ _ _).2 hRk) Tryz.underlying30 rfl (by rw [by8_len, hL.l32 k]; exact size24) ?_)
       refine ko hK trivial (fun hHeld => ?_)
       clear hK K
       refine rd 5 rfl (fun K hK => ?_)
       refine step_want rfl (wp_load_mid 30 (.tmp 6) rfl (w.heap.size + 1) 0 rfl (by8 r) _ R1.drew.range Tryz.underlying30 rfl (by rw [by8_len, hr.out]; exact size24) ?_)
       refine ko hK trivial (fun hHeld => ?_)
       clear hK K
       refine rd 6 rfl (fun K hK => ?_)
       go_simp
       refine (pair_h (W k) r _ (hL.l32 k) hr.out).mono ?_; rintro e w3 ⟨rfl, hb3⟩; have hs3 := hb3.size; simp at hs3; have S1 := R1.drew.below hb3 (by simp <;> omega)
       go_wp2_with fail
       refine ko hK trivial (fun hHeld => ?_)
       clear hK K
       refine rd 7 rfl (fun K hK => ?_)
       refine step_want rfl (wp_store_row 30 (.tmp 6) (.tmp 18) rfl (w.heap.size + 1) (h8 (pr (W k) r)) rfl rfl 30 _ S1 (s24h8 (pr_len _ _)) (by rw [h8_size, h8_size, hr.out, pr_len]) (h8_one _) ?_)
       refine ko hK trivial (fun hHeld => ?_)
       clear hK K
       refine dn ?_
       go_wp2_with fail
       go_roundw
       case rel => exact ⟨k + 1, pr (W k) r, by go_num, below_setRow (hbl.drew.trans (hb3.mono (by simp <;> omega))) (by omega) _, by simp <;> omega, S1.setRow _, Hid.mk' (pr_len _ _), Hid.mk' (low_succ hlow.out hd.out), Hid.mk' (wt_up hW.out hd.out hrt.out)⟩
       case measure => simp [intOf]; omega
     · refine step_want rfl (wp_load_mid 30 (.tmp 6) rfl (w.heap.size + 1) 0 rfl (by8 r) _ R1.drew.range Tryz.underlying30 rfl (by rw [by8_len, hr.out]; exact size24) ?_)
       refine ko hK trivial (fun hHeld => ?_)
       clear hK K
       refine rd 4 rfl (fun K hK => ?_)
       refine step_want rfl (wp_load_mid 30 (.tmp 15) rfl g (k * 32) rfl (by8 (W k)) _ ((World.rangeAt_drew _ _ _ _).2 hRk) Tryz.underlying30 rfl (by rw [by8_len, hL.l32 k]; exact size24) ?_)
       refine ko hK trivial (fun hHeld => ?_)
       clear hK K
       refine rd 6 rfl (fun K hK => ?_)
       go_simp
       refine (pair_h (W k) r _ (hL.l32 k) hr.out).mono ?_; rintro e w3 ⟨rfl, hb3⟩; have hs3 := hb3.size; simp at hs3; have S1 := R1.drew.below hb3 (by simp <;> omega)
       go_wp2_with fail
       refine ko hK trivial (fun hHeld => ?_)
       clear hK K
       refine rd 7 rfl (fun K hK => ?_)
       refine step_want rfl (wp_store_row 30 (.tmp 6) (.tmp 18) rfl (w.heap.size + 1) (h8 (pr (W k) r)) rfl rfl 30 _ S1 (s24h8 (pr_len _ _)) (by rw [h8_size, h8_size, hr.out, pr_len]) (h8_one _) ?_)
       refine ko hK trivial (fun hHeld => ?_)
       clear hK K
       refine dn ?_
       go_wp2_with fail
       go_roundw
       case rel => exact ⟨k + 1, pr (W k) r, by go_num, below_setRow (hbl.drew.trans (hb3.mono (by simp <;> omega))) (by omega) _, by simp <;> omega, S1.setRow _, Hid.mk' (pr_len _ _), Hid.mk' (low_succ hlow.out hd.out), Hid.mk' (wt_up hW.out hd.out hrt.out)⟩
       case measure => simp [intOf]; omega
   | false =>
     rw [hd] at hsec
     have hd : Hid ((n / 2 ^ k) % 2 = 0) := Hid.mk' (by have := of_decide_eq_false hd; omega)
     have hth : wr.there g (k * 32) 32 := fun j hj => by
       have := there_below hL.th hbl hgl (k * 32 + j) (by omega)
       rwa [Nat.zero_add] at this
     go_wp2_with (first
       | (go_at_call 250; go_must (refine (hsec _).mono ?_; rintro e w2 ⟨rfl, rfl⟩)))
     refine rgn (fun _ => True) trivial (fun hHeld => ?_)
     refine tk 0 rfl ?_
     refine tk 1 rfl ?_
     refine tk 3 rfl ?_
     refine rd 2 rfl (fun K hK => ?_)
     refine step_want rfl (wp_load_mid 30 (.tmp 6) rfl (w.heap.size + 1) 0 rfl (by8 r) _ R1.drew.range Tryz.underlying30 rfl (by rw [by8_len, hr.out]; exact size24) ?_)
     refine ko hK trivial (fun hHeld => ?_)
     clear hK K
     refine tk 4 rfl ?_
     refine rd 5 rfl (fun K hK => ?_)
     refine step_want rfl (wp_store_mid 30 (.tmp 25) (.tmp 23) rfl g (k * 32) (h8 r) rfl rfl (by rw [h8_size, hr.out]; exact (World.there_drew _ _ _ _).2 hth) (s24h8 hr.out) (h8_one _) ?_)
     refine hK.out _ _ trivial (fun hHeld => ?_)
     clear hK K
     refine dn ?_
     go_end0
     exact ⟨⟨_, rfl⟩, _, k, r, hbl.drew, by omega, hr.out, rfl, wt_stay hW.out hd.out hlow.out hrt.out⟩
def Bts (L : List Int) : Prop := ∀ x ∈ L, 0 ≤ x ∧ x ≤ 255
theorem Bts.nil : Bts [] := by simp [Bts]
theorem Bytes.belowB {w w' : World} {b off n B : Nat} {f : Nat → Int} (h : Bytes w b off n f) (hb : Below B w w') (hlt : b < B) : Bytes w' b off n f := fun t ht => (hb.cell (p := ⟨b, off + t, none⟩) hlt).trans (h t ht)
structure BS (N : Nat) (w : World) (sp : Option Addr) (n cap : Nat) (L : List Int) : Prop where
 len : Hid (n = L.length)
 nil : sp = none → n = 0 ∧ cap = 0
 le : n ≤ cap
 big : cap ≤ 9223372036854775807
 small : n ≤ 140737488355000
 at0 : 0 < n → ∃ b off, sp = some ⟨b, off, none⟩ ∧ b < N ∧ Bytes w b off n (bat L)
 bts : Bts L
theorem BS.mono {N N' : Nat} {w : World} {sp : Option Addr} {n cap : Nat} {L : List Int} (h : BS N w sp n cap L) (hN : N ≤ N') : BS N' w sp n cap L :=
 ⟨h.len, h.nil, h.le, h.big, h.small, fun h0 => let ⟨b, off, e, hb, hB⟩ := h.at0 h0; ⟨b, off, e, by omega, hB⟩, h.bts⟩
theorem BS.below {N : Nat} {w w' : World} {sp : Option Addr} {n cap : Nat} {L : List Int} (h : BS N w sp n cap L) (hb : Below N w w') : BS N w' sp n cap L :=
 ⟨h.len, h.nil, h.le, h.big, h.small, fun h0 => let ⟨b, off, e, hbN, hB⟩ := h.at0 h0; ⟨b, off, e, hbN, hB.belowB hb hbN⟩, h.bts⟩
theorem BS.here {N : Nat} {w : World} {sp : Option Addr} {n cap : Nat} {L : List Int} (h : BS N w sp n cap L) : BS w.heap.size w sp n cap L :=
 ⟨h.len, h.nil, h.le, h.big, h.small, fun h0 => let ⟨b, off, e, hbN, hB⟩ := h.at0 h0; ⟨b, off, e, block_lt_of_cell (hB 0 h0), hB⟩, h.bts⟩
theorem BS.sl {N : Nat} {w : World} {sp : Option Addr} {n cap : Nat} {L : List Int} (h : BS N w sp n cap L) : SlL w sp L := fun h0 => by
 have e := h.len.out
 obtain ⟨b, off, e1, -, hB⟩ := h.at0 (by omega)
 exact ⟨b, off, e1, by rw [← e]; exact hB⟩
theorem BS.nil0 (N : Nat) (w : World) : BS N w none 0 0 [] := ⟨rfl, fun _ => ⟨rfl, rfl⟩, Nat.le_refl _, by omega, by omega, fun h => absurd h (by omega), Bts.nil⟩
theorem own_bs {w : World} {base n : Nat} {v : Value} {L : List Int} (h : w.ownsRow base 5 1 v n (by8 L)) (hL : Bts L) (hs : n ≤ 140737488355000) :
   ∃ sp cap, v = .slice sp n cap ∧ BS w.heap.size w sp n cap L ∧ (∀ g off, sp = some ⟨g, off, none⟩ → base ≤ g ∧ off = 0) := by
 obtain ⟨hl, h | ⟨g, cap, cur, rfl, hg, hh, hn, hm, hc, ht⟩⟩ := h
 · obtain ⟨rfl, rfl⟩ := h
   rw [by8_len] at hl
   refine ⟨none, 0, rfl, ⟨show _ = _ by omega, fun _ => ⟨rfl, rfl⟩, by omega, by omega, by omega, fun h0 => by omega, hL⟩, fun g off e => by cases e⟩
 · rw [by8_len, Nat.mul_one] at hl
   refine ⟨_, cap, rfl, ⟨show _ = _ by omega, (fun e => by cases e), hn, by unfold maxLen at hm; omega, hs, fun h0 => ⟨g, 0, rfl, (Array.getElem?_eq_some_iff.1 hh).1, fun t htl => ?_⟩, hL⟩, fun g' off e => by cases e; exact ⟨hg, rfl⟩⟩
   rw [Nat.zero_add, cell_of_row w g t cur 5 (0, 0) hh, ← Array.getElem?_toList, ← List.getElem?_take_of_lt (show t < n * 1 by omega), ht, by8_get (by omega)]
end Go.Proofs.YtagebcbnenehfaaGreat

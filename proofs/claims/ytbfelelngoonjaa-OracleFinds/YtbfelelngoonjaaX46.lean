/- V22, V23, Mf, Mx. -/
import Derived.Test.YtbfelelngoonjaaX39
import Derived.Test.YtbfelelngoonjaaX10
import Derived.Test.YtbfelelngoonjaaX23
import Derived.Test.YtbfelelngoonjaaX14
import Derived.Test.YtbfelelngoonjaaX28
import Derived.Test.YtbfelelngoonjaaX45
import Derived.Test.YtbfelelngoonjaaX02
import Derived.Test.YtbfelelngoonjaaX04
import Derived.Test.YtbfelelngoonjaaX33
import Derived.BigQuiet
import Derived.BigRegion
import Derived.ChangeKeysEq
import Derived.Deep.DeepCutAuto
import Derived.Deep.DrawnRows
import Derived.Deep.MidRow
import Derived.Deep.QuietTactic
import Derived.Deep.RegionHeld3
import Derived.Deep.RegionLaw
import Derived.Deep.RegionWith
import Derived.Deep.WholeRow
import Derived.Laws.AppendOwnNone
import Derived.Laws.BitsLemmas
import Derived.Laws.BytesArg
import Derived.Laws.CopyOwn
import Derived.Lib.SlBytesConst
import Derived.WalkKit
import Derived.WalkLawsBesides
import Derived.WalkSpells
import Derived.Test.YtbfelelngoonjaaX01
import Derived.Test.YtbfelelngoonjaaX03
import Derived.Test.YtbfelelngoonjaaX05
import Derived.Test.YtbfelelngoonjaaX06
import Derived.Test.YtbfelelngoonjaaX12
import Derived.Test.YtbfelelngoonjaaX13
import Derived.Test.YtbfelelngoonjaaX15
import Derived.Test.YtbfelelngoonjaaX16
import Derived.Test.YtbfelelngoonjaaX17
import Derived.Test.YtbfelelngoonjaaX18
import Derived.Test.YtbfelelngoonjaaX22
import Derived.Great.BuildSlice
import Derived.Great.FillDense
import Derived.Laws.CopyRow
import Derived.Laws.MakeOwn
import Derived.Laws.OwnMore
import Derived.LoopIn
import Derived.LoopNIn
import Derived.OwnWalkIn
import Derived.RangeFuncBound
import Derived.RangeFuncCalls
import Derived.RangeFuncLeaves
import Derived.RangeFuncNested
import Derived.RangeFuncRecord
import Derived.Shelf.Abstract
import Derived.Shelf.RegionOpen
import Derived.TacticsInMore
/- Layer oracle: from a root down, by data. -/
namespace Go.Proofs.Ytbfelelngoonjaa
open Go.RowKit
set_option maxRecDepth 100000
set_option linter.unusedVariables false
set_option linter.unusedSimpArgs false


theorem pt_mem {D : List (List Int × List Int)} {b k : List Int} {d : List Int × List Int} : d ∈ pt D b k ↔ d ∈ D ∨ d = (b, k) := by
  unfold pt
  split
  · rename_i h
    constructor
    · exact .inl
    · rintro (h' | rfl)
      · exact h'
      · exact h
  · simp
theorem ptl_mem {d : List Int × List Int} : ∀ {l : List (List Int)} {D : List (List Int × List Int)}, d ∈ ptl D l ↔ d ∈ D ∨ ∃ b ∈ l, d = (b, shl b)
  | [], D => by simp [ptl]
  | b :: r, D => by
    show d ∈ ptl (pt D b (shl b)) r ↔ _
    rw [ptl_mem, pt_mem]
    simp only [List.mem_cons, exists_eq_or_imp]
    rw [or_assoc]
/-- Of bytes among which none collide, each is got by its sum. -/
theorem gt_ptl {l : List (List Int)} {b : List Int} (hb : b ∈ l) (hinj : ∀ x ∈ l, ∀ y ∈ l, shl x = shl y → x = y) : gt (ptl [] l) (shl b) = some b := by
  unfold gt
  have hm : (b, shl b) ∈ ptl [] l := ptl_mem.2 (.inr ⟨b, hb, rfl⟩)
  cases hf : (ptl [] l).find? (fun x => decide (x.2 = shl b)) with
  | none =>
    have := List.find?_eq_none.1 hf _ hm
    simp at this
  | some d =>
    have h1 := List.find?_some hf
    have h2 := List.mem_of_find?_eq_some hf
    rcases ptl_mem.1 h2 with h3 | ⟨c, hc, rfl⟩
    · cases h3
    · simp at h1
      rw [hinj c hc b hb h1]; rfl
/-- All pairs of a tree are among its pairs. -/
theorem prs_mem : ∀ (d : Nat) (l : List (List Int)), l.length = 2 ^ d → ∀ k q, k < d → (2 * q + 2) * 2 ^ k ≤ 2 ^ d → (1 :: (tr k (l.drop (2 * q * 2 ^ k)) ++ tr k (l.drop ((2 * q + 1) * 2 ^ k)))) ∈ prs d l
  | 0, l, hl, k, q, hk, hq => by omega
  | d + 1, l, hl, k, q, hk, hq => by
    have hp : 2 ^ (d + 1) = 2 * 2 ^ d := by rw [Nat.pow_succ]; omega
    refine List.mem_append.2 ?_
    cases k with
    | zero =>
      left
      simp only [Nat.pow_zero, Nat.mul_one] at hq ⊢
      have h1 : l[2 * q]? = some (l[2 * q]'(by omega)) := List.getElem?_eq_getElem _
      have h2 : l[2 * q + 1]? = some (l[2 * q + 1]'(by omega)) := List.getElem?_eq_getElem _
      have e : ∀ i x, l[i]? = some x → tr 0 (l.drop i) = x := fun i x h => by
        show (l.drop i).headD Z32 = x
        rw [List.headD_eq_head?_getD, List.head?_drop, h]; rfl
      rw [e _ _ h1, e _ _ h2]
      exact List.mem_of_getElem? (lvl_get l q _ _ h1 h2)
    | succ k =>
      right
      have hk2 : 2 ^ (k + 1) = 2 * 2 ^ k := by rw [Nat.pow_succ]; omega
      have hl2 : ((lvl l).map shl).length = 2 ^ d := by rw [List.length_map, lvl_len (2 ^ d) l (by omega)]
      have hq2 : (2 * q + 2) * 2 ^ k ≤ 2 ^ d := by
        rw [hk2, hp] at hq
        have : (2 * q + 2) * (2 * 2 ^ k) = 2 * ((2 * q + 2) * 2 ^ k) := by rw [← Nat.mul_assoc, Nat.mul_comm (2 * q + 2) 2, Nat.mul_assoc]
        omega
      have e : ∀ j, j < 2 * q + 2 → tr (k + 1) (l.drop (j * 2 ^ (k + 1))) = tr k (((lvl l).map shl).drop (j * 2 ^ k)) := fun j hj => by
        have h3 : j * 2 ^ (k + 1) = 2 * (j * 2 ^ k) := by rw [hk2, ← Nat.mul_assoc, Nat.mul_comm j 2, Nat.mul_assoc]
        have h4 : (j + 1) * 2 ^ k ≤ 2 ^ d := Nat.le_trans (Nat.mul_le_mul_right _ (by omega)) hq2
        rw [Nat.succ_mul] at h4
        rw [tr_lvl k _ (by rw [List.length_drop, h3, hk2, hl, hp]; omega), h3, lvl_drop, List.map_drop]
      rw [e _ (by omega), e _ (by omega)]
      exact prs_mem d _ hl2 k q (by omega) hq2
/-- The node m of level k above the accounts. -/
def ndA (ps : List Ac) (k m : Nat) : List Int := tr k ((al ps).drop (m * 2 ^ k))
theorem ndA_up (ps : List Ac) (k q : Nat) : ndA ps (k + 1) q = pr (ndA ps k (2 * q)) (ndA ps k (2 * q + 1)) := (tr_two k q (al ps)).symm
theorem ndA_len (ps : List Ac) (k m : Nat) : (ndA ps k m).length = 32 := tr_len k _ (fun x hx => al_32 ps x (List.mem_of_mem_drop hx))
theorem ndA_bts (ps : List Ac) (k m : Nat) : Bts (ndA ps k m) := tr_bts k _ (fun x hx => al_bts ps x (List.mem_of_mem_drop hx))
theorem pad_al {ps : List Ac} (h : ps.length = 32) : pad (al ps) = al ps := by
  unfold pad
  rw [al_len, h]; simp
theorem ndA_mem {ps : List Ac} {os : List Ou} (h : ps.length = 32) {k q : Nat} (hk : k < 5) (hq : (2 * q + 2) * 2 ^ k ≤ 32) : (1 :: (ndA ps k (2 * q) ++ ndA ps k (2 * q + 1))) ∈ knB ps os := by
  have := prs_mem 5 (al ps) (by rw [al_len, h]) k q hk hq
  unfold knB
  rw [pad_al h]
  simp only [List.mem_append]
  exact .inl (.inl (.inr this))
theorem ndA_leaf {ps : List Ac} {m : Nat} {a : Ac} (ha : ps[m]? = some a) : ndA ps 0 m = lf (acb a) := by
  unfold ndA
  simp only [Nat.pow_zero, Nat.mul_one]
  show ((al ps).drop m).headD Z32 = _
  rw [List.headD_eq_head?_getD, List.head?_drop]
  simp [al, ha]
/-- What two entries that are told not to collide have in common. -/
theorem fnd_inj {es : List En} {a b : Int} {l : List (List Int)} (h : Fnd es a b false) (hb : es.map En.bs = l) (hs : ∀ e ∈ es, e.sm = shl e.bs) : ∀ x ∈ l, ∀ y ∈ l, shl x = shl y → x = y := by
  rcases h with ⟨h, -⟩ | ⟨-, -, -, h⟩
  · cases h
  intro x hx y hy hxy
  rw [← hb] at hx hy
  obtain ⟨e, he, rfl⟩ := List.mem_map.1 hx
  obtain ⟨f, hf, rfl⟩ := List.mem_map.1 hy
  obtain ⟨i, hi, hie⟩ := List.getElem_of_mem he
  obtain ⟨j, hj, hjf⟩ := List.getElem_of_mem hf
  have hi' : es[i]? = some e := by rw [← hie]; exact List.getElem?_eq_getElem hi
  have hj' : es[j]? = some f := by rw [← hjf]; exact List.getElem?_eq_getElem hj
  have key : ∀ {i j : Nat} {e f : En}, e ∈ es → f ∈ es → es[i]? = some e → es[j]? = some f → i < j → shl e.bs = shl f.bs → e.bs = f.bs := fun {i j e f} me mf h1 h2 hlt hq => by
    have h3 := h j (List.getElem?_eq_some_iff.1 h2).1 i hlt
    rw [hit_some h1 h2] at h3
    simp [hitE, hs e me, hs f mf, hq] at h3
    exact h3
  rcases Nat.lt_trichotomy i j with q | q | q
  · exact key he hf hi' hj' q hxy
  · subst q; rw [hi'] at hj'; cases hj'; rfl
  · exact (key hf he hj' hi' q hxy.symm).symm
end Go.Proofs.Ytbfelelngoonjaa
/- Layer oracle: half. -/
namespace Go.Proofs.Ytbfelelngoonjaa
open Go.RowKit
set_option maxRecDepth 100000
set_option linter.unusedVariables false
set_option linter.unusedSimpArgs false


theorem wp_cpB {o : Oper} {a : Act} {w : World} {K : Act → World → Prop} {Q : Exit → Act → World → Prop} (x y : Operand) (ho : o.op = .call { callee := .builtin .copy, args := #[x, y], argTypes := #[29, 29] })
    (g b off m c : Nat) (Z : List Int) (hZ : Z.length = 32) (hx : a.eval x = .slice (some ⟨g, 0, none⟩) 32 32) (hy : a.eval y = .slice (some ⟨b, off, none⟩) m c) (hm : 32 ≤ m) (hA : Arr w g 32 (h8 Z32)) (hR : w.rangeAt b off (by8 Z))
    (h : K (a.put o.dst (goInt 32)) (w.setRow g (h8 Z))) : o.wp Try.prog a w K Q := by
  have hr := run_copy_row (P := Try.prog) w 29 29 o.type 5 g 0 32 32 ⟨b, off, none⟩ m c (h8 Z32) 32 (by8 Z) Try.underlying29 (by kernel_rfl) hA (by rw [by8_len, hZ]; exact (Nat.min_eq_right hm).symm) (fun j v hj => by rw [Addr.add_mid]; exact hR j v hj) (by rw [by8_len, hZ, h8_size, Z32_len]; omega) (by8_one Z)
  rw [by8_len, hZ] at hr
  have e : ((h8 Z32).toList.take 0 ++ by8 Z ++ (h8 Z32).toList.drop (0 + 32)).toArray = h8 Z := by
    have : (h8 Z32).toList.drop (0 + 32) = [] := List.drop_eq_nil_of_le (by simp [h8, by8_len, Z32_len])
    rw [this]; simp [h8]
  rw [e] at hr
  unfold Oper.wp
  simp [execOp, ho, resolve, invoke, builtin, hx, hy, hr, Result.andThen]
  exact h
theorem w33 : IntKind.i64.wrap (1 + IntKind.i64.wrap 0) = 1 := by decide
theorem w65 : IntKind.i64.wrap (1 + IntKind.i64.wrap 32) = 33 := by decide
theorem bat_x {X Y : List Int} {t : Nat} (hX : X.length = 32) (ht : t < 32) : bat (1 :: (X ++ Y)) (1 + t) = bat X t := by
  unfold bat
  rw [Nat.add_comm 1 t, List.getD_eq_getElem?_getD, List.getElem?_cons_succ, List.getElem?_append_left (by omega), List.getD_eq_getElem?_getD]
theorem bat_y {X Y : List Int} {t : Nat} (hX : X.length = 32) : bat (1 :: (X ++ Y)) (33 + t) = bat Y t := by
  unfold bat
  rw [show 33 + t = (32 + t) + 1 by omega, List.getD_eq_getElem?_getD, List.getElem?_cons_succ, List.getElem?_append_right (by omega), hX, show 32 + t - 32 = t by omega, List.getD_eq_getElem?_getD]
/-- What half answers. -/
def HaP (Z : List Int) (w : World) (r : Ending) (w' : World) : Prop := r = .returned (.tuple #[.agg (h8 Z), .bool true]) ∧ Below w.heap.size w w'
set_option maxHeartbeats 2000000 in
theorem half_any (base gO gm : Nat) (f : List Int → Value) (v : Value) (es : List En) (k X Y : List Int) (c : Int) (w : World) (hO : Orc base gO gm w f v es) (hk : k.length = 32) (hlen : es.length ≤ 900000000)
    (hX : X.length = 32) (hY : Y.length = 32) (hg : gt (dats es) k = some (1 :: (X ++ Y))) (hc : c = 0 ∨ c = 1) :
    Calls Try.prog 23 #[.pointer (some ⟨gO, 0, none⟩), .agg (h8 k), .int .i64 c] w (HaP (if c = 0 then X else Y) w) := by
  have hget := hid (fun u hu => oget_any base gO gm f v es k u hu hk (by omega))
  have hgp : Hid (∀ w w' r, GetP (dats es) k w r w' → ∃ b off cp, r = .returned (.tuple #[.slice (some ⟨b, off, none⟩) 65 cp, .bool true]) ∧ 65 ≤ cp ∧ Bytes w' b off 65 (bat (1 :: (X ++ Y))) ∧ b < w'.heap.size ∧ Below w.heap.size w w') := hid (fun w w' r h => by
    obtain ⟨sp, n, cp, h1, h2, h3⟩ := h.bs
    rw [hg] at h1 h2
    have hn : n = 65 := by rw [h2.len.out]; simp [hX, hY]
    subst hn
    obtain ⟨b, off, q, hb, hB⟩ := h2.at0 (by omega)
    subst q
    exact ⟨b, off, cp, h1, h2.le, hB, hb, h3⟩)
  have B0 := ((alloc_bel' w (.cells (h8 k) 32)).alloc (by simp) (.cells (h8 Z32) 32))
  have A0 := (Arr.new w 32 (h8 k)).alloc (.cells (h8 Z32) 32)
  have R0 := Arr.new (w.alloc (.cells (h8 k) 32)) 32 (h8 Z32)
  rw [World.size_alloc] at R0
  have O0 := OrX.bel hO B0
  have hz0 : ((w.alloc (.cells (h8 k) 32)).alloc (.cells (h8 Z32) 32)).heap.size = w.heap.size + 2 := by simp
  clear hg hO
  go_enter Try.func23, Try.ntmps23
  go_upto_region 1 with fail
  rw [show (#[.int .u8 0, .int .u8 0, .int .u8 0, .int .u8 0, .int .u8 0, .int .u8 0, .int .u8 0, .int .u8 0, .int .u8 0, .int .u8 0, .int .u8 0, .int .u8 0, .int .u8 0, .int .u8 0, .int .u8 0, .int .u8 0, .int .u8 0, .int .u8 0, .int .u8 0, .int .u8 0, .int .u8 0, .int .u8 0, .int .u8 0, .int .u8 0, .int .u8 0, .int .u8 0, .int .u8 0, .int .u8 0, .int .u8 0, .int .u8 0, .int .u8 0, .int .u8 0] : Array Value) = h8 Z32 from rfl]
  generalize (w.alloc (.cells (h8 k) 32)).alloc (.cells (h8 Z32) 32) = W0 at *
  have hz0' : w.heap.size + 2 ≤ W0.heap.size := by omega
  replace hz0 := hid hz0
  go_upto_region 2 with (first
    | (refine ld24 (by rfl) _ (by rfl) w.heap.size 0 (by rfl) k hk A0.range ?_)
    | (go_at_call 12; go_must (refine (hget.out W0 O0).mono ?_; rintro r w1 hr; obtain ⟨b, off, cp, rfl, hcp, hB, hbl, hb1⟩ := hgp.out _ _ _ hr)))
  have R1 := R0.below hb1 (by omega)
  have B1 := B0.trans (hb1.mono (by omega))
  have hs1 := hb1.size
  have c0 : (w1.alloc (.cells (h8 Z32) 32)).cell? ⟨b, off, none⟩ = some (.int .u8 1) := by
    have h1 : w1.cell? ⟨b, off, none⟩ = some (.int .u8 1) := by have := hB 0 (by omega); simpa [bat] using this
    rw [← h1]; exact World.cell?_of_block ((alloc_bel' w1 _).block b hbl)
  have hBy : Bytes (w1.alloc (.cells (h8 Z32) 32)) b off 65 (bat (1 :: (X ++ Y))) := hB.belowB (alloc_bel' w1 _) hbl
  have N1 := Arr.new w1 32 (h8 Z32)
  have R2 := R1.alloc (.cells (h8 Z32) 32)
  have B2 := B1.alloc B1.size (.cells (h8 Z32) 32)
  have hz2 : (w1.alloc (.cells (h8 Z32) 32)).heap.size = w1.heap.size + 1 := by simp
  have hcp2 : (65 : Int) ≤ cp := by omega
  clear hget hgp O0 A0 R0 R1 B0 B1 hB hb1
  go_upto_region 3 with fail
  rw [show (#[.int .u8 0, .int .u8 0, .int .u8 0, .int .u8 0, .int .u8 0, .int .u8 0, .int .u8 0, .int .u8 0, .int .u8 0, .int .u8 0, .int .u8 0, .int .u8 0, .int .u8 0, .int .u8 0, .int .u8 0, .int .u8 0, .int .u8 0, .int .u8 0, .int .u8 0, .int .u8 0, .int .u8 0, .int .u8 0, .int .u8 0, .int .u8 0, .int .u8 0, .int .u8 0, .int .u8 0, .int .u8 0, .int .u8 0, .int .u8 0, .int .u8 0, .int .u8 0] : Array Value) = h8 Z32 from rfl]
  generalize w1.alloc (.cells (h8 Z32) 32) = W1 at *
  have hz2' : w1.heap.size < W1.heap.size := by omega
  replace hz2 := hid hz2
  go_upto_region 5 with fail
  rcases hc with rfl | rfl
  · have hRZ : W1.rangeAt b (off + 1) (by8 X) := fun t u hu => by
      have ht := (List.getElem?_eq_some_iff.1 hu).1
      rw [by8_len] at ht
      rw [by8_get ht] at hu
      rw [Nat.add_assoc, hBy (1 + t) (by omega), ← hu]
      exact congrArg _ (congrArg _ (bat_x hX (by omega)))
    refine rgn (fun _ => True) trivial (fun hS => ?_)
    refine tk 0 rfl ?_
    refine tk 1 rfl ?_
    refine tk 2 rfl ?_
    refine tk 3 rfl ?_
    refine tk 4 rfl ?_
    refine tl (v := .slice (some ⟨b, off + 1, none⟩) 64 (cp - 1)) 5 rfl (.inl ⟨by rfl, fun u hu => by
      go_simp
      simp only [w33]
      rw [if_pos (by omega), if_neg (by simp; omega)]
      rfl⟩) ?_
    refine rd 6 rfl (fun K hK => ?_)
    refine step_want rfl (wp_cpB (.tmp 31) (.tmp 36) rfl w1.heap.size b (off + 1) 64 (cp - 1) X hX rfl rfl (by omega) N1.drew hRZ ?_)
    have N3 : Arr (W1.drew.setRow w1.heap.size (h8 X)) w1.heap.size 32 (h8 X) := (N1.drew).setRow _
    have R3 := (R2.drew).setRowOther (k := w1.heap.size) (h8 X) (by omega)
    have B3 := below_setRow B2.drew (g := w1.heap.size) (by omega) (h8 X)
    generalize W1.drew.setRow w1.heap.size (h8 X) = W3 at *
    refine ko hK trivial (fun hS => ?_)
    refine dn ?_
    go_wp2_with (first
      | (refine ld24 (by rfl) (.tmp 10) (by rfl) w1.heap.size 0 (by rfl) X hX N3.range ?_)
      | (refine st24 (by rfl) (.tmp 6) (.tmp 38) (by rfl) (w.heap.size + 1) X Z32 (by rfl) (by rfl) hX Z32_len R3 ?_))
    refine bodyPost_ret (v := .tuple #[.agg (h8 X), .bool true]) (resP Try.results23 rfl rfl hX (R3.setRow _)) rfl ?_
    exact ⟨rfl, below_setRow B3 (by omega) _⟩
  · have hRZ : W1.rangeAt b (off + 33) (by8 Y) := fun t u hu => by
      have ht := (List.getElem?_eq_some_iff.1 hu).1
      rw [by8_len] at ht
      rw [by8_get ht] at hu
      rw [Nat.add_assoc, hBy (33 + t) (by omega), ← hu]
      exact congrArg _ (congrArg _ (bat_y hX))
    refine rgn (fun _ => True) trivial (fun hS => ?_)
    refine tk 0 rfl ?_
    refine tk 1 rfl ?_
    refine tk 2 rfl ?_
    refine tk 3 rfl ?_
    refine tk 4 rfl ?_
    refine tl (v := .slice (some ⟨b, off + 33, none⟩) 32 (cp - 33)) 5 rfl (.inl ⟨by rfl, fun u hu => by
      go_simp
      simp only [w65]
      rw [if_pos (by omega), if_neg (by simp; omega)]
      rfl⟩) ?_
    refine rd 6 rfl (fun K hK => ?_)
    refine step_want rfl (wp_cpB (.tmp 31) (.tmp 36) rfl w1.heap.size b (off + 33) 32 (cp - 33) Y hY rfl rfl (by omega) N1.drew hRZ ?_)
    have N3 : Arr (W1.drew.setRow w1.heap.size (h8 Y)) w1.heap.size 32 (h8 Y) := (N1.drew).setRow _
    have R3 := (R2.drew).setRowOther (k := w1.heap.size) (h8 Y) (by omega)
    have B3 := below_setRow B2.drew (g := w1.heap.size) (by omega) (h8 Y)
    generalize W1.drew.setRow w1.heap.size (h8 Y) = W3 at *
    refine ko hK trivial (fun hS => ?_)
    refine dn ?_
    go_wp2_with (first
      | (refine ld24 (by rfl) (.tmp 10) (by rfl) w1.heap.size 0 (by rfl) Y hY N3.range ?_)
      | (refine st24 (by rfl) (.tmp 6) (.tmp 38) (by rfl) (w.heap.size + 1) Y Z32 (by rfl) (by rfl) hY Z32_len R3 ?_))
    refine bodyPost_ret (v := .tuple #[.agg (h8 Y), .bool true]) (resP Try.results23 rfl rfl hY (R3.setRow _)) rfl ?_
    exact ⟨rfl, below_setRow B3 (by omega) _⟩
end Go.Proofs.Ytbfelelngoonjaa
/- Layer oracle: what the layers below give. -/
namespace Go.Proofs.Ytbfelelngoonjaa
open Go.RowKit
set_option maxRecDepth 100000
set_option linter.unusedVariables false
set_option linter.unusedSimpArgs false

theorem refPair_h (X Y : List Int) (w : World) (hX : X.length = 32) (hY : Y.length = 32) :
    Calls Try.prog 58 #[.agg (h8 X), .agg (h8 Y)] w fun e w' => e = .returned (.agg (h8 (pr X Y))) ∧ Below w.heap.size w w' := by
  have h := refPair_any X Y w hX hY
  rw [sha_h8] at h
  exact h
end Go.Proofs.Ytbfelelngoonjaa
/- Layer oracle: what the layers below give. -/
namespace Go.Proofs.Ytbfelelngoonjaa
open Go.RowKit Go.Shelf
set_option maxRecDepth 100000
set_option linter.unusedVariables false
set_option linter.unusedSimpArgs false

set_option maxRecDepth 100000 in
set_option maxHeartbeats 400000 in
theorem refBad_any (d : Int) (n : Nat) (w : World) : Calls Try.prog 60 #[.int .i64 d, .int .i64 n] w fun e w' => e = .returned (.int .i64 (rE d n)) ∧ w' = w := by
  unfold rE
  by_cases h1 : 0 ≤ d
  · by_cases h2 : d ≤ 16
    · rw [if_pos ⟨h1, h2⟩]
      obtain ⟨m, rfl⟩ : ∃ m : Nat, d = m := ⟨d.toNat, by omega⟩
      have hm : m ≤ 16 := by omega
      have hwp := wrap_pow hm
      rw [Int.toNat_natCast]
      obtain ⟨p, hp⟩ : ∃ p : Nat, p = 2 ^ m := ⟨_, rfl⟩
      rw [← hp] at hwp ⊢
      replace hp := Hid.mk' hp
      by_cases h3 : n ≤ p
      · rw [if_pos h3]
        have h4 : ¬ (p : Int) < n := by omega
        go_enter Try.func60, Try.ntmps60
        go_wp2
        go_ret
        exact ⟨rfl, rfl⟩
      · rw [if_neg h3]
        have h4 : (p : Int) < n := by omega
        go_enter Try.func60, Try.ntmps60
        go_wp2
        go_ret
        exact ⟨rfl, rfl⟩
    · rw [if_neg (fun h => h2 h.2)]
      go_enter Try.func60, Try.ntmps60
      go_wp2
      go_ret
      exact ⟨rfl, rfl⟩
  · rw [if_neg (fun h => h1 h.1)]
    go_enter Try.func60, Try.ntmps60
    go_wp2
    go_ret
    exact ⟨rfl, rfl⟩
theorem HS.fst {N : Nat} {w : World} {sp : Option Addr} {n cap : Nat} {ls : List (List Int)} (h : HS N w sp n cap ls) (p : Nat) (hp : p ≤ n) : HS N w sp p cap (ls.take p) := by
  have hl := h.len.out
  refine ⟨show p = _ by rw [List.length_take]; omega, fun e => ?_, by have := h.le; omega, h.big, by have := h.small; omega, fun h0 => ?_, fun X hX => h.l32 X (List.mem_of_mem_take hX)⟩
  · have := h.nil e; exact ⟨by omega, this.2⟩
  · obtain ⟨g, off, e, hg, hR⟩ := h.at0 (by omega)
    refine ⟨g, off, e, hg, fun i X hX => hR i X ?_⟩
    have hi : i < p := by have := (List.getElem?_eq_some_iff.1 hX).1; rw [List.length_take] at this; omega
    rw [List.getElem?_take_of_lt hi] at hX; exact hX
set_option maxRecDepth 100000 in
set_option maxHeartbeats 4000000 in
/-- The document's root, whatever is given. -/
theorem refroot_any (d : Nat) : ∀ (N : Nat) (sp : Option Addr) (n cap : Nat) (ls : List (List Int)) (w : World) (x : Int), x = (d : Int) → d ≤ 16 → HS N w sp n cap ls →
    Calls Try.prog 61 #[.int .i64 x, .slice sp n cap] w fun e w' => e = .returned (.agg (h8 (tr d ls))) ∧ Below w.heap.size w w' := by
  induction d with
  | zero =>
    intro N sp n cap ls w x hx hd hS
    obtain rfl : x = 0 := hx
    have A0 := Arr.new w 32 (h8 Z32)
    have hb0 := alloc_bel' w (.cells (h8 Z32) 32)
    have hln := hS.len
    have hle := hS.le
    have hsm := hS.small
    by_cases h0 : 0 < n
    · obtain ⟨g, off, rfl, hgN, hR⟩ := (hS.here.below hb0).at0 h0
      have hlen : 0 < ls.length := by rw [← hln.out]; exact h0
      have hX := hR 0 ls[0] (List.getElem?_eq_getElem hlen)
      have hX32 := hS.l32 ls[0] (List.getElem_mem hlen)
      have e0 : tr 0 ls = ls[0] := by cases ls with | nil => simp at hlen | cons a r => rfl
      rw [e0]
      generalize ls[0] = X at *
      rw [Nat.zero_mul, Nat.add_zero] at hX
      have h0I : (0 : Int) < n := by omega
      rw [h8_Z] at hX A0 hb0
      go_enter Try.func61, Try.ntmps61
      go_wp2_with (first
        | (refine ld24 (by rfl) _ (by rfl) g off (by rfl) X hX32 hX ?_)
        | (refine st24n (by rfl) _ _ (by rfl) w w.heap.size rfl (by rfl) X (by rfl) (by rfl) hX32 ?_))
      exact bodyPost_ret (v := .agg (h8 X)) (res24 Try.results61 rfl hX32 (Arr.new w 32 _)) rfl ⟨rfl, alloc_bel' w _⟩
    · obtain rfl : n = 0 := by omega
      obtain rfl : ls = [] := List.eq_nil_of_length_eq_zero hln.out.symm
      have e0 : tr 0 [] = Z32 := rfl
      rw [e0]
      go_enter Try.func61, Try.ntmps61
      go_wp2_with (first
        | (refine st24n (by rfl) _ _ (by rfl) w w.heap.size rfl (by rfl) Z32 (by rfl) (by rfl) Z32_len ?_))
      exact bodyPost_ret (v := .agg (h8 Z32)) (res24 Try.results61 rfl Z32_len (Arr.new w 32 _)) rfl ⟨rfl, alloc_bel' w _⟩
  | succ d ih =>
    intro N sp n cap ls w x hx hd hS
    have hS := hS.here
    have A0 := Arr.new w 32 (h8 Z32)
    have hb0 := alloc_bel' w (.cells (h8 Z32) 32)
    have hln := hS.len
    have hle := hS.le
    have hsm := hS.small
    have hbig := hS.big
    have hx1 : x - 1 = (d : Int) := by omega
    have hx0 : ¬ x = 0 := by omega
    have hxl : 0 < x := by omega
    have hxu : x ≤ 17 := by omega
    have hd16 : d ≤ 16 := by omega
    have hwp := wrap_pow hd16
    have hp16 := pow16 hd16
    have hwd : IntKind.i64.wrap (d : Int) = d := by rw [IntKind.wrap_i64]; omega
    obtain ⟨p, hp⟩ : ∃ p : Nat, p = 2 ^ d := ⟨_, rfl⟩
    have hp0 : 0 < p := by rw [hp]; exact Nat.pow_pos (by omega)
    rw [← hp] at hwp hp16
    have hH0 := hS.below hb0
    have htl : ∀ l : List (List Int), (∀ X ∈ l, X.length = 32) → (tr d l).length = 32 := fun l hl => tr_len d l hl
    have hall := hS.l32
    replace hx := Hid.mk' hx
    by_cases h0 : n = 0
    · have hnil : ls = [] := List.eq_nil_of_length_eq_zero (by rw [← hln.out]; exact h0)
      rw [hnil, tr_nil]
      have hX := htl [] (fun X h => by cases h)
      have ihc := fun w x hx => ih _ none 0 0 [] w x hx hd16 (HS.nil0 w.heap.size w)
      generalize tr d [] = X at *
      have hXX := pr_len X X
      subst h0
      rw [h8_Z] at A0 hb0
      clear hH0
      go_enter Try.func61, Try.ntmps61
      go_wp2_with (first
        | (go_at_call 58; go_must (refine (refPair_h X X _ hX hX).mono ?_; rintro e w3 ⟨rfl, hb3⟩; have hs3 := hb3.size; simp at hs3; have S3 := A2.below hb3 (by simp; omega); have bw3 := bw2.trans (hb3.mono (by simp; omega))))
        | (go_at_call 61; go_must (refine (ihc _ _ (by first | exact hx1 | rfl | exact hwd)).mono ?_; rintro e w2 ⟨rfl, hb2⟩; have hs2 := hb2.size; simp at hs2; have A2 := (A0.below hb2 (by simp)).alloc (.cells (h8 X) 32); have V2 := Arr.new w2 32 (h8 X); have bw2 := (hb0.trans (hb2.mono (by simp))).alloc (by omega) (.cells (h8 X) 32)))
        | (refine st24 (by rfl) _ _ (by rfl) w.heap.size (pr X X) Z32 (by rfl) (by rfl) hXX Z32_len S3 ?_)
        | (refine st24n (by rfl) _ _ (by rfl) w2 w2.heap.size rfl (by rfl) X (by rfl) (by rfl) hX ?_)
        | (refine ld24 (by rfl) _ (by rfl) w2.heap.size 0 (by rfl) X hX V2.range ?_))
      exact bodyPost_ret (v := .agg (h8 (pr X X))) (res24 Try.results61 rfl hXX (S3.setRow _)) rfl ⟨rfl, below_setRow bw3 (Nat.le_refl _) _⟩
    · have h0I : ¬ (n : Int) = 0 := by omega
      by_cases h1 : n ≤ p
      · have h1I : (n : Int) ≤ p := by omega
        have e1 : tr (d + 1) ls = pr (tr d ls) (tr d []) := by rw [tr_succ, List.drop_eq_nil_of_le (by rw [← hln.out, ← hp]; exact h1)]
        rw [e1]
        replace hp := Hid.mk' hp
        have hX := htl [] (fun X h => by cases h)
        have hY := htl ls hall
        have ihc := fun w x hx => ih _ none 0 0 [] w x hx hd16 (HS.nil0 w.heap.size w)
        have ihd := fun N w x hx hS => ih N sp n cap ls w x hx hd16 hS
        generalize tr d [] = X at *
        generalize tr d ls = Y at *
        have hYX := pr_len Y X
        rw [h8_Z] at A0 hb0 hH0
        go_enter Try.func61, Try.ntmps61
        go_wp2_with (first
          | (go_at_call 58; go_must (refine (refPair_h Y X _ hY hX).mono ?_; rintro e w4 ⟨rfl, hb4⟩; have hs4 := hb4.size; have S4 := A3.below hb4 (by omega); have bw4 := bw3.trans (hb4.mono (by omega))))
          | (go_at_call 61; go_must (first
            | (refine (ihc w2 _ (by first | exact hx1 | rfl | exact hwd)).mono ?_; rintro e w3 ⟨rfl, hb3⟩; have hs3 := hb3.size; have A3 := A2.below hb3 (by omega); have bw3 := bw2.trans (hb3.mono (by omega)))
            | (refine (ihd _ _ _ (by first | exact hx1 | rfl | exact hwd) hH0).mono ?_; rintro e w2 ⟨rfl, hb2⟩; have hs2 := hb2.size; simp at hs2; have A2 := A0.below hb2 (by simp); have bw2 := hb0.trans (hb2.mono (by simp)))))
          | (refine st24 (by rfl) _ _ (by rfl) w.heap.size (pr Y X) Z32 (by rfl) (by rfl) hYX Z32_len S4 ?_))
        exact bodyPost_ret (v := .agg (h8 (pr Y X))) (res24 Try.results61 rfl hYX (S4.setRow _)) rfl ⟨rfl, below_setRow bw4 (Nat.le_refl _) _⟩
      · have h1I : ¬ (n : Int) ≤ p := by omega
        obtain ⟨g, off, rfl, hgN, hR⟩ := hS.at0 (by omega)
        have hc1 : ¬ cap = p := by omega
        have hc2 : p ≤ cap := by omega
        have hpn : p ≤ n := by omega
        have e1 : tr (d + 1) ls = pr (tr d (ls.take p)) (tr d (ls.drop p)) := by rw [hp]; rfl
        rw [e1]
        have hX1 := htl (ls.take p) (fun X hX => hall X (List.mem_of_mem_take hX))
        have hX2 := htl (ls.drop p) (fun X hX => hall X (List.mem_of_mem_drop hX))
        have hYX := pr_len (tr d (ls.take p)) (tr d (ls.drop p))
        rw [h8_Z] at A0 hb0 hH0
        have hF0 := hH0.fst p hpn
        have hG0 := hH0.part p (n - p) (cap - p) (by omega) (by omega) (by omega) (by omega)
        rw [List.take_of_length_le (by rw [List.length_drop, ← hln.out]; omega)] at hG0
        replace hp := Hid.mk' hp
        go_enter Try.func61, Try.ntmps61
        go_upto_region 11 with fail
        try simp only [hx1, hwp, Int.toNat_natCast]
        have hsV : w.heap.size < (w.alloc (.cells (h8 Z32) 32)).heap.size := by simp
        rw [h8_Z] at hsV
        generalize w.alloc (.cells _ 32) = V at *
        have hF1 : HS w.heap.size V.drew (some ⟨g, off, none⟩) p cap (ls.take p) := hF0.below ((Below.refl _ _).drew)
        have hF2 : HS V.heap.size V (some ⟨g, off + p * 32, none⟩) (n - p) (cap - p) (ls.drop p) := hG0.mono (by omega)
        refine wp_region_held_drew (S := fun _ => True) (by kernel_rfl) trivial (fun hHeld => ?_)
        refine wpAnyH_take (i := 0) (oi := ⟨_, _, _, _, _, _⟩) (v := ?_) rfl (by kernel_rfl) (by kernel_rfl) (by kernel_rfl) (fun _ _ _ h => h) (Or.inl ⟨by rfl, ?_⟩) (by assumption) ?_
        rotate_left
        · intro u hSw
          go_simp
          try (with_reducible rfl)
        try simp only [Act.put, List.setIfInBounds_toArray, List.set_cons_zero, List.set_cons_succ]
        refine wpAnyH_take (i := 1) (oi := ⟨_, _, _, _, _, _⟩) (v := ?_) rfl (by kernel_rfl) (by kernel_rfl) (by kernel_rfl) (fun _ _ _ h => h) (Or.inl ⟨by rfl, ?_⟩) (by assumption) ?_
        rotate_left
        · intro u hSw
          go_simp
          try (with_reducible rfl)
        try simp only [Act.put, List.setIfInBounds_toArray, List.set_cons_zero, List.set_cons_succ]
        refine wpAnyH_take (i := 2) (oi := ⟨_, _, _, _, _, _⟩) (v := ?_) rfl (by kernel_rfl) (by kernel_rfl) (by kernel_rfl) (fun _ _ _ h => h) (Or.inl ⟨by rfl, ?_⟩) (by assumption) ?_
        rotate_left
        · intro u hSw
          go_simp
          try (with_reducible rfl)
        try simp only [Act.put, List.setIfInBounds_toArray, List.set_cons_zero, List.set_cons_succ]
        refine wpAnyH_take (i := 3) (oi := ⟨_, _, _, _, _, _⟩) (v := ?_) rfl (by kernel_rfl) (by kernel_rfl) (by kernel_rfl) (fun _ _ _ h => h) (Or.inl ⟨by rfl, ?_⟩) (by assumption) ?_
        rotate_left
        · intro u hSw
          go_simp
          try (with_reducible rfl)
        try simp only [Act.put, List.setIfInBounds_toArray, List.set_cons_zero, List.set_cons_succ]
        refine wpAnyH_take (i := 4) (oi := ⟨_, _, _, _, _, _⟩) (v := ?_) rfl (by kernel_rfl) (by kernel_rfl) (by kernel_rfl) (fun _ _ _ h => h) (Or.inl ⟨by rfl, ?_⟩) (by assumption) ?_
        rotate_left
        · intro u hSw
          go_simp
          try (with_reducible rfl)
        try simp only [Act.put, List.setIfInBounds_toArray, List.set_cons_zero, List.set_cons_succ]
        refine wpAnyH_take (i := 6) (oi := ⟨_, _, _, _, _, _⟩) (v := ?_) rfl (by kernel_rfl) (by kernel_rfl) (by kernel_rfl) (fun _ _ _ h => h) (Or.inl ⟨by rfl, ?_⟩) (by assumption) ?_
        rotate_left
        · intro u hSw
          go_simp
          try (with_reducible rfl)
        try simp only [Act.put, List.setIfInBounds_toArray, List.set_cons_zero, List.set_cons_succ]
        refine wpAnyH_take (i := 7) (oi := ⟨_, _, _, _, _, _⟩) (v := ?_) rfl (by kernel_rfl) (by kernel_rfl) (by kernel_rfl) (fun _ _ _ h => h) (Or.inl ⟨by rfl, ?_⟩) (by assumption) ?_
        rotate_left
        · intro u hSw
          go_simp
          try (with_reducible rfl)
        try simp only [Act.put, List.setIfInBounds_toArray, List.set_cons_zero, List.set_cons_succ]
        refine wpAnyH_take (i := 8) (oi := ⟨_, _, _, _, _, _⟩) (v := ?_) rfl (by kernel_rfl) (by kernel_rfl) (by kernel_rfl) (fun _ _ _ h => h) (Or.inl ⟨by rfl, ?_⟩) (by assumption) ?_
        rotate_left
        · intro u hSw
          go_simp
          try (with_reducible rfl)
        try simp only [Act.put, List.setIfInBounds_toArray, List.set_cons_zero, List.set_cons_succ]
        refine wpAnyH_take (i := 9) (oi := ⟨_, _, _, _, _, _⟩) (v := ?_) rfl (by kernel_rfl) (by kernel_rfl) (by kernel_rfl) (fun _ _ _ h => h) (Or.inl ⟨by rfl, ?_⟩) (by assumption) ?_
        rotate_left
        · intro u hSw
          go_simp
          try (with_reducible rfl)
        try simp only [Act.put, List.setIfInBounds_toArray, List.set_cons_zero, List.set_cons_succ]
        refine wpAnyH_take (i := 10) (oi := ⟨_, _, _, _, _, _⟩) (v := ?_) rfl (by kernel_rfl) (by kernel_rfl) (by kernel_rfl) (fun _ _ _ h => h) (Or.inl ⟨by rfl, ?_⟩) (by assumption) ?_
        rotate_left
        · intro u hSw
          go_simp
          try (with_reducible rfl)
        try simp only [Act.put, List.setIfInBounds_toArray, List.set_cons_zero, List.set_cons_succ]
        refine wpAnyH_ready (rs := [5]) (by kernel_rfl) (by simp) ?_
        refine AllReadyH.cons (o := ⟨_, _, _, _, _, _⟩) rfl (fun K hK => ?_) AllReadyH.nil
        go_simp
        refine (ih _ _ p cap (ls.take p) _ _ (by first | exact hx1 | rfl | exact hwd) (by omega) hF1).mono ?_; rintro e u1 ⟨rfl, hu1⟩; have hsu1 := hu1.size; simp at hsu1; have hH1 : Below V.heap.size V u1 := ((Below.refl V.heap.size V).drew).trans (hu1.mono (by simp))
        go_wp2_with fail
        refine hK.out _ _ trivial (fun hHeld => ?_)
        clear hK K
        try simp only [Act.put, List.setIfInBounds_toArray, List.set_cons_zero, List.set_cons_succ]
        refine wpAnyH_ready (rs := [11]) (by kernel_rfl) (by simp) ?_
        refine AllReadyH.cons (o := ⟨_, _, _, _, _, _⟩) rfl (fun K hK => ?_) AllReadyH.nil
        go_simp
        refine (ih _ _ (n - p) (cap - p) (ls.drop p) _ _ (by first | exact hx1 | rfl | exact hwd) (by omega) (hF2.below hH1)).mono ?_; rintro e u2 ⟨rfl, hu2⟩; have hsu2 := hu2.size; have hH2 : Below V.heap.size V u2 := hH1.trans (hu2.mono (by omega))
        go_wp2_with fail
        refine hK.out _ _ trivial (fun hHeld => ?_)
        clear hK K
        try simp only [Act.put, List.setIfInBounds_toArray, List.set_cons_zero, List.set_cons_succ]
        refine wpAnyH_ready (rs := [12]) (by kernel_rfl) (by simp) ?_
        refine AllReadyH.cons (o := ⟨_, _, _, _, _, _⟩) rfl (fun K hK => ?_) AllReadyH.nil
        go_simp
        refine (refPair_h _ _ _ hX1 hX2).mono ?_; rintro e u3 ⟨rfl, hu3⟩; have hsu3 := hu3.size; have hH3 : Below V.heap.size V u3 := hH2.trans (hu3.mono (by omega)); have S3 := A0.below hH3 (by omega)
        go_wp2_with fail
        refine hK.out _ _ trivial (fun hHeld => ?_)
        clear hK K
        try simp only [Act.put, List.setIfInBounds_toArray, List.set_cons_zero, List.set_cons_succ]
        refine wpAnyH_ready (rs := [13]) (by kernel_rfl) (by simp) ?_
        refine AllReadyH.cons (o := ⟨_, _, _, _, _, _⟩) rfl (fun K hK => ?_) AllReadyH.nil
        refine step_want rfl (wp_store_row 32 (.tmp 4) (.tmp 53) rfl w.heap.size (h8 (pr (tr d (ls.take p)) (tr d (ls.drop p)))) rfl rfl 32 _ S3 (s24h8 (pr_len _ _)) (by rw [h8_size, pr_len]; rfl) (h8_one _) ?_)
        refine hK.out _ _ trivial (fun hHeld => ?_)
        clear hK K
        try simp only [Act.put, List.setIfInBounds_toArray, List.set_cons_zero, List.set_cons_succ]
        refine wpAnyH_done (by kernel_rfl) ?_ _
        go_wp2_with fail
        exact bodyPost_ret (v := .agg (h8 (pr (tr d (ls.take p)) (tr d (ls.drop p))))) (res24 Try.results61 rfl hYX (S3.setRow _)) rfl ⟨rfl, below_setRow (hb0.trans (hH3.mono (by omega))) (Nat.le_refl _) _⟩
set_option maxRecDepth 100000 in
set_option maxHeartbeats 1000000 in
/-- The document's Root. -/
theorem refRoot_any (d : Int) (N : Nat) (sp : Option Addr) (n cap : Nat) (ls : List (List Int)) (w : World) (hS : HS N w sp n cap ls) :
    Calls Try.prog 43 #[.int .i64 d, .slice sp n cap] w fun e w' => e = .returned (.tuple #[.agg (h8 (rR d ls)), .int .i64 (rE d ls.length)]) ∧ Below w.heap.size w w' := by
  have hln := hS.len
  have hbd := refBad_any d n
  rw [← hln.out]
  have hb0 := alloc_bel' w (.cells (h8 Z32) 32)
  have hH0 := hS.here.below hb0
  have A0 := Arr.new w 32 (h8 Z32)
  have hRL := rR_len (d := d) hS.l32
  by_cases h : rE d n = 0
  · have e1 : rR d ls = tr d.toNat ls := by unfold rR; rw [← hln.out, if_pos h]
    have hd : 0 ≤ d ∧ d ≤ 16 := by
      unfold rE at h
      by_cases h2 : 0 ≤ d ∧ d ≤ 16
      · exact h2
      · rw [if_neg h2] at h; cases h
    have hr := refroot_any d.toNat w.heap.size sp n cap ls (w.alloc (.cells (h8 Z32) 32)) d (by omega) (by omega) hH0
    rw [← e1] at hr
    rw [h] at hbd ⊢
    clear e1 h
    generalize rR d ls = R at *
    rw [h8_Z] at hr hb0 A0
    clear hH0
    replace hr := Hid.mk' hr
    go_enter Try.func43, Try.ntmps43
    go_wp2_with (first
      | (go_at_call 60; go_must (refine (hbd _).mono ?_; rintro e w1 ⟨rfl, rfl⟩))
      | (go_at_call 61; go_must (refine hr.out.mono ?_; rintro e w2 ⟨rfl, hb2⟩; have S2 := A0.below hb2 (by simp)))
      | (refine st24 (by rfl) _ _ (by rfl) w.heap.size R Z32 (by rfl) (by rfl) hRL Z32_len S2 ?_))
    exact bodyPost_ret (v := .tuple #[.agg (h8 R), .int .i64 0]) (resP Try.results43 rfl rfl hRL (S2.setRow _)) rfl ⟨rfl, below_setRow (hb0.trans (hb2.mono (by simp))) (Nat.le_refl _) _⟩
  · have e1 : rR d ls = Z32 := by unfold rR; rw [← hln.out, if_neg h]
    rw [e1]
    generalize rE d n = c at *
    have hc : (c != 0) = true := by simpa using h
    rw [h8_Z] at hb0 A0
    clear hH0
    go_enter Try.func43, Try.ntmps43
    go_wp2_with (first
      | (go_at_call 60; go_must (refine (hbd _).mono ?_; rintro e w1 ⟨rfl, rfl⟩))
      | (refine st24n (by rfl) _ _ (by rfl) w w.heap.size rfl (by rfl) Z32 (by rfl) (by rfl) Z32_len ?_))
    exact bodyPost_ret (v := .tuple #[.agg (h8 Z32), .int .i64 c]) (resP Try.results43 rfl rfl Z32_len (Arr.new w 32 _)) rfl ⟨rfl, alloc_bel' w _⟩
end Go.Proofs.Ytbfelelngoonjaa

/- Sj, Sk, Sl. -/
import Derived.Test.YtlebojbfcolkhaaPi
import Derived.Test.YtlebojbfcolkhaaA30
/- Layer state: like accounts, like withdrawals. -/
namespace Go.Proofs.Ytlebojbfcolkhaa
set_option linter.unusedSectionVars false
set_option maxHeartbeats 1000000
open Go.RowKit
set_option maxRecDepth 100000
set_option linter.unusedVariables false
set_option linter.unusedSimpArgs false

def decAc : DecidableEq Ac := fun a b => decidable_of_iff (a.bal = b.bal ∧ a.non = b.non ∧ a.lk = b.lk) (by
  constructor
  · intro ⟨h1, h2, h3⟩; cases a; cases b; simp_all
  · rintro rfl; exact ⟨rfl, rfl, rfl⟩)
variable [DecidableEq Ac]
def decOu : DecidableEq Ou := fun a b => decidable_of_iff (a.tw = b.tw ∧ a.am = b.am) (by
  constructor
  · intro ⟨h1, h2⟩; cases a; cases b; simp_all
  · rintro rfl; exact ⟨rfl, rfl⟩)
variable [DecidableEq Ou]
theorem run_sz {t n : Nat} (h : (Try.prog.info? t).map (·.size) = some n) (w : World) : (sizeOf t).run Try.prog w = .ok n w := by
  cases hq : Try.prog.info? t with
  | none => rw [hq] at h; cases h
  | some i =>
    rw [hq] at h
    have hz : i.size = n := by simpa using h
    simp [sizeOf, typeInfo, hq, hz]
theorem isAgg26 (w : World) : (isAgg 26).run Try.prog w = .ok true w := by
  unfold isAgg
  rw [Sem.run_bind, run_underlying Try.underlying26 w]
  rfl
theorem isAgg24' (w : World) : (isAgg 24).run Try.prog w = .ok true w := by
  unfold isAgg
  rw [Sem.run_bind, run_underlying Try.underlying24 w]
  rfl
theorem isAgg22' (w : World) : (isAgg 22).run Try.prog w = .ok false w := by
  unfold isAgg
  rw [Sem.run_bind, run_underlying Try.underlying22 w]
  rfl
theorem part26 {ps : List Ac} (h2 : ∀ a ∈ ps, a.lk.length = 32) {k : Nat} {a : Ac} (ha : ps[k]? = some a) (w : World) : (part 26 (acA ps) (k * 34)).run Try.prog w = .ok (.agg a.arr) w := by
  simp only [part, Sem.run_bind, isAgg26, Result.andThen_ok, if_true, run_sz size26, Sem.run_pure, acA_part h2 ha]
theorem part22 {C : Array Value} {k : Nat} {v : Value} (h : C[k]? = some v) (w : World) : (part 22 C k).run Try.prog w = .ok v w := by
  simp only [part, Sem.run_bind, isAgg22', Result.andThen_ok, h]
  rfl
theorem lk_part {a : Ac} (h : a.lk.length = 32) : a.arr.extract 2 (2 + 32) = h8 a.lk := by
  have hl := by8_len a.lk
  apply Array.ext'
  unfold Ac.arr h8 Ac.cells
  simp
  exact List.take_of_length_le (by omega)
theorem part24 {a : Ac} (h : a.lk.length = 32) (w : World) : (part 24 a.arr 2).run Try.prog w = .ok (.agg (h8 a.lk)) w := by
  simp only [part, Sem.run_bind, isAgg24', Result.andThen_ok, if_true, run_sz size24, Sem.run_pure, lk_part h]
/-- The fields, one after the other. -/
theorem run_eqInD24 {X Y : List Int} (d : Nat) (hX : X.length = 32) (hY : Y.length = 32) (w : World) : (Op.equalIn (d + 3) 24 (.agg (h8 X)) (.agg (h8 Y))).run Try.prog w = .ok (decide (X = Y)) w := by
  obtain ⟨i0, hi, -⟩ := info_parts info5
  have hc : Try.prog.cellsOf 5 = 1 := by kernel_rfl
  rw [run_equalIn_array w (d + 2) _ _ Try.underlying24 hi, hc, eqItems_two w (d + 1) _ _ (bat X) (bat Y) (List.range 32) (fun i h => h8_get (by rw [hX]; simpa using h)) (fun i h => h8_get (by rw [hY]; simpa using h)), bat_ext hX hY]
theorem fields26 : (Try.prog.fieldsOf 26).toList.map (fun f => (f.name != "_", f.type, f.offset)) = [(true, 22, 0), (true, 22, 1), (true, 24, 2)] := by kernel_rfl
theorem fields53 : (Try.prog.fieldsOf 53).toList.map (fun f => (f.name != "_", f.type, f.offset)) = [(true, 22, 0), (true, 22, 1)] := by kernel_rfl
theorem eqf_step {d : Nat} {xs ys : Array Value} {f : Field} {fs : List Field} {u v : Value} {r s : Bool} {w : World} (hn : ¬ f.name = "_") (h1 : (part f.type xs f.offset).run Try.prog w = .ok u w) (h2 : (part f.type ys f.offset).run Try.prog w = .ok v w) (h3 : (Op.equalIn d f.type u v).run Try.prog w = .ok r w)
    (h4 : (Op.eqFields d xs ys fs).run Try.prog w = .ok s w) : (Op.eqFields d xs ys (f :: fs)).run Try.prog w = .ok (r && s) w := by
  simp only [Op.eqFields, hn, ne_eq, not_false_eq_true, if_true, Sem.run_bind, h1, h2, h3, Result.andThen_ok]
  cases r
  · simp
  · simpa using h4
theorem eqf_nil {d : Nat} {xs ys : Array Value} {w : World} : (Op.eqFields d xs ys []).run Try.prog w = .ok true w := by simp [Op.eqFields]
theorem run_eqIn26 {a b : Ac} (d : Nat) (ha : a.lk.length = 32) (hb : b.lk.length = 32) (w : World) : (Op.equalIn (d + 5) 26 (.agg a.arr) (.agg b.arr)).run Try.prog w = .ok (decide (a = b)) w := by
  rw [run_equalIn_struct w (d + 4) 26 _ _ (by kernel_rfl) (by kernel_rfl)]
  have hf := fields26
  generalize (Try.prog.fieldsOf 26).toList = fs at hf
  have hl3 : fs.length = 3 := by simpa using congrArg List.length hf
  match fs, hl3 with
  | [f0, f1, f2], _ =>
  simp only [List.map_cons, List.map_nil, List.cons.injEq, Prod.mk.injEq, and_true, bne_iff_ne, ne_eq, and_assoc] at hf
  obtain ⟨n0, t0, o0, n1, t1, o1, n2, t2, o2⟩ := hf
  have a0 : a.arr[0]? = some (.int .u64 a.bal) := by simp [Ac.arr, Ac.cells]
  have a1 : a.arr[1]? = some (.int .u64 a.non) := by simp [Ac.arr, Ac.cells]
  have b0 : b.arr[0]? = some (.int .u64 b.bal) := by simp [Ac.arr, Ac.cells]
  have b1 : b.arr[1]? = some (.int .u64 b.non) := by simp [Ac.arr, Ac.cells]
  have hd : decide (a = b) = ((a.bal == b.bal) && ((a.non == b.non) && decide (a.lk = b.lk))) := by
    rw [Bool.eq_iff_iff]
    simp only [decide_eq_true_eq, Bool.and_eq_true, beq_iff_eq]
    constructor
    · rintro rfl; exact ⟨rfl, rfl, rfl⟩
    · intro ⟨h1, h2, h3⟩; cases a; cases b; simp_all
  rw [hd]
  have e := eqf_step (d := d + 4) (f := f0) n0 (by rw [t0, o0]; exact part22 a0 w) (by rw [t0, o0]; exact part22 b0 w) (by rw [t0]; exact run_equalIn_int w (d + 3) 22 .u64 .u64 _ _ Try.underlying22)
    (eqf_step (f := f1) n1 (by rw [t1, o1]; exact part22 a1 w) (by rw [t1, o1]; exact part22 b1 w) (by rw [t1]; exact run_equalIn_int w (d + 3) 22 .u64 .u64 _ _ Try.underlying22)
    (eqf_step (f := f2) n2 (by rw [t2, o2]; exact part24 ha w) (by rw [t2, o2]; exact part24 hb w) (by rw [t2]; exact run_eqInD24 (d + 1) ha hb w) eqf_nil))
  rw [e, Bool.and_true]
theorem run_eqIn53 {a b : Ou} (d : Nat) (w : World) : (Op.equalIn (d + 5) 53 (.agg a.arr) (.agg b.arr)).run Try.prog w = .ok (decide (a = b)) w := by
  rw [run_equalIn_struct w (d + 4) 53 _ _ (by kernel_rfl) (by kernel_rfl)]
  have hf := fields53
  generalize (Try.prog.fieldsOf 53).toList = fs at hf
  have hl2 : fs.length = 2 := by simpa using congrArg List.length hf
  match fs, hl2 with
  | [f0, f1], _ =>
  simp only [List.map_cons, List.map_nil, List.cons.injEq, Prod.mk.injEq, and_true, bne_iff_ne, ne_eq, and_assoc] at hf
  obtain ⟨n0, t0, o0, n1, t1, o1⟩ := hf
  have a0 : a.arr[0]? = some (.int .u64 a.tw) := by simp [Ou.arr, Ou.cells]
  have a1 : a.arr[1]? = some (.int .u64 a.am) := by simp [Ou.arr, Ou.cells]
  have b0 : b.arr[0]? = some (.int .u64 b.tw) := by simp [Ou.arr, Ou.cells]
  have b1 : b.arr[1]? = some (.int .u64 b.am) := by simp [Ou.arr, Ou.cells]
  have hd : decide (a = b) = ((a.tw == b.tw) && (a.am == b.am)) := by
    rw [Bool.eq_iff_iff]
    simp only [decide_eq_true_eq, Bool.and_eq_true, beq_iff_eq]
    constructor
    · rintro rfl; exact ⟨rfl, rfl⟩
    · intro ⟨h1, h2⟩; cases a; cases b; simp_all
  rw [hd]
  have e := eqf_step (d := d + 4) (f := f0) n0 (by rw [t0, o0]; exact part22 a0 w) (by rw [t0, o0]; exact part22 b0 w) (by rw [t0]; exact run_equalIn_int w (d + 3) 22 .u64 .u64 _ _ Try.underlying22)
    (eqf_step (f := f1) n1 (by rw [t1, o1]; exact part22 a1 w) (by rw [t1, o1]; exact part22 b1 w) (by rw [t1]; exact run_equalIn_int w (d + 3) 22 .u64 .u64 _ _ Try.underlying22) eqf_nil)
  rw [e, Bool.and_true]
theorem eqItems26 (w : World) (d : Nat) (ps qs : List Ac) (hp : ∀ a ∈ ps, a.lk.length = 32) (hq : ∀ a ∈ qs, a.lk.length = 32) : ∀ is : List Nat, (∀ i ∈ is, i < ps.length) → (∀ i ∈ is, i < qs.length) →
    (Op.eqItems (d + 5) 26 34 (acA ps) (acA qs) is).run Try.prog w = .ok (is.all fun i => decide (ps[i]? = qs[i]?)) w
  | [], _, _ => by simp [Op.eqItems]
  | i :: is, h, h' => by
    have hi := List.getElem?_eq_getElem (h i (by simp))
    have hi' := List.getElem?_eq_getElem (h' i (by simp))
    have ih := eqItems26 w d ps qs hp hq is (fun j hj => h j (by simp [hj])) (fun j hj => h' j (by simp [hj]))
    have m1 := hp _ (List.mem_of_getElem? hi)
    have m2 := hq _ (List.mem_of_getElem? hi')
    simp only [Op.eqItems, Sem.run_bind, part26 hp hi, part26 hq hi', Result.andThen_ok, run_eqIn26 d m1 m2, List.all_cons, hi, hi', Option.some.injEq]
    by_cases he : ps[i]'(h i (by simp)) = qs[i]'(h' i (by simp))
    · simp [he, ih]
    · simp [he]
/-- The arrays of accounts. -/
theorem run_eqIn27 {ps qs : List Ac} (hp1 : ps.length = 32) (hq1 : qs.length = 32) (hp : ∀ a ∈ ps, a.lk.length = 32) (hq : ∀ a ∈ qs, a.lk.length = 32) (w : World) : (Op.equalIn 10000 27 (.agg (acA ps)) (.agg (acA qs))).run Try.prog w = .ok (decide (ps = qs)) w := by
  have hc : Try.prog.cellsOf 26 = 34 := by kernel_rfl
  cases hq' : Try.prog.info? 26 with
  | none => have h := size26; rw [hq'] at h; cases h
  | some i0 =>
  rw [run_equalIn_array w 9999 _ _ Try.underlying27 hq', hc, eqItems26 w 9994 ps qs hp hq (List.range 32) (fun i h => by rw [hp1]; simpa using h) (fun i h => by rw [hq1]; simpa using h)]
  congr 1
  rw [Bool.eq_iff_iff]
  simp only [List.all_eq_true, List.mem_range, decide_eq_true_eq]
  constructor
  · intro h
    apply List.ext_getElem?
    intro i
    by_cases hi : i < 32
    · exact h i hi
    · rw [List.getElem?_eq_none (by omega), List.getElem?_eq_none (by omega)]
  · rintro rfl i _; rfl
theorem run_eq27 {ps qs : List Ac} (hp1 : ps.length = 32) (hq1 : qs.length = 32) (hp : ∀ a ∈ ps, a.lk.length = 32) (hq : ∀ a ∈ qs, a.lk.length = 32) (w : World) : (binOp .eql 27 (.agg (acA ps)) (.agg (acA qs))).run Try.prog w = .ok (.bool (decide (ps = qs))) w := by
  rw [run_eql_struct, run_eqIn27 hp1 hq1 hp hq]; rfl
theorem run_neq27 {ps qs : List Ac} (hp1 : ps.length = 32) (hq1 : qs.length = 32) (hp : ∀ a ∈ ps, a.lk.length = 32) (hq : ∀ a ∈ qs, a.lk.length = 32) (w : World) : (binOp .neq 27 (.agg (acA ps)) (.agg (acA qs))).run Try.prog w = .ok (.bool (!decide (ps = qs))) w := by
  rw [run_neq_struct, run_eqIn27 hp1 hq1 hp hq]; rfl
theorem run_eq26 {a b : Ac} (ha : a.lk.length = 32) (hb : b.lk.length = 32) (w : World) : (binOp .eql 26 (.agg a.arr) (.agg b.arr)).run Try.prog w = .ok (.bool (decide (a = b))) w := by
  rw [run_eql_struct, run_eqIn26 9995 ha hb]; rfl
theorem run_neq53 (a b : Ou) (w : World) : (binOp .neq 53 (.agg a.arr) (.agg b.arr)).run Try.prog w = .ok (.bool (!decide (a = b))) w := by
  rw [run_neq_struct, run_eqIn53 9995]; rfl
end Go.Proofs.Ytlebojbfcolkhaa
/- Layer state: Same, and the document's own. -/
namespace Go.Proofs.Ytlebojbfcolkhaa
set_option linter.unusedSectionVars false
set_option maxHeartbeats 1000000
open Go.RowKit
set_option maxRecDepth 100000
set_option linter.unusedVariables false
set_option linter.unusedSimpArgs false

variable [DecidableEq Ac] [DecidableEq Ou]
set_option maxHeartbeats 2000000 in
theorem outsEqual_any (N N' : Nat) (sp sp' : Option Addr) (n n' cap cap' : Nat) (ls ls' : List Ou) (w : World) (hS : OS N w sp n cap ls) (hS' : OS N' w sp' n' cap' ls') :
    Calls Try.prog 52 #[.slice sp n cap, .slice sp' n' cap'] w fun e w' => e = .returned (.bool (decide (ls = ls'))) ∧ Below w.heap.size w w' := by
  have hS0 := hS.here
  have hS0' := hS'.here
  have hl := hS.len
  have hl' := hS'.len
  have hsm := hS.small
  by_cases hnn : n = n'
  · subst hnn
    have hlen : Hid (ls.length = ls'.length) := Hid.mk' (by rw [← hl.out, ← hl'.out])
    have hnn : ((n : Int) != n) = false := by simp
    clear hS hS'
    go_enter Try.func52, Try.ntmps52
    go_wp2_with fail
    go_loopw [5, 13] (fun p q wr => ∃ j : Nat, q = .int .i64 (j : Int) ∧ j ≤ n ∧ Below w.heap.size w wr ∧ Hid (∀ i, i < j → ls[i]? = ls'[i]?)) (fun _ q _ => n - (intOf q).toNat)
    case atStart => exact ⟨0, rfl, by omega, Below.refl _ _, Hid.mk' (fun i hi => by omega)⟩
    case round =>
      obtain ⟨j, rfl, hj, hbl, hsame⟩ := hrel
      have hszr := hbl.size
      have hS := hS0.below hbl
      have hS' := hS0'.below hbl
      by_cases hlt : j < n
      · have hI : (j : Int) < n := by omega
        obtain ⟨g, off, rfl, hgN, hR⟩ := hS.at0 (by omega)
        obtain ⟨g', off', rfl, hgN', hR'⟩ := hS'.at0 (by omega)
        obtain ⟨X, hX⟩ : ∃ X, ls[j]? = some X := ⟨ls[j]'(by rw [← hl.out]; exact hlt), List.getElem?_eq_getElem _⟩
        obtain ⟨Y, hY⟩ : ∃ X, ls'[j]? = some X := ⟨ls'[j]'(by rw [← hl'.out]; exact hlt), List.getElem?_eq_getElem _⟩
        have h1 := hR j X hX
        have h2 := hR' j Y hY
        have hgl : g < wr.heap.size := Nat.lt_of_lt_of_le hgN (by omega)
        have hgl' : g' < wr.heap.size := Nat.lt_of_lt_of_le hgN' (by omega)
        have hne := run_neq53 X Y
        replace hX := Hid.mk' hX
        replace hY := Hid.mk' hY
        clear hR hR'
        cases hd : decide (X = Y) with
        | true =>
          rw [hd] at hne
          have hXY := Hid.mk' (of_decide_eq_true hd)
          clear hd
          go_wp2_with fail
          refine wp_region_held_drew (S := fun u => Below wr.heap.size wr u) (by kernel_rfl) ((Below.refl _ _).drew) (fun hHeld => ?_)
          refine wpAnyH_take (i := 0) (oi := ⟨_, _, _, _, _, _⟩) (v := ?_) rfl (by kernel_rfl) (by kernel_rfl) (by kernel_rfl) (fun _ _ _ h => h) (Or.inl ⟨by rfl, ?_⟩) (by assumption) ?_
          rotate_left
          · intro u hSw
            go_simp
            try (with_reducible rfl)
          try simp only [Act.put, List.setIfInBounds_toArray, List.set_cons_zero, List.set_cons_succ]
          refine wpAnyH_take (i := 1) (oi := ⟨_, _, _, _, _, _⟩) (v := ?_) rfl (by kernel_rfl) (by kernel_rfl) (by kernel_rfl) (fun _ _ _ h => h) (Or.inl ⟨by rfl, ?_⟩) (by assumption) ?_
          rotate_left
          · intro u hSw
            go_simp
            try (with_reducible rfl)
          try simp only [Act.put, List.setIfInBounds_toArray, List.set_cons_zero, List.set_cons_succ]
          refine wpAnyH_take (i := 2) (oi := ⟨_, _, _, _, _, _⟩) (v := ?_) rfl (by kernel_rfl) (by kernel_rfl) (by kernel_rfl) (fun _ _ _ h => h) (Or.inl ⟨by rfl, ?_⟩) (by assumption) ?_
          rotate_left
          · intro u hSw
            go_simp
            try (with_reducible rfl)
          try simp only [Act.put, List.setIfInBounds_toArray, List.set_cons_zero, List.set_cons_succ]
          refine wpAnyH_take (i := 3) (oi := ⟨_, _, _, _, _, _⟩) rfl (by kernel_rfl) (by kernel_rfl) (by kernel_rfl) (fun _ _ _ h => h) (y53 (by rfl) (.tmp 18) rfl g (off + j * 2) rfl X (fun u hu => range_below h1 hu hgl)) (by assumption) ?_
          try simp only [Act.put, List.setIfInBounds_toArray, List.set_cons_zero, List.set_cons_succ]
          refine wpAnyH_take (i := 4) (oi := ⟨_, _, _, _, _, _⟩) (v := ?_) rfl (by kernel_rfl) (by kernel_rfl) (by kernel_rfl) (fun _ _ _ h => h) (Or.inl ⟨by rfl, ?_⟩) (by assumption) ?_
          rotate_left
          · intro u hSw
            go_simp
            try (with_reducible rfl)
          try simp only [Act.put, List.setIfInBounds_toArray, List.set_cons_zero, List.set_cons_succ]
          refine wpAnyH_take (i := 5) (oi := ⟨_, _, _, _, _, _⟩) (v := ?_) rfl (by kernel_rfl) (by kernel_rfl) (by kernel_rfl) (fun _ _ _ h => h) (Or.inl ⟨by rfl, ?_⟩) (by assumption) ?_
          rotate_left
          · intro u hSw
            go_simp
            try (with_reducible rfl)
          try simp only [Act.put, List.setIfInBounds_toArray, List.set_cons_zero, List.set_cons_succ]
          refine wpAnyH_take (i := 6) (oi := ⟨_, _, _, _, _, _⟩) (v := ?_) rfl (by kernel_rfl) (by kernel_rfl) (by kernel_rfl) (fun _ _ _ h => h) (Or.inl ⟨by rfl, ?_⟩) (by assumption) ?_
          rotate_left
          · intro u hSw
            go_simp
            try (with_reducible rfl)
          try simp only [Act.put, List.setIfInBounds_toArray, List.set_cons_zero, List.set_cons_succ]
          refine wpAnyH_take (i := 7) (oi := ⟨_, _, _, _, _, _⟩) rfl (by kernel_rfl) (by kernel_rfl) (by kernel_rfl) (fun _ _ _ h => h) (y53 (by rfl) (.tmp 22) rfl g' (off' + j * 2) rfl Y (fun u hu => range_below h2 hu hgl')) (by assumption) ?_
          try simp only [Act.put, List.setIfInBounds_toArray, List.set_cons_zero, List.set_cons_succ]
          refine wpAnyH_take (i := 8) (oi := ⟨_, _, _, _, _, _⟩) (v := ?_) rfl (by kernel_rfl) (by kernel_rfl) (by kernel_rfl) (fun _ _ _ h => h) (Or.inl ⟨by rfl, ?_⟩) (by assumption) ?_
          rotate_left
          · intro u hSw
            go_simp
            try (with_reducible rfl)
          try simp only [Act.put, List.setIfInBounds_toArray, List.set_cons_zero, List.set_cons_succ]
          refine wpAnyH_done (by kernel_rfl) ?_ _

          go_wp2_with fail
          go_roundw
          case rel =>
            refine ⟨j + 1, by go_num, by omega, hbl.drew, Hid.mk' (fun i hi => ?_)⟩
            by_cases hij : i = j
            · subst hij; rw [hX.out, hY.out, hXY.out]
            · exact hsame.out i (by omega)
          case measure => simp [intOf]; omega
        | false =>
          rw [hd] at hne
          have hfin : Hid (decide (ls = ls') = false) := Hid.mk' (decide_eq_false (list_take_ne hX.out hY.out (of_decide_eq_false hd)))
          clear hd
          go_wp2_with fail
          refine wp_region_held_drew (S := fun u => Below wr.heap.size wr u) (by kernel_rfl) ((Below.refl _ _).drew) (fun hHeld => ?_)
          refine wpAnyH_take (i := 0) (oi := ⟨_, _, _, _, _, _⟩) (v := ?_) rfl (by kernel_rfl) (by kernel_rfl) (by kernel_rfl) (fun _ _ _ h => h) (Or.inl ⟨by rfl, ?_⟩) (by assumption) ?_
          rotate_left
          · intro u hSw
            go_simp
            try (with_reducible rfl)
          try simp only [Act.put, List.setIfInBounds_toArray, List.set_cons_zero, List.set_cons_succ]
          refine wpAnyH_take (i := 1) (oi := ⟨_, _, _, _, _, _⟩) (v := ?_) rfl (by kernel_rfl) (by kernel_rfl) (by kernel_rfl) (fun _ _ _ h => h) (Or.inl ⟨by rfl, ?_⟩) (by assumption) ?_
          rotate_left
          · intro u hSw
            go_simp
            try (with_reducible rfl)
          try simp only [Act.put, List.setIfInBounds_toArray, List.set_cons_zero, List.set_cons_succ]
          refine wpAnyH_take (i := 2) (oi := ⟨_, _, _, _, _, _⟩) (v := ?_) rfl (by kernel_rfl) (by kernel_rfl) (by kernel_rfl) (fun _ _ _ h => h) (Or.inl ⟨by rfl, ?_⟩) (by assumption) ?_
          rotate_left
          · intro u hSw
            go_simp
            try (with_reducible rfl)
          try simp only [Act.put, List.setIfInBounds_toArray, List.set_cons_zero, List.set_cons_succ]
          refine wpAnyH_take (i := 3) (oi := ⟨_, _, _, _, _, _⟩) rfl (by kernel_rfl) (by kernel_rfl) (by kernel_rfl) (fun _ _ _ h => h) (y53 (by rfl) (.tmp 18) rfl g (off + j * 2) rfl X (fun u hu => range_below h1 hu hgl)) (by assumption) ?_
          try simp only [Act.put, List.setIfInBounds_toArray, List.set_cons_zero, List.set_cons_succ]
          refine wpAnyH_take (i := 4) (oi := ⟨_, _, _, _, _, _⟩) (v := ?_) rfl (by kernel_rfl) (by kernel_rfl) (by kernel_rfl) (fun _ _ _ h => h) (Or.inl ⟨by rfl, ?_⟩) (by assumption) ?_
          rotate_left
          · intro u hSw
            go_simp
            try (with_reducible rfl)
          try simp only [Act.put, List.setIfInBounds_toArray, List.set_cons_zero, List.set_cons_succ]
          refine wpAnyH_take (i := 5) (oi := ⟨_, _, _, _, _, _⟩) (v := ?_) rfl (by kernel_rfl) (by kernel_rfl) (by kernel_rfl) (fun _ _ _ h => h) (Or.inl ⟨by rfl, ?_⟩) (by assumption) ?_
          rotate_left
          · intro u hSw
            go_simp
            try (with_reducible rfl)
          try simp only [Act.put, List.setIfInBounds_toArray, List.set_cons_zero, List.set_cons_succ]
          refine wpAnyH_take (i := 6) (oi := ⟨_, _, _, _, _, _⟩) (v := ?_) rfl (by kernel_rfl) (by kernel_rfl) (by kernel_rfl) (fun _ _ _ h => h) (Or.inl ⟨by rfl, ?_⟩) (by assumption) ?_
          rotate_left
          · intro u hSw
            go_simp
            try (with_reducible rfl)
          try simp only [Act.put, List.setIfInBounds_toArray, List.set_cons_zero, List.set_cons_succ]
          refine wpAnyH_take (i := 7) (oi := ⟨_, _, _, _, _, _⟩) rfl (by kernel_rfl) (by kernel_rfl) (by kernel_rfl) (fun _ _ _ h => h) (y53 (by rfl) (.tmp 22) rfl g' (off' + j * 2) rfl Y (fun u hu => range_below h2 hu hgl')) (by assumption) ?_
          try simp only [Act.put, List.setIfInBounds_toArray, List.set_cons_zero, List.set_cons_succ]
          refine wpAnyH_take (i := 8) (oi := ⟨_, _, _, _, _, _⟩) (v := ?_) rfl (by kernel_rfl) (by kernel_rfl) (by kernel_rfl) (fun _ _ _ h => h) (Or.inl ⟨by rfl, ?_⟩) (by assumption) ?_
          rotate_left
          · intro u hSw
            go_simp
            try (with_reducible rfl)
          try simp only [Act.put, List.setIfInBounds_toArray, List.set_cons_zero, List.set_cons_succ]
          refine wpAnyH_done (by kernel_rfl) ?_ _

          go_wp2_with fail
          go_ret
          exact ⟨by rw [hfin.out]; rfl, hbl.drew⟩
      · obtain rfl : j = n := by omega
        have hI : ¬ (j : Int) < j := by omega
        have hfin : Hid (decide (ls = ls') = true) := Hid.mk' (decide_eq_true (list_ext_take hlen.out (by rw [← hl.out]; exact hsame.out)))
        go_wp2_with fail
        go_ret
        exact ⟨by rw [hfin.out]; rfl, hbl⟩
  · have hne : ((n : Int) != n') = true := by simp; omega
    have hfin : Hid (decide (ls = ls') = false) := Hid.mk' (decide_eq_false (fun e => hnn (by rw [hl.out, hl'.out, e])))
    replace hnn := Hid.mk' hnn
    go_enter Try.func52, Try.ntmps52
    go_wp2_with fail
    go_ret
    exact ⟨by rw [hfin.out]; rfl, Below.refl _ _⟩
end Go.Proofs.Ytlebojbfcolkhaa
/- Layer state: Same, and the document's own. -/
namespace Go.Proofs.Ytlebojbfcolkhaa
set_option linter.unusedSectionVars false
set_option maxHeartbeats 1000000
open Go.RowKit
set_option maxRecDepth 100000
set_option linter.unusedVariables false
set_option linter.unusedSimpArgs false

variable [DecidableEq Ac] [DecidableEq Ou]
def smB (ps : List Ac) (os : List Ou) (qs : List Ac) (us : List Ou) : Bool := decide (ps = qs) && decide (os = us)
set_option maxHeartbeats 2000000 in
theorem ssame_any (ps : List Ac) (N : Nat) (sp : Option Addr) (n cap : Nat) (ls : List Ou) (qs : List Ac) (N' : Nat) (sp' : Option Addr) (n' cap' : Nat) (ls' : List Ou) (w : World) (hS : SS N w ps sp n cap ls) (hT : SS N' w qs sp' n' cap' ls') :
    Calls Try.prog 15 #[.agg (stA ps sp n cap), .agg (stA qs sp' n' cap')] w fun e w' => e = .returned (.bool (smB ps ls qs ls')) ∧ Below w.heap.size w w' := by
  have hp1 := hS.a32.out
  have hp2 := hS.l32
  have hq1 := hT.a32.out
  have hq2 := hT.l32
  have hS := hS.here
  have hT := hT.here
  have A0 := (Arr.new w 30 (stA ps sp n cap)).alloc (.cells (stA qs sp' n' cap') 30)
  have D0 : Arr ((w.alloc (.cells (stA ps sp n cap) 30)).alloc (.cells (stA qs sp' n' cap') 30)) (w.heap.size + 1) 30 (stA qs sp' n' cap') := by simpa using Arr.new (w.alloc (.cells (stA ps sp n cap) 30)) 30 (stA qs sp' n' cap')
  have B0 := (alloc_bel' w (.cells (stA ps sp n cap) 30)).alloc (by simp) (.cells (stA qs sp' n' cap') 30)
  have heq := run_eq27 hp1 hq1 hp2 hq2
  have hsm : Hid (smB ps ls qs ls' = (decide (ps = qs) && decide (ls = ls'))) := Hid.mk' rfl
  have c1 := A0.stOut hp1 hp2
  have c2 := D0.stOut hq1 hq2
  have hE := Hid.mk' (outsEqual_any _ _ sp sp' n n' cap cap' ls ls' _ (hS.below B0).outs (hT.below B0).outs)
  cases hd : decide (ps = qs) with
  | true =>
    rw [hd] at heq
    replace hsm : Hid (smB ps ls qs ls' = decide (ls = ls')) := Hid.mk' (by rw [hsm.out, hd]; rfl)
    clear hd
    go_enter Try.func15, Try.ntmps15
    go_wp2_with (first
      | (refine ld27 (by rfl) _ (by rfl) w.heap.size 30 (by rfl) ps sp n cap hp1 hp2 A0 ?_)
      | (refine ld27 (by rfl) _ (by rfl) (w.heap.size + 1) 30 (by rfl) qs sp' n' cap' hq1 hq2 D0 ?_)
      | (go_at_call 52; go_must (refine hE.out.mono ?_; rintro e w1 ⟨rfl, hb1⟩)))
    go_ret
    exact ⟨by rw [hsm.out]; rfl, B0.trans (hb1.mono B0.size)⟩
  | false =>
    rw [hd] at heq
    replace hsm : Hid (smB ps ls qs ls' = false) := Hid.mk' (by rw [hsm.out, hd]; rfl)
    clear hd
    go_enter Try.func15, Try.ntmps15
    go_wp2_with (first
      | (refine ld27 (by rfl) _ (by rfl) w.heap.size 30 (by rfl) ps sp n cap hp1 hp2 A0 ?_)
      | (refine ld27 (by rfl) _ (by rfl) (w.heap.size + 1) 30 (by rfl) qs sp' n' cap' hq1 hq2 D0 ?_))
    go_ret
    exact ⟨by rw [hsm.out]; rfl, B0⟩
set_option maxHeartbeats 2000000 in
theorem refSsame_any (ps : List Ac) (N : Nat) (sp : Option Addr) (n cap : Nat) (ls : List Ou) (qs : List Ac) (N' : Nat) (sp' : Option Addr) (n' cap' : Nat) (ls' : List Ou) (w : World) (hS : SS N w ps sp n cap ls) (hT : SS N' w qs sp' n' cap' ls') :
    Calls Try.prog 16 #[.agg (stA ps sp n cap), .agg (stA qs sp' n' cap')] w fun e w' => e = .returned (.bool (smB ps ls qs ls')) ∧ Below w.heap.size w w' := by
  have hp1 := hS.a32.out
  have hp2 := hS.l32
  have hq1 := hT.a32.out
  have hq2 := hT.l32
  have hS := hS.here
  have hT := hT.here
  have A0 := (Arr.new w 30 (stA ps sp n cap)).alloc (.cells (stA qs sp' n' cap') 30)
  have D0 : Arr ((w.alloc (.cells (stA ps sp n cap) 30)).alloc (.cells (stA qs sp' n' cap') 30)) (w.heap.size + 1) 30 (stA qs sp' n' cap') := by simpa using Arr.new (w.alloc (.cells (stA ps sp n cap) 30)) 30 (stA qs sp' n' cap')
  have B0 := (alloc_bel' w (.cells (stA ps sp n cap) 30)).alloc (by simp) (.cells (stA qs sp' n' cap') 30)
  have heq := run_neq27 hp1 hq1 hp2 hq2
  have hsm : Hid (smB ps ls qs ls' = (decide (ps = qs) && decide (ls = ls'))) := Hid.mk' rfl
  have c1 := A0.stOut hp1 hp2
  have c2 := D0.stOut hq1 hq2
  have hl := hS.outs.len
  have hl' := hT.outs.len
  have hbn := hS.outs.small
  cases hd : decide (ps = qs) with
  | true =>
    rw [hd] at heq
    replace hsm : Hid (smB ps ls qs ls' = decide (ls = ls')) := Hid.mk' (by rw [hsm.out, hd]; rfl)
    clear hd
    by_cases hnn : n = n'
    · subst hnn
      have hlen : Hid (ls.length = ls'.length) := Hid.mk' (by rw [← hl.out, ← hl'.out])
      have hnn : ((n : Int) != n) = false := by simp
      have hS0 := (hS.below B0).outs.here
      have hS0' := (hT.below B0).outs.here
      clear hS hT
      go_enter Try.func16, Try.ntmps16
      go_upto_region 4 with (first
        | (refine ld27 (by rfl) _ (by rfl) w.heap.size 30 (by rfl) ps sp n cap hp1 hp2 A0 ?_)
        | (refine ld27 (by rfl) _ (by rfl) (w.heap.size + 1) 30 (by rfl) qs sp' n cap' hq1 hq2 D0 ?_))
      clear c1 c2
      have A1 := A0
      have D1 := D0
      clear A0 D0
      generalize (w.alloc (.cells (stA ps sp n cap) 30)).alloc (.cells (stA qs sp' n cap') 30) = W0 at *
      go_loopw [5] (fun q wr => ∃ j : Nat, q = .int .i64 (j : Int) ∧ j ≤ n ∧ Below W0.heap.size W0 wr ∧ Hid (∀ i, i < j → ls[i]? = ls'[i]?)) (fun q _ => n - (intOf q).toNat)
      case atStart => exact ⟨0, rfl, by omega, Below.refl _ _, Hid.mk' (fun i hi => by omega)⟩
      case round =>
        obtain ⟨j, rfl, hj, hbl, hsame⟩ := hrel
        have hszr := hbl.size
        have hS := hS0.below hbl
        have hS' := hS0'.below hbl
        have hA1 := A1.below hbl A1.lt
        have hA2 := D1.below hbl D1.lt
        have c1 := hA1.stOut hp1 hp2
        have c2 := hA2.stOut hq1 hq2
        by_cases hlt : j < n
        · have hI : (j : Int) < n := by omega
          obtain ⟨g, off, rfl, hgN, hR⟩ := hS.at0 (by omega)
          obtain ⟨g', off', rfl, hgN', hR'⟩ := hS'.at0 (by omega)
          obtain ⟨X, hX⟩ : ∃ X, ls[j]? = some X := ⟨ls[j]'(by rw [← hl.out]; exact hlt), List.getElem?_eq_getElem _⟩
          obtain ⟨Y, hY⟩ : ∃ X, ls'[j]? = some X := ⟨ls'[j]'(by rw [← hl'.out]; exact hlt), List.getElem?_eq_getElem _⟩
          have h1 := hR j X hX
          have h2 := hR' j Y hY
          have hgl : g < wr.heap.size := Nat.lt_of_lt_of_le hgN (by omega)
          have hgl' : g' < wr.heap.size := Nat.lt_of_lt_of_le hgN' (by omega)
          have hne := run_neq53 X Y
          replace hX := Hid.mk' hX
          replace hY := Hid.mk' hY
          clear hR hR'
          cases hd : decide (X = Y) with
          | true =>
            rw [hd] at hne
            have hXY := Hid.mk' (of_decide_eq_true hd)
            clear hd
            go_wp2_with fail
            refine wp_region_held_drew (S := fun u => Below wr.heap.size wr u) (by kernel_rfl) ((Below.refl _ _).drew) (fun hHeld => ?_)
            refine wpAnyH_take (i := 0) (oi := ⟨_, _, _, _, _, _⟩) (v := ?_) rfl (by kernel_rfl) (by kernel_rfl) (by kernel_rfl) (fun _ _ _ h => h) (Or.inl ⟨by rfl, ?_⟩) (by assumption) ?_
            rotate_left
            · intro u hSw
              go_simp
              try (with_reducible rfl)
            try simp only [Act.put, List.setIfInBounds_toArray, List.set_cons_zero, List.set_cons_succ]
            refine wpAnyH_take (i := 1) (oi := ⟨_, _, _, _, _, _⟩) (v := ?_) rfl (by kernel_rfl) (by kernel_rfl) (by kernel_rfl) (fun _ _ _ h => h) (Or.inl ⟨by rfl, ?_⟩) (by assumption) ?_
            rotate_left
            · intro u hSw
              have cc := (hSw.cell (p := ⟨w.heap.size, 1088, none⟩) hA1.lt).trans c1
              go_simp
              try (with_reducible rfl)
            try simp only [Act.put, List.setIfInBounds_toArray, List.set_cons_zero, List.set_cons_succ]
            refine wpAnyH_take (i := 2) (oi := ⟨_, _, _, _, _, _⟩) (v := ?_) rfl (by kernel_rfl) (by kernel_rfl) (by kernel_rfl) (fun _ _ _ h => h) (Or.inl ⟨by rfl, ?_⟩) (by assumption) ?_
            rotate_left
            · intro u hSw
              go_simp
              try (with_reducible rfl)
            try simp only [Act.put, List.setIfInBounds_toArray, List.set_cons_zero, List.set_cons_succ]
            refine wpAnyH_take (i := 3) (oi := ⟨_, _, _, _, _, _⟩) (v := ?_) rfl (by kernel_rfl) (by kernel_rfl) (by kernel_rfl) (fun _ _ _ h => h) (Or.inl ⟨by rfl, ?_⟩) (by assumption) ?_
            rotate_left
            · intro u hSw
              go_simp
              try (with_reducible rfl)
            try simp only [Act.put, List.setIfInBounds_toArray, List.set_cons_zero, List.set_cons_succ]
            refine wpAnyH_take (i := 4) (oi := ⟨_, _, _, _, _, _⟩) rfl (by kernel_rfl) (by kernel_rfl) (by kernel_rfl) (fun _ _ _ h => h) (y53 (by rfl) (.tmp 30) rfl g (off + j * 2) rfl X (fun u hu => range_below h1 hu hgl)) (by assumption) ?_
            try simp only [Act.put, List.setIfInBounds_toArray, List.set_cons_zero, List.set_cons_succ]
            refine wpAnyH_take (i := 5) (oi := ⟨_, _, _, _, _, _⟩) (v := ?_) rfl (by kernel_rfl) (by kernel_rfl) (by kernel_rfl) (fun _ _ _ h => h) (Or.inl ⟨by rfl, ?_⟩) (by assumption) ?_
            rotate_left
            · intro u hSw
              go_simp
              try (with_reducible rfl)
            try simp only [Act.put, List.setIfInBounds_toArray, List.set_cons_zero, List.set_cons_succ]
            refine wpAnyH_take (i := 6) (oi := ⟨_, _, _, _, _, _⟩) (v := ?_) rfl (by kernel_rfl) (by kernel_rfl) (by kernel_rfl) (fun _ _ _ h => h) (Or.inl ⟨by rfl, ?_⟩) (by assumption) ?_
            rotate_left
            · intro u hSw
              have cc := (hSw.cell (p := ⟨w.heap.size + 1, 1088, none⟩) hA2.lt).trans c2
              go_simp
              try (with_reducible rfl)
            try simp only [Act.put, List.setIfInBounds_toArray, List.set_cons_zero, List.set_cons_succ]
            refine wpAnyH_take (i := 7) (oi := ⟨_, _, _, _, _, _⟩) (v := ?_) rfl (by kernel_rfl) (by kernel_rfl) (by kernel_rfl) (fun _ _ _ h => h) (Or.inl ⟨by rfl, ?_⟩) (by assumption) ?_
            rotate_left
            · intro u hSw
              go_simp
              try (with_reducible rfl)
            try simp only [Act.put, List.setIfInBounds_toArray, List.set_cons_zero, List.set_cons_succ]
            refine wpAnyH_take (i := 8) (oi := ⟨_, _, _, _, _, _⟩) (v := ?_) rfl (by kernel_rfl) (by kernel_rfl) (by kernel_rfl) (fun _ _ _ h => h) (Or.inl ⟨by rfl, ?_⟩) (by assumption) ?_
            rotate_left
            · intro u hSw
              go_simp
              try (with_reducible rfl)
            try simp only [Act.put, List.setIfInBounds_toArray, List.set_cons_zero, List.set_cons_succ]
            refine wpAnyH_take (i := 9) (oi := ⟨_, _, _, _, _, _⟩) rfl (by kernel_rfl) (by kernel_rfl) (by kernel_rfl) (fun _ _ _ h => h) (y53 (by rfl) (.tmp 35) rfl g' (off' + j * 2) rfl Y (fun u hu => range_below h2 hu hgl')) (by assumption) ?_
            try simp only [Act.put, List.setIfInBounds_toArray, List.set_cons_zero, List.set_cons_succ]
            refine wpAnyH_take (i := 10) (oi := ⟨_, _, _, _, _, _⟩) (v := ?_) rfl (by kernel_rfl) (by kernel_rfl) (by kernel_rfl) (fun _ _ _ h => h) (Or.inl ⟨by rfl, ?_⟩) (by assumption) ?_
            rotate_left
            · intro u hSw
              go_simp
              try (with_reducible rfl)
            try simp only [Act.put, List.setIfInBounds_toArray, List.set_cons_zero, List.set_cons_succ]
            refine wpAnyH_done (by kernel_rfl) ?_ _

            go_wp2_with fail
            go_roundw
            case rel =>
              refine ⟨j + 1, by go_num, by omega, hbl.drew, Hid.mk' (fun i hi => ?_)⟩
              by_cases hij : i = j
              · subst hij; rw [hX.out, hY.out, hXY.out]
              · exact hsame.out i (by omega)
            case measure => simp [intOf]; omega
          | false =>
            rw [hd] at hne
            have hfin : Hid (decide (ls = ls') = false) := Hid.mk' (decide_eq_false (list_take_ne hX.out hY.out (of_decide_eq_false hd)))
            clear hd
            go_wp2_with fail
            refine wp_region_held_drew (S := fun u => Below wr.heap.size wr u) (by kernel_rfl) ((Below.refl _ _).drew) (fun hHeld => ?_)
            refine wpAnyH_take (i := 0) (oi := ⟨_, _, _, _, _, _⟩) (v := ?_) rfl (by kernel_rfl) (by kernel_rfl) (by kernel_rfl) (fun _ _ _ h => h) (Or.inl ⟨by rfl, ?_⟩) (by assumption) ?_
            rotate_left
            · intro u hSw
              go_simp
              try (with_reducible rfl)
            try simp only [Act.put, List.setIfInBounds_toArray, List.set_cons_zero, List.set_cons_succ]
            refine wpAnyH_take (i := 1) (oi := ⟨_, _, _, _, _, _⟩) (v := ?_) rfl (by kernel_rfl) (by kernel_rfl) (by kernel_rfl) (fun _ _ _ h => h) (Or.inl ⟨by rfl, ?_⟩) (by assumption) ?_
            rotate_left
            · intro u hSw
              have cc := (hSw.cell (p := ⟨w.heap.size, 1088, none⟩) hA1.lt).trans c1
              go_simp
              try (with_reducible rfl)
            try simp only [Act.put, List.setIfInBounds_toArray, List.set_cons_zero, List.set_cons_succ]
            refine wpAnyH_take (i := 2) (oi := ⟨_, _, _, _, _, _⟩) (v := ?_) rfl (by kernel_rfl) (by kernel_rfl) (by kernel_rfl) (fun _ _ _ h => h) (Or.inl ⟨by rfl, ?_⟩) (by assumption) ?_
            rotate_left
            · intro u hSw
              go_simp
              try (with_reducible rfl)
            try simp only [Act.put, List.setIfInBounds_toArray, List.set_cons_zero, List.set_cons_succ]
            refine wpAnyH_take (i := 3) (oi := ⟨_, _, _, _, _, _⟩) (v := ?_) rfl (by kernel_rfl) (by kernel_rfl) (by kernel_rfl) (fun _ _ _ h => h) (Or.inl ⟨by rfl, ?_⟩) (by assumption) ?_
            rotate_left
            · intro u hSw
              go_simp
              try (with_reducible rfl)
            try simp only [Act.put, List.setIfInBounds_toArray, List.set_cons_zero, List.set_cons_succ]
            refine wpAnyH_take (i := 4) (oi := ⟨_, _, _, _, _, _⟩) rfl (by kernel_rfl) (by kernel_rfl) (by kernel_rfl) (fun _ _ _ h => h) (y53 (by rfl) (.tmp 30) rfl g (off + j * 2) rfl X (fun u hu => range_below h1 hu hgl)) (by assumption) ?_
            try simp only [Act.put, List.setIfInBounds_toArray, List.set_cons_zero, List.set_cons_succ]
            refine wpAnyH_take (i := 5) (oi := ⟨_, _, _, _, _, _⟩) (v := ?_) rfl (by kernel_rfl) (by kernel_rfl) (by kernel_rfl) (fun _ _ _ h => h) (Or.inl ⟨by rfl, ?_⟩) (by assumption) ?_
            rotate_left
            · intro u hSw
              go_simp
              try (with_reducible rfl)
            try simp only [Act.put, List.setIfInBounds_toArray, List.set_cons_zero, List.set_cons_succ]
            refine wpAnyH_take (i := 6) (oi := ⟨_, _, _, _, _, _⟩) (v := ?_) rfl (by kernel_rfl) (by kernel_rfl) (by kernel_rfl) (fun _ _ _ h => h) (Or.inl ⟨by rfl, ?_⟩) (by assumption) ?_
            rotate_left
            · intro u hSw
              have cc := (hSw.cell (p := ⟨w.heap.size + 1, 1088, none⟩) hA2.lt).trans c2
              go_simp
              try (with_reducible rfl)
            try simp only [Act.put, List.setIfInBounds_toArray, List.set_cons_zero, List.set_cons_succ]
            refine wpAnyH_take (i := 7) (oi := ⟨_, _, _, _, _, _⟩) (v := ?_) rfl (by kernel_rfl) (by kernel_rfl) (by kernel_rfl) (fun _ _ _ h => h) (Or.inl ⟨by rfl, ?_⟩) (by assumption) ?_
            rotate_left
            · intro u hSw
              go_simp
              try (with_reducible rfl)
            try simp only [Act.put, List.setIfInBounds_toArray, List.set_cons_zero, List.set_cons_succ]
            refine wpAnyH_take (i := 8) (oi := ⟨_, _, _, _, _, _⟩) (v := ?_) rfl (by kernel_rfl) (by kernel_rfl) (by kernel_rfl) (fun _ _ _ h => h) (Or.inl ⟨by rfl, ?_⟩) (by assumption) ?_
            rotate_left
            · intro u hSw
              go_simp
              try (with_reducible rfl)
            try simp only [Act.put, List.setIfInBounds_toArray, List.set_cons_zero, List.set_cons_succ]
            refine wpAnyH_take (i := 9) (oi := ⟨_, _, _, _, _, _⟩) rfl (by kernel_rfl) (by kernel_rfl) (by kernel_rfl) (fun _ _ _ h => h) (y53 (by rfl) (.tmp 35) rfl g' (off' + j * 2) rfl Y (fun u hu => range_below h2 hu hgl')) (by assumption) ?_
            try simp only [Act.put, List.setIfInBounds_toArray, List.set_cons_zero, List.set_cons_succ]
            refine wpAnyH_take (i := 10) (oi := ⟨_, _, _, _, _, _⟩) (v := ?_) rfl (by kernel_rfl) (by kernel_rfl) (by kernel_rfl) (fun _ _ _ h => h) (Or.inl ⟨by rfl, ?_⟩) (by assumption) ?_
            rotate_left
            · intro u hSw
              go_simp
              try (with_reducible rfl)
            try simp only [Act.put, List.setIfInBounds_toArray, List.set_cons_zero, List.set_cons_succ]
            refine wpAnyH_done (by kernel_rfl) ?_ _

            go_wp2_with fail
            go_ret
            exact ⟨by rw [hsm.out, hfin.out]; rfl, (B0.trans (hbl.mono B0.size)).drew⟩
        · obtain rfl : j = n := by omega
          have hI : ¬ (j : Int) < j := by omega
          have hfin : Hid (decide (ls = ls') = true) := Hid.mk' (decide_eq_true (list_ext_take hlen.out (by rw [← hl.out]; exact hsame.out)))
          go_wp2_with fail
          go_ret
          exact ⟨by rw [hsm.out, hfin.out]; rfl, (B0.trans (hbl.mono B0.size))⟩
    · have hne : ((n : Int) != n') = true := by simp; omega
      have hfin : Hid (decide (ls = ls') = false) := Hid.mk' (decide_eq_false (fun e => hnn (by rw [hl.out, hl'.out, e])))
      replace hnn := Hid.mk' hnn
      go_enter Try.func16, Try.ntmps16
      go_wp2_with (first
        | (refine ld27 (by rfl) _ (by rfl) w.heap.size 30 (by rfl) ps sp n cap hp1 hp2 A0 ?_)
        | (refine ld27 (by rfl) _ (by rfl) (w.heap.size + 1) 30 (by rfl) qs sp' n' cap' hq1 hq2 D0 ?_))
      go_ret
      exact ⟨by rw [hsm.out, hfin.out]; rfl, B0⟩
  | false =>
    rw [hd] at heq
    replace hsm : Hid (smB ps ls qs ls' = false) := Hid.mk' (by rw [hsm.out, hd]; rfl)
    clear hd
    go_enter Try.func16, Try.ntmps16
    go_wp2_with (first
      | (refine ld27 (by rfl) _ (by rfl) w.heap.size 30 (by rfl) ps sp n cap hp1 hp2 A0 ?_)
      | (refine ld27 (by rfl) _ (by rfl) (w.heap.size + 1) 30 (by rfl) qs sp' n' cap' hq1 hq2 D0 ?_))
    go_ret
    exact ⟨by rw [hsm.out]; rfl, B0⟩
end Go.Proofs.Ytlebojbfcolkhaa

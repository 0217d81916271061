/- Sz, Sw. -/
import Derived.Test.YtlebojbfcolkhaaA25
import Derived.Test.YtlebojbfcolkhaaQi
import Derived.Test.YtlebojbfcolkhaaA32
import Derived.Test.YtlebojbfcolkhaaA36
import Derived.Test.YtlebojbfcolkhaaA28
/- Layer state: a thing. -/
namespace Go.Proofs.Ytlebojbfcolkhaa
set_option linter.unusedSectionVars false
set_option maxHeartbeats 1000000
open Go.RowKit
set_option maxRecDepth 100000
set_option linter.unusedVariables false
set_option linter.unusedSimpArgs false

variable [DecidableEq Ac] [DecidableEq Ou]
def thC (a : Ac) (b : Ou) (R : List Int) : List Value := a.cells ++ (b.cells ++ by8 R)
def thA (a : Ac) (b : Ou) (R : List Int) : Array Value := (thC a b R).toArray
theorem thC_len {a : Ac} {b : Ou} {R : List Int} (ha : a.lk.length = 32) (hR : R.length = 32) : (thC a b R).length = 68 := by simp [thC, Ac.len ha, by8_len, hR, Ou.cells]
theorem arr_part {w : World} {g ty : Nat} {C : List Value} (h : Arr w g ty C.toArray) (A B D : List Value) (hC : C = A ++ (B ++ D)) : w.rangeAt g A.length B := fun j v hv => by
  have hj : j < B.length := (List.getElem?_eq_some_iff.1 hv).1
  rw [h.cell, hC]
  simp only [List.getElem?_toArray]
  rw [List.getElem?_append_right (by omega), Nat.add_sub_cancel_left, List.getElem?_append_left hj]
  exact hv
theorem Arr.thA0 {w : World} {g ty : Nat} {a : Ac} {b : Ou} {R : List Int} (h : Arr w g ty (thA a b R)) : w.rangeAt g 0 a.cells := arr_part h [] a.cells _ rfl
section
variable {H : Type} {enc : TypeId × Value → H} {W : World} {base : Nat}
theorem th_of_trod {fuel : Nat} {cs : List Value} {x : DataW H × List MemPlace} (h : DataW.trod enc Try.prog W base (fun _ => true) true fuel 55 cs = some x) :
    ∃ a b R, cs = thC a b R ∧ AcOK a ∧ OuOK b ∧ R.length = 32 ∧ Bts R := by
  obtain ⟨xs, n, rfl, hdx, hl, hxl, hff⟩ := DataW.trod_struct Try.underlying55 h
  rw [cells55] at hl
  simp at hxl
  match xs, hxl with
  | [x0, x1, x2], _ =>
  have f0 := hff 0 _ rfl
  have f1 := hff 1 _ rfl
  have f2 := hff 2 _ rfl
  simp [cells26, cells53, cells29] at f0 f1 f2
  obtain ⟨a, e0, ha⟩ := ac_of_trod _ _ _ f0
  obtain ⟨b, e1, hb⟩ := ou_of_trod _ _ _ f1
  obtain ⟨R, hR, bR, e2⟩ := h_of_trod f2
  refine ⟨a, b, R, ?_, ha, hb, hR, bR⟩
  unfold thC
  rw [← e0, ← e1, ← e2]
  rw [List.take_of_length_le (l := List.drop 36 cs) (by rw [List.length_drop]; omega)]
  rw [take_drop_cat cs 2 34, List.take_append_drop]
end
end Go.Proofs.Ytlebojbfcolkhaa
/- Layer state: the law StateBinds: what its walk wants. -/
namespace Go.Proofs.Ytlebojbfcolkhaa
set_option linter.unusedSectionVars false
set_option maxHeartbeats 1000000
open Go.RowKit
set_option maxRecDepth 100000
set_option linter.unusedVariables false
set_option linter.unusedSimpArgs false

variable [DecidableEq Ac] [DecidableEq Ou]
/-- A claim: a thing and its witness. -/
def clC (a : Ac) (b : Ou) (R : List Int) (sp : Option Addr) (n cap : Nat) (o : List Int) (c : Int) : List Value := thC a b R ++ wtC sp n cap o c
def clA2 (a : Ac) (b : Ou) (R : List Int) (sp : Option Addr) (n cap : Nat) (o : List Int) (c : Int) : Array Value := (clC a b R sp n cap o c).toArray
theorem size55 : (Try.prog.info? 55).map (·.size) = some 68 := by kernel_rfl
theorem cl_th {w : World} {g ty : Nat} {a : Ac} {b : Ou} {R : List Int} {sp : Option Addr} {n cap : Nat} {o : List Int} {c : Int} (h : Arr w g ty (clA2 a b R sp n cap o c)) : w.rangeAt g 0 (thC a b R) := arr_part h [] (thC a b R) (wtC sp n cap o c) rfl
theorem cl_wt {w : World} {g ty : Nat} {a : Ac} {b : Ou} {R : List Int} {sp : Option Addr} {n cap : Nat} {o : List Int} {c : Int} (ha : a.lk.length = 32) (hR : R.length = 32) (h : Arr w g ty (clA2 a b R sp n cap o c)) : w.rangeAt g 68 (wtC sp n cap o c) := by
  have := arr_part h (thC a b R) (wtC sp n cap o c) [] (by simp [clC])
  rwa [thC_len ha hR] at this
theorem thC_one (a : Ac) (b : Ou) (R : List Int) : ∀ v ∈ thC a b R, v.oneCell' = true := by
  intro v hv
  simp only [thC, List.mem_append] at hv
  rcases hv with hv | hv | hv
  · exact a.one v hv
  · exact b.one v hv
  · exact by8_one _ v hv
theorem thA_size {a : Ac} {b : Ou} {R : List Int} (ha : a.lk.length = 32) (hR : R.length = 32) : (thA a b R).size = 68 := by simp [thA, thC_len ha hR]
theorem s55 {a : Ac} {b : Ou} {R : List Int} (ha : a.lk.length = 32) (hR : R.length = 32) : (Try.prog.info? 55).map (·.size) = some (thA a b R).size := by rw [thA_size ha hR]; exact size55
theorem y55 {ops : Array Oper} {S : World → Prop} {op : Oper} {q : Act} (hw : Region.wanted op (yielded ops q.tmps) = true) (x : Operand) (ho : op.op = .load 55 x)
    (g off : Nat) (hx : q.eval x = .pointer (some ⟨g, off, none⟩)) (a : Ac) (b : Ou) (R : List Int) (ha : a.lk.length = 32) (hR : R.length = 32) (hS : ∀ w, S w → w.rangeAt g off (thC a b R)) : YieldsIf Try.prog ops S op (.agg (thA a b R)) q :=
  yieldsIf_load_mid hw 55 x ho g off hx (thC a b R) _ hS Try.underlying55 rfl (by rw [thC_len ha hR]; exact size55)
theorem zero55 : ∃ z : Array Value, z.size = 68 ∧ ∀ w, (zeroValue 55).run Try.prog w = .ok (.agg z) w := by
  refine ⟨thA za ⟨0, 0⟩ Z32, thA_size za_ok.l32 Z32_len, fun w => ?_⟩
  have h : (Try.prog.info? 55).map (·.zero) = some (some (.agg (thA za ⟨0, 0⟩ Z32))) := by kernel_rfl
  cases hq : Try.prog.info? 55 with
  | none => rw [hq] at h; cases h
  | some i =>
    rw [hq] at h
    have hz : i.zero = some (.agg (thA za ⟨0, 0⟩ Z32)) := by simpa using h
    simp [zeroValue, typeInfo, hq, hz]
theorem zero44' : ∃ z : Array Value, z.size = 34 ∧ ∀ w, (zeroValue 44).run Try.prog w = .ok (.agg z) w := by
  refine ⟨wtA none 0 0 Z32 0, wtA_size Z32_len, fun w => ?_⟩
  have h : (Try.prog.info? 44).map (·.zero) = some (some (.agg (wtA none 0 0 Z32 0))) := by kernel_rfl
  cases hq : Try.prog.info? 44 with
  | none => rw [hq] at h; cases h
  | some i =>
    rw [hq] at h
    have hz : i.zero = some (.agg (wtA none 0 0 Z32 0)) := by simpa using h
    simp [zeroValue, typeInfo, hq, hz]
/-- A row and a block of another type. -/
theorem own_arr_ne {w : World} {base e s n g ty : Nat} {v : Value} {xs : List Value} {C : Array Value} (h : w.ownsRow base e s v n xs) (hA : Arr w g ty C) (hne : ty ≠ e) : v.ownBlock ≠ some g := fun q => by
  obtain ⟨-, h' | ⟨g', cap, cur, rfl, hg, hh, -⟩⟩ := h
  · obtain ⟨rfl, -⟩ := h'; cases q
  · have e1 : g' = g := Option.some.inj q
    subst e1
    unfold Arr at hA
    rw [hh] at hA
    have := Option.some.inj hA
    injection this with h1 h2 h3
    exact hne h2.symm
/-- What stays all the way. -/
structure BF (w : World) (ps : List Ac) (sp : Option Addr) (n cap : Nat) (a : Ac) (b : Ou) (R : List Int) (wsp : Option Addr) (wn wcap : Nat) (o : List Int) (c : Int) (b7 b8 : Nat) (W : World) : Prop where
  a3 : Arr W w.heap.size 30 (stA ps sp n cap)
  a7 : Arr W b7 55 (thA a b R)
  a8 : Arr W b8 44 (wtA wsp wn wcap o c)
  bel : Below w.heap.size w W
section
variable {w : World} {ps : List Ac} {sp : Option Addr} {n cap : Nat} {a : Ac} {b : Ou} {R : List Int} {wsp : Option Addr} {wn wcap : Nat} {o : List Int} {c : Int} {b7 b8 : Nat} {W W' : World}
theorem BF.below (h : BF w ps sp n cap a b R wsp wn wcap o c b7 b8 W) (hb : Below W.heap.size W W') : BF w ps sp n cap a b R wsp wn wcap o c b7 b8 W' := ⟨h.a3.bel hb, h.a7.bel hb, h.a8.bel hb, h.bel.trans (hb.mono h.bel.size)⟩
theorem BF.grown {base k : Nat} {v : Value} {xs : List Value} (h : BF w ps sp n cap a b R wsp wn wcap o c b7 b8 W) (ho : W.ownsRow base 77 33 v k xs) (hb : w.heap.size ≤ base) (hg : W.grownBy W' v.ownBlock) : BF w ps sp n cap a b R wsp wn wcap o c b7 b8 W' :=
  ⟨h.a3.grown hg (fun e => own_arr_ne ho h.a3 (by decide) e.symm), h.a7.grown hg (fun e => own_arr_ne ho h.a7 (by decide) e.symm), h.a8.grown hg (fun e => own_arr_ne ho h.a8 (by decide) e.symm), grown_below h.bel hg (fun k hk => by have := own_ge ho k hk; omega) h.bel.size⟩
end
theorem ck_jn {R : List Int} {i : Nat} {a : Ac} {ls : List (List Int)} {o : List Int} {c : Int} (hi : i < 32) (h : ckA R (i : Int) a ls o c = true) : ls.length = 5 ∧ jn (fo i (lf (acb a)) ls) o c = R := by
  unfold ckA at h
  have h := of_decide_eq_true h
  obtain ⟨⟨h5, -⟩, h2⟩ := h
  refine ⟨h5, ?_⟩
  rw [Int.toNat_natCast, show ls ++ [o, cnt c] = (ls ++ [o]) ++ [cnt c] by simp, fo_app, fo_app, List.length_append, List.length_singleton, h5] at h2
  rw [if_pos (by rw [Nat.div_eq_of_lt (by omega)]), if_pos (by rw [Nat.div_eq_of_lt (by omega)])] at h2
  exact h2
theorem refFold_c {i : Nat} {X : List Int} {N : Nat} {sp : Option Addr} {cap : Nat} {ls : List (List Int)} {w : World} (hX : X.length = 32) (hS : HS N w sp 5 cap ls) (hi : i < 32) {T : List Int} (hT : Hid (fo i X ls = T)) :
    Calls Try.prog 37 #[.int .i64 i, .agg (h8 X), .slice sp 5 cap] w fun e w' => e = .returned (.tuple #[.agg (h8 T), .int .i64 0]) ∧ Below w.heap.size w w' := by
  have := refFold_ok i X N sp 5 cap ls w hX hS (by omega) (by omega)
  rw [hT.out] at this
  exact this
theorem ld26g {ops : Array Oper} {rest : List Oper} {o : Oper} {q : Act} {w : World} {Q : Exit → Act → World → Prop} (hgd : Region.wanted o (yielded ops q.tmps) = true) (x : Operand) (ho : o.op = .load 26 x)
    (b off : Nat) (hx : q.eval x = .pointer (some ⟨b, off, none⟩)) (e : Ac) (he : e.lk.length = 32) (hc : w.rangeAt b off e.cells)
    (h : wpList Try.prog ops Q rest (q.put o.dst (.agg e.arr)) w) : wpList Try.prog ops Q (o :: rest) q w :=
  wpList_want hgd fun _ hK => wp_load_mid 26 x ho b off hx e.cells _ hc Try.underlying26 rfl (by rw [Ac.len he]; exact size26) (hK _ _ h)
theorem ld44g {ops : Array Oper} {rest : List Oper} {op : Oper} {q : Act} {w : World} {Q : Exit → Act → World → Prop} (hgd : Region.wanted op (yielded ops q.tmps) = true) (x : Operand) (ho : op.op = .load 44 x)
    (b off : Nat) (hx : q.eval x = .pointer (some ⟨b, off, none⟩)) (sp : Option Addr) (n cap : Nat) (o : List Int) (c : Int) (he : o.length = 32) (hc : w.rangeAt b off (wtC sp n cap o c))
    (h : wpList Try.prog ops Q rest (q.put op.dst (.agg (wtA sp n cap o c))) w) : wpList Try.prog ops Q (op :: rest) q w :=
  wpList_want hgd fun _ hK => wp_load_mid 44 x ho b off hx (wtC sp n cap o c) _ hc Try.underlying44 rfl (by rw [wtC_len he]; exact size44) (hK _ _ h)
theorem ld30g {ops : Array Oper} {rest : List Oper} {o : Oper} {q : Act} {w : World} {Q : Exit → Act → World → Prop} (hgd : Region.wanted o (yielded ops q.tmps) = true) (x : Operand) (ho : o.op = .load 30 x)
    (g ty : Nat) (hx : q.eval x = .pointer (some ⟨g, 0, none⟩)) (ps : List Ac) (sp : Option Addr) (n cap : Nat) (h1 : ps.length = 32) (h2 : ∀ a ∈ ps, a.lk.length = 32) (hA : Arr w g ty (stA ps sp n cap))
    (h : wpList Try.prog ops Q rest (q.put o.dst (.agg (stA ps sp n cap))) w) : wpList Try.prog ops Q (o :: rest) q w :=
  wpList_want hgd fun _ hK => wp_load_mid 30 x ho g 0 hx (stC ps sp n cap) _ hA.st Try.underlying30 rfl (by rw [stC_len h1 h2]; exact size30) (hK _ _ h)
theorem wp_apB {o : Oper} {q : Act} {w : World} {K : Act → World → Prop} {Q : Exit → Act → World → Prop} (s x : Operand) (ho : o.op = .call { callee := .builtin .append, args := #[s, x], argTypes := #[59, 59] })
    (base n : Nat) (v : Value) (L M : List Int) (hs : q.eval s = v) (hown : w.ownsRow base 5 1 v n (by8 L)) (g off c : Nat) (hx : q.eval x = .slice (some ⟨g, off, none⟩) 32 c) (hR : w.rangeAt g off (by8 M)) (hM : M.length = 32) (hn : n ≤ 1000) (hbase : base ≤ w.heap.size)
    (h : ∀ v' w', w'.ownsRow base 5 1 v' (n + 32) (by8 (L ++ M)) → w.grownBy w' v.ownBlock → (v'.ownBlock = v.ownBlock ∨ v'.ownBlock = some w.heap.size) → K (q.put o.dst v') w') : o.wp Try.prog q w K Q := by
  obtain ⟨i0, hi0, hz0, hz1, hz2⟩ := info_parts info5
  obtain ⟨v', w', hr, h2, h3, h4, h5⟩ := run_append_own_at (P := Try.prog) w base 59 o.type 5 i0 (.int .u8 0) 1 1 Try.underlying59 hi0 hz0 hz1 hz2 rfl (by omega) v n _ hown ⟨g, off, none⟩ 32 c (by8 M) (by rw [by8_len, hM]) (fun j u hj => by
    rw [Addr.add_mid]; exact hR j u hj) (by8_one M) (by unfold maxLen; omega) (by omega) hbase
  unfold Oper.wp execOp
  simp only [ho, resolve, invoke, builtin, Sem.run_bind, Sem.run_pure, Result.andThen_ok, List.map_toArray, List.map_cons, List.map_nil, hs, hx, hr]
  exact h v' w' (by rw [by8_app]; exact h2) h3 h5
theorem BS.far {N : Nat} {w w' : World} {r : Option Nat} {sp : Option Addr} {n cap : Nat} {L : List Int} (h : BS N w sp n cap L) (hg : w.grownBy w' r) (hN : N ≤ w.heap.size) (hne : ∀ b off, sp = some ⟨b, off, none⟩ → some b ≠ r) : BS N w' sp n cap L :=
  ⟨h.len, h.nil, h.le, h.big, h.small, fun h0 => by
    obtain ⟨b, off, q, hb, hB⟩ := h.at0 h0
    refine ⟨b, off, q, hb, fun u hu => ?_⟩
    rw [World.cell?_of_block (w := w) (a := ⟨b, off + u, none⟩) (hg.block b (by omega) (hne b off q))]
    exact hB u hu, h.bts⟩
/-- Two rows apart: one grows. -/
theorem apart_grow {w : World} {base2 e2 s2 n2 : Nat} {v v' u : Value} {ys : List Value} (hu : w.ownsRow base2 e2 s2 u n2 ys) (h5 : v'.ownBlock = v.ownBlock ∨ v'.ownBlock = some w.heap.size) (hd : ∀ k, v.ownBlock = some k → u.ownBlock ≠ some k) : ∀ k, v'.ownBlock = some k → u.ownBlock ≠ some k := fun k hk q => by
  rcases h5 with h5 | h5
  · exact hd k (h5.symm.trans hk) q
  · rw [h5] at hk
    have h1 := Option.some.inj hk
    have h2 := own_lt hu q
    omega
end Go.Proofs.Ytlebojbfcolkhaa

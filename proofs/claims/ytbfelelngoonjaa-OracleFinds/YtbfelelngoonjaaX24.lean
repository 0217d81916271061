/- La, V1. -/
import Derived.Test.YtbfelelngoonjaaX01
import Derived.Test.YtbfelelngoonjaaX02
import Derived.Test.YtbfelelngoonjaaX03
import Derived.Test.YtbfelelngoonjaaX04
import Derived.Test.YtbfelelngoonjaaX05
import Derived.Test.YtbfelelngoonjaaX10
import Derived.Test.YtbfelelngoonjaaX06
import Derived.Test.YtbfelelngoonjaaX12
import Derived.Test.YtbfelelngoonjaaX13
import Derived.Test.YtbfelelngoonjaaX14
import Derived.Test.YtbfelelngoonjaaX16
import Derived.Test.YtbfelelngoonjaaX17
import Derived.Test.YtbfelelngoonjaaX18
import Derived.Test.YtbfelelngoonjaaX19
import Derived.Test.YtbfelelngoonjaaX21
import Derived.Test.YtbfelelngoonjaaX23
import Derived.BigQuiet
import Derived.BigRegion
import Derived.ChangeKeysEq
import Derived.Deep.DeepCutAuto
import Derived.Deep.DrawnRows
import Derived.Deep.MidRow
import Derived.Deep.QuietTactic
import Derived.Deep.RegionHeld3
import Derived.Deep.RegionLaw
import Derived.Deep.RegionWith
import Derived.Deep.WholeRow
import Derived.Great.BuildSlice
import Derived.Laws.AppendOwnNone
import Derived.Laws.BitsLemmas
import Derived.Laws.BytesArg
import Derived.Laws.CopyOwn
import Derived.Laws.Tables
import Derived.Lib.SlBytesConst
import Derived.LoopIn
import Derived.LoopNIn
import Derived.Maps.AppendAt
import Derived.OwnWalkIn
import Derived.RangeFuncBound
import Derived.RangeFuncCalls
import Derived.RangeFuncLeaves
import Derived.RangeFuncNested
import Derived.RangeFuncRecord
import Derived.Shelf.Abstract
import Derived.Shelf.RegionOpen
import Derived.TacticsInMore
import Derived.WalkKit
import Derived.WalkLawsBesides
import Derived.WalkSpells
import Derived.Test.YtbfelelngoonjaaX07
/- Layer oracle: what the layers below give. -/
namespace Go.Proofs.Ytbfelelngoonjaa
open Go.RowKit
set_option maxRecDepth 100000
set_option linter.unusedVariables false
set_option linter.unusedSimpArgs false

theorem own_some {w : World} {base n e s : Nat} {v : Value} {xs : List Value} (h : w.ownsRow base e s v (n + 1) xs) : ∃ g cap, v = .slice (some ⟨g, 0, none⟩) (n + 1) cap := by
  obtain ⟨-, h | ⟨g, cap, cur, rfl, -⟩⟩ := h
  · omega
  · exact ⟨g, cap, rfl⟩
/-- Nothing that was there has changed but some blocks. -/
structure Chg (S : Nat → Prop) (w w' : World) : Prop where
  os : w'.os = w.os
  tape : w'.tape = w.tape
  output : w'.output = w.output
  size : w.heap.size ≤ w'.heap.size
  block : ∀ b, b < w.heap.size → ¬ S b → w'.heap[b]? = w.heap[b]?
theorem Chg.refl (S : Nat → Prop) (w : World) : Chg S w w := ⟨rfl, rfl, rfl, Nat.le_refl _, fun _ _ _ => rfl⟩
theorem Chg.trans {S : Nat → Prop} {a b c : World} (h : Chg S a b) (k : Chg S b c) : Chg S a c :=
  ⟨k.os.trans h.os, k.tape.trans h.tape, k.output.trans h.output, Nat.le_trans h.size k.size, fun i hi hs => (k.block i (Nat.lt_of_lt_of_le hi h.size) hs).trans (h.block i hi hs)⟩
theorem Chg.mono {S T : Nat → Prop} {a b : World} (h : Chg S a b) (hST : ∀ i, i < a.heap.size → S i → T i) : Chg T a b :=
  ⟨h.os, h.tape, h.output, h.size, fun i hi ht => h.block i hi fun hs => ht (hST i hi hs)⟩
theorem Chg.of_below {S : Nat → Prop} {a b : World} (h : Below a.heap.size a b) : Chg S a b := ⟨h.os, h.tape, h.output, h.size, fun i hi _ => h.block i hi⟩
theorem Chg.below {S : Nat → Prop} {a b : World} {N : Nat} (h : Chg S a b) (hN : ∀ i, i < N → i < a.heap.size ∧ ¬ S i) : Below N a b := ⟨h.os, h.tape, h.output, h.size, fun i hi => h.block i (hN i hi).1 (hN i hi).2⟩
theorem Chg.alloc {S : Nat → Prop} {a b : World} (h : Chg S a b) (o : Obj) : Chg S a (b.alloc o) :=
  h.trans (Chg.of_below (alloc_bel' b o))
theorem Chg.grown {S : Nat → Prop} {a b c : World} {row : Option Nat} (h : Chg S a b) (hg : b.grownBy c row) (hr : ∀ k, k < a.heap.size → row = some k → S k) : Chg S a c :=
  ⟨hg.os.trans h.os, hg.tape.trans h.tape, hg.output.trans h.output, Nat.le_trans h.size hg.size, fun i hi hs => (hg.block i (Nat.lt_of_lt_of_le hi h.size) (fun e => hs (hr i hi e.symm))).trans (h.block i hi hs)⟩
theorem Chg.setCell {S : Nat → Prop} {a b : World} (h : Chg S a b) {g j : Nat} (v : Value) (hg : g < a.heap.size → S g) : Chg S a (b.setCell ⟨g, j, none⟩ v) :=
  ⟨h.os, h.tape, h.output, by simpa [World.setCell] using h.size, fun i hi hs => (Below.heap_setCell _ _ _ _ (fun e => hs (by have e : i = g := e; subst e; exact hg hi))).trans (h.block i hi hs)⟩
/-- A byte of a row is written. -/
theorem own_set {w : World} {base g n cap j : Nat} {L : List Int} (h : w.ownsRow base 5 1 (.slice (some ⟨g, 0, none⟩) n cap) n (by8 L)) (hj : j < n) (x : Int) : (w.setCell ⟨g, j, none⟩ (.int .u8 x)).ownsRow base 5 1 (.slice (some ⟨g, 0, none⟩) n cap) n (by8 (L.set j x)) := by
  obtain ⟨hl, h | ⟨g', cap', cur, e, hg, hh, hn, hm, hc, ht⟩⟩ := h
  · cases h.1
  · cases e
    have hA : Arr w g 5 cur := hh
    refine ⟨by simpa [by8_len] using hl, .inr ⟨g, cap, cur.setIfInBounds j (.int .u8 x), rfl, hg, hA.set j _, hn, hm, by simpa using hc, ?_⟩⟩
    rw [Array.toList_setIfInBounds, List.take_set, ht]
    simp [by8, List.map_set]
theorem row_arr {w : World} {base g n cap e s : Nat} {xs : List Value} (h : w.ownsRow base e s (.slice (some ⟨g, 0, none⟩) n cap) n xs) : ∃ C, Arr w g e C ∧ C.size = cap * s ∧ n ≤ cap := by
  obtain ⟨hl, h | ⟨g', cap', cur, e, hg, hh, hn, hm, hc, ht⟩⟩ := h
  · cases h.1
  · cases e; exact ⟨cur, hh, hc, hn⟩
theorem own_len {w : World} {base n : Nat} {v : Value} {L : List Int} (h : w.ownsRow base 5 1 v n (by8 L)) : L.length = n := by
  have := h.1; rw [by8_len] at this; omega
theorem own_cell {w : World} {base g n cap j : Nat} {L : List Int} (h : w.ownsRow base 5 1 (.slice (some ⟨g, 0, none⟩) n cap) n (by8 L)) (hj : j < n) : w.cell? ⟨g, j, none⟩ = some (.int .u8 (bat L j)) := by
  have hl := own_len h
  have := h.cells (g := g) rfl j (.int .u8 (bat L j)) (by8_get (by omega))
  rwa [Addr.add_mid, Nat.zero_add] at this
/-- Where what append answers lies, and what it leaves. -/
theorem append_where {P : Program} {w : World} {base t ty e : Nat} {i : TypeInfo} {z : Value} (ht : P.underlying t = some (.slice e)) (hi : P.info? e = some i) (hz : i.zero = some z)
    {v : Value} {n : Nat} {xs : List Value} (hown : w.ownsRow base e i.size v n xs) {a : Addr} {m c : Nat} {news : List Value} (hm : 0 < m) (hl : news.length = m * i.size) (hnews : ∀ j u, news[j]? = some u → w.cell? (a.add j) = some u) (h1 : ∀ u ∈ news, u.oneCell' = true)
    (h63 : n + m ≤ maxLen) (hbytes : (n + m) * i.bytes ≤ 140737488355328) {v' : Value} {w' : World} (hr : (Builtin.append_ #[t, t] ty #[v, .slice (some a) m c]).run P w = .ok v' w') :
    (∃ g cap, v = .slice (some ⟨g, 0, none⟩) n cap ∧ v' = .slice (some ⟨g, 0, none⟩) (n + m) cap) ∨ (v'.ownBlock = some w.heap.size ∧ ∀ b, b < w.heap.size → w'.heap[b]? = w.heap[b]?) := by
  have hsmall : n + m ≤ 9223372036854775807 := by simp only [maxLen] at h63; omega
  rcases hown.2 with ⟨rfl, rfl⟩ | ⟨g, cap, cur, rfl, hbg, hg, hnc, hcm, hcs, htake⟩
  · have h := run_append_nil (P := P) w t ty e i z ht hi hz a m c news hl hnews (by omega) (by omega) (by have hb := hbytes; simp only [Nat.zero_add] at hb; omega)
    rw [h] at hr
    cases hr
    exact .inr ⟨rfl, fun b hb => Below.heap_alloc _ _ _ hb⟩
  · by_cases hroom : n + m ≤ cap
    · have hfit : n * i.size + news.length ≤ cur.size := by rw [hl, hcs, ← Nat.add_mul]; exact Nat.mul_le_mul_right _ hroom
      have h := run_append_room (P := P) w t ty e i ht hi g n cap cur hg a m c news hl hnews h1 hroom hfit
      rw [h] at hr
      cases hr
      exact .inl ⟨g, cap, rfl, rfl⟩
    · have holds : ∀ j u, xs[j]? = some u → w.cell? ((⟨g, 0, none⟩ : Addr).add j) = some u := hown.cells (g := g) rfl
      have h := run_append_grow (P := P) w t ty e i z ht hi hz ⟨g, 0, none⟩ n cap xs hown.1 holds a m c news hl hnews (by omega) (by omega) (growslice_fits (by omega) hbytes)
      rw [h] at hr
      cases hr
      exact .inr ⟨rfl, fun b hb => Below.heap_alloc _ _ _ hb⟩
/-- append of bytes onto a row of the call's own, and where the answer lies. -/
theorem append_marks {ops : Array Oper} {rest : List Oper} {o : Oper} {a : Act} {w : World} {Q : Exit → Act → World → Prop} (hgd : Region.wanted o (yielded ops a.tmps) = true) (s x : Operand)
    (ho : o.op = .call { callee := .builtin .append, args := #[s, x], argTypes := #[29, 29] })
    (base : Nat) (v : Value) (n : Nat) (L : List Value) (hs : a.eval s = v) (hown : w.ownsRow base 5 1 v n L)
    (ad : Addr) (m c : Nat) (M : List Int) (hx : a.eval x = .slice (some ad) m c) (hm : m = M.length) (hm0 : 0 < m) (hS : SlL w (some ad) M) (hb : n + m ≤ 140737488355328) (hbase : base ≤ w.heap.size)
    (h : ∀ v' w', w'.ownsRow base 5 1 v' (n + m) (L ++ by8 M) → w.grownBy w' v.ownBlock → ((∃ g cap, v = .slice (some ⟨g, 0, none⟩) n cap ∧ v' = .slice (some ⟨g, 0, none⟩) (n + m) cap) ∨ (v'.ownBlock = some w.heap.size ∧ ∀ b, b < w.heap.size → w'.heap[b]? = w.heap[b]?)) → wpList Try.prog ops Q rest (a.put o.dst v') w') : wpList Try.prog ops Q (o :: rest) a w := by
  obtain ⟨i0, hi, hz0, hz1, hz2⟩ := info_parts info5
  subst hm
  refine wpList_want hgd fun K hK => ?_
  have hnews : ∀ j u, (by8 M)[j]? = some u → w.cell? (ad.add j) = some u := by
    intro j u hj
    have hjl : j < M.length := by have := (List.getElem?_eq_some_iff.1 hj).1; rwa [by8_len] at this
    obtain ⟨b, off, e, hB⟩ := hS (by omega)
    obtain rfl := Option.some.inj e
    rw [by8_get hjl] at hj
    rw [Addr.add_mid, hB j hjl]; exact hj
  obtain ⟨v', w', hr, h2, h3, -⟩ := run_append_own (P := Try.prog) w base 29 o.type 5 i0 _ 1 1 Try.underlying29 hi hz0 hz1 hz2 rfl (by omega) v n _ hown ad M.length c (by8 M) (by rw [by8_len]; omega) hnews (by8_one M) (Nat.le_trans hb maxLen_ge) (by omega) hbase
  have h4 := append_where (base := base) Try.underlying29 hi hz0 (by rw [hz1]; exact hown) hm0 (by rw [by8_len, hz1]; omega) hnews (by8_one M) (Nat.le_trans hb maxLen_ge) (by rw [hz2]; omega) hr
  unfold Oper.wp execOp
  simp only [ho, resolve, invoke, builtin, Sem.run_bind, Sem.run_pure, Result.andThen_ok, List.map_toArray, List.map_cons, List.map_nil, hs, hx, hr]
  exact hK _ _ (h v' w' h2 h3 h4)
theorem row_of_arr {w : World} {g n cap : Nat} {C : Array Value} (h : Arr w g 5 C) (hC : C.size = cap) (hn : n ≤ cap) (hm : cap ≤ maxLen) : w.ownsRow 0 5 1 (.slice (some ⟨g, 0, none⟩) n cap) n (C.toList.take n) :=
  ⟨by rw [List.length_take, Array.length_toList]; omega, .inr ⟨g, cap, C, rfl, Nat.zero_le _, h, hn, hm, by omega, by rw [Nat.mul_one]⟩⟩
theorem Arr.at {w : World} {g ty : Nat} {C : Array Value} (h : Arr w g ty C) {j : Nat} (hj : j < C.size) : ∃ u, w.cell? ⟨g, j, none⟩ = some u := ⟨C[j], by rw [h.cell, Array.getElem?_eq_getElem hj]⟩
end Go.Proofs.Ytbfelelngoonjaa
/- Layer oracle: oracles in memory. -/
namespace Go.Proofs.Ytbfelelngoonjaa
open Go.RowKit
set_option maxRecDepth 100000
set_option linter.unusedVariables false
set_option linter.unusedSimpArgs false


theorem hid {p : Prop} (h : p) : Hid p := Hid.mk' h
/-- What an entry is. -/
def En.dat (e : En) : List Int × List Int := (e.bs, e.sm)
def dats (es : List En) : List (List Int × List Int) := es.map En.dat
/-- Where the entries with the sum k stand. -/
def pl (es : List En) (k : List Int) : List Nat := (es.zipIdx.filter (fun x => decide (x.1.sm = k))).map (·.2)
theorem pl_app (es : List En) (e : En) (k : List Int) : pl (es ++ [e]) k = pl es k ++ if e.sm = k then [es.length] else [] := by
  unfold pl
  rw [List.zipIdx_append, List.filter_append, List.map_append]
  congr 1
  by_cases h : e.sm = k
  · simp [h]
  · simp [h]
theorem pl_mem {es : List En} {k : List Int} {i : Nat} : i ∈ pl es k ↔ ∃ e, es[i]? = some e ∧ e.sm = k := by
  unfold pl
  simp only [List.mem_map, List.mem_filter, decide_eq_true_eq]
  constructor
  · rintro ⟨⟨e, j⟩, ⟨h1, h2⟩, rfl⟩
    exact ⟨e, by simpa [List.mem_zipIdx_iff_getElem?] using h1, h2⟩
  · rintro ⟨e, h1, h2⟩
    exact ⟨(e, i), ⟨by simpa [List.mem_zipIdx_iff_getElem?] using h1, h2⟩, rfl⟩
theorem pl_nil {es : List En} {k : List Int} (h : pl es k = []) : ∀ e ∈ es, e.sm ≠ k := by
  intro e he hk
  obtain ⟨i, hi, he⟩ := List.getElem_of_mem he
  have : i ∈ pl es k := pl_mem.2 ⟨e, by rw [← he]; exact List.getElem?_eq_getElem hi, hk⟩
  rw [h] at this; cases this
theorem pl_len (es : List En) (k : List Int) : (pl es k).length ≤ es.length := by
  unfold pl
  rw [List.length_map]
  refine Nat.le_trans (List.length_filter_le _ _) ?_
  simp
/-- The first one. -/
theorem pl_first {es : List En} {k : List Int} {i : Nat} {r : List Nat} (h : pl es k = i :: r) : ∃ e, es[i]? = some e ∧ es.find? (fun e => decide (e.sm = k)) = some e := by
  have key : ∀ (l : List En) (n : Nat), (l.zipIdx n).find? (fun x => decide (x.1.sm = k)) = ((l.zipIdx n).filter (fun x => decide (x.1.sm = k))).head? := fun l n => by rw [List.head?_filter]
  have hd : (es.zipIdx.filter (fun x => decide (x.1.sm = k))).head?.map (·.2) = some i := by
    rw [← List.head?_map]
    show (pl es k).head? = some i
    rw [h]; rfl
  obtain ⟨⟨e, j⟩, h1, h2⟩ := Option.map_eq_some_iff.1 hd
  simp only at h2; subst h2
  rw [← key es 0] at h1
  have hm := List.mem_of_find?_eq_some h1
  have he : es[j]? = some e := by simpa [List.mem_zipIdx_iff_getElem?] using hm
  refine ⟨e, he, ?_⟩
  have h3 : ∀ (l : List En) (n : Nat), ((l.zipIdx n).find? (fun x => decide (x.1.sm = k))).map (·.1) = l.find? (fun e => decide (e.sm = k)) := by
    intro l
    induction l with
    | nil => intro n; rfl
    | cons a l ih =>
      intro n
      rw [List.zipIdx_cons, List.find?_cons, List.find?_cons]
      by_cases ha : a.sm = k
      · simp [ha]
      · simp only [ha, decide_false]
        exact ih (n + 1)
  have := h3 es 0
  rw [h1] at this
  exact this.symm
/-- Bytes are put there, if they do not stand there yet; and got. -/
def pt (D : List (List Int × List Int)) (b k : List Int) : List (List Int × List Int) := if (b, k) ∈ D then D else D ++ [(b, k)]
def gt (D : List (List Int × List Int)) (k : List Int) : Option (List Int) := (D.find? (fun x => decide (x.2 = k))).map (·.1)
theorem gt_of {es : List En} {k : List Int} : gt (dats es) k = (es.find? (fun e => decide (e.sm = k))).map En.bs := by
  unfold gt dats
  rw [List.find?_map, Option.map_map]
  rfl
def ints (l : List Nat) : List Value := l.map fun (i : Nat) => Value.int .i64 (i : Int)
theorem ints_len (l : List Nat) : (ints l).length = l.length := by simp [ints]
theorem ints_app (l m : List Nat) : ints (l ++ m) = ints l ++ ints m := by simp [ints]
theorem ints_one (l : List Nat) : ∀ v ∈ ints l, v.oneCell' = true := by
  intro v hv
  simp only [ints, List.mem_map] at hv
  obtain ⟨i, -, rfl⟩ := hv
  rfl
theorem BS.chg {N : Nat} {S : Nat → Prop} {w w' : World} {sp : Option Addr} {n cap : Nat} {L : List Int} (h : BS N w sp n cap L) (hc : Chg S w w') (hne : ∀ b off, sp = some ⟨b, off, none⟩ → ¬ S b) : BS N w' sp n cap L :=
  ⟨h.len, h.nil, h.le, h.big, h.small, fun h0 => by
    obtain ⟨b, off, e, hbN, hB⟩ := h.at0 h0
    refine ⟨b, off, e, hbN, fun t ht => ?_⟩
    rw [World.cell?_of_block (w := w) (a := ⟨b, off + t, none⟩) (hc.block b (block_lt_of_cell (hB t ht)) (hne b off e))]
    exact hB t ht, h.bts⟩
theorem EO.chg {base ax : Nat} {S : Nat → Prop} {w w' : World} {v : Value} {es : List En} (h : EO base ax w v es) (hc : Chg S w w') (hv : ∀ k, v.ownBlock = some k → ¬ S k) (hs : ∀ e ∈ es, ∀ b off, e.sp = some ⟨b, off, none⟩ → ¬ S b) : EO base ax w' v es :=
  ⟨own_same h.own (fun k hk => hc.block k (own_lt h.own hk) (hv k hk)), fun e he => ⟨((h.ok e he).body.chg hc (hs e he)).mono hc.size, (h.ok e he).s32⟩, fun e he b off hb => by have := h.ap e he b off hb; have := hc.size; exact ⟨by omega, by omega, (h.ap e he b off hb).2.2⟩⟩
theorem Arr.chg {S : Nat → Prop} {w w' : World} {g ty : Nat} {C : Array Value} (h : Arr w g ty C) (hc : Chg S w w') (hg : ¬ S g) : Arr w' g ty C := by
  have := hc.block g h.lt hg
  unfold Arr at h ⊢; rw [this]; exact h
theorem Chg.of_grown {w w' : World} {row : Option Nat} (hg : w.grownBy w' row) : Chg (fun b => row = some b) w w' := ⟨hg.os, hg.tape, hg.output, hg.size, fun b hb hs => hg.block b hb (fun e => hs e.symm)⟩
theorem Chg.put {S : Nat → Prop} {a b : World} (h : Chg S a b) {r : Nat} (o : Obj) (hr : r < a.heap.size → S r) : Chg S a (b.putObj r o) :=
  ⟨h.os, h.tape, h.output, by simpa [World.putObj] using h.size, fun i hi hs => (World.putObj_heap_other (fun e => hs (by subst e; exact hr hi))).trans (h.block i hi hs)⟩
theorem Chg.drew {S : Nat → Prop} {a b : World} (h : Chg S a b) : Chg S a b.drew := ⟨h.os, h.tape, h.output, h.size, h.block⟩
theorem Chg.drewN {S : Nat → Prop} {a b : World} (h : Chg S a b) (n : Nat) : Chg S a (b.drewN n) := ⟨h.os, h.tape, h.output, h.size, h.block⟩
/-- What an oracle may change; what it holds on to. -/
def omut (gO gm : Nat) (f : List Int → Value) (v : Value) (b : Nat) : Prop := b = gO ∨ b = gm ∨ v.ownBlock = some b ∨ ∃ k, (f k).ownBlock = some b
def oimm (es : List En) (b : Nat) : Prop := ∃ e ∈ es, ∃ off, e.sp = some ⟨b, off, none⟩
/-- An oracle in memory. -/
structure OrX (base gO gm : Nat) (w : World) (f : List Int → Value) (v : Value) (es ps : List En) : Prop where
  A : Arr w gO 68 #[.map (some gm), v]
  M : PM w gm f
  E : EO base gO w v es
  P : ∀ k, w.ownsRow base 3 1 (f k) (pl ps k).length (ints (pl ps k))
  lt : gO < base ∧ gm < base ∧ gO ≠ gm
  v1 : ∀ k b, (f k).ownBlock = some b → v.ownBlock ≠ some b
  v2 : ∀ k b, (f k).ownBlock = some b → ¬ oimm es b
  v3 : ∀ k k' b, (f k).ownBlock = some b → (f k').ownBlock = some b → k = k'
/-- .. whose places are those of the entries. -/
abbrev Orc (base gO gm : Nat) (w : World) (f : List Int → Value) (v : Value) (es : List En) : Prop := OrX base gO gm w f v es es
theorem OrX.chg {base gO gm : Nat} {S : Nat → Prop} {w w' : World} {f : List Int → Value} {v : Value} {es ps : List En} (h : OrX base gO gm w f v es ps) (hc : Chg S w w') (hS : ∀ b, omut gO gm f v b ∨ oimm es b → ¬ S b) : OrX base gO gm w' f v es ps :=
  ⟨h.A.chg hc (hS _ (.inl (.inl rfl))), h.M.same (hc.block _ h.M.lt (hS _ (.inl (.inr (.inl rfl))))), h.E.chg hc (fun k hk => hS _ (.inl (.inr (.inr (.inl hk))))) (fun e he b off hb => hS _ (.inr ⟨e, he, off, hb⟩)),
    fun k => own_same (h.P k) (fun b hb => hc.block b (own_lt (h.P k) hb) (hS _ (.inl (.inr (.inr (.inr ⟨k, hb⟩)))))), h.lt, h.v1, h.v2, h.v3⟩
theorem OrX.bel {base gO gm : Nat} {w w' : World} {f : List Int → Value} {v : Value} {es ps : List En} (h : OrX base gO gm w f v es ps) (hb : Below w.heap.size w w') : OrX base gO gm w' f v es ps :=
  h.chg (S := fun _ => False) (Chg.of_below hb) (fun _ _ => id)
theorem OrX.drewN {base gO gm : Nat} {w : World} {f : List Int → Value} {v : Value} {es ps : List En} (h : OrX base gO gm w f v es ps) (n : Nat) : OrX base gO gm (w.drewN n) f v es ps :=
  h.chg (S := fun _ => False) ((Chg.refl _ w).drewN n) (fun _ _ => id)
theorem OrX.mut_lt {base gO gm : Nat} {w : World} {f : List Int → Value} {v : Value} {es ps : List En} (h : OrX base gO gm w f v es ps) {b : Nat} (hb : omut gO gm f v b ∨ oimm es b) : b < w.heap.size := by
  rcases hb with (rfl | rfl | hb | ⟨k, hb⟩) | ⟨e, he, off, hb⟩
  · exact h.A.lt
  · exact h.M.lt
  · exact own_lt h.E.own hb
  · exact own_lt (h.P k) hb
  · exact (h.E.ap e he b off hb).2.1
theorem OrX.s32 {base gO gm : Nat} {w : World} {f : List Int → Value} {v : Value} {es ps : List En} (h : OrX base gO gm w f v es ps) : ∀ e ∈ es, e.sm.length = 32 := h.E.s32
/-- The document's oracle in memory. -/
structure Rfo (base gt : Nat) (w : World) (u : Value) (us : List En) : Prop where
  A : Arr w gt 28 #[u]
  U : EO base gt w u us
  lt : gt < base
def rmut (gt : Nat) (u : Value) (b : Nat) : Prop := b = gt ∨ u.ownBlock = some b
theorem Rfo.chg {base gt : Nat} {S : Nat → Prop} {w w' : World} {u : Value} {us : List En} (h : Rfo base gt w u us) (hc : Chg S w w') (hS : ∀ b, rmut gt u b ∨ oimm us b → ¬ S b) : Rfo base gt w' u us :=
  ⟨h.A.chg hc (hS _ (.inl (.inl rfl))), h.U.chg hc (fun k hk => hS _ (.inl (.inr hk))) (fun e he b off hb => hS _ (.inr ⟨e, he, off, hb⟩)), h.lt⟩
theorem Rfo.bel {base gt : Nat} {w w' : World} {u : Value} {us : List En} (h : Rfo base gt w u us) (hb : Below w.heap.size w w') : Rfo base gt w' u us :=
  h.chg (S := fun _ => False) (Chg.of_below hb) (fun _ _ => id)
theorem Rfo.mut_lt {base gt : Nat} {w : World} {u : Value} {us : List En} (h : Rfo base gt w u us) {b : Nat} (hb : rmut gt u b ∨ oimm us b) : b < w.heap.size := by
  rcases hb with (rfl | hb) | ⟨e, he, off, hb⟩
  · exact h.A.lt
  · exact own_lt h.U.own hb
  · exact (h.U.ap e he b off hb).2.1
/-- A slice of entries as it may be read. -/
theorem EO.slice {base ax : Nat} {w : World} {v : Value} {es : List En} (h : EO base ax w v es) : ∃ sp m cap, v = .slice sp m cap := by
  rcases h.own.2 with ⟨h, -⟩ | ⟨g, cap, cur, h, -⟩
  · exact ⟨_, _, _, h⟩
  · exact ⟨_, _, _, h⟩
/-- A slice of numbers as it may be read. -/
theorem rowI_at {w : World} {base n : Nat} {v : Value} {l : List Nat} (h : w.ownsRow base 3 1 v n (ints l)) : ∃ sp cap, v = .slice sp n cap ∧ l.length = n ∧ (sp = none → n = 0) ∧ ∀ (i j : Nat), l[i]? = some j → ∃ g, sp = some ⟨g, 0, none⟩ ∧ w.cell? ⟨g, i, none⟩ = some (.int .i64 (j : Int)) := by
  obtain ⟨hl, h | ⟨g, cap, cur, rfl, hg, hh, hn, hm, hc, ht⟩⟩ := h
  · obtain ⟨rfl, rfl⟩ := h
    rw [ints_len] at hl
    refine ⟨none, 0, rfl, by omega, fun _ => rfl, fun i j hi => ?_⟩
    have := (List.getElem?_eq_some_iff.1 hi).1
    omega
  · rw [ints_len, Nat.mul_one] at hl
    refine ⟨_, cap, rfl, hl, (fun e => by cases e), fun i j hi => ⟨g, rfl, ?_⟩⟩
    have hil := (List.getElem?_eq_some_iff.1 hi).1
    rw [cell_of_row w g i cur 3 (0, 0) hh, ← Array.getElem?_toList, ← List.getElem?_take_of_lt (show i < n * 1 by omega), ht]
    simp [ints, hi]
end Go.Proofs.Ytbfelelngoonjaa

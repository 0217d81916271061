/- La, Fc, Fd. -/
import Derived.Test.YtlebojbfcolkhaaCi
import Derived.Test.YtlebojbfcolkhaaA32
import Derived.Test.YtlebojbfcolkhaaA34
import Derived.Test.YtlebojbfcolkhaaA27
import Derived.Test.YtlebojbfcolkhaaPi
/- Layer collide: Spoil writes over a row of its own, and into new memory. -/
namespace Go.Proofs.Ytlebojbfcolkhaa
set_option linter.unusedSectionVars false
set_option maxHeartbeats 1000000
open Go.RowKit
set_option maxRecDepth 100000
set_option linter.unusedVariables false
set_option linter.unusedSimpArgs false

variable [DecidableEq Ac] [DecidableEq Ou]
theorem own_some {w : World} {base n e s : Nat} {v : Value} {xs : List Value} (h : w.ownsRow base e s v (n + 1) xs) : ∃ g cap, v = .slice (some ⟨g, 0, none⟩) (n + 1) cap := by
  obtain ⟨-, h | ⟨g, cap, cur, rfl, -⟩⟩ := h
  · omega
  · exact ⟨g, cap, rfl⟩
/-- Nothing that was there has changed but some blocks. -/
structure Chg (S : Nat → Prop) (w w' : World) : Prop where
  os : w'.os = w.os
  tape : w'.tape = w.tape
  output : w'.output = w.output
  size : w.heap.size ≤ w'.heap.size
  block : ∀ b, b < w.heap.size → ¬ S b → w'.heap[b]? = w.heap[b]?
theorem Chg.refl (S : Nat → Prop) (w : World) : Chg S w w := ⟨rfl, rfl, rfl, Nat.le_refl _, fun _ _ _ => rfl⟩
theorem Chg.trans {S : Nat → Prop} {a b c : World} (h : Chg S a b) (k : Chg S b c) : Chg S a c :=
  ⟨k.os.trans h.os, k.tape.trans h.tape, k.output.trans h.output, Nat.le_trans h.size k.size, fun i hi hs => (k.block i (Nat.lt_of_lt_of_le hi h.size) hs).trans (h.block i hi hs)⟩
theorem Chg.mono {S T : Nat → Prop} {a b : World} (h : Chg S a b) (hST : ∀ i, i < a.heap.size → S i → T i) : Chg T a b :=
  ⟨h.os, h.tape, h.output, h.size, fun i hi ht => h.block i hi fun hs => ht (hST i hi hs)⟩
theorem Chg.of_below {S : Nat → Prop} {a b : World} (h : Below a.heap.size a b) : Chg S a b := ⟨h.os, h.tape, h.output, h.size, fun i hi _ => h.block i hi⟩
theorem Chg.below {S : Nat → Prop} {a b : World} {N : Nat} (h : Chg S a b) (hN : ∀ i, i < N → i < a.heap.size ∧ ¬ S i) : Below N a b := ⟨h.os, h.tape, h.output, h.size, fun i hi => h.block i (hN i hi).1 (hN i hi).2⟩
theorem Chg.alloc {S : Nat → Prop} {a b : World} (h : Chg S a b) (o : Obj) : Chg S a (b.alloc o) :=
  h.trans (Chg.of_below (alloc_bel' b o))
theorem Chg.grown {S : Nat → Prop} {a b c : World} {row : Option Nat} (h : Chg S a b) (hg : b.grownBy c row) (hr : ∀ k, k < a.heap.size → row = some k → S k) : Chg S a c :=
  ⟨hg.os.trans h.os, hg.tape.trans h.tape, hg.output.trans h.output, Nat.le_trans h.size hg.size, fun i hi hs => (hg.block i (Nat.lt_of_lt_of_le hi h.size) (fun e => hs (hr i hi e.symm))).trans (h.block i hi hs)⟩
theorem Chg.setCell {S : Nat → Prop} {a b : World} (h : Chg S a b) {g j : Nat} (v : Value) (hg : g < a.heap.size → S g) : Chg S a (b.setCell ⟨g, j, none⟩ v) :=
  ⟨h.os, h.tape, h.output, by simpa [World.setCell] using h.size, fun i hi hs => (Below.heap_setCell _ _ _ _ (fun e => hs (by have e : i = g := e; subst e; exact hg hi))).trans (h.block i hi hs)⟩

/-- A byte of a row is written. -/
theorem own_set {w : World} {base g n cap j : Nat} {L : List Int} (h : w.ownsRow base 5 1 (.slice (some ⟨g, 0, none⟩) n cap) n (by8 L)) (hj : j < n) (x : Int) : (w.setCell ⟨g, j, none⟩ (.int .u8 x)).ownsRow base 5 1 (.slice (some ⟨g, 0, none⟩) n cap) n (by8 (L.set j x)) := by
  obtain ⟨hl, h | ⟨g', cap', cur, e, hg, hh, hn, hm, hc, ht⟩⟩ := h
  · cases h.1
  · cases e
    have hA : Arr w g 5 cur := hh
    refine ⟨by simpa [by8_len] using hl, .inr ⟨g, cap, cur.setIfInBounds j (.int .u8 x), rfl, hg, hA.set j _, hn, hm, by simpa using hc, ?_⟩⟩
    rw [Array.toList_setIfInBounds, List.take_set, ht]
    simp [by8, List.map_set]
theorem row_arr {w : World} {base g n cap e s : Nat} {xs : List Value} (h : w.ownsRow base e s (.slice (some ⟨g, 0, none⟩) n cap) n xs) : ∃ C, Arr w g e C ∧ C.size = cap * s ∧ n ≤ cap := by
  obtain ⟨hl, h | ⟨g', cap', cur, e, hg, hh, hn, hm, hc, ht⟩⟩ := h
  · cases h.1
  · cases e; exact ⟨cur, hh, hc, hn⟩
theorem own_len {w : World} {base n : Nat} {v : Value} {L : List Int} (h : w.ownsRow base 5 1 v n (by8 L)) : L.length = n := by
  have := h.1; rw [by8_len] at this; omega
theorem own_cell {w : World} {base g n cap j : Nat} {L : List Int} (h : w.ownsRow base 5 1 (.slice (some ⟨g, 0, none⟩) n cap) n (by8 L)) (hj : j < n) : w.cell? ⟨g, j, none⟩ = some (.int .u8 (bat L j)) := by
  have hl := own_len h
  have := h.cells (g := g) rfl j (.int .u8 (bat L j)) (by8_get (by omega))
  rwa [Addr.add_mid, Nat.zero_add] at this

/-- Where what append answers lies, and what it leaves. -/
theorem append_where {P : Program} {w : World} {base t ty e : Nat} {i : TypeInfo} {z : Value} (ht : P.underlying t = some (.slice e)) (hi : P.info? e = some i) (hz : i.zero = some z)
    {v : Value} {n : Nat} {xs : List Value} (hown : w.ownsRow base e i.size v n xs) {a : Addr} {m c : Nat} {news : List Value} (hm : 0 < m) (hl : news.length = m * i.size) (hnews : ∀ j u, news[j]? = some u → w.cell? (a.add j) = some u) (h1 : ∀ u ∈ news, u.oneCell' = true)
    (h63 : n + m ≤ maxLen) (hbytes : (n + m) * i.bytes ≤ 140737488355328) {v' : Value} {w' : World} (hr : (Builtin.append_ #[t, t] ty #[v, .slice (some a) m c]).run P w = .ok v' w') :
    (∃ g cap, v = .slice (some ⟨g, 0, none⟩) n cap ∧ v' = .slice (some ⟨g, 0, none⟩) (n + m) cap) ∨ (v'.ownBlock = some w.heap.size ∧ ∀ b, b < w.heap.size → w'.heap[b]? = w.heap[b]?) := by
  have hsmall : n + m ≤ 9223372036854775807 := by simp only [maxLen] at h63; omega
  rcases hown.2 with ⟨rfl, rfl⟩ | ⟨g, cap, cur, rfl, hbg, hg, hnc, hcm, hcs, htake⟩
  · have h := run_append_nil (P := P) w t ty e i z ht hi hz a m c news hl hnews (by omega) (by omega) (by have hb := hbytes; simp only [Nat.zero_add] at hb; omega)
    rw [h] at hr
    cases hr
    exact .inr ⟨rfl, fun b hb => Below.heap_alloc _ _ _ hb⟩
  · by_cases hroom : n + m ≤ cap
    · have hfit : n * i.size + news.length ≤ cur.size := by rw [hl, hcs, ← Nat.add_mul]; exact Nat.mul_le_mul_right _ hroom
      have h := run_append_room (P := P) w t ty e i ht hi g n cap cur hg a m c news hl hnews h1 hroom hfit
      rw [h] at hr
      cases hr
      exact .inl ⟨g, cap, rfl, rfl⟩
    · have holds : ∀ j u, xs[j]? = some u → w.cell? ((⟨g, 0, none⟩ : Addr).add j) = some u := hown.cells (g := g) rfl
      have h := run_append_grow (P := P) w t ty e i z ht hi hz ⟨g, 0, none⟩ n cap xs hown.1 holds a m c news hl hnews (by omega) (by omega) (growslice_fits (by omega) hbytes)
      rw [h] at hr
      cases hr
      exact .inr ⟨rfl, fun b hb => Below.heap_alloc _ _ _ hb⟩
/-- append of bytes onto a row of the call's own, and where the answer lies. -/
theorem append_marks {ops : Array Oper} {rest : List Oper} {o : Oper} {a : Act} {w : World} {Q : Exit → Act → World → Prop} (hgd : Region.wanted o (yielded ops a.tmps) = true) (s x : Operand)
    (ho : o.op = .call { callee := .builtin .append, args := #[s, x], argTypes := #[59, 59] })
    (base : Nat) (v : Value) (n : Nat) (L : List Value) (hs : a.eval s = v) (hown : w.ownsRow base 5 1 v n L)
    (ad : Addr) (m c : Nat) (M : List Int) (hx : a.eval x = .slice (some ad) m c) (hm : m = M.length) (hm0 : 0 < m) (hS : SlL w (some ad) M) (hb : n + m ≤ 140737488355328) (hbase : base ≤ w.heap.size)
    (h : ∀ v' w', w'.ownsRow base 5 1 v' (n + m) (L ++ by8 M) → w.grownBy w' v.ownBlock → ((∃ g cap, v = .slice (some ⟨g, 0, none⟩) n cap ∧ v' = .slice (some ⟨g, 0, none⟩) (n + m) cap) ∨ (v'.ownBlock = some w.heap.size ∧ ∀ b, b < w.heap.size → w'.heap[b]? = w.heap[b]?)) → wpList Try.prog ops Q rest (a.put o.dst v') w') : wpList Try.prog ops Q (o :: rest) a w := by
  obtain ⟨i0, hi, hz0, hz1, hz2⟩ := info_parts info5
  subst hm
  refine wpList_want hgd fun K hK => ?_
  have hnews : ∀ j u, (by8 M)[j]? = some u → w.cell? (ad.add j) = some u := by
    intro j u hj
    have hjl : j < M.length := by have := (List.getElem?_eq_some_iff.1 hj).1; rwa [by8_len] at this
    obtain ⟨b, off, e, hB⟩ := hS (by omega)
    obtain rfl := Option.some.inj e
    rw [by8_get hjl] at hj
    rw [Addr.add_mid, hB j hjl]; exact hj
  obtain ⟨v', w', hr, h2, h3, -⟩ := run_append_own (P := Try.prog) w base 59 o.type 5 i0 _ 1 1 Try.underlying59 hi hz0 hz1 hz2 rfl (by omega) v n _ hown ad M.length c (by8 M) (by rw [by8_len]; omega) hnews (by8_one M) (Nat.le_trans hb maxLen_ge) (by omega) hbase
  have h4 := append_where (base := base) Try.underlying59 hi hz0 (by rw [hz1]; exact hown) hm0 (by rw [by8_len, hz1]; omega) hnews (by8_one M) (Nat.le_trans hb maxLen_ge) (by rw [hz2]; omega) hr
  unfold Oper.wp execOp
  simp only [ho, resolve, invoke, builtin, Sem.run_bind, Sem.run_pure, Result.andThen_ok, List.map_toArray, List.map_cons, List.map_nil, hs, hx, hr]
  exact hK _ _ (h v' w' h2 h3 h4)

theorem row_of_arr {w : World} {g n cap : Nat} {C : Array Value} (h : Arr w g 5 C) (hC : C.size = cap) (hn : n ≤ cap) (hm : cap ≤ maxLen) : w.ownsRow 0 5 1 (.slice (some ⟨g, 0, none⟩) n cap) n (C.toList.take n) :=
  ⟨by rw [List.length_take, Array.length_toList]; omega, .inr ⟨g, cap, C, rfl, Nat.zero_le _, h, hn, hm, by omega, by rw [Nat.mul_one]⟩⟩
theorem Arr.at {w : World} {g ty : Nat} {C : Array Value} (h : Arr w g ty C) {j : Nat} (hj : j < C.size) : ∃ u, w.cell? ⟨g, j, none⟩ = some u := ⟨C[j], by rw [h.cell, Array.getElem?_eq_getElem hj]⟩

set_option maxRecDepth 100000 in
set_option maxHeartbeats 1000000 in
theorem spoil_some (g n cap : Nat) (x : Int) (C0 : Array Value) (w : World) (hA0 : Arr w g 5 C0) (hC0 : C0.size = cap) (hnc : n ≤ cap) (hcm : cap ≤ maxLen) (hn : n ≤ 140737488355000) (hx : 0 ≤ x ∧ x ≤ 255) :
    Calls Try.prog 43 #[.slice (some ⟨g, 0, none⟩) n cap, .int .u8 x] w fun e w' => e = .returned (.tuple #[]) ∧ Chg (· = g) w w' ∧ ∃ C, Arr w' g 5 C ∧ C.size = cap := by
  go_enter Try.func43, Try.ntmps43
  go_wp2
  go_loopw [4] (fun i wr => ∃ (j : Nat) (C : Array Value), i = .int .i64 (j : Int) ∧ j ≤ n ∧ Arr wr g 5 C ∧ C.size = cap ∧ Chg (· = g) w wr)
    (fun i _ => n - (intOf i).toNat)
  case atStart => exact ⟨0, C0, rfl, by omega, hA0, hC0, Chg.refl _ _⟩
  case round =>
    obtain ⟨j, C, rfl, hj, hA, hCs, hch⟩ := hrel
    by_cases hlt : j < n
    · have hI : (j : Int) < n := by omega
      obtain ⟨u, c0⟩ := hA.at (j := j) (by omega)
      have f0 := hA.frozen j
      go_wp2
      go_roundw
      case rel => exact ⟨j + 1, _, by go_num, by omega, hA.set j _, by simpa using hCs, hch.setCell _ (fun _ => rfl)⟩
      case measure => simp [intOf]; omega
    · obtain rfl : j = n := by omega
      have hI : ¬ (j : Int) < j := by omega
      have M3 := Arr.new wr 5 #[.int .u8 x, .int .u8 x, .int .u8 x]
      have hS3 : SlL (wr.alloc (.cells #[.int .u8 x, .int .u8 x, .int .u8 x] 5)) (some ⟨wr.heap.size, 0, none⟩) [x, x, x] := fun _ => ⟨_, 0, rfl, fun t ht => by
        have ht' : t < 3 := ht
        rw [Nat.zero_add, M3.cell]
        match t, ht' with
        | 0, _ => rfl
        | 1, _ => rfl
        | 2, _ => rfl⟩
      have hlt := hA.lt
      have hownA := row_of_arr (hA.alloc (.cells #[.int .u8 x, .int .u8 x, .int .u8 x] 5)) hCs hnc hcm
      go_wp2_with (at_builtin; go_must (refine append_marks (by rfl) (.tmp 19) (.tmp 23) (by rfl) 0 _ j _ (by rfl) hownA ⟨wr.heap.size, 0, none⟩ 3 3 [x, x, x] (by rfl) rfl (by omega) hS3 (by omega) (by simp) ?_; intro v4 w4 hown4 hg4 hob4; obtain ⟨g4, cap4, rfl⟩ := own_some hown4))
      have hsw := hch.size
      have hch4 : Chg (· = g) w w4 := (hch.alloc _).grown hg4 (fun k hk e => by simpa [Value.ownBlock] using e.symm)
      obtain ⟨D4, hD4, hDs4, hn4⟩ := row_arr hown4
      have hA4 : (g4 = g ∨ w.heap.size ≤ g4) ∧ ∃ C, Arr w4 g 5 C ∧ C.size = cap := by
        rcases hob4 with ⟨g', cap', e1, e2⟩ | ⟨e1, e2⟩
        · cases e1; cases e2
          exact ⟨.inl rfl, D4, hD4, by omega⟩
        · have e1 : g4 = wr.heap.size + 1 := by simpa [Value.ownBlock] using e1
          exact ⟨.inr (by omega), C, (e2 g (by simp; omega)).trans (hA.alloc _), by omega⟩
      obtain ⟨hg', hA4⟩ := hA4
      clear hob4 hg4 hownA hA hS3 M3 hch hown4
      go_wp2
      go_loopw [5] (fun i wr => ∃ (k : Nat) (D : Array Value), i = .int .i64 (k : Int) ∧ k ≤ j + 3 ∧ Arr wr g4 5 D ∧ D.size = cap4 * 1 ∧ Chg (· = g) w wr ∧ ∃ C, Arr wr g 5 C ∧ C.size = cap)
        (fun i _ => j + 3 - (intOf i).toNat)
      case atStart => exact ⟨0, D4, rfl, by omega, hD4, hDs4, hch4, hA4⟩
      case round =>
        obtain ⟨k, D, rfl, hk, hAD, hDs, hch, C', hA', hC'⟩ := hrel
        by_cases hlt : k < j + 3
        · have hI : (k : Int) < (j : Int) + 3 := by omega
          obtain ⟨u, c0⟩ := hAD.at (j := k) (by omega)
          have f0 := hAD.frozen k
          go_wp2
          go_roundw
          case rel =>
            refine ⟨k + 1, _, by go_num, by omega, hAD.set k _, by simpa using hDs, hch.setCell _ (fun h => by omega), ?_⟩
            by_cases e2 : g = g4
            · subst e2
              refine ⟨_, hAD.set k _, ?_⟩
              have e : C' = D := by
                have h1 := hA'.symm.trans hAD
                cases h1; rfl
              simpa [← e] using hC'
            · exact ⟨C', hA'.setOther _ e2, hC'⟩
          case measure => simp [intOf]; omega
        · obtain rfl : k = j + 3 := by omega
          have hI : ¬ (((j + 3 : Nat) : Int) < (j : Int) + 3) := by omega
          go_wp2
          go_end0
          exact ⟨rfl, hch, C', hA', hC'⟩

set_option maxRecDepth 100000 in
set_option maxHeartbeats 1000000 in
theorem spoil_nil (x : Int) (w : World) (hx : 0 ≤ x ∧ x ≤ 255) :
    Calls Try.prog 43 #[.slice none 0 0, .int .u8 x] w fun e w' => e = .returned (.tuple #[]) ∧ Below w.heap.size w w' := by
  go_enter Try.func43, Try.ntmps43
  go_wp2
  go_loopw [4] (fun i wr => i = .int .i64 0 ∧ wr = w) (fun i _ => 0)
  case atStart => exact ⟨rfl, rfl⟩
  case round =>
    obtain ⟨rfl, rfl⟩ := hrel
    have hbt : Bts [x, x, x] := by intro y hy; simp at hy; subst hy; exact hx
    have M3 := Arr.new wr 5 #[.int .u8 x, .int .u8 x, .int .u8 x]
    have hS3 : SlL (wr.alloc (.cells #[.int .u8 x, .int .u8 x, .int .u8 x] 5)) (some ⟨wr.heap.size, 0, none⟩) [x, x, x] := fun _ => ⟨_, 0, rfl, fun t ht => by
      have ht' : t < 3 := ht
      rw [Nat.zero_add, M3.cell]
      match t, ht' with
      | 0, _ => rfl
      | 1, _ => rfl
      | 2, _ => rfl⟩
    have hownA : (wr.alloc (.cells #[.int .u8 x, .int .u8 x, .int .u8 x] 5)).ownsRow wr.heap.size 5 1 (.slice none 0 0) 0 [] := World.ownsRow_nil _ _ _ _
    go_wp2_with (at_builtin; go_must (refine append_marks (by rfl) (.tmp 19) (.tmp 23) (by rfl) wr.heap.size _ 0 [] (by rfl) hownA ⟨wr.heap.size, 0, none⟩ 3 3 [x, x, x] (by rfl) rfl (by omega) hS3 (by omega) (by simp) ?_; intro v4 w4 hown4 hg4 hob4; obtain ⟨g4, cap4, rfl⟩ := own_some hown4))
    have hg' := own_ge hown4 g4 rfl
    have hb4 : Below wr.heap.size wr w4 := (alloc_bel' wr _).grown hg4 (by simp) (fun k e => by cases e)
    clear hob4 hg4 hownA hS3 M3
    obtain ⟨D4, hD4, hDs4, hn4⟩ := row_arr hown4
    clear hown4
    generalize hW : wr = w at *
    go_wp2
    go_loopw [5] (fun i wr => ∃ (k : Nat) (L' : Array Value), i = .int .i64 (k : Int) ∧ k ≤ 3 ∧ Arr wr g4 5 L' ∧ L'.size = cap4 * 1 ∧ Below w.heap.size w wr)
      (fun i _ => 3 - (intOf i).toNat)
    case atStart => exact ⟨0, D4, rfl, by omega, hD4, hDs4, hb4⟩
    case round =>
      obtain ⟨k, D, rfl, hk, hAD, hDs, hch⟩ := hrel
      by_cases hlt : k < 3
      · have hI : (k : Int) < 3 := by omega
        obtain ⟨u, c0⟩ := hAD.at (j := k) (by omega)
        have f0 := hAD.frozen k
        go_wp2
        go_roundw
        case rel => exact ⟨k + 1, _, by go_num, by omega, hAD.set k _, by simpa using hDs, hch.setCell (p := ⟨g4, k, none⟩) hg' _⟩
        case measure => simp [intOf]; omega
      · obtain rfl : k = 3 := by omega
        have hI : ¬ ((3 : Int) < 3) := by omega
        go_wp2
        go_end0
        exact ⟨rfl, hch⟩
end Go.Proofs.Ytlebojbfcolkhaa
/- Layer state: the walk of StateFresh. -/
namespace Go.Proofs.Ytlebojbfcolkhaa
set_option linter.unusedSectionVars false
set_option maxHeartbeats 1000000
open Go.RowKit
set_option maxRecDepth 100000
set_option linter.unusedVariables false
set_option linter.unusedSimpArgs false

variable [DecidableEq Ac] [DecidableEq Ou]
def X7 : List Int := 7 :: List.replicate 31 0
theorem lit7 : ∃ Y : List Int, Y.length = 32 ∧ Value.agg #[.int .u8 7, .int .u8 0, .int .u8 0, .int .u8 0, .int .u8 0, .int .u8 0, .int .u8 0, .int .u8 0, .int .u8 0, .int .u8 0, .int .u8 0, .int .u8 0, .int .u8 0, .int .u8 0, .int .u8 0, .int .u8 0, .int .u8 0, .int .u8 0, .int .u8 0, .int .u8 0, .int .u8 0, .int .u8 0, .int .u8 0, .int .u8 0, .int .u8 0, .int .u8 0, .int .u8 0, .int .u8 0, .int .u8 0, .int .u8 0, .int .u8 0, .int .u8 0] = .agg (h8 Y) := ⟨X7, rfl, rfl⟩
theorem own_there {w : World} {base n cap : Nat} {sp : Option Addr} {xs : List Value} (h : w.ownsRow base 24 32 (.slice sp n cap) n xs) (h0 : 0 < n) : ∃ g, sp = some ⟨g, 0, none⟩ ∧ base ≤ g ∧ g < w.heap.size ∧ w.there g 0 (n * 32) := by
  obtain ⟨-, h | ⟨g, cap', cur, e, hg, hh, hnc, hcm, hc, ht⟩⟩ := h
  · have := h.2; omega
  · cases e
    refine ⟨g, rfl, hg, (Array.getElem?_eq_some_iff.1 hh).1, fun j hj => ⟨?_, ?_⟩⟩
    · rw [Nat.zero_add, cell_of_row w g _ cur 24 (0, 0) hh, Array.getElem?_eq_getElem (by have := Nat.mul_le_mul_right 32 hnc; omega)]
      rfl
    · simp [World.frozen?, hh]
theorem st30n {ops : Array Oper} {rest : List Oper} {o : Oper} {a : Act} {Q : Exit → Act → World → Prop} (hgd : o.guard = none) (x y : Operand) (ho : o.op = .store 30 x y) (W : World) (g : Nat) (hgW : W.heap.size = g) {z : Array Value} (hz : z.size = 1089)
    (ps : List Ac) (sp : Option Addr) (n cap : Nat) (hx : a.eval x = .pointer (some ⟨g, 0, none⟩)) (hy : a.eval y = .agg (stA ps sp n cap)) (h1 : ps.length = 32) (h2 : ∀ a ∈ ps, a.lk.length = 32)
    (h : wpList Try.prog ops Q rest (a.put o.dst undef) (W.alloc (.cells (stA ps sp n cap) 30))) : wpList Try.prog ops Q (o :: rest) a (W.alloc (.cells z 30)) := by
  subst hgW
  exact wpList_store_new W z 30 hgd 30 x y ho (stA ps sp n cap) hx hy (by rw [stA_size h1 h2]; exact size30) (by rw [hz, stA_size h1 h2]) (stA_one ps sp n cap) h
theorem ld30g {ops : Array Oper} {rest : List Oper} {o : Oper} {a : Act} {w : World} {Q : Exit → Act → World → Prop} (hgd : Region.wanted o (yielded ops a.tmps) = true) (x : Operand) (ho : o.op = .load 30 x)
    (g ty : Nat) (hx : a.eval x = .pointer (some ⟨g, 0, none⟩)) (ps : List Ac) (sp : Option Addr) (n cap : Nat) (h1 : ps.length = 32) (h2 : ∀ a ∈ ps, a.lk.length = 32) (hA : Arr w g ty (stA ps sp n cap))
    (h : wpList Try.prog ops Q rest (a.put o.dst (.agg (stA ps sp n cap))) w) : wpList Try.prog ops Q (o :: rest) a w :=
  wpList_want hgd fun _ hK => wp_load_mid 30 x ho g 0 hx (stC ps sp n cap) _ hA.st Try.underlying30 rfl (by rw [stC_len h1 h2]; exact size30) (hK _ _ h)
theorem EO.chg {S : Nat → Prop} {base ax : Nat} {w w' : World} {v : Value} {es : List En} (h : EO base ax w v es) (hc : Chg S w w') (hS : ∀ b, base ≤ b → ¬ S b) : EO base ax w' v es :=
  ⟨own_same h.own (fun k hk => hc.block k (own_lt h.own hk) (hS k (own_ge h.own k hk))), fun e he => ⟨(h.ok e he).body.same hc.size (fun b off _ q hb => hc.block b hb (hS b (h.ap e he b off q).1)), (h.ok e he).s32⟩, fun e he b off q => by
    have a := h.ap e he b off q
    have := hc.size
    exact ⟨a.1, by omega, a.2.2⟩⟩
theorem Chg.arr {S : Nat → Prop} {w w' : World} {g ty : Nat} {C : Array Value} (h : Chg S w w') (hA : Arr w g ty C) (hS : ¬ S g) : Arr w' g ty C := by
  unfold Arr at hA ⊢
  rw [h.block g (Array.getElem?_eq_some_iff.1 hA).1 hS]; exact hA
theorem Chg.setCells {S : Nat → Prop} {a : World} : ∀ (vs : List Value) {b : World} {g o : Nat}, Chg S a b → (g < a.heap.size → S g) → Chg S a (b.setCells g o vs)
  | [], b, g, o, h, _ => h
  | v :: r, b, g, o, h, hg => by
    show Chg S a ((b.setCell ⟨g, o, none⟩ v).setCells g (o + 1) r)
    exact Chg.setCells r (h.setCell v hg) hg
theorem last_len {ps : List Ac} {os : List Ou} {es : List En} {f : En} (hb : Hid (es.map En.bs = if may ps os.length = true then knB ps os else [])) (hf : es[es.length - 1]? = some f) : 2 ≤ f.bs.length := by
  have hm : (es.map En.bs)[es.length - 1]? = some f.bs := by rw [List.getElem?_map, hf]; rfl
  have hl : es.length = (es.map En.bs).length := by simp
  rw [hl, hb.out] at hm
  by_cases hmy : may ps os.length = true
  · rw [if_pos hmy] at hm
    unfold knB at hm
    generalize (ps.map (fun a => 0 :: acb a) ++ os.map (fun o => 0 :: oub o) ++ prs 5 (pad (al ps)) ++ prs 5 (pad (ol os))) = A at hm
    rw [List.length_append] at hm
    simp only [List.length_cons, List.length_nil] at hm
    rw [List.getElem?_append_right (by omega), show A.length + (0 + 1 + 1) - 1 - A.length = 1 by omega] at hm
    simp at hm
    rw [← hm]
    simp only [List.length_cons, List.length_append, cnt_len]
    omega
  · rw [if_neg hmy] at hm; simp at hm
theorem each_pos {ps : List Ac} {os : List Ou} {es : List En} {e : En} {i : Nat} (hb : Hid (es.map En.bs = if may ps os.length = true then knB ps os else [])) (he : es[i]? = some e) : 0 < e.bs.length := by
  have hm : (es.map En.bs)[i]? = some e.bs := by rw [List.getElem?_map, he]; rfl
  rw [hb.out] at hm
  by_cases hmy : may ps os.length = true
  · rw [if_pos hmy] at hm; exact knB_ne hm
  · rw [if_neg hmy] at hm; simp at hm
/-- Prove, whatever the state. -/
theorem prove_one (ps : List Ac) (n : Nat) (os : List Ou) (i : Nat) (hi : i < 32) (h1 : ps.length = 32) (hok : ∀ a ∈ ps, AcOK a) (hn : n ≤ 140737488355328) : ∃ (m : Nat) (path : List (List Int)) (o : List Int) (k code : Int), o.length = 32 ∧ m ≤ 5 ∧ Hid (∀ (N : Nat) (sp : Option Addr) (c : Nat) (u : World), SS N u ps sp n c os → Calls Try.prog 17 #[.agg (stA ps sp n c), .int .i64 i] u (WP m path o k code u)) := by
  cases hm : may ps n
  · exact ⟨0, [], Z32, 0, 2, Z32_len, by omega, Hid.mk' fun N sp c u hS => prove_no ps sp n c i u h1 hok hn (.inl hm)⟩
  · exact ⟨5, _, tr 5 (ol os), n, 0, tr5_len (ol_32 os), by omega, Hid.mk' fun N sp c u hS => prove_ok ps N sp n c os i u hS hm hi⟩
end Go.Proofs.Ytlebojbfcolkhaa
/- Layer state: the walk of StateFresh. -/
namespace Go.Proofs.Ytlebojbfcolkhaa
set_option linter.unusedSectionVars false
set_option maxHeartbeats 1000000
open Go.RowKit
set_option maxRecDepth 100000
set_option linter.unusedVariables false
set_option linter.unusedSimpArgs false

variable [DecidableEq Ac] [DecidableEq Ou]
/-- Each entry's bytes begin a block of their own. -/
def RowsOK (es : List En) (u : World) : Prop := ∀ (i : Nat) (e : En), es[i]? = some e → ∃ (g : Nat) (C : Array Value), e.sp = some ⟨g, 0, none⟩ ∧ Arr u g 5 C ∧ C.size = e.cap
/-- The blocks of all entries but the last. -/
def TB (es : List En) (b : Nat) : Prop := ∃ (i : Nat) (e : En), es[i]? = some e ∧ i + 1 < es.length ∧ e.sp = some ⟨b, 0, none⟩
theorem RowsOK.step {es : List En} {u u' : World} {g : Nat} {C : Array Value} {i : Nat} {e : En} (h : RowsOK es u) (he : es[i]? = some e) (hg : e.sp = some ⟨g, 0, none⟩) (hc : Chg (· = g) u u') (hA : Arr u' g 5 C) (hC : C.size = e.cap) (hcap : ∀ (j : Nat) (f : En) (D : Array Value), es[j]? = some f → f.sp = some ⟨g, 0, none⟩ → Arr u g 5 D → D.size = f.cap → f.cap = e.cap) : RowsOK es u' := by
  intro j f hf
  obtain ⟨g', D, q, hD, hs⟩ := h j f hf
  by_cases e' : g' = g
  · subst e'
    exact ⟨g', C, q, hA, by rw [hC, hcap j f D hf q hD hs]⟩
  · exact ⟨g', D, q, hc.arr hD e', hs⟩
theorem rows_cap {es : List En} {u : World} (h : RowsOK es u) {i j g : Nat} {e f : En} (he : es[i]? = some e) (hg : e.sp = some ⟨g, 0, none⟩) (hf : es[j]? = some f) (hg' : f.sp = some ⟨g, 0, none⟩) : f.cap = e.cap := by
  obtain ⟨g1, C, q, hC, hs⟩ := h i e he
  obtain ⟨g2, D, q2, hD, hs2⟩ := h j f hf
  rw [hg] at q; cases q
  rw [hg'] at q2; cases q2
  have := hC.symm.trans hD
  cases this
  omega
theorem rows_of_eo {base ax : Nat} {w : World} {v : Value} {es : List En} (h : EO base ax w v es) (hp : ∀ (i : Nat) (e : En), es[i]? = some e → 0 < e.bs.length) : RowsOK es w := fun i e he => by
  have hb := (h.ok e (List.mem_of_getElem? he)).body
  obtain ⟨g, C, q, -, hA, hC⟩ := hb.row (by rw [hb.len.out]; exact hp i e he)
  exact ⟨g, C, q, hA, hC⟩
set_option maxHeartbeats 4000000 in
theorem fresh_walk (ps : List Ac) (sp : Option Addr) (n cap : Nat) (os : List Ou) (x : Int) (w : World) (hS : SS w.heap.size w ps sp n cap os) (hb16 : n * 16 ≤ 140737488351232) (hx : 0 ≤ x ∧ x ≤ 255) :
    Calls Try.prog 8 #[.agg (stA ps sp n cap), .int .u8 x] w fun e w' => e = .returned (.bool true) ∧ Below w.heap.size w w' := by
  have h1 := hS.a32.out
  have h2 := hS.l32
  have hok := hS.ok.out
  have hnsm := hS.outs.small
  have hlo : os.length ≤ 140737488355328 := by rw [← hS.outs.len.out]; exact hnsm
  obtain ⟨xi, hxi⟩ : ∃ i : Nat, (i : Int) = x := ⟨x.toNat, by omega⟩
  subst hxi
  obtain ⟨m, path, o, k0, code, ho, hm5, hP⟩ := prove_one ps n os (xi % 32) (by omega) h1 hok hnsm
  obtain ⟨rt, hrt⟩ : ∃ rt, Hid (rtE ps os = rt) := ⟨_, rfl⟩
  have hsmB : Hid (smB ps os ps os = true) := Hid.mk' (by simp [smB])
  have A0 := Arr.new w 30 (stA ps sp n cap)
  have B0 := alloc_bel' w (.cells (stA ps sp n cap) 30)
  have hz30 := zeroValue30
  have hzsz : (stA zs none 0 0).size = 1089 := stA_size zs_len zs_l32
  generalize stA zs none 0 0 = Z at hz30 hzsz
  obtain ⟨Y7, hY32, hY7⟩ := lit7
  replace hY7 := Hid.mk' hY7
  go_enter Try.func8, Try.ntmps8
  go_upto_region 2 with (first
    | (refine atL 30 (.tmp 2) ?_; refine ld30 (by rfl) _ (by rfl) w.heap.size 30 (by rfl) ps sp n cap h1 h2 A0 ?_)
    | (go_at_call 42; go_must (refine (copy_any ps _ sp n cap os _ (hS.below B0) hb16).mono ?_; rintro r w1 ⟨s1, c1, rfl, S1, hs1, hB1⟩))
    | (refine atS 30 (.tmp 5) (.tmp 18) ?_; refine st30n (by rfl) _ _ (by rfl) w1 w1.heap.size rfl hzsz ps s1 n c1 (by rfl) (by rfl) h1 h2 ?_))
  have hz1 : w.heap.size + 1 ≤ w1.heap.size := by have := hB1.size; simpa using this
  have AS1 := (A0.below hB1 A0.lt).alloc (.cells (stA ps s1 n c1) 30)
  have AT1 := Arr.new w1 30 (stA ps s1 n c1)
  have B1 := (B0.trans (hB1.mono (by simp))).alloc (by omega) (.cells (stA ps s1 n c1) 30)
  have T1 := S1.below (alloc_bel' w1 (.cells (stA ps s1 n c1) 30))
  have hW1 : (w1.alloc (.cells (stA ps s1 n c1) 30)).heap.size = w1.heap.size + 1 := by simp
  generalize w1.alloc (.cells (stA ps s1 n c1) 30) = W1 at *
  clear hz30 hzsz A0 B0 hB1 S1
  go_upto_region 3 with (first
    | (refine atL 30 (.tmp 5) ?_; refine ld30 (by rfl) _ (by rfl) w1.heap.size 30 (by rfl) ps s1 n c1 h1 h2 AT1 ?_)
    | (go_at_call 17; go_must (refine (hP.out _ _ _ _ T1).mono ?_; rintro r w2 ⟨s2, c2, rfl, H2, own2, hB2⟩))
    | (refine atS 44 (.tmp 6) (.tmp 25) ?_; refine st44n (by rfl) _ _ (by rfl) w2 w2.heap.size rfl (by rfl) s2 m c2 o k0 (by rfl) (by rfl) ho ?_))
  have hz2 : w1.heap.size + 1 ≤ w2.heap.size := by have := hB2.size; omega
  have hp0 : 0 < m → ∃ g, s2 = some ⟨g, 0, none⟩ ∧ W1.heap.size ≤ g ∧ g < w2.heap.size ∧ w2.there g 0 (m * 32) := own_there own2
  have hpc := H2.le
  have hpb := H2.big
  have hps := H2.small
  have AS2 := (AS1.below hB2 AS1.lt).alloc (.cells (wtA s2 m c2 o k0) 44)
  have AT2 := (AT1.below hB2 AT1.lt).alloc (.cells (wtA s2 m c2 o k0) 44)
  have AW2 := Arr.new w2 44 (wtA s2 m c2 o k0)
  have bb2 := alloc_bel' w2 (.cells (wtA s2 m c2 o k0) 44)
  have T2 := (T1.below (hB2.mono (by omega))).below (bb2.mono (by omega))
  have B2 := (B1.trans (hB2.mono B1.size)).trans (bb2.mono (by omega))
  have hW2 : (w2.alloc (.cells (wtA s2 m c2 o k0) 44)).heap.size = w2.heap.size + 1 := by simp
  have hth2 : ∀ g, w2.there g 0 (m * 32) → g < w2.heap.size → (w2.alloc (.cells (wtA s2 m c2 o k0) 44)).there g 0 (m * 32) := fun g h hg j hj => by
    have h := h j hj
    have hc := (World.cell?_of_block (w := w2) (a := ⟨g, 0 + j, none⟩) (bb2.block g hg))
    have hf : (w2.alloc (.cells (wtA s2 m c2 o k0) 44)).frozen? ⟨g, 0 + j, none⟩ = w2.frozen? ⟨g, 0 + j, none⟩ := by simp only [World.frozen?, bb2.block g hg]
    exact ⟨by rw [hc]; exact h.1, by rw [hf]; exact h.2⟩
  generalize w2.alloc (.cells (wtA s2 m c2 o k0) 44) = W2 at *
  clear T1 AS1 AT1 B1 hB2 bb2 own2 H2 hP
  go_upto_region 4 with (first
    | (refine atL 30 (.tmp 5) ?_; refine ld30 (by rfl) _ (by rfl) w1.heap.size 30 (by rfl) ps s1 n c1 h1 h2 AT2 ?_)
    | (go_at_call 32; go_must (refine (known6F_any ps _ s1 n c1 os _ T2).mono ?_; rintro r w3 ⟨v3, es, ax, rfl, E3, hbs3, hsm3, hlu3, hB3⟩; obtain ⟨s3, c3, rfl, ES3⟩ := E3.es (by have := KPostF.small h1 hbs3; omega); rw [hrt.out])))
  have hLs := KPostF.small h1 hbs3
  have hes3 := ES3.le
  have heb3 := ES3.big
  clear ES3
  obtain ⟨L, hL⟩ : ∃ L, Hid (es.length = L) := ⟨_, rfl⟩
  rw [hL.out] at hLs E3 hes3 ⊢
  have hz3 := hB3.size
  have AS3 := AS2.below hB3 AS2.lt
  have AT3 := AT2.below hB3 AT2.lt
  have AW3 := AW2.below hB3 AW2.lt
  have T3 := T2.below (hB3.mono (by omega))
  have B3 := B2.trans (hB3.mono B2.size)
  have hth3 : ∀ g, w2.there g 0 (m * 32) → g < w2.heap.size → w3.there g 0 (m * 32) := fun g h hg j hj => by
    have h := hth2 g h hg j hj
    have hc := (World.cell?_of_block (w := W2) (a := ⟨g, 0 + j, none⟩) (hB3.block g (by omega)))
    have hf : w3.frozen? ⟨g, 0 + j, none⟩ = W2.frozen? ⟨g, 0 + j, none⟩ := by simp only [World.frozen?, hB3.block g (show g < W2.heap.size by omega)]
    exact ⟨by rw [hc]; exact h.1, by rw [hf]; exact h.2⟩
  clear AS2 AT2 AW2 T2 B2 hB3 hth2
  go_wp2_with fail
  go_loopw [10] (fun q wr => ∃ j : Nat, q = .int .i64 (j : Int) ∧ j ≤ m ∧ Chg (fun b => 0 < m ∧ s2 = some ⟨b, 0, none⟩) w3 wr ∧ (∀ g, w3.there g 0 (m * 32) → wr.there g 0 (m * 32))) (fun q _ => m - (intOf q).toNat)
  case atStart => exact ⟨0, rfl, by omega, Chg.refl _ _, fun _ h => h⟩
  case round =>
    obtain ⟨j, rfl, hj, hch, hth⟩ := hrel
    have hSb : ∀ b, (0 < m ∧ s2 = some ⟨b, 0, none⟩) → W1.heap.size ≤ b ∧ b < w2.heap.size := fun b ⟨h0, e⟩ => by
      obtain ⟨g, e', a1, a2, -⟩ := hp0 h0
      rw [e] at e'; cases e'
      exact ⟨a1, a2⟩
    have AW4 := hch.arr AW3 (fun h => by have := hSb _ h; omega)
    have cW := wt_c0 AW4.wt
    by_cases hlt : j < m
    · have hI : (j : Int) < m := by omega
      obtain ⟨g, rfl, hg, hg2, ht⟩ := hp0 (by omega)
      have ht' := hth g (hth3 g ht hg2)
      have ht32 : wr.there g (j * 32) (h8 Y7).size := fun t h => by
        have := ht' (j * 32 + t) (by rw [h8_size, hY32] at h; omega)
        rwa [Nat.zero_add] at this
      replace hp0 := Hid.mk' hp0
      replace hSb := Hid.mk' hSb
      go_wp2_with (first
        | (refine wpList_store_mid (by rfl) 24 _ _ (by rfl) g (j * 32) (h8 Y7) (by rfl) (by exact hY7.out) ht32 (s24h8 hY32) (h8_one Y7) ?_))
      go_roundw
      case rel => exact ⟨j + 1, by go_num, by omega, Chg.setCells _ hch (fun _ => ⟨by omega, rfl⟩), fun g' h' => World.there_setCells (hth g' h') _ _ _⟩
      case measure => simp [intOf]; omega
    · obtain rfl : j = m := by omega
      have hI : ¬ (j : Int) < j := by omega
      generalize wr = w4 at *
      have hz4 := hch.size
      have AS4 := hch.arr AS3 (fun h => by have := hSb _ h; omega)
      have AT4 := hch.arr AT3 (fun h => by have := hSb _ h; omega)
      have b34 : Below W1.heap.size w3 w4 := hch.below (fun i hi => ⟨by omega, fun h => by have := hSb _ h; omega⟩)
      have T4 := T3.below (b34.mono (by omega))
      have B4 := B3.trans (b34.mono (by omega))
      have E4 := E3.chg hch (fun b hb h => by have := hSb _ h; omega)
      have hR4 := rows_of_eo E4 (fun i e he => each_pos hbs3 he)
      have hTB : ∀ b, TB es b → W2.heap.size ≤ b ∧ some b ≠ (Value.slice s3 L c3).ownBlock := fun b ⟨i, e, he, _, q⟩ => by
        have := E4.ap e (List.mem_of_getElem? he) b 0 q
        exact ⟨this.1, this.2.2.1⟩
      clear AS3 AT3 AW3 T3 B3 E3 hth hth3 b34 hch hSb hp0
      replace hTB := Hid.mk' hTB
      replace hR4 := Hid.mk' hR4
      go_wp2_with fail
      go_loopw [11] (fun q wr => ∃ k : Nat, q = .int .i64 (k : Int) ∧ k ≤ L ∧ Hid (Chg (TB es) w4 wr) ∧ Hid (RowsOK es wr)) (fun q _ => L - (intOf q).toNat)
      case atStart => exact ⟨0, rfl, by omega, Hid.mk' (Chg.refl _ _), hR4⟩
      case round =>
        obtain ⟨k, rfl, hk, hct, hro⟩ := hrel
        by_cases hlt : k < L
        · have hI : (k : Int) < L := by omega
          obtain ⟨q, hq⟩ : ∃ q, Hid (L = q + 1) := ⟨L - 1, Hid.mk' (by omega)⟩
          have hqL : (q : Int) < L := by have := hq.out; omega
          have hqL' : q < L := by have := hq.out; omega
          have hw1 : IntKind.i64.wrap ((L : Int) - 1) = (q : Int) := by have := hq.out; rw [IntKind.wrap_i64]; omega
          obtain ⟨g3, hg3⟩ : ∃ g3, s3 = some ⟨g3, 0, none⟩ := by
            have ho := E4.own
            rw [hL.out, hq.out] at ho
            obtain ⟨g, c', e⟩ := own_some ho
            cases e; exact ⟨g, rfl⟩
          subst hg3
          obtain ⟨s', c', e', ES4⟩ := E4.es (by rw [hL.out]; omega)
          rw [hL.out] at e' ES4
          cases e'
          obtain ⟨b', off', q', hb', hR⟩ := ES4.at0 (by omega)
          cases q'
          have hkeep : wr.heap[g3]? = w4.heap[g3]? := hct.out.block g3 hb' (fun h => (hTB.out _ h).2 rfl)
          obtain ⟨f, hf⟩ : ∃ f, es[q]? = some f := ⟨es[q]'(by rw [hL.out]; omega), List.getElem?_eq_getElem _⟩
          obtain ⟨e, he⟩ : ∃ e, es[k]? = some e := ⟨es[k]'(by rw [hL.out]; omega), List.getElem?_eq_getElem _⟩
          have hlast : es[es.length - 1]? = some f := by rw [hL.out, hq.out]; exact hf
          obtain ⟨gf, Cf, qf, Af, hCf⟩ := hro.out q f hf
          obtain ⟨ge, Ce, qe, Ae, hCe⟩ := hro.out k e he
          have cf : wr.cell? ⟨g3, q * 33, none⟩ = some (.slice (some ⟨gf, 0, none⟩) f.n f.cap) := by
            have := range_c0 (hR q f hf)
            rw [Nat.zero_add, qf] at this
            exact (World.cell?_of_block (w := w4) (a := ⟨g3, q * 33, none⟩) hkeep).trans this
          have ce : wr.cell? ⟨g3, k * 33, none⟩ = some (.slice (some ⟨ge, 0, none⟩) e.n e.cap) := by
            have := range_c0 (hR k e he)
            rw [Nat.zero_add, qe] at this
            exact (World.cell?_of_block (w := w4) (a := ⟨g3, k * 33, none⟩) hkeep).trans this
          have bf := (E4.ok f (List.mem_of_getElem? hf)).body
          have be := (E4.ok e (List.mem_of_getElem? he)).body
          have hfn : 2 ≤ f.n := by rw [bf.len.out]; exact last_len hbs3 hlast
          have hfc := bf.le
          have hfb := bf.big
          have hec := be.le
          have heb := be.big
          have hesm := be.small
          have hnot : ¬ TB es gf := fun ⟨i, e2, he2, hi2, q2⟩ => hlu3.out i e2 f he2 hlast hi2 _ _ _ _ q2 qf rfl
          have cy : ∀ u, Chg (TB es) w4 u → u.cell? ⟨gf, 1, none⟩ = some (.int .u8 (bat f.bs 1)) := fun u hu => by
            obtain ⟨b2, o2, q2, hb2, hB2⟩ := bf.at0 (by omega)
            rw [qf] at q2; cases q2
            have := hB2 1 (by omega)
            rw [Nat.zero_add] at this
            exact (World.cell?_of_block (w := w4) (a := ⟨gf, 1, none⟩) (hu.block gf hb2 hnot)).trans this
          have cy0 := cy wr hct.out
          have hcap := fun j f2 (D : Array Value) (h1 : es[j]? = some f2) (h2 : f2.sp = some ⟨ge, 0, none⟩) (_ : Arr wr ge 5 D) (_ : D.size = f2.cap) => rows_cap hro.out he qe h1 h2
          have hTk : k < q → TB es ge := fun hkq => ⟨k, e, he, by rw [hL.out, hq.out]; omega, qe⟩
          have hgne : k < q → gf ≠ ge := fun hkq e' => hnot (e' ▸ hTk hkq)
          have hkeep2 : ∀ u, Chg (· = ge) wr u → ge ≠ g3 → u.cell? ⟨g3, q * 33, none⟩ = some (.slice (some ⟨gf, 0, none⟩) f.n f.cap) := fun u hu hne => (World.cell?_of_block (w := wr) (a := ⟨g3, q * 33, none⟩) (hu.block g3 (by have := hct.out.size; omega) (fun h => hne h.symm))).trans cf
          have hge3 : k < q → ge ≠ g3 := fun hkq e' => (hTB.out ge (hTk hkq)).2 (by rw [e']; rfl)
          generalize f.n = nf at *
          generalize f.cap = cf' at *
          generalize bat f.bs 1 = y at *
          obtain ⟨ne, hne⟩ : ∃ ne, Hid (e.n = ne) := ⟨_, rfl⟩
          obtain ⟨cpe, hcpe⟩ : ∃ c, Hid (e.cap = c) := ⟨_, rfl⟩
          rw [hne.out, hcpe.out] at ce
          rw [hne.out, hcpe.out] at hec
          rw [hcpe.out] at heb
          rw [hne.out] at hesm
          have hf1 : (1 : Int) < nf := by omega
          have hf1' : 1 < nf := by omega
          replace hcap := Hid.mk' hcap
          replace hTk := Hid.mk' hTk
          replace hgne := Hid.mk' hgne
          replace hkeep2 := Hid.mk' hkeep2
          replace hge3 := Hid.mk' hge3
          replace cy := Hid.mk' cy
          replace hf := Hid.mk' hf
          replace he := Hid.mk' he
          replace hlast := Hid.mk' hlast
          replace qf := Hid.mk' qf
          replace qe := Hid.mk' qe
          replace hR := Hid.mk' hR
          replace bf := Hid.mk' bf
          replace be := Hid.mk' be
          replace hkeep := Hid.mk' hkeep
          replace hCe := Hid.mk' hCe
          replace hCf := Hid.mk' hCf
          have hyy : (y != y) = false := by simp
          by_cases hkq : k < q
          · have hI2 : (k : Int) < q := by omega
            go_upto_region 13 with fail
            go_upto_region 14 with (first
              | (go_at_call 43; go_must (refine (spoil_some ge ne cpe _ Ce wr Ae (by rw [hCe.out, hcpe.out]) (by omega) (by unfold maxLen; omega) (by omega) (by omega)).mono ?_; rintro r u ⟨rfl, hcu, C2, A2, hC2⟩; have cf2 := hkeep2.out u hcu (hge3.out hkq); have hct2 : Chg (TB es) w4 u := hct.out.trans (hcu.mono (fun i _ e' => e' ▸ hTk.out hkq)); have cy2 := cy.out u hct2)))
            clear cf cy0 ce
            go_wp2_with fail
            go_roundw
            case rel => exact ⟨k + 1, by go_num, by omega, Hid.mk' hct2, Hid.mk' (RowsOK.step hro.out he.out qe.out hcu A2 (by rw [hC2, hcpe.out]) (fun j f2 D a b c d => hcap.out j f2 D a b c d))⟩
            case measure => simp [intOf]; omega
          · have hI2 : ¬ (k : Int) < q := by omega
            go_wp2_with fail
            go_roundw
            case rel => exact ⟨k + 1, by go_num, by omega, hct, hro⟩
            case measure => simp [intOf]; omega
        · obtain rfl : k = L := by omega
          have hI : ¬ (k : Int) < k := by omega
          have hz5 := hct.out.size
          have AS5 := hct.out.arr AS4 (fun h => by have := (hTB.out _ h).1; omega)
          have AT5 := hct.out.arr AT4 (fun h => by have := (hTB.out _ h).1; omega)
          have b45 : Below W1.heap.size w4 wr := hct.out.below (fun i hi => ⟨by omega, fun h => by have := (hTB.out _ h).1; omega⟩)
          have T5 := T4.below (b45.mono (by omega))
          have B5 := B4.trans (b45.mono (by omega))
          clear AS4 AT4 T4 B4 E4 hR4
          go_upto_region 17 with (first
            | (refine atL 30 (.tmp 5) ?_; refine ld30 (by rfl) _ (by rfl) w1.heap.size 30 (by rfl) ps s1 n c1 h1 h2 AT5 ?_)
            | (go_at_call 32; go_must (refine (known6_any ps _ s1 n c1 os _ T5).mono ?_; rintro r w6 ⟨s6, n6, c6, es6, rfl, E6, hb6, hs6, hB6⟩; rw [hrt.out])))
          have hz6 := hB6.size
          have AS6 := AS5.below hB6 AS5.lt
          have AT6 := AT5.below hB6 AT5.lt
          have T6 := T5.below (hB6.mono (by omega))
          have B6 := B5.trans (hB6.mono B5.size)
          go_upto_region 18 with (first
            | (refine atL 30 (.tmp 2) ?_; refine ld30 (by rfl) _ (by rfl) w.heap.size 30 (by rfl) ps sp n cap h1 h2 AS6 ?_)
            | (go_at_call 33; go_must (refine (refKnown_any ps _ sp n cap os _ (hS.below B6)).mono ?_; intro r w7 hR7; obtain ⟨s7, n7, c7, es7, rfl, E7, hb7, hs7, hB7⟩ := RKPost.k h1 hlo hR7; rw [hrt.out])))
          obtain rfl : n6 = n7 := by
            have e := congrArg List.length (hb6.out.trans hb7.out.symm)
            rw [List.length_map, List.length_map] at e
            rw [E6.len.out, E7.len.out, e]
          have hz7 := hB7.size
          have AS7 := AS6.below hB7 AS6.lt
          have AT7 := AT6.below hB7 AT6.lt
          have T7 := T6.below (hB7.mono (by omega))
          have B7 := B6.trans (hB7.mono B6.size)
          have E6' := E6.below hB7
          have hpp : (rt == rt) = true := by simp
          clear AS5 AS6 AT5 AT6 T5 T6 B5 B6
          go_wp2_with (first
            | (go_at_call 22; go_must (refine (anchored_any _).mono ?_; rintro r w8 ⟨rfl, hb8⟩; have B8 := B7.trans (hb8.mono B7.size); have AS8 := AS7.below hb8 AS7.lt; have AT8 := AT7.below hb8 AT7.lt; have T8 := T7.below (hb8.mono (by omega)); have E68 := E6'.below (hb8.mono hz7); have E78 := E7.below hb8))
            | (refine atL 30 (.tmp 2) ?_; refine ld30g (by rfl) _ (by rfl) w.heap.size 30 (by rfl) ps sp n cap h1 h2 AS8 ?_)
            | (refine atL 30 (.tmp 5) ?_; refine ld30g (by rfl) _ (by rfl) w1.heap.size 30 (by rfl) ps s1 n c1 h1 h2 AT8 ?_)
            | (go_at_call 16; go_must (refine (refSsame_any ps _ sp n cap os ps _ s1 n c1 os _ (hS.below B8) T8).mono ?_; rw [hsmB.out]; rintro r w9 ⟨rfl, hb9⟩; have B9 := B8.trans (hb9.mono B8.size); have hz8 := hb8.size; have E69 := E68.below (hb9.mono (by omega)); have E79 := E78.below (hb9.mono (by omega))))
            | (go_at_call 34; go_must (refine (same5_l _ _ s6 s7 n6 c6 c7 es6 es7 _ E69 E79 (by rw [hb6.out, hb7.out]) hs6.out hs7.out).mono ?_; rintro r w10 ⟨rfl, hb10⟩; have B10 := B9.trans (hb10.mono B9.size))))
          go_ret
          exact ⟨rfl, B10⟩
end Go.Proofs.Ytlebojbfcolkhaa

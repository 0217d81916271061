/- Layer collide: Spoil writes over a row of its own, and into new memory. -/
import Derived.Test.YtgjnbpimldjkpaaCi
namespace Go.Proofs.Ytgjnbpimldjkpaa
open Go.RowKit
set_option linter.unusedVariables false
set_option linter.unusedSimpArgs false

theorem own_some {w : World} {base n e s : Nat} {v : Value} {xs : List Value} (h : w.ownsRow base e s v (n + 1) xs) : ∃ g cap, v = .slice (some ⟨g, 0, none⟩) (n + 1) cap := by
  obtain ⟨-, h | ⟨g, cap, cur, rfl, -⟩⟩ := h
  · omega
  · exact ⟨g, cap, rfl⟩
/-- Nothing that was there has changed but some blocks. -/
structure Chg (S : Nat → Prop) (w w' : World) : Prop where
  os : w'.os = w.os
  tape : w'.tape = w.tape
  output : w'.output = w.output
  size : w.heap.size ≤ w'.heap.size
  block : ∀ b, b < w.heap.size → ¬ S b → w'.heap[b]? = w.heap[b]?
theorem Chg.refl (S : Nat → Prop) (w : World) : Chg S w w := ⟨rfl, rfl, rfl, Nat.le_refl _, fun _ _ _ => rfl⟩
theorem Chg.trans {S : Nat → Prop} {a b c : World} (h : Chg S a b) (k : Chg S b c) : Chg S a c :=
  ⟨k.os.trans h.os, k.tape.trans h.tape, k.output.trans h.output, Nat.le_trans h.size k.size, fun i hi hs => (k.block i (Nat.lt_of_lt_of_le hi h.size) hs).trans (h.block i hi hs)⟩
theorem Chg.mono {S T : Nat → Prop} {a b : World} (h : Chg S a b) (hST : ∀ i, i < a.heap.size → S i → T i) : Chg T a b :=
  ⟨h.os, h.tape, h.output, h.size, fun i hi ht => h.block i hi fun hs => ht (hST i hi hs)⟩
theorem Chg.of_below {S : Nat → Prop} {a b : World} (h : Below a.heap.size a b) : Chg S a b := ⟨h.os, h.tape, h.output, h.size, fun i hi _ => h.block i hi⟩
theorem Chg.below {S : Nat → Prop} {a b : World} {N : Nat} (h : Chg S a b) (hN : ∀ i, i < N → i < a.heap.size ∧ ¬ S i) : Below N a b := ⟨h.os, h.tape, h.output, h.size, fun i hi => h.block i (hN i hi).1 (hN i hi).2⟩
theorem Chg.alloc {S : Nat → Prop} {a b : World} (h : Chg S a b) (o : Obj) : Chg S a (b.alloc o) :=
  h.trans (Chg.of_below (alloc_bel' b o))
theorem Chg.grown {S : Nat → Prop} {a b c : World} {row : Option Nat} (h : Chg S a b) (hg : b.grownBy c row) (hr : ∀ k, k < a.heap.size → row = some k → S k) : Chg S a c :=
  ⟨hg.os.trans h.os, hg.tape.trans h.tape, hg.output.trans h.output, Nat.le_trans h.size hg.size, fun i hi hs => (hg.block i (Nat.lt_of_lt_of_le hi h.size) (fun e => hs (hr i hi e.symm))).trans (h.block i hi hs)⟩
theorem Chg.setCell {S : Nat → Prop} {a b : World} (h : Chg S a b) {g j : Nat} (v : Value) (hg : g < a.heap.size → S g) : Chg S a (b.setCell ⟨g, j, none⟩ v) :=
  ⟨h.os, h.tape, h.output, by simpa [World.setCell] using h.size, fun i hi hs => (Below.heap_setCell _ _ _ _ (fun e => hs (by have e : i = g := e; subst e; exact hg hi))).trans (h.block i hi hs)⟩

/-- A byte of a row is written. -/
theorem own_set {w : World} {base g n cap j : Nat} {L : List Int} (h : w.ownsRow base 5 1 (.slice (some ⟨g, 0, none⟩) n cap) n (by8 L)) (hj : j < n) (x : Int) : (w.setCell ⟨g, j, none⟩ (.int .u8 x)).ownsRow base 5 1 (.slice (some ⟨g, 0, none⟩) n cap) n (by8 (L.set j x)) := by
  obtain ⟨hl, h | ⟨g', cap', cur, e, hg, hh, hn, hm, hc, ht⟩⟩ := h
  · cases h.1
  · cases e
    have hA : Arr w g 5 cur := hh
    refine ⟨by simpa [by8_len] using hl, .inr ⟨g, cap, cur.setIfInBounds j (.int .u8 x), rfl, hg, hA.set j _, hn, hm, by simpa using hc, ?_⟩⟩
    rw [Array.toList_setIfInBounds, List.take_set, ht]
    simp [by8, List.map_set]
theorem row_arr {w : World} {base g n cap e s : Nat} {xs : List Value} (h : w.ownsRow base e s (.slice (some ⟨g, 0, none⟩) n cap) n xs) : ∃ C, Arr w g e C ∧ C.size = cap * s ∧ n ≤ cap := by
  obtain ⟨hl, h | ⟨g', cap', cur, e, hg, hh, hn, hm, hc, ht⟩⟩ := h
  · cases h.1
  · cases e; exact ⟨cur, hh, hc, hn⟩
theorem own_len {w : World} {base n : Nat} {v : Value} {L : List Int} (h : w.ownsRow base 5 1 v n (by8 L)) : L.length = n := by
  have := h.1; rw [by8_len] at this; omega
theorem own_cell {w : World} {base g n cap j : Nat} {L : List Int} (h : w.ownsRow base 5 1 (.slice (some ⟨g, 0, none⟩) n cap) n (by8 L)) (hj : j < n) : w.cell? ⟨g, j, none⟩ = some (.int .u8 (bat L j)) := by
  have hl := own_len h
  have := h.cells (g := g) rfl j (.int .u8 (bat L j)) (by8_get (by omega))
  rwa [Addr.add_mid, Nat.zero_add] at this

/-- Where what append answers lies, and what it leaves. -/
theorem append_where {P : Program} {w : World} {base t ty e : Nat} {i : TypeInfo} {z : Value} (ht : P.underlying t = some (.slice e)) (hi : P.info? e = some i) (hz : i.zero = some z)
    {v : Value} {n : Nat} {xs : List Value} (hown : w.ownsRow base e i.size v n xs) {a : Addr} {m c : Nat} {news : List Value} (hm : 0 < m) (hl : news.length = m * i.size) (hnews : ∀ j u, news[j]? = some u → w.cell? (a.add j) = some u) (h1 : ∀ u ∈ news, u.oneCell' = true)
    (h63 : n + m ≤ maxLen) (hbytes : (n + m) * i.bytes ≤ 140737488355328) {v' : Value} {w' : World} (hr : (Builtin.append_ #[t, t] ty #[v, .slice (some a) m c]).run P w = .ok v' w') :
    (∃ g cap, v = .slice (some ⟨g, 0, none⟩) n cap ∧ v' = .slice (some ⟨g, 0, none⟩) (n + m) cap) ∨ (v'.ownBlock = some w.heap.size ∧ ∀ b, b < w.heap.size → w'.heap[b]? = w.heap[b]?) := by
  have hsmall : n + m ≤ 9223372036854775807 := by simp only [maxLen] at h63; omega
  rcases hown.2 with ⟨rfl, rfl⟩ | ⟨g, cap, cur, rfl, hbg, hg, hnc, hcm, hcs, htake⟩
  · have h := run_append_nil (P := P) w t ty e i z ht hi hz a m c news hl hnews (by omega) (by omega) (by have hb := hbytes; simp only [Nat.zero_add] at hb; omega)
    rw [h] at hr
    cases hr
    exact .inr ⟨rfl, fun b hb => Below.heap_alloc _ _ _ hb⟩
  · by_cases hroom : n + m ≤ cap
    · have hfit : n * i.size + news.length ≤ cur.size := by rw [hl, hcs, ← Nat.add_mul]; exact Nat.mul_le_mul_right _ hroom
      have h := run_append_room (P := P) w t ty e i ht hi g n cap cur hg a m c news hl hnews h1 hroom hfit
      rw [h] at hr
      cases hr
      exact .inl ⟨g, cap, rfl, rfl⟩
    · have holds : ∀ j u, xs[j]? = some u → w.cell? ((⟨g, 0, none⟩ : Addr).add j) = some u := hown.cells (g := g) rfl
      have h := run_append_grow (P := P) w t ty e i z ht hi hz ⟨g, 0, none⟩ n cap xs hown.1 holds a m c news hl hnews (by omega) (by omega) (growslice_fits (by omega) hbytes)
      rw [h] at hr
      cases hr
      exact .inr ⟨rfl, fun b hb => Below.heap_alloc _ _ _ hb⟩
/-- append of bytes onto a row of the call's own, and where the answer lies. -/
theorem append_marks {ops : Array Oper} {rest : List Oper} {o : Oper} {a : Act} {w : World} {Q : Exit → Act → World → Prop} (hgd : Region.wanted o (yielded ops a.tmps) = true) (s x : Operand)
    (ho : o.op = .call { callee := .builtin .append, args := #[s, x], argTypes := #[38, 38] })
    (base : Nat) (v : Value) (n : Nat) (L : List Value) (hs : a.eval s = v) (hown : w.ownsRow base 5 1 v n L)
    (ad : Addr) (m c : Nat) (M : List Int) (hx : a.eval x = .slice (some ad) m c) (hm : m = M.length) (hm0 : 0 < m) (hS : SlL w (some ad) M) (hb : n + m ≤ 140737488355328) (hbase : base ≤ w.heap.size)
    (h : ∀ v' w', w'.ownsRow base 5 1 v' (n + m) (L ++ by8 M) → w.grownBy w' v.ownBlock → ((∃ g cap, v = .slice (some ⟨g, 0, none⟩) n cap ∧ v' = .slice (some ⟨g, 0, none⟩) (n + m) cap) ∨ (v'.ownBlock = some w.heap.size ∧ ∀ b, b < w.heap.size → w'.heap[b]? = w.heap[b]?)) → wpList Try.prog ops Q rest (a.put o.dst v') w') : wpList Try.prog ops Q (o :: rest) a w := by
  obtain ⟨i0, hi, hz0, hz1, hz2⟩ := info_parts info5
  subst hm
  refine wpList_want hgd fun K hK => ?_
  have hnews : ∀ j u, (by8 M)[j]? = some u → w.cell? (ad.add j) = some u := by
    intro j u hj
    have hjl : j < M.length := by have := (List.getElem?_eq_some_iff.1 hj).1; rwa [by8_len] at this
    obtain ⟨b, off, e, hB⟩ := hS (by omega)
    obtain rfl := Option.some.inj e
    rw [by8_get hjl] at hj
    rw [Addr.add_mid, hB j hjl]; exact hj
  obtain ⟨v', w', hr, h2, h3, -⟩ := run_append_own (P := Try.prog) w base 38 o.type 5 i0 _ 1 1 Try.underlying38 hi hz0 hz1 hz2 rfl (by omega) v n _ hown ad M.length c (by8 M) (by rw [by8_len]; omega) hnews (by8_one M) (Nat.le_trans hb maxLen_ge) (by omega) hbase
  have h4 := append_where (base := base) Try.underlying38 hi hz0 (by rw [hz1]; exact hown) hm0 (by rw [by8_len, hz1]; omega) hnews (by8_one M) (Nat.le_trans hb maxLen_ge) (by rw [hz2]; omega) hr
  unfold Oper.wp execOp
  simp only [ho, resolve, invoke, builtin, Sem.run_bind, Sem.run_pure, Result.andThen_ok, List.map_toArray, List.map_cons, List.map_nil, hs, hx, hr]
  exact hK _ _ (h v' w' h2 h3 h4)

theorem row_of_arr {w : World} {g n cap : Nat} {C : Array Value} (h : Arr w g 5 C) (hC : C.size = cap) (hn : n ≤ cap) (hm : cap ≤ maxLen) : w.ownsRow 0 5 1 (.slice (some ⟨g, 0, none⟩) n cap) n (C.toList.take n) :=
  ⟨by rw [List.length_take, Array.length_toList]; omega, .inr ⟨g, cap, C, rfl, Nat.zero_le _, h, hn, hm, by omega, by rw [Nat.mul_one]⟩⟩
theorem Arr.at {w : World} {g ty : Nat} {C : Array Value} (h : Arr w g ty C) {j : Nat} (hj : j < C.size) : ∃ u, w.cell? ⟨g, j, none⟩ = some u := ⟨C[j], by rw [h.cell, Array.getElem?_eq_getElem hj]⟩

set_option maxRecDepth 100000 in
set_option maxHeartbeats 1000000 in
theorem spoil_some (g n cap : Nat) (x : Int) (C0 : Array Value) (w : World) (hA0 : Arr w g 5 C0) (hC0 : C0.size = cap) (hnc : n ≤ cap) (hcm : cap ≤ maxLen) (hn : n ≤ 1000000000) (hx : 0 ≤ x ∧ x ≤ 255) :
    Calls Try.prog 22 #[.slice (some ⟨g, 0, none⟩) n cap, .int .u8 x] w fun e w' => e = .returned (.tuple #[]) ∧ Chg (· = g) w w' ∧ ∃ C, Arr w' g 5 C ∧ C.size = cap := by
  go_enter Try.func22, Try.ntmps22
  go_wp2
  go_loopw [4] (fun i wr => ∃ (j : Nat) (C : Array Value), i = .int .i64 (j : Int) ∧ j ≤ n ∧ Arr wr g 5 C ∧ C.size = cap ∧ Chg (· = g) w wr)
    (fun i _ => n - (intOf i).toNat)
  case atStart => exact ⟨0, C0, rfl, by omega, hA0, hC0, Chg.refl _ _⟩
  case round =>
    obtain ⟨j, C, rfl, hj, hA, hCs, hch⟩ := hrel
    by_cases hlt : j < n
    · have hI : (j : Int) < n := by omega
      obtain ⟨u, c0⟩ := hA.at (j := j) (by omega)
      have f0 := hA.frozen j
      go_wp2
      go_roundw
      case rel => exact ⟨j + 1, _, by go_num, by omega, hA.set j _, by simpa using hCs, hch.setCell _ (fun _ => rfl)⟩
      case measure => simp [intOf]; omega
    · obtain rfl : j = n := by omega
      have hI : ¬ (j : Int) < j := by omega
      have M3 := Arr.new wr 5 #[.int .u8 x, .int .u8 x, .int .u8 x]
      have hS3 : SlL (wr.alloc (.cells #[.int .u8 x, .int .u8 x, .int .u8 x] 5)) (some ⟨wr.heap.size, 0, none⟩) [x, x, x] := fun _ => ⟨_, 0, rfl, fun t ht => by
        have ht' : t < 3 := ht
        rw [Nat.zero_add, M3.cell]
        match t, ht' with
        | 0, _ => rfl
        | 1, _ => rfl
        | 2, _ => rfl⟩
      have hlt := hA.lt
      have hownA := row_of_arr (hA.alloc (.cells #[.int .u8 x, .int .u8 x, .int .u8 x] 5)) hCs hnc hcm
      go_wp2_with (at_builtin; go_must (refine append_marks (by rfl) (.tmp 19) (.tmp 23) (by rfl) 0 _ j _ (by rfl) hownA ⟨wr.heap.size, 0, none⟩ 3 3 [x, x, x] (by rfl) rfl (by omega) hS3 (by omega) (by simp) ?_; intro v4 w4 hown4 hg4 hob4; obtain ⟨g4, cap4, rfl⟩ := own_some hown4))
      have hsw := hch.size
      have hch4 : Chg (· = g) w w4 := (hch.alloc _).grown hg4 (fun k hk e => by simpa [Value.ownBlock] using e.symm)
      obtain ⟨D4, hD4, hDs4, hn4⟩ := row_arr hown4
      have hA4 : (g4 = g ∨ w.heap.size ≤ g4) ∧ ∃ C, Arr w4 g 5 C ∧ C.size = cap := by
        rcases hob4 with ⟨g', cap', e1, e2⟩ | ⟨e1, e2⟩
        · cases e1; cases e2
          exact ⟨.inl rfl, D4, hD4, by omega⟩
        · have e1 : g4 = wr.heap.size + 1 := by simpa [Value.ownBlock] using e1
          exact ⟨.inr (by omega), C, (e2 g (by simp; omega)).trans (hA.alloc _), by omega⟩
      obtain ⟨hg', hA4⟩ := hA4
      clear hob4 hg4 hownA hA hS3 M3 hch hown4
      go_wp2
      go_loopw [5] (fun i wr => ∃ (k : Nat) (D : Array Value), i = .int .i64 (k : Int) ∧ k ≤ j + 3 ∧ Arr wr g4 5 D ∧ D.size = cap4 * 1 ∧ Chg (· = g) w wr ∧ ∃ C, Arr wr g 5 C ∧ C.size = cap)
        (fun i _ => j + 3 - (intOf i).toNat)
      case atStart => exact ⟨0, D4, rfl, by omega, hD4, hDs4, hch4, hA4⟩
      case round =>
        obtain ⟨k, D, rfl, hk, hAD, hDs, hch, C', hA', hC'⟩ := hrel
        by_cases hlt : k < j + 3
        · have hI : (k : Int) < (j : Int) + 3 := by omega
          obtain ⟨u, c0⟩ := hAD.at (j := k) (by omega)
          have f0 := hAD.frozen k
          go_wp2
          go_roundw
          case rel =>
            refine ⟨k + 1, _, by go_num, by omega, hAD.set k _, by simpa using hDs, hch.setCell _ (fun h => by omega), ?_⟩
            by_cases e2 : g = g4
            · subst e2
              refine ⟨_, hAD.set k _, ?_⟩
              have e : C' = D := by
                have h1 := hA'.symm.trans hAD
                cases h1; rfl
              simpa [← e] using hC'
            · exact ⟨C', hA'.setOther _ e2, hC'⟩
          case measure => simp [intOf]; omega
        · obtain rfl : k = j + 3 := by omega
          have hI : ¬ (((j + 3 : Nat) : Int) < (j : Int) + 3) := by omega
          go_wp2
          go_end0
          exact ⟨rfl, hch, C', hA', hC'⟩

set_option maxRecDepth 100000 in
set_option maxHeartbeats 1000000 in
theorem spoil_nil (x : Int) (w : World) (hx : 0 ≤ x ∧ x ≤ 255) :
    Calls Try.prog 22 #[.slice none 0 0, .int .u8 x] w fun e w' => e = .returned (.tuple #[]) ∧ Below w.heap.size w w' := by
  go_enter Try.func22, Try.ntmps22
  go_wp2
  go_loopw [4] (fun i wr => i = .int .i64 0 ∧ wr = w) (fun i _ => 0)
  case atStart => exact ⟨rfl, rfl⟩
  case round =>
    obtain ⟨rfl, rfl⟩ := hrel
    have hbt : Bts [x, x, x] := by intro y hy; simp at hy; subst hy; exact hx
    have M3 := Arr.new wr 5 #[.int .u8 x, .int .u8 x, .int .u8 x]
    have hS3 : SlL (wr.alloc (.cells #[.int .u8 x, .int .u8 x, .int .u8 x] 5)) (some ⟨wr.heap.size, 0, none⟩) [x, x, x] := fun _ => ⟨_, 0, rfl, fun t ht => by
      have ht' : t < 3 := ht
      rw [Nat.zero_add, M3.cell]
      match t, ht' with
      | 0, _ => rfl
      | 1, _ => rfl
      | 2, _ => rfl⟩
    have hownA : (wr.alloc (.cells #[.int .u8 x, .int .u8 x, .int .u8 x] 5)).ownsRow wr.heap.size 5 1 (.slice none 0 0) 0 [] := World.ownsRow_nil _ _ _ _
    go_wp2_with (at_builtin; go_must (refine append_marks (by rfl) (.tmp 19) (.tmp 23) (by rfl) wr.heap.size _ 0 [] (by rfl) hownA ⟨wr.heap.size, 0, none⟩ 3 3 [x, x, x] (by rfl) rfl (by omega) hS3 (by omega) (by simp) ?_; intro v4 w4 hown4 hg4 hob4; obtain ⟨g4, cap4, rfl⟩ := own_some hown4))
    have hg' := own_ge hown4 g4 rfl
    have hb4 : Below wr.heap.size wr w4 := (alloc_bel' wr _).grown hg4 (by simp) (fun k e => by cases e)
    clear hob4 hg4 hownA hS3 M3
    obtain ⟨D4, hD4, hDs4, hn4⟩ := row_arr hown4
    clear hown4
    generalize hW : wr = w at *
    go_wp2
    go_loopw [5] (fun i wr => ∃ (k : Nat) (L' : Array Value), i = .int .i64 (k : Int) ∧ k ≤ 3 ∧ Arr wr g4 5 L' ∧ L'.size = cap4 * 1 ∧ Below w.heap.size w wr)
      (fun i _ => 3 - (intOf i).toNat)
    case atStart => exact ⟨0, D4, rfl, by omega, hD4, hDs4, hb4⟩
    case round =>
      obtain ⟨k, D, rfl, hk, hAD, hDs, hch⟩ := hrel
      by_cases hlt : k < 3
      · have hI : (k : Int) < 3 := by omega
        obtain ⟨u, c0⟩ := hAD.at (j := k) (by omega)
        have f0 := hAD.frozen k
        go_wp2
        go_roundw
        case rel => exact ⟨k + 1, _, by go_num, by omega, hAD.set k _, by simpa using hDs, hch.setCell (p := ⟨g4, k, none⟩) hg' _⟩
        case measure => simp [intOf]; omega
      · obtain rfl : k = 3 := by omega
        have hI : ¬ ((3 : Int) < 3) := by omega
        go_wp2
        go_end0
        exact ⟨rfl, hch⟩
end Go.Proofs.Ytgjnbpimldjkpaa

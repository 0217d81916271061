/- La, Px, A. -/
import Derived.Test.YtjbaobfmdkpboaaX01
import Derived.Test.YtjbaobfmdkpboaaX02
import Derived.Test.YtjbaobfmdkpboaaX03
import Derived.Test.YtjbaobfmdkpboaaX04
import Derived.Test.YtjbaobfmdkpboaaX05
import Derived.Test.YtjbaobfmdkpboaaX06
import Derived.Test.YtjbaobfmdkpboaaX07
import Derived.BigQuiet
import Derived.BigRegion
import Derived.ChangeKeysEq
import Derived.Deep.DeepCutAuto
import Derived.Deep.DrawnRows
import Derived.Deep.MidRow
import Derived.Deep.QuietTactic
import Derived.Deep.RegionHeld3
import Derived.Deep.RegionLaw
import Derived.Deep.RegionWith
import Derived.Deep.WholeRow
import Derived.Great.BuildSlice
import Derived.JoinedTies
import Derived.KernelRfl
import Derived.Laws.AppendOwnNone
import Derived.Laws.BitsLemmas
import Derived.Laws.BytesArg
import Derived.Laws.CopyOwn
import Derived.Laws.Tables
import Derived.Lib.SlBytesConst
import Derived.LoopIn
import Derived.LoopNIn
import Derived.Maps.AppendAt
import Derived.OwnWalkIn
import Derived.RangeFuncBound
import Derived.RangeFuncCalls
import Derived.RangeFuncLeaves
import Derived.RangeFuncNested
import Derived.RangeFuncRecord
import Derived.Shelf.Abstract
import Derived.Shelf.RegionOpen
import Derived.TacticsInMore
import Derived.WalkKit
import Derived.WalkLawsBesides
import Derived.WalkSpells
import GoSem.Claim
import GoSem.ClaimJoined
import GoSem.ClaimMapViews
import Derived.ChangeOld
import Derived.Great.FillDense
import Derived.Laws.OwnMore
import Derived.Laws.ResultCell
import Derived.OpenShut
import Derived.ProofKit
import Derived.ShutString
import Derived.SizedLaws
/- Layer exec: what the layers below give. -/
namespace Go.Proofs.Ytjbaobfmdkpboaa
open Go.RowKit
set_option maxRecDepth 100000
set_option linter.unusedVariables false
set_option linter.unusedSimpArgs false

theorem own_some {w : World} {base n e s : Nat} {v : Value} {xs : List Value} (h : w.ownsRow base e s v (n + 1) xs) : ∃ g cap, v = .slice (some ⟨g, 0, none⟩) (n + 1) cap := by
  obtain ⟨-, h | ⟨g, cap, cur, rfl, -⟩⟩ := h
  · omega
  · exact ⟨g, cap, rfl⟩
/-- Nothing that was there has changed but some blocks. -/
structure Chg (S : Nat → Prop) (w w' : World) : Prop where
  os : w'.os = w.os
  tape : w'.tape = w.tape
  output : w'.output = w.output
  size : w.heap.size ≤ w'.heap.size
  block : ∀ b, b < w.heap.size → ¬ S b → w'.heap[b]? = w.heap[b]?
theorem Chg.refl (S : Nat → Prop) (w : World) : Chg S w w := ⟨rfl, rfl, rfl, Nat.le_refl _, fun _ _ _ => rfl⟩
theorem Chg.trans {S : Nat → Prop} {a b c : World} (h : Chg S a b) (k : Chg S b c) : Chg S a c :=
  ⟨k.os.trans h.os, k.tape.trans h.tape, k.output.trans h.output, Nat.le_trans h.size k.size, fun i hi hs => (k.block i (Nat.lt_of_lt_of_le hi h.size) hs).trans (h.block i hi hs)⟩
theorem Chg.mono {S T : Nat → Prop} {a b : World} (h : Chg S a b) (hST : ∀ i, i < a.heap.size → S i → T i) : Chg T a b :=
  ⟨h.os, h.tape, h.output, h.size, fun i hi ht => h.block i hi fun hs => ht (hST i hi hs)⟩
theorem Chg.of_below {S : Nat → Prop} {a b : World} (h : Below a.heap.size a b) : Chg S a b := ⟨h.os, h.tape, h.output, h.size, fun i hi _ => h.block i hi⟩
theorem Chg.below {S : Nat → Prop} {a b : World} {N : Nat} (h : Chg S a b) (hN : ∀ i, i < N → i < a.heap.size ∧ ¬ S i) : Below N a b := ⟨h.os, h.tape, h.output, h.size, fun i hi => h.block i (hN i hi).1 (hN i hi).2⟩
theorem Chg.alloc {S : Nat → Prop} {a b : World} (h : Chg S a b) (o : Obj) : Chg S a (b.alloc o) :=
  h.trans (Chg.of_below (alloc_bel' b o))
theorem Chg.grown {S : Nat → Prop} {a b c : World} {row : Option Nat} (h : Chg S a b) (hg : b.grownBy c row) (hr : ∀ k, k < a.heap.size → row = some k → S k) : Chg S a c :=
  ⟨hg.os.trans h.os, hg.tape.trans h.tape, hg.output.trans h.output, Nat.le_trans h.size hg.size, fun i hi hs => (hg.block i (Nat.lt_of_lt_of_le hi h.size) (fun e => hs (hr i hi e.symm))).trans (h.block i hi hs)⟩
theorem Chg.setCell {S : Nat → Prop} {a b : World} (h : Chg S a b) {g j : Nat} (v : Value) (hg : g < a.heap.size → S g) : Chg S a (b.setCell ⟨g, j, none⟩ v) :=
  ⟨h.os, h.tape, h.output, by simpa [World.setCell] using h.size, fun i hi hs => (Below.heap_setCell _ _ _ _ (fun e => hs (by have e : i = g := e; subst e; exact hg hi))).trans (h.block i hi hs)⟩
/-- A byte of a row is written. -/
theorem own_set {w : World} {base g n cap j : Nat} {L : List Int} (h : w.ownsRow base 5 1 (.slice (some ⟨g, 0, none⟩) n cap) n (by8 L)) (hj : j < n) (x : Int) : (w.setCell ⟨g, j, none⟩ (.int .u8 x)).ownsRow base 5 1 (.slice (some ⟨g, 0, none⟩) n cap) n (by8 (L.set j x)) := by
  obtain ⟨hl, h | ⟨g', cap', cur, e, hg, hh, hn, hm, hc, ht⟩⟩ := h
  · cases h.1
  · cases e
    have hA : Arr w g 5 cur := hh
    refine ⟨by simpa [by8_len] using hl, .inr ⟨g, cap, cur.setIfInBounds j (.int .u8 x), rfl, hg, hA.set j _, hn, hm, by simpa using hc, ?_⟩⟩
    rw [Array.toList_setIfInBounds, List.take_set, ht]
    simp [by8, List.map_set]
theorem row_arr {w : World} {base g n cap e s : Nat} {xs : List Value} (h : w.ownsRow base e s (.slice (some ⟨g, 0, none⟩) n cap) n xs) : ∃ C, Arr w g e C ∧ C.size = cap * s ∧ n ≤ cap := by
  obtain ⟨hl, h | ⟨g', cap', cur, e, hg, hh, hn, hm, hc, ht⟩⟩ := h
  · cases h.1
  · cases e; exact ⟨cur, hh, hc, hn⟩
theorem own_len {w : World} {base n : Nat} {v : Value} {L : List Int} (h : w.ownsRow base 5 1 v n (by8 L)) : L.length = n := by
  have := h.1; rw [by8_len] at this; omega
theorem own_cell {w : World} {base g n cap j : Nat} {L : List Int} (h : w.ownsRow base 5 1 (.slice (some ⟨g, 0, none⟩) n cap) n (by8 L)) (hj : j < n) : w.cell? ⟨g, j, none⟩ = some (.int .u8 (bat L j)) := by
  have hl := own_len h
  have := h.cells (g := g) rfl j (.int .u8 (bat L j)) (by8_get (by omega))
  rwa [Addr.add_mid, Nat.zero_add] at this
/-- Where what append answers lies, and what it leaves. -/
theorem append_where {P : Program} {w : World} {base t ty e : Nat} {i : TypeInfo} {z : Value} (ht : P.underlying t = some (.slice e)) (hi : P.info? e = some i) (hz : i.zero = some z)
    {v : Value} {n : Nat} {xs : List Value} (hown : w.ownsRow base e i.size v n xs) {a : Addr} {m c : Nat} {news : List Value} (hm : 0 < m) (hl : news.length = m * i.size) (hnews : ∀ j u, news[j]? = some u → w.cell? (a.add j) = some u) (h1 : ∀ u ∈ news, u.oneCell' = true)
    (h63 : n + m ≤ maxLen) (hbytes : (n + m) * i.bytes ≤ 140737488355328) {v' : Value} {w' : World} (hr : (Builtin.append_ #[t, t] ty #[v, .slice (some a) m c]).run P w = .ok v' w') :
    (∃ g cap, v = .slice (some ⟨g, 0, none⟩) n cap ∧ v' = .slice (some ⟨g, 0, none⟩) (n + m) cap) ∨ (v'.ownBlock = some w.heap.size ∧ ∀ b, b < w.heap.size → w'.heap[b]? = w.heap[b]?) := by
  have hsmall : n + m ≤ 9223372036854775807 := by simp only [maxLen] at h63; omega
  rcases hown.2 with ⟨rfl, rfl⟩ | ⟨g, cap, cur, rfl, hbg, hg, hnc, hcm, hcs, htake⟩
  · have h := run_append_nil (P := P) w t ty e i z ht hi hz a m c news hl hnews (by omega) (by omega) (by have hb := hbytes; simp only [Nat.zero_add] at hb; omega)
    rw [h] at hr
    cases hr
    exact .inr ⟨rfl, fun b hb => Below.heap_alloc _ _ _ hb⟩
  · by_cases hroom : n + m ≤ cap
    · have hfit : n * i.size + news.length ≤ cur.size := by rw [hl, hcs, ← Nat.add_mul]; exact Nat.mul_le_mul_right _ hroom
      have h := run_append_room (P := P) w t ty e i ht hi g n cap cur hg a m c news hl hnews h1 hroom hfit
      rw [h] at hr
      cases hr
      exact .inl ⟨g, cap, rfl, rfl⟩
    · have holds : ∀ j u, xs[j]? = some u → w.cell? ((⟨g, 0, none⟩ : Addr).add j) = some u := hown.cells (g := g) rfl
      have h := run_append_grow (P := P) w t ty e i z ht hi hz ⟨g, 0, none⟩ n cap xs hown.1 holds a m c news hl hnews (by omega) (by omega) (growslice_fits (by omega) hbytes)
      rw [h] at hr
      cases hr
      exact .inr ⟨rfl, fun b hb => Below.heap_alloc _ _ _ hb⟩
/-- append of bytes onto a row of the call's own, and where the answer lies. -/
theorem append_marks {ops : Array Oper} {rest : List Oper} {o : Oper} {a : Act} {w : World} {Q : Exit → Act → World → Prop} (hgd : Region.wanted o (yielded ops a.tmps) = true) (s x : Operand)
    (ho : o.op = .call { callee := .builtin .append, args := #[s, x], argTypes := #[31, 31] })
    (base : Nat) (v : Value) (n : Nat) (L : List Value) (hs : a.eval s = v) (hown : w.ownsRow base 5 1 v n L)
    (ad : Addr) (m c : Nat) (M : List Int) (hx : a.eval x = .slice (some ad) m c) (hm : m = M.length) (hm0 : 0 < m) (hS : SlL w (some ad) M) (hb : n + m ≤ 140737488355328) (hbase : base ≤ w.heap.size)
    (h : ∀ v' w', w'.ownsRow base 5 1 v' (n + m) (L ++ by8 M) → w.grownBy w' v.ownBlock → ((∃ g cap, v = .slice (some ⟨g, 0, none⟩) n cap ∧ v' = .slice (some ⟨g, 0, none⟩) (n + m) cap) ∨ (v'.ownBlock = some w.heap.size ∧ ∀ b, b < w.heap.size → w'.heap[b]? = w.heap[b]?)) → wpList Try.prog ops Q rest (a.put o.dst v') w') : wpList Try.prog ops Q (o :: rest) a w := by
  obtain ⟨i0, hi, hz0, hz1, hz2⟩ := info_parts info5
  subst hm
  refine wpList_want hgd fun K hK => ?_
  have hnews : ∀ j u, (by8 M)[j]? = some u → w.cell? (ad.add j) = some u := by
    intro j u hj
    have hjl : j < M.length := by have := (List.getElem?_eq_some_iff.1 hj).1; rwa [by8_len] at this
    obtain ⟨b, off, e, hB⟩ := hS (by omega)
    obtain rfl := Option.some.inj e
    rw [by8_get hjl] at hj
    rw [Addr.add_mid, hB j hjl]; exact hj
  obtain ⟨v', w', hr, h2, h3, -⟩ := run_append_own (P := Try.prog) w base 31 o.type 5 i0 _ 1 1 Try.underlying31 hi hz0 hz1 hz2 rfl (by omega) v n _ hown ad M.length c (by8 M) (by rw [by8_len]; omega) hnews (by8_one M) (Nat.le_trans hb maxLen_ge) (by omega) hbase
  have h4 := append_where (base := base) Try.underlying31 hi hz0 (by rw [hz1]; exact hown) hm0 (by rw [by8_len, hz1]; omega) hnews (by8_one M) (Nat.le_trans hb maxLen_ge) (by rw [hz2]; omega) hr
  unfold Oper.wp execOp
  simp only [ho, resolve, invoke, builtin, Sem.run_bind, Sem.run_pure, Result.andThen_ok, List.map_toArray, List.map_cons, List.map_nil, hs, hx, hr]
  exact hK _ _ (h v' w' h2 h3 h4)
theorem row_of_arr {w : World} {g n cap : Nat} {C : Array Value} (h : Arr w g 5 C) (hC : C.size = cap) (hn : n ≤ cap) (hm : cap ≤ maxLen) : w.ownsRow 0 5 1 (.slice (some ⟨g, 0, none⟩) n cap) n (C.toList.take n) :=
  ⟨by rw [List.length_take, Array.length_toList]; omega, .inr ⟨g, cap, C, rfl, Nat.zero_le _, h, hn, hm, by omega, by rw [Nat.mul_one]⟩⟩
theorem Arr.at {w : World} {g ty : Nat} {C : Array Value} (h : Arr w g ty C) {j : Nat} (hj : j < C.size) : ∃ u, w.cell? ⟨g, j, none⟩ = some u := ⟨C[j], by rw [h.cell, Array.getElem?_eq_getElem hj]⟩
end Go.Proofs.Ytjbaobfmdkpboaa
/- Layer exec: what the layers below give. -/
namespace Go.Proofs.Ytjbaobfmdkpboaa
open Go.RowKit
set_option maxRecDepth 100000
set_option linter.unusedVariables false
set_option linter.unusedSimpArgs false

theorem s24u8 (f : Nat → Int) : (Try.prog.info? 24).map (·.size) = some (u8s 32 f).size := by rw [u8s_size]; exact size24
theorem u8s_one (n : Nat) (f : Nat → Int) : (u8s n f).all (·.oneCell') = true := one_ints (u8s_size n f) (fun _ h => u8s_get h)
/-- Byte t of the sum of four words. -/
def fromB (W : Nat → Int) (t : Nat) : Int := W (t / 8) / 2 ^ (56 - 8 * (t % 8)) % 256
set_option maxHeartbeats 1000000 in
theorem from_any (C0 : Array Value) (W : Nat → Int) (w : World) (hC0 : ∀ t, t < 4 → C0[t]? = some (.int .u64 (W t))) :
    Calls Try.prog 46 #[.agg C0] w fun e w' => e = .returned (.agg (u8s 32 (fromB W))) ∧ Below w.heap.size w w' := by
  go_enter Try.func46, Try.ntmps46
  go_wp2
  go_loopw [5] (fun i wr => ∃ (k : Nat) (C Z : Array Value), k ≤ 32 ∧ i = .int .i64 k ∧ Arr wr w.heap.size 69 C0 ∧ Arr wr (w.heap.size + 1) 24 Z ∧ Z.size = 32 ∧ Arr wr (w.heap.size + 1 + 1) 24 C ∧ C.size = 32 ∧ (∀ t, t < k → C[t]? = some (.int .u8 (fromB W t))) ∧ Below w.heap.size w wr)
    (fun i _ => 32 - (intOf i).toNat)
  case atStart => exact ⟨0, _, _, by omega, rfl, ((Arr.new w 69 C0).alloc _).alloc _, by simpa using (Arr.new (w.alloc _) 24 _).alloc _, rfl, by simpa using Arr.new ((w.alloc _).alloc _) 24 _, rfl, fun j hj => by omega, (((Below.refl _ _).alloc (by simp) _).alloc (by simp) _).alloc (by simp; omega) _⟩
  case round =>
    obtain ⟨k, C, Z, hk, rfl, hX, hZ, hZs, hC, hCs, hw, hbl⟩ := hrel
    have HW := Hid.mk' hw
    clear hw
    by_cases hlt : k < 32
    · have h3 : (k : Int) < 32 := by omega
      have h4 : (0 : Int) ≤ k := by omega
      have c0 : wr.cell? ⟨w.heap.size, k / 8, none⟩ = some (.int .u64 (W (k / 8))) := (hX.cell _).trans (hC0 _ (by omega))
      obtain ⟨v1, c1⟩ := hC.got (j := k) (by omega)
      have f0 := hC.frozen k
      go_wp2
      go_roundw
      case rel =>
        have q := set_step (f := fun t => .int .u8 (fromB W t)) hCs (by omega) HW.out
        exact ⟨k + 1, _, Z, by omega, by go_num, hX.setOther _ (by simp; omega), hZ.setOther _ (by simp), hZs, hC.set _ _, by simp [hCs], q, hbl.setCell (by simp; omega) _⟩
      case measure => simp [intOf]; omega
    · obtain rfl : k = 32 := by omega
      have hCe : C = u8s 32 (fromB W) := arr_eq hCs HW.out
      subst hCe
      go_wp2_with (first
        | (refine wpList_load_row (by rfl) 24 (.tmp 3) (by rfl) (w.heap.size + 1 + 1) (by rfl) 24 (u8s 32 (fromB W)) (0, 0) _ hC Try.underlying24 rfl (s24u8 _) ?_)
        | (refine wpList_store_arr (by rfl) 24 (.tmp 2) (.tmp 21) (by rfl) (w.heap.size + 1) (u8s 32 (fromB W)) (by rfl) (by rfl) 24 _ hZ (s24u8 _) (by rw [hZs]; exact (u8s_size _ _).symm) (u8s_one _ _) ?_))
      exact bodyPost_ret (v := .agg (u8s 32 (fromB W))) (results_cell_row Try.results46 _ _ (w.heap.size + 1) 24 _ (0, 0) _ rfl (hZ.setRow _) Try.underlying24 rfl (s24u8 _)) rfl ⟨rfl, below_setRow hbl (by omega) _⟩
set_option maxHeartbeats 1000000 in
theorem refFrom_any (C0 : Array Value) (W : Nat → Int) (w : World) (hC0 : ∀ t, t < 4 → C0[t]? = some (.int .u64 (W t))) :
    Calls Try.prog 30 #[.agg C0] w fun e w' => e = .returned (.agg (u8s 32 (fromB W))) ∧ Below w.heap.size w w' := by
  go_enter Try.func30, Try.ntmps30
  go_wp2
  go_loopw [4] (fun i wr => ∃ (k : Nat) (C Z : Array Value), k ≤ 32 ∧ i = .int .i64 k ∧ Arr wr w.heap.size 69 C0 ∧ Arr wr (w.heap.size + 1) 24 Z ∧ Z.size = 32 ∧ Arr wr (w.heap.size + 1 + 1) 24 C ∧ C.size = 32 ∧ (∀ t, t < k → C[t]? = some (.int .u8 (fromB W t))) ∧ Below w.heap.size w wr)
    (fun i _ => 32 - (intOf i).toNat)
  case atStart => exact ⟨0, _, _, by omega, rfl, ((Arr.new w 69 C0).alloc _).alloc _, by simpa using (Arr.new (w.alloc _) 24 _).alloc _, rfl, by simpa using Arr.new ((w.alloc _).alloc _) 24 _, rfl, fun j hj => by omega, (((Below.refl _ _).alloc (by simp) _).alloc (by simp) _).alloc (by simp; omega) _⟩
  case round =>
    obtain ⟨k, C, Z, hk, rfl, hX, hZ, hZs, hC, hCs, hw, hbl⟩ := hrel
    have HW := Hid.mk' hw
    clear hw
    by_cases hlt : k < 32
    · have h3 : (k : Int) < 32 := by omega
      have h4 : (0 : Int) ≤ k := by omega
      have c0 : wr.cell? ⟨w.heap.size, k / 8, none⟩ = some (.int .u64 (W (k / 8))) := (hX.cell _).trans (hC0 _ (by omega))
      obtain ⟨v1, c1⟩ := hC.got (j := k) (by omega)
      have f0 := hC.frozen k
      go_wp2
      go_roundw
      case rel =>
        have q := set_step (f := fun t => .int .u8 (fromB W t)) hCs (by omega) HW.out
        exact ⟨k + 1, _, Z, by omega, by go_num, hX.setOther _ (by simp; omega), hZ.setOther _ (by simp), hZs, hC.set _ _, by simp [hCs], q, hbl.setCell (by simp; omega) _⟩
      case measure => simp [intOf]; omega
    · obtain rfl : k = 32 := by omega
      have hCe : C = u8s 32 (fromB W) := arr_eq hCs HW.out
      subst hCe
      go_wp2_with (first
        | (refine wpList_load_row (by rfl) 24 (.tmp 3) (by rfl) (w.heap.size + 1 + 1) (by rfl) 24 (u8s 32 (fromB W)) (0, 0) _ hC Try.underlying24 rfl (s24u8 _) ?_)
        | (refine wpList_store_arr (by rfl) 24 (.tmp 2) (.tmp 22) (by rfl) (w.heap.size + 1) (u8s 32 (fromB W)) (by rfl) (by rfl) 24 _ hZ (s24u8 _) (by rw [hZs]; exact (u8s_size _ _).symm) (u8s_one _ _) ?_))
      exact bodyPost_ret (v := .agg (u8s 32 (fromB W))) (results_cell_row Try.results30 _ _ (w.heap.size + 1) 24 _ (0, 0) _ rfl (hZ.setRow _) Try.underlying24 rfl (s24u8 _)) rfl ⟨rfl, below_setRow hbl (by omega) _⟩
/-- The four words of a number. -/
def w4 (n : Int) (t : Nat) : Int := if t = 3 then n else 0
end Go.Proofs.Ytjbaobfmdkpboaa
/- Layer exec: what the layers below give. -/
namespace Go.Proofs.Ytjbaobfmdkpboaa
open Go.RowKit
set_option maxRecDepth 100000
set_option linter.unusedVariables false
set_option linter.unusedSimpArgs false
attribute [local go_sem ↓] Go.wp_at_zero Go.wp_at_succ

/-- Word j of a sum, of its first m bytes. -/
def wacc (H : Nat → Int) (j : Nat) : Nat → Int
  | 0 => 0
  | m + 1 => wacc H j m * 256 + H (8 * j + m)
/-- .. behind k bytes in all. -/
def wpart (H : Nat → Int) (k j : Nat) : Int := wacc H j (min (k - 8 * j) 8)
def u64s (n : Nat) (f : Nat → Int) : Array Value := arr n fun t => .int .u64 (f t)
theorem u64s_size (n : Nat) (f : Nat → Int) : (u64s n f).size = n := arr_size _ _
theorem u64s_get {n : Nat} {f : Nat → Int} {t : Nat} (h : t < n) : (u64s n f)[t]? = some (.int .u64 (f t)) := arr_get h
theorem u64s_one (n : Nat) (f : Nat → Int) : (u64s n f).all (·.oneCell') = true := one_ints (u64s_size n f) (fun _ h => u64s_get h)
theorem size30M : (Try.prog.info? 69).map (·.size) = some 4 := by kernel_rfl
theorem s30u (f : Nat → Int) : (Try.prog.info? 69).map (·.size) = some (u64s 4 f).size := by rw [u64s_size]; exact size30M
theorem or8 (x b : Int) (hx : 0 ≤ x) (hx2 : x < 72057594037927936) (hb : 0 ≤ b) (hb2 : b ≤ 255) : bits .or .u64 (x * 256) b = x * 256 + b := by
  obtain ⟨k, rfl⟩ : ∃ k : Nat, x = k := ⟨x.toNat, by omega⟩
  obtain ⟨j, rfl⟩ : ∃ j : Nat, b = j := ⟨b.toNat, by omega⟩
  have h1 : (BitVec.ofInt 64 ((k : Int) * 256)).toNat = k * 256 := by
    rw [show ((k : Int) * 256) = ((k * 256 : Nat) : Int) by omega, BitVec.ofInt_natCast, BitVec.toNat_ofNat]; omega
  have h2 : (BitVec.ofInt 64 (j : Int)).toNat = j := by
    rw [BitVec.ofInt_natCast, BitVec.toNat_ofNat]; omega
  have h3 : k * 256 ||| j = k * 256 + j := by
    have := Nat.two_pow_add_eq_or_of_lt (i := 8) (b := j) (by omega) k
    rw [Nat.mul_comm] at this; exact this.symm
  show IntKind.u64.wrap ((BitVec.ofInt 64 ((k : Int) * 256) ||| BitVec.ofInt 64 (j : Int)).toNat : Int) = _
  rw [BitVec.toNat_or, h1, h2, h3]
  simp only [IntKind.wrap, IntKind.bits, IntKind.signed]
  simp; omega
theorem wrap64_of {x : Int} (h : 0 ≤ x) (h2 : x < 18446744073709551616) : IntKind.u64.wrap x = x := by
  simp only [IntKind.wrap, IntKind.bits, IntKind.signed]; simp; omega
theorem words_other {H : Nat → Int} {k j : Nat} (h : j ≠ k / 8) : wpart H (k + 1) j = wpart H k j := by
  unfold wpart; congr 1; omega
theorem words_from_aux {W : Nat → Int} {j : Nat} (h0 : 0 ≤ W j) (h1 : W j < 18446744073709551616) : ∀ m, m ≤ 8 → wacc (fromB W) j m = W j / 2 ^ (64 - 8 * m)
  | 0, _ => by simp only [wacc]; omega
  | m + 1, h => by
    have ih := words_from_aux h0 h1 m (by omega)
    have e1 : (8 * j + m) / 8 = j := by omega
    have e2 : (8 * j + m) % 8 = m := by omega
    simp only [wacc, ih, fromB, e1, e2]
    have e3 : 64 - 8 * m = (56 - 8 * m) + 8 := by omega
    have e4 : 64 - 8 * (m + 1) = 56 - 8 * m := by omega
    rw [e3, e4, Int.pow_add, ← Int.ediv_ediv_of_nonneg (by exact Int.le_of_lt (Int.pow_pos (by omega)))]
    generalize W j / 2 ^ (56 - 8 * m) = y
    omega
theorem words_from {W : Nat → Int} {j : Nat} (h0 : 0 ≤ W j) (h1 : W j < 18446744073709551616) : wacc (fromB W) j 8 = W j := by
  rw [words_from_aux h0 h1 8 (by omega)]; simp
end Go.Proofs.Ytjbaobfmdkpboaa

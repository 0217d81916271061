/- Layer collide: a map of numbers by sums. -/
import Derived.Test.YtgjnbpimldjkpaaCb
import Derived.DeepKeys3
import Derived.RangeFuncRecord
namespace Go.Proofs.Ytgjnbpimldjkpaa
open Go.RowKit
set_option linter.unusedVariables false
set_option linter.unusedSimpArgs false

/-- Entries, by sums. -/
def entsH (L : List (List Int × Int × Nat)) : List MapEntry := L.map fun x => { key := .agg (h8 x.1), val := .int .i64 x.2.1, born := x.2.2 }
def kvH (L : List (List Int × Int × Nat)) (k : List Int) : Option Int := (L.find? (fun x => decide (x.1 = k))).map (·.2.1)
/-- Block r is a map that has m. -/
def MapH (w : World) (r : Nat) (m : List Int → Option Int) : Prop := ∃ L clock, w.heap[r]? = some (.map (entsH L).toArray clock) ∧ (∀ x ∈ L, x.1.length = 32) ∧ ∀ k, kvH L k = m k
theorem MapH.new (w : World) : MapH (w.alloc (.map #[] 0)) w.heap.size (fun _ => none) := ⟨[], 0, heap_alloc_new w _, (fun x h => by cases h), fun _ => rfl⟩
theorem MapH.same {w w' : World} {r : Nat} {m : List Int → Option Int} (h : MapH w r m) (he : w'.heap[r]? = w.heap[r]?) : MapH w' r m := by
  obtain ⟨L, clock, h1, h2⟩ := h
  exact ⟨L, clock, he.trans h1, h2⟩
theorem MapH.lt {w : World} {r : Nat} {m : List Int → Option Int} (h : MapH w r m) : r < w.heap.size := by
  obtain ⟨L, clock, h1, h2⟩ := h
  exact (Array.getElem?_eq_some_iff.1 h1).1
theorem run_equal29 {X Y : List Int} (hX : X.length = 32) (hY : Y.length = 32) (w : World) : (Op.equal 29 (.agg (h8 X)) (.agg (h8 Y))).run Try.prog w = .ok (decide (X = Y)) w := run_eqIn24 hX hY w
theorem find_ask (k : List Int) (hk : k.length = 32) (w : World) : ∀ (L : List (List Int × Int × Nat)) (i : Nat), (∀ x ∈ L, x.1.length = 32) → (kvH L k = none ∧ (Instr.findAsking 29 (.agg (h8 k)) (entsH L) i).run Try.prog w = .ok none w) ∨ ∃ v j, kvH L k = some v ∧ (Instr.findAsking 29 (.agg (h8 k)) (entsH L) i).run Try.prog w = .ok (some (j, .int .i64 v)) w
  | [], i, _ => .inl ⟨rfl, by simp [entsH, Instr.findAsking]⟩
  | x :: L, i, hl => by
    have hx := hl x (by simp)
    have he := run_equal29 hk hx w
    by_cases h : x.1 = k
    · right
      refine ⟨x.2.1, i, by simp [kvH, h], ?_⟩
      rw [decide_eq_true h.symm] at he
      simp [entsH, Instr.findAsking, Sem.run_bind, he]
    · rw [decide_eq_false (fun e => h e.symm)] at he
      have h1 : kvH (x :: L) k = kvH L k := by simp [kvH, h]
      have h2 : (Instr.findAsking 29 (.agg (h8 k)) (entsH (x :: L)) i).run Try.prog w = (Instr.findAsking 29 (.agg (h8 k)) (entsH L) (i + 1)).run Try.prog w := by
        simp [entsH, Instr.findAsking, Sem.run_bind, he]
      rw [h1, h2]
      exact find_ask k hk w L (i + 1) (fun y hy => hl y (by simp [hy]))
theorem find_key (k : List Int) (hk : k.length = 32) (w : World) (L : List (List Int × Int × Nat)) (hl : ∀ x ∈ L, x.1.length = 32) : (kvH L k = none ∧ (Instr.findKey 29 (.agg (h8 k)) (entsH L)).run Try.prog w = .ok none w) ∨ ∃ v j, kvH L k = some v ∧ (Instr.findKey 29 (.agg (h8 k)) (entsH L)).run Try.prog w = .ok (some (j, .int .i64 v)) w := by
  cases L with
  | nil => exact .inl ⟨rfl, by simp [entsH, Instr.findKey, Instr.findNow, Sem.run_bind, run_underlying Try.underlying29]⟩
  | cons x L =>
    have e : (Instr.findKey 29 (.agg (h8 k)) (entsH (x :: L))).run Try.prog w = (Instr.findAsking 29 (.agg (h8 k)) (entsH (x :: L)) 0).run Try.prog w := by
      simp [entsH, Instr.findKey, Instr.findNow, Instr.sameNow, Sem.run_bind, run_underlying Try.underlying29]
    rw [e]
    exact find_ask k hk w (x :: L) 0 hl
theorem check_byte (b : Bool) (n : Nat) (z : Int) (w : World) : (Instr.checkKey b (n + 1) 5 (.int .u8 z)).run Try.prog w = .ok () w := by
  rw [Instr.checkKey]
  simp only [Sem.run_bind, run_underlying Try.underlying5, Result.andThen_ok]
  rfl
theorem check_sum (X : List Int) (hX : X.length = 32) (w : World) (b : Bool) : (Instr.checkKey b 10000 29 (.agg (h8 X))).run Try.prog w = .ok () w := by
  obtain ⟨i0, hi, -, hz1, -⟩ := info_parts info5
  have hc : Try.prog.cellsOf 5 = 1 := by kernel_rfl
  have each : ∀ j ∈ List.range' 0 32, (part 5 (h8 X) (j * Try.prog.cellsOf 5)).run Try.prog w = .ok (.int .u8 (bat X j)) w := fun j hj => by
    have hj : j < 32 := by simpa using hj
    have hg := h8_get (X := X) (t := j) (by omega)
    have ha := @Try.isAgg5
    simp [part, ha, hc, hg]
  have hb9 : ∀ z : Int, (Instr.checkKey b 9999 5 (.int .u8 z)).run Try.prog w = .ok () w := fun z => check_byte b 9998 z w
  rw [show (10000 : Nat) = 9999 + 1 from rfl, Instr.checkKey]
  simp only [Sem.run_bind, run_underlying Try.underlying29, Result.andThen_ok]
  simp only [Std.Legacy.Range.forIn_eq_forIn_range', Std.Legacy.Range.size, Nat.sub_zero, Nat.add_one_sub_one, Nat.div_one]
  generalize List.range' 0 32 = is at each
  induction is with
  | nil => simp
  | cons j is ih =>
    have p1 := each j (by simp)
    simp only [List.forIn_cons, Sem.run_bind, run_sizeOf w hi, Result.andThen_ok, p1, hb9, Sem.run_pure]
    exact ih (fun y hy => each y (by simp [hy]))
theorem run_lookupH {w : World} {r : Nat} {m : List Int → Option Int} (h : MapH w r m) (k : List Int) (hk : k.length = 32) :
    (Instr.lookup 57 (.map (some r)) (.agg (h8 k)) true).run Try.prog w = .ok (.tuple #[.int .i64 ((m k).getD 0), .bool (m k).isSome]) w := by
  obtain ⟨L, clock, h1, hl, h2⟩ := h
  have hg : (getObj r).run Try.prog w = .ok (.map (entsH L).toArray clock) w := by simp [getObj, Sem.run, h1]
  have hck := check_sum k hk w
  have hz : (zeroValue 3).run Try.prog w = .ok (.int .i64 0) w := by kernel_rfl
  rw [← h2]
  rcases find_key k hk w L hl with ⟨e1, e2⟩ | ⟨v, j, e1, e2⟩
  · simp [Instr.lookup, Sem.run_bind, run_underlying Try.underlying57, hg, hck, e1, e2, Result.andThen, hz]
  · simp [Instr.lookup, Sem.run_bind, run_underlying Try.underlying57, hg, hck, e1, e2, Result.andThen]
theorem run_updateH {w : World} {r : Nat} {m : List Int → Option Int} (h : MapH w r m) (k : List Int) (hk : k.length = 32) (v : Int) (hno : m k = none) :
    ∃ o, (Instr.mapUpdate 57 (.map (some r)) (.agg (h8 k)) (.int .i64 v)).run Try.prog w = .ok () (w.putObj r o) ∧ MapH (w.putObj r o) r (fun j => if j = k then some v else m j) := by
  obtain ⟨L, clock, h1, hl, h2⟩ := h
  have hlt := (Array.getElem?_eq_some_iff.1 h1).1
  have hg : (getObj r).run Try.prog w = .ok (.map (entsH L).toArray clock) w := by simp [getObj, Sem.run, h1]
  have hs : ∀ o, (setObj r o).run Try.prog w = .ok () (w.putObj r o) := fun o => by simp [setObj, Sem.run, h1, World.putObj]
  have hck := check_sum k hk w
  rcases find_key k hk w L hl with ⟨e1, e2⟩ | ⟨v', j, e1, e2⟩
  · refine ⟨.map ((entsH L).toArray.push { key := .agg (h8 k), val := .int .i64 v, born := clock }) (clock + 1), ?_, L ++ [(k, v, clock)], clock + 1, ?_, ?_, fun j => ?_⟩
    · simp [Instr.mapUpdate, Sem.run_bind, run_underlying Try.underlying57, hg, hck, hs, e2, Result.andThen]
    · rw [World.putObj_heap_same hlt]; simp [entsH]
    · intro x hx
      rcases List.mem_append.1 hx with hx | hx
      · exact hl x hx
      · simp at hx; subst hx; exact hk
    · have : kvH (L ++ [(k, v, clock)]) j = (kvH L j).or (if j = k then some v else none) := by
        simp only [kvH, List.find?_append, Option.map_or]
        congr 1
        by_cases e : j = k
        · subst e; simp
        · simp [e, Ne.symm e]
      rw [this, h2]
      by_cases e : j = k
      · subst e; rw [hno]; simp
      · simp [e]
  · rw [h2, hno] at e1; cases e1
end Go.Proofs.Ytgjnbpimldjkpaa

/- Layer frame: a map of frames by their numbers; frames in memory; may. -/
import Derived.Test.YtbjlmekafnpllabFa
import Derived.RangeFuncRecord
namespace Go.Proofs.Ytbjlmekafnpllab
open Go.RowKit
set_option linter.unusedVariables false
set_option linter.unusedSimpArgs false

/-- Entries, by numbers. -/
def ents (L : List (Int × Value × Nat)) : List MapEntry := L.map fun x => { key := .int .i64 x.1, val := x.2.1, born := x.2.2 }
def kv (L : List (Int × Value × Nat)) (k : Int) : Option Value := (L.find? (·.1 == k)).map (·.2.1)
/-- Block r is a map that has m. -/
def MapAt (w : World) (r : Nat) (m : Int → Option Value) : Prop := ∃ L clock, w.heap[r]? = some (.map (ents L).toArray clock) ∧ ∀ k, kv L k = m k
theorem MapAt.new (w : World) : MapAt (w.alloc (.map #[] 0)) w.heap.size (fun _ => none) := ⟨[], 0, heap_alloc_new w _, fun _ => rfl⟩
theorem MapAt.same {w w' : World} {r : Nat} {m : Int → Option Value} (h : MapAt w r m) (he : w'.heap[r]? = w.heap[r]?) : MapAt w' r m := by
  obtain ⟨L, clock, h1, h2⟩ := h
  exact ⟨L, clock, he.trans h1, h2⟩
theorem MapAt.lt {w : World} {r : Nat} {m : Int → Option Value} (h : MapAt w r m) : r < w.heap.size := by
  obtain ⟨L, clock, h1, h2⟩ := h
  exact (Array.getElem?_eq_some_iff.1 h1).1
theorem find_now (k : Int) : ∀ (L : List (Int × Value × Nat)) (i : Nat), (kv L k = none ∧ Instr.findNow (.int .i64) (.int .i64 k) (ents L) i = some none) ∨ ∃ v j, kv L k = some v ∧ Instr.findNow (.int .i64) (.int .i64 k) (ents L) i = some (some (j, v))
  | [], i => .inl ⟨rfl, rfl⟩
  | x :: L, i => by
    by_cases h : x.1 = k
    · right
      refine ⟨x.2.1, i, by simp [kv, h], ?_⟩
      simp [ents, Instr.findNow, Instr.sameNow, h]
    · have hb : (k == x.1) = false := by simpa using fun e => h e.symm
      have h1 : kv (x :: L) k = kv L k := by simp [kv, h]
      have h2 : Instr.findNow (.int .i64) (.int .i64 k) (ents (x :: L)) i = Instr.findNow (.int .i64) (.int .i64 k) (ents L) (i + 1) := by
        simp [ents, Instr.findNow, Instr.sameNow, hb]
      rw [h1, h2]
      exact find_now k L (i + 1)
/-- No frame. -/
def zeroF : Value := .agg #[.int .u64 0, .int .i64 0, .bool false, .slice none 0 0]
theorem zero25 (w : World) : (zeroValue 25).run Try.prog w = .ok zeroF w := by kernel_rfl
theorem check_key (k : Int) (w : World) (b : Bool) : (Instr.checkKey b 10000 3 (.int .i64 k)).run Try.prog w = .ok () w := by
  rw [show (10000 : Nat) = 9999 + 1 from rfl, Instr.checkKey]
  simp only [Sem.run_bind, run_underlying Try.underlying3, Result.andThen_ok]
  rfl
theorem run_lookup {w : World} {r : Nat} {m : Int → Option Value} (h : MapAt w r m) (k : Int) :
    (Instr.lookup 72 (.map (some r)) (.int .i64 k) true).run Try.prog w = .ok (.tuple #[(m k).getD zeroF, .bool (m k).isSome]) w := by
  obtain ⟨L, clock, h1, h2⟩ := h
  have hg : (getObj r).run Try.prog w = .ok (.map (ents L).toArray clock) w := by simp [getObj, Sem.run, h1]
  have hk := check_key k w
  rw [← h2]
  rcases find_now k L 0 with ⟨e1, e2⟩ | ⟨v, j, e1, e2⟩
  · simp [Instr.lookup, Sem.run_bind, run_underlying Try.underlying72, run_underlying Try.underlying3, hg, hk, Instr.findKey, e1, e2, Result.andThen, zero25, zeroF]
  · simp [Instr.lookup, Sem.run_bind, run_underlying Try.underlying72, run_underlying Try.underlying3, hg, hk, Instr.findKey, e1, e2, Result.andThen]
theorem run_update {w : World} {r : Nat} {m : Int → Option Value} (h : MapAt w r m) (k : Int) (v : Value) (hno : m k = none) :
    ∃ o, (Instr.mapUpdate 72 (.map (some r)) (.int .i64 k) v).run Try.prog w = .ok () (w.putObj r o) ∧ MapAt (w.putObj r o) r (fun j => if j = k then some v else m j) := by
  obtain ⟨L, clock, h1, h2⟩ := h
  have hlt := (Array.getElem?_eq_some_iff.1 h1).1
  have hg : (getObj r).run Try.prog w = .ok (.map (ents L).toArray clock) w := by simp [getObj, Sem.run, h1]
  have hs : ∀ o, (setObj r o).run Try.prog w = .ok () (w.putObj r o) := fun o => by simp [setObj, Sem.run, h1, World.putObj]
  have hk := check_key k w
  rcases find_now k L 0 with ⟨e1, e2⟩ | ⟨v', j, e1, e2⟩
  · refine ⟨.map ((ents L).toArray.push { key := .int .i64 k, val := v, born := clock }) (clock + 1), ?_, L ++ [(k, v, clock)], clock + 1, ?_, fun j => ?_⟩
    · simp [Instr.mapUpdate, Sem.run_bind, run_underlying Try.underlying72, run_underlying Try.underlying3, hg, hk, hs, Instr.findKey, e2, Result.andThen]
    · rw [World.putObj_heap_same hlt]; simp [ents]
    · have : kv (L ++ [(k, v, clock)]) j = (kv L j).or (if j = k then some v else none) := by
        simp only [kv, List.find?_append, Option.map_or]
        congr 1
        by_cases e : j = k
        · subst e; simp
        · simp [e, Ne.symm e]
      rw [this, h2]
      by_cases e : j = k
      · subst e; rw [hno]; simp
      · simp [e]
  · rw [h2, hno] at e1; cases e1
end Go.Proofs.Ytbjlmekafnpllab

/- V0, Md. -/
import Derived.Test.YtbfelelngoonjaaX06
import Derived.Test.YtbfelelngoonjaaX04
import Derived.DeepKeys3
import Derived.RangeFuncRecord
import Derived.Test.YtbfelelngoonjaaX01
import Derived.Test.YtbfelelngoonjaaX02
import Derived.Test.YtbfelelngoonjaaX05
import Derived.BigQuiet
import Derived.BigRegion
import Derived.ChangeKeysEq
import Derived.Deep.DeepCutAuto
import Derived.Deep.DrawnRows
import Derived.Deep.MidRow
import Derived.Deep.QuietTactic
import Derived.Deep.RegionHeld3
import Derived.Deep.RegionLaw
import Derived.Deep.RegionWith
import Derived.Deep.WholeRow
import Derived.Laws.AppendOwnNone
import Derived.Laws.BitsLemmas
import Derived.Laws.BytesArg
import Derived.Laws.CopyOwn
import Derived.Lib.SlBytesConst
import Derived.WalkKit
import Derived.WalkLawsBesides
import Derived.WalkSpells
/- Layer oracle: a map of slices by sums. -/
namespace Go.Proofs.Ytbfelelngoonjaa
open Go.RowKit
set_option maxRecDepth 100000
set_option linter.unusedVariables false
set_option linter.unusedSimpArgs false


theorem idx_born {l : List MapEntry} {j : Nat} {e0 : MapEntry} (hn : (l.map (·.born)).Nodup) (h : l[j]? = some e0) : l.toArray.findIdx? (fun e => ((e.born : Nat) : Int) == ((e0.born : Nat) : Int)) = some j := by
  rw [List.findIdx?_toArray]
  induction l generalizing j with
  | nil => simp at h
  | cons a r ih =>
    rw [List.map_cons, List.nodup_cons] at hn
    cases j with
    | zero => simp at h; subst h; simp [List.findIdx?_cons]
    | succ j =>
      rw [List.getElem?_cons_succ] at h
      have hne : ¬ a.born = e0.born := fun e => hn.1 (List.mem_map.2 ⟨e0, List.mem_of_getElem? h, e.symm⟩)
      rw [List.findIdx?_cons, ih hn.2 h]
      simp
      omega
theorem mod_set {α : Type} (f : α → α) : ∀ (l : List α) (j : Nat) (e : α), l[j]? = some e → l.modify j f = l.set j (f e)
  | [], _, _, h => by simp at h
  | a :: r, 0, e, h => by simp at h; subst h; rfl
  | a :: r, j + 1, e, h => by simp [List.modify_succ_cons, mod_set f r j e (by simpa using h)]
theorem set_own {α : Type} : ∀ (l : List α) (j : Nat) (a : α), l[j]? = some a → l.set j a = l
  | [], _, _, h => by simp at h
  | b :: r, 0, a, h => by simp at h; subst h; rfl
  | b :: r, j + 1, a, h => by simp at h; simp [set_own r j a h]
/-- Entries of a map of slices, by sums. -/
def entsP (L : List (List Int × Value × Nat)) : List MapEntry := L.map fun x => { key := .agg (h8 x.1), val := x.2.1, born := x.2.2 }
def kvP (L : List (List Int × Value × Nat)) (k : List Int) : Option Value := (L.find? (fun x => decide (x.1 = k))).map (·.2.1)
theorem kvP_cons {x : List Int × Value × Nat} {L : List (List Int × Value × Nat)} {k : List Int} (h : ¬ x.1 = k) : kvP (x :: L) k = kvP L k := by simp [kvP, h]
theorem run_equal32 {X Y : List Int} (hX : X.length = 32) (hY : Y.length = 32) (w : World) : (Op.equal 32 (.agg (h8 X)) (.agg (h8 Y))).run Try.prog w = .ok (decide (X = Y)) w := run_eqIn24 hX hY w
theorem findP_ask (k : List Int) (hk : k.length = 32) (w : World) : ∀ (L : List (List Int × Value × Nat)) (i : Nat), (∀ x ∈ L, x.1.length = 32) → (kvP L k = none ∧ (Instr.findAsking 32 (.agg (h8 k)) (entsP L) i).run Try.prog w = .ok none w) ∨ ∃ v j b, kvP L k = some v ∧ L[j]? = some (k, v, b) ∧ (Instr.findAsking 32 (.agg (h8 k)) (entsP L) i).run Try.prog w = .ok (some (i + j, v)) w
  | [], i, _ => .inl ⟨rfl, by simp [entsP, Instr.findAsking]⟩
  | x :: L, i, hl => by
    have hx := hl x (by simp)
    have he := run_equal32 hk hx w
    by_cases h : x.1 = k
    · right
      refine ⟨x.2.1, 0, x.2.2, by simp [kvP, h], by subst h; rfl, ?_⟩
      rw [decide_eq_true h.symm] at he
      simp [entsP, Instr.findAsking, Sem.run_bind, he]
    · rw [decide_eq_false (fun e => h e.symm)] at he
      have h2 : (Instr.findAsking 32 (.agg (h8 k)) (entsP (x :: L)) i).run Try.prog w = (Instr.findAsking 32 (.agg (h8 k)) (entsP L) (i + 1)).run Try.prog w := by
        simp [entsP, Instr.findAsking, Sem.run_bind, he]
      rw [kvP_cons h, h2]
      rcases findP_ask k hk w L (i + 1) (fun y hy => hl y (by simp [hy])) with h | ⟨v, j, b, h1, h2, h3⟩
      · exact .inl h
      · exact .inr ⟨v, j + 1, b, h1, by simpa using h2, by rw [h3, show i + 1 + j = i + (j + 1) by omega]⟩
theorem findP_key (k : List Int) (hk : k.length = 32) (w : World) (L : List (List Int × Value × Nat)) (hl : ∀ x ∈ L, x.1.length = 32) : (kvP L k = none ∧ (Instr.findKey 32 (.agg (h8 k)) (entsP L)).run Try.prog w = .ok none w) ∨ ∃ v j b, kvP L k = some v ∧ L[j]? = some (k, v, b) ∧ (Instr.findKey 32 (.agg (h8 k)) (entsP L)).run Try.prog w = .ok (some (j, v)) w := by
  cases L with
  | nil => exact .inl ⟨rfl, by simp [entsP, Instr.findKey, Instr.findNow, Sem.run_bind, run_underlying Try.underlying32]⟩
  | cons x L =>
    have e : (Instr.findKey 32 (.agg (h8 k)) (entsP (x :: L))).run Try.prog w = (Instr.findAsking 32 (.agg (h8 k)) (entsP (x :: L)) 0).run Try.prog w := by
      simp [entsP, Instr.findKey, Instr.findNow, Instr.sameNow, Sem.run_bind, run_underlying Try.underlying32]
    rw [e]
    have := findP_ask k hk w (x :: L) 0 hl
    simpa only [Nat.zero_add] using this
theorem check_byteP (b : Bool) (n : Nat) (z : Int) (w : World) : (Instr.checkKey b (n + 1) 5 (.int .u8 z)).run Try.prog w = .ok () w := by
  rw [Instr.checkKey]
  simp only [Sem.run_bind, run_underlying Try.underlying5, Result.andThen_ok]
  rfl
theorem check_sumP (X : List Int) (hX : X.length = 32) (w : World) (b : Bool) : (Instr.checkKey b 10000 32 (.agg (h8 X))).run Try.prog w = .ok () w := by
  obtain ⟨i0, hi, -, hz1, -⟩ := info_parts info5
  have hc : Try.prog.cellsOf 5 = 1 := by kernel_rfl
  have each : ∀ j ∈ List.range' 0 32, (part 5 (h8 X) (j * Try.prog.cellsOf 5)).run Try.prog w = .ok (.int .u8 (bat X j)) w := fun j hj => by
    have hj : j < 32 := by simpa using hj
    have hg := h8_get (X := X) (t := j) (by omega)
    have ha := @Try.isAgg5
    simp [part, ha, hc, hg]
  have hb9 : ∀ z : Int, (Instr.checkKey b 9999 5 (.int .u8 z)).run Try.prog w = .ok () w := fun z => check_byteP b 9998 z w
  rw [show (10000 : Nat) = 9999 + 1 from rfl, Instr.checkKey]
  simp only [Sem.run_bind, run_underlying Try.underlying32, Result.andThen_ok]
  simp only [Std.Legacy.Range.forIn_eq_forIn_range', Std.Legacy.Range.size, Nat.sub_zero, Nat.add_one_sub_one, Nat.div_one]
  generalize List.range' 0 32 = is at each
  induction is with
  | nil => simp
  | cons j is ih =>
    have p1 := each j (by simp)
    simp only [List.forIn_cons, Sem.run_bind, run_sizeOf w hi, Result.andThen_ok, p1, hb9, Sem.run_pure]
    exact ih (fun y hy => each y (by simp [hy]))
/-- Block r is a map of slices that has f; one that is not there is nil. -/
def PM (w : World) (r : Nat) (f : List Int → Value) : Prop := ∃ L clock, w.heap[r]? = some (.map (entsP L).toArray clock) ∧ (∀ x ∈ L, x.1.length = 32) ∧ (∀ x ∈ L, x.2.2 < clock) ∧ (L.map (·.2.2)).Nodup ∧ ∀ k, (kvP L k).getD (.slice none 0 0) = f k
theorem PM.new (w : World) : PM (w.alloc (.map #[] 0)) w.heap.size (fun _ => .slice none 0 0) := ⟨[], 0, heap_alloc_new w _, (fun x h => by cases h), (fun x h => by cases h), by simp, fun _ => rfl⟩
theorem PM.same {w w' : World} {r : Nat} {f : List Int → Value} (h : PM w r f) (he : w'.heap[r]? = w.heap[r]?) : PM w' r f := by
  obtain ⟨L, clock, h1, h2⟩ := h
  exact ⟨L, clock, he.trans h1, h2⟩
theorem PM.lt {w : World} {r : Nat} {f : List Int → Value} (h : PM w r f) : r < w.heap.size := by
  obtain ⟨L, clock, h1, -⟩ := h
  exact (Array.getElem?_eq_some_iff.1 h1).1
theorem zero76 (w : World) : (zeroValue 76).run Try.prog w = .ok (.slice none 0 0) w := by kernel_rfl
theorem run_lookupP {w : World} {r : Nat} {f : List Int → Value} (h : PM w r f) (k : List Int) (hk : k.length = 32) :
    (Instr.lookup 66 (.map (some r)) (.agg (h8 k)) false).run Try.prog w = .ok (f k) w := by
  obtain ⟨L, clock, h1, hl, -, -, h2⟩ := h
  have hg : (getObj r).run Try.prog w = .ok (.map (entsP L).toArray clock) w := by simp [getObj, Sem.run, h1]
  have hck := check_sumP k hk w
  have hz := zero76 w
  rw [← h2]
  rcases findP_key k hk w L hl with ⟨e1, e2⟩ | ⟨v, j, b, e1, -, e2⟩
  · simp [Instr.lookup, Sem.run_bind, run_underlying Try.underlying66, hg, hck, e1, e2, Result.andThen, hz]
  · simp [Instr.lookup, Sem.run_bind, run_underlying Try.underlying66, hg, hck, e1, e2, Result.andThen]
theorem bits_row (n : Nat) : ∀ L : List Int, ((by8 L).zip (by8 L)).all (fun x => Instr.sameBits n x.1 x.2) = true
  | [] => rfl
  | a :: r => by
    have := bits_row n r
    simp only [by8, List.map_cons, List.zip_cons_cons, List.all_cons] at this ⊢
    rw [this]
    simp [Instr.sameBits]
theorem bits_h8 (k : List Int) (n : Nat) : Instr.sameBits (n + 1) (.agg (h8 k)) (.agg (h8 k)) = true := by
  have := bits_row n k
  simp only [Instr.sameBits, h8, beq_self_eq_true, Bool.true_and]
  exact this
/-- What the entry of k is: told, and stored by its stamp. -/
def PE (w : World) (r : Nat) (f : List Int → Value) (k : List Int) (o : Obj) (st : Int) : Prop :=
  (Instr.mapEntry 66 (.map (some r)) (.agg (h8 k))).run Try.prog w = .ok (.tuple #[f k, .int .i64 st]) (w.putObj r o) ∧
  ∀ (w2 : World) (v : Value), w2.heap[r]? = some o → ∃ o', (Instr.entryStore 66 (.map (some r)) (.int .i64 st) v).run Try.prog w2 = .ok () (w2.putObj r o') ∧ PM (w2.putObj r o') r (fun j => if j = k then v else f j)
theorem kvP_set {k : List Int} {v v' : Value} {b : Nat} : ∀ {L : List (List Int × Value × Nat)} {j : Nat}, L[j]? = some (k, v, b) → (∀ i x, i < j → L[i]? = some x → ¬ x.1 = k) → ∀ k', kvP (L.set j (k, v', b)) k' = if k' = k then some v' else kvP L k'
  | [], j, h, _, k' => by simp at h
  | x :: L, 0, h, _, k' => by
    simp at h; subst h
    by_cases e : k' = k
    · subst e; simp [kvP]
    · rw [if_neg e]
      have e2 : ¬ k = k' := fun q => e q.symm
      simp [kvP, e2]
  | x :: L, j + 1, h, hn, k' => by
    have hx := hn 0 x (by omega) rfl
    have ih := kvP_set (v' := v') (L := L) (j := j) (by simpa using h) (fun i y hi hy => hn (i + 1) y (by omega) (by simpa using hy)) k'
    rw [List.set_cons_succ]
    by_cases e : x.1 = k'
    · have e2 : ¬ k' = k := fun q => hx (e.trans q)
      rw [if_neg e2]
      simp [kvP, e]
    · rw [kvP_cons e, kvP_cons e, ih]
theorem findP_first (k : List Int) (hk : k.length = 32) (w : World) : ∀ (L : List (List Int × Value × Nat)) (i j : Nat) (v : Value), (∀ x ∈ L, x.1.length = 32) → (Instr.findAsking 32 (.agg (h8 k)) (entsP L) i).run Try.prog w = .ok (some (i + j, v)) w → ∀ q x, q < j → L[q]? = some x → ¬ x.1 = k
  | [], i, j, v, _, _, q, x, _, h => by simp at h
  | y :: L, i, j, v, hl, hr, q, x, hq, hx => by
    have hy := hl y (by simp)
    have he := run_equal32 hk hy w
    by_cases h : y.1 = k
    · rw [decide_eq_true h.symm] at he
      simp [entsP, Instr.findAsking, Sem.run_bind, he] at hr
      omega
    · cases q with
      | zero => simp at hx; subst hx; exact h
      | succ q =>
        rw [decide_eq_false (fun e => h e.symm)] at he
        have h2 : (Instr.findAsking 32 (.agg (h8 k)) (entsP (y :: L)) i).run Try.prog w = (Instr.findAsking 32 (.agg (h8 k)) (entsP L) (i + 1)).run Try.prog w := by
          simp [entsP, Instr.findAsking, Sem.run_bind, he]
        rw [h2] at hr
        exact findP_first k hk w L (i + 1) (j - 1) v (fun z hz => hl z (by simp [hz])) (by rw [hr, show i + 1 + (j - 1) = i + j by omega]) q x (by omega) (by simpa using hx)
theorem run_entryP {w : World} {r : Nat} {f : List Int → Value} (h : PM w r f) (k : List Int) (hk : k.length = 32) : ∃ o st, PE w r f k o st := by
  obtain ⟨L, clock, h1, hl, hb, hd, h2⟩ := h
  have hlt := (Array.getElem?_eq_some_iff.1 h1).1
  have hg : (getObj r).run Try.prog w = .ok (.map (entsP L).toArray clock) w := by simp [getObj, Sem.run, h1]
  have hs : ∀ o, (setObj r o).run Try.prog w = .ok () (w.putObj r o) := fun o => by simp [setObj, Sem.run, h1, World.putObj]
  have hck := check_sumP k hk w
  have hz := zero76 w
  have hbn : ∀ M : List (List Int × Value × Nat), (entsP M).map (·.born) = M.map (·.2.2) := fun M => by simp [entsP]
  rcases findP_key k hk w L hl with ⟨e1, e2⟩ | ⟨v, j, b, e1, ej, e2⟩
  · refine ⟨.map ((entsP L).toArray.push { key := .agg (h8 k), val := .slice none 0 0, born := clock }) (clock + 1), clock, ?_, fun w2 v hw2 => ?_⟩
    · simp [Instr.mapEntry, Sem.run_bind, run_underlying Try.underlying66, hg, hck, hs, e2, Result.andThen, hz, goInt, ← h2, e1]
    · have hg2 : (getObj r).run Try.prog w2 = .ok (.map ((entsP L).toArray.push { key := .agg (h8 k), val := .slice none 0 0, born := clock }) (clock + 1)) w2 := by simp [getObj, Sem.run, hw2]
      have hs2 : ∀ o, (setObj r o).run Try.prog w2 = .ok () (w2.putObj r o) := fun o => by simp [setObj, Sem.run, hw2, World.putObj]
      have hlt2 := (Array.getElem?_eq_some_iff.1 hw2).1
      have hnd : ((L ++ [(k, (.slice none 0 0 : Value), clock)]).map (·.2.2)).Nodup := by
        rw [List.map_append]
        refine List.nodup_append.2 ⟨hd, by simp, fun a ha c hc e => ?_⟩
        simp only [List.map_cons, List.map_nil, List.mem_singleton] at hc
        obtain ⟨x, hx, rfl⟩ := List.mem_map.1 ha
        have := hb x hx
        omega
      have hidx : ((entsP L).toArray.push { key := .agg (h8 k), val := (.slice none 0 0 : Value), born := clock }).findIdx? (fun e => ((e.born : Nat) : Int) == ((clock : Nat) : Int)) = some L.length := by
        have := idx_born (l := entsP (L ++ [(k, (.slice none 0 0 : Value), clock)])) (j := L.length) (e0 := { key := .agg (h8 k), val := .slice none 0 0, born := clock }) (by rw [hbn]; exact hnd) (by simp [entsP])
        simpa [entsP] using this
      have hmod : ((entsP L).toArray.push { key := .agg (h8 k), val := (.slice none 0 0 : Value), born := clock }).modify L.length (fun e => { e with val := v }) = (entsP (L ++ [(k, v, clock)])).toArray := by
        apply Array.ext'
        rw [Array.toList_modify, Array.toList_push, mod_set _ _ _ { key := .agg (h8 k), val := (.slice none 0 0 : Value), born := clock } (by simp [entsP])]
        simp [entsP]
      refine ⟨.map (entsP (L ++ [(k, v, clock)])).toArray (clock + 1), ?_, L ++ [(k, v, clock)], clock + 1, by rw [World.putObj_heap_same hlt2], ?_, ?_, ?_, fun j => ?_⟩
      · simp only [Instr.entryStore, Sem.run_bind, Sem.run_pure, hg2, Result.andThen_ok, asInt, asIntOf, hidx, hmod, hs2]
      · intro x hx
        rcases List.mem_append.1 hx with hx | hx
        · exact hl x hx
        · simp at hx; subst hx; exact hk
      · intro x hx
        rcases List.mem_append.1 hx with hx | hx
        · have := hb x hx; omega
        · simp at hx; subst hx; simp
      · simpa using hnd
      · have : kvP (L ++ [(k, v, clock)]) j = (kvP L j).or (if j = k then some v else none) := by
          simp only [kvP, List.find?_append, Option.map_or]
          congr 1
          by_cases e : j = k
          · subst e; simp
          · simp [e, Ne.symm e]
        rw [this]
        by_cases e : j = k
        · subst e; rw [e1]; simp
        · simp [e, h2]
  · have hfirst : ∀ q x, q < j → L[q]? = some x → ¬ x.1 = k := by
      cases L with
      | nil => simp at ej
      | cons x L =>
        have e : (Instr.findKey 32 (.agg (h8 k)) (entsP (x :: L))).run Try.prog w = (Instr.findAsking 32 (.agg (h8 k)) (entsP (x :: L)) 0).run Try.prog w := by
          simp [entsP, Instr.findKey, Instr.findNow, Instr.sameNow, Sem.run_bind, run_underlying Try.underlying32]
        exact findP_first k hk w (x :: L) 0 j v hl (by rw [← e, e2, Nat.zero_add])
    have hj : (entsP L)[j]? = some { key := .agg (h8 k), val := v, born := b } := by simp [entsP, ej]
    have hjl := (List.getElem?_eq_some_iff.1 hj).1
    have hset : ∀ v' : Value, (entsP L).set j { key := .agg (h8 k), val := v', born := b } = entsP (L.set j (k, v', b)) := fun v' => by simp [entsP, List.map_set]
    have hself : L.set j (k, v, b) = L := set_own L j _ ej
    have hm1 : (entsP L).toArray.modify j (fun e => { e with key := .agg (h8 k) }) = (entsP L).toArray := by
      apply Array.ext'
      rw [Array.toList_modify, mod_set _ _ _ _ hj]
      simp only [hset, hself]
    refine ⟨.map (entsP L).toArray clock, b, ?_, fun w2 v' hw2 => ?_⟩
    · have hkts : (Instr.keyThatStays (.agg (h8 k)) (.agg (h8 k))).run Try.prog w = .ok (.agg (h8 k)) w := by
        simp [Instr.keyThatStays, bits_h8 k 9999]
      simp [Instr.mapEntry, Sem.run_bind, run_underlying Try.underlying66, hg, hck, hs, e2, Result.andThen, goInt, ← h2, e1, hj, hkts]
      rw [show (entsP L).modify j (fun e => { e with key := .agg (h8 k) }) = entsP L by rw [mod_set _ _ _ _ hj]; simp only [hset, hself]]
    · have hg2 : (getObj r).run Try.prog w2 = .ok (.map (entsP L).toArray clock) w2 := by simp [getObj, Sem.run, hw2]
      have hs2 : ∀ o, (setObj r o).run Try.prog w2 = .ok () (w2.putObj r o) := fun o => by simp [setObj, Sem.run, hw2, World.putObj]
      have hlt2 := (Array.getElem?_eq_some_iff.1 hw2).1
      have hidx : (entsP L).toArray.findIdx? (fun e => ((e.born : Nat) : Int) == ((b : Nat) : Int)) = some j := by
        exact idx_born (e0 := { key := .agg (h8 k), val := v, born := b }) (by rw [hbn]; exact hd) hj
      have hmod : (entsP L).toArray.modify j (fun e => { e with val := v' }) = (entsP (L.set j (k, v', b))).toArray := by
        apply Array.ext'
        rw [Array.toList_modify, mod_set _ _ _ _ hj]
        simp only [hset]
      have hmem : ∀ x ∈ L.set j (k, v', b), x ∈ L ∨ x = (k, v', b) := fun x hx => by
        rcases List.mem_or_eq_of_mem_set hx with h | h
        · exact .inl h
        · exact .inr h
      refine ⟨.map (entsP (L.set j (k, v', b))).toArray clock, ?_, L.set j (k, v', b), clock, by rw [World.putObj_heap_same hlt2], ?_, ?_, ?_, fun q => ?_⟩
      · simp only [Instr.entryStore, Sem.run_bind, Sem.run_pure, hg2, Result.andThen_ok, asInt, asIntOf, hidx, hmod, hs2]
      · intro x hx
        rcases hmem x hx with h | rfl
        · exact hl x h
        · exact hk
      · intro x hx
        rcases hmem x hx with h | rfl
        · exact hb x h
        · exact (hb (k, v, b) (List.mem_of_getElem? ej) : b < clock)
      · rw [List.map_set]
        have : (L.map (·.2.2)).set j b = L.map (·.2.2) := set_own _ j b (by simp [ej])
        simp only [this]
        exact hd
      · rw [kvP_set ej hfirst q]
        by_cases e : q = k
        · subst e; simp
        · simp [e, h2]
end Go.Proofs.Ytbfelelngoonjaa
/- Layer oracle: what the layers below give. -/
namespace Go.Proofs.Ytbfelelngoonjaa
open Go.RowKit
set_option maxRecDepth 100000
set_option linter.unusedVariables false
set_option linter.unusedSimpArgs false

theorem fo_step {m j : Nat} {r Y : List Int} {ls : List (List Int)} (h : ls[j]? = some Y) : fo (m / 2 ^ j) r (ls.drop j) = fo (m / 2 ^ (j + 1)) (if (m / 2 ^ j) % 2 = 0 then pr r Y else pr Y r) (ls.drop (j + 1)) := by
  have hj := (List.getElem?_eq_some_iff.1 h).1
  have e := (List.getElem?_eq_some_iff.1 h).2
  rw [List.drop_eq_getElem_cons hj, e, fo, div_succ]
set_option maxRecDepth 100000 in
set_option maxHeartbeats 1000000 in
theorem fold_ok (m : Nat) (X : List Int) (N : Nat) (sp : Option Addr) (n cap : Nat) (ls : List (List Int)) (w : World) (hX : X.length = 32) (hS : HS N w sp n cap ls) (h1 : n ≤ 16) (h2 : m < 2 ^ n) :
    Calls Try.prog 87 #[.int .i64 m, .agg (h8 X), .slice sp n cap] w fun e w' => e = .returned (.tuple #[.agg (h8 (fo m X ls)), .int .i64 0]) ∧ Below w.heap.size w w' := by
  have A0 := (Arr.new w 32 (h8 X)).alloc (.cells (h8 Z32) 32)
  have A1 := Arr.new (w.alloc (.cells (h8 X) 32)) 32 (h8 Z32)
  rw [World.size_alloc] at A1
  have hmd : ∀ w, Calls Try.prog 100 #[.int .i64 n] w fun e w' => e = .returned (.bool true) ∧ w' = w := fun w => by have h := mayDepth_any n w; rwa [decide_eq_true (by omega)] at h
  have hmp : ∀ w, Calls Try.prog 101 #[.int .i64 n, .int .i64 m] w fun e w' => e = .returned (.bool true) ∧ w' = w := fun w => by have h := mayPlace_any n h1 m w; rwa [decide_eq_true (by omega)] at h
  have hm : m ≤ 9223372036854775807 := by have := pow16 h1; omega
  have hl := hS.len
  have hsm := hS.small
  have hS := hS.here
  replace h2 := Hid.mk' h2
  have hb2 : Below w.heap.size w (((w.alloc (.cells (h8 X) 32)).alloc (.cells (h8 Z32) 32)).alloc (.cells (h8 X) 32)) := ((alloc_bel' w _).alloc (by simp) _).alloc (by simp; omega) _
  have A2 := Arr.new ((w.alloc (.cells (h8 X) 32)).alloc (.cells (h8 Z32) 32)) 32 (h8 X)
  rw [World.size_alloc, World.size_alloc] at A2
  go_enter Try.func87, Try.ntmps87
  go_wp2_with (first
    | (go_at_call 100; go_must (refine (hmd _).mono ?_; rintro e w2 ⟨rfl, rfl⟩))
    | (go_at_call 101; go_must (refine (hmp _).mono ?_; rintro e w2 ⟨rfl, rfl⟩))
    | (refine ld24 (by rfl) _ (by rfl) w.heap.size 0 (by rfl) X hX A0.range ?_)
    | (refine st24n (by rfl) _ _ (by rfl) ((w.alloc (.cells (h8 X) 32)).alloc (.cells (h8 Z32) 32)) (w.heap.size + 1 + 1) (by simp) (by rfl) X (by rfl) (by rfl) hX ?_))
  go_loopw [27] (fun d wr => ∃ (j : Nat) (r : List Int), d = .int .i64 (j : Int) ∧ j ≤ n ∧ Below w.heap.size w wr ∧ w.heap.size + 3 ≤ wr.heap.size ∧ Arr wr (w.heap.size + 1) 32 (h8 Z32) ∧ Arr wr (w.heap.size + 1 + 1) 32 (h8 r) ∧ Hid (r.length = 32) ∧ Hid (fo (m / 2 ^ j) r (ls.drop j) = fo m X ls))
    (fun d _ => n - (intOf d).toNat)
  case atStart => exact ⟨0, X, rfl, by omega, hb2, by simp, A1.alloc _, A2, Hid.mk' hX, Hid.mk' (by simp)⟩
  case round =>
    obtain ⟨j, r, rfl, hj, hbl, hsz, R1, R2, hr, hfo⟩ := hrel
    by_cases hlt : j < n
    · have hI : (j : Int) < n := by omega
      have hSr := hS.below hbl
      obtain ⟨g, off, rfl, hgN, hR⟩ := hSr.at0 (by omega)
      obtain ⟨Y, hY⟩ : ∃ Y, ls[j]? = some Y := ⟨ls[j]'(by rw [← hl.out]; exact hlt), List.getElem?_eq_getElem _⟩
      have hY32 := hS.l32 Y (List.mem_of_getElem? hY)
      have hRY := hR j Y hY
      have hsec := isSecond_any m j hm (by omega)
      have hst := Hid.mk' (fo_step (m := m) (r := r) hY)
      have hbY := hbl.alloc (by omega) (.cells (h8 Y) 32)
      have Y1 := Arr.new wr 32 (h8 Y)
      have R1' := R1.alloc (.cells (h8 Y) 32)
      have R2' := R2.alloc (.cells (h8 Y) 32)
      replace hY := Hid.mk' hY
      cases hd : decide (m / 2 ^ j % 2 = 1) with
      | true =>
        rw [hd] at hsec
        have hd' : m / 2 ^ j % 2 = 1 := of_decide_eq_true hd
        rw [if_neg (by omega)] at hst
        replace hd' := Hid.mk' hd'
        clear hd
        go_wp2_with (first
          | (refine ld24 (by rfl) _ (by rfl) g (off + j * 32) (by rfl) Y hY32 hRY ?_)
          | (refine st24n (by rfl) _ _ (by rfl) wr wr.heap.size rfl (by rfl) Y (by rfl) (by rfl) hY32 ?_)
          | (go_at_call 102; go_must (refine (hsec _).mono ?_; rintro e w2 ⟨rfl, rfl⟩))
          | (refine ld24 (by rfl) _ (by rfl) wr.heap.size 0 (by rfl) Y hY32 Y1.range ?_)
          | (refine ld24 (by rfl) _ (by rfl) (w.heap.size + 1 + 1) 0 (by rfl) r hr.out R2'.range ?_)
          | (go_at_call 103; go_must (refine (pair_h Y r _ hY32 hr.out).mono ?_; rintro e w3 ⟨rfl, hb3⟩; have hs3 := hb3.size; simp at hs3; have S1 := R1'.below hb3 (by simp; omega); have S2 := R2'.below hb3 (by simp; omega)))
          | (refine st24 (by rfl) _ _ (by rfl) (w.heap.size + 1 + 1) (pr Y r) r (by rfl) (by rfl) (pr_len _ _) hr.out S2 ?_))
        go_roundw
        case rel => exact ⟨j + 1, pr Y r, by go_num, by omega, below_setRow (hbY.trans (hb3.mono (by simp; omega))) (by omega) _, by simp; omega, S1.setRowOther _ (by omega), S2.setRow _, Hid.mk' (pr_len _ _), Hid.mk' (by rw [← hst.out]; exact hfo.out)⟩
        case measure => simp [intOf]; omega
      | false =>
        rw [hd] at hsec
        have hd' : ¬ m / 2 ^ j % 2 = 1 := of_decide_eq_false hd
        rw [if_pos (by omega)] at hst
        replace hd' := Hid.mk' hd'
        clear hd
        go_wp2_with (first
          | (refine ld24 (by rfl) _ (by rfl) g (off + j * 32) (by rfl) Y hY32 hRY ?_)
          | (refine st24n (by rfl) _ _ (by rfl) wr wr.heap.size rfl (by rfl) Y (by rfl) (by rfl) hY32 ?_)
          | (go_at_call 102; go_must (refine (hsec _).mono ?_; rintro e w2 ⟨rfl, rfl⟩))
          | (refine ld24 (by rfl) _ (by rfl) wr.heap.size 0 (by rfl) Y hY32 Y1.range ?_)
          | (refine ld24 (by rfl) _ (by rfl) (w.heap.size + 1 + 1) 0 (by rfl) r hr.out R2'.range ?_)
          | (go_at_call 103; go_must (refine (pair_h r Y _ hr.out hY32).mono ?_; rintro e w3 ⟨rfl, hb3⟩; have hs3 := hb3.size; simp at hs3; have S1 := R1'.below hb3 (by simp; omega); have S2 := R2'.below hb3 (by simp; omega)))
          | (refine st24 (by rfl) _ _ (by rfl) (w.heap.size + 1 + 1) (pr r Y) r (by rfl) (by rfl) (pr_len _ _) hr.out S2 ?_))
        go_roundw
        case rel => exact ⟨j + 1, pr r Y, by go_num, by omega, below_setRow (hbY.trans (hb3.mono (by simp; omega))) (by omega) _, by simp; omega, S1.setRowOther _ (by omega), S2.setRow _, Hid.mk' (pr_len _ _), Hid.mk' (by rw [← hst.out]; exact hfo.out)⟩
        case measure => simp [intOf]; omega
    · obtain rfl : j = n := by omega
      have hI : ¬ (j : Int) < j := by omega
      have hend : r = fo m X ls := by
        have h := hfo.out
        rw [List.drop_eq_nil_of_le (by rw [← hl.out]; exact Nat.le_refl _)] at h
        exact h
      subst hend
      clear hfo
      go_wp2_with (first
        | (refine ld24 (by rfl) _ (by rfl) (w.heap.size + 1 + 1) 0 (by rfl) _ hr.out R2.range ?_)
        | (refine st24 (by rfl) _ _ (by rfl) (w.heap.size + 1) _ Z32 (by rfl) (by rfl) hr.out Z32_len R1 ?_))
      exact bodyPost_ret (v := .tuple #[.agg (h8 (fo m X ls)), .int .i64 0]) (resP Try.results87 rfl rfl hr.out (R1.setRow _)) rfl ⟨rfl, below_setRow hbl (by omega) _⟩
set_option maxRecDepth 100000 in
set_option maxHeartbeats 1000000 in
theorem fold_no (i : Int) (X : List Int) (sp : Option Addr) (n cap : Nat) (w : World) (hX : X.length = 32) (hn : n ≤ 140737488355328) (h : ¬ (n ≤ 16 ∧ 0 ≤ i ∧ i < (2 ^ n : Nat))) :
    Calls Try.prog 87 #[.int .i64 i, .agg (h8 X), .slice sp n cap] w fun e w' => e = .returned (.tuple #[.agg (h8 Z32), .int .i64 2]) ∧ Below w.heap.size w w' := by
  have A1 := Arr.new (w.alloc (.cells (h8 X) 32)) 32 (h8 Z32)
  rw [World.size_alloc] at A1
  have hb2 : Below w.heap.size w ((w.alloc (.cells (h8 X) 32)).alloc (.cells (h8 Z32) 32)) := (alloc_bel' w _).alloc (by simp) _
  by_cases h1 : n ≤ 16
  · have h2 : ¬ (0 ≤ i ∧ i < (2 ^ n : Nat)) := fun hh => h ⟨h1, hh⟩
    have hmd : ∀ w, Calls Try.prog 100 #[.int .i64 n] w fun e w' => e = .returned (.bool true) ∧ w' = w := fun w => by have h := mayDepth_any n w; rwa [decide_eq_true (by omega)] at h
    have hmp : ∀ w, Calls Try.prog 101 #[.int .i64 n, .int .i64 i] w fun e w' => e = .returned (.bool false) ∧ w' = w := fun w => by have h := mayPlace_any n h1 i w; rwa [decide_eq_false h2] at h
    clear h h2
    go_enter Try.func87, Try.ntmps87
    go_wp2_with (first
      | (go_at_call 100; go_must (refine (hmd _).mono ?_; rintro e w2 ⟨rfl, rfl⟩))
      | (go_at_call 101; go_must (refine (hmp _).mono ?_; rintro e w2 ⟨rfl, rfl⟩))
      | (refine st24 (by rfl) _ _ (by rfl) (w.heap.size + 1) Z32 Z32 (by rfl) (by rfl) Z32_len Z32_len A1 ?_))
    exact bodyPost_ret (v := .tuple #[.agg (h8 Z32), .int .i64 2]) (resP Try.results87 rfl rfl Z32_len (A1.setRow _)) rfl ⟨rfl, below_setRow hb2 (by omega) _⟩
  · have hmd : ∀ w, Calls Try.prog 100 #[.int .i64 n] w fun e w' => e = .returned (.bool false) ∧ w' = w := fun w => by have h := mayDepth_any n w; rwa [decide_eq_false (by omega)] at h
    clear h
    go_enter Try.func87, Try.ntmps87
    go_wp2_with (first
      | (go_at_call 100; go_must (refine (hmd _).mono ?_; rintro e w2 ⟨rfl, rfl⟩))
      | (refine st24 (by rfl) _ _ (by rfl) (w.heap.size + 1) Z32 Z32 (by rfl) (by rfl) Z32_len Z32_len A1 ?_))
    exact bodyPost_ret (v := .tuple #[.agg (h8 Z32), .int .i64 2]) (resP Try.results87 rfl rfl Z32_len (A1.setRow _)) rfl ⟨rfl, below_setRow hb2 (by omega) _⟩
/-- What Fold answers: a sum and a code. -/
abbrev FoOK (i : Int) (n : Nat) : Prop := n ≤ 16 ∧ 0 ≤ i ∧ i < (2 ^ n : Nat)
def foE (i : Int) (ls : List (List Int)) : Int := if FoOK i ls.length then 0 else 2
end Go.Proofs.Ytbfelelngoonjaa

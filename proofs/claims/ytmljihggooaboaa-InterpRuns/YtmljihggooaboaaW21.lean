/- Ji, Jj. -/
import Derived.Test.YtmljihggooaboaaW20
import Derived.Test.YtmljihggooaboaaW14
import Derived.Test.YtmljihggooaboaaW19
import Derived.Test.YtmljihggooaboaaW13
import Derived.Test.YtmljihggooaboaaW12
import Derived.Handy
import Derived.BigQuiet
import Derived.BigRegion
import Derived.Laws.MakeOwn
import Derived.Laws.CopyOwn
import Derived.Test.YtmljihggooaboaaW11
import Derived.Test.YtmljihggooaboaaW09
/- Layer interp: preimages, and those that were found. -/
namespace Go.Proofs.Ytmljihggooaboaa
open Go.RowKit
set_option maxRecDepth 100000
set_option linter.unusedVariables false
set_option linter.unusedSimpArgs false

/-- Entries, by sums. -/
def entsB (L : List (List Int × Value × Nat)) : List MapEntry := L.map fun x => { key := .agg (h8 x.1), val := x.2.1, born := x.2.2 }
def kvB (L : List (List Int × Value × Nat)) (k : List Int) : Option Value := (L.find? (fun x => decide (x.1 = k))).map (·.2.1)
/-- Block r is a map that has m. -/
def MapB (w : World) (r : Nat) (m : List Int → Option Value) : Prop := ∃ L clock, w.heap[r]? = some (.map (entsB L).toArray clock) ∧ (∀ x ∈ L, x.1.length = 32) ∧ ∀ k, kvB L k = m k
theorem MapB.new (w : World) : MapB (w.alloc (.map #[] 0)) w.heap.size (fun _ => none) := ⟨[], 0, heap_alloc_new w _, (fun x h => by cases h), fun _ => rfl⟩
theorem MapB.same {w w' : World} {r : Nat} {m : List Int → Option Value} (h : MapB w r m) (he : w'.heap[r]? = w.heap[r]?) : MapB w' r m := by
  obtain ⟨L, clock, h1, h2⟩ := h
  exact ⟨L, clock, he.trans h1, h2⟩
theorem MapB.lt {w : World} {r : Nat} {m : List Int → Option Value} (h : MapB w r m) : r < w.heap.size := by
  obtain ⟨L, clock, h1, h2⟩ := h
  exact (Array.getElem?_eq_some_iff.1 h1).1
theorem findB_ask (k : List Int) (hk : k.length = 32) (w : World) : ∀ (L : List (List Int × Value × Nat)) (i : Nat), (∀ x ∈ L, x.1.length = 32) → (kvB L k = none ∧ (Instr.findAsking 55 (.agg (h8 k)) (entsB L) i).run Try.prog w = .ok none w) ∨ ∃ v j, kvB L k = some v ∧ (Instr.findAsking 55 (.agg (h8 k)) (entsB L) i).run Try.prog w = .ok (some (j, v)) w
  | [], i, _ => .inl ⟨rfl, by simp [entsB, Instr.findAsking]⟩
  | x :: L, i, hl => by
    have hx := hl x (by simp)
    have he : (Op.equal 55 (.agg (h8 k)) (.agg (h8 x.1))).run Try.prog w = .ok (decide (k = x.1)) w := run_eqIn24 hk hx w
    by_cases h : x.1 = k
    · right
      refine ⟨x.2.1, i, by simp [kvB, h], ?_⟩
      rw [decide_eq_true h.symm] at he
      simp [entsB, Instr.findAsking, Sem.run_bind, he]
    · rw [decide_eq_false (fun e => h e.symm)] at he
      have h1 : kvB (x :: L) k = kvB L k := by simp [kvB, h]
      have h2 : (Instr.findAsking 55 (.agg (h8 k)) (entsB (x :: L)) i).run Try.prog w = (Instr.findAsking 55 (.agg (h8 k)) (entsB L) (i + 1)).run Try.prog w := by
        simp [entsB, Instr.findAsking, Sem.run_bind, he]
      rw [h1, h2]
      exact findB_ask k hk w L (i + 1) (fun y hy => hl y (by simp [hy]))
theorem findB_key (k : List Int) (hk : k.length = 32) (w : World) (L : List (List Int × Value × Nat)) (hl : ∀ x ∈ L, x.1.length = 32) : (kvB L k = none ∧ (Instr.findKey 55 (.agg (h8 k)) (entsB L)).run Try.prog w = .ok none w) ∨ ∃ v j, kvB L k = some v ∧ (Instr.findKey 55 (.agg (h8 k)) (entsB L)).run Try.prog w = .ok (some (j, v)) w := by
  cases L with
  | nil => exact .inl ⟨rfl, by simp [entsB, Instr.findKey, Instr.findNow, Sem.run_bind, run_underlying Try.underlying55]⟩
  | cons x L =>
    have e : (Instr.findKey 55 (.agg (h8 k)) (entsB (x :: L))).run Try.prog w = (Instr.findAsking 55 (.agg (h8 k)) (entsB (x :: L)) 0).run Try.prog w := by
      simp [entsB, Instr.findKey, Instr.findNow, Instr.sameNow, Sem.run_bind, run_underlying Try.underlying55]
    rw [e]
    exact findB_ask k hk w (x :: L) 0 hl
theorem check_byte (b : Bool) (n : Nat) (z : Int) (w : World) : (Instr.checkKey b (n + 1) 5 (.int .u8 z)).run Try.prog w = .ok () w := by
  rw [Instr.checkKey]
  simp only [Sem.run_bind, run_underlying Try.underlying5, Result.andThen_ok]
  rfl
theorem check_sum (X : List Int) (hX : X.length = 32) (w : World) (b : Bool) : (Instr.checkKey b 10000 55 (.agg (h8 X))).run Try.prog w = .ok () w := by
  obtain ⟨i0, hi, -, hz1, -⟩ := info_parts info5
  have hc : Try.prog.cellsOf 5 = 1 := by kernel_rfl
  have each : ∀ j ∈ List.range' 0 32, (part 5 (h8 X) (j * Try.prog.cellsOf 5)).run Try.prog w = .ok (.int .u8 (bat X j)) w := fun j hj => by
    have hj : j < 32 := by simpa using hj
    have hg := h8_get (X := X) (t := j) (by omega)
    have ha := @Try.isAgg5
    simp [part, ha, hc, hg]
  have hb9 : ∀ z : Int, (Instr.checkKey b 9999 5 (.int .u8 z)).run Try.prog w = .ok () w := fun z => check_byte b 9998 z w
  rw [show (10000 : Nat) = 9999 + 1 from rfl, Instr.checkKey]
  simp only [Sem.run_bind, run_underlying Try.underlying55, Result.andThen_ok]
  simp only [Std.Legacy.Range.forIn_eq_forIn_range', Std.Legacy.Range.size, Nat.sub_zero, Nat.add_one_sub_one, Nat.div_one]
  generalize List.range' 0 32 = is at each
  induction is with
  | nil => simp
  | cons j is ih =>
    have p1 := each j (by simp)
    simp only [List.forIn_cons, Sem.run_bind, run_sizeOf w hi, Result.andThen_ok, p1, hb9, Sem.run_pure]
    exact ih (fun y hy => each y (by simp [hy]))
theorem run_lookupB {w : World} {r : Nat} {m : List Int → Option Value} (h : MapB w r m) (k : List Int) (hk : k.length = 32) :
    (Instr.lookup 60 (.map (some r)) (.agg (h8 k)) true).run Try.prog w = .ok (.tuple #[(m k).getD (.slice none 0 0), .bool (m k).isSome]) w := by
  obtain ⟨L, clock, h1, hl, h2⟩ := h
  have hg : (getObj r).run Try.prog w = .ok (.map (entsB L).toArray clock) w := by simp [getObj, Sem.run, h1]
  have hck := check_sum k hk w
  have hz : (zeroValue 53).run Try.prog w = .ok (.slice none 0 0) w := by kernel_rfl
  rw [← h2]
  rcases findB_key k hk w L hl with ⟨e1, e2⟩ | ⟨v, j, e1, e2⟩
  · simp [Instr.lookup, Sem.run_bind, run_underlying Try.underlying60, hg, hck, e1, e2, Result.andThen, hz]
  · simp [Instr.lookup, Sem.run_bind, run_underlying Try.underlying60, hg, hck, e1, e2, Result.andThen]
theorem run_updateB {w : World} {r : Nat} {m : List Int → Option Value} (h : MapB w r m) (k : List Int) (hk : k.length = 32) (v : Value) (hno : m k = none) :
    ∃ o, (Instr.mapUpdate 60 (.map (some r)) (.agg (h8 k)) v).run Try.prog w = .ok () (w.putObj r o) ∧ MapB (w.putObj r o) r (fun j => if j = k then some v else m j) := by
  obtain ⟨L, clock, h1, hl, h2⟩ := h
  have hlt := (Array.getElem?_eq_some_iff.1 h1).1
  have hg : (getObj r).run Try.prog w = .ok (.map (entsB L).toArray clock) w := by simp [getObj, Sem.run, h1]
  have hs : ∀ o, (setObj r o).run Try.prog w = .ok () (w.putObj r o) := fun o => by simp [setObj, Sem.run, h1, World.putObj]
  have hck := check_sum k hk w
  rcases findB_key k hk w L hl with ⟨e1, e2⟩ | ⟨v', j, e1, e2⟩
  · refine ⟨.map ((entsB L).toArray.push { key := .agg (h8 k), val := v, born := clock }) (clock + 1), ?_, L ++ [(k, v, clock)], clock + 1, ?_, ?_, fun j => ?_⟩
    · simp [Instr.mapUpdate, Sem.run_bind, run_underlying Try.underlying60, hg, hck, hs, e2, Result.andThen]
    · rw [World.putObj_heap_same hlt]; simp [entsB]
    · intro x hx
      rcases List.mem_append.1 hx with hx | hx
      · exact hl x hx
      · simp at hx; subst hx; exact hk
    · have : kvB (L ++ [(k, v, clock)]) j = (kvB L j).or (if j = k then some v else none) := by
        simp only [kvB, List.find?_append, Option.map_or]
        congr 1
        by_cases e : j = k
        · subst e; simp
        · simp [e, Ne.symm e]
      rw [this, h2]
      by_cases e : j = k
      · subst e; rw [hno]; simp
      · simp [e]
  · rw [h2, hno] at e1; cases e1
/-- What is known, and the preimages that were found. -/
structure XB (R : World → Prop) (es : List En) (Z N gm : Nat) (kp : Option Addr) (kn kc : Nat) (w : World) : Prop where
  ents : ES N w kp kn kc es
  map : ∃ f, MapB w gm f ∧ ∀ Y v, Y.length = 32 → f Y = some v → ∃ en, pre es Y = some en ∧ w.ownsRow Z 5 1 v en.n (by8 en.bs)
  rst : R w
  rb : ∀ u u', Below N u u' → R u → R u'
theorem own_ch {u u' : World} {Z gr gw n : Nat} {v : Value} {xs : List Value} (h1 : gr < Z) (h2 : gw < Z) (h : u.ownsRow Z 5 1 v n xs) (hc : Ch (fun k => k = gr ∨ k = gw ∨ (Z ≤ k ∧ NB u k)) u u') : u'.ownsRow Z 5 1 v n xs := by
  obtain ⟨hl, h' | ⟨g, cap, cur, e1, hg, hh, r⟩⟩ := h
  · exact ⟨hl, .inl h'⟩
  · refine ⟨hl, .inr ⟨g, cap, cur, e1, hg, (hc.block g (Array.getElem?_eq_some_iff.1 hh).1 ?_).trans hh, r⟩⟩
    rintro (e | e | ⟨-, hn⟩)
    · omega
    · omega
    · exact hn _ hh
theorem XB.keeps {R : World → Prop} {es : List En} {Z N gm : Nat} {kp : Option Addr} {kn kc gr gw : Nat} (hr : N ≤ gr) (hw : N ≤ gw) (hZ : N ≤ Z) (h1 : gr < Z) (h2 : gw < Z) (h3 : gm < Z) (n1 : gm ≠ gr) (n2 : gm ≠ gw) : XK (XB R es Z N gm kp kn kc) Z gr gw := by
  intro u u' h hz hc
  obtain ⟨he, ⟨f, hM, hf⟩, hrs, hrb⟩ := h
  have hb : Below N u u' := hc.bl fun i hi => ⟨by omega, by rintro (e | e | ⟨e, -⟩) <;> omega⟩
  exact ⟨he.below hb, ⟨f, hM.same (hc.block gm hM.lt (by rintro (e | e | ⟨e, -⟩) <;> omega)), fun Y v hY hv => let ⟨en, h1', h2'⟩ := hf Y v hY hv; ⟨en, h1', own_ch h1 h2 h2' hc⟩⟩, hrb _ _ hb hrs, hrb⟩
theorem XB.ch {R : World → Prop} {es : List En} {Z N gm : Nat} {kp : Option Addr} {kn kc : Nat} {u u' : World} (hZ : N ≤ Z) (hz : Z ≤ u.heap.size) (h : XB R es Z N gm kp kn kc u) (hb : Below u.heap.size u u') : XB R es Z N gm kp kn kc u' := by
  obtain ⟨he, ⟨f, hM, hf⟩, hrs, hrb⟩ := h
  exact ⟨he.below (hb.mono (by omega)), ⟨f, hM.same (hb.block gm hM.lt), fun Y v hY hv => let ⟨en, h1', h2'⟩ := hf Y v hY hv; ⟨en, h1', own_bel h2' hb⟩⟩, hrb _ _ (hb.mono (by omega)) hrs, hrb⟩
/-- What preimage answers. -/
def PmP (R : World → Prop) (es : List En) (X : List Int) (Z N gm : Nat) (kp : Option Addr) (kn kc : Nat) (w : World) (r : Ending) (w' : World) : Prop := Ch (fun k => k = gm) w w' ∧ XB R es Z N gm kp kn kc w' ∧
  ((∃ en v, pre es X = some en ∧ r = .returned v ∧ w'.ownsRow Z 5 1 v en.n (by8 en.bs)) ∨ (pre es X = none ∧ r = .panicked trI))
set_option maxHeartbeats 1000000 in
theorem preim_any {R : World → Prop} {es : List En} {X : List Int} {Z N gm : Nat} {kp : Option Addr} {kn kc : Nat} (w : World) (hX : X.length = 32) (h : XB R es Z N gm kp kn kc w) (hZ : N ≤ Z) (hz : Z ≤ w.heap.size) (hNm : N ≤ gm) (hm : gm < Z) :
    Calls Try.prog 65 #[.agg #[.slice kp kn kc, .map (some gm)], .agg (h8 X)] w (PmP R es X Z N gm kp kn kc w) := by
  have b1 := alloc_bel' w (.cells #[.slice kp kn kc, .map (some gm)] 62)
  have b2 := b1.trans ((alloc_bel' (w.alloc (.cells #[.slice kp kn kc, .map (some gm)] 62)) (.cells (h8 X) 55)).mono (by simp))
  have h2 := h.ch hZ hz b2
  obtain ⟨he, ⟨f, hM, hf⟩, -, -⟩ := id h2
  have A0 := (Arr.new w 62 #[.slice kp kn kc, .map (some gm)]).alloc (.cells (h8 X) 55)
  have A1 := Arr.new (w.alloc (.cells #[.slice kp kn kc, .map (some gm)] 62)) 55 (h8 X)
  simp only [World.size_alloc] at A1
  have hr := A1.range
  have hlk := run_lookupB hM X hX
  cases hq : f X with
  | some v =>
    obtain ⟨en, hp, ho⟩ := hf X v hX hq
    obtain ⟨hon, hsl⟩ : w.heap.size = w.heap.size ∧ ∃ s m c, v = .slice s m c := by
      obtain ⟨-, h' | ⟨g, cap, cur, e1, -⟩⟩ := ho
      · exact ⟨rfl, _, _, _, h'.1⟩
      · exact ⟨rfl, _, _, _, e1⟩
    obtain ⟨s, m, c, rfl⟩ := hsl
    rw [hq] at hlk
    simp only [Option.getD_some, Option.isSome_some] at hlk
    have hfin : Hid (PmP R es X Z N gm kp kn kc w (.returned (.slice s m c)) ((w.alloc (.cells #[.slice kp kn kc, .map (some gm)] 62)).alloc (.cells (h8 X) 55))) := Hid.mk' ⟨Ch.ob b2, h2, .inl ⟨en, _, hp, rfl, ho⟩⟩
    clear hq hf hp ho hM h h2 he A1 hon
    go_enter Try.func65, Try.ntmps65
    go_wp2_with (refine ld24 (by rfl) _ (by rfl) (w.heap.size + 1) 0 (by rfl) X hX hr ?_)
    go_ret
    exact hfin.out
  | none =>
    rw [hq] at hlk
    simp only [Option.getD_none, Option.isSome_none] at hlk
    have hpa := preimage_any kp kn kc es X N _ he hX
    go_enter Try.func65, Try.ntmps65
    go_upto_region 4 with (first
      | (refine ld24 (by rfl) (.tmp 3) (by rfl) (w.heap.size + 1) 0 (by rfl) X hX hr ?_)
      | (go_at_call 81; go_must (refine hpa.mono ?_; rintro r w1 ⟨hb1, ⟨en, v, hp, rfl, ho⟩ | ⟨hp, rfl⟩⟩)))
    · have hb := b2.trans (hb1.mono (by simp; omega))
      have hM3 := hM.same (hb1.block gm hM.lt)
      obtain ⟨s, m, c, rfl⟩ : ∃ s m c, v = .slice s m c := by
        obtain ⟨-, h' | ⟨g, cap, cur, e1, -⟩⟩ := ho
        · exact ⟨_, _, _, h'.1⟩
        · exact ⟨_, _, _, e1⟩
      obtain ⟨o, hup, hM4⟩ := run_updateB hM3 X hX (.slice s m c) hq
      have A03 := A0.below hb1 (by simp; omega)
      have A13 := A1.below hb1 (by simp)
      have hr3 := A13.range
      have d1 := A03.cell 1
      simp at d1
      have hpo : ∀ b, b ≠ gm → (w1.putObj gm o).heap[b]? = w1.heap[b]? := fun b hb => by simp [World.putObj, Array.getElem?_setIfInBounds, Ne.symm hb]
      have hms : ∀ {bb n : Nat} {v : Value} {xs : List Value}, gm < bb → w1.ownsRow bb 5 1 v n xs → (w1.putObj gm o).ownsRow bb 5 1 v n xs := fun hg hh => by
        obtain ⟨hl, h' | ⟨g, cap, cur, e1, hgg, hh, r⟩⟩ := hh
        · exact ⟨hl, .inl h'⟩
        · exact ⟨hl, .inr ⟨g, cap, cur, e1, hgg, (hpo g (by omega)).trans hh, r⟩⟩
      have hB4 : Ch (fun k => k = gm) w (w1.putObj gm o) := ⟨hb.os, hb.tape, hb.output, by simpa [World.putObj] using hb.size, fun i hi hn => (hpo i hn).trans (hb.block i hi)⟩
      have ho4 : (w1.putObj gm o).ownsRow Z 5 1 (.slice s m c) en.n (by8 en.bs) := hms hm (own_mono ho (by simp; omega))
      have hX4 : XB R es Z N gm kp kn kc (w1.putObj gm o) := ⟨h.ents.below (hB4.bl fun i hi => ⟨by omega, by omega⟩), ⟨_, hM4, fun Y v hY hv => by
        by_cases hYX : Y = X
        · subst hYX
          simp at hv
          subst hv
          exact ⟨en, hp, ho4⟩
        · simp [hYX] at hv
          obtain ⟨e2, p2, o2⟩ := hf Y v hY hv
          exact ⟨e2, p2, hms hm (own_bel o2 hb1)⟩⟩, h.rb _ _ (hB4.bl fun i hi => ⟨by omega, by omega⟩) h.rst, h.rb⟩
      have hfin : Hid (PmP R es X Z N gm kp kn kc w (.returned (.slice s m c)) (w1.putObj gm o)) := Hid.mk' ⟨hB4, hX4, .inl ⟨en, _, hp, rfl, ho4⟩⟩
      clear hq hf hp ho hM h h2 he A0 A1 A03 A13 hM3 hM4 hms hB4 ho4 hX4 hpa hlk hpo
      go_wp2_with (refine ld24 (by rfl) (.tmp 3) (by rfl) (w.heap.size + 1) 0 (by rfl) X hX hr3 ?_)
      go_ret
      exact hfin.out
    · have hb := b2.trans (hb1.mono (by simp; omega))
      have hfin : Hid (PmP R es X Z N gm kp kn kc w (.panicked trI) w1) := Hid.mk' ⟨Ch.ob hb, h.ch hZ hz hb, .inr ⟨hp, rfl⟩⟩
      clear hq hf hp hM h h2 he A0 A1 hpa hlk
      go_wp2_with fail
      exact ⟨rfl, hfin.out⟩
end Go.Proofs.Ytmljihggooaboaa
/- Layer interp: the preimage of the sum at an address. -/
namespace Go.Proofs.Ytmljihggooaboaa
open Go.RowKit
set_option maxRecDepth 100000
set_option linter.unusedVariables false
set_option linter.unusedSimpArgs false

/-- The sum of four words. -/
def fmL (W : Nat → Int) : List Int := (List.range 32).map (fromB W)
theorem fmL_len (W : Nat → Int) : (fmL W).length = 32 := by simp [fmL]
theorem fmL_h8 (W : Nat → Int) : u8s 32 (fromB W) = h8 (fmL W) := by
  apply Array.ext_getElem?
  intro t
  by_cases h : t < 32
  · rw [u8s_get h, h8_get (by rw [fmL_len]; exact h)]
    simp [bat, fmL, List.getD_eq_getElem?_getD, h]
  · rw [Array.getElem?_eq_none (by rw [u8s_size]; omega), Array.getElem?_eq_none (by simp [h8, by8_len, fmL_len]; omega)]
theorem arrayAt4 (a : Addr) (c : Nat) (w : World) : (Instr.arrayAt 126 (.slice (some a) 4 c)).run Try.prog w = .ok (.pointer (some a)) w := by
  simp [Instr.arrayAt, Sem.run_bind, run_underlying Try.underlying126]
/-- The preimage of the sum at an address. -/
def prW (es : List En) (W : List Int) (a : Int) : Option (List Int) := if ¬ a + 4 ≤ W.length then none else (pre es (fmL (fun t => W.getD (a.toNat + t) 0))).map En.bs
/-- What preimageAt answers. -/
def PaP (R : World → Prop) (es : List En) (r : Option (List Int)) (Z N gm : Nat) (kp : Option Addr) (kn kc : Nat) (w : World) (e : Ending) (w' : World) : Prop := Ch (fun k => k = gm) w w' ∧ XB R es Z N gm kp kn kc w' ∧
  ((∃ bs n v, r = some bs ∧ e = .returned v ∧ w'.ownsRow Z 5 1 v n (by8 bs) ∧ Bts bs ∧ n ≤ 140737488355000) ∨ (r = none ∧ e = .panicked trI))
variable {gr gw n : Nat} {p0 p1 : Value} {W : List Int} {lf : Int} {R : World → Prop} {es : List En} {Z N gm : Nat} {kp : Option Addr} {kn kc : Nat}
set_option maxHeartbeats 1000000 in
theorem preAt_no {a : Int} (w : World) (hI : RunI gr gw n p0 p1 (.slice kp kn kc) (.map (some gm)) W lf w) (h : XB R es Z N gm kp kn kc w) (hZ : N ≤ Z) (hz : Z ≤ w.heap.size) (ha : U64 a) (hno : ¬ a + 4 ≤ n) :
    Calls Try.prog 48 #[.pointer (some ⟨gr, 0, none⟩), .int .u64 a] w (PaP R es (prW es W a) Z N gm kp kn kc w) := by
  have hp : prW es W a = none := by unfold prW; rw [hI.len.out, if_pos hno]
  rw [hp]
  have c4 : w.cell? ⟨gr, 4, none⟩ = some (.slice kp kn kc) := hI.ar.cell 4
  have c5 : w.cell? ⟨gr, 5, none⟩ = some (.map (some gm)) := hI.ar.cell 5
  have hsp := span_no (y := 4) w.drew ⟨hI.ar.drew, hI.aw.drew, hI.ne, hI.len, hI.n10, hI.wU⟩ ha (by unfold U64; omega) (by omega) hno
  have hfin : Hid (PaP R es none Z N gm kp kn kc w (.panicked trI) w.drew) := Hid.mk' ⟨(Ch.refl _ w).dw, h.ch hZ hz (Below.refl _ w).drew, .inr ⟨rfl, rfl⟩⟩
  clear hI h
  go_enter Try.func48, Try.ntmps48
  go_upto_region 1 with fail
  refine rgn (fun u => u.cell? ⟨gr, 4, none⟩ = some (.slice kp kn kc) ∧ u.cell? ⟨gr, 5, none⟩ = some (.map (some gm))) ⟨c4, c5⟩ (fun hS => ?_)
  refine tk2 0 rfl ?_
  refine tk2 1 rfl ?_
  refine tk2 2 rfl ?_
  refine tk2 3 rfl ?_
  refine tk2 4 rfl ?_
  refine tk2 5 rfl ?_
  refine rd 6 rfl (fun K hK => ?_)
  go_simp
  refine hsp.mono ?_
  rintro e w4 ⟨rfl, h⟩
  replace h := h.symm
  subst h
  exact ⟨rfl, hfin.out⟩
set_option maxHeartbeats 2000000 in
theorem preAt_ok {a : Int} {ka : Nat} (w : World) (hI : RunI gr gw n p0 p1 (.slice kp kn kc) (.map (some gm)) W lf w) (h : XB R es Z N gm kp kn kc w) (hZ : N ≤ Z) (hz : Z ≤ w.heap.size) (hNm : N ≤ gm) (hm : gm < Z) (n1 : gm ≠ gr) (n2 : gm ≠ gw) (ha : a = (ka : Int)) (hno : ka + 4 ≤ n) :
    Calls Try.prog 48 #[.pointer (some ⟨gr, 0, none⟩), .int .u64 a] w (PaP R es (prW es W a) Z N gm kp kn kc w) := by
  subst ha
  have hp : prW es W (ka : Int) = (pre es (fmL (fun t => W.getD (ka + t) 0))).map En.bs := by unfold prW; rw [hI.len.out, if_neg (by omega), Int.toNat_natCast]
  rw [hp]
  have c4 : w.cell? ⟨gr, 4, none⟩ = some (.slice kp kn kc) := hI.ar.cell 4
  have c5 : w.cell? ⟨gr, 5, none⟩ = some (.map (some gm)) := hI.ar.cell 5
  have x0 : w.cell? ⟨gw, ka, none⟩ = some (.int .u64 (W.getD (ka + 0) 0)) := hI.cw (by omega)
  have x1 : w.cell? ⟨gw, ka + 1, none⟩ = some (.int .u64 (W.getD (ka + 1) 0)) := hI.cw (by omega)
  have x2 : w.cell? ⟨gw, ka + 2, none⟩ = some (.int .u64 (W.getD (ka + 2) 0)) := hI.cw (by omega)
  have x3 : w.cell? ⟨gw, ka + 3, none⟩ = some (.int .u64 (W.getD (ka + 3) 0)) := hI.cw (by omega)
  have hsp := span_ok (x := (ka : Int)) (k := ka) (c := 4) w.drew ⟨hI.ar.drew, hI.aw.drew, hI.ne, hI.len, hI.n10, hI.wU⟩ rfl rfl (by omega) hno
  have har := arrayAt4 ⟨gw, ka, none⟩ (n - ka)
  have hgl := hI.ar.lt
  have hwl := hI.aw.lt
  obtain ⟨F, hF⟩ : ∃ F, F = fmL (fun t => W.getD (ka + t) 0) := ⟨_, rfl⟩
  have hFl : F.length = 32 := by rw [hF]; exact fmL_len _
  have hfr := fun (u : World) => from_any #[.int .u64 (W.getD (ka + 0) 0), .int .u64 (W.getD (ka + 1) 0), .int .u64 (W.getD (ka + 2) 0), .int .u64 (W.getD (ka + 3) 0)] (fun t => W.getD (ka + t) 0) u (four_get (fun t => W.getD (ka + t) 0))
  rw [fmL_h8, ← hF] at hfr
  rw [← hF]
  have hpr := fun (u : World) (hb : Below w.heap.size w u) => preim_any (X := F) u hFl (h.ch hZ hz hb) hZ (by have := hb.size; omega) hNm hm
  have hbd : ∀ en ∈ es, Bts en.bs ∧ en.n ≤ 140737488355000 := fun en he => ⟨(h.ents.ok en he).body.bts, (h.ents.ok en he).body.small⟩
  replace hFl := Hid.mk' hFl
  replace hbd := Hid.mk' hbd
  replace hpr := Hid.mk' hpr
  replace hfr := Hid.mk' hfr
  replace hsp := Hid.mk' hsp
  clear hI h hF hp
  generalize W.getD (ka + 0) 0 = y0 at *
  generalize W.getD (ka + 1) 0 = y1 at *
  generalize W.getD (ka + 2) 0 = y2 at *
  generalize W.getD (ka + 3) 0 = y3 at *
  go_enter Try.func48, Try.ntmps48
  go_upto_region 1 with fail
  refine rgn (fun u => u.cell? ⟨gr, 4, none⟩ = some (.slice kp kn kc) ∧ u.cell? ⟨gr, 5, none⟩ = some (.map (some gm)) ∧ u.cell? ⟨gw, ka, none⟩ = some (.int .u64 y0) ∧ u.cell? ⟨gw, ka + 1, none⟩ = some (.int .u64 y1) ∧ u.cell? ⟨gw, ka + 2, none⟩ = some (.int .u64 y2) ∧ u.cell? ⟨gw, ka + 3, none⟩ = some (.int .u64 y3)) ⟨c4, c5, x0, x1, x2, x3⟩ (fun hS => ?_)
  refine tk7 0 rfl ?_
  refine tk7 1 rfl ?_
  refine tk7 2 rfl ?_
  refine tk7 3 rfl ?_
  refine tk7 4 rfl ?_
  refine tk7 5 rfl ?_
  refine rd 6 rfl (fun K hK => ?_)
  go_simp
  refine hsp.out.mono ?_
  rintro e w4 ⟨rfl, h⟩
  replace h := h.symm
  subst h
  go_wp2_with fail
  refine hK.out _ _ hS (fun hS => ?_)
  clear hK K
  try simp only [Act.put, List.setIfInBounds_toArray, List.set_cons_zero, List.set_cons_succ]
  refine tk7 7 rfl ?_
  refine tk7 8 rfl ?_
  refine rd 9 rfl (fun K hK => ?_)
  go_simp
  refine (hfr.out _).mono ?_
  rintro e w5 ⟨rfl, hb5⟩
  have hb6 : Below w.heap.size w w5 := ((Below.refl _ w).drew).trans hb5
  have T : ∀ (q o : Nat) (y : Value), q < w.heap.size → w.cell? ⟨q, o, none⟩ = some y → w5.cell? ⟨q, o, none⟩ = some y := fun q o y h1 h2 => (hb6.cell (p := ⟨q, o, none⟩) h1).trans h2
  have S5 := And.intro (T _ _ _ hgl c4) (And.intro (T _ _ _ hgl c5) (And.intro (T _ _ _ hwl x0) (And.intro (T _ _ _ hwl x1) (And.intro (T _ _ _ hwl x2) (T _ _ _ hwl x3)))))
  go_wp2_with fail
  refine hK.out _ _ S5 (fun hS5 => ?_)
  clear hK K
  try simp only [Act.put, List.setIfInBounds_toArray, List.set_cons_zero, List.set_cons_succ]
  refine rd 10 rfl (fun K hK => ?_)
  go_simp
  refine (hpr.out _ hb6).mono ?_
  rintro e w6 ⟨hc6, hx6, ⟨en, v, hp, rfl, ho⟩ | ⟨hp, rfl⟩⟩
  · have hc : Ch (fun k => k = gm) w w6 := (Ch.ob hb6).trans hc6
    have hen : en ∈ es := by
      unfold pre at hp
      split at hp
      · next e' he' =>
        split at hp
        · cases hp; exact List.mem_of_find?_eq_some he'
        · cases hp
      · cases hp
    have hfin : Hid (PaP R es ((pre es F).map En.bs) Z N gm kp kn kc w (.returned v) w6) := Hid.mk' ⟨hc, hx6, .inl ⟨en.bs, en.n, v, by rw [hp]; rfl, rfl, ho, (hbd.out en hen).1, (hbd.out en hen).2⟩⟩
    have T6 : ∀ (q o : Nat) (y : Value), q ≠ gm → w.cell? ⟨q, o, none⟩ = some y → w6.cell? ⟨q, o, none⟩ = some y := fun q o y h1 h2 => (World.cell?_of_block (hc.block q (block_lt_of_cell h2) h1)).trans h2
    have S6 := And.intro (T6 _ _ _ n1.symm c4) (And.intro (T6 _ _ _ n1.symm c5) (And.intro (T6 _ _ _ n2.symm x0) (And.intro (T6 _ _ _ n2.symm x1) (And.intro (T6 _ _ _ n2.symm x2) (T6 _ _ _ n2.symm x3)))))
    clear hp hx6 ho hbd hen
    go_wp2_with fail
    refine hK.out _ _ S6 (fun hS6 => ?_)
    clear hK K
    try simp only [Act.put, List.setIfInBounds_toArray, List.set_cons_zero, List.set_cons_succ]
    refine tk7 11 rfl ?_
    refine dn ?_
    go_wp2_with fail
    go_ret
    exact hfin.out
  · exact ⟨rfl, (Ch.ob hb6).trans hc6, hx6, .inr ⟨by rw [hp]; rfl, rfl⟩⟩
theorem preAt_any {a : Int} (w : World) (hI : RunI gr gw n p0 p1 (.slice kp kn kc) (.map (some gm)) W lf w) (h : XB R es Z N gm kp kn kc w) (hZ : N ≤ Z) (hz : Z ≤ w.heap.size) (hNm : N ≤ gm) (hm : gm < Z) (n1 : gm ≠ gr) (n2 : gm ≠ gw) (ha : U64 a) :
    Calls Try.prog 48 #[.pointer (some ⟨gr, 0, none⟩), .int .u64 a] w (PaP R es (prW es W a) Z N gm kp kn kc w) := by
  have h0 := ha.1
  by_cases hno : a + 4 ≤ n
  · exact preAt_ok (ka := a.toNat) w hI h hZ hz hNm hm n1 n2 (by omega) (by omega)
  · exact preAt_no w hI h hZ hz ha hno
end Go.Proofs.Ytmljihggooaboaa

/- Layer collide: Find. -/
import Derived.Test.YtgjnbpimldjkpaaCc
import Derived.Deep.RegionHeld3
namespace Go.Proofs.Ytgjnbpimldjkpaa
open Go.RowKit
set_option linter.unusedVariables false
set_option linter.unusedSimpArgs false

/-- Do the entries i and j collide? -/
def hit (es : List En) (i j : Nat) : Bool := match es[i]?, es[j]? with
  | some e, some f => hitE e f
  | _, _ => false
theorem hit_some {es : List En} {i j : Nat} {e f : En} (h : es[i]? = some e) (h' : es[j]? = some f) : hit es i j = hitE e f := by simp [hit, h, h']
theorem hit_lt {es : List En} {i j : Nat} (h : hit es i j = true) : ∃ e f, es[i]? = some e ∧ es[j]? = some f ∧ e.sm = f.sm ∧ e.bs ≠ f.bs := by
  unfold hit at h
  split at h
  · rename_i e f h1 h2
    refine ⟨e, f, h1, h2, ?_⟩
    simpa [hitE] using h
  · cases h
/-- What is found. -/
def Fnd (es : List En) (a b : Int) (c : Bool) : Prop :=
  (c = true ∧ ∃ i j : Nat, a = i ∧ b = j ∧ i < j ∧ j < es.length ∧ hit es i j = true ∧ (∀ j', j' < j → ∀ i', i' < j' → hit es i' j' = false) ∧ ∀ i', i' < i → hit es i' j = false)
  ∨ (c = false ∧ a = 0 ∧ b = 0 ∧ ∀ j, j < es.length → ∀ i, i < j → hit es i j = false)
theorem Fnd.one {es : List En} {a b a' b' : Int} {c c' : Bool} (h : Fnd es a b c) (h' : Fnd es a' b' c') : a' = a ∧ b' = b ∧ c' = c := by
  rcases h with ⟨rfl, i, j, rfl, rfl, h1, h2, h3, h4, h5⟩ | ⟨rfl, rfl, rfl, h1⟩
  · rcases h' with ⟨rfl, i', j', rfl, rfl, k1, k2, k3, k4, k5⟩ | ⟨rfl, rfl, rfl, k1⟩
    · have hj : j' = j := by
        rcases Nat.lt_trichotomy j' j with h | h | h
        · rw [h4 j' h i' k1] at k3; cases k3
        · exact h
        · rw [k4 j h i h1] at h3; cases h3
      subst hj
      have hi : i' = i := by
        rcases Nat.lt_trichotomy i' i with h | h | h
        · rw [h5 i' h] at k3; cases k3
        · exact h
        · rw [k5 i h] at h3; cases h3
      subst hi
      exact ⟨rfl, rfl, rfl⟩
    · rw [k1 j h2 i h1] at h3; cases h3
  · rcases h' with ⟨rfl, i', j', rfl, rfl, k1, k2, k3, k4, k5⟩ | ⟨rfl, rfl, rfl, k1⟩
    · rw [h1 j' k2 i' k1] at k3; cases k3
    · exact ⟨rfl, rfl, rfl⟩
/-- What Find answers. -/
def FPost (es : List En) (w : World) (r : Ending) (w' : World) : Prop := ∃ (a b : Int) (c : Bool), r = .returned (.tuple #[.int .i64 a, .int .i64 b, .bool c]) ∧ Fnd es a b c ∧ Below w.heap.size w w'
/-- The map has the first place of each sum among the first k. -/
def FM (es : List En) (k : Nat) (m : List Int → Option Int) : Prop := ∀ X : List Int,
  (∀ i : Int, m X = some i → ∃ j : Nat, i = j ∧ j < k ∧ (∃ e, es[j]? = some e ∧ e.sm = X) ∧ ∀ j', j' < j → ∀ e', es[j']? = some e' → e'.sm ≠ X) ∧
  (m X = none → ∀ j, j < k → ∀ e, es[j]? = some e → e.sm ≠ X)
theorem fm_zero (es : List En) : FM es 0 (fun _ => none) := fun X => ⟨(fun i h => by cases h), (fun _ j hj => by omega)⟩
theorem fm_new {es : List En} {k : Nat} {m : List Int → Option Int} {e : En} (h : FM es k m) (he : es[k]? = some e) (hm : m e.sm = none) : FM es (k + 1) (fun X => if X = e.sm then some (k : Int) else m X) := by
  intro X
  by_cases hX : X = e.sm
  · subst hX
    refine ⟨fun i hi => ?_, fun hn => by simp at hn⟩
    simp at hi
    refine ⟨k, hi.symm, by omega, ⟨e, he, rfl⟩, fun j' hj' e' he' => (h _).2 hm j' hj' e' he'⟩
  · simp only [hX, if_false]
    refine ⟨fun i hi => ?_, fun hn j hj f hf => ?_⟩
    · obtain ⟨j, h1, h2, h3, h4⟩ := (h X).1 i hi
      exact ⟨j, h1, by omega, h3, h4⟩
    · by_cases hjk : j = k
      · subst hjk; rw [he] at hf; cases hf; exact fun e' => hX e'.symm
      · exact (h X).2 hn j (by omega) f hf
theorem fm_keep {es : List En} {k : Nat} {m : List Int → Option Int} {e : En} {i0 : Int} (h : FM es k m) (he : es[k]? = some e) (hm : m e.sm = some i0) : FM es (k + 1) m := by
  intro X
  refine ⟨fun i hi => ?_, fun hn j hj f hf => ?_⟩
  · obtain ⟨j, h1, h2, h3, h4⟩ := (h X).1 i hi
    exact ⟨j, h1, by omega, h3, h4⟩
  · by_cases hjk : j = k
    · subst hjk; rw [he] at hf; cases hf
      intro e'; subst e'; rw [hm] at hn; cases hn
    · exact (h X).2 hn j (by omega) f hf
theorem fm_nohit {es : List En} {k : Nat} {m : List Int → Option Int} {e : En} (h : FM es k m) (he : es[k]? = some e) (hm : m e.sm = none) : ∀ i, i < k → hit es i k = false := by
  intro i hi
  cases hc : hit es i k with
  | false => rfl
  | true =>
    obtain ⟨a, f, h1, h2, h3, -⟩ := hit_lt hc
    rw [he] at h2; cases h2
    exact absurd h3 ((h _).2 hm i hi a h1)
theorem fm_nohit2 {es : List En} {k j : Nat} {m : List Int → Option Int} {e ej : En} (h : FM es k m) (he : es[k]? = some e) (hm : m e.sm = some (j : Int)) (hj : es[j]? = some ej) (hno : ∀ j', j' < k → ∀ i', i' < j' → hit es i' j' = false) (hb : hitE ej e = false) : ∀ i, i < k → hit es i k = false := by
  intro i hi
  obtain ⟨j', h1, h2, ⟨e', h3, h3'⟩, h4⟩ := (h e.sm).1 _ hm
  obtain rfl : j = j' := by omega
  rw [hj] at h3; cases h3
  have hbs : ej.bs = e.bs := by simpa [hitE, h3'] using hb
  cases hc : hit es i k with
  | false => rfl
  | true =>
    obtain ⟨a, f, g1, g2, g3, g4⟩ := hit_lt hc
    rw [he] at g2; cases g2
    rcases Nat.lt_trichotomy i j with hlt | rfl | hlt
    · exact absurd g3 (h4 i hlt a g1)
    · rw [hj] at g1; cases g1; exact absurd hbs g4
    · have := hno i hi j hlt
      rw [hit_some hj g1] at this
      have hb2 : ej.bs = a.bs := by simpa [hitE, h3', g3] using this
      exact absurd (hb2.symm.trans hbs) g4
theorem fm_hit {es : List En} {k j : Nat} {m : List Int → Option Int} {e ej : En} (h : FM es k m) (he : es[k]? = some e) (hm : m e.sm = some (j : Int)) (hj : es[j]? = some ej) (hno : ∀ j', j' < k → ∀ i', i' < j' → hit es i' j' = false) (hb : hitE ej e = true) : Fnd es (j : Int) (k : Int) true := by
  obtain ⟨j', h1, h2, ⟨e', h3, h3'⟩, h4⟩ := (h e.sm).1 _ hm
  obtain rfl : j = j' := by omega
  refine .inl ⟨rfl, j, k, rfl, rfl, h2, (List.getElem?_eq_some_iff.1 he).1, by rw [hit_some hj he]; exact hb, hno, fun i' hi' => ?_⟩
  cases hc : hit es i' k with
  | false => rfl
  | true =>
    obtain ⟨a, f, g1, g2, g3, g4⟩ := hit_lt hc
    rw [he] at g2; cases g2
    exact absurd g3 (h4 i' hi' a g1)
theorem y54 {ops : Array Oper} {S : World → Prop} {op : Oper} {a : Act} (hw : Region.wanted op (yielded ops a.tmps) = true) (x : Operand) (ho : op.op = .load 54 x)
    (b o : Nat) (hx : a.eval x = .pointer (some ⟨b, o, none⟩)) (e : En) (he : e.sm.length = 32) (hS : ∀ w, S w → w.rangeAt b o e.cells) : YieldsIf Try.prog ops S op (.agg e.arr) a :=
  yieldsIf_load_mid hw 54 x ho b o hx e.cells _ hS Try.underlying54 rfl (by rw [En.len he]; exact size54)
theorem y24 {ops : Array Oper} {S : World → Prop} {op : Oper} {a : Act} (hw : Region.wanted op (yielded ops a.tmps) = true) (x : Operand) (ho : op.op = .load 29 x)
    (b o : Nat) (hx : a.eval x = .pointer (some ⟨b, o, none⟩)) (X : List Int) (hX : X.length = 32) (hS : ∀ w, S w → w.rangeAt b o (by8 X)) : YieldsIf Try.prog ops S op (.agg (h8 X)) a :=
  yieldsIf_load_mid hw 29 x ho b o hx (by8 X) _ hS Try.underlying29 rfl (by rw [by8_len, hX]; exact size24)
theorem bel_put {B r : Nat} {a w : World} (h : Below B a w) (o : Obj) (hr : B ≤ r) : Below B a (w.putObj r o) :=
  h.trans ⟨rfl, rfl, rfl, by simp [World.putObj], fun k hk => by simp [World.putObj, Array.getElem?_setIfInBounds, show r ≠ k by omega]⟩

set_option maxRecDepth 100000 in
set_option maxHeartbeats 1000000 in
theorem find_any (sp : Option Addr) (n cap : Nat) (es : List En) (N : Nat) (w : World) (hS : ES N w sp n cap es) :
    Calls Try.prog 7 #[.slice sp n cap] w (FPost es w) := by
  have hl := hS.len
  have hsm := hS.small
  have hS := hS.here
  have hmm := @run_makeMap Try.prog
  go_enter Try.func7, Try.ntmps7
  go_wp2_with fail
  go_loopw [13] (fun q wr => ∃ (k : Nat) (m : List Int → Option Int), q = .int .i64 (k : Int) ∧ k ≤ n ∧ Below w.heap.size w wr ∧ MapH wr w.heap.size m ∧ Hid (FM es k m) ∧ Hid (∀ j, j < k → ∀ i, i < j → hit es i j = false))
    (fun q _ => n - (intOf q).toNat)
  case atStart => exact ⟨0, _, rfl, by omega, (Below.refl _ _).alloc (Nat.le_refl _) _, MapH.new w, Hid.mk' (fm_zero es), Hid.mk' (fun j hj => by omega)⟩
  case round =>
    obtain ⟨k, m, rfl, hk, hbl, hM, hFM, hno⟩ := hrel
    have hrl := hM.lt
    by_cases hlt : k < n
    · have hI : (k : Int) < n := by omega
      have hSr := hS.below hbl
      obtain ⟨g, off, rfl, hgN, hR⟩ := hSr.at0 (by omega)
      obtain ⟨e, he⟩ : ∃ e, es[k]? = some e := ⟨es[k]'(by rw [← hl.out]; exact hlt), List.getElem?_eq_getElem _⟩
      have hok := hSr.ok e (List.mem_of_getElem? he)
      have he32 := hok.s32
      have hRe := hR k e he
      have AE := Arr.new wr 54 e.arr
      have rE := range_sm (rangeE AE)
      have hbE := alloc_bel' wr (.cells e.arr 54)
      have hbW := hbl.alloc hbl.size (.cells e.arr 54)
      have hM1 := hM.same (w' := wr.alloc (.cells e.arr 54)) (hbE.block _ hrl)
      have hlk := run_lookupH hM1 e.sm he32
      replace he := Hid.mk' he
      cases hq : m e.sm with
      | none =>
        rw [hq] at hlk
        simp only [Option.getD_none, Option.isSome_none] at hlk
        obtain ⟨o, hup, hM2⟩ := run_updateH hM1 e.sm he32 (k : Int) hq
        have hF2 := Hid.mk' (fm_new hFM.out he.out hq)
        have hn2 := Hid.mk' (fm_nohit hFM.out he.out hq)
        replace hq := Hid.mk' hq
        go_wp2_with (first
          | (refine ld54 (by rfl) _ (by rfl) g (off + k * 33) (by rfl) e he32 hRe ?_)
          | (refine st54n (by rfl) _ _ (by rfl) wr wr.heap.size rfl (by rfl) e (by rfl) (by rfl) he32 ?_)
          | (refine ld24 (by rfl) _ (by rfl) wr.heap.size (0 + 1) (by rfl) e.sm he32 rE ?_))
        go_roundw
        case rel =>
          refine ⟨k + 1, _, by go_num, by omega, bel_put hbW o (Nat.le_refl _), hM2, hF2, Hid.mk' (fun j hj i hi => ?_)⟩
          by_cases hjk : j = k
          · subst hjk; exact hn2.out i hi
          · exact hno.out j (by omega) i hi
        case measure => simp [intOf]; omega
      | some i0 =>
        rw [hq] at hlk
        simp only [Option.getD_some, Option.isSome_some] at hlk
        obtain ⟨i, hi0, hik, ⟨ei, hei0, -⟩, -⟩ := (hFM.out e.sm).1 i0 hq
        subst hi0
        have hoki := hSr.ok ei (List.mem_of_getElem? hei0)
        have hei := hoki.s32
        have hri := hR i ei hei0
        have hIi : (i : Int) < n := by omega
        have hF2 := Hid.mk' (fm_keep hFM.out he.out hq)
        have hn2 := Hid.mk' (fm_nohit2 hFM.out he.out hq hei0 hno.out)
        have hn3 := Hid.mk' (fm_hit hFM.out he.out hq hei0 hno.out)
        replace hei0 := Hid.mk' hei0
        replace hq := Hid.mk' hq
        go_upto_region 8 with (first
          | (refine ld54 (by rfl) _ (by rfl) g (off + k * 33) (by rfl) e he32 hRe ?_)
          | (refine st54n (by rfl) _ _ (by rfl) wr wr.heap.size rfl (by rfl) e (by rfl) (by rfl) he32 ?_)
          | (refine ld24 (by rfl) _ (by rfl) wr.heap.size (0 + 1) (by rfl) e.sm he32 rE ?_))
        refine wp_region_held_drew (S := fun u => Below (wr.alloc (.cells e.arr 54)).heap.size (wr.alloc (.cells e.arr 54)) u) (by kernel_rfl) ((Below.refl _ _).drew) (fun hHeld => ?_)
        refine wpAnyH_take (i := 0) (oi := ⟨_, _, _, _, _, _⟩) (v := ?_) rfl (by kernel_rfl) (by kernel_rfl) (by kernel_rfl) (fun _ _ _ h => h) (Or.inl ⟨by rfl, ?_⟩) (by assumption) ?_
        rotate_left
        · intro u hSw
          go_simp
          try (with_reducible rfl)
        try simp only [Act.put, List.setIfInBounds_toArray, List.set_cons_zero, List.set_cons_succ]
        refine wpAnyH_take (i := 1) (oi := ⟨_, _, _, _, _, _⟩) (v := ?_) rfl (by kernel_rfl) (by kernel_rfl) (by kernel_rfl) (fun _ _ _ h => h) (Or.inl ⟨by rfl, ?_⟩) (by assumption) ?_
        rotate_left
        · intro u hSw
          go_simp
          try (with_reducible rfl)
        try simp only [Act.put, List.setIfInBounds_toArray, List.set_cons_zero, List.set_cons_succ]
        refine wpAnyH_take (i := 2) (oi := ⟨_, _, _, _, _, _⟩) (v := ?_) rfl (by kernel_rfl) (by kernel_rfl) (by kernel_rfl) (fun _ _ _ h => h) (Or.inl ⟨by rfl, ?_⟩) (by assumption) ?_
        rotate_left
        · intro u hSw
          go_simp
          try (with_reducible rfl)
        try simp only [Act.put, List.setIfInBounds_toArray, List.set_cons_zero, List.set_cons_succ]
        refine wpAnyH_take (i := 3) (oi := ⟨_, _, _, _, _, _⟩) rfl (by kernel_rfl) (by kernel_rfl) (by kernel_rfl) (fun _ _ _ h => h) (y54 (by rfl) (.tmp 33) rfl (g) (off + i * 33) rfl ei hei (fun u hu => range_below (range_below hri (alloc_bel' wr _) (by omega)) hu (by simp; omega))) (by assumption) ?_
        try simp only [Act.put, List.setIfInBounds_toArray, List.set_cons_zero, List.set_cons_succ]
        refine wpAnyH_take (i := 4) (oi := ⟨_, _, _, _, _, _⟩) rfl (by kernel_rfl) (by kernel_rfl) (by kernel_rfl) (fun _ _ _ h => h) (y54 (by rfl) (.tmp 7) rfl (wr.heap.size) (0) rfl e he32 (fun u hu => rangeE (AE.below hu (by simp)))) (by assumption) ?_
        try simp only [Act.put, List.setIfInBounds_toArray, List.set_cons_zero, List.set_cons_succ]
        refine wpAnyH_ready (rs := [5]) (by kernel_rfl) (by simp) ?_
        refine AllReadyH.cons (o := ⟨_, _, _, _, _, _⟩) rfl (fun K hK => ?_) AllReadyH.nil
        go_simp
        refine (collides_any ei e w.heap.size _ (hoki.below (hbE.drew.mono hbl.size)) (hok.below (hbE.drew.mono hbl.size)) (by simp; omega)).mono ?_; rintro q u1 ⟨rfl, hu1⟩; have hsu1 := hu1.size; simp at hsu1; have hH1 : Below (wr.alloc (.cells e.arr 54)).heap.size (wr.alloc (.cells e.arr 54)) u1 := ((Below.refl _ _).drew).trans (hu1.mono (by simp))
        go_wp2_with fail
        refine hK.out _ _ hH1 (fun hHeld => ?_)
        clear hK K
        try simp only [Act.put, List.setIfInBounds_toArray, List.set_cons_zero, List.set_cons_succ]
        refine wpAnyH_done (by kernel_rfl) ?_ _
        have hbF := hbW.trans (hH1.mono (by simp; omega))
        have hM3 := hM1.same (hH1.block _ (by simp; omega))
        cases hb : hitE ei e with
        | true =>
          have hF := hn3.out hb
          clear hb
          go_wp2_with fail
          go_ret3
          exact ⟨_, _, _, rfl, hF, hbF⟩
        | false =>
          have hF := Hid.mk' (hn2.out hb)
          clear hb
          go_wp2_with fail
          go_roundw
          case rel =>
            refine ⟨k + 1, _, by go_num, by omega, hbF, hM3, hF2, Hid.mk' (fun j hj i hi => ?_)⟩
            by_cases hjk : j = k
            · subst hjk; exact hF.out i hi
            · exact hno.out j (by omega) i hi
          case measure => simp [intOf]; omega
    · obtain rfl : k = n := by omega
      have hI : ¬ (k : Int) < k := by omega
      go_wp2_with fail
      go_ret3
      exact ⟨0, 0, false, rfl, Or.inr ⟨rfl, rfl, rfl, by rw [← hl.out]; exact hno.out⟩, hbl⟩
end Go.Proofs.Ytgjnbpimldjkpaa

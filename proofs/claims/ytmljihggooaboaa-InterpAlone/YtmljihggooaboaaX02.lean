/- Ib, Ic, Id. -/
import Derived.Test.YtmljihggooaboaaX01
import Derived.Handy
import Derived.BigQuiet
import Derived.BigRegion
/- Layer interp: programs in memory. -/
namespace Go.Proofs.Ytmljihggooaboaa
open Go.RowKit
set_option maxRecDepth 100000
set_option linter.unusedVariables false
set_option linter.unusedSimpArgs false

/-- Things of sz cells one behind the other, in blocks below N. -/
structure RS {α : Type} (N : Nat) (w : World) (sz : Nat) (R : List Value → α → Prop) (sp : Option Addr) (n cap : Nat) (l : List α) : Prop where
  len : Hid (n = l.length)
  nil : sp = none → n = 0 ∧ cap = 0
  le : n ≤ cap
  big : cap ≤ 9223372036854775807
  small : n ≤ 140737488355328
  at0 : 0 < n → ∃ g off, sp = some ⟨g, off, none⟩ ∧ g < N ∧ ∀ i a, l[i]? = some a → ∃ cs, w.rangeAt g (off + i * sz) cs ∧ R cs a
theorem RS.imp {α : Type} {N : Nat} {w w' : World} {sz : Nat} {R R' : List Value → α → Prop} {sp : Option Addr} {n cap : Nat} {l : List α} (h : RS N w sz R sp n cap l) (hb : Below N w w') (hR : ∀ cs a, R cs a → R' cs a) : RS N w' sz R' sp n cap l :=
  ⟨h.len, h.nil, h.le, h.big, h.small, fun h0 => let ⟨b, off, e, hbN, hB⟩ := h.at0 h0; ⟨b, off, e, hbN, fun i a hX => let ⟨cs, h1, h2⟩ := hB i a hX; ⟨cs, rb h1 hb hbN, hR cs a h2⟩⟩⟩
theorem RS.nil0 {α : Type} (N : Nat) (w : World) (sz : Nat) (R : List Value → α → Prop) : RS N w sz R none 0 0 [] := ⟨rfl, fun _ => ⟨rfl, rfl⟩, Nat.le_refl _, by omega, by omega, fun h => absurd h (by omega)⟩
def I64 (x : Int) : Prop := -9223372036854775808 ≤ x ∧ x ≤ 9223372036854775807
def U8 (x : Int) : Prop := 0 ≤ x ∧ x < 256
def exC (k n v o : Int) (s : Value) : List Value := [.int .u8 k, .int .u64 n, .int .i64 v, .int .u8 o, s]
def stC (k v f t : Int) (a b c : Value) : List Value := [.int .u8 k, .int .i64 v, .int .i64 f, .int .i64 t, a, b, c]
def fuC (p v : Int) (b : Value) : List Value := [.int .i64 p, .int .i64 v, b]
def ExT.nd {d : Nat} (t : ExT (d + 1)) : ExN (ExT d) := t
def StT.nd {d : Nat} (t : StT (d + 1)) : StN (StT d) := t
structure ExN.ok {α : Type} (t : ExN α) : Prop where
  k : U8 t.k
  n : U64 t.n
  v : I64 t.v
  o : U8 t.o
structure StN.ok {α : Type} (t : StN α) : Prop where
  k : U8 t.k
  v : I64 t.v
  f : I64 t.f
  t : I64 t.t
/-- An expression in memory, down to a depth. -/
def ExM (N : Nat) (w : World) : (d : Nat) → List Value → ExT d → Prop
  | 0, cs, _ => ∃ k n v o sp m cap, cs = exC k n v o (.slice sp m cap)
  | d + 1, cs, t => ∃ sp m cap, cs = exC t.nd.k t.nd.n t.nd.v t.nd.o (.slice sp m cap) ∧ t.nd.ok ∧ RS N w 5 (ExM N w d) sp m cap t.nd.l
theorem ExM.below {N : Nat} {w w' : World} (hb : Below N w w') : ∀ (d : Nat) (cs : List Value) (t : ExT d), ExM N w d cs t → ExM N w' d cs t
  | 0, _, _, h => h
  | d + 1, _, _, h => let ⟨sp, m, cap, h1, h2, h3⟩ := h; ⟨sp, m, cap, h1, h2, h3.imp hb (ExM.below hb d)⟩
def StM (N : Nat) (w : World) : (d : Nat) → List Value → StT d → Prop
  | 0, cs, _ => ∃ k v f t sa na ca sb nb cb sc nc cc, cs = stC k v f t (.slice sa na ca) (.slice sb nb cb) (.slice sc nc cc)
  | d + 1, cs, t => ∃ sa na ca sb nb cb sc nc cc, cs = stC t.nd.k t.nd.v t.nd.f t.nd.t (.slice sa na ca) (.slice sb nb cb) (.slice sc nc cc) ∧ t.nd.ok ∧ RS N w 5 (ExM N w 8) sa na ca t.nd.a ∧ RS N w 7 (StM N w d) sb nb cb t.nd.th ∧ RS N w 7 (StM N w d) sc nc cc t.nd.el
theorem StM.below {N : Nat} {w w' : World} (hb : Below N w w') : ∀ (d : Nat) (cs : List Value) (t : StT d), StM N w d cs t → StM N w' d cs t
  | 0, _, _, h => h
  | d + 1, _, _, h => let ⟨sa, na, ca, sb, nb, cb, sc, nc, cc, h1, h2, h3, h4, h5⟩ := h; ⟨sa, na, ca, sb, nb, cb, sc, nc, cc, h1, h2, h3.imp hb (ExM.below hb 8), h4.imp hb (StM.below hb d), h5.imp hb (StM.below hb d)⟩
def FuM (N : Nat) (w : World) (cs : List Value) (f : FuT) : Prop := ∃ sp m cap, cs = fuC f.p f.v (.slice sp m cap) ∧ (I64 f.p ∧ I64 f.v) ∧ RS N w 7 (StM N w 8) sp m cap f.b
theorem FuM.below {N : Nat} {w w' : World} (hb : Below N w w') (cs : List Value) (f : FuT) (h : FuM N w cs f) : FuM N w' cs f :=
  let ⟨sp, m, cap, h1, h2, h3⟩ := h; ⟨sp, m, cap, h1, h2, h3.imp hb (StM.below hb 8)⟩
def PgM (N : Nat) (w : World) (cs : List Value) (p : PgT) : Prop := ∃ sp m cap, cs = [.slice sp m cap, .int .i64 p.da] ∧ I64 p.da ∧ RS N w 3 (FuM N w) sp m cap p.fs
theorem PgM.below {N : Nat} {w w' : World} (hb : Below N w w') (cs : List Value) (p : PgT) (h : PgM N w cs p) : PgM N w' cs p :=
  let ⟨sp, m, cap, h1, h2, h3⟩ := h; ⟨sp, m, cap, h1, h2, h3.imp hb (FuM.below hb)⟩
/-- How many nodes are left, and may it be? -/
def CtP (r : Option Nat) (w : World) (e : Ending) (w' : World) : Prop := e = .returned (.tuple #[.int .i64 (r.getD 0 : Nat), .bool r.isSome]) ∧ Below w.heap.size w w'
end Go.Proofs.Ytmljihggooaboaa
/- Layer interp: may an expression be, but for its parts? -/
namespace Go.Proofs.Ytmljihggooaboaa
open Go.RowKit
set_option maxRecDepth 100000
set_option linter.unusedVariables false
set_option linter.unusedSimpArgs false

def BoP (b : Bool) (w : World) (e : Ending) (w' : World) : Prop := e = .returned (.bool b) ∧ Below w.heap.size w w'
theorem has_any (sp : Option Addr) (n cap : Nat) (v vs : Int) (w : World) :
    Calls Try.prog 71 #[.agg #[.slice sp n cap, .int .i64 vs], .int .i64 v] w (BoP (decide (0 ≤ v ∧ v < vs)) w) := by
  have b0 := ab w (.cells #[.slice sp n cap, .int .i64 vs] 102)
  by_cases h1 : 0 ≤ v
  · by_cases h2 : v < vs
    · rw [decide_eq_true ⟨h1, h2⟩]
      go_enter Try.func71, Try.ntmps71
      go_wp2_with fail
      go_ret
      exact ⟨rfl, b0⟩
    · rw [decide_eq_false (fun h => h2 h.2)]
      go_enter Try.func71, Try.ntmps71
      go_wp2_with fail
      go_ret
      exact ⟨rfl, b0⟩
  · rw [decide_eq_false (fun h => h1 h.1)]
    go_enter Try.func71, Try.ntmps71
    go_wp2_with fail
    go_ret
    exact ⟨rfl, b0⟩
set_option maxHeartbeats 1000000 in
theorem mayE_1 {α : Type} (sp : Option Addr) (n cap : Nat) (vs nn v o : Int) (l : List α) (sl : Option Addr) (m cl : Nat) (w : World) (hm : m = l.length) :
    Calls Try.prog 82 #[.agg #[.slice sp n cap, .int .i64 vs], .agg (exC 1 nn v o (.slice sl m cl)).toArray] w (BoP (mayE vs ⟨1, nn, v, o, l⟩) w) := by
  have b0 : Below w.heap.size w ((w.alloc (.cells #[.slice sp n cap, .int .i64 vs] 102)).alloc (.cells (exC 1 nn v o (.slice sl m cl)).toArray 76)) := (ab w _).alloc (by simp) _
  have hh := fun u => has_any sp n cap v vs u
  unfold BoP at hh
  have A := Arr.new (w.alloc (.cells #[.slice sp n cap, .int .i64 vs] 102)) 76 (exC 1 nn v o (.slice sl m cl)).toArray
  simp only [World.size_alloc] at A
  obtain ⟨r, hr⟩ : ∃ r, r = mayE vs ⟨1, nn, v, o, l⟩ := ⟨_, rfl⟩
  rw [← hr]
  simp [mayE] at hr
  replace hr := hid hr
  replace hm := hid hm
  unfold exC at *
  skip
  skip
  skip
  all_goals go_enter Try.func82, Try.ntmps82
  all_goals go_wp2_with (fail)
  all_goals
    go_ret
    refine ⟨congrArg (fun b => Ending.returned (.bool b)) (?_ : _ = r), ?_⟩
    · have h1 := hr.out
      have h2 := hm.out
      skip
      clear b0 hh
      simp_all
      try (first | rfl | omega | (intros; omega))
    · exact (ab w _).alloc (by simp) _
set_option maxHeartbeats 1000000 in
theorem mayE_2 {α : Type} (sp : Option Addr) (n cap : Nat) (vs nn v o : Int) (l : List α) (sl : Option Addr) (m cl : Nat) (w : World) (hm : m = l.length) :
    Calls Try.prog 82 #[.agg #[.slice sp n cap, .int .i64 vs], .agg (exC 2 nn v o (.slice sl m cl)).toArray] w (BoP (mayE vs ⟨2, nn, v, o, l⟩) w) := by
  have b0 : Below w.heap.size w ((w.alloc (.cells #[.slice sp n cap, .int .i64 vs] 102)).alloc (.cells (exC 2 nn v o (.slice sl m cl)).toArray 76)) := (ab w _).alloc (by simp) _
  have hh := fun u => has_any sp n cap v vs u
  unfold BoP at hh
  have A := Arr.new (w.alloc (.cells #[.slice sp n cap, .int .i64 vs] 102)) 76 (exC 2 nn v o (.slice sl m cl)).toArray
  simp only [World.size_alloc] at A
  obtain ⟨r, hr⟩ : ∃ r, r = mayE vs ⟨2, nn, v, o, l⟩ := ⟨_, rfl⟩
  rw [← hr]
  simp [mayE] at hr
  replace hr := hid hr
  replace hm := hid hm
  unfold exC at *
  by_cases hv : 0 ≤ v ∧ v < vs
  rw [decide_eq_true hv] at hh; rotate_left; rw [decide_eq_false hv] at hh
  all_goals replace hv := hid hv
  all_goals go_enter Try.func82, Try.ntmps82
  all_goals go_wp2_with (go_at_call 71; go_must (refine (hh _).mono ?_; rintro e w1 ⟨rfl, hb1⟩; have B1 := ((ab w _).alloc (by simp) _).trans (hb1.mono (by simp; omega)); have c1 : w1.cell? ⟨w.heap.size + 1, 1, none⟩ = some (.int .u64 nn) := (A.bl hb1).cell 1; have c3 : w1.cell? ⟨w.heap.size + 1, 3, none⟩ = some (.int .u8 o) := (A.bl hb1).cell 3))
  all_goals
    go_ret
    refine ⟨congrArg (fun b => Ending.returned (.bool b)) (?_ : _ = r), ?_⟩
    · have h1 := hr.out
      have h2 := hm.out
      have h3 := hv.out
      clear b0 hh
      simp_all
      try (first | rfl | omega | (intros; omega))
    · exact B1
set_option maxHeartbeats 1000000 in
theorem mayE_3 {α : Type} (sp : Option Addr) (n cap : Nat) (vs nn v o : Int) (l : List α) (sl : Option Addr) (m cl : Nat) (w : World) (hm : m = l.length) :
    Calls Try.prog 82 #[.agg #[.slice sp n cap, .int .i64 vs], .agg (exC 3 nn v o (.slice sl m cl)).toArray] w (BoP (mayE vs ⟨3, nn, v, o, l⟩) w) := by
  have b0 : Below w.heap.size w ((w.alloc (.cells #[.slice sp n cap, .int .i64 vs] 102)).alloc (.cells (exC 3 nn v o (.slice sl m cl)).toArray 76)) := (ab w _).alloc (by simp) _
  have hh := fun u => has_any sp n cap v vs u
  unfold BoP at hh
  have A := Arr.new (w.alloc (.cells #[.slice sp n cap, .int .i64 vs] 102)) 76 (exC 3 nn v o (.slice sl m cl)).toArray
  simp only [World.size_alloc] at A
  obtain ⟨r, hr⟩ : ∃ r, r = mayE vs ⟨3, nn, v, o, l⟩ := ⟨_, rfl⟩
  rw [← hr]
  simp [mayE] at hr
  replace hr := hid hr
  replace hm := hid hm
  unfold exC at *
  skip
  skip
  skip
  all_goals go_enter Try.func82, Try.ntmps82
  all_goals go_wp2_with (fail)
  all_goals
    go_ret
    refine ⟨congrArg (fun b => Ending.returned (.bool b)) (?_ : _ = r), ?_⟩
    · have h1 := hr.out
      have h2 := hm.out
      skip
      clear b0 hh
      simp_all
      try (first | rfl | omega | (intros; omega))
    · exact (ab w _).alloc (by simp) _
set_option maxHeartbeats 1000000 in
theorem mayE_4 {α : Type} (sp : Option Addr) (n cap : Nat) (vs nn v o : Int) (l : List α) (sl : Option Addr) (m cl : Nat) (w : World) (hm : m = l.length) :
    Calls Try.prog 82 #[.agg #[.slice sp n cap, .int .i64 vs], .agg (exC 4 nn v o (.slice sl m cl)).toArray] w (BoP (mayE vs ⟨4, nn, v, o, l⟩) w) := by
  have b0 : Below w.heap.size w ((w.alloc (.cells #[.slice sp n cap, .int .i64 vs] 102)).alloc (.cells (exC 4 nn v o (.slice sl m cl)).toArray 76)) := (ab w _).alloc (by simp) _
  have hh := fun u => has_any sp n cap v vs u
  unfold BoP at hh
  have A := Arr.new (w.alloc (.cells #[.slice sp n cap, .int .i64 vs] 102)) 76 (exC 4 nn v o (.slice sl m cl)).toArray
  simp only [World.size_alloc] at A
  obtain ⟨r, hr⟩ : ∃ r, r = mayE vs ⟨4, nn, v, o, l⟩ := ⟨_, rfl⟩
  rw [← hr]
  simp [mayE] at hr
  replace hr := hid hr
  replace hm := hid hm
  unfold exC at *
  skip
  skip
  skip
  all_goals go_enter Try.func82, Try.ntmps82
  all_goals go_wp2_with (fail)
  all_goals
    go_ret
    refine ⟨congrArg (fun b => Ending.returned (.bool b)) (?_ : _ = r), ?_⟩
    · have h1 := hr.out
      have h2 := hm.out
      skip
      clear b0 hh
      simp_all
      try (first | rfl | omega | (intros; omega))
    · exact (ab w _).alloc (by simp) _
theorem mayE_o {α : Type} (sp : Option Addr) (n cap : Nat) (vs k nn v o : Int) (l : List α) (sl : Option Addr) (m cl : Nat) (w : World) (h1 : (k == 1) = false) (h2 : (k == 2) = false) (h3 : (k == 3) = false) (h4 : (k == 4) = false) :
    Calls Try.prog 82 #[.agg #[.slice sp n cap, .int .i64 vs], .agg (exC k nn v o (.slice sl m cl)).toArray] w (BoP false w) := by
  have b0 : Below w.heap.size w ((w.alloc (.cells #[.slice sp n cap, .int .i64 vs] 102)).alloc (.cells (exC k nn v o (.slice sl m cl)).toArray 76)) := (ab w _).alloc (by simp) _
  unfold exC at *
  go_enter Try.func82, Try.ntmps82
  go_wp2_with fail
  go_ret
  exact ⟨rfl, b0⟩
theorem mayE_any {α : Type} (sp : Option Addr) (n cap : Nat) (vs : Int) (t : ExN α) (sl : Option Addr) (m cl : Nat) (w : World) (hm : m = t.l.length) :
    Calls Try.prog 82 #[.agg #[.slice sp n cap, .int .i64 vs], .agg (exC t.k t.n t.v t.o (.slice sl m cl)).toArray] w (BoP (mayE vs t) w) := by
  obtain ⟨k, nn, v, o, l⟩ := t
  by_cases h1 : k = 1
  · subst h1; exact mayE_1 sp n cap vs nn v o l sl m cl w hm
  by_cases h2 : k = 2
  · subst h2; exact mayE_2 sp n cap vs nn v o l sl m cl w hm
  by_cases h3 : k = 3
  · subst h3; exact mayE_3 sp n cap vs nn v o l sl m cl w hm
  by_cases h4 : k = 4
  · subst h4; exact mayE_4 sp n cap vs nn v o l sl m cl w hm
  have e : mayE vs ⟨k, nn, v, o, l⟩ = false := by simp [mayE, h1, h2, h3, h4]
  rw [e]
  exact mayE_o sp n cap vs k nn v o l sl m cl w (by simpa using h1) (by simpa using h2) (by simpa using h3) (by simpa using h4)
end Go.Proofs.Ytmljihggooaboaa
/- Layer interp: which expressions may be. -/
namespace Go.Proofs.Ytmljihggooaboaa
open Go.RowKit
set_option maxRecDepth 100000
set_option linter.unusedVariables false
set_option linter.unusedSimpArgs false

theorem ExM.cells {N : Nat} {w : World} : ∀ {d : Nat} {cs : List Value} {t : ExT d}, ExM N w d cs t → ∃ k n v o sp m cap, cs = exC k n v o (.slice sp m cap)
  | 0, _, _, h => h
  | _ + 1, _, _, h => let ⟨sp, m, cap, h1, _, _⟩ := h; ⟨_, _, _, _, sp, m, cap, h1⟩
theorem fld_drop {α : Type} {f : α → Nat → Option Nat} {l : List α} {j : Nat} {a : α} (h : l[j]? = some a) (k : Nat) : fld f (l.drop j) k = (f a k).bind (fld f (l.drop (j + 1))) := by
  obtain ⟨hj, rfl⟩ := List.getElem?_eq_some_iff.1 h
  rw [List.drop_eq_getElem_cons hj]
  rfl
set_option maxHeartbeats 1000000 in
theorem cnt73 {N d : Nat} {vs : Int} {sp : Option Addr} {n cap : Nat} {l : List (ExT d)} (w : World) (hS : RS N w 5 (ExM N w d) sp n cap l) (hN : N ≤ w.heap.size) (gs gl left : Nat) (hl : left ≤ 4096)
    (hc : ∀ (u : World) (cs : List Value) (t : ExT d) (k : Nat), k ≤ 4096 → Below w.heap.size w u → ExM N u d cs t → Calls Try.prog 74 #[.agg cs.toArray, .int .i64 (k : Int), .pointer (some ⟨gs, 0, none⟩), .pointer (some ⟨gl, 0, none⟩)] u (CtP (exN vs d t k) u)) :
    Calls Try.prog 73 #[.slice sp n cap, .int .i64 (left : Int), .func (Fn.func 74) #[] #[.pointer (some ⟨gs, 0, none⟩), .pointer (some ⟨gl, 0, none⟩)]] w (CtP (fld (exN vs d) l left) w) := by
  have hlen := hS.len
  have hsm := hS.small
  obtain ⟨r, hr⟩ : ∃ r, r = fld (exN vs d) l left := ⟨_, rfl⟩
  rw [← hr]
  replace hr := hid hr
  go_enter Try.func73, Try.ntmps73
  go_upto_region 2 with fail
  go_loopw [1, 14] (fun a i wr => ∃ (j k : Nat), a = .int .i64 (k : Int) ∧ i = .int .i64 (j : Int) ∧ j ≤ n ∧ k ≤ 4096 ∧ Hid (r = fld (exN vs d) (l.drop j) k) ∧ Below w.heap.size w wr)
    (fun _ i _ => n - (intOf i).toNat)
  case atStart => exact ⟨0, left, rfl, rfl, by omega, hl, hid (by rw [List.drop_zero]; exact hr.out), Below.refl _ _⟩
  case round =>
    obtain ⟨j, k, rfl, rfl, hj, hk, hf, hb⟩ := hrel
    by_cases hlt : j < n
    · obtain ⟨t, ht⟩ : ∃ t, l[j]? = some t := ⟨l[j]'(by rw [← hlen.out]; exact hlt), List.getElem?_eq_getElem _⟩
      obtain ⟨g, off, rfl, hg, hR⟩ := hS.at0 (by omega)
      obtain ⟨cs, hrg, hM⟩ := hR j t ht
      have hrg2 := rb hrg hb (by omega)
      have hM2 := ExM.below (hb.mono hN) d cs t hM
      obtain ⟨ek, en, ev, eo, es, em, ec, rfl⟩ := hM.cells
      have c0 := hrg2 0 _ rfl
      have c1 := hrg2 1 _ rfl
      have c2 := hrg2 2 _ rfl
      have c3 := hrg2 3 _ rfl
      have c4 := hrg2 4 _ rfl
      simp only [Nat.add_zero] at c0
      have hfd := fld_drop (f := exN vs d) ht k
      have hgl := block_lt_of_cell c0
      have hlt' : (j : Int) < n := by omega
      have h0 : (0 : Int) ≤ j := by omega
      have hB1 := hb.alloc hb.size (.cells (exC ek en ev eo (.slice es em ec)).toArray 76)
      have hcc := hc (wr.alloc (.cells (exC ek en ev eo (.slice es em ec)).toArray 76)) _ t k hk hB1 (ExM.below (((ab wr _).mono (by have := hb.size; omega))) d _ t hM2)
      clear hS hR hrg hrg2 hM hM2 hc hlen ht
      unfold CtP at hcc
      cases hx : exN vs d t k with
      | none =>
        rw [hx] at hcc hfd
        have hrn : Hid (r = none) := hid (hf.out.trans hfd)
        clear hx hfd hf
        unfold exC at *
        go_wp2_with (go_at_call 74; go_must (refine hcc.mono ?_; rintro e w1 ⟨rfl, hb1⟩))
        go_ret2
        rw [hrn.out]
        exact ⟨rfl, hB1.trans (hb1.mono hB1.size)⟩
      | some k' =>
        have hk' := exN_le d t k k' hx
        rw [hx] at hcc hfd
        have hrn : Hid (r = fld (exN vs d) (l.drop (j + 1)) k') := hid (hf.out.trans hfd)
        clear hx hfd hf
        unfold exC at *
        go_wp2_with (go_at_call 74; go_must (refine hcc.mono ?_; rintro e w1 ⟨rfl, hb1⟩))
        go_roundw
        case rel => exact ⟨j + 1, k', rfl, by go_num, by omega, by omega, hrn, hB1.trans (hb1.mono hB1.size)⟩
        case measure => simp [intOf]; omega
    · obtain rfl : j = n := by omega
      have hrn : Hid (r = some k) := hid (by rw [hf.out, hlen.out, List.drop_length]; rfl)
      clear hS hc hf hlen
      go_wp2_with fail
      go_ret2
      rw [hrn.out]
      exact ⟨rfl, hb⟩
/-- What is to be said of one expression. -/
def ExAt (N : Nat) (es : Option Addr) (en ec : Nat) (vs : Int) (d : Nat) : Prop := ∀ (u : World) (cs : List Value) (t : ExT d) (k : Nat), k ≤ 4096 → N ≤ u.heap.size → ExM N u d cs t →
  Calls Try.prog 75 #[.agg #[.slice es en ec, .int .i64 vs], .agg cs.toArray, .int .i64 (d : Int), .int .i64 (k : Int)] u (CtP (exN vs d t k) u)
theorem cl74 {N d : Nat} {es : Option Addr} {en ec : Nat} {vs : Int} (hE : ExAt N es en ec vs d) (u : World) (gs gl : Nat) (As : Arr u gs 102 #[.slice es en ec, .int .i64 vs]) (Al : Arr u gl 3 #[.int .i64 (d : Int)]) (hN : N ≤ u.heap.size) (cs : List Value) (t : ExT d) (k : Nat) (hk : k ≤ 4096) (hM : ExM N u d cs t) :
    Calls Try.prog 74 #[.agg cs.toArray, .int .i64 (k : Int), .pointer (some ⟨gs, 0, none⟩), .pointer (some ⟨gl, 0, none⟩)] u (CtP (exN vs d t k) u) := by
  obtain ⟨ek, en', ev, eo, es', em, ec', rfl⟩ := hM.cells
  have hc := hE (u.alloc (.cells (exC ek en' ev eo (.slice es' em ec')).toArray 76)) _ t k hk (by simp; omega) (ExM.below ((ab u _).mono hN) d _ t hM)
  have s0 := (As.alloc (.cells (exC ek en' ev eo (.slice es' em ec')).toArray 76)).cell 0
  have s1 := (As.alloc (.cells (exC ek en' ev eo (.slice es' em ec')).toArray 76)).cell 1
  have l0 := (Al.alloc (.cells (exC ek en' ev eo (.slice es' em ec')).toArray 76)).cell 0
  have b0 := ab u (.cells (exC ek en' ev eo (.slice es' em ec')).toArray 76)
  unfold CtP at hc
  generalize exN vs d t k = r at *
  clear hE hM As Al
  unfold exC at *
  go_enter Try.func74, Try.ntmps74
  go_wp2_with (go_at_call 75; go_must (refine hc.mono ?_; rintro e w1 ⟨rfl, hb1⟩))
  go_ret2
  exact ⟨rfl, b0.trans (hb1.mono b0.size)⟩
theorem exprs58 {N d : Nat} {es : Option Addr} {en ec : Nat} {vs : Int} (hE : ExAt N es en ec vs d) (w : World) {sp : Option Addr} {n cap : Nat} {l : List (ExT d)} (hS : RS N w 5 (ExM N w d) sp n cap l) (hN : N ≤ w.heap.size) (x y : Int) (left : Nat) (hx : x = d) (hy : y = left) (hl : left ≤ 4096) :
    Calls Try.prog 58 #[.agg #[.slice es en ec, .int .i64 vs], .slice sp n cap, .int .i64 x, .int .i64 y] w (CtP (fld (exN vs d) l left) w) := by
  subst hx hy
  have b0 : Below w.heap.size w ((w.alloc (.cells #[.slice es en ec, .int .i64 vs] 102)).alloc (.cells #[.int .i64 (d : Int)] 3)) := (ab w _).alloc (by simp) _
  have A := (Arr.new w 102 #[.slice es en ec, .int .i64 vs]).alloc (.cells #[.int .i64 (d : Int)] 3)
  have A2 := Arr.new (w.alloc (.cells #[.slice es en ec, .int .i64 vs] 102)) 3 #[.int .i64 (d : Int)]
  simp only [World.size_alloc] at A2
  have hmf : ∀ (fn : Fn) (first cap : Array Value) (w : World), (Instr.makeFunc fn first cap).run Try.prog w = .ok (.func fn first cap) w := fun _ _ _ _ => rfl
  have hc := cnt73 (vs := vs) ((w.alloc (.cells #[.slice es en ec, .int .i64 vs] 102)).alloc (.cells #[.int .i64 (d : Int)] 3)) (hS.imp (b0.mono hN) (ExM.below (b0.mono hN) d)) (by simp; omega) w.heap.size (w.heap.size + 1) left hl
    (fun u cs t k hk hb hM => cl74 hE u _ _ (A.bl hb) (A2.bl hb) (by have := hb.size; simp at this; omega) cs t k hk hM)
  unfold CtP at hc
  generalize fld (exN vs d) l left = r at *
  clear hE hS A A2
  go_enter Try.func58, Try.ntmps58
  go_wp2_with (go_at_call 73; go_must (refine hc.mono ?_; rintro e w1 ⟨rfl, hb1⟩))
  go_ret2
  exact ⟨rfl, b0.trans (hb1.mono b0.size)⟩
set_option maxHeartbeats 1000000 in
theorem expr_s {N d : Nat} {es : Option Addr} {en ec : Nat} {vs : Int} (hd100 : d ≤ 100) (hE : ExAt N es en ec vs d) : ExAt N es en ec vs (d + 1) := by
  intro u cs t k hk hN hM
  obtain ⟨sp, m, cap, rfl, hok, hS⟩ := hM
  have b0 : Below u.heap.size u ((u.alloc (.cells #[.slice es en ec, .int .i64 vs] 102)).alloc (.cells (exC t.nd.k t.nd.n t.nd.v t.nd.o (.slice sp m cap)).toArray 76)) := (ab u _).alloc (by simp) _
  have hmy := mayE_any es en ec vs t.nd sp m cap ((u.alloc (.cells #[.slice es en ec, .int .i64 vs] 102)).alloc (.cells (exC t.nd.k t.nd.n t.nd.v t.nd.o (.slice sp m cap)).toArray 76)) hS.len.out
  have A := (Arr.new u 102 #[.slice es en ec, .int .i64 vs]).alloc (.cells (exC t.nd.k t.nd.n t.nd.v t.nd.o (.slice sp m cap)).toArray 76)
  have A2 := Arr.new (u.alloc (.cells #[.slice es en ec, .int .i64 vs] 102)) 76 (exC t.nd.k t.nd.n t.nd.v t.nd.o (.slice sp m cap)).toArray
  simp only [World.size_alloc] at A2
  unfold BoP at hmy
  by_cases h0 : k = 0
  · subst h0
    have e : exN vs (d + 1) t 0 = none := by unfold exN; rw [if_pos (.inl rfl)]
    rw [e]
    have hd0 : ¬ ((d : Int) + 1 = 0) := by omega
    clear hE hS hmy A A2
    unfold exC at *
    go_enter Try.func75, Try.ntmps75
    go_wp2_with fail
    go_ret2
    exact ⟨rfl, b0⟩
  · have hk0 : ((k : Int) == 0) = false := by simpa using h0
    have hd0 : (((d + 1 : Nat) : Int) == 0) = false := by simp; omega
    have hsub : IntKind.i64.wrap (((d + 1 : Nat) : Int) - 1) = (d : Int) := by rw [IntKind.wrap_i64]; omega
    cases hb : mayE vs t.nd with
    | false =>
      have e : exN vs (d + 1) t k = none := by unfold exN; rw [if_pos (.inr hb)]
      rw [e]
      rw [hb] at hmy
      clear hE hS A A2 hsub h0
      generalize ((d + 1 : Nat) : Int) = dd at *
      unfold exC at *
      go_enter Try.func75, Try.ntmps75
      go_wp2_with (go_at_call 82; go_must (refine hmy.mono ?_; rintro e w1 ⟨rfl, hb1⟩))
      go_ret2
      exact ⟨rfl, b0.trans (hb1.mono b0.size)⟩
    | true =>
      have e : exN vs (d + 1) t k = fld (exN vs d) t.nd.l (k - 1) := by
        unfold exN
        rw [if_neg (by rintro (h | h); exact h0 h; exact (by rw [show mayE vs (α := ExT d) t = mayE vs t.nd from rfl, hb] at h; cases h))]
        rfl
      rw [e]
      rw [hb] at hmy
      have hx : ∀ (w1 : World), Below ((u.alloc (.cells #[.slice es en ec, .int .i64 vs] 102)).alloc (.cells (exC t.nd.k t.nd.n t.nd.v t.nd.o (.slice sp m cap)).toArray 76)).heap.size ((u.alloc (.cells #[.slice es en ec, .int .i64 vs] 102)).alloc (.cells (exC t.nd.k t.nd.n t.nd.v t.nd.o (.slice sp m cap)).toArray 76)) w1 → ∀ x y : Int, x = d → y = (k - 1 : Nat) → Calls Try.prog 58 #[.agg #[.slice es en ec, .int .i64 vs], .slice sp m cap, .int .i64 x, .int .i64 y] w1 (CtP (fld (exN vs d) t.nd.l (k - 1)) w1) := fun w1 hb1 x y hx hy => by
        have hbb := (b0.trans (hb1.mono b0.size)).mono hN
        exact exprs58 hE w1 (hS.imp hbb (ExM.below hbb d)) (by have := hbb.size; omega) x y (k - 1) hx hy (by omega)
      have hkk : IntKind.i64.wrap ((k : Int) - 1) = ((k - 1 : Nat) : Int) := by rw [IntKind.wrap_i64]; omega
      unfold CtP at hx
      generalize fld (exN vs d) t.nd.l (k - 1) = r at *
      clear hE hS h0
      generalize hdd : ((d + 1 : Nat) : Int) = dd at *
      unfold exC at *
      go_enter Try.func75, Try.ntmps75
      go_wp2_with (first
        | (go_at_call 82; go_must (refine hmy.mono ?_; rintro e w1 ⟨rfl, hb1⟩; have s0 := (A.bl hb1).cell 0; have s1 := (A.bl hb1).cell 1; have s4 := (A2.bl hb1).cell 4; replace hx := hx w1 hb1))
        | (go_at_call 58; go_must (refine (hx _ _ rfl rfl).mono ?_; rintro e w2 ⟨rfl, hb2⟩)))
      go_ret2
      have hB := b0.trans (hb1.mono b0.size)
      exact ⟨rfl, hB.trans (hb2.mono hB.size)⟩
theorem expr_any {N : Nat} {es : Option Addr} {en ec : Nat} {vs : Int} : ∀ d : Nat, d ≤ 100 → ExAt N es en ec vs d
  | 0, _ => by
    intro u cs t k hk hN hM
    obtain ⟨ek, en', ev, eo, es', em, ec', rfl⟩ := hM.cells
    have b0 : Below u.heap.size u ((u.alloc (.cells #[.slice es en ec, .int .i64 vs] 102)).alloc (.cells (exC ek en' ev eo (.slice es' em ec')).toArray 76)) := (ab u _).alloc (by simp) _
    rw [show exN vs 0 t k = none from rfl]
    clear hM
    unfold exC at *
    go_enter Try.func75, Try.ntmps75
    go_wp2_with fail
    go_ret2
    exact ⟨rfl, b0⟩
  | d + 1, h => expr_s (by omega) (expr_any d (by omega))
end Go.Proofs.Ytmljihggooaboaa

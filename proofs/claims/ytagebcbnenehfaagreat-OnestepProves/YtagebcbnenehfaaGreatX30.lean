/- QVx, JMe, Kh, Ki, Kj. -/
import Derived.Test.YtagebcbnenehfaaGreatX29
namespace Go.Proofs.YtagebcbnenehfaaGreat
open Go.RowKit
set_option maxRecDepth 100000
set_option linter.unusedVariables false
set_option linter.unusedSimpArgs false
set_option maxHeartbeats 40000000
structure Cd where
 o : Int
 a : Int
 b : Int
 c : Int
 i : Int
def Cd.arr (c : Cd) : Array Value := cdA c.o c.a c.b c.c c.i
def Cd.wd (c : Cd) : Int := wdI c.o c.a c.b c.c c.i
structure Cd.ok (x : Cd) : Prop where
 o : 0 ≤ x.o ∧ x.o < 256
 a : 0 ≤ x.a ∧ x.a < 256
 b : 0 ≤ x.b ∧ x.b < 256
 c : 0 ≤ x.c ∧ x.c < 256
 i : 0 ≤ x.i ∧ x.i < 4294967296
structure CS (N : Nat) (w : World) (sp : Option Addr) (n cap : Nat) (cs : List Cd) : Prop where
 len : Hid (n = cs.length)
 nil : sp = none → n = 0 ∧ cap = 0
 le : n ≤ cap
 big : cap ≤ 9223372036854775807
 small : n ≤ 140737488355328
 at0 : 0 < n → ∃ g off, sp = some ⟨g, off, none⟩ ∧ g < N ∧ ∀ i e, cs[i]? = some e → w.rangeAt g (off + i * 5) e.arr.toList
 ok : ∀ e ∈ cs, e.ok
theorem CS.below {N : Nat} {w w' : World} {sp : Option Addr} {n cap : Nat} {cs : List Cd} (h : CS N w sp n cap cs) (hb : Below N w w') : CS N w' sp n cap cs :=
 ⟨h.len, h.nil, h.le, h.big, h.small, fun h0 => let ⟨b, off, e, hbN, hB⟩ := h.at0 h0; ⟨b, off, e, hbN, fun i X hX => range_below (hB i X hX) hb hbN⟩, h.ok⟩
theorem CS.here {N : Nat} {w : World} {sp : Option Addr} {n cap : Nat} {cs : List Cd} (h : CS N w sp n cap cs) : CS w.heap.size w sp n cap cs :=
 ⟨h.len, h.nil, h.le, h.big, h.small, fun h0 => by
   obtain ⟨b, off, e, hbN, hB⟩ := h.at0 h0
   refine ⟨b, off, e, ?_, hB⟩
   have hl : 0 < cs.length := by rw [← h.len.out]; exact h0
   exact block_lt_of_cell (hB 0 cs[0] (List.getElem?_eq_getElem hl) 0 _ rfl), h.ok⟩
def ldW (x : Nat) (cs : List Cd) (ds : List Int) : List Int := cs.map Cd.wd ++ (ds ++ List.replicate (x - (cs.length + ds.length)) 0)
def lO (x : Int) (cs : List Cd) (ds : List Int) : Mc × Int :=
 if szI x = false then (zM, 2) else if x < cs.length + ds.length then (zM, 4) else ({ zM with me := ldW x.toNat cs ds }, 0)
theorem ldW_len {x : Nat} {cs : List Cd} {ds : List Int} (h : cs.length + ds.length ≤ x) : (ldW x cs ds).length = x := by simp [ldW]; omega
theorem Cd.ok.wd {c : Cd} (h : c.ok) : U64 c.wd := wdI_u h.o h.i
theorem ldW_get {x : Nat} {cs : List Cd} {ds : List Int} (h : cs.length + ds.length ≤ x) (t : Nat) : (ldW x cs ds).getD t 0 = if h : t < cs.length then cs[t].wd else if t < cs.length + ds.length then ds.getD (t - cs.length) 0 else 0 := by
 unfold ldW
 rw [List.getD_eq_getElem?_getD]
 by_cases h1 : t < cs.length
 · rw [dif_pos h1, List.getElem?_append_left (by simpa using h1)]
   simp [h1]
 · rw [dif_neg h1, List.getElem?_append_right (by simp; omega), List.length_map]
   by_cases h2 : t < cs.length + ds.length
   · rw [if_pos h2, List.getElem?_append_left (by omega), List.getD_eq_getElem?_getD]
   · rw [if_neg h2, List.getElem?_append_right (by omega), List.getElem?_replicate]
     split <;> rfl
theorem ldW_u {x : Nat} {cs : List Cd} {ds : List Int} (h : cs.length + ds.length ≤ x) (hc : ∀ e ∈ cs, e.ok) (hd : ∀ k, U64 (ds.getD k 0)) (t : Nat) : U64 ((ldW x cs ds).getD t 0) := by
 rw [ldW_get h]
 split
 · exact (hc _ (List.getElem_mem _)).wd
 · split
   · exact hd _
   · unfold U64; omega
def LdPost (x : Int) (cs : List Cd) (ds : List Int) (w : World) (e : Ending) (w' : World) : Prop :=
 ∃ sp n cap, e = .returned (.tuple #[.agg (mcA (lO x cs ds).1 sp n cap), .int .i64 (lO x cs ds).2]) ∧ (lO x cs ds).1.ok ∧ MS w'.heap.size w' sp n cap (lO x cs ds).1.me ∧ Below w.heap.size w w'
theorem ldNo {x : Int} {cs : List Cd} {ds : List Int} {w w' : World} {er : Int} (hr : lO x cs ds = (zM, er)) (hb : Below w.heap.size w w') : LdPost x cs ds w (.returned (.tuple #[.agg (mcA zM none 0 0), .int .i64 er])) w' :=
 ⟨none, 0, 0, by rw [hr], by rw [hr]; exact zM_ok, by rw [hr]; exact MS.nil0 _ _, hb⟩
theorem ldYes {x : Int} {X : Nat} {cs : List Cd} {ds : List Int} {w w' : World} {g : Nat} (hr : lO x cs ds = ({ zM with me := ldW X cs ds }, 0)) (hok : Mc.ok { zM with me := ldW X cs ds }) (hM : MW w' g (ldW X cs ds)) (hl : X = (ldW X cs ds).length) (hX : X ≤ 4096) (hb : Below w.heap.size w w') : LdPost x cs ds w (.returned (.tuple #[.agg (mcA { zM with me := ldW X cs ds } (some ⟨g, 0, none⟩) X X), .int .i64 0])) w' :=
 ⟨some ⟨g, 0, none⟩, X, X, by rw [hr], by rw [hr]; exact hok, by rw [hr]; exact hM.ms hl (by omega) ⟨Nat.le_refl _, by omega⟩, hb⟩
theorem built45 (sp : Option Addr) (n cap : Nat) (me : List Int) : Tryz.prog.built 27 [(3, .slice sp n cap)] = some (mcA { zM with me := me } sp n cap) := by kernel_rfl
theorem refwdc_any (e : Cd) (h : e.ok) (w : World) : Calls Tryz.prog 86 #[.agg e.arr] w fun r w' => r = .returned (.int .u64 e.wd) ∧ Below w.heap.size w w' := refWord_any w h.o h.a h.b h.c h.i
def lay (x : Nat) (cs : List Cd) (k : Nat) : List Int := (cs.take k).map Cd.wd ++ List.replicate (x - k) 0
theorem lay_zero (x : Nat) (cs : List Cd) : lay x cs 0 = List.replicate x 0 := by simp [lay]
theorem lay_len {x k : Nat} {cs : List Cd} (h : k ≤ cs.length) (hx : cs.length ≤ x) : (lay x cs k).length = x := by simp [lay]; omega
theorem lay_set {x k : Nat} {cs : List Cd} {e : Cd} (he : cs[k]? = some e) (hx : cs.length ≤ x) : (lay x cs k).set k e.wd = lay x cs (k + 1) := by
 have hk := (List.getElem?_eq_some_iff.1 he).1
 unfold lay
 rw [List.set_append_right _ _ (by simp; omega), List.take_add_one, he]
 simp only [List.length_map, List.length_take, Nat.min_eq_left (Nat.le_of_lt hk), Nat.sub_self, List.map_append, Option.toList_some, List.map_cons, List.map_nil, List.append_assoc]
 rw [show x - k = (x - (k + 1)) + 1 by omega, List.replicate_succ, List.set_cons_zero]
 rfl
theorem lay_all {x : Nat} {cs : List Cd} (hx : cs.length ≤ x) : lay x cs cs.length = ldW x cs [] := by simp [lay, ldW]
theorem made_mw (w : World) (n : Nat) : MW (w.alloc (.cells (madeCells #[.int .u64 0] n) 22)) w.heap.size (List.replicate n 0) :=
 ⟨_, Arr.new w 22 _, fun t ht => by
   have ht' : t < n := by simpa using ht
   rw [← Array.getElem?_toList, toList_madeCells_one]
   simp [List.getD_eq_getElem?_getD, ht']⟩
theorem wp_bdT {o : Oper} {a : Act} {w : World} {K : Act → World → Prop} {Q : Exit → Act → World → Prop} (t : TypeId) (parts : Array (Nat × Operand)) (ho : o.op = .build t parts) {ps : List (Nat × Value)} (hp : parts.toList.map (fun p => (p.1, a.eval p.2)) = ps) {C : Array Value} (hb : Tryz.prog.built t ps = some C)
   (h : K (a.put o.dst (.agg C)) w) : o.wp Tryz.prog a w K Q := by
 have e : (parts.map fun (i, x) => (i, a.eval x)).toList = ps := by rw [Array.toList_map]; exact hp
 refine wp_build t parts ho (by rw [e, hb]; rfl) ?_
 rw [e, hb]; exact h
theorem ldW_splice {X : Nat} {cs : List Cd} {ds : List Int} {C : Array Value} (h : cs.length + ds.length ≤ X) (hC : ∀ t, t < (lay X cs cs.length).length → C[t]? = some (.int .u64 ((lay X cs cs.length).getD t 0))) :
   ∀ t, t < (ldW X cs ds).length → (C.toList.take cs.length ++ (by64 ds ++ C.toList.drop (cs.length + (by64 ds).length))).toArray[t]? = some (.int .u64 ((ldW X cs ds).getD t 0)) := by
 intro t ht
 rw [ldW_len h] at ht
 rw [lay_len (Nat.le_refl _) (by omega)] at hC
 have hsz : X ≤ C.size := by
   by_cases h0 : 0 < X
   · have := (Array.getElem?_eq_some_iff.1 (hC (X - 1) (by omega))).1
     omega
   · omega
 have ht0 : (C.toList.take cs.length).length = cs.length := by
   have e : C.toList.length = C.size := Array.length_toList
   rw [List.length_take, e]; exact Nat.min_eq_left (by omega)
 have hg := hC t ht
 rw [lay_all (by omega), ldW_get (by simp; omega)] at hg
 rw [ldW_get h, List.getElem?_toArray]
 by_cases h1 : t < cs.length
 · rw [dif_pos h1] at hg ⊢
   rw [List.getElem?_append_left (by rw [ht0]; exact h1), List.getElem?_take_of_lt h1, Array.getElem?_toList]
   exact hg
 · rw [dif_neg h1] at hg ⊢
   rw [if_neg (by simp; omega)] at hg
   rw [List.getElem?_append_right (by rw [ht0]; omega), ht0]
   by_cases h2 : t < cs.length + ds.length
   · rw [if_pos h2, List.getElem?_append_left (by rw [by64_len]; omega)]
     exact by64_get (by omega)
   · rw [if_neg h2, List.getElem?_append_right (by rw [by64_len]; omega), List.getElem?_drop, Array.getElem?_toList, by64_len]
     rw [show cs.length + ds.length + (t - cs.length - ds.length) = t by omega]
     exact hg
def swR (R : List Int) (i : Int) (X Y : List Int) (ls : List (List Int)) : List Int := if ckB R i X ls = true then fo i.toNat Y ls else Z32
set_option maxRecDepth 100000 in
theorem swap_any (R : List Int) (i : Int) (X Y : List Int) (N : Nat) (sp : Option Addr) (n cap : Nat) (ls : List (List Int)) (w : World) (hR : R.length = 32) (hX : X.length = 32) (hY : Y.length = 32) (hS : HS N w sp n cap ls) :
   Calls Tryz.prog 242 #[.agg (h8 R), .int .i64 i, .agg (h8 X), .agg (h8 Y), .slice sp n cap] w fun e w' => e = .returned (.tuple #[.agg (h8 (swR R i X Y ls)), .bool (ckB R i X ls)]) ∧ Below w.heap.size w w' := by
 have hb2 : Below w.heap.size w ((((w.alloc (.cells (h8 R) 30)).alloc (.cells (h8 X) 30)).alloc (.cells (h8 Y) 30)).alloc (.cells (h8 Z32) 30)) := (((alloc_bel' w _).alloc (by simp) _).alloc (by simp <;> omega) _).alloc (by simp <;> omega) _
 have A0 := (((Arr.new w 30 (h8 R)).alloc (.cells (h8 X) 30)).alloc (.cells (h8 Y) 30)).alloc (.cells (h8 Z32) 30)
 have A1 := ((Arr.new (w.alloc (.cells (h8 R) 30)) 30 (h8 X)).alloc (.cells (h8 Y) 30)).alloc (.cells (h8 Z32) 30)
 have A2 := (Arr.new ((w.alloc (.cells (h8 R) 30)).alloc (.cells (h8 X) 30)) 30 (h8 Y)).alloc (.cells (h8 Z32) 30)
 have A3 := Arr.new (((w.alloc (.cells (h8 R) 30)).alloc (.cells (h8 X) 30)).alloc (.cells (h8 Y) 30)) 30 (h8 Z32)
 simp only [World.size_alloc] at A1 A2 A3
 have hS2 := hS.here.below hb2
 have hC := fun w hS => check_any R i X w.heap.size sp n cap ls w hR hX hS
 have hF := fun w hS => fold_any i Y w.heap.size sp n cap ls w hY hS
 unfold foR foE at hF
 unfold swR
 cases hc : ckB R i X ls with
 | true =>
   rw [hc] at hC
   have h : FoOK i ls.length := by
     unfold ckB at hc
     exact (of_decide_eq_true hc).1
   rw [if_pos h, if_pos h] at hF
   rw [if_pos rfl]
   have hfl := fo_len (i := i.toNat) (ps := ls) hY
   generalize fo i.toNat Y ls = V at *
   clear h hc
   go_enter Tryz.func242, Tryz.ntmps242
   go_wp2_with (first
     | (refine ld24 (by rfl) _ (by rfl) w.heap.size 0 (by rfl) R hR A0.range ?_)
     | (refine ld24 (by rfl) _ (by rfl) (w.heap.size + 1) 0 (by rfl) X hX A1.range ?_)
     | (go_at_call 245; go_must (refine (hC _ (hS2.mono (by simp <;> omega))).mono ?_; rintro e w2 ⟨rfl, hb3⟩; have hs3 := hb3.size; simp at hs3; have hw3 := hb2.trans (hb3.mono (by simp <;> omega)); have B2 := A2.below hb3 (by simp <;> omega); have B3 := A3.below hb3 (by simp); have hS3 := hS.here.below hw3))
     | (refine ld24 (by rfl) _ (by rfl) (w.heap.size + 1 + 1) 0 (by rfl) Y hY B2.range ?_)
     | (go_at_call 246; go_must (refine (hF _ (hS3.mono (by omega))).mono ?_; rintro e w4 ⟨rfl, hb4⟩; have hs4 := hb4.size; have hw4 := hw3.trans (hb4.mono (by omega)); have C3 := (B3.below hb4 (by omega)).alloc (.cells (h8 V) 30); have C4 := Arr.new w4 30 (h8 V)))
     | (refine st24n (by rfl) _ _ (by rfl) w4 w4.heap.size rfl (by rfl) V (by rfl) (by rfl) hfl ?_)
     | (refine ld24 (by rfl) _ (by rfl) w4.heap.size 0 (by rfl) V hfl C4.range ?_)
     | (refine st24 (by rfl) _ _ (by rfl) (w.heap.size + 1 + 1 + 1) V Z32 (by rfl) (by rfl) hfl Z32_len C3 ?_))
   exact bodyPost_ret (v := .tuple #[.agg (h8 V), .bool true]) (resP Tryz.results242 rfl rfl hfl (C3.setRow _)) rfl ⟨rfl, below_setRow (hw4.alloc (by omega) _) (by omega) _⟩
 | false =>
   rw [hc] at hC
   rw [if_neg (by decide)]
   clear hc hF
   go_enter Tryz.func242, Tryz.ntmps242
   go_wp2_with (first
     | (refine ld24 (by rfl) _ (by rfl) w.heap.size 0 (by rfl) R hR A0.range ?_)
     | (refine ld24 (by rfl) _ (by rfl) (w.heap.size + 1) 0 (by rfl) X hX A1.range ?_)
     | (go_at_call 245; go_must (refine (hC _ (hS2.mono (by simp <;> omega))).mono ?_; rintro e w2 ⟨rfl, hb3⟩; have hs3 := hb3.size; simp at hs3; have hw3 := hb2.trans (hb3.mono (by simp <;> omega)); have B3 := A3.below hb3 (by simp)))
     | (refine st24 (by rfl) _ _ (by rfl) (w.heap.size + 1 + 1 + 1) Z32 Z32 (by rfl) (by rfl) Z32_len Z32_len B3 ?_))
   exact bodyPost_ret (v := .tuple #[.agg (h8 Z32), .bool false]) (resP Tryz.results242 rfl rfl Z32_len (B3.setRow _)) rfl ⟨rfl, below_setRow hw3 (by omega) _⟩
section
theorem rW_one (y : Int) : rW [y] = lw y := by
 have h1 : szB ([y] : List Int).length = true := by
   show szB 1 = true
   decide
 unfold rW
 rw [if_pos h1]
 rfl
theorem leaf1 {y : Int} (w : World) (hy : U64 y) : Calls Tryz.prog 243 #[.int .u64 y] w fun e w' => e = .returned (.agg (h8 (lw y))) ∧ Below w.heap.size w w' := by
 have A0 := Arr.new w 30 (h8 Z32)
 have hb0 := alloc_bel' w (.cells (h8 Z32) 30)
 rw [h8_Z] at A0 hb0
 have A1 := Arr.new (w.alloc (.cells (h8 Z32) 30)) 22 #[.int .u64 y]
 have hM : MW ((w.alloc (.cells (h8 Z32) 30)).alloc (.cells #[.int .u64 y] 22)) (w.heap.size + 1) [y] := ⟨_, by simpa using A1, fun t ht => by
   have : t = 0 := by simpa using ht
   subst this
   rfl⟩
 have hM2 := hM.ms (n := 1) (cap := 1) rfl (by omega) ⟨by omega, by omega⟩
 have hrt := rootM_ok (some ⟨w.heap.size + 1, 0, none⟩) 1 1 0 [y] _ _ hM2 (fun k => by
   match k with
   | 0 => exact hy
   | k + 1 => exact ⟨by simp, by simp⟩) (by omega) (Hid.mk' rfl)
 rw [rW_one] at hrt
 have h32 := lw_len y
 rw [h8_Z] at hrt
 generalize lw y = Y at *
 go_enter Tryz.func243, Tryz.ntmps243
 go_wp2_with (first
   | (go_at_call 247; go_must (refine hrt.mono ?_; rintro e w2 ⟨rfl, hb2⟩; have A2 := A0.below (((alloc_bel' _ (.cells #[.int .u64 y] 22)).mono (by simp)).trans (hb2.mono (by simp))) (show w.heap.size < w.heap.size + 1 by omega); have hB2 := (hb0.alloc (by simp) (.cells #[.int .u64 y] 22)).trans (hb2.mono (by simp; omega)); have A3 := A2.alloc (.cells (h8 Y) 30); have A4 := Arr.new w2 30 (h8 Y)))
   | (refine atS 30 (.tmp 3) (.tmp 9) ?_; go_must (refine st24n (by rfl) _ _ (by rfl) w2 w2.heap.size rfl (by rfl) Y (by rfl) (by rfl) h32 ?_))
   | (refine ld24 (by rfl) _ (by rfl) w2.heap.size 0 (by rfl) Y h32 A4.range ?_)
   | (refine st24 (by rfl) _ _ (by rfl) w.heap.size Y Z32 (by rfl) (by rfl) h32 Z32_len A3 ?_))
 exact bodyPost_ret (v := .agg (h8 Y)) (res24 Tryz.results243 rfl h32 (A3.setRow _)) rfl ⟨rfl, below_setRow (hB2.alloc (by have := A2.lt; omega) _) (Nat.le_refl _) _⟩
variable {N : Nat} {gE gC d : Nat} {sb : Option Addr} {nb cb : Nat} {pre : List Int} {l : List Am} {R : List Int} {q : Bool} {x : Int}
theorem arr_splice {g ty : Nat} : ∀ (vs : List Value) (o : Nat) (L : List Value) (w : World), Arr w g ty L.toArray → o + vs.length ≤ L.length → Arr (w.setCells g o vs) g ty (splice L o vs).toArray
 | [], o, L, w, h, _ => by
   have e : splice L o ([] : List Value) = L := by simp [splice]
   rw [e]; exact h
 | v :: vs, o, L, w, h, hl => by
   have h1 := h.set o v
   rw [List.setIfInBounds_toArray] at h1
   have h2 := arr_splice vs (o + 1) (L.set o v) _ h1 (by simp at hl ⊢; omega)
   have e : splice (L.set o v) (o + 1) vs = splice L o (v :: vs) := by
     simp only [List.length_cons] at hl
     unfold splice
     rw [List.take_set, List.drop_set_of_lt (by omega), List.length_cons, show o + 1 + vs.length = o + (vs.length + 1) by omega]
     have e2 : (L.take (o + 1)).set o v = L.take o ++ [v] := by
       rw [List.take_succ_eq_append_getElem (by omega), List.set_append_right _ _ (by simp; omega), List.length_take, Nat.min_eq_left (by omega), Nat.sub_self]
       rfl
     rw [e2]
     simp
   rw [e] at h2
   exact h2
theorem eiL_set {d : Int} {R S : List Int} {gC : Nat} {v : Value} {q : Bool} (hR : R.length = 32) (hS : S.length = 32) {w : World} {g : Nat} (h : Arr w g 107 (eiL d R gC v q).toArray) : Arr (w.setCells g 1 (by8 S)) g 107 (eiL d S gC v q).toArray := by
 have h1 := arr_splice (by8 S) 1 (eiL d R gC v q) w h (by simp [eiL, by8_len, hR, hS])
 have e : splice (eiL d R gC v q) 1 (by8 S) = eiL d S gC v q := by
   unfold splice eiL
   rw [by8_len, hS, show 1 + 32 = 32 + 1 by omega, List.drop_succ_cons, List.drop_append_of_le_length (by rw [by8_len, hR]; omega), List.drop_eq_nil_of_le (by rw [by8_len, hR]; omega)]
   simp
 rw [e] at h1
 exact h1
theorem eiL_there {w : World} {g : Nat} {d : Int} {R : List Int} {gC : Nat} {v : Value} {q : Bool} (hR : R.length = 32) (h : Arr w g 107 (eiL d R gC v q).toArray) : w.there g 1 32 := fun j hj =>
 ⟨by rw [eiL_rt h j (.int .u8 (R.getD j 0)) (by8_get (by omega))]; rfl, h.frozen _⟩
theorem swR_ok {R : List Int} {x y z : Int} {ls : List (List Int)} {d : Nat} {a : Acc} (ha : a = ⟨x, y, ls⟩) (hx : 0 ≤ x) (h : okA d R x a = true) : swR R x (lw y) (lw z) ls = fo x.toNat (lw z) ls := by
 subst ha
 unfold okA at h
 rw [Bool.and_eq_true] at h
 have h2 := h.2
 unfold ckW at h2
 have h3 := of_decide_eq_true h2
 unfold swR
 rw [if_pos (by unfold ckB FoOK; exact decide_eq_true ⟨⟨by have h4 : ls.length ≤ 12 := h3.1; omega, hx, h3.2.1⟩, h3.2.2⟩)]
theorem okA_lt {R : List Int} {x : Int} {d : Nat} {a : Acc} (h : okA d R x a = true) : a.ad = x ∧ a.pa.length = d ∧ d ≤ 12 ∧ x < (2 ^ d : Nat) := by
 unfold okA at h
 rw [Bool.and_eq_true] at h
 have h1 := of_decide_eq_true h.1
 have h2 := h.2
 unfold ckW at h2
 have h3 := of_decide_eq_true h2
 rw [h1.2] at h3
 exact ⟨h1.1, h1.2, h3.1, h3.2.1⟩
theorem eset_fin {r : List Am} {R' : List Int} {w w1 v : World} (h32 : R'.length = 32) (h1 : Chg (C2E gE gC) w w1) (hE1 : EI N w1 gE gC d sb nb cb pre r R q) (hb : Below w1.heap.size w1 v) :
   Chg (C2E gE gC) w (v.setCells gE 1 (by8 R')) ∧ EI N (v.setCells gE 1 (by8 R')) gE gC d sb nb cb pre r R' q := by
 have hE2 := hE1.below hb
 obtain ⟨sp, n, cap, hc, hA⟩ := hE2.lst
 have hN : Below N v (v.setCells gE 1 (by8 R')) := below_setCells (Below.refl _ _) hE2.leE _ _
 exact ⟨Chg.setCells' (h1.kB hb) (.inl rfl) _ _, ⟨eiL_set hE2.r32 h32 hE2.blk, ⟨sp, n, cap, hc.setCellsOther (fun e => hE2.ne e.symm) _ _, hA.below hN⟩, hE2.pre.below hN, h32, hE2.ne, hE2.leE, hE2.leC, hE2.d12⟩⟩
theorem eset_ok {a : Am} {r : List Am} {y : Int} (w : World) (hE : EI N w gE gC d sb nb cb pre (a :: r) R q) (hU : U64 x) (hy : U64 y) (h : okA d R x a.acc = true) :
   Calls Tryz.prog 240 #[.pointer (some ⟨gE, 0, none⟩), .int .u64 x, .int .u64 y] w fun e w' => e = .returned (.tuple #[]) ∧ Chg (C2E gE gC) w w' ∧ EI N w' gE gC d sb nb cb pre r (fo x.toNat (lw y) a.pa) q := by
 have ht := take_ok w hE hU h
 obtain ⟨o1, o2, o3, o4⟩ := okA_lt h
 have hx0 := hU.1
 have hp := pow12 o3
 have hxw : IntKind.i64.wrap x = x := by rw [IntKind.wrap_i64]; omega
 have hsw := swR_ok (z := y) (show a.acc = ⟨x, a.va, a.pa⟩ by rw [← o1]; rfl) hx0 h
 have hl1 := fun (u : World) (hv : U64 a.va) => leaf1 u hv
 have hl2 := fun (u : World) => leaf1 u hy
 have f32 := fo_len (i := x.toNat) (ps := a.pa) (lw_len y)
 have hlv := lw_len a.va
 have hly := lw_len y
 generalize hNR : fo x.toNat (lw y) a.pa = R' at *
 go_enter Tryz.func240, Tryz.ntmps240
 go_upto_region 1 with (go_at_call 241; go_must (refine ht.mono ?_; rintro e w1 ⟨rfl, h1, h2, h3⟩))
 have hE1 := h3
 have b0 := Arr.new w1 83 #[.int .u64 a.ad, .int .u64 a.va, .slice a.sp a.n a.cap]
 have hNw : N ≤ w1.heap.size := Nat.le_trans hE1.leE (Nat.le_of_lt hE1.blk.lt)
 have hsp := fun (u : World) (hb : Below w1.heap.size w1 u) => swap_any R x (lw a.va) (lw y) N a.sp a.n a.cap a.pa u hE1.r32 hlv hly (h2.path.below (hb.mono hNw))
 rw [hsw] at hsp
 replace hl1 := fun (u : World) => hl1 u h2.va
 generalize lw a.va = X at *
 generalize lw y = Y at *
 have B0 : Below w1.heap.size w1 (w1.alloc (.cells #[.int .u64 a.ad, .int .u64 a.va, .slice a.sp a.n a.cap] 83)).drew := (alloc_bel' w1 _).drew
 refine rgn (fun u => u.cell? ⟨w1.heap.size, 1, none⟩ = some (.int .u64 a.va) ∧ u.cell? ⟨w1.heap.size, 2, none⟩ = some (.slice a.sp a.n a.cap)) (⟨b0.cell 1, b0.cell 2⟩) (fun hHeld => ?_)
 refine tk 0 rfl ?_
 refine tk 1 rfl ?_
 refine tk 2 rfl ?_
 refine tk 3 rfl ?_
 refine tk 5 rfl ?_
 refine tk 6 rfl ?_
 refine tk 7 rfl ?_
 refine tk2 8 rfl ?_
 refine tk 10 rfl ?_
 refine tk 12 rfl ?_
 refine tk2 13 rfl ?_
 refine rd2 4 9 rfl rfl (fun K hK => ?_) (fun K hK => ?_)
 · refine step_want rfl (wp_load_mid 30 (.tmp 14) rfl gE 1 rfl (by8 R) _ (range_below (eiL_rt hE1.blk) B0 hE1.blk.lt) Tryz.underlying30 rfl (by rw [by8_len, hE1.r32]; exact size24) ?_)
   refine ko hK hHeld (fun hHeld => ?_)
   clear hK K
   refine rd 9 rfl (fun K hK => ?_)
   go_simp
   refine (hl1 _).mono ?_
   rintro e v1 ⟨rfl, hb1⟩
   have B1 := B0.trans (hb1.mono B0.size)
   go_wp2_with fail
   refine ko hK ⟨(hb1.cell (block_lt_of_cell hHeld.1)).trans hHeld.1, (hb1.cell (block_lt_of_cell hHeld.2)).trans hHeld.2⟩ (fun hHeld => ?_)
   clear hK K
   refine rd 11 rfl (fun K hK => ?_)
   go_simp
   refine (hl2 _).mono ?_
   rintro e v2 ⟨rfl, hb2⟩
   have B2 := B1.trans (hb2.mono B1.size)
   go_wp2_with fail
   refine ko hK ⟨(hb2.cell (block_lt_of_cell hHeld.1)).trans hHeld.1, (hb2.cell (block_lt_of_cell hHeld.2)).trans hHeld.2⟩ (fun hHeld => ?_)
   clear hK K
   refine rd 14 rfl (fun K hK => ?_)
   go_simp
   refine (hsp _ B2).mono ?_
   rintro e v3 ⟨rfl, hb3⟩
   have B3 := B2.trans (hb3.mono B2.size)
   go_wp2_with fail
   refine ko hK ⟨(hb3.cell (block_lt_of_cell hHeld.1)).trans hHeld.1, (hb3.cell (block_lt_of_cell hHeld.2)).trans hHeld.2⟩ (fun hHeld => ?_)
   clear hK K
   refine tk 15 rfl ?_
   refine tk 16 rfl ?_
   refine tk 17 rfl ?_
   refine tk 18 rfl ?_
   refine tk 19 rfl ?_
   refine rd 20 rfl (fun K hK => ?_)
   have hG := hE1.below (B3.mono (Nat.le_refl _))
   refine step_want rfl (wp_store_mid 30 (.tmp 29) (.tmp 26) rfl gE 1 (h8 R') rfl rfl (by rw [h8_size, f32]; exact eiL_there hG.r32 hG.blk) (s24h8 f32) (h8_one R') ?_)
   refine ko hK ⟨(World.cell?_of_block (heap_setCells_other (show w1.heap.size ≠ gE from by have := hE1.blk.lt; omega) _ _ _)).trans hHeld.1, (World.cell?_of_block (heap_setCells_other (show w1.heap.size ≠ gE from by have := hE1.blk.lt; omega) _ _ _)).trans hHeld.2⟩ (fun hHeld => ?_)
   clear hK K
   refine dn ?_
   have hF := eset_fin (R' := R') f32 h1 hE1 B3
   rw [h8_list]
   generalize (v3.setCells gE 1 (by8 R')) = U at *
   go_wp2_with fail
   exact ⟨rfl, _, results_none Tryz.results240 _ _ _, rfl, hF.1, hF.2⟩
 · go_simp
   refine (hl1 _).mono ?_
   rintro e v1 ⟨rfl, hb1⟩
   have B1 := B0.trans (hb1.mono B0.size)
   go_wp2_with fail
   refine ko hK ⟨(hb1.cell (block_lt_of_cell hHeld.1)).trans hHeld.1, (hb1.cell (block_lt_of_cell hHeld.2)).trans hHeld.2⟩ (fun hHeld => ?_)
   clear hK K
   refine rd2 4 11 rfl rfl (fun K hK => ?_) (fun K hK => ?_)
   · refine step_want rfl (wp_load_mid 30 (.tmp 14) rfl gE 1 rfl (by8 R) _ (range_below (eiL_rt hE1.blk) B1 hE1.blk.lt) Tryz.underlying30 rfl (by rw [by8_len, hE1.r32]; exact size24) ?_)
     refine ko hK hHeld (fun hHeld => ?_)
     clear hK K
     refine rd 11 rfl (fun K hK => ?_)
     go_simp
     refine (hl2 _).mono ?_
     rintro e v2 ⟨rfl, hb2⟩
     have B2 := B1.trans (hb2.mono B1.size)
     go_wp2_with fail
     refine ko hK ⟨(hb2.cell (block_lt_of_cell hHeld.1)).trans hHeld.1, (hb2.cell (block_lt_of_cell hHeld.2)).trans hHeld.2⟩ (fun hHeld => ?_)
     clear hK K
     refine rd 14 rfl (fun K hK => ?_)
     go_simp
     refine (hsp _ B2).mono ?_
     rintro e v3 ⟨rfl, hb3⟩
     have B3 := B2.trans (hb3.mono B2.size)
     go_wp2_with fail
     refine ko hK ⟨(hb3.cell (block_lt_of_cell hHeld.1)).trans hHeld.1, (hb3.cell (block_lt_of_cell hHeld.2)).trans hHeld.2⟩ (fun hHeld => ?_)
     clear hK K
     refine tk 15 rfl ?_
     refine tk 16 rfl ?_
     refine tk 17 rfl ?_
     refine tk 18 rfl ?_
     refine tk 19 rfl ?_
     refine rd 20 rfl (fun K hK => ?_)
     have hG := hE1.below (B3.mono (Nat.le_refl _))
     refine step_want rfl (wp_store_mid 30 (.tmp 29) (.tmp 26) rfl gE 1 (h8 R') rfl rfl (by rw [h8_size, f32]; exact eiL_there hG.r32 hG.blk) (s24h8 f32) (h8_one R') ?_)
     refine ko hK ⟨(World.cell?_of_block (heap_setCells_other (show w1.heap.size ≠ gE from by have := hE1.blk.lt; omega) _ _ _)).trans hHeld.1, (World.cell?_of_block (heap_setCells_other (show w1.heap.size ≠ gE from by have := hE1.blk.lt; omega) _ _ _)).trans hHeld.2⟩ (fun hHeld => ?_)
     clear hK K
     refine dn ?_
     have hF := eset_fin (R' := R') f32 h1 hE1 B3
     rw [h8_list]
     generalize (v3.setCells gE 1 (by8 R')) = U at *
     go_wp2_with fail
     exact ⟨rfl, _, results_none Tryz.results240 _ _ _, rfl, hF.1, hF.2⟩
   · go_simp
     refine (hl2 _).mono ?_
     rintro e v2 ⟨rfl, hb2⟩
     have B2 := B1.trans (hb2.mono B1.size)
     go_wp2_with fail
     refine ko hK ⟨(hb2.cell (block_lt_of_cell hHeld.1)).trans hHeld.1, (hb2.cell (block_lt_of_cell hHeld.2)).trans hHeld.2⟩ (fun hHeld => ?_)
     clear hK K
     refine rd 4 rfl (fun K hK => ?_)
     refine step_want rfl (wp_load_mid 30 (.tmp 14) rfl gE 1 rfl (by8 R) _ (range_below (eiL_rt hE1.blk) B2 hE1.blk.lt) Tryz.underlying30 rfl (by rw [by8_len, hE1.r32]; exact size24) ?_)
     refine ko hK hHeld (fun hHeld => ?_)
     clear hK K
     refine rd 14 rfl (fun K hK => ?_)
     go_simp
     refine (hsp _ B2).mono ?_
     rintro e v3 ⟨rfl, hb3⟩
     have B3 := B2.trans (hb3.mono B2.size)
     go_wp2_with fail
     refine ko hK ⟨(hb3.cell (block_lt_of_cell hHeld.1)).trans hHeld.1, (hb3.cell (block_lt_of_cell hHeld.2)).trans hHeld.2⟩ (fun hHeld => ?_)
     clear hK K
     refine tk 15 rfl ?_
     refine tk 16 rfl ?_
     refine tk 17 rfl ?_
     refine tk 18 rfl ?_
     refine tk 19 rfl ?_
     refine rd 20 rfl (fun K hK => ?_)
     have hG := hE1.below (B3.mono (Nat.le_refl _))
     refine step_want rfl (wp_store_mid 30 (.tmp 29) (.tmp 26) rfl gE 1 (h8 R') rfl rfl (by rw [h8_size, f32]; exact eiL_there hG.r32 hG.blk) (s24h8 f32) (h8_one R') ?_)
     refine ko hK ⟨(World.cell?_of_block (heap_setCells_other (show w1.heap.size ≠ gE from by have := hE1.blk.lt; omega) _ _ _)).trans hHeld.1, (World.cell?_of_block (heap_setCells_other (show w1.heap.size ≠ gE from by have := hE1.blk.lt; omega) _ _ _)).trans hHeld.2⟩ (fun hHeld => ?_)
     clear hK K
     refine dn ?_
     have hF := eset_fin (R' := R') f32 h1 hE1 B3
     rw [h8_list]
     generalize (v3.setCells gE 1 (by8 R')) = U at *
     go_wp2_with fail
     exact ⟨rfl, _, results_none Tryz.results240 _ _ _, rfl, hF.1, hF.2⟩
end
section
variable {N : Nat} {gE gC d : Nat} {sb : Option Addr} {nb cb : Nat} {pre : List Int} {l : List Am} {R : List Int} {q : Bool} {x : Int}
theorem neq30 {X Y : List Int} (hX : X.length = 32) (hY : Y.length = 32) (w : World) : (binOp .neq 30 (.agg (h8 X)) (.agg (h8 Y))).run Tryz.prog w = .ok (.bool (!decide (X = Y))) w := by
 rw [run_neq_struct, run_eqIn24 hX hY w]
 rfl
theorem eiL_q {w : World} {g : Nat} {d : Int} {R : List Int} {gC : Nat} {v : Value} {q : Bool} (hR : R.length = 32) (h : Arr w g 107 (eiL d R gC v q).toArray) : Arr (w.setCell ⟨g, 35, none⟩ (.bool true)) g 107 (eiL d R gC v true).toArray := by
 have h1 := h.set 35 (.bool true)
 rw [List.setIfInBounds_toArray] at h1
 have e : (eiL d R gC v q).set 35 (.bool true) = eiL d R gC v true := by
   unfold eiL
   rw [List.set_cons_succ, List.set_append_right _ _ (by rw [by8_len, hR]; omega), by8_len, hR]
   rfl
 rw [e] at h1
 exact h1
theorem epre_no {X : List Int} (w : World) (hE : EI N w gE gC d sb nb cb pre l R q) (hX : X.length = 32) (hs : shl pre ≠ X) :
   Calls Tryz.prog 239 #[.pointer (some ⟨gE, 0, none⟩), .agg (h8 X)] w fun e w' => e = .panicked (refV 210) ∧ Chg (C2E gE gC) w w' := by
 have hltE := hE.blk.lt
 have c34 := (hE.blk.cell 34).trans (eiL_at hE.r32 1)
 have hN : N ≤ w.heap.size := Nat.le_trans hE.leE (Nat.le_of_lt hltE)
 have hsum := fun (u : World) (hb : Below w.heap.size w u) => by
   have hp := hE.pre.below (hb.mono hN)
   exact sum_sl sb nb cb pre u hp.len.out hp.nil hp.sl hp.le (by have := hp.small; omega)
 simp only [sha_h8] at hsum
 have hS32 := shl_len pre
 have hnq := neq30 hS32 hX
 generalize hSS : shl pre = Z at *
 rw [decide_eq_false hs] at hnq
 replace hs := Hid.mk' hs
 have A0 := Arr.new w 30 (h8 X)
 have c34' : ∀ o, (w.alloc o).cell? ⟨gE, 34, none⟩ = some (.slice sb nb cb) := fun o => (World.cell?_alloc_lt _ _ _ hltE).trans c34
 go_enter Tryz.func239, Tryz.ntmps239
 go_upto_region 1 with fail
 refine rgn (fun u => Below w.heap.size w u ∧ u.cell? ⟨gE, 34, none⟩ = some (.slice sb nb cb) ∧ u.rangeAt w.heap.size 0 (by8 X)) (⟨(alloc_bel' _ _).drew, c34' _, A0.range⟩) (fun hHeld => ?_)
 refine tk 0 rfl ?_
 refine tk 1 rfl ?_
 refine tk 2 rfl ?_
 refine tk3 3 rfl ?_
 refine tl 5 rfl (y24 (by rfl) (.tmp 3) rfl (w.heap.size) (0) rfl X hX (fun u hu => hu.2.2)) ?_
 refine rd 4 rfl (fun K hK => ?_)
 go_simp
 refine (hsum _ hHeld.1).mono ?_; rintro e v ⟨rfl, hb⟩; have hS2 : Below w.heap.size w v ∧ v.cell? ⟨gE, 34, none⟩ = some (.slice sb nb cb) ∧ v.rangeAt w.heap.size 0 (by8 X) := ⟨hHeld.1.trans (hb.mono hHeld.1.size), (hb.cell (block_lt_of_cell hHeld.2.1)).trans hHeld.2.1, fun j u hu => (hb.cell (block_lt_of_cell (hHeld.2.2 j u hu))).trans (hHeld.2.2 j u hu)⟩
 go_wp2_with fail
 refine ko hK hS2 (fun hHeld => ?_)
 clear hK K
 refine tk 6 rfl ?_
 refine dn ?_
 go_wp2_with fail
 exact ⟨rfl, rfl, Chg.of_below hS2.1⟩
theorem epre_ok {X : List Int} (w : World) (hE : EI N w gE gC d sb nb cb pre l R q) (hX : X.length = 32) (hs : shl pre = X) :
   Calls Tryz.prog 239 #[.pointer (some ⟨gE, 0, none⟩), .agg (h8 X)] w fun e w' => e = .returned (.slice sb nb cb) ∧ Chg (C2E gE gC) w w' ∧ EI N w' gE gC d sb nb cb pre l R true := by
 have hltE := hE.blk.lt
 have c34 := (hE.blk.cell 34).trans (eiL_at hE.r32 1)
 have hN : N ≤ w.heap.size := Nat.le_trans hE.leE (Nat.le_of_lt hltE)
 have hsum := fun (u : World) (hb : Below w.heap.size w u) => by
   have hp := hE.pre.below (hb.mono hN)
   exact sum_sl sb nb cb pre u hp.len.out hp.nil hp.sl hp.le (by have := hp.small; omega)
 simp only [sha_h8] at hsum
 have hS32 := shl_len pre
 have hnq := neq30 hS32 hX
 generalize hSS : shl pre = Z at *
 rw [decide_eq_true hs] at hnq
 replace hs := Hid.mk' hs
 have A0 := Arr.new w 30 (h8 X)
 have c34' : ∀ o, (w.alloc o).cell? ⟨gE, 34, none⟩ = some (.slice sb nb cb) := fun o => (World.cell?_alloc_lt _ _ _ hltE).trans c34
 go_enter Tryz.func239, Tryz.ntmps239
 go_upto_region 1 with fail
 refine rgn (fun u => Below w.heap.size w u ∧ u.cell? ⟨gE, 34, none⟩ = some (.slice sb nb cb) ∧ u.rangeAt w.heap.size 0 (by8 X)) (⟨(alloc_bel' _ _).drew, c34' _, A0.range⟩) (fun hHeld => ?_)
 refine tk 0 rfl ?_
 refine tk 1 rfl ?_
 refine tk 2 rfl ?_
 refine tk3 3 rfl ?_
 refine tl 5 rfl (y24 (by rfl) (.tmp 3) rfl (w.heap.size) (0) rfl X hX (fun u hu => hu.2.2)) ?_
 refine rd 4 rfl (fun K hK => ?_)
 go_simp
 refine (hsum _ hHeld.1).mono ?_; rintro e v ⟨rfl, hb⟩; have hS2 : Below w.heap.size w v ∧ v.cell? ⟨gE, 34, none⟩ = some (.slice sb nb cb) ∧ v.rangeAt w.heap.size 0 (by8 X) := ⟨hHeld.1.trans (hb.mono hHeld.1.size), (hb.cell (block_lt_of_cell hHeld.2.1)).trans hHeld.2.1, fun j u hu => (hb.cell (block_lt_of_cell (hHeld.2.2 j u hu))).trans (hHeld.2.2 j u hu)⟩
 go_wp2_with fail
 refine ko hK hS2 (fun hHeld => ?_)
 clear hK K
 refine tk 6 rfl ?_
 refine dn ?_
 have hE2 := hE.below hS2.1
 have c35 := (hE2.blk.cell 35).trans (eiL_at hE2.r32 2)
 have f35 := hE2.blk.frozen 35
 have c34v := hS2.2.1
 have k34 : ∀ u, (v.setCell ⟨gE, 35, none⟩ u).cell? ⟨gE, 34, none⟩ = some (.slice sb nb cb) := fun u => (cell_set_ne u (fun e => by injection e with _ e2 _; omega)).trans c34v
 have hq2 := eiL_q hE2.r32 hE2.blk
 have hb2 : Below N v (v.setCell ⟨gE, 35, none⟩ (.bool true)) := (Below.refl _ _).setCell hE2.leE _
 go_wp2_with fail
 go_ret
 obtain ⟨sp, n, cap, hc, hA⟩ := hE2.lst
 exact ⟨rfl, (Chg.of_below hS2.1).kSet _ (fun _ => .inl rfl), ⟨hq2, ⟨sp, n, cap, hc.setOther _ (fun e => hE2.ne e.symm), hA.below hb2⟩, hE2.pre.below hb2, hE2.r32, hE2.ne, hE2.leE, hE2.leC, hE2.d12⟩⟩
theorem end_more {a : Am} {r : List Am} (w : World) (hE : EI N w gE gC d sb nb cb pre (a :: r) R q) :
   Calls Tryz.prog 47 #[.pointer (some ⟨gE, 0, none⟩)] w fun e w' => e = .panicked (refV 210) ∧ Chg (C2E gE gC) w w' := by
 obtain ⟨sp, n0, cap0, hC, hA⟩ := hE.lst
 have e33 := (hE.blk.cell 33).trans (eiL_at hE.r32 0)
 have q33 : w.cell? ⟨gE, 33, none⟩ = some (.func (Fn.func 152) #[] #[.pointer (some ⟨gC, 0, none⟩)]) := e33
 clear e33
 have hlp := hE.pre.len
 obtain ⟨n, rfl⟩ : ∃ n, n0 = n + 1 := ⟨r.length, by have := hA.len.out; simpa using this⟩
 obtain ⟨g, off, rfl, hg, hR⟩ := hA.at0 (by omega)
 obtain ⟨cap, rfl⟩ : ∃ c, cap0 = c + 1 := ⟨cap0 - 1, by have := hA.le; omega⟩
 have hnx := next_cons w hC hA
 unfold Am.arr at hnx
 clear hR hg hC hlp
 go_enter Tryz.func47, Tryz.ntmps47
 go_wp2_with (go_at_call 152; go_must (refine hnx.mono ?_; rintro e w1 ⟨rfl, ad, h1, h2, h3⟩))
 exact ⟨rfl, rfl, (h3.mono (fun i _ e => .inr e)).alloc _⟩
theorem end_p0 (w : World) (hE : EI N w gE gC d sb nb cb pre [] R q) (hp : pre = []) :
   Calls Tryz.prog 47 #[.pointer (some ⟨gE, 0, none⟩)] w fun e w' => e = .returned (.tuple #[]) ∧ Chg (C2E gE gC) w w' ∧ EI N w' gE gC d sb nb cb pre [] R q := by
 obtain ⟨sp, n0, cap0, hC, hA⟩ := hE.lst
 have e33 := (hE.blk.cell 33).trans (eiL_at hE.r32 0)
 have q33 : w.cell? ⟨gE, 33, none⟩ = some (.func (Fn.func 152) #[] #[.pointer (some ⟨gC, 0, none⟩)]) := e33
 clear e33
 have hlp := hE.pre.len
 obtain rfl : n0 = 0 := hA.len.out
 have hnx := next_nil (N := N) w hC
 unfold zAm at hnx
 have hltE := hE.blk.lt
 have c34 : w.cell? ⟨gE, 34, none⟩ = some (.slice sb nb cb) := (hE.blk.cell 34).trans (eiL_at hE.r32 1)
 have c35 : w.cell? ⟨gE, 35, none⟩ = some (.bool q) := (hE.blk.cell 35).trans (eiL_at hE.r32 2)
 have hnb : nb = 0 := by rw [hlp.out, hp]; rfl
 subst hnb
 clear hlp hA hC
 go_enter Tryz.func47, Tryz.ntmps47
 go_wp2_with (go_at_call 152; go_must (refine hnx.mono ?_; rintro e w1 ⟨rfl, hb1⟩; have k34 := fun (o : Obj) => (World.cell?_alloc_lt w1 o ⟨gE, 34, none⟩ (by have := hb1.size; show gE < _; omega)).trans ((hb1.cell (p := ⟨gE, 34, none⟩) hltE).trans c34); have k35 := fun (o : Obj) => (World.cell?_alloc_lt w1 o ⟨gE, 35, none⟩ (by have := hb1.size; show gE < _; omega)).trans ((hb1.cell (p := ⟨gE, 35, none⟩) hltE).trans c35)))
 exact ⟨rfl, _, results_none Tryz.results47 _ _ _, rfl, Chg.of_below (hb1.alloc hb1.size _), hE.below (hb1.alloc hb1.size _)⟩
theorem end_q (w : World) (hE : EI N w gE gC d sb nb cb pre [] R q) (hp : pre ≠ []) (hq : q = true) :
   Calls Tryz.prog 47 #[.pointer (some ⟨gE, 0, none⟩)] w fun e w' => e = .returned (.tuple #[]) ∧ Chg (C2E gE gC) w w' ∧ EI N w' gE gC d sb nb cb pre [] R q := by
 obtain ⟨sp, n0, cap0, hC, hA⟩ := hE.lst
 have e33 := (hE.blk.cell 33).trans (eiL_at hE.r32 0)
 have q33 : w.cell? ⟨gE, 33, none⟩ = some (.func (Fn.func 152) #[] #[.pointer (some ⟨gC, 0, none⟩)]) := e33
 clear e33
 have hlp := hE.pre.len
 obtain rfl : n0 = 0 := hA.len.out
 have hnx := next_nil (N := N) w hC
 unfold zAm at hnx
 have hltE := hE.blk.lt
 have c34 : w.cell? ⟨gE, 34, none⟩ = some (.slice sb nb cb) := (hE.blk.cell 34).trans (eiL_at hE.r32 1)
 have c35 : w.cell? ⟨gE, 35, none⟩ = some (.bool q) := (hE.blk.cell 35).trans (eiL_at hE.r32 2)
 have hnb : (0 : Int) < nb := by have := hlp.out; have h2 := List.length_pos_iff.2 hp; omega
 subst hq
 clear hlp hA hC
 go_enter Tryz.func47, Tryz.ntmps47
 go_wp2_with (go_at_call 152; go_must (refine hnx.mono ?_; rintro e w1 ⟨rfl, hb1⟩; have k34 := fun (o : Obj) => (World.cell?_alloc_lt w1 o ⟨gE, 34, none⟩ (by have := hb1.size; show gE < _; omega)).trans ((hb1.cell (p := ⟨gE, 34, none⟩) hltE).trans c34); have k35 := fun (o : Obj) => (World.cell?_alloc_lt w1 o ⟨gE, 35, none⟩ (by have := hb1.size; show gE < _; omega)).trans ((hb1.cell (p := ⟨gE, 35, none⟩) hltE).trans c35)))
 exact ⟨rfl, _, results_none Tryz.results47 _ _ _, rfl, Chg.of_below (hb1.alloc hb1.size _), hE.below (hb1.alloc hb1.size _)⟩
theorem end_n (w : World) (hE : EI N w gE gC d sb nb cb pre [] R q) (hp : pre ≠ []) (hq : q = false) :
   Calls Tryz.prog 47 #[.pointer (some ⟨gE, 0, none⟩)] w fun e w' => e = .panicked (refV 210) ∧ Chg (C2E gE gC) w w' := by
 obtain ⟨sp, n0, cap0, hC, hA⟩ := hE.lst
 have e33 := (hE.blk.cell 33).trans (eiL_at hE.r32 0)
 have q33 : w.cell? ⟨gE, 33, none⟩ = some (.func (Fn.func 152) #[] #[.pointer (some ⟨gC, 0, none⟩)]) := e33
 clear e33
 have hlp := hE.pre.len
 obtain rfl : n0 = 0 := hA.len.out
 have hnx := next_nil (N := N) w hC
 unfold zAm at hnx
 have hltE := hE.blk.lt
 have c34 : w.cell? ⟨gE, 34, none⟩ = some (.slice sb nb cb) := (hE.blk.cell 34).trans (eiL_at hE.r32 1)
 have c35 : w.cell? ⟨gE, 35, none⟩ = some (.bool q) := (hE.blk.cell 35).trans (eiL_at hE.r32 2)
 have hnb : (0 : Int) < nb := by have := hlp.out; have h2 := List.length_pos_iff.2 hp; omega
 subst hq
 clear hlp hA hC
 go_enter Tryz.func47, Tryz.ntmps47
 go_wp2_with (go_at_call 152; go_must (refine hnx.mono ?_; rintro e w1 ⟨rfl, hb1⟩; have k34 := fun (o : Obj) => (World.cell?_alloc_lt w1 o ⟨gE, 34, none⟩ (by have := hb1.size; show gE < _; omega)).trans ((hb1.cell (p := ⟨gE, 34, none⟩) hltE).trans c34); have k35 := fun (o : Obj) => (World.cell?_alloc_lt w1 o ⟨gE, 35, none⟩ (by have := hb1.size; show gE < _; omega)).trans ((hb1.cell (p := ⟨gE, 35, none⟩) hltE).trans c35)))
 exact ⟨rfl, rfl, Chg.of_below (hb1.alloc hb1.size _)⟩
end
def Kp (F : Nat → Prop) (u u' : World) : Prop := ∀ b, F b → u'.heap[b]? = u.heap[b]?
structure Met (FG FrS FP : Nat) {S : Type} (H : Hd S) (I : (Nat → Prop) → S → World → Prop) (B0 : Nat) (ptr : Value) (PV : List PanicEntry) : Prop where
 base : ∀ F s u, I F s u → B0 ≤ u.heap.size
 own : ∀ F s u, I F s u → ∀ b, F b → b < u.heap.size
 gu : ∀ F s u x v s', I F s u → H.gt x s = some (v, s') → U64 v
 keep : ∀ F G s u u', I F s u → Below B0 u u' → (∀ b, b < u.heap.size → ¬ F b → u'.heap[b]? = u.heap[b]?) → (∀ b, G b → F b ∨ u.heap.size ≤ b) → (∀ b, G b → b < u'.heap.size) → I G s u'
 rkg : ∀ x s v s', H.gt x s = some (v, s') → H.rk s' ≤ H.rk s + 1
 rks : ∀ x y s s', H.st x y s = some s' → H.rk s' ≤ H.rk s + 1
 get : ∀ F s u x, I F s u → U64 x → H.rk s < 1000 → Calls Tryz.prog FG #[ptr, .int .u64 x] u fun e w' => Below B0 u w' ∧ Kp F u w' ∧ ((∃ v s', H.gt x s = some (v, s') ∧ U64 v ∧ e = .returned (.int .u64 v) ∧ I F s' w') ∨ (H.gt x s = none ∧ e = .panicked PV))
 set : ∀ F s u x y, I F s u → U64 x → U64 y → H.rk s < 1000 → Calls Tryz.prog FrS #[ptr, .int .u64 x, .int .u64 y] u fun e w' => Below B0 u w' ∧ Kp F u w' ∧ ((∃ s', H.st x y s = some s' ∧ e = .returned (.tuple #[]) ∧ I F s' w') ∨ (H.st x y s = none ∧ e = .panicked PV))
 pre : ∀ F s u X, I F s u → X.length = 32 → Calls Tryz.prog FP #[ptr, .agg (h8 X)] u fun e w' => Below B0 u w' ∧ Kp F u w' ∧ ((∃ bs s' sp n cap, H.pm X s = some (bs, s') ∧ e = .returned (.slice sp n cap) ∧ BS w'.heap.size w' sp n cap bs ∧ I F s' w') ∨ (H.pm X s = none ∧ e = .panicked PV))
structure TkM where
 l : List Am
 rt : List Int
 q : Bool
def hM (d : Nat) (pre : List Int) : Hd TkM where
 gt x t := match t.l with
   | [] => none
   | a :: r => if okA d t.rt x a.acc = true then some (a.va, { t with l := r }) else none
 st x v t := match t.l with
   | [] => none
   | a :: r => if okA d t.rt x a.acc = true then some { t with l := r, rt := fo x.toNat (lw v) a.pa } else none
 pm X t := if shl pre = X then some (pre, { t with q := true }) else none
 rk _ := 0
def IE (N gE gC d : Nat) (sb : Option Addr) (nb cb : Nat) (pre : List Int) (F : Nat → Prop) (t : TkM) (u : World) : Prop := EI N u gE gC d sb nb cb pre t.l t.rt t.q ∧ ∀ b, F b → b < u.heap.size ∧ b ≠ gE ∧ b ≠ gC ∧ N ≤ b
theorem Chg.kp {gE gC : Nat} {F : Nat → Prop} {u u' : World} (h : Chg (C2E gE gC) u u') (hF : ∀ b, F b → b < u.heap.size ∧ b ≠ gE ∧ b ≠ gC) : Kp F u u' := fun b hb =>
 h.block b (hF b hb).1 (by rintro (e | e); exact (hF b hb).2.1 e; exact (hF b hb).2.2 e)
theorem Chg.bel {gE gC B : Nat} {u u' : World} (h : Chg (C2E gE gC) u u') (hE : B ≤ gE) (hC : B ≤ gC) (hB : B ≤ u.heap.size) : Below B u u' :=
 h.below (fun i hi => ⟨by omega, by rintro (e | e) <;> omega⟩)
theorem metE {N gE gC d B0 : Nat} {sb : Option Addr} {nb cb : Nat} {pre : List Int} (hE0 : B0 ≤ gE) (hC0 : B0 ≤ gC) (hN : N ≤ B0) : Met 238 240 239 (hM d pre) (IE N gE gC d sb nb cb pre) B0 (.pointer (some ⟨gE, 0, none⟩)) (refV 210) where
 base F s u h := Nat.le_trans hE0 (Nat.le_of_lt h.1.blk.lt)
 own F s u h b hb := (h.2 b hb).1
 gu F s u x v s' h hg := by
   obtain ⟨sp, n, cap, -, hA⟩ := h.1.lst
   cases hl : s.l with
   | nil => simp [hM, hl] at hg
   | cons a r =>
     simp [hM, hl] at hg
     rw [← hg.2.1]
     rw [hl] at hA
     exact (hA.ok a List.mem_cons_self).va
 keep F G s u u' h hb hF hG hG2 := by
   have hl := h.1.blk.lt
   obtain ⟨sp, n, cap, hc, -⟩ := h.1.lst
   refine ⟨h.1.frame (hb.mono hN) (hF gE hl (fun e => (h.2 gE e).2.1 rfl)) (hF gC hc.lt (fun e => (h.2 gC e).2.2.1 rfl)), fun b hb' => ?_⟩
   have hc' := hc.lt
   have := h.1.leE
   rcases hG b hb' with e | e
   · obtain ⟨-, h2, h3, h4⟩ := h.2 b e
     exact ⟨hG2 b hb', h2, h3, h4⟩
   · exact ⟨hG2 b hb', by omega, by omega, by omega⟩
 rkg x s v s' h := Nat.zero_le _
 rks x y s s' h := Nat.zero_le _
 get F s u x h hx _ := by
   have hB := Nat.le_trans hE0 (Nat.le_of_lt h.1.blk.lt)
   have hF : ∀ b, F b → b < u.heap.size ∧ b ≠ gE ∧ b ≠ gC := fun b hb => ⟨(h.2 b hb).1, (h.2 b hb).2.1, (h.2 b hb).2.2.1⟩
   by_cases hc : ∃ a r, s.l = a :: r ∧ okA d s.rt x a.acc = true
   · obtain ⟨a, r, h1, h2⟩ := hc
     have hE := h.1
     rw [h1] at hE
     obtain ⟨sp, n, cap, hc', hA⟩ := hE.lst
     refine (eget_ok u hE hx h2).mono ?_
     rintro e w' ⟨rfl, h3, h4⟩
     exact ⟨h3.bel hE0 hC0 hB, h3.kp hF, .inl ⟨a.va, { s with l := r }, by simp [hM, h1, h2], (hA.ok a List.mem_cons_self).va, rfl, h4, fun b hb => ⟨Nat.lt_of_lt_of_le (h.2 b hb).1 h3.size, (h.2 b hb).2⟩⟩⟩
   · have hno : noA d s.rt x s.l := fun a r e => by
       cases hk : okA d s.rt x a.acc with
       | false => rfl
       | true => exact absurd ⟨a, r, e, hk⟩ hc
     refine (eget_no u h.1 hx hno).mono ?_
     rintro e w' ⟨rfl, h3⟩
     refine ⟨h3.bel hE0 hC0 hB, h3.kp hF, .inr ⟨?_, rfl⟩⟩
     simp only [hM]
     split
     · rfl
     · next a r e => rw [hno a r e]; rfl
 set F s u x y h hx hy _ := by
   have hB := Nat.le_trans hE0 (Nat.le_of_lt h.1.blk.lt)
   have hF : ∀ b, F b → b < u.heap.size ∧ b ≠ gE ∧ b ≠ gC := fun b hb => ⟨(h.2 b hb).1, (h.2 b hb).2.1, (h.2 b hb).2.2.1⟩
   by_cases hc : ∃ a r, s.l = a :: r ∧ okA d s.rt x a.acc = true
   · obtain ⟨a, r, h1, h2⟩ := hc
     have hE := h.1
     rw [h1] at hE
     refine (eset_ok u hE hx hy h2).mono ?_
     rintro e w' ⟨rfl, h3, h4⟩
     exact ⟨h3.bel hE0 hC0 hB, h3.kp hF, .inl ⟨{ s with l := r, rt := fo x.toNat (lw y) a.pa }, by simp [hM, h1, h2], rfl, h4, fun b hb => ⟨Nat.lt_of_lt_of_le (h.2 b hb).1 h3.size, (h.2 b hb).2⟩⟩⟩
   · have hno : noA d s.rt x s.l := fun a r e => by
       cases hk : okA d s.rt x a.acc with
       | false => rfl
       | true => exact absurd ⟨a, r, e, hk⟩ hc
     refine (eset_no u h.1 hx hno).mono ?_
     rintro e w' ⟨rfl, h3⟩
     refine ⟨h3.bel hE0 hC0 hB, h3.kp hF, .inr ⟨?_, rfl⟩⟩
     simp only [hM]
     split
     · rfl
     · next a r e => rw [hno a r e]; rfl
 pre F s u X h hX := by
   have hB := Nat.le_trans hE0 (Nat.le_of_lt h.1.blk.lt)
   have hF : ∀ b, F b → b < u.heap.size ∧ b ≠ gE ∧ b ≠ gC := fun b hb => ⟨(h.2 b hb).1, (h.2 b hb).2.1, (h.2 b hb).2.2.1⟩
   by_cases hc : shl pre = X
   · refine (epre_ok u h.1 hX hc).mono ?_
     rintro e w' ⟨rfl, h3, h4⟩
     exact ⟨h3.bel hE0 hC0 hB, h3.kp hF, .inl ⟨pre, { s with q := true }, sb, nb, cb, by simp [hM, hc], rfl, h4.pre.here, h4, fun b hb => ⟨Nat.lt_of_lt_of_le (h.2 b hb).1 h3.size, (h.2 b hb).2⟩⟩⟩
   · refine (epre_no u h.1 hX hc).mono ?_
     rintro e w' ⟨rfl, h3⟩
     exact ⟨h3.bel hE0 hC0 hB, h3.kp hF, .inr ⟨by simp [hM, hc], rfl⟩⟩
end Go.Proofs.YtagebcbnenehfaaGreat

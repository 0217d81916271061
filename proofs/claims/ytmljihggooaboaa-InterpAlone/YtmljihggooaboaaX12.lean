/- Iw0, Iw, Ix0, Iy0, Ix. -/
import Derived.Test.YtmljihggooaboaaX09
import Derived.Handy
import Derived.BigQuiet
import Derived.BigRegion
import Derived.Laws.MakeOwn
/- Layer interp: a run, by thinking. -/
namespace Go.Proofs.Ytmljihggooaboaa
open Go.RowKit
set_option maxRecDepth 100000
set_option linter.unusedVariables false
set_option linter.unusedSimpArgs false

/-- Statements in turn. -/
def runL {α : Type} (F : α → SS → RR) : List α → SS → RR
  | [], s => ⟨0, 0, s⟩
  | t :: l, s => if (F t s).k = 0 then runL F l (F t s).s else F t s
/-- What a run looks at, but its own state. -/
structure Env where
  fs : List FuT
  hsh : List Int → Int → Int → Int → Int → Option (List Int)
  prm : List Int → Int → Option (List Int)
  pce : List Int → Int → Int
def SS.setV (s : SS) (v : Int) (x : Int) : SS := ⟨s.W, s.V.set v.toNat x, s.lf⟩
/-- A call's end, for who called. -/
def back (s : SS) (v : Int) (r : RR) : RR :=
  if r.k = 0 then ⟨0, 0, ⟨r.s.W, s.V.set v.toNat 0, r.s.lf⟩⟩
  else if r.k = 1 then ⟨0, 0, ⟨r.s.W, s.V.set v.toNat r.x, r.s.lf⟩⟩
  else ⟨r.k, 0, ⟨r.s.W, s.V, r.s.lf⟩⟩
/-- What a function begins with. -/
def fr0 (s : SS) (v : Int) (L : List Int) : SS := ⟨s.W, L ++ List.replicate (v.toNat - L.length) 0, s.lf⟩
/-- A statement behind its fuel and its arguments: B its parts, A itself once more, C a function's body. -/
def one (E : Env) {α : Type} (B : List α → SS → RR) (A : SS → RR) (C : List (StT 8) → SS → RR) (t : StN α) (L : List Int) (s : SS) : RR :=
  if t.k = 1 then ⟨0, 0, s.setV t.v (L.getD 0 0)⟩
  else if t.k = 2 then (if L.getD 0 0 < s.W.length then ⟨0, 0, ⟨s.W.set (L.getD 0 0).toNat (L.getD 1 0), s.V, s.lf⟩⟩ else ⟨2, 0, s⟩)
  else if t.k = 3 then B (if L.getD 0 0 = 0 then t.el else t.th) s
  else if t.k = 4 then (if L.getD 0 0 = 0 then ⟨0, 0, s⟩ else if (B t.th s).k = 0 then A (B t.th s).s else B t.th s)
  else if t.k = 5 then ⟨1, L.getD 0 0, s⟩
  else if t.k = 6 then back s t.v (C ((E.fs[t.f.toNat]?).elim [] FuT.b) (fr0 s ((E.fs[t.f.toNat]?).elim 0 FuT.v) L))
  else if t.k = 7 then (match E.hsh s.W t.t (L.getD 0 0) (L.getD 1 0) (L.getD 2 0) with | none => ⟨2, 0, s⟩ | some W => ⟨0, 0, ⟨W, s.V, s.lf⟩⟩)
  else if t.k = 8 then (match E.prm s.W (L.getD 0 0) with | none => ⟨2, 0, s⟩ | some b => ⟨0, 0, s.setV t.v (E.pce b (L.getD 1 0))⟩)
  else (match E.prm s.W (L.getD 0 0) with | none => ⟨2, 0, s⟩ | some b => ⟨0, 0, s.setV t.v b.length⟩)
/-- A statement, with gas as much as there is fuel. -/
def stm (E : Env) : Nat → (d : Nat) → StT d → SS → RR
  | 0 => fun _ _ s => ⟨3, 0, s⟩
  | G + 1 => fun d t s => match d, t with
    | 0, _ => ⟨3, 0, s⟩
    | d + 1, t => if s.lf = 0 then ⟨3, 0, s⟩ else match evs s.W s.V 8 (StN.a (α := StT d) t) with
      | none => ⟨2, 0, ⟨s.W, s.V, s.lf - 1⟩⟩
      | some L => one E (runL (stm E G d)) (stm E G (d + 1) t) (runL (stm E G 8)) (show StN (StT d) from t) L ⟨s.W, s.V, s.lf - 1⟩
theorem RR.end_on {r : RR} (h : r.k = 0) : r.end = .returned (.tuple #[]) := by unfold RR.end; rw [if_pos h]
theorem RR.end_off {r : RR} (h : r.k ≠ 0) : ∃ v, r.end = .panicked v := by
  unfold RR.end
  rw [if_neg h]
  split
  · exact ⟨_, rfl⟩
  · split
    · exact ⟨_, rfl⟩
    · exact ⟨_, rfl⟩
/-- What a call of a statement, of statements leaves. -/
def KP (K : SS → World → Prop) (P : Nat → Prop) (r : RR) (w : World) (e : Ending) (w' : World) : Prop := e = r.end ∧ K r.s w' ∧ Ch P w w'
theorem runL_drop {α : Type} {F : α → SS → RR} {l : List α} {j : Nat} {t : α} (h : l[j]? = some t) (s : SS) : runL F (l.drop j) s = if (F t s).k = 0 then runL F (l.drop (j + 1)) (F t s).s else F t s := by
  obtain ⟨hj, rfl⟩ := List.getElem?_eq_some_iff.1 h
  rw [List.drop_eq_getElem_cons hj]
  rfl
end Go.Proofs.Ytmljihggooaboaa
/- Layer interp: statements, whatever they come to. -/
namespace Go.Proofs.Ytmljihggooaboaa
open Go.RowKit
set_option maxRecDepth 100000
set_option linter.unusedVariables false
set_option linter.unusedSimpArgs false

variable {N gr gw n : Nat} {gv nv : Nat} {d : Nat}
set_option maxHeartbeats 1000000 in
theorem stmts_any {sp : Option Addr} {m cap : Nat} {l : List (StT d)} (K : SS → World → Prop) (hK : ∀ s u u', K s u → Below u.heap.size u u' → K s u') (P : Nat → Prop) (hP : ∀ k, P k → N ≤ k) (F : StT d → SS → RR) (s0 : SS) (w : World) (hN : N ≤ w.heap.size) (hI : K s0 w) (hS : RS N w 7 (StM N w d) sp m cap l)
    (hst : ∀ t ∈ l, ∀ (s : SS) (u : World) (cs : List Value), N ≤ u.heap.size → K s u → StM N u d cs t → Calls Try.prog 35 (stArgs gr gv nv cs) u (KP K P (F t s) u)) :
    Calls Try.prog 27 #[.pointer (some ⟨gr, 0, none⟩), .slice sp m cap, .slice (some ⟨gv, 0, none⟩) nv nv] w (KP K P (runL F l s0) w) := by
  have hlen := hS.len
  have hsm := hS.small
  obtain ⟨R, hR0⟩ : ∃ R, runL F l s0 = R := ⟨_, rfl⟩
  rw [hR0]
  go_enter Try.func27, Try.ntmps27
  go_upto_region 1 with fail
  go_loopw [10] (fun i wr => ∃ (j : Nat) (s : SS), i = .int .i64 (j : Int) ∧ j ≤ m ∧ K s wr ∧ Ch P w wr ∧ Hid (runL F (l.drop j) s = R))
    (fun i _ => m - (intOf i).toNat)
  case atStart => exact ⟨0, s0, rfl, by omega, hI, Ch.refl _ _, hid hR0⟩
  case round =>
    obtain ⟨j, s, rfl, hj, hIj, hc, hr⟩ := hrel
    have hlow : Below N w wr := hc.bl fun i hi => ⟨by omega, fun h => by have := hP i h; omega⟩
    by_cases hlt : j < m
    · obtain ⟨t, ht⟩ : ∃ t, l[j]? = some t := ⟨l[j]'(by rw [← hlen.out]; exact hlt), List.getElem?_eq_getElem _⟩
      obtain ⟨g, off, rfl, hg, hR⟩ := hS.at0 (by omega)
      obtain ⟨cs, hrg, hM⟩ := hR j t ht
      have hrg2 := rb hrg hlow hg
      have hM2 := StM.below hlow d cs t hM
      obtain ⟨xk, xv, xf, xt, xa, ya, za, xb, yb, zb, xc, yc, zc, rfl⟩ := hM.cells
      have c0 := hrg2 0 _ rfl
      have c1 := hrg2 1 _ rfl
      have c2 := hrg2 2 _ rfl
      have c3 := hrg2 3 _ rfl
      have c4 := hrg2 4 _ rfl
      have c5 := hrg2 5 _ rfl
      have c6 := hrg2 6 _ rfl
      simp only [Nat.add_zero] at c0
      have hlt' : (j : Int) < m := by omega
      have h0 : (0 : Int) ≤ j := by omega
      have hs := hlow.size
      have b1 := ab wr (.cells (stC xk xv xf xt (.slice xa ya za) (.slice xb yb zb) (.slice xc yc zc)).toArray 78)
      have hcc := hst t (List.mem_of_getElem? ht) s _ _ (by have := b1.size; omega) (hK _ _ _ hIj b1) (StM.below (b1.mono (by omega)) d _ t hM2)
      have hc1 := hc.trans (Ch.ob b1)
      have hrr := hr.out
      rw [runL_drop ht] at hrr
      clear hS hR hrg hrg2 hM hM2 hst hlen ht hI hIj hr hR0
      unfold stArgs at hcc
      unfold stC at *
      by_cases hk : (F t s).k = 0
      · have hr2 : Hid (runL F (l.drop (j + 1)) (F t s).s = R) := hid (by rw [if_pos hk] at hrr; exact hrr)
        have hee := RR.end_on hk
        clear hrr hk
        go_wp2_with (go_at_call 35; go_must (refine hcc.mono ?_; rintro e w1 ⟨he, hI1, hc2⟩; replace he := he.trans hee; subst he))
        go_roundw
        case rel => exact ⟨j + 1, _, by go_num, by omega, hI1, hc1.trans hc2, hr2⟩
        case measure => simp [intOf]; omega
      · rw [if_neg hk] at hrr
        obtain ⟨pv, hee⟩ := RR.end_off hk
        have hee2 : R.end = .panicked pv := by rw [← hrr]; exact hee
        have hrS : Hid ((F t s).s = R.s) := hid (by rw [hrr])
        clear hrr hk
        go_wp2_with (go_at_call 35; go_must (refine hcc.mono ?_; rintro e w1 ⟨he, hI1, hc2⟩; replace he := he.trans hee; subst he))
        exact ⟨rfl, hee2.symm, by rw [← hrS.out]; exact hI1, hc1.trans hc2⟩
    · obtain rfl : j = m := by omega
      have hrr := hr.out
      rw [List.drop_eq_nil_of_le (by rw [hlen.out]; exact Nat.le_refl _)] at hrr
      have hR1 : (⟨0, 0, s⟩ : RR) = R := hrr
      clear hS hlen hst hr hrr hR0
      go_wp2_with fail
      go_end0
      subst hR1
      exact ⟨rfl, hIj, hc⟩
end Go.Proofs.Ytmljihggooaboaa
/- Layer interp: what stays all through a run. -/
namespace Go.Proofs.Ytmljihggooaboaa
open Go.RowKit
set_option maxRecDepth 100000
set_option linter.unusedVariables false
set_option linter.unusedSimpArgs false

/-- What stays all through a run: X is what is said of the preimages. -/
structure KI (X : World → Prop) (Z N gr gw n : Nat) (p0 p1 kv mv : Value) (gv nv : Nat) (s : SS) (w : World) : Prop where
  st : StI N gr gw n p0 p1 kv mv gv nv s.W s.V s.lf w
  x : X w
  z : Z ≤ gv
  lf : s.lf ≤ 4194304
def PP (gr gw gm gv k : Nat) : Prop := k = gr ∨ k = gw ∨ k = gm ∨ k = gv
/-- No bytes stand there. -/
def NB (u : World) (k : Nat) : Prop := ∀ C, ¬ Arr u k 5 C
theorem nb_of {w : World} {g ty : Nat} {C0 : Array Value} (h : Arr w g ty C0) (ht : ty ≠ 5) : NB w g := fun C h5 => ht (by have := h.symm.trans h5; injection this with this; injection this)
/-- X hears of nothing but the blocks ahead of Z and bytes, and not of the runner and its words. -/
def XK (X : World → Prop) (Z gr gw : Nat) : Prop := ∀ u u', X u → Z ≤ u.heap.size → Ch (fun k => k = gr ∨ k = gw ∨ (Z ≤ k ∧ NB u k)) u u' → X u'
variable {X : World → Prop} {Z N gr gw n gm : Nat} {p0 p1 kv mv : Value} {gv nv : Nat} {s : SS}
theorem Ch.imp {P Q : Nat → Prop} {u u' : World} (h : Ch P u u') (hPQ : ∀ k, P k → Q k) : Ch Q u u' := h.mono fun i _ => hPQ i
theorem KI.zz {w : World} (h : KI X Z N gr gw n p0 p1 kv mv gv nv s w) : Z ≤ w.heap.size := by have := h.z; have := h.st.var.av.lt; omega
theorem KI.bl (hX : XK X Z gr gw) {w w' : World} (h : KI X Z N gr gw n p0 p1 kv mv gv nv s w) (hb : Below w.heap.size w w') : KI X Z N gr gw n p0 p1 kv mv gv nv s w' :=
  ⟨h.st.bl hb, hX _ _ h.x h.zz (Ch.ob hb), h.z, h.lf⟩
/-- From what a statement without preimages leaves. -/
theorem KI.of (hX : XK X Z gr gw) {r : RR} {w : World} (h : KI X Z N gr gw n p0 p1 kv mv gv nv s w) (hl : r.s.lf ≤ s.lf) {e : Ending} {w' : World} (hp : StP N gr gw n p0 p1 kv mv gv nv r w e w') : KP (KI X Z N gr gw n p0 p1 kv mv gv nv) (PP gr gw gm gv) r w e w' :=
  ⟨hp.1, ⟨hp.2.1, hX _ _ h.x h.zz (hp.2.2.imp fun k hk => by rcases hk with hk | hk | hk; exact .inl hk; exact .inr (.inl hk); exact .inr (.inr (by subst hk; exact ⟨h.z, nb_of h.st.var.av (by omega)⟩))), h.z, by have := h.lf; omega⟩, hp.2.2.imp fun k hk => by rcases hk with hk | hk | hk; exact .inl hk; exact .inr (.inl hk); exact .inr (.inr (.inr hk))⟩
theorem KI.low {w w' : World} (h : KI X Z N gr gw n p0 p1 kv mv gv nv s w) (hm : N ≤ gm) (hN : N ≤ w.heap.size) (hc : Ch (PP gr gw gm gv) w w') : Below N w w' :=
  hc.bl fun i hi => ⟨by omega, by have := h.st.l1; have := h.st.l2; have := h.st.l3; rintro (e | e | e | e) <;> omega⟩
end Go.Proofs.Ytmljihggooaboaa
/- Layer interp: fuel goes down. -/
namespace Go.Proofs.Ytmljihggooaboaa
open Go.RowKit
set_option maxRecDepth 100000
set_option linter.unusedVariables false
set_option linter.unusedSimpArgs false

variable {E : Env}
theorem runL_lf {α : Type} {F : α → SS → RR} (hF : ∀ t s, (F t s).s.lf ≤ s.lf) : ∀ (l : List α) (s : SS), (runL F l s).s.lf ≤ s.lf
  | [], s => Nat.le_refl _
  | t :: l, s => by
    unfold runL
    split
    · exact Nat.le_trans (runL_lf hF l _) (hF t s)
    · exact hF t s
theorem back_lf (s : SS) (v : Int) (r : RR) : (back s v r).s.lf = r.s.lf := by
  unfold back
  split
  · rfl
  · split <;> rfl
theorem one_lf {α : Type} {B : List α → SS → RR} {A : SS → RR} {C : List (StT 8) → SS → RR} (hB : ∀ l s, (B l s).s.lf ≤ s.lf) (hA : ∀ s, (A s).s.lf ≤ s.lf) (hC : ∀ l s, (C l s).s.lf ≤ s.lf) (t : StN α) (L : List Int) (s : SS) : (one E B A C t L s).s.lf ≤ s.lf := by
  unfold one
  by_cases h1 : t.k = 1
  · rw [if_pos h1]; exact Nat.le_refl _
  rw [if_neg h1]
  by_cases h2 : t.k = 2
  · rw [if_pos h2]; split <;> exact Nat.le_refl _
  rw [if_neg h2]
  by_cases h3 : t.k = 3
  · rw [if_pos h3]; exact hB _ _
  rw [if_neg h3]
  by_cases h4 : t.k = 4
  · rw [if_pos h4]
    split
    · exact Nat.le_refl _
    · split
      · exact Nat.le_trans (hA _) (hB _ _)
      · exact hB _ _
  rw [if_neg h4]
  by_cases h5 : t.k = 5
  · rw [if_pos h5]; exact Nat.le_refl _
  rw [if_neg h5]
  by_cases h6 : t.k = 6
  · rw [if_pos h6, back_lf]; exact hC _ _
  rw [if_neg h6]
  by_cases h7 : t.k = 7
  · rw [if_pos h7]; split <;> exact Nat.le_refl _
  rw [if_neg h7]
  by_cases h8 : t.k = 8
  · rw [if_pos h8]; split <;> exact Nat.le_refl _
  rw [if_neg h8]
  split <;> exact Nat.le_refl _
theorem stm_lf : ∀ (G d : Nat) (t : StT d) (s : SS), (stm E G d t s).s.lf ≤ s.lf
  | 0, d, t, s => Nat.le_refl _
  | G + 1, 0, t, s => Nat.le_refl _
  | G + 1, d + 1, t, s => by
    unfold stm
    show (if s.lf = 0 then (⟨3, 0, s⟩ : RR) else _).s.lf ≤ s.lf
    split
    · exact Nat.le_refl _
    · split
      · exact Nat.sub_le _ _
      · exact Nat.le_trans (one_lf (runL_lf (stm_lf G d)) (stm_lf G (d + 1) t) (runL_lf (stm_lf G 8)) _ _ _) (Nat.sub_le _ _)
theorem stm_sp {G d : Nat} (t : StT d) (s : SS) (h : s.lf = 0) : stm E G d t s = ⟨3, 0, s⟩ := by
  cases G with
  | zero => rfl
  | succ G => cases d with
    | zero => rfl
    | succ d => unfold stm; exact if_pos h
theorem stm_tr {G d k : Nat} {t : StT (d + 1)} {W V : List Int} (h : evs W V 8 t.nd.a = none) : stm E (G + 1) (d + 1) t ⟨W, V, k + 1⟩ = ⟨2, 0, ⟨W, V, k⟩⟩ := by
  unfold stm
  show (if k + 1 = 0 then _ else match evs W V 8 t.nd.a with | none => _ | some L => _) = _
  rw [if_neg (by omega), h]
  rfl
theorem stm_on {G d k : Nat} {t : StT (d + 1)} {W V L : List Int} (h : evs W V 8 t.nd.a = some L) : stm E (G + 1) (d + 1) t ⟨W, V, k + 1⟩ = one E (runL (stm E G d)) (stm E G (d + 1) t) (runL (stm E G 8)) t.nd L ⟨W, V, k⟩ := by
  conv => lhs; unfold stm
  show (if k + 1 = 0 then _ else match evs W V 8 t.nd.a with | none => _ | some L => _) = _
  rw [if_neg (by omega), h]
  rfl
theorem one_4 {α : Type} {B : List α → SS → RR} {A : SS → RR} {C : List (StT 8) → SS → RR} {t : StN α} {x : Int} {s : SS} (h : t.k = 4) : one E B A C t [x] s = if x = 0 then ⟨0, 0, s⟩ else if (B t.th s).k = 0 then A (B t.th s).s else B t.th s := by
  unfold one
  rw [if_neg (by omega), if_neg (by omega), if_neg (by omega), if_pos h]
  rfl
end Go.Proofs.Ytmljihggooaboaa
/- Layer interp: a choice, a return. -/
namespace Go.Proofs.Ytmljihggooaboaa
open Go.RowKit
set_option maxRecDepth 100000
set_option linter.unusedVariables false
set_option linter.unusedSimpArgs false

variable {X : World → Prop} {Z N gr gw n gm : Nat} {p0 p1 kv mv : Value} {gv nv : Nat} {W V : List Int} {d k : Nat} {t : StT (d + 1)} {cs : List Value} {ps : List Int}
set_option maxHeartbeats 1000000 in
theorem stmt_ret {x : Int} (w : World) (hN : N ≤ w.heap.size) (hX : XK X Z gr gw) (h : KI X Z N gr gw n p0 p1 kv mv gv nv ⟨W, V, k + 1⟩ w) (hM : StM N w (d + 1) cs t) (hok : okS ps nv (d + 1) t) (hps : ∀ p ∈ ps, p ≤ 64) (h1 : t.nd.k = 5) (hev : evs W V 8 t.nd.a = some [x]) :
    Calls Try.prog 35 (stArgs gr gv nv cs) w (KP (KI X Z N gr gw n p0 p1 kv mv gv nv) (PP gr gw gm gv) ⟨1, x, ⟨W, V, k⟩⟩ w) := by
  refine Calls.mono (R := StP N gr gw n p0 p1 kv mv gv nv ⟨1, x, ⟨W, V, k⟩⟩ w) ?_ (fun e w' hp => h.of hX (by simp) hp)
  obtain ⟨hmy, hoa, -, -⟩ := okS_s hok
  obtain ⟨sa, na, ca, sb, nb, cb, sc, nc, cc, hcs, hk0, hSa, hSb, hSc⟩ := hM
  rw [h1] at hcs
  subst hcs
  have hI := h.st
  replace hI : StI N gr gw n p0 p1 kv mv gv nv W V ((k + 1 : Nat) : Int) w := hI
  have hk : k ≤ 4194304 := by have := h.lf; simp at this; omega
  have b0 := ab w (.cells (stC 5 t.nd.v t.nd.f t.nd.t (.slice sa na ca) (.slice sb nb cb) (.slice sc nc cc)).toArray 78)
  have hI1 := hI.bl b0
  have hbn := burn_ok _ hI1.run hk
  obtain ⟨hI2, hvs⟩ := begun (k := k) _ (by simp; omega) hI1 (hSa.imp (b0.mono hN) (ExM.below (b0.mono hN) 8)) hoa (by rw [hSa.len.out]; exact fewS hps hmy)
  have A := (Arr.new w 78 (stC 5 t.nd.v t.nd.f t.nd.t (.slice sa na ca) (.slice sb nb cb) (.slice sc nc cc)).toArray).setOther (a := ⟨gr, 3, none⟩) (.int .i64 (k : Int)) (by have := hI.run.ar.lt; show w.heap.size ≠ gr; omega)
  have a4 := A.cell 4
  have hc : Ch (fun k => k = gr ∨ k = gw ∨ k = gv) w ((w.alloc (.cells (stC 5 t.nd.v t.nd.f t.nd.t (.slice sa na ca) (.slice sb nb cb) (.slice sc nc cc)).toArray 78)).setCell ⟨gr, 3, none⟩ (.int .i64 (k : Int))) := (Ch.ob b0).st _ (fun _ => .inl rfl)
  rw [hev] at hvs
  clear hI hSa hSb hSc hoa hmy hok hI1 h1 hev h hX
  unfold stArgs
  generalize hQ : ((w.alloc (.cells (stC 5 t.nd.v t.nd.f t.nd.t (.slice sa na ca) (.slice sb nb cb) (.slice sc nc cc)).toArray 78)).setCell ⟨gr, 3, none⟩ (.int .i64 (k : Int))) = Q at *
  unfold stC at *
  go_enter Try.func35, Try.ntmps35
  go_wp2_with (first
    | (go_at_call 42; go_must (refine hbn.mono ?_; rintro e w1 ⟨rfl, h, -⟩; replace h := h.symm; subst h))
    | (go_at_call 43; go_must (refine hvs.mono ?_; rintro e w2 ⟨hn, -, hb2⟩; obtain ⟨g, c, hn', hg, hcl, hlc, hgl⟩ := hn _ rfl; subst hn'; have A2 := A.bl hb2; have k0 := A2.cell 0; have x0 := hcl 0 x rfl; have hI3 := hI2.bl hb2)))
  exact ⟨rfl, rfl, hI3, hc.trans (Ch.ob hb2)⟩
set_option maxHeartbeats 2000000 in
theorem stmt_if {x : Int} {B : RR} (w : World) (hN : N ≤ w.heap.size) (hX : XK X Z gr gw) (h : KI X Z N gr gw n p0 p1 kv mv gv nv ⟨W, V, k + 1⟩ w) (hM : StM N w (d + 1) cs t) (hok : okS ps nv (d + 1) t) (hps : ∀ p ∈ ps, p ≤ 64) (h1 : t.nd.k = 3) (hev : evs W V 8 t.nd.a = some [x])
    (hB : ∀ (u : World) (sp : Option Addr) (m cap : Nat), N ≤ u.heap.size → KI X Z N gr gw n p0 p1 kv mv gv nv ⟨W, V, k⟩ u → RS N u 7 (StM N u d) sp m cap (if x = 0 then t.nd.el else t.nd.th) → Calls Try.prog 27 #[.pointer (some ⟨gr, 0, none⟩), .slice sp m cap, .slice (some ⟨gv, 0, none⟩) nv nv] u (KP (KI X Z N gr gw n p0 p1 kv mv gv nv) (PP gr gw gm gv) B u)) :
    Calls Try.prog 35 (stArgs gr gv nv cs) w (KP (KI X Z N gr gw n p0 p1 kv mv gv nv) (PP gr gw gm gv) B w) := by
  obtain ⟨hmy, hoa, -, -⟩ := okS_s hok
  obtain ⟨sa, na, ca, sb, nb, cb, sc, nc, cc, hcs, hk0, hSa, hSb, hSc⟩ := hM
  rw [h1] at hcs
  subst hcs
  have hI := h.st
  replace hI : StI N gr gw n p0 p1 kv mv gv nv W V ((k + 1 : Nat) : Int) w := hI
  have hk : k ≤ 4194304 := by have := h.lf; simp at this; omega
  have b0 := ab w (.cells (stC 3 t.nd.v t.nd.f t.nd.t (.slice sa na ca) (.slice sb nb cb) (.slice sc nc cc)).toArray 78)
  have hI1 := hI.bl b0
  have hbn := burn_ok _ hI1.run hk
  obtain ⟨hI2, hvs⟩ := begun (k := k) _ (by simp; omega) hI1 (hSa.imp (b0.mono hN) (ExM.below (b0.mono hN) 8)) hoa (by rw [hSa.len.out]; exact fewS hps hmy)
  have A := (Arr.new w 78 (stC 3 t.nd.v t.nd.f t.nd.t (.slice sa na ca) (.slice sb nb cb) (.slice sc nc cc)).toArray).setOther (a := ⟨gr, 3, none⟩) (.int .i64 (k : Int)) (by have := hI.run.ar.lt; show w.heap.size ≠ gr; omega)
  have a4 := A.cell 4
  have hc : Ch (fun k => k = gr ∨ k = gw ∨ k = gv) w ((w.alloc (.cells (stC 3 t.nd.v t.nd.f t.nd.t (.slice sa na ca) (.slice sb nb cb) (.slice sc nc cc)).toArray 78)).setCell ⟨gr, 3, none⟩ (.int .i64 (k : Int))) := (Ch.ob b0).st _ (fun _ => .inl rfl)
  have hlowQ := hI.low hN hc
  have hKQ : ∀ u, Below _ _ u → KI X Z N gr gw n p0 p1 kv mv gv nv ⟨W, V, k⟩ u := fun u hb => (KI.of (gm := 0) hX h (r := ⟨0, 0, ⟨W, V, k⟩⟩) (by simp) ⟨rfl, hI2, hc⟩).2.1.bl hX hb
  have hcP : ∀ u, Below _ _ u → Ch (PP gr gw gm gv) w u := fun u hb => (hc.imp fun k hk => by rcases hk with hk | hk | hk; exact .inl hk; exact .inr (.inl hk); exact .inr (.inr (.inr hk))).trans (Ch.ob hb)
  rw [hev] at hvs
  clear hI hSa hoa hmy hok hI1 h1 hev h
  unfold stArgs
  generalize hQ : ((w.alloc (.cells (stC 3 t.nd.v t.nd.f t.nd.t (.slice sa na ca) (.slice sb nb cb) (.slice sc nc cc)).toArray 78)).setCell ⟨gr, 3, none⟩ (.int .i64 (k : Int))) = Q at *
  unfold stC at *
  by_cases hx : x = 0
  · subst hx
    rw [if_pos rfl] at hB
    by_cases hBk : B.k = 0
    · have hee := RR.end_on hBk
      clear hBk
      go_enter Try.func35, Try.ntmps35
      go_wp2_with (first
        | (go_at_call 42; go_must (refine hbn.mono ?_; rintro e w1 ⟨rfl, h, -⟩; replace h := h.symm; subst h))
        | (go_at_call 43; go_must (refine hvs.mono ?_; rintro e w2 ⟨hn, -, hb2⟩; obtain ⟨g, c, hn', hg, hcl, hlc, hgl⟩ := hn _ rfl; subst hn'; have A2 := A.bl hb2; have k0 := A2.cell 0; have kf := A2.cell 6; have x0 := hcl 0 _ rfl; have hlw := hlowQ.trans (hb2.mono (by have := hlowQ.size; omega)); have hcc := hB w2 sc nc cc (by have := hlw.size; omega) (hKQ _ hb2) (hSc.imp hlw (StM.below hlw d)); have hc2 := hcP _ hb2))
        | (go_at_call 27; go_must (refine hcc.mono ?_; rintro e w3 ⟨he, hK3, hc3⟩; replace he := he.trans hee; subst he)))
      go_end0
      exact ⟨hee.symm, hK3, hc2.trans hc3⟩
    · obtain ⟨pv, hee⟩ := RR.end_off hBk
      clear hBk
      go_enter Try.func35, Try.ntmps35
      go_wp2_with (first
        | (go_at_call 42; go_must (refine hbn.mono ?_; rintro e w1 ⟨rfl, h, -⟩; replace h := h.symm; subst h))
        | (go_at_call 43; go_must (refine hvs.mono ?_; rintro e w2 ⟨hn, -, hb2⟩; obtain ⟨g, c, hn', hg, hcl, hlc, hgl⟩ := hn _ rfl; subst hn'; have A2 := A.bl hb2; have k0 := A2.cell 0; have kf := A2.cell 6; have x0 := hcl 0 _ rfl; have hlw := hlowQ.trans (hb2.mono (by have := hlowQ.size; omega)); have hcc := hB w2 sc nc cc (by have := hlw.size; omega) (hKQ _ hb2) (hSc.imp hlw (StM.below hlw d)); have hc2 := hcP _ hb2))
        | (go_at_call 27; go_must (refine hcc.mono ?_; rintro e w3 ⟨he, hK3, hc3⟩; replace he := he.trans hee; subst he)))
      exact ⟨rfl, hee.symm, hK3, hc2.trans hc3⟩
  · rw [if_neg hx] at hB
    by_cases hBk : B.k = 0
    · have hee := RR.end_on hBk
      clear hBk
      go_enter Try.func35, Try.ntmps35
      go_wp2_with (first
        | (go_at_call 42; go_must (refine hbn.mono ?_; rintro e w1 ⟨rfl, h, -⟩; replace h := h.symm; subst h))
        | (go_at_call 43; go_must (refine hvs.mono ?_; rintro e w2 ⟨hn, -, hb2⟩; obtain ⟨g, c, hn', hg, hcl, hlc, hgl⟩ := hn _ rfl; subst hn'; have A2 := A.bl hb2; have k0 := A2.cell 0; have kf := A2.cell 5; have x0 := hcl 0 _ rfl; have hlw := hlowQ.trans (hb2.mono (by have := hlowQ.size; omega)); have hcc := hB w2 sb nb cb (by have := hlw.size; omega) (hKQ _ hb2) (hSb.imp hlw (StM.below hlw d)); have hc2 := hcP _ hb2))
        | (go_at_call 27; go_must (refine hcc.mono ?_; rintro e w3 ⟨he, hK3, hc3⟩; replace he := he.trans hee; subst he)))
      go_end0
      exact ⟨hee.symm, hK3, hc2.trans hc3⟩
    · obtain ⟨pv, hee⟩ := RR.end_off hBk
      clear hBk
      go_enter Try.func35, Try.ntmps35
      go_wp2_with (first
        | (go_at_call 42; go_must (refine hbn.mono ?_; rintro e w1 ⟨rfl, h, -⟩; replace h := h.symm; subst h))
        | (go_at_call 43; go_must (refine hvs.mono ?_; rintro e w2 ⟨hn, -, hb2⟩; obtain ⟨g, c, hn', hg, hcl, hlc, hgl⟩ := hn _ rfl; subst hn'; have A2 := A.bl hb2; have k0 := A2.cell 0; have kf := A2.cell 5; have x0 := hcl 0 _ rfl; have hlw := hlowQ.trans (hb2.mono (by have := hlowQ.size; omega)); have hcc := hB w2 sb nb cb (by have := hlw.size; omega) (hKQ _ hb2) (hSb.imp hlw (StM.below hlw d)); have hc2 := hcP _ hb2))
        | (go_at_call 27; go_must (refine hcc.mono ?_; rintro e w3 ⟨he, hK3, hc3⟩; replace he := he.trans hee; subst he)))
      exact ⟨rfl, hee.symm, hK3, hc2.trans hc3⟩
end Go.Proofs.Ytmljihggooaboaa

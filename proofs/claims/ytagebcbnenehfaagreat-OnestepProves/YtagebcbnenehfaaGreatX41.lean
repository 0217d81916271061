/- Kt1, Ku, Kv0, Kw, Kx, Mas. -/
import Derived.Test.YtagebcbnenehfaaGreatX36
import Derived.Test.YtagebcbnenehfaaGreatX37
import Derived.Test.YtagebcbnenehfaaGreatX39
import Derived.Test.YtagebcbnenehfaaGreatX40
namespace Go.Proofs.YtagebcbnenehfaaGreat
open Go.RowKit
set_option maxRecDepth 100000
set_option linter.unusedVariables false
set_option linter.unusedSimpArgs false
set_option maxHeartbeats 40000000
def SgP {S : Type} (I : (Nat → Prop) → S → World → Prop) (B0 : Nat) (PV : List PanicEntry) (F : Nat → Prop) (r : Option (Mc × S)) (w : World) (e : Ending) (w' : World) : Prop :=
 Below B0 w w' ∧ Kp F w w' ∧ ((∃ m' s' sp n cap, r = some (m', s') ∧ e = .returned (.agg (mcA m' sp n cap)) ∧ m'.rg.length = 16 ∧ (0 ≤ m'.st ∧ m'.st < 256) ∧ I F s' w') ∨ (r = none ∧ e = .panicked PV))
theorem step_trap (K : Bool) {S : Type} {H : Hd S} {I : (Nat → Prop) → S → World → Prop} {B0 : Nat} {ad : Addr} {PV : List PanicEntry} {F : Nat → Prop} {s : S} {p : Pf} {v1 v2 : Value} {d : Nat} (w : World)
   (M : Met (kfg K) (kfs K) (kfp K) H I B0 (.pointer (some ad)) PV) (hI : I F s w) (hp : p.ok) (hd : d ≤ 12) (hde : p.de = d) (hst : p.st = 0) {o i : Int} {a b c : Nat} {s1 : S} {L' : List Int} (ha : a < 16) (hb : b < 16) (hc : c < 16) (hio : 0 ≤ i ∧ i < 4294967296) (hft : ∀ (F' : Nat → Prop) (u : World) (gm : Nat), I F' s u → F' gm → MW u gm (List.replicate (2 ^ d) 0) → B0 ≤ gm → Calls Tryz.prog 77 #[.agg (mcA (cfg p) (some ⟨gm, 0, none⟩) (2 ^ d) (2 ^ d)), .iface (kty K) (.pointer (some ad))] u fun e w' => e = .returned (.agg (cdA o a b c i)) ∧ Below B0 u w' ∧ Kp (fun b => F' b ∧ b ≠ gm) u w' ∧ MW w' gm L' ∧ I F' s1 w')
   (hL : L'.length = 2 ^ d) (hU : ∀ k, U64 (L'.getD k 0)) {r1 q1 : Int} (htr : tch (cfg p) (2 ^ d) o a b c i = ((r1, 0), (q1, 0))) {m1 : Mc} (hx : (stp [] { cfg p with me := L' }).getD { cfg p with me := L', st := 2 } = { m1 with me := L' }) :
   Calls Tryz.prog 32 #[.agg (pfL p v1 v2).toArray, .iface (kty K) (.pointer (some ad))] w (SgP I B0 PV F (some (m1, s1)) w) := by
 have hok : Mc.ok { cfg p with me := L' } := ⟨hp.pc, hp.r16, hp.rg, hp.st, hU⟩
 refine (step_t K w M hI hp.r16 hp.rt hd hde hst hp.rg ha hb hc hio hft htr hok hL).mono ?_
 rintro e w' ⟨sp, n, cap, rfl, h1, h2, h3, h4⟩
 rw [tick_of hd hL hst, hx] at h1 ⊢
 exact ⟨h2, h3, .inl ⟨m1, s1, sp, n, cap, rfl, rfl, h1.r16, h1.st, h4⟩⟩
theorem hs_no {m : Mc} {L : List Int} {n : Nat} {i ra rb rc : Int} (hL : L.length = n) (h : ¬ hOk m n i ra rb rc = true) : hs { m with me := L } i ra rb rc = none := by
 unfold hs
 unfold hOk at h
 rw [decide_eq_true_eq] at h
 show (if 128 < rc then none else if ¬ ra + 4 ≤ (L.length : Int) then none else if ¬ (rc = 0 ∨ rb + (rc + 7) / 8 ≤ (L.length : Int)) then none else _) = none
 rw [hL]
 by_cases h1 : 128 < rc
 · rw [if_pos h1]
 rw [if_neg h1]
 by_cases h2 : ra + 4 ≤ (n : Int)
 · rw [if_neg (fun h' => h' h2)]
   by_cases h3 : rc = 0 ∨ rb + (rc + 7) / 8 ≤ (n : Int)
   · rw [if_neg (fun h' => h' h3)]
     cases h4 : mkL i with
     | none => rfl
     | some P => exact absurd ⟨by omega, h2, h3, by rw [h4]; rfl⟩ h
   · rw [if_pos h3]
 · rw [if_pos h2]
theorem step_do (K : Bool) {S : Type} {H : Hd S} {I : (Nat → Prop) → S → World → Prop} {B0 : Nat} {ad : Addr} {PV : List PanicEntry} {F : Nat → Prop} {s : S} {p : Pf} {v1 v2 : Value} {d : Nat} (w : World)
   (M : Met (kfg K) (kfs K) (kfp K) H I B0 (.pointer (some ad)) PV) (hI : I F s w) (hp : p.ok) (hd : d ≤ 12) (hde : p.de = d) (hst : p.st = 0) {o i : Int} {a b c : Nat} {s1 : S} {L' : List Int} (ha : a < 16) (hb : b < 16) (hc : c < 16) (hio : 0 ≤ i ∧ i < 4294967296) (hft : ∀ (F' : Nat → Prop) (u : World) (gm : Nat), I F' s u → F' gm → MW u gm (List.replicate (2 ^ d) 0) → B0 ≤ gm → Calls Tryz.prog 77 #[.agg (mcA (cfg p) (some ⟨gm, 0, none⟩) (2 ^ d) (2 ^ d)), .iface (kty K) (.pointer (some ad))] u fun e w' => e = .returned (.agg (cdA o a b c i)) ∧ Below B0 u w' ∧ Kp (fun b => F' b ∧ b ≠ gm) u w' ∧ MW w' gm L' ∧ I F' s1 w')
   (hL : L'.length = 2 ^ d) (hU : ∀ k, U64 (L'.getD k 0)) (hx : stp [] { cfg p with me := L' } = ex [] { cfg p with me := L' } o a b c i) (hrr : Hid (H.rk s1 + 100 ≤ 1000)) :
   Calls Tryz.prog 32 #[.agg (pfL p v1 v2).toArray, .iface (kty K) (.pointer (some ad))] w (SgP I B0 PV F (doG H (2 ^ d) (cfg p) o a b c i s1) w) := by
 have h12 := pow12 hd
 have hrg := hp.rg
 have hgb : U64 ((cfg p).get b) := hp.rg b
 have hga : U64 ((cfg p).get a) := hp.rg a
 have hgc : U64 ((cfg p).get c) := hp.rg c
 have hrs : ∀ v, ((cfg p).rg.set a v).length = 16 := fun v => by rw [List.length_set]; exact hp.r16
 have hst' : 0 ≤ p.st ∧ p.st < 256 := hp.st
 by_cases h17 : o = 17
 · subst h17
   by_cases hin : addr (cfg p) b i < (2 ^ d : Nat)
   · have htr := tch_17 (m := cfg p) (n := 2 ^ d) (i := i) (a := a) (b := b) (c := c)
     rw [if_pos hin] at htr
     have hx0 : 0 ≤ addr (cfg p) b i := by unfold addr; rw [IntKind.wrap_u64]; omega
     have hdo : doG H (2 ^ d) (cfg p) 17 a b c i s1 = (H.gt (addr (cfg p) b i) s1).bind fun q => some ((cfg p).put a q.1, q.2) := by unfold doG; rw [if_pos rfl, if_pos hin]
     rw [hdo]
     cases hg : H.gt (addr (cfg p) b i) s1 with
     | none =>
       have hn : getN H (addr (cfg p) b i) 1 s1 = none := by simp [getN, hg]
       refine (step_bnA K w M hI hp.r16 hp.rt hd hde hst hrg ha hb hc hio hft (k := 1) htr (Hid.mk' (by decide)) hx0 (fun _ => by omega) (by omega) (Hid.mk' (by have := hrr.out; omega)) hn).mono ?_
       rintro e w' ⟨rfl, h1, h2⟩
       exact ⟨h1, h2, .inr ⟨rfl, rfl⟩⟩
     | some q =>
       obtain ⟨v, s2⟩ := q
       have hn : getN H (addr (cfg p) b i) 1 s1 = some ([v], s2) := by simp [getN, hg]
       refine (step_moA K w M hI hp.r16 hp.rt hd hde hst hrg ha hb hc hio hft (k := 1) htr (Hid.mk' (by decide)) hx0 (fun _ => by omega) (by omega) (Hid.mk' (by have := hrr.out; omega)) (s3 := s2) (hrs v) hn (fun F' u g5 gB sp nn cap k1 k2 k3 k4 k5 k6 k7 => ?_)).mono ?_
       · exact move17_ K (q := (0, 0)) u M k1 k2 k4 k5 hp.r16 hrg ha hb hc k6 (by simp) rfl (by simp)
       · rintro e w' ⟨sp, n, cap, rfl, h1, h2, h3⟩
         exact ⟨h1, h2, .inl ⟨_, _, sp, n, cap, rfl, rfl, hrs v, hst', h3⟩⟩
   · have htr := tch_17 (m := cfg p) (n := 2 ^ d) (i := i) (a := a) (b := b) (c := c)
     rw [if_neg hin] at htr
     have hdo : doG H (2 ^ d) (cfg p) 17 a b c i s1 = some ((cfg p).trap, s1) := by unfold doG; rw [if_pos rfl, if_neg hin]
     rw [hdo]
     refine step_trap K w M hI hp hd hde hst ha hb hc hio hft hL hU htr ?_
     rw [hx]
     unfold ex
     rw [if_neg (by decide), if_neg (by decide), if_neg (by decide), if_neg (by decide), if_pos rfl, if_neg (by show ¬ addr (cfg p) b i < (L'.length : Int); rw [hL]; exact hin)]
     rfl
 by_cases h18 : o = 18
 · subst h18
   by_cases hin : addr (cfg p) b i < (2 ^ d : Nat)
   · have htr := tch_18 (m := cfg p) (n := 2 ^ d) (i := i) (a := a) (b := b) (c := c)
     rw [if_pos hin] at htr
     have hx0 : U64 (addr (cfg p) b i) := by unfold addr U64; rw [IntKind.wrap_u64]; omega
     have hdo : doG H (2 ^ d) (cfg p) 18 a b c i s1 = (H.st (addr (cfg p) b i) ((cfg p).get a) s1).bind fun q => some ((cfg p).nxt, q) := by unfold doG; rw [if_neg (by decide), if_pos rfl, if_pos hin]
     rw [hdo]
     cases hg : H.st (addr (cfg p) b i) ((cfg p).get a) s1 with
     | none =>
       refine (step_mnB K w M hI hp.r16 hp.rt hd hde hst hrg ha hb hc hio hft (k := 0) htr (Hid.mk' rfl) (Hid.mk' (by decide)) (by omega) (fun h => absurd h (by omega)) (by omega) (Hid.mk' (by have := hrr.out; omega)) (vs := []) (s2 := s1) rfl (fun F' u g5 gB sp nn cap k1 k2 k3 k4 k5 k6 k7 => ?_)).mono ?_
       · exact move18n_ K (vs := []) (q := (addr (cfg p) b i, 1)) u M k1 k2 k4 k5 hp.r16 hrg ha hb hc hx0 (Hid.mk' (by have := hrr.out; omega)) hg
       · rintro e w' ⟨rfl, h1, h2⟩
         exact ⟨h1, h2, .inr ⟨rfl, rfl⟩⟩
     | some s2 =>
       refine (step_moB K w M hI hp.r16 hp.rt hd hde hst hrg ha hb hc hio hft (k := 0) htr (Hid.mk' rfl) (Hid.mk' (by decide)) (by omega) (fun h => absurd h (by omega)) (by omega) (Hid.mk' (by have := hrr.out; omega)) (s3 := s2) (rg' := p.rg) hp.r16 (vs := []) (s2 := s1) rfl (fun F' u g5 gB sp nn cap k1 k2 k3 k4 k5 k6 k7 => ?_)).mono ?_
       · refine (move18s_ K (vs := []) (q := (addr (cfg p) b i, 1)) u M k1 k2 k4 k5 hp.r16 hrg ha hb hc hx0 (Hid.mk' (by have := hrr.out; omega)) hg).mono ?_
         rintro e w' ⟨rfl, h1, h2, h3, h4⟩
         exact ⟨rfl, h1, h2, h3.mono (fun b h => h.1), h4⟩
       · rintro e w' ⟨sp, n, cap, rfl, h1, h2, h3⟩
         exact ⟨h1, h2, .inl ⟨_, _, sp, n, cap, rfl, rfl, hp.r16, hst', h3⟩⟩
   · have htr := tch_18 (m := cfg p) (n := 2 ^ d) (i := i) (a := a) (b := b) (c := c)
     rw [if_neg hin] at htr
     have hdo : doG H (2 ^ d) (cfg p) 18 a b c i s1 = some ((cfg p).trap, s1) := by unfold doG; rw [if_neg (by decide), if_pos rfl, if_neg hin]
     rw [hdo]
     refine step_trap K w M hI hp hd hde hst ha hb hc hio hft hL hU htr ?_
     rw [hx]
     unfold ex
     rw [if_neg (by decide), if_neg (by decide), if_neg (by decide), if_neg (by decide), if_neg (by decide), if_pos rfl, if_neg (by show ¬ addr (cfg p) b i < (L'.length : Int); rw [hL]; exact hin)]
     rfl
 by_cases h23 : o = 23
 · subst h23
   have htr := tch_23 (m := cfg p) (n := 2 ^ d) (i := i) (a := a) (b := b) (c := c) hgc.1
   have hdo0 : doG H (2 ^ d) (cfg p) 23 a b c i s1 = if hOk (cfg p) (2 ^ d) i ((cfg p).get a) ((cfg p).get b) ((cfg p).get c) = true then (getN H ((cfg p).get b) (((cfg p).get c + 7) / 8).toNat s1).bind fun q => (setN H ((cfg p).get a) (wsu ((mkL i).getD [] ++ fbL (fun t => q.1.getD t 0) ((cfg p).get c).toNat)) 4 q.2).bind fun r => some ((cfg p).nxt, r) else some ((cfg p).trap, s1) := by unfold doG; rw [if_neg (by decide), if_neg (by decide), if_pos rfl]
   rw [hdo0]
   by_cases hin : hOk (cfg p) (2 ^ d) i ((cfg p).get a) ((cfg p).get b) ((cfg p).get c) = true
   · rw [if_pos hin] at htr ⊢
     unfold hOk at hin
     obtain ⟨o1, o2, o3, o4⟩ := of_decide_eq_true hin
     obtain ⟨P, hP⟩ := Option.isSome_iff_exists.1 o4
     have hc0 := hgc.1
     obtain ⟨xn, hxn⟩ : ∃ xn : Nat, (cfg p).get c = xn := ⟨((cfg p).get c).toNat, by omega⟩
     obtain ⟨k, hk⟩ : ∃ k : Nat, (((cfg p).get c + 7) / 8).toNat = k := ⟨_, rfl⟩
     have hkI : ((cfg p).get c + 7) / 8 = (k : Int) := by omega
     rw [hkI] at htr
     rw [hk, hP, hxn, Int.toNat_natCast]
     have hb0 := hgb.1
     have ha0 := hga.1
     have hx8 : xn ≤ 8 * k := by omega
     have hk17 : k ≤ 16 := by omega
     by_cases hz : k = 0
     · cases hg : getN H ((cfg p).get b) k s1 with
       | none =>
         refine (step_bnB K w M hI hp.r16 hp.rt hd hde hst hrg ha hb hc hio hft (k := k) htr (Hid.mk' hz) (Hid.mk' (by decide)) hb0 (fun h => by omega) (by omega) (Hid.mk' (by have := hrr.out; omega)) hg).mono ?_
         rintro e w' ⟨rfl, h1, h2⟩
         exact ⟨h1, h2, .inr ⟨rfl, rfl⟩⟩
       | some q =>
         obtain ⟨vs, s2⟩ := q
         have hvl := getN_len hg
         have hmv := fun (F' : Nat → Prop) (u : World) (g5 gB : Nat) (sp : Option Addr) (nn cap : Nat) (k1 : I F' s2 u) (k2 : F' g5) (k3 : F' gB) (k5 : Arr u g5 27 (mcA (cfg p) sp nn cap)) (k6 : MW u gB vs) (k7 : ∀ t, U64 (vs.getD t 0)) => move23_ K (a := a) (b := b) (y := 4) u M k1 k2 k5 hp.r16 hc k6 k3 hvl k7 hio hP hxn (by omega) hx8 ha0 (by omega : (cfg p).get a + 4 ≤ 4096) (Hid.mk' (by have := hrr.out; have := getN_rk M hg; omega))
         show Calls _ _ _ _ (SgP I B0 PV F ((setN H ((cfg p).get a) (wsu (P ++ fbL (fun t => vs.getD t 0) xn)) 4 s2).bind fun r => some ((cfg p).nxt, r)) w)
         cases hs : setN H ((cfg p).get a) (wsu (P ++ fbL (fun t => vs.getD t 0) xn)) 4 s2 with
         | none =>
           rw [hs] at hmv
           refine (step_mnB K w M hI hp.r16 hp.rt hd hde hst hrg ha hb hc hio hft (k := k) htr (Hid.mk' hz) (Hid.mk' (by decide)) hb0 (fun h => by omega) (by omega) (Hid.mk' (by have := hrr.out; omega)) hg (fun F' u g5 gB sp nn cap k1 k2 k3 k4 k5 k6 k7 => ?_)).mono ?_
           · refine (hmv F' u g5 gB sp nn cap k1 k2 k3 k5 k6 k7).mono ?_
             rintro e w' ⟨h1, h2, (⟨s3, h3, -⟩ | ⟨-, h4⟩)⟩
             · cases h3
             · exact ⟨h4, h1, h2⟩
           · rintro e w' ⟨rfl, h1, h2⟩
             exact ⟨h1, h2, .inr ⟨rfl, rfl⟩⟩
         | some s3 =>
           rw [hs] at hmv
           refine (step_moB K w M hI hp.r16 hp.rt hd hde hst hrg ha hb hc hio hft (k := k) htr (Hid.mk' hz) (Hid.mk' (by decide)) hb0 (fun h => by omega) (by omega) (Hid.mk' (by have := hrr.out; omega)) (s3 := s3) (rg' := p.rg) hp.r16 hg (fun F' u g5 gB sp nn cap k1 k2 k3 k4 k5 k6 k7 => ?_)).mono ?_
           · refine (hmv F' u g5 gB sp nn cap k1 k2 k3 k5 k6 k7).mono ?_
             rintro e w' ⟨h1, h2, (⟨s4, h3, h4, h5, h6⟩ | ⟨h3, -⟩)⟩
             · cases h3
               exact ⟨h4, h5, h1, h2.mono (fun b h => h.1), h6⟩
             · cases h3
           · rintro e w' ⟨sp, n, cap, rfl, h1, h2, h3⟩
             exact ⟨h1, h2, .inl ⟨_, _, sp, n, cap, rfl, rfl, hp.r16, hst', h3⟩⟩
     · cases hg : getN H ((cfg p).get b) k s1 with
       | none =>
         refine (step_bnA K w M hI hp.r16 hp.rt hd hde hst hrg ha hb hc hio hft (k := k) htr (Hid.mk' hz) hb0 (fun h => by omega) (by omega) (Hid.mk' (by have := hrr.out; omega)) hg).mono ?_
         rintro e w' ⟨rfl, h1, h2⟩
         exact ⟨h1, h2, .inr ⟨rfl, rfl⟩⟩
       | some q =>
         obtain ⟨vs, s2⟩ := q
         have hvl := getN_len hg
         have hmv := fun (F' : Nat → Prop) (u : World) (g5 gB : Nat) (sp : Option Addr) (nn cap : Nat) (k1 : I F' s2 u) (k2 : F' g5) (k3 : F' gB) (k5 : Arr u g5 27 (mcA (cfg p) sp nn cap)) (k6 : MW u gB vs) (k7 : ∀ t, U64 (vs.getD t 0)) => move23_ K (a := a) (b := b) (y := 4) u M k1 k2 k5 hp.r16 hc k6 k3 hvl k7 hio hP hxn (by omega) hx8 ha0 (by omega : (cfg p).get a + 4 ≤ 4096) (Hid.mk' (by have := hrr.out; have := getN_rk M hg; omega))
         show Calls _ _ _ _ (SgP I B0 PV F ((setN H ((cfg p).get a) (wsu (P ++ fbL (fun t => vs.getD t 0) xn)) 4 s2).bind fun r => some ((cfg p).nxt, r)) w)
         cases hs : setN H ((cfg p).get a) (wsu (P ++ fbL (fun t => vs.getD t 0) xn)) 4 s2 with
         | none =>
           rw [hs] at hmv
           refine (step_mnA K w M hI hp.r16 hp.rt hd hde hst hrg ha hb hc hio hft (k := k) htr (Hid.mk' hz) hb0 (fun h => by omega) (by omega) (Hid.mk' (by have := hrr.out; omega)) hg (fun F' u g5 gB sp nn cap k1 k2 k3 k4 k5 k6 k7 => ?_)).mono ?_
           · refine (hmv F' u g5 gB sp nn cap k1 k2 k3 k5 k6 k7).mono ?_
             rintro e w' ⟨h1, h2, (⟨s3, h3, -⟩ | ⟨-, h4⟩)⟩
             · cases h3
             · exact ⟨h4, h1, h2⟩
           · rintro e w' ⟨rfl, h1, h2⟩
             exact ⟨h1, h2, .inr ⟨rfl, rfl⟩⟩
         | some s3 =>
           rw [hs] at hmv
           refine (step_moA K w M hI hp.r16 hp.rt hd hde hst hrg ha hb hc hio hft (k := k) htr (Hid.mk' hz) hb0 (fun h => by omega) (by omega) (Hid.mk' (by have := hrr.out; omega)) (s3 := s3) (rg' := p.rg) hp.r16 hg (fun F' u g5 gB sp nn cap k1 k2 k3 k4 k5 k6 k7 => ?_)).mono ?_
           · refine (hmv F' u g5 gB sp nn cap k1 k2 k3 k5 k6 k7).mono ?_
             rintro e w' ⟨h1, h2, (⟨s4, h3, h4, h5, h6⟩ | ⟨h3, -⟩)⟩
             · cases h3
               exact ⟨h4, h5, h1, h2.mono (fun b h => h.1), h6⟩
             · cases h3
           · rintro e w' ⟨sp, n, cap, rfl, h1, h2, h3⟩
             exact ⟨h1, h2, .inl ⟨_, _, sp, n, cap, rfl, rfl, hp.r16, hst', h3⟩⟩
   · rw [if_neg hin] at htr ⊢
     refine step_trap K w M hI hp hd hde hst ha hb hc hio hft hL hU htr ?_
     rw [hx]
     show (hs { cfg p with me := L' } i ((cfg p).get a) ((cfg p).get b) ((cfg p).get c)).getD _ = _
     rw [hs_no hL hin]
     rfl
 by_cases h24 : o = 24 ∨ o = 25
 · have htr := tch_24 (m := cfg p) (n := 2 ^ d) (i := i) (a := a) (b := b) (c := c) h24
   have hdo0 : doG H (2 ^ d) (cfg p) o a b c i s1 = if (cfg p).get b + 4 ≤ (2 ^ d : Nat) then (getN H ((cfg p).get b) 4 s1).bind fun q => (H.pm (fmL (fun t => q.1.getD t 0)) q.2).bind fun r => some ((cfg p).put a (if o = 24 then pcN r.1 ((cfg p).get c).toNat 8 else r.1.length), r.2) else some ((cfg p).trap, s1) := by unfold doG; rw [if_neg h17, if_neg h18, if_neg h23, if_pos h24]
   rw [hdo0]
   by_cases hin : (cfg p).get b + 4 ≤ (2 ^ d : Nat)
   · rw [if_pos hin] at htr ⊢
     cases hg : getN H ((cfg p).get b) 4 s1 with
     | none =>
       refine (step_bnA K w M hI hp.r16 hp.rt hd hde hst hrg ha hb hc hio hft (k := 4) htr (Hid.mk' (by decide)) hgb.1 (fun _ => by omega) (by omega) (Hid.mk' (by have := hrr.out; omega)) hg).mono ?_
       rintro e w' ⟨rfl, h1, h2⟩
       exact ⟨h1, h2, .inr ⟨rfl, rfl⟩⟩
     | some q =>
       obtain ⟨vs, s2⟩ := q
       have hvl := getN_len hg
       show Calls _ _ _ _ (SgP I B0 PV F ((H.pm (fmL (fun t => vs.getD t 0)) s2).bind fun r => some ((cfg p).put a (if o = 24 then pcN r.1 ((cfg p).get c).toNat 8 else r.1.length), r.2)) w)
       cases hm : H.pm (fmL (fun t => vs.getD t 0)) s2 with
       | none =>
         refine (step_mnA K w M hI hp.r16 hp.rt hd hde hst hrg ha hb hc hio hft (k := 4) htr (Hid.mk' (by decide)) hgb.1 (fun _ => by omega) (by omega) (Hid.mk' (by have := hrr.out; omega)) hg (fun F' u g5 gB sp nn cap k1 k2 k3 k4 k5 k6 k7 => ?_)).mono ?_
         · rcases h24 with rfl | rfl
           · exact move24n_ K (q := (0, 0)) u M k1 k2 k4 k5 hp.r16 hrg ha hb hc k6 k3 hvl hm
           · exact move25n_ K (q := (0, 0)) u M k1 k2 k4 k5 hp.r16 hrg ha hb hc k6 k3 hvl hm
         · rintro e w' ⟨rfl, h1, h2⟩
           exact ⟨h1, h2, .inr ⟨rfl, rfl⟩⟩
       | some r =>
         obtain ⟨bs, s3⟩ := r
         refine (step_moA K w M hI hp.r16 hp.rt hd hde hst hrg ha hb hc hio hft (k := 4) htr (Hid.mk' (by decide)) hgb.1 (fun _ => by omega) (by omega) (Hid.mk' (by have := hrr.out; omega)) (s3 := s3) (hrs (if o = 24 then pcN bs ((cfg p).get c).toNat 8 else bs.length)) hg (fun F' u g5 gB sp nn cap k1 k2 k3 k4 k5 k6 k7 => ?_)).mono ?_
         · rcases h24 with rfl | rfl
           · exact move24s_ K (q := (0, 0)) u M k1 k2 k4 k5 hp.r16 hrg ha hb hc k6 k3 hvl hm
           · exact move25s_ K (q := (0, 0)) u M k1 k2 k4 k5 hp.r16 hrg ha hb hc k6 k3 hvl hm
         · rintro e w' ⟨sp, n, cap, rfl, h1, h2, h3⟩
           exact ⟨h1, h2, .inl ⟨_, _, sp, n, cap, rfl, rfl, hrs _, hst', h3⟩⟩
   · rw [if_neg hin] at htr ⊢
     refine step_trap K w M hI hp hd hde hst ha hb hc hio hft hL hU htr ?_
     have hpm : prm [] { cfg p with me := L' } ((cfg p).get b) = none := by unfold prm; rw [if_neg (by show ¬ (cfg p).get b + 4 ≤ (L'.length : Int); rw [hL]; exact hin)]
     rw [hx]
     rcases h24 with rfl | rfl
     · show (ex [] { cfg p with me := L' } 24 a b c i).getD _ = _
       have e : ex [] { cfg p with me := L' } 24 a b c i = (prm [] { cfg p with me := L' } ((cfg p).get b)).map (fun e => ({ cfg p with me := L' } : Mc).put a (pcN e.bs (({ cfg p with me := L' } : Mc).get c).toNat 8)) := rfl
       rw [e, hpm]; rfl
     · show (ex [] { cfg p with me := L' } 25 a b c i).getD _ = _
       have e : ex [] { cfg p with me := L' } 25 a b c i = (prm [] { cfg p with me := L' } ((cfg p).get b)).map (fun e => ({ cfg p with me := L' } : Mc).put a e.n) := rfl
       rw [e, hpm]; rfl
 · have h24' : o ≠ 24 := fun h => h24 (.inl h)
   have h25' : o ≠ 25 := fun h => h24 (.inr h)
   have hdo : doG H (2 ^ d) (cfg p) o a b c i s1 = some ((ex [] (cfg p) o a b c i).getD (cfg p).trap, s1) := by unfold doG; rw [if_neg h17, if_neg h18, if_neg h23, if_neg h24]
   rw [hdo]
   refine step_trap K w M hI hp hd hde hst ha hb hc hio hft hL hU (tch_o h17 h18 h23 h24' h25') ?_
   rw [hx, ex_oth h17 h18 h23 h24' h25' L']
   cases ex [] (cfg p) o a b c i <;> rfl
theorem step_anyK (K : Bool) {S : Type} {H : Hd S} {I : (Nat → Prop) → S → World → Prop} {B0 : Nat} {ad : Addr} {PV : List PanicEntry} {F : Nat → Prop} {s : S} {p : Pf} {v1 v2 : Value} {d : Nat} (w : World)
   (M : Met (kfg K) (kfs K) (kfp K) H I B0 (.pointer (some ad)) PV) (hI : I F s w) (hp : p.ok) (hd : d ≤ 12) (hde : p.de = d) (hr : Hid (H.rk s + 200 ≤ 1000)) :
   Calls Tryz.prog 32 #[.agg (pfL p v1 v2).toArray, .iface (kty K) (.pointer (some ad))] w (SgP I B0 PV F (stG H (2 ^ d) (cfg p) s) w) := by
 have h12 := pow12 hd
 have hB0 := M.base F s w hI
 have hFw := M.own F s w hI
 by_cases hst : p.st = 0
 · by_cases hpc : p.pc < (2 ^ d : Nat)
   · have hs0 : stG H (2 ^ d) (cfg p) s = (H.gt p.pc s).bind fun q => (if dOk q.1 = true then doG H (2 ^ d) (cfg p) (dOp q.1) (dA q.1).toNat (dB q.1).toNat (dC q.1).toNat (dI q.1) q.2 else some ((cfg p).trap, q.2)) := by
       unfold stG
       rw [if_pos (show (cfg p).st = 0 from hst), if_pos (show (cfg p).pc < (2 ^ d : Nat) from hpc)]
       rfl
     rw [hs0]
     cases hg : H.gt p.pc s with
     | none =>
       refine (step_fn K w M hI hp.r16 hp.rt hd hde hst (fun F' u gm k1 k2 k3 k4 => fetch_n K (m := cfg p) u M k1 k2 k3 k4 (by simp) h12 hp.r16 hp.pc hpc (Hid.mk' (by have := hr.out; omega)) hg)).mono ?_
       rintro e w' ⟨rfl, h1, h2⟩
       exact ⟨h1, h2, .inr ⟨rfl, rfl⟩⟩
     | some q =>
       obtain ⟨v, s1⟩ := q
       have hUv := M.gu _ _ _ _ _ _ hI hg
       have hpn : p.pc.toNat < 2 ^ d := by have := hp.pc.1; omega
       have hlen : ((List.replicate (2 ^ d) (0 : Int)).set p.pc.toNat v).length = 2 ^ d := by simp
       have hgv : ((List.replicate (2 ^ d) (0 : Int)).set p.pc.toNat v).getD p.pc.toNat 0 = v := by rw [List.getD_eq_getElem?_getD, List.getElem?_set_self (by simpa using hpn)]; rfl
       have hUL : ∀ k, U64 (((List.replicate (2 ^ d) (0 : Int)).set p.pc.toNat v).getD k 0) := fun k => by
         rw [getD_set _ _ _ _ (by simpa using hpn)]
         split
         · exact hUv
         · rw [List.getD_eq_getElem?_getD, List.getElem?_replicate]
           split <;> exact ⟨by simp, by simp⟩
       have hpl : (cfg p).pc < ((((List.replicate (2 ^ d) (0 : Int)).set p.pc.toNat v).length : Nat) : Int) := by rw [hlen]; exact hpc
       have hft := fun (F' : Nat → Prop) (u : World) (gm : Nat) (k1 : I F' s u) (k2 : F' gm) (k3 : MW u gm (List.replicate (2 ^ d) 0)) (k4 : B0 ≤ gm) => fetch_s K (m := cfg p) u M k1 k2 k3 k4 (by simp) h12 hp.r16 hp.pc hpc (Hid.mk' (by have := hr.out; omega)) hg
       show Calls _ _ _ _ (SgP I B0 PV F (if dOk v = true then doG H (2 ^ d) (cfg p) (dOp v) (dA v).toNat (dB v).toNat (dC v).toNat (dI v) s1 else some ((cfg p).trap, s1)) w)
       cases hdk : dOk v with
       | false =>
         rw [if_neg (by simp)]
         rw [dV_no hdk] at hft
         refine step_trap K (o := 0) (i := 0) (a := 0) (b := 0) (c := 0) w M hI hp hd hde hst (by omega) (by omega) (by omega) (by omega) (fun F' u gm k1 k2 k3 k4 => (hft F' u gm k1 k2 k3 k4).mono ?_) hlen hUL (tch_o (by decide) (by decide) (by decide) (by decide) (by decide)) ?_
         · rintro e w' ⟨h1, -, h2, h3, h4, h5⟩
           exact ⟨h1, h2, h3, h4, h5⟩
         · rw [stp_bad hpl hgv hdk]
           rfl
       | true =>
         rw [if_pos rfl]
         have hR := dRg hUv
         have hv := dV_yes hdk
         obtain ⟨a, ha⟩ : ∃ k : Nat, dA v = k := ⟨(dA v).toNat, by omega⟩
         obtain ⟨b, hb⟩ : ∃ k : Nat, dB v = k := ⟨(dB v).toNat, by omega⟩
         obtain ⟨c, hc⟩ : ∃ k : Nat, dC v = k := ⟨(dC v).toNat, by omega⟩
         have hsi := stp_in hpl hgv hdk
         rw [ha, hb, hc] at hv hR hsi
         rw [ha, hb, hc]
         rw [hv] at hft
         refine step_do K w M hI hp hd hde hst (by omega) (by omega) (by omega) hR.2.2.2.2 (fun F' u gm k1 k2 k3 k4 => (hft F' u gm k1 k2 k3 k4).mono ?_) hlen hUL hsi (Hid.mk' (by have := hr.out; have := M.rkg _ _ _ _ hg; omega))
         rintro e w' ⟨h1, -, h2, h3, h4, h5⟩
         exact ⟨h1, h2, h3, h4, h5⟩
   · have hs0 : stG H (2 ^ d) (cfg p) s = some ((cfg p).trap, s) := by
       unfold stG
       rw [if_pos (show (cfg p).st = 0 from hst), if_neg (show ¬ (cfg p).pc < (2 ^ d : Nat) from hpc)]
     rw [hs0]
     refine step_trap K (o := 0) (i := 0) (a := 0) (b := 0) (c := 0) (L' := List.replicate (2 ^ d) 0) w M hI hp hd hde hst (by omega) (by omega) (by omega) (by omega) (fun F' u gm k1 k2 k3 k4 => (fetch_o K (m := cfg p) u M k1 k2 k3 k4 (by simp) h12 hp.r16 hp.pc (by show ((2 ^ d : Nat) : Int) ≤ p.pc; omega)).mono ?_) (by simp) ?_ (tch_o (by decide) (by decide) (by decide) (by decide) (by decide)) ?_
     · rintro e w' ⟨h1, h2⟩
       exact ⟨h1, h2.mono (M.base _ _ _ k1), Kp.of_below h2 (fun b h => M.own _ _ _ k1 b h.1), k3.below h2 k3.lt, M.more k1 h2 (fun b h => .inl h) (fun b h => Nat.lt_of_lt_of_le (M.own _ _ _ k1 b h) h2.size)⟩
     · intro k
       rw [List.getD_eq_getElem?_getD, List.getElem?_replicate]
       split <;> exact ⟨by simp, by simp⟩
     · rw [stp_out (by rw [List.length_replicate]; show ((2 ^ d : Nat) : Int) ≤ p.pc; omega)]
       rfl
 · have hs0 : stG H (2 ^ d) (cfg p) s = some (cfg p, s) := by
     unfold stG
     rw [if_neg (show ¬ (cfg p).st = 0 from hst)]
   rw [hs0]
   refine (step_st K w M hI hp.r16 hp.rt hd hde hst).mono ?_
   rintro e w' ⟨rfl, h1⟩
   exact ⟨h1.mono hB0, Kp.of_below h1 hFw, .inl ⟨_, _, none, 0, 0, rfl, rfl, hp.r16, hp.st, M.more hI h1 (fun b h => .inl h) (fun b h => Nat.lt_of_lt_of_le (hFw b h) h1.size)⟩⟩
theorem nilI (w : World) : (binOp .eql 20 .nilIface .nilIface).run Tryz.prog w = .ok (.bool true) w := by rfl
theorem someI (x : Int) (w : World) : (binOp .eql 20 (.iface 148 (.agg #[.int .i64 x])) .nilIface).run Tryz.prog w = .ok (.bool false) w := by rfl
theorem assert148 (x : Int) (w : World) : (Instr.typeAssert (.iface 148 (.agg #[.int .i64 x])) 20 148 true).run Tryz.prog w = .ok (.tuple #[.agg #[.int .i64 x], .bool true]) w := by kernel_rfl
theorem catch_idle91 (p : Addr) (w : World) :
   CallsD Tryz.prog 91 #[.pointer (some p)] .returning w fun e u' w' => e = .returned (.tuple #[]) ∧ u' = .returning ∧ w' = w := by
 have h1 := nilI
 refine callsD_of_wpS Tryz.func91 rfl fun c₀ cs hu => ?_
 apply wpS_seq
 apply wpS_region
 simp [wpOpsS, go_sem, recoverD, hu, Tryz.ntmps91, Exit.thenS]
 refine wpS_of_wp ?_
 go_wp2
 cases c₀
 simp_all [bodyPostS, results, Tryz.results91]
theorem catch_ref91 (g : Nat) (x y : Int) (w : World) (hA : Arr w g 35 #[.int .i64 y]) :
   CallsD Tryz.prog 91 #[.pointer (some ⟨g, 0, none⟩)] (.panicking (refV x)) w fun e u' w' => e = .returned (.tuple #[]) ∧ u' = .panicking [{ v := .iface 148 (.agg #[.int .i64 x]), recovered := true }] ∧ w' = (w.setCell ⟨g, 0, none⟩ (.int .i64 x)).alloc (.cells #[.int .i64 x] 148) := by
 have h1 := someI
 have h2 := assert148
 have hlt := hA.lt
 have hc : ∀ o, (w.alloc o).cell? ⟨g, 0, none⟩ = some (.int .i64 y) := fun o => (hA.alloc o).cell 0
 have hz : ∀ o, (w.alloc o).frozen? ⟨g, 0, none⟩ = false := fun o => (hA.alloc o).frozen 0
 refine callsD_of_wpS Tryz.func91 rfl fun c₀ cs hu => ?_
 apply wpS_seq
 apply wpS_region
 simp [wpOpsS, go_sem, recoverD, hu, Tryz.ntmps91, Exit.thenS, refV]
 refine wpS_of_wp ?_
 change Code.wp _ _ _ { tmps := #[.pointer (some ⟨g, 0, none⟩), undef, undef, undef, .iface 148 (.agg #[.int .i64 x]), undef, undef, undef, undef, undef, undef, undef], defers := [] } _
 go_wp2
 exact ⟨rfl, _, rfl, _, results_none Tryz.results91 _ _ _, rfl, rfl, rfl⟩
theorem catch_idle72 (p : Addr) (w : World) :
   CallsD Tryz.prog 72 #[.pointer (some p)] .returning w fun e u' w' => e = .returned (.tuple #[]) ∧ u' = .returning ∧ w' = w := by
 have h1 := nilI
 refine callsD_of_wpS Tryz.func72 rfl fun c₀ cs hu => ?_
 apply wpS_seq
 apply wpS_region
 simp [wpOpsS, go_sem, recoverD, hu, Tryz.ntmps72, Exit.thenS]
 refine wpS_of_wp ?_
 go_wp2
 cases c₀
 simp_all [bodyPostS, results, Tryz.results72]
theorem catch_ref72 (g : Nat) (x y : Int) (w : World) (hA : Arr w g 35 #[.int .i64 y]) :
   CallsD Tryz.prog 72 #[.pointer (some ⟨g, 0, none⟩)] (.panicking (refV x)) w fun e u' w' => e = .returned (.tuple #[]) ∧ u' = .panicking [{ v := .iface 148 (.agg #[.int .i64 x]), recovered := true }] ∧ w' = (w.setCell ⟨g, 0, none⟩ (.int .i64 x)).alloc (.cells #[.int .i64 x] 148) := by
 have h1 := someI
 have h2 := assert148
 have hlt := hA.lt
 have hc : ∀ o, (w.alloc o).cell? ⟨g, 0, none⟩ = some (.int .i64 y) := fun o => (hA.alloc o).cell 0
 have hz : ∀ o, (w.alloc o).frozen? ⟨g, 0, none⟩ = false := fun o => (hA.alloc o).frozen 0
 refine callsD_of_wpS Tryz.func72 rfl fun c₀ cs hu => ?_
 apply wpS_seq
 apply wpS_region
 simp [wpOpsS, go_sem, recoverD, hu, Tryz.ntmps72, Exit.thenS, refV]
 refine wpS_of_wp ?_
 change Code.wp _ _ _ { tmps := #[.pointer (some ⟨g, 0, none⟩), undef, undef, undef, .iface 148 (.agg #[.int .i64 x]), undef, undef, undef, undef, undef, undef, undef], defers := [] } _
 go_wp2
 exact ⟨rfl, _, rfl, _, results_none Tryz.results72 _ _ _, rfl, rfl, rfl⟩
theorem list32 {P : List Int → Prop} (h : ∀ x0 x1 x2 x3 x4 x5 x6 x7 x8 x9 x10 x11 x12 x13 x14 x15 x16 x17 x18 x19 x20 x21 x22 x23 x24 x25 x26 x27 x28 x29 x30 x31, P [x0, x1, x2, x3, x4, x5, x6, x7, x8, x9, x10, x11, x12, x13, x14, x15, x16, x17, x18, x19, x20, x21, x22, x23, x24, x25, x26, x27, x28, x29, x30, x31]) (X : List Int) (hX : X.length = 32) : P X := by
 match X, hX with
 | [x0, x1, x2, x3, x4, x5, x6, x7, x8, x9, x10, x11, x12, x13, x14, x15, x16, x17, x18, x19, x20, x21, x22, x23, x24, x25, x26, x27, x28, x29, x30, x31], _ => exact h x0 x1 x2 x3 x4 x5 x6 x7 x8 x9 x10 x11 x12 x13 x14 x15 x16 x17 x18 x19 x20 x21 x22 x23 x24 x25 x26 x27 x28 x29 x30 x31
theorem built107 (d : Int) (R : List Int) (gC : Nat) (sb : Option Addr) (nb cb : Nat) (hR : R.length = 32) : Tryz.prog.built 107 [(0, .int .i64 d), (1, .agg (h8 R)), (2, fnx gC), (3, .slice sb nb cb)] = some (eiL d R gC (.slice sb nb cb) false).toArray :=
 list32 (P := fun R => Tryz.prog.built 107 [(0, .int .i64 d), (1, .agg (h8 R)), (2, fnx gC), (3, .slice sb nb cb)] = some (eiL d R gC (.slice sb nb cb) false).toArray) (fun x0 x1 x2 x3 x4 x5 x6 x7 x8 x9 x10 x11 x12 x13 x14 x15 x16 x17 x18 x19 x20 x21 x22 x23 x24 x25 x26 x27 x28 x29 x30 x31 => by kernel_rfl) R hR
theorem fromFront_any {sp : Option Addr} {n cap : Nat} (w : World) : Calls Tryz.prog 92 #[.slice sp n cap] w fun e w' => e = .returned (fnx w.heap.size) ∧ w' = w.alloc (.cells #[.slice sp n cap] 31) := by
 go_enter Tryz.func92, Tryz.ntmps92
 go_wp2_with fail
 go_ret
 exact ⟨rfl, rfl⟩
theorem entriesOf_any {N : Nat} {p : Pf} {d : Nat} {sp : Option Addr} {n cap : Nat} {sb : Option Addr} {nb cb : Nat} {l : List Am} (w : World) (h16 : p.rg.length = 16) (h32 : p.rt.length = 32) (hd : d ≤ 12) (hde : p.de = d) (hA : AS N w sp n cap l) (hB : BS N w sb nb cb p.pr) (hN : N ≤ w.heap.size) :
   Calls Tryz.prog 46 #[.agg (pfL p (.slice sp n cap) (.slice sb nb cb)).toArray] w fun e w' => ∃ gE gC, e = .returned (.pointer (some ⟨gE, 0, none⟩)) ∧ w.heap.size ≤ gE ∧ w.heap.size ≤ gC ∧ EI N w' gE gC d sb nb cb p.pr l p.rt false ∧ Below w.heap.size w w' := by
 have h18 := pfL_at h16 (.slice sp n cap) (.slice sb nb cb) 1
 change _ = some (Value.int .i64 p.de) at h18
 rw [hde] at h18
 have h51 := pfL_end h16 h32 (.slice sp n cap) (.slice sb nb cb) 0
 have h52 := pfL_end h16 h32 (.slice sp n cap) (.slice sb nb cb) 1
 change _ = some (Value.slice sp n cap) at h51
 change _ = some (Value.slice sb nb cb) at h52
 have hrt := fun (u : World) (g ty : Nat) (h : Arr u g ty (pfL p (.slice sp n cap) (.slice sb nb cb)).toArray) => pfL_rt h16 h
 have hbd := fun gC => built107 d p.rt gC sb nb cb h32
 generalize hPF : (pfL p (.slice sp n cap) (.slice sb nb cb)).toArray = PF at *
 generalize p.rt = R at *
 have b0 := Arr.new w 34 PF
 go_enter Tryz.func46, Tryz.ntmps46
 go_upto_region 1 with fail
 refine rgn (fun u => Arr u w.heap.size 34 PF) (b0.drew) (fun hHeld => ?_)
 refine tk 0 rfl ?_
 refine tk 1 rfl (hy := by (intro u hSw; have s1 := (hSw.cell 18).trans h18; go_simp; try (with_reducible rfl))) ?_
 refine tk 2 rfl ?_
 refine tl 3 rfl (y24 (by rfl) (.tmp 5) rfl (w.heap.size) (19) rfl R h32 (fun u hu => hrt u _ _ hu)) ?_
 refine tk 4 rfl ?_
 refine tk 5 rfl (hy := by (intro u hSw; have s1 := (hSw.cell 51).trans h51; go_simp; try (with_reducible rfl))) ?_
 refine tk 7 rfl ?_
 refine tk 8 rfl (hy := by (intro u hSw; have s1 := (hSw.cell 52).trans h52; go_simp; try (with_reducible rfl))) ?_
 refine rd 6 rfl (fun K hK => ?_)
 go_simp
 refine (fromFront_any _).mono ?_
 rintro e u ⟨rfl, rfl⟩
 go_wp2_with fail
 refine ko hK (b0.drew.alloc _) (fun hHeld => ?_)
 clear hK K
 refine tl 9 rfl (y_bd (by rfl) 107 #[(0, .tmp 4), (1, .tmp 6), (2, .tmp 9), (3, .tmp 11)] rfl rfl (hbd _)) ?_
 refine rd 10 rfl (fun K hK => ?_)
 go_simp
 refine ko hK ((b0.drew.alloc _).alloc _) (fun hHeld => ?_)
 clear hK K
 refine tk 11 rfl ?_
 refine dn ?_
 have bb : Below w.heap.size w (((w.alloc (.cells PF 34)).drew.alloc (.cells #[.slice sp n cap] 31)).alloc (.cells (eiL d R (w.heap.size + 1) (.slice sb nb cb) false).toArray 107)) := (((alloc_bel' w _).drew).alloc (by simp) _).alloc (by simp; omega) _
 have aC : Arr (((w.alloc (.cells PF 34)).drew.alloc (.cells #[.slice sp n cap] 31)).alloc (.cells (eiL d R (w.heap.size + 1) (.slice sb nb cb) false).toArray 107)) (w.heap.size + 1) 31 #[.slice sp n cap] := by
   have h := (Arr.new (w.alloc (.cells PF 34)).drew 31 #[.slice sp n cap]).alloc (.cells (eiL d R (w.heap.size + 1) (.slice sb nb cb) false).toArray 107)
   simpa using h
 have aE : Arr (((w.alloc (.cells PF 34)).drew.alloc (.cells #[.slice sp n cap] 31)).alloc (.cells (eiL d R (w.heap.size + 1) (.slice sb nb cb) false).toArray 107)) (w.heap.size + 2) 107 (eiL d R (w.heap.size + 1) (.slice sb nb cb) false).toArray := by
   have h := Arr.new ((w.alloc (.cells PF 34)).drew.alloc (.cells #[.slice sp n cap] 31)) 107 (eiL d R (w.heap.size + 1) (.slice sb nb cb) false).toArray
   simpa using h
 go_wp2_with fail
 go_ret
 refine ⟨w.heap.size + 2, w.heap.size + 1, rfl, by omega, by omega, ⟨?_, ⟨sp, n, cap, ?_, hA.below (bb.mono hN)⟩, hB.below (bb.mono hN), h32, by omega, by omega, by omega, hd⟩, ?_⟩
 · exact aE
 · exact aC
 · exact bb
def finM (d : Int) (pre : List Int) (r : Mc × TkM) : Option (List Int) := if r.2.l = [] ∧ (pre = [] ∨ r.2.q = true) then some (cmR r.1.pc r.1.rg r.1.st d r.2.rt) else none
def tell (d : Nat) (p : Pf) (l : List Am) : Option (List Int) := (stG (hM d p.pr) (2 ^ d) (cfg p) ⟨l, p.rt, false⟩).bind (finM d p.pr)
theorem size34 : (Tryz.prog.info? 34).map (·.size) = some 53 := by kernel_rfl
theorem y23 {ops : Array Oper} {S : World → Prop} {op : Oper} {a : Act} (hw : Region.wanted op (yielded ops a.tmps) = true) (x : Operand) (ho : op.op = .load 23 x)
   (b o : Nat) (hx : a.eval x = .pointer (some ⟨b, o, none⟩)) (L : List Int) (hL : L.length = 16) (hS : ∀ w, S w → w.rangeAt b o (by64 L)) : YieldsIf Tryz.prog ops S op (.agg (rgA L)) a :=
 yieldsIf_load_mid (P := Tryz.prog) (S := S) hw 23 x ho b o hx (by64 L) _ hS Tryz.underlying23 rfl (by rw [show (by64 L).length = 16 by simp [by64, hL]]; exact size23)
theorem cmR_len (pc : Int) (rg : List Int) (s d : Int) (R : List Int) : (cmR pc rg s d R).length = 32 := by
 unfold cmR
 split
 · exact shl_len _
 · exact Z32_len
theorem c1_sn {N : Nat} {p : Pf} {d b : Nat} {sp : Option Addr} {n cap : Nat} {sb : Option Addr} {nb cb : Nat} {l : List Am} (w : World) (hp : p.ok) (hd : d ≤ 12) (hde : p.de = d) (hA : AS N w sp n cap l) (hB : BS N w sb nb cb p.pr) (hN : N ≤ w.heap.size) (hbx : Arr w b 34 (pfL p (.slice sp n cap) (.slice sb nb cb)).toArray) (hs : stG (hM d p.pr) (2 ^ d) (cfg p) ⟨l, p.rt, false⟩ = none) :
   Calls Tryz.prog 45 #[.pointer (some ⟨b, 0, none⟩)] w fun e w' => e = .panicked (refV 210) ∧ Below w.heap.size w w' := by
 have hbl := hbx.lt
 have hb0 := alloc_bel' w (.cells (h8 Z32) 30)
 have hent := entriesOf_any (w.alloc (.cells (h8 Z32) 30)) hp.r16 hp.rt hd hde (hA.below (hb0.mono hN)) (hB.below (hb0.mono hN)) (by simp; omega)
 have X0 := hbx.bel hb0
 have hs34 : (Tryz.prog.info? 34).map (·.size) = some (pfL p (.slice sp n cap) (.slice sb nb cb)).toArray.size := by rw [List.size_toArray, pfL_len hp.r16 hp.rt]; exact size34
 have h18 := pfL_at hp.r16 (.slice sp n cap) (.slice sb nb cb) 1
 change _ = some (Value.int .i64 p.de) at h18
 have A1 := Arr.new w 30 (h8 Z32)
 have hstp := fun (u : World) (gE gC : Nat) (h1 : w.heap.size + 1 ≤ gE) (h2 : w.heap.size + 1 ≤ gC) (hE : EI N u gE gC d sb nb cb p.pr l p.rt false) => step_anyK true (v1 := .slice sp n cap) (v2 := .slice sb nb cb) (F := fun _ => False) (s := ⟨l, p.rt, false⟩) u (metE (N := N) (d := d) (sb := sb) (nb := nb) (cb := cb) (pre := p.pr) h1 h2 (by omega)) ⟨hE, fun b h => h.elim⟩ hp hd hde (Hid.mk' (by show 0 + 200 ≤ 1000; omega))
 rw [h8_Z] at hent X0 A1 hb0
 generalize hPF : (pfL p (.slice sp n cap) (.slice sb nb cb)).toArray = PF at *
 go_enter Tryz.func45, Tryz.ntmps45
 go_upto_region 2 with (first
   | (refine atL 34 (.tmp 0) ?_; go_must (refine ldR (by rfl) 34 (.tmp 0) (by rfl) b (by rfl) PF X0 Tryz.underlying34 rfl hs34 ?_))
   | (go_at_call 46; go_must (refine hent.mono ?_; rintro e w2 ⟨gE, gC, rfl, hgE, hgC, hE2, hb2⟩; replace hstp := hstp w2 gE gC (by simpa using hgE) (by simpa using hgC) hE2; have X2 := X0.bel hb2; have A2 := A1.bel hb2)))
 have B2 : Below w.heap.size w w2 := hb0.trans (hb2.mono (by simp))
 have hs2 : w.heap.size + 1 ≤ w2.heap.size := by have := hb2.size; simpa using this
 rw [hs] at hstp
 replace hstp : Calls Tryz.prog 32 #[.agg PF, .iface 103 (.pointer (some ⟨gE, 0, none⟩))] w2 fun e w' => e = .panicked (refV 210) ∧ Below (w.heap.size + 1) w2 w' := hstp.mono fun e w' ⟨h1, _, h3⟩ => by
   rcases h3 with ⟨m', s', sp', n', cap', h4, _⟩ | ⟨_, h5⟩
   · cases h4
   · exact ⟨h5, h1⟩
 go_wp2_with (first
   | (refine atL 34 (.tmp 0) ?_; go_must (refine ldR (by rfl) 34 (.tmp 0) (by rfl) b (by rfl) PF X2 Tryz.underlying34 rfl hs34 ?_))
   | (go_at_call 32; go_must (refine hstp.mono ?_; rintro e w3 ⟨rfl, hb3⟩)))
 exact ⟨rfl, rfl, B2.trans (hb3.mono (by omega))⟩
theorem c1_en {N : Nat} {p : Pf} {d b : Nat} {sp : Option Addr} {n cap : Nat} {sb : Option Addr} {nb cb : Nat} {l : List Am} (w : World) (hp : p.ok) (hd : d ≤ 12) (hde : p.de = d) (hA : AS N w sp n cap l) (hB : BS N w sb nb cb p.pr) (hN : N ≤ w.heap.size) (hbx : Arr w b 34 (pfL p (.slice sp n cap) (.slice sb nb cb)).toArray) {m' : Mc} {t : TkM} (hs : stG (hM d p.pr) (2 ^ d) (cfg p) ⟨l, p.rt, false⟩ = some (m', t)) (hf : ¬ (t.l = [] ∧ (p.pr = [] ∨ t.q = true))) :
   Calls Tryz.prog 45 #[.pointer (some ⟨b, 0, none⟩)] w fun e w' => e = .panicked (refV 210) ∧ Below w.heap.size w w' := by
 have hbl := hbx.lt
 have hb0 := alloc_bel' w (.cells (h8 Z32) 30)
 have hent := entriesOf_any (w.alloc (.cells (h8 Z32) 30)) hp.r16 hp.rt hd hde (hA.below (hb0.mono hN)) (hB.below (hb0.mono hN)) (by simp; omega)
 have X0 := hbx.bel hb0
 have hs34 : (Tryz.prog.info? 34).map (·.size) = some (pfL p (.slice sp n cap) (.slice sb nb cb)).toArray.size := by rw [List.size_toArray, pfL_len hp.r16 hp.rt]; exact size34
 have h18 := pfL_at hp.r16 (.slice sp n cap) (.slice sb nb cb) 1
 change _ = some (Value.int .i64 p.de) at h18
 have A1 := Arr.new w 30 (h8 Z32)
 have hstp := fun (u : World) (gE gC : Nat) (h1 : w.heap.size + 1 ≤ gE) (h2 : w.heap.size + 1 ≤ gC) (hE : EI N u gE gC d sb nb cb p.pr l p.rt false) => step_anyK true (v1 := .slice sp n cap) (v2 := .slice sb nb cb) (F := fun _ => False) (s := ⟨l, p.rt, false⟩) u (metE (N := N) (d := d) (sb := sb) (nb := nb) (cb := cb) (pre := p.pr) h1 h2 (by omega)) ⟨hE, fun b h => h.elim⟩ hp hd hde (Hid.mk' (by show 0 + 200 ≤ 1000; omega))
 rw [h8_Z] at hent X0 A1 hb0
 generalize hPF : (pfL p (.slice sp n cap) (.slice sb nb cb)).toArray = PF at *
 go_enter Tryz.func45, Tryz.ntmps45
 go_upto_region 2 with (first
   | (refine atL 34 (.tmp 0) ?_; go_must (refine ldR (by rfl) 34 (.tmp 0) (by rfl) b (by rfl) PF X0 Tryz.underlying34 rfl hs34 ?_))
   | (go_at_call 46; go_must (refine hent.mono ?_; rintro e w2 ⟨gE, gC, rfl, hgE, hgC, hE2, hb2⟩; replace hstp := hstp w2 gE gC (by simpa using hgE) (by simpa using hgC) hE2; have X2 := X0.bel hb2; have A2 := A1.bel hb2)))
 have B2 : Below w.heap.size w w2 := hb0.trans (hb2.mono (by simp))
 have hs2 : w.heap.size + 1 ≤ w2.heap.size := by have := hb2.size; simpa using this
 rw [hs] at hstp
 replace hstp : Calls Tryz.prog 32 #[.agg PF, .iface 103 (.pointer (some ⟨gE, 0, none⟩))] w2 fun e w' => ∃ sp' n' cap', e = .returned (.agg (mcA m' sp' n' cap')) ∧ m'.rg.length = 16 ∧ (0 ≤ m'.st ∧ m'.st < 256) ∧ Below (w.heap.size + 1) w2 w' ∧ EI N w' gE gC d sb nb cb p.pr t.l t.rt t.q := hstp.mono fun e w' ⟨h1, _, h3⟩ => by
   rcases h3 with ⟨m1, s', sp', n', cap', h4, h5, h6, h7, h8⟩ | ⟨h5, _⟩
   · cases h4
     exact ⟨sp', n', cap', h5, h6, h7, h1, h8.1⟩
   · cases h5
 go_upto_region 3 with (first
   | (refine atL 34 (.tmp 0) ?_; go_must (refine ldR (by rfl) 34 (.tmp 0) (by rfl) b (by rfl) PF X2 Tryz.underlying34 rfl hs34 ?_))
   | (go_at_call 32; go_must (refine hstp.mono ?_; rintro e w3 ⟨sp3, n3, cp3, rfl, hr16, hst3, hb3, hE3⟩; have hsz3 := mcA_size hr16 sp3 n3 cp3; have hon3 := mcA_one m' sp3 n3 cp3; have a3 := Arr.new w3 27 (mcA m' sp3 n3 cp3)))
   | (refine atS 27 (.tmp 3) (.tmp 11) ?_; go_must (refine st45n (by rfl) (.tmp 3) (.tmp 11) (by rfl) w3 w3.heap.size rfl (by rfl) (mcA m' sp3 n3 cp3) (by rfl) (by rfl) hsz3 hon3 ?_)))
 have B3 : Below w.heap.size w w3 := B2.trans (hb3.mono (by omega))
 have hE4 := hE3.below (alloc_bel' w3 (.cells (mcA m' sp3 n3 cp3) 27))
 have hs3 := hb3.size
 have hend : Calls Tryz.prog 47 #[.pointer (some ⟨gE, 0, none⟩)] (w3.alloc (.cells (mcA m' sp3 n3 cp3) 27)) fun e w' => e = .panicked (refV 210) ∧ Chg (C2E gE gC) (w3.alloc (.cells (mcA m' sp3 n3 cp3) 27)) w' := by
   obtain ⟨tl, tr, tq⟩ := t
   cases tl with
   | cons a r => exact end_more _ hE4
   | nil =>
     have h1 : p.pr ≠ [] := fun h => hf ⟨rfl, .inl h⟩
     cases tq with
     | true => exact absurd ⟨rfl, .inr rfl⟩ hf
     | false => exact end_n _ hE4 h1 rfl
 go_wp2_with (go_at_call 47; go_must (refine hend.mono ?_; rintro e w4 ⟨rfl, hc4⟩))
 refine ⟨rfl, rfl, (B3.alloc (by omega) _).trans (hc4.bel (by simp at hgE; omega) (by simp at hgC; omega) (by simp; omega))⟩
theorem fo_app (i : Nat) (x : List Int) (ps : List (List Int)) (q : List Int) : fo i x (ps ++ [q]) = if (i / 2 ^ ps.length) % 2 = 0 then pr (fo i x ps) q else pr q (fo i x ps) := by
 induction ps generalizing i x with
 | nil => simp [fo]
 | cons p ps ih =>
   simp only [List.cons_append, fo, List.length_cons]
   rw [ih, Nat.div_div_eq_div_mul, Nat.mul_comm 2, ← Nat.pow_succ]
theorem fo_low {i i' : Nat} {x : List Int} {ps : List (List Int)} (h : i % 2 ^ ps.length = i' % 2 ^ ps.length) : fo i x ps = fo i' x ps := by
 induction ps generalizing i i' x with
 | nil => rfl
 | cons p ps ih =>
   simp only [fo]
   rw [List.length_cons, Nat.pow_succ, Nat.mul_comm] at h
   have h2 : i % 2 = i' % 2 := by
     have := congrArg (· % 2) h
     simpa [Nat.mod_mul_right_mod] using this
   have h3 : i / 2 % 2 ^ ps.length = i' / 2 % 2 ^ ps.length := by
     have a := Nat.mod_mul_right_div_self i 2 (2 ^ ps.length)
     have b := Nat.mod_mul_right_div_self i' 2 (2 ^ ps.length)
     rw [← a, ← b, h]
   rw [h2, ih h3]
theorem pf_second {d i : Nat} (l : List (List Int)) (h1 : 2 ^ d ≤ i) (h2 : i < 2 ^ (d + 1)) : pf d l i = pf d (l.drop (2 ^ d)) (i - 2 ^ d) := by
 unfold pf
 apply List.map_congr_left
 intro k hk
 have hk : k < d := by simpa using hk
 rw [List.drop_drop]
 obtain ⟨m, rfl⟩ : ∃ m, d = k + 1 + m := ⟨d - k - 1, by omega⟩
 have hp : 0 < 2 ^ k := Nat.pow_pos (by omega)
 have e : 2 ^ (k + 1 + m) = 2 ^ k * (2 * 2 ^ m) := by rw [Nat.pow_add, Nat.pow_succ, Nat.mul_assoc]
 have e2 : i / 2 ^ k = (i - 2 ^ (k + 1 + m)) / 2 ^ k + 2 * 2 ^ m := by
   have : i = (i - 2 ^ (k + 1 + m)) + 2 ^ k * (2 * 2 ^ m) := by rw [← e]; omega
   conv => lhs; rw [this]
   rw [Nat.add_mul_div_left _ _ hp]
 have e3 : sib (i / 2 ^ k) = sib ((i - 2 ^ (k + 1 + m)) / 2 ^ k) + 2 * 2 ^ m := by
   rw [e2]
   unfold sib
   generalize (i - 2 ^ (k + 1 + m)) / 2 ^ k = q
   generalize 2 ^ m = p
   have : (q + 2 * p) % 2 = q % 2 := by omega
   rw [this]
   split <;> omega
 congr 2
 rw [e3, Nat.add_mul, e, Nat.mul_comm (2 ^ k)]
 omega
theorem fo_set (d : Nat) : ∀ (l : List (List Int)) (i : Nat) (v : List Int), i < 2 ^ d → i < l.length → fo i v (pf d l i) = tr d (l.set i v) := by
 induction d with
 | zero =>
   intro l i v h1 h2
   obtain rfl : i = 0 := by simpa using h1
   cases l with
   | nil => simp at h2
   | cons a r => simp [pf, fo, tr]
 | succ d ih =>
   intro l i v h1 h2
   rw [pf_succ, fo_app, pf_len, tr_succ]
   have hp : 0 < 2 ^ d := Nat.pow_pos (by omega)
   by_cases hlt : i < 2 ^ d
   · have h0 : i / 2 ^ d = 0 := Nat.div_eq_of_lt hlt
     rw [h0, if_pos (by rfl), ih l i v hlt h2]
     congr 2
     rw [List.drop_set_of_lt hlt]
     simp [sib]
   · have h3 : 2 ^ (d + 1) = 2 ^ d + 2 ^ d := by rw [Nat.pow_succ]; omega
     have hq : i / 2 ^ d = 1 := by
       rw [Nat.div_eq_iff hp]; omega
     rw [hq, if_neg (by decide), pf_second l (by omega) h1, fo_low (i' := i - 2 ^ d) (by
       rw [pf_len]
       conv => lhs; rw [show i = (i - 2 ^ d) + 2 ^ d by omega]
       rw [Nat.add_mod_right])]
     rw [ih (l.drop (2 ^ d)) (i - 2 ^ d) v (by omega) (by rw [List.length_drop]; omega)]
     congr 1
     · rw [show sib 1 = 0 by rfl, Nat.zero_mul, List.drop_zero, ← tr_take d l, ← tr_take d (l.set i v), List.take_set_of_le (by omega)]
     · congr 1
       rw [List.drop_set, if_neg (by omega)]
end Go.Proofs.YtagebcbnenehfaaGreat

/- Layer interp: every statement. -/
import Derived.Test.YtmljihggooaboaaX35
import Derived.Test.YtmljihggooaboaaX34
import Derived.Test.YtmljihggooaboaaX15
import Derived.Test.YtmljihggooaboaaX13
import Derived.Test.YtmljihggooaboaaX30
namespace Go.Proofs.Ytmljihggooaboaa
open Go.RowKit
set_option maxRecDepth 100000
set_option linter.unusedVariables false
set_option linter.unusedSimpArgs false

theorem len1 {α : Type} {L : List α} (h : L.length = 1) : ∃ x, L = [x] := by
  match L, h with
  | [x], _ => exact ⟨x, rfl⟩
theorem len2 {α : Type} {L : List α} (h : L.length = 2) : ∃ x y, L = [x, y] := by
  match L, h with
  | [x, y], _ => exact ⟨x, y, rfl⟩
theorem len3 {α : Type} {L : List α} (h : L.length = 3) : ∃ x y z, L = [x, y, z] := by
  match L, h with
  | [x, y, z], _ => exact ⟨x, y, z, rfl⟩
/-- The functions may be. -/
def okF (fs : List FuT) : Prop := ∀ i f, fs[i]? = some f → (0 ≤ f.v ∧ f.v ≤ 64 ∧ 0 ≤ f.p ∧ f.p ≤ f.v) ∧ ∀ b ∈ f.b, okS ((fs.take i).map FuT.p) f.v 8 b
theorem okF.ps {fs : List FuT} (h : okF fs) (i : Nat) : ∀ p ∈ (fs.take i).map FuT.p, p ≤ 64 := by
  intro p hp
  obtain ⟨f, hf, rfl⟩ := List.mem_map.1 hp
  obtain ⟨j, hj⟩ := List.getElem?_of_mem (List.mem_of_mem_take hf)
  have := (h j f hj).1
  omega
variable {Z N gr gw n gm : Nat} {p1 : Value} {es : List En} {kp : Option Addr} {kn kc : Nat} {fp : Option Addr} {fm fc : Nat} {fs : List FuT}
/-- What stays all through a run. -/
abbrev XR (fs : List FuT) (es : List En) (Z N gm : Nat) (kp : Option Addr) (kn kc : Nat) (fp : Option Addr) (fm fc : Nat) : World → Prop := XB (fun u => RS N u 3 (FuM N u) fp fm fc fs) es Z N gm kp kn kc
abbrev KR (fs : List FuT) (es : List En) (Z N gr gw n gm : Nat) (p1 : Value) (kp : Option Addr) (kn kc : Nat) (fp : Option Addr) (fm fc : Nat) (gv nv : Nat) : SS → World → Prop := KI (XR fs es Z N gm kp kn kc fp fm fc) Z N gr gw n (.slice fp fm fc) p1 (.slice kp kn kc) (.map (some gm)) gv nv
structure PL (Z N gr gw gm : Nat) : Prop where
  nz : N ≤ Z
  m1 : N ≤ gm
  m2 : gm < Z
  rz : gr < Z
  wz : gw < Z
  n1 : gm ≠ gr
  n2 : gm ≠ gw
  r1 : N ≤ gr
  w1 : N ≤ gw
set_option maxHeartbeats 1000000 in
theorem stm_any (hp : PL Z N gr gw gm) (hF0 : okF fs) (hU : EnvU (EV fs es)) : ∀ (G d : Nat) (t : StT d) (s : SS) (gv nv i : Nat) (w : World) (cs : List Value), N ≤ w.heap.size → s.lf ≤ G → KR fs es Z N gr gw n gm p1 kp kn kc fp fm fc gv nv s w → StM N w d cs t → okS ((fs.take i).map FuT.p) nv d t →
    Calls Try.prog 35 (stArgs gr gv nv cs) w (KP (KR fs es Z N gr gw n gm p1 kp kn kc fp fm fc gv nv) (PP gr gw gm gv) (stm (EV fs es) G d t s) w) := by
  have hX : XK (XR fs es Z N gm kp kn kc fp fm fc) Z gr gw := XB.keeps hp.r1 hp.w1 hp.nz hp.rz hp.wz hp.m2 hp.n1 hp.n2
  intro G
  induction G using Nat.strongRecOn with
  | _ G ih =>
    intro d t s gv nv i w cs hN hl hK hM hok
    have hBod : ∀ (d' G' : Nat) (l : List (StT d')) (gv nv i : Nat) (s : SS) (u : World) (sp : Option Addr) (m cap : Nat), G' < G → (∀ a ∈ l, okS ((fs.take i).map FuT.p) nv d' a) → s.lf ≤ G' → N ≤ u.heap.size → KR fs es Z N gr gw n gm p1 kp kn kc fp fm fc gv nv s u → RS N u 7 (StM N u d') sp m cap l → Calls Try.prog 27 #[.pointer (some ⟨gr, 0, none⟩), .slice sp m cap, .slice (some ⟨gv, 0, none⟩) nv nv] u (KP (KR fs es Z N gr gw n gm p1 kp kn kc fp fm fc gv nv) (PP gr gw gm gv) (runL (stm (EV fs es) G' d') l s) u) := by
      intro d' G' l gv nv i s u sp m cap hG' hol hlf hNu hKu hSu
      refine Calls.mono (stmts_any (fun s u => KR fs es Z N gr gw n gm p1 kp kn kc fp fm fc gv nv s u ∧ s.lf ≤ G') (fun s u u' h hb => ⟨h.1.bl hX hb, h.2⟩) (PP gr gw gm gv) (fun k hk => ?_) (stm (EV fs es) G' d') s u hNu ⟨hKu, hlf⟩ hSu (fun a ha s2 u2 cs2 hN2 hK2 hM2 => ?_)) (fun e w' h => ⟨h.1, h.2.1.1, h.2.2⟩)
      · rcases hk with h | h | h | h
        · rw [h]; exact hp.r1
        · rw [h]; exact hp.w1
        · rw [h]; exact hp.m1
        · rw [h]; exact hKu.st.l3
      · exact Calls.mono (ih G' hG' d' a s2 gv nv i u2 cs2 hN2 hK2.2 hK2.1 hM2 (hol a ha)) (fun e w' h => ⟨h.1, ⟨h.2.1, Nat.le_trans (stm_lf _ _ _ _) hK2.2⟩, h.2.2⟩)
    cases d with
    | zero => obtain ⟨_, _, h⟩ := hok; cases h
    | succ d =>
      obtain ⟨W, V, lf⟩ := s
      cases lf with
      | zero =>
        rw [stm_sp t _ rfl]
        exact Calls.mono (stmt_spent w hK.st hM) (fun e w' hq => hK.of hX (by simp) hq)
      | succ k =>
        replace hl : k + 1 ≤ G := hl
        obtain ⟨G, rfl⟩ : ∃ G', G = G' + 1 := ⟨G - 1, by omega⟩
        have hk4 : k + 1 ≤ 4194304 := hK.lf
        obtain ⟨hmy, hoa, hob, hoe⟩ := okS_s hok
        have hps := hF0.ps i
        have hcu := StM.cu _ _ _ hM
        have hWn : W.length = n := hK.st.run.len.out
        cases hev : evs W V 8 t.nd.a with
        | none =>
          rw [stm_tr hev]
          exact Calls.mono (stmt_trap w hN hK.st (by omega) hM hok hps hev) (fun e w' hq => hK.of hX (by simp) hq)
        | some L =>
          have hL := evs_u hK.st.run.wU hK.st.var.vU _ _ hcu.1 hoa hev
          have hln := evs_len _ _ hev
          rw [stm_on hev]
          by_cases h1 : t.nd.k = 1
          · have hv : (0 ≤ t.nd.v ∧ t.nd.v < nv) ∧ (t.nd.a.length : Int) = 1 := by simp [mayS, h1] at hmy; omega
            obtain ⟨x, rfl⟩ := len1 (show L.length = 1 by omega)
            have e1 : one (EV fs es) (runL (stm (EV fs es) G d)) (stm (EV fs es) G (d + 1) t) (runL (stm (EV fs es) G 8)) t.nd [x] ⟨W, V, k⟩ = ⟨0, 0, ⟨W, V.set t.nd.v.toNat x, k⟩⟩ := by unfold one; rw [if_pos h1]; rfl
            rw [e1]
            exact Calls.mono (stmt_set w hN hK.st (by omega) hM hok hps h1 hev (hL x (by simp))) (fun e w' hq => hK.of hX (by simp) hq)
          by_cases h2 : t.nd.k = 2
          · have hv : (t.nd.a.length : Int) = 2 := by simp [mayS, h2] at hmy; omega
            obtain ⟨q, x, rfl⟩ := len2 (show L.length = 2 by omega)
            have hq := hL q (by simp)
            have e1 : one (EV fs es) (runL (stm (EV fs es) G d)) (stm (EV fs es) G (d + 1) t) (runL (stm (EV fs es) G 8)) t.nd [q, x] ⟨W, V, k⟩ = if q < W.length then ⟨0, 0, ⟨W.set q.toNat x, V, k⟩⟩ else ⟨2, 0, ⟨W, V, k⟩⟩ := by unfold one; rw [if_neg h1, if_pos h2]; rfl
            rw [e1]
            by_cases hqn : q < W.length
            · rw [if_pos hqn]
              have hq0 := hq.1
              have hq1 : ((q.toNat : Nat) : Int) = q := Int.toNat_of_nonneg hq0
              rw [← hq1] at hev
              exact Calls.mono (stmt_store (q := q.toNat) w hN hK.st (by omega) hM hok hps h2 hev (hL x (by simp)) (by omega)) (fun e w' hq => hK.of hX (by simp) hq)
            · rw [if_neg hqn]
              exact stmt_stno w hN hX hK hM hok hps h2 hev (by rw [← hWn]; exact hqn)
          by_cases h3 : t.nd.k = 3
          · have hv : (t.nd.a.length : Int) = 1 := by simp [mayS, h3] at hmy; omega
            obtain ⟨x, rfl⟩ := len1 (show L.length = 1 by omega)
            have e1 : one (EV fs es) (runL (stm (EV fs es) G d)) (stm (EV fs es) G (d + 1) t) (runL (stm (EV fs es) G 8)) t.nd [x] ⟨W, V, k⟩ = runL (stm (EV fs es) G d) (if x = 0 then t.nd.el else t.nd.th) ⟨W, V, k⟩ := by unfold one; rw [if_neg h1, if_neg h2, if_pos h3]; rfl
            rw [e1]
            refine stmt_if w hN hX hK hM hok hps h3 hev (fun u sp m cap h1 h2 h3 => hBod d G _ gv nv i _ u sp m cap (by omega) ?_ (by show k ≤ G; omega) h1 h2 h3)
            split
            · exact hoe
            · exact hob
          by_cases h4 : t.nd.k = 4
          · have hv : (t.nd.a.length : Int) = 1 := by simp [mayS, h4] at hmy; omega
            obtain ⟨x, rfl⟩ := len1 (show L.length = 1 by omega)
            exact stmt_while w hN hX hK hM hok hps h4 hp.m1 hp.m2 hev (by omega) (fun G' s u sp m cap g1 g2 g3 g4 g5 => hBod d G' _ gv nv i s u sp m cap (by omega) hob g2 g3 g4 g5)
          by_cases h5 : t.nd.k = 5
          · have hv : (t.nd.a.length : Int) = 1 := by simp [mayS, h5] at hmy; omega
            obtain ⟨x, rfl⟩ := len1 (show L.length = 1 by omega)
            have e1 : one (EV fs es) (runL (stm (EV fs es) G d)) (stm (EV fs es) G (d + 1) t) (runL (stm (EV fs es) G 8)) t.nd [x] ⟨W, V, k⟩ = ⟨1, x, ⟨W, V, k⟩⟩ := by unfold one; rw [if_neg h1, if_neg h2, if_neg h3, if_neg h4, if_pos h5]; rfl
            rw [e1]
            exact stmt_ret w hN hX hK hM hok hps h5 hev
          by_cases h6 : t.nd.k = 6
          · have hv : (0 ≤ t.nd.v ∧ t.nd.v < nv) ∧ tkB ((fs.take i).map FuT.p) t.nd.f t.nd.a.length = true := by
              unfold mayS at hmy
              rw [if_neg (by omega), if_neg (by omega), if_neg (by omega), if_neg (by omega), if_neg (by omega), if_pos h6] at hmy
              have := of_decide_eq_true hmy
              exact ⟨this.1, this.2.1⟩
            have hk2 := of_decide_eq_true (show decide _ = true from hv.2)
            have hjf : t.nd.f.toNat < (fs.take i).length := by have := hk2.2.1; rw [List.length_map] at this; omega
            obtain ⟨f, hf⟩ : ∃ f, (fs.take i)[t.nd.f.toNat]? = some f := ⟨_, List.getElem?_eq_getElem hjf⟩
            have hf2 : fs[t.nd.f.toNat]? = some f := by
              rw [List.getElem?_take_of_lt (by have := hjf; rw [List.length_take] at this; omega)] at hf
              exact hf
            have hpv : (t.nd.a.length : Int) = f.p := by
              have := hk2.2.2
              rw [List.getD_eq_getElem?_getD, List.getElem?_map, hf] at this
              exact this
            obtain ⟨hfb, hfo⟩ := hF0 _ f hf2
            have e1 : one (EV fs es) (runL (stm (EV fs es) G d)) (stm (EV fs es) G (d + 1) t) (runL (stm (EV fs es) G 8)) t.nd L ⟨W, V, k⟩ = back ⟨W, V, k⟩ t.nd.v (runL (stm (EV fs es) G 8) f.b ⟨W, L ++ List.replicate (f.v.toNat - L.length) 0, k⟩) := by
              unfold one
              rw [if_neg h1, if_neg h2, if_neg h3, if_neg h4, if_neg h5, if_pos h6]
              show back _ _ (runL _ ((fs[t.nd.f.toNat]?).elim [] FuT.b) (fr0 _ ((fs[t.nd.f.toNat]?).elim 0 FuT.v) L)) = _
              rw [hf2]
              rfl
            rw [e1]
            have hru : RU (runL (stm (EV fs es) G 8) f.b ⟨W, L ++ List.replicate (f.v.toNat - L.length) 0, k⟩) := by
              refine runL_u _ _ (fun a ha s hs => ?_) ⟨hK.st.run.wU, fun x hx => ?_⟩
              · obtain ⟨g1, ps', vs', g2⟩ := hU.fs f (List.mem_of_getElem? hf2) a ha
                exact stm_u hU G 8 a s ps' vs' hs g1 g2
              · rcases List.mem_append.1 hx with h | h
                · exact hL x h
                · rw [(List.mem_replicate.1 h).2]; exact u0
            have hlf := runL_lf (fun t s => stm_lf (E := EV fs es) G 8 t s) f.b ⟨W, L ++ List.replicate (f.v.toNat - L.length) 0, k⟩
            replace hlf : _ ≤ k := hlf
            exact stmt_call (j := t.nd.v.toNat) (jf := t.nd.f.toNat) (nf := f.v.toNat) w hN hX hK hM hok hps h6 hp.m1 hp.m2 hp.rz hp.wz hev hL hK.x.rst (by omega) (by omega) (by omega) hf2 (by omega) (by omega) (by omega) (by unfold fvB; split; exact hru.2; exact u0) (by omega)
              (fun gv' u sp m cap g1 g2 g3 => hBod 8 G f.b gv' f.v.toNat t.nd.f.toNat _ u sp m cap (by omega) (fun a ha => by have := hfo a ha; rw [show f.v = ((f.v.toNat : Nat) : Int) by omega] at this; exact this) (by show k ≤ G; omega) g1 g2 g3)
          by_cases h7 : t.nd.k = 7
          · have hv : (t.nd.a.length : Int) = 3 := by simp [mayS, h7] at hmy; omega
            obtain ⟨a, b, z, rfl⟩ := len3 (show L.length = 3 by omega)
            cases hh : hsW W t.nd.t a b z with
            | none =>
              have e1 : one (EV fs es) (runL (stm (EV fs es) G d)) (stm (EV fs es) G (d + 1) t) (runL (stm (EV fs es) G 8)) t.nd [a, b, z] ⟨W, V, k⟩ = ⟨2, 0, ⟨W, V, k⟩⟩ := by
                unfold one
                rw [if_neg h1, if_neg h2, if_neg h3, if_neg h4, if_neg h5, if_neg h6, if_pos h7]
                show (match hsW W t.nd.t a b z with | none => _ | some W => _) = _
                rw [hh]
              rw [e1]
              exact stmt_hashno w hN hX hK hM hok hps h7 hev (hL a (by simp)) (hL b (by simp)) (hL z (by simp)) hh
            | some W2 =>
              have e1 : one (EV fs es) (runL (stm (EV fs es) G d)) (stm (EV fs es) G (d + 1) t) (runL (stm (EV fs es) G 8)) t.nd [a, b, z] ⟨W, V, k⟩ = ⟨0, 0, ⟨W2, V, k⟩⟩ := by
                unfold one
                rw [if_neg h1, if_neg h2, if_neg h3, if_neg h4, if_neg h5, if_neg h6, if_pos h7]
                show (match hsW W t.nd.t a b z with | none => _ | some W => _) = _
                rw [hh]
              rw [e1]
              exact stmt_hash w hN hX hK hM hok hps h7 hev (hL a (by simp)) (hL b (by simp)) (hL z (by simp)) hh
          by_cases h8 : t.nd.k = 8
          · have hv : (0 ≤ t.nd.v ∧ t.nd.v < nv) ∧ (t.nd.a.length : Int) = 2 := by simp [mayS, h8] at hmy; omega
            obtain ⟨a, b, rfl⟩ := len2 (show L.length = 2 by omega)
            cases hh : prW es W a with
            | none =>
              have e1 : one (EV fs es) (runL (stm (EV fs es) G d)) (stm (EV fs es) G (d + 1) t) (runL (stm (EV fs es) G 8)) t.nd [a, b] ⟨W, V, k⟩ = ⟨2, 0, ⟨W, V, k⟩⟩ := by
                unfold one
                rw [if_neg h1, if_neg h2, if_neg h3, if_neg h4, if_neg h5, if_neg h6, if_neg h7, if_pos h8]
                show (match prW es W a with | none => _ | some b => _) = _
                rw [hh]
              rw [e1]
              exact stmt_preno (j := t.nd.v.toNat) hh w hN hX hK hM hok hps h8 hev (hL a (by simp)) (hL b (by simp)) (by omega) (by omega) hp.nz hp.m1 hp.m2 hp.n1 hp.n2
            | some bs =>
              have e1 : one (EV fs es) (runL (stm (EV fs es) G d)) (stm (EV fs es) G (d + 1) t) (runL (stm (EV fs es) G 8)) t.nd [a, b] ⟨W, V, k⟩ = ⟨0, 0, ⟨W, V.set t.nd.v.toNat (pcN bs b.toNat 8), k⟩⟩ := by
                unfold one
                rw [if_neg h1, if_neg h2, if_neg h3, if_neg h4, if_neg h5, if_neg h6, if_neg h7, if_pos h8]
                show (match prW es W a with | none => _ | some b => _) = _
                rw [hh]
                rfl
              rw [e1]
              exact stmt_pre (j := t.nd.v.toNat) hh w hN hX hK hM hok hps h8 hev (hL a (by simp)) (hL b (by simp)) (by omega) (by omega) hp.nz hp.m1 hp.m2 hp.n1 hp.n2
          have h9 : t.nd.k = 9 := by
            unfold mayS at hmy
            by_cases h9 : t.nd.k = 9
            · exact h9
            · rw [if_neg (by omega), if_neg h2, if_neg h3, if_neg h4, if_neg h5, if_neg h6, if_neg h7, if_neg h8] at hmy
              cases hmy
          have hv : (0 ≤ t.nd.v ∧ t.nd.v < nv) ∧ (t.nd.a.length : Int) = 1 := by simp [mayS, h9] at hmy; omega
          obtain ⟨a, rfl⟩ := len1 (show L.length = 1 by omega)
          cases hh : prW es W a with
          | none =>
            have e1 : one (EV fs es) (runL (stm (EV fs es) G d)) (stm (EV fs es) G (d + 1) t) (runL (stm (EV fs es) G 8)) t.nd [a] ⟨W, V, k⟩ = ⟨2, 0, ⟨W, V, k⟩⟩ := by
              unfold one
              rw [if_neg h1, if_neg h2, if_neg h3, if_neg h4, if_neg h5, if_neg h6, if_neg h7, if_neg h8]
              show (match prW es W a with | none => _ | some b => _) = _
              rw [hh]
            rw [e1]
            exact stmt_plenno (j := t.nd.v.toNat) (b := 0) hh w hN hX hK hM hok hps h9 hev (hL a (by simp)) u0 (by omega) (by omega) hp.nz hp.m1 hp.m2 hp.n1 hp.n2
          | some bs =>
            have e1 : one (EV fs es) (runL (stm (EV fs es) G d)) (stm (EV fs es) G (d + 1) t) (runL (stm (EV fs es) G 8)) t.nd [a] ⟨W, V, k⟩ = ⟨0, 0, ⟨W, V.set t.nd.v.toNat (bs.length : Int), k⟩⟩ := by
              unfold one
              rw [if_neg h1, if_neg h2, if_neg h3, if_neg h4, if_neg h5, if_neg h6, if_neg h7, if_neg h8]
              show (match prW es W a with | none => _ | some b => _) = _
              rw [hh]
              rfl
            rw [e1]
            exact stmt_plen (j := t.nd.v.toNat) (b := 0) hh w hN hX hK hM hok hps h9 hev (hL a (by simp)) u0 (by omega) (by omega) hp.nz hp.m1 hp.m2 hp.n1 hp.n2
end Go.Proofs.Ytmljihggooaboaa

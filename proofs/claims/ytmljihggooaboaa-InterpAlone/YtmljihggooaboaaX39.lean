/- Jp, Jq. -/
import Derived.Test.YtmljihggooaboaaX38
/- Layer interp: a run with more fuel, and with less (pure). -/
namespace Go.Proofs.Ytmljihggooaboaa
open Go.RowKit
set_option maxRecDepth 100000
set_option linter.unusedVariables false
set_option linter.unusedSimpArgs false

def SS.sh (s : SS) (c m : Nat) : SS := ⟨s.W, s.V, s.lf - c + m⟩
def RR.sh (r : RR) (c m : Nat) : RR := ⟨r.k, r.x, r.s.sh c m⟩
/-- With c less and m more fuel than k. -/
def Qr (r : RR) (k : Nat) (A : Nat → Nat → Nat → RR) : Prop :=
  (r.k ≠ 3 → ∀ c m G, c ≤ r.s.lf → k - c + m ≤ G → A c m G = r.sh c m) ∧ (r.k = 3 → r.s.lf = 0 ∧ ∀ m G, k + m ≤ G → (A 0 m G).s.lf ≤ m)
theorem Qr.of {r : RR} {k : Nat} {A : Nat → Nat → Nat → RR} (h3 : r.k ≠ 3) (h : ∀ c m G, c ≤ r.s.lf → k - c + m ≤ G → A c m G = r.sh c m) : Qr r k A := ⟨fun _ => h, fun h => absurd h h3⟩
theorem runL_sh {E : Env} {d G : Nat} : ∀ (l : List (StT d)) (s : SS), (∀ t ∈ l, ∀ s, s.lf ≤ G → Qr (stm E G d t s) s.lf (fun c m G2 => stm E G2 d t (s.sh c m))) → s.lf ≤ G → Qr (runL (stm E G d) l s) s.lf (fun c m G2 => runL (stm E G2 d) l (s.sh c m))
  | [], s, _, _ => Qr.of (by show (0 : Nat) ≠ 3; omega) (fun c m G2 _ _ => rfl)
  | t :: l, s, hF, hs => by
    have h1 := hF t (by simp) s hs
    have hl1 := stm_lf (E := E) G d t s
    by_cases hk : (stm E G d t s).k = 0
    · have e0 : runL (stm E G d) (t :: l) s = runL (stm E G d) l (stm E G d t s).s := by
        show (if _ then _ else _) = _
        rw [if_pos hk]
      have hr := runL_sh l (stm E G d t s).s (fun a ha => hF a (by simp [ha])) (by omega)
      have hl2 := runL_lf (fun t s => stm_lf (E := E) G d t s) l (stm E G d t s).s
      rw [e0]
      have st : ∀ c m G2, c ≤ (stm E G d t s).s.lf → s.lf - c + m ≤ G2 → runL (stm E G2 d) (t :: l) (s.sh c m) = runL (stm E G2 d) l ((stm E G d t s).s.sh c m) := fun c m G2 hc hg => by
        have e1 := h1.1 (by omega) c m G2 hc hg
        replace e1 : stm E G2 d t (s.sh c m) = (stm E G d t s).sh c m := e1
        show (if _ then _ else _) = _
        rw [e1, if_pos (show ((stm E G d t s).sh c m).k = 0 from hk)]
        rfl
      refine ⟨fun h3 c m G2 hc hg => ?_, fun h3 => ⟨(hr.2 h3).1, fun m G2 hg => ?_⟩⟩
      · show runL (stm E G2 d) (t :: l) (s.sh c m) = _
        rw [st c m G2 (by omega) hg]
        exact hr.1 h3 c m G2 hc (by omega)
      · show (runL (stm E G2 d) (t :: l) (s.sh 0 m)).s.lf ≤ m
        rw [st 0 m G2 (by omega) (by omega)]
        exact (hr.2 h3).2 m G2 (by omega)
    · have e0 : runL (stm E G d) (t :: l) s = stm E G d t s := by
        show (if _ then _ else _) = _
        rw [if_neg hk]
      rw [e0]
      refine ⟨fun h3 c m G2 hc hg => ?_, fun h3 => ⟨(h1.2 h3).1, fun m G2 hg => ?_⟩⟩
      · have e1 := h1.1 h3 c m G2 hc hg
        replace e1 : stm E G2 d t (s.sh c m) = (stm E G d t s).sh c m := e1
        show (if _ then _ else _) = _
        rw [e1, if_neg (show ¬ ((stm E G d t s).sh c m).k = 0 from hk)]
      · have e1 := (h1.2 h3).2 m G2 hg
        replace e1 : (stm E G2 d t (s.sh 0 m)).s.lf ≤ m := e1
        show (if _ then _ else _ : RR).s.lf ≤ m
        split
        · exact Nat.le_trans (runL_lf (fun t s => stm_lf (E := E) G2 d t s) l _) e1
        · exact e1
theorem stm_sh {E : Env} (hfs : ∀ f ∈ E.fs, ∀ b ∈ f.b, ∃ ps vs, okS ps vs 8 b) : ∀ (G d : Nat) (t : StT d) (s : SS) (ps : List Int) (vs : Int), okS ps vs d t → s.lf ≤ G → Qr (stm E G d t s) s.lf (fun c m G2 => stm E G2 d t (s.sh c m))
  | G, 0, t, s, ps, vs, hok, _ => by obtain ⟨_, _, h⟩ := hok; cases h
  | G, d + 1, t, ⟨W, V, 0⟩, ps, vs, hok, _ => by
    rw [stm_sp t _ rfl]
    exact ⟨fun h => absurd rfl h, fun _ => ⟨rfl, fun m G2 _ => Nat.le_trans (stm_lf _ _ _ _) (by simp [SS.sh])⟩⟩
  | 0, d + 1, t, ⟨W, V, k + 1⟩, ps, vs, hok, h => by simp at h
  | G + 1, d + 1, t, ⟨W, V, k + 1⟩, ps, vs, hok, hG => by
    replace hG : k + 1 ≤ G + 1 := hG
    obtain ⟨hmy, hoa, hob, hoe⟩ := okS_s hok
    have gas : ∀ (c m G2 : Nat), c ≤ k → k + 1 - c + m ≤ G2 → ∃ G3, G2 = G3 + 1 ∧ k - c + m ≤ G3 ∧ (⟨W, V, k + 1⟩ : SS).sh c m = ⟨W, V, (k - c + m) + 1⟩ := fun c m G2 hc hg => ⟨G2 - 1, by omega, by omega, by show (⟨W, V, k + 1 - c + m⟩ : SS) = _; rw [show k + 1 - c + m = k - c + m + 1 by omega]⟩
    cases hev : evs W V 8 t.nd.a with
    | none =>
      rw [stm_tr hev]
      refine Qr.of (by show (2 : Nat) ≠ 3; omega) (fun c m G2 hc hg => ?_)
      obtain ⟨G3, rfl, -, e⟩ := gas c m G2 hc hg
      show stm E (G3 + 1) (d + 1) t _ = _
      rw [e, stm_tr hev]
      rfl
    | some L =>
      rw [stm_on hev]
      have ihB : ∀ (l : List (StT d)), (∀ a ∈ l, okS ps vs d a) → ∀ s : SS, s.lf ≤ G → Qr (runL (stm E G d) l s) s.lf (fun c m G2 => runL (stm E G2 d) l (s.sh c m)) := fun l hl s hs => runL_sh l s (fun a ha s hs => stm_sh hfs G d a s ps vs (hl a ha) hs) hs
      have red : ∀ r : RR, r = one E (runL (stm E G d)) (stm E G (d + 1) t) (runL (stm E G 8)) t.nd L ⟨W, V, k⟩ → r.s.lf ≤ k → Qr r k (fun c m G3 => one E (runL (stm E G3 d)) (stm E G3 (d + 1) t) (runL (stm E G3 8)) t.nd L ⟨W, V, k - c + m⟩) → Qr r (k + 1) (fun c m G2 => stm E G2 (d + 1) t ((⟨W, V, k + 1⟩ : SS).sh c m)) := fun r _ hl h => by
        refine ⟨fun h3 c m G2 hc hg => ?_, fun h3 => ⟨(h.2 h3).1, fun m G2 hg => ?_⟩⟩
        · obtain ⟨G3, rfl, hg3, e⟩ := gas c m G2 (by omega) hg
          show stm E (G3 + 1) (d + 1) t _ = _
          rw [e, stm_on hev]
          exact h.1 h3 c m G3 hc hg3
        · obtain ⟨G3, rfl, hg3, e⟩ := gas 0 m G2 (by omega) (by omega)
          show (stm E (G3 + 1) (d + 1) t _).s.lf ≤ m
          rw [e, stm_on hev]
          exact (h.2 h3).2 m G3 (by omega)
      refine red _ rfl (one_lf (runL_lf (stm_lf G d)) (stm_lf G (d + 1) t) (runL_lf (stm_lf G 8)) _ _ _) ?_
      by_cases h3 : t.nd.k = 3
      · have e : ∀ (G : Nat) (s : SS), one E (runL (stm E G d)) (stm E G (d + 1) t) (runL (stm E G 8)) t.nd L s = runL (stm E G d) (if L.getD 0 0 = 0 then t.nd.el else t.nd.th) s := fun G s => by unfold one; rw [if_neg (by omega), if_neg (by omega), if_pos h3]
        simp only [e]
        exact ihB _ (by split; exact hoe; exact hob) ⟨W, V, k⟩ (by show k ≤ G; omega)
      by_cases h4 : t.nd.k = 4
      · have e : ∀ (G : Nat) (s : SS), one E (runL (stm E G d)) (stm E G (d + 1) t) (runL (stm E G 8)) t.nd L s = if L.getD 0 0 = 0 then ⟨0, 0, s⟩ else if (runL (stm E G d) t.nd.th s).k = 0 then stm E G (d + 1) t (runL (stm E G d) t.nd.th s).s else runL (stm E G d) t.nd.th s := fun G s => by unfold one; rw [if_neg (by omega), if_neg (by omega), if_neg (by omega), if_pos h4]
        simp only [e]
        by_cases hx : L.getD 0 0 = 0
        · simp only [if_pos hx]
          exact Qr.of (by show (0 : Nat) ≠ 3; omega) (fun c m G2 _ _ => rfl)
        · simp only [if_neg hx]
          have hb := ihB t.nd.th hob ⟨W, V, k⟩ (by show k ≤ G; omega)
          have hbl := runL_lf (fun t s => stm_lf (E := E) G d t s) t.nd.th ⟨W, V, k⟩
          replace hbl : _ ≤ k := hbl
          by_cases hk : (runL (stm E G d) t.nd.th ⟨W, V, k⟩).k = 0
          · rw [if_pos hk]
            have ha := stm_sh hfs G (d + 1) t (runL (stm E G d) t.nd.th ⟨W, V, k⟩).s ps vs hok (by omega)
            have hal := stm_lf (E := E) G (d + 1) t (runL (stm E G d) t.nd.th ⟨W, V, k⟩).s
            refine ⟨fun h3 c m G2 hc hg => ?_, fun h3 => ⟨(ha.2 h3).1, fun m G2 hg => ?_⟩⟩
            · have e1 := hb.1 (by omega) c m G2 (by omega) hg
              replace e1 : runL (stm E G2 d) t.nd.th ⟨W, V, k - c + m⟩ = (runL (stm E G d) t.nd.th ⟨W, V, k⟩).sh c m := e1
              show (if _ then _ else _) = _
              rw [e1, if_pos (show ((runL (stm E G d) t.nd.th ⟨W, V, k⟩).sh c m).k = 0 from hk)]
              exact ha.1 h3 c m G2 hc (by omega)
            · have e1 := hb.1 (by omega) 0 m G2 (by omega) (by show k - 0 + m ≤ G2; omega)
              replace e1 : runL (stm E G2 d) t.nd.th ⟨W, V, k - 0 + m⟩ = (runL (stm E G d) t.nd.th ⟨W, V, k⟩).sh 0 m := e1
              show (if _ then _ else _ : RR).s.lf ≤ m
              rw [e1, if_pos (show ((runL (stm E G d) t.nd.th ⟨W, V, k⟩).sh 0 m).k = 0 from hk)]
              exact (ha.2 h3).2 m G2 (by omega)
          · rw [if_neg hk]
            refine ⟨fun h3 c m G2 hc hg => ?_, fun h3 => ⟨(hb.2 h3).1, fun m G2 hg => ?_⟩⟩
            · have e1 := hb.1 h3 c m G2 hc hg
              replace e1 : runL (stm E G2 d) t.nd.th ⟨W, V, k - c + m⟩ = (runL (stm E G d) t.nd.th ⟨W, V, k⟩).sh c m := e1
              show (if _ then _ else _) = _
              rw [e1, if_neg (show ¬ ((runL (stm E G d) t.nd.th ⟨W, V, k⟩).sh c m).k = 0 from hk)]
            · have e1 := (hb.2 h3).2 m G2 hg
              replace e1 : (runL (stm E G2 d) t.nd.th ⟨W, V, k - 0 + m⟩).s.lf ≤ m := e1
              show (if _ then _ else _ : RR).s.lf ≤ m
              split
              · exact Nat.le_trans (stm_lf _ _ _ _) e1
              · exact e1
      by_cases h6 : t.nd.k = 6
      · have e : ∀ (G : Nat) (q : Nat), one E (runL (stm E G d)) (stm E G (d + 1) t) (runL (stm E G 8)) t.nd L ⟨W, V, q⟩ = back ⟨W, V, q⟩ t.nd.v (runL (stm E G 8) ((E.fs[t.nd.f.toNat]?).elim [] FuT.b) (fr0 ⟨W, V, q⟩ ((E.fs[t.nd.f.toNat]?).elim 0 FuT.v) L)) := fun G s => by unfold one; rw [if_neg (by omega), if_neg (by omega), if_neg (by omega), if_neg (by omega), if_neg (by omega), if_pos h6]
        simp only [e]
        have hc6 := runL_sh (E := E) (G := G) ((E.fs[t.nd.f.toNat]?).elim [] FuT.b) (fr0 ⟨W, V, k⟩ ((E.fs[t.nd.f.toNat]?).elim 0 FuT.v) L) (fun a ha s hs => by
          cases hf : E.fs[t.nd.f.toNat]? with
          | none => rw [hf] at ha; cases ha
          | some f =>
            rw [hf] at ha
            obtain ⟨ps', vs', g2⟩ := hfs f (List.mem_of_getElem? hf) a ha
            exact stm_sh hfs G 8 a s ps' vs' g2 hs) (by show k ≤ G; omega)
        have fre : ∀ c m, (fr0 ⟨W, V, k⟩ ((E.fs[t.nd.f.toNat]?).elim 0 FuT.v) L).sh c m = fr0 ⟨W, V, k - c + m⟩ ((E.fs[t.nd.f.toNat]?).elim 0 FuT.v) L := fun c m => rfl
        simp only [fre] at hc6
        replace hc6 : Qr (runL (stm E G 8) ((E.fs[t.nd.f.toNat]?).elim [] FuT.b) (fr0 ⟨W, V, k⟩ ((E.fs[t.nd.f.toNat]?).elim 0 FuT.v) L)) k (fun c m G2 => runL (stm E G2 8) ((E.fs[t.nd.f.toNat]?).elim [] FuT.b) (fr0 ⟨W, V, k - c + m⟩ ((E.fs[t.nd.f.toNat]?).elim 0 FuT.v) L)) := hc6
        generalize runL (stm E G 8) ((E.fs[t.nd.f.toNat]?).elim [] FuT.b) (fr0 ⟨W, V, k⟩ ((E.fs[t.nd.f.toNat]?).elim 0 FuT.v) L) = rB at hc6 ⊢
        have bk : ∀ (q q' : Nat) (c m : Nat), back ⟨W, V, q⟩ t.nd.v (rB.sh c m) = (back ⟨W, V, q'⟩ t.nd.v rB).sh c m := fun q q' c m => by
          unfold back
          show (if rB.k = 0 then _ else if rB.k = 1 then _ else _) = _
          split
          · rfl
          · split <;> rfl
        have bk3 : (back ⟨W, V, k⟩ t.nd.v rB).k = 3 → rB.k = 3 := fun h => by
          unfold back at h
          split at h
          · cases h
          · split at h
            · cases h
            · exact h
        have bk4 : (back ⟨W, V, k⟩ t.nd.v rB).k ≠ 3 → rB.k ≠ 3 := fun h h' => h (by
          unfold back
          rw [if_neg (by omega), if_neg (by omega)]
          exact h')
        have bkl := back_lf ⟨W, V, k⟩ t.nd.v rB
        refine ⟨fun h3 c m G2 hc hg => ?_, fun h3 => ⟨by rw [bkl]; exact (hc6.2 (bk3 h3)).1, fun m G2 hg => ?_⟩⟩
        · have e1 := hc6.1 (bk4 h3) c m G2 (by omega) hg
          exact (congrArg (back ⟨W, V, k - c + m⟩ t.nd.v) e1).trans (bk _ _ _ _)
        · have e1 := (hc6.2 (bk3 h3)).2 m G2 hg
          show (back _ _ _).s.lf ≤ m
          rw [back_lf]
          exact e1
      have hk : ∃ (K : Nat) (x : Int) (W2 V2 : List Int), K ≠ 3 ∧ ∀ (G q : Nat), one E (runL (stm E G d)) (stm E G (d + 1) t) (runL (stm E G 8)) t.nd L ⟨W, V, q⟩ = ⟨K, x, ⟨W2, V2, q⟩⟩ := by
        by_cases h1 : t.nd.k = 1
        · exact ⟨0, 0, W, V.set t.nd.v.toNat (L.getD 0 0), by omega, fun G q => by unfold one; rw [if_pos h1]; rfl⟩
        by_cases h2 : t.nd.k = 2
        · by_cases hx : L.getD 0 0 < W.length
          · exact ⟨0, 0, W.set (L.getD 0 0).toNat (L.getD 1 0), V, by omega, fun G q => by unfold one; rw [if_neg h1, if_pos h2, if_pos hx]⟩
          · exact ⟨2, 0, W, V, by omega, fun G q => by unfold one; rw [if_neg h1, if_pos h2, if_neg hx]⟩
        by_cases h5 : t.nd.k = 5
        · exact ⟨1, L.getD 0 0, W, V, by omega, fun G q => by unfold one; rw [if_neg h1, if_neg h2, if_neg h3, if_neg h4, if_pos h5]⟩
        by_cases h7 : t.nd.k = 7
        · cases hh : E.hsh W t.nd.t (L.getD 0 0) (L.getD 1 0) (L.getD 2 0) with
          | none => exact ⟨2, 0, W, V, by omega, fun G q => by unfold one; rw [if_neg h1, if_neg h2, if_neg h3, if_neg h4, if_neg h5, if_neg h6, if_pos h7, hh]⟩
          | some W2 => exact ⟨0, 0, W2, V, by omega, fun G q => by unfold one; rw [if_neg h1, if_neg h2, if_neg h3, if_neg h4, if_neg h5, if_neg h6, if_pos h7, hh]⟩
        by_cases h8 : t.nd.k = 8
        · cases hh : E.prm W (L.getD 0 0) with
          | none => exact ⟨2, 0, W, V, by omega, fun G q => by unfold one; rw [if_neg h1, if_neg h2, if_neg h3, if_neg h4, if_neg h5, if_neg h6, if_neg h7, if_pos h8, hh]⟩
          | some b => exact ⟨0, 0, W, V.set t.nd.v.toNat (E.pce b (L.getD 1 0)), by omega, fun G q => by unfold one; rw [if_neg h1, if_neg h2, if_neg h3, if_neg h4, if_neg h5, if_neg h6, if_neg h7, if_pos h8, hh]; rfl⟩
        cases hh : E.prm W (L.getD 0 0) with
        | none => exact ⟨2, 0, W, V, by omega, fun G q => by unfold one; rw [if_neg h1, if_neg h2, if_neg h3, if_neg h4, if_neg h5, if_neg h6, if_neg h7, if_neg h8, hh]⟩
        | some b => exact ⟨0, 0, W, V.set t.nd.v.toNat (b.length : Int), by omega, fun G q => by unfold one; rw [if_neg h1, if_neg h2, if_neg h3, if_neg h4, if_neg h5, if_neg h6, if_neg h7, if_neg h8, hh]; rfl⟩
      obtain ⟨K, x, W2, V2, hK, he⟩ := hk
      simp only [he]
      exact Qr.of hK (fun c m G2 _ _ => rfl)
end Go.Proofs.Ytmljihggooaboaa
/- Layer interp: what more fuel and less come to (pure). -/
namespace Go.Proofs.Ytmljihggooaboaa
open Go.RowKit
set_option maxRecDepth 100000
set_option linter.unusedVariables false
set_option linter.unusedSimpArgs false

variable {E : Env}
/-- Whatever each statement keeps of a result, statements keep. -/
theorem runL_inv {α : Type} {F : α → SS → RR} {I : SS → Prop} {J : RR → Prop} (h0 : ∀ s, I s → J ⟨0, 0, s⟩) (hs : ∀ r, J r → I r.s) (hF : ∀ t s, I s → J (F t s)) : ∀ (l : List α) (s : SS), I s → J (runL F l s)
  | [], s, h => h0 s h
  | t :: l, s, h => by
    unfold runL
    split
    · exact runL_inv h0 hs hF l _ (hs _ (hF t s h))
    · exact hF t s h
theorem stm_k : ∀ (G d : Nat) (t : StT d) (s : SS), (stm E G d t s).k ≤ 3
  | 0, d, t, s => Nat.le_refl _
  | G + 1, 0, t, s => Nat.le_refl _
  | G + 1, d + 1, t, ⟨W, V, 0⟩ => by rw [stm_sp t _ rfl]; exact Nat.le_refl _
  | G + 1, d + 1, t, ⟨W, V, k + 1⟩ => by
    cases hev : evs W V 8 t.nd.a with
    | none => rw [stm_tr hev]; show 2 ≤ 3; omega
    | some L =>
      rw [stm_on hev]
      have hB : ∀ l s, (runL (stm E G d) l s).k ≤ 3 := fun l s => runL_inv (I := fun _ => True) (J := fun r => r.k ≤ 3) (fun _ _ => by show 0 ≤ 3; omega) (fun _ _ => trivial) (fun t s _ => stm_k G d t s) l s trivial
      have hC : ∀ l s, (runL (stm E G 8) l s).k ≤ 3 := fun l s => runL_inv (I := fun _ => True) (J := fun r => r.k ≤ 3) (fun _ _ => by show 0 ≤ 3; omega) (fun _ _ => trivial) (fun t s _ => stm_k G 8 t s) l s trivial
      unfold one back
      repeat' split
      all_goals first
        | exact hB _ _
        | exact hC _ _
        | exact stm_k _ _ _ _
        | (show 0 ≤ 3; omega)
        | (show 1 ≤ 3; omega)
        | (show 2 ≤ 3; omega)
theorem runL_k (G d : Nat) (l : List (StT d)) (s : SS) : (runL (stm E G d) l s).k ≤ 3 := runL_inv (I := fun _ => True) (J := fun r => r.k ≤ 3) (fun _ _ => by show 0 ≤ 3; omega) (fun _ _ => trivial) (fun t s _ => stm_k G d t s) l s trivial
theorem stm_w (hE : ∀ W t a b z W', E.hsh W t a b z = some W' → W'.length = W.length) (n : Nat) : ∀ (G d : Nat) (t : StT d) (s : SS), s.W.length = n → (stm E G d t s).s.W.length = n
  | 0, d, t, s, h => h
  | G + 1, 0, t, s, h => h
  | G + 1, d + 1, t, ⟨W, V, 0⟩, h => by rw [stm_sp t _ rfl]; exact h
  | G + 1, d + 1, t, ⟨W, V, k + 1⟩, h => by
    replace h : W.length = n := h
    cases hev : evs W V 8 t.nd.a with
    | none => rw [stm_tr hev]; exact h
    | some L =>
      rw [stm_on hev]
      have hB : ∀ l s, s.W.length = n → (runL (stm E G d) l s).s.W.length = n := fun l s hs => runL_inv (I := fun s => s.W.length = n) (J := fun r => r.s.W.length = n) (fun _ h => h) (fun _ h => h) (fun t s h => stm_w hE n G d t s h) l s hs
      have hC : ∀ l s, s.W.length = n → (runL (stm E G 8) l s).s.W.length = n := fun l s hs => runL_inv (I := fun s => s.W.length = n) (J := fun r => r.s.W.length = n) (fun _ h => h) (fun _ h => h) (fun t s h => stm_w hE n G 8 t s h) l s hs
      unfold one
      by_cases h7 : t.nd.k = 7
      · rw [if_neg (by omega), if_neg (by omega), if_neg (by omega), if_neg (by omega), if_neg (by omega), if_neg (by omega), if_pos h7]
        split
        · exact h
        · next W' hw => exact (hE _ _ _ _ _ _ hw).trans h
      · rw [if_neg h7]
        unfold back
        repeat' split
        all_goals first
          | exact h
          | (show (List.set _ _ _).length = n; rw [List.length_set]; exact h)
          | exact hB _ _ h
          | exact hC _ _ h
          | exact stm_w hE n _ _ _ _ (hB _ _ h)
theorem hsW_len {W : List Int} {t a b z : Int} {W' : List Int} (h : hsW W t a b z = some W') : W'.length = W.length := by
  unfold hsW at h
  split at h
  · cases h
  split at h
  · cases h
  split at h
  · cases h
  cases h
  exact put4_len _ _ _
theorem fsB_0 {r : RR} (hk : r.k ≤ 3) : fsB r = 0 ↔ r.k = 3 := by
  unfold fsB
  constructor
  · intro h
    split at h
    · cases h
    split at h
    · cases h
    split at h
    · cases h
    omega
  · intro h
    rw [if_neg (by omega), if_neg (by omega), if_neg (by omega)]
/-- What InterpFuel asks. -/
theorem fuel_facts {p : PgT} {es : List En} {D : List Int} {fuel : Int} (h0 : rnC p D.length fuel = 0) (m : Nat) (hm : fuel + m ≤ 4194304) :
    (rnV p es D fuel).c = 0 ∧ 0 ≤ (rnV p es D fuel).sp ∧ (rnV p es D fuel).sp ≤ fuel ∧ ((rnV p es D fuel).W.length : Int) = p.da ∧ (rnV p es D (fuel + m)).c = 0 ∧ (rnV p es D (rnV p es D fuel).sp).c = 0 ∧
    ((rnV p es D fuel).st = 0 → (rnV p es D fuel).sp = fuel ∧ (rnV p es D fuel).va = 0 ∧ fuel ≤ (rnV p es D (fuel + m)).sp) ∧ ((rnV p es D fuel).st ≠ 0 → rnV p es D (fuel + m) = rnV p es D fuel ∧ rnV p es D (rnV p es D fuel).sp = rnV p es D fuel) := by
  have hc := h0
  unfold rnC at hc
  split at hc
  · cases hc
  split at hc
  · cases hc
  next g1 g2 =>
  have hmay : (pgN p).isSome = true := by
    cases h : pgN p with
    | none => exact absurd (.inl h) g1
    | some q => rfl
  obtain ⟨hb, hF0, f, hf, hv, hv2, hol⟩ := pgN_parts hmay
  have hda := of_decide_eq_true (show decide _ = true from hb)
  have hfu : 0 ≤ fuel ∧ (D.length : Int) ≤ p.da := by omega
  obtain ⟨k, rfl⟩ : ∃ k : Nat, fuel = k := ⟨fuel.toNat, by omega⟩
  have cc : ∀ q : Nat, (q : Int) ≤ 4194304 → rnC p D.length (q : Int) = 0 := fun q hq => by
    unfold rnC
    rw [if_neg (by rintro (h | h | h); exact g1 (.inl h); omega; omega), if_neg (by omega)]
  have ev : ∀ q : Nat, (q : Int) ≤ 4194304 → rnV p es D (q : Int) = ⟨fsB (rnR p es f D q), fvB (rnR p es f D q), (rnR p es f D q).s.W, (q : Int) - (rnR p es f D q).s.lf, 0⟩ := fun q hq => by
    unfold rnV
    rw [if_pos (cc q hq), hf]
    rfl
  have hfs : ∀ g ∈ (EV p.fs es).fs, ∀ b ∈ g.b, ∃ ps vs, okS ps vs 8 b := fun g hg b hb => by
    obtain ⟨i, hi⟩ := List.getElem?_of_mem (show g ∈ p.fs from hg)
    exact ⟨_, _, (hF0 i g hi).2 b hb⟩
  have hQ := runL_sh (E := EV p.fs es) (G := k) f.b ⟨D ++ List.replicate (p.da.toNat - D.length) 0, List.replicate f.v.toNat 0, k⟩ (fun t ht s hs => stm_sh hfs k 8 t s _ _ (hol t ht) hs) (Nat.le_refl _)
  have hl := runL_lf (fun t s => stm_lf (E := EV p.fs es) k 8 t s) f.b ⟨D ++ List.replicate (p.da.toNat - D.length) 0, List.replicate f.v.toNat 0, k⟩
  have hk := runL_k (E := EV p.fs es) k 8 f.b ⟨D ++ List.replicate (p.da.toNat - D.length) 0, List.replicate f.v.toNat 0, k⟩
  have hw : (rnR p es f D k).s.W.length = p.da.toNat := runL_inv (I := fun s => s.W.length = p.da.toNat) (J := fun r => r.s.W.length = p.da.toNat) (fun _ h => h) (fun _ h => h) (fun t s h => stm_w (E := EV p.fs es) (fun _ _ _ _ _ _ h => hsW_len h) _ k 8 t s h) f.b _ (by simp; omega)
  replace hQ : Qr (rnR p es f D k) k (fun c m G2 => runL (stm (EV p.fs es) G2 8) f.b ⟨D ++ List.replicate (p.da.toNat - D.length) 0, List.replicate f.v.toNat 0, k - c + m⟩) := hQ
  replace hl : (rnR p es f D k).s.lf ≤ k := hl
  replace hk : (rnR p es f D k).k ≤ 3 := hk
  have e1 := ev k (by omega)
  have e2 := ev (k + m) (by omega)
  have hsp : (rnV p es D (k : Int)).sp = ((k - (rnR p es f D k).s.lf : Nat) : Int) := by rw [e1]; show (k : Int) - _ = _; omega
  have e3 := ev (k - (rnR p es f D k).s.lf) (by omega)
  rw [hsp]
  rw [show ((k : Int) + (m : Int)) = ((k + m : Nat) : Int) by omega]
  rw [e1, e2, e3]
  refine ⟨rfl, ?_, ?_, ?_, rfl, rfl, fun hst => ?_, fun hst => ?_⟩
  · omega
  · omega
  · show ((rnR p es f D k).s.W.length : Int) = _; omega
  · have h3 := (fsB_0 hk).1 hst
    obtain ⟨q1, q2⟩ := hQ.2 h3
    have q3 := q2 m (k + m) (Nat.le_refl _)
    replace q3 : (rnR p es f D (k + m)).s.lf ≤ m := q3
    refine ⟨?_, ?_, ?_⟩
    · omega
    · show fvB _ = 0
      unfold fvB
      rw [if_neg (by omega)]
    · show (k : Int) ≤ ((k + m : Nat) : Int) - _; omega
  · have h3 : (rnR p es f D k).k ≠ 3 := fun h => hst ((fsB_0 hk).2 h)
    have q1 := hQ.1 h3 0 m (k + m) (by omega) (by omega)
    replace q1 : rnR p es f D (k + m) = (rnR p es f D k).sh 0 m := q1
    have q2 := hQ.1 h3 (rnR p es f D k).s.lf 0 (k - (rnR p es f D k).s.lf) (Nat.le_refl _) (by omega)
    replace q2 : rnR p es f D (k - (rnR p es f D k).s.lf) = (rnR p es f D k).sh (rnR p es f D k).s.lf 0 := q2
    rw [q1, q2]
    refine ⟨?_, ?_⟩
    · have a1 : ((k + m : Nat) : Int) - (((rnR p es f D k).sh 0 m).s.lf : Int) = (k : Int) - ((rnR p es f D k).s.lf : Int) := by
        show ((k + m : Nat) : Int) - (((rnR p es f D k).s.lf - 0 + m : Nat) : Int) = _
        omega
      rw [a1]
      rfl
    · have a1 : ((k - (rnR p es f D k).s.lf : Nat) : Int) - (((rnR p es f D k).sh (rnR p es f D k).s.lf 0).s.lf : Int) = (k : Int) - ((rnR p es f D k).s.lf : Int) := by
        show ((k - (rnR p es f D k).s.lf : Nat) : Int) - (((rnR p es f D k).s.lf - (rnR p es f D k).s.lf + 0 : Nat) : Int) = _
        omega
      rw [a1]
      rfl
end Go.Proofs.Ytmljihggooaboaa

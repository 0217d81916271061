/- Layer rlp: growList. -/
import Derived.Test.YtbjlmekafnpllabRi
namespace Go.Proofs.Ytbjlmekafnpllab
open Go.RowKit
set_option linter.unusedVariables false
set_option linter.unusedSimpArgs false

set_option maxRecDepth 100000 in
set_option maxHeartbeats 1000000 in
theorem growList_zero (v : Value) (l : Bool) (sp : Option Addr) (n cap : Nat) (sq : Option Addr) (k cq : Nat) (w : World) :
    Calls Try.prog 54 #[v, .agg #[.bool l, .slice sp n cap, .slice sq k cq], .int .i64 0] w fun e w' => e = .panicked (wrong 2) ∧ Below w.heap.size w w' := by
  go_enter Try.func54, Try.ntmps54
  go_wp2
  exact ⟨rfl, rfl, (Below.refl _ _).alloc (Nat.le_refl _) _⟩
set_option maxRecDepth 100000 in
set_option maxHeartbeats 1000000 in
theorem growList_bytes (v : Value) (l : Bool) (sp : Option Addr) (n cap : Nat) (sq : Option Addr) (k cq : Nat) (d : Nat) (w : World) (hn : (0 : Int) < n) :
    Calls Try.prog 54 #[v, .agg #[.bool l, .slice sp n cap, .slice sq k cq], .int .i64 ((d : Int) + 1)] w fun e w' => e = .panicked (wrong 2) ∧ Below w.heap.size w w' := by
  have h1 : ¬ ((d : Int) + 1 = 0) := by omega
  have h2 : (((d : Int) + 1) == 0) = false := by simpa using h1
  go_enter Try.func54, Try.ntmps54
  go_wp2
  exact ⟨rfl, rfl, (Below.refl _ _).alloc (Nat.le_refl _) _⟩

theorem head_at (b x : Int) (m : Nat) (w : World) (hx : x = m) (hb : b = 128 ∨ b = 192) (hm : m ≤ 140737488355328) :
    Calls Try.prog 55 #[.int .u8 b, .int .i64 x] w fun e w' => ∃ v, e = .returned v ∧ w'.ownsRow w.heap.size 5 1 v (hd b m).length (by8 (hd b m)) ∧ Below w.heap.size w w' := by
  subst hx; exact head_any b m w hb hm

/-- What growing comes to. -/
def Grew (base : Nat) (w : World) (n : Nat) (L : List Int) (o : Option (List Int)) (e : Ending) (w' : World) : Prop :=
  Below base w w' ∧ ((∃ F v', o = some F ∧ n + F.length ≤ 65536 ∧ e = .returned v' ∧ w'.ownsRow base 5 1 v' (n + F.length) (by8 (L ++ F))) ∨ ((∀ F, o = some F → 65536 < n + F.length) ∧ e = .panicked (wrong 2)))
/-- Growing by an item of so many lists in lists at most. -/
def GrowAt (d : Nat) : Prop := ∀ (base N : Nat) (v x : Value) (n : Nat) (L : List Int) (o : Option (List Int)) (w : World), w.ownsRow base 5 1 v n (by8 L) → Bts L → n ≤ 65536 → base ≤ w.heap.size → N ≤ base → Is N w d x o →
  Calls Try.prog 40 #[v, x, .int .i64 (d : Int)] w (Grew base w n L o)

theorem wrapT (L Y : List Int) (n : Nat) (hn : n = L.length) : (L ++ Y).take n ++ hd 192 Y.length ++ (L ++ Y).drop n = L ++ wrap true Y := by
  subst hn; rw [wrap_true]; simp

theorem grow_more {os : List (Option (List Int))} {Y : List Int} {j n : Nat} {o : Option (List Int)} (hY : cat (os.take j) = some Y) (ho : os[j]? = some o) (hno : ∀ F, o = some F → 65536 < n + Y.length + F.length) :
    ∀ F, (cat os).map (wrap true) = some F → 65536 < n + F.length := fun F hF => by
  obtain ⟨X, hX, rfl⟩ := Option.map_eq_some_iff.1 hF
  obtain ⟨F', rfl, hl⟩ := cat_split hX hY ho
  have := hno F' rfl
  have := (wrap_len true X).1
  omega

set_option maxRecDepth 100000 in
set_option maxHeartbeats 1000000 in
theorem growList_succ (d : Nat) (hd15 : d ≤ 15) (hG : GrowAt d) (base N : Nat) (v : Value) (n : Nat) (L : List Int) (sp : Option Addr) (cap : Nat) (sq : Option Addr) (k cq : Nat) (vs : List Value) (os : List (Option (List Int))) (w : World)
    (hown : w.ownsRow base 5 1 v n (by8 L)) (hL : Bts L) (hn : n ≤ 65536) (hbase : base ≤ w.heap.size) (hN : N ≤ base) (hI : IS N w sq k cq vs) (hos : os.length = vs.length)
    (hIs : ∀ (i : Nat) v o, vs[i]? = some v → os[i]? = some o → Is N w d v o) :
    Calls Try.prog 54 #[v, .agg #[.bool true, .slice sp 0 cap, .slice sq k cq], .int .i64 ((d : Int) + 1)] w (Grew base w n L ((cat os).map (wrap true))) := by
  have HIs := Hid.mk' hIs
  have Hos := Hid.mk' hos
  clear hIs hos
  have hkl := hI.len
  have h1 : ¬ ((d : Int) + 1 = 0) := by omega
  have h2 : (((d : Int) + 1) == 0) = false := by simpa using h1
  obtain ⟨sv, cv, rfl, hbs, -⟩ := own_bs hown hL (by omega)
  have hnl := hbs.len
  have hksm := hI.small
  go_enter Try.func54, Try.ntmps54
  go_wp2
  go_loopw [0, 25] (fun f i wr => ∃ (j : Nat) (Y : List Int), j ≤ k ∧ i = .int .i64 j ∧ Hid (cat (os.take j) = some Y) ∧ n + Y.length ≤ 65536 ∧ Bts Y ∧ wr.ownsRow base 5 1 f (n + Y.length) (by8 (L ++ Y)) ∧ Below base w wr)
    (fun _ i _ => k - (intOf i).toNat)
  case atStart => exact ⟨0, [], by omega, rfl, Hid.mk' rfl, by simpa using hn, Bts.nil, by simpa using hown.alloc _, (Below.refl _ _).alloc hbase _⟩
  case round =>
    obtain ⟨j, Y, hj, rfl, hY, hYn, hYb, hownr, hbl⟩ := hrel
    have hsz := hbl.size
    by_cases hlt : j < k
    · have h3 : (j : Int) < k := by omega
      have h4 : (0 : Int) ≤ j := by omega
      obtain ⟨g, off, rfl, hg, hcells⟩ := hI.at0 (by omega)
      have hjv : j < vs.length := by rw [← hkl.out]; exact hlt
      have hjo : j < os.length := by rw [Hos.out]; exact hjv
      have hx := HIs.out j vs[j] os[j] (List.getElem?_eq_getElem hjv) (List.getElem?_eq_getElem hjo)
      obtain ⟨a, b, c, e0, ca, cb, cc⟩ := hcells j vs[j] (List.getElem?_eq_getElem hjv)
      obtain ⟨l', sp', n', cap', bs', sq', k', cq', vs', hSh⟩ := hx.sh
      rw [hSh.eq] at e0 hx
      have e1 : a = .bool l' ∧ b = .slice sp' n' cap' ∧ c = .slice sq' k' cq' := by simpa [eq_comm] using e0
      obtain ⟨rfl, rfl, rfl⟩ := e1
      have d0 := (hbl.cell (p := ⟨g, off + 3 * j, none⟩) (by show g < base; omega)).trans ca
      have d1 := (hbl.cell (p := ⟨g, off + 3 * j + 1, none⟩) (by show g < base; omega)).trans cb
      have d2 := (hbl.cell (p := ⟨g, off + 3 * j + 2, none⟩) (by show g < base; omega)).trans cc
      rw [Nat.mul_comm 3 j] at d0 d1 d2
      have hxr : ∀ ob, Is N (wr.alloc ob) d (.agg #[.bool l', .slice sp' n' cap', .slice sq' k' cq']) os[j] := fun ob => hx.below ((hbl.mono hN).alloc (by omega) ob)
      have hoj : os[j]? = some os[j] := List.getElem?_eq_getElem hjo
      have Hoj := Hid.mk' hoj
      generalize os[j] = oj at *
      clear ca cb cc hcells hSh e0 hx hoj
      go_wp2_with (go_at_call 40; go_must (refine (hG base N u0 _ (n + Y.length) (L ++ Y) oj _ (hownr.alloc _) (hL.app hYb) hYn (by simp; omega) hN (hxr _)).mono ?_; rintro e w2 ⟨hb2, ⟨F, v2, rfl, hle, rfl, hown2⟩ | ⟨hno, rfl⟩⟩; rotate_left; exact ⟨rfl, (hbl.alloc (by omega) _).trans hb2, Or.inr ⟨grow_more hY.out Hoj.out hno, rfl⟩⟩))
      go_roundw
      case rel =>
        refine ⟨j + 1, Y ++ F, by omega, by go_num, Hid.mk' (cat_next hY.out Hoj.out), by simp; omega, hYb.app ((hxr (.cells #[] 5)).bts), ?_, (hbl.alloc (by omega) _).trans hb2⟩
        rw [List.length_append, ← Nat.add_assoc, ← List.append_assoc]; exact hown2
      case measure => simp [intOf]; omega
    · obtain rfl : j = k := by omega
      have hcat : cat os = some Y := by
        have := hY.out
        rwa [List.take_of_length_le (by rw [Hos.out, ← hkl.out]; exact Nat.le_refl _)] at this
      have hcat := Hid.mk' hcat
      obtain ⟨sr, cr, rfl, hbsr, -⟩ := own_bs hownr (hL.app hYb) (by omega)
      have hwl : (wrap true Y).length = (hd 192 Y.length).length + Y.length := by rw [wrap_true, List.length_append]
      have hdl := hd_len 192 Y.length
      have hdp := hd_pos 192 Y.length
      have hdb := hd_bts (m := 192) (.inr rfl) Y.length
      have hwT := Hid.mk' (wrapT L Y n hnl.out)
      have hrs := hbl.size
      go_wp2_with (first
        | (go_at_call 55; go_must (refine (head_at 192 _ Y.length _ (by omega) (by omega) (by omega)).mono ?_; rintro e w3 ⟨v3, rfl, hown3, hb3⟩; have hownr3 := own_below hownr hb3; have hs3 := hb3.size))
        | (go_at_call 64; go_must (refine (insert_own base (n + Y.length) _ (L ++ Y) v3 (hd 192 Y.length).length n wr.heap.size (hd 192 Y.length) w3 hownr3 (hL.app hYb) (by omega) hown3 hdb hdp (own_apart hownr hown3 (Nat.le_refl _)) (by omega) (by omega)).mono ?_; rintro e w4 ⟨v4, rfl, hown4, hb4⟩; rw [hwT.out] at hown4; obtain ⟨s4, c4, rfl, -, -⟩ := own_bs hown4 (hL.app (wrap_bts true hYb)) (by omega); by_cases hfin : n + Y.length + (hd 192 Y.length).length ≤ 65536))
        | (go_at_call 56; refine (bounded_ok _ _ _ _ (by omega)).mono ?_; rintro e w5 ⟨rfl, rfl⟩)
        | (go_at_call 56; refine (bounded_no _ _ _ _ (by omega)).mono ?_; rintro e w5 ⟨rfl, rfl⟩))
      · go_ret
        refine ⟨(hbl.trans (hb3.mono (by omega))).trans hb4, .inl ⟨wrap true Y, _, by rw [hcat.out]; rfl, by omega, rfl, ?_⟩⟩
        rw [show n + (wrap true Y).length = n + Y.length + (hd 192 Y.length).length by omega]
        exact hown4
      · refine ⟨rfl, (hbl.trans (hb3.mono (by omega))).trans hb4, .inr ⟨fun F hF => ?_, rfl⟩⟩
        obtain rfl := Option.some.inj hF
        omega
end Go.Proofs.Ytbjlmekafnpllab

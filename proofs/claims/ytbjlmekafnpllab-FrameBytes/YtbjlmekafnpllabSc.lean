/- Layer rlp, the document's answer: form of lists; May, Encode, Same. -/
import Derived.Test.YtbjlmekafnpllabSb
import Derived.Test.YtbjlmekafnpllabRl
namespace Go.Proofs.Ytbjlmekafnpllab
open Go.RowKit
set_option linter.unusedVariables false
set_option linter.unusedSimpArgs false

set_option maxRecDepth 100000 in
set_option maxHeartbeats 400000 in
theorem form_two (b off cap : Nat) (bs : List Int) (sq : Option Addr) (cq left : Nat) (x : Int) (N : Nat) (w : World) (hS : BS N w (some ⟨b, off, none⟩) 1 cap bs) (hl6 : left ≤ 65536) (hy : ¬ bat bs 0 < 128) (hfit : 1 ≤ left) :
    Calls Try.prog 43 #[.agg #[.bool false, .slice (some ⟨b, off, none⟩) 1 cap, .slice sq 0 cq], .int .i64 left, .int .i64 x] w (FormPost left (some (wrap false bs)) w) := by
  have hlen := hS.len
  have hw' : Hid (wrap false bs = hd 128 1 ++ bs) := by
    have := wrapF_app (bs := bs) (by rw [← hlen.out]; omega)
    rwa [← hlen.out] at this
  have hwl : (wrap false bs).length = (hd 128 1).length + 1 := by rw [hw'.out, List.length_append, ← hlen.out]
  have hdl := hd_len 128 1
  have hdb := hd_bts (m := 128) (.inl rfl) 1
  obtain ⟨b', off', e, -, hB⟩ := hS.at0 (by omega)
  cases e
  have hc := hB 0 (by omega)
  rw [Nat.add_zero] at hc
  have hlt := block_lt_of_cell hc
  have hc' : ∀ o, (w.alloc o).cell? ⟨b, off, none⟩ = some (.int .u8 (bat bs 0)) := fun o => by rw [World.cell?_alloc_lt _ _ _ hlt]; exact hc
  have hS1 : ∀ o, BS w.heap.size (w.alloc o) (some ⟨b, off, none⟩) 1 cap bs := fun o => hS.here.below ((Below.refl _ _).alloc (Nat.le_refl _) _)
  have h1 : ¬ (left : Int) < 1 := by omega
  clear hB
  go_enter Try.func43, Try.ntmps43
  go_wp2
  go_region_law (first
    | (refine step_append_bytes rfl (.tmp 43) (.tmp 45) rfl w.heap.size _ _ (hd 128 1) (by simp [Act.eval, Act.put]) hown2' (some ⟨b, off, none⟩) 1 cap bs (by simp [Act.eval, Act.put]) hlen.out (fun e => by cases e) hS2.sl (by omega) (by omega) ?_; intro v3 w3 hown3 hg3)
    | (go_simp; go_at_call 58; refine (refHead_at 128 _ 1 _ rfl (by omega) (by omega)).mono ?_; rintro e w2 ⟨v2, rfl, hown2, hb2⟩; have X2 := Arr.below (Arr.drew (Arr.new w 59 #[.bool false, .slice (some ⟨b, off, none⟩) 1 cap, .slice sq 0 cq])) hb2 (by simp); have x1 := X2.cell 1; simp at x1; have hS2 := (hS1 (.cells #[.bool false, .slice (some ⟨b, off, none⟩) 1 cap, .slice sq 0 cq] 59)).below (w' := w2) ⟨hb2.os, hb2.tape, hb2.output, hb2.size, fun k hk => hb2.block k (by simp; omega)⟩; have hs2 := hb2.size; simp at hs2; have hown2' : w2.ownsRow w.heap.size 5 1 v2 (hd 128 1).length (by8 (hd 128 1)) := own_mono hown2 (by simp); go_simp))
  all_goals
    go_wp2
    go_ret2
    refine ⟨?_, .inl ⟨wrap false bs, v3, rfl, by omega, rfl, ?_⟩⟩
    · have hb0 : Below w.heap.size w w2 := (((Below.refl _ _).alloc (Nat.le_refl _) _).drew).trans (hb2.mono (by simp))
      exact hb0.grown hg3 hb0.size (fun j e => own_ge hown2' j e)
    · rw [hwl, hw'.out]; exact hown3

/-- Growing of forms, of so many lists in lists at most. -/
def FormAt (d : Nat) : Prop := ∀ (N : Nat) (x : Value) (o : Option (List Int)) (left : Nat) (w : World), Is N w d x o → left ≤ 65536 →
  Calls Try.prog 43 #[x, .int .i64 left, .int .i64 (d : Int)] w (FormPost left o w)

set_option maxRecDepth 100000 in
set_option maxHeartbeats 400000 in
theorem form_nolist (sp : Option Addr) (n cap : Nat) (sq : Option Addr) (k cq left : Nat) (x : Int) (w : World) (h : (0 : Int) < n ∨ x = 0 ∨ (left : Int) < k) :
    Calls Try.prog 43 #[.agg #[.bool true, .slice sp n cap, .slice sq k cq], .int .i64 left, .int .i64 x] w fun e w' => e = .returned (.tuple #[.slice none 0 0, .bool false]) ∧ Below w.heap.size w w' := by
  by_cases h0 : (0 : Int) < n
  · go_enter Try.func43, Try.ntmps43
    go_wp2
    go_ret2
    exact ⟨rfl, (Below.refl _ _).alloc (Nat.le_refl _) _⟩
  · by_cases hx : x = 0
    · subst hx
      clear h
      go_enter Try.func43, Try.ntmps43
      go_wp2
      go_ret2
      exact ⟨rfl, (Below.refl _ _).alloc (Nat.le_refl _) _⟩
    · have h1 : (left : Int) < k := by omega
      have hx2 : (x == 0) = false := by simpa using hx
      clear h
      go_enter Try.func43, Try.ntmps43
      go_wp2
      go_ret2
      exact ⟨rfl, (Below.refl _ _).alloc (Nat.le_refl _) _⟩
theorem form_at {d : Nat} (hG : FormAt d) (N : Nat) (x : Value) (o : Option (List Int)) (y z : Int) (left : Nat) (w : World) (hy : y = left) (hz : z = d) (hI : Is N w d x o) (hl : left ≤ 65536) :
    Calls Try.prog 43 #[x, .int .i64 y, .int .i64 z] w (FormPost left o w) := by
  subst hy; subst hz; exact hG N x o left w hI hl
/-- Every form has a byte. -/
theorem cat_count {os : List (Option (List Int))} {X : List Int} (h : cat os = some X) (hp : ∀ F, some F ∈ os → 0 < F.length) : os.length ≤ X.length := by
  induction os generalizing X with
  | nil => simp
  | cons o r ih =>
    cases o with
    | none => simp [cat] at h
    | some F =>
      simp only [cat, Option.map_eq_some_iff] at h
      obtain ⟨Y, hY, rfl⟩ := h
      have h1 := ih hY (fun F hF => hp F (by simp [hF]))
      have h2 := hp F (by simp)
      simp; omega

theorem form_more {os : List (Option (List Int))} {Y : List Int} {j left : Nat} {o : Option (List Int)} (hY : cat (os.take j) = some Y) (ho : os[j]? = some o) (hno : ∀ F, o = some F → left < Y.length + F.length) :
    ∀ F, (cat os).map (wrap true) = some F → left < F.length := fun F hF => by
  obtain ⟨X, hX, rfl⟩ := Option.map_eq_some_iff.1 hF
  obtain ⟨F', rfl, hl⟩ := cat_split hX hY ho
  have := hno F' rfl
  have := (wrap_len true X).1
  omega

set_option maxRecDepth 100000 in
set_option maxHeartbeats 1000000 in
theorem form_list (d : Nat) (hd15 : d ≤ 15) (hG : FormAt d) (N : Nat) (sp : Option Addr) (cap : Nat) (sq : Option Addr) (k cq left : Nat) (vs : List Value) (os : List (Option (List Int))) (w : World) (hN : N ≤ w.heap.size)
    (hI : IS N w sq k cq vs) (hos : os.length = vs.length) (hIs : ∀ (i : Nat) v o, vs[i]? = some v → os[i]? = some o → Is N w d v o) (hl6 : left ≤ 65536) (hk : k ≤ left) :
    Calls Try.prog 43 #[.agg #[.bool true, .slice sp 0 cap, .slice sq k cq], .int .i64 left, .int .i64 ((d : Int) + 1)] w (FormPost left ((cat os).map (wrap true)) w) := by
  replace hIs := Hid.mk' hIs
  replace hos := Hid.mk' hos
  have hkl := hI.len
  have h1 : ¬ ((d : Int) + 1 = 0) := by omega
  have h2 : (((d : Int) + 1) == 0) = false := by simpa using h1
  have h3 : ¬ (left : Int) < k := by omega
  go_enter Try.func43, Try.ntmps43
  go_wp2
  have X0 := Arr.new w 59 #[.bool true, .slice sp 0 cap, .slice sq k cq]
  have hb0 : Below w.heap.size w (w.alloc (.cells #[.bool true, .slice sp 0 cap, .slice sq k cq] 59)) := (Below.refl _ _).alloc (Nat.le_refl _) _
  have hs0 : (w.alloc (.cells #[.bool true, .slice sp 0 cap, .slice sq k cq] 59)).heap.size = w.heap.size + 1 := by simp
  generalize w.alloc (.cells #[.bool true, .slice sp 0 cap, .slice sq k cq] 59) = W at *
  go_loopw [8, 9] (fun f i wr => ∃ (j : Nat) (Y : List Int), j ≤ k ∧ i = .int .i64 j ∧ Hid (cat (os.take j) = some Y) ∧ Y.length ≤ left ∧ Bts Y ∧ wr.ownsRow (w.heap.size + 1) 5 1 f Y.length (by8 Y) ∧ Below (w.heap.size + 1) W wr)
    (fun _ i _ => k - (intOf i).toNat)
  case atStart => exact ⟨0, [], by omega, rfl, Hid.mk' rfl, by simp, Bts.nil, World.ownsRow_nil _ _ _ _, Below.refl _ _⟩
  case round =>
    obtain ⟨j, Y, hj, rfl, hY, hYn, hYb, hownr, hbl⟩ := hrel
    have hsz := hbl.size
    have Xr := X0.below hbl (by omega)
    have x0 := Xr.cell 0
    have x1 := Xr.cell 1
    have x2 := Xr.cell 2
    simp at x0 x1 x2
    have hbw : Below w.heap.size w wr := hb0.trans (hbl.mono (by omega))
    by_cases hlt : j < k
    · have h3 : (j : Int) < k := by omega
      have h4 : (0 : Int) ≤ j := by omega
      obtain ⟨g, off, rfl, hg, hcells⟩ := hI.at0 (by omega)
      have hjv : j < vs.length := by rw [← hkl.out]; exact hlt
      have hjo : j < os.length := by rw [hos.out]; exact hjv
      have hx := hIs.out j vs[j] os[j] (List.getElem?_eq_getElem hjv) (List.getElem?_eq_getElem hjo)
      obtain ⟨a, b, c, e0, ca, cb, cc⟩ := hcells j vs[j] (List.getElem?_eq_getElem hjv)
      obtain ⟨l', sp', n', cap', bs', sq', k', cq', vs', hSh⟩ := hx.sh
      rw [hSh.eq] at e0 hx
      have e1 : a = .bool l' ∧ b = .slice sp' n' cap' ∧ c = .slice sq' k' cq' := by simpa [eq_comm] using e0
      obtain ⟨rfl, rfl, rfl⟩ := e1
      have d0 := (hbw.cell (p := ⟨g, off + 3 * j, none⟩) (by show g < w.heap.size; omega)).trans ca
      have d1 := (hbw.cell (p := ⟨g, off + 3 * j + 1, none⟩) (by show g < w.heap.size; omega)).trans cb
      have d2 := (hbw.cell (p := ⟨g, off + 3 * j + 2, none⟩) (by show g < w.heap.size; omega)).trans cc
      rw [Nat.mul_comm 3 j] at d0 d1 d2
      have hxr := hx.below (hbw.mono hN)
      have Hoj : Hid (os[j]? = some os[j]) := List.getElem?_eq_getElem hjo
      generalize os[j] = oj at *
      clear ca cb cc hcells hSh e0 hx
      obtain ⟨sb, cb, rfl, hbsb, -⟩ := own_bs hownr hYb (by omega)
      have hleft : (left : Int) - Y.length = ((left - Y.length : Nat) : Int) := by omega
      replace hleft := Hid.mk' hleft
      have hFb : ∀ F, oj = some F → Bts F := fun F e => by rw [e] at hxr; exact hxr.bts
      replace hFb := Hid.mk' hFb
      go_wp2_with (first
        | (go_at_call 43; go_must (refine (form_at hG N _ oj _ _ (left - Y.length) _ hleft.out (by omega) hxr (by omega)).mono ?_; rintro e w2 ⟨hb2, ⟨F, v2, hoF, hFl, rfl, hown2⟩ | ⟨hno, rfl⟩⟩; rotate_left; (have hno := Hid.mk' hno; skip); rotate_left; have hFb2 := hFb.out F hoF; replace hoF := Hid.mk' hoF; obtain ⟨s2, c2, rfl, hbs2, -⟩ := own_bs hown2 hFb2 (by omega); have hownr2 := own_below hownr hb2; have hs2 := hb2.size; by_cases hfit : (left : Int) < Y.length + F.length))
        | (at_builtin; go_must (refine append_bytes (by rfl) (.tmp 95) (.tmp 96) (by rfl) (w.heap.size + 1) _ Y.length Y (by rfl) hownr2 s2 F.length c2 F (by rfl) (by rfl) hbs2.nil hbs2.sl (by omega) (by omega) ?_; intro v3 w3 hown3 hg3)))
      · go_ret2
        refine ⟨hbw.trans (hb2.mono (by omega)), .inr ⟨form_more hY.out Hoj.out (fun F' e => ?_), rfl⟩⟩
        have h9 := hoF.out
        rw [e] at h9
        obtain rfl := Option.some.inj h9
        omega
      · go_roundw
        case rel =>
          refine ⟨j + 1, Y ++ F, by omega, by go_num, Hid.mk' (cat_next hY.out (by rw [Hoj.out, hoF.out])), by simp; omega, hYb.app hFb2, by simpa using hown3, (hbl.trans (hb2.mono (by omega))).grown hg3 (by omega) (fun j e => own_ge hownr2 j e)⟩
        case measure => simp [intOf]; omega
      · go_ret2
        refine ⟨hbw.trans (hb2.mono (by omega)), .inr ⟨form_more hY.out Hoj.out (fun F' e => ?_), rfl⟩⟩
        have := hno F' e
        omega
    · obtain rfl : j = k := by omega
      have hcat : cat os = some Y := by
        have := hY.out
        rwa [List.take_of_length_le (by rw [hos.out, ← hkl.out]; exact Nat.le_refl _)] at this
      replace hcat := Hid.mk' hcat
      have hwl : (wrap true Y).length = (hd 192 Y.length).length + Y.length := by rw [wrap_true, List.length_append]
      have hdl := hd_len 192 Y.length
      have hdb := hd_bts (m := 192) (.inr rfl) Y.length
      obtain ⟨sb, cb, rfl, hbsb, -⟩ := own_bs hownr hYb (by omega)
      have hlt' : ¬ (j : Int) < j := by omega
      go_wp2_with (first
        | (go_at_call 58; go_must (refine (refHead_at 192 _ Y.length _ (by omega) (by omega) (by omega)).mono ?_; rintro e w3 ⟨v3, rfl, hown3, hb3⟩; have hbs3 := hbsb.below hb3; have hs3 := hb3.size; have hown3' : w3.ownsRow w.heap.size 5 1 v3 (hd 192 Y.length).length (by8 (hd 192 Y.length)) := own_mono hown3 (by omega)))
        | (at_builtin; go_must (refine append_bytes (by rfl) (.tmp 100) (.tmp 101) (by rfl) w.heap.size _ (hd 192 Y.length).length (hd 192 Y.length) (by rfl) hown3' sb Y.length cb Y (by rfl) (by rfl) hbs3.nil hbs3.sl (by omega) (by omega) ?_; intro v4 w4 hown4 hg4)))
      go_ret2
      refine ⟨(hbw.trans (hb3.mono (by omega))).grown hg4 (by omega) (fun j e => own_ge hown3' j e), .inl ⟨wrap true Y, v4, by rw [hcat.out]; rfl, by omega, rfl, ?_⟩⟩
      rw [hwl, wrap_true]; exact hown4

/-- form, out of form of what is within. -/
theorem form_of (d : Nat) (hd : d ≤ 16) (hG : ∀ d', d = d' + 1 → FormAt d') : FormAt d := by
  intro N x o left w hIs hl
  have hIs := hIs.here
  have hbytes : ∀ sp n cap bs sq k cq vs, Sh w.heap.size w x false sp n cap bs sq k cq vs → (o = if k = 0 then some (wrap false bs) else none) → Calls Try.prog 43 #[x, .int .i64 left, .int .i64 (d : Int)] w (FormPost left o w) := by
    intro sp n cap bs sq k cq vs hs ho
    have hB := hs.bytes
    have hlen := hB.len.out
    have hwl := wrap_len false bs
    rw [hs.eq]
    by_cases hk : k = 0
    · subst hk
      rw [if_pos rfl] at ho
      subst ho
      by_cases hfit : n ≤ left
      · by_cases hn1 : n = 1
        · subst hn1
          obtain ⟨b, off, e, -, hBy⟩ := hB.at0 (by omega)
          subst e
          by_cases hy : bat bs 0 < 128
          · rw [wrapF_one ⟨hlen.symm, hy⟩]
            obtain ⟨y, rfl⟩ := List.length_eq_one_iff.1 hlen.symm
            exact form_one b off cap y sq cq left _ _ w hB hy hfit
          · exact form_two b off cap bs sq cq left _ _ w hB hl hy hfit
        · exact form_many sp n cap bs sq cq left _ _ w hB hl hn1 hfit
      · refine (form_bad sp n cap sq 0 cq left _ w (.inr (by omega))).mono ?_
        rintro e w' ⟨rfl, hb⟩
        refine ⟨hb, .inr ⟨fun F hF => ?_, rfl⟩⟩
        obtain rfl := Option.some.inj hF
        omega
    · rw [if_neg hk] at ho
      subst ho
      refine (form_bad sp n cap sq k cq left _ w (.inl (by omega))).mono ?_
      rintro e w' ⟨rfl, hb⟩
      exact ⟨hb, .inr ⟨fun F hF => (by cases hF), rfl⟩⟩
  cases d with
  | zero =>
    obtain ⟨l, sp, m, cap, bs, sq, k, cq, vs, hs, ⟨rfl, h2⟩ | ⟨rfl, rfl⟩⟩ := hIs
    · exact hbytes sp m cap bs sq k cq vs hs h2
    · rw [hs.eq]
      refine (form_nolist sp m cap sq k cq left _ w (.inr (.inl rfl))).mono ?_
      rintro e w' ⟨rfl, hb⟩
      exact ⟨hb, .inr ⟨fun F hF => (by cases hF), rfl⟩⟩
  | succ d' =>
    obtain ⟨l, sp, m, cap, bs, sq, k, cq, vs, hs, ⟨rfl, h2⟩ | ⟨rfl, hm, rfl⟩ | ⟨rfl, rfl, os, h3, h4, rfl⟩⟩ := hIs
    · exact hbytes sp m cap bs sq k cq vs hs h2
    · rw [hs.eq]
      refine (form_nolist sp m cap sq k cq left _ w (.inl (by omega))).mono ?_
      rintro e w' ⟨rfl, hb⟩
      exact ⟨hb, .inr ⟨fun F hF => (by cases hF), rfl⟩⟩
    · rw [hs.eq]
      by_cases hk : k ≤ left
      · exact form_list d' (by omega) (hG d' rfl) w.heap.size sp cap sq k cq left vs os w (Nat.le_refl _) hs.list h3 h4 hl hk
      · refine (form_nolist sp 0 cap sq k cq left _ w (.inr (.inr (by omega)))).mono ?_
        rintro e w' ⟨rfl, hb⟩
        refine ⟨hb, .inr ⟨fun F hF => ?_, rfl⟩⟩
        obtain ⟨X, hX, rfl⟩ := Option.map_eq_some_iff.1 hF
        have h5 := cat_count hX (fun F hF => by
          obtain ⟨i, hi, e⟩ := List.mem_iff_getElem.1 hF
          have := h4 i vs[i] (some F) (List.getElem?_eq_getElem (by omega)) (by rw [List.getElem?_eq_getElem hi, e])
          exact this.fm.pos)
        have h6 := (wrap_len true X).1
        have h7 := hs.list.len.out
        omega
theorem form_any : ∀ d, d ≤ 16 → FormAt d
  | 0, h => form_of 0 h fun d' e => by omega
  | d + 1, h => form_of (d + 1) h fun d' e => by
    obtain rfl : d = d' := by omega
    exact form_any d (by omega)
end Go.Proofs.Ytbjlmekafnpllab

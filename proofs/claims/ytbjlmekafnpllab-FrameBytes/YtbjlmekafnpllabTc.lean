/- Layer rlp, the document's answer: reading a list. -/
import Derived.Test.YtbjlmekafnpllabTb
namespace Go.Proofs.Ytbjlmekafnpllab
open Go.RowKit
set_option linter.unusedVariables false
set_option linter.unusedSimpArgs false

def RReadAt (f d : Nat) : Prop := ∀ (N : Nat) (sp : Option Addr) (n cap : Nat) (L : List Int) (w : World), BS N w sp n cap L → N ≤ w.heap.size → n ≤ f → n ≤ 65536 →
  Calls Try.prog 51 #[.slice sp n cap, .int .i64 (d : Int)] w (RRead d n L w (rd1 (rdl f) d L))
theorem rat_err {f d : Nat} (hR : RReadAt f d) (N : Nat) (sp : Option Addr) (n cap : Nat) (x : Int) (c : Int) (L : List Int) (w : World) (hx : x = d) (hS : BS N w sp n cap L) (hN : N ≤ w.heap.size) (hn : n ≤ f) (hn6 : n ≤ 65536) (hq : rd1 (rdl f) d L = .error c) :
    Calls Try.prog 51 #[.slice sp n cap, .int .i64 x] w fun e w' => e = .returned (.tuple #[.agg #[.bool false, .slice none 0 0, .slice none 0 0], .int .i64 0, .int .i64 c]) ∧ Below w.heap.size w w' := by
  subst hx
  refine (hR N sp n cap L w hS hN hn hn6).mono ?_
  rintro e w' ⟨hb, ⟨c', -, h, he⟩ | ⟨s', v, h, -⟩⟩
  · rw [hq] at h; cases h; exact ⟨he, hb⟩
  · rw [hq] at h; cases h
theorem rat_ok {f d : Nat} (hR : RReadAt f d) (N : Nat) (sp : Option Addr) (n cap : Nat) (x : Int) (s : Nat) (L : List Int) (w : World) (hx : x = d) (hS : BS N w sp n cap L) (hN : N ≤ w.heap.size) (hn : n ≤ f) (hn6 : n ≤ 65536) (hq : rd1 (rdl f) d L = .ok s) :
    Calls Try.prog 51 #[.slice sp n cap, .int .i64 x] w fun e w' => ∃ l s1 n1 c1 s2 n2 c2, e = .returned (.tuple #[.agg #[.bool l, .slice s1 n1 c1, .slice s2 n2 c2], .int .i64 (s : Int), .int .i64 0]) ∧ Hid (Dec (w.heap.size ≤ ·) w' d (.agg #[.bool l, .slice s1 n1 c1, .slice s2 n2 c2]) (L.take s)) ∧ s ≤ n ∧ Below w.heap.size w w' := by
  subst hx
  refine (hR N sp n cap L w hS hN hn hn6).mono ?_
  rintro e w' ⟨hb, ⟨c', -, h, he⟩ | ⟨s', v, h, -, hs, he, hD⟩⟩
  · rw [hq] at h; cases h
  · rw [hq] at h; cases h
    obtain ⟨l, s1, n1, c1, s2, n2, c2, e2⟩ := hD.sh
    subst e2
    exact ⟨l, s1, n1, c1, s2, n2, c2, he, hD, hs, hb⟩

theorem own_some {w : World} {base n e s : Nat} {v : Value} {xs : List Value} (h : w.ownsRow base e s v (n + 1) xs) : ∃ g cap, v = .slice (some ⟨g, 0, none⟩) (n + 1) cap := by
  obtain ⟨-, h | ⟨g, cap, cur, rfl, -⟩⟩ := h
  · omega
  · exact ⟨g, cap, rfl⟩

set_option maxRecDepth 100000 in
set_option maxHeartbeats 1000000 in
theorem rread_list (N d f : Nat) (hd16 : d ≤ 16) (hF : ∀ f', RReadAt f' d) (sp : Option Addr) (n cap : Nat) (m : Int) (r : List Int) (k z : Nat) (w : World) (hS : BS N w sp n cap (m :: r)) (hN : N ≤ w.heap.size) (hm2 : ¬ m < 192) (hq : rb r (m - 192).toNat = .ok (k, z)) (hnf : n ≤ f) (hn6 : n ≤ 65536) :
    Calls Try.prog 51 #[.slice sp n cap, .int .i64 ((d : Int) + 1)] w (RRead (d + 1) n (m :: r) w (rd1 (rdl f) (d + 1) (m :: r))) := by
  have hln := hS.len
  have hn : n = r.length + 1 := by have := hln.out; simpa using this
  have hn0 : 0 < n := by omega
  have hmb := hS.bts m (by simp)
  have hnI : (0 : Int) < n := by omega
  have hnB : ((n : Int) == 0) = false := by simp; omega
  have hsm := hS.small
  have hSa : BS N (w.alloc (.cells #[.bool false, .slice none 0 0, .slice none 0 0] 59)) sp n cap (m :: r) := hS.below ((alloc_bel' w _).mono hN)
  have Z := Arr.new w 59 #[.bool false, .slice none 0 0, .slice none 0 0]
  have hm : ¬ m < 128 := by omega
  have hmg : 192 ≤ m := by omega
  have hd1 : ¬ ((d : Int) + 1 = 0) := by omega
  have hd2 : (((d : Int) + 1) == 0) = false := by simpa using hd1
  have E := Hid.mk' (show rd1 (rdl f) (d + 1) (m :: r) = match rdl f d ((r.drop k).take z) with | .error e => .error e | .ok _ => .ok (1 + k + z) by rw [rd1, if_neg (by omega), if_neg hm2, if_neg (by omega), hq]; rfl)
  have hfm := Hid.mk' (form_read (m := m) (r := r) true (s := (m - 192).toNat) (fun y hy => hS.bts y (by simp [hy])) (by omega) (by simp; omega) hq (by rintro ⟨h, -⟩; cases h))
  have hkz := (rb_ok hq).1
  obtain ⟨s3, e3, hB3⟩ := slice_in N sp n cap m r k z _ hSa (by omega)
  obtain ⟨b1, o1, rfl, -, hBy1⟩ := hSa.at0 hn0
  have c1 : (w.alloc (.cells #[.bool false, .slice none 0 0, .slice none 0 0] 59)).cell? ⟨b1, o1, none⟩ = some (.int .u8 m) := hBy1 0 (by omega)
  have hnn := Hid.mk' hn
  clear hn
  replace hq := Hid.mk' hq
  have hgt : ¬ (n : Int) - (1 + (k : Int)) < (z : Int) := by have := hnn.out; omega
  have hzf : z < f := by have := hnn.out; omega
  have hz6 : z ≤ 65536 := by have := hnn.out; omega
  have hzn : k + z + 1 ≤ n := by have := hnn.out; omega
  have Y := Arr.new (w.alloc (.cells #[.bool false, .slice none 0 0, .slice none 0 0] 59)) 59 #[.bool false, .slice none 0 0, .slice none 0 0]
  simp at Y
  have X := Y.setRow #[.bool true, .slice none 0 0, .slice none 0 0]
  go_enter Try.func51, Try.ntmps51
  go_wp2_with (first
    | (go_at_call 63; go_must (refine (len_ok N _ n cap 192 m (m - 192).toNat k z r _ hSa (.inr rfl) (by omega) (by omega) hq.out).mono ?_; rintro e w2 ⟨⟨rfl, hkn⟩, rfl⟩))
    | (refine wpList_store_arr (by rfl) 59 (.tmp 13) (.tmp 82) (by rfl) (w.heap.size + 1) #[.bool true, .slice none 0 0, .slice none 0 0] (by rfl) (by rfl) 59 _ Y size25 rfl (one3 _ _ _ _ _ _ _) ?_))
  simp only [Act.put]
  have A0 := (Z.alloc (.cells #[.bool false, .slice none 0 0, .slice none 0 0] 59)).setRowOther #[.bool true, .slice none 0 0, .slice none 0 0] (show w.heap.size ≠ w.heap.size + 1 by omega)
  have hbW : Below w.heap.size w (((w.alloc (.cells #[.bool false, .slice none 0 0, .slice none 0 0] 59)).alloc (.cells #[.bool false, .slice none 0 0, .slice none 0 0] 59)).setRow (w.heap.size + 1) #[.bool true, .slice none 0 0, .slice none 0 0]) := below_row ((alloc_bel' w _).alloc (by simp) _) (by omega) _
  have hsW : (((w.alloc (.cells #[.bool false, .slice none 0 0, .slice none 0 0] 59)).alloc (.cells #[.bool false, .slice none 0 0, .slice none 0 0] 59)).setRow (w.heap.size + 1) #[.bool true, .slice none 0 0, .slice none 0 0]).heap.size = w.heap.size + 2 := by simp
  have hB31 : BS N (((w.alloc (.cells #[.bool false, .slice none 0 0, .slice none 0 0] 59)).alloc (.cells #[.bool false, .slice none 0 0, .slice none 0 0] 59)).setRow (w.heap.size + 1) #[.bool true, .slice none 0 0, .slice none 0 0]) s3 z (cap - (1 + k)) ((r.drop k).take z) := hB3.below ⟨rfl, rfl, rfl, by simp, fun b hb => by rw [setRow_other _ _ _ _ (by omega), Below.heap_alloc _ _ _ (by simp; omega)]⟩
  clear hS hSa hBy1 c1 e3 hB3 Y Z hgt
  generalize (((w.alloc (.cells #[.bool false, .slice none 0 0, .slice none 0 0] 59)).alloc (.cells #[.bool false, .slice none 0 0, .slice none 0 0] 59)).setRow (w.heap.size + 1) #[.bool true, .slice none 0 0, .slice none 0 0]) = W1 at *
  generalize cap - (1 + k) = cz at *
  generalize hLb : (r.drop k).take z = Lb at *
  replace hLb := Hid.mk' hLb
  go_loopw [12] (fun b wr => ∃ (f' m c' : Nat) (sp' : Option Addr) (L' : List Int) (vs : List Value) (Fs : List (List Int)) (v : Value), b = .slice sp' m c' ∧ BS N wr sp' m c' L' ∧ m < f' ∧ f' ≤ f ∧ Hid (rdl f d Lb = rdl f' d L') ∧ Hid (Fs.flatten ++ L' = Lb) ∧ Hid (Fs.length = vs.length) ∧ vs.length + m ≤ z ∧ Three vs ∧ Arr wr w.heap.size 59 #[.bool false, .slice none 0 0, .slice none 0 0] ∧ Arr wr (w.heap.size + 1) 59 #[.bool true, .slice none 0 0, v] ∧ wr.ownsRow (w.heap.size + 2) 59 3 v vs.length (flat3 vs) ∧ Hid (∀ (i : Nat) x F, vs[i]? = some x → Fs[i]? = some F → Dec (fun b => w.heap.size + 2 ≤ b ∧ some b ≠ v.ownBlock) wr d x F) ∧ Below w.heap.size w wr ∧ w.heap.size + 2 ≤ wr.heap.size)
    (fun b _ => slLen b)
  case atStart =>
    exact ⟨f, z, cz, s3, Lb, [], [], _, rfl, hB31, hzf, Nat.le_refl _, Hid.mk' rfl, Hid.mk' (by simp), Hid.mk' rfl, by simp, fun v hv => by simp at hv, A0, X, World.ownsRow_nil _ _ _ _, Hid.mk' (fun i x F h => by simp at h), hbW, by omega⟩
  case round =>
    obtain ⟨f', m', c', sp', L', vs, Fs, v, rfl, hS', hmf, hff, hrdl, hflat, hlen, hcnt, h3, hA, hX, hown, hdec, hbl, hsz⟩ := hrel
    clear hB31 A0 X hbW hsW
    have hlm := hS'.len
    have x2 := hX.cell 2
    have xf := hX.frozen 2
    have x0 := hX.cell 0
    have x1 := hX.cell 1
    simp at x0 x1 x2
    by_cases hm0 : 0 < m'
    · have hmI : (0 : Int) < m' := by omega
      have hne : L' ≠ [] := by intro e; have := hlm.out; rw [e] at this; simp at this; omega
      replace hne := Hid.mk' hne
      obtain ⟨f1, rfl⟩ : ∃ f1, f' = f1 + 1 := ⟨f' - 1, by omega⟩
      have hRf := hF f1
      cases hq1 : rd1 (rdl f1) d L' with
      | error c =>
        have hc : c = 7 ∨ c = 8 := rd1_code (fun d' M c hM he => rdl_code _ d' M c hM he) (by rw [← hlm.out]; omega) hq1
        have Eq := Hid.mk' (show rd1 (rdl f) (d + 1) (m :: r) = .error c by rw [E.out, hrdl.out, rdl_err hne.out hq1])
        replace hq1 := Hid.mk' hq1
        rcases hc with rfl | rfl
        all_goals
          go_wp2_with (first
            | (go_at_call 51; go_must (refine (rat_err hRf N sp' m' c' _ _ L' _ (by omega) hS' (by omega) (by omega) (by omega) hq1.out).mono ?_; rintro e w2 ⟨rfl, hb2⟩; have Z2 := Arr.new w2 59 #[.bool false, .slice none 0 0, .slice none 0 0]; have hA2 := ((hA.below hb2 (by omega)).alloc (.cells #[.bool false, .slice none 0 0, .slice none 0 0] 59)).setRowOther #[.bool false, .slice none 0 0, .slice none 0 0] (show w.heap.size ≠ w2.heap.size by have := hb2.size; omega)))
            | (refine wpList_store_arr (by rfl) 59 (.tmp 14) (.tmp 91) (by rfl) w2.heap.size #[.bool false, .slice none 0 0, .slice none 0 0] (by rfl) (by rfl) 59 _ Z2 size25 rfl (one3 _ _ _ _ _ _ _) ?_)
            | (refine wpList_store_arr (by rfl) 59 (.tmp 4) (.tmp 96) (by rfl) w.heap.size #[.bool false, .slice none 0 0, .slice none 0 0] (by rfl) (by rfl) 59 _ hA2 size25 rfl (one3 _ _ _ _ _ _ _) ?_))
          have hs2 := hb2.size
          exact bodyPost_ret (v := .tuple #[.agg #[.bool false, .slice none 0 0, .slice none 0 0], .int .i64 0, .int .i64 _]) (res35 rfl rfl rfl (hA2.setRow _)) rfl ⟨below_row (below_row ((hbl.trans (hb2.mono (by omega))).alloc (by omega) _) (by omega) _) (Nat.le_refl _) _, .inl ⟨_, by first | exact .inl rfl | exact .inr rfl, Eq.out, rfl⟩⟩
      | ok s =>
        have hs0 := rd1_pos hq1
        replace hq1 := Hid.mk' hq1
        have hle' := hS'.le
        go_wp2_with (first
          | (go_at_call 51; go_must (refine (rat_ok hRf N sp' m' c' _ s L' _ (by omega) hS' (by omega) (by omega) (by omega) hq1.out).mono ?_; rintro e w2 ⟨l, s1, n1, c1, s2, n2, c2, rfl, hD2, hsm', hb2⟩; have hs2 := hb2.size; have Z2 := Arr.new w2 59 #[.bool false, .slice none 0 0, .slice none 0 0]; have e5 := run_slice_from sp' m' c' s (s : Int) rfl hsm' hle'))
          | (refine wpList_store_arr (by rfl) 59 (.tmp 14) (.tmp 91) (by rfl) w2.heap.size #[.bool l, .slice s1 n1 c1, .slice s2 n2 c2] (by rfl) (by rfl) 59 _ Z2 size25 rfl (one3 _ _ _ _ _ _ _) ?_; have X2 := Z2.setRow #[.bool l, .slice s1 n1 c1, .slice s2 n2 c2]; have y0 := X2.cell 0; have y1 := X2.cell 1; have y2 := X2.cell 2; simp at y0 y1 y2; have hXX := ((hX.below hb2 (by omega)).alloc (.cells #[.bool false, .slice none 0 0, .slice none 0 0] 59)).setRowOther #[.bool l, .slice s1 n1 c1, .slice s2 n2 c2] (show w.heap.size + 1 ≠ w2.heap.size by omega); have xx2 := hXX.cell 2; simp at xx2; have hW : ∀ b, b < wr.heap.size → (((w2.alloc (.cells #[.bool false, .slice none 0 0, .slice none 0 0] 59)).setRow w2.heap.size #[.bool l, .slice s1 n1 c1, .slice s2 n2 c2]).alloc (.cells #[.bool l, .slice s1 n1 c1, .slice s2 n2 c2] 59)).heap[b]? = wr.heap[b]? := (fun b hb => by rw [Below.heap_alloc _ _ _ (by simp; omega), setRow_other _ _ _ _ (by omega), Below.heap_alloc _ _ _ (by omega), hb2.block b hb]); have hNew : Arr (((w2.alloc (.cells #[.bool false, .slice none 0 0, .slice none 0 0] 59)).setRow w2.heap.size #[.bool l, .slice s1 n1 c1, .slice s2 n2 c2]).alloc (.cells #[.bool l, .slice s1 n1 c1, .slice s2 n2 c2] 59)) (w2.heap.size + 1) 59 #[.bool l, .slice s1 n1 c1, .slice s2 n2 c2] := (by simpa using Arr.new ((w2.alloc (.cells #[.bool false, .slice none 0 0, .slice none 0 0] 59)).setRow w2.heap.size #[.bool l, .slice s1 n1 c1, .slice s2 n2 c2]) 59 #[.bool l, .slice s1 n1 c1, .slice s2 n2 c2]); have hWs : w.heap.size + 2 ≤ (((w2.alloc (.cells #[.bool false, .slice none 0 0, .slice none 0 0] 59)).setRow w2.heap.size #[.bool l, .slice s1 n1 c1, .slice s2 n2 c2]).alloc (.cells #[.bool l, .slice s1 n1 c1, .slice s2 n2 c2] 59)).heap.size := (by simp; omega))
          | (at_builtin; go_must (refine append_item (by rfl) (.tmp 99) (.tmp 101) (by rfl) (w.heap.size + 2) v vs.length vs (by rfl) (own_of_block hown (fun b hb => hW b (hown.lt b hb).2)) (w2.heap.size + 1) 1 l s1 n1 c1 s2 n2 c2 (by rfl) hNew (by omega) hWs ?_; intro v4 w4 hown4 hg4 hob4; obtain ⟨g4, cap4, rfl⟩ := own_some hown4; have hX4 : Arr w4 (w.heap.size + 1) 59 #[.bool true, .slice none 0 0, v] := ((hg4.block _ (by simp; omega) (fun e => by have := own_ge hown _ e.symm; omega)).trans (hXX.alloc _)); have z2 := hX4.cell 2; have zf := hX4.frozen 2; simp at z2)))
        have hsz4 := hg4.size
        simp at hsz4
        have hX5 := hX4.set 2 (.slice (some ⟨g4, 0, none⟩) (vs.length + 1) cap4)
        simp at hX5
        have hge4 := own_ge hown4
        have h5 : ∀ b, b ≠ w.heap.size + 1 → (w4.setCell ⟨w.heap.size + 1, 2, none⟩ (.slice (some ⟨g4, 0, none⟩) (vs.length + 1) cap4)).heap[b]? = w4.heap[b]? := fun b hb => Below.heap_setCell _ _ _ _ (fun e => hb e)
        have hs5 : (w4.setCell ⟨w.heap.size + 1, 2, none⟩ (.slice (some ⟨g4, 0, none⟩) (vs.length + 1) cap4)).heap.size = w4.heap.size := by simp [World.setCell]
        have hS4 : ∀ b, b < wr.heap.size → some b ≠ v.ownBlock → w4.heap[b]? = wr.heap[b]? := fun b hb hne' => by
          rw [hg4.block b (by simp; omega) hne']; exact hW b hb
        have hbl4 : Below w.heap.size w w4 := ((below_row ((hbl.trans (hb2.mono (by omega))).alloc (by omega) _) (by omega) _).alloc (by simp; omega) _).grown hg4 (by simp; omega) (fun j e => by have := own_ge hown j e; omega)
        have hbl5 := hbl4.setCell (p := ⟨w.heap.size + 1, 2, none⟩) (by simp) (.slice (some ⟨g4, 0, none⟩) (vs.length + 1) cap4)
        go_roundw
        case rel =>
          refine ⟨f1, m' - s, c' - s, spAt sp' s c', L'.drop s, vs ++ [.agg #[.bool l, .slice s1 n1 c1, .slice s2 n2 c2]], Fs ++ [L'.take s], _, rfl, ?_, by omega, by omega, Hid.mk' (by rw [hrdl.out, rdl_ok hne.out hq1.out]), Hid.mk' (by rw [List.flatten_append, ← hflat.out]; simp), Hid.mk' (by simp [hlen.out]), by simp; omega, ?_, ?_, hX5, ?_, Hid.mk' (more_items hlen.out (fun i x F hv hF => ?_) ?_), hbl5, by omega⟩
          · have hp := hS'.part s (m' - s) c' (by omega) (by omega) (Nat.le_refl _)
            rw [show (L'.drop s).take (m' - s) = L'.drop s from List.take_of_length_le (by rw [List.length_drop, ← hlm.out]; omega)] at hp
            refine hp.below ⟨?_, ?_, ?_, by omega, fun b hb => ?_⟩
            · exact hbl5.1.trans hbl.1.symm
            · exact hbl5.2.trans hbl.2.symm
            · exact hbl5.3.trans hbl.3.symm
            · rw [h5 b (by omega), hS4 b (by omega) (fun e => by have := own_ge hown _ e.symm; omega)]
          · intro v hv
            rcases List.mem_append.1 hv with h | h
            · exact h3 v h
            · simp at h; exact ⟨_, _, _, _, _, _, _, h⟩
          · exact (h5 _ (by omega)).trans ((hS4 _ (by omega) (fun e => by have := own_ge hown _ e.symm; omega)).trans hA)
          · have := own_of_block hown4 (w' := w4.setCell ⟨w.heap.size + 1, 2, none⟩ (.slice (some ⟨g4, 0, none⟩) (vs.length + 1) cap4)) (fun b hb => h5 b (by have := hge4 b hb; omega))
            simpa using this
          · have h1 := (hdec.out i x F hv hF).mono (T := fun b => w.heap.size + 2 ≤ b ∧ some b ≠ v.ownBlock ∧ b < wr.heap.size) (fun b hb h => ⟨h.1, h.2, hb⟩)
            have h2 := h1.agree (w' := w4.setCell ⟨w.heap.size + 1, 2, none⟩ (.slice (some ⟨g4, 0, none⟩) (vs.length + 1) cap4)) ⟨by omega, fun b hb h => by rw [h5 b (by omega), hS4 b hb h.2.1]⟩
            refine h2.mono fun b _ h => ⟨h.1, ?_⟩
            rcases hob4 with e | e
            · rw [e]; exact h.2.1
            · rw [e]; simp; omega
          · have h1 := hD2.out.mono (T := fun b => wr.heap.size ≤ b ∧ b < w2.heap.size) (fun b hb h => ⟨h, hb⟩)
            have hno : ∀ b, wr.heap.size ≤ b → some b ≠ v.ownBlock := fun b hb e => by
              have := (hown.lt b e.symm).2; omega
            have h2 := h1.agree (w' := w4.setCell ⟨w.heap.size + 1, 2, none⟩ (.slice (some ⟨g4, 0, none⟩) (vs.length + 1) cap4)) ⟨by omega, fun b hb h => by
              rw [h5 b (by omega), hg4.block b (by simp; omega) (hno b h.1), Below.heap_alloc _ _ _ (by simp; omega), setRow_other _ _ _ _ (by omega), Below.heap_alloc _ _ _ (by omega)]⟩
            refine h2.mono fun b _ h => ⟨by omega, ?_⟩
            rcases hob4 with e | e
            · rw [e]; exact hno b h.1
            · rw [e]; simp; omega
        case measure => simp [slLen]; omega
    · obtain rfl : m' = 0 := by omega
      have hL0 : L' = [] := List.eq_nil_of_length_eq_zero hlm.out.symm
      have Hq : Hid (rdl f d Lb = .ok ()) := by
        rw [hrdl.out, hL0]
        obtain ⟨f1, rfl⟩ : ∃ f1, f' = f1 + 1 := ⟨f' - 1, by omega⟩
        exact if_pos rfl
      have Hf : Hid (Fs.flatten = Lb) := by have := hflat.out; rwa [hL0, List.append_nil] at this
      obtain ⟨sq, cq, rfl, hIS, hge⟩ := own_is hown h3 rfl (by omega)
      clear hL0
      go_wp2_with (refine wpList_store_arr (by rfl) 59 (.tmp 4) (.tmp 107) (by rfl) w.heap.size #[.bool true, .slice none 0 0, .slice sq vs.length cq] (by rfl) (by rfl) 59 _ hA size25 rfl (one3 _ _ _ _ _ _ _) ?_)
      refine bodyPost_ret (v := .tuple #[.agg #[.bool true, .slice none 0 0, .slice sq vs.length cq], .int .i64 (1 + (k : Int) + (z : Int)), .int .i64 0]) (res35 rfl rfl rfl (hA.setRow _)) rfl ⟨below_row hbl (Nat.le_refl _) _, .inr ⟨1 + k + z, _, by rw [E.out, Hq.out], by omega, by omega, by rw [show ((1 + k + z : Nat) : Int) = 1 + (k : Int) + (z : Int) by omega], ?_⟩⟩
      have hag : Agree (fun b => w.heap.size + 2 ≤ b) wr (wr.setRow w.heap.size #[.bool true, .slice none 0 0, .slice sq vs.length cq]) := ⟨by simp, fun b _ hb => setRow_other _ _ _ _ (by omega)⟩
      have hmo : ∀ b, b < (wr.setRow w.heap.size #[.bool true, .slice none 0 0, .slice sq vs.length cq]).heap.size → w.heap.size + 2 ≤ b → w.heap.size ≤ b := fun b _ hb => by omega
      have hISs : ISs (fun b => w.heap.size + 2 ≤ b) wr sq vs.length cq vs := ⟨hIS, own_mono hown (Nat.zero_le _), fun b off e => (hge b off e).1⟩
      refine .inr ⟨sq, vs.length, cq, vs, Fs, rfl, (hISs.agree hag).mono hmo, hlen.out, fun i x F hv hF => ((((hdec.out i x F hv hF).mono (T := fun b => w.heap.size + 2 ≤ b) fun b _ h => h.1).agree hag).mono hmo), ?_⟩
      rw [Hf.out]; exact hfm.out.symm

theorem rread_of (f d : Nat) (hd : d ≤ 16) (hF : ∀ d', d = d' + 1 → ∀ f', RReadAt f' d') : RReadAt f d := by
  intro N sp n cap L w hS hN hn hn6
  have hl := hS.len.out
  cases L with
  | nil =>
    obtain rfl : n = 0 := hl
    exact rread_none d sp cap _ _ w
  | cons m r =>
    have hmb := hS.bts m (by simp)
    by_cases h1 : m < 128
    · exact rread_low N d sp n cap _ m r _ w hS hN h1
    · by_cases h2 : m < 192
      · cases hq : rb r (m - 128).toNat with
        | error c => exact rread_bytes_err N d sp n cap _ m r _ c w hS hN h1 h2 hq
        | ok q =>
          obtain ⟨k, mm⟩ := q
          by_cases hmm : mm = 1
          · subst hmm
            by_cases hy : bat (r.drop k) 0 < 128
            · exact rread_bytes_one N d sp n cap _ m r _ k w hS hN h1 h2 hq hy
            · exact rread_bytes_two N d sp n cap _ m r _ k w hS hN h1 h2 hq hy
          · exact rread_bytes_many N d sp n cap _ m r _ k mm w hS hN h1 h2 hq hmm
      · cases d with
        | zero => exact rread_deep N sp n cap m r _ w hS hN h2
        | succ d =>
          have e : ((d + 1 : Nat) : Int) = (d : Int) + 1 := by omega
          rw [e]
          cases hq : rb r (m - 192).toNat with
          | error c => exact rread_list_err N d sp n cap m r _ c w hS hN h2 hq
          | ok q =>
            obtain ⟨k, mm⟩ := q
            exact rread_list N d f (by omega) (hF d rfl) sp n cap m r k mm w hS hN h2 hq hn hn6
theorem rread_any : ∀ (d : Nat), d ≤ 16 → ∀ f, RReadAt f d
  | 0, h, f => rread_of f 0 h fun d' e => by omega
  | d + 1, h, f => rread_of f (d + 1) h fun d' e f' => by
    obtain rfl : d = d' := by omega
    exact rread_any d (by omega) f'
end Go.Proofs.Ytbjlmekafnpllab

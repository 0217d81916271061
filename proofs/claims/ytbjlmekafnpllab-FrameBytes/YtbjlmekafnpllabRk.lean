/- Layer rlp: grow. -/
import Derived.Test.YtbjlmekafnpllabRj
namespace Go.Proofs.Ytbjlmekafnpllab
open Go.RowKit
set_option linter.unusedVariables false
set_option linter.unusedSimpArgs false

set_option maxRecDepth 100000 in
set_option maxHeartbeats 1000000 in
/-- A list: as growList has it. -/
theorem grow_list (v : Value) (sp : Option Addr) (n cap : Nat) (sq : Option Addr) (k cq : Nat) (x : Int) (w : World) (R : Ending → World → Prop)
    (h : ∀ o, Calls Try.prog 54 #[v, .agg #[.bool true, .slice sp n cap, .slice sq k cq], .int .i64 x] (w.alloc o) R) (ho : ∀ w, ¬ R .outgrown w) :
    Calls Try.prog 40 #[v, .agg #[.bool true, .slice sp n cap, .slice sq k cq], .int .i64 x] w R := by
  go_enter Try.func40, Try.ntmps40
  go_wp2_with (go_at_call 54; go_must (refine (h _).mono ?_; intro e w1 hR; rcases e with v1 | ch | _; rotate_left; exact ⟨rfl, hR⟩; exact absurd hR (ho _)))
  exact hR

theorem wrapF_app {bs : List Int} (h : ¬ (bs.length = 1 ∧ bat bs 0 < 128)) : wrap false bs = hd 128 bs.length ++ bs := by
  unfold wrap; rw [if_neg (by rintro ⟨-, h2⟩; exact h h2)]; rfl
theorem wrapF_one {bs : List Int} (h : bs.length = 1 ∧ bat bs 0 < 128) : wrap false bs = bs := by
  unfold wrap; rw [if_pos ⟨rfl, h⟩]

set_option maxRecDepth 100000 in
set_option maxHeartbeats 1000000 in
/-- Bytes that can't be. -/
theorem grow_bad (sv : Option Addr) (nv cv : Nat) (sp : Option Addr) (n cap : Nat) (sq : Option Addr) (k cq : Nat) (x : Int) (w : World) (hn : nv ≤ 65536) (hm : n ≤ 140737488355328) (h : (0 : Int) < k ∨ (65536 : Int) - nv < n) :
    Calls Try.prog 40 #[.slice sv nv cv, .agg #[.bool false, .slice sp n cap, .slice sq k cq], .int .i64 x] w fun e w' => e = .panicked (wrong 2) ∧ Below w.heap.size w w' := by
  by_cases h0 : (0 : Int) < k
  · go_enter Try.func40, Try.ntmps40
    go_wp2
    exact ⟨rfl, rfl, (Below.refl _ _).alloc (Nat.le_refl _) _⟩
  · have h1 : (65536 : Int) - nv < n := by omega
    clear h
    go_enter Try.func40, Try.ntmps40
    go_wp2
    exact ⟨rfl, rfl, (Below.refl _ _).alloc (Nat.le_refl _) _⟩

set_option maxRecDepth 100000 in
set_option maxHeartbeats 2000000 in
/-- One byte that is its own form. -/
theorem grow_one (base N : Nat) (sv : Option Addr) (nv cv : Nat) (L : List Int) (b off cap : Nat) (y : Int) (sq : Option Addr) (cq : Nat) (x : Int) (w : World) (hown : w.ownsRow base 5 1 (.slice sv nv cv) nv (by8 L)) (hL : Bts L) (hbase : base ≤ w.heap.size)
    (hc : w.cell? ⟨b, off, none⟩ = some (.int .u8 y)) (hy : y < 128) (hy0 : 0 ≤ y) (hfit : nv + 1 ≤ 65536) :
    Calls Try.prog 40 #[.slice sv nv cv, .agg #[.bool false, .slice (some ⟨b, off, none⟩) 1 cap, .slice sq 0 cq], .int .i64 x] w (Grew base w nv L (some [y])) := by
  have h1 : ¬ ((65536 : Int) - nv < 1) := by omega
  have hlt := block_lt_of_cell hc
  have hc' : ∀ o, (w.alloc o).cell? ⟨b, off, none⟩ = some (.int .u8 y) := fun o => by rw [World.cell?_alloc_lt _ _ _ hlt]; exact hc
  have h2 : ¬ (128 ≤ y) := by omega
  have hsl : ∀ o, SlL (w.alloc o) (some ⟨b, off, none⟩) [y] := fun o _ => ⟨b, off, rfl, fun t ht => by
    have : t = 0 := by simpa using ht
    subst this
    simpa [bat] using hc' o⟩
  go_enter Try.func40, Try.ntmps40
  go_wp2_with (first
    | (at_builtin; go_must (refine append_bytes (by rfl) (.tmp 45) (.tmp 47) (by rfl) base _ nv L (by rfl) (hown.alloc _) (some ⟨b, off, none⟩) 1 cap [y] (by rfl) (by rfl) (fun e => by cases e) (hsl _) (by omega) (by simp; omega) ?_; intro v1 w1 hown1 hg1; obtain ⟨s1, c1, rfl, -, -⟩ := own_bs hown1 (hL.app (by intro z hz; simp at hz; omega)) (by omega)))
    | (go_at_call 56; refine (bounded_ok _ _ _ _ (by omega)).mono ?_; rintro e w5 ⟨rfl, rfl⟩))
  go_ret
  exact ⟨((Below.refl _ _).alloc hbase _).grown hg1 (by simp; omega) (fun j e => own_ge hown j e), .inl ⟨[y], _, rfl, by simpa using hfit, rfl, hown1⟩⟩

theorem Arr.grown {w w' : World} {g ty : Nat} {C : Array Value} {row : Option Nat} (h : Arr w g ty C) (hg : w.grownBy w' row) (hne : some g ≠ row) : Arr w' g ty C := by
  have := h.lt; unfold Arr at h ⊢; rw [hg.block g this hne]; exact h
theorem own_ne {w : World} {base n e s : Nat} {v : Value} {xs : List Value} (h : w.ownsRow base e s v n xs) : some w.heap.size ≠ v.ownBlock := fun e => by
  have := h.lt _ e.symm; omega

set_option maxRecDepth 100000 in
set_option maxHeartbeats 2000000 in
/-- Bytes with a head. -/
theorem grow_more1 (base N : Nat) (sv : Option Addr) (nv cv : Nat) (L : List Int) (sp : Option Addr) (n cap : Nat) (bs : List Int) (sq : Option Addr) (cq : Nat) (x : Int) (w : World) (hown : w.ownsRow base 5 1 (.slice sv nv cv) nv (by8 L)) (hL : Bts L) (hbase : base ≤ w.heap.size) (hN : N ≤ base)
    (hB : BS N w sp n cap bs) (hnot : ¬ (bs.length = 1 ∧ bat bs 0 < 128)) (hfit : nv + n ≤ 65536) :
    Calls Try.prog 40 #[.slice sv nv cv, .agg #[.bool false, .slice sp n cap, .slice sq 0 cq], .int .i64 x] w (Grew base w nv L (some (wrap false bs))) := by
  have h1 : ¬ ((65536 : Int) - nv < n) := by omega
  have hlen := hB.len
  have Hnot := Hid.mk' hnot
  clear hnot
  have hw := Hid.mk' (wrapF_app Hnot.out)
  have hwl : (wrap false bs).length = (hd 128 n).length + n := by rw [hw.out, List.length_append, ← hlen.out]
  have hdl := hd_len 128 n
  have hdb := hd_bts (m := 128) (.inl rfl) n
  have hnil := hB.nil
  have hne := Hid.mk' (own_ne hown)
  have hBall : ∀ w3 : World, Below base w w3 → BS N w3 sp n cap bs := fun w3 hb => hB.below (hb.mono hN)
  by_cases hn1 : n = 1
  · subst hn1
    obtain ⟨b, off, rfl, hbN, hBy⟩ := hB.at0 (by omega)
    have hc := hBy 0 (by omega)
    rw [Nat.add_zero] at hc
    have hlt := block_lt_of_cell hc
    have hc' : ∀ o, (w.alloc o).cell? ⟨b, off, none⟩ = some (.int .u8 (bat bs 0)) := fun o => by rw [World.cell?_alloc_lt _ _ _ hlt]; exact hc
    have h2 : 128 ≤ bat bs 0 := by
      have := Hnot.out
      rw [← hlen.out] at this
      omega
    have hw' : Hid (wrap false bs = hd 128 1 ++ bs) := by have := hw.out; rwa [← hlen.out] at this
    clear hBy hc
    go_enter Try.func40, Try.ntmps40
    go_wp2_with (first
      | (go_at_call 55; go_must (refine (head_at 128 _ 1 _ (by omega) (by omega) (by omega)).mono ?_; rintro e w3 ⟨v3, rfl, hown3, hb3⟩; have hownr3 := own_below (hown.alloc _) hb3; have hs3 := hb3.size; have X3 := (Arr.new w 59 #[.bool false, .slice (some ⟨b, off, none⟩) 1 cap, .slice sq 0 cq]).below hb3 (by simp); obtain ⟨s3, c3, rfl, hbs3, -⟩ := own_bs hown3 hdb (by omega)))
      | (at_builtin; go_must (first | (refine append_bytes (by rfl) (.tmp 39) (.tmp 43) (by rfl) base _ nv L (by rfl) hownr3 s3 _ c3 (hd 128 1) (by rfl) (by rfl) hbs3.nil hbs3.sl (by omega) (by simp at hs3; omega) ?_; intro v4 w4 hown4 hg4; have hb4 : Below base w w4 := (((Below.refl _ _).alloc hbase _).trans (hb3.mono (by simp; omega))).grown hg4 (by simp at hs3; omega) (fun j e => own_ge hown j e); have X4 := (X3.grown hg4 hne.out).cell 1; have hB4 := hBall w4 hb4; obtain ⟨s4, c4, rfl, -, -⟩ := own_bs hown4 (hL.app hdb) (by omega)) | (refine append_bytes (by rfl) (.tmp 45) (.tmp 47) (by rfl) base _ (nv + (hd 128 1).length) (L ++ hd 128 1) (by rfl) hown4 (some ⟨b, off, none⟩) 1 cap bs (by rfl) hlen.out (fun e => by cases e) hB4.sl (by omega) (Nat.le_trans hbase hb4.size) ?_; intro v5 w5 hown5 hg5; rw [List.append_assoc, ← hw'.out] at hown5; have hb5 : Below base w w5 := hb4.grown hg5 (Nat.le_trans hbase hb4.size) (fun j e => own_ge hown4 j e); obtain ⟨s5, c5, rfl, -, -⟩ := own_bs hown5 (hL.app (wrap_bts false hB.bts)) (by omega); by_cases hfin : nv + (hd 128 1).length + 1 ≤ 65536)))
      | (go_at_call 56; refine (bounded_ok _ _ _ _ (by omega)).mono ?_; rintro e w6 ⟨rfl, rfl⟩)
      | (go_at_call 56; refine (bounded_no _ _ _ _ (by omega)).mono ?_; rintro e w6 ⟨rfl, rfl⟩))
    · go_ret
      refine ⟨hb5, .inl ⟨wrap false bs, _, rfl, by omega, rfl, ?_⟩⟩
      rw [show nv + (wrap false bs).length = nv + (hd 128 1).length + 1 by omega]
      exact hown5
    · refine ⟨rfl, hb5, .inr ⟨fun F hF => ?_, rfl⟩⟩
      obtain rfl := Option.some.inj hF
      omega
  · have hn1I : ¬ ((n : Int) = 1) := by omega
    have hn1B : ((n : Int) != 1) = true := by simpa using hn1I
    have hw' : Hid (wrap false bs = hd 128 n ++ bs) := by have := hw.out; rwa [← hlen.out] at this
    go_enter Try.func40, Try.ntmps40
    go_wp2_with (first
      | (go_at_call 55; go_must (refine (head_at 128 _ n _ (by omega) (by omega) (by omega)).mono ?_; rintro e w3 ⟨v3, rfl, hown3, hb3⟩; have hownr3 := own_below (hown.alloc _) hb3; have hs3 := hb3.size; have X3 := (Arr.new w 59 #[.bool false, .slice sp n cap, .slice sq 0 cq]).below hb3 (by simp); obtain ⟨s3, c3, rfl, hbs3, -⟩ := own_bs hown3 hdb (by omega)))
      | (at_builtin; go_must (first | (refine append_bytes (by rfl) (.tmp 39) (.tmp 43) (by rfl) base _ nv L (by rfl) hownr3 s3 _ c3 (hd 128 n) (by rfl) (by rfl) hbs3.nil hbs3.sl (by omega) (by simp at hs3; omega) ?_; intro v4 w4 hown4 hg4; have hb4 : Below base w w4 := (((Below.refl _ _).alloc hbase _).trans (hb3.mono (by simp; omega))).grown hg4 (by simp at hs3; omega) (fun j e => own_ge hown j e); have X4 := (X3.grown hg4 hne.out).cell 1; have hB4 := hBall w4 hb4; obtain ⟨s4, c4, rfl, -, -⟩ := own_bs hown4 (hL.app hdb) (by omega)) | (refine append_bytes (by rfl) (.tmp 45) (.tmp 47) (by rfl) base _ (nv + (hd 128 n).length) (L ++ hd 128 n) (by rfl) hown4 sp n cap bs (by rfl) hlen.out hnil hB4.sl (by omega) (Nat.le_trans hbase hb4.size) ?_; intro v5 w5 hown5 hg5; rw [List.append_assoc, ← hw'.out] at hown5; have hb5 : Below base w w5 := hb4.grown hg5 (Nat.le_trans hbase hb4.size) (fun j e => own_ge hown4 j e); obtain ⟨s5, c5, rfl, -, -⟩ := own_bs hown5 (hL.app (wrap_bts false hB.bts)) (by omega); by_cases hfin : nv + (hd 128 n).length + n ≤ 65536)))
      | (go_at_call 56; refine (bounded_ok _ _ _ _ (by omega)).mono ?_; rintro e w6 ⟨rfl, rfl⟩)
      | (go_at_call 56; refine (bounded_no _ _ _ _ (by omega)).mono ?_; rintro e w6 ⟨rfl, rfl⟩))
    · go_ret
      refine ⟨hb5, .inl ⟨wrap false bs, _, rfl, by omega, rfl, ?_⟩⟩
      rw [show nv + (wrap false bs).length = nv + (hd 128 n).length + n by omega]
      exact hown5
    · refine ⟨rfl, hb5, .inr ⟨fun F hF => ?_, rfl⟩⟩
      obtain rfl := Option.some.inj hF
      omega

/-- grow, out of growList. -/
theorem grow_of (d : Nat) (hd : d ≤ 16) (hG : ∀ d', d = d' + 1 → GrowAt d') : GrowAt d := by
  intro base N v x n L o w hown hL hn hbase hN hIs
  have hsh : ∃ l sp m cap bs sq k cq vs, Sh N w x l sp m cap bs sq k cq vs ∧ ((l = false ∧ o = if k = 0 then some (wrap false bs) else none) ∨ (l = true ∧ Calls Try.prog 40 #[v, x, .int .i64 (d : Int)] w (Grew base w n L o))) := by
    have hbad : ∀ (o : Obj) (e : Ending) (w' : World), e = .panicked (wrong 2) ∧ Below (w.alloc o).heap.size (w.alloc o) w' → Grew base w n L none e w' := fun o e w' ⟨h1, h2⟩ =>
      ⟨((Below.refl _ _).alloc hbase _).trans (h2.mono (by simp; omega)), .inr ⟨fun F hF => (by cases hF), h1⟩⟩
    have hno : ∀ o w', ¬ Grew base w n L o .outgrown w' := by
      rintro o w' ⟨-, ⟨F, v', -, -, h, -⟩ | ⟨-, h⟩⟩ <;> cases h
    cases d with
    | zero =>
      obtain ⟨l, sp, m, cap, bs, sq, k, cq, vs, hs, ⟨h1, h2⟩ | ⟨rfl, rfl⟩⟩ := hIs
      · exact ⟨l, sp, m, cap, bs, sq, k, cq, vs, hs, .inl ⟨h1, h2⟩⟩
      · refine ⟨true, sp, m, cap, bs, sq, k, cq, vs, hs, .inr ⟨rfl, ?_⟩⟩
        rw [hs.eq]
        exact grow_list v sp m cap sq k cq _ w _ (fun ob => (growList_zero v true sp m cap sq k cq _).mono fun e w' h => hbad ob e w' h) (hno none)
    | succ d' =>
      obtain ⟨l, sp, m, cap, bs, sq, k, cq, vs, hs, ⟨h1, h2⟩ | ⟨rfl, hm, rfl⟩ | ⟨rfl, rfl, os, h3, h4, rfl⟩⟩ := hIs
      · exact ⟨l, sp, m, cap, bs, sq, k, cq, vs, hs, .inl ⟨h1, h2⟩⟩
      · refine ⟨true, sp, m, cap, bs, sq, k, cq, vs, hs, .inr ⟨rfl, ?_⟩⟩
        rw [hs.eq]
        exact grow_list v sp m cap sq k cq _ w _ (fun ob => (growList_bytes v true sp m cap sq k cq d' _ (by omega)).mono fun e w' h => hbad ob e w' h) (hno none)
      · refine ⟨true, sp, 0, cap, bs, sq, k, cq, vs, hs, .inr ⟨rfl, ?_⟩⟩
        rw [hs.eq]
        refine grow_list v sp 0 cap sq k cq _ w _ (fun ob => ?_) (hno _)
        have hba : Below base w (w.alloc ob) := (Below.refl _ _).alloc hbase _
        refine (growList_succ d' (by omega) (hG d' rfl) base N v n L sp cap sq k cq vs os (w.alloc ob) (hown.alloc _) hL hn (by simp; omega) hN (hs.list.below (hba.mono hN)) h3 (fun i v o hv ho => (h4 i v o hv ho).below (hba.mono hN))).mono ?_
        rintro e w' ⟨h5, h6⟩
        exact ⟨hba.trans h5, h6⟩
  obtain ⟨l, sp, m, cap, bs, sq, k, cq, vs, hs, ⟨rfl, ho⟩ | ⟨rfl, h⟩⟩ := hsh
  · rw [hs.eq]
    obtain ⟨sv, cv, rfl, hbs, -⟩ := own_bs hown hL (by omega)
    have hB := hs.bytes
    have hlen := hB.len.out
    have hwl := wrap_len false bs
    by_cases hk : k = 0
    · subst hk
      rw [if_pos rfl] at ho
      subst ho
      by_cases hfit : n + m ≤ 65536
      · by_cases h1 : bs.length = 1 ∧ bat bs 0 < 128
        · obtain ⟨b, off, e, hbN, hBy⟩ := hB.at0 (by omega)
          subst e
          have hc := hBy 0 (by omega)
          rw [Nat.add_zero] at hc
          obtain ⟨y, rfl⟩ := List.length_eq_one_iff.1 h1.1
          rw [wrapF_one h1]
          have hy : bat [y] 0 = y := rfl
          rw [hy] at hc h1
          have hyb := hB.bts y (by simp)
          obtain rfl : m = 1 := hlen
          exact grow_one base N sv n cv L b off cap y sq cq _ w hown hL hbase hc h1.2 hyb.1 (by omega)
        · exact grow_more1 base N sv n cv L sp m cap bs sq cq _ w hown hL hbase hN hB h1 hfit
      · refine (grow_bad sv n cv sp m cap sq 0 cq _ w hn hB.small (.inr (by omega))).mono ?_
        rintro e w' ⟨rfl, hb⟩
        refine ⟨hb.mono hbase, .inr ⟨fun F hF => ?_, rfl⟩⟩
        obtain rfl := Option.some.inj hF
        omega
    · rw [if_neg hk] at ho
      subst ho
      refine (grow_bad sv n cv sp m cap sq k cq _ w hn hB.small (.inl (by omega))).mono ?_
      rintro e w' ⟨rfl, hb⟩
      exact ⟨hb.mono hbase, .inr ⟨fun F hF => (by cases hF), rfl⟩⟩
  · exact h
theorem grow_any : ∀ d, d ≤ 16 → GrowAt d
  | 0, h => grow_of 0 h fun d' e => by omega
  | d + 1, h => grow_of (d + 1) h fun d' e => by
    obtain rfl : d = d' := by omega
    exact grow_any d (by omega)
end Go.Proofs.Ytbjlmekafnpllab

/- Layer frame: the walk of FrameFresh. -/
import Derived.Test.YtbjlmekafnpllabHa
import Derived.Test.YtbjlmekafnpllabGa
import Derived.Test.YtbjlmekafnpllabGb
import Derived.Test.YtbjlmekafnpllabFi
import Derived.Test.YtbjlmekafnpllabVb
namespace Go.Proofs.Ytbjlmekafnpllab
open Go.RowKit
set_option linter.unusedVariables false
set_option linter.unusedSimpArgs false

theorem spl_len (c : Int) (z : Nat) : ∀ (k m : Nat) (s : Int) (L : List Int), 1 ≤ m → L.length ≤ z * m → (spl c z k s L).length ≤ m
  | 0, m, s, L, _, _ => by simp [spl]
  | k + 1, m, s, L, hm, hL => by
    by_cases h : L.length ≤ z
    · rw [spl_last h]; simpa using hm
    · rw [spl_more h]
      obtain ⟨m', rfl⟩ : ∃ m', m = m' + 1 := ⟨m - 1, by omega⟩
      rw [Nat.mul_succ] at hL
      have h0 : 1 ≤ m' := by
        rcases Nat.eq_zero_or_pos m' with e | e
        · subst e; simp at hL; omega
        · exact e
      have := spl_len c z k m' (s + 1) (L.drop z) h0 (by rw [List.length_drop]; omega)
      simpa using this
/-- What Split answers where it may. -/
def SGood (c : Int) (z : Nat) (L : List Int) (w : World) (e : Ending) (w' : World) : Prop :=
  ∃ g k cq fs, e = .returned (.tuple #[.slice (some ⟨g, 0, none⟩) k cq, .int .i64 0]) ∧ Hid (k = fs.length) ∧ 0 < k ∧ k ≤ 1024 ∧ w'.ownsRow w.heap.size 25 4 (.slice (some ⟨g, 0, none⟩) k cq) k (flat4 fs) ∧ Hid (∀ f ∈ fs, OF (fun b => w.heap.size ≤ b ∧ b ≠ g) w' f) ∧ Hid (fs.map Fr.ck = split c z L) ∧ Hid (Chan c L fs) ∧ Below w.heap.size w w'
theorem SPost.good {c : Int} {z : Nat} {L : List Int} {w : World} {e : Ending} {w' : World} (h : SPost c z L w e w') (h1 : 1 ≤ z) (h2 : z ≤ 4096) (h3 : L.length ≤ z * 1024) : SGood c z L w e w' := by
  obtain ⟨hbw, ⟨hbad, -⟩ | ⟨-, sq, k, cq, fs, he, hk, hown, hof, hck, hlen⟩⟩ := h
  · omega
  · rw [Int.toNat_natCast] at hck
    have hl4 : fs.length ≤ 1024 := by
      have := spl_len c z (L.length + 1) 1024 0 L (by omega) h3
      rw [show spl c z (L.length + 1) 0 L = fs.map Fr.ck from hck.symm, List.length_map] at this
      exact this
    have hch := chan_of h1 h2 hck hl4 (fun f hf => (hof f hf).body.1.len.out)
    have h0 : 0 < k := by rw [hk]; exact List.length_pos_iff.2 hch.ne
    obtain ⟨g, cap', e2⟩ := own_someF hown h0
    cases e2
    exact ⟨g, k, cq, fs, he, hk, h0, by omega, hown, Hid.mk' (fun f hf => (hof f hf).mono fun b _ h => ⟨h.1, fun e => h.2 (by rw [e]; rfl)⟩), hck, hch, hbw⟩
theorem own_fs' {w : World} {base n g cq : Nat} {P : Nat → Prop} {fs : List Fr} (h : w.ownsRow base 25 4 (.slice (some ⟨g, 0, none⟩) n cq) n (flat4 fs)) (hn : n = fs.length) (hs : n ≤ 1024) (hof : ∀ f ∈ fs, OF P w f) : FrS w.heap.size w (some ⟨g, 0, none⟩) n cq fs := by
  obtain ⟨sp, cap, e, hF, -⟩ := own_fs h hn (by omega) (fun f hf => (hof f hf).ok)
  cases e
  exact hF
theorem TB.chg {S T : Nat → Prop} {w w' : World} {sp : Option Addr} {n cap : Nat} (h : TB S w sp n cap) (hc : Chg T w w') (hd : ∀ b, S b → ¬ T b) : TB S w' sp n cap := by
  rcases h with h | ⟨g, C, e, hs, hA, hC, hr⟩
  · exact .inl h
  · exact .inr ⟨g, C, e, hs, hA.chg hc (hd g hs), hC, hr⟩
/-- The document's Split. -/
def RSAny : Prop := ∀ (c z : Int) (sp : Option Addr) (n cap : Nat) (L : List Int) (N : Nat) (w : World), BS N w sp n cap L → 0 ≤ c → c ≤ 18446744073709551615 → -9223372036854775808 ≤ z → z ≤ 9223372036854775807 →
    Calls Try.prog 18 #[.int .u64 c, .slice sp n cap, .int .i64 z] w (SPost c z L w)

theorem join_all {N g k cq : Nat} {fs : List Fr} {w : World} {c : Int} {L : List Int} (hF : FrS N w (some ⟨g, 0, none⟩) k cq fs) (hN : N ≤ w.heap.size) (hch : Chan c L fs) (hk : k = fs.length) (hk4 : k ≤ 1024) (hL : L.length ≤ 1000000) :
    Calls Try.prog 15 #[.int .u64 c, .slice (some ⟨g, 0, none⟩) k cq] w fun e w' => ∃ sp n cap, e = .returned (.tuple #[.slice sp n cap, .bool true]) ∧ Hid (TB (w.heap.size ≤ ·) w' sp n cap) ∧ Below w.heap.size w w' := by
  have hj := jn_chan hch (by omega) (fun f hf => .inr hf) (fun f hf => hf)
  refine (join_any c N _ k cq fs w hF hN).mono ?_
  rintro e w' ⟨hb, ⟨hno, -⟩ | ⟨D, v, hD, -, hbt, he, hown⟩⟩
  · rw [hj] at hno; cases hno
  · rw [hj] at hD
    cases hD
    obtain ⟨-, h | ⟨g', c', cur, e', hg, hh, hnc, hm, hc, -⟩⟩ := hown
    · obtain ⟨e', h0⟩ := h
      subst e'
      exact ⟨none, 0, 0, he, .inl ⟨rfl, rfl, rfl⟩, hb⟩
    · subst e'
      exact ⟨_, _, c', he, .inr ⟨g', cur, rfl, hg, hh, by omega, hnc, hm, hL⟩, hb⟩

set_option maxRecDepth 100000 in
set_option maxHeartbeats 2000000 in
theorem fresh_good (HR : RSAny) (sp : Option Addr) (n cap : Nat) (L : List Int) (z : Nat) (b : Int) (hb : b = z) (N : Nat) (w : World) (hS : BS N w sp n cap L) (h1 : 1 ≤ z) (h2 : z ≤ 255) (h3 : n ≤ z * 1024) :
    Calls Try.prog 7 #[.slice sp n cap, .int .u8 b] w fun e w' => e = .returned (.bool true) ∧ Below w.heap.size w w' := by
  have hS := hS.here
  have hln := hS.len
  subst hb
  replace HR := Hid.mk' HR
  have hw1 : IntKind.i64.wrap (z : Int) = z := by rw [IntKind.wrap_i64]; omega
  go_enter Try.func7, Try.ntmps7
  go_wp2_with (first
    | (go_at_call 21; go_must (refine (copy01_any sp n cap L _ _ hS).mono ?_; rintro e w1 ⟨v1, rfl, hown1, hb1⟩; obtain ⟨sc, cc, rfl, hC1, -⟩ := own_bs hown1 hS.bts hS.small; have hs1 := hb1.size; clear hown1))
    | (go_at_call 17; go_must (first
      | (refine ((split_any 5 z sc n cc L _ _ hC2 (by omega) (by omega) (by omega) (by omega)).mono fun e w' h => h.good h1 (by omega) (by rw [← hln.out]; exact h3)).mono ?_; rintro e w3 ⟨g', k', cq', gs, rfl, hk', hk0', hk4', hown3, hof3, hck3, hch3, hb3⟩; have hs3 := hb3.size; have hgl3 := hown3.lt g' rfl)
      | (refine ((split_any 5 z sc n cc L _ _ hC1 (by omega) (by omega) (by omega) (by omega)).mono fun e w' h => h.good h1 (by omega) (by rw [← hln.out]; exact h3)).mono ?_; rintro e w2 ⟨g, k, cq, fs, rfl, hk, hk0, hk4, hown2, hof2, hck2, hch2, hb2⟩; have hs2 := hb2.size; have hgl2 := hown2.lt g rfl; have hC2 := hC1.below hb2)))
    | (go_at_call 15; go_must (refine (join_all (own_fs' hown3 hk'.out hk4' hof3.out) (Nat.le_refl _) hch3.out hk'.out hk4' (by rw [← hln.out]; omega)).mono ?_; rintro e w4 ⟨s4, n4, c4, rfl, hT4, hb4⟩; have hs4 := hb4.size)))
  have hb24 : Below w2.heap.size w2 w4 := hb3.trans (hb4.mono hs3)
  go_loopw [12] (fun d wr => ∃ i : Nat, d = .int .i64 (i : Int) ∧ i ≤ k ∧ Hid (Chg (fun b => w1.heap.size ≤ b ∧ b ≠ g ∧ b < w2.heap.size) w4 wr) ∧ Hid (Pr (fun b => w1.heap.size ≤ b ∧ b ≠ g ∧ b < w2.heap.size) w4 wr))
    (fun d _ => k - (intOf d).toNat)
  case atStart => exact ⟨0, rfl, by omega, Hid.mk' (Chg.refl _ _), Hid.mk' (Pr.refl _ _)⟩
  case round =>
    obtain ⟨i, rfl, hik, hchg, hpr⟩ := hrel
    have hsr := hchg.out.size
    by_cases hlt : i < k
    · have hI : (i : Int) < k := by omega
      have hfi : i < fs.length := by rw [← hk.out]; exact hlt
      have hownr : wr.ownsRow w1.heap.size 25 4 (.slice (some ⟨g, 0, none⟩) k cq) k (flat4 fs) := own_of_block hown2 (fun b e => by cases e; rw [hchg.out.block g (by omega) (fun h => h.2.1 rfl), hb24.block g hgl2.2])
      obtain ⟨f0, f1, f2, f3⟩ := own_cellF hownr (List.getElem?_eq_getElem hfi)
      have hmay := (Fr.may_iff _).1 (hch2.out.at' i _ (List.getElem?_eq_getElem hfi)).2.2.2
      have hO := ((hof2.out _ (List.getElem_mem hfi)).body.mono (T := fun b => w1.heap.size ≤ b ∧ b ≠ g ∧ b < w2.heap.size) (fun b hb h => ⟨h.1, h.2, hb⟩)).agree (w' := w4) (Agree.below hb24 (fun b hb h => hb))
      have hTi := Hid.mk' ((hO.tb (by omega)).pr hpr.out)
      obtain ⟨x, hx⟩ : ∃ x, fs[i] = x := ⟨_, rfl⟩
      rw [hx] at f0 f1 f2 f3 hTi
      go_wp2_with (go_at_call 22; go_must (refine (spoil_tb _ x.sp x.n x.cap _ wr hTi.out (by omega)).mono ?_; rintro e w5 ⟨rfl, hchg5, hpr5⟩))
      go_roundw
      case rel => exact ⟨i + 1, rfl, by omega, Hid.mk' (hchg.out.trans hchg5), Hid.mk' (hpr.out.trans hpr5)⟩
      case measure => simp [intOf]; omega
    · obtain rfl : k = i := by omega
      have hI : ¬ (k : Int) < k := by omega
      have hTr := Hid.mk' (hT4.out.chg hchg.out (fun b h1 h2 => by omega))
      have hb1r : Below w1.heap.size w1 wr := (hb2.trans (hb24.mono hs2)).trans (hchg.out.below (fun b hb => ⟨by omega, by omega⟩))
      have hzz : ((0 : Int) == 0) = true := rfl
      go_wp2_with (first
        | (go_at_call 22; go_must (refine (spoil_tb _ s4 n4 c4 8 wr hTr.out (by omega)).mono ?_; rintro e w5 ⟨rfl, hchg5, -⟩; have hs5 := hchg5.size; have hb15 : Below w1.heap.size w1 w5 := hb1r.trans (hchg5.below (fun b hb => ⟨by omega, by omega⟩)); have hS5 := hS.below (hb1.trans (hb15.mono hs1))))
        | (go_at_call 18; go_must (refine ((HR.out 5 z sp n cap L _ _ hS5 (by omega) (by omega) (by omega) (by omega)).mono fun e w' h => h.good h1 (by omega) (by rw [← hln.out]; exact h3)).mono ?_; rintro e w6 ⟨g6, k6, cq6, fs6, rfl, hk6, hk06, hk46, hown6, hof6, hck6, hch6, hb6⟩; have hs6 := hb6.size; have hgl6 := hown6.lt g6 rfl))
        | (go_at_call 14; go_must (refine (anchored_any _).mono ?_; rintro e w7 ⟨rfl, hb7⟩; have hs7 := hb7.size; have hb17 : Below w1.heap.size w1 w7 := ((hb15.trans (hb6.mono (by omega))).trans (hb7.mono (by omega))); have hS7 := hS.below (hb1.trans (hb17.mono hs1)); have hC7 := hC1.below hb17))
        | (go_at_call 12; go_must (refine (same01_any sc sp n n cc cap L L _ _ _ hC7 hS7).mono ?_; rintro e w8 ⟨rfl, rfl⟩)))
      have hkk : k6 = k' := by rw [hk6.out, hk'.out]; have := congrArg List.length (hck6.out.trans hck3.out.symm); simpa using this
      subst hkk
      have ag : Agree (fun b => w2.heap.size ≤ b ∧ b < w3.heap.size) w3 w8 := ⟨by omega, fun b hb h => by rw [hb7.block b (by omega), hb6.block b (by omega), hchg5.block b (by omega) (by omega), hchg.out.block b (by omega) (by omega), hb4.block b hb]⟩
      have F3 : FrS w8.heap.size w8 (some ⟨g', 0, none⟩) k6 cq' gs := own_fs' (own_of_block hown3 (fun b e => by cases e; exact ag.2 g' hgl3.2 hgl3)) hk'.out hk4' (fun f hf => ((hof3.out f hf).mono (T := fun b => w2.heap.size ≤ b ∧ b < w3.heap.size) (fun b hb h => ⟨h.1, hb⟩)).agree ag)
      have F6 : FrS w8.heap.size w8 (some ⟨g6, 0, none⟩) k6 cq6 fs6 := own_fs' (own_of_block hown6 (fun b e => by cases e; exact hb7.block g6 hgl6.2)) hk6.out hk46 (fun f hf => (hof6.out f hf).agree ⟨hs7, fun b hb _ => hb7.block b hb⟩)
      go_wp2_with (go_at_call 19; go_must (refine (sameF_any _ _ k6 cq' cq6 gs fs6 _ _ _ F3 F6 (Nat.le_refl _) (Nat.le_refl _) (hck3.out.trans hck6.out.symm)).mono ?_; rintro e w9 ⟨rfl, hb9⟩))
      go_ret
      exact ⟨by simp, (hb1.trans (hb17.mono hs1)).trans (hb9.mono (by omega))⟩

theorem SPost.bad {c z : Int} {L : List Int} {w : World} {e : Ending} {w' : World} (h : SPost c z L w e w') (hb : z < 1 ∨ 4096 < z ∨ z * 1024 < L.length) : e = .returned (.tuple #[.slice none 0 0, .int .i64 2]) ∧ Below w.heap.size w w' := by
  obtain ⟨hbw, ⟨-, he⟩ | ⟨hno, -⟩⟩ := h
  · exact ⟨he, hbw⟩
  · exact absurd hb hno
theorem fs_nil (N : Nat) (w : World) : FrS N w none 0 0 [] := ⟨rfl, fun _ => ⟨rfl, rfl⟩, Nat.le_refl _, by omega, by omega, fun h => by omega, fun f hf => by simp at hf⟩
theorem join_nil (c : Int) (w : World) : Calls Try.prog 15 #[.int .u64 c, .slice none 0 0] w fun e w' => e = .returned (.tuple #[.slice none 0 0, .bool false]) ∧ Below w.heap.size w w' := by
  refine (join_any c 0 none 0 0 [] w (fs_nil _ _) (Nat.zero_le _)).mono ?_
  rintro e w' ⟨hb, ⟨-, he⟩ | ⟨D, v, hD, -⟩⟩
  · exact ⟨he, hb⟩
  · have : jn c [] = none := rfl
    rw [this] at hD; cases hD

set_option maxRecDepth 100000 in
set_option maxHeartbeats 2000000 in
theorem fresh_bad (HR : RSAny) (sp : Option Addr) (n cap : Nat) (L : List Int) (z : Nat) (b : Int) (hb : b = z) (N : Nat) (w : World) (hS : BS N w sp n cap L) (h2 : z ≤ 255) (h3 : z < 1 ∨ z * 1024 < n) :
    Calls Try.prog 7 #[.slice sp n cap, .int .u8 b] w fun e w' => e = .returned (.bool true) ∧ Below w.heap.size w w' := by
  have hS := hS.here
  have hln := hS.len
  subst hb
  have hbad : Hid ((z : Int) < 1 ∨ 4096 < (z : Int) ∨ (z : Int) * 1024 < L.length) := Hid.mk' (by rw [← hln.out]; omega)
  clear h3
  replace HR := Hid.mk' HR
  have hw1 : IntKind.i64.wrap (z : Int) = z := by rw [IntKind.wrap_i64]; omega
  go_enter Try.func7, Try.ntmps7
  go_wp2_with (first
    | (go_at_call 21; go_must (refine (copy01_any sp n cap L _ _ hS).mono ?_; rintro e w1 ⟨v1, rfl, hown1, hb1⟩; obtain ⟨sc, cc, rfl, hC1, -⟩ := own_bs hown1 hS.bts hS.small; have hs1 := hb1.size; clear hown1))
    | (go_at_call 17; go_must (first
      | (refine ((split_any 5 z sc n cc L _ _ hC2 (by omega) (by omega) (by omega) (by omega)).mono fun e w' h => h.bad hbad.out).mono ?_; rintro e w3 ⟨rfl, hb3⟩; have hs3 := hb3.size)
      | (refine ((split_any 5 z sc n cc L _ _ hC1 (by omega) (by omega) (by omega) (by omega)).mono fun e w' h => h.bad hbad.out).mono ?_; rintro e w2 ⟨rfl, hb2⟩; have hs2 := hb2.size; have hC2 := hC1.below hb2)))
    | (go_at_call 15; go_must (refine (join_nil 5 _).mono ?_; rintro e w4 ⟨rfl, hb4⟩; have hs4 := hb4.size)))
  have hb14 : Below w1.heap.size w1 w4 := (hb2.trans (hb3.mono hs2)).trans (hb4.mono (by omega))
  go_loopw [12] (fun d wr => d = .int .i64 0 ∧ wr = w4) (fun d _ => 0)
  case atStart => exact ⟨rfl, rfl⟩
  case round =>
    obtain ⟨rfl, rfl⟩ := hrel
    go_wp2_with (first
      | (go_at_call 22; go_must (refine (spoil_nil 8 _ (by omega)).mono ?_; rintro e w5 ⟨rfl, hb5⟩; have hs5 := hb5.size; have hb15 := hb14.trans (hb5.mono (by omega)); have hS5 := hS.below (hb1.trans (hb15.mono hs1))))
      | (go_at_call 18; go_must (refine ((HR.out 5 z sp n cap L _ _ hS5 (by omega) (by omega) (by omega) (by omega)).mono fun e w' h => h.bad hbad.out).mono ?_; rintro e w6 ⟨rfl, hb6⟩; have hs6 := hb6.size))
      | (go_at_call 14; go_must (refine (anchored_any _).mono ?_; rintro e w7 ⟨rfl, hb7⟩; have hs7 := hb7.size; have hb17 : Below w1.heap.size w1 w7 := ((hb15.trans (hb6.mono (by omega))).trans (hb7.mono (by omega))); have hS7 := hS.below (hb1.trans (hb17.mono hs1)); have hC7 := hC1.below hb17))
      | (go_at_call 12; go_must (refine (same01_any sc sp n n cc cap L L _ _ _ hC7 hS7).mono ?_; rintro e w8 ⟨rfl, rfl⟩))
      | (go_at_call 19; go_must (refine (sameF_any none none 0 0 0 [] [] 0 0 _ (fs_nil _ _) (fs_nil _ _) (Nat.zero_le _) (Nat.zero_le _) rfl).mono ?_; rintro e w9 ⟨rfl, hb9⟩)))
    go_ret
    exact ⟨by simp, (hb1.trans (hb17.mono hs1)).trans (hb9.mono (by omega))⟩

theorem fresh_walk (HR : RSAny) (sp : Option Addr) (n cap : Nat) (L : List Int) (b : Int) (N : Nat) (w : World) (hS : BS N w sp n cap L) (hb : 0 ≤ b ∧ b ≤ 255) :
    Calls Try.prog 7 #[.slice sp n cap, .int .u8 b] w fun e w' => e = .returned (.bool true) ∧ Below w.heap.size w w' := by
  obtain ⟨z, rfl⟩ : ∃ z : Nat, b = z := ⟨b.toNat, by omega⟩
  by_cases h : z < 1 ∨ z * 1024 < n
  · exact fresh_bad HR sp n cap L z _ rfl N w hS (by omega) h
  · exact fresh_good HR sp n cap L z _ rfl N w hS (by omega) (by omega) (by omega)
end Go.Proofs.Ytbjlmekafnpllab

/- Layer rlp: read, the ways that come to an item. -/
import Derived.Test.YtbjlmekafnpllabRo
namespace Go.Proofs.Ytbjlmekafnpllab
open Go.RowKit
set_option linter.unusedVariables false
set_option linter.unusedSimpArgs false

set_option maxRecDepth 100000 in
set_option maxHeartbeats 200000 in
theorem read_bytes_two (N d : Nat) (sp : Option Addr) (n cap : Nat) (x m : Int) (r : List Int) (kid : Nat → List Int → Except Int Unit) (k : Nat) (w : World) (hS : BS N w sp n cap (m :: r)) (hN : N ≤ w.heap.size) (hm : ¬ m < 128) (hm2 : m < 192) (hq : rb r (m - 128).toNat = .ok (k, 1)) (hy : ¬ bat (r.drop k) 0 < 128) :
    Calls Try.prog 61 #[.slice sp n cap, .int .i64 x] w (ReadPost N d n (m :: r) w (rd1 kid d (m :: r))) := by
  have hln := hS.len
  have hn0 : 0 < n := by have := hln.out; simp at this; omega
  have E := Hid.mk' (show rd1 kid d (m :: r) = .ok (1 + k + 1) by rw [rd1, if_neg hm, if_pos hm2, hq]; simp [hy])
  have hfm := Hid.mk' (form_read (m := m) (r := r) false (s := (m - 128).toNat) (fun y hy => hS.bts y (by simp [hy])) (by omega) (by simp; omega) hq (by rintro ⟨-, h2, h3⟩; omega))
  have hSa : ∀ o, BS N (w.alloc o) sp n cap (m :: r) := fun o => hS.below (((Below.refl _ _).alloc (Nat.le_refl _) _).mono hN)
  have hq := Hid.mk' hq
  go_enter Try.func61, Try.ntmps61
  go_wp2_with (first
    | (go_at_call 66; go_must (refine (cut_at N sp n cap _ 1 (m :: r) _ rfl (hSa _) (by omega)).mono ?_; rintro e w1 ⟨sp1, sp2, rfl, hB1, hB2, hb1⟩; obtain ⟨b1, o1, rfl, -, hBy1⟩ := hB1.at0 (by omega); have c1 : w1.cell? ⟨b1, o1, none⟩ = some (.int .u8 m) := hBy1 0 (by omega); have Z1 := (Arr.new w 59 #[.bool false, .slice none 0 0, .slice none 0 0]).below hb1 (by simp)))
    | (go_at_call 67; go_must (refine (body_ok N sp2 (n - 1) (n - 1) _ (m - 128).toNat k 1 r _ (by omega) hB2 (by omega) hq.out).mono ?_; rintro e w3 ⟨sp3, sp4, rfl, hkn, hB3, hB4, hb3⟩; have Z3 := Z1.below hb3 Z1.lt; obtain ⟨b3, o3, rfl, -, hBy3⟩ := hB3.at0 (by omega); have c3 := hBy3 0 (by omega); rw [bat_take (by omega), Nat.add_zero] at c3))
    | (go_at_call 37; go_must (refine (clone_any _ _ _ _ N _ hB3).mono ?_; rintro e w2 ⟨v2, rfl, hown2, hb2⟩; have Z2 := Z3.below hb2 Z3.lt; have hB22 := hB4.below (hb2.mono (by have h1 := hb1.size; have h3 := hb3.size; simp at h1; omega)); obtain ⟨s2, c2, rfl, hbs2, hge2⟩ := own_bs hown2 hB3.bts (by have := hS.small; omega)))
    | (refine wpList_store_arr (by rfl) 59 (.tmp 4) (.tmp 66) (by rfl) w.heap.size #[.bool false, .slice s2 1 c2, .slice none 0 0] (by rfl) (by rfl) 59 _ Z2 size25 rfl (one3 _ _ _ _ _ _ _) ?_))
  have hb0 : Below w.heap.size w w1 := ((Below.refl _ _).alloc (Nat.le_refl _) _).trans (hb1.mono (by simp))
  have hs1 := hb1.size
  have hs3 := hb3.size
  simp at hs1
  refine bodyPost_ret (v := .tuple #[.agg #[.bool false, .slice s2 1 c2, .slice none 0 0], .slice sp4 (n - 1 - (k + 1)) (n - 1 - (k + 1))]) (res46 rfl rfl (Z2.setRow _)) rfl ⟨below_row ((hb0.trans (hb3.mono (by omega))).trans (hb2.mono (by omega))) (Nat.le_refl _) _, .inr ⟨1 + k + 1, sp4, _, E.out, by omega, by omega, by rw [show n - (1 + k + 1) = n - 1 - (k + 1) by omega], ?_, ?_⟩⟩
  · have hag : Agree (fun b => w3.heap.size ≤ b) w2 (w2.setRow w.heap.size #[.bool false, .slice s2 1 c2, .slice none 0 0]) := ⟨by simp, fun b _ hb => setRow_other _ _ _ _ (by omega)⟩
    refine Dec.bytes d ⟨s2, 1, c2, _, rfl, ?_, hfm.out.symm⟩
    have hh : BSs (fun b => w3.heap.size ≤ b) w2 s2 1 c2 ((r.drop k).take 1) := ⟨hbs2, own_mono hown2 (Nat.zero_le _), fun b off e => (hge2 b off e).1⟩
    exact (hh.agree hag).mono fun b _ hb => by omega
  · rw [show n - (1 + k + 1) = n - 1 - (k + 1) by omega, show (m :: r).drop (1 + k + 1) = r.drop (k + 1) by rw [show 1 + k + 1 = (k + 1) + 1 by omega, List.drop_succ_cons]]
    exact hB22.below ⟨rfl, rfl, rfl, by simp, fun k hk => setRow_other _ _ _ _ (by omega)⟩

set_option maxRecDepth 100000 in
set_option maxHeartbeats 200000 in
theorem read_bytes_many (N d : Nat) (sp : Option Addr) (n cap : Nat) (x m : Int) (r : List Int) (kid : Nat → List Int → Except Int Unit) (k mm : Nat) (w : World) (hS : BS N w sp n cap (m :: r)) (hN : N ≤ w.heap.size) (hm : ¬ m < 128) (hm2 : m < 192) (hq : rb r (m - 128).toNat = .ok (k, mm)) (hmm : ¬ mm = 1) :
    Calls Try.prog 61 #[.slice sp n cap, .int .i64 x] w (ReadPost N d n (m :: r) w (rd1 kid d (m :: r))) := by
  have hln := hS.len
  have hn0 : 0 < n := by have := hln.out; simp at this; omega
  have E := Hid.mk' (show rd1 kid d (m :: r) = .ok (1 + k + mm) by rw [rd1, if_neg hm, if_pos hm2, hq]; simp [hmm])
  have hmI : ¬ ((mm : Int) = 1) := by omega
  have hmB : ((mm : Int) == 1) = false := by simpa using hmI
  have hfm := Hid.mk' (form_read (m := m) (r := r) false (s := (m - 128).toNat) (fun y hy => hS.bts y (by simp [hy])) (by omega) (by simp; omega) hq (by rintro ⟨-, h2, h3⟩; omega))
  have hSa : ∀ o, BS N (w.alloc o) sp n cap (m :: r) := fun o => hS.below (((Below.refl _ _).alloc (Nat.le_refl _) _).mono hN)
  have hq := Hid.mk' hq
  go_enter Try.func61, Try.ntmps61
  go_wp2_with (first
    | (go_at_call 66; go_must (refine (cut_at N sp n cap _ 1 (m :: r) _ rfl (hSa _) (by omega)).mono ?_; rintro e w1 ⟨sp1, sp2, rfl, hB1, hB2, hb1⟩; obtain ⟨b1, o1, rfl, -, hBy1⟩ := hB1.at0 (by omega); have c1 : w1.cell? ⟨b1, o1, none⟩ = some (.int .u8 m) := hBy1 0 (by omega); have Z1 := (Arr.new w 59 #[.bool false, .slice none 0 0, .slice none 0 0]).below hb1 (by simp)))
    | (go_at_call 67; go_must (refine (body_ok N sp2 (n - 1) (n - 1) _ (m - 128).toNat k mm r _ (by omega) hB2 (by omega) hq.out).mono ?_; rintro e w3 ⟨sp3, sp4, rfl, hkn, hB3, hB4, hb3⟩; have Z3 := Z1.below hb3 Z1.lt))
    | (go_at_call 37; go_must (refine (clone_any _ _ _ _ N _ hB3).mono ?_; rintro e w2 ⟨v2, rfl, hown2, hb2⟩; have Z2 := Z3.below hb2 Z3.lt; have hB22 := hB4.below (hb2.mono (by have h1 := hb1.size; have h3 := hb3.size; simp at h1; omega)); obtain ⟨s2, c2, rfl, hbs2, hge2⟩ := own_bs hown2 hB3.bts (by have := hS.small; omega)))
    | (refine wpList_store_arr (by rfl) 59 (.tmp 4) (.tmp 66) (by rfl) w.heap.size #[.bool false, .slice s2 mm c2, .slice none 0 0] (by rfl) (by rfl) 59 _ Z2 size25 rfl (one3 _ _ _ _ _ _ _) ?_))
  have hb0 : Below w.heap.size w w1 := ((Below.refl _ _).alloc (Nat.le_refl _) _).trans (hb1.mono (by simp))
  have hs1 := hb1.size
  have hs3 := hb3.size
  simp at hs1
  refine bodyPost_ret (v := .tuple #[.agg #[.bool false, .slice s2 mm c2, .slice none 0 0], .slice sp4 (n - 1 - (k + mm)) (n - 1 - (k + mm))]) (res46 rfl rfl (Z2.setRow _)) rfl ⟨below_row ((hb0.trans (hb3.mono (by omega))).trans (hb2.mono (by omega))) (Nat.le_refl _) _, .inr ⟨1 + k + mm, sp4, _, E.out, by omega, by omega, by rw [show n - (1 + k + mm) = n - 1 - (k + mm) by omega], ?_, ?_⟩⟩
  · have hag : Agree (fun b => w3.heap.size ≤ b) w2 (w2.setRow w.heap.size #[.bool false, .slice s2 mm c2, .slice none 0 0]) := ⟨by simp, fun b _ hb => setRow_other _ _ _ _ (by omega)⟩
    refine Dec.bytes d ⟨s2, mm, c2, _, rfl, ?_, hfm.out.symm⟩
    have hh : BSs (fun b => w3.heap.size ≤ b) w2 s2 mm c2 ((r.drop k).take mm) := ⟨hbs2, own_mono hown2 (Nat.zero_le _), fun b off e => (hge2 b off e).1⟩
    exact (hh.agree hag).mono fun b _ hb => by omega
  · rw [show n - (1 + k + mm) = n - 1 - (k + mm) by omega, show (m :: r).drop (1 + k + mm) = r.drop (k + mm) by rw [show 1 + k + mm = (k + mm) + 1 by omega, List.drop_succ_cons]]
    exact hB22.below ⟨rfl, rfl, rfl, by simp, fun k hk => setRow_other _ _ _ _ (by omega)⟩

set_option maxRecDepth 100000 in
set_option maxHeartbeats 200000 in
theorem read_deep (N : Nat) (sp : Option Addr) (n cap : Nat) (m : Int) (r : List Int) (kid : Nat → List Int → Except Int Unit) (w : World) (hS : BS N w sp n cap (m :: r)) (hN : N ≤ w.heap.size) (hm2 : ¬ m < 192) :
    Calls Try.prog 61 #[.slice sp n cap, .int .i64 0] w (ReadPost N 0 n (m :: r) w (rd1 kid 0 (m :: r))) := by
  have hln := hS.len
  have hn0 : 0 < n := by have := hln.out; simp at this; omega
  have E := Hid.mk' (show rd1 kid 0 (m :: r) = .error 8 by rw [rd1, if_neg (by omega), if_neg hm2, if_pos rfl])
  have hm : ¬ m < 128 := by omega
  have hSa : ∀ o, BS N (w.alloc o) sp n cap (m :: r) := fun o => hS.below (((Below.refl _ _).alloc (Nat.le_refl _) _).mono hN)
  go_enter Try.func61, Try.ntmps61
  go_wp2_with (first
    | (go_at_call 66; go_must (refine (cut_at N sp n cap _ 1 (m :: r) _ rfl (hSa _) (by omega)).mono ?_; rintro e w1 ⟨sp1, sp2, rfl, hB1, hB2, hb1⟩; obtain ⟨b1, o1, rfl, -, hBy1⟩ := hB1.at0 (by omega); have c1 : w1.cell? ⟨b1, o1, none⟩ = some (.int .u8 m) := hBy1 0 (by omega))))
  exact ⟨rfl, ((Below.refl _ _).alloc (Nat.le_refl _) _).trans (hb1.mono (by simp)), .inl ⟨8, E.out, rfl⟩⟩

set_option maxRecDepth 100000 in
set_option maxHeartbeats 200000 in
theorem read_list_err (N d : Nat) (sp : Option Addr) (n cap : Nat) (m : Int) (r : List Int) (kid : Nat → List Int → Except Int Unit) (c : Int) (w : World) (hS : BS N w sp n cap (m :: r)) (hN : N ≤ w.heap.size) (hm2 : ¬ m < 192) (hq : rb r (m - 192).toNat = .error c) :
    Calls Try.prog 61 #[.slice sp n cap, .int .i64 ((d : Int) + 1)] w (ReadPost N (d + 1) n (m :: r) w (rd1 kid (d + 1) (m :: r))) := by
  have hln := hS.len
  have hn0 : 0 < n := by have := hln.out; simp at this; omega
  have hm : ¬ m < 128 := by omega
  have hm255 := (hS.bts m (by simp)).2
  have hd1 : ¬ ((d : Int) + 1 = 0) := by omega
  have hd2 : (((d : Int) + 1) == 0) = false := by simpa using hd1
  have E := Hid.mk' (show rd1 kid (d + 1) (m :: r) = .error c by rw [rd1, if_neg (by omega), if_neg hm2, if_neg (by omega), hq])
  have hSa : ∀ o, BS N (w.alloc o) sp n cap (m :: r) := fun o => hS.below (((Below.refl _ _).alloc (Nat.le_refl _) _).mono hN)
  have hq := Hid.mk' hq
  go_enter Try.func61, Try.ntmps61
  go_wp2_with (first
    | (go_at_call 66; go_must (refine (cut_at N sp n cap _ 1 (m :: r) _ rfl (hSa _) (by omega)).mono ?_; rintro e w1 ⟨sp1, sp2, rfl, hB1, hB2, hb1⟩; obtain ⟨b1, o1, rfl, -, hBy1⟩ := hB1.at0 (by omega); have c1 : w1.cell? ⟨b1, o1, none⟩ = some (.int .u8 m) := hBy1 0 (by omega)))
    | (go_at_call 67; go_must (refine (body_err N sp2 (n - 1) (n - 1) _ (m - 192).toNat c r _ (by omega) hB2 (by omega) hq.out).mono ?_; rintro e w2 ⟨rfl, hb2⟩; exact ⟨rfl, (((Below.refl _ _).alloc (Nat.le_refl _) _).trans (hb1.mono (by simp))).trans (hb2.mono (by have := hb1.size; simp at this; omega)), .inl ⟨c, E.out, rfl⟩⟩)))

/-- What reading items that fill bytes comes to. -/
def ListPost (d : Nat) (L : List Int) (w : World) (q : Except Int Unit) (e : Ending) (w' : World) : Prop :=
  Below w.heap.size w w' ∧ ((∃ c, q = .error c ∧ e = .panicked (wrong c)) ∨ ∃ sq k cq vs, ∃ Fs : List (List Int), q = .ok () ∧ e = .returned (.slice sq k cq) ∧ ISs (w.heap.size ≤ ·) w' sq k cq vs ∧ Fs.length = vs.length ∧ (∀ (i : Nat) v F, vs[i]? = some v → Fs[i]? = some F → Dec (w.heap.size ≤ ·) w' d v F) ∧ Fs.flatten = L)
def ListAt (f d : Nat) : Prop := ∀ (N : Nat) (sp : Option Addr) (n cap : Nat) (L : List Int) (w : World), BS N w sp n cap L → N ≤ w.heap.size → n < f → n ≤ 65536 →
  Calls Try.prog 68 #[.slice sp n cap, .int .i64 (d : Int)] w (ListPost d L w (rdl f d L))

theorem list_at {f d : Nat} (hF : ListAt f d) (N : Nat) (sp : Option Addr) (n cap : Nat) (x : Int) (L : List Int) (w : World) (hx : x = d) (hS : BS N w sp n cap L) (hN : N ≤ w.heap.size) (hn : n < f) (hn6 : n ≤ 65536) :
    Calls Try.prog 68 #[.slice sp n cap, .int .i64 x] w (ListPost d L w (rdl f d L)) := by
  subst hx; exact hF N sp n cap L w hS hN hn hn6

set_option maxRecDepth 100000 in
set_option maxHeartbeats 1000000 in
theorem read_list_any (N d f : Nat) (hd16 : d ≤ 16) (hF : ListAt f d) (sp : Option Addr) (n cap : Nat) (m : Int) (r : List Int) (k mm : Nat) (w : World) (hS : BS N w sp n cap (m :: r)) (hN : N ≤ w.heap.size) (hm2 : ¬ m < 192) (hq : rb r (m - 192).toNat = .ok (k, mm)) (hnf : n ≤ f) (hn6 : n ≤ 65536) :
    Calls Try.prog 61 #[.slice sp n cap, .int .i64 ((d : Int) + 1)] w (ReadPost N (d + 1) n (m :: r) w (rd1 (rdl f) (d + 1) (m :: r))) := by
  have hln := hS.len
  have hn0 : 0 < n := by have := hln.out; simp at this; omega
  have hm : ¬ m < 128 := by omega
  have hm255 := (hS.bts m (by simp)).2
  have hd1 : ¬ ((d : Int) + 1 = 0) := by omega
  have hd2 : (((d : Int) + 1) == 0) = false := by simpa using hd1
  have E := Hid.mk' (show rd1 (rdl f) (d + 1) (m :: r) = match rdl f d ((r.drop k).take mm) with | .error e => .error e | .ok _ => .ok (1 + k + mm) by rw [rd1, if_neg (by omega), if_neg hm2, if_neg (by omega), hq]; rfl)
  have hfm := Hid.mk' (form_read (m := m) (r := r) true (s := (m - 192).toNat) (fun y hy => hS.bts y (by simp [hy])) (by omega) (by simp; omega) hq (by rintro ⟨h, -⟩; cases h))
  have hSa : ∀ o, BS N (w.alloc o) sp n cap (m :: r) := fun o => hS.below (((Below.refl _ _).alloc (Nat.le_refl _) _).mono hN)
  have hq := Hid.mk' hq
  go_enter Try.func61, Try.ntmps61
  go_wp2_with (first
    | (go_at_call 66; go_must (refine (cut_at N sp n cap _ 1 (m :: r) _ rfl (hSa _) (by omega)).mono ?_; rintro e w1 ⟨sp1, sp2, rfl, hB1, hB2, hb1⟩; obtain ⟨b1, o1, rfl, -, hBy1⟩ := hB1.at0 (by omega); have c1 : w1.cell? ⟨b1, o1, none⟩ = some (.int .u8 m) := hBy1 0 (by omega); have Z1 := (Arr.new w 59 #[.bool false, .slice none 0 0, .slice none 0 0]).below hb1 (by simp); have hb0 : Below w.heap.size w w1 := ((Below.refl _ _).alloc (Nat.le_refl _) _).trans (hb1.mono (by simp)); have hs1 := hb1.size; simp at hs1))
    | (go_at_call 67; go_must (refine (body_ok N sp2 (n - 1) (n - 1) _ (m - 192).toNat k mm r _ (by omega) hB2 (by omega) hq.out).mono ?_; rintro e w3 ⟨sp3, sp4, rfl, hkn, hB3, hB4, hb3⟩; have Z3 := Z1.below hb3 Z1.lt; have hs3 := hb3.size))
    | (go_at_call 68; go_must (refine (list_at hF N sp3 mm mm _ ((r.drop k).take mm) _ (by omega) hB3 (by omega) (by omega) (by omega)).mono ?_; rintro e w2 ⟨hb2, ⟨c, hl, rfl⟩ | ⟨sq, kk, cq, vs, Fs, hl, rfl, hIS, hlen, hdec, hflat⟩⟩; exact ⟨rfl, (hb0.trans (hb3.mono (by omega))).trans (hb2.mono (by omega)), .inl ⟨c, by rw [E.out, hl], rfl⟩⟩; have hl := Hid.mk' hl; have hdec := Hid.mk' hdec; have hflat := Hid.mk' hflat; have hlen := Hid.mk' hlen; have Z2 := Z3.below hb2 Z3.lt; have hB22 := hB4.below (hb2.mono (by omega))))
    | (refine wpList_store_arr (by rfl) 59 (.tmp 4) (.tmp 33) (by rfl) w.heap.size #[.bool true, .slice none 0 0, .slice sq kk cq] (by rfl) (by rfl) 59 _ Z2 size25 rfl (one3 _ _ _ _ _ _ _) ?_))
  refine bodyPost_ret (v := .tuple #[.agg #[.bool true, .slice none 0 0, .slice sq kk cq], .slice sp4 (n - 1 - (k + mm)) (n - 1 - (k + mm))]) (res46 rfl rfl (Z2.setRow _)) rfl ⟨below_row ((hb0.trans (hb3.mono (by omega))).trans (hb2.mono (by omega))) (Nat.le_refl _) _, .inr ⟨1 + k + mm, sp4, _, by rw [E.out, hl.out], by omega, by omega, by rw [show n - (1 + k + mm) = n - 1 - (k + mm) by omega], ?_, ?_⟩⟩
  · have hag : Agree (fun b => w3.heap.size ≤ b) w2 (w2.setRow w.heap.size #[.bool true, .slice none 0 0, .slice sq kk cq]) := ⟨by simp, fun b _ hb => setRow_other _ _ _ _ (by omega)⟩
    have hmo : ∀ b, b < (w2.setRow w.heap.size #[.bool true, .slice none 0 0, .slice sq kk cq]).heap.size → w3.heap.size ≤ b → w.heap.size ≤ b := fun b _ hb => by omega
    refine .inr ⟨sq, kk, cq, vs, Fs, rfl, (hIS.agree hag).mono hmo, hlen.out, fun i v F hv hF => ((hdec.out i v F hv hF).agree hag).mono hmo, ?_⟩
    rw [hflat.out]; exact hfm.out.symm
  · rw [show n - (1 + k + mm) = n - 1 - (k + mm) by omega, show (m :: r).drop (1 + k + mm) = r.drop (k + mm) by rw [show 1 + k + mm = (k + mm) + 1 by omega, List.drop_succ_cons]]
    exact hB22.below ⟨rfl, rfl, rfl, by simp, fun k hk => setRow_other _ _ _ _ (by omega)⟩
end Go.Proofs.Ytbjlmekafnpllab

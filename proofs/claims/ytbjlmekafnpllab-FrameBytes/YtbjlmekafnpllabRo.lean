/- Layer rlp: read, but for lists. -/
import Derived.Test.YtbjlmekafnpllabRn
namespace Go.Proofs.Ytbjlmekafnpllab
open Go.RowKit
set_option linter.unusedVariables false
set_option linter.unusedSimpArgs false

/-- What reading an item comes to. -/
def ReadPost (N d n : Nat) (L : List Int) (w : World) (q : Except Int Nat) (e : Ending) (w' : World) : Prop :=
  Below w.heap.size w w' ∧ ((∃ c, q = .error c ∧ e = .panicked (wrong c)) ∨ ∃ s sp v, q = .ok s ∧ 0 < s ∧ s ≤ n ∧ e = .returned (.tuple #[v, .slice sp (n - s) (n - s)]) ∧ Dec (w.heap.size ≤ ·) w' d v (L.take s) ∧ BS N w' sp (n - s) (n - s) (L.drop s))
theorem res46 {w : World} {tmps : Array Value} {g : Nat} {a b c v : Value} (hp : tmps.getD 4 undef = .pointer (some ⟨g, 0, none⟩)) (he : tmps.getD 5 undef = v) (hA : Arr w g 59 #[a, b, c]) :
    (results Try.f61 tmps).run Try.prog w = .ok (.tuple #[.agg #[a, b, c], v]) w := by
  have c0 := hA.cell 0
  have c1 := hA.cell 1
  have c2 := hA.cell 2
  simp at c0 c1 c2
  have hp' : tmps[4]?.getD undef = .pointer (some ⟨g, 0, none⟩) := by simpa using hp
  have he' : tmps[5]?.getD undef = v := by simpa using he
  simp [results, Try.results61, go_sem, hp', he', c0, c1, c2]

theorem one3 (l : Bool) (sp : Option Addr) (n cap : Nat) (sq : Option Addr) (k cq : Nat) : (#[Value.bool l, .slice sp n cap, .slice sq k cq] : Array Value).all (·.oneCell') = true := by simp [Value.oneCell']

set_option maxRecDepth 100000 in
set_option maxHeartbeats 400000 in
theorem read_none (N d : Nat) (sp : Option Addr) (cap : Nat) (x : Int) (kid : Nat → List Int → Except Int Unit) (w : World) :
    Calls Try.prog 61 #[.slice sp 0 cap, .int .i64 x] w (ReadPost N d 0 [] w (rd1 kid d [])) := by
  go_enter Try.func61, Try.ntmps61
  go_wp2_with (go_at_call 66; go_must (refine (cut_no sp 0 cap 1 _ (by omega)).mono ?_; rintro e w1 ⟨rfl, rfl⟩; exact ⟨rfl, (Below.refl _ _).alloc (Nat.le_refl _) _, .inl ⟨7, rfl, rfl⟩⟩))

set_option maxRecDepth 100000 in
set_option maxHeartbeats 1000000 in
theorem read_low (N d : Nat) (sp : Option Addr) (n cap : Nat) (x m : Int) (r : List Int) (kid : Nat → List Int → Except Int Unit) (w : World) (hS : BS N w sp n cap (m :: r)) (hN : N ≤ w.heap.size) (hm : m < 128) :
    Calls Try.prog 61 #[.slice sp n cap, .int .i64 x] w (ReadPost N d n (m :: r) w (rd1 kid d (m :: r))) := by
  have hln := hS.len
  have hn0 : 0 < n := by have := hln.out; simp at this; omega
  have hmb := hS.bts m (by simp)
  have E := Hid.mk' (show rd1 kid d (m :: r) = .ok 1 by simp [rd1, hm])
  have hSa : ∀ o, BS N (w.alloc o) sp n cap (m :: r) := fun o => hS.below (((Below.refl _ _).alloc (Nat.le_refl _) _).mono hN)
  go_enter Try.func61, Try.ntmps61
  go_wp2_with (first
    | (go_at_call 66; go_must (refine (cut_at N sp n cap _ 1 (m :: r) _ rfl (hSa _) (by omega)).mono ?_; rintro e w1 ⟨sp1, sp2, rfl, hB1, hB2, hb1⟩; obtain ⟨b1, o1, rfl, -, hBy1⟩ := hB1.at0 (by omega); have c1 : w1.cell? ⟨b1, o1, none⟩ = some (.int .u8 m) := hBy1 0 (by omega); have Z1 := (Arr.new w 59 #[.bool false, .slice none 0 0, .slice none 0 0]).below hb1 (by simp)))
    | (go_at_call 37; go_must (refine (clone_any _ _ _ _ N _ hB1).mono ?_; rintro e w2 ⟨v2, rfl, hown2, hb2⟩; have Z2 := Z1.below hb2 Z1.lt; have hB22 := hB2.below (hb2.mono (by have := hb1.size; simp at this; omega)); obtain ⟨s2, c2, rfl, hbs2, hge2⟩ := own_bs hown2 hB1.bts (by omega)))
    | (refine wpList_store_arr (by rfl) 59 (.tmp 4) (.tmp 40) (by rfl) w.heap.size #[.bool false, .slice s2 1 c2, .slice none 0 0] (by rfl) (by rfl) 59 _ Z2 size25 rfl (one3 _ _ _ _ _ _ _) ?_))
  have hb0 : Below w.heap.size w w1 := ((Below.refl _ _).alloc (Nat.le_refl _) _).trans (hb1.mono (by simp))
  have hs1 := hb1.size
  simp at hs1
  refine bodyPost_ret (v := .tuple #[.agg #[.bool false, .slice s2 1 c2, .slice none 0 0], .slice sp2 (n - 1) (n - 1)]) (res46 rfl rfl (Z2.setRow _)) rfl ⟨below_row (hb0.trans (hb2.mono (by omega))) (Nat.le_refl _) _, .inr ⟨1, sp2, _, E.out, by omega, by omega, rfl, ?_, ?_⟩⟩
  · have hag : Agree (fun b => w1.heap.size ≤ b) w2 (w2.setRow w.heap.size #[.bool false, .slice s2 1 c2, .slice none 0 0]) := ⟨by simp, fun b _ hb => setRow_other _ _ _ _ (by omega)⟩
    refine Dec.bytes d ⟨s2, 1, c2, [m], rfl, ?_, ?_⟩
    · have hh : BSs (fun b => w1.heap.size ≤ b) w2 s2 1 c2 [m] := ⟨by simpa using hbs2, by simpa using own_mono hown2 (Nat.zero_le _), fun b off e => (hge2 b off e).1⟩
      exact (hh.agree hag).mono fun b _ hb => by omega
    · rw [show wrap false [m] = [m] from wrapF_one ⟨rfl, hm⟩]; rfl
  · exact hB22.below ⟨rfl, rfl, rfl, by simp, fun k hk => setRow_other _ _ _ _ (by omega)⟩

theorem body_ok (N : Nat) (sp : Option Addr) (n cap : Nat) (x : Int) (s k m : Nat) (L : List Int) (w : World) (hx : x = s) (hS : BS N w sp n cap L) (hs : s ≤ 63) (hq : rb L s = .ok (k, m)) :
    Calls Try.prog 67 #[.slice sp n cap, .int .i64 x] w fun e w' => ∃ sp1 sp2, e = .returned (.tuple #[.slice sp1 m m, .slice sp2 (n - (k + m)) (n - (k + m))]) ∧ k + m ≤ n ∧ BS N w' sp1 m m ((L.drop k).take m) ∧ BS N w' sp2 (n - (k + m)) (n - (k + m)) (L.drop (k + m)) ∧ Below w.heap.size w w' := by
  refine (body_any N sp n cap x s L w hx hS hs).mono ?_
  rintro e w' ⟨hb, ⟨c, h, -⟩ | ⟨k', m', sp1, sp2, h, hkm, he, h1, h2⟩⟩
  · rw [hq] at h; cases h
  · rw [hq] at h; cases h
    exact ⟨sp1, sp2, he, hkm, h1, h2, hb⟩
theorem body_err (N : Nat) (sp : Option Addr) (n cap : Nat) (x : Int) (s : Nat) (c : Int) (L : List Int) (w : World) (hx : x = s) (hS : BS N w sp n cap L) (hs : s ≤ 63) (hq : rb L s = .error c) :
    Calls Try.prog 67 #[.slice sp n cap, .int .i64 x] w fun e w' => e = .panicked (wrong c) ∧ Below w.heap.size w w' := by
  refine (body_any N sp n cap x s L w hx hS hs).mono ?_
  rintro e w' ⟨hb, ⟨c', h, he⟩ | ⟨k', m', sp1, sp2, h, hkm, he, h1, h2⟩⟩
  · rw [hq] at h; cases h; exact ⟨he, hb⟩
  · rw [hq] at h; cases h

theorem bat_take {L : List Int} {k : Nat} (h : 0 < k) : bat (L.take k) 0 = bat L 0 := by
  unfold bat; rw [List.getD_eq_getElem?_getD, List.getD_eq_getElem?_getD, List.getElem?_take_of_lt h]
/-- A form that was read. -/
theorem form_read {m : Int} {r : List Int} (l : Bool) {s k n : Nat} (hb : Bts r) (hs : s ≤ 63) (hm : m = (if l then 192 else 128) + (s : Nat)) (hq : rb r s = .ok (k, n)) (hnot : ¬ (l = false ∧ n = 1 ∧ bat (r.drop k) 0 < 128)) :
    wrap l ((r.drop k).take n) = (m :: r).take (1 + k + n) := by
  have hk := rb_ok hq
  have hlen : ((r.drop k).take n).length = n := by rw [List.length_take, List.length_drop]; omega
  have e := rb_hd hb hs (if l then 192 else 128) hq
  have e1 : (m :: r).take (1 + k + n) = m :: r.take (k + n) := by rw [show 1 + k + n = (k + n) + 1 by omega, List.take_succ_cons]
  have e2 : r.take (k + n) = r.take k ++ (r.drop k).take n := by rw [List.take_add]
  unfold wrap
  rw [if_neg, hlen, e, e1, e2, hm]
  · rfl
  · rintro ⟨h1, h2, h3⟩
    rw [hlen] at h2
    apply hnot
    subst h2
    rw [bat_take (by omega)] at h3
    exact ⟨h1, rfl, h3⟩

set_option maxRecDepth 100000 in
set_option maxHeartbeats 1000000 in
theorem read_bytes_err (N d : Nat) (sp : Option Addr) (n cap : Nat) (x m : Int) (r : List Int) (kid : Nat → List Int → Except Int Unit) (c : Int) (w : World) (hS : BS N w sp n cap (m :: r)) (hN : N ≤ w.heap.size) (hm : ¬ m < 128) (hm2 : m < 192) (hq : rb r (m - 128).toNat = .error c) :
    Calls Try.prog 61 #[.slice sp n cap, .int .i64 x] w (ReadPost N d n (m :: r) w (rd1 kid d (m :: r))) := by
  have hln := hS.len
  have hn0 : 0 < n := by have := hln.out; simp at this; omega
  have E := Hid.mk' (show rd1 kid d (m :: r) = .error c by rw [rd1, if_neg hm, if_pos hm2, hq])
  have hSa : ∀ o, BS N (w.alloc o) sp n cap (m :: r) := fun o => hS.below (((Below.refl _ _).alloc (Nat.le_refl _) _).mono hN)
  have hq := Hid.mk' hq
  go_enter Try.func61, Try.ntmps61
  go_wp2_with (first
    | (go_at_call 66; go_must (refine (cut_at N sp n cap _ 1 (m :: r) _ rfl (hSa _) (by omega)).mono ?_; rintro e w1 ⟨sp1, sp2, rfl, hB1, hB2, hb1⟩; obtain ⟨b1, o1, rfl, -, hBy1⟩ := hB1.at0 (by omega); have c1 : w1.cell? ⟨b1, o1, none⟩ = some (.int .u8 m) := hBy1 0 (by omega)))
    | (go_at_call 67; go_must (refine (body_err N sp2 (n - 1) (n - 1) _ (m - 128).toNat c r _ (by omega) hB2 (by omega) hq.out).mono ?_; rintro e w2 ⟨rfl, hb2⟩; exact ⟨rfl, (((Below.refl _ _).alloc (Nat.le_refl _) _).trans (hb1.mono (by simp))).trans (hb2.mono (by have := hb1.size; simp at this; omega)), .inl ⟨c, E.out, rfl⟩⟩)))

set_option maxRecDepth 100000 in
set_option maxHeartbeats 1000000 in
theorem read_bytes_one (N d : Nat) (sp : Option Addr) (n cap : Nat) (x m : Int) (r : List Int) (kid : Nat → List Int → Except Int Unit) (k : Nat) (w : World) (hS : BS N w sp n cap (m :: r)) (hN : N ≤ w.heap.size) (hm : ¬ m < 128) (hm2 : m < 192) (hq : rb r (m - 128).toNat = .ok (k, 1)) (hy : bat (r.drop k) 0 < 128) :
    Calls Try.prog 61 #[.slice sp n cap, .int .i64 x] w (ReadPost N d n (m :: r) w (rd1 kid d (m :: r))) := by
  have hln := hS.len
  have hn0 : 0 < n := by have := hln.out; simp at this; omega
  have E := Hid.mk' (show rd1 kid d (m :: r) = .error 8 by rw [rd1, if_neg hm, if_pos hm2, hq]; simp [hy])
  have hSa : ∀ o, BS N (w.alloc o) sp n cap (m :: r) := fun o => hS.below (((Below.refl _ _).alloc (Nat.le_refl _) _).mono hN)
  have hq := Hid.mk' hq
  go_enter Try.func61, Try.ntmps61
  go_wp2_with (first
    | (go_at_call 66; go_must (refine (cut_at N sp n cap _ 1 (m :: r) _ rfl (hSa _) (by omega)).mono ?_; rintro e w1 ⟨sp1, sp2, rfl, hB1, hB2, hb1⟩; obtain ⟨b1, o1, rfl, -, hBy1⟩ := hB1.at0 (by omega); have c1 : w1.cell? ⟨b1, o1, none⟩ = some (.int .u8 m) := hBy1 0 (by omega)))
    | (go_at_call 67; go_must (refine (body_ok N sp2 (n - 1) (n - 1) _ (m - 128).toNat k 1 r _ (by omega) hB2 (by omega) hq.out).mono ?_; rintro e w2 ⟨sp3, sp4, rfl, hkn, hB3, hB4, hb2⟩; obtain ⟨b3, o3, rfl, -, hBy3⟩ := hB3.at0 (by omega); have c3 := hBy3 0 (by omega); rw [bat_take (by omega), Nat.add_zero] at c3)))
  exact ⟨rfl, (((Below.refl _ _).alloc (Nat.le_refl _) _).trans (hb1.mono (by simp))).trans (hb2.mono (by have := hb1.size; simp at this; omega)), .inl ⟨8, E.out, rfl⟩⟩
end Go.Proofs.Ytbjlmekafnpllab

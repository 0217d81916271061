/- Layer rlp, the document's answer: reading an item, but for lists. -/
import Derived.Test.YtbjlmekafnpllabTa
namespace Go.Proofs.Ytbjlmekafnpllab
open Go.RowKit
set_option linter.unusedVariables false
set_option linter.unusedSimpArgs false

/-- What the document's reading of an item comes to. -/
def RRead (d n : Nat) (L : List Int) (w : World) (q : Except Int Nat) (e : Ending) (w' : World) : Prop :=
  Below w.heap.size w w' ∧ ((∃ c : Int, (c = 7 ∨ c = 8) ∧ q = .error c ∧ e = .returned (.tuple #[.agg #[.bool false, .slice none 0 0, .slice none 0 0], .int .i64 0, .int .i64 c])) ∨
    ∃ (s : Nat) (v : Value), q = .ok s ∧ 0 < s ∧ s ≤ n ∧ e = .returned (.tuple #[v, .int .i64 (s : Int), .int .i64 0]) ∧ Dec (w.heap.size ≤ ·) w' d v (L.take s))
theorem res35 {w : World} {tmps : Array Value} {g : Nat} {a b c v u : Value} (hp : tmps.getD 4 undef = .pointer (some ⟨g, 0, none⟩)) (he : tmps.getD 5 undef = v) (hu : tmps.getD 6 undef = u) (hA : Arr w g 59 #[a, b, c]) :
    (results Try.f51 tmps).run Try.prog w = .ok (.tuple #[.agg #[a, b, c], v, u]) w := by
  have c0 := hA.cell 0
  have c1 := hA.cell 1
  have c2 := hA.cell 2
  simp at c0 c1 c2
  have hp' : tmps[4]?.getD undef = .pointer (some ⟨g, 0, none⟩) := by simpa using hp
  have he' : tmps[5]?.getD undef = v := by simpa using he
  have hu' : tmps[6]?.getD undef = u := by simpa using hu
  simp [results, Try.results51, go_sem, hp', he', hu', c0, c1, c2]
theorem run_slice_lh (sp : Option Addr) (n cap l h : Nat) (x y : Int) (hx : x = l) (hy : y = h) (hlh : l ≤ h) (hh : h ≤ cap) (u : World) :
    (Instr.slice 23 (.slice sp n cap) (some (.int .i64 x)) (some (.int .i64 y)) none).run Try.prog u = .ok (.slice (spAt sp l cap) (h - l) (cap - l)) u := by
  subst hx hy
  simp [Instr.slice, Instr.sliceBounds, Instr.sliceBound, asIntOf, run_underlying Try.underlying23, Try.sizeOf5, hlh, hh, go_sem, spAt]
theorem run_slice_from (sp : Option Addr) (n cap l : Nat) (x : Int) (hx : x = l) (hl : l ≤ n) (hc : n ≤ cap) (u : World) :
    (Instr.slice 23 (.slice sp n cap) (some (.int .i64 x)) none none).run Try.prog u = .ok (.slice (spAt sp l cap) (n - l) (cap - l)) u := by
  subst hx
  simp [Instr.slice, Instr.sliceBounds, Instr.sliceBound, asIntOf, run_underlying Try.underlying23, Try.sizeOf5, hl, hc, go_sem, spAt]

theorem alloc_bel' (w : World) (o : Obj) : Below w.heap.size w (w.alloc o) := (Below.refl _ _).alloc (Nat.le_refl _) _

theorem len_ok (N : Nat) (sp : Option Addr) (n cap : Nat) (B m : Int) (s k z : Nat) (r : List Int) (w : World) (hS : BS N w sp n cap (m :: r)) (hB : B = 128 ∨ B = 192) (hm : m = B + s) (hs : s ≤ 63) (hq : rb r s = .ok (k, z)) :
    Calls Try.prog 63 #[.slice sp n cap, .int .u8 B] w fun e w' => (e = .returned (.tuple #[.int .i64 (z : Int), .int .i64 (1 + (k : Int)), .int .i64 0]) ∧ k + z + 1 ≤ n) ∧ w' = w := by
  refine (length_any N sp n cap B m s r w hS hB hm hs).mono ?_
  rintro e w' ⟨⟨c, -, h, -⟩ | ⟨k', z', -, -, he, h⟩, hw⟩
  · rw [hq] at h; cases h
  · rw [hq] at h
    split at h
    · cases h; exact ⟨⟨he, by omega⟩, hw⟩
    · cases h
theorem len_err (N : Nat) (sp : Option Addr) (n cap : Nat) (B m : Int) (s : Nat) (c : Int) (r : List Int) (w : World) (hS : BS N w sp n cap (m :: r)) (hB : B = 128 ∨ B = 192) (hm : m = B + s) (hs : s ≤ 63) (hq : rb r s = .error c) :
    Calls Try.prog 63 #[.slice sp n cap, .int .u8 B] w fun e w' => ((e = .returned (.tuple #[.int .i64 0, .int .i64 0, .int .i64 c]) ∧ (c = 7 ∨ c = 8)) ∨ ∃ k z : Nat, k + 1 ≤ n ∧ z ≤ n + 63 ∧ n < k + z + 1 ∧ c = 7 ∧ e = .returned (.tuple #[.int .i64 (z : Int), .int .i64 (1 + (k : Int)), .int .i64 0])) ∧ w' = w := by
  refine (length_any N sp n cap B m s r w hS hB hm hs).mono ?_
  rintro e w' ⟨⟨c', hc, h, he⟩ | ⟨k', z', h1, h2, he, h⟩, hw⟩
  · rw [hq] at h; cases h; exact ⟨.inl ⟨he, hc⟩, hw⟩
  · rw [hq] at h
    split at h
    · cases h
    · cases h; exact ⟨.inr ⟨k', z', h1, h2, by omega, rfl, he⟩, hw⟩

set_option maxRecDepth 100000 in
set_option maxHeartbeats 400000 in
theorem rread_none (d : Nat) (sp : Option Addr) (cap : Nat) (x : Int) (kid : Nat → List Int → Except Int Unit) (w : World) :
    Calls Try.prog 51 #[.slice sp 0 cap, .int .i64 x] w (RRead d 0 [] w (rd1 kid d [])) := by
  have Z := Arr.new w 59 #[.bool false, .slice none 0 0, .slice none 0 0]
  go_enter Try.func51, Try.ntmps51
  go_wp2_with (refine wpList_store_arr (by rfl) 59 (.tmp 4) (.tmp 20) (by rfl) w.heap.size #[.bool false, .slice none 0 0, .slice none 0 0] (by rfl) (by rfl) 59 _ Z size25 rfl (one3 _ _ _ _ _ _ _) ?_)
  exact bodyPost_ret (v := .tuple #[.agg #[.bool false, .slice none 0 0, .slice none 0 0], .int .i64 0, .int .i64 7]) (res35 rfl rfl rfl (Z.setRow _)) rfl ⟨below_row (alloc_bel' w _) (Nat.le_refl _) _, .inl ⟨7, .inl rfl, rfl, rfl⟩⟩

set_option maxRecDepth 100000 in
set_option maxHeartbeats 1000000 in
theorem rread_low (N d : Nat) (sp : Option Addr) (n cap : Nat) (x m : Int) (r : List Int) (kid : Nat → List Int → Except Int Unit) (w : World) (hS : BS N w sp n cap (m :: r)) (hN : N ≤ w.heap.size) (hm : m < 128) :
    Calls Try.prog 51 #[.slice sp n cap, .int .i64 x] w (RRead d n (m :: r) w (rd1 kid d (m :: r))) := by
  have hln := hS.len
  have hn0 : 0 < n := by have := hln.out; simp at this; omega
  have hmb := hS.bts m (by simp)
  have hnI : (0 : Int) < n := by omega
  have hnB : ((n : Int) == 0) = false := by simp; omega
  have E := Hid.mk' (show rd1 kid d (m :: r) = .ok 1 by simp [rd1, hm])
  have hSa : BS N (w.alloc (.cells #[.bool false, .slice none 0 0, .slice none 0 0] 59)) sp n cap (m :: r) := hS.below ((alloc_bel' w _).mono hN)
  obtain ⟨b1, o1, rfl, -, hBy1⟩ := hSa.at0 hn0
  have c1 : (w.alloc (.cells #[.bool false, .slice none 0 0, .slice none 0 0] 59)).cell? ⟨b1, o1, none⟩ = some (.int .u8 m) := hBy1 0 (by omega)
  have Z := (Arr.new w 59 #[.bool false, .slice none 0 0, .slice none 0 0]).alloc (.cells #[.int .u8 m] 5)
  have Y := Arr.new (w.alloc (.cells #[.bool false, .slice none 0 0, .slice none 0 0] 59)) 5 #[.int .u8 m]
  simp at Y
  go_enter Try.func51, Try.ntmps51
  go_wp2_with (refine wpList_store_arr (by rfl) 59 (.tmp 4) (.tmp 29) (by rfl) w.heap.size #[.bool false, .slice (some ⟨w.heap.size + 1, 0, none⟩) 1 1, .slice none 0 0] (by rfl) (by rfl) 59 _ Z size25 rfl (one3 _ _ _ _ _ _ _) ?_)
  refine bodyPost_ret (v := .tuple #[.agg #[.bool false, .slice (some ⟨w.heap.size + 1, 0, none⟩) 1 1, .slice none 0 0], .int .i64 1, .int .i64 0]) (res35 rfl rfl rfl (Z.setRow _)) rfl ⟨below_row ((alloc_bel' w _).alloc (by simp) _) (Nat.le_refl _) _, .inr ⟨1, _, E.out, by omega, by omega, rfl, ?_⟩⟩
  refine Dec.bytes d ⟨_, 1, 1, [m], rfl, ⟨⟨rfl, (fun e => by cases e), by omega, by omega, by omega, fun _ => ⟨w.heap.size + 1, 0, rfl, by simp, fun t ht => ?_⟩, fun y hy => ?_⟩, ?_, fun b off e => ?_⟩, ?_⟩
  · obtain rfl : t = 0 := by omega
    rw [World.cell?_of_block (w := (w.alloc (.cells #[.bool false, .slice none 0 0, .slice none 0 0] 59)).alloc (.cells #[.int .u8 m] 5)) (setRow_other _ _ _ _ (by first | (show w.heap.size + 1 ≠ w.heap.size; omega) | (show w.heap.size ≠ w.heap.size + 1; omega)))]
    exact Y.cell 0
  · simp at hy; subst hy; exact hmb
  · exact ⟨rfl, .inr ⟨w.heap.size + 1, 1, #[.int .u8 m], rfl, Nat.zero_le _, (setRow_other _ _ _ _ (by first | (show w.heap.size + 1 ≠ w.heap.size; omega) | (show w.heap.size ≠ w.heap.size + 1; omega))).trans Y, Nat.le_refl _, by unfold maxLen; omega, rfl, rfl⟩⟩
  · cases e; omega
  · rw [show wrap false [m] = [m] from wrapF_one ⟨rfl, hm⟩]; rfl

theorem slice_in (N : Nat) (sp : Option Addr) (n cap : Nat) (m : Int) (r : List Int) (k z : Nat) (w : World) (hS : BS N w sp n cap (m :: r)) (h : k + z + 1 ≤ n) :
    ∃ s3, (∀ u, (Instr.slice 23 (.slice sp n cap) (some (.int .i64 (1 + (k : Int)))) (some (.int .i64 (1 + (k : Int) + (z : Int)))) none).run Try.prog u = .ok (.slice s3 z (cap - (1 + k))) u) ∧ BS N w s3 z (cap - (1 + k)) ((r.drop k).take z) := by
  have hle := hS.le
  refine ⟨spAt sp (1 + k) cap, fun u => ?_, ?_⟩
  · have := run_slice_lh sp n cap (1 + k) (1 + k + z) (1 + (k : Int)) (1 + (k : Int) + (z : Int)) (by omega) (by omega) (by omega) (by omega) u
    rwa [show 1 + k + z - (1 + k) = z by omega] at this
  · have := hS.part (1 + k) z cap (by omega) (by omega) (by omega)
    rwa [show (m :: r).drop (1 + k) = r.drop k by rw [Nat.add_comm, List.drop_succ_cons]] at this

set_option maxRecDepth 100000 in
set_option maxHeartbeats 400000 in
theorem rread_bytes_err (N d : Nat) (sp : Option Addr) (n cap : Nat) (x m : Int) (r : List Int) (kid : Nat → List Int → Except Int Unit) (c : Int) (w : World) (hS : BS N w sp n cap (m :: r)) (hN : N ≤ w.heap.size) (hm : ¬ m < 128) (hm2 : m < 192) (hq : rb r (m - 128).toNat = .error c) :
    Calls Try.prog 51 #[.slice sp n cap, .int .i64 x] w (RRead d n (m :: r) w (rd1 kid d (m :: r))) := by
  have hln := hS.len
  have hn : n = r.length + 1 := by have := hln.out; simpa using this
  have hn0 : 0 < n := by omega
  have hmb := hS.bts m (by simp)
  have hnI : (0 : Int) < n := by omega
  have hnB : ((n : Int) == 0) = false := by simp; omega
  have hsm := hS.small
  have hSa : BS N (w.alloc (.cells #[.bool false, .slice none 0 0, .slice none 0 0] 59)) sp n cap (m :: r) := hS.below ((alloc_bel' w _).mono hN)
  have Z := Arr.new w 59 #[.bool false, .slice none 0 0, .slice none 0 0]
  have hmg : ¬ 192 ≤ m := by omega
  have E := Hid.mk' (show rd1 kid d (m :: r) = .error c by rw [rd1, if_neg hm, if_pos hm2, hq])
  obtain ⟨b1, o1, rfl, -, hBy1⟩ := hSa.at0 hn0
  have c1 : (w.alloc (.cells #[.bool false, .slice none 0 0, .slice none 0 0] 59)).cell? ⟨b1, o1, none⟩ = some (.int .u8 m) := hBy1 0 (by omega)
  have hnn := Hid.mk' hn
  clear hn
  replace hq := Hid.mk' hq
  go_enter Try.func51, Try.ntmps51
  go_wp2_with (first
    | (go_at_call 63; go_must (refine (len_err N _ n cap 128 m (m - 128).toNat c r _ hSa (.inl rfl) (by omega) (by omega) hq.out).mono ?_; rintro e w2 ⟨⟨rfl, hc⟩ | ⟨k, z, hk, hz, hkz, rfl, rfl⟩, rfl⟩; (rcases hc with rfl | rfl)))
    | (refine wpList_store_arr (by rfl) 59 (.tmp 4) (.tmp 57) (by rfl) w.heap.size #[.bool false, .slice none 0 0, .slice none 0 0] (by rfl) (by rfl) 59 _ Z size25 rfl (one3 _ _ _ _ _ _ _) ?_))
  all_goals exact bodyPost_ret (v := .tuple #[.agg #[.bool false, .slice none 0 0, .slice none 0 0], .int .i64 0, .int .i64 _]) (res35 rfl rfl rfl (Z.setRow _)) rfl ⟨below_row (alloc_bel' w _) (Nat.le_refl _) _, .inl ⟨_, by first | exact .inl rfl | exact .inr rfl, E.out, rfl⟩⟩

set_option maxRecDepth 100000 in
set_option maxHeartbeats 400000 in
theorem rread_bytes_one (N d : Nat) (sp : Option Addr) (n cap : Nat) (x m : Int) (r : List Int) (kid : Nat → List Int → Except Int Unit) (k : Nat) (w : World) (hS : BS N w sp n cap (m :: r)) (hN : N ≤ w.heap.size) (hm : ¬ m < 128) (hm2 : m < 192) (hq : rb r (m - 128).toNat = .ok (k, 1)) (hy : bat (r.drop k) 0 < 128) :
    Calls Try.prog 51 #[.slice sp n cap, .int .i64 x] w (RRead d n (m :: r) w (rd1 kid d (m :: r))) := by
  have hln := hS.len
  have hn : n = r.length + 1 := by have := hln.out; simpa using this
  have hn0 : 0 < n := by omega
  have hmb := hS.bts m (by simp)
  have hnI : (0 : Int) < n := by omega
  have hnB : ((n : Int) == 0) = false := by simp; omega
  have hsm := hS.small
  have hSa : BS N (w.alloc (.cells #[.bool false, .slice none 0 0, .slice none 0 0] 59)) sp n cap (m :: r) := hS.below ((alloc_bel' w _).mono hN)
  have Z := Arr.new w 59 #[.bool false, .slice none 0 0, .slice none 0 0]
  have hmg : ¬ 192 ≤ m := by omega
  have E := Hid.mk' (show rd1 kid d (m :: r) = .error 8 by rw [rd1, if_neg hm, if_pos hm2, hq]; simp [hy])
  have hkz := (rb_ok hq).1
  obtain ⟨s3, e3, hB3⟩ := slice_in N sp n cap m r k 1 _ hSa (by omega)
  have e3 : ∀ u, (Instr.slice 23 (.slice sp n cap) (some (.int .i64 (1 + (k : Int)))) (some (.int .i64 (1 + (k : Int) + 1))) none).run Try.prog u = .ok (.slice s3 1 (cap - (1 + k))) u := e3
  obtain ⟨b1, o1, rfl, -, hBy1⟩ := hSa.at0 hn0
  have c1 : (w.alloc (.cells #[.bool false, .slice none 0 0, .slice none 0 0] 59)).cell? ⟨b1, o1, none⟩ = some (.int .u8 m) := hBy1 0 (by omega)
  have hnn := Hid.mk' hn
  clear hn
  replace hq := Hid.mk' hq
  have hgt : ¬ (n : Int) - (1 + (k : Int)) < 1 := by have := hnn.out; omega
  obtain ⟨b3, o3, rfl, -, hBy3⟩ := hB3.at0 (by omega)
  have c3 := hBy3 0 (by omega)
  rw [bat_take (by omega), Nat.add_zero] at c3
  go_enter Try.func51, Try.ntmps51
  go_wp2_with (first
    | (go_at_call 63; go_must (refine (len_ok N _ n cap 128 m (m - 128).toNat k 1 r _ hSa (.inl rfl) (by omega) (by omega) hq.out).mono ?_; rintro e w2 ⟨⟨rfl, hkn⟩, rfl⟩))
    | (refine wpList_store_arr (by rfl) 59 (.tmp 4) (.tmp 75) (by rfl) w.heap.size #[.bool false, .slice none 0 0, .slice none 0 0] (by rfl) (by rfl) 59 _ Z size25 rfl (one3 _ _ _ _ _ _ _) ?_))
  exact bodyPost_ret (v := .tuple #[.agg #[.bool false, .slice none 0 0, .slice none 0 0], .int .i64 0, .int .i64 8]) (res35 rfl rfl rfl (Z.setRow _)) rfl ⟨below_row (alloc_bel' w _) (Nat.le_refl _) _, .inl ⟨8, .inr rfl, E.out, rfl⟩⟩

set_option maxRecDepth 100000 in
set_option maxHeartbeats 1000000 in
theorem rread_bytes_two (N d : Nat) (sp : Option Addr) (n cap : Nat) (x m : Int) (r : List Int) (kid : Nat → List Int → Except Int Unit) (k : Nat) (w : World) (hS : BS N w sp n cap (m :: r)) (hN : N ≤ w.heap.size) (hm : ¬ m < 128) (hm2 : m < 192) (hq : rb r (m - 128).toNat = .ok (k, 1)) (hy : ¬ bat (r.drop k) 0 < 128) :
    Calls Try.prog 51 #[.slice sp n cap, .int .i64 x] w (RRead d n (m :: r) w (rd1 kid d (m :: r))) := by
  have hln := hS.len
  have hn : n = r.length + 1 := by have := hln.out; simpa using this
  have hn0 : 0 < n := by omega
  have hmb := hS.bts m (by simp)
  have hnI : (0 : Int) < n := by omega
  have hnB : ((n : Int) == 0) = false := by simp; omega
  have hsm := hS.small
  have hSa : BS N (w.alloc (.cells #[.bool false, .slice none 0 0, .slice none 0 0] 59)) sp n cap (m :: r) := hS.below ((alloc_bel' w _).mono hN)
  have Z := Arr.new w 59 #[.bool false, .slice none 0 0, .slice none 0 0]
  have hmg : ¬ 192 ≤ m := by omega
  have E := Hid.mk' (show rd1 kid d (m :: r) = .ok (1 + k + 1) by rw [rd1, if_neg hm, if_pos hm2, hq]; simp [hy])
  have hfm := Hid.mk' (form_read (m := m) (r := r) false (s := (m - 128).toNat) (fun y hy => hS.bts y (by simp [hy])) (by omega) (by simp; omega) hq (by rintro ⟨-, h2, h3⟩; omega))
  have hkz := (rb_ok hq).1
  obtain ⟨s3, e3, hB3⟩ := slice_in N sp n cap m r k 1 _ hSa (by omega)
  have e3 : ∀ u, (Instr.slice 23 (.slice sp n cap) (some (.int .i64 (1 + (k : Int)))) (some (.int .i64 (1 + (k : Int) + 1))) none).run Try.prog u = .ok (.slice s3 1 (cap - (1 + k))) u := e3
  obtain ⟨b1, o1, rfl, -, hBy1⟩ := hSa.at0 hn0
  have c1 : (w.alloc (.cells #[.bool false, .slice none 0 0, .slice none 0 0] 59)).cell? ⟨b1, o1, none⟩ = some (.int .u8 m) := hBy1 0 (by omega)
  have hnn := Hid.mk' hn
  clear hn
  replace hq := Hid.mk' hq
  have hgt : ¬ (n : Int) - (1 + (k : Int)) < 1 := by have := hnn.out; omega
  obtain ⟨b3, o3, rfl, -, hBy3⟩ := hB3.at0 (by omega)
  have c3 := hBy3 0 (by omega)
  rw [bat_take (by omega), Nat.add_zero] at c3
  go_enter Try.func51, Try.ntmps51
  go_wp2_with (first
    | (go_at_call 63; go_must (refine (len_ok N _ n cap 128 m (m - 128).toNat k 1 r _ hSa (.inl rfl) (by omega) (by omega) hq.out).mono ?_; rintro e w2 ⟨⟨rfl, hkn⟩, rfl⟩))
    | (go_at_call 21; go_must (refine (copy01_any _ _ _ _ N _ hB3).mono ?_; rintro e w3 ⟨v3, rfl, hown3, hb3⟩; have Z3 := Z.below hb3 Z.lt; obtain ⟨s4, c4, rfl, hbs4, hge4⟩ := own_bs hown3 hB3.bts (by omega)))
    | (refine wpList_store_arr (by rfl) 59 (.tmp 4) (.tmp 78) (by rfl) w.heap.size #[.bool false, .slice s4 1 c4, .slice none 0 0] (by rfl) (by rfl) 59 _ Z3 size25 rfl (one3 _ _ _ _ _ _ _) ?_))
  have hs3 := hb3.size
  simp at hs3
  refine bodyPost_ret (v := .tuple #[.agg #[.bool false, .slice s4 1 c4, .slice none 0 0], .int .i64 (1 + (k : Int) + 1), .int .i64 0]) (res35 rfl rfl rfl (Z3.setRow _)) rfl ⟨below_row ((alloc_bel' w _).trans (hb3.mono (by simp))) (Nat.le_refl _) _, .inr ⟨1 + k + 1, _, E.out, by omega, by omega, by rw [show ((1 + k + 1 : Nat) : Int) = 1 + (k : Int) + 1 by omega], ?_⟩⟩
  have hag : Agree (fun b => w.heap.size < b) w3 (w3.setRow w.heap.size #[.bool false, .slice s4 1 c4, .slice none 0 0]) := ⟨by simp, fun b _ hb => setRow_other _ _ _ _ (by omega)⟩
  refine Dec.bytes d ⟨s4, 1, c4, _, rfl, ?_, hfm.out.symm⟩
  have hh : BSs (fun b => w.heap.size < b) w3 s4 1 c4 ((r.drop k).take 1) := ⟨hbs4, own_mono hown3 (Nat.zero_le _), fun b off e => by have := (hge4 b off e).1; simp at this; omega⟩
  exact (hh.agree hag).mono fun b _ hb => by omega

set_option maxRecDepth 100000 in
set_option maxHeartbeats 1000000 in
theorem rread_bytes_many (N d : Nat) (sp : Option Addr) (n cap : Nat) (x m : Int) (r : List Int) (kid : Nat → List Int → Except Int Unit) (k z : Nat) (w : World) (hS : BS N w sp n cap (m :: r)) (hN : N ≤ w.heap.size) (hm : ¬ m < 128) (hm2 : m < 192) (hq : rb r (m - 128).toNat = .ok (k, z)) (hz1 : ¬ z = 1) :
    Calls Try.prog 51 #[.slice sp n cap, .int .i64 x] w (RRead d n (m :: r) w (rd1 kid d (m :: r))) := by
  have hln := hS.len
  have hn : n = r.length + 1 := by have := hln.out; simpa using this
  have hn0 : 0 < n := by omega
  have hmb := hS.bts m (by simp)
  have hnI : (0 : Int) < n := by omega
  have hnB : ((n : Int) == 0) = false := by simp; omega
  have hsm := hS.small
  have hSa : BS N (w.alloc (.cells #[.bool false, .slice none 0 0, .slice none 0 0] 59)) sp n cap (m :: r) := hS.below ((alloc_bel' w _).mono hN)
  have Z := Arr.new w 59 #[.bool false, .slice none 0 0, .slice none 0 0]
  have hmg : ¬ 192 ≤ m := by omega
  have E := Hid.mk' (show rd1 kid d (m :: r) = .ok (1 + k + z) by rw [rd1, if_neg hm, if_pos hm2, hq]; simp [hz1])
  have hfm := Hid.mk' (form_read (m := m) (r := r) false (s := (m - 128).toNat) (fun y hy => hS.bts y (by simp [hy])) (by omega) (by simp; omega) hq (by rintro ⟨-, h2, h3⟩; omega))
  have hkz := (rb_ok hq).1
  obtain ⟨s3, e3, hB3⟩ := slice_in N sp n cap m r k z _ hSa (by omega)
  obtain ⟨b1, o1, rfl, -, hBy1⟩ := hSa.at0 hn0
  have c1 : (w.alloc (.cells #[.bool false, .slice none 0 0, .slice none 0 0] 59)).cell? ⟨b1, o1, none⟩ = some (.int .u8 m) := hBy1 0 (by omega)
  have hnn := Hid.mk' hn
  clear hn
  replace hq := Hid.mk' hq
  have hgt : ¬ (n : Int) - (1 + (k : Int)) < (z : Int) := by have := hnn.out; omega
  have hzI : ¬ ((z : Int) = 1) := by omega
  have hzB : ((z : Int) == 1) = false := by simpa using hzI
  go_enter Try.func51, Try.ntmps51
  go_wp2_with (first
    | (go_at_call 63; go_must (refine (len_ok N _ n cap 128 m (m - 128).toNat k z r _ hSa (.inl rfl) (by omega) (by omega) hq.out).mono ?_; rintro e w2 ⟨⟨rfl, hkn⟩, rfl⟩))
    | (go_at_call 21; go_must (refine (copy01_any _ _ _ _ N _ hB3).mono ?_; rintro e w3 ⟨v3, rfl, hown3, hb3⟩; have Z3 := Z.below hb3 Z.lt; obtain ⟨s4, c4, rfl, hbs4, hge4⟩ := own_bs hown3 hB3.bts (by omega)))
    | (refine wpList_store_arr (by rfl) 59 (.tmp 4) (.tmp 78) (by rfl) w.heap.size #[.bool false, .slice s4 z c4, .slice none 0 0] (by rfl) (by rfl) 59 _ Z3 size25 rfl (one3 _ _ _ _ _ _ _) ?_))
  have hs3 := hb3.size
  simp at hs3
  refine bodyPost_ret (v := .tuple #[.agg #[.bool false, .slice s4 z c4, .slice none 0 0], .int .i64 (1 + (k : Int) + (z : Int)), .int .i64 0]) (res35 rfl rfl rfl (Z3.setRow _)) rfl ⟨below_row ((alloc_bel' w _).trans (hb3.mono (by simp))) (Nat.le_refl _) _, .inr ⟨1 + k + z, _, E.out, by omega, by omega, by rw [show ((1 + k + z : Nat) : Int) = 1 + (k : Int) + (z : Int) by omega], ?_⟩⟩
  have hag : Agree (fun b => w.heap.size < b) w3 (w3.setRow w.heap.size #[.bool false, .slice s4 z c4, .slice none 0 0]) := ⟨by simp, fun b _ hb => setRow_other _ _ _ _ (by omega)⟩
  refine Dec.bytes d ⟨s4, z, c4, _, rfl, ?_, hfm.out.symm⟩
  have hh : BSs (fun b => w.heap.size < b) w3 s4 z c4 ((r.drop k).take z) := ⟨hbs4, own_mono hown3 (Nat.zero_le _), fun b off e => by have := (hge4 b off e).1; simp at this; omega⟩
  exact (hh.agree hag).mono fun b _ hb => by omega

set_option maxRecDepth 100000 in
set_option maxHeartbeats 400000 in
theorem rread_deep (N : Nat) (sp : Option Addr) (n cap : Nat) (m : Int) (r : List Int) (kid : Nat → List Int → Except Int Unit) (w : World) (hS : BS N w sp n cap (m :: r)) (hN : N ≤ w.heap.size) (hm2 : ¬ m < 192) :
    Calls Try.prog 51 #[.slice sp n cap, .int .i64 0] w (RRead 0 n (m :: r) w (rd1 kid 0 (m :: r))) := by
  have hln := hS.len
  have hn : n = r.length + 1 := by have := hln.out; simpa using this
  have hn0 : 0 < n := by omega
  have hmb := hS.bts m (by simp)
  have hnI : (0 : Int) < n := by omega
  have hnB : ((n : Int) == 0) = false := by simp; omega
  have hsm := hS.small
  have hSa : BS N (w.alloc (.cells #[.bool false, .slice none 0 0, .slice none 0 0] 59)) sp n cap (m :: r) := hS.below ((alloc_bel' w _).mono hN)
  have Z := Arr.new w 59 #[.bool false, .slice none 0 0, .slice none 0 0]
  have hm : ¬ m < 128 := by omega
  have hmg : 192 ≤ m := by omega
  have E := Hid.mk' (show rd1 kid 0 (m :: r) = .error 8 by rw [rd1, if_neg (by omega), if_neg hm2, if_pos rfl])
  obtain ⟨b1, o1, rfl, -, hBy1⟩ := hSa.at0 hn0
  have c1 : (w.alloc (.cells #[.bool false, .slice none 0 0, .slice none 0 0] 59)).cell? ⟨b1, o1, none⟩ = some (.int .u8 m) := hBy1 0 (by omega)
  have hnn := Hid.mk' hn
  clear hn
  go_enter Try.func51, Try.ntmps51
  go_wp2_with (refine wpList_store_arr (by rfl) 59 (.tmp 4) (.tmp 37) (by rfl) w.heap.size #[.bool false, .slice none 0 0, .slice none 0 0] (by rfl) (by rfl) 59 _ Z size25 rfl (one3 _ _ _ _ _ _ _) ?_)
  exact bodyPost_ret (v := .tuple #[.agg #[.bool false, .slice none 0 0, .slice none 0 0], .int .i64 0, .int .i64 8]) (res35 rfl rfl rfl (Z.setRow _)) rfl ⟨below_row (alloc_bel' w _) (Nat.le_refl _) _, .inl ⟨8, .inr rfl, E.out, rfl⟩⟩

set_option maxRecDepth 100000 in
set_option maxHeartbeats 400000 in
theorem rread_list_err (N d : Nat) (sp : Option Addr) (n cap : Nat) (m : Int) (r : List Int) (kid : Nat → List Int → Except Int Unit) (c : Int) (w : World) (hS : BS N w sp n cap (m :: r)) (hN : N ≤ w.heap.size) (hm2 : ¬ m < 192) (hq : rb r (m - 192).toNat = .error c) :
    Calls Try.prog 51 #[.slice sp n cap, .int .i64 ((d : Int) + 1)] w (RRead (d + 1) n (m :: r) w (rd1 kid (d + 1) (m :: r))) := by
  have hln := hS.len
  have hn : n = r.length + 1 := by have := hln.out; simpa using this
  have hn0 : 0 < n := by omega
  have hmb := hS.bts m (by simp)
  have hnI : (0 : Int) < n := by omega
  have hnB : ((n : Int) == 0) = false := by simp; omega
  have hsm := hS.small
  have hSa : BS N (w.alloc (.cells #[.bool false, .slice none 0 0, .slice none 0 0] 59)) sp n cap (m :: r) := hS.below ((alloc_bel' w _).mono hN)
  have Z := Arr.new w 59 #[.bool false, .slice none 0 0, .slice none 0 0]
  have hm : ¬ m < 128 := by omega
  have hmg : 192 ≤ m := by omega
  have hd1 : ¬ ((d : Int) + 1 = 0) := by omega
  have hd2 : (((d : Int) + 1) == 0) = false := by simpa using hd1
  have E := Hid.mk' (show rd1 kid (d + 1) (m :: r) = .error c by rw [rd1, if_neg (by omega), if_neg hm2, if_neg (by omega), hq])
  obtain ⟨b1, o1, rfl, -, hBy1⟩ := hSa.at0 hn0
  have c1 : (w.alloc (.cells #[.bool false, .slice none 0 0, .slice none 0 0] 59)).cell? ⟨b1, o1, none⟩ = some (.int .u8 m) := hBy1 0 (by omega)
  have hnn := Hid.mk' hn
  clear hn
  replace hq := Hid.mk' hq
  go_enter Try.func51, Try.ntmps51
  go_wp2_with (first
    | (go_at_call 63; go_must (refine (len_err N _ n cap 192 m (m - 192).toNat c r _ hSa (.inr rfl) (by omega) (by omega) hq.out).mono ?_; rintro e w2 ⟨⟨rfl, hc⟩ | ⟨k, z, hk, hz, hkz, rfl, rfl⟩, rfl⟩; (rcases hc with rfl | rfl)))
    | (refine wpList_store_arr (by rfl) 59 (.tmp 4) (.tmp 57) (by rfl) w.heap.size #[.bool false, .slice none 0 0, .slice none 0 0] (by rfl) (by rfl) 59 _ Z size25 rfl (one3 _ _ _ _ _ _ _) ?_))
  all_goals exact bodyPost_ret (v := .tuple #[.agg #[.bool false, .slice none 0 0, .slice none 0 0], .int .i64 0, .int .i64 _]) (res35 rfl rfl rfl (Z.setRow _)) rfl ⟨below_row (alloc_bel' w _) (Nat.le_refl _) _, .inl ⟨_, by first | exact .inl rfl | exact .inr rfl, E.out, rfl⟩⟩
end Go.Proofs.Ytbjlmekafnpllab

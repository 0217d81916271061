/- B. -/
import Derived.Test.YtjbaobfmdkpboaaX03
import Derived.Test.YtjbaobfmdkpboaaX04
import Derived.Test.YtjbaobfmdkpboaaX05
import Derived.Test.YtjbaobfmdkpboaaX06
import Derived.Test.YtjbaobfmdkpboaaX07
import Derived.Test.YtjbaobfmdkpboaaX09
import Derived.BigQuiet
import Derived.BigRegion
import Derived.ChangeKeysEq
import Derived.ChangeOld
import Derived.Deep.DeepCutAuto
import Derived.Deep.DrawnRows
import Derived.Deep.MidRow
import Derived.Deep.QuietTactic
import Derived.Deep.RegionHeld3
import Derived.Deep.RegionLaw
import Derived.Deep.RegionWith
import Derived.Deep.WholeRow
import Derived.Great.BuildSlice
import Derived.Great.FillDense
import Derived.JoinedTies
import Derived.KernelRfl
import Derived.Laws.AppendOwnNone
import Derived.Laws.BitsLemmas
import Derived.Laws.BytesArg
import Derived.Laws.CopyOwn
import Derived.Laws.OwnMore
import Derived.Laws.ResultCell
import Derived.Lib.SlBytesConst
import Derived.Maps.AppendAt
import Derived.OpenShut
import Derived.ProofKit
import Derived.ShutString
import Derived.SizedLaws
import Derived.WalkKit
import Derived.WalkLawsBesides
import Derived.WalkSpells
import GoSem.Claim
import GoSem.ClaimJoined
import GoSem.ClaimMapViews
/- Layer exec: what the layers below give. -/
namespace Go.Proofs.Ytjbaobfmdkpboaa
set_option linter.unusedSectionVars false
set_option maxHeartbeats 1000000
open Go.RowKit
set_option maxRecDepth 100000
set_option linter.unusedVariables false
set_option linter.unusedSimpArgs false

/-- A number in eight bytes. -/
theorem bat_e8 (n : Int) {t : Nat} (h : t < 8) : bat (e8 n) t = n / 2 ^ (56 - 8 * t) % 256 := by
  simp [bat, e8, List.getD, h]
theorem bat_left {A B : List Int} {t : Nat} (h : t < A.length) : bat (A ++ B) t = bat A t := by simp [bat, List.getD, List.getElem?_append_left h]
theorem bat_right (A B : List Int) (t : Nat) : bat (A ++ B) (A.length + t) = bat B t := by simp [bat, List.getD, List.getElem?_append_right]
theorem bat_rng {L : List Int} (h : Bts L) (t : Nat) : 0 ≤ bat L t ∧ bat L t ≤ 255 := by
  unfold bat
  by_cases ht : t < L.length
  · simp only [List.getD, List.getElem?_eq_getElem ht, Option.getD_some]; exact h _ (List.getElem_mem ht)
  · rw [List.getD, List.getElem?_eq_none (by omega)]; simp
theorem wacc_rng {H : Nat → Int} (hH : ∀ t, 0 ≤ H t ∧ H t ≤ 255) (j : Nat) : ∀ m, 0 ≤ wacc H j m ∧ wacc H j m < 256 ^ m
  | 0 => by simp [wacc]
  | m + 1 => by
    have ih := wacc_rng hH j m
    have hb := hH (8 * j + m)
    have e : (256 : Int) ^ (m + 1) = 256 ^ m * 256 := by rw [Int.pow_succ]
    simp only [wacc, e]; omega
theorem wacc_ext {H G : Nat → Int} {i j : Nat} : ∀ m, (∀ t, t < m → H (8 * i + t) = G (8 * j + t)) → wacc H i m = wacc G j m
  | 0, _ => rfl
  | m + 1, h => by
    simp only [wacc]
    rw [wacc_ext m (fun t ht => h t (by omega)), h m (by omega)]
/-- Number j of some bytes. -/
def wd (L : List Int) (j : Nat) : Int := wacc (bat L) j 8
theorem wd_rng {L : List Int} (h : Bts L) (j : Nat) : 0 ≤ wd L j ∧ wd L j < 18446744073709551616 := by
  have := wacc_rng (bat_rng h) j 8
  unfold wd
  refine ⟨this.1, Int.lt_of_lt_of_le this.2 ?_⟩
  decide
theorem wd_left {A B : List Int} {j : Nat} (h : 8 * j + 8 ≤ A.length) : wd (A ++ B) j = wd A j :=
  wacc_ext 8 fun t ht => bat_left (by omega)
theorem wd_right {A : List Int} (B : List Int) {i : Nat} (hA : A.length = 8 * i) (j : Nat) : wd (A ++ B) (i + j) = wd B j :=
  wacc_ext 8 fun t ht => by
    rw [show 8 * (i + j) + t = A.length + (8 * j + t) by omega, bat_right]
theorem wd_e8 {n : Int} (h0 : 0 ≤ n) (h1 : n < 18446744073709551616) : wd (e8 n) 0 = n := by
  have h := words_from (W := fun _ => n) (j := 0) h0 h1
  refine Eq.trans ?_ h
  refine wacc_ext 8 fun t ht => ?_
  rw [show 8 * 0 + t = t by omega, bat_e8 _ ht]
  unfold fromB
  rw [show t % 8 = t by omega]
/-- Byte t of number j. -/
theorem e8_wd {L : List Int} (hL : Bts L) (j t : Nat) (hr : t < 8) : bat (e8 (wd L j)) t = bat L (8 * j + t) := by
  rw [bat_e8 _ hr]
  have b0 := bat_rng hL (8 * j + 0)
  have b1 := bat_rng hL (8 * j + 1)
  have b2 := bat_rng hL (8 * j + 2)
  have b3 := bat_rng hL (8 * j + 3)
  have b4 := bat_rng hL (8 * j + 4)
  have b5 := bat_rng hL (8 * j + 5)
  have b6 := bat_rng hL (8 * j + 6)
  have b7 := bat_rng hL (8 * j + 7)
  simp only [wd, wacc]
  match t, hr with
  | 0, _ => omega
  | 1, _ => omega
  | 2, _ => omega
  | 3, _ => omega
  | 4, _ => omega
  | 5, _ => omega
  | 6, _ => omega
  | 7, _ => omega
/-- Some numbers, in eight bytes each. -/
def cat (f : Nat → Int) : Nat → List Int
  | 0 => []
  | n + 1 => cat f n ++ e8 (f n)
theorem cat_len (f : Nat → Int) (n : Nat) : (cat f n).length = 8 * n := by
  induction n with
  | zero => rfl
  | succ n ih => simp only [cat, List.length_append, ih, e8_len]; omega
theorem cat_bts (f : Nat → Int) (n : Nat) : Bts (cat f n) := by
  induction n with
  | zero => intro x hx; cases hx
  | succ n ih => exact ih.app (e8_bts _)
theorem cat_ext {f g : Nat → Int} : ∀ n, (∀ j, j < n → f j = g j) → cat f n = cat g n
  | 0, _ => rfl
  | n + 1, h => by simp only [cat]; rw [cat_ext n (fun j hj => h j (by omega)), h n (by omega)]
theorem cat_take {L : List Int} (hL : Bts L) : ∀ n, 8 * n ≤ L.length → cat (wd L) n = L.take (8 * n)
  | 0, _ => by simp [cat]
  | n + 1, h => by
    simp only [cat]
    rw [cat_take hL n (by omega)]
    apply List.ext_getElem
    · simp [e8_len]; omega
    intro t h1 h2
    simp only [List.length_append, List.length_take, e8_len] at h1
    by_cases ht : t < 8 * n
    · rw [List.getElem_append_left (by simp; omega)]
      simp
    · rw [List.getElem_append_right (by simp; omega)]
      have e := e8_wd hL n (t - 8 * n) (by omega)
      rw [show 8 * n + (t - 8 * n) = t by omega] at e
      have l1 : t - 8 * n < (e8 (wd L n)).length := by rw [e8_len]; omega
      have l2 : t < L.length := by omega
      unfold bat at e
      rw [List.getD, List.getD, List.getElem?_eq_getElem l1, List.getElem?_eq_getElem l2] at e
      simp only [Option.getD_some] at e
      simp only [List.length_take, List.getElem_take]
      rw [← e]
      congr 1
      omega
theorem cat_wd {L : List Int} (hL : Bts L) {n : Nat} (h : L.length = 8 * n) : cat (wd L) n = L := by
  rw [cat_take hL n (by omega), List.take_of_length_le (by omega)]
/-- A message. -/
structure Mg where
  kd : Int
  fr : Int
  tw : Int
  am : Int
  no : Int
  ky : List Int
  nx : List Int
structure MgOK (m : Mg) : Prop where
  k0 : 0 ≤ m.kd
  k1 : m.kd < 256
  f0 : 0 ≤ m.fr
  f1 : m.fr < 18446744073709551616
  t0 : 0 ≤ m.tw
  t1 : m.tw < 18446744073709551616
  a0 : 0 ≤ m.am
  a1 : m.am < 18446744073709551616
  n0 : 0 ≤ m.no
  n1 : m.no < 18446744073709551616
  kl : m.ky.length = 32
  kb : Bts m.ky
  nl : m.nx.length = 32
  nb : Bts m.nx
def decMg : DecidableEq Mg := fun a b => decidable_of_iff (a.kd = b.kd ∧ a.fr = b.fr ∧ a.tw = b.tw ∧ a.am = b.am ∧ a.no = b.no ∧ a.ky = b.ky ∧ a.nx = b.nx) (by
  constructor
  · intro ⟨h1, h2, h3, h4, h5, h6, h7⟩; cases a; cases b; simp_all
  · rintro rfl; exact ⟨rfl, rfl, rfl, rfl, rfl, rfl, rfl⟩)
variable [DecidableEq Mg]
def mg0 : Mg := ⟨0, 0, 0, 0, 0, Z32, Z32⟩
/-- Its numbers. -/
def w13 (m : Mg) : Nat → Int
  | 0 => m.kd
  | 1 => m.fr
  | 2 => m.tw
  | 3 => m.am
  | 4 => m.no
  | 5 => wd m.ky 0
  | 6 => wd m.ky 1
  | 7 => wd m.ky 2
  | 8 => wd m.ky 3
  | n + 9 => wd m.nx n
/-- Its bytes. -/
def Mg.bytes (m : Mg) : List Int := e8 m.kd ++ e8 m.fr ++ e8 m.tw ++ e8 m.am ++ e8 m.no ++ m.ky ++ m.nx
theorem Mg.blen {m : Mg} (h : MgOK m) : m.bytes.length = 104 := by simp [Mg.bytes, e8_len, h.kl, h.nl]
theorem Mg.bbts {m : Mg} (h : MgOK m) : Bts m.bytes := ((((((e8_bts _).app (e8_bts _)).app (e8_bts _)).app (e8_bts _)).app (e8_bts _)).app h.kb).app h.nb
theorem Mg.cat {m : Mg} (h : MgOK m) : cat (w13 m) 13 = m.bytes := by
  have hk := cat_wd h.kb (n := 4) (by rw [h.kl])
  have hn := cat_wd h.nb (n := 4) (by rw [h.nl])
  simp only [Go.Proofs.Ytjbaobfmdkpboaa.cat, List.nil_append] at hk hn
  simp only [Go.Proofs.Ytjbaobfmdkpboaa.cat, w13, Mg.bytes]
  conv => rhs; rw [← hk, ← hn]
  simp only [List.append_assoc, List.nil_append]
theorem wd_cat {f : Nat → Int} {n : Nat} (hf : ∀ j, j < n → 0 ≤ f j ∧ f j < 18446744073709551616) : ∀ j, j < n → wd (cat f n) j = f j := by
  induction n with
  | zero => intro j h; omega
  | succ n ih =>
    intro j h
    simp only [Go.Proofs.Ytjbaobfmdkpboaa.cat]
    by_cases e : j = n
    · subst e
      have := wd_right (e8 (f j)) (cat_len f j) 0
      rw [Nat.add_zero] at this
      rw [this, wd_e8 (hf j (by omega)).1 (hf j (by omega)).2]
    · rw [wd_left (by rw [cat_len]; omega)]
      exact ih (fun j hj => hf j (by omega)) j (by omega)
theorem w13_rng {m : Mg} (h : MgOK m) : ∀ j, 0 ≤ w13 m j ∧ w13 m j < 18446744073709551616
  | 0 => ⟨h.k0, by have := h.k1; simp only [w13]; omega⟩
  | 1 => ⟨h.f0, h.f1⟩
  | 2 => ⟨h.t0, h.t1⟩
  | 3 => ⟨h.a0, h.a1⟩
  | 4 => ⟨h.n0, h.n1⟩
  | 5 => wd_rng h.kb 0
  | 6 => wd_rng h.kb 1
  | 7 => wd_rng h.kb 2
  | 8 => wd_rng h.kb 3
  | n + 9 => wd_rng h.nb n
theorem wd_bytes {m : Mg} (h : MgOK m) {j : Nat} (hj : j < 13) : wd m.bytes j = w13 m j := by
  rw [← Mg.cat h]; exact wd_cat (fun j _ => w13_rng h j) j hj
def Mg.may (m : Mg) : Bool :=
  (m.kd == 1 && m.fr == 0 && decide (m.tw < 32) && decide (0 < m.am) && m.no == 0 && decide (m.ky = Z32) && decide (m.nx = Z32)) ||
  (m.kd == 2 && decide (m.fr < 32) && decide (m.tw < 32)) || (m.kd == 3 && decide (m.fr < 32) && decide (0 < m.am))
theorem Mg.may_kd {m : Mg} (h : m.may = true) : m.kd ≤ 3 := by
  simp only [Mg.may, Bool.or_eq_true, Bool.and_eq_true, beq_iff_eq, decide_eq_true_eq] at h
  omega
/-- The message of some bytes. -/
def mgOf (L : List Int) : Mg := ⟨wd L 0 % 256, wd L 1, wd L 2, wd L 3, wd L 4, (L.drop 40).take 32, (L.drop 72).take 32⟩
theorem mgOf_ok {L : List Int} (hL : Bts L) (hl : L.length = 104) : MgOK (mgOf L) :=
  ⟨by simp only [mgOf]; omega, by simp only [mgOf]; omega, (wd_rng hL _).1, (wd_rng hL _).2, (wd_rng hL _).1, (wd_rng hL _).2, (wd_rng hL _).1, (wd_rng hL _).2, (wd_rng hL _).1, (wd_rng hL _).2,
    by simp [mgOf, hl], fun x hx => hL x (List.mem_of_mem_drop (List.mem_of_mem_take hx)), by simp [mgOf, hl], fun x hx => hL x (List.mem_of_mem_drop (List.mem_of_mem_take hx))⟩
theorem mg0_ok : MgOK mg0 := ⟨by decide, by decide, by decide, by decide, by decide, by decide, by decide, by decide, by decide, by decide, rfl, by intro x hx; simp [mg0, Z32] at hx; omega, rfl, by intro x hx; simp [mg0, Z32] at hx; omega⟩
def goodM (L : List Int) : Bool := decide (wd L 0 ≤ 3) && (mgOf L).may
/-- What is read. -/
def rdM (L : List Int) : Mg := if L.length = 104 ∧ goodM L = true then mgOf L else mg0
def rdE (L : List Int) : Int := if L.length < 104 then 7 else if L.length = 104 ∧ goodM L = true then 0 else 8
theorem rdM_ok {L : List Int} (hL : Bts L) : MgOK (rdM L) := by
  unfold rdM; split
  · next h => exact mgOf_ok hL h.1
  · exact mg0_ok
theorem goodM_kd {L : List Int} (hL : Bts L) : goodM L = (decide (wd L 0 = (mgOf L).kd) && (mgOf L).may) := by
  unfold goodM
  have h0 := wd_rng hL 0
  by_cases hm : (mgOf L).may = true
  · have h3 := Mg.may_kd hm
    rw [hm, Bool.and_true, Bool.and_true]
    have e : (mgOf L).kd = wd L 0 % 256 := rfl
    rw [e] at h3 ⊢
    simp only [decide_eq_decide]
    omega
  · simp only [Bool.not_eq_true] at hm; simp [hm]
/-- THERE. -/
theorem mgOf_bytes {m : Mg} (h : MgOK m) : mgOf m.bytes = m := by
  have e : m.bytes = (e8 m.kd ++ e8 m.fr ++ e8 m.tw ++ e8 m.am ++ e8 m.no) ++ (m.ky ++ m.nx) := by simp [Mg.bytes]
  have e2 : m.bytes = (e8 m.kd ++ e8 m.fr ++ e8 m.tw ++ e8 m.am ++ e8 m.no ++ m.ky) ++ m.nx := rfl
  have k : (m.bytes.drop 40).take 32 = m.ky := by
    rw [e, List.drop_append_of_le_length (by simp [e8_len]), List.drop_eq_nil_of_le (by simp [e8_len]), List.nil_append, List.take_append_of_le_length (by rw [h.kl]; omega), List.take_of_length_le (by rw [h.kl]; omega)]
  have n : (m.bytes.drop 72).take 32 = m.nx := by
    rw [e2, List.drop_append_of_le_length (by simp [e8_len, h.kl]), List.drop_eq_nil_of_le (by simp [e8_len, h.kl]), List.nil_append, List.take_of_length_le (by rw [h.nl]; omega)]
  unfold mgOf
  rw [k, n, wd_bytes h (by omega), wd_bytes h (by omega), wd_bytes h (by omega), wd_bytes h (by omega), wd_bytes h (by omega)]
  have hk : w13 m 0 % 256 = m.kd := by have := h.k0; have := h.k1; simp only [w13]; omega
  rw [hk]
  rfl
theorem good_bytes {m : Mg} (h : MgOK m) (hm : m.may = true) : goodM m.bytes = true := by
  unfold goodM
  rw [mgOf_bytes h, hm, wd_bytes h (by omega)]
  have := Mg.may_kd hm
  rw [Bool.and_true]
  exact decide_eq_true this
theorem rdM_bytes {m : Mg} (h : MgOK m) (hm : m.may = true) : rdM m.bytes = m := by
  unfold rdM; rw [if_pos ⟨Mg.blen h, good_bytes h hm⟩, mgOf_bytes h]
theorem rdE_bytes {m : Mg} (h : MgOK m) (hm : m.may = true) : rdE m.bytes = 0 := by
  unfold rdE; rw [Mg.blen h, if_neg (by omega), if_pos ⟨rfl, good_bytes h hm⟩]
/-- AND BACK. -/
theorem bytes_mgOf {L : List Int} (hL : Bts L) (hl : L.length = 104) (hg : goodM L = true) : (mgOf L).bytes = L := by
  have h := mgOf_ok hL hl
  rw [← Mg.cat h]
  conv => rhs; rw [← cat_wd hL (n := 13) (by rw [hl])]
  refine cat_ext 13 fun j hj => ?_
  have hk : wd L 0 = wd L 0 % 256 := by
    rw [goodM_kd hL] at hg
    simp only [Bool.and_eq_true, decide_eq_true_eq] at hg
    exact hg.1
  have key : ∀ i, i < 4 → wd ((L.drop 40).take 32) i = wd L (5 + i) := fun i hi => wacc_ext 8 fun t ht => by
    unfold bat
    rw [List.getD, List.getD, List.getElem?_take_of_lt (by omega), List.getElem?_drop, show 40 + (8 * i + t) = 8 * (5 + i) + t by omega]
  have nex : ∀ i, i < 4 → wd ((L.drop 72).take 32) i = wd L (9 + i) := fun i hi => wacc_ext 8 fun t ht => by
    unfold bat
    rw [List.getD, List.getD, List.getElem?_take_of_lt (by omega), List.getElem?_drop, show 72 + (8 * i + t) = 8 * (9 + i) + t by omega]
  match j, hj with
  | 0, _ => exact hk.symm
  | 1, _ => rfl
  | 2, _ => rfl
  | 3, _ => rfl
  | 4, _ => rfl
  | 5, _ => exact key 0 (by omega)
  | 6, _ => exact key 1 (by omega)
  | 7, _ => exact key 2 (by omega)
  | 8, _ => exact key 3 (by omega)
  | n + 9, h => rw [Nat.add_comm n 9]; rw [← nex n (by omega), Nat.add_comm 9 n]; rfl
end Go.Proofs.Ytjbaobfmdkpboaa

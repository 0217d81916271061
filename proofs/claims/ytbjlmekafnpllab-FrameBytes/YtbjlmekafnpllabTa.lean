/- Layer rlp, the document's answer: how many bytes stand behind a head. -/
import Derived.Test.YtbjlmekafnpllabRr
namespace Go.Proofs.Ytbjlmekafnpllab
open Go.RowKit
set_option linter.unusedVariables false
set_option linter.unusedSimpArgs false

/-- What 'length' answers at bytes whose first is left out. -/
def LenPost (n : Nat) (r : List Int) (s : Nat) (e : Ending) : Prop :=
  (∃ c : Int, (c = 7 ∨ c = 8) ∧ rb r s = .error c ∧ e = .returned (.tuple #[.int .i64 0, .int .i64 0, .int .i64 c])) ∨
  ∃ k size : Nat, k + 1 ≤ n ∧ size ≤ n + 63 ∧ e = .returned (.tuple #[.int .i64 (size : Int), .int .i64 (1 + (k : Int)), .int .i64 0]) ∧ rb r s = if k + size + 1 ≤ n then .ok (k, size) else .error 7

theorem results3 {fn : Func} {t u v : Tmp} (h : fn.results = #[.tmp t, .tmp u, .tmp v]) (tmps : Array Value) (P : Program) (w : World) :
    (results fn tmps).run P w = .ok (.tuple #[tmps.getD t undef, tmps.getD u undef, tmps.getD v undef]) w := by simp [results, h, go_sem]

set_option maxRecDepth 100000 in
set_option maxHeartbeats 400000 in
theorem length_short (N : Nat) (sp : Option Addr) (n cap : Nat) (B m : Int) (s : Nat) (r : List Int) (w : World) (hS : BS N w sp n cap (m :: r)) (hB : B = 128 ∨ B = 192) (hm : m = B + s) (hs : s ≤ 55) :
    Calls Try.prog 63 #[.slice sp n cap, .int .u8 B] w fun e w' => LenPost n r s e ∧ w' = w := by
  have hln := hS.len
  have hn : n = r.length + 1 := by have := hln.out; simpa using this
  obtain ⟨b1, o1, rfl, -, hBy1⟩ := hS.at0 (by omega)
  have c1 : w.cell? ⟨b1, o1, none⟩ = some (.int .u8 m) := hBy1 0 (by omega)
  have hw : IntKind.u8.wrap (m - B) = s := by
    simp only [IntKind.wrap, IntKind.bits, IntKind.signed]; simp; omega
  have hw3 : IntKind.i64.wrap (s : Int) = s := by
    simp only [IntKind.wrap, IntKind.bits, IntKind.signed]; simp; omega
  have hsI : (s : Int) ≤ 55 := by omega
  have hnI : (0 : Int) < n := by omega
  replace hn := Hid.mk' hn
  replace hm := Hid.mk' hm
  go_enter Try.func63, Try.ntmps63
  go_wp2
  refine bodyPost_ret (results3 Try.results63 _ _ _) rfl ?_
  refine ⟨.inr ⟨0, s, by have := hn.out; omega, by omega, rfl, ?_⟩, rfl⟩
  unfold rb
  rw [if_pos hs]
  by_cases h : s ≤ r.length
  · rw [if_pos h, if_pos (by have := hn.out; omega)]
  · rw [if_neg h, if_neg (by have := hn.out; omega)]

set_option maxRecDepth 100000 in
set_option maxHeartbeats 400000 in
theorem length_few (N : Nat) (sp : Option Addr) (n cap : Nat) (B m : Int) (k : Nat) (r : List Int) (w : World) (hS : BS N w sp n cap (m :: r)) (hB : B = 128 ∨ B = 192) (hm : m = B + (55 + k)) (hk : 0 < k) (hk2 : k ≤ 8) (h : n < 1 + k) :
    Calls Try.prog 63 #[.slice sp n cap, .int .u8 B] w fun e w' => LenPost n r (55 + k) e ∧ w' = w := by
  have hln := hS.len
  have hn : n = r.length + 1 := by have := hln.out; simpa using this
  obtain ⟨b1, o1, rfl, -, hBy1⟩ := hS.at0 (by omega)
  have c1 : w.cell? ⟨b1, o1, none⟩ = some (.int .u8 m) := hBy1 0 (by omega)
  have hw : IntKind.u8.wrap (m - B) = 55 + (k : Int) := by
    simp only [IntKind.wrap, IntKind.bits, IntKind.signed]; simp; omega
  have hw3 : IntKind.i64.wrap (55 + (k : Int)) = 55 + (k : Int) := by
    simp only [IntKind.wrap, IntKind.bits, IntKind.signed]; simp; omega
  have E := Hid.mk' (show rb r (55 + k) = .error 7 by rw [rb_long r k hk]; unfold rbk; rw [if_pos (by omega)])
  have hsI : ¬ (55 + (k : Int)) ≤ 55 := by omega
  have hnI : (0 : Int) < n := by omega
  have hlt : (n : Int) < 1 + (k : Int) := by omega
  replace hn := Hid.mk' hn
  replace hm := Hid.mk' hm
  go_enter Try.func63, Try.ntmps63
  go_wp2
  refine bodyPost_ret (results3 Try.results63 _ _ _) rfl ?_
  exact ⟨.inl ⟨7, .inl rfl, E.out, rfl⟩, rfl⟩

set_option maxRecDepth 100000 in
set_option maxHeartbeats 400000 in
theorem length_zero (N : Nat) (sp : Option Addr) (n cap : Nat) (B m : Int) (k : Nat) (r : List Int) (w : World) (hS : BS N w sp n cap (m :: r)) (hB : B = 128 ∨ B = 192) (hm : m = B + (55 + k)) (hk : 0 < k) (hk2 : k ≤ 8) (h : ¬ n < 1 + k) (hz : bat r 0 = 0) :
    Calls Try.prog 63 #[.slice sp n cap, .int .u8 B] w fun e w' => LenPost n r (55 + k) e ∧ w' = w := by
  have hln := hS.len
  have hn : n = r.length + 1 := by have := hln.out; simpa using this
  obtain ⟨b1, o1, rfl, -, hBy1⟩ := hS.at0 (by omega)
  have c1 : w.cell? ⟨b1, o1, none⟩ = some (.int .u8 m) := hBy1 0 (by omega)
  have c2 : w.cell? ⟨b1, o1 + 1, none⟩ = some (.int .u8 0) := by rw [← hz]; exact hBy1 1 (by omega)
  have hw : IntKind.u8.wrap (m - B) = 55 + (k : Int) := by
    simp only [IntKind.wrap, IntKind.bits, IntKind.signed]; simp; omega
  have hw3 : IntKind.i64.wrap (55 + (k : Int)) = 55 + (k : Int) := by
    simp only [IntKind.wrap, IntKind.bits, IntKind.signed]; simp; omega
  have E := Hid.mk' (show rb r (55 + k) = .error 8 by rw [rb_long r k hk]; unfold rbk; rw [if_neg (by omega), if_pos (.inl hz)])
  have hsI : ¬ (55 + (k : Int)) ≤ 55 := by omega
  have hnI : (0 : Int) < n := by omega
  have hnI2 : (1 : Int) < n := by omega
  have hlt : ¬ (n : Int) < 1 + (k : Int) := by omega
  replace hn := Hid.mk' hn
  replace hm := Hid.mk' hm
  go_enter Try.func63, Try.ntmps63
  go_wp2
  refine bodyPost_ret (results3 Try.results63 _ _ _) rfl ?_
  exact ⟨.inl ⟨8, .inr rfl, E.out, rfl⟩, rfl⟩

set_option maxRecDepth 100000 in
set_option maxHeartbeats 1000000 in
theorem length_rest (N : Nat) (sp : Option Addr) (n cap : Nat) (B m : Int) (k : Nat) (r : List Int) (w : World) (hS : BS N w sp n cap (m :: r)) (hB : B = 128 ∨ B = 192) (hm : m = B + (55 + k)) (hk : 0 < k) (hk2 : k ≤ 8) (h : ¬ n < 1 + k) (hz : ¬ bat r 0 = 0) :
    Calls Try.prog 63 #[.slice sp n cap, .int .u8 B] w fun e w' => LenPost n r (55 + k) e ∧ w' = w := by
  have hln := hS.len
  have hsm := hS.small
  have hbr : Bts r := fun y hy => hS.bts y (by simp [hy])
  have hn : n = r.length + 1 := by have := hln.out; simpa using this
  obtain ⟨b1, o1, rfl, -, hBy1⟩ := hS.at0 (by omega)
  have c1 : w.cell? ⟨b1, o1, none⟩ = some (.int .u8 m) := hBy1 0 (by omega)
  have c2 : w.cell? ⟨b1, o1 + 1, none⟩ = some (.int .u8 (bat r 0)) := hBy1 1 (by omega)
  have hw : IntKind.u8.wrap (m - B) = 55 + (k : Int) := by
    simp only [IntKind.wrap, IntKind.bits, IntKind.signed]; simp; omega
  have hw3 : IntKind.i64.wrap (55 + (k : Int)) = 55 + (k : Int) := by
    simp only [IntKind.wrap, IntKind.bits, IntKind.signed]; simp; omega
  have hr := num_range (r.take k) (hbr.take _)
  have hlt64 := num_lt (hbr.take k) hk2 (by rw [List.length_take]; omega)
  have E := Hid.mk' (show rb r (55 + k) = if num (r.take k) ≤ 55 then .error 8 else if ((n - 1 - k : Nat) : Int) < num (r.take k) then .error 7 else .ok (k, (num (r.take k)).toNat) by
    rw [rb_long r k hk]; unfold rbk; rw [if_neg (by omega), show r.length = n - 1 by omega]; by_cases h55 : num (r.take k) ≤ 55 <;> simp [hz, h55])
  have hsI : ¬ (55 + (k : Int)) ≤ 55 := by omega
  have hnI : (0 : Int) < n := by omega
  have hnI2 : (1 : Int) < n := by omega
  have hlt : ¬ (n : Int) < 1 + (k : Int) := by omega
  have hz2 : (bat r 0 == 0) = false := by simpa using hz
  have hr0 := hr.1
  obtain ⟨M, hM⟩ : ∃ M, M = num (r.take k) := ⟨_, rfl⟩
  replace hM := Hid.mk' hM
  rw [← hM.out] at E hlt64 hr0
  clear hr
  have hwn : IntKind.u64.wrap (n : Int) = n := wrap64_of (by omega) (by omega)
  have hnI' := Hid.mk' hn
  replace hm := Hid.mk' hm
  clear hn
  go_enter Try.func63, Try.ntmps63
  go_wp2
  go_loopw [9, 10] (fun a i wr => ∃ j : Nat, j ≤ k ∧ i = .int .i64 (1 + (j : Int)) ∧ a = .int .u64 (num (r.take j)) ∧ wr = w)
    (fun _ i _ => k + 1 - (intOf i).toNat)
  case atStart => exact ⟨0, by omega, rfl, rfl, rfl⟩
  case round =>
    obtain ⟨j, hj, rfl, rfl, rfl⟩ := hrel
    by_cases hlt : j < k
    · have h3 : 1 + (j : Int) ≤ k := by omega
      have h4 : (0 : Int) ≤ 1 + (j : Int) := by omega
      have h5 : 1 + (j : Int) < n := by omega
      have h6 : (1 + (j : Int)).toNat = 1 + j := by omega
      have c0 : wr.cell? ⟨b1, o1 + (1 + j), none⟩ = some (.int .u8 (bat r j)) := by
        have := hBy1 (1 + j) (by omega)
        rwa [show bat (m :: r) (1 + j) = bat r j by rw [Nat.add_comm]; rfl] at this
      have hnx := Hid.mk' (num_next hbr (show j < r.length by have := hnI'.out; omega) (by omega))
      go_wp2
      go_roundw
      case rel => exact ⟨j + 1, by omega, by go_num, by rw [← hnx.out], trivial⟩
      case measure => simp [intOf]; omega
    · obtain rfl : j = k := by omega
      have h3 : ¬ 1 + (j : Int) ≤ j := by omega
      rw [← hM.out]
      by_cases h55 : M ≤ 55
      · have E := Hid.mk' (E.out.trans (if_pos h55))
        have h56 : M < 56 := by omega
        go_wp2
        refine bodyPost_ret (results3 Try.results63 _ _ _) rfl ?_
        exact ⟨.inl ⟨8, .inr rfl, E.out, rfl⟩, rfl⟩
      · have E := Hid.mk' (E.out.trans (if_neg h55))
        have h56 : ¬ M < 56 := by omega
        by_cases hbig : (n : Int) < M
        · have E := Hid.mk' (E.out.trans (if_pos (by omega)))
          go_wp2
          refine bodyPost_ret (results3 Try.results63 _ _ _) rfl ?_
          exact ⟨.inl ⟨7, .inl rfl, E.out, rfl⟩, rfl⟩
        · obtain ⟨mm, hmm⟩ : ∃ mm : Nat, M = mm := ⟨M.toNat, by omega⟩
          subst hmm
          have hw4 : IntKind.i64.wrap (mm : Int) = mm := by
            simp only [IntKind.wrap, IntKind.bits, IntKind.signed]; simp; omega
          have hm47 : (mm : Int) ≤ 140737488355328 := by omega
          replace E := Hid.mk' E.out
          clear hlt64 hr0
          go_wp2
          refine bodyPost_ret (results3 Try.results63 _ _ _) rfl ?_
          refine ⟨.inr ⟨j, mm, by omega, by omega, by rw [show (1 + (j : Int)) = 1 + (55 + (j : Int) - 55) by omega]; rfl, ?_⟩, rfl⟩
          rw [E.out]
          by_cases h7 : j + mm + 1 ≤ n
          · rw [if_neg (by omega), if_pos h7]; rfl
          · rw [if_pos (by omega), if_neg h7]

theorem length_any (N : Nat) (sp : Option Addr) (n cap : Nat) (B m : Int) (s : Nat) (r : List Int) (w : World) (hS : BS N w sp n cap (m :: r)) (hB : B = 128 ∨ B = 192) (hm : m = B + s) (hs : s ≤ 63) :
    Calls Try.prog 63 #[.slice sp n cap, .int .u8 B] w fun e w' => LenPost n r s e ∧ w' = w := by
  by_cases h : s ≤ 55
  · exact length_short N sp n cap B m s r w hS hB hm h
  · obtain ⟨k, rfl⟩ : ∃ k, s = 55 + k := ⟨s - 55, by omega⟩
    by_cases h1 : n < 1 + k
    · exact length_few N sp n cap B m k r w hS hB (by omega) (by omega) (by omega) h1
    · by_cases h2 : bat r 0 = 0
      · exact length_zero N sp n cap B m k r w hS hB (by omega) (by omega) (by omega) h1 h2
      · exact length_rest N sp n cap B m k r w hS hB (by omega) (by omega) (by omega) h1 h2
end Go.Proofs.Ytbjlmekafnpllab

/- Layer rlp: number. -/
import Derived.Test.YtbjlmekafnpllabRc
namespace Go.Proofs.Ytbjlmekafnpllab
open Go.RowKit
set_option linter.unusedVariables false
set_option linter.unusedSimpArgs false

theorem or8 (x b : Int) (hx : 0 ≤ x) (hx2 : x < 72057594037927936) (hb : 0 ≤ b) (hb2 : b ≤ 255) : bits .or .u64 (x * 256) b = x * 256 + b := by
  obtain ⟨k, rfl⟩ : ∃ k : Nat, x = k := ⟨x.toNat, by omega⟩
  obtain ⟨j, rfl⟩ : ∃ j : Nat, b = j := ⟨b.toNat, by omega⟩
  have h1 : (BitVec.ofInt 64 ((k : Int) * 256)).toNat = k * 256 := by
    rw [show ((k : Int) * 256) = ((k * 256 : Nat) : Int) by omega, BitVec.ofInt_natCast, BitVec.toNat_ofNat]; omega
  have h2 : (BitVec.ofInt 64 (j : Int)).toNat = j := by
    rw [BitVec.ofInt_natCast, BitVec.toNat_ofNat]; omega
  have h3 : k * 256 ||| j = k * 256 + j := by
    have := Nat.two_pow_add_eq_or_of_lt (i := 8) (b := j) (by omega) k
    rw [Nat.mul_comm] at this; exact this.symm
  show IntKind.u64.wrap ((BitVec.ofInt 64 ((k : Int) * 256) ||| BitVec.ofInt 64 (j : Int)).toNat : Int) = _
  rw [BitVec.toNat_or, h1, h2, h3]
  simp only [IntKind.wrap, IntKind.bits, IntKind.signed]
  simp; omega
theorem wrap64_of {x : Int} (h : 0 ≤ x) (h2 : x < 18446744073709551616) : IntKind.u64.wrap x = x := by
  simp only [IntKind.wrap, IntKind.bits, IntKind.signed]; simp; omega
theorem num_take {L : List Int} {k : Nat} (h : k < L.length) : num (L.take (k + 1)) = num (L.take k) * 256 + bat L k := by
  rw [List.take_add_one, List.getElem?_eq_getElem h, Option.toList_some, num_snoc]
  simp [bat, List.getElem?_eq_getElem h]
theorem pow8 {k : Nat} (h : k < 8) : (256 : Int) ^ k ≤ 72057594037927936 := by
  match k, h with
  | 0, _ => decide
  | 1, _ => decide
  | 2, _ => decide
  | 3, _ => decide
  | 4, _ => decide
  | 5, _ => decide
  | 6, _ => decide
  | 7, _ => decide
/-- One byte more. -/
theorem num_next {L : List Int} (hL : Bts L) {k : Nat} (h : k < L.length) (h8 : k < 8) :
    bits .or .u64 (IntKind.u64.wrap (num (L.take k) * 256)) (IntKind.u64.wrap (bat L k)) = num (L.take (k + 1)) := by
  have hr := num_range (L.take k) (hL.take k)
  rw [List.length_take, Nat.min_eq_left (by omega)] at hr
  have hp := pow8 h8
  have hb := bat_range hL k
  rw [wrap64_of (by omega) (by omega), wrap64_of (by omega) (by omega), or8 _ _ hr.1 (by omega) hb.1 hb.2, num_take h]

set_option maxRecDepth 100000 in
set_option maxHeartbeats 1000000 in
theorem number_any (N : Nat) (sp : Option Addr) (n cap : Nat) (L : List Int) (w : World) (hS : BS N w sp n cap L) (h8 : n ≤ 8) :
    Calls Try.prog 62 #[.slice sp n cap] w fun e w' => e = .returned (.int .u64 (num L)) ∧ w' = w := by
  have hl := hS.len
  go_enter Try.func62, Try.ntmps62
  go_wp2
  go_loopw [3, 8] (fun a i wr => ∃ k : Nat, k ≤ n ∧ i = .int .i64 k ∧ a = .int .u64 (num (L.take k)) ∧ wr = w)
    (fun _ i _ => n - (intOf i).toNat)
  case atStart => exact ⟨0, by omega, rfl, rfl, rfl⟩
  case round =>
    obtain ⟨k, hk, rfl, rfl, rfl⟩ := hrel
    by_cases hlt : k < n
    · have h3 : (k : Int) < n := by omega
      have h4 : (0 : Int) ≤ k := by omega
      obtain ⟨b, off, rfl, hbN, hB⟩ := hS.at0 (by omega)
      have c0 := hB k hlt
      have hnx := Hid.mk' (num_next hS.bts (by rw [← hl.out]; exact hlt) (by omega))
      go_wp2
      go_roundw
      case rel => exact ⟨k + 1, by omega, by go_num, by rw [← hnx.out], trivial⟩
      case measure => simp [intOf]; omega
    · obtain rfl : k = n := by omega
      go_wp2
      go_ret
      refine ⟨?_, rfl⟩
      rw [hl.out, List.take_length]; rfl
end Go.Proofs.Ytbjlmekafnpllab

import Derived.Test.YtgjnbpimldjkpaaTa
namespace Go.Proofs.Ytgjnbpimldjkpaa
open Go.RowKit

structure St where
  (a b c d e f g h : Int)

def step (s : St) (k w : Int) : St :=
  { a := ((s.h + bg1 s.e + cho s.e s.f s.g + k + w) % 4294967296 + (bg0 s.a + maj s.a s.b s.c) % 4294967296) % 4294967296,
    b := s.a, c := s.b, d := s.c,
    e := (s.d + (s.h + bg1 s.e + cho s.e s.f s.g + k + w) % 4294967296) % 4294967296,
    f := s.e, g := s.f, h := s.g }
def St.plus (s r : St) : St :=
  { a := (s.a + r.a) % 4294967296, b := (s.b + r.b) % 4294967296, c := (s.c + r.c) % 4294967296, d := (s.d + r.d) % 4294967296,
    e := (s.e + r.e) % 4294967296, f := (s.f + r.f) % 4294967296, g := (s.g + r.g) % 4294967296, h := (s.h + r.h) % 4294967296 }
def St.cells (s : St) : Array Value := #[.int .u32 s.a, .int .u32 s.b, .int .u32 s.c, .int .u32 s.d, .int .u32 s.e, .int .u32 s.f, .int .u32 s.g, .int .u32 s.h]

def rnd (K W : Nat → Int) (s : St) : Nat → St
  | 0 => s
  | t + 1 => step (rnd K W s t) (K t) (W t)

def Row (w : World) (b n : Nat) (f : Nat → Int) : Prop := ∀ t, t < n → w.cell? ⟨b, t, none⟩ = some (.int .u32 (f t))

set_option maxRecDepth 100000 in
set_option maxHeartbeats 1000000 in
theorem compress_any (s : St) (bw bk : Nat) (W K : Nat → Int) (w : World) (hbw : bw < w.heap.size) (hbk : bk < w.heap.size)
    (hW : Row w bw 64 W) (hK : Row w bk 64 K) :
    Calls Try.prog 51 #[.agg #[.int .u32 s.a, .int .u32 s.b, .int .u32 s.c, .int .u32 s.d, .int .u32 s.e, .int .u32 s.f, .int .u32 s.g, .int .u32 s.h], .pointer (some ⟨bw, 0, none⟩), .pointer (some ⟨bk, 0, none⟩)] w fun e w' => e = .returned (.agg (s.plus (rnd K W s 64)).cells) ∧ Below w.heap.size w w' := by
  go_enter Try.func51, Try.ntmps51
  go_wp2
  go_quiet (fail)
  go_wp2
  go_loopw [7, 8, 9, 10, 11, 12, 13, 14, 34] (fun a b c d e f g h i wr => ∃ (k n : Nat), k ≤ 64 ∧ i = .int .i64 k ∧ a = .int .u32 (rnd K W s k).a ∧ b = .int .u32 (rnd K W s k).b ∧ c = .int .u32 (rnd K W s k).c ∧ d = .int .u32 (rnd K W s k).d
     ∧ e = .int .u32 (rnd K W s k).e ∧ f = .int .u32 (rnd K W s k).f ∧ g = .int .u32 (rnd K W s k).g ∧ h = .int .u32 (rnd K W s k).h ∧ wr = ((w.alloc (.cells #[.int .u32 s.a, .int .u32 s.b, .int .u32 s.c, .int .u32 s.d, .int .u32 s.e, .int .u32 s.f, .int .u32 s.g, .int .u32 s.h] 72)).alloc (.cells #[.int .u32 0, .int .u32 0, .int .u32 0, .int .u32 0, .int .u32 0, .int .u32 0, .int .u32 0, .int .u32 0] 72)).drewN n)
     (fun _ _ _ _ _ _ _ _ i _ => 64 - (intOf i).toNat)
  case atStart => exact ⟨0, nq, by omega, rfl, rfl, rfl, rfl, rfl, rfl, rfl, rfl, rfl, rfl⟩
  case round =>
    obtain ⟨k, n, hk, rfl, rfl, rfl, rfl, rfl, rfl, rfl, rfl, rfl, hw⟩ := hrel
    by_cases hlt : k < 64
    · have h1 : wr.cell? ⟨bw, k, none⟩ = some (.int .u32 (W k)) := by rw [hw]; simpa [World.cell?_alloc_lt, hbw, Nat.lt_succ_of_lt hbw] using hW k hlt
      have h2 : wr.cell? ⟨bk, k, none⟩ = some (.int .u32 (K k)) := by rw [hw]; simpa [World.cell?_alloc_lt, hbk, Nat.lt_succ_of_lt hbk] using hK k hlt
      have h3 : (k : Int) < 64 := by omega
      have h4 : (0 : Int) ≤ k := by omega
      generalize hr : rnd K W s k = r
      have HR : Hid (rnd K W s k = r) := hr
      have HW : Hid (wr = _) := hw
      clear hr hW hK hw
      go_wp2
      go_quiet ((first | (go_at_call 55; exact Calls.quiet_of_same (bg1_any _ _)) | (go_at_call 56; exact Calls.quiet_of_same (choose_any _ _ _ _))))
      go_wp2_with (first | (go_at_call 57; refine (bg0_any _ _).mono ?_; rintro e w' ⟨rfl, rfl⟩) | (go_at_call 58; refine (majority_any _ _ _ _).mono ?_; rintro e w' ⟨rfl, rfl⟩))
      go_roundw
      case rel => exact ⟨k + 1, n + nq, by omega, by go_num, by rw [rnd, HR.out]; rfl, by rw [rnd, HR.out]; rfl, by rw [rnd, HR.out]; rfl, by rw [rnd, HR.out]; rfl, by rw [rnd, HR.out]; rfl, by rw [rnd, HR.out]; rfl, by rw [rnd, HR.out]; rfl, by rw [rnd, HR.out]; rfl, by rw [HW.out, World.drewN_drewN]⟩
      case measure => simp [intOf]; omega
    · have : k = 64 := by omega
      subst this
      subst hw
      go_wp2
      refine bodyPost_ret (v := .agg (s.plus (rnd K W s 64)).cells) (by simp [results, Try.results51, go_sem, St.cells, St.plus]) rfl ⟨rfl, ?_⟩
      repeat (with_reducible first | exact Below.refl _ _ | refine Below.setCell ?_ (by simp) _ | refine Below.alloc ?_ (by simp) _ | refine below_drewN ?_ _)
end Go.Proofs.Ytgjnbpimldjkpaa

/- Layer frame: Split. -/
import Derived.Test.YtbjlmekafnpllabFg
namespace Go.Proofs.Ytbjlmekafnpllab
open Go.RowKit
set_option linter.unusedVariables false
set_option linter.unusedSimpArgs false

set_option maxRecDepth 100000 in
set_option maxHeartbeats 400000 in
theorem cut36_at (N : Nat) (sp : Option Addr) (n cap z k : Nat) (L : List Int) (w : World) (hS : BS N w sp n cap L) (hk : (z ≤ n ∧ k = z) ∨ (n < z ∧ k = n)) :
    Calls Try.prog 36 #[.slice sp n cap, .int .i64 (z : Int)] w fun e w' => ∃ sp1 sp2, e = .returned (.tuple #[.slice sp1 k k, .slice sp2 (n - k) (n - k)]) ∧ BS N w' sp1 k k (L.take k) ∧ BS N w' sp2 (n - k) (n - k) (L.drop k) ∧ Below w.heap.size w w' := by
  have hc := hS.le
  have hkn : k ≤ n := by omega
  have e1 := run_slice_hm sp n cap k k (Nat.le_refl _) (by omega)
  have e2 := run_slice_lhm sp n cap k n n hkn (Nat.le_refl _) hc
  have p1 := hS.part 0 k k (by omega) (by omega) (by omega)
  have p2 := hS.part k (n - k) n (by omega) (by omega) (by omega)
  have hlen := hS.len
  rcases hk with ⟨hzn, rfl⟩ | ⟨hzn, rfl⟩
  · have hI : (k : Int) ≤ n := by omega
    go_enter Try.func36, Try.ntmps36
    go_wp2
    go_quiet (fail)
    go_wp2
    go_ret2
    refine ⟨_, _, rfl, ?_, ?_, ?_⟩
    · simpa using p1.below (w' := w.drewN nq) ⟨rfl, rfl, rfl, Nat.le_refl _, fun _ _ => rfl⟩
    · have e : List.take (n - k) (List.drop k L) = List.drop k L := List.take_of_length_le (by rw [List.length_drop, ← hlen.out]; omega)
      rw [e] at p2
      exact p2.below (w' := w.drewN nq) ⟨rfl, rfl, rfl, Nat.le_refl _, fun _ _ => rfl⟩
    · exact ⟨rfl, rfl, rfl, Nat.le_refl _, fun _ _ => rfl⟩
  · have hI : ¬ (z : Int) ≤ k := by omega
    go_enter Try.func36, Try.ntmps36
    go_wp2
    go_quiet (fail)
    go_wp2
    go_ret2
    refine ⟨spAt sp 0 k, spAt sp k k, by rw [Nat.sub_self]; rfl, ?_, ?_, ?_⟩
    · simpa using p1.below (w' := w.drewN nq) ⟨rfl, rfl, rfl, Nat.le_refl _, fun _ _ => rfl⟩
    · have e : List.take (k - k) (List.drop k L) = List.drop k L := List.take_of_length_le (by rw [List.length_drop, ← hlen.out]; omega)
      rw [e] at p2
      exact p2.below (w' := w.drewN nq) ⟨rfl, rfl, rfl, Nat.le_refl _, fun _ _ => rfl⟩
    · exact ⟨rfl, rfl, rfl, Nat.le_refl _, fun _ _ => rfl⟩

/-- A frame's plain parts. -/
def Fr.ck (f : Fr) : Int × Int × Bool × List Int := (f.ch, f.seq, f.last, f.bs)
/-- What bytes are cut into: so many pieces at most. -/
def spl (c : Int) (z : Nat) : Nat → Int → List Int → List (Int × Int × Bool × List Int)
  | 0, _, _ => []
  | k + 1, s, L => (c, s, decide (L.length ≤ z), L.take z) :: (if L.length ≤ z then [] else spl c z k (s + 1) (L.drop z))
def split (c : Int) (z : Nat) (L : List Int) : List (Int × Int × Bool × List Int) := spl c z (L.length + 1) 0 L

def boolOf : Value → Bool
  | .bool b => b
  | _ => false
/-- What Split answers. -/
def SPost (c : Int) (z : Int) (L : List Int) (w : World) (e : Ending) (w' : World) : Prop :=
  Below w.heap.size w w' ∧ (((z < 1 ∨ 4096 < z ∨ z * 1024 < L.length) ∧ e = .returned (.tuple #[.slice none 0 0, .int .i64 2])) ∨
    (¬ (z < 1 ∨ 4096 < z ∨ z * 1024 < L.length) ∧ ∃ sq k cq fs, e = .returned (.tuple #[.slice sq k cq, .int .i64 0]) ∧ k = fs.length ∧ w'.ownsRow w.heap.size 25 4 (.slice sq k cq) k (flat4 fs) ∧ (∀ f ∈ fs, OF (fun b => w.heap.size ≤ b ∧ some b ≠ (Value.slice sq k cq).ownBlock) w' f) ∧ fs.map Fr.ck = split c z.toNat L ∧ fs.length ≤ L.length + 1))

set_option maxRecDepth 100000 in
set_option maxHeartbeats 400000 in
theorem split_bad (c z : Int) (sp : Option Addr) (n cap : Nat) (L : List Int) (N : Nat) (w : World) (hS : BS N w sp n cap L) (hz0 : -9223372036854775808 ≤ z) (hz1 : z ≤ 9223372036854775807) (h : z < 1 ∨ 4096 < z ∨ z * 1024 < L.length) :
    Calls Try.prog 17 #[.int .u64 c, .slice sp n cap, .int .i64 z] w (SPost c z L w) := by
  have hln := hS.len
  rw [← hln.out] at h
  have hfin : ∀ e, e = Ending.returned (.tuple #[.slice none 0 0, .int .i64 2]) → SPost c z L w e w := fun e he => ⟨Below.refl _ _, .inl ⟨by rw [← hln.out]; exact h, he⟩⟩
  replace hfin := Hid.mk' hfin
  by_cases h1 : z < 1
  · clear h
    go_enter Try.func17, Try.ntmps17
    go_wp2
    go_ret2
    exact hfin.out _ rfl
  · by_cases h2 : 4096 < z
    · clear h
      go_enter Try.func17, Try.ntmps17
      go_wp2
      go_ret2
      exact hfin.out _ rfl
    · have h3 : z * 1024 < n := by omega
      clear h
      have hw : IntKind.i64.wrap (z * 1024) = z * 1024 := by rw [IntKind.wrap_i64]; omega
      go_enter Try.func17, Try.ntmps17
      go_wp2
      go_ret2
      exact hfin.out _ rfl

theorem spl_last {c : Int} {z k : Nat} {s : Int} {L : List Int} (h : L.length ≤ z) : spl c z (k + 1) s L = [(c, s, true, L)] := by
  rw [spl, if_pos h, decide_eq_true h, List.take_of_length_le h]
theorem spl_more {c : Int} {z k : Nat} {s : Int} {L : List Int} (h : ¬ L.length ≤ z) : spl c z (k + 1) s L = (c, s, false, L.take z) :: spl c z k (s + 1) (L.drop z) := by
  rw [spl, if_neg h, decide_eq_false h]

set_option maxRecDepth 100000 in
set_option maxHeartbeats 1000000 in
theorem split_good (c : Int) (z : Nat) (sp : Option Addr) (n cap : Nat) (L : List Int) (N : Nat) (w : World) (hS : BS N w sp n cap L) (hN : N ≤ w.heap.size) (hc0 : 0 ≤ c) (hc1 : c ≤ 18446744073709551615) (h1 : 1 ≤ z) (h2 : z ≤ 4096) (h3 : n ≤ z * 1024) :
    Calls Try.prog 17 #[.int .u64 c, .slice sp n cap, .int .i64 (z : Int)] w (SPost c z L w) := by
  have hln := hS.len
  have t1 : ¬ (z : Int) < 1 := by omega
  have t2 : ¬ (4096 : Int) < z := by omega
  have hw : IntKind.i64.wrap ((z : Int) * 1024) = (z : Int) * 1024 := by rw [IntKind.wrap_i64]; omega
  have t3 : ¬ (z : Int) * 1024 < n := by omega
  have hn22 : n ≤ 4194304 := by omega
  go_enter Try.func17, Try.ntmps17
  go_wp2
  go_loopw [1, 8, 9] (fun d v q wr => ∃ (f : Nat) (la : Bool) (m c' : Nat) (sp' : Option Addr) (L' : List Int) (fs : List Fr), d = .slice sp' m c' ∧ q = .bool la ∧ BS N wr sp' m c' L' ∧ m < f ∧ Hid (split c z L = fs.map Fr.ck ++ (if la then [] else spl c z f fs.length L')) ∧ (la = true → m = 0) ∧ fs.length + m ≤ n + (if la then 1 else 0) ∧ wr.ownsRow w.heap.size 25 4 v fs.length (flat4 fs) ∧ Hid (∀ f ∈ fs, OF (fun b => w.heap.size ≤ b ∧ some b ≠ v.ownBlock) wr f) ∧ Below w.heap.size w wr)
    (fun d _ q _ => slLen d + (if boolOf q then 0 else 1))
  case atStart =>
    exact ⟨n + 1, false, n, cap, sp, L, [], rfl, rfl, hS, by omega, Hid.mk' (by simp [split, ← hln.out]), (fun h => by cases h), by simp, World.ownsRow_nil _ _ _ _, Hid.mk' (fun f hf => by simp at hf), Below.refl _ _⟩
  case round =>
    obtain ⟨f, la, m, c', sp', L', fs, rfl, rfl, hS', hmf, hspl, hla, hcnt, hown, hof, hbl⟩ := hrel
    have hsz := hbl.size
    have hlm := hS'.len
    cases la with
    | true =>
      obtain rfl : m = 0 := hla rfl
      simp at hcnt
      obtain ⟨sq, cq, rfl, hFS, hge⟩ := own_fs hown rfl (by omega) (fun f hf => (hof.out f hf).ok)
      go_wp2
      go_ret2
      refine ⟨hbl, .inr ⟨by rw [← hln.out]; omega, sq, fs.length, cq, fs, rfl, rfl, hown, hof.out, ?_, by rw [← hln.out]; omega⟩⟩
      have := hspl.out
      simp at this
      rw [Int.toNat_natCast, this]
    | false =>
      obtain ⟨f1, rfl⟩ : ∃ f1, f = f1 + 1 := ⟨f - 1, by omega⟩
      simp at hcnt hspl
      clear hla
      obtain ⟨sq, cq, rfl, hFS, -⟩ := own_fs hown rfl (by omega) (fun f hf => (hof.out f hf).ok)
      clear hFS
      by_cases hmz : m ≤ z
      · have hsp2 := Hid.mk' (show split c z L = (fs ++ [Fr.mk c (fs.length : Int) true none 0 0 L']).map Fr.ck by
          have := hspl.out
          rw [spl_last (by rw [← hlm.out]; exact hmz)] at this
          rw [this]; simp [Fr.ck])
        clear hspl
        go_wp2_with (first
          | (go_at_call 36; go_must (refine (cut36_at N sp' m c' z m L' _ hS' (by omega)).mono ?_; rintro e w2 ⟨sp1, sp2, rfl, hB1, hB2, hb2⟩; have hs2 := hb2.size))
          | (go_at_call 37; go_must (refine (clone_any sp1 m m (L'.take m) N _ hB1).mono ?_; rintro e w3 ⟨v3, rfl, hown3, hb3⟩; obtain ⟨s3, c3, rfl, hbs3, hge3⟩ := own_bs hown3 hB1.bts (by omega); have hs3 := hb3.size; have hNew := Arr.new w3 25 #[.int .u64 c, .int .i64 (fs.length : Int), .bool true, .slice s3 m c3]; have hW : ∀ b, b < wr.heap.size → (w3.alloc (.cells #[.int .u64 c, .int .i64 (fs.length : Int), .bool true, .slice s3 m c3] 25)).heap[b]? = wr.heap[b]? := (fun b hb => by rw [Below.heap_alloc _ _ _ (by omega), hb3.block b (by omega), hb2.block b hb])))
          | (at_builtin; go_must (refine append_frame (by rfl) (.tmp 35) (.tmp 43) (by rfl) w.heap.size (.slice sq fs.length cq) fs.length fs (by rfl) (own_of_block hown (fun b hb => hW b (hown.lt b hb).2)) w3.heap.size 1 (Fr.mk c (fs.length : Int) true s3 m c3 (L'.take m)) (by rfl) hNew (by omega) (by simp; omega) ?_; intro v4 w4 hown4 hg4 hob4)))
        have hsz4 := hg4.size
        simp at hsz4
        have hS4 : ∀ b, b < wr.heap.size → some b ≠ (Value.slice sq fs.length cq).ownBlock → w4.heap[b]? = wr.heap[b]? := fun b hb hne' => by
          rw [hg4.block b (by simp; omega) hne']; exact hW b hb
        have hbl4 : Below w.heap.size w w4 := (((hbl.trans (hb2.mono (by omega))).trans (hb3.mono (by omega))).alloc (by omega) _).grown hg4 (by simp; omega) (fun j e => own_ge hown j e)
        have hnoW : ∀ b, wr.heap.size ≤ b → some b ≠ (Value.slice sq fs.length cq).ownBlock := fun b hb e => by have := (hown.lt b e.symm).2; omega
        have hB24 : BS N w4 sp2 0 0 (L'.drop m) := ((show BS N w2 sp2 0 0 (L'.drop m) by simpa using hB2).below (hb3.mono (by omega))).below ⟨hbl4.os.trans ((hbl.trans (hb2.mono (by omega))).trans (hb3.mono (by omega))).os.symm, hbl4.tape.trans ((hbl.trans (hb2.mono (by omega))).trans (hb3.mono (by omega))).tape.symm, hbl4.output.trans ((hbl.trans (hb2.mono (by omega))).trans (hb3.mono (by omega))).output.symm, by omega, fun b hb => by rw [hS4 b (by omega) (fun e => by have := own_ge hown _ e.symm; omega), hb3.block b (by omega), hb2.block b (by omega)]⟩
        have hOF : ∀ f ∈ fs ++ [Fr.mk c (fs.length : Int) true s3 m c3 (L'.take m)], OF (fun b => w.heap.size ≤ b ∧ some b ≠ v4.ownBlock) w4 f := by
          intro f hf
          rcases List.mem_append.1 hf with hf | hf
          · have h1 := (hof.out f hf).mono (T := fun b => w.heap.size ≤ b ∧ some b ≠ (Value.slice sq fs.length cq).ownBlock ∧ b < wr.heap.size) (fun b hb h => ⟨h.1, h.2, hb⟩)
            have h2 := h1.agree (w' := w4) ⟨by omega, fun b hb h => hS4 b hb h.2.1⟩
            refine h2.mono fun b _ h => ⟨h.1, ?_⟩
            rcases hob4 with e | e
            · rw [e]; exact h.2.1
            · rw [e]; simp; omega
          · simp at hf; subst hf
            have h1 : BSs (fun b => w2.heap.size ≤ b ∧ b < w3.heap.size) w3 s3 m c3 (L'.take m) := ⟨hbs3, own_mono hown3 (Nat.zero_le _), fun b off e => by subst e; exact ⟨(hge3 b off rfl).1, (hown3.lt b rfl).2⟩⟩
            have h2 := h1.agree (w' := w4) ⟨by omega, fun b hb h => by rw [hg4.block b (by simp; omega) (hnoW b (by omega)), Below.heap_alloc _ _ _ hb]⟩
            refine ⟨hc0, hc1, by show (-9223372036854775808 : Int) ≤ (fs.length : Int); omega, by show (fs.length : Int) ≤ 9223372036854775807; omega, h2.mono fun b _ h => ⟨by omega, ?_⟩⟩
            rcases hob4 with e | e
            · rw [e]; exact hnoW b (by omega)
            · rw [e]; simp; omega
        go_roundw
        case rel =>
          refine ⟨f1 + 1, true, 0, 0, sp2, L'.drop m, _, rfl, rfl, hB24, by omega, Hid.mk' ?_, fun _ => by omega, by simp; omega, by simpa using hown4, Hid.mk' hOF, hbl4⟩
          rw [hsp2.out]
          have e : L'.take m = L' := List.take_of_length_le (by rw [← hlm.out]; exact Nat.le_refl _)
          simp [Fr.ck, e]
        case measure => simp [slLen, boolOf]
      · have hsp2 := Hid.mk' (show split c z L = (fs ++ [Fr.mk c (fs.length : Int) false none 0 0 (L'.take z)]).map Fr.ck ++ spl c z f1 ((fs.length : Int) + 1) (L'.drop z) by
          have := hspl.out
          rw [spl_more (by rw [← hlm.out]; exact hmz)] at this
          rw [this]; simp [Fr.ck])
        clear hspl
        have hne : (((m - z : Nat) : Int) == 0) = false := by simp; omega
        go_wp2_with (first
          | (go_at_call 36; go_must (refine (cut36_at N sp' m c' z z L' _ hS' (by omega)).mono ?_; rintro e w2 ⟨sp1, sp2, rfl, hB1, hB2, hb2⟩; have hs2 := hb2.size))
          | (go_at_call 37; go_must (refine (clone_any sp1 z z (L'.take z) N _ hB1).mono ?_; rintro e w3 ⟨v3, rfl, hown3, hb3⟩; obtain ⟨s3, c3, rfl, hbs3, hge3⟩ := own_bs hown3 hB1.bts (by omega); have hs3 := hb3.size; have hNew := Arr.new w3 25 #[.int .u64 c, .int .i64 (fs.length : Int), .bool false, .slice s3 z c3]; have hW : ∀ b, b < wr.heap.size → (w3.alloc (.cells #[.int .u64 c, .int .i64 (fs.length : Int), .bool false, .slice s3 z c3] 25)).heap[b]? = wr.heap[b]? := (fun b hb => by rw [Below.heap_alloc _ _ _ (by omega), hb3.block b (by omega), hb2.block b hb])))
          | (at_builtin; go_must (refine append_frame (by rfl) (.tmp 35) (.tmp 43) (by rfl) w.heap.size (.slice sq fs.length cq) fs.length fs (by rfl) (own_of_block hown (fun b hb => hW b (hown.lt b hb).2)) w3.heap.size 1 (Fr.mk c (fs.length : Int) false s3 z c3 (L'.take z)) (by rfl) hNew (by omega) (by simp; omega) ?_; intro v4 w4 hown4 hg4 hob4)))
        have hsz4 := hg4.size
        simp at hsz4
        have hS4 : ∀ b, b < wr.heap.size → some b ≠ (Value.slice sq fs.length cq).ownBlock → w4.heap[b]? = wr.heap[b]? := fun b hb hne' => by
          rw [hg4.block b (by simp; omega) hne']; exact hW b hb
        have hbl4 : Below w.heap.size w w4 := (((hbl.trans (hb2.mono (by omega))).trans (hb3.mono (by omega))).alloc (by omega) _).grown hg4 (by simp; omega) (fun j e => own_ge hown j e)
        have hnoW : ∀ b, wr.heap.size ≤ b → some b ≠ (Value.slice sq fs.length cq).ownBlock := fun b hb e => by have := (hown.lt b e.symm).2; omega
        have hB24 : BS N w4 sp2 (m - z) (m - z) (L'.drop z) := (hB2.below (hb3.mono (by omega))).below ⟨hbl4.os.trans ((hbl.trans (hb2.mono (by omega))).trans (hb3.mono (by omega))).os.symm, hbl4.tape.trans ((hbl.trans (hb2.mono (by omega))).trans (hb3.mono (by omega))).tape.symm, hbl4.output.trans ((hbl.trans (hb2.mono (by omega))).trans (hb3.mono (by omega))).output.symm, by omega, fun b hb => by rw [hS4 b (by omega) (fun e => by have := own_ge hown _ e.symm; omega), hb3.block b (by omega), hb2.block b (by omega)]⟩
        have hOF : ∀ f ∈ fs ++ [Fr.mk c (fs.length : Int) false s3 z c3 (L'.take z)], OF (fun b => w.heap.size ≤ b ∧ some b ≠ v4.ownBlock) w4 f := by
          intro f hf
          rcases List.mem_append.1 hf with hf | hf
          · have h1 := (hof.out f hf).mono (T := fun b => w.heap.size ≤ b ∧ some b ≠ (Value.slice sq fs.length cq).ownBlock ∧ b < wr.heap.size) (fun b hb h => ⟨h.1, h.2, hb⟩)
            have h2 := h1.agree (w' := w4) ⟨by omega, fun b hb h => hS4 b hb h.2.1⟩
            refine h2.mono fun b _ h => ⟨h.1, ?_⟩
            rcases hob4 with e | e
            · rw [e]; exact h.2.1
            · rw [e]; simp; omega
          · simp at hf; subst hf
            have h1 : BSs (fun b => w2.heap.size ≤ b ∧ b < w3.heap.size) w3 s3 z c3 (L'.take z) := ⟨hbs3, own_mono hown3 (Nat.zero_le _), fun b off e => by subst e; exact ⟨(hge3 b off rfl).1, (hown3.lt b rfl).2⟩⟩
            have h2 := h1.agree (w' := w4) ⟨by omega, fun b hb h => by rw [hg4.block b (by simp; omega) (hnoW b (by omega)), Below.heap_alloc _ _ _ hb]⟩
            refine ⟨hc0, hc1, by show (-9223372036854775808 : Int) ≤ (fs.length : Int); omega, by show (fs.length : Int) ≤ 9223372036854775807; omega, h2.mono fun b _ h => ⟨by omega, ?_⟩⟩
            rcases hob4 with e | e
            · rw [e]; exact hnoW b (by omega)
            · rw [e]; simp; omega
        go_roundw
        case rel =>
          refine ⟨f1, false, m - z, m - z, sp2, L'.drop z, _, rfl, rfl, hB24, by omega, Hid.mk' ?_, (fun h => by cases h), by simp; omega, by simpa using hown4, Hid.mk' hOF, hbl4⟩
          rw [hsp2.out]
          simp [Fr.ck]
        case measure => simp [slLen, boolOf]; omega

theorem split_any (c z : Int) (sp : Option Addr) (n cap : Nat) (L : List Int) (N : Nat) (w : World) (hS : BS N w sp n cap L) (hc0 : 0 ≤ c) (hc1 : c ≤ 18446744073709551615) (hz0 : -9223372036854775808 ≤ z) (hz1 : z ≤ 9223372036854775807) :
    Calls Try.prog 17 #[.int .u64 c, .slice sp n cap, .int .i64 z] w (SPost c z L w) := by
  by_cases h : z < 1 ∨ 4096 < z ∨ z * 1024 < L.length
  · exact split_bad c z sp n cap L N w hS hz0 hz1 h
  · obtain ⟨k, rfl⟩ : ∃ k : Nat, z = k := ⟨z.toNat, by omega⟩
    have hl := hS.len.out
    exact split_good c k sp n cap L w.heap.size w hS.here (Nat.le_refl _) hc0 hc1 (by omega) (by omega) (by omega)
end Go.Proofs.Ytbjlmekafnpllab

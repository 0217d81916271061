/- Layer rlp: read and readList. -/
import Derived.Test.YtbjlmekafnpllabRp
namespace Go.Proofs.Ytbjlmekafnpllab
open Go.RowKit
set_option linter.unusedVariables false
set_option linter.unusedSimpArgs false

def ReadAt (f d : Nat) : Prop := ∀ (N : Nat) (sp : Option Addr) (n cap : Nat) (L : List Int) (w : World), BS N w sp n cap L → N ≤ w.heap.size → n ≤ f → n ≤ 65536 →
  Calls Try.prog 61 #[.slice sp n cap, .int .i64 (d : Int)] w (ReadPost N d n L w (rd1 (rdl f) d L))
theorem read_of (f d : Nat) (hd : d ≤ 16) (hF : ∀ d', d = d' + 1 → ListAt f d') : ReadAt f d := by
  intro N sp n cap L w hS hN hn hn6
  have hl := hS.len.out
  cases L with
  | nil =>
    obtain rfl : n = 0 := hl
    exact read_none N d sp cap _ _ w
  | cons m r =>
    have hmb := hS.bts m (by simp)
    by_cases h1 : m < 128
    · exact read_low N d sp n cap _ m r _ w hS hN h1
    · by_cases h2 : m < 192
      · cases hq : rb r (m - 128).toNat with
        | error c => exact read_bytes_err N d sp n cap _ m r _ c w hS hN h1 h2 hq
        | ok q =>
          obtain ⟨k, mm⟩ := q
          by_cases hmm : mm = 1
          · subst hmm
            by_cases hy : bat (r.drop k) 0 < 128
            · exact read_bytes_one N d sp n cap _ m r _ k w hS hN h1 h2 hq hy
            · exact read_bytes_two N d sp n cap _ m r _ k w hS hN h1 h2 hq hy
          · exact read_bytes_many N d sp n cap _ m r _ k mm w hS hN h1 h2 hq hmm
      · cases d with
        | zero => exact read_deep N sp n cap m r _ w hS hN h2
        | succ d =>
          have e : ((d + 1 : Nat) : Int) = (d : Int) + 1 := by omega
          rw [e]
          cases hq : rb r (m - 192).toNat with
          | error c => exact read_list_err N d sp n cap m r _ c w hS hN h2 hq
          | ok q =>
            obtain ⟨k, mm⟩ := q
            exact read_list_any N d f (by omega) (hF d rfl) sp n cap m r k mm w hS hN h2 hq hn hn6

/-- How long a slice is. -/
def slLen : Value → Nat
  | .slice _ n _ => n
  | _ => 0
theorem rdl_err {f d : Nat} {L : List Int} {c : Int} (h : L ≠ []) (hq : rd1 (rdl f) d L = .error c) : rdl (f + 1) d L = .error c := by rw [rdl, if_neg h, hq]
theorem rdl_ok {f d s : Nat} {L : List Int} (h : L ≠ []) (hq : rd1 (rdl f) d L = .ok s) : rdl (f + 1) d L = rdl f d (L.drop s) := by rw [rdl, if_neg h, hq]
/-- One more item: those that were there stay. -/
theorem more_items {d : Nat} {vs : List Value} {Fs : List (List Int)} {T : Nat → Prop} {w : World} {x : Value} {F : List Int} (hl : Fs.length = vs.length) (h : ∀ (i : Nat) v F, vs[i]? = some v → Fs[i]? = some F → Dec T w d v F) (hx : Dec T w d x F) :
    ∀ (i : Nat) v G, (vs ++ [x])[i]? = some v → (Fs ++ [F])[i]? = some G → Dec T w d v G := by
  intro i v G hv hG
  by_cases hi : i < vs.length
  · rw [List.getElem?_append_left hi] at hv
    rw [List.getElem?_append_left (by omega)] at hG
    exact h i v G hv hG
  · rw [List.getElem?_append_right (by omega)] at hv
    rw [List.getElem?_append_right (by omega)] at hG
    have : i - vs.length = 0 := by have := (List.getElem?_eq_some_iff.1 hv).1; simp at this; omega
    rw [this] at hv
    rw [hl, this] at hG
    simp at hv hG
    subst hv; subst hG; exact hx

set_option maxRecDepth 100000 in
set_option maxHeartbeats 1000000 in
theorem list_of (f0 d : Nat) (hd : d ≤ 16) (hR : ∀ f, f < f0 → ReadAt f d) : ListAt f0 d := by
  intro N sp n cap L w hS hN hnf hn6
  have hln := hS.len
  have hbad : ∀ w', ¬ ListPost d L w (rdl f0 d L) .outgrown w' := by
    rintro w' ⟨-, ⟨c, -, h⟩ | ⟨sq, k, cq, vs, Fs, -, h, -⟩⟩ <;> cases h
  go_enter Try.func68, Try.ntmps68
  go_wp2
  go_loopw [0, 5] (fun b v wr => ∃ (f' m c' : Nat) (sp' : Option Addr) (L' : List Int) (vs : List Value) (Fs : List (List Int)), b = .slice sp' m c' ∧ BS N wr sp' m c' L' ∧ m < f' ∧ f' ≤ f0 ∧ Hid (rdl f0 d L = rdl f' d L') ∧ Hid (Fs.flatten ++ L' = L) ∧ Hid (Fs.length = vs.length) ∧ vs.length + m ≤ n ∧ Three vs ∧ wr.ownsRow w.heap.size 59 3 v vs.length (flat3 vs) ∧ Hid (∀ (i : Nat) x F, vs[i]? = some x → Fs[i]? = some F → Dec (fun b => w.heap.size ≤ b ∧ some b ≠ v.ownBlock) wr d x F) ∧ Below w.heap.size w wr)
    (fun b _ _ => slLen b)
  case atStart =>
    exact ⟨f0, n, cap, sp, L, [], [], rfl, hS, hnf, Nat.le_refl _, Hid.mk' rfl, Hid.mk' (by simp), Hid.mk' rfl, by simp, fun v hv => by simp at hv, World.ownsRow_nil _ _ _ _, Hid.mk' (fun i x F h => by simp at h), Below.refl _ _⟩
  case round =>
    obtain ⟨f', m, c', sp', L', vs, Fs, rfl, hS', hmf, hff, hrdl, hflat, hlen, hcnt, h3, hown, hdec, hbl⟩ := hrel
    have hsz := hbl.size
    have hlm := hS'.len
    by_cases hm0 : 0 < m
    · have hmI : (0 : Int) < m := by omega
      have hne : L' ≠ [] := by intro e; have := hlm.out; rw [e] at this; simp at this; omega
      have hne := Hid.mk' hne
      obtain ⟨f1, rfl⟩ : ∃ f1, f' = f1 + 1 := ⟨f' - 1, by omega⟩
      have hS1 : ∀ o, BS N (wr.alloc o) sp' m c' L' := fun o => hS'.below (((Below.refl _ _).alloc (Nat.le_refl _) _).mono (by omega))
      have hRf := hR f1 (by omega)
      go_wp2_with (first
        | (go_at_call 61; go_must (refine (hRf N sp' m c' L' _ (hS1 _) (by simp; omega) (by omega) (by omega)).mono ?_; rintro e w2 ⟨hb2, ⟨c, hq, rfl⟩ | ⟨s, sp2, v2, hq, hs0, hsm, rfl, hD2, hB2⟩⟩; exact ⟨rfl, (hbl.alloc (by omega) _).trans (hb2.mono (by simp; omega)), .inl ⟨c, by rw [hrdl.out, rdl_err hne.out hq], rfl⟩⟩; have hq := Hid.mk' hq; have hD2 := Hid.mk' hD2; obtain ⟨l, s1, n1, c1, s2, n2, c2, e2⟩ := hD2.out.sh; subst e2; have Z2 := (Arr.new wr 59 #[.bool false, .slice none 0 0, .slice none 0 0]).below hb2 (by simp)))
        | (refine wpList_store_arr (by rfl) 59 (.tmp 6) (.tmp 14) (by rfl) wr.heap.size #[.bool l, .slice s1 n1 c1, .slice s2 n2 c2] (by rfl) (by rfl) 59 _ Z2 size25 rfl (one3 _ _ _ _ _ _ _) ?_; have X2 := Z2.setRow #[.bool l, .slice s1 n1 c1, .slice s2 n2 c2]; have x0 := X2.cell 0; have x1 := X2.cell 1; have x2 := X2.cell 2; simp at x0 x1 x2; have hs2 := hb2.size; simp at hs2; have hW : ∀ b, b < wr.heap.size → ((w2.setRow wr.heap.size #[.bool l, .slice s1 n1 c1, .slice s2 n2 c2]).alloc (.cells #[.bool l, .slice s1 n1 c1, .slice s2 n2 c2] 59)).heap[b]? = wr.heap[b]? := (fun b hb => by rw [Below.heap_alloc _ _ _ (by simp; omega), setRow_other _ _ _ _ (by omega), hb2.block b (by simp; omega), Below.heap_alloc _ _ _ hb]); have hNew : Arr ((w2.setRow wr.heap.size #[.bool l, .slice s1 n1 c1, .slice s2 n2 c2]).alloc (.cells #[.bool l, .slice s1 n1 c1, .slice s2 n2 c2] 59)) w2.heap.size 59 #[.bool l, .slice s1 n1 c1, .slice s2 n2 c2] := (by simpa using Arr.new (w2.setRow wr.heap.size #[.bool l, .slice s1 n1 c1, .slice s2 n2 c2]) 59 #[.bool l, .slice s1 n1 c1, .slice s2 n2 c2]); have hWs : w.heap.size ≤ ((w2.setRow wr.heap.size #[.bool l, .slice s1 n1 c1, .slice s2 n2 c2]).alloc (.cells #[.bool l, .slice s1 n1 c1, .slice s2 n2 c2] 59)).heap.size := (by simp; omega))
        | (at_builtin; go_must (refine append_item (by rfl) (.tmp 16) (.tmp 18) (by rfl) w.heap.size u5 vs.length vs (by rfl) (own_of_block hown (fun b hb => hW b (hown.lt b hb).2)) w2.heap.size 1 l s1 n1 c1 s2 n2 c2 (by rfl) hNew (by omega) hWs ?_; intro v4 w4 hown4 hg4 hob4)))
      have hS4 : ∀ b, b < wr.heap.size → some b ≠ u5.ownBlock → w4.heap[b]? = wr.heap[b]? := fun b hb hne' => by
        rw [hg4.block b (by simp; omega) hne']; exact hW b hb
      have hbl4 : Below w.heap.size w w4 := ((below_row ((hbl.alloc (by omega) _).trans (hb2.mono (by simp; omega))) hsz _).alloc (by simp; omega) _).grown hg4 hWs (fun j e => own_ge hown j e)
      have hsz4 := hg4.size
      simp at hsz4
      go_roundw
      case rel =>
        refine ⟨f1, m - s, m - s, sp2, L'.drop s, vs ++ [.agg #[.bool l, .slice s1 n1 c1, .slice s2 n2 c2]], Fs ++ [L'.take s], rfl, ?_, by omega, by omega, Hid.mk' (by rw [hrdl.out, rdl_ok hne.out hq.out]), Hid.mk' (by rw [List.flatten_append, ← hflat.out]; simp), Hid.mk' (by simp [hlen.out]), by simp; omega, ?_, by simpa using hown4, Hid.mk' (more_items hlen.out (fun i x F hv hF => ?_) ?_), hbl4⟩
        · exact hB2.below ((((below_row (Below.refl _ _) hsz _).alloc (by simp; omega) _).grown hg4 hWs (fun j e => own_ge hown j e)).mono hN)
        · intro v hv
          rcases List.mem_append.1 hv with h | h
          · exact h3 v h
          · simp at h; exact ⟨_, _, _, _, _, _, _, h⟩
        · have h1 := (hdec.out i x F hv hF).mono (T := fun b => w.heap.size ≤ b ∧ some b ≠ u5.ownBlock ∧ b < wr.heap.size) (fun b hb h => ⟨h.1, h.2, hb⟩)
          have h2 := h1.agree (w' := w4) ⟨by omega, fun b hb h => hS4 b hb h.2.1⟩
          refine h2.mono fun b _ h => ⟨h.1, ?_⟩
          rcases hob4 with e | e
          · rw [e]; exact h.2.1
          · rw [e]; simp; omega
        · have h1 := hD2.out.mono (T := fun b => wr.heap.size < b ∧ b < w2.heap.size) (fun b hb h => ⟨by simp at h; omega, hb⟩)
          have hno : ∀ b, wr.heap.size < b → some b ≠ u5.ownBlock := fun b hb e => by
            have := (hown.lt b e.symm).2; omega
          have h2 := h1.agree (w' := w4) ⟨by omega, fun b hb h => by
            rw [hg4.block b (by simp; omega) (hno b h.1), Below.heap_alloc _ _ _ (by simp; omega), setRow_other _ _ _ _ (by omega)]⟩
          refine h2.mono fun b _ h => ⟨by omega, ?_⟩
          rcases hob4 with e | e
          · rw [e]; exact hno b h.1
          · rw [e]; simp; omega
      case measure => simp [slLen]; omega
    · obtain rfl : m = 0 := by omega
      have hL0 : L' = [] := List.eq_nil_of_length_eq_zero hlm.out.symm
      have Hq : Hid (rdl f0 d L = .ok ()) := by
        rw [hrdl.out, hL0]
        obtain ⟨f1, rfl⟩ : ∃ f1, f' = f1 + 1 := ⟨f' - 1, by omega⟩
        exact if_pos rfl
      have Hf : Hid (Fs.flatten = L) := by have := hflat.out; rwa [hL0, List.append_nil] at this
      obtain ⟨sq, cq, rfl, hIS, hge⟩ := own_is hown h3 rfl (by omega)
      clear hL0
      go_wp2
      go_ret
      exact ⟨hbl, .inr ⟨sq, vs.length, cq, vs, Fs, Hq.out, rfl, ⟨hIS, own_mono hown (Nat.zero_le _), fun b off e => (hge b off e).1⟩, hlen.out, fun i x F hv hF => (hdec.out i x F hv hF).mono fun b _ h => h.1, Hf.out⟩⟩

theorem list_any : ∀ (F f d : Nat), f < F → d ≤ 16 → ListAt f d
  | 0, f, d, h, _ => by omega
  | F + 1, f, d, h, hd => list_of f d hd fun f' hf' => read_of f' d hd fun d' e => list_any F f' d' (by omega) (by omega)
theorem read_any (f d : Nat) (hd : d ≤ 16) : ReadAt f d := read_of f d hd fun d' e => list_any (f + 1) f d' (by omega) (by omega)
end Go.Proofs.Ytbjlmekafnpllab

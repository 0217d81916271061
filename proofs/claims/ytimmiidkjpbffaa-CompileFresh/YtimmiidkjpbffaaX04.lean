/- S9, K0, QVa. -/
import Derived.Test.YtimmiidkjpbffaaX03
import Derived.Handy
import Derived.BigQuiet
import Derived.BigRegion
import Derived.Great.BuildSlice
import Derived.Test.YtimmiidkjpbffaaX02
import Derived.ChangeKeysEq
import Derived.Deep.DeepCutAuto
import Derived.Deep.DrawnRows
import Derived.Deep.MidRow
import Derived.Deep.QuietTactic
import Derived.Deep.RegionHeld3
import Derived.Deep.RegionLaw
import Derived.Deep.RegionWith
import Derived.Deep.WholeRow
import Derived.DeepKeys3
import Derived.Laws.AppendOwnNone
import Derived.Laws.BitsLemmas
import Derived.Laws.BytesArg
import Derived.Laws.CopyOwn
import Derived.Laws.ResultCell
import Derived.Laws.Tables
import Derived.Lib.SlBytesConst
import Derived.LoopIn
import Derived.LoopNIn
import Derived.Maps.AppendAt
import Derived.OwnWalkIn
import Derived.RangeFuncBound
import Derived.RangeFuncCalls
import Derived.RangeFuncLeaves
import Derived.RangeFuncNested
import Derived.RangeFuncRecord
import Derived.Shelf.Abstract
import Derived.Shelf.RegionOpen
import Derived.TacticsInMore
import Derived.WalkKit
import Derived.WalkLawsBesides
import Derived.WalkSpells
/- Layer compile: the small program. -/
namespace Go.Proofs.Ytimmiidkjpbffaa
open Go.RowKit
set_option maxRecDepth 100000
set_option linter.unusedVariables false
set_option linter.unusedSimpArgs false


theorem z9rs {α : Type} {N N' : Nat} {w : World} {sz : Nat} {R R' : List Value → α → Prop} {sp : Option Addr} {n cap : Nat} {l : List α} (hN : N ≤ N') (h : RS N w sz R sp n cap l) (hR : ∀ cs a, R cs a → R' cs a) : RS N' w sz R' sp n cap l :=
  ⟨h.len, h.nil, h.le, h.big, h.small, fun h0 => let ⟨b, off, e, hbN, hB⟩ := h.at0 h0; ⟨b, off, e, by omega, fun i a hX => let ⟨cs, h1, h2⟩ := hB i a hX; ⟨cs, h1, hR cs a h2⟩⟩⟩
theorem z9exm {N N' : Nat} {w : World} (hN : N ≤ N') : ∀ (d : Nat) (cs : List Value) (t : ExT d), ExM N w d cs t → ExM N' w d cs t
  | 0, _, _, h => h
  | d + 1, _, _, h => let ⟨sp, m, cap, h1, h2, h3⟩ := h; ⟨sp, m, cap, h1, h2, z9rs hN h3 (z9exm hN d)⟩
theorem z9stm {N N' : Nat} {w : World} (hN : N ≤ N') : ∀ (d : Nat) (cs : List Value) (t : StT d), StM N w d cs t → StM N' w d cs t
  | 0, _, _, h => h
  | d + 1, _, _, h => let ⟨sa, na, ca, sb, nb, cb, sc, nc, cc, h1, h2, h3, h4, h5⟩ := h; ⟨sa, na, ca, sb, nb, cb, sc, nc, cc, h1, h2, z9rs hN h3 (z9exm hN 8), z9rs hN h4 (z9stm hN d), z9rs hN h5 (z9stm hN d)⟩
theorem z9pgm {N N' : Nat} {w : World} {cs : List Value} {p : PgT} (hN : N ≤ N') (h : PgM N w cs p) : PgM N' w cs p :=
  let ⟨sp, m, cap, h1, h2, h3⟩ := h
  ⟨sp, m, cap, h1, h2, z9rs hN h3 fun _ _ h => let ⟨a, b, c, e1, e2, e3⟩ := h; ⟨a, b, c, e1, e2, z9rs hN e3 (z9stm hN 8)⟩⟩
def z9C (n : Int) : ExT 8 := (⟨1, n, 0, 0, []⟩ : ExN (ExT 7))
def z9V : ExT 8 := (⟨2, 0, 0, 0, []⟩ : ExN (ExT 7))
def z9a : StT 8 := (⟨1, 0, 0, 0, [z9C 8], [], []⟩ : StN (StT 7))
def z9b : StT 8 := (⟨2, 0, 0, 0, [z9C 0, z9V], [], []⟩ : StN (StT 7))
def z9f : FuT := ⟨0, 1, [z9a, z9b]⟩
def z9p : PgT := ⟨[z9f], 4⟩
/-- The anchor's program as it lies. -/
def z9w (w : World) : World := (((w.alloc (.cells #[.int .u8 1, .int .u64 8, .int .i64 0, .int .u8 0, .slice none 0 0] 92)).alloc (.cells #[.int .u8 1, .int .u64 0, .int .i64 0, .int .u8 0, .slice none 0 0, .int .u8 2, .int .u64 0, .int .i64 0, .int .u8 0, .slice none 0 0] 92)).alloc (.cells #[.int .u8 1, .int .i64 0, .int .i64 0, .int .i64 0, .slice (some ⟨w.heap.size, 0, none⟩) 1 1, .slice none 0 0, .slice none 0 0, .int .u8 2, .int .i64 0, .int .i64 0, .int .i64 0, .slice (some ⟨w.heap.size + 1, 0, none⟩) 2 2, .slice none 0 0, .slice none 0 0] 94)).alloc (.cells #[.int .i64 0, .int .i64 1, .slice (some ⟨w.heap.size + 1 + 1, 0, none⟩) 2 2] 85)
theorem z9rng {w : World} {g ty : Nat} {C : Array Value} (h : Arr w g ty C) (off : Nat) (cs : List Value) (hc : ∀ j v, cs[j]? = some v → C[off + j]? = some v) : w.rangeAt g off cs := fun j v hv => (h.cell _).trans (hc j v hv)
theorem z9ex {N : Nat} {w : World} (k n : Int) (hk : U8 k) (hn : U64 n) : ExM N w 8 (exC k n 0 0 (.slice none 0 0)) (⟨k, n, 0, 0, []⟩ : ExN (ExT 7)) :=
  ⟨none, 0, 0, rfl, ⟨hk, hn, (show I64 0 by simp [I64]), (show U8 0 by simp [U8])⟩, RS.nil0 _ _ _ _⟩
theorem z9pg (w : World) : PgM (w.heap.size + 4) (z9w w) [.slice (some ⟨w.heap.size + 1 + 1 + 1, 0, none⟩) 1 1, .int .i64 4] z9p := by
  have A0 := (((Arr.new w 92 #[.int .u8 1, .int .u64 8, .int .i64 0, .int .u8 0, .slice none 0 0]).alloc (.cells #[.int .u8 1, .int .u64 0, .int .i64 0, .int .u8 0, .slice none 0 0, .int .u8 2, .int .u64 0, .int .i64 0, .int .u8 0, .slice none 0 0] 92)).alloc (.cells #[.int .u8 1, .int .i64 0, .int .i64 0, .int .i64 0, .slice (some ⟨w.heap.size, 0, none⟩) 1 1, .slice none 0 0, .slice none 0 0, .int .u8 2, .int .i64 0, .int .i64 0, .int .i64 0, .slice (some ⟨w.heap.size + 1, 0, none⟩) 2 2, .slice none 0 0, .slice none 0 0] 94)).alloc (.cells #[.int .i64 0, .int .i64 1, .slice (some ⟨w.heap.size + 1 + 1, 0, none⟩) 2 2] 85)
  have A1 := ((Arr.new (w.alloc (.cells #[.int .u8 1, .int .u64 8, .int .i64 0, .int .u8 0, .slice none 0 0] 92)) 92 #[.int .u8 1, .int .u64 0, .int .i64 0, .int .u8 0, .slice none 0 0, .int .u8 2, .int .u64 0, .int .i64 0, .int .u8 0, .slice none 0 0]).alloc (.cells #[.int .u8 1, .int .i64 0, .int .i64 0, .int .i64 0, .slice (some ⟨w.heap.size, 0, none⟩) 1 1, .slice none 0 0, .slice none 0 0, .int .u8 2, .int .i64 0, .int .i64 0, .int .i64 0, .slice (some ⟨w.heap.size + 1, 0, none⟩) 2 2, .slice none 0 0, .slice none 0 0] 94)).alloc (.cells #[.int .i64 0, .int .i64 1, .slice (some ⟨w.heap.size + 1 + 1, 0, none⟩) 2 2] 85)
  have A2 := (Arr.new ((w.alloc (.cells #[.int .u8 1, .int .u64 8, .int .i64 0, .int .u8 0, .slice none 0 0] 92)).alloc (.cells #[.int .u8 1, .int .u64 0, .int .i64 0, .int .u8 0, .slice none 0 0, .int .u8 2, .int .u64 0, .int .i64 0, .int .u8 0, .slice none 0 0] 92)) 94 #[.int .u8 1, .int .i64 0, .int .i64 0, .int .i64 0, .slice (some ⟨w.heap.size, 0, none⟩) 1 1, .slice none 0 0, .slice none 0 0, .int .u8 2, .int .i64 0, .int .i64 0, .int .i64 0, .slice (some ⟨w.heap.size + 1, 0, none⟩) 2 2, .slice none 0 0, .slice none 0 0]).alloc (.cells #[.int .i64 0, .int .i64 1, .slice (some ⟨w.heap.size + 1 + 1, 0, none⟩) 2 2] 85)
  have A3 := Arr.new (((w.alloc (.cells #[.int .u8 1, .int .u64 8, .int .i64 0, .int .u8 0, .slice none 0 0] 92)).alloc (.cells #[.int .u8 1, .int .u64 0, .int .i64 0, .int .u8 0, .slice none 0 0, .int .u8 2, .int .u64 0, .int .i64 0, .int .u8 0, .slice none 0 0] 92)).alloc (.cells #[.int .u8 1, .int .i64 0, .int .i64 0, .int .i64 0, .slice (some ⟨w.heap.size, 0, none⟩) 1 1, .slice none 0 0, .slice none 0 0, .int .u8 2, .int .i64 0, .int .i64 0, .int .i64 0, .slice (some ⟨w.heap.size + 1, 0, none⟩) 2 2, .slice none 0 0, .slice none 0 0] 94)) 85 #[.int .i64 0, .int .i64 1, .slice (some ⟨w.heap.size + 1 + 1, 0, none⟩) 2 2]
  simp only [World.size_alloc] at A1 A2 A3
  have hU8 : ∀ x : Int, x = 1 ∨ x = 2 → U8 x := fun x h => by unfold U8; omega
  have x0 : RS (w.heap.size + 4) (z9w w) 5 (ExM (w.heap.size + 4) (z9w w) 8) (some ⟨w.heap.size, 0, none⟩) 1 1 [z9C 8] :=
    ⟨rfl, (fun h => by cases h), by omega, by omega, by omega, fun _ => ⟨_, _, rfl, by omega, fun i a ha => by
      match i, ha with
      | 0, ha =>
        obtain rfl : z9C 8 = a := Option.some.inj ha
        exact ⟨exC 1 8 0 0 (.slice none 0 0), z9rng A0 _ _ (fun j v hv => by simpa [exC] using hv), z9ex 1 8 (hU8 1 (.inl rfl)) (by simp [U64])⟩
      | i + 1, ha => cases ha⟩⟩
  have x1 : RS (w.heap.size + 4) (z9w w) 5 (ExM (w.heap.size + 4) (z9w w) 8) (some ⟨w.heap.size + 1, 0, none⟩) 2 2 [z9C 0, z9V] :=
    ⟨rfl, (fun h => by cases h), by omega, by omega, by omega, fun _ => ⟨_, _, rfl, by omega, fun i a ha => by
      match i, ha with
      | 0, ha =>
        obtain rfl : z9C 0 = a := Option.some.inj ha
        exact ⟨exC 1 0 0 0 (.slice none 0 0), z9rng A1 _ _ (fun j v hv => by
          match j, hv with
          | 0, hv => exact hv
          | 1, hv => exact hv
          | 2, hv => exact hv
          | 3, hv => exact hv
          | 4, hv => exact hv
          | j + 5, hv => cases hv), z9ex 1 0 (hU8 1 (.inl rfl)) (by simp [U64])⟩
      | 1, ha =>
        obtain rfl : z9V = a := Option.some.inj ha
        exact ⟨exC 2 0 0 0 (.slice none 0 0), z9rng A1 _ _ (fun j v hv => by
          match j, hv with
          | 0, hv => exact hv
          | 1, hv => exact hv
          | 2, hv => exact hv
          | 3, hv => exact hv
          | 4, hv => exact hv
          | j + 5, hv => cases hv), z9ex 2 0 (hU8 2 (.inr rfl)) (by simp [U64])⟩
      | i + 2, ha => cases ha⟩⟩
  have x2 : RS (w.heap.size + 4) (z9w w) 7 (StM (w.heap.size + 4) (z9w w) 8) (some ⟨w.heap.size + 1 + 1, 0, none⟩) 2 2 [z9a, z9b] :=
    ⟨rfl, (fun h => by cases h), by omega, by omega, by omega, fun _ => ⟨_, _, rfl, by omega, fun i a ha => by
      match i, ha with
      | 0, ha =>
        obtain rfl : z9a = a := Option.some.inj ha
        exact ⟨stC 1 0 0 0 (.slice (some ⟨w.heap.size, 0, none⟩) 1 1) (.slice none 0 0) (.slice none 0 0), z9rng A2 _ _ (fun j v hv => by
          match j, hv with
          | 0, hv => exact hv
          | 1, hv => exact hv
          | 2, hv => exact hv
          | 3, hv => exact hv
          | 4, hv => exact hv
          | 5, hv => exact hv
          | 6, hv => exact hv
          | j + 7, hv => cases hv), ⟨_, _, _, _, _, _, _, _, _, rfl, ⟨hU8 1 (.inl rfl), (show I64 0 by simp [I64]), (show I64 0 by simp [I64]), (show I64 0 by simp [I64])⟩, x0, RS.nil0 _ _ _ _, RS.nil0 _ _ _ _⟩⟩
      | 1, ha =>
        obtain rfl : z9b = a := Option.some.inj ha
        exact ⟨stC 2 0 0 0 (.slice (some ⟨w.heap.size + 1, 0, none⟩) 2 2) (.slice none 0 0) (.slice none 0 0), z9rng A2 _ _ (fun j v hv => by
          match j, hv with
          | 0, hv => exact hv
          | 1, hv => exact hv
          | 2, hv => exact hv
          | 3, hv => exact hv
          | 4, hv => exact hv
          | 5, hv => exact hv
          | 6, hv => exact hv
          | j + 7, hv => cases hv), ⟨_, _, _, _, _, _, _, _, _, rfl, ⟨hU8 2 (.inr rfl), (show I64 0 by simp [I64]), (show I64 0 by simp [I64]), (show I64 0 by simp [I64])⟩, x1, RS.nil0 _ _ _ _, RS.nil0 _ _ _ _⟩⟩
      | i + 2, ha => cases ha⟩⟩
  exact ⟨_, _, _, rfl, by simp [I64, z9p], ⟨rfl, (fun h => by cases h), by omega, by omega, by omega, fun _ => ⟨_, _, rfl, by omega, fun i a ha => by
      match i, ha with
      | 0, ha =>
        obtain rfl : z9f = a := Option.some.inj ha
        exact ⟨fuC 0 1 (.slice (some ⟨w.heap.size + 1 + 1, 0, none⟩) 2 2), z9rng A3 _ _ (fun j v hv => by
          match j, hv with
          | 0, hv => exact hv
          | 1, hv => exact hv
          | 2, hv => exact hv
          | j + 3, hv => cases hv), ⟨_, _, _, rfl, by simp [I64, z9f], x2⟩⟩
      | i + 1, ha => cases ha⟩⟩⟩

set_option maxHeartbeats 1000000 in
theorem small_any (w : World) : Calls Try.prog 23 #[] w fun e w' => ∃ sp, e = .returned (.agg #[.slice sp 1 1, .int .i64 4]) ∧ PgM w'.heap.size w' [.slice sp 1 1, .int .i64 4] z9p ∧ Below w.heap.size w w' := by
  have hp := z9pg (w.alloc (.cells #[.slice (some ⟨w.heap.size + 1 + 1 + 1 + 1, 0, none⟩) 1 1, .int .i64 4] 47))
  unfold z9w at hp
  simp only [World.size_alloc] at hp
  have A := ((((Arr.new w 47 #[.slice (some ⟨w.heap.size + 1 + 1 + 1 + 1, 0, none⟩) 1 1, .int .i64 4]).alloc (.cells #[.int .u8 1, .int .u64 8, .int .i64 0, .int .u8 0, .slice none 0 0] 92)).alloc (.cells #[.int .u8 1, .int .u64 0, .int .i64 0, .int .u8 0, .slice none 0 0, .int .u8 2, .int .u64 0, .int .i64 0, .int .u8 0, .slice none 0 0] 92)).alloc (.cells #[.int .u8 1, .int .i64 0, .int .i64 0, .int .i64 0, .slice (some ⟨w.heap.size + 1, 0, none⟩) 1 1, .slice none 0 0, .slice none 0 0, .int .u8 2, .int .i64 0, .int .i64 0, .int .i64 0, .slice (some ⟨w.heap.size + 1 + 1, 0, none⟩) 2 2, .slice none 0 0, .slice none 0 0] 94)).alloc (.cells #[.int .i64 0, .int .i64 1, .slice (some ⟨w.heap.size + 1 + 1 + 1, 0, none⟩) 2 2] 85)
  have hB := ((((ab w (.cells #[.slice (some ⟨w.heap.size + 1 + 1 + 1 + 1, 0, none⟩) 1 1, .int .i64 4] 47)).alloc (by simp) (.cells #[.int .u8 1, .int .u64 8, .int .i64 0, .int .u8 0, .slice none 0 0] 92)).alloc (by simp; omega) (.cells #[.int .u8 1, .int .u64 0, .int .i64 0, .int .u8 0, .slice none 0 0, .int .u8 2, .int .u64 0, .int .i64 0, .int .u8 0, .slice none 0 0] 92)).alloc (by simp; omega) (.cells #[.int .u8 1, .int .i64 0, .int .i64 0, .int .i64 0, .slice (some ⟨w.heap.size + 1, 0, none⟩) 1 1, .slice none 0 0, .slice none 0 0, .int .u8 2, .int .i64 0, .int .i64 0, .int .i64 0, .slice (some ⟨w.heap.size + 1 + 1, 0, none⟩) 2 2, .slice none 0 0, .slice none 0 0] 94)).alloc (by simp; omega) (.cells #[.int .i64 0, .int .i64 1, .slice (some ⟨w.heap.size + 1 + 1 + 1, 0, none⟩) 2 2] 85)
  replace hp := hid hp
  replace hB := hid hB
  replace A := hid A
  go_enter Try.func23, Try.ntmps23
  go_wp2_with fail
  refine bodyPost_ret (v := .agg #[.slice (some ⟨w.heap.size + 1 + 1 + 1 + 1, 0, none⟩) 1 1, .int .i64 4]) (results_cell_row Try.results23 _ _ w.heap.size 47 _ (0, 0) _ rfl A.out Try.underlying47 rfl s24I) rfl ⟨_, rfl, ?_, hB.out⟩
  refine z9pgm ?_ hp.out
  simp only [World.size_alloc]
  omega
end Go.Proofs.Ytimmiidkjpbffaa
/- Layer compile: what is compiled, as a list of instructions with gaps (pure). -/
namespace Go.Proofs.Ytimmiidkjpbffaa
open Go.RowKit
set_option maxRecDepth 100000
set_option linter.unusedVariables false
set_option linter.unusedSimpArgs false

/-- An instruction. -/
structure KI where
  o : Int
  a : Int
  b : Int
  c : Int
  i : Int
/-- What a program that is being compiled has come to: its code so far, its gaps, its labels' places, the next label that is fresh. -/
structure KS where
  code : List KI
  gaps : List (Int × Int)
  pl : Int → Option Int
  nx : Int
/-- What is compiled: the functions, how many data there are, the functions' first slots. -/
structure KE where
  fs : List FuT
  da : Int
  fr : List Int
def KS.put (s : KS) (l : List KI) : KS := ⟨s.code ++ l, s.gaps, s.pl, s.nx⟩
def KS.to (s : KS) (l : Int) (c : KI) : KS := ⟨s.code ++ [c], s.gaps ++ [((s.code.length : Int), l)], s.pl, s.nx⟩
def KS.here (s : KS) (l : Int) : KS := ⟨s.code, s.gaps, fun k => if k = l then some s.code.length else s.pl k, s.nx⟩
def KS.fresh (s : KS) : KS := ⟨s.code, s.gaps, s.pl, s.nx + 1⟩
def kHome (E : KE) (f v : Int) : Int := E.fr.getD f.toNat 0 + 1 + v
def kSlot (o r n : Int) (s : KS) : KS := s.to 32 ⟨o, r, 0, 0, n⟩
def kVar (E : KE) (f o r v : Int) (s : KS) : KS := kSlot o r (kHome E f v) s
def kData (o r a m : Int) (s : KS) : KS := s.to 33 ⟨o, r, a, 0, m⟩
def kProbe (r : Int) (s : KS) : KS := s.put [⟨17, 13, r, 0, 0⟩]
def kRaise (r : Int) (s : KS) : KS := s.put [⟨5, r, r, 14, 0⟩]
/-- A number that is sure to be a data address. -/
def kIn (E : KE) : (d : Nat) → ExT d → Bool
  | 0, _ => false
  | d + 1, t => (t.nd.k == 1) && decide (t.nd.n < E.da)
def kNum : (d : Nat) → ExT d → Int
  | 0, _ => 0
  | d + 1, t => t.nd.n
def kXone (E : KE) (f : Int) {α : Type} (X : α → Int → KS → KS) (I : α → Bool) (num : α → Int) (k n v o : Int) (l : List α) (r : Int) (s : KS) : KS :=
  if k = 1 then (if n / 4294967296 ≠ 0 then s.put [⟨2, r, 0, 0, n / 4294967296⟩, ⟨3, r, 0, 0, n % 4294967296⟩] else s.put [⟨2, r, 0, 0, n % 4294967296⟩])
  else if k = 2 then kVar E f 17 r v s
  else match l with
    | [] => s
    | [a] => if I a = true then kData 17 r 0 (num a) s else kData 17 r r 0 (kProbe r (X a r s))
    | a :: b :: _ => (X b (r + 1) (X a r s)).put [⟨o, r, r, r + 1, 0⟩]
/-- An expression's code; r: the register that is free. -/
def kX (E : KE) (f : Int) : (d : Nat) → ExT d → Int → KS → KS
  | 0, _, _, s => s
  | d + 1, t, r, s => kXone E f (kX E f d) (kIn E d) (kNum d) t.nd.k t.nd.n t.nd.v t.nd.o t.nd.l r s
/-- The code that leaves the memory's address of a data address in a register. -/
def kAdr (E : KE) (f : Int) (d : Nat) (t : ExT d) (r : Int) (s : KS) : KS :=
  if kIn E d t = true then kData 2 r 0 (kNum d t) s else kRaise r (kProbe r (kX E f d t r s))
def kAll {α : Type} (F : α → KS → KS) : List α → KS → KS
  | [], s => s
  | a :: r, s => kAll F r (F a s)
/-- The arguments of a call, into the variables of the function that is called. -/
def kArg (E : KE) (f g : Int) : List (ExT 8) → Int → KS → KS
  | [], _, s => s
  | a :: r, j, s => kArg E f g r (j + 1) (kSlot 18 1 (kHome E g j) (kX E f 8 a 1 s))
def kAhead (t : Int) : Int := if t = 256 then 0 else 256 + t
def kA (l : List (ExT 8)) (i : Nat) (E : KE) (f r : Int) (s : KS) : KS := match l[i]? with | none => s | some a => kX E f 8 a r s
def kAd (l : List (ExT 8)) (i : Nat) (E : KE) (f r : Int) (s : KS) : KS := match l[i]? with | none => s | some a => kAdr E f 8 a r s
def kInAt (l : List (ExT 8)) (i : Nat) (E : KE) : Bool := match l[i]? with | none => false | some a => kIn E 8 a
def kNumAt (l : List (ExT 8)) (i : Nat) : Int := match l[i]? with | none => 0 | some a => kNum 8 a
/-- A statement's code, in the function f, which is left at the label lv; B: its parts. -/
def kOne (E : KE) (f lv : Int) {α : Type} (B : List α → KS → KS) (t : StN α) (s : KS) : KS :=
  if t.k = 1 then kVar E f 18 1 t.v (kA t.a 0 E f 1 s)
  else if t.k = 2 then (if kInAt t.a 0 E = true then kData 18 1 0 (kNumAt t.a 0) (kA t.a 1 E f 1 s) else kData 18 2 1 0 (kProbe 1 (kA t.a 1 E f 2 (kA t.a 0 E f 1 s))))
  else if t.k = 3 then ((B t.el (((B t.th ((kA t.a 0 E f 1 s.fresh.fresh).to s.nx ⟨20, 1, 0, 0, 0⟩)).to (s.nx + 1) ⟨19, 0, 0, 0, 0⟩).here s.nx)).here (s.nx + 1))
  else if t.k = 4 then (((B t.th ((kA t.a 0 E f 1 (s.fresh.fresh.here s.nx)).to (s.nx + 1) ⟨20, 1, 0, 0, 0⟩)).to s.nx ⟨19, 0, 0, 0, 0⟩).here (s.nx + 1))
  else if t.k = 5 then (kA t.a 0 E f 1 s).to lv ⟨19, 0, 0, 0, 0⟩
  else if t.k = 6 then kVar E f 18 1 t.v ((((kArg E f t.f t.a 0 s).fresh.to (kArg E f t.f t.a 0 s).nx ⟨2, 15, 0, 0, 0⟩).to t.f ⟨19, 0, 0, 0, 0⟩).here (kArg E f t.f t.a 0 s).nx)
  else if t.k = 7 then (if kInAt t.a 1 E = true then kA t.a 2 E f 3 (kAd t.a 1 E f 2 (kAd t.a 0 E f 1 s)) else
      (fun u : KS => kRaise 2 ((kProbe 2 (u.fresh.to u.nx ⟨20, 3, 0, 0, 0⟩)).here u.nx)) (kA t.a 2 E f 3 (kA t.a 1 E f 2 (kAd t.a 0 E f 1 s)))).put [⟨23, 1, 2, 3, kAhead t.t⟩]
  else if t.k = 8 then kVar E f 18 1 t.v ((kA t.a 1 E f 2 (kAd t.a 0 E f 1 s)).put [⟨24, 1, 1, 2, 0⟩])
  else kVar E f 18 1 t.v ((kAd t.a 0 E f 1 s).put [⟨25, 1, 1, 0, 0⟩])
def kS (E : KE) (f lv : Int) : (d : Nat) → StT d → KS → KS
  | 0, _, s => s
  | d + 1, t, s => kOne E f lv (kAll (kS E f lv d)) t.nd s
/-- A function's statements, and what stands behind them. -/
def kBody (E : KE) (f : Int) (l : List (StT 8)) (s : KS) : KS := ((kAll (kS E f s.nx 8) l s.fresh).put [⟨2, 1, 0, 0, 0⟩]).here s.nx
def kBegin (E : KE) (f : Int) (l : List (StT 8)) (s : KS) : KS := (kBody E f l (s.to 33 ⟨2, 14, 0, 0, 0⟩)).put [⟨1, 0, 0, 0, 0⟩]
/-- Variables that are made noughts: n of them, from v on. -/
def kZero (E : KE) (f : Int) : Nat → Int → KS → KS
  | 0, _, s => s
  | n + 1, v, s => kZero E f n (v + 1) (kSlot 18 0 (kHome E f v) s)
def kCalled (E : KE) (f : Int) (g : FuT) (s : KS) : KS :=
  (kSlot 17 15 (E.fr.getD f.toNat 0) (kBody E f g.b (kZero E f (g.v - g.p).toNat g.p (kSlot 18 15 (E.fr.getD f.toNat 0) (s.here f))))).put [⟨22, 15, 0, 0, 0⟩]
/-- The functions ahead of the last one, from the one with number f on. -/
def kFns (E : KE) : List FuT → Int → KS → KS
  | [], _, s => s
  | [_], _, s => s
  | g :: h :: r, f, s => kFns E (h :: r) (f + 1) (kCalled E f g s)
def kFrs : List FuT → Int → List Int
  | [], _ => []
  | f :: r, n => n :: kFrs r (n + 1 + f.v)
def kSlots : List FuT → Int
  | [] => 0
  | f :: r => 1 + f.v + kSlots r
def kEnv (p : PgT) : KE := ⟨p.fs, p.da, kFrs p.fs 0⟩
def k0 : KS := ⟨[], [], fun _ => none, 34⟩
def kProg (p : PgT) : KS := kFns (kEnv p) p.fs 0 (match p.fs.getLast? with | none => k0 | some f => kBegin (kEnv p) (p.fs.length - 1) f.b k0)
end Go.Proofs.Ytimmiidkjpbffaa
/- Layer compile: what the layers below give. -/
namespace Go.Proofs.Ytimmiidkjpbffaa
open Go.RowKit
set_option maxRecDepth 100000
set_option linter.unusedVariables false
set_option linter.unusedSimpArgs false

theorem wrap_mod (x : Int) : IntKind.u64.wrap x = x % 18446744073709551616 := by
  simp only [IntKind.wrap, IntKind.bits, IntKind.signed]
  simp
/-- Moved up, moved down. -/
def sl64 (x y : Int) : Int := IntKind.u64.wrap (x * 2 ^ min y.toNat 64)
def sr64 (x y : Int) : Int := x / 2 ^ min y.toNat 64
theorem sl64_big {x y : Int} (h : 64 ≤ y) : sl64 x y = 0 := by
  unfold sl64
  rw [show min y.toNat 64 = 64 from Nat.min_eq_right (by omega), wrap_mod]
  omega
theorem sr64_big {x y : Int} (hx : U64 x) (h : 64 ≤ y) : sr64 x y = 0 := by
  have h1 := hx.1
  have h2 := hx.2
  unfold sr64
  rw [show min y.toNat 64 = 64 from Nat.min_eq_right (by omega)]
  omega
/-- What an instruction from ADD to EQ makes of two words. -/
def rk (op x y : Int) : Option Int :=
  if op = 5 then some (IntKind.u64.wrap (x + y)) else if op = 6 then some (IntKind.u64.wrap (x - y)) else if op = 7 then some (IntKind.u64.wrap (x * y))
  else if op = 8 then (if y = 0 then none else some (x / y)) else if op = 9 then (if y = 0 then none else some (x % y))
  else if op = 10 then some (bits .and .u64 x y) else if op = 11 then some (bits .or .u64 x y) else if op = 12 then some (bits .xor .u64 x y)
  else if op = 13 then some (sl64 x y) else if op = 14 then some (sr64 x y)
  else if op = 15 then some (if x < y then 1 else 0) else some (if x = y then 1 else 0)
theorem ops12 {op : Int} (h : 5 ≤ op ∧ op ≤ 16) : op = 5 ∨ op = 6 ∨ op = 7 ∨ op = 8 ∨ op = 9 ∨ op = 10 ∨ op = 11 ∨ op = 12 ∨ op = 13 ∨ op = 14 ∨ op = 15 ∨ op = 16 := by omega
end Go.Proofs.Ytimmiidkjpbffaa

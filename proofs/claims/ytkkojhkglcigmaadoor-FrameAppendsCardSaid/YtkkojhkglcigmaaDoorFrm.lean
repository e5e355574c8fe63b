/-
  Frames, as plain data and as the program has them: a row of 30 cells.
-/
import Derived.Test.YtkkojhkglcigmaaDoorReader
import Derived.Deep.MidRow
import Derived.WalkLawsBesides
namespace Go.Proofs.YtkkojhkglcigmaaDoor
open Go.RowKit
set_option linter.unusedVariables false

/-- A frame, as plain data. -/
structure PF where
  kind : Nat
  id : Nat
  off : Nat
  max : Nat
  code : Nat
  n : Nat
  fin : Bool
  data : List UInt8
  cid : List UInt8
  token : List UInt8
  acks : List (Nat × Nat)
  delay : Nat
  e0 : Nat
  e1 : Nat
  e2 : Nat

/-- Where its lists lie. -/
structure SA where
  dA : Option Addr
  dc : Nat
  cA : Option Addr
  cc : Nat
  aA : Option Addr
  ac : Nat

/-- A frame's cells. -/
def rowF (f : PF) (a : SA) : List Value :=
  [.int .u64 (f.kind : Int), .int .u64 (f.id : Int), .int .u64 (f.off : Int), .int .u64 (f.max : Int), .int .u64 (f.code : Int), .int .u64 (f.n : Int), .bool f.fin,
    .slice a.dA f.data.length a.dc, .slice a.cA f.cid.length a.cc] ++ (f.token.map cell8 ++
  [.slice a.aA f.acks.length a.ac, .int .u64 (f.delay : Int), .int .u64 (f.e0 : Int), .int .u64 (f.e1 : Int), .int .u64 (f.e2 : Int)])

theorem rowF_length {f : PF} (a : SA) (h : f.token.length = 16) : (rowF f a).length = 30 := by simp [rowF, h]

/-- A range's two cells. -/
def rcells (x : Nat × Nat) : List Value := [.int .u64 (x.1 : Int), .int .u64 (x.2 : Int)]

/-- The slice at A reads as ranges, two cells each, and lies below block B. -/
def Sr (w : World) (B : Nat) (A : Option Addr) (l : List (Nat × Nat)) : Prop :=
  l ≠ [] → ∃ b off, A = some ⟨b, off, none⟩ ∧ b < B ∧ ∀ i x, l[i]? = some x → w.cell? ⟨b, off + i * 2, none⟩ = some (.int .u64 (x.1 : Int)) ∧ w.cell? ⟨b, off + i * 2 + 1, none⟩ = some (.int .u64 (x.2 : Int))

theorem Sr.keep {w w' : World} {B B' : Nat} {A : Option Addr} {l : List (Nat × Nat)} (h : Sr w B A l) (hB : B ≤ B') (hk : ∀ p : Addr, p.block < B → w'.cell? p = w.cell? p) : Sr w' B' A l := by
  intro hn
  obtain ⟨b, off, rfl, hb, hc⟩ := h hn
  exact ⟨b, off, rfl, by omega, fun i x hx => ⟨(hk ⟨b, _, none⟩ hb).trans (hc i x hx).1, (hk ⟨b, _, none⟩ hb).trans (hc i x hx).2⟩⟩

theorem Sr.below {w w' : World} {B : Nat} {A : Option Addr} {l : List (Nat × Nat)} (h : Sr w B A l) (hb : Below B w w') : Sr w' B A l := h.keep (Nat.le_refl _) fun _ hp => hb.cell hp

def big : Nat := 18446744073709551616

/-- What is known of a frame that is handed in: its lists read as they do, below block B. -/
structure FrAt (w : World) (B : Nat) (f : PF) (a : SA) : Prop where
  tok : f.token.length = 16
  data : Sl w B a.dA f.data
  cid : Sl w B a.cA f.cid
  acks : Sr w B a.aA f.acks
  dc : f.data.length ≤ a.dc
  dm : a.dc ≤ maxLen
  dl : f.data.length ≤ 140737488355328
  cc : f.cid.length ≤ a.cc
  cm : a.cc ≤ maxLen
  cl : f.cid.length ≤ 140737488355328
  ac : f.acks.length ≤ a.ac
  am : a.ac ≤ maxLen
  al : f.acks.length ≤ 140737488355328
  nums : f.kind < big ∧ f.id < big ∧ f.off < big ∧ f.max < big ∧ f.code < big ∧ f.n < big ∧ f.delay < big ∧ f.e0 < big ∧ f.e1 < big ∧ f.e2 < big
  ranges : ∀ x ∈ f.acks, x.1 < big ∧ x.2 < big

theorem FrAt.below {w w' : World} {B : Nat} {f : PF} {a : SA} (h : FrAt w B f a) (hb : Below B w w') : FrAt w' B f a :=
  { h with data := h.data.below hb, cid := h.cid.below hb, acks := h.acks.below hb }

/-- What the walks read of a frame's cells. -/
structure RowIs (R : Array Value) (f : PF) (a : SA) : Prop where
  size : R.size = 30
  kind : R[0]? = some (.int .u64 (f.kind : Int))
  id : R[1]? = some (.int .u64 (f.id : Int))
  off : R[2]? = some (.int .u64 (f.off : Int))
  max : R[3]? = some (.int .u64 (f.max : Int))
  code : R[4]? = some (.int .u64 (f.code : Int))
  n : R[5]? = some (.int .u64 (f.n : Int))
  fin : R[6]? = some (.bool f.fin)
  data : R[7]? = some (.slice a.dA f.data.length a.dc)
  cid : R[8]? = some (.slice a.cA f.cid.length a.cc)
  tok : ∀ i v, (f.token.map cell8)[i]? = some v → R[9 + i]? = some v
  acks : R[25]? = some (.slice a.aA f.acks.length a.ac)
  delay : R[26]? = some (.int .u64 (f.delay : Int))
  e0 : R[27]? = some (.int .u64 (f.e0 : Int))
  e1 : R[28]? = some (.int .u64 (f.e1 : Int))
  e2 : R[29]? = some (.int .u64 (f.e2 : Int))

theorem rowF_is {f : PF} (a : SA) (h : f.token.length = 16) : RowIs (rowF f a).toArray f a := by
  have ht : ∀ k, k < 5 → ((f.token.map cell8) ++ [Value.slice a.aA f.acks.length a.ac, .int .u64 (f.delay : Int), .int .u64 (f.e0 : Int), .int .u64 (f.e1 : Int), .int .u64 (f.e2 : Int)])[16 + k]? = [Value.slice a.aA f.acks.length a.ac, .int .u64 (f.delay : Int), .int .u64 (f.e0 : Int), .int .u64 (f.e1 : Int), .int .u64 (f.e2 : Int)][k]? := by
    intro k hk
    rw [List.getElem?_append_right (by simp [h])]
    simp [h]
  exact ⟨by simp [rowF_length a h], rfl, rfl, rfl, rfl, rfl, rfl, rfl, rfl, rfl, fun i v hv => by
      have hi : i < (f.token.map cell8).length := (List.getElem?_eq_some_iff.1 hv).1
      simp only [rowF, List.getElem?_toArray]
      rw [List.getElem?_append_right (by simp)]
      simp only [List.length_cons, List.length_nil, show 9 + i - (0 + 1 + 1 + 1 + 1 + 1 + 1 + 1 + 1 + 1) = i by omega]
      rw [List.getElem?_append_left hi, hv],
    (List.getElem?_toArray (i := 25)).trans (ht 0 (by omega)), (List.getElem?_toArray (i := 26)).trans (ht 1 (by omega)), (List.getElem?_toArray (i := 27)).trans (ht 2 (by omega)), (List.getElem?_toArray (i := 28)).trans (ht 3 (by omega)), (List.getElem?_toArray (i := 29)).trans (ht 4 (by omega))⟩

/-- A bit of what a kind's bytes name. -/
def bt (p k : Nat) : Bool := bits .and .u16 (p : Int) (k : Int) != 0

/-- The greater one, as the program's max takes it. -/
def mxI (x y : Int) : Int := if y > x then y else x

theorem run_max8 {P : Program} (ts : Array TypeId) (t : TypeId) (a b c d e f g h : Int) (w : World) :
    (Builtin.max_ ts t #[.int .u64 a, .int .u64 b, .int .u64 c, .int .u64 d, .int .u64 e, .int .u64 f, .int .u64 g, .int .u64 h]).run P w =
      .ok (.int .u64 (mxI (mxI (mxI (mxI (mxI (mxI (mxI a b) c) d) e) f) g) h)) w := by
  simp [Builtin.max_, Builtin.max2, mxI]

theorem mxI_nat (a b : Nat) : mxI (a : Int) (b : Int) = ((Max.max a b : Nat) : Int) := by
  unfold mxI
  by_cases h : (b : Int) > (a : Int)
  · rw [if_pos h]; omega
  · rw [if_neg h]; omega

/-- A whole block, as the walk loads it. -/
theorem load_from {P : Program} {w : World} {g : Nat} {t : TypeId} {cs : Array Value} (h : Wh w g t cs) (n : Nat) (hn : cs.size = n) : (loadCellsFrom ⟨g, 0, none⟩ 0 n #[]).run P w = .ok cs w := by
  subst hn
  have := run_loadCells_list (P := P) w ⟨g, 0, none⟩ cs.toList (fun j v hv => by
    rw [Addr.add_mid, Nat.zero_add, h.cell]
    simpa using hv)
  simpa [loadCells] using this

end Go.Proofs.YtkkojhkglcigmaaDoor

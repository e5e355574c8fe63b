/-
  Frames that are not great, and frames that were listed: how many bytes they have. Plain mathematics.
  The walk through hostlerlaw02's joined.
  The walk through the statement FrameBack.
-/
import Derived.Test.YtnbeplfceflnjaaDoorFJoin
import Derived.Test.YtnbeplfceflnjaaDoorGreat
import Derived.Laws.OwnMore
import Derived.Deep.DeepCutAuto
import Derived.Test.YtnbeplfceflnjaaDoorFList
import Derived.Test.YtnbeplfceflnjaaDoorFKnown
import Derived.Test.YtnbeplfceflnjaaDoorFSameAll
namespace Go.Proofs.YtnbeplfceflnjaaDoor

section
set_option linter.unusedVariables false

theorem lowNums_lenJ (l : List (Nat × Nat)) : ∀ k, (lowNums l k).length = 2 * k
  | 0 => rfl
  | k + 1 => by
    unfold lowNums
    rw [List.length_append, lowNums_lenJ l k]
    simp
    omega
theorem pn_lenJ (f : PF) (k : Nat) (l : List Nat) : (pn f k l).length ≤ l.length := by
  unfold pn
  split
  · exact Nat.le_refl _
  · exact Nat.zero_le _
theorem numsN_lenJ (f : PF) : (numsN f).length ≤ 14 + 2 * f.acks.length := by
  have h : (ackNums f).length ≤ 4 + 2 * f.acks.length := by
    unfold ackNums
    simp only [List.length_append, List.length_cons, List.length_nil, lowNums_lenJ]
    omega
  have h1 := pn_lenJ f 2 [f.id]
  have h2 := pn_lenJ f 4 [f.off]
  have h3 := pn_lenJ f 8 [f.code]
  have h4 := pn_lenJ f 16 [f.max]
  have h5 := pn_lenJ f 128 (ackNums f)
  have h6 := pn_lenJ f 256 [f.e0, f.e1, f.e2]
  have h7 := pn_lenJ f 512 [f.data.length]
  have h8 := pn_lenJ f 2048 [f.cid.length]
  unfold numsN
  simp only [List.length_append, List.length_cons, List.length_nil] at *
  omega
/-- A frame's bytes by its weight. -/
theorem size_wt {f : PF} (h : MayF f) : sizeF f ≤ 400 * wtF f := by
  unfold wtF
  by_cases h0 : f.kind = 0
  · obtain ⟨_, e2, e3⟩ := pad_is h h0
    unfold sizeF
    rw [if_pos h0]
    split <;> omega
  · have h1 := sumSz_le (numsN f)
    have h2 := numsN_lenJ f
    unfold sizeF
    rw [if_neg h0]
    split <;> split <;> omega
theorem great_sum : ∀ (l : List (PF × SA)) (n : Nat), ¬ 4000 < greatN n l → n + (l.map fun x => wtF x.1).sum ≤ 4000
  | [], n, h => by
    unfold greatN at h
    simp
    omega
  | x :: l, n, h => by
    unfold greatN at h
    split at h
    · have := great_sum l _ h
      rw [List.map_cons, List.sum_cons]
      omega
    · omega
theorem wt_pos (f : PF) : 1 ≤ wtF f := by unfold wtF; omega
theorem sum_len (l : List (PF × SA)) : l.length ≤ (l.map fun x => wtF x.1).sum := by
  induction l with
  | nil => simp
  | cons x l ih =>
    have := wt_pos x.1
    rw [List.map_cons, List.sum_cons, List.length_cons]
    omega
theorem sum_mem {l : List (PF × SA)} {x : PF × SA} (h : x ∈ l) : wtF x.1 ≤ (l.map fun x => wtF x.1).sum := by
  induction l with
  | nil => cases h
  | cons y l ih =>
    rw [List.map_cons, List.sum_cons]
    rcases List.mem_cons.1 h with rfl | h
    · omega
    · have := ih h
      omega
theorem sumF_wt (l : List (PF × SA)) (h : ∀ x ∈ l, MayF x.1) : sumF l ≤ 400 * (l.map fun x => wtF x.1).sum := by
  induction l with
  | nil => simp [sumF]
  | cons x l ih =>
    have h1 := size_wt (h x (by simp))
    have h2 := ih (fun y hy => h y (by simp [hy]))
    rw [List.map_cons, List.sum_cons]
    show sizeF x.1 + sumF l ≤ _
    omega
theorem take_sum (l : List (PF × SA)) (k : Nat) : ((l.take k).map fun x => wtF x.1).sum ≤ (l.map fun x => wtF x.1).sum := by
  induction l generalizing k with
  | nil => simp
  | cons x l ih =>
    cases k with
    | zero => simp
    | succ k =>
      have := ih k
      rw [List.take_succ_cons, List.map_cons, List.sum_cons, List.map_cons, List.sum_cons]
      omega
/-- What is known of frames that are not great. -/
structure Fit (l : List (PF × SA)) : Prop where
  len : l.length ≤ 4000
  acks : ∀ x ∈ l, x.1.acks.length ≤ 4000
  data : ∀ x ∈ l, x.1.data.length + x.1.cid.length ≤ 1099511627776
  sum : ∀ k, (∀ x ∈ l.take k, MayF x.1) → sumF (l.take k) ≤ 1600000
theorem Fit.of_great {l : List (PF × SA)} (h : ¬ 4000 < greatN 0 l) : Fit l := by
  have hs := great_sum l 0 h
  have hl := sum_len l
  refine ⟨by omega, fun x hx => ?_, fun x hx => ?_, fun k hm => ?_⟩
  · have h1 := sum_mem hx
    have h2 : wtF x.1 ≤ 4000 := by omega
    unfold wtF at h2
    omega
  · have h1 := sum_mem hx
    have h2 : wtF x.1 ≤ 4000 := by omega
    unfold wtF at h2
    omega
  · have h1 := sumF_wt _ hm
    have h2 := take_sum l k
    omega

/-! Frames that were listed. -/
theorem s4_acks {a e t d c : Bool} {f g : PF} {l r : List UInt8} (h : s4 a e t d c f l = some (g, r)) (hf : f.acks = []) : g.acks.length ≤ l.length := by
  unfold s4 at h
  cases a
  · simp only [Bool.false_eq_true, if_false] at h
    have g0 : g.acks = f.acks := by have e := congrArg PF.acks (s5_cost h).1; exact e
    rw [g0, hf]
    exact Nat.zero_le _
  · simp only [if_true] at h
    rcases hn : acks_ l with _ | ⟨⟨x, y⟩, l'⟩
    · rw [hn] at h; cases h
    rw [hn] at h
    simp only at h
    have g0 : g.acks = x := by have e := congrArg PF.acks (s5_cost h).1; exact e
    rw [g0]
    exact (acks_le hn).2.1
theorem s0_acks {i j o x a e t d c : Bool} {f g : PF} {l r : List UInt8} (h : s0 i j o x a e t d c f l = some (g, r)) (hf : f.acks = []) : g.acks.length ≤ l.length := by
  unfold s0 at h
  rcases h1 : numIf_ i l with _ | ⟨n1, l1⟩
  · rw [h1] at h; cases h
  rw [h1] at h
  simp only at h
  unfold s1 at h
  rcases h2 : numIf_ j l1 with _ | ⟨n2, l2⟩
  · rw [h2] at h; cases h
  rw [h2] at h
  simp only at h
  unfold s2 at h
  rcases h3 : numIf_ o l2 with _ | ⟨n3, l3⟩
  · rw [h3] at h; cases h
  rw [h3] at h
  simp only at h
  unfold s3 at h
  rcases h4 : numIf_ x l3 with _ | ⟨n4, l4⟩
  · rw [h4] at h; cases h
  rw [h4] at h
  simp only at h
  have k1 := (numIf_le h1).1
  have k2 := (numIf_le h2).1
  have k3 := (numIf_le h3).1
  have k4 := (numIf_le h4).1
  have := s4_acks h hf
  omega
theorem sP_acks {p : Nat} {f g : PF} {l r : List UInt8} (h : sP p f l = some (g, r)) (hf : f.acks = []) : g.acks.length ≤ l.length := by
  unfold sP at h
  split at h
  · unfold sM at h
    split at h
    · have := s0_acks h hf
      rw [List.length_drop] at this
      omega
    · exact s0_acks h hf
  · cases h
theorem frameJ_acks {l r : List UInt8} {g : PF} (h : frame_ l = some (g, r)) : g.acks.length ≤ l.length := by
  cases l with
  | nil => cases h
  | cons x t =>
    rw [frame_cons] at h
    simp only [List.length_cons]
    split at h
    · have := sP_acks h rfl
      omega
    · have := sP_acks h rfl
      omega
theorem list_acks : ∀ (k : Nat) (l : List UInt8) (m : List PF), listN k l = some m → ∀ f ∈ m, f.acks.length ≤ l.length
  | 0, l, m, h => by
    unfold listN at h
    split at h
    · simp only [Option.some.injEq] at h
      subst h
      intro f hf
      cases hf
    · cases h
  | k + 1, l, m, h => by
    unfold listN at h
    split at h
    · simp only [Option.some.injEq] at h
      subst h
      intro f hf
      cases hf
    · rcases hf : frame_ l with _ | ⟨f, l'⟩
      · rw [hf] at h; cases h
      rw [hf] at h
      simp only at h
      have hlen := (frame_len hf).1
      rcases hm : listN k l' with _ | m'
      · rw [hm] at h; cases h
      rw [hm] at h
      simp only [Option.map_some, Option.some.injEq] at h
      subst h
      intro g hg
      rcases List.mem_cons.1 hg with rfl | hg
      · exact frameJ_acks hf
      · have := list_acks k l' m' hm g hg
        omega
theorem sumP (l : List (PF × SA)) : sumF l = ((l.map (·.1)).map sizeF).sum := by simp [sumF, List.map_map, Function.comp_def]
theorem size_data {f : PF} (h : MayF f) : f.data.length + f.cid.length ≤ sizeF f := by
  by_cases h0 : f.kind = 0
  · obtain ⟨e1, _, _⟩ := pad_is h h0
    rw [e1]
    simp [zP]
  · unfold sizeF
    rw [if_neg h0]
    omega
theorem memF_le {l : List (PF × SA)} {x : PF × SA} (h : x ∈ l) : sizeF x.1 ≤ sumF l := by
  induction l with
  | nil => cases h
  | cons y l ih =>
    show _ ≤ sizeF y.1 + sumF l
    rcases List.mem_cons.1 h with rfl | h
    · omega
    · have := ih h
      omega
theorem takeF_le (l : List (PF × SA)) (k : Nat) : sumF (l.take k) ≤ sumF l := by
  induction l generalizing k with
  | nil => simp
  | cons x l ih =>
    cases k with
    | zero => simp [sumF]
    | succ k =>
      have := ih k
      rw [List.take_succ_cons]
      show sizeF x.1 + sumF (l.take k) ≤ sizeF x.1 + sumF l
      omega
theorem lenF_le (l : List (PF × SA)) (h : ∀ x ∈ l, MayF x.1) : l.length ≤ sumF l := by
  induction l with
  | nil => simp
  | cons x l ih =>
    have h1 := sizeF_pos (h x (by simp))
    have h2 := ih (fun y hy => h y (by simp [hy]))
    show _ ≤ sizeF x.1 + sumF l
    rw [List.length_cons]
    omega
theorem list_some {b : List UInt8} {m : List PF} (h : list_ b = some m) : b ≠ [] ∧ listN b.length b = some m := by
  unfold list_ at h
  split at h
  · cases h
  · exact ⟨‹_›, h⟩
/-- What is known of frames that were listed of at most 3000 bytes. -/
theorem Fit.of_list {b : List UInt8} {l : List (PF × SA)} (h : list_ b = some (l.map (·.1))) (hb : b.length ≤ 3000) (ht : ∀ x ∈ l, x.1.token.length = 16) :
    Fit l ∧ (∀ x ∈ l, LOk x.1) ∧ Jd (l.map (·.1)) ∧ sumF l ≤ b.length + 8 := by
  obtain ⟨_, h⟩ := list_some h
  have hm : ∀ x ∈ l, MayF x.1 := fun x hx => list_ok _ _ _ h x.1 (List.mem_map.2 ⟨x, hx, rfl⟩)
  have ha : ∀ x ∈ l, x.1.acks.length ≤ b.length := fun x hx => list_acks _ _ _ h x.1 (List.mem_map.2 ⟨x, hx, rfl⟩)
  have hs := list_size _ _ _ h
  rw [← sumP] at hs
  have hl := lenF_le l hm
  refine ⟨⟨by omega, fun x hx => ?_, fun x hx => ?_, fun k _ => ?_⟩, fun x hx => ⟨hm x hx, ht x hx, ?_⟩, list_jd _ _ _ (by omega) h, hs⟩
  · have := ha x hx
    omega
  · have h1 := size_data (hm x hx)
    have h2 := memF_le hx
    omega
  · have := takeF_le l k
    omega
  · have := ha x hx
    omega

theorem list_ne {b : List UInt8} {m : List PF} (h : list_ b = some m) : m ≠ [] := by
  obtain ⟨hb, h⟩ := list_some h
  intro e
  subst e
  rw [listN_step hb _ (Nat.le_refl _)] at h
  rcases hf : frame_ b with _ | ⟨f, l'⟩
  · rw [hf] at h; cases h
  rw [hf] at h
  simp only at h
  rcases hm : listN l'.length l' with _ | m'
  · rw [hm] at h; cases h
  · rw [hm] at h
    simp at h
/-- All frames' bytes are listed as they are, joined. -/
theorem list_bytes {l : List (PF × SA)} (h : ∀ x ∈ l, LOk x.1) (hne : l ≠ []) (hfit : ∀ f ∈ joinP (l.map (·.1)), f.kind = 0 → f.n ≤ 65536) : list_ (bytesL l) = some (joinP (l.map (·.1))) := by
  have h' : ∀ f ∈ l.map (·.1), LOk f := fun f hf => by
    obtain ⟨x, hx, rfl⟩ := List.mem_map.1 hf
    exact h x hx
  have hb : bytesL l ≠ [] := by
    cases l with
    | nil => exact absurd rfl hne
    | cons x l =>
      intro e
      have := bytesF_pos (h x (by simp))
      exact this (List.append_eq_nil_iff.1 e).1
  unfold list_
  rw [if_neg hb, bytesL_P]
  exact join_list h' hfit
theorem list_same {l : List (PF × SA)} (h : ∀ x ∈ l, LOk x.1) (hne : l ≠ []) (hj : Jd (l.map (·.1))) : list_ (bytesL l) = some (l.map (·.1)) := by
  have h' : ∀ f ∈ l.map (·.1), LOk f := fun f hf => by
    obtain ⟨x, hx, rfl⟩ := List.mem_map.1 hf
    exact h x hx
  have hb : bytesL l ≠ [] := by
    cases l with
    | nil => exact absurd rfl hne
    | cons x l =>
      intro e
      have := bytesF_pos (h x (by simp))
      exact this (List.append_eq_nil_iff.1 e).1
  unfold list_
  rw [if_neg hb, bytesL_P]
  exact list_back _ hj h'
end

section
open Go.RowKit
set_option linter.unusedVariables false

/-- One more frame, joined, with where its lists lie. -/
def jstep (acc : List (PF × SA)) (x : PF × SA) : List (PF × SA) :=
  match acc.getLast? with
  | some g => if x.1.kind = 0 ∧ g.1.kind = 0 then acc.dropLast ++ [({ g.1 with n := g.1.n + x.1.n }, g.2)] else acc ++ [x]
  | none => [x]
/-- A fact that no tactic looks into. -/
structure Deep (p : Prop) : Prop where
  out : p
theorem jstep_map (acc : List (PF × SA)) (x : PF × SA) : (jstep acc x).map (·.1) = jstepP (acc.map (·.1)) x.1 := by
  rcases List.eq_nil_or_concat acc with rfl | ⟨ac, g, rfl⟩
  · rfl
  · rw [List.concat_eq_append, List.map_append, List.map_cons, List.map_nil, jstepP_snoc]
    unfold jstep
    simp only [List.getLast?_append, List.getLast?_singleton, Option.some_or, List.dropLast_concat]
    split <;> simp

theorem wpList_append_frame {ops : Array Oper} {o : Oper} {a : Act} {w : World} {rest : List Oper} {Q : Exit → Act → World → Prop} (hgd : o.guard = none) (s x : Operand)
    (ho : o.op = .call { callee := .builtin .append, args := #[s, x], argTypes := #[23, 23] })
    (base : Nat) (v : Value) (n : Nat) (xs : List Value) (hs : a.eval s = v) (hown : w.ownsRow base 32 30 v n xs)
    (g : Nat) (news : List Value) (hx : a.eval x = .slice (some ⟨g, 0, none⟩) 1 1) (hr : Wh w g 32 news.toArray) (hm : news.length = 30) (h1 : news.toArray.all (·.oneCell') = true)
    (h63 : n ≤ 16777216) (hbase : base ≤ w.heap.size)
    (h : ∀ v' w', w'.ownsRow base 32 30 v' (n + 1) (xs ++ news) → w.grownBy w' v.ownBlock → (v'.ownBlock = v.ownBlock ∨ v'.ownBlock = some w.heap.size) → wpList Tryd.prog ops Q rest (a.put o.dst v') w') : wpList Tryd.prog ops Q (o :: rest) a w :=
  wpList_step fun K hK => step_append_frame hgd s x ho base v n xs hs hown g news hx hr hm h1 h63 hbase (fun v' w' k1 k2 k3 => hK _ _ (h v' w' k1 k2 k3))

theorem wpList_build_one {P : Program} {ops : Array Oper} {o : Oper} {a : Act} {w : World} {Q : Exit → Act → World → Prop} {rest : List Oper} (hgd : o.guard = none) (t e : TypeId) (x : Operand) (ho : o.op = .buildSlice t 1 #[(0, x)])
    (R : Array Value) (n : Nat) (hx : a.eval x = .agg R) (hR : R.size = n) (hn : 0 < n) (hn2 : n ≤ 1000) (ie : TypeInfo) (z : Value) (hu : P.underlying t = some (.slice e)) (hie : P.info? e = some ie) (hz : ie.zero = some z) (hs : ie.size = n)
    (h : wpList P ops Q rest (a.put o.dst (.slice (some ⟨w.heap.size, 0, none⟩) 1 1)) (w.alloc (.cells R e))) : wpList P ops Q (o :: rest) a w :=
  wpList_step fun K hK => step_build_one hgd t e x ho R n hx hR hn hn2 ie z hu hie hz hs (hK _ _ h)

theorem FrAt.up {w w' : World} {B B' : Nat} {f : PF} {a : SA} (h : FrAt w B f a) (hb : Below B w w') (hB : B ≤ B') : FrAt w' B' f a := by
  have hf := h.below hb
  exact { hf with data := hf.data.keep hB (fun _ _ => rfl), cid := hf.cid.keep hB (fun _ _ => rfl), acks := hf.acks.keep hB (fun _ _ => rfl) }

theorem flat_len30 {xs : List (PF × SA)} (h : ∀ x ∈ xs, x.1.token.length = 16) : (xs.flatMap fun x => rowF x.1 x.2).length = xs.length * 30 := by
  induction xs with
  | nil => rfl
  | cons x xs ih =>
    rw [List.flatMap_cons, List.length_append, rowF_length x.2 (h x (by simp)), ih (fun y hy => h y (by simp [hy])), List.length_cons]
    omega
theorem flatJ_at {ys : List (PF × SA)} {g : PF × SA} (h : ∀ x ∈ ys, x.1.token.length = 16) (i : Nat) : ((ys ++ [g]).flatMap fun x => rowF x.1 x.2)[ys.length * 30 + i]? = (rowF g.1 g.2)[i]? := by
  rw [List.flatMap_append, List.getElem?_append_right (by rw [flat_len30 h]; omega), flat_len30 h, Nat.add_sub_cancel_left]
  simp
theorem flatJ_set {ys : List (PF × SA)} {g : PF × SA} (h : ∀ x ∈ ys, x.1.token.length = 16) (n : Nat) : ((ys ++ [g]).flatMap fun x => rowF x.1 x.2).set (ys.length * 30 + 5) (.int .u64 (n : Int)) = (ys ++ [(({ g.1 with n := n } : PF), g.2)]).flatMap fun (x : PF × SA) => rowF x.1 x.2 := by
  rw [List.flatMap_append, List.set_append_right _ _ (by rw [flat_len30 h]; omega), flat_len30 h, Nat.add_sub_cancel_left, List.flatMap_append]
  congr 1

theorem own_form30 {w : World} {base size : Nat} {e : TypeId} {v : Value} {n : Nat} {xs : List Value} (h : w.ownsRow base e size v n xs) : ∃ A c, v = .slice A n c ∧ n ≤ c ∧ c ≤ maxLen := by
  rcases h.2 with ⟨rfl, rfl⟩ | ⟨g, cap, cur, rfl, _, _, h1, h2, _⟩
  · exact ⟨none, 0, rfl, Nat.le_refl _, Nat.zero_le _⟩
  · exact ⟨_, _, rfl, h1, h2⟩
theorem act_normS {P : Program} {md : Region.Mode} {ops : Array Oper} {Q : Exit → Act → World → Prop} {S : World → Prop} {fuel : Nat} {listed : Array Bool} {a b : Act} {w : World} (h : a = b) (k : wpAnyH P md ops Q S fuel listed b w) : wpAnyH P md ops Q S fuel listed a w :=
  h ▸ k
theorem wanted_goS {o : Oper} {y : Nat → Option Bool} {A B : Prop} (h : Region.wanted o y = true) (k : A) : if Region.wanted o y = true then A else B := by rw [if_pos h]; exact k
/-- What is known of the frames so far. -/
def JW (w : World) (B k : Nat) (xs : List (PF × SA)) : Prop := ∀ x ∈ xs, FrAt w B x.1 x.2 ∧ (x.1.kind = 0 → x.1.n ≤ 65536 * k)

set_option maxRecDepth 100000 in
set_option maxHeartbeats 1600000 in
theorem joined_any (A : Option Addr) (len c : Nat) (l : List (PF × SA)) (w : World) (B : Nat) (hl : l.length = len) (hf : Sf w B A l) (hB : B ≤ w.heap.size) (hlen : len ≤ 4000) (hn : ∀ x ∈ l, x.1.kind = 0 → x.1.n ≤ 65536) :
    Calls Tryd.prog 16 #[.slice A len c] w fun e w' => ∃ A' c' xs, e = .returned (.slice A' xs.length c') ∧ xs.map (·.1) = joinP (l.map (·.1)) ∧ Sf w' w'.heap.size A' xs ∧ xs.length ≤ c' ∧ c' ≤ maxLen ∧ xs.length ≤ len ∧ Below w.heap.size w w' := by
  obtain ⟨ie, hie, hiee⟩ := Option.map_eq_some_iff.1 info_frame2
  simp only [Prod.mk.injEq, Option.map_eq_some_iff] at hiee
  obtain ⟨hse, _, ze, hze, _⟩ := hiee
  have HL := Lib.hid hl
  have HF := Lib.hid hf
  have HN := Lib.hid hn
  have hz : (#[.int .u64 0, .int .u64 0, .int .u64 0, .int .u64 0, .int .u64 0, .int .u64 0, .bool false, .slice none 0 0, .slice none 0 0, .int .u8 0, .int .u8 0, .int .u8 0, .int .u8 0, .int .u8 0, .int .u8 0, .int .u8 0, .int .u8 0, .int .u8 0, .int .u8 0, .int .u8 0, .int .u8 0, .int .u8 0, .int .u8 0, .int .u8 0, .int .u8 0, .slice none 0 0, .int .u64 0, .int .u64 0, .int .u64 0, .int .u64 0] : Array Value) = zRow 0 := rfl
  clear hl hf hn
  go_enter Tryd.func16, Tryd.ntmps16
  go_wp2
  go_loopw [3, 9] (fun v i wr => ∃ (k q : Nat) (xs : List (PF × SA)), k ≤ len ∧ i = .int .i64 (k : Int) ∧ q ≤ k ∧ Deep (xs.length = q) ∧ Hid (wr.ownsRow w.heap.size 32 30 v q (xs.flatMap fun x => rowF x.1 x.2)) ∧ Deep (xs.map (·.1) = ((l.map (·.1)).take k).foldl jstepP []) ∧ Hid (JW wr B k xs) ∧ Hid (Below w.heap.size w wr)) (fun _ i _ => len - (intOf i).toNat)
  case atStart => exact ⟨0, 0, [], by omega, rfl, by omega, ⟨rfl⟩, Lib.hid (by simpa using World.ownsRow_nil _ _ _ 30), ⟨rfl⟩, Lib.hid (fun x hx => by cases hx), Lib.hid (Below.refl _ _)⟩
  case round =>
    obtain ⟨k, q, xs, hk, rfl, hqk, HQL, HO, HM, HJ, HB⟩ := hrel
    have hws := HB.out.size
    by_cases hlt : k < len
    · obtain ⟨x, hx⟩ : ∃ x, l[k]? = some x := ⟨_, List.getElem?_eq_getElem (by rw [HL.out]; exact hlt)⟩
      obtain ⟨bk, off, rfl, hbk, hc⟩ := HF.out (by rintro rfl; simp at hx)
      have HRG : Hid (wr.rangeAt bk (off + k * 30) (rowF x.1 x.2)) := fun j v hv => (HB.out.cell (p := ⟨bk, off + k * 30 + j, none⟩) (by show bk < _; omega)).trans ((hc k x hx).1 j v hv)
      have HFR := Lib.hid ((hc k x hx).2.below (HB.out.mono hB))
      have HSZ : Hid ((Tryd.prog.info? 32).map (·.size) = some (rowF x.1 x.2).length) := by rw [info_frame, rowF_length x.2 HFR.out.tok]; rfl
      have HNX := Lib.hid (HN.out x (List.mem_of_getElem? hx))
      have HMX : Deep (((l.map (·.1)).take (k + 1)).foldl jstepP [] = jstepP (xs.map (·.1)) x.1) := ⟨by rw [takeA_next (l.map (·.1)) k x.1 (by rw [List.getElem?_map, hx]; rfl), List.foldl_append, ← HM.out]; rfl⟩
      clear hc hx
      obtain ⟨R, hR⟩ : ∃ R : Array Value, R = (rowF x.1 x.2).toArray := ⟨_, rfl⟩
      have HRE := Lib.hid hR
      have hR30 : R.size = 30 := by rw [hR, List.size_toArray, rowF_length x.2 HFR.out.tok]
      have HR30 := Lib.hid hR30
      have HR1 : Hid (R.all (·.oneCell') = true) := by show _ = _; rw [hR]; exact rowF_one x.1 x.2
      have HI : Hid ((Tryd.prog.info? 32).map (·.size) = some R.size) := by rw [hR30]; exact info_frame
      have hri : RowIs R x.1 x.2 := by rw [hR]; exact rowF_is (f := x.1) x.2 HFR.out.tok
      have HWN := Lib.hid (Wh.new wr 32 R)
      have hck : (wr.alloc (.cells R 32)).cell? ⟨wr.heap.size, 0, none⟩ = some (.int .u64 (x.1.kind : Int)) := by rw [HWN.out.cell]; exact hri.kind
      have hcn : (wr.alloc (.cells R 32)).cell? ⟨wr.heap.size, 5, none⟩ = some (.int .u64 (x.1.n : Int)) := by rw [HWN.out.cell]; exact hri.n
      have hbn : Below wr.heap.size wr (wr.alloc (.cells R 32)) := (Below.refl _ _).alloc (Nat.le_refl _) _
      have HOA := Lib.hid (HO.out.alloc (.cells R 32))
      have HCK := Lib.hid hck
      have HCN := Lib.hid hcn
      have HBN := Lib.hid (HB.out.trans (hbn.mono hws))
      have HBR := Lib.hid hbn
      have hkx : x.1.kind < 18446744073709551616 := HFR.out.nums.1
      clear hR hR30 hri hck hcn hbn
      go_upto_region 5 with (first
        | (refine wpList_load_mid rfl 32 (.tmp 11) rfl bk (off + k * 30) rfl (rowF x.1 x.2) _ HRG.out Tryd.underlying32 rfl HSZ.out ?_; rw [← HRE.out])
        | (refine wpList_store_row rfl 32 (.tmp 5) (.tmp 12) rfl wr.heap.size R rfl rfl _ _ (heap_alloc_new wr (.cells (zRow 0) 32)) HI.out (by rw [HR30.out]; rfl) HR1.out ?_; rw [World.setRow_alloc_new]))
      obtain ⟨A3, c3, rfl, h3a, h3b⟩ := own_form30 HOA.out
      rcases List.eq_nil_or_concat xs with hxs | ⟨ys, g, hxs⟩
      · have hq0 : q = 0 := by rw [← HQL.out, hxs]; rfl
        subst hq0
        have HJN : Deep (jstepP (xs.map (·.1)) x.1 = xs.map (·.1) ++ [x.1]) := ⟨by rw [hxs]; rfl⟩
        clear hxs HO
        go_wp2_with (first
          | (refine wpList_load_any 32 (.tmp 5) rfl rfl wr.heap.size rfl _ R _ HWN.out Tryd.underlying32 rfl HI.out ?_)
          | (refine wpList_build_one rfl 23 32 (.tmp 43) rfl R 30 rfl HR30.out (by omega) (by omega) ie ze Tryd.underlying23 hie hze hse ?_)
          | (refine wpList_append_frame rfl (.tmp 42) (.tmp 44) rfl w.heap.size _ 0 _ rfl (HOA.out.alloc (.cells R 32)) (wr.alloc (.cells R 32)).heap.size (rowF x.1 x.2) rfl (by rw [← HRE.out]; exact Wh.new _ _ _) (rowF_length x.2 HFR.out.tok) (by rw [← HRE.out]; exact HR1.out) (by omega) (by simp; omega) ?_; intro v5 w5 hown5 hg5 hat5; have HO5 := Lib.hid hown5; have HG5 := Lib.hid hg5; clear hown5 hg5 hat5))
        have hb5 : Below w.heap.size w w5 := (HBN.out.alloc HBN.out.size _).grown HG5.out (by simp; omega) (fun p hp => (HOA.out.lt p hp).1)
        have hbr5 : Below w.heap.size wr w5 := (((Below.refl w.heap.size wr).alloc hws (.cells R 32)).alloc (by simp; omega) (.cells R 32)).grown HG5.out (by simp; omega) (fun p hp => (HOA.out.lt p hp).1)
        have ho5 : w5.ownsRow w.heap.size 32 30 v5 (0 + 1) ((xs ++ [x]).flatMap fun x => rowF x.1 x.2) := by
          rw [List.flatMap_append, List.flatMap_singleton]
          exact HO5.out
        have hm5 : (xs ++ [x]).map (·.1) = ((l.map (·.1)).take (k + 1)).foldl jstepP [] := by
          rw [HMX.out, HJN.out, List.map_append]
          rfl
        have hj5 : JW w5 B (k + 1) (xs ++ [x]) := fun y hy => by
          rcases List.mem_append.1 hy with hy | hy
          · obtain ⟨a1, a2⟩ := HJ.out y hy
            exact ⟨a1.below (hbr5.mono hB), fun h0 => by have := a2 h0; omega⟩
          · rw [List.mem_singleton.1 hy]
            exact ⟨HFR.out.below (hbr5.mono hB), fun h0 => by have := HNX.out h0; omega⟩
        exact ⟨⟨k + 1, 0 + 1, xs ++ [x], by omega, by go_num, by omega, ⟨by rw [List.length_append, HQL.out]; rfl⟩, Lib.hid ho5, ⟨hm5⟩, Lib.hid hj5, Lib.hid hb5⟩, by simp [intOf]; omega⟩
      · rw [List.concat_eq_append] at hxs
        obtain ⟨j, hj⟩ : ∃ j, j = ys.length := ⟨_, rfl⟩
        have hqj : q = j + 1 := by rw [← HQL.out, hxs, List.length_append, hj]; rfl
        subst hqj
        obtain ⟨gb, cb, he, hgb1, hgb2⟩ := HO.out.form (by omega)
        simp only [Value.slice.injEq, true_and] at he
        obtain ⟨rfl, rfl⟩ := he
        have hgin : g ∈ xs := by rw [hxs]; simp
        have hysin : ∀ y ∈ ys, y.1.token.length = 16 := fun y hy => (HJ.out y (by rw [hxs]; simp [hy])).1.tok
        have hcell : ∀ i, i < 30 → (wr.alloc (.cells R 32)).cell? ⟨gb, j * 30 + i, none⟩ = (rowF g.1 g.2)[i]? := fun i hi => by
          rw [HOA.out.cellAt (j * 30 + i) (by omega), hxs, hj]
          exact flatJ_at hysin i
        have hgk := hcell 0 (by omega)
        have hgn := hcell 5 (by omega)
        have hgk' : (wr.alloc (.cells R 32)).cell? ⟨gb, j * 30, none⟩ = some (.int .u64 (g.1.kind : Int)) := hgk
        have hgn' : (wr.alloc (.cells R 32)).cell? ⟨gb, j * 30 + 5, none⟩ = some (.int .u64 (g.1.n : Int)) := hgn
        have hfr5 := HOA.out.frozenAt (j * 30 + 5)
        have HGK := Lib.hid hgk'
        have HGN := Lib.hid hgn'
        have HFZ := Lib.hid hfr5
        have HGJ := Lib.hid (HJ.out g hgin)
        have HXS := Deep.mk hxs
        have HJL := Deep.mk hj
        have HYS := Lib.hid hysin
        have hkg : g.1.kind < 18446744073709551616 := HGJ.out.1.nums.1
        clear hgk hgn hgk' hgn' hfr5 hcell hgin hysin hxs hj
        by_cases hxk : x.1.kind = 0
        · by_cases hgk0 : g.1.kind = 0
          · have t1 : ((x.1.kind : Int) == 0) = true := by rw [hxk]; rfl
            have t2 : ((g.1.kind : Int) == 0) = true := by rw [hgk0]; rfl
            have hck := HCK.out
            have hgk := HGK.out
            have hcn := HCN.out
            have hgn := HGN.out
            have hfz := HFZ.out
            have hxn := HNX.out hxk
            have hgnle := HGJ.out.2 hgk0
            have hsum : IntKind.u64.wrap ((g.1.n : Int) + (x.1.n : Int)) = (g.1.n : Int) + (x.1.n : Int) := IntWalk.u64_in _ (by omega)
            go_upto_region 7 with fail
            clear t1 t2 hck hgk
            have hne : gb ≠ wr.heap.size := Nat.ne_of_lt hgb2
            have hne' : wr.heap.size ≠ gb := fun e => hne e.symm
            have hsub : IntKind.i64.wrap (j : Int) = (j : Int) := IntWalk.i64_in _ (by omega)
            have hjlt : (j : Int) < (j : Int) + 1 := by omega
            have hS0 : (wr.alloc (.cells R 32)).drew.cell? ⟨wr.heap.size, 5, none⟩ = some (.int .u64 (x.1.n : Int)) := HCN.out
            have hgn0 : (wr.alloc (.cells R 32)).drew.cell? ⟨gb, j * 30 + 5, none⟩ = some (.int .u64 (g.1.n : Int)) := HGN.out
            have hfz0 : (wr.alloc (.cells R 32)).drew.frozen? ⟨gb, j * 30 + 5, none⟩ = false := HFZ.out
            have hfin := HOA.out.stored (j * 30 + 5) (.int .u64 ((g.1.n : Int) + (x.1.n : Int)))
            have HFIN := Lib.hid hfin
            clear hfin
            refine wp_region_held_drew (S := fun w' => w'.cell? ⟨wr.heap.size, 5, none⟩ = some (.int .u64 (x.1.n : Int))) (by kernel_rfl) hS0 (fun _ => ?_)
            refine wpAnyH_take (i := 0) (v := .slice (some ⟨gb, 0, none⟩) (j + 1) c3) (List.getElem?_toArray.trans rfl) (by kernel_rfl) (by kernel_rfl) (by kernel_rfl) (fun _ _ _ h => h) (.inl ⟨rfl, fun w' hS => rfl⟩) hS0 ?_
            refine act_normS (by simp only [Act.put, List.setIfInBounds_toArray, List.set_cons_zero, List.set_cons_succ]; rfl) ?_
            refine wpAnyH_take (i := 1) (v := .int .i64 ((j : Int) + 1)) (List.getElem?_toArray.trans rfl) (by kernel_rfl) (by kernel_rfl) (by kernel_rfl) (fun _ _ _ h => h) (.inl ⟨rfl, fun w' hS => rfl⟩) hS0 ?_
            refine act_normS (by simp only [Act.put, List.setIfInBounds_toArray, List.set_cons_zero, List.set_cons_succ]; rfl) ?_
            refine wpAnyH_take (i := 2) (v := .int .i64 (j : Int)) (List.getElem?_toArray.trans rfl) (by kernel_rfl) (by kernel_rfl) (by kernel_rfl) (fun _ _ _ h => h) (.inl ⟨rfl, fun w' hS => by simp [go_sem, hsub]⟩) hS0 ?_
            refine act_normS (by simp only [Act.put, List.setIfInBounds_toArray, List.set_cons_zero, List.set_cons_succ]; rfl) ?_
            refine wpAnyH_take (i := 6) (v := .pointer (some ⟨wr.heap.size, 5, none⟩)) (List.getElem?_toArray.trans rfl) (by kernel_rfl) (by kernel_rfl) (by kernel_rfl) (fun _ _ _ h => h) (.inl ⟨rfl, fun w' hS => by simp [go_sem]⟩) hS0 ?_
            refine act_normS (by simp only [Act.put, List.setIfInBounds_toArray, List.set_cons_zero, List.set_cons_succ]; rfl) ?_
            refine wpAnyH_take (i := 7) (v := .int .u64 (x.1.n : Int)) (List.getElem?_toArray.trans rfl) (by kernel_rfl) (by kernel_rfl) (by kernel_rfl) (fun _ _ _ h => h) (.inl ⟨rfl, fun w' hS => by simp [go_sem, hS]⟩) hS0 ?_
            refine act_normS (by simp only [Act.put, List.setIfInBounds_toArray, List.set_cons_zero, List.set_cons_succ]; rfl) ?_
            refine wpAnyH_take (i := 3) (v := .pointer (some ⟨gb, j * 30, none⟩)) (List.getElem?_toArray.trans rfl) (by kernel_rfl) (by kernel_rfl) (by kernel_rfl) (fun _ _ _ h => h) (.inl ⟨rfl, fun w' hS => by simp [go_sem, hjlt]⟩) hS0 ?_
            refine act_normS (by simp only [Act.put, List.setIfInBounds_toArray, List.set_cons_zero, List.set_cons_succ]; rfl) ?_
            refine wpAnyH_take (i := 4) (v := .pointer (some ⟨gb, j * 30 + 5, none⟩)) (List.getElem?_toArray.trans rfl) (by kernel_rfl) (by kernel_rfl) (by kernel_rfl) (fun _ _ _ h => h) (.inl ⟨rfl, fun w' hS => by simp [go_sem]⟩) hS0 ?_
            refine act_normS (by simp only [Act.put, List.setIfInBounds_toArray, List.set_cons_zero, List.set_cons_succ]; rfl) ?_
            refine wpAnyH_ready (rs := [5]) (by kernel_rfl) (by simp) (AllReadyH.cons (List.getElem?_toArray.trans rfl) (fun K' hK => ?_) AllReadyH.nil)
            refine wanted_goS rfl ?_
            go_simp
            refine hK.out _ _ hS0 (fun _ => ?_)
            clear hK K'
            refine wpAnyH_ready (rs := [8]) (by kernel_rfl) (by simp) (AllReadyH.cons (List.getElem?_toArray.trans rfl) (fun K' hK => ?_) AllReadyH.nil)
            refine wanted_goS rfl ?_
            go_simp
            refine hK.out _ _ hS0 (fun _ => ?_)
            clear hK K'
            refine wpAnyH_take (i := 9) (v := .pointer (some ⟨gb, j * 30, none⟩)) (List.getElem?_toArray.trans rfl) (by kernel_rfl) (by kernel_rfl) (by kernel_rfl) (fun _ _ _ h => h) (.inl ⟨rfl, fun w' hS => by simp [go_sem, hjlt]⟩) hS0 ?_
            refine act_normS (by simp only [Act.put, List.setIfInBounds_toArray, List.set_cons_zero, List.set_cons_succ]; rfl) ?_
            refine wpAnyH_take (i := 10) (v := .pointer (some ⟨gb, j * 30 + 5, none⟩)) (List.getElem?_toArray.trans rfl) (by kernel_rfl) (by kernel_rfl) (by kernel_rfl) (fun _ _ _ h => h) (.inl ⟨rfl, fun w' hS => by simp [go_sem]⟩) hS0 ?_
            refine act_normS (by simp only [Act.put, List.setIfInBounds_toArray, List.set_cons_zero, List.set_cons_succ]; rfl) ?_
            refine wpAnyH_ready (rs := [11]) (by kernel_rfl) (by simp) (AllReadyH.cons (List.getElem?_toArray.trans rfl) (fun K' hK => ?_) AllReadyH.nil)
            refine wanted_goS rfl ?_
            go_simp
            obtain ⟨u, hu⟩ : ∃ u, u = Value.int .u64 ((g.1.n : Int) + (x.1.n : Int)) := ⟨_, rfl⟩
            rw [← hu]
            have hst := HO.out.stored (j * 30 + 5) u
            obtain ⟨wq, hwq⟩ : ∃ wq, wq = wr.setCell ⟨gb, j * 30 + 5, none⟩ u := ⟨_, rfl⟩
            rw [← hwq] at hst
            rw [← hwq]
            have hsz : wq.heap.size = wr.heap.size := by rw [hwq]; simp [World.setCell]
            have hbq : Below w.heap.size w wq := HB.out.grown hst.2 hws (fun p hp => by have := Option.some.inj hp; omega)
            have hbq2 : Below w.heap.size wr wq := (Below.refl _ _).grown hst.2 hws (fun p hp => by have := Option.some.inj hp; omega)
            have hS1 : (wq.alloc (.cells R 32)).drew.cell? ⟨wr.heap.size, 5, none⟩ = some (.int .u64 (x.1.n : Int)) := by
              have h1 := (Wh.new wq 32 R).cell 5
              have h2 := HWN.out.cell 5
              rw [HCN.out] at h2
              rw [hsz, ← h2] at h1
              exact h1
            have hb5 : Below w.heap.size w (wq.alloc (.cells R 32)).drew := (hbq.alloc (by omega) _).drew
            have hbr5 : Below w.heap.size wr (wq.alloc (.cells R 32)).drew := (hbq2.alloc (by omega) _).drew
            have ho5 : (wq.alloc (.cells R 32)).drew.ownsRow w.heap.size 32 30 (.slice (some ⟨gb, 0, none⟩) (j + 1) c3) (j + 1) ((ys ++ [(({ g.1 with n := g.1.n + x.1.n } : PF), g.2)]).flatMap fun (x : PF × SA) => rowF x.1 x.2) := by
              have h1 := hst.1.alloc (.cells R 32)
              rw [HXS.out, HJL.out, hu, show ((g.1.n : Int) + (x.1.n : Int)) = ((g.1.n + x.1.n : Nat) : Int) by omega, flatJ_set HYS.out, ← HJL.out] at h1
              exact h1
            have hm5 : (ys ++ [(({ g.1 with n := g.1.n + x.1.n } : PF), g.2)]).map (·.1) = ((l.map (·.1)).take (k + 1)).foldl jstepP [] := by
              rw [HMX.out, HXS.out]
              simp only [List.map_append, List.map_cons, List.map_nil]
              rw [jstepP_snoc, if_pos ⟨hxk, hgk0⟩]
            have hj5 : JW (wq.alloc (.cells R 32)).drew B (k + 1) (ys ++ [(({ g.1 with n := g.1.n + x.1.n } : PF), g.2)]) := fun y hy => by
              rcases List.mem_append.1 hy with hy | hy
              · obtain ⟨a1, a2⟩ := HJ.out y (by rw [HXS.out]; simp [hy])
                exact ⟨a1.below (hbr5.mono hB), fun h0 => by have := a2 h0; omega⟩
              · rw [List.mem_singleton.1 hy]
                have a1 := HGJ.out.1.below (hbr5.mono hB)
                have a3 := a1.nums
                refine ⟨⟨a1.tok, a1.data, a1.cid, a1.acks, a1.dc, a1.dm, a1.dl, a1.cc, a1.cm, a1.cl, a1.ac, a1.am, a1.al, ⟨a3.1, a3.2.1, a3.2.2.1, a3.2.2.2.1, a3.2.2.2.2.1, ?_, a3.2.2.2.2.2.2⟩, a1.ranges⟩, fun h0 => ?_⟩
                · show g.1.n + x.1.n < big
                  unfold big
                  omega
                · show g.1.n + x.1.n ≤ 65536 * (k + 1)
                  omega
            have HB5 := Lib.hid hb5
            have HO5 := Lib.hid ho5
            have HM5 := Deep.mk hm5
            have HJ5 := Lib.hid hj5
            have hql : (ys ++ [(({ g.1 with n := g.1.n + x.1.n } : PF), g.2)]).length = j + 1 := by rw [List.length_append, ← HJL.out]; rfl
            have HQ5 := Deep.mk hql
            refine hK.out _ _ hS1 (fun _ => ?_)
            clear hK K'
            refine wpAnyH_done (by kernel_rfl) ?_ _
            generalize (wq.alloc (.cells R 32)).drew = w5 at *
            clear hb5 hbr5 ho5 hm5 hj5 hS1 hbq hbq2 hst hwq hu hsz hql hgn0 hfz0 HFIN hS0
            go_wp2
            exact ⟨⟨k + 1, j + 1, ys ++ [(({ g.1 with n := g.1.n + x.1.n } : PF), g.2)], by omega, by go_num, by omega, HQ5, HO5, HM5, HJ5, HB5⟩, by simp [intOf]; omega⟩
          · have HJN : Deep (jstepP (xs.map (·.1)) x.1 = xs.map (·.1) ++ [x.1]) := ⟨by rw [HXS.out, List.map_append, List.map_cons, List.map_nil, jstepP_snoc, if_neg (fun e => hgk0 e.2)]⟩
            have t1 : ((x.1.kind : Int) == 0) = true := by rw [hxk]; rfl
            have t2 : ((g.1.kind : Int) == 0) = false := by rw [beq_eq_false_iff_ne]; omega
            have hck := HCK.out
            have hgk := HGK.out
            go_wp2_with (first
              | (refine wpList_load_any 32 (.tmp 5) rfl rfl wr.heap.size rfl _ R _ HWN.out Tryd.underlying32 rfl HI.out ?_)
              | (refine wpList_build_one rfl 23 32 (.tmp 43) rfl R 30 rfl HR30.out (by omega) (by omega) ie ze Tryd.underlying23 hie hze hse ?_)
              | (refine wpList_append_frame rfl (.tmp 42) (.tmp 44) rfl w.heap.size _ (j + 1) _ rfl (HOA.out.alloc (.cells R 32)) (wr.alloc (.cells R 32)).heap.size (rowF x.1 x.2) rfl (by rw [← HRE.out]; exact Wh.new _ _ _) (rowF_length x.2 HFR.out.tok) (by rw [← HRE.out]; exact HR1.out) (by omega) (by simp; omega) ?_; intro v5 w5 hown5 hg5 hat5; have HO5 := Lib.hid hown5; have HG5 := Lib.hid hg5; clear hown5 hg5 hat5))
            have hb5 : Below w.heap.size w w5 := (HBN.out.alloc HBN.out.size _).grown HG5.out (by simp; omega) (fun p hp => (HOA.out.lt p hp).1)
            have hbr5 : Below w.heap.size wr w5 := (((Below.refl w.heap.size wr).alloc hws (.cells R 32)).alloc (by simp; omega) (.cells R 32)).grown HG5.out (by simp; omega) (fun p hp => (HOA.out.lt p hp).1)
            have ho5 : w5.ownsRow w.heap.size 32 30 v5 ((j + 1) + 1) ((xs ++ [x]).flatMap fun x => rowF x.1 x.2) := by
              rw [List.flatMap_append, List.flatMap_singleton]
              exact HO5.out
            have hm5 : (xs ++ [x]).map (·.1) = ((l.map (·.1)).take (k + 1)).foldl jstepP [] := by
              rw [HMX.out, HJN.out, List.map_append]
              rfl
            have hj5 : JW w5 B (k + 1) (xs ++ [x]) := fun y hy => by
              rcases List.mem_append.1 hy with hy | hy
              · obtain ⟨a1, a2⟩ := HJ.out y hy
                exact ⟨a1.below (hbr5.mono hB), fun h0 => by have := a2 h0; omega⟩
              · rw [List.mem_singleton.1 hy]
                exact ⟨HFR.out.below (hbr5.mono hB), fun h0 => by have := HNX.out h0; omega⟩
            exact ⟨⟨k + 1, (j + 1) + 1, xs ++ [x], by omega, by go_num, by omega, ⟨by rw [List.length_append, HQL.out]; rfl⟩, Lib.hid ho5, ⟨hm5⟩, Lib.hid hj5, Lib.hid hb5⟩, by simp [intOf]; omega⟩
        · have HJN : Deep (jstepP (xs.map (·.1)) x.1 = xs.map (·.1) ++ [x.1]) := ⟨by rw [HXS.out, List.map_append, List.map_cons, List.map_nil, jstepP_snoc, if_neg (fun e => hxk e.1)]⟩
          have t1 : ((x.1.kind : Int) == 0) = false := by rw [beq_eq_false_iff_ne]; omega
          have hck := HCK.out
          go_wp2_with (first
            | (refine wpList_load_any 32 (.tmp 5) rfl rfl wr.heap.size rfl _ R _ HWN.out Tryd.underlying32 rfl HI.out ?_)
            | (refine wpList_build_one rfl 23 32 (.tmp 43) rfl R 30 rfl HR30.out (by omega) (by omega) ie ze Tryd.underlying23 hie hze hse ?_)
            | (refine wpList_append_frame rfl (.tmp 42) (.tmp 44) rfl w.heap.size _ (j + 1) _ rfl (HOA.out.alloc (.cells R 32)) (wr.alloc (.cells R 32)).heap.size (rowF x.1 x.2) rfl (by rw [← HRE.out]; exact Wh.new _ _ _) (rowF_length x.2 HFR.out.tok) (by rw [← HRE.out]; exact HR1.out) (by omega) (by simp; omega) ?_; intro v5 w5 hown5 hg5 hat5; have HO5 := Lib.hid hown5; have HG5 := Lib.hid hg5; clear hown5 hg5 hat5))
          have hb5 : Below w.heap.size w w5 := (HBN.out.alloc HBN.out.size _).grown HG5.out (by simp; omega) (fun p hp => (HOA.out.lt p hp).1)
          have hbr5 : Below w.heap.size wr w5 := (((Below.refl w.heap.size wr).alloc hws (.cells R 32)).alloc (by simp; omega) (.cells R 32)).grown HG5.out (by simp; omega) (fun p hp => (HOA.out.lt p hp).1)
          have ho5 : w5.ownsRow w.heap.size 32 30 v5 ((j + 1) + 1) ((xs ++ [x]).flatMap fun x => rowF x.1 x.2) := by
            rw [List.flatMap_append, List.flatMap_singleton]
            exact HO5.out
          have hm5 : (xs ++ [x]).map (·.1) = ((l.map (·.1)).take (k + 1)).foldl jstepP [] := by
            rw [HMX.out, HJN.out, List.map_append]
            rfl
          have hj5 : JW w5 B (k + 1) (xs ++ [x]) := fun y hy => by
            rcases List.mem_append.1 hy with hy | hy
            · obtain ⟨a1, a2⟩ := HJ.out y hy
              exact ⟨a1.below (hbr5.mono hB), fun h0 => by have := a2 h0; omega⟩
            · rw [List.mem_singleton.1 hy]
              exact ⟨HFR.out.below (hbr5.mono hB), fun h0 => by have := HNX.out h0; omega⟩
          exact ⟨⟨k + 1, (j + 1) + 1, xs ++ [x], by omega, by go_num, by omega, ⟨by rw [List.length_append, HQL.out]; rfl⟩, Lib.hid ho5, ⟨hm5⟩, Lib.hid hj5, Lib.hid hb5⟩, by simp [intOf]; omega⟩
    · have hkl : k = len := by omega
      have t1 : decide (k < len) = false := decide_eq_false hlt
      have t1' : decide ((k : Int) < (len : Int)) = false := decide_eq_false (by omega)
      obtain ⟨A3, c3, rfl, h3a, h3b⟩ := own_form30 HO.out
      have htok : ∀ x ∈ xs, (rowF x.1 x.2).length = 30 := fun x hx => rowF_length x.2 (HJ.out x hx).1.tok
      have hsf : Sf wr wr.heap.size A3 xs := fun hne => by
        have hq0 : 0 < q := by rw [← HQL.out]; exact List.length_pos_iff.2 hne
        obtain ⟨gb, cb, he, hgb1, hgb2⟩ := HO.out.form hq0
        simp only [Value.slice.injEq, true_and] at he
        obtain ⟨rfl, rfl⟩ := he
        refine ⟨gb, 0, rfl, hgb2, fun i x hx => ⟨fun m v hv => ?_, (HJ.out x (List.mem_of_getElem? hx)).1.up (Below.refl _ _) (Nat.le_trans hB hws)⟩⟩
        have hm30 : m < 30 := by
          have := (List.getElem?_eq_some_iff.1 hv).1
          rw [htok x (List.mem_of_getElem? hx)] at this
          exact this
        have hiq : i < q := by rw [← HQL.out]; exact (List.getElem?_eq_some_iff.1 hx).1
        rw [Nat.zero_add, HO.out.cellAt (i * 30 + m) (by omega)]
        exact flat30 htok hx hv
      have HSF := Lib.hid hsf
      have hmp : xs.map (·.1) = joinP (l.map (·.1)) := by
        rw [HM.out, hkl, List.take_of_length_le (by rw [List.length_map, HL.out]; exact Nat.le_refl _)]
        rfl
      have HMP := Deep.mk hmp
      clear hsf htok hmp HO HM HJ hlt
      go_wp2
      go_ret
      exact ⟨A3, c3, xs, by rw [HQL.out]; rfl, HMP.out, HSF.out, by rw [HQL.out]; exact h3a, h3b, by rw [HQL.out]; omega, HB.out⟩
end

section
open Go.RowKit
set_option linter.unusedVariables false

theorem Sf.up {w w' : World} {B B' : Nat} {A : Option Addr} {l : List (PF × SA)} (h : Sf w B A l) (hb : Below B w w') (hB : B ≤ B') : Sf w' B' A l := fun hne => by
  obtain ⟨b, off, e, hlt, hc⟩ := h hne
  refine ⟨b, off, e, Nat.lt_of_lt_of_le hlt hB, fun i x hx => ⟨fun j v hv => ?_, (hc i x hx).2.up hb hB⟩⟩
  exact (hb.cell (p := ⟨b, off + i * 30 + j, none⟩) hlt).trans ((hc i x hx).1 j v hv)

set_option maxRecDepth 100000 in
set_option maxHeartbeats 1600000 in
theorem fback_out (l : List (PF × SA)) (A2 : Option Addr) (len c2 : Nat) (A : Option Addr) (n c : Nat) (w : World) (hT : PT w) (hl : l.length = len) (hf : Sf w w.heap.size A2 l) (hlen : len ≤ 140737488355328) (hn : n ≤ 140737488351232)
    (ho : 4000 < greatN 0 l ∨ 3000 < n) :
    Calls Tryd.prog 4 #[.slice A2 len c2, .slice A n c] w fun e w' => e = .returned (.bool true) ∧ Below w.heap.size w w' := by
  have HK := Lib.hid (fknown_any w hT)
  have HL := Lib.hid hl
  have HF := Lib.hid hf
  have hq : (∃ _ : decide (4000 < greatN 0 l) = true, True) ∨ (∃ _ : decide (4000 < greatN 0 l) = false, ∃ _ : decide ((3000 : Int) < (n : Int)) = true, True) := by
    by_cases a1 : 4000 < greatN 0 l
    · exact .inl ⟨decide_eq_true a1, trivial⟩
    · exact .inr ⟨decide_eq_false a1, decide_eq_true (by omega), trivial⟩
  clear hl hf ho hT
  rcases hq with ⟨h1, _⟩ | ⟨h1, h2, _⟩
  all_goals
    have HD1 := Deep.mk h1
    clear h1
    go_enter Tryd.func4, Tryd.ntmps4
    go_wp2_with (first
      | (go_at_call 6; refine HK.out.mono ?_; rintro e w1 ⟨rfl, hb1⟩; have HB1 := Lib.hid hb1; clear hb1)
      | (go_at_call 7; refine (great_any A2 len c2 l w1 w1.heap.size HL.out (HF.out.up HB1.out HB1.out.size) (Nat.le_refl _) hlen).mono ?_; rw [HD1.out]; rintro e w2 ⟨rfl, hb2⟩; have HB2 := Lib.hid (HB1.out.trans (hb2.mono HB1.out.size)); clear hb2))
    go_ret
    exact ⟨rfl, HB2.out⟩

def fitsB (xs : List (PF × SA)) : Bool := xs.all fun x => decide (x.1.kind ≠ 0) || decide (x.1.n ≤ 65536)
theorem fitsB_next (xs : List (PF × SA)) (k : Nat) (x : PF × SA) (h : xs[k]? = some x) : fitsB (xs.take (k + 1)) = (fitsB (xs.take k) && (decide (x.1.kind ≠ 0) || decide (x.1.n ≤ 65536))) := by
  unfold fitsB
  rw [takeA_next xs k x h, List.all_append]
  simp
theorem fitsB_all {xs : List (PF × SA)} (h : fitsB xs = true) {m : List PF} (hm : xs.map (·.1) = m) : ∀ f ∈ m, f.kind = 0 → f.n ≤ 65536 := fun f hf h0 => by
  rw [← hm] at hf
  obtain ⟨x, hx, rfl⟩ := List.mem_map.1 hf
  have := List.all_eq_true.1 h x hx
  simpa [h0] using this

set_option maxRecDepth 100000 in
set_option maxHeartbeats 12800000 in
theorem fback_in (l : List (PF × SA)) (b : List UInt8) (A2 : Option Addr) (len c2 : Nat) (A : Option Addr) (n c : Nat) (w : World) (hT : PT w) (hTab : Tab w) (hl : l.length = len) (hf : Sf w w.heap.size A2 l)
    (hb : b.length = n) (hlc : n ≤ c) (hcm : c ≤ maxLen) (hs : Sl w w.heap.size A b) (hg : ¬ 4000 < greatN 0 l) (hn : n ≤ 3000) :
    Calls Tryd.prog 4 #[.slice A2 len c2, .slice A n c] w fun e w' => e = .returned (.bool true) ∧ Below w.heap.size w w' := by
  have HK := Lib.hid (fknown_any w hT)
  have HL := Lib.hid hl
  have HF := Lib.hid hf
  have HBL := Deep.mk hb
  have HS := Lib.hid hs
  have HT := Lib.hid hT
  have HTAB := Lib.hid hTab
  have HFIT := Lib.hid (Fit.of_great hg)
  have hlen : len ≤ 4000 := by rw [← hl]; exact HFIT.out.len
  have HD1 : Deep (decide (4000 < greatN 0 l) = false) := ⟨decide_eq_false hg⟩
  have d2 : decide ((3000 : Int) < (n : Int)) = false := decide_eq_false (by omega)
  clear hl hf hb hs hT hTab hg
  go_enter Tryd.func4, Tryd.ntmps4
  go_upto_region 5 with (first
      | (go_at_call 6; refine HK.out.mono ?_; rintro e w1 ⟨rfl, hb1⟩; have HB1 := Lib.hid hb1; clear hb1)
      | (go_at_call 7; refine (great_any A2 len c2 l w1 w1.heap.size HL.out (HF.out.up HB1.out HB1.out.size) (Nat.le_refl _) (by omega)).mono ?_; rw [HD1.out]; rintro e w2 ⟨rfl, hb2⟩; have HB2 := Lib.hid (HB1.out.trans (hb2.mono HB1.out.size)); clear hb2))
  clear d2 HD1 HK HB1
  go_wp2_with fail
  refine (fappend_any none 0 A2 len c2 [] l w2 w2.heap.size (Sv.nil _ _ _) HL.out (HF.out.up HB2.out HB2.out.size) (Nat.le_refl _) (HT.out.below HB2.out HT.out.lt) (HTAB.out.below HB2.out HTAB.out.lt) (by omega) (by simp) HFIT.out.acks HFIT.out.data (fun k hk => Nat.le_trans (HFIT.out.sum k hk) (by omega))).mono ?_
  rintro e w3 ⟨hyes, hno, hb3⟩
  have HB3 := Lib.hid (HB2.out.trans (hb3.mono HB2.out.size))
  clear hb3 HB2
  by_cases hall : ∀ x ∈ l, MayF x.1
  · obtain ⟨A5, c5, rfl, h5a, h5b, hown5⟩ := hyes hall
    rw [List.nil_append] at h5a hown5
    rw [List.nil_append]
    obtain ⟨K, hK⟩ : ∃ K, K = (bytesL l).length := ⟨_, rfl⟩
    rw [← hK] at h5a hown5
    rw [← hK]
    have HSC : Hid (Sl w3 w3.heap.size A5 (bytesL l)) := Lib.hid (Sv.of_own hown5)
    have htk := HF.out.toks
    have hKs : K = sumF l := by rw [hK]; exact bytesL_len l htk
    have hKle : K ≤ 1600000 := by
      rw [hKs]
      have := HFIT.out.sum l.length (by rw [List.take_length]; exact hall)
      rwa [List.take_length] at this
    have HKL := Deep.mk hK.symm
    have HLO : Hid (∀ x ∈ l, LOk x.1) := Lib.hid (fun x hx => ⟨hall x hx, htk x hx, by have := HFIT.out.acks x hx; omega⟩)
    clear hyes hno hown5 hK hKs htk
    rcases Nat.eq_zero_or_pos len with h0 | h0
    · have t1 : decide ((0 : Int) < (len : Int)) = false := decide_eq_false (by omega)
      have t1' : decide (0 < len) = false := decide_eq_false (by omega)
      go_upto_region 17 with fail
      clear t1 t1' HSC HLO HKL h5a h5b hKle
      have HSB := Lib.hid (show Sl w3 w3.heap.size A b from Sv.keep (Sv.below HS.out HB3.out) HB3.out.size (fun _ _ => rfl))
      go_wp2_with fail
      refine (list_any b A n c w3 HBL.out HSB.out hlc hcm (HT.out.below HB3.out HT.out.lt) (by rw [HBL.out]; omega)).mono ?_
      rintro e wy ⟨hby, hgy⟩
      have HBY := Lib.hid (HB3.out.trans (hby.mono HB3.out.size))
      clear hby HSB
      rcases hlb : list_ b with _ | mm
      · rw [hlb] at hgy
        simp only at hgy
        subst hgy
        clear hlb
        go_wp2
        go_ret
        exact ⟨rfl, HBY.out⟩
      · rw [hlb] at hgy
        simp only at hgy
        obtain ⟨Am, cm, xs, rfl, hxm, hsm, hma, hmb⟩ := hgy
        have hfl := Fit.of_list (l := xs) (by rw [hlb, hxm]) (by rw [HBL.out]; exact hn) hsm.toks
        obtain ⟨hfit, hlok, hjd, hsz⟩ := hfl
        rw [HBL.out] at hsz
        have hne : xs ≠ [] := fun e => list_ne hlb (by rw [← hxm, e]; rfl)
        obtain ⟨q, hq⟩ : ∃ q, q = xs.length := ⟨_, rfl⟩
        have hmq : mm.length = q := by rw [← hxm, List.length_map, hq]
        rw [hmq] at hma
        rw [hmq]
        have hq4 : q ≤ 4000 := by rw [hq]; exact hfit.len
        have HXL := Deep.mk hq.symm
        have HSM := Lib.hid hsm
        have HFITX := Lib.hid hfit
        have hallx : ∀ x ∈ xs, MayF x.1 := fun x hx => (hlok x hx).1
        have HLS := Deep.mk (list_same hlok hne hjd)
        have hKx : (bytesL xs).length = sumF xs := bytesL_len xs hsm.toks
        have HKX : Deep ((bytesL xs).length ≤ n + 8) := ⟨by rw [hKx]; exact hsz⟩
        clear hlb hxm hsm hfit hlok hjd hsz hne hq hmq hKx
        go_wp2_with fail
        refine (fappend_any none 0 Am q cm [] xs wy wy.heap.size (Sv.nil _ _ _) HXL.out HSM.out (Nat.le_refl _) (HT.out.below HBY.out HT.out.lt) (HTAB.out.below HBY.out HTAB.out.lt) (by omega) (by simp) HFITX.out.acks HFITX.out.data (fun k hk => Nat.le_trans (HFITX.out.sum k hk) (by omega))).mono ?_
        rintro e wz ⟨hyes, _, hbz⟩
        obtain ⟨Az, cz, rfl, hza, hzb, hownz⟩ := hyes hallx
        rw [List.nil_append] at hza hownz
        rw [List.nil_append]
        obtain ⟨Kz, hKz⟩ : ∃ Kz, Kz = (bytesL xs).length := ⟨_, rfl⟩
        rw [← hKz] at hza hownz
        rw [← hKz]
        have hKz8 : Kz ≤ n + 8 := by rw [hKz]; exact HKX.out
        have HKZ := Deep.mk hKz.symm
        have HSZ := Lib.hid (show Sl wz wz.heap.size Az (bytesL xs) from Sv.of_own hownz)
        have HBZ := Lib.hid (HBY.out.trans (hbz.mono HBY.out.size))
        have HSMZ := Lib.hid (HSM.out.up hbz hbz.size)
        clear hyes hownz hbz hKz HSM HKX hallx
        go_wp2_with fail
        refine (list_any (bytesL xs) Az Kz cz wz HKZ.out HSZ.out hza hzb (HT.out.below HBZ.out HT.out.lt) (by rw [HKZ.out]; omega)).mono ?_
        rintro e wk ⟨hbk, hgk⟩
        rw [HLS.out] at hgk
        simp only at hgk
        obtain ⟨Ak, ck, ks, rfl, hkm, hsk, hka, hkb⟩ := hgk
        have hkl : (xs.map (·.1)).length = q := by rw [List.length_map, HXL.out]
        rw [hkl] at hka
        rw [hkl]
        have HKM := Deep.mk hkm
        have HKL2 : Deep (ks.length = q) := ⟨by have h := congrArg List.length hkm; rw [List.length_map, List.length_map, HXL.out] at h; exact h⟩
        have HSK := Lib.hid hsk
        have HSMK := Lib.hid (HSMZ.out.up hbk hbk.size)
        have HBK := Lib.hid (HBZ.out.trans (hbk.mono HBZ.out.size))
        have t9 : decide ((Kz : Int) ≤ (n : Int) + 8) = true := decide_eq_true (by omega)
        clear hbk hkm hsk hkl HSMZ HSZ HLS
        go_wp2_with (go_at_call 18; refine (samefall_yes Ak Am q ck cm ks xs wk HKM.out HKL2.out HSK.out HSMK.out (by omega)).mono ?_; rintro e wf ⟨rfl, hbf⟩; have HBF := Lib.hid (HBK.out.trans (hbf.mono HBK.out.size)); clear hbf)
        go_ret
        exact ⟨rfl, HBF.out⟩
    · have t1 : decide ((0 : Int) < (len : Int)) = true := decide_eq_true (by omega)
      have t1' : decide (0 < len) = true := decide_eq_true (by omega)
      have hHN : Hid (∀ x ∈ l, x.1.kind = 0 → x.1.n ≤ 65536) := Lib.hid (fun x hx h0 => (pad_is (hall x hx) h0).2.2)
      go_wp2_with (go_at_call 16; refine (joined_any A2 len c2 l w3 w3.heap.size HL.out (HF.out.up HB3.out HB3.out.size) (Nat.le_refl _) hlen hHN.out).mono ?_; rintro e w4 ⟨A7, c7, os, rfl, hos, hsf7, h7a, h7b, h7c, hb7⟩)
      obtain ⟨N1, hN1⟩ : ∃ N1, N1 = os.length := ⟨_, rfl⟩
      rw [← hN1] at h7a h7c
      rw [← hN1]
      have HOL := Deep.mk hN1.symm
      have HOS := Deep.mk hos
      have HSF7 := Lib.hid hsf7
      have HB4 := Lib.hid (HB3.out.trans (hb7.mono HB3.out.size))
      have HSC4 := Lib.hid (show Sl w4 w4.heap.size A5 (bytesL l) from Sv.keep (Sv.below HSC.out hb7) hb7.size (fun _ _ => rfl))
      have hz : (#[.int .u64 0, .int .u64 0, .int .u64 0, .int .u64 0, .int .u64 0, .int .u64 0, .bool false, .slice none 0 0, .slice none 0 0, .int .u8 0, .int .u8 0, .int .u8 0, .int .u8 0, .int .u8 0, .int .u8 0, .int .u8 0, .int .u8 0, .int .u8 0, .int .u8 0, .int .u8 0, .int .u8 0, .int .u8 0, .int .u8 0, .int .u8 0, .int .u8 0, .slice none 0 0, .int .u64 0, .int .u64 0, .int .u64 0, .int .u64 0] : Array Value) = zRow 0 := rfl
      clear hN1 hos hsf7 hb7 t1 t1' HSC
      go_loopw [8, 43] (fun vf iv wr => ∃ k : Nat, k ≤ N1 ∧ iv = .int .i64 (k : Int) ∧ vf = .bool (fitsB (os.take k)) ∧ Hid (Below w4.heap.size w4 wr)) (fun _ iv _ => N1 - (intOf iv).toNat)
      case atStart => exact ⟨0, by omega, rfl, rfl, Lib.hid (Below.refl _ _)⟩
      case round =>
        obtain ⟨k, hk, rfl, rfl, HBR⟩ := hrel
        by_cases hlt : k < N1
        · obtain ⟨x, hx⟩ : ∃ x, os[k]? = some x := ⟨_, List.getElem?_eq_getElem (by rw [HOL.out]; exact hlt)⟩
          obtain ⟨bk, off, rfl, hbk, hc⟩ := HSF7.out (by rintro rfl; simp at hx)
          have HRG : Hid (wr.rangeAt bk (off + k * 30) (rowF x.1 x.2)) := fun j v hv => (HBR.out.cell (p := ⟨bk, off + k * 30 + j, none⟩) hbk).trans ((hc k x hx).1 j v hv)
          have HFR := Lib.hid (hc k x hx).2
          have HSZ : Hid ((Tryd.prog.info? 32).map (·.size) = some (rowF x.1 x.2).length) := by rw [info_frame, rowF_length x.2 HFR.out.tok]; rfl
          have HNX := Deep.mk (fitsB_next os k x hx)
          clear hc hx
          obtain ⟨R, hR⟩ : ∃ R : Array Value, R = (rowF x.1 x.2).toArray := ⟨_, rfl⟩
          have HRE := Lib.hid hR
          have hR30 : R.size = 30 := by rw [hR, List.size_toArray, rowF_length x.2 HFR.out.tok]
          have HR30 := Lib.hid hR30
          have HR1 : Hid (R.all (·.oneCell') = true) := by show _ = _; rw [hR]; exact rowF_one x.1 x.2
          have HI : Hid ((Tryd.prog.info? 32).map (·.size) = some R.size) := by rw [hR30]; exact info_frame
          have hri : RowIs R x.1 x.2 := by rw [hR]; exact rowF_is (f := x.1) x.2 HFR.out.tok
          have hwn := Wh.new wr 32 R
          have hck : (wr.alloc (.cells R 32)).cell? ⟨wr.heap.size, 0, none⟩ = some (.int .u64 (x.1.kind : Int)) := by rw [hwn.cell]; exact hri.kind
          have hcn : (wr.alloc (.cells R 32)).cell? ⟨wr.heap.size, 5, none⟩ = some (.int .u64 (x.1.n : Int)) := by rw [hwn.cell]; exact hri.n
          have HB5 := Lib.hid (HBR.out.alloc HBR.out.size (.cells R 32))
          clear hR hR30 hri hwn
          have hcase : (∃ _ : fitsB (os.take k) = false, True) ∨ (∃ _ : fitsB (os.take k) = true, ∃ _ : ((x.1.kind : Int) != 0) = true, x.1.kind ≠ 0) ∨ (∃ _ : fitsB (os.take k) = true, ∃ _ : ((x.1.kind : Int) != 0) = false, ∃ _ : decide ((x.1.n : Int) ≤ 65536) = true, x.1.kind = 0 ∧ x.1.n ≤ 65536) ∨ (∃ _ : fitsB (os.take k) = true, ∃ _ : ((x.1.kind : Int) != 0) = false, ∃ _ : decide ((x.1.n : Int) ≤ 65536) = false, x.1.kind = 0 ∧ ¬ x.1.n ≤ 65536) := by
            rcases hfb : fitsB (os.take k) with _ | _
            · exact .inl ⟨rfl, trivial⟩
            by_cases a1 : x.1.kind = 0
            · by_cases a2 : x.1.n ≤ 65536
              · exact .inr (.inr (.inl ⟨rfl, by rw [a1]; rfl, decide_eq_true (by omega), a1, a2⟩))
              · exact .inr (.inr (.inr ⟨rfl, by rw [a1]; rfl, decide_eq_false (by omega), a1, a2⟩))
            · exact .inr (.inl ⟨rfl, by rw [bne_iff_ne]; omega, a1⟩)
          have HCS := Lib.hid hcase
          have HCK := Lib.hid hck
          have HCN := Lib.hid hcn
          clear hcase hck hcn
          go_upto_region 12 with (first
            | (refine wpList_load_mid rfl 32 (.tmp 45) rfl bk (off + k * 30) rfl (rowF x.1 x.2) _ HRG.out Tryd.underlying32 rfl HSZ.out ?_; rw [← HRE.out])
            | (refine wpList_store_row rfl 32 (.tmp 10) (.tmp 46) rfl wr.heap.size R rfl rfl _ _ (heap_alloc_new wr (.cells (zRow 0) 32)) HI.out (by rw [HR30.out]; rfl) HR1.out ?_; rw [World.setRow_alloc_new]))
          rcases HCS.out with ⟨f1, _⟩ | ⟨f1, f2, f3⟩ | ⟨f1, f2, f3, f4⟩ | ⟨f1, f2, f3, f4⟩
          all_goals
            have HF1 := Deep.mk f1
            rw [f1]
            have hck := HCK.out
            have hcn := HCN.out
            clear f1 HRG HSZ HR30 HR1 HI HRE HCS
            go_wp2
          · exact ⟨⟨k + 1, by omega, by go_num, by rw [HNX.out, HF1.out]; rfl, HB5⟩, by simp [intOf]; omega⟩
          · exact ⟨⟨k + 1, by omega, by go_num, by rw [HNX.out, HF1.out, decide_eq_true f3]; rfl, HB5⟩, by simp [intOf]; omega⟩
          · exact ⟨⟨k + 1, by omega, by go_num, by rw [HNX.out, HF1.out, decide_eq_true f4.2]; simp, HB5⟩, by simp [intOf]; omega⟩
          · exact ⟨⟨k + 1, by omega, by go_num, by rw [HNX.out, HF1.out, decide_eq_false f4.2, decide_eq_false (fun h => h f4.1)]; rfl, HB5⟩, by simp [intOf]; omega⟩
        · obtain rfl : k = N1 := by omega
          have htk : os.take k = os := List.take_of_length_le (by rw [HOL.out]; exact Nat.le_refl _)
          rw [htk]
          clear hlt
          have HB6 := Lib.hid (HB4.out.trans (HBR.out.mono HB4.out.size))
          have HSC6 := Lib.hid (show Sl wr wr.heap.size A5 (bytesL l) from Sv.keep (Sv.below HSC4.out HBR.out) HBR.out.size (fun _ _ => rfl))
          have HSF6 := Lib.hid (HSF7.out.up HBR.out HBR.out.size)
          clear HSC4 HSF7 HB4 HBR
          generalize wr = w6 at *
          go_wp2_with fail
          refine (list_any (bytesL l) A5 K c5 w6 HKL.out HSC6.out h5a h5b (HT.out.below HB6.out HT.out.lt) (by rw [HKL.out]; omega)).mono ?_
          rintro e w8 ⟨hb8, hg8⟩
          have HB8 := Lib.hid (HB6.out.trans (hb8.mono HB6.out.size))
          rcases hfb : fitsB os with _ | _
          · rcases hlx : list_ (bytesL l) with _ | mx
            · rw [hlx] at hg8
              simp only at hg8
              subst hg8
              clear hlx hb8 hfb HSF6 HSC6
              go_upto_region 17 with fail
              have HSB := Lib.hid (show Sl w8 w8.heap.size A b from Sv.keep (Sv.below HS.out HB8.out) HB8.out.size (fun _ _ => rfl))
              go_wp2_with fail
              refine (list_any b A n c w8 HBL.out HSB.out hlc hcm (HT.out.below HB8.out HT.out.lt) (by rw [HBL.out]; omega)).mono ?_
              rintro e wy ⟨hby, hgy⟩
              have HBY := Lib.hid (HB8.out.trans (hby.mono HB8.out.size))
              clear hby HSB
              rcases hlb : list_ b with _ | mm
              · rw [hlb] at hgy
                simp only at hgy
                subst hgy
                clear hlb
                go_wp2
                go_ret
                exact ⟨rfl, HBY.out⟩
              · rw [hlb] at hgy
                simp only at hgy
                obtain ⟨Am, cm, xs, rfl, hxm, hsm, hma, hmb⟩ := hgy
                have hfl := Fit.of_list (l := xs) (by rw [hlb, hxm]) (by rw [HBL.out]; exact hn) hsm.toks
                obtain ⟨hfit, hlok, hjd, hsz⟩ := hfl
                rw [HBL.out] at hsz
                have hne : xs ≠ [] := fun e => list_ne hlb (by rw [← hxm, e]; rfl)
                obtain ⟨q, hq⟩ : ∃ q, q = xs.length := ⟨_, rfl⟩
                have hmq : mm.length = q := by rw [← hxm, List.length_map, hq]
                rw [hmq] at hma
                rw [hmq]
                have hq4 : q ≤ 4000 := by rw [hq]; exact hfit.len
                have HXL := Deep.mk hq.symm
                have HSM := Lib.hid hsm
                have HFITX := Lib.hid hfit
                have hallx : ∀ x ∈ xs, MayF x.1 := fun x hx => (hlok x hx).1
                have HLS := Deep.mk (list_same hlok hne hjd)
                have hKx : (bytesL xs).length = sumF xs := bytesL_len xs hsm.toks
                have HKX : Deep ((bytesL xs).length ≤ n + 8) := ⟨by rw [hKx]; exact hsz⟩
                clear hlb hxm hsm hfit hlok hjd hsz hne hq hmq hKx
                go_wp2_with fail
                refine (fappend_any none 0 Am q cm [] xs wy wy.heap.size (Sv.nil _ _ _) HXL.out HSM.out (Nat.le_refl _) (HT.out.below HBY.out HT.out.lt) (HTAB.out.below HBY.out HTAB.out.lt) (by omega) (by simp) HFITX.out.acks HFITX.out.data (fun k hk => Nat.le_trans (HFITX.out.sum k hk) (by omega))).mono ?_
                rintro e wz ⟨hyes, _, hbz⟩
                obtain ⟨Az, cz, rfl, hza, hzb, hownz⟩ := hyes hallx
                rw [List.nil_append] at hza hownz
                rw [List.nil_append]
                obtain ⟨Kz, hKz⟩ : ∃ Kz, Kz = (bytesL xs).length := ⟨_, rfl⟩
                rw [← hKz] at hza hownz
                rw [← hKz]
                have hKz8 : Kz ≤ n + 8 := by rw [hKz]; exact HKX.out
                have HKZ := Deep.mk hKz.symm
                have HSZ := Lib.hid (show Sl wz wz.heap.size Az (bytesL xs) from Sv.of_own hownz)
                have HBZ := Lib.hid (HBY.out.trans (hbz.mono HBY.out.size))
                have HSMZ := Lib.hid (HSM.out.up hbz hbz.size)
                clear hyes hownz hbz hKz HSM HKX hallx
                go_wp2_with fail
                refine (list_any (bytesL xs) Az Kz cz wz HKZ.out HSZ.out hza hzb (HT.out.below HBZ.out HT.out.lt) (by rw [HKZ.out]; omega)).mono ?_
                rintro e wk ⟨hbk, hgk⟩
                rw [HLS.out] at hgk
                simp only at hgk
                obtain ⟨Ak, ck, ks, rfl, hkm, hsk, hka, hkb⟩ := hgk
                have hkl : (xs.map (·.1)).length = q := by rw [List.length_map, HXL.out]
                rw [hkl] at hka
                rw [hkl]
                have HKM := Deep.mk hkm
                have HKL2 : Deep (ks.length = q) := ⟨by have h := congrArg List.length hkm; rw [List.length_map, List.length_map, HXL.out] at h; exact h⟩
                have HSK := Lib.hid hsk
                have HSMK := Lib.hid (HSMZ.out.up hbk hbk.size)
                have HBK := Lib.hid (HBZ.out.trans (hbk.mono HBZ.out.size))
                have t9 : decide ((Kz : Int) ≤ (n : Int) + 8) = true := decide_eq_true (by omega)
                clear hbk hkm hsk hkl HSMZ HSZ HLS
                go_wp2_with (go_at_call 18; refine (samefall_yes Ak Am q ck cm ks xs wk HKM.out HKL2.out HSK.out HSMK.out (by omega)).mono ?_; rintro e wf ⟨rfl, hbf⟩; have HBF := Lib.hid (HBK.out.trans (hbf.mono HBK.out.size)); clear hbf)
                go_ret
                exact ⟨rfl, HBF.out⟩
            · rw [hlx] at hg8
              simp only at hg8
              obtain ⟨A8, c8, ms, rfl, _, _, _, _⟩ := hg8
              clear hlx hb8 hfb HSF6 HSC6
              go_upto_region 17 with fail
              have HSB := Lib.hid (show Sl w8 w8.heap.size A b from Sv.keep (Sv.below HS.out HB8.out) HB8.out.size (fun _ _ => rfl))
              go_wp2_with fail
              refine (list_any b A n c w8 HBL.out HSB.out hlc hcm (HT.out.below HB8.out HT.out.lt) (by rw [HBL.out]; omega)).mono ?_
              rintro e wy ⟨hby, hgy⟩
              have HBY := Lib.hid (HB8.out.trans (hby.mono HB8.out.size))
              clear hby HSB
              rcases hlb : list_ b with _ | mm
              · rw [hlb] at hgy
                simp only at hgy
                subst hgy
                clear hlb
                go_wp2
                go_ret
                exact ⟨rfl, HBY.out⟩
              · rw [hlb] at hgy
                simp only at hgy
                obtain ⟨Am, cm, xs, rfl, hxm, hsm, hma, hmb⟩ := hgy
                have hfl := Fit.of_list (l := xs) (by rw [hlb, hxm]) (by rw [HBL.out]; exact hn) hsm.toks
                obtain ⟨hfit, hlok, hjd, hsz⟩ := hfl
                rw [HBL.out] at hsz
                have hne : xs ≠ [] := fun e => list_ne hlb (by rw [← hxm, e]; rfl)
                obtain ⟨q, hq⟩ : ∃ q, q = xs.length := ⟨_, rfl⟩
                have hmq : mm.length = q := by rw [← hxm, List.length_map, hq]
                rw [hmq] at hma
                rw [hmq]
                have hq4 : q ≤ 4000 := by rw [hq]; exact hfit.len
                have HXL := Deep.mk hq.symm
                have HSM := Lib.hid hsm
                have HFITX := Lib.hid hfit
                have hallx : ∀ x ∈ xs, MayF x.1 := fun x hx => (hlok x hx).1
                have HLS := Deep.mk (list_same hlok hne hjd)
                have hKx : (bytesL xs).length = sumF xs := bytesL_len xs hsm.toks
                have HKX : Deep ((bytesL xs).length ≤ n + 8) := ⟨by rw [hKx]; exact hsz⟩
                clear hlb hxm hsm hfit hlok hjd hsz hne hq hmq hKx
                go_wp2_with fail
                refine (fappend_any none 0 Am q cm [] xs wy wy.heap.size (Sv.nil _ _ _) HXL.out HSM.out (Nat.le_refl _) (HT.out.below HBY.out HT.out.lt) (HTAB.out.below HBY.out HTAB.out.lt) (by omega) (by simp) HFITX.out.acks HFITX.out.data (fun k hk => Nat.le_trans (HFITX.out.sum k hk) (by omega))).mono ?_
                rintro e wz ⟨hyes, _, hbz⟩
                obtain ⟨Az, cz, rfl, hza, hzb, hownz⟩ := hyes hallx
                rw [List.nil_append] at hza hownz
                rw [List.nil_append]
                obtain ⟨Kz, hKz⟩ : ∃ Kz, Kz = (bytesL xs).length := ⟨_, rfl⟩
                rw [← hKz] at hza hownz
                rw [← hKz]
                have hKz8 : Kz ≤ n + 8 := by rw [hKz]; exact HKX.out
                have HKZ := Deep.mk hKz.symm
                have HSZ := Lib.hid (show Sl wz wz.heap.size Az (bytesL xs) from Sv.of_own hownz)
                have HBZ := Lib.hid (HBY.out.trans (hbz.mono HBY.out.size))
                have HSMZ := Lib.hid (HSM.out.up hbz hbz.size)
                clear hyes hownz hbz hKz HSM HKX hallx
                go_wp2_with fail
                refine (list_any (bytesL xs) Az Kz cz wz HKZ.out HSZ.out hza hzb (HT.out.below HBZ.out HT.out.lt) (by rw [HKZ.out]; omega)).mono ?_
                rintro e wk ⟨hbk, hgk⟩
                rw [HLS.out] at hgk
                simp only at hgk
                obtain ⟨Ak, ck, ks, rfl, hkm, hsk, hka, hkb⟩ := hgk
                have hkl : (xs.map (·.1)).length = q := by rw [List.length_map, HXL.out]
                rw [hkl] at hka
                rw [hkl]
                have HKM := Deep.mk hkm
                have HKL2 : Deep (ks.length = q) := ⟨by have h := congrArg List.length hkm; rw [List.length_map, List.length_map, HXL.out] at h; exact h⟩
                have HSK := Lib.hid hsk
                have HSMK := Lib.hid (HSMZ.out.up hbk hbk.size)
                have HBK := Lib.hid (HBZ.out.trans (hbk.mono HBZ.out.size))
                have t9 : decide ((Kz : Int) ≤ (n : Int) + 8) = true := decide_eq_true (by omega)
                clear hbk hkm hsk hkl HSMZ HSZ HLS
                go_wp2_with (go_at_call 18; refine (samefall_yes Ak Am q ck cm ks xs wk HKM.out HKL2.out HSK.out HSMK.out (by omega)).mono ?_; rintro e wf ⟨rfl, hbf⟩; have HBF := Lib.hid (HBK.out.trans (hbf.mono HBK.out.size)); clear hbf)
                go_ret
                exact ⟨rfl, HBF.out⟩
          · have hne : l ≠ [] := fun e => by rw [e] at HL; have := HL.out; simp at this; omega
            rw [list_bytes HLO.out hne (fitsB_all hfb HOS.out)] at hg8
            simp only at hg8
            obtain ⟨A8, c8, ms, rfl, hmm, hsm8, h8a, h8b⟩ := hg8
            have hml : (joinP (l.map (·.1))).length = k := by rw [← HOS.out, List.length_map, HOL.out]
            rw [hml] at h8a
            rw [hml]
            have HMM : Deep (ms.map (·.1) = os.map (·.1)) := ⟨by rw [hmm, HOS.out]⟩
            have HML : Deep (ms.length = k) := ⟨by have h := congrArg List.length hmm; rw [List.length_map, hml] at h; exact h⟩
            have HS8 := Lib.hid hsm8
            have HS9 := Lib.hid (HSF6.out.up hb8 hb8.size)
            clear hb8 hmm hsm8 hml hne hfb HSF6 HSC6
            go_upto_region 17 with (go_at_call 18; refine (samefall_yes A8 A7 k c8 c7 ms os w8 HMM.out HML.out HS8.out HS9.out (by omega)).mono ?_; rintro e w9 ⟨rfl, hb9⟩; have HB9 := Lib.hid (HB8.out.trans (hb9.mono HB8.out.size)); clear hb9)
            have HSB := Lib.hid (show Sl w9 w9.heap.size A b from Sv.keep (Sv.below HS.out HB9.out) HB9.out.size (fun _ _ => rfl))
            go_wp2_with fail
            refine (list_any b A n c w9 HBL.out HSB.out hlc hcm (HT.out.below HB9.out HT.out.lt) (by rw [HBL.out]; omega)).mono ?_
            rintro e wy ⟨hby, hgy⟩
            have HBY := Lib.hid (HB9.out.trans (hby.mono HB9.out.size))
            clear hby HSB
            rcases hlb : list_ b with _ | mm
            · rw [hlb] at hgy
              simp only at hgy
              subst hgy
              clear hlb
              go_wp2
              go_ret
              exact ⟨rfl, HBY.out⟩
            · rw [hlb] at hgy
              simp only at hgy
              obtain ⟨Am, cm, xs, rfl, hxm, hsm, hma, hmb⟩ := hgy
              have hfl := Fit.of_list (l := xs) (by rw [hlb, hxm]) (by rw [HBL.out]; exact hn) hsm.toks
              obtain ⟨hfit, hlok, hjd, hsz⟩ := hfl
              rw [HBL.out] at hsz
              have hne : xs ≠ [] := fun e => list_ne hlb (by rw [← hxm, e]; rfl)
              obtain ⟨q, hq⟩ : ∃ q, q = xs.length := ⟨_, rfl⟩
              have hmq : mm.length = q := by rw [← hxm, List.length_map, hq]
              rw [hmq] at hma
              rw [hmq]
              have hq4 : q ≤ 4000 := by rw [hq]; exact hfit.len
              have HXL := Deep.mk hq.symm
              have HSM := Lib.hid hsm
              have HFITX := Lib.hid hfit
              have hallx : ∀ x ∈ xs, MayF x.1 := fun x hx => (hlok x hx).1
              have HLS := Deep.mk (list_same hlok hne hjd)
              have hKx : (bytesL xs).length = sumF xs := bytesL_len xs hsm.toks
              have HKX : Deep ((bytesL xs).length ≤ n + 8) := ⟨by rw [hKx]; exact hsz⟩
              clear hlb hxm hsm hfit hlok hjd hsz hne hq hmq hKx
              go_wp2_with fail
              refine (fappend_any none 0 Am q cm [] xs wy wy.heap.size (Sv.nil _ _ _) HXL.out HSM.out (Nat.le_refl _) (HT.out.below HBY.out HT.out.lt) (HTAB.out.below HBY.out HTAB.out.lt) (by omega) (by simp) HFITX.out.acks HFITX.out.data (fun k hk => Nat.le_trans (HFITX.out.sum k hk) (by omega))).mono ?_
              rintro e wz ⟨hyes, _, hbz⟩
              obtain ⟨Az, cz, rfl, hza, hzb, hownz⟩ := hyes hallx
              rw [List.nil_append] at hza hownz
              rw [List.nil_append]
              obtain ⟨Kz, hKz⟩ : ∃ Kz, Kz = (bytesL xs).length := ⟨_, rfl⟩
              rw [← hKz] at hza hownz
              rw [← hKz]
              have hKz8 : Kz ≤ n + 8 := by rw [hKz]; exact HKX.out
              have HKZ := Deep.mk hKz.symm
              have HSZ := Lib.hid (show Sl wz wz.heap.size Az (bytesL xs) from Sv.of_own hownz)
              have HBZ := Lib.hid (HBY.out.trans (hbz.mono HBY.out.size))
              have HSMZ := Lib.hid (HSM.out.up hbz hbz.size)
              clear hyes hownz hbz hKz HSM HKX hallx
              go_wp2_with fail
              refine (list_any (bytesL xs) Az Kz cz wz HKZ.out HSZ.out hza hzb (HT.out.below HBZ.out HT.out.lt) (by rw [HKZ.out]; omega)).mono ?_
              rintro e wk ⟨hbk, hgk⟩
              rw [HLS.out] at hgk
              simp only at hgk
              obtain ⟨Ak, ck, ks, rfl, hkm, hsk, hka, hkb⟩ := hgk
              have hkl : (xs.map (·.1)).length = q := by rw [List.length_map, HXL.out]
              rw [hkl] at hka
              rw [hkl]
              have HKM := Deep.mk hkm
              have HKL2 : Deep (ks.length = q) := ⟨by have h := congrArg List.length hkm; rw [List.length_map, List.length_map, HXL.out] at h; exact h⟩
              have HSK := Lib.hid hsk
              have HSMK := Lib.hid (HSMZ.out.up hbk hbk.size)
              have HBK := Lib.hid (HBZ.out.trans (hbk.mono HBZ.out.size))
              have t9 : decide ((Kz : Int) ≤ (n : Int) + 8) = true := decide_eq_true (by omega)
              clear hbk hkm hsk hkl HSMZ HSZ HLS
              go_wp2_with (go_at_call 18; refine (samefall_yes Ak Am q ck cm ks xs wk HKM.out HKL2.out HSK.out HSMK.out (by omega)).mono ?_; rintro e wf ⟨rfl, hbf⟩; have HBF := Lib.hid (HBK.out.trans (hbf.mono HBK.out.size)); clear hbf)
              go_ret
              exact ⟨rfl, HBF.out⟩
  · obtain rfl := hno hall
    clear hyes hno hall
    go_upto_region 17 with fail
    have HSB := Lib.hid (show Sl w3 w3.heap.size A b from Sv.keep (Sv.below HS.out HB3.out) HB3.out.size (fun _ _ => rfl))
    go_wp2_with fail
    refine (list_any b A n c w3 HBL.out HSB.out hlc hcm (HT.out.below HB3.out HT.out.lt) (by rw [HBL.out]; omega)).mono ?_
    rintro e wy ⟨hby, hgy⟩
    have HBY := Lib.hid (HB3.out.trans (hby.mono HB3.out.size))
    clear hby HSB
    rcases hlb : list_ b with _ | mm
    · rw [hlb] at hgy
      simp only at hgy
      subst hgy
      clear hlb
      go_wp2
      go_ret
      exact ⟨rfl, HBY.out⟩
    · rw [hlb] at hgy
      simp only at hgy
      obtain ⟨Am, cm, xs, rfl, hxm, hsm, hma, hmb⟩ := hgy
      have hfl := Fit.of_list (l := xs) (by rw [hlb, hxm]) (by rw [HBL.out]; exact hn) hsm.toks
      obtain ⟨hfit, hlok, hjd, hsz⟩ := hfl
      rw [HBL.out] at hsz
      have hne : xs ≠ [] := fun e => list_ne hlb (by rw [← hxm, e]; rfl)
      obtain ⟨q, hq⟩ : ∃ q, q = xs.length := ⟨_, rfl⟩
      have hmq : mm.length = q := by rw [← hxm, List.length_map, hq]
      rw [hmq] at hma
      rw [hmq]
      have hq4 : q ≤ 4000 := by rw [hq]; exact hfit.len
      have HXL := Deep.mk hq.symm
      have HSM := Lib.hid hsm
      have HFITX := Lib.hid hfit
      have hallx : ∀ x ∈ xs, MayF x.1 := fun x hx => (hlok x hx).1
      have HLS := Deep.mk (list_same hlok hne hjd)
      have hKx : (bytesL xs).length = sumF xs := bytesL_len xs hsm.toks
      have HKX : Deep ((bytesL xs).length ≤ n + 8) := ⟨by rw [hKx]; exact hsz⟩
      clear hlb hxm hsm hfit hlok hjd hsz hne hq hmq hKx
      go_wp2_with fail
      refine (fappend_any none 0 Am q cm [] xs wy wy.heap.size (Sv.nil _ _ _) HXL.out HSM.out (Nat.le_refl _) (HT.out.below HBY.out HT.out.lt) (HTAB.out.below HBY.out HTAB.out.lt) (by omega) (by simp) HFITX.out.acks HFITX.out.data (fun k hk => Nat.le_trans (HFITX.out.sum k hk) (by omega))).mono ?_
      rintro e wz ⟨hyes, _, hbz⟩
      obtain ⟨Az, cz, rfl, hza, hzb, hownz⟩ := hyes hallx
      rw [List.nil_append] at hza hownz
      rw [List.nil_append]
      obtain ⟨Kz, hKz⟩ : ∃ Kz, Kz = (bytesL xs).length := ⟨_, rfl⟩
      rw [← hKz] at hza hownz
      rw [← hKz]
      have hKz8 : Kz ≤ n + 8 := by rw [hKz]; exact HKX.out
      have HKZ := Deep.mk hKz.symm
      have HSZ := Lib.hid (show Sl wz wz.heap.size Az (bytesL xs) from Sv.of_own hownz)
      have HBZ := Lib.hid (HBY.out.trans (hbz.mono HBY.out.size))
      have HSMZ := Lib.hid (HSM.out.up hbz hbz.size)
      clear hyes hownz hbz hKz HSM HKX hallx
      go_wp2_with fail
      refine (list_any (bytesL xs) Az Kz cz wz HKZ.out HSZ.out hza hzb (HT.out.below HBZ.out HT.out.lt) (by rw [HKZ.out]; omega)).mono ?_
      rintro e wk ⟨hbk, hgk⟩
      rw [HLS.out] at hgk
      simp only at hgk
      obtain ⟨Ak, ck, ks, rfl, hkm, hsk, hka, hkb⟩ := hgk
      have hkl : (xs.map (·.1)).length = q := by rw [List.length_map, HXL.out]
      rw [hkl] at hka
      rw [hkl]
      have HKM := Deep.mk hkm
      have HKL2 : Deep (ks.length = q) := ⟨by have h := congrArg List.length hkm; rw [List.length_map, List.length_map, HXL.out] at h; exact h⟩
      have HSK := Lib.hid hsk
      have HSMK := Lib.hid (HSMZ.out.up hbk hbk.size)
      have HBK := Lib.hid (HBZ.out.trans (hbk.mono HBZ.out.size))
      have t9 : decide ((Kz : Int) ≤ (n : Int) + 8) = true := decide_eq_true (by omega)
      clear hbk hkm hsk hkl HSMZ HSZ HLS
      go_wp2_with (go_at_call 18; refine (samefall_yes Ak Am q ck cm ks xs wk HKM.out HKL2.out HSK.out HSMK.out (by omega)).mono ?_; rintro e wf ⟨rfl, hbf⟩; have HBF := Lib.hid (HBK.out.trans (hbf.mono HBK.out.size)); clear hbf)
      go_ret
      exact ⟨rfl, HBF.out⟩

theorem fback_any (l : List (PF × SA)) (b : List UInt8) (A2 : Option Addr) (len c2 : Nat) (A : Option Addr) (n c : Nat) (w : World) (hT : PT w) (hTab : Tab w) (hl : l.length = len) (hlen : len ≤ 140737488355328) (hf : Sf w w.heap.size A2 l)
    (hb : b.length = n) (hlc : n ≤ c) (hcm : c ≤ maxLen) (hs : Sl w w.heap.size A b) (hn : n ≤ 140737488351232) :
    Calls Tryd.prog 4 #[.slice A2 len c2, .slice A n c] w fun e w' => e = .returned (.bool true) ∧ Below w.heap.size w w' := by
  by_cases h : 4000 < greatN 0 l ∨ 3000 < n
  · exact fback_out l A2 len c2 A n c w hT hl hf hlen hn h
  · exact fback_in l b A2 len c2 A n c w hT hTab hl hf hb hlc hcm hs (fun h1 => h (.inl h1)) (by omega)
end

end Go.Proofs.YtnbeplfceflnjaaDoor

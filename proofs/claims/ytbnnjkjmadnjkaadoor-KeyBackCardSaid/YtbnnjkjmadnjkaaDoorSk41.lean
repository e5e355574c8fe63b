/-
  What Unmask finds in a packet that Seal made, as lists of bytes. No program is walked here.
  Append of zeros (append(s, make([]T, n)...)) to a row of our own. No program is named here.
  head.Split by what its answers are: words for the statements of layer 3 and above.
  What Split tells of a packet's bytes, whole or cut, in plain lists.
-/
import Derived.Test.YtbnnjkjmadnjkaaDoorSk28
import Derived.Test.YtbnnjkjmadnjkaaDoorKpSeal
import Derived.Test.YtbnnjkjmadnjkaaDoorSk2
import Derived.Lib.AppendZeros
import Derived.Lib.AppendZerosOnto
import Derived.Test.YtbnnjkjmadnjkaaDoorSk39
import Derived.BigQuiet
namespace Go.Proofs.YtbnnjkjmadnjkaaDoor
section
set_option linter.unusedVariables false

theorem protL_is (m b : List UInt8) (sp n a : Nat) : protK m b sp n a = protL m b sp n a := rfl
/-- The first bytes of a packet that Seal made, with the protection off. -/
def unL (k : KS) (b : List UInt8) (sp a : Nat) : List UInt8 := bareL (mkK k.hp b a) b sp a
theorem unL_pack (k : KS) (sp n pn : Nat) (H pl : List UInt8) (hn1 : 1 ≤ n) (hn : n ≤ 4) (hH : n + 1 ≤ H.length) (h4 : 4 ≤ n + pl.length) :
    (unL k (packK k sp n pn H pl) sp (H.length - n)).length = H.length - n + 4 ∧ (unL k (packK k sp n pn H pl) sp (H.length - n)).take (H.length - n + n) = H ∧
      (unL k (packK k sp n pn H pl) sp (H.length - n)).getD 0 0 = H.getD 0 0 ∧ ((unL k (packK k sp n pn H pl) sp (H.length - n)).drop (H.length - n)).take n = H.drop (H.length - n) ∧
      (packK k sp n pn H pl).drop (H.length - n + n) = sealK k.key (nonK k.iv pn) H pl := by
  obtain ⟨a, ha⟩ : ∃ a, a = H.length - n := ⟨_, rfl⟩
  have hrl := raw_len k pn H pl
  have ha1 : 1 ≤ a := by omega
  have han : a + n = H.length := by omega
  have hraw : rawK k pn H pl = H ++ sealK k.key (nonK k.iv pn) H pl := rfl
  have hm : mkK k.hp (protL (mkK k.hp (rawK k pn H pl) a) (rawK k pn H pl) sp n a) a = mkK k.hp (rawK k pn H pl) a := by
    rw [mkK, mkK, prot_smp _ _ _ _ _ ha1 hn (by omega)]
  have hp : packK k sp n pn H pl = protL (mkK k.hp (rawK k pn H pl) a) (rawK k pn H pl) sp n a := by rw [ha]; rfl
  have ht : (rawK k pn H pl).take (a + n) = H := by rw [hraw, han]; exact List.take_left' rfl
  have hu : unL k (packK k sp n pn H pl) sp a = bareL (mkK k.hp (rawK k pn H pl) a) (protL (mkK k.hp (rawK k pn H pl) a) (rawK k pn H pl) sp n a) sp a := by rw [unL, hp, hm]
  rw [← ha, hu, hp]
  generalize mkK k.hp (rawK k pn H pl) a = M at *
  refine ⟨?_, ?_, ?_, ?_, ?_⟩
  · rw [bare_len _ _ _ _ (by rw [protL_len]; omega)]
  · rw [bare_hdr _ _ _ _ _ ha1 hn (by omega), ht]
  · rw [bare_0 _ _ _ _ _ ha1 (by omega), hraw, List.getD_eq_getElem?_getD, List.getElem?_append_left (by omega), ← List.getD_eq_getElem?_getD]
  · rw [bare_num _ _ _ _ _ ha1 hn (by omega)]
    have := congrArg (List.drop a) ht
    rw [List.drop_take, show a + n - a = n by omega] at this
    exact this
  · rw [prot_box _ _ _ _ _ ha1, hraw, han]
    exact List.drop_left' rfl
end

section
open Go.RowKit

theorem zeroCells_rep (u : Value) (k : Nat) : (Builtin.zeroCells #[u] k).toList = List.replicate k u := by
  apply List.ext_getElem
  · simp [Builtin.zeroCells]
  · intro i h1 h2
    simp [Builtin.zeroCells, Nat.mod_one]

theorem run_append_zeros_own {P : Program} (w : World) (base : Nat) (t tn ty e : TypeId) (i : TypeInfo) (z u : Value) (kq kn : IntKind) (ht : P.underlying t = some (.slice e)) (htn : P.underlying tn = some (.int kn)) (hi : P.info? e = some i) (hz : i.zero = some z)
    (hsize : i.size = 1) (hby : i.bytes = 1) (hzc : z.cells = #[u]) (hu : u.oneCell' = true)
    (v : Value) (n : Nat) (xs : List Value) (hown : w.ownsRow base e 1 v n xs) (k : Nat) (h0 : 0 < k) (h63 : n + k ≤ maxLen) (hbytes : n + k ≤ 140737488355328) (hbase : base ≤ w.heap.size) :
    ∃ v' w', (Builtin.append_ #[t, tn] ty #[v, .int kq k]).run P w = .ok v' w' ∧ w'.ownsRow base e 1 v' (n + k) (xs ++ List.replicate k u) ∧ w.grownBy w' v.ownBlock := by
  have hlen : (xs ++ List.replicate k u).length = n + k := by rw [List.length_append, List.length_replicate, hown.1, Nat.mul_one]
  have hzr : Builtin.zeroCells z.cells k = (List.replicate k u).toArray := by rw [hzc]; apply Array.ext'; rw [zeroCells_rep]
  have grown : ∀ (old : Nat), old < n + k → ∀ (row : Option Nat),
      (w.drew.alloc (.cells (xs.toArray ++ Builtin.zeroCells z.cells k ++ Builtin.zeroCells z.cells (grownCap w (n + k) old e - (n + k))) e)).ownsRow base e 1
        (.slice (some ⟨w.heap.size, 0, none⟩) (n + k) (grownCap w (n + k) old e)) (n + k) (xs ++ List.replicate k u) ∧
      w.grownBy (w.drew.alloc (.cells (xs.toArray ++ Builtin.zeroCells z.cells k ++ Builtin.zeroCells z.cells (grownCap w (n + k) old e - (n + k))) e)) row := by
    intro old ho row
    have hge := grownCap_ge w (n + k) old e
    have hcm : grownCap w (n + k) old e ≤ maxLen := grownCap_le_maxLen w (n + k) old e h63
    refine ⟨⟨by rw [hlen, Nat.mul_one], .inr ⟨w.heap.size, _, _, rfl, hbase, heap_alloc_new w.drew _, hge, hcm, ?_, ?_⟩⟩, ⟨rfl, rfl, rfl, by simp, fun j hj _ => by first | exact heap_alloc_old w.drew _ hj | exact heap_alloc_old w.drew hj _⟩⟩
    · rw [hzr]
      have := hown.1
      have h1 : #[u].size = 1 := rfl
      simp only [Array.size_append, List.size_toArray, size_zeroCells, hzc, List.length_replicate, h1, Nat.mul_one]
      omega
    · rw [hzr]
      simp only [Array.toList_append, List.append_assoc]
      rw [← List.append_assoc, Nat.mul_one, ← hlen]
      exact List.take_left
  have h48 : k * i.bytes ≤ 281474976710656 := by rw [hby]; omega
  have hfit : ∀ old, old < n + k → Builtin.nextslicecap (n + k) old * i.bytes ≤ 281474976710656 := fun old ho => growslice_fits ho (by rw [hby]; omega)
  have hm63 : ((n + k : Nat) : Int) ≤ 9223372036854775807 := by unfold maxLen at h63; omega
  rcases hown.2 with ⟨rfl, rfl⟩ | ⟨g, cap, cur, rfl, hbg, hg, hnc, hcm, hcs, htake⟩
  · have hx : xs = [] := List.eq_nil_of_length_eq_zero (by simpa using hown.1)
    subst hx
    have hr := Lib.run_append_grow_zeros (P := P) w t tn ty e i z kq kn ht htn hi hz none 0 0 [] (by rw [run_firstCells_none]) k h0 (by omega) (by omega) hm63 h48 (hfit 0 (by omega))
    have hgr := grown 0 (by omega) (Value.ownBlock (.slice none 0 0))
    exact ⟨_, _, hr, hgr.1, hgr.2⟩
  · by_cases hroom : n + k ≤ cap
    · have hf2 : n * i.size + (List.replicate k u).length ≤ cur.size := by rw [hsize, List.length_replicate, hcs]; omega
      have hst := run_storeCells_at P g (n * i.size) e (List.replicate k u) 0 cur w hg (by simpa using hf2) (fun x hx => by rw [(List.mem_replicate.1 hx).2]; exact hu)
      simp only [Nat.add_zero] at hst
      have hr : (Builtin.append_ #[t, tn] ty #[.slice (some ⟨g, 0, none⟩) n cap, .int kq k]).run P w = .ok (.slice (some ⟨g, 0, none⟩) (n + k) cap) (w.setRow g (cur.toList.take (n * i.size) ++ List.replicate k u ++ cur.toList.drop (n * i.size + (List.replicate k u).length)).toArray) := by
        have hk : k ≠ 0 := by omega
        have hw : IntKind.i64.wrap (k : Int) = k := by rw [IntKind.wrap_i64]; omega
        have h48i : ¬ (281474976710656 < (k : Int) * (i.bytes : Int)) := by rw [← Int.natCast_mul]; omega
        have hneg : ¬ ((k : Int) < 0) := by omega
        have hns : ¬ (k * i.size = 0) := Nat.mul_ne_zero hk (by omega)
        simp [Builtin.append_, run_underlying ht, run_underlying htn, sizeOf, typeInfo, zeroValue, hi, hz, asInt, asIntOf, hw, hneg, hns, h48i, hroom, hzr, Addr.add_lit, hst]
      refine ⟨_, _, hr, ⟨by rw [hlen, Nat.mul_one], .inr ⟨g, cap, _, rfl, hbg, setRow_heap w g cur _ e _ hg, hroom, hcm, ?_, ?_⟩⟩, ⟨rfl, rfl, rfl, by simp, fun j _ hj => setRow_other w g j _ (fun e => hj (by simp [Value.ownBlock, e]))⟩⟩
      · simp only [List.size_toArray, List.length_append, List.length_take, List.length_drop, Array.length_toList, List.length_replicate, hsize]
        omega
      · rw [hsize, htake, Nat.mul_one, ← hlen]
        exact List.take_left
    · have holds : ∀ j x, xs[j]? = some x → w.cell? ((⟨g, 0, none⟩ : Addr).add j) = some x := hown.cells (g := g) rfl
      have hold := run_firstCells_some (P := P) w.drew i.size n ⟨g, 0, none⟩ n cap xs (by rw [hsize]; exact hown.1) (by simpa using holds)
      have hr := Lib.run_append_grow_zeros (P := P) w t tn ty e i z kq kn ht htn hi hz (some ⟨g, 0, none⟩) n cap xs hold k h0 (by omega) (by omega) hm63 h48 (hfit cap (by omega))
      have hgr := grown cap (by omega) (Value.ownBlock (.slice (some ⟨g, 0, none⟩) n cap))
      exact ⟨_, _, hr, hgr.1, hgr.2⟩

theorem wpList_append_zeros {P : Program} (w : World) {ops : Array Oper} {rest : List Oper} {o : Oper} {a : Act} {Q : Exit → Act → World → Prop} (hgd : o.guard = none) (s x : Operand) (t tn : TypeId)
    (ho : o.op = .call { callee := .builtin .append, args := #[s, x], argTypes := #[t, tn] })
    (base : Nat) (e : TypeId) (i : TypeInfo) (z u : Value) (kq kn : IntKind) (ht : P.underlying t = some (.slice e)) (htn : P.underlying tn = some (.int kn)) (hi : P.info? e = some i) (hz : i.zero = some z)
    (hsize : i.size = 1) (hby : i.bytes = 1) (hzc : z.cells = #[u]) (hu : u.oneCell' = true)
    (v : Value) (n : Nat) (xs : List Value) (hs : a.eval s = v) (hown : w.ownsRow base e 1 v n xs) (k : Nat) (hx : a.eval x = .int kq (k : Int)) (h0 : 0 < k) (h63 : n + k ≤ maxLen) (hbytes : n + k ≤ 140737488355328) (hbase : base ≤ w.heap.size)
    (h : ∀ v' w', w'.ownsRow base e 1 v' (n + k) (xs ++ List.replicate k u) → w.grownBy w' v.ownBlock → wpList P ops Q rest (a.put o.dst v') w') :
    wpList P ops Q (o :: rest) a w := by
  refine wpList_plain hgd fun K hK => ?_
  obtain ⟨v', w', hrun, h2, h3⟩ := run_append_zeros_own (P := P) w base t tn o.type e i z u kq kn ht htn hi hz hsize hby hzc hu v n xs hown k h0 h63 hbytes hbase
  unfold Oper.wp execOp
  simp only [ho, resolve, invoke, builtin, Sem.run_bind, Sem.run_pure, Result.andThen_ok, List.map_toArray, List.map_cons, List.map_nil, hs, hx, hrun]
  exact hK _ _ (h v' w' h2 h3)
end

section
open Go.RowKit
set_option linter.unusedVariables false

/-- A new block, as a slice. -/
theorem sv_block (w : World) (cs : Array Value) (t : TypeId) (B : Nat) (hB : w.heap.size < B) : Sv (w.alloc (.cells cs t)) B (some ⟨w.heap.size, 0, none⟩) cs.toList := by
  intro _
  refine ⟨w.heap.size, 0, rfl, hB, fun i v hv => ?_⟩
  rw [Nat.zero_add]
  have := cell_of_row (w.alloc (.cells cs t)) w.heap.size i cs t (0, 0) (heap_alloc_new w _)
  rw [this]
  simpa using hv

/-- What Split tells: the packet's parts, the place behind its header, the place behind it. -/
def splitP (l : List UInt8) (own : Int) : PL :=
  if (firstS l).toNat / 128 = 1 then ⟨(spS (firstS l) (nextS l)).1, (longD l (firstS l) (nextS l)).1, (longR l (firstS l) (nextS l)).1, (longT l (firstS l) (nextS l)).1⟩ else ⟨2, (shortD l own (nextS l)).1, [], []⟩
def splitA (l : List UInt8) (own : Int) : Option Nat := if (firstS l).toNat / 128 = 1 then (longN l (firstS l) (nextS l)).2 else (shortD l own (nextS l)).2
def splitN (l : List UInt8) (own : Int) : Nat := if (firstS l).toNat / 128 = 1 then (longN l (firstS l) (nextS l)).1 else l.length - (splitA l own).getD 0
def splitT (l : List UInt8) (own : Int) : Option Nat := (hTakeS l (needS (splitA l own) (decide ((20 : Int) ≤ (splitN l own : Int)))) (splitN l own)).2

theorem ps_known {l : List UInt8} {own : Int} {p : PL} {n : Nat} {s2 : Option Nat} (h : PS l own p n s2) : p = splitP l own ∧ s2 = splitA l own ∧ (hTakeS l (needS s2 (decide ((20 : Int) ≤ (n : Int)))) n).2 = splitT l own := by
  have hx := (firstS l).toNat_lt
  have hc : (firstS l).toNat / 128 = 0 ∨ (firstS l).toNat / 128 = 1 := by omega
  rcases hc with hc | hc
  · obtain ⟨rfl, rfl, hn⟩ := h.2 hc
    have h1 : ¬ (firstS l).toNat / 128 = 1 := by omega
    refine ⟨by unfold splitP; rw [if_neg h1], by unfold splitA; rw [if_neg h1], ?_⟩
    unfold splitT splitN
    rw [if_neg h1]
    unfold splitA
    rw [if_neg h1]
    rcases hs : (shortD l own (nextS l)).2 with _ | a
    · have hz : ∀ (b : Bool) (m : Nat), hTakeS l (needS none b) m = ([], none) := fun b m => by cases b <;> rfl
      rw [hz, hz]
    · rw [hn a hs]
      rfl
  · obtain ⟨rfl, rfl, rfl⟩ := h.1 hc
    refine ⟨by unfold splitP; rw [if_pos hc], by unfold splitA; rw [if_pos hc], ?_⟩
    unfold splitT splitN splitA
    rw [if_pos hc, if_pos hc]

theorem split_err {l : List UInt8} {own : Int} (ht : splitT l own = none) (h64 : -9223372036854775808 ≤ own ∧ own ≤ 9223372036854775807) (A : Option Addr) (len c : Nat) (w : World) (hl : l.length = len) (hr : Sl w w.heap.size A l) (hc : len ≤ c) (hm : c ≤ maxLen) (hlen : len ≤ 1048576) :
    Calls Tryd.prog 7 #[.slice A len c, .int .i64 own] w fun e w' => e = .returned (.tuple #[.agg #[.int .u8 0, .slice none 0 0, .slice none 0 0, .slice none 0 0, .int .i64 0, .slice none 0 0], .slice none 0 0, .int .i64 2]) ∧ Below w.heap.size w w' := by
  refine (split_any own h64 l A len c w hl hr hc hm hlen).mono ?_
  rintro e w' ⟨hb, p, n, s2, hps, hmt⟩
  rw [(ps_known hps).2.2, ht] at hmt
  exact ⟨hmt, hb⟩

/-- What Split answers where there is a packet. -/
def SplitOk (w : World) (l : List UInt8) (p : PL) (a t : Nat) (e : Ending) (w' : World) : Prop :=
  ∃ A1 c1 A2 c2 A3 c3 A4 A5, t ≤ l.length ∧ e = .returned (.tuple #[.agg #[.int .u8 (p.sp : Int), .slice A1 p.dst.length c1, .slice A2 p.src.length c2, .slice A3 p.tok.length c3, .int .i64 (a : Int), .slice A4 t t], .slice A5 (l.length - t) (l.length - t), .int .i64 0]) ∧
    Sl w' w'.heap.size A1 p.dst ∧ Sl w' w'.heap.size A2 p.src ∧ Sl w' w'.heap.size A3 p.tok ∧ Sl w' w'.heap.size A4 (l.take t) ∧ Sl w' w'.heap.size A5 (l.drop t) ∧ Below w.heap.size w w'

theorem split_ok {l : List UInt8} {own : Int} {a t : Nat} (ht : splitT l own = some t) (ha : splitA l own = some a) (h64 : -9223372036854775808 ≤ own ∧ own ≤ 9223372036854775807) (A : Option Addr) (len c : Nat) (w : World) (hl : l.length = len) (hr : Sl w w.heap.size A l) (hc : len ≤ c) (hm : c ≤ maxLen) (hlen : len ≤ 1048576) :
    Calls Tryd.prog 7 #[.slice A len c, .int .i64 own] w (SplitOk w l (splitP l own) a t) := by
  refine (split_any own h64 l A len c w hl hr hc hm hlen).mono ?_
  rintro e w' ⟨hb, p, n, s2, hps, hmt⟩
  obtain ⟨rfl, rfl, hT⟩ := ps_known hps
  rw [hT, ht] at hmt
  obtain ⟨a', A1, c1, A2, c2, A3, c3, A4, A5, h1, h2, h3, h4, h5, h6, h7, h8⟩ := hmt
  rw [ha] at h2
  obtain rfl := Option.some.inj h2
  exact ⟨A1, c1, A2, c2, A3, c3, A4, A5, h1, h3, h4, h5, h6, h7, h8, hb⟩

theorem k_put1 (A1 : Option Addr) (c1 : Nat) (w : World) (h1 : Sl w w.heap.size A1 [1, 2]) (hT : Tab w) :
    Calls Tryd.prog 15 #[.agg #[.int .u8 0, .slice A1 2 c1, .slice none 0 0, .slice none 0 0, .bool false, .int .u64 2, .int .i64 4], .int .i64 1162] w (Gave w [195, 0, 0, 0, 1, 2, 1, 2, 0, 0, 68, 142, 0, 0, 0, 2] fun v => .tuple #[v, .int .i64 0]) := by
  have h := hput_ok 0 4 1162 2 [1, 2] [] [] false A1 c1 none 0 none 0 w (by decide) (by omega) h1 (Sv.nil _ _ _) (Sv.nil _ _ _) (by simp) hT (.inl rfl) (by simp) (by simp) (by simp)
  rw [show headB 0 4 [1, 2] [] [] false 2 1162 = [195, 0, 0, 0, 1, 2, 1, 2, 0, 0, 68, 142, 0, 0, 0, 2] by decide +kernel] at h
  exact h

theorem k_put2 (A1 : Option Addr) (c1 : Nat) (w : World) (h1 : Sl w w.heap.size A1 [5]) (hT : Tab w) :
    Calls Tryd.prog 15 #[.agg #[.int .u8 2, .slice A1 1 c1, .slice none 0 0, .slice none 0 0, .bool true, .int .u64 258, .int .i64 1], .int .i64 9] w (Gave w [68, 5, 2] fun v => .tuple #[v, .int .i64 0]) := by
  have h := hput_ok 2 1 9 258 [5] [] [] true A1 c1 none 0 none 0 w (by decide) (by omega) h1 (Sv.nil _ _ _) (Sv.nil _ _ _) (by simp) hT (.inr (.inr rfl)) (by simp) (by simp) (by simp)
  rw [show headB 2 1 [5] [] [] true 258 9 = [68, 5, 2] by decide +kernel] at h
  exact h

/-- The chapter's datagrams. -/
def kA : List UInt8 := [65] ++ List.replicate 20 0
def kB : List UInt8 := [211, 0, 0, 0, 1] ++ List.replicate 30 0
theorem k_a1 : splitT kA 1 = none := by decide +kernel
theorem k_a0 : splitT kA 0 = some 21 ∧ splitA kA 0 = some 1 ∧ (splitP kA 0).sp = 2 := by decide +kernel
theorem k_z : splitT (List.replicate 31 0) 0 = none := by decide +kernel
theorem k_b : splitT kB 0 = none := by decide +kernel

theorem rep_cell (k : Nat) : List.replicate k (Value.int .u8 0) = (List.replicate k (0 : UInt8)).map cell8 := by rw [List.map_replicate]; rfl

theorem k_split0 (A : Option Addr) (c : Nat) (w : World) (hr : Sl w w.heap.size A kA) (hc : 21 ≤ c) (hm : c ≤ maxLen) :
    Calls Tryd.prog 7 #[.slice A 21 c, .int .i64 0] w fun e w' => ∃ A1 n1 c1 A2 n2 c2 A3 n3 c3 A4 A5, e = .returned (.tuple #[.agg #[.int .u8 2, .slice A1 n1 c1, .slice A2 n2 c2, .slice A3 n3 c3, .int .i64 1, .slice A4 21 21], .slice A5 0 0, .int .i64 0]) ∧ Below w.heap.size w w' := by
  refine (split_ok k_a0.1 k_a0.2.1 (by omega) A 21 c w rfl hr hc hm (by omega)).mono ?_
  rintro e w' ⟨A1, c1, A2, c2, A3, c3, A4, A5, _, rfl, _, _, _, _, _, hb⟩
  rw [k_a0.2.2]
  exact ⟨A1, _, c1, A2, _, c2, A3, _, c3, A4, A5, rfl, hb⟩

def Z6 (e : Ending) (w w' : World) : Prop := e = .returned (.tuple #[.agg #[.int .u8 0, .slice none 0 0, .slice none 0 0, .slice none 0 0, .int .i64 0, .slice none 0 0], .slice none 0 0, .int .i64 2]) ∧ Below w.heap.size w w'

theorem k_b_use {w : World} {base : Nat} {v : Value} (h : w.ownsRow base 5 1 v 35 (([211, 0, 0, 0, 1] : List UInt8).map cell8 ++ List.replicate 30 (.int .u8 0))) :
    ∃ A c, v = .slice A 35 c ∧ Hid (Calls Tryd.prog 7 #[.slice A 35 c, .int .i64 0] w fun e w' => Z6 e w w') := by
  rw [rep_cell, ← List.map_append] at h
  obtain ⟨A, c, rfl, h1, h2⟩ := own_form h
  exact ⟨A, c, rfl, Lib.hid (split_err k_b (by omega) A 35 c w rfl (Sv.of_own h) h1 h2 (by omega))⟩

theorem k_z_use {w : World} {base g : Nat} (h : w.ownsRow base 5 1 (.slice (some ⟨g, 0, none⟩) 31 31) 31 (madeCells (Value.int .u8 0).cells (31 * 1)).toList) :
    Hid (Calls Tryd.prog 7 #[.slice (some ⟨g, 0, none⟩) 31 31, .int .i64 0] w fun e w' => Z6 e w w') := by
  rw [show (madeCells (Value.int .u8 0).cells (31 * 1)).toList = (List.replicate 31 (0 : UInt8)).map cell8 by kernel_rfl] at h
  exact Lib.hid (split_err k_z (by omega) _ 31 31 w rfl (Sv.of_own h) (Nat.le_refl _) (by unfold maxLen; omega) (by omega))

def KS0 (w : World) (e : Ending) (w' : World) : Prop := ∃ A1 n1 c1 A2 n2 c2 A3 n3 c3 A4 A5, e = .returned (.tuple #[.agg #[.int .u8 2, .slice A1 n1 c1, .slice A2 n2 c2, .slice A3 n3 c3, .int .i64 1, .slice A4 21 21], .slice A5 0 0, .int .i64 0]) ∧ Below w.heap.size w w'
end

section
set_option linter.unusedVariables false

theorem first_of {l t : List UInt8} {x : UInt8} (h : l = x :: t) (h6 : x.toNat / 64 % 2 = 1) : firstS l = x ∧ nextS l = some 1 := by
  subst h
  have h1 : octS (x :: t) (some 0) = (x, some 1) := rfl
  have h2 : firstS (x :: t) = x := by unfold firstS; rw [h1]
  refine ⟨h2, ?_⟩
  unfold nextS
  rw [h1, h2, h6]
  rfl

/-- A long packet's bytes, whatever the protected bits are. -/
theorem long_whole {l r : List UInt8} {x : UInt8} {sp m : Nat} {dst src tok : List UInt8} (own : Int) (hl : l = x :: (longB sp dst src tok m ++ r)) (hsp : sp = 0 ∨ sp = 1) (hx : x.toNat / 16 = 12 + 2 * sp) (htk : sp = 1 → tok = [])
    (hd : dst.length ≤ 20) (hs : src.length ≤ 20) (ht : tok.length ≤ 1048576) (hm : m ≤ 4611686018427387903) :
    splitP l own = ⟨sp, dst, src, tok⟩ ∧ splitA l own = some (1 + (longB sp dst src tok m).length) ∧ splitN l own = m := by
  obtain ⟨hf, hn⟩ := first_of hl (by omega)
  have h128 : (firstS l).toNat / 128 = 1 := by rw [hf]; have := x.toNat_lt; omega
  obtain ⟨e1, e2, e3, e4, e5⟩ := long_at hl (by
    rcases hsp with rfl | rfl
    · exact .inl ⟨rfl, by omega⟩
    · exact .inr ⟨rfl, by omega, htk rfl⟩) hd hs ht hm
  unfold splitP splitA splitN
  rw [if_pos h128, if_pos h128, if_pos h128, hf, hn, e1, e2, e3, e4, e5]
  exact ⟨rfl, rfl, rfl⟩

theorem splitT_some {l : List UInt8} {own : Int} {a n : Nat} (ha : splitA l own = some a) (hn : splitN l own = n) (h20 : 20 ≤ n) (hle : n ≤ l.length - a) : splitT l own = some (a + n) := by
  unfold splitT
  rw [ha, hn, show decide ((20 : Int) ≤ (n : Int)) = true from decide_eq_true (by omega)]
  unfold needS hTakeS
  simp only [if_true]
  rw [if_pos hle]

/-- A short packet's bytes. -/
theorem short_whole {l r : List UInt8} {x : UInt8} {dst : List UInt8} (hl : l = x :: (dst ++ r)) (hx : x.toNat / 32 = 2) (hd : dst.length ≤ 20) :
    splitP l dst.length = ⟨2, dst, [], []⟩ ∧ splitA l dst.length = some (1 + dst.length) ∧ splitN l dst.length = r.length := by
  obtain ⟨hf, hn⟩ := first_of hl (by omega)
  have h128 : ¬ (firstS l).toNat / 128 = 1 := by rw [hf]; omega
  have hdr : l.drop 1 = dst ++ r := by rw [hl]; rfl
  have hS : shortD l dst.length (some 1) = (dst, some (1 + dst.length)) := by
    unfold shortD
    rw [show decide ((0 : Int) ≤ (dst.length : Int)) = true from decide_eq_true (by omega), show decide ((dst.length : Int) ≤ 20) = true from decide_eq_true (by omega)]
    simp only [Bool.and_self, needS, if_true, Int.toNat_natCast]
    exact (takeS_at hdr).1
  have hA : splitA l dst.length = some (1 + dst.length) := by
    unfold splitA
    rw [if_neg h128, hn, hS]
  refine ⟨?_, hA, ?_⟩
  · unfold splitP
    rw [if_neg h128, hn, hS]
  · unfold splitN
    rw [if_neg h128, hA, hl]
    simp
    omega

/-- A long packet that is cut short is none. -/
theorem cut_none {l : List UInt8} {x : UInt8} {sp m c : Nat} {dst src tok r : List UInt8} (own : Int) (hl : l = x :: (longB sp dst src tok m ++ r)) (hsp : sp = 0 ∨ sp = 1) (hx : x.toNat / 16 = 12 + 2 * sp) (htk : sp = 1 → tok = [])
    (hd : dst.length ≤ 20) (hs : src.length ≤ 20) (ht : tok.length ≤ 1048576) (hm : m ≤ 4611686018427387903) (hr : r.length = m) (hc : c < l.length) : splitT (l.take c) own = none := by
  rcases h : splitT (l.take c) own with _ | t
  · rfl
  exfalso
  unfold splitT at h
  obtain ⟨a, ha, hle, _⟩ := takeS_some h
  obtain ⟨ha, h20⟩ := needS_some ha
  have h20 := of_decide_eq_true h20
  obtain ⟨_, e2, e3⟩ := long_whole own hl hsp hx htk hd hs ht hm
  cases c with
  | zero =>
    rw [List.take_zero] at ha
    have hz : splitA [] own = none := by
      unfold splitA
      rw [if_neg (by decide)]
      have : nextS [] = none := by decide
      rw [this]
      unfold shortD
      have hnn : ∀ b : Bool, needS none b = none := fun b => by cases b <;> rfl
      rw [hnn]
      rfl
    rw [hz] at ha
    cases ha
  | succ c =>
    have hl' : l.take (c + 1) = x :: (longB sp dst src tok m ++ r).take c := by rw [hl, List.take_succ_cons]
    obtain ⟨hf, hn⟩ := first_of hl' (by omega)
    obtain ⟨hf0, hn0⟩ := first_of hl (by omega)
    have h128 : (firstS (l.take (c + 1))).toNat / 128 = 1 := by rw [hf]; have := x.toNat_lt; omega
    have h128' : (firstS l).toNat / 128 = 1 := by rw [hf0]; have := x.toNat_lt; omega
    unfold splitA at ha e2
    unfold splitN at hle e3 h20
    rw [if_pos h128, hf, hn] at ha hle h20
    rw [if_pos h128', hf0, hn0] at e2 e3
    have hp := long_pre ha
    rw [← hp] at ha hle h20
    rw [e2] at ha
    obtain rfl := Option.some.inj ha
    rw [e3, List.length_take] at hle
    rw [e3] at h20
    have hll : l.length = 1 + (longB sp dst src tok m).length + r.length := by rw [hl]; simp; omega
    omega

theorem first_long {sp k : Nat} (hsp : sp = 0 ∨ sp = 1) (hk : 1 ≤ k ∧ k ≤ 4) : (UInt8.ofNat (firstB sp k false)).toNat = 191 + k + 32 * sp := by
  have : firstB sp k false = 191 + k + 32 * sp := by
    unfold firstB
    rcases hsp with rfl | rfl <;> simp <;> omega
  rw [this, UInt8.toNat_ofNat', Nat.mod_eq_of_lt (by omega)]

theorem first_short {k : Nat} {ph : Bool} (hk : 1 ≤ k ∧ k ≤ 4) : (UInt8.ofNat (firstB 2 k ph)).toNat = 63 + k + (if ph then 4 else 0) := by
  have : firstB 2 k ph = 63 + k + (if ph then 4 else 0) := by
    unfold firstB
    simp
  rw [this, UInt8.toNat_ofNat', Nat.mod_eq_of_lt (by split <;> omega)]
end
end Go.Proofs.YtbnnjkjmadnjkaaDoor

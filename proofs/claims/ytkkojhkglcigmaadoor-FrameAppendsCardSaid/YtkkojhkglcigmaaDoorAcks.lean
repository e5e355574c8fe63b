/-
  The walk through the reader's acks.
-/
import Derived.Test.YtkkojhkglcigmaaDoorRev
namespace Go.Proofs.YtkkojhkglcigmaaDoor
open Go.RowKit
set_option linter.unusedVariables false

theorem wpList_append_own {P : Program} (w : World) {ops : Array Oper} {rest : List Oper} {o : Oper} {a : Act} {Q : Exit → Act → World → Prop} (hgd : o.guard = none) (s x : Operand) (t : TypeId)
    (ho : o.op = .call { callee := .builtin .append, args := #[s, x], argTypes := #[t, t] })
    (base : Nat) (e : TypeId) (i : TypeInfo) (z : Value) (size bytes : Nat) (ht : P.underlying t = some (.slice e)) (hi : P.info? e = some i) (hz : i.zero = some z)
    (hsize : i.size = size) (hby : i.bytes = bytes) (hzs : z.cells.size = size) (hsz : 0 < size)
    (v : Value) (n : Nat) (xs : List Value) (hs : a.eval s = v) (hown : w.ownsRow base e size v n xs)
    (ad : Addr) (m c : Nat) (news : List Value) (hx : a.eval x = .slice (some ad) m c) (hm : news.length = m * size) (hcells : ∀ j u, news[j]? = some u → w.cell? (ad.add j) = some u) (h1 : ∀ u ∈ news, u.oneCell' = true)
    (h63 : n + m ≤ maxLen) (hbytes : (n + m) * bytes ≤ 140737488355328) (hbase : base ≤ w.heap.size)
    (h : ∀ v' w', w'.ownsRow base e size v' (n + m) (xs ++ news) → w.grownBy w' v.ownBlock → (v'.ownBlock = v.ownBlock ∨ v'.ownBlock = some w.heap.size) → wpList P ops Q rest (a.put o.dst v') w') :
    wpList P ops Q (o :: rest) a w := by
  refine wpList_plain hgd fun K hK => ?_
  obtain ⟨v', w', hrun, h2, h3, _, h5⟩ := run_append_own_at (P := P) w base t o.type e i z size bytes ht hi hz hsize hby hzs hsz v n xs hown ad m c news hm hcells h1 h63 hbytes hbase
  unfold Oper.wp execOp
  simp only [ho, resolve, invoke, builtin, Sem.run_bind, Sem.run_pure, Result.andThen_ok, List.map_toArray, List.map_cons, List.map_nil, hs, hx, hrun]
  exact hK _ _ (h v' w' h2 h3 h5)

theorem info_range : (Tryd.prog.info? 55).map (fun i => (i.zero, i.size, i.bytes)) = some (some (.agg #[.int .u64 0, .int .u64 0]), 2, 16) := by kernel_rfl

theorem own_mono {w : World} {base base' : Nat} {e : TypeId} {size n : Nat} {v : Value} {xs : List Value} (h : w.ownsRow base e size v n xs) (hb : base' ≤ base) : w.ownsRow base' e size v n xs := by
  refine ⟨h.1, ?_⟩
  rcases h.2 with hn | ⟨g, cap, cur, hv, hbs, rest⟩
  · exact .inl hn
  · exact .inr ⟨g, cap, cur, hv, Nat.le_trans hb hbs, rest⟩

/-- The ranges behind the last one, falling, each behind the gap above it. -/
def more_ : Nat → Nat → List (Nat × Nat) → List UInt8 → Option (List (Nat × Nat) × List UInt8)
  | 0, _, acc, l => some (acc, l)
  | m + 1, above, acc, l =>
    match num_ l with
    | none => none
    | some (gap, l1) =>
      if gap + 2 ≤ above then
        match down_ (above - gap - 2) l1 with
        | none => none
        | some (r, l2) => more_ m r.1 (acc ++ [r]) l2
      else none

/-- An ACK's ranges, rising, and its delay. -/
def acks_ (l : List UInt8) : Option ((List (Nat × Nat) × Nat) × List UInt8) :=
  match num_ l with
  | none => none
  | some (top, l1) =>
    match num_ l1 with
    | none => none
    | some (delay, l2) =>
      match num_ l2 with
      | none => none
      | some (more, l3) =>
        match down_ top l3 with
        | none => none
        | some (r, l4) =>
          match more_ more r.1 [r] l4 with
          | none => none
          | some (rs, l5) => some ((rs.reverse, delay), l5)

theorem num_le {l : List UInt8} {n : Nat} {t : List UInt8} (h : num_ l = some (n, t)) : n ≤ 4611686018427387903 ∧ t.length + 1 ≤ l.length := by
  unfold num_ at h
  rcases htk : tk l with _ | ⟨m, k⟩
  · rw [htk] at h; cases h
  · rw [htk] at h
    simp only [Option.some.injEq, Prod.mk.injEq] at h
    obtain ⟨rfl, rfl⟩ := h
    have := tk_room htk
    exact ⟨this.2.2.2, by rw [List.length_drop]; omega⟩

theorem down_le {top : Nat} {l : List UInt8} {r : Nat × Nat} {t : List UInt8} (h : down_ top l = some (r, t)) : r.1 ≤ top ∧ r.2 = top + 1 ∧ t.length + 1 ≤ l.length := by
  unfold down_ at h
  rcases hn : num_ l with _ | ⟨n, t'⟩
  · rw [hn] at h; cases h
  · rw [hn] at h
    by_cases hle : n ≤ top
    · simp only [hle, if_true, Option.some.injEq, Prod.mk.injEq] at h
      obtain ⟨rfl, rfl⟩ := h
      exact ⟨by simp, rfl, (num_le hn).2⟩
    · simp [hle] at h

/-- What the walk through acks tells. -/
def AcksGave (w : World) (B rb : Nat) (r : Option ((List (Nat × Nat) × Nat) × List UInt8)) (e : Ending) (w' : World) : Prop :=
  match r with
  | none => RdWrong w rb e w'
  | some ((ls, delay), l) => ∃ A' c', e = .returned (.tuple #[.slice A' ls.length c', .int .u64 (delay : Int)]) ∧ ls.length ≤ c' ∧ c' ≤ maxLen ∧ Sr w' w'.heap.size A' ls ∧ Fresh w.heap.size A' ∧ Rd w' B rb l ∧ w.grownBy w' (some rb)

set_option maxRecDepth 10000 in
set_option maxHeartbeats 4000000 in
theorem acks_any (l : List UInt8) (w : World) (B rb : Nat) (hr : Rd w B rb l) (hlen : l.length ≤ 16777216) :
    Calls Tryd.prog 48 #[.pointer (some ⟨rb, 0, none⟩)] w (AcksGave w B rb (acks_ l)) := by
  obtain ⟨i0, hi0, hz0, hz1, hz2⟩ := info_parts info_range
  have hrlt := hr.lt
  have hBr : B ≤ rb := by obtain ⟨_, _, _, _, _, _, _, _, h⟩ := hr; exact h
  rcases h1 : num_ l with _ | ⟨top, l1⟩
  · have HQ : Hid (acks_ l = none) := by show acks_ l = none; unfold acks_; rw [h1]
    have HN := Lib.hid (number_any l w B rb hr)
    rw [h1] at HN
    clear h1 hr
    go_enter Tryd.func48, Tryd.ntmps48
    go_wp2_with fail
    refine HN.out.mono ?_
    rintro e w' ⟨rfl, hg⟩
    go_wp2
    rw [HQ.out]
    exact ⟨rfl, rfl, hg⟩
  · have HN := Lib.hid (number_any l w B rb hr)
    rw [h1] at HN
    have hn1 := num_le h1
    rcases h2 : num_ l1 with _ | ⟨delay, l2⟩
    · have HQ : Hid (acks_ l = none) := by show acks_ l = none; unfold acks_; simp only [h1, h2]
      clear h1 hr
      go_enter Tryd.func48, Tryd.ntmps48
      go_wp2_with fail
      refine HN.out.mono ?_
      rintro e w1 ⟨rfl, hr1, hg1⟩
      go_wp2_with fail
      refine (number_any l1 w1 B rb hr1).mono ?_
      rw [h2]
      rintro e w2 ⟨rfl, hg2⟩
      clear h2
      go_wp2
      rw [HQ.out]
      exact ⟨rfl, rfl, grown_trans hg1 hg2⟩
    · have hn2 := num_le h2
      rcases h3 : num_ l2 with _ | ⟨more, l3⟩
      · have HQ : Hid (acks_ l = none) := by show acks_ l = none; unfold acks_; simp only [h1, h2, h3]
        clear h1 hr
        go_enter Tryd.func48, Tryd.ntmps48
        go_wp2_with fail
        refine HN.out.mono ?_
        rintro e w1 ⟨rfl, hr1, hg1⟩
        go_wp2_with fail
        refine (number_any l1 w1 B rb hr1).mono ?_
        rw [h2]
        rintro e w2 ⟨rfl, hr2, hg2⟩
        clear h2
        go_wp2_with fail
        refine (number_any l2 w2 B rb hr2).mono ?_
        rw [h3]
        rintro e w3 ⟨rfl, hg3⟩
        clear h3
        go_wp2
        rw [HQ.out]
        exact ⟨rfl, rfl, grown_trans (grown_trans hg1 hg2) hg3⟩
      · have hn3 := num_le h3
        rcases h4 : down_ top l3 with _ | ⟨r, l4⟩
        · have HQ : Hid (acks_ l = none) := by show acks_ l = none; unfold acks_; simp only [h1, h2, h3, h4]
          clear h1 hr
          go_enter Tryd.func48, Tryd.ntmps48
          go_wp2_with fail
          refine HN.out.mono ?_
          rintro e w1 ⟨rfl, hr1, hg1⟩
          go_wp2_with fail
          refine (number_any l1 w1 B rb hr1).mono ?_
          rw [h2]
          rintro e w2 ⟨rfl, hr2, hg2⟩
          clear h2
          go_wp2_with fail
          refine (number_any l2 w2 B rb hr2).mono ?_
          rw [h3]
          rintro e w3 ⟨rfl, hr3, hg3⟩
          clear h3
          go_wp2_with fail
          refine (down_any top l3 w3 B rb hr3 hn1.1).mono ?_
          rw [h4]
          rintro e w4 ⟨rfl, hg4⟩
          clear h4
          go_wp2
          rw [HQ.out]
          exact ⟨rfl, rfl, grown_trans (grown_trans (grown_trans hg1 hg2) hg3) hg4⟩
        · have hd41 := (down_le h4).1
          have hd43 := (down_le h4).2.2
          have HQ : Hid (acks_ l = match more_ more r.1 [r] l4 with
            | none => none
            | some (rs, l5) => some ((rs.reverse, delay), l5)) := by show acks_ l = _; unfold acks_; simp only [h1, h2, h3, h4]
          have hl4 : l4.length + 4 ≤ l.length := by omega
          generalize acks_ l = q at *
          clear h1 hr
          go_enter Tryd.func48, Tryd.ntmps48
          go_wp2_with fail
          refine HN.out.mono ?_
          rintro e w1 ⟨rfl, hr1, hg1⟩
          go_wp2_with fail
          refine (number_any l1 w1 B rb hr1).mono ?_
          rw [h2]
          rintro e w2 ⟨rfl, hr2, hg2⟩
          clear h2
          go_wp2_with fail
          refine (number_any l2 w2 B rb hr2).mono ?_
          rw [h3]
          rintro e w3 ⟨rfl, hr3, hg3⟩
          clear h3
          go_wp2_with fail
          refine (down_any top l3 w3 B rb hr3 hn1.1).mono ?_
          rw [h4]
          rintro e w4 ⟨rfl, hr4, hg4⟩
          clear h4
          have hg04 := grown_trans (grown_trans (grown_trans hg1 hg2) hg3) hg4
          have hwn : Wh (w4.alloc (.cells #[.int .u64 (r.1 : Int), .int .u64 (r.2 : Int)] 55)) w4.heap.size 55 _ := Wh.new w4 _ _
          have HC := Lib.hid (show ∀ j u, (rcells r)[j]? = some u → (w4.alloc (.cells #[.int .u64 (r.1 : Int), .int .u64 (r.2 : Int)] 55)).cell? ((⟨w4.heap.size, 0, none⟩ : Addr).add j) = some u from fun j u hu => by
            rw [Addr.add_mid, Nat.zero_add, hwn.cell]
            simpa [rcells] using hu)
          clear hwn
          go_wp2_with (at_builtin; go_loud (refine wpList_append_own _ rfl _ _ _ rfl w4.heap.size 55 i0 _ 2 16 Tryd.underlying29 hi0 hz0 hz1 hz2 rfl (by omega) (.slice none 0 0) 0 [] rfl (World.ownsRow_nil _ _ _ 2) _ 1 _ (rcells r) rfl rfl HC.out (rcells_one r) (by unfold maxLen; omega) (by omega) (by simp) ?_); intro v5 w5 hown5 hg5 hat5)
          rw [Nat.zero_add, List.nil_append] at hown5
          have hg45 := grown_trans (World.grownBy_alloc w4 (.cells #[.int .u64 (r.1 : Int), .int .u64 (r.2 : Int)] 55) (some rb)) (⟨hg5.os, hg5.tape, hg5.output, hg5.size, fun k hk _ => hg5.block k hk (by simp [Value.ownBlock])⟩ : World.grownBy _ w5 (some rb))
          have hr5 : Rd w5 B rb l4 := (hr4.grown (World.grownBy_alloc w4 _ none) (by simp) (by simp)).grown hg5 (by simp [Value.ownBlock]) (by simp [Value.ownBlock])
          have hg05 := grown_trans hg04 hg45
          have hown := own_mono hown5 hg04.size
          have HQM := Lib.hid (rfl : more_ more r.1 [r] l4 = more_ more r.1 [r] l4)
          have hab : r.1 ≤ 4611686018427387903 := by have := hn1.1; omega
          have HO5 := Lib.hid hown
          have HR5 := Lib.hid hr5
          have HG5 := Lib.hid hg05
          have hmore : more ≤ 4611686018427387903 := hn3.1
          clear hown5 hg5 hat5 hg45 hg04 hr4 hg4 hr3 hg3 hr2 hg2 hr1 hg1 hown hr5 hg05 hd41 hd43 hn1 hn2 hn3 HC
          go_loopw [2, 5] (fun v mv wr => ∃ (m above k : Nat) (acc : List (Nat × Nat)) (t : List UInt8), mv = .int .u64 m ∧ m ≤ 4611686018427387903 ∧ above ≤ 4611686018427387903 ∧ k + t.length + 1 ≤ l.length ∧
            Hid (acc.length = k + 1 ∧ ∃ z, acc[k]? = some (above, z)) ∧ Hid (more_ m above acc t = more_ more r.1 [r] l4) ∧ Hid (wr.ownsRow w.heap.size 55 2 v (k + 1) (acc.flatMap rcells)) ∧ Hid (Rd wr B rb t) ∧ Hid (w.grownBy wr (some rb))) (fun _ mv _ => (intOf mv).toNat)
          case atStart => exact ⟨more, r.1, 0, [r], l4, rfl, hmore, hab, by omega, Lib.hid ⟨rfl, r.2, rfl⟩, HQM, Lib.hid (by simpa using HO5.out), HR5, HG5⟩
          case round =>
            clear HO5 HR5 HG5 hmore hab HQM
            obtain ⟨m, above, k, acc, t, rfl, hm, hab, hkt, hacc, hmo, hown, hrd, hgr⟩ := hrel
            rcases hown.out.2 with ⟨_, h0⟩ | ⟨g, cap, cur, rfl, hb, hg, hnc, hcm, hcs, hxs⟩
            · omega
            obtain ⟨z, hz⟩ := hacc.out.2
            have hcell : wr.cell? ⟨g, k * 2, none⟩ = some (.int .u64 (above : Int)) := by
              have := hown.out.cells (g := g) rfl (k * 2) _ (flat_at acc k _ hz).1
              rwa [Addr.add_mid, Nat.zero_add] at this
            have HZ := Lib.hid hz
            clear hz hg hcs hxs
            unfold maxLen at hcm
            by_cases h0 : m = 0
            · subst h0
              have hq : more_ more r.1 [r] l4 = some (acc, t) := hmo.out.symm
              rw [hq] at HQ
              obtain rfl : q = some ((acc.reverse, delay), t) := HQ.out
              have HRV := Lib.hid (reverse_any acc (.slice (some ⟨g, 0, none⟩) (k + 1) cap) wr w.heap.size (by rw [hacc.out.1]; exact hown.out) (by rw [hacc.out.1]; omega))
              clear hq
              go_wp2_with fail
              refine HRV.out.mono ?_
              rintro e w9 ⟨rfl, hform, hg9⟩
              go_wp2_with fail
              obtain ⟨A9, c9, he, q1, q2, hsr, hfr⟩ := hform
              injection he with e1 e2 e3
              subst e1 e3
              go_ret2
              refine ⟨_, _, (show Ending.returned (.tuple #[.slice (some ⟨g, 0, none⟩) (k + 1) cap, .int .u64 (delay : Int)]) = _ by rw [List.length_reverse, ← e2]), by rw [List.length_reverse]; exact q1, q2, hsr, hfr, ?_, ?_⟩
              · exact hrd.out.grown hg9 (by simp [Value.ownBlock]; omega) (fun g' hg' => by simp [Value.ownBlock] at hg'; omega)
              · refine ⟨hg9.os.trans hgr.out.os, hg9.tape.trans hgr.out.tape, hg9.output.trans hgr.out.output, Nat.le_trans hgr.out.size hg9.size, fun i hi hne => ?_⟩
                exact (hg9.block i (Nat.lt_of_lt_of_le hi hgr.out.size) (by simp [Value.ownBlock]; omega)).trans (hgr.out.block i hi hne)
            · obtain ⟨j, rfl⟩ : ∃ j, m = j + 1 := ⟨m - 1, by omega⟩
              have t1 : (0 : Int) < (j : Int) + 1 := by omega
              rcases h5 : num_ t with _ | ⟨gap, t1'⟩
              · have hq : more_ more r.1 [r] l4 = none := by rw [← hmo.out]; simp only [more_, h5]
                rw [hq] at HQ
                obtain rfl : q = none := HQ.out
                clear hq
                have HN5 := Lib.hid (number_any t wr B rb hrd.out)
                rw [h5] at HN5
                clear h5
                go_wp2_with fail
                refine HN5.out.mono ?_
                rintro e w9 ⟨rfl, hg9⟩
                go_wp2
                exact ⟨rfl, rfl, grown_trans hgr.out hg9⟩
              · have hn5 := num_le h5
                by_cases hle : gap + 2 ≤ above
                · rcases h6 : down_ (above - gap - 2) t1' with _ | ⟨r', t2⟩
                  · have hq : more_ more r.1 [r] l4 = none := by rw [← hmo.out]; simp only [more_, h5, h6, if_pos hle]
                    rw [hq] at HQ
                    obtain rfl : q = none := HQ.out
                    clear hq
                    have HN5 := Lib.hid (number_any t wr B rb hrd.out)
                    rw [h5] at HN5
                    have H6 := Lib.hid h6
                    clear h5 h6
                    have t3 : (gap : Int) + 2 ≤ (above : Int) := by omega
                    have e1 : (above : Int) - (gap : Int) - 2 = ((above - gap - 2 : Nat) : Int) := by omega
                    have E1 := Lib.hid e1
                    clear e1
                    go_wp2_with fail
                    refine HN5.out.mono ?_
                    rintro e w9 ⟨rfl, hr9, hg9⟩
                    go_wp2_with fail
                    refine (need_yes _).mono ?_
                    rintro e w' ⟨rfl, rfl⟩
                    go_wp2_with fail
                    rw [E1.out]
                    refine (down_any (above - gap - 2) t1' w9 B rb hr9 (by omega)).mono ?_
                    rw [H6.out]
                    rintro e w10 ⟨rfl, hg10⟩
                    go_wp2
                    exact ⟨rfl, rfl, grown_trans (grown_trans hgr.out hg9) hg10⟩
                  · have hq : more_ more r.1 [r] l4 = more_ j r'.1 (acc ++ [r']) t2 := by rw [← hmo.out]; simp only [more_, h5, h6, if_pos hle]
                    have HN5 := Lib.hid (number_any t wr B rb hrd.out)
                    rw [h5] at HN5
                    have H6 := Lib.hid h6
                    have HQ6 := Lib.hid hq
                    have hd61 := (down_le h6).1
                    have hd63 := (down_le h6).2.2
                    clear h5 h6 hq
                    have t3 : (gap : Int) + 2 ≤ (above : Int) := by omega
                    have e1 : (above : Int) - (gap : Int) - 2 = ((above - gap - 2 : Nat) : Int) := by omega
                    have E1 := Lib.hid e1
                    clear e1
                    go_wp2_with fail
                    refine HN5.out.mono ?_
                    rintro e w9 ⟨rfl, hr9, hg9⟩
                    go_wp2_with fail
                    refine (need_yes _).mono ?_
                    rintro e w' ⟨rfl, rfl⟩
                    go_wp2_with fail
                    rw [E1.out]
                    refine (down_any (above - gap - 2) t1' w9 B rb hr9 (by omega)).mono ?_
                    rw [H6.out]
                    rintro e w10 ⟨rfl, hr10, hg10⟩
                    have hg910 := grown_trans hg9 hg10
                    have hown10 := hown.out.kept hg910 (.inr (by simp [Value.ownBlock]; omega))
                    have HO10 := Lib.hid hown10
                    have hwn : Wh (w10.alloc (.cells #[.int .u64 (r'.1 : Int), .int .u64 (r'.2 : Int)] 55)) w10.heap.size 55 _ := Wh.new w10 _ _
                    have HC := Lib.hid (show ∀ j u, (rcells r')[j]? = some u → (w10.alloc (.cells #[.int .u64 (r'.1 : Int), .int .u64 (r'.2 : Int)] 55)).cell? ((⟨w10.heap.size, 0, none⟩ : Addr).add j) = some u from fun j u hu => by
                      rw [Addr.add_mid, Nat.zero_add, hwn.cell]
                      simpa [rcells] using hu)
                    have hsz : w.heap.size ≤ w10.heap.size := Nat.le_trans hgr.out.size hg910.size
                    clear hwn hown10
                    go_wp2_with (at_builtin; go_loud (refine wpList_append_own _ rfl _ _ _ rfl w.heap.size 55 i0 _ 2 16 Tryd.underlying29 hi0 hz0 hz1 hz2 rfl (by omega) (.slice (some ⟨g, 0, none⟩) (k + 1) cap) (k + 1) (acc.flatMap rcells) rfl (HO10.out.alloc _) _ 1 _ (rcells r') rfl rfl HC.out (rcells_one r') (by unfold maxLen; omega) (by omega) (by simp; omega) ?_); intro v11 w11 hown11 hg11 hat11)
                    have hga := grown_trans (grown_trans hgr.out hg910) (World.grownBy_alloc w10 (.cells #[.int .u64 (r'.1 : Int), .int .u64 (r'.2 : Int)] 55) (some rb))
                    have hr11 : Rd w11 B rb t2 := (hr10.grown (World.grownBy_alloc w10 _ none) (by simp) (by simp)).grown hg11 (by simp [Value.ownBlock]; omega) (fun g' hg' => by simp [Value.ownBlock] at hg'; omega)
                    go_roundw
                    case rel =>
                      refine ⟨j, r'.1, k + 1, acc ++ [r'], t2, by go_num, by omega, by omega, by omega, Lib.hid ⟨by rw [List.length_append, hacc.out.1]; rfl, r'.2, ?_⟩, Lib.hid HQ6.out.symm, Lib.hid ?_, Lib.hid hr11, Lib.hid ?_⟩
                      · rw [List.getElem?_append_right (by rw [hacc.out.1]; exact Nat.le_refl _), hacc.out.1]
                        simp
                      · rw [List.flatMap_append]
                        simpa using hown11
                      · refine ⟨hg11.os.trans hga.os, hg11.tape.trans hga.tape, hg11.output.trans hga.output, Nat.le_trans hga.size hg11.size, fun i hi hne => ?_⟩
                        exact (hg11.block i (Nat.lt_of_lt_of_le hi hga.size) (by simp [Value.ownBlock]; omega)).trans (hga.block i hi hne)
                    case measure => simp [intOf]
                · have hq : more_ more r.1 [r] l4 = none := by rw [← hmo.out]; simp only [more_, h5, if_neg hle]
                  rw [hq] at HQ
                  obtain rfl : q = none := HQ.out
                  clear hq
                  have HN5 := Lib.hid (number_any t wr B rb hrd.out)
                  rw [h5] at HN5
                  clear h5
                  have t3 : decide ((gap : Int) + 2 ≤ (above : Int)) = false := decide_eq_false (by omega)
                  go_wp2_with fail
                  refine HN5.out.mono ?_
                  rintro e w9 ⟨rfl, hr9, hg9⟩
                  go_wp2_with fail
                  refine (need_no _).mono ?_
                  rintro e w' ⟨rfl, rfl⟩
                  go_wp2
                  exact ⟨rfl, rfl, grown_trans hgr.out hg9⟩

end Go.Proofs.YtkkojhkglcigmaaDoor

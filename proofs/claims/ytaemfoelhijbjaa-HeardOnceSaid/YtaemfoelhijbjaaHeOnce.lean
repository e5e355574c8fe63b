/-
  The walk through hostlerlaw12.HeardOnce.
-/
import Derived.Test.YtaemfoelhijbjaaHeWorks
import Derived.Test.YtaemfoelhijbjaaHeHeavy
import Derived.Deep.CutRange
import Derived.Deep.DeepCutAuto
import Derived.Deep.CutBlock
import Derived.Test.YtaemfoelhijbjaaSpDraw
namespace Go.Proofs.Ytaemfoelhijbjaa
open Go.RowKit
set_option linter.unusedVariables false

/-- A call that may be. -/
structure DC.Fits (d : DC) : Prop where
  pn : d.pn ≤ 4611686018427387903
  nw : d.nw ≤ 4611686018427387904
  dl : d.dl ≤ 4611686018427387904

theorem light_fits {l : List DC} (h : heavyL l = false) : l.length ≤ 300 ∧ ∀ d ∈ l, d.Fits := by
  unfold heavyL at h
  rw [Bool.or_eq_false_iff] at h
  refine ⟨by have := of_decide_eq_false h.2; omega, fun d hd => ?_⟩
  have h1 := List.any_eq_false.1 h.1 d hd
  unfold heavyD at h1
  simp at h1
  exact ⟨by omega, by omega, by omega⟩

/-- What the law's loop holds: the numbers that were new; all of them count as having come, and all that is told of is among them. -/
structure OnceAt (w wr : World) (g : Nat) (A : Option Addr) (n c : Nat) (s : HS) (Ac : Option Addr) (nc cc : Nat) (cm : List (Nat × Nat)) (k : Nat) : Prop where
  hat : HAt wr g A n c s
  ok : s.Ok
  bel : Below w.heap.size w wr
  base : w.heap.size ≤ g
  rs : RsIn wr (· ≠ g) Ac cm
  len : cm.length = nc
  cap : nc ≤ cc
  top : cc ≤ maxLen
  neat : NeatL cm
  fit : FitL cm
  few : nc ≤ k
  sub : ∀ x, inB s.l x = true → inB cm x = true
  cov : ∀ x, inB cm x = true → cameS s x = true

theorem OnceAt.hands {w wr : World} {g n c nc cc k : Nat} {A Ac : Option Addr} {s : HS} {cm : List (Nat × Nat)} (h : OnceAt w wr g A n c s Ac nc cc cm k) (hk : k ≤ 100000) : Hands wr wr.heap.size Ac nc cc cm :=
  ⟨h.len, by have := h.few; omega, h.rs.rs, h.cap, h.top, h.fit⟩
theorem OnceAt.on {w wr w2 : World} {g n c nc cc k : Nat} {A Ac : Option Addr} {s : HS} {cm : List (Nat × Nat)} (h : OnceAt w wr g A n c s Ac nc cc cm k) (hb : Below wr.heap.size wr w2) : OnceAt w w2 g A n c s Ac nc cc cm k :=
  ⟨h.hat.below hb, h.ok, h.bel.trans (hb.mono h.bel.size), h.base, h.rs.below hb, h.len, h.cap, h.top, h.neat, h.fit, h.few, h.sub, h.cov⟩
theorem OnceAt.up {w wr : World} {g n c nc cc k k' : Nat} {A Ac : Option Addr} {s : HS} {cm : List (Nat × Nat)} (h : OnceAt w wr g A n c s Ac nc cc cm k) (hk : k ≤ k') : OnceAt w wr g A n c s Ac nc cc cm k' :=
  ⟨h.hat, h.ok, h.bel, h.base, h.rs, h.len, h.cap, h.top, h.neat, h.fit, by have := h.few; omega, h.sub, h.cov⟩

theorem OnceAt.add {w w4 w5 w6 : World} {g n c nc cc k n' c' nc' cc' pn nw dl : Nat} {wt : Bool} {A Ac A' Ac' : Option Addr} {s : HS} {cm l' cm' : List (Nat × Nat)} (h : OnceAt w w4 g A n c s Ac nc cc cm k) (hp : pn < topN) (hn : nw ≤ topN) (hc : cameS s pn = false)
    (hg : Grown s pn l') (hb : w4.grownBy w5 (some g)) (hh : HAt w5 g A' n' c' (addedS s pn wt nw dl l')) (hb6 : Below w5.heap.size w5 w6) (hr : RsIn w6 (· ≠ g) Ac' cm') (hl : cm'.length = nc') (hcap : nc' ≤ cc') (htop : cc' ≤ maxLen) (hn' : NeatL cm') (hf' : FitL cm') (hi : ∀ x, inB cm' x = (inB cm x || decide (x = pn))) :
    OnceAt w w6 g A' n' c' (addedS s pn wt nw dl l') Ac' nc' cc' cm' (k + 1) := by
  have hfl : s.fl ≤ pn := by
    unfold cameS at hc
    rw [Bool.or_eq_false_iff] at hc
    have := of_decide_eq_false hc.1
    omega
  obtain ⟨k1, k2, k3, k4⟩ := addedS_ok h.ok wt dl hg hfl hp hn
  refine ⟨hh.below hb6, k1, below_grownH h.bel hb h.base h.bel.size |>.trans (hb6.mono (Nat.le_trans h.bel.size hb.size)), h.base, hr, hl, hcap, htop, hn', hf', ?_, fun x hx => ?_, fun x hx => ?_⟩
  · have h1 := one_more hn' hi
    have := h.few
    have := h.len
    omega
  · have h1 := k2 x hx
    rw [hg.2.2, Bool.or_eq_true] at h1
    rw [hi, Bool.or_eq_true]
    exact h1.imp (h.sub x) id
  · rw [hi, Bool.or_eq_true] at hx
    have key : inB s.l x = true ∨ decide (x = pn) = true → cameS (addedS s pn wt nw dl l') x = true := fun h1 => k3 x (by rw [hg.2.2, Bool.or_eq_true]; exact h1)
    rcases hx with hx | hx
    · have h1 := h.cov x hx
      unfold cameS at h1
      rw [Bool.or_eq_true] at h1
      rcases h1 with h1 | h1
      · have := of_decide_eq_true h1
        unfold cameS
        rw [Bool.or_eq_true]
        exact .inl (decide_eq_true (by omega))
      · exact key (.inl h1)
    · exact key (.inr hx)

theorem OnceAt.forget {w w4 w5 : World} {g n c nc cc k n' c' below : Nat} {A Ac A' : Option Addr} {s : HS} {cm l' : List (Nat × Nat)} (h : OnceAt w w4 g A n c s Ac nc cc cm k) (hb : below ≤ topN) (hs : Shorn s (max s.fl below) l') (hg : w4.grownBy w5 (some g))
    (hh : HAt w5 g A' n' c' { s with fl := max s.fl below, l := l' }) : OnceAt w w5 g A' n' c' { s with fl := max s.fl below, l := l' } Ac nc cc cm (k + 1) := by
  refine ⟨hh, shorn_ok h.ok hb hs, below_grownH h.bel hg h.base h.bel.size, h.base, h.rs.grown hg (fun x hx => by have := Option.some.inj hx; omega), h.len, h.cap, h.top, h.neat, h.fit, by have := h.few; omega, fun x hx => ?_, fun x hx => ?_⟩
  · have h1 : inB l' x = true := hx
    rw [hs.2.2, Bool.and_eq_true] at h1
    exact h.sub x h1.1
  · have h1 := h.cov x hx
    unfold cameS at h1 ⊢
    show (decide (x < max s.fl below) || inB l' x) = true
    rw [Bool.or_eq_true] at h1 ⊢
    rw [hs.2.2]
    by_cases hm : x < max s.fl below
    · exact .inl (decide_eq_true hm)
    · rcases h1 with h1 | h1
      · have := of_decide_eq_true h1
        omega
      · exact .inr (by rw [h1, decide_eq_true (by omega)]; rfl)

theorem OnceAt.ack {w w4 w5 : World} {g n c nc cc k n' c' : Nat} {A Ac A' : Option Addr} {s : HS} {cm : List (Nat × Nat)} (h : OnceAt w w4 g A n c s Ac nc cc cm k) (hg : w4.grownBy w5 (some g))
    (hh : HAt w5 g A' n' c' { s with du := 0, co := 0 }) : OnceAt w w5 g A' n' c' { s with du := 0, co := 0 } Ac nc cc cm (k + 1) :=
  ⟨hh, ⟨h.ok.neat, h.ok.fit, h.ok.few, h.ok.above, h.ok.fl, h.ok.la, h.ok.tm, Nat.zero_le _, Nat.zero_le _⟩, below_grownH h.bel hg h.base h.bel.size, h.base, h.rs.grown hg (fun x hx => by have := Option.some.inj hx; omega), h.len, h.cap, h.top, h.neat, h.fit, by have := h.few; omega, h.sub, h.cov⟩

theorem range_rc {w : World} {b o : Nat} {r : Nat × Nat} (h : w.cell? ⟨b, o, none⟩ = some (.int .u64 (r.1 : Int)) ∧ w.cell? ⟨b, o + 1, none⟩ = some (.int .u64 (r.2 : Int))) : w.rangeAt b o (rcS r) := by
  intro j v hv
  match j, hv with
  | 0, hv => simp [rcS] at hv; subst hv; exact h.1
  | 1, hv => simp [rcS] at hv; subst hv; exact h.2
  | j + 2, hv => simp [rcS] at hv
theorem rcS_arr (r : Nat × Nat) : (rcS r).toArray.all (·.oneCell') = true := by simp [rcS, Value.oneCell']

/-- What Ack answers, and what the loop holds then. -/
def AckOnce (w : World) (g : Nat) (Ac : Option Addr) (nc cc : Nat) (cm : List (Nat × Nat)) (k : Nat) (e : Ending) (w' : World) : Prop :=
  ∃ (K D m c' : Nat) (A' : Option Addr) (b : Bool) (la : List (Nat × Nat)), e = .returned (.tuple #[.agg (aRowH K (.slice A' m c') D), .bool b]) ∧ Hands w' w'.heap.size A' m c' la ∧ m ≤ 32 ∧ NeatL la ∧ (∀ x, inB la x = true → inB cm x = true) ∧
    ∃ (A : Option Addr) (n c : Nat) (s : HS), OnceAt w w' g A n c s Ac nc cc cm k

theorem ack_once {w w4 : World} {g n c nc cc k now : Nat} {A Ac : Option Addr} {s : HS} {cm : List (Nat × Nat)} (h : OnceAt w w4 g A n c s Ac nc cc cm k) (hn : now ≤ topN) :
    Calls Try.prog 7 #[.pointer (some ⟨g, 0, none⟩), .int .u64 (now : Int)] w4 (AckOnce w g Ac nc cc cm (k + 1)) := by
  rcases Nat.eq_zero_or_pos n with h0 | h0
  · subst h0
    refine (ack_none w4 g c A s (now : Int) h.hat).mono ?_
    rintro e w5 ⟨rfl, hb⟩
    exact ⟨0, 0, 0, 0, none, false, [], rfl, Hands.nil _ _, Nat.zero_le _, neat_nil, fun _ h => (by cases h), A, 0, c, s, (h.on hb).up (by omega)⟩
  · have hlen := h.hat.len
    have hfew := h.ok.few
    refine (ack_any w4 g n c now A s h.hat h0 (by omega) hn).mono ?_
    rintro e w5 ⟨A', c', rfl, hr, hc, hm, hg, A2, c2, hh⟩
    refine ⟨2, _, n - (n - 32), c', A', true, s.l.drop (n - 32), rfl, ⟨by rw [List.length_drop, hlen], by omega, hr.rs, hc, hm, fun r hr' => h.ok.fit r (List.mem_of_mem_drop hr')⟩, by omega, neat_drop h.ok.neat _, fun x hx => h.sub x (inB_drop hx), A2, n, c2, _, h.ack hg hh⟩

set_option maxRecDepth 10000 in
set_option maxHeartbeats 4000000 in
theorem once_any (A : Option Addr) (N c0 : Nat) (l : List DC) (w : World) (hl : l.length = N) (hr : Ds w w.heap.size A l) (hnc : N ≤ c0) (hcm : c0 ≤ maxLen) :
    Calls Try.prog 4 #[.slice A N c0] w (Says true w) := by
  have HV := Lib.hid (heavy_any A N c0 l w hl hr hnc hcm)
  rcases hh : heavyL l with _ | _
  rotate_left
  · rw [hh] at HV
    clear hh hl hr hnc hcm
    go_enter Try.func4, Try.ntmps4
    go_wp2_with (first
      | (go_at_call 11; refine HV.out.mono ?_; rintro e w1 ⟨rfl, hb1⟩)
      | (go_at_call 9; refine (hworks_any w1).mono ?_; rintro e w2 ⟨rfl, hb2⟩))
    go_ret
    exact ⟨rfl, hb1.trans (hb2.mono hb1.size)⟩
  rw [hh] at HV
  obtain ⟨h300, hfits⟩ := light_fits hh
  rw [hl] at h300
  have HL := Lib.hid hl
  have HR := Lib.hid hr
  have HF := Lib.hid hfits
  clear hh hl hr hnc hcm hfits
  go_enter Try.func4, Try.ntmps4
  go_upto_region 4 with (go_at_call 11; refine HV.out.mono ?_; rintro e w1 ⟨rfl, hb1⟩)
  have h1 : OnceAt w (w1.alloc (.cells #[.slice none 0 0, .int .u64 0, .int .u64 0, .int .u64 0, .int .u64 0, .int .u64 0] 28)) w1.heap.size none 0 0 HS.new none 0 0 [] 0 :=
    ⟨new_at w1, new_ok, hb1.alloc hb1.size _, hb1.size, RsIn.nil _ _ _, rfl, Nat.le_refl _, Nat.zero_le _, neat_nil, fun _ h => (by cases h), Nat.le_refl _, fun _ h => h, fun _ h => (by cases h)⟩
  have H1 := Lib.hid h1
  clear h1 hb1 HV
  generalize w1.alloc (.cells #[.slice none 0 0, .int .u64 0, .int .u64 0, .int .u64 0, .int .u64 0, .int .u64 0] 28) = w2 at *
  generalize w1.heap.size = g at *
  go_wp2
  go_loopw [4, 18] (fun s4 s18 wr => ∃ (k : Nat) (A n c : _) (s : HS) (Ac : _) (nc cc : Nat) (cm : _), k ≤ N ∧ s18 = .int .i64 k ∧ s4 = .slice Ac nc cc ∧ Hid (OnceAt w wr g A n c s Ac nc cc cm k)) (fun _ s18 _ => N - (intOf s18).toNat)
  case atStart => exact ⟨0, _, _, _, _, _, _, _, _, Nat.zero_le _, rfl, rfl, H1⟩
  case round =>
    obtain ⟨k, Ah, n, c, s, Ac, nc, cc, cm, hk, rfl, rfl, HO⟩ := hrel
    clear H1
    by_cases hlt : k < N
    · obtain ⟨d, hd⟩ : ∃ d, l[k]? = some d := ⟨_, List.getElem?_eq_getElem (by rw [HL.out]; exact hlt)⟩
      obtain ⟨b, off, rfl, hbl, hcc⟩ := (HR.out.below HO.out.bel).at_ (by rw [HL.out]; omega)
      have HC := Lib.hid (hcc k d hd)
      have HD := Lib.hid (HF.out d (List.mem_of_getElem? hd))
      have d0 : decide (k < N) = true := decide_eq_true hlt
      clear hcc hd
      generalize wr = w3 at *
      go_upto_region 8 with (first
        | (refine wpList_load_mid rfl 46 (.tmp 20) rfl b (off + k * 5) rfl (dCells d) _ HC.out Try.underlying46 rfl info_do ?_)
        | (refine wpList_store_row rfl 46 (.tmp 6) (.tmp 21) rfl w3.heap.size (dCells d).toArray rfl rfl _ _ (heap_alloc_new w3 _) info_do rfl (dCells_one d) ?_; rw [World.setRow_alloc_new]))
      have hW := copyD w3 d
      have HO4 := Lib.hid (HO.out.on ((Below.refl w3.heap.size w3).alloc (Nat.le_refl _) (.cells (dCells d).toArray 46)))
      generalize w3.alloc (.cells (dCells d).toArray 46) = w4 at *
      have HGQ : Hid (g < w3.heap.size) := Lib.hid HO.out.hat.lt
      generalize w3.heap.size = q at *
      have hk0 : w4.cell? ⟨q, 0, none⟩ = some (.int .u8 (d.kd : Int)) := (hW.cell 0).trans rfl
      have hk1 : w4.cell? ⟨q, 1, none⟩ = some (.int .u64 (d.pn : Int)) := (hW.cell 1).trans rfl
      have hk2 : w4.cell? ⟨q, 2, none⟩ = some (.bool d.wt) := (hW.cell 2).trans rfl
      have hk3 : w4.cell? ⟨q, 3, none⟩ = some (.int .u64 (d.nw : Int)) := (hW.cell 3).trans rfl
      have hk4 : w4.cell? ⟨q, 4, none⟩ = some (.int .u64 (d.dl : Int)) := (hW.cell 4).trans rfl
      have hgq : g < q := HGQ.out
      have hqs : q < w4.heap.size := hW.lt
      clear hW HC HO HGQ
      go_upto_block 2 with (fail)
      go_cut [4] (fun v wx => ∃ (Ah : Option Addr) (n c : Nat) (s : HS) (Ac : Option Addr) (nc cc : Nat) (cm : List (Nat × Nat)), v = .slice Ac nc cc ∧ Hid (OnceAt w wx g Ah n c s Ac nc cc cm (k + 1)))
      case first =>
        have hpn : d.pn ≤ 4611686018427387903 := HD.out.pn
        have hnw : d.nw ≤ 4611686018427387904 := HD.out.nw
        by_cases h0 : d.kd = 0
        · have e0 : ((d.kd : Int) == 0) = true := by simp [h0]
          clear h0
          rcases hcs : cameS s d.pn with _ | _
          · have HCS := Lib.hid hcs
            have HADD := Lib.hid (hadd_new w4 g n c d.pn d.nw d.dl d.wt Ah s HO4.out.hat HO4.out.ok hcs (by unfold topN; omega) (by unfold topN; omega))
            have hin : inB cm d.pn = false := by
              cases hx : inB cm d.pn with
              | false => rfl
              | true => rw [HO4.out.cov _ hx] at hcs; cases hcs
            have HIN := Lib.hid hin
            obtain ⟨p1, hp1⟩ : ∃ p1, p1 = d.pn + 1 := ⟨_, rfl⟩
            have hw1 : IntKind.u64.wrap ((d.pn : Int) + 1) = (p1 : Int) := by rw [IntKind.wrap_u64, hp1]; omega
            have HP1 := Lib.hid hp1
            clear hcs hin hp1
            go_wp2_with fail
            refine HADD.out.mono ?_
            rintro e w5 ⟨l', rfl, hgr, hg5, A5, n5, c5, h5⟩
            have hq5 : q < w5.heap.size := Nat.lt_of_lt_of_le hqs hg5.size
            have hk15 : w5.cell? ⟨q, 1, none⟩ = some (.int .u64 (d.pn : Int)) := (World.cell?_of_block (hg5.block q hqs (by intro e; have := Option.some.inj e; omega))).trans hk1
            have hrs5 := HO4.out.rs.grown hg5 (fun x hx => by have := Option.some.inj hx; omega)
            have hh5 : Hands w5 w5.heap.size Ac nc cc cm := ⟨HO4.out.len, by have := HO4.out.few; omega, hrs5.rs, HO4.out.cap, HO4.out.top, HO4.out.fit⟩
            have hhas := has_one (x := d.pn) hh5
            rw [HIN.out] at hhas
            have HHAS := Lib.hid hhas
            have HH5 := Lib.hid hh5
            have H5 := Lib.hid h5
            have HG5 := Lib.hid hg5
            have HGR := Lib.hid hgr
            have hg5l := h5.lt
            clear h5 hg5 hgr hrs5 hh5 hhas hk0 hk1 hk2 hk3 hk4 HADD HIN
            go_wp2_with fail
            refine HHAS.out.mono ?_
            rintro e w6 ⟨rfl, hb6⟩
            have hk16 : w6.cell? ⟨q, 1, none⟩ = some (.int .u64 (d.pn : Int)) := (hb6.cell (p := ⟨q, 1, none⟩) hq5).trans hk15
            have hh6 := (HH5.out.below hb6).mono hb6.size
            have HB6 := Lib.hid hb6
            obtain ⟨W, hW⟩ : ∃ W, W = w6.alloc (.cells #[.int .u64 (d.pn : Int), .int .u64 (p1 : Int)] 42) := ⟨_, rfl⟩
            have hWs : W.heap.size = w6.heap.size + 1 := by rw [hW]; simp
            have hA1 : Below w6.heap.size w6 W := by rw [hW]; exact (Below.refl _ _).alloc (Nat.le_refl _) _
            have hH1 : Hands W W.heap.size Ac nc cc cm := (hh6.below hA1).mono (by omega)
            have hH2 : Hands W W.heap.size (some ⟨w6.heap.size, 0, none⟩) 1 1 [(d.pn, p1)] := ⟨rfl, by omega, by rw [hW]; exact (rs_new w6 (d.pn, p1)).mono (by simp), Nat.le_refl _, by decide, fun x hx => by simp at hx; subst hx; exact ⟨by show d.pn ≤ topN; unfold topN; omega, by show p1 ≤ topN; rw [HP1.out]; unfold topN; omega⟩⟩
            have HC := Lib.hid (add_any W W.heap.size Ac (some ⟨w6.heap.size, 0, none⟩) nc cc 1 1 cm [(d.pn, p1)] hH1 hH2 (Nat.le_refl _))
            have HA1 := Lib.hid hA1
            have HWS := Lib.hid hWs
            have hs56 := hb6.size
            rw [hW] at HC HA1 HWS
            clear hA1 hH1 hH2 hWs hh6 hb6 hk15 HHAS HH5 hW
            clear W
            go_wp2_with fail
            refine HC.out.mono ?_
            rintro e w7 ⟨v, cm', rfl, hov, hnl, hfl, hil, hlen, hb7⟩
            obtain ⟨A7, c7, rfl, hc7, hm7⟩ := hov.form
            have hb57 := HB6.out.trans ((HA1.out.trans (hb7.mono (by rw [HWS.out]; omega))).mono hs56)
            have hr7 : RsIn w7 (· ≠ g) A7 cm' := hov.rsIn.mono fun b hb _ => by rw [HWS.out] at hb; omega
            have HNEW := Lib.hid (HO4.out.add (by unfold topN; omega) (by unfold topN; omega) HCS.out HGR.out HG5.out H5.out hb57 hr7 rfl hc7 hm7 hnl hfl (fun x => by rw [hil]; show (inB cm x || inB [(d.pn, p1)] x) = _; rw [HP1.out, inB_pn]))
            clear hov hnl hfl hil hlen hb7 hb57 hr7 HC HA1 HWS HB6 H5 HG5 HGR hk16
            go_wp2
            go_meet
            case rel => exact ⟨_, _, _, _, _, _, _, _, rfl, HNEW⟩
          · have HADD := fun x y => hadd_old w4 g n c d.pn d.wt x y Ah s HO4.out.hat HO4.out.ok hcs
            have HA := Lib.hid HADD
            clear HADD hcs
            go_wp2_with (go_at_call 5; refine (HA.out _ _).mono ?_; rintro e w5 ⟨rfl, hb5⟩)
            go_meet
            case rel => exact ⟨_, _, _, _, _, _, _, _, rfl, Lib.hid ((HO4.out.on hb5).up (by omega))⟩
        · have e0 : ((d.kd : Int) == 0) = false := by simp [h0]
          by_cases h1 : d.kd = 1
          · have e1 : ((d.kd : Int) == 1) = true := by simp [h1]
            have HACK := Lib.hid (ack_once HO4.out (now := d.nw) (by unfold topN; omega))
            have h32 : ∀ m : Nat, m ≤ 32 → decide ((m : Int) > 32) = false := fun m hm => decide_eq_false (by omega)
            clear h0 h1
            go_upto_region 16 with (first
              | (go_at_call 7; refine HACK.out.mono ?_; rintro e w5 ⟨K, D, m, c', A', b', la, rfl, hla, hm, hna, hsa, A5, n5, c5, s5, ho5⟩; have HLA := Lib.hid hla; have HM := Lib.hid hm; have HNA := Lib.hid hna; have HSA := Lib.hid hsa; have HO5 := Lib.hid ho5; clear hla hm hna hsa ho5)
              | (refine wpList_store_row rfl 36 (.tmp 7) (.tmp 57) rfl w5.heap.size (aRowH K (.slice A' m c') D) rfl rfl _ _ (heap_alloc_new w5 _) info_fr rfl (aRowH_one _ _ _ _ _) ?_; rw [World.setRow_alloc_new]))
            have hw6 := Wh.new w5 36 (aRowH K (.slice A' m c') D)
            have hb6 := (Below.refl w5.heap.size w5).alloc (Nat.le_refl _) (.cells (aRowH K (.slice A' m c') D) 36)
            have HO6 := Lib.hid (HO5.out.on hb6)
            have HL6 := Lib.hid ((HLA.out.below hb6).mono hb6.size)
            clear hb6 HO5 HLA hk0 hk1 hk2 hk3 hk4 hqs hgq HO4
            generalize w5.alloc (.cells (aRowH K (.slice A' m c') D) 36) = w6 at *
            generalize w5.heap.size = q5 at *
            have hq6 := hw6.lt
            have hy6 : w6.cell? ⟨q5, 25, none⟩ = some (.slice A' m c') := (hw6.cell 25).trans rfl
            have hd6 := h32 m HM.out
            have HW6 := Lib.hid hw6
            clear h32 hw6
            go_wp2_with fail
            refine (neat_any A' m c' la w6 _ HL6.out.len (by have := HM.out; omega) HL6.out.reads (Nat.le_refl _)).mono ?_
            rintro e w7 ⟨h7, -, hb7⟩
            obtain rfl := h7 HNA.out
            have HO7 := Lib.hid (HO6.out.on hb7)
            have HL7 := Lib.hid ((HL6.out.below hb7).mono hb7.size)
            have hy7 : w7.cell? ⟨q5, 25, none⟩ = some (.slice A' m c') := (hb7.cell (p := ⟨q5, 25, none⟩) hq6).trans hy6
            clear h7 hb7 HO6 HL6 hy6 HW6
            have HCUT := Lib.hid (cut_any w7 _ A' Ac m c' nc cc la cm HL7.out (HO7.out.hands (by omega)) (Nat.le_refl _))
            go_wp2_with fail
            refine HCUT.out.mono ?_
            rintro e w8 ⟨v, l8, rfl, hov, hnl, hfl, hil, hlen, hb8⟩
            have he : l8 = [] := neat_empty hnl fun x => by
              rw [hil]
              show (inB la x && !inB cm x) = false
              cases hx : inB la x with
              | false => rfl
              | true => rw [HSA.out x hx]; rfl
            obtain ⟨A8, c8, rfl, hc8, hm8⟩ := hov.form
            rw [show l8.length = 0 by rw [he]; rfl]
            have HO8 := Lib.hid (HO7.out.on hb8)
            clear hov hnl hfl hil hlen hb8 hc8 hm8 he HCUT HL7 HO7 hy7
            go_wp2
            go_meet
            case rel => exact ⟨_, _, _, _, _, _, _, _, rfl, HO8⟩
          · have e1 : ((d.kd : Int) == 1) = false := by simp; omega
            by_cases h2 : d.kd = 2
            · have e2 : ((d.kd : Int) == 2) = true := by simp [h2]
              have HFG := Lib.hid (forget_any w4 g n c d.pn Ah s HO4.out.hat HO4.out.ok (by unfold topN; omega))
              clear h0 h1 h2
              go_wp2_with (go_at_call 8; refine HFG.out.mono ?_; rintro e w5 ⟨l', hs', rfl, hg5, A5, n5, c5, h5⟩)
              go_meet
              case rel => exact ⟨_, _, _, _, _, _, _, _, rfl, Lib.hid (HO4.out.forget (by unfold topN; omega) hs' hg5 h5)⟩
            · have e2 : ((d.kd : Int) == 2) = false := by simp; omega
              clear h0 h1 h2
              go_wp2
              go_meet
              case rel => exact ⟨_, _, _, _, _, _, _, _, rfl, Lib.hid (HO4.out.up (by omega))⟩
      case rest =>
        clear hk0 hk1 hk2 hk3 hk4 hgq hqs HO4 HD
        obtain ⟨Ah, n, c, s, Ac, nc, cc, cm, rfl, HO5⟩ := hcut
        go_upto_region 20 with (fail)
        have HO6 := Lib.hid (HO5.out.on (Below.refl wc.heap.size wc).drew)
        refine wp_region_held_drew (S := fun w' => SinceS wc.drew w') (by kernel_rfl) (SinceS.self _) (fun hS0 => ?_)
        clear HO5
        generalize wc.drew = w6 at *
        have c0' := HO6.out.hat.c0
        have c0 := c0'
        have c1 := HO6.out.hat.c1
        have hgl := HO6.out.hat.lt
        have HHL := Lib.hid (HO6.out.hat.hands (by have := HO6.out.ok.few; have := HO6.out.hat.len; omega) HO6.out.ok.fit)
        have HNEAT := Lib.hid (neat_any _ n c s.l w6 _ HO6.out.hat.len (by have := HO6.out.ok.few; have := HO6.out.hat.len; omega) HHL.out.reads (Nat.le_refl _))
        have HNT := Lib.hid HO6.out.ok.neat
        clear c0'
        -- region 20: made by tools/gen_heonce.py
        rcases Nat.eq_zero_or_pos n with hn0 | hpos
        · subst hn0
          refine wpAnyH_take (i := 0) (v := .pointer (some ⟨g, 0, none⟩)) (List.getElem?_toArray.trans rfl) (by kernel_rfl) (by kernel_rfl) (by kernel_rfl) (fun _ _ _ h => h) (.inl ⟨rfl, fun w' hS => rfl⟩) hS0 ?_
          refine act_normS (by simp only [Act.put, List.setIfInBounds_toArray, List.set_cons_zero, List.set_cons_succ]; rfl) ?_
          refine wpAnyH_take (i := 1) (v := .pointer (some ⟨g, 0, none⟩)) (List.getElem?_toArray.trans rfl) (by kernel_rfl) (by kernel_rfl) (by kernel_rfl) (fun _ _ _ h => h) (.inl ⟨rfl, fun w' hS => by simp [go_sem]⟩) hS0 ?_
          refine act_normS (by simp only [Act.put, List.setIfInBounds_toArray, List.set_cons_zero, List.set_cons_succ]; rfl) ?_
          refine wpAnyH_take (i := 2) (v := .pointer (some ⟨g, 0, none⟩)) (List.getElem?_toArray.trans rfl) (by kernel_rfl) (by kernel_rfl) (by kernel_rfl) (fun _ _ _ h => h) (.inl ⟨rfl, fun w' hS => by simp [go_sem]⟩) hS0 ?_
          refine act_normS (by simp only [Act.put, List.setIfInBounds_toArray, List.set_cons_zero, List.set_cons_succ]; rfl) ?_
          refine wpAnyH_take (i := 3) (v := .pointer (some ⟨g, 0, none⟩)) (List.getElem?_toArray.trans rfl) (by kernel_rfl) (by kernel_rfl) (by kernel_rfl) (fun _ _ _ h => h) (.inl ⟨rfl, fun w' hS => by simp [go_sem]⟩) hS0 ?_
          refine act_normS (by simp only [Act.put, List.setIfInBounds_toArray, List.set_cons_zero, List.set_cons_succ]; rfl) ?_
          refine wpAnyH_take (i := 4) (v := .slice Ah 0 c) (List.getElem?_toArray.trans rfl) (by kernel_rfl) (by kernel_rfl) (by kernel_rfl) (fun _ _ _ h => h) (.inl ⟨rfl, fun w' hS => by have hc := SinceS.cell hS (p := ⟨g, 0, none⟩) hgl c0; simp [go_sem, hc]⟩) hS0 ?_
          refine act_normS (by simp only [Act.put, List.setIfInBounds_toArray, List.set_cons_zero, List.set_cons_succ]; rfl) ?_
          refine wpAnyH_take (i := 5) (v := .int .i64 0) (List.getElem?_toArray.trans rfl) (by kernel_rfl) (by kernel_rfl) (by kernel_rfl) (fun _ _ _ h => h) (.inl ⟨rfl, fun w' hS => by simp [go_sem]⟩) hS0 ?_
          refine act_normS (by simp only [Act.put, List.setIfInBounds_toArray, List.set_cons_zero, List.set_cons_succ]; rfl) ?_
          refine wpAnyH_take (i := 6) (v := .bool false) (List.getElem?_toArray.trans rfl) (by kernel_rfl) (by kernel_rfl) (by kernel_rfl) (fun _ _ _ h => h) (.inl ⟨rfl, fun w' hS => by simp [go_sem]⟩) hS0 ?_
          refine act_normS (by simp only [Act.put, List.setIfInBounds_toArray, List.set_cons_zero, List.set_cons_succ]; rfl) ?_
          refine wpAnyH_take (i := 7) (v := .bool false) (List.getElem?_toArray.trans rfl) (by kernel_rfl) (by kernel_rfl) (by kernel_rfl) (fun _ _ _ h => h) (.inl ⟨rfl, fun w' hS => rfl⟩) hS0 ?_
          refine act_normS (by simp only [Act.put, List.setIfInBounds_toArray, List.set_cons_zero, List.set_cons_succ]; rfl) ?_
          refine wpAnyH_take (i := 8) (v := .pointer (some ⟨g, 0, none⟩)) (List.getElem?_toArray.trans rfl) (by kernel_rfl) (by kernel_rfl) (by kernel_rfl) (fun _ _ _ h => h) (.inl ⟨rfl, fun w' hS => rfl⟩) hS0 ?_
          refine act_normS (by simp only [Act.put, List.setIfInBounds_toArray, List.set_cons_zero, List.set_cons_succ]; rfl) ?_
          refine wpAnyH_take (i := 9) (v := .pointer (some ⟨g, 0, none⟩)) (List.getElem?_toArray.trans rfl) (by kernel_rfl) (by kernel_rfl) (by kernel_rfl) (fun _ _ _ h => h) (.inl ⟨rfl, fun w' hS => by simp [go_sem]⟩) hS0 ?_
          refine act_normS (by simp only [Act.put, List.setIfInBounds_toArray, List.set_cons_zero, List.set_cons_succ]; rfl) ?_
          refine wpAnyH_take (i := 10) (v := .pointer (some ⟨g, 0, none⟩)) (List.getElem?_toArray.trans rfl) (by kernel_rfl) (by kernel_rfl) (by kernel_rfl) (fun _ _ _ h => h) (.inl ⟨rfl, fun w' hS => by simp [go_sem]⟩) hS0 ?_
          refine act_normS (by simp only [Act.put, List.setIfInBounds_toArray, List.set_cons_zero, List.set_cons_succ]; rfl) ?_
          refine wpAnyH_take (i := 11) (v := .pointer (some ⟨g, 0, none⟩)) (List.getElem?_toArray.trans rfl) (by kernel_rfl) (by kernel_rfl) (by kernel_rfl) (fun _ _ _ h => h) (.inl ⟨rfl, fun w' hS => by simp [go_sem]⟩) hS0 ?_
          refine act_normS (by simp only [Act.put, List.setIfInBounds_toArray, List.set_cons_zero, List.set_cons_succ]; rfl) ?_
          refine wpAnyH_take (i := 12) (v := .slice Ah 0 c) (List.getElem?_toArray.trans rfl) (by kernel_rfl) (by kernel_rfl) (by kernel_rfl) (fun _ _ _ h => h) (.inl ⟨rfl, fun w' hS => by have hc := SinceS.cell hS (p := ⟨g, 0, none⟩) hgl c0; simp [go_sem, hc]⟩) hS0 ?_
          refine act_normS (by simp only [Act.put, List.setIfInBounds_toArray, List.set_cons_zero, List.set_cons_succ]; rfl) ?_
          refine wpAnyH_ready (rs := [13]) (by kernel_rfl) (by simp) (AllReadyH.cons (List.getElem?_toArray.trans rfl) (fun K' hK => ?_) AllReadyH.nil)
          refine wanted_goS rfl ?_
          go_simp
          refine HNEAT.out.mono ?_
          rintro e w7 ⟨h7, -, hb7⟩
          obtain rfl := h7 HNT.out
          have hs7 : SinceS w6 w7 := hb7
          have HO7 := Lib.hid (HO6.out.on hb7)
          have HL7 := Lib.hid ((HHL.out.below hb7).mono hb7.size)
          clear h7
          refine hK.out _ _ (hs7) (fun _ => ?_)
          clear hK K'
          refine wpAnyH_take (i := 14) (v := .bool false) (List.getElem?_toArray.trans rfl) (by kernel_rfl) (by kernel_rfl) (by kernel_rfl) (fun _ _ _ h => h) (.inl ⟨rfl, fun w' hS => by simp [go_sem]⟩) hs7 ?_
          refine act_normS (by simp only [Act.put, List.setIfInBounds_toArray, List.set_cons_zero, List.set_cons_succ]; rfl) ?_
          refine wpAnyH_take (i := 15) (v := .bool false) (List.getElem?_toArray.trans rfl) (by kernel_rfl) (by kernel_rfl) (by kernel_rfl) (fun _ _ _ h => h) (.inl ⟨rfl, fun w' hS => by simp [go_sem]⟩) hs7 ?_
          refine act_normS (by simp only [Act.put, List.setIfInBounds_toArray, List.set_cons_zero, List.set_cons_succ]; rfl) ?_
          refine wpAnyH_take (i := 16) (v := .bool false) (List.getElem?_toArray.trans rfl) (by kernel_rfl) (by kernel_rfl) (by kernel_rfl) (fun _ _ _ h => h) (.inl ⟨rfl, fun w' hS => rfl⟩) hs7 ?_
          refine act_normS (by simp only [Act.put, List.setIfInBounds_toArray, List.set_cons_zero, List.set_cons_succ]; rfl) ?_
          refine wpAnyH_take (i := 17) (v := .pointer (some ⟨g, 0, none⟩)) (List.getElem?_toArray.trans rfl) (by kernel_rfl) (by kernel_rfl) (by kernel_rfl) (fun _ _ _ h => h) (.inl ⟨rfl, fun w' hS => rfl⟩) hs7 ?_
          refine act_normS (by simp only [Act.put, List.setIfInBounds_toArray, List.set_cons_zero, List.set_cons_succ]; rfl) ?_
          refine wpAnyH_take (i := 18) (v := .pointer (some ⟨g, 0, none⟩)) (List.getElem?_toArray.trans rfl) (by kernel_rfl) (by kernel_rfl) (by kernel_rfl) (fun _ _ _ h => h) (.inl ⟨rfl, fun w' hS => by simp [go_sem]⟩) hs7 ?_
          refine act_normS (by simp only [Act.put, List.setIfInBounds_toArray, List.set_cons_zero, List.set_cons_succ]; rfl) ?_
          refine wpAnyH_take (i := 19) (v := .pointer (some ⟨g, 0, none⟩)) (List.getElem?_toArray.trans rfl) (by kernel_rfl) (by kernel_rfl) (by kernel_rfl) (fun _ _ _ h => h) (.inl ⟨rfl, fun w' hS => by simp [go_sem]⟩) hs7 ?_
          refine act_normS (by simp only [Act.put, List.setIfInBounds_toArray, List.set_cons_zero, List.set_cons_succ]; rfl) ?_
          refine wpAnyH_take (i := 20) (v := .pointer (some ⟨g, 0, none⟩)) (List.getElem?_toArray.trans rfl) (by kernel_rfl) (by kernel_rfl) (by kernel_rfl) (fun _ _ _ h => h) (.inl ⟨rfl, fun w' hS => by simp [go_sem]⟩) hs7 ?_
          refine act_normS (by simp only [Act.put, List.setIfInBounds_toArray, List.set_cons_zero, List.set_cons_succ]; rfl) ?_
          refine wpAnyH_take (i := 21) (v := .slice Ah 0 c) (List.getElem?_toArray.trans rfl) (by kernel_rfl) (by kernel_rfl) (by kernel_rfl) (fun _ _ _ h => h) (.inl ⟨rfl, fun w' hS => by have hc := SinceS.cell hS (p := ⟨g, 0, none⟩) hgl c0; simp [go_sem, hc]⟩) hs7 ?_
          refine act_normS (by simp only [Act.put, List.setIfInBounds_toArray, List.set_cons_zero, List.set_cons_succ]; rfl) ?_
          refine wpAnyH_take (i := 22) (v := .slice Ac nc cc) (List.getElem?_toArray.trans rfl) (by kernel_rfl) (by kernel_rfl) (by kernel_rfl) (fun _ _ _ h => h) (.inl ⟨rfl, fun w' hS => rfl⟩) hs7 ?_
          refine act_normS (by simp only [Act.put, List.setIfInBounds_toArray, List.set_cons_zero, List.set_cons_succ]; rfl) ?_
          have HCUT := Lib.hid (cut_any w7 _ Ah Ac 0 c nc cc s.l cm HL7.out (HO7.out.hands (by omega)) (Nat.le_refl _))
          refine wpAnyH_ready (rs := [23]) (by kernel_rfl) (by simp) (AllReadyH.cons (List.getElem?_toArray.trans rfl) (fun K' hK => ?_) AllReadyH.nil)
          refine wanted_goS rfl ?_
          go_simp
          refine HCUT.out.mono ?_
          rintro e w8 ⟨v, l8, rfl, hov, hnl, hfl, hil, hlen, hb8⟩
          have he : l8 = [] := neat_empty hnl fun x => by
            rw [hil]
            show (inB s.l x && !inB cm x) = false
            cases hx : inB s.l x with
            | false => rfl
            | true => rw [HO7.out.sub x hx]; rfl
          obtain ⟨A8, c8, rfl, hc8, hm8⟩ := hov.form
          rw [show l8.length = 0 by rw [he]; rfl]
          have hs8 : SinceS w6 w8 := SinceS.trans hs7 hb8
          have HO8 := Lib.hid (HO7.out.on hb8)
          clear hov hnl hfl hil hlen hc8 hm8 he HCUT HL7 HO7
          refine hK.out _ _ (hs8) (fun _ => ?_)
          clear hK K'
          refine wpAnyH_take (i := 24) (v := .int .i64 0) (List.getElem?_toArray.trans rfl) (by kernel_rfl) (by kernel_rfl) (by kernel_rfl) (fun _ _ _ h => h) (.inl ⟨rfl, fun w' hS => by simp [go_sem]⟩) hs8 ?_
          refine act_normS (by simp only [Act.put, List.setIfInBounds_toArray, List.set_cons_zero, List.set_cons_succ]; rfl) ?_
          refine wpAnyH_take (i := 25) (v := .bool false) (List.getElem?_toArray.trans rfl) (by kernel_rfl) (by kernel_rfl) (by kernel_rfl) (fun _ _ _ h => h) (.inl ⟨rfl, fun w' hS => by simp [go_sem]⟩) hs8 ?_
          refine act_normS (by simp only [Act.put, List.setIfInBounds_toArray, List.set_cons_zero, List.set_cons_succ]; rfl) ?_
          refine wpAnyH_take (i := 26) (v := .bool false) (List.getElem?_toArray.trans rfl) (by kernel_rfl) (by kernel_rfl) (by kernel_rfl) (fun _ _ _ h => h) (.inl ⟨rfl, fun w' hS => by simp [go_sem]⟩) hs8 ?_
          refine act_normS (by simp only [Act.put, List.setIfInBounds_toArray, List.set_cons_zero, List.set_cons_succ]; rfl) ?_
          refine wpAnyH_take (i := 27) (v := .bool false) (List.getElem?_toArray.trans rfl) (by kernel_rfl) (by kernel_rfl) (by kernel_rfl) (fun _ _ _ h => h) (.inl ⟨rfl, fun w' hS => rfl⟩) hs8 ?_
          refine act_normS (by simp only [Act.put, List.setIfInBounds_toArray, List.set_cons_zero, List.set_cons_succ]; rfl) ?_
          refine wpAnyH_take (i := 28) (v := .pointer (some ⟨g, 0, none⟩)) (List.getElem?_toArray.trans rfl) (by kernel_rfl) (by kernel_rfl) (by kernel_rfl) (fun _ _ _ h => h) (.inl ⟨rfl, fun w' hS => rfl⟩) hs8 ?_
          refine act_normS (by simp only [Act.put, List.setIfInBounds_toArray, List.set_cons_zero, List.set_cons_succ]; rfl) ?_
          refine wpAnyH_take (i := 29) (v := .pointer (some ⟨g, 0, none⟩)) (List.getElem?_toArray.trans rfl) (by kernel_rfl) (by kernel_rfl) (by kernel_rfl) (fun _ _ _ h => h) (.inl ⟨rfl, fun w' hS => by simp [go_sem]⟩) hs8 ?_
          refine act_normS (by simp only [Act.put, List.setIfInBounds_toArray, List.set_cons_zero, List.set_cons_succ]; rfl) ?_
          refine wpAnyH_take (i := 30) (v := .pointer (some ⟨g, 0, none⟩)) (List.getElem?_toArray.trans rfl) (by kernel_rfl) (by kernel_rfl) (by kernel_rfl) (fun _ _ _ h => h) (.inl ⟨rfl, fun w' hS => by simp [go_sem]⟩) hs8 ?_
          refine act_normS (by simp only [Act.put, List.setIfInBounds_toArray, List.set_cons_zero, List.set_cons_succ]; rfl) ?_
          refine wpAnyH_take (i := 31) (v := .pointer (some ⟨g, 0, none⟩)) (List.getElem?_toArray.trans rfl) (by kernel_rfl) (by kernel_rfl) (by kernel_rfl) (fun _ _ _ h => h) (.inl ⟨rfl, fun w' hS => by simp [go_sem]⟩) hs8 ?_
          refine act_normS (by simp only [Act.put, List.setIfInBounds_toArray, List.set_cons_zero, List.set_cons_succ]; rfl) ?_
          refine wpAnyH_take (i := 32) (v := .slice Ah 0 c) (List.getElem?_toArray.trans rfl) (by kernel_rfl) (by kernel_rfl) (by kernel_rfl) (fun _ _ _ h => h) (.inl ⟨rfl, fun w' hS => by have hc := SinceS.cell hS (p := ⟨g, 0, none⟩) hgl c0; simp [go_sem, hc]⟩) hs8 ?_
          refine act_normS (by simp only [Act.put, List.setIfInBounds_toArray, List.set_cons_zero, List.set_cons_succ]; rfl) ?_
          refine wpAnyH_take (i := 33) (v := .int .i64 0) (List.getElem?_toArray.trans rfl) (by kernel_rfl) (by kernel_rfl) (by kernel_rfl) (fun _ _ _ h => h) (.inl ⟨rfl, fun w' hS => by simp [go_sem]⟩) hs8 ?_
          refine act_normS (by simp only [Act.put, List.setIfInBounds_toArray, List.set_cons_zero, List.set_cons_succ]; rfl) ?_
          refine wpAnyH_take (i := 34) (v := .bool false) (List.getElem?_toArray.trans rfl) (by kernel_rfl) (by kernel_rfl) (by kernel_rfl) (fun _ _ _ h => h) (.inl ⟨rfl, fun w' hS => by simp [go_sem]⟩) hs8 ?_
          refine act_normS (by simp only [Act.put, List.setIfInBounds_toArray, List.set_cons_zero, List.set_cons_succ]; rfl) ?_
          refine wpAnyH_take (i := 35) (v := .bool false) (List.getElem?_toArray.trans rfl) (by kernel_rfl) (by kernel_rfl) (by kernel_rfl) (fun _ _ _ h => h) (.inl ⟨rfl, fun w' hS => rfl⟩) hs8 ?_
          refine act_normS (by simp only [Act.put, List.setIfInBounds_toArray, List.set_cons_zero, List.set_cons_succ]; rfl) ?_
          refine wpAnyH_take (i := 36) (v := undef) (List.getElem?_toArray.trans rfl) (by kernel_rfl) (by kernel_rfl) (by kernel_rfl) (fun _ _ _ h => h) (.inr ⟨rfl, rfl⟩) hs8 ?_
          refine act_normS (by simp only [Act.put, List.setIfInBounds_toArray, List.set_cons_zero, List.set_cons_succ]; rfl) ?_
          refine wpAnyH_take (i := 37) (v := undef) (List.getElem?_toArray.trans rfl) (by kernel_rfl) (by kernel_rfl) (by kernel_rfl) (fun _ _ _ h => h) (.inr ⟨rfl, rfl⟩) hs8 ?_
          refine act_normS (by simp only [Act.put, List.setIfInBounds_toArray, List.set_cons_zero, List.set_cons_succ]; rfl) ?_
          refine wpAnyH_take (i := 38) (v := undef) (List.getElem?_toArray.trans rfl) (by kernel_rfl) (by kernel_rfl) (by kernel_rfl) (fun _ _ _ h => h) (.inr ⟨rfl, rfl⟩) hs8 ?_
          refine act_normS (by simp only [Act.put, List.setIfInBounds_toArray, List.set_cons_zero, List.set_cons_succ]; rfl) ?_
          refine wpAnyH_take (i := 39) (v := undef) (List.getElem?_toArray.trans rfl) (by kernel_rfl) (by kernel_rfl) (by kernel_rfl) (fun _ _ _ h => h) (.inr ⟨rfl, rfl⟩) hs8 ?_
          refine act_normS (by simp only [Act.put, List.setIfInBounds_toArray, List.set_cons_zero, List.set_cons_succ]; rfl) ?_
          refine wpAnyH_take (i := 40) (v := undef) (List.getElem?_toArray.trans rfl) (by kernel_rfl) (by kernel_rfl) (by kernel_rfl) (fun _ _ _ h => h) (.inr ⟨rfl, rfl⟩) hs8 ?_
          refine act_normS (by simp only [Act.put, List.setIfInBounds_toArray, List.set_cons_zero, List.set_cons_succ]; rfl) ?_
          refine wpAnyH_take (i := 41) (v := undef) (List.getElem?_toArray.trans rfl) (by kernel_rfl) (by kernel_rfl) (by kernel_rfl) (fun _ _ _ h => h) (.inr ⟨rfl, rfl⟩) hs8 ?_
          refine act_normS (by simp only [Act.put, List.setIfInBounds_toArray, List.set_cons_zero, List.set_cons_succ]; rfl) ?_
          refine wpAnyH_take (i := 42) (v := undef) (List.getElem?_toArray.trans rfl) (by kernel_rfl) (by kernel_rfl) (by kernel_rfl) (fun _ _ _ h => h) (.inr ⟨rfl, rfl⟩) hs8 ?_
          refine act_normS (by simp only [Act.put, List.setIfInBounds_toArray, List.set_cons_zero, List.set_cons_succ]; rfl) ?_
          refine wpAnyH_take (i := 43) (v := undef) (List.getElem?_toArray.trans rfl) (by kernel_rfl) (by kernel_rfl) (by kernel_rfl) (fun _ _ _ h => h) (.inr ⟨rfl, rfl⟩) hs8 ?_
          refine act_normS (by simp only [Act.put, List.setIfInBounds_toArray, List.set_cons_zero, List.set_cons_succ]; rfl) ?_
          refine wpAnyH_take (i := 44) (v := undef) (List.getElem?_toArray.trans rfl) (by kernel_rfl) (by kernel_rfl) (by kernel_rfl) (fun _ _ _ h => h) (.inr ⟨rfl, rfl⟩) hs8 ?_
          refine act_normS (by simp only [Act.put, List.setIfInBounds_toArray, List.set_cons_zero, List.set_cons_succ]; rfl) ?_
          refine wpAnyH_take (i := 45) (v := undef) (List.getElem?_toArray.trans rfl) (by kernel_rfl) (by kernel_rfl) (by kernel_rfl) (fun _ _ _ h => h) (.inr ⟨rfl, rfl⟩) hs8 ?_
          refine act_normS (by simp only [Act.put, List.setIfInBounds_toArray, List.set_cons_zero, List.set_cons_succ]; rfl) ?_
          refine wpAnyH_take (i := 46) (v := undef) (List.getElem?_toArray.trans rfl) (by kernel_rfl) (by kernel_rfl) (by kernel_rfl) (fun _ _ _ h => h) (.inr ⟨rfl, rfl⟩) hs8 ?_
          refine act_normS (by simp only [Act.put, List.setIfInBounds_toArray, List.set_cons_zero, List.set_cons_succ]; rfl) ?_
          refine wpAnyH_take (i := 47) (v := undef) (List.getElem?_toArray.trans rfl) (by kernel_rfl) (by kernel_rfl) (by kernel_rfl) (fun _ _ _ h => h) (.inr ⟨rfl, rfl⟩) hs8 ?_
          refine act_normS (by simp only [Act.put, List.setIfInBounds_toArray, List.set_cons_zero, List.set_cons_succ]; rfl) ?_
          refine wpAnyH_take (i := 48) (v := undef) (List.getElem?_toArray.trans rfl) (by kernel_rfl) (by kernel_rfl) (by kernel_rfl) (fun _ _ _ h => h) (.inr ⟨rfl, rfl⟩) hs8 ?_
          refine act_normS (by simp only [Act.put, List.setIfInBounds_toArray, List.set_cons_zero, List.set_cons_succ]; rfl) ?_
          refine wpAnyH_take (i := 49) (v := undef) (List.getElem?_toArray.trans rfl) (by kernel_rfl) (by kernel_rfl) (by kernel_rfl) (fun _ _ _ h => h) (.inr ⟨rfl, rfl⟩) hs8 ?_
          refine act_normS (by simp only [Act.put, List.setIfInBounds_toArray, List.set_cons_zero, List.set_cons_succ]; rfl) ?_
          refine wpAnyH_take (i := 50) (v := .bool false) (List.getElem?_toArray.trans rfl) (by kernel_rfl) (by kernel_rfl) (by kernel_rfl) (fun _ _ _ h => h) (.inl ⟨rfl, fun w' hS => by simp [go_sem]⟩) hs8 ?_
          refine act_normS (by simp only [Act.put, List.setIfInBounds_toArray, List.set_cons_zero, List.set_cons_succ]; rfl) ?_
          refine wpAnyH_take (i := 51) (v := .bool false) (List.getElem?_toArray.trans rfl) (by kernel_rfl) (by kernel_rfl) (by kernel_rfl) (fun _ _ _ h => h) (.inl ⟨rfl, fun w' hS => by simp [go_sem]⟩) hs8 ?_
          refine act_normS (by simp only [Act.put, List.setIfInBounds_toArray, List.set_cons_zero, List.set_cons_succ]; rfl) ?_
          refine wpAnyH_done (by kernel_rfl) ?_ _
          have hncb : nc ≤ 301 := by have := HO8.out.few; omega
          clear hs7 hb7 hs8 hb8 hS0 hgl c1 HHL HNEAT HNT HO6
          go_wp2
          go_loopw [137] (fun s137 wi => ∃ j : Nat, j ≤ nc ∧ s137 = .int .i64 j ∧ Hid (Below w8.heap.size w8 wi)) (fun s137 _ => nc - (intOf s137).toNat)
          case atStart => exact ⟨0, Nat.zero_le _, rfl, Lib.hid (Below.refl _ _)⟩
          case round =>
            obtain ⟨j, hj, rfl, hbw⟩ := hrel
            by_cases hjn : j < nc
            · obtain ⟨r, hr⟩ : ∃ r, cm[j]? = some r := ⟨_, List.getElem?_eq_getElem (by rw [HO8.out.len]; exact hjn)⟩
              obtain ⟨b2, off2, rfl, -, hbl2, hcc2⟩ := (HO8.out.rs.below hbw.out).at_ (by rw [HO8.out.len]; omega)
              have HRG := Lib.hid (range_rc (hcc2 j r hr))
              have hm := List.mem_of_getElem? hr
              have h1r := HO8.out.cov _ (first_in HO8.out.neat hm)
              have h2r := HO8.out.cov _ (last_in HO8.out.neat hm)
              have hr12 := HO8.out.neat.1 r hm
              have hr2t := (HO8.out.fit r hm).2
              obtain ⟨p, hp⟩ : ∃ p, p = r.2 - 1 := ⟨_, rfl⟩
              rw [← hp] at h2r
              have hwp : IntKind.u64.wrap ((r.2 : Int) - 1) = (p : Int) := by rw [IntKind.wrap_u64, hp]; unfold topN at hr2t; omega
              have dj : decide (j < nc) = true := decide_eq_true hjn
              have H1R := Lib.hid h1r
              have H2R := Lib.hid h2r
              clear hcc2 hm hr hp h1r h2r hr12 hr2t hbl2
              generalize wr = wz at *
              go_upto_region 25 with (first
                | (refine wpList_load_mid rfl 42 (.tmp 139) rfl b2 (off2 + j * 2) rfl (rcS r) _ HRG.out Try.underlying42 rfl size_rg ?_)
                | (refine wpList_store_row rfl 42 (.tmp 10) (.tmp 140) rfl wz.heap.size (rcS r).toArray rfl rfl _ _ (heap_alloc_new wz _) size_rg rfl (rcS_arr r) ?_; rw [World.setRow_alloc_new]))
              have hW := Wh.new wz 42 (rcS r).toArray
              have hb9 := hbw.out.alloc hbw.out.size (.cells (rcS r).toArray 42)
              have HH9 := Lib.hid (HO8.out.hat.below hb9)
              have HB9 := Lib.hid hb9
              have hs89 := hb9.size
              clear hb9 HRG
              generalize wz.alloc (.cells (rcS r).toArray 42) = w9 at *
              generalize wz.heap.size = q9 at *
              have hy1 : w9.cell? ⟨q9, 0, none⟩ = some (.int .u64 (r.1 : Int)) := (hW.cell 0).trans rfl
              have hy2 : w9.cell? ⟨q9, 1, none⟩ = some (.int .u64 (r.2 : Int)) := (hW.cell 1).trans rfl
              have hql := hW.lt
              clear hW
              have HC1 := came_any w9 g _ _ r.1 _ s HH9.out HO8.out.ok
              rw [H1R.out] at HC1
              go_wp2_with fail
              refine HC1.mono ?_
              rintro e w10 ⟨rfl, hb10⟩
              have HH10 := Lib.hid (HH9.out.below hb10)
              have hy3 : w10.cell? ⟨q9, 1, none⟩ = some (.int .u64 (r.2 : Int)) := (hb10.cell (p := ⟨q9, 1, none⟩) hql).trans hy2
              have HB10 := Lib.hid (HB9.out.trans (hb10.mono hs89))
              have hs810 := HB10.out.size
              have HC2 := came_any w10 g _ _ p _ s HH10.out HO8.out.ok
              rw [H2R.out] at HC2
              clear hb10 HB9 HH9 hy1 hy2
              go_wp2_with fail
              refine HC2.mono ?_
              rintro e w11 ⟨rfl, hb11⟩
              have HB11 := Lib.hid (HB10.out.trans (hb11.mono hs810))
              clear hb11 HB10 HH10 hy3 HC1 HC2
              go_wp2
              go_roundw
              case rel => exact ⟨j + 1, by omega, by go_num, HB11⟩
              case measure => simp [intOf]; omega
            · have dj : decide (j < nc) = false := decide_eq_false hjn
              have HO9 := Lib.hid (HO8.out.on hbw.out)
              go_wp2
              go_roundw
              case rel => exact ⟨k + 1, _, _, _, _, _, _, _, _, by omega, by go_num, rfl, HO9⟩
              case measure => simp [intOf]; omega
        · obtain ⟨r1, hr10⟩ : ∃ r, s.l[0]? = some r := ⟨_, List.getElem?_eq_getElem (by rw [HO6.out.hat.len]; exact hpos)⟩
          obtain ⟨b1, off1, rfl, -, hbl1, hcc1⟩ := HO6.out.hat.reads.at_ (by rw [HO6.out.hat.len]; exact hpos)
          have hr1 := (hcc1 0 r1 hr10).1
          rw [Nat.zero_mul, Nat.add_zero] at hr1
          have hlt : ¬ r1.1 < s.fl := by
            have := HO6.out.ok.above r1.1 (first_in HO6.out.ok.neat (List.mem_of_getElem? hr10))
            omega
          have h64 : ¬ (64 : Int) < (n : Int) := by have := HO6.out.ok.few; have := HO6.out.hat.len; omega
          clear hcc1 hr10
          refine wpAnyH_take (i := 0) (v := .pointer (some ⟨g, 0, none⟩)) (List.getElem?_toArray.trans rfl) (by kernel_rfl) (by kernel_rfl) (by kernel_rfl) (fun _ _ _ h => h) (.inl ⟨rfl, fun w' hS => rfl⟩) hS0 ?_
          refine act_normS (by simp only [Act.put, List.setIfInBounds_toArray, List.set_cons_zero, List.set_cons_succ]; rfl) ?_
          refine wpAnyH_take (i := 1) (v := .pointer (some ⟨g, 0, none⟩)) (List.getElem?_toArray.trans rfl) (by kernel_rfl) (by kernel_rfl) (by kernel_rfl) (fun _ _ _ h => h) (.inl ⟨rfl, fun w' hS => by simp [go_sem]⟩) hS0 ?_
          refine act_normS (by simp only [Act.put, List.setIfInBounds_toArray, List.set_cons_zero, List.set_cons_succ]; rfl) ?_
          refine wpAnyH_take (i := 2) (v := .pointer (some ⟨g, 0, none⟩)) (List.getElem?_toArray.trans rfl) (by kernel_rfl) (by kernel_rfl) (by kernel_rfl) (fun _ _ _ h => h) (.inl ⟨rfl, fun w' hS => by simp [go_sem]⟩) hS0 ?_
          refine act_normS (by simp only [Act.put, List.setIfInBounds_toArray, List.set_cons_zero, List.set_cons_succ]; rfl) ?_
          refine wpAnyH_take (i := 3) (v := .pointer (some ⟨g, 0, none⟩)) (List.getElem?_toArray.trans rfl) (by kernel_rfl) (by kernel_rfl) (by kernel_rfl) (fun _ _ _ h => h) (.inl ⟨rfl, fun w' hS => by simp [go_sem]⟩) hS0 ?_
          refine act_normS (by simp only [Act.put, List.setIfInBounds_toArray, List.set_cons_zero, List.set_cons_succ]; rfl) ?_
          refine wpAnyH_take (i := 4) (v := .slice (some ⟨b1, off1, none⟩) n c) (List.getElem?_toArray.trans rfl) (by kernel_rfl) (by kernel_rfl) (by kernel_rfl) (fun _ _ _ h => h) (.inl ⟨rfl, fun w' hS => by have hc := SinceS.cell hS (p := ⟨g, 0, none⟩) hgl c0; simp [go_sem, hc]⟩) hS0 ?_
          refine act_normS (by simp only [Act.put, List.setIfInBounds_toArray, List.set_cons_zero, List.set_cons_succ]; rfl) ?_
          refine wpAnyH_take (i := 5) (v := .int .i64 (n : Int)) (List.getElem?_toArray.trans rfl) (by kernel_rfl) (by kernel_rfl) (by kernel_rfl) (fun _ _ _ h => h) (.inl ⟨rfl, fun w' hS => by simp [go_sem]⟩) hS0 ?_
          refine act_normS (by simp only [Act.put, List.setIfInBounds_toArray, List.set_cons_zero, List.set_cons_succ]; rfl) ?_
          refine wpAnyH_take (i := 6) (v := .bool false) (List.getElem?_toArray.trans rfl) (by kernel_rfl) (by kernel_rfl) (by kernel_rfl) (fun _ _ _ h => h) (.inl ⟨rfl, fun w' hS => by simp [go_sem, h64]⟩) hS0 ?_
          refine act_normS (by simp only [Act.put, List.setIfInBounds_toArray, List.set_cons_zero, List.set_cons_succ]; rfl) ?_
          refine wpAnyH_take (i := 7) (v := .bool false) (List.getElem?_toArray.trans rfl) (by kernel_rfl) (by kernel_rfl) (by kernel_rfl) (fun _ _ _ h => h) (.inl ⟨rfl, fun w' hS => rfl⟩) hS0 ?_
          refine act_normS (by simp only [Act.put, List.setIfInBounds_toArray, List.set_cons_zero, List.set_cons_succ]; rfl) ?_
          refine wpAnyH_take (i := 8) (v := .pointer (some ⟨g, 0, none⟩)) (List.getElem?_toArray.trans rfl) (by kernel_rfl) (by kernel_rfl) (by kernel_rfl) (fun _ _ _ h => h) (.inl ⟨rfl, fun w' hS => rfl⟩) hS0 ?_
          refine act_normS (by simp only [Act.put, List.setIfInBounds_toArray, List.set_cons_zero, List.set_cons_succ]; rfl) ?_
          refine wpAnyH_take (i := 9) (v := .pointer (some ⟨g, 0, none⟩)) (List.getElem?_toArray.trans rfl) (by kernel_rfl) (by kernel_rfl) (by kernel_rfl) (fun _ _ _ h => h) (.inl ⟨rfl, fun w' hS => by simp [go_sem]⟩) hS0 ?_
          refine act_normS (by simp only [Act.put, List.setIfInBounds_toArray, List.set_cons_zero, List.set_cons_succ]; rfl) ?_
          refine wpAnyH_take (i := 10) (v := .pointer (some ⟨g, 0, none⟩)) (List.getElem?_toArray.trans rfl) (by kernel_rfl) (by kernel_rfl) (by kernel_rfl) (fun _ _ _ h => h) (.inl ⟨rfl, fun w' hS => by simp [go_sem]⟩) hS0 ?_
          refine act_normS (by simp only [Act.put, List.setIfInBounds_toArray, List.set_cons_zero, List.set_cons_succ]; rfl) ?_
          refine wpAnyH_take (i := 11) (v := .pointer (some ⟨g, 0, none⟩)) (List.getElem?_toArray.trans rfl) (by kernel_rfl) (by kernel_rfl) (by kernel_rfl) (fun _ _ _ h => h) (.inl ⟨rfl, fun w' hS => by simp [go_sem]⟩) hS0 ?_
          refine act_normS (by simp only [Act.put, List.setIfInBounds_toArray, List.set_cons_zero, List.set_cons_succ]; rfl) ?_
          refine wpAnyH_take (i := 12) (v := .slice (some ⟨b1, off1, none⟩) n c) (List.getElem?_toArray.trans rfl) (by kernel_rfl) (by kernel_rfl) (by kernel_rfl) (fun _ _ _ h => h) (.inl ⟨rfl, fun w' hS => by have hc := SinceS.cell hS (p := ⟨g, 0, none⟩) hgl c0; simp [go_sem, hc]⟩) hS0 ?_
          refine act_normS (by simp only [Act.put, List.setIfInBounds_toArray, List.set_cons_zero, List.set_cons_succ]; rfl) ?_
          refine wpAnyH_ready (rs := [13]) (by kernel_rfl) (by simp) (AllReadyH.cons (List.getElem?_toArray.trans rfl) (fun K' hK => ?_) AllReadyH.nil)
          refine wanted_goS rfl ?_
          go_simp
          refine HNEAT.out.mono ?_
          rintro e w7 ⟨h7, -, hb7⟩
          obtain rfl := h7 HNT.out
          have hs7 : SinceS w6 w7 := hb7
          have HO7 := Lib.hid (HO6.out.on hb7)
          have HL7 := Lib.hid ((HHL.out.below hb7).mono hb7.size)
          clear h7
          refine hK.out _ _ (hs7) (fun _ => ?_)
          clear hK K'
          refine wpAnyH_take (i := 14) (v := .bool false) (List.getElem?_toArray.trans rfl) (by kernel_rfl) (by kernel_rfl) (by kernel_rfl) (fun _ _ _ h => h) (.inl ⟨rfl, fun w' hS => by simp [go_sem]⟩) hs7 ?_
          refine act_normS (by simp only [Act.put, List.setIfInBounds_toArray, List.set_cons_zero, List.set_cons_succ]; rfl) ?_
          refine wpAnyH_take (i := 15) (v := .bool false) (List.getElem?_toArray.trans rfl) (by kernel_rfl) (by kernel_rfl) (by kernel_rfl) (fun _ _ _ h => h) (.inl ⟨rfl, fun w' hS => by simp [go_sem]⟩) hs7 ?_
          refine act_normS (by simp only [Act.put, List.setIfInBounds_toArray, List.set_cons_zero, List.set_cons_succ]; rfl) ?_
          refine wpAnyH_take (i := 16) (v := .bool false) (List.getElem?_toArray.trans rfl) (by kernel_rfl) (by kernel_rfl) (by kernel_rfl) (fun _ _ _ h => h) (.inl ⟨rfl, fun w' hS => rfl⟩) hs7 ?_
          refine act_normS (by simp only [Act.put, List.setIfInBounds_toArray, List.set_cons_zero, List.set_cons_succ]; rfl) ?_
          refine wpAnyH_take (i := 17) (v := .pointer (some ⟨g, 0, none⟩)) (List.getElem?_toArray.trans rfl) (by kernel_rfl) (by kernel_rfl) (by kernel_rfl) (fun _ _ _ h => h) (.inl ⟨rfl, fun w' hS => rfl⟩) hs7 ?_
          refine act_normS (by simp only [Act.put, List.setIfInBounds_toArray, List.set_cons_zero, List.set_cons_succ]; rfl) ?_
          refine wpAnyH_take (i := 18) (v := .pointer (some ⟨g, 0, none⟩)) (List.getElem?_toArray.trans rfl) (by kernel_rfl) (by kernel_rfl) (by kernel_rfl) (fun _ _ _ h => h) (.inl ⟨rfl, fun w' hS => by simp [go_sem]⟩) hs7 ?_
          refine act_normS (by simp only [Act.put, List.setIfInBounds_toArray, List.set_cons_zero, List.set_cons_succ]; rfl) ?_
          refine wpAnyH_take (i := 19) (v := .pointer (some ⟨g, 0, none⟩)) (List.getElem?_toArray.trans rfl) (by kernel_rfl) (by kernel_rfl) (by kernel_rfl) (fun _ _ _ h => h) (.inl ⟨rfl, fun w' hS => by simp [go_sem]⟩) hs7 ?_
          refine act_normS (by simp only [Act.put, List.setIfInBounds_toArray, List.set_cons_zero, List.set_cons_succ]; rfl) ?_
          refine wpAnyH_take (i := 20) (v := .pointer (some ⟨g, 0, none⟩)) (List.getElem?_toArray.trans rfl) (by kernel_rfl) (by kernel_rfl) (by kernel_rfl) (fun _ _ _ h => h) (.inl ⟨rfl, fun w' hS => by simp [go_sem]⟩) hs7 ?_
          refine act_normS (by simp only [Act.put, List.setIfInBounds_toArray, List.set_cons_zero, List.set_cons_succ]; rfl) ?_
          refine wpAnyH_take (i := 21) (v := .slice (some ⟨b1, off1, none⟩) n c) (List.getElem?_toArray.trans rfl) (by kernel_rfl) (by kernel_rfl) (by kernel_rfl) (fun _ _ _ h => h) (.inl ⟨rfl, fun w' hS => by have hc := SinceS.cell hS (p := ⟨g, 0, none⟩) hgl c0; simp [go_sem, hc]⟩) hs7 ?_
          refine act_normS (by simp only [Act.put, List.setIfInBounds_toArray, List.set_cons_zero, List.set_cons_succ]; rfl) ?_
          refine wpAnyH_take (i := 22) (v := .slice Ac nc cc) (List.getElem?_toArray.trans rfl) (by kernel_rfl) (by kernel_rfl) (by kernel_rfl) (fun _ _ _ h => h) (.inl ⟨rfl, fun w' hS => rfl⟩) hs7 ?_
          refine act_normS (by simp only [Act.put, List.setIfInBounds_toArray, List.set_cons_zero, List.set_cons_succ]; rfl) ?_
          have HCUT := Lib.hid (cut_any w7 _ (some ⟨b1, off1, none⟩) Ac n c nc cc s.l cm HL7.out (HO7.out.hands (by omega)) (Nat.le_refl _))
          refine wpAnyH_ready (rs := [23]) (by kernel_rfl) (by simp) (AllReadyH.cons (List.getElem?_toArray.trans rfl) (fun K' hK => ?_) AllReadyH.nil)
          refine wanted_goS rfl ?_
          go_simp
          refine HCUT.out.mono ?_
          rintro e w8 ⟨v, l8, rfl, hov, hnl, hfl, hil, hlen, hb8⟩
          have he : l8 = [] := neat_empty hnl fun x => by
            rw [hil]
            show (inB s.l x && !inB cm x) = false
            cases hx : inB s.l x with
            | false => rfl
            | true => rw [HO7.out.sub x hx]; rfl
          obtain ⟨A8, c8, rfl, hc8, hm8⟩ := hov.form
          rw [show l8.length = 0 by rw [he]; rfl]
          have hs8 : SinceS w6 w8 := SinceS.trans hs7 hb8
          have HO8 := Lib.hid (HO7.out.on hb8)
          clear hov hnl hfl hil hlen hc8 hm8 he HCUT HL7 HO7
          refine hK.out _ _ (hs8) (fun _ => ?_)
          clear hK K'
          refine wpAnyH_take (i := 24) (v := .int .i64 0) (List.getElem?_toArray.trans rfl) (by kernel_rfl) (by kernel_rfl) (by kernel_rfl) (fun _ _ _ h => h) (.inl ⟨rfl, fun w' hS => by simp [go_sem]⟩) hs8 ?_
          refine act_normS (by simp only [Act.put, List.setIfInBounds_toArray, List.set_cons_zero, List.set_cons_succ]; rfl) ?_
          refine wpAnyH_take (i := 25) (v := .bool false) (List.getElem?_toArray.trans rfl) (by kernel_rfl) (by kernel_rfl) (by kernel_rfl) (fun _ _ _ h => h) (.inl ⟨rfl, fun w' hS => by simp [go_sem]⟩) hs8 ?_
          refine act_normS (by simp only [Act.put, List.setIfInBounds_toArray, List.set_cons_zero, List.set_cons_succ]; rfl) ?_
          refine wpAnyH_take (i := 26) (v := .bool false) (List.getElem?_toArray.trans rfl) (by kernel_rfl) (by kernel_rfl) (by kernel_rfl) (fun _ _ _ h => h) (.inl ⟨rfl, fun w' hS => by simp [go_sem]⟩) hs8 ?_
          refine act_normS (by simp only [Act.put, List.setIfInBounds_toArray, List.set_cons_zero, List.set_cons_succ]; rfl) ?_
          refine wpAnyH_take (i := 27) (v := .bool false) (List.getElem?_toArray.trans rfl) (by kernel_rfl) (by kernel_rfl) (by kernel_rfl) (fun _ _ _ h => h) (.inl ⟨rfl, fun w' hS => rfl⟩) hs8 ?_
          refine act_normS (by simp only [Act.put, List.setIfInBounds_toArray, List.set_cons_zero, List.set_cons_succ]; rfl) ?_
          refine wpAnyH_take (i := 28) (v := .pointer (some ⟨g, 0, none⟩)) (List.getElem?_toArray.trans rfl) (by kernel_rfl) (by kernel_rfl) (by kernel_rfl) (fun _ _ _ h => h) (.inl ⟨rfl, fun w' hS => rfl⟩) hs8 ?_
          refine act_normS (by simp only [Act.put, List.setIfInBounds_toArray, List.set_cons_zero, List.set_cons_succ]; rfl) ?_
          refine wpAnyH_take (i := 29) (v := .pointer (some ⟨g, 0, none⟩)) (List.getElem?_toArray.trans rfl) (by kernel_rfl) (by kernel_rfl) (by kernel_rfl) (fun _ _ _ h => h) (.inl ⟨rfl, fun w' hS => by simp [go_sem]⟩) hs8 ?_
          refine act_normS (by simp only [Act.put, List.setIfInBounds_toArray, List.set_cons_zero, List.set_cons_succ]; rfl) ?_
          refine wpAnyH_take (i := 30) (v := .pointer (some ⟨g, 0, none⟩)) (List.getElem?_toArray.trans rfl) (by kernel_rfl) (by kernel_rfl) (by kernel_rfl) (fun _ _ _ h => h) (.inl ⟨rfl, fun w' hS => by simp [go_sem]⟩) hs8 ?_
          refine act_normS (by simp only [Act.put, List.setIfInBounds_toArray, List.set_cons_zero, List.set_cons_succ]; rfl) ?_
          refine wpAnyH_take (i := 31) (v := .pointer (some ⟨g, 0, none⟩)) (List.getElem?_toArray.trans rfl) (by kernel_rfl) (by kernel_rfl) (by kernel_rfl) (fun _ _ _ h => h) (.inl ⟨rfl, fun w' hS => by simp [go_sem]⟩) hs8 ?_
          refine act_normS (by simp only [Act.put, List.setIfInBounds_toArray, List.set_cons_zero, List.set_cons_succ]; rfl) ?_
          refine wpAnyH_take (i := 32) (v := .slice (some ⟨b1, off1, none⟩) n c) (List.getElem?_toArray.trans rfl) (by kernel_rfl) (by kernel_rfl) (by kernel_rfl) (fun _ _ _ h => h) (.inl ⟨rfl, fun w' hS => by have hc := SinceS.cell hS (p := ⟨g, 0, none⟩) hgl c0; simp [go_sem, hc]⟩) hs8 ?_
          refine act_normS (by simp only [Act.put, List.setIfInBounds_toArray, List.set_cons_zero, List.set_cons_succ]; rfl) ?_
          refine wpAnyH_take (i := 33) (v := .int .i64 (n : Int)) (List.getElem?_toArray.trans rfl) (by kernel_rfl) (by kernel_rfl) (by kernel_rfl) (fun _ _ _ h => h) (.inl ⟨rfl, fun w' hS => by simp [go_sem]⟩) hs8 ?_
          refine act_normS (by simp only [Act.put, List.setIfInBounds_toArray, List.set_cons_zero, List.set_cons_succ]; rfl) ?_
          refine wpAnyH_take (i := 34) (v := .bool true) (List.getElem?_toArray.trans rfl) (by kernel_rfl) (by kernel_rfl) (by kernel_rfl) (fun _ _ _ h => h) (.inl ⟨rfl, fun w' hS => by simp [go_sem, hpos]⟩) hs8 ?_
          refine act_normS (by simp only [Act.put, List.setIfInBounds_toArray, List.set_cons_zero, List.set_cons_succ]; rfl) ?_
          refine wpAnyH_take (i := 35) (v := .bool true) (List.getElem?_toArray.trans rfl) (by kernel_rfl) (by kernel_rfl) (by kernel_rfl) (fun _ _ _ h => h) (.inl ⟨rfl, fun w' hS => rfl⟩) hs8 ?_
          refine act_normS (by simp only [Act.put, List.setIfInBounds_toArray, List.set_cons_zero, List.set_cons_succ]; rfl) ?_
          refine wpAnyH_take (i := 36) (v := .pointer (some ⟨g, 0, none⟩)) (List.getElem?_toArray.trans rfl) (by kernel_rfl) (by kernel_rfl) (by kernel_rfl) (fun _ _ _ h => h) (.inl ⟨rfl, fun w' hS => rfl⟩) hs8 ?_
          refine act_normS (by simp only [Act.put, List.setIfInBounds_toArray, List.set_cons_zero, List.set_cons_succ]; rfl) ?_
          refine wpAnyH_take (i := 37) (v := .pointer (some ⟨g, 0, none⟩)) (List.getElem?_toArray.trans rfl) (by kernel_rfl) (by kernel_rfl) (by kernel_rfl) (fun _ _ _ h => h) (.inl ⟨rfl, fun w' hS => by simp [go_sem]⟩) hs8 ?_
          refine act_normS (by simp only [Act.put, List.setIfInBounds_toArray, List.set_cons_zero, List.set_cons_succ]; rfl) ?_
          refine wpAnyH_take (i := 38) (v := .pointer (some ⟨g, 0, none⟩)) (List.getElem?_toArray.trans rfl) (by kernel_rfl) (by kernel_rfl) (by kernel_rfl) (fun _ _ _ h => h) (.inl ⟨rfl, fun w' hS => by simp [go_sem]⟩) hs8 ?_
          refine act_normS (by simp only [Act.put, List.setIfInBounds_toArray, List.set_cons_zero, List.set_cons_succ]; rfl) ?_
          refine wpAnyH_take (i := 39) (v := .pointer (some ⟨g, 0, none⟩)) (List.getElem?_toArray.trans rfl) (by kernel_rfl) (by kernel_rfl) (by kernel_rfl) (fun _ _ _ h => h) (.inl ⟨rfl, fun w' hS => by simp [go_sem]⟩) hs8 ?_
          refine act_normS (by simp only [Act.put, List.setIfInBounds_toArray, List.set_cons_zero, List.set_cons_succ]; rfl) ?_
          refine wpAnyH_take (i := 40) (v := .slice (some ⟨b1, off1, none⟩) n c) (List.getElem?_toArray.trans rfl) (by kernel_rfl) (by kernel_rfl) (by kernel_rfl) (fun _ _ _ h => h) (.inl ⟨rfl, fun w' hS => by have hc := SinceS.cell hS (p := ⟨g, 0, none⟩) hgl c0; simp [go_sem, hc]⟩) hs8 ?_
          refine act_normS (by simp only [Act.put, List.setIfInBounds_toArray, List.set_cons_zero, List.set_cons_succ]; rfl) ?_
          refine wpAnyH_take (i := 41) (v := .pointer (some ⟨b1, off1, none⟩)) (List.getElem?_toArray.trans rfl) (by kernel_rfl) (by kernel_rfl) (by kernel_rfl) (fun _ _ _ h => h) (.inl ⟨rfl, fun w' hS => by simp [go_sem, hpos]⟩) hs8 ?_
          refine act_normS (by simp only [Act.put, List.setIfInBounds_toArray, List.set_cons_zero, List.set_cons_succ]; rfl) ?_
          refine wpAnyH_take (i := 42) (v := .pointer (some ⟨b1, off1, none⟩)) (List.getElem?_toArray.trans rfl) (by kernel_rfl) (by kernel_rfl) (by kernel_rfl) (fun _ _ _ h => h) (.inl ⟨rfl, fun w' hS => by simp [go_sem]⟩) hs8 ?_
          refine act_normS (by simp only [Act.put, List.setIfInBounds_toArray, List.set_cons_zero, List.set_cons_succ]; rfl) ?_
          refine wpAnyH_take (i := 43) (v := .int .u64 (r1.1 : Int)) (List.getElem?_toArray.trans rfl) (by kernel_rfl) (by kernel_rfl) (by kernel_rfl) (fun _ _ _ h => h) (.inl ⟨rfl, fun w' hS => by have hc := SinceS.cell hS (p := ⟨b1, off1, none⟩) hbl1 hr1; simp [go_sem, hc]⟩) hs8 ?_
          refine act_normS (by simp only [Act.put, List.setIfInBounds_toArray, List.set_cons_zero, List.set_cons_succ]; rfl) ?_
          refine wpAnyH_take (i := 44) (v := .pointer (some ⟨g, 0, none⟩)) (List.getElem?_toArray.trans rfl) (by kernel_rfl) (by kernel_rfl) (by kernel_rfl) (fun _ _ _ h => h) (.inl ⟨rfl, fun w' hS => rfl⟩) hs8 ?_
          refine act_normS (by simp only [Act.put, List.setIfInBounds_toArray, List.set_cons_zero, List.set_cons_succ]; rfl) ?_
          refine wpAnyH_take (i := 45) (v := .pointer (some ⟨g, 0, none⟩)) (List.getElem?_toArray.trans rfl) (by kernel_rfl) (by kernel_rfl) (by kernel_rfl) (fun _ _ _ h => h) (.inl ⟨rfl, fun w' hS => by simp [go_sem]⟩) hs8 ?_
          refine act_normS (by simp only [Act.put, List.setIfInBounds_toArray, List.set_cons_zero, List.set_cons_succ]; rfl) ?_
          refine wpAnyH_take (i := 46) (v := .pointer (some ⟨g, 0, none⟩)) (List.getElem?_toArray.trans rfl) (by kernel_rfl) (by kernel_rfl) (by kernel_rfl) (fun _ _ _ h => h) (.inl ⟨rfl, fun w' hS => by simp [go_sem]⟩) hs8 ?_
          refine act_normS (by simp only [Act.put, List.setIfInBounds_toArray, List.set_cons_zero, List.set_cons_succ]; rfl) ?_
          refine wpAnyH_take (i := 47) (v := .pointer (some ⟨g, 1, none⟩)) (List.getElem?_toArray.trans rfl) (by kernel_rfl) (by kernel_rfl) (by kernel_rfl) (fun _ _ _ h => h) (.inl ⟨rfl, fun w' hS => by simp [go_sem]⟩) hs8 ?_
          refine act_normS (by simp only [Act.put, List.setIfInBounds_toArray, List.set_cons_zero, List.set_cons_succ]; rfl) ?_
          refine wpAnyH_take (i := 48) (v := .int .u64 (s.fl : Int)) (List.getElem?_toArray.trans rfl) (by kernel_rfl) (by kernel_rfl) (by kernel_rfl) (fun _ _ _ h => h) (.inl ⟨rfl, fun w' hS => by have hc := SinceS.cell hS (p := ⟨g, 1, none⟩) hgl c1; simp [go_sem, hc]⟩) hs8 ?_
          refine act_normS (by simp only [Act.put, List.setIfInBounds_toArray, List.set_cons_zero, List.set_cons_succ]; rfl) ?_
          refine wpAnyH_take (i := 49) (v := .bool false) (List.getElem?_toArray.trans rfl) (by kernel_rfl) (by kernel_rfl) (by kernel_rfl) (fun _ _ _ h => h) (.inl ⟨rfl, fun w' hS => by simp [go_sem, hlt]⟩) hs8 ?_
          refine act_normS (by simp only [Act.put, List.setIfInBounds_toArray, List.set_cons_zero, List.set_cons_succ]; rfl) ?_
          refine wpAnyH_take (i := 50) (v := .bool false) (List.getElem?_toArray.trans rfl) (by kernel_rfl) (by kernel_rfl) (by kernel_rfl) (fun _ _ _ h => h) (.inl ⟨rfl, fun w' hS => by simp [go_sem]⟩) hs8 ?_
          refine act_normS (by simp only [Act.put, List.setIfInBounds_toArray, List.set_cons_zero, List.set_cons_succ]; rfl) ?_
          refine wpAnyH_take (i := 51) (v := .bool false) (List.getElem?_toArray.trans rfl) (by kernel_rfl) (by kernel_rfl) (by kernel_rfl) (fun _ _ _ h => h) (.inl ⟨rfl, fun w' hS => by simp [go_sem]⟩) hs8 ?_
          refine act_normS (by simp only [Act.put, List.setIfInBounds_toArray, List.set_cons_zero, List.set_cons_succ]; rfl) ?_
          refine wpAnyH_done (by kernel_rfl) ?_ _
          have hncb : nc ≤ 301 := by have := HO8.out.few; omega
          clear hs7 hb7 hs8 hb8 hS0 hgl c1 HHL HNEAT HNT HO6
          go_wp2
          go_loopw [137] (fun s137 wi => ∃ j : Nat, j ≤ nc ∧ s137 = .int .i64 j ∧ Hid (Below w8.heap.size w8 wi)) (fun s137 _ => nc - (intOf s137).toNat)
          case atStart => exact ⟨0, Nat.zero_le _, rfl, Lib.hid (Below.refl _ _)⟩
          case round =>
            obtain ⟨j, hj, rfl, hbw⟩ := hrel
            by_cases hjn : j < nc
            · obtain ⟨r, hr⟩ : ∃ r, cm[j]? = some r := ⟨_, List.getElem?_eq_getElem (by rw [HO8.out.len]; exact hjn)⟩
              obtain ⟨b2, off2, rfl, -, hbl2, hcc2⟩ := (HO8.out.rs.below hbw.out).at_ (by rw [HO8.out.len]; omega)
              have HRG := Lib.hid (range_rc (hcc2 j r hr))
              have hm := List.mem_of_getElem? hr
              have h1r := HO8.out.cov _ (first_in HO8.out.neat hm)
              have h2r := HO8.out.cov _ (last_in HO8.out.neat hm)
              have hr12 := HO8.out.neat.1 r hm
              have hr2t := (HO8.out.fit r hm).2
              obtain ⟨p, hp⟩ : ∃ p, p = r.2 - 1 := ⟨_, rfl⟩
              rw [← hp] at h2r
              have hwp : IntKind.u64.wrap ((r.2 : Int) - 1) = (p : Int) := by rw [IntKind.wrap_u64, hp]; unfold topN at hr2t; omega
              have dj : decide (j < nc) = true := decide_eq_true hjn
              have H1R := Lib.hid h1r
              have H2R := Lib.hid h2r
              clear hcc2 hm hr hp h1r h2r hr12 hr2t hbl2
              generalize wr = wz at *
              go_upto_region 25 with (first
                | (refine wpList_load_mid rfl 42 (.tmp 139) rfl b2 (off2 + j * 2) rfl (rcS r) _ HRG.out Try.underlying42 rfl size_rg ?_)
                | (refine wpList_store_row rfl 42 (.tmp 10) (.tmp 140) rfl wz.heap.size (rcS r).toArray rfl rfl _ _ (heap_alloc_new wz _) size_rg rfl (rcS_arr r) ?_; rw [World.setRow_alloc_new]))
              have hW := Wh.new wz 42 (rcS r).toArray
              have hb9 := hbw.out.alloc hbw.out.size (.cells (rcS r).toArray 42)
              have HH9 := Lib.hid (HO8.out.hat.below hb9)
              have HB9 := Lib.hid hb9
              have hs89 := hb9.size
              clear hb9 HRG
              generalize wz.alloc (.cells (rcS r).toArray 42) = w9 at *
              generalize wz.heap.size = q9 at *
              have hy1 : w9.cell? ⟨q9, 0, none⟩ = some (.int .u64 (r.1 : Int)) := (hW.cell 0).trans rfl
              have hy2 : w9.cell? ⟨q9, 1, none⟩ = some (.int .u64 (r.2 : Int)) := (hW.cell 1).trans rfl
              have hql := hW.lt
              clear hW
              have HC1 := came_any w9 g _ _ r.1 _ s HH9.out HO8.out.ok
              rw [H1R.out] at HC1
              go_wp2_with fail
              refine HC1.mono ?_
              rintro e w10 ⟨rfl, hb10⟩
              have HH10 := Lib.hid (HH9.out.below hb10)
              have hy3 : w10.cell? ⟨q9, 1, none⟩ = some (.int .u64 (r.2 : Int)) := (hb10.cell (p := ⟨q9, 1, none⟩) hql).trans hy2
              have HB10 := Lib.hid (HB9.out.trans (hb10.mono hs89))
              have hs810 := HB10.out.size
              have HC2 := came_any w10 g _ _ p _ s HH10.out HO8.out.ok
              rw [H2R.out] at HC2
              clear hb10 HB9 HH9 hy1 hy2
              go_wp2_with fail
              refine HC2.mono ?_
              rintro e w11 ⟨rfl, hb11⟩
              have HB11 := Lib.hid (HB10.out.trans (hb11.mono hs810))
              clear hb11 HB10 HH10 hy3 HC1 HC2
              go_wp2
              go_roundw
              case rel => exact ⟨j + 1, by omega, by go_num, HB11⟩
              case measure => simp [intOf]; omega
            · have dj : decide (j < nc) = false := decide_eq_false hjn
              have HO9 := Lib.hid (HO8.out.on hbw.out)
              go_wp2
              go_roundw
              case rel => exact ⟨k + 1, _, _, _, _, _, _, _, _, by omega, by go_num, rfl, HO9⟩
              case measure => simp [intOf]; omega
        -- behind region 20
    · obtain rfl : k = N := by omega
      have d0 : decide (k < k) = false := decide_eq_false (by omega)
      go_wp2_with (go_at_call 9; refine (hworks_any wr).mono ?_; rintro e w4 ⟨rfl, hb4⟩)
      go_ret
      exact ⟨rfl, HO.out.bel.trans (hb4.mono HO.out.bel.size)⟩

end Go.Proofs.Ytaemfoelhijbjaa

/-
  Plain mathematics of HeadBack: what is split of a packet that was put, whatever its protected bits are.
-/
import Derived.Test.YtpnpbjdkldmmdaaDoorHBackM
import Derived.Test.YtpnpbjdkldmmdaaDoorHPut3
namespace Go.Proofs.YtpnpbjdkldmmdaaDoor
set_option linter.unusedVariables false

theorem back_short {k y0 : Nat} {dst load NB : List UInt8} (hk : NB.length = k) (hd : dst.length ≤ 20) (h20 : 20 ≤ k + load.length) (hy : y0 / 32 = 2) (z : Nat) (l : List UInt8) (hz : z < 256) (hz2 : z / 32 = y0 / 32)
    (hl : l = UInt8.ofNat z :: (dst ++ NB ++ load ++ [])) :
    ∃ t, splitT l dst.length = some t ∧ splitA l dst.length = some (1 + dst.length) ∧ splitP l dst.length = ⟨2, dst, [], []⟩ ∧ 1 + dst.length + k ≤ t ∧ (l.take t).drop (1 + dst.length + k) = load ∧ l.drop t = [] := by
  have hl' : l = UInt8.ofNat z :: (dst ++ (NB ++ load)) := by rw [hl]; simp
  obtain ⟨e1, e2, e3⟩ := short_whole hl' (by rw [UInt8.toNat_ofNat', Nat.mod_eq_of_lt (by omega)]; omega) hd
  have hlen : l.length = 1 + dst.length + (k + load.length) := by rw [hl']; simp [hk]; omega
  have hr : (NB ++ load).length = k + load.length := by simp [hk]
  rw [hr] at e3
  refine ⟨1 + dst.length + (k + load.length), splitT_some e2 e3 h20 (by omega), e2, e1, by omega, ?_, ?_⟩
  · rw [List.take_of_length_le (by omega), hl', show 1 + dst.length + k = (dst.length + k) + 1 by omega, List.drop_succ_cons, ← List.append_assoc]
    exact List.drop_left' (by simp [hk])
  · exact List.drop_of_length_le (by omega)

theorem back_long {sp k y0 : Nat} {dst src tok load behind NB : List UInt8} (own : Int) (hsp : sp = 0 ∨ sp = 1) (htk : sp = 1 → tok = []) (hk : NB.length = k) (hk4 : k ≤ 4) (hd : dst.length ≤ 20) (hs : src.length ≤ 20) (ht : tok.length ≤ 3000) (hlo : load.length ≤ 2000)
    (h20 : 20 ≤ k + load.length) (hy : y0 / 16 = 12 + 2 * sp) (z : Nat) (l : List UInt8) (hz : z < 256) (hz2 : z / 16 = y0 / 16)
    (hl : l = UInt8.ofNat z :: (longB sp dst src tok (k + load.length) ++ NB ++ load ++ behind)) :
    ∃ t, splitT l own = some t ∧ splitA l own = some (1 + (longB sp dst src tok (k + load.length)).length) ∧ splitP l own = ⟨sp, dst, src, tok⟩ ∧ 1 + (longB sp dst src tok (k + load.length)).length + k ≤ t ∧
      (l.take t).drop (1 + (longB sp dst src tok (k + load.length)).length + k) = load ∧ l.drop t = behind := by
  have hl' : l = UInt8.ofNat z :: (longB sp dst src tok (k + load.length) ++ (NB ++ load ++ behind)) := by rw [hl]; simp
  obtain ⟨e1, e2, e3⟩ := long_whole own hl' hsp (by rw [UInt8.toNat_ofNat', Nat.mod_eq_of_lt (by omega)]; omega) htk hd hs (by omega) (by omega)
  generalize longB sp dst src tok (k + load.length) = B at *
  have hlen : l.length = 1 + B.length + (k + load.length) + behind.length := by rw [hl']; simp [hk]; omega
  have hdr : l.drop (1 + B.length + k) = load ++ behind := by
    rw [hl', show 1 + B.length + k = (B.length + k) + 1 by omega, List.drop_succ_cons, List.append_assoc NB, ← List.append_assoc B]
    exact List.drop_left' (by simp [hk])
  refine ⟨1 + B.length + (k + load.length), splitT_some e2 e3 h20 (by omega), e2, e1, by omega, ?_, ?_⟩
  · rw [List.drop_take, hdr, show 1 + B.length + (k + load.length) - (1 + B.length + k) = load.length by omega]
    exact List.take_left' rfl
  · rw [show 1 + B.length + (k + load.length) = (1 + B.length + k) + load.length by omega, ← List.drop_drop, hdr]
    exact List.drop_left' rfl

theorem longB_le {sp m : Nat} {dst src tok : List UInt8} (hd : dst.length ≤ 20) (hs : src.length ≤ 20) (ht : tok.length ≤ 3000) : (longB sp dst src tok m).length ≤ 3200 := by
  unfold longB
  have h1 := szN_le m
  have h2 := szN_le tok.length
  split
  · simp only [List.length_append, List.length_cons, List.length_nil, enc_length]; omega
  · simp only [List.length_append, List.length_cons, List.length_nil, enc_length]; omega

end Go.Proofs.YtpnpbjdkldmmdaaDoor

/- Elements within one another: how deep, how long, their bytes, what Read answers. -/
import Derived.Test.YthlpblipadgenaaBackSpec
import Derived.Test.YthlpblipadgenaaRBytes
namespace Go.Proofs.Ythlpblipadgenaa
set_option linter.unusedVariables false

def nest (b : ByteArray) : Nat → El
  | 0 => .mk 4 b []
  | i + 1 => .mk 48 ⟨#[]⟩ [nest b i]
theorem nest_formed (b : ByteArray) : ∀ i, formed (nest b i) = true
  | 0 => by simp [nest, formed]
  | i + 1 => by
    have h := nest_formed b i
    have h0 : (⟨#[]⟩ : ByteArray).size = 0 := rfl
    simp [nest, formed, formeds, h, h0]
theorem nest_dep (b : ByteArray) : ∀ i, dep (nest b i) = i + 1
  | 0 => by simp [nest, dep, deps]
  | i + 1 => by
    have h := nest_dep b i
    simp [nest, dep, deps, h]
theorem nest_fit (b : ByteArray) (hb : b.size ≤ 60) : ∀ i, fitS 1 60 (i + 1) (nest b i) = true
  | 0 => by simp [nest, fitS, hb]
  | i + 1 => by
    have h := nest_fit b hb i
    have h0 : (⟨#[]⟩ : ByteArray).size = 0 := rfl
    simp [nest, fitS, h, h0]
theorem nest_len (b : ByteArray) (hb : b.size ≤ 60) : ∀ i, i ≤ 20 → bodyLen (nest b i) = b.size + 2 * i
  | 0, _ => by simp [nest, bodyLen, encs]
  | i + 1, hi => by
    have h := nest_len b hb i (by omega)
    have h0 : (⟨#[]⟩ : ByteArray).size = 0 := rfl
    have h1 := enc_len (nest b i)
    have h2 : more (bodyLen (nest b i)) = 0 := by unfold more; rw [if_pos (by omega)]
    simp only [nest, bodyLen, encs, List.append_nil, h0]
    omega
theorem nest_enc (b : ByteArray) (hb : b.size ≤ 60) (i : Nat) (hi : i < 20) : enc (nest b (i + 1)) = 48 :: (b.size + 2 * (i + 1)).toUInt8 :: enc (nest b i) := by
  have h0 : (⟨#[]⟩ : ByteArray).size = 0 := rfl
  have h1 := nest_len b hb (i + 1) (by omega)
  have h2 : encHead 48 (b.size + 2 * (i + 1)) = [48, (b.size + 2 * (i + 1)).toUInt8] := by
    unfold encHead; rw [if_pos (by omega)]; rfl
  have h3 : (⟨#[]⟩ : ByteArray).size + (encs [nest b i]).length = b.size + 2 * (i + 1) := h1
  rw [nest, enc, h3, h2]
  simp [encs]
theorem nest_err (b : ByteArray) (hb : b.size ≤ 60) (i : Nat) (hi : i ≤ 19) : errV (nest b i) = 0 := by
  have h1 := nest_len b hb i (by omega)
  simp only [errV, nest_formed, nest_dep]
  rw [if_neg (by simp), if_neg (by omega), if_neg (by omega)]
theorem nest_err20 (b : ByteArray) : errV (nest b 20) = 12 := by
  simp [errV, nest_formed, nest_dep]
theorem nest_bad (b : ByteArray) (hb : b.size ≤ 60) : ∀ (i a : Nat), i ≤ 20 → rd i (enc (nest b i)) a = .bad (a + 2 * i) 12
  | 0, a, _ => by simp [rd]
  | i + 1, a, hi => by
    have ih := nest_bad b hb i (a + 2) (by omega)
    have hl := enc_len (nest b i)
    have hbl := nest_len b hb i (by omega)
    have h2 : more (bodyLen (nest b i)) = 0 := by unfold more; rw [if_pos (by omega)]
    rw [nest_enc b hb i (by omega)]
    generalize hn : b.size + 2 * (i + 1) = n at *
    have hn1 : n < 128 := by omega
    have hln : (enc (nest b i)).length = n := by omega
    have hu : n.toUInt8.toNat = n := by
      show n % 256 = n
      omega
    have hd : Sp.hd (48 :: n.toUInt8 :: enc (nest b i)) = (2, n, 0) := by
      simp only [Sp.hd, hu, if_pos hn1]
      rfl
    have hH := rdHead_fit (i := decide (i + 1 < 20)) hd (by simp; omega)
    have hK : rdKids (rd i) n (List.take n (List.drop 2 (48 :: n.toUInt8 :: enc (nest b i)))) (a + 2) = .bad (a + 2 + 2 * i) 12 := by
      have h5 : List.take n (List.drop 2 (48 :: n.toUInt8 :: enc (nest b i))) = enc (nest b i) := by
        simp only [List.drop_succ_cons, List.drop_zero]
        exact List.take_of_length_le (by omega)
      rw [h5]
      obtain ⟨m, rfl⟩ : ∃ m, n = m + 1 := ⟨n - 1, by omega⟩
      rw [rdKids, if_neg (by omega), ih]
    have e1 : a + 2 + 2 * i = a + 2 * (i + 1) := by omega
    rw [rd]
    simp only [hH, hK, e1]
    simp
end Go.Proofs.Ythlpblipadgenaa

import Derived.Test.YtpnlalfdgngcdaaDoorZA11
import Derived.Test.YtpnlalfdgngcdaaDoorZA22
import Derived.Test.YtpnlalfdgngcdaaDoorZA25
set_option linter.unusedVariables false
set_option maxRecDepth 100000
namespace Go.Proofs.YtpnlalfdgngcdaaDoor.Ru
open Go.RowKit
theorem rdns_ne : ∀ {l : List (List UInt8)} {q : List (List Nm.Ava)}, l ≠ [] → Nm.rdns l = some q → q ≠ []
 | [], q, h, _=>absurd rfl h
 | p :: r, q, _, h=>by
  rw [Nm.rdns] at h
  split at h
  ·cases h
  ·split at h
   ·cases h
   ·injection h with h
    rw [← h]; simp
theorem dnm_of {t : List UInt8} {d : List (List Nm.Ava)} (h : Nm.dnm t = some d) : Nm.isDn d = true ∧ (t ≠ [] → 0 < d.length) ∧ (t = [] → d = []):=by
 unfold Nm.dnm at h
 by_cases h0 : t = []
 ·rw [if_pos h0] at h
  injection h with h
  subst h
  exact ⟨rfl, fun e=>absurd h0 e, fun _=>rfl⟩
 ·rw [if_neg h0] at h
  cases h1 : Nm.rdns (Nm.cuts 44 t) with
  | none=>rw [h1] at h; cases h
  | some q =>
   rw [h1] at h
   have h : Nm.ifDn q = some d:=h
   unfold Nm.ifDn at h
   split at h
   ·rename_i hd
    injection h with h
    subst h
    have:=rdns_ne (cuts_ne 44 t) h1
    exact ⟨hd, fun _=>List.length_pos_iff.2 this, fun e=>absurd e h0⟩
   ·cases h
theorem take_pre (l : List UInt8) : Lib.hasPrefix l dnT = decide (l.take 3 = dnT):=by
 unfold Lib.hasPrefix
 rcases l with _ | ⟨a, _ | ⟨b, _ | ⟨c, r⟩⟩⟩ <;> simp [dnT, List.isPrefixOf]
 rw [Bool.eq_iff_iff]
 simp only [Bool.and_eq_true, beq_iff_eq, decide_eq_true_eq]
 constructor <;> rintro ⟨rfl, rfl, rfl⟩ <;> exact ⟨rfl, rfl, rfl⟩
theorem drop_pre (l : List UInt8) : Lib.trimPrefix l dnT = if l.take 3 = dnT then l.drop 3 else l:=by
 unfold Lib.trimPrefix
 rw [take_pre]
 by_cases h : l.take 3 = dnT
 ·rw [if_pos (decide_eq_true h), if_pos h]; rfl
 ·rw [if_neg (by rw [decide_eq_true_eq]; exact h), if_neg h]
theorem ext_drop (s : ByteArray) (i : Nat) : s.extract i s.size = Nm.mk ((Nm.bs s).drop i):=by
 rw [← mk_bs' (s.extract i s.size)]
 congr 1
 exact Go.Lib.extract_to_end s i
theorem ext_take (s : ByteArray) (i : Nat) : s.extract 0 i = Nm.mk ((Nm.bs s).take i):=by
 rw [← mk_bs' (s.extract 0 i)]
 congr 1
 show (s.extract 0 i).data.toList = _
 rw [Lib.extract_data]
 simp
set_option maxHeartbeats 2000000 in
theorem isWho_any (s : ByteArray) (w : World) (hs : s.size ≤ 1000000000) :
  Calls Tryd.prog 23 #[.string s] w fun e w'=>e = .returned (.bool (isWho (Nm.bs s))) ∧ Below w.heap.size w w':=by
 by_cases h1 : Nm.bs s = anyT
 ·have hr:=Lib.hid (show isWho (Nm.bs s) = true by unfold isWho; rw [decide_eq_true h1]; rfl)
  have q1 : (s.toList == [97, 110, 121]) = true:=by rw [eq_const]; exact decide_eq_true h1
  clear h1
  go_enter Tryd.func23, Tryd.ntmps23
  go_wp2_with fail
  go_ret
  exact ⟨ret_bool hr.out.symm, Below.refl _ _⟩
 have q1 : (s.toList == [97, 110, 121]) = false:=by rw [eq_const]; exact decide_eq_false h1
 by_cases h2 : Nm.bs s = selfT
 ·have hr:=Lib.hid (show isWho (Nm.bs s) = true by unfold isWho; rw [decide_eq_true h2]; simp)
  have q2 : (s.toList == [115, 101, 108, 102]) = true:=by rw [eq_const]; exact decide_eq_true h2
  clear h1 h2
  go_enter Tryd.func23, Tryd.ntmps23
  go_wp2_with fail
  go_ret
  exact ⟨ret_bool hr.out.symm, Below.refl _ _⟩
 have q2 : (s.toList == [115, 101, 108, 102]) = false:=by rw [eq_const]; exact decide_eq_false h2
 have hW : isWho (Nm.bs s) = (decide ((Nm.bs s).take 3 = dnT) && isName ((Nm.bs s).drop 3)):=by
  unfold isWho
  rw [decide_eq_false h1, decide_eq_false h2]; rfl
 have hC:=Tryd.strings_CutPrefix s ⟨#[100, 110, 58]⟩ w
 rw [show (⟨#[100, 110, 58]⟩ : ByteArray).data.toList = dnT from rfl, take_pre, drop_pre] at hC
 by_cases h3 : (Nm.bs s).take 3 = dnT
 ·rw [decide_eq_true h3, if_pos h3] at hC
  rw [decide_eq_true h3, Bool.true_and] at hW
  have hsz : (Nm.mk ((Nm.bs s).drop 3)).size ≤ 1000000000:=by
   show ((Nm.bs s).drop 3).toArray.size ≤ _
   have : (Nm.bs s).length = s.size:=rfl
   simp
   omega
  obtain ⟨t, ht⟩ : ∃ t, t = Nm.mk ((Nm.bs s).drop 3):=⟨_, rfl⟩
  rw [show (Nm.bs s).drop 3 = Nm.bs t by rw [ht]] at hW
  have hC : Calls Tryd.prog 37 #[.string s, .string ⟨#[100, 110, 58]⟩] w fun e w'=>e = .returned (.tuple #[.string t, .bool true]) ∧ w' = w:=by rw [ht]; exact hC
  rw [← ht] at hsz
  have HC:=Lib.hid hC
  have CP:=Lib.hid (fun w=>parseD_any t w hsz)
  clear h1 h2 h3 ht hC hsz hs
  cases hd : Nm.dnm (Nm.bs t) with
  | none =>
   have hr:=Lib.hid (show isWho (Nm.bs s) = false by rw [hW]; unfold isName; rw [hd]; simp)
   rw [hd] at CP
   clear hW hd
   go_enter Tryd.func23, Tryd.ntmps23
   go_wp2_with fail
   refine HC.out.mono ?_
   rintro e w1 ⟨rfl, rfl⟩
   go_wp2_with fail
   refine (CP.out _).mono ?_
   rintro e w2 ⟨rfl, hb⟩
   go_wp2_with fail
   go_ret
   exact ⟨ret_bool hr.out.symm, hb⟩
  | some d =>
   obtain ⟨i1, i2, i3⟩:=dnm_of hd
   rw [hd] at CP
   by_cases h0 : Nm.bs t = []
   ·have hr:=Lib.hid (show isWho (Nm.bs s) = false by rw [hW]; unfold isName; rw [h0]; rfl)
    have hd0:=i3 h0
    subst hd0
    clear hW hd i1 i2 i3 h0
    go_enter Tryd.func23, Tryd.ntmps23
    go_wp2_with fail
    refine HC.out.mono ?_
    rintro e w1 ⟨rfl, rfl⟩
    go_wp2_with fail
    refine (CP.out _).mono ?_
    rintro e w2 ⟨A, c, rfl, _, _, hb⟩
    go_wp2_with fail
    go_ret
    exact ⟨ret_bool hr.out.symm, hb⟩
   ·have hpos:=i2 h0
    obtain ⟨l8, hok⟩:=Nm.isDn_all i1
    have CD:=Lib.hid (fun A c w hA=>prDn_any d A c w hA (by unfold maxLen; omega) (fun r hr=>by have:=Nm.isRdn_all (hok r hr); unfold maxLen; omega))
    have hv : prDnV d = Nm.prDn d:=by unfold prDnV; rw [i1]; rfl
    rw [hv] at CD
    have hname : isName (Nm.bs t) = decide (Nm.prDn d = Nm.bs t):=by
     unfold isName
     rw [hd]
     cases hb : Nm.bs t with
     | nil=>exact absurd hb h0
     | cons x r=>rfl
    have hq : ((Nm.mk (Nm.prDn d)).toList == t.toList) = decide (Nm.prDn d = Nm.bs t):=by
     rw [toList_eq, Bool.eq_iff_iff, decide_eq_true_eq, decide_eq_true_eq, bs_inj]
    obtain ⟨p, hp⟩ : ∃ p, p = Nm.mk (Nm.prDn d):=⟨_, rfl⟩
    rw [← hp] at CD hq
    rw [hname] at hW
    have HE:=Lib.hid hW
    have HQ:=Lib.hid hq
    have hlen:=hpos
    clear hW hd i1 i2 i3 h0 hv hname hq hp hok
    go_enter Tryd.func23, Tryd.ntmps23
    go_wp2_with fail
    refine HC.out.mono ?_
    rintro e w1 ⟨rfl, rfl⟩
    go_wp2_with fail
    refine (CP.out _).mono ?_
    rintro e w2 ⟨A, c, rfl, hc, hA, hb⟩
    have HA:=Lib.hid (hA.imp (fun b h=>h.2) (fun _ _=>rfl))
    clear hA
    go_wp2_with fail
    refine (CD.out A c w2 HA.out).mono ?_
    rintro e w3 ⟨rfl, hb2⟩
    go_wp2_with fail
    go_ret
    refine ⟨ret_bool ?_, hb.trans (hb2.mono hb.size)⟩
    rw [HE.out, HQ.out]
 ·rw [decide_eq_false h3, if_neg h3] at hC
  rw [decide_eq_false h3, Bool.false_and] at hW
  have HC:=Lib.hid hC
  have hr:=Lib.hid hW
  clear h1 h2 h3 hC hW
  go_enter Tryd.func23, Tryd.ntmps23
  go_wp2_with fail
  refine HC.out.mono ?_
  rintro e w1 ⟨rfl, rfl⟩
  go_wp2_with fail
  go_ret
  exact ⟨ret_bool hr.out.symm, Below.refl _ _⟩
end Go.Proofs.YtpnlalfdgngcdaaDoor.Ru
namespace Go.Proofs.YtpnlalfdgngcdaaDoor.Ru
open Go.RowKit
theorem place (c : UInt8) : ∀ l : List UInt8, (cutAt c l = none ∧ Lib.indexByte l c = -1) ∨ ∃ i : Nat, i < l.length ∧ Lib.indexByte l c = i ∧ cutAt c l = some (l.take i, l.drop (i + 1))
 | []=>Or.inl ⟨rfl, rfl⟩
 | b :: r=>by
  by_cases h : b = c
  ·refine Or.inr ⟨0, by simp, ?_, ?_⟩
   ·rw [Lib.indexByte, if_pos (by rw [beq_iff_eq]; exact h)]; rfl
   ·rw [cutAt, if_pos h]; rfl
  ·rcases place c r with ⟨h1, h2⟩ | ⟨i, h2, h3, h4⟩
   ·refine Or.inl ⟨?_, ?_⟩
    ·rw [cutAt, if_neg h, h1]; rfl
    ·rw [Lib.indexByte, if_neg (by rw [beq_iff_eq]; exact h), h2]; rfl
   ·refine Or.inr ⟨i + 1, by simp; omega, ?_, ?_⟩
    ·rw [Lib.indexByte, if_neg (by rw [beq_iff_eq]; exact h), h3, if_neg (by rw [beq_iff_eq]; omega)]; omega
    ·rw [cutAt, if_neg h, h4]; rfl
theorem splitB_of (c : UInt8) : ∀ (k : Nat) (s : ByteArray), Lib.splitB ⟨#[c]⟩ 0 k s = (split c k (Nm.bs s)).map Nm.mk
 | 0, s=>by
  show [s] = [Nm.mk (Nm.bs s)]
  rw [mk_bs']
 | k + 1, s=>by
  have hi : Lib.indexB s ⟨#[c]⟩ = Lib.indexByte (Nm.bs s) c:=Lib.index_one s.data.toList c
  rcases place c (Nm.bs s) with ⟨h1, h2⟩ | ⟨i, h2, h3, h4⟩
  ·rw [Lib.splitB_miss _ _ _ _ (by rw [hi, h2]), split, h1]
   show [s] = [Nm.mk (Nm.bs s)]
   rw [mk_bs']
  ·rw [Lib.splitB_hit _ _ _ _ i (by rw [hi, h3]), splitB_of c k, split, h4, Nat.add_zero, ext_take]
   show _ :: (split c k (Nm.bs (s.extract (i + 1) s.size))).map Nm.mk = _
   rw [ext_drop]
   rfl
theorem infoStr : (Tryd.prog.info? 9).map (fun i=>(i.zero, i.size, i.bytes)) = some (some (.string ByteArray.empty), 1, 16):=by kernel_rfl
set_option maxHeartbeats 1000000 in
theorem splitN_any (s : ByteArray) (c : UInt8) (n : Nat) (w : World) (hs : s.size ≤ 1000000000) (h1 : 1 ≤ n) (hn : n ≤ 1000) :
  Calls Tryd.prog 33 #[.string s, .string ⟨#[c]⟩, .int .i64 ((n + 1 : Nat) : Int)] w fun e w'=>∃ A k, e = .returned (.slice A (split c n (Nm.bs s)).length k) ∧ (split c n (Nm.bs s)).length ≤ k ∧ StrsAt w' (fun b=>w.heap.size ≤ b ∧ b < w'.heap.size) A ((split c n (Nm.bs s)).map Nm.mk) ∧ Below w.heap.size w w':=by
 have hl : (Nm.bs s).length = s.size:=rfl
 have hsp : Lib.splitB ⟨#[c]⟩ 0 (min (n + 1) (s.size + 1) - 1) s = (split c n (Nm.bs s)).map Nm.mk:=by
  rw [splitB_of]
  congr 1
  by_cases h : s.size ≤ n
  ·rw [show min (n + 1) (s.size + 1) - 1 = s.size by omega, split_min n (Nm.bs s) (by omega)]
   rfl
  ·rw [show min (n + 1) (s.size + 1) - 1 = n by omega]
 have CG:=Any.strings_genSplit_core Tryd.lays221 infoStr s ⟨#[c]⟩ 0 (n + 1 : Nat) (min (n + 1) (s.size + 1)) w (by omega) (Nat.le_refl 1) (Nat.zero_le _)
  (fun x d hx=>(Tryd.strings_Index_one x c _).mono fun e w' ⟨h1, h2⟩=>⟨by rw [h1, show Lib.indexB x ⟨#[c]⟩ = Lib.indexByte x.data.toList c from Lib.index_one x.data.toList c], h2⟩)
  ((Tryd.strings_Count_one s c w).mono fun e w' ⟨h1, h2⟩=>⟨by rw [h1]; show _ = Ending.returned (Value.int .i64 ((Lib.count s.data.toList [c] : Nat) : Int)); rw [Lib.count_one]; rfl, h2⟩)
  (by omega) (by omega) (by rw [if_neg (by omega)]; omega)
 rw [hsp, List.length_map] at CG
 have hN : (split c n (Nm.bs s)).length ≤ min (n + 1) (s.size + 1):=by
  rw [← List.length_map (f:=Nm.mk), ← hsp]
  have:=Lib.splitB_length_le ⟨#[c]⟩ 0 (min (n + 1) (s.size + 1) - 1) s
  omega
 have HG:=Lib.hid CG
 have HQ : Hid (∀ w', w' = w.alloc (.cells (Lib.cellsOf ((split c n (Nm.bs s)).map Nm.mk) (min (n + 1) (s.size + 1))) 9) → StrsAt w' (fun b=>w.heap.size ≤ b ∧ b < w'.heap.size) (some ⟨w.heap.size, 0, none⟩) ((split c n (Nm.bs s)).map Nm.mk) ∧ Below w.heap.size w w'):=by
  rintro w' rfl
  refine ⟨fun h0=>⟨w.heap.size, 0, rfl, ⟨Nat.le_refl _, by simp⟩, fun i hi=>?_⟩, (Below.refl _ _).alloc (Nat.le_refl _) _⟩
  rw [Nat.zero_add, (Blk.new w 9 _).cell i]
  unfold Lib.cellsOf
  rw [List.getElem?_toArray, List.getElem?_append_left (by simpa using hi), List.getElem?_map, List.getElem?_eq_getElem hi]
  rfl
 have HN:=Lib.hid hN
 clear CG hN hsp hl h1 hn
 generalize (split c n (Nm.bs s)).length = m at HG HN
 generalize ((split c n (Nm.bs s)).map Nm.mk) = ps at HG HQ
 generalize min (n + 1) (s.size + 1) = q at HG HN HQ
 go_enter Tryd.func33, Tryd.ntmps33
 go_wp2_with fail
 refine HG.out.mono ?_
 rintro e w' ⟨rfl, hw⟩
 have HW:=Lib.hid hw
 clear hw
 go_wp2_with fail
 go_ret
 exact ⟨_, _, rfl, HN.out, HQ.out _ HW.out⟩
set_option maxHeartbeats 400000 in
theorem clone_any (s : ByteArray) (w : World) (h : s.size ≤ 281474976710656) :
  Calls Tryd.prog 34 #[.string s] w fun e w'=>e = .returned (.string s) ∧ Below w.heap.size w w':=by
 go_enter Tryd.func34, Tryd.ntmps34
 go_wp2_with (go_at_call 48; refine (Tryd.stringslite_Clone s _ h).mono ?_; rintro e w' ⟨rfl, hb⟩)
 go_ret
 exact ⟨rfl, by assumption⟩
end Go.Proofs.YtpnlalfdgngcdaaDoor.Ru

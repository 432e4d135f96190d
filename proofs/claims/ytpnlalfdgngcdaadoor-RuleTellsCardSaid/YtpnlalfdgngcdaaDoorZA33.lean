import Derived.Test.YtpnlalfdgngcdaaDoorZA7
import Derived.Test.YtpnlalfdgngcdaaDoorZA17
import Derived.Deep.RegionHeldLaw
set_option linter.unusedVariables false
set_option maxRecDepth 100000
namespace Go.Proofs.YtpnlalfdgngcdaaDoor
open Go.RowKit
theorem un_cases (f t : Bool) (c : UInt8) :
  ((Nm.special c || f && decide (c.toNat = 35 ∨ c.toNat = 32) || t && decide (c.toNat = 32)) = true ∧ (Nm.special c = true ∨ Nm.special c = false ∧ f = true ∧ (c.toNat : Int) = 35 ∨ Nm.special c = false ∧ f = true ∧ (c.toNat : Int) = 32 ∨ Nm.special c = false ∧ f = false ∧ t = true ∧ (c.toNat : Int) = 32)) ∨
  ((Nm.special c || f && decide (c.toNat = 35 ∨ c.toNat = 32) || t && decide (c.toNat = 32)) = false ∧ Nm.special c = false ∧ (f = false ∨ f = true ∧ ((c.toNat : Int) == 35) = false ∧ ((c.toNat : Int) == 32) = false) ∧ (t = false ∨ t = true ∧ ((c.toNat : Int) == 32) = false)):=by
 cases hs : Nm.special c
 ·simp only [beq_eq_false_iff_ne, ne_eq]
  cases f
  ·cases t
   ·simp
   ·by_cases h : c.toNat = 32
    ·have : (c.toNat : Int) = 32:=by omega
     simp [h]
    ·have : ¬ (c.toNat : Int) = 32:=by omega
     simp [h, this]
  ·by_cases h : c.toNat = 32
   ·simp [h]
   ·by_cases h5 : c.toNat = 35
    ·simp [h5]
    ·have h2 : ¬ (c.toNat : Int) = 32:=by omega
     have h3 : ¬ (c.toNat : Int) = 35:=by omega
     cases t <;> simp [h, h5, h2, h3]
 ·simp
theorem step_pushd {w : World} {ops : Array Oper} {o : Oper} {a : Act} {K : Act → World → Prop} {Q : Exit → Act → World → Prop} {E : Prop} (hgd : o.guard = none) (sl x : Operand) (dt : Option Nat) (hdt : o.dst = dt)
  (ho : o.op = .call { callee:=.builtin .append, args:=#[sl, x], argTypes:=#[72, 72] })
  (base : Nat) (v : Value) (l : List UInt8) (hs : a.eval sl = v) (hown : Own w base v l) (g m c : Nat) (news : List UInt8) (hx : a.eval x = .slice (some ⟨g, 0, none⟩) m c) (hm : m = news.length)
  (hB : Blk w g 5 (Lib.byteCells news).toArray) (hl : l.length + news.length ≤ 1099511627776) (hbase : base ≤ w.heap.size)
  (h : ∀ v' w', Own w' base v' (l ++ news) → Below base w w' → w.grownBy w' v.ownBlock → K (a.put dt v') w') :
  if Region.wanted o (yielded ops a.tmps) = true then Oper.wp Tryd.prog o a w K Q else E :=
 step_push hgd sl x ho base v l hs hown g m c news hx hm hB hl hbase (by rw [hdt]; exact h)
def plainV : Option (List UInt8) → Value
 | none=>.tuple #[.string ⟨#[]⟩, .bool false]
 | some v=>.tuple #[.string (Nm.mk v), .bool true]
set_option maxHeartbeats 8000000 in
theorem plain_any (s : ByteArray) (w : World) (hs : s.size ≤ 1000000000) :
  Calls Tryd.prog 44 #[.string s] w fun e w'=>e = .returned (plainV (Nm.unVal Nm.special true (Nm.bs s))) ∧ Below w.heap.size w w':=by
 have CS:=Lib.hid special_any
 have CD:=Lib.hid rdigit_any
 go_enter Tryd.func44, Tryd.ntmps44
 go_wp2_with fail
 go_loopw [4, 5] (fun v i wr=>∃ (k : Nat) (L : List UInt8), k ≤ s.size ∧ i = .int .i64 k ∧ Own wr w.heap.size v L ∧ Hid (Nm.unVal Nm.special true (Nm.bs s) = (Nm.unVal Nm.special ((k : Int) == 0) ((Nm.bs s).drop k)).map (L ++ ·)) ∧ L.length ≤ k ∧ Below w.heap.size w wr) (fun v i wr=>s.size - (intOf i).toNat)
 case atStart=>exact ⟨0, [], Nat.zero_le _, rfl, Own.nil _ _, (map_nil_app _).symm, by simp, Below.refl _ _⟩
 case round =>
  obtain ⟨k, L, hk, rfl, hO, hE, hL, hb⟩:=hrel
  have hsz:=hb.size
  by_cases hlt : k < s.size
  ·have hne : (Nm.bs s).drop k ≠ []:=by rw [ne_eq, List.drop_eq_nil_iff, size_eq]; omega
   obtain ⟨c, hc⟩ : ∃ c, c = s[k]:=⟨_, rfl⟩
   have hcr : ∀ h, s[k]'h = c:=fun _=>hc.symm
   have h256:=u8_lt c
   have hU:=unB_at Nm.special s k hlt c hc ((k : Int) == 0)
   have hN : ∀ j : Nat, (((k + (j + 1) : Nat) : Int) == 0) = false:=fun j=>by rw [beq_eq_false_iff_ne]; omega
   have HN:=Lib.hid hN
   have HB : Hid (∀ (w : World) (c : UInt8), Blk (w.alloc (.cells #[.int .u8 (c.toNat : Int)] 5)) w.heap.size 5 (Lib.byteCells [c]).toArray):=fun w c=>Blk.new w _ _
   by_cases h92 : c = 92
   ·rw [if_pos h92] at hU
    have hn : (c.toNat : Int) = 92:=by rw [h92]; rfl
    clear h92 hc
    have bad : Nm.unE ((Nm.bs s).drop (k + 1)) = none → Hid (plainV (Nm.unVal Nm.special true (Nm.bs s)) = .tuple #[.string ⟨#[]⟩, .bool false]):=fun h9=>by
     have hE2:=hE.out
     have h8:=Nm.unVal_bad (show Nm.unB Nm.special ((k : Int) == 0) ((Nm.bs s).drop k) = none by rw [hU, h9]) hne
     rw [h8] at hE2
     show _ = _
     rw [hE2]; rfl
    have good : ∀ b m, Nm.unE ((Nm.bs s).drop (k + 1)) = some (b, m) → Hid (Nm.unVal Nm.special true (Nm.bs s) = (Nm.unVal Nm.special false ((Nm.bs s).drop (k + m))).map ((L ++ [b]) ++ ·)):=fun b m h9=>by
     have hE2:=hE.out
     have h8:=Nm.unVal_step (show Nm.unB Nm.special ((k : Int) == 0) ((Nm.bs s).drop k) = some (b, m) by rw [hU, h9])
     rw [h8, map_snoc, List.drop_drop] at hE2
     exact hE2
    have hG:=Lib.hid good
    have hBd:=Lib.hid bad
    clear bad good hU hE hne hN
    by_cases hk1 : k + 1 < s.size
    ·have hd1:=drop_at hk1
     obtain ⟨d, hd⟩ : ∃ d, d = s[k + 1]:=⟨_, rfl⟩
     have hdr : ∀ h, s[k + 1]'h = d:=fun _=>hd.symm
     rw [← hd] at hd1
     have h256d:=u8_lt d
     have hki : (k : Int) + 1 < s.size:=by omega
     have D:=CS.out d
     by_cases hok : Nm.escOk d = true
     ·have hGd:=hG.out d 2 (by rw [show (Nm.bs s).drop (k + 1) = d :: (Nm.bs s).drop (k + 1 + 1) from hd1]; exact unE_ok hok)
      have hq : Nm.special d = true ∨ Nm.special d = false ∧ (d.toNat : Int) = 35 ∨ Nm.special d = false ∧ (d.toNat : Int) = 61 ∨ Nm.special d = false ∧ (d.toNat : Int) = 32:=by
       unfold Nm.escOk at hok
       cases hs9 : Nm.special d
       ·rw [hs9] at hok
        simp at hok
        rcases hok with h | h | h
        ·exact Or.inr (Or.inl ⟨rfl, by omega⟩)
        ·exact Or.inr (Or.inr (Or.inl ⟨rfl, by omega⟩))
        ·exact Or.inr (Or.inr (Or.inr ⟨rfl, by omega⟩))
       ·exact Or.inl rfl
      have B1:=HB.out wr d
      clear hd hd1 hok hG hBd
      rcases hq with h1 | ⟨h1, h2⟩ | ⟨h1, h2⟩ | ⟨h1, h2⟩
      all_goals
       rw [h1] at D
       try rw [h2] at D
       try rw [h2] at B1
       have HD:=Lib.hid D
       clear D h1
       go_wp2_with fail
       refine (HD.out _).mono ?_
       rintro r w2 ⟨rfl, rfl⟩
       go_wp2_with (at_builtin; go_loud (refine wpList_push rfl _ _ rfl w.heap.size _ L rfl (hO.alloc _) wr.heap.size 1 1 [d] rfl rfl B1 (by simp only [List.length_singleton]; omega) (by simp; omega) ?_))
       intro v2 w3 hO3 hb3 hg3
       obtain ⟨A2, n2, c2, rfl⟩:=hO3.form3
       have HO3:=Lib.hid hO3
       have hb4:=(hb.alloc hsz _).trans hb3
       clear hO3 hb3 hg3 B1
       go_wp2_with fail
       go_roundw
       case rel =>
        refine ⟨k + 2, L ++ [d], by omega, by go_num, HO3.out, ?_, by rw [List.length_append, List.length_singleton]; omega, hb4⟩
        show _ = _
        rw [HN.out 1]
        exact hGd.out
       case measure=>simp [intOf]; omega
     ·have hok' : Nm.escOk d = false:=by simpa using hok
      have hsp : Nm.special d = false ∧ ((d.toNat : Int) == 35) = false ∧ ((d.toNat : Int) == 61) = false ∧ ((d.toNat : Int) == 32) = false:=by
       unfold Nm.escOk at hok'
       rw [Bool.or_eq_false_iff, decide_eq_false_iff_not] at hok'
       simp only [beq_eq_false_iff_ne, ne_eq]
       exact ⟨hok'.1, by omega, by omega, by omega⟩
      obtain ⟨h1, q1, q2, q3⟩:=hsp
      rw [h1] at D
      have HD:=Lib.hid D
      clear D h1 hok
      by_cases hk2 : k + 2 < s.size
      ·have hd2:=drop_at hk2
       obtain ⟨e, he⟩ : ∃ e, e = s[k + 2]:=⟨_, rfl⟩
       have her : ∀ h, s[k + 2]'h = e:=fun _=>he.symm
       rw [← he] at hd2
       have h256e:=u8_lt e
       have hki2 : (k : Int) + 2 < s.size:=by omega
       have hun:=unE_two (e:=e) (r:=(Nm.bs s).drop (k + 2 + 1)) hok'
       rw [← show (Nm.bs s).drop (k + 2) = e :: (Nm.bs s).drop (k + 2 + 1) from hd2, ← show (Nm.bs s).drop (k + 1) = d :: (Nm.bs s).drop (k + 2) from hd1] at hun
       have C1:=CD.out d
       have C2:=CD.out e
       clear hd hd1 hd2 he hok'
       cases hdd : Nm.dig d with
       | none =>
        rw [hdd] at hun
        rw [digI_none hdd] at C1
        have HR:=hBd.out hun
        have HC1:=Lib.hid C1
        clear hun C1 C2 hdd hG hBd
        go_wp2_with fail
        refine (HD.out _).mono ?_
        rintro r w2 ⟨rfl, rfl⟩
        go_wp2_with fail
        refine (HC1.out _).mono ?_
        rintro r w2 ⟨rfl, rfl⟩
        go_wp2_with fail
        go_ret2
        exact ⟨by rw [HR.out]; rfl, hb⟩
       | some x =>
        have hx:=dig_lt hdd
        rw [hdd] at hun
        rw [digI_some hdd] at C1
        have h0x : (0 : Int) ≤ x:=by omega
        cases hde : Nm.dig e with
        | none =>
         rw [hde] at hun
         rw [digI_none hde] at C2
         have HR:=hBd.out hun
         have HC1:=Lib.hid C1
         have HC2:=Lib.hid C2
         clear hun C1 C2 hdd hde hG hBd
         go_wp2_with fail
         refine (HD.out _).mono ?_
         rintro r w2 ⟨rfl, rfl⟩
         go_wp2_with fail
         refine (HC1.out _).mono ?_
         rintro r w2 ⟨rfl, rfl⟩
         go_wp2_with fail
         refine (HC2.out _).mono ?_
         rintro r w2 ⟨rfl, rfl⟩
         go_wp2_with fail
         go_ret2
         exact ⟨by rw [HR.out]; rfl, hb⟩
        | some y =>
         have hy:=dig_lt hde
         rw [hde] at hun
         rw [digI_some hde] at C2
         have h0y : (0 : Int) ≤ y:=by omega
         have hGd:=hG.out _ _ hun
         have ed:=digI_some hdd
         have ee:=digI_some hde
         have HC1:=Lib.hid C1
         have HC2:=Lib.hid C2
         clear hun C1 C2 hdd hde hG hBd
         go_wp2_with fail
         refine (HD.out _).mono ?_
         rintro r w2 ⟨rfl, rfl⟩
         go_wp2_with fail
         refine (HC1.out _).mono ?_
         rintro r w2 ⟨rfl, rfl⟩
         go_wp2_with fail
         refine (HC2.out _).mono ?_
         rintro r w2 ⟨rfl, rfl⟩
         go_wp2_with fail
         have hz : (16 * (x : Int) + y) % 256 = ((16 * x + y).toUInt8.toNat : Int):=by
          have e1 : (16 * x + y).toUInt8.toNat = (16 * x + y) % 256:=by rw [UInt8.toNat_ofNat']
          rw [e1]; omega
         have h01 : (0 : Int) ≤ (k : Int) + 1:=by omega
         have h02 : (0 : Int) ≤ (k : Int) + 2:=by omega
         have z1 : IntKind.i64.wrap ((k : Int) + 1) = (k : Int) + 1:=by rw [IntKind.wrap_i64]; omega
         have z2 : IntKind.i64.wrap ((k : Int) + 2) = (k : Int) + 2:=by rw [IntKind.wrap_i64]; omega
         have z3 : IntKind.i64.wrap (16 * (x : Int)) = 16 * (x : Int):=by rw [IntKind.wrap_i64]; omega
         have z4 : IntKind.i64.wrap (16 * (x : Int) + y) = 16 * (x : Int) + y:=by rw [IntKind.wrap_i64]; omega
         have z5 : ((k : Int) + 1).toNat = k + 1:=by omega
         have z6 : ((k : Int) + 2).toNat = k + 2:=by omega
         have B1:=Blk.newd wr 5 #[.int .u8 ((16 * x + y).toUInt8.toNat : Int)]
         go_region_held_law (fun w'=>True) (trivial) (first | (go_at_call 59; refine (CD.out _ _).mono ?_; rintro e9 w9 ⟨rfl, rfl⟩) | (refine step_pushd rfl (.tmp 112) (.tmp 126) (some 127) rfl rfl w.heap.size u4 L (by simp [Act.eval]) (hO.alloc _) wr.heap.size 1 1 [(16 * x + y).toUInt8] (by simp [Act.eval]) rfl B1 (by simp only [List.length_singleton]; omega) (by show w.heap.size ≤ (wr.alloc _).heap.size; simp; omega) ?_; intro v2 w3 hO3 hb3 hg3))
         all_goals
          obtain ⟨A2, n2, c2, rfl⟩:=hO3.form3
          have HO3:=Lib.hid hO3
          have hb4 : Below w.heap.size w w3:=((hb.alloc hsz _).drew).trans hb3
          clear hO3 hb3 hg3 B1
          go_wp2_with fail
          go_roundw
          case rel =>
           refine ⟨k + 3, L ++ [(16 * x + y).toUInt8], by omega, by go_num, HO3.out, ?_, by rw [List.length_append, List.length_singleton]; omega, hb4⟩
           show _ = _
           rw [HN.out 2]
           exact hGd.out
          case measure=>simp [intOf]; omega
      ·have HR:=hBd.out (by
        rw [show (Nm.bs s).drop (k + 1) = d :: (Nm.bs s).drop (k + 1 + 1) from hd1, List.drop_eq_nil_of_le (by rw [size_eq]; omega)]
        exact unE_short hok')
       have hki2 : (s.size : Int) ≤ (k : Int) + 2:=by omega
       clear hd hd1 hok' hG hBd
       go_wp2_with fail
       refine (HD.out _).mono ?_
       rintro r w2 ⟨rfl, rfl⟩
       go_wp2_with fail
       go_ret2
       exact ⟨by rw [HR.out]; rfl, hb⟩
    ·have HR:=hBd.out (by rw [List.drop_eq_nil_of_le (by rw [size_eq]; omega)]; rfl)
     have hki : (s.size : Int) ≤ (k : Int) + 1:=by omega
     have hki2 : (s.size : Int) ≤ (k : Int) + 2:=by omega
     clear hG hBd
     go_wp2_with fail
     go_ret2
     exact ⟨by rw [HR.out]; rfl, hb⟩
   ·rw [if_neg h92] at hU
    have hn : ((c.toNat : Int) == 92) = false:=by
     have:=u8_eq c 92
     rw [decide_eq_false h92] at this
     exact this
    have D:=CS.out c
    rcases un_cases ((k : Int) == 0) (decide ((k : Int) = s.size - 1)) c with ⟨hbad, hq⟩ | ⟨hgood, hsp, hf, ht⟩
    ·rw [if_pos hbad] at hU
     have hE2:=hE.out
     rw [Nm.unVal_bad hU hne] at hE2
     have HR:=Lib.hid (show plainV (Nm.unVal Nm.special true (Nm.bs s)) = .tuple #[.string ⟨#[]⟩, .bool false] by rw [hE2]; rfl)
     clear hE hE2 hU hbad hne hc h92 hN
     rcases hq with h1 | ⟨h1, h2, h3⟩ | ⟨h1, h2, h3⟩ | ⟨h1, h2, h3, h4⟩
     all_goals
      rw [h1] at D
      try (have h3 : ((k : Int) == s.size - 1) = true:=h3)
      try rw [h3] at D
      try rw [h4] at D
      have HD:=Lib.hid D
      clear D h1
      go_wp2_with fail
      refine (HD.out _).mono ?_
      rintro r w2 ⟨rfl, rfl⟩
      go_wp2_with fail
      go_ret2
      exact ⟨by rw [HR.out]; rfl, hb⟩
    ·rw [if_neg (by rw [hgood]; exact Bool.false_ne_true)] at hU
     have hE2:=hE.out
     rw [Nm.unVal_step hU, map_snoc, List.drop_drop] at hE2
     have HE:=Lib.hid hE2
     rw [hsp] at D
     have HD:=Lib.hid D
     have ht' : ((k : Int) == s.size - 1) = false ∨ ((k : Int) == s.size - 1) = true ∧ ((c.toNat : Int) == 32) = false:=ht
     clear D hE hE2 hU hgood hsp hne hc h92 hN ht
     rcases hf with h2 | ⟨h2, h6, h7⟩
     all_goals
      rcases ht' with h3 | ⟨h3, h8⟩
      all_goals
       go_wp2_with fail
       refine (HD.out _).mono ?_
       rintro r w2 ⟨rfl, rfl⟩
       have B1:=HB.out wr c
       go_wp2_with (at_builtin; go_loud (refine wpList_push rfl _ _ rfl w.heap.size _ L rfl (hO.alloc _) wr.heap.size 1 1 [c] rfl rfl B1 (by simp only [List.length_singleton]; omega) (by simp; omega) ?_))
       intro v2 w3 hO3 hb3 hg3
       obtain ⟨A2, n2, c2, rfl⟩:=hO3.form3
       have HO3:=Lib.hid hO3
       have hb4:=(hb.alloc hsz (.cells #[.int .u8 (c.toNat : Int)] 5)).trans hb3
       clear hO3 hb3 hg3 B1
       go_wp2_with fail
       go_roundw
       case rel =>
        refine ⟨k + 1, L ++ [c], by omega, by go_num, HO3.out, ?_, by rw [List.length_append, List.length_singleton]; omega, hb4⟩
        show _ = _
        rw [HN.out 0]
        exact HE.out
       case measure=>simp [intOf]; omega
  ·have hE2:=hE.out
   rw [List.drop_eq_nil_of_le (by rw [size_eq]; omega), Nm.unVal_nil] at hE2
   have HR:=Lib.hid (show plainV (Nm.unVal Nm.special true (Nm.bs s)) = .tuple #[.string (Nm.mk L), .bool true] by
    rw [hE2]
    simp only [Option.map_some, List.append_nil]
    rfl)
   have E:=hO.string
   clear hE hE2
   go_wp2_with fail
   go_ret2
   exact ⟨by rw [HR.out]; rfl, hb⟩
end Go.Proofs.YtpnlalfdgngcdaaDoor

/- What the landed tok's functions of bytes, words and signs give, in the document's words. Condition: a text has at most 60000 bytes. -/
import Derived.Test.YtdefgghhkknnpaaGreatDoorE02
set_option linter.unusedVariables false
set_option linter.unusedSimpArgs false
set_option maxRecDepth 100000
set_option maxHeartbeats 40000000
namespace Go.Proofs.YtdefgghhkknnpaaGreatDoor
namespace tk
open ChangeShapes WideShapes ChangeAt RowKit k rr
theorem isDigit_any (c:UInt8) (w:World):Calls Tryz.prog 109 #[.int .u8 c.toNat] w fun e w'=>e=.returned (.bool (numB c))∧w=w':=by
 have hc:(c.toNat:Int)<256:=by have:=c.toNat_lt;omega
 have hi:=numB_iff c;generalize numB c=b at hi ⊢;generalize (c.toNat:Int)=x at hc hi ⊢;have HI:=qh hi;clear hi;go_enter Tryz.func109,Tryz.ntmps109
 go_wp2
 all_goals
  go_ret
  refine ⟨ret_bool ?_,rfl⟩;have hi:=HI.out;cases b<;>simp at hi ⊢<;>omega
theorem isLetter_any (c:UInt8) (w:World):Calls Tryz.prog 107 #[.int .u8 c.toNat] w fun e w'=>e=.returned (.bool (alphaB c))∧w=w':=by
 have hc:(c.toNat:Int)<256:=by have:=c.toNat_lt;omega
 have hi:=alphaB_iff c;generalize alphaB c=b at hi ⊢;generalize (c.toNat:Int)=x at hc hi ⊢;have HI:=qh hi;clear hi;go_enter Tryz.func107,Tryz.ntmps107
 go_wp2
 all_goals
  go_ret
  refine ⟨ret_bool ?_,rfl⟩;have hi:=HI.out;cases b<;>simp at hi ⊢<;>omega
theorem inName_any (c:UInt8) (w:World):Calls Tryz.prog 133 #[.int .u8 c.toNat] w fun e w'=>e=.returned (.bool (bodyB c))∧w=w':=by
 have AA:=qh fun W=>isLetter_any c W
 have NN:=qh fun W=>isDigit_any c W
 have hu:=u8_eq c 95 (by omega);unfold bodyB;rw [show (95:UInt8)=UInt8.ofNat 95 from rfl,←hu];clear hu;go_enter Tryz.func133,Tryz.ntmps133
 go_wp2_with (first|(go_at_call 107;(with_reducible refine (AA.out _).mono ?_);rintro e w1 ⟨rfl,rfl⟩)|(go_at_call 109;(with_reducible refine (NN.out _).mono ?_);rintro e w1 ⟨rfl,rfl⟩))
 all_goals
  go_ret
  refine ⟨ret_bool ?_,rfl⟩;simp_all
def digT (c:UInt8):Nat:=if numB c=true then c.toNat-48 else if 65≤c∧c≤70 then c.toNat-55 else 16
theorem digT_le (c:UInt8):digT c≤16:=by
 unfold digT;split
 ·rename_i h;have:=num_byte h;omega
 ·split
  ·rename_i h
   have:=h.2;rw [UInt8.le_iff_toNat_le] at this;have h3:(70:UInt8).toNat=70:=rfl;omega
  ·omega
theorem digT_lt {c:UInt8} {b:Nat} (hb:b≤16) (h:digT c<b):digV c=digT c:=by
 unfold digT digV at *;split
 ·rfl
 ·rename_i h1
  rw [if_neg h1] at h;split
  ·rfl
  ·rename_i h2
   rw [if_neg h2] at h;omega
theorem digV_lt {c:UInt8} {b:Nat} (hb:b≤16):digT c<b↔digV c<b:=by
 constructor
 ·intro h;rw [digT_lt hb h];exact h
 ·intro h
  unfold digT digV at *;split
  ·rename_i h1;rw [if_pos h1] at h;exact h
  ·rename_i h1
   rw [if_neg h1] at h;split
   ·rename_i h2;rw [if_pos h2] at h;exact h
   ·rename_i h2;rw [if_neg h2] at h;omega
theorem tdigit_any (c:UInt8) (w:World):Calls Tryz.prog 137 #[.int .u8 c.toNat] w fun e w'=>e=.returned (.int .i64 (digT c))∧w=w':=by
 have hc:(c.toNat:Int)<256:=by have:=c.toNat_lt;omega
 have NN:=qh fun W=>isDigit_any c W
 unfold digT;cases hn:numB c
 ·rw [if_neg (by simp)]
  have h65:(65≤c∧c≤70)↔(65≤(c.toNat:Int)∧(c.toNat:Int)≤70):=by rw [UInt8.le_iff_toNat_le,UInt8.le_iff_toNat_le];simp;omega
  rw [hn] at NN;by_cases h:65≤c∧c≤70
  ·rw [if_pos h]
   have h2:=h65.1 h;obtain ⟨v,hv⟩:∃ v:Nat,c.toNat-55=v+10:=⟨c.toNat-65,by omega⟩;have hz:(c.toNat:Int)=v+65:=by omega
   have a1:(v:Int)≤5:=by omega
   have w1:IntKind.u8.wrap (v:Int)=v:=by rw [IntKind.wrap_u8];omega
   have w2:IntKind.i64.wrap (v:Int)=v:=by rw [IntKind.wrap_i64];omega
   have w3:IntKind.i64.wrap ((v:Int)+10)=v+10:=by rw [IntKind.wrap_i64];omega
   have a2:65≤(v:Int)+65:=by omega
   have a3:(v:Int)+65≤70:=by omega
   rw [hv];rw [hz] at NN ⊢;clear h2 h65 h hv hz hn hc;go_enter Tryz.func137,Tryz.ntmps137
   go_wp2_with (go_at_call 109;(with_reducible refine (NN.out _).mono ?_);rintro e w1 ⟨rfl,rfl⟩)
   go_ret
   exact ⟨by simp,rfl⟩
  ·rw [if_neg h]
   have h2:=fun h3=>h (h65.2 h3)
   generalize (c.toNat:Int)=z at *;have a2:65≤z→¬ z≤70:=fun h3 h4=>h2 ⟨h3,h4⟩
   clear h2 h65 h hn;by_cases a3:65≤z
   ·have a4:=a2 a3
    clear a2;go_enter Tryz.func137,Tryz.ntmps137
    go_wp2_with (go_at_call 109;(with_reducible refine (NN.out _).mono ?_);rintro e w1 ⟨rfl,rfl⟩)
    go_ret
    exact ⟨by simp,rfl⟩
   ·clear a2
    go_enter Tryz.func137,Tryz.ntmps137
    go_wp2_with (go_at_call 109;(with_reducible refine (NN.out _).mono ?_);rintro e w1 ⟨rfl,rfl⟩)
    go_ret
    exact ⟨by simp,rfl⟩
 ·rw [if_pos rfl]
  have h2:=(numB_iff c).1 hn;rw [hn] at NN;obtain ⟨v,hv⟩:∃ v:Nat,c.toNat-48=v:=⟨_,rfl⟩;have hz:=qh (show (v:Int)=(c.toNat:Int)-48 by omega);rw [hv];clear hv hn;generalize (c.toNat:Int)=z at *;obtain ⟨h3,h4⟩:=h2;have w1:IntKind.u8.wrap (z-48)=z-48:=by rw [IntKind.wrap_u8];omega
  have w2:IntKind.i64.wrap (z-48)=z-48:=by rw [IntKind.wrap_i64];omega
  clear h3 h4;go_enter Tryz.func137,Tryz.ntmps137
  go_wp2_with (go_at_call 109;(with_reducible refine (NN.out _).mono ?_);rintro e w1 ⟨rfl,rfl⟩)
  go_ret
  exact ⟨by rw [hz.out];rfl,rfl⟩
theorem str_beq (s:ByteArray) (l:List UInt8):(s.toList==l)=(s.data.toList==l):=by rw [ByteArray.toList_eq]
theorem isword_any (s:ByteArray) (w:World):Calls Tryz.prog 134 #[.string s] w fun e w'=>e=.returned (.bool (isWord s.data.toList))∧w=w':=by
 have HW:isWord s.data.toList=words.any fun l=>s.data.toList==l:=by
  unfold isWord;congr 1
  funext l
  exact BEq.comm
 obtain ⟨b0,h0⟩:∃ b,(s.data.toList==[80,82,79,71,82,65,77])=b:=⟨_,rfl⟩;have e0:(s.toList==[80,82,79,71,82,65,77])=b0:=by rw [str_beq];exact h0
 obtain ⟨b1,h1⟩:∃ b,(s.data.toList==[69,78,68,95,80,82,79,71,82,65,77])=b:=⟨_,rfl⟩;have e1:(s.toList==[69,78,68,95,80,82,79,71,82,65,77])=b1:=by rw [str_beq];exact h1
 obtain ⟨b2,h2⟩:∃ b,(s.data.toList==[86,65,82])=b:=⟨_,rfl⟩;have e2:(s.toList==[86,65,82])=b2:=by rw [str_beq];exact h2
 obtain ⟨b3,h3⟩:∃ b,(s.data.toList==[86,65,82,95,73,78,80,85,84])=b:=⟨_,rfl⟩;have e3:(s.toList==[86,65,82,95,73,78,80,85,84])=b3:=by rw [str_beq];exact h3
 obtain ⟨b4,h4⟩:∃ b,(s.data.toList==[86,65,82,95,79,85,84,80,85,84])=b:=⟨_,rfl⟩;have e4:(s.toList==[86,65,82,95,79,85,84,80,85,84])=b4:=by rw [str_beq];exact h4
 obtain ⟨b5,h5⟩:∃ b,(s.data.toList==[69,78,68,95,86,65,82])=b:=⟨_,rfl⟩;have e5:(s.toList==[69,78,68,95,86,65,82])=b5:=by rw [str_beq];exact h5
 obtain ⟨b6,h6⟩:∃ b,(s.data.toList==[73,78,84])=b:=⟨_,rfl⟩;have e6:(s.toList==[73,78,84])=b6:=by rw [str_beq];exact h6
 obtain ⟨b7,h7⟩:∃ b,(s.data.toList==[66,79,79,76])=b:=⟨_,rfl⟩;have e7:(s.toList==[66,79,79,76])=b7:=by rw [str_beq];exact h7
 obtain ⟨b8,h8⟩:∃ b,(s.data.toList==[65,82,82,65,89])=b:=⟨_,rfl⟩;have e8:(s.toList==[65,82,82,65,89])=b8:=by rw [str_beq];exact h8
 obtain ⟨b9,h9⟩:∃ b,(s.data.toList==[79,70])=b:=⟨_,rfl⟩;have e9:(s.toList==[79,70])=b9:=by rw [str_beq];exact h9
 obtain ⟨b10,h10⟩:∃ b,(s.data.toList==[84,82,85,69])=b:=⟨_,rfl⟩;have e10:(s.toList==[84,82,85,69])=b10:=by rw [str_beq];exact h10
 obtain ⟨b11,h11⟩:∃ b,(s.data.toList==[70,65,76,83,69])=b:=⟨_,rfl⟩;have e11:(s.toList==[70,65,76,83,69])=b11:=by rw [str_beq];exact h11
 obtain ⟨b12,h12⟩:∃ b,(s.data.toList==[73,70])=b:=⟨_,rfl⟩;have e12:(s.toList==[73,70])=b12:=by rw [str_beq];exact h12
 obtain ⟨b13,h13⟩:∃ b,(s.data.toList==[84,72,69,78])=b:=⟨_,rfl⟩;have e13:(s.toList==[84,72,69,78])=b13:=by rw [str_beq];exact h13
 obtain ⟨b14,h14⟩:∃ b,(s.data.toList==[69,76,83,73,70])=b:=⟨_,rfl⟩;have e14:(s.toList==[69,76,83,73,70])=b14:=by rw [str_beq];exact h14
 obtain ⟨b15,h15⟩:∃ b,(s.data.toList==[69,76,83,69])=b:=⟨_,rfl⟩;have e15:(s.toList==[69,76,83,69])=b15:=by rw [str_beq];exact h15
 obtain ⟨b16,h16⟩:∃ b,(s.data.toList==[69,78,68,95,73,70])=b:=⟨_,rfl⟩;have e16:(s.toList==[69,78,68,95,73,70])=b16:=by rw [str_beq];exact h16
 obtain ⟨b17,h17⟩:∃ b,(s.data.toList==[67,65,83,69])=b:=⟨_,rfl⟩;have e17:(s.toList==[67,65,83,69])=b17:=by rw [str_beq];exact h17
 obtain ⟨b18,h18⟩:∃ b,(s.data.toList==[69,78,68,95,67,65,83,69])=b:=⟨_,rfl⟩;have e18:(s.toList==[69,78,68,95,67,65,83,69])=b18:=by rw [str_beq];exact h18
 obtain ⟨b19,h19⟩:∃ b,(s.data.toList==[70,79,82])=b:=⟨_,rfl⟩;have e19:(s.toList==[70,79,82])=b19:=by rw [str_beq];exact h19
 obtain ⟨b20,h20⟩:∃ b,(s.data.toList==[84,79])=b:=⟨_,rfl⟩;have e20:(s.toList==[84,79])=b20:=by rw [str_beq];exact h20
 obtain ⟨b21,h21⟩:∃ b,(s.data.toList==[66,89])=b:=⟨_,rfl⟩;have e21:(s.toList==[66,89])=b21:=by rw [str_beq];exact h21
 obtain ⟨b22,h22⟩:∃ b,(s.data.toList==[68,79])=b:=⟨_,rfl⟩;have e22:(s.toList==[68,79])=b22:=by rw [str_beq];exact h22
 obtain ⟨b23,h23⟩:∃ b,(s.data.toList==[69,78,68,95,70,79,82])=b:=⟨_,rfl⟩;have e23:(s.toList==[69,78,68,95,70,79,82])=b23:=by rw [str_beq];exact h23
 obtain ⟨b24,h24⟩:∃ b,(s.data.toList==[87,72,73,76,69])=b:=⟨_,rfl⟩;have e24:(s.toList==[87,72,73,76,69])=b24:=by rw [str_beq];exact h24
 obtain ⟨b25,h25⟩:∃ b,(s.data.toList==[69,78,68,95,87,72,73,76,69])=b:=⟨_,rfl⟩;have e25:(s.toList==[69,78,68,95,87,72,73,76,69])=b25:=by rw [str_beq];exact h25
 obtain ⟨b26,h26⟩:∃ b,(s.data.toList==[82,69,80,69,65,84])=b:=⟨_,rfl⟩;have e26:(s.toList==[82,69,80,69,65,84])=b26:=by rw [str_beq];exact h26
 obtain ⟨b27,h27⟩:∃ b,(s.data.toList==[85,78,84,73,76])=b:=⟨_,rfl⟩;have e27:(s.toList==[85,78,84,73,76])=b27:=by rw [str_beq];exact h27
 obtain ⟨b28,h28⟩:∃ b,(s.data.toList==[69,78,68,95,82,69,80,69,65,84])=b:=⟨_,rfl⟩;have e28:(s.toList==[69,78,68,95,82,69,80,69,65,84])=b28:=by rw [str_beq];exact h28
 obtain ⟨b29,h29⟩:∃ b,(s.data.toList==[69,88,73,84])=b:=⟨_,rfl⟩;have e29:(s.toList==[69,88,73,84])=b29:=by rw [str_beq];exact h29
 obtain ⟨b30,h30⟩:∃ b,(s.data.toList==[82,69,84,85,82,78])=b:=⟨_,rfl⟩;have e30:(s.toList==[82,69,84,85,82,78])=b30:=by rw [str_beq];exact h30
 obtain ⟨b31,h31⟩:∃ b,(s.data.toList==[65,78,68])=b:=⟨_,rfl⟩;have e31:(s.toList==[65,78,68])=b31:=by rw [str_beq];exact h31
 obtain ⟨b32,h32⟩:∃ b,(s.data.toList==[79,82])=b:=⟨_,rfl⟩;have e32:(s.toList==[79,82])=b32:=by rw [str_beq];exact h32
 obtain ⟨b33,h33⟩:∃ b,(s.data.toList==[88,79,82])=b:=⟨_,rfl⟩;have e33:(s.toList==[88,79,82])=b33:=by rw [str_beq];exact h33
 obtain ⟨b34,h34⟩:∃ b,(s.data.toList==[78,79,84])=b:=⟨_,rfl⟩;have e34:(s.toList==[78,79,84])=b34:=by rw [str_beq];exact h34
 obtain ⟨b35,h35⟩:∃ b,(s.data.toList==[77,79,68])=b:=⟨_,rfl⟩;have e35:(s.toList==[77,79,68])=b35:=by rw [str_beq];exact h35
 simp only [words,List.any_cons,List.any_nil,Bool.or_false,h0,h1,h2,h3,h4,h5,h6,h7,h8,h9,h10,h11,h12,h13,h14,h15,h16,h17,h18,h19,h20,h21,h22,h23,h24,h25,h26,h27,h28,h29,h30,h31,h32,h33,h34,h35] at HW;have HI:=qh HW;clear HW h0 h1 h2 h3 h4 h5 h6 h7 h8 h9 h10 h11 h12 h13 h14 h15 h16 h17 h18 h19 h20 h21 h22 h23 h24 h25 h26 h27 h28 h29 h30 h31 h32 h33 h34 h35;go_enter Tryz.func134,Tryz.ntmps134
 go_wp2
 all_goals
  go_ret
  refine ⟨ret_bool ?_,rfl⟩;rw [HI.out];clear HI e0 e1 e2 e3 e4 e5 e6 e7 e8 e9 e10 e11 e12 e13 e14 e15 e16 e17 e18 e19 e20 e21 e22 e23 e24 e25 e26 e27 e28 e29 e30 e31 e32 e33 e34 e35;simp_all
theorem dr_zero (r:ByteArray):dr r 0=r.data.toList:=rfl
theorem two_ext {r:ByteArray} (h:1<r.size) (a b:UInt8):((r.extract 0 2).toList==[a,b])=two r.data.toList a b:=by
 have h0:0<r.size:=by omega
 have e:dr r 0=r[0]::r[1]::dr r 2:=by rw [dr_at h0,dr_at h]
 rw [extract_dr,str_beq]
 show ((dr r 0).take 2==[a,b])=two (dr r 0) a b
 rw [e,two_cons];simp
theorem signLength_any (r:ByteArray) (hs:r.size≤60000) (h0:0<r.size) (w:World):Calls Tryz.prog 111 #[.string r] w fun e w'=>e=.returned (.int .i64 (signLen r.data.toList))∧w=w':=by
 obtain ⟨x,hx⟩:∃ x:UInt8,r[0]=x:=⟨_,rfl⟩;have hd:=dr_at h0;rw [hx,dr_zero] at hd;have hsing:singles.contains x=(x==43||(x==45||(x==42||(x==47||(x==40||(x==41||(x==91||(x==93||(x==46||(x==44||(x==59||(x==58||(x==60||(x==62||(x==61))))))))))))))):=by
  simp only [singles,List.contains_cons,List.contains_nil,Bool.or_false]
 have hS:signLen r.data.toList=if (two r.data.toList 58 61||(two r.data.toList 60 61||(two r.data.toList 62 61||(two r.data.toList 60 62||(two r.data.toList 46 46)))))=true then 2 else if singles.contains x=true then 1 else 0:=by
  unfold signLen;rw [hd]
 rw [hsing] at hS;clear hsing;obtain ⟨t0,ht0⟩:∃ t,two r.data.toList 58 61=t:=⟨_,rfl⟩;obtain ⟨t1,ht1⟩:∃ t,two r.data.toList 60 61=t:=⟨_,rfl⟩;obtain ⟨t2,ht2⟩:∃ t,two r.data.toList 62 61=t:=⟨_,rfl⟩;obtain ⟨t3,ht3⟩:∃ t,two r.data.toList 60 62=t:=⟨_,rfl⟩;obtain ⟨t4,ht4⟩:∃ t,two r.data.toList 46 46=t:=⟨_,rfl⟩;obtain ⟨s0,hs0⟩:∃ s,(x==43)=s:=⟨_,rfl⟩;have e0:=eq8n x 43 (by omega);rw [show (UInt8.ofNat 43)=43 from rfl,show ((43:Nat):Int)=43 from rfl,hs0] at e0;obtain ⟨s1,hs1⟩:∃ s,(x==45)=s:=⟨_,rfl⟩;have e1:=eq8n x 45 (by omega);rw [show (UInt8.ofNat 45)=45 from rfl,show ((45:Nat):Int)=45 from rfl,hs1] at e1;obtain ⟨s2,hs2⟩:∃ s,(x==42)=s:=⟨_,rfl⟩;have e2:=eq8n x 42 (by omega);rw [show (UInt8.ofNat 42)=42 from rfl,show ((42:Nat):Int)=42 from rfl,hs2] at e2;obtain ⟨s3,hs3⟩:∃ s,(x==47)=s:=⟨_,rfl⟩;have e3:=eq8n x 47 (by omega);rw [show (UInt8.ofNat 47)=47 from rfl,show ((47:Nat):Int)=47 from rfl,hs3] at e3;obtain ⟨s4,hs4⟩:∃ s,(x==40)=s:=⟨_,rfl⟩;have e4:=eq8n x 40 (by omega);rw [show (UInt8.ofNat 40)=40 from rfl,show ((40:Nat):Int)=40 from rfl,hs4] at e4;obtain ⟨s5,hs5⟩:∃ s,(x==41)=s:=⟨_,rfl⟩;have e5:=eq8n x 41 (by omega);rw [show (UInt8.ofNat 41)=41 from rfl,show ((41:Nat):Int)=41 from rfl,hs5] at e5;obtain ⟨s6,hs6⟩:∃ s,(x==91)=s:=⟨_,rfl⟩;have e6:=eq8n x 91 (by omega);rw [show (UInt8.ofNat 91)=91 from rfl,show ((91:Nat):Int)=91 from rfl,hs6] at e6;obtain ⟨s7,hs7⟩:∃ s,(x==93)=s:=⟨_,rfl⟩;have e7:=eq8n x 93 (by omega);rw [show (UInt8.ofNat 93)=93 from rfl,show ((93:Nat):Int)=93 from rfl,hs7] at e7;obtain ⟨s8,hs8⟩:∃ s,(x==46)=s:=⟨_,rfl⟩;have e8:=eq8n x 46 (by omega);rw [show (UInt8.ofNat 46)=46 from rfl,show ((46:Nat):Int)=46 from rfl,hs8] at e8;obtain ⟨s9,hs9⟩:∃ s,(x==44)=s:=⟨_,rfl⟩;have e9:=eq8n x 44 (by omega);rw [show (UInt8.ofNat 44)=44 from rfl,show ((44:Nat):Int)=44 from rfl,hs9] at e9;obtain ⟨s10,hs10⟩:∃ s,(x==59)=s:=⟨_,rfl⟩;have e10:=eq8n x 59 (by omega);rw [show (UInt8.ofNat 59)=59 from rfl,show ((59:Nat):Int)=59 from rfl,hs10] at e10;obtain ⟨s11,hs11⟩:∃ s,(x==58)=s:=⟨_,rfl⟩;have e11:=eq8n x 58 (by omega);rw [show (UInt8.ofNat 58)=58 from rfl,show ((58:Nat):Int)=58 from rfl,hs11] at e11;obtain ⟨s12,hs12⟩:∃ s,(x==60)=s:=⟨_,rfl⟩;have e12:=eq8n x 60 (by omega);rw [show (UInt8.ofNat 60)=60 from rfl,show ((60:Nat):Int)=60 from rfl,hs12] at e12;obtain ⟨s13,hs13⟩:∃ s,(x==62)=s:=⟨_,rfl⟩;have e13:=eq8n x 62 (by omega);rw [show (UInt8.ofNat 62)=62 from rfl,show ((62:Nat):Int)=62 from rfl,hs13] at e13;obtain ⟨s14,hs14⟩:∃ s,(x==61)=s:=⟨_,rfl⟩;have e14:=eq8n x 61 (by omega);rw [show (UInt8.ofNat 61)=61 from rfl,show ((61:Nat):Int)=61 from rfl,hs14] at e14;rw [ht0,ht1,ht2,ht3,ht4,hs0,hs1,hs2,hs3,hs4,hs5,hs6,hs7,hs8,hs9,hs10,hs11,hs12,hs13,hs14] at hS;have HS:=qh hS;clear hS hs0 hs1 hs2 hs3 hs4 hs5 hs6 hs7 hs8 hs9 hs10 hs11 hs12 hs13 hs14;have hz:(0:Int)<r.size:=by omega
 by_cases h1:1<r.size
 ·have z1:(1:Int)<r.size:=by omega
  have z2:(2:Int)≤r.size:=by omega
  have f0:=two_ext h1 58 61;rw [ht0] at f0;have f1:=two_ext h1 60 61;rw [ht1] at f1;have f2:=two_ext h1 62 61;rw [ht2] at f2;have f3:=two_ext h1 60 62;rw [ht3] at f3;have f4:=two_ext h1 46 46;rw [ht4] at f4;obtain ⟨T,hT⟩:∃ T,r.extract 0 2=T:=⟨_,rfl⟩;rw [hT] at f0 f1 f2 f3 f4;clear ht0 ht1 ht2 ht3 ht4 hd;go_enter Tryz.func111,Tryz.ntmps111
  go_wp2
  all_goals
   go_ret
   refine ⟨ret_int ?_,rfl⟩;rw [HS.out];clear HS e0 e1 e2 e3 e4 e5 e6 e7 e8 e9 e10 e11 e12 e13 e14 f0 f1 f2 f3 f4;simp_all
 ·have z1:¬ (1:Int)<r.size:=by omega
  have hl:r.data.toList=[x]:=by rw [hd,dr_end (by omega)]
  rw [hl] at ht0 ht1 ht2 ht3 ht4;simp only [two] at ht0 ht1 ht2 ht3 ht4;subst ht0 ht1 ht2 ht3 ht4;clear hd hl;go_enter Tryz.func111,Tryz.ntmps111
  go_wp2
  all_goals
   go_ret
   refine ⟨ret_int ?_,rfl⟩;rw [HS.out];clear HS e0 e1 e2 e3 e4 e5 e6 e7 e8 e9 e10 e11 e12 e13 e14;simp_all
theorem prefix2 (l:List UInt8) (a b:UInt8):Lib.hasPrefix l [a,b]=two l a b:=by
 unfold Lib.hasPrefix
 match l with
 | []=>rfl
 | [x]=>simp [List.isPrefixOf,two]
 | x::y::l=>simp only [List.isPrefixOf,two,Bool.and_true];rw [BEq.comm (a:=a),BEq.comm (a:=b)]
theorem prefix3 (l:List UInt8) (a b c:UInt8):Lib.hasPrefix l [a,b,c]=(two l a b&&two (l.drop 1) b c):=by
 unfold Lib.hasPrefix
 match l with
 | []=>rfl
 | [x]=>simp [List.isPrefixOf,two]
 | [x,y]=>simp [List.isPrefixOf,two]
 | x::y::z::l=>
  simp only [List.isPrefixOf,two,Bool.and_true,List.drop_succ_cons,List.drop_zero];rw [BEq.comm (a:=a),BEq.comm (a:=b),BEq.comm (a:=c)];cases (x==a)<;>cases (y==b)<;>cases (z==c)<;>rfl
theorem baseOf_any (r:ByteArray) (w:World):Calls Tryz.prog 135 #[.string r] w fun e w'=>e=.returned (.tuple #[.int .i64 (baseOf r.data.toList).1,.int .i64 (baseOf r.data.toList).2])∧w=w':=by
 obtain ⟨t1,h1⟩:∃ t,two r.data.toList 50 35=t:=⟨_,rfl⟩;obtain ⟨t2,h2⟩:∃ t,two r.data.toList 56 35=t:=⟨_,rfl⟩;obtain ⟨t3,h3⟩:∃ t,(two r.data.toList 49 54&&two (r.data.toList.drop 1) 54 35)=t:=⟨_,rfl⟩;have P1:Hid (∀ W,Calls Tryz.prog 105 #[.string r,.string ⟨#[50,35]⟩] W fun e w'=>e=.returned (.bool t1)∧W=w'):=qh fun W=>h1 ▸ prefix2 r.data.toList 50 35 ▸ hasPrefix_any r ⟨#[50,35]⟩ W
 have P2:Hid (∀ W,Calls Tryz.prog 105 #[.string r,.string ⟨#[56,35]⟩] W fun e w'=>e=.returned (.bool t2)∧W=w'):=qh fun W=>h2 ▸ prefix2 r.data.toList 56 35 ▸ hasPrefix_any r ⟨#[56,35]⟩ W
 have P3:Hid (∀ W,Calls Tryz.prog 105 #[.string r,.string ⟨#[49,54,35]⟩] W fun e w'=>e=.returned (.bool t3)∧W=w'):=qh fun W=>h3 ▸ prefix3 r.data.toList 49 54 35 ▸ hasPrefix_any r ⟨#[49,54,35]⟩ W
 have HB:Hid (baseOf r.data.toList=if t1=true then (2,2) else if t2=true then (8,2) else if t3=true then (16,3) else (10,0)):=qh (by unfold baseOf;rw [h1,h2,h3]);clear h1 h2 h3;go_enter Tryz.func135,Tryz.ntmps135
 go_wp2_with (first|(go_at_call 105;(with_reducible refine (P1.out _).mono ?_);rintro e w1 ⟨rfl,rfl⟩)|(go_at_call 105;(with_reducible refine (P2.out _).mono ?_);rintro e w1 ⟨rfl,rfl⟩)|(go_at_call 105;(with_reducible refine (P3.out _).mono ?_);rintro e w1 ⟨rfl,rfl⟩))
 all_goals
  go_ret2
  rw [HB.out];clear HB P1 P2 P3;simp_all
def runLen (p:UInt8→Bool):List UInt8→Nat
 | []=>0
 | c::l=>if p c=true then runLen p l+1 else 0
theorem runLen_le (p:UInt8→Bool):∀ l:List UInt8,runLen p l≤l.length
 | []=>Nat.le_refl _
 | c::l=>by
  have:=runLen_le p l;rw [runLen,List.length_cons];split<;>omega
theorem runLen_body:∀ l:List UInt8,runLen bodyB l=bodyLen l
 | []=>rfl
 | c::l=>by rw [runLen,bodyLen,runLen_body l]
theorem inBase_any (c:UInt8) (b:Nat) (pb:Addr) (w:World) (hp:w.cell? pb=some (.int .i64 b)) :
  Calls Tryz.prog 136 #[.int .u8 c.toNat,.pointer (some pb)] w fun e w'=>e=.returned (.bool (decide (digT c<b)))∧∃ n,w'=w.drewN n:=by
 obtain ⟨d,hd⟩:∃ d,digT c=d:=⟨_,rfl⟩;have DG:Hid (∀ W,Calls Tryz.prog 137 #[.int .u8 c.toNat] W fun e w'=>e=.returned (.int .i64 d)∧W=w'):=qh fun W=>hd ▸ tdigit_any c W
 have F:Hid (decide (digT c<b)=decide (d<b)):=qh (by rw [hd]);clear hd;go_enter Tryz.func136,Tryz.ntmps136
 go_wp2;go_quiet ((go_at_call 137;with_reducible exact Calls.quiet_of_same ((DG.out _).mono fun _ _ h=>⟨h.1,h.2.symm⟩)))
 go_wp2;go_ret
 exact ⟨ret_bool F.out.symm,_,rfl⟩
theorem run_body (r:ByteArray) (hs:r.size≤60000) (w:World):Calls Tryz.prog 132 #[.string r,.func (.func 133) #[] #[]] w fun e w'=>e=.returned (.int .i64 (runLen bodyB r.data.toList))∧∃ n,w'=w.drewN n:=by
 have HF:Hid (∀ (c:UInt8) n,Calls Tryz.prog 133 #[.int .u8 c.toNat] (w.drewN n) fun e w'=>e=.returned (.bool (bodyB c))∧∃ m,w'=w.drewN m):=qh fun c n=>(inName_any c (w.drewN n)).mono fun e w' ⟨h1,h2⟩=>⟨h1,n,h2.symm⟩
 obtain ⟨R,hR⟩:∃ R,runLen bodyB r.data.toList=R:=⟨_,rfl⟩;have HR:=qh hR;have HS:=qh hs;rw [hR];clear hR hs;go_enter Tryz.func132,Tryz.ntmps132
 go_wp2_with fail
 go_loopw [8] (fun s8 wr=>∃ i n:Nat,s8=.int .i64 i∧i≤r.size∧i+runLen bodyB (dr r i)=R∧wr=w.drewN n) (fun i _=>r.size-(intOf i).toNat)
 case atStart=>exact ⟨0,0,rfl,Nat.zero_le _,by rw [Nat.zero_add];exact HR.out,rfl⟩
 case round=>
  obtain ⟨i,n,rfl,hi,hr,rfl⟩:=hrel;have hs:=HS.out;by_cases hlt:i<r.size
  ·obtain ⟨x,hx⟩:∃ x:UInt8,r[i]=x:=⟨_,rfl⟩
   have hd:=dr_at hlt;rw [hx] at hd;rw [hd,runLen] at hr;have hz:(i:Int)<r.size:=by omega
   have w1:IntKind.i64.wrap ((i:Int)+1)=i+1:=by rw [IntKind.wrap_i64];omega
   obtain ⟨q,hq⟩:∃ q,bodyB x=q:=⟨_,rfl⟩;have c2:=fun n=>HF.out x n
   simp only [hq] at c2 hr;have C2:=qh c2;clear c2 hq hd;cases q
   ·have H3:Hid (i=R):=qh (by simpa using hr)
    clear hr hs;go_wp2_with (go_at_call 133;((with_reducible refine (C2.out _).mono ?_);rintro e w3 ⟨rfl,n3,rfl⟩))
    go_ret
    exact ⟨by rw [←H3.out];rfl,_,rfl⟩
   ·have H3:Hid (i+1+runLen bodyB (dr r (i+1))=R):=qh (by simp only [if_true] at hr;omega)
    clear hr hs;go_wp2_with (go_at_call 133;((with_reducible refine (C2.out _).mono ?_);rintro e w3 ⟨rfl,n3,rfl⟩))
    go_roundw
    case rel=>exact ⟨i+1,_,by go_num,by omega,H3.out,rfl⟩
    case measure=>simp [intOf];omega
  ·have hz:¬ (i:Int)<r.size:=by omega
   have H3:Hid ((r.size:Int)=R):=qh (by rw [dr_end (by omega)] at hr;simp only [runLen] at hr;omega);clear hr;go_wp2_with fail
   go_ret
   exact ⟨by rw [←H3.out];rfl,_,rfl⟩
theorem run_base (r:ByteArray) (hs:r.size≤60000) (b:Nat) (pb:Addr) (w:World) (hp:w.cell? pb=some (.int .i64 b)):Calls Tryz.prog 132 #[.string r,.func (.func 136) #[] #[.pointer (some pb)]] w fun e w'=>e=.returned (.int .i64 (runLen (fun c=>decide (digT c<b)) r.data.toList))∧∃ n,w'=w.drewN n:=by
 have HF:Hid (∀ (c:UInt8) n,Calls Tryz.prog 136 #[.int .u8 c.toNat,.pointer (some pb)] (w.drewN n) fun e w'=>e=.returned (.bool ((fun c=>decide (digT c<b)) c))∧∃ m,w'=w.drewN m):=qh fun c n=>(inBase_any c b pb (w.drewN n) hp).mono fun e w' ⟨h1,m,h2⟩=>⟨h1,n+m,by rw [h2];simp [World.drewN,Nat.add_assoc]⟩
 obtain ⟨R,hR⟩:∃ R,runLen (fun c=>decide (digT c<b)) r.data.toList=R:=⟨_,rfl⟩;have HR:=qh hR;have HS:=qh hs;rw [hR];clear hR hs hp;go_enter Tryz.func132,Tryz.ntmps132
 go_wp2_with fail
 go_loopw [8] (fun s8 wr=>∃ i n:Nat,s8=.int .i64 i∧i≤r.size∧i+runLen (fun c=>decide (digT c<b)) (dr r i)=R∧wr=w.drewN n) (fun i _=>r.size-(intOf i).toNat)
 case atStart=>exact ⟨0,0,rfl,Nat.zero_le _,by rw [Nat.zero_add];exact HR.out,rfl⟩
 case round=>
  obtain ⟨i,n,rfl,hi,hr,rfl⟩:=hrel;have hs:=HS.out;by_cases hlt:i<r.size
  ·obtain ⟨x,hx⟩:∃ x:UInt8,r[i]=x:=⟨_,rfl⟩
   have hd:=dr_at hlt;rw [hx] at hd;rw [hd,runLen] at hr;have hz:(i:Int)<r.size:=by omega
   have w1:IntKind.i64.wrap ((i:Int)+1)=i+1:=by rw [IntKind.wrap_i64];omega
   obtain ⟨q,hq⟩:∃ q,(fun c=>decide (digT c<b)) x=q:=⟨_,rfl⟩;have c2:=fun n=>HF.out x n
   simp only [hq] at c2 hr;have C2:=qh c2;clear c2 hq hd;cases q
   ·have H3:Hid (i=R):=qh (by simpa using hr)
    clear hr hs;go_wp2_with (go_at_call 136;((with_reducible refine (C2.out _).mono ?_);rintro e w3 ⟨rfl,n3,rfl⟩))
    go_ret
    exact ⟨by rw [←H3.out];rfl,_,rfl⟩
   ·have H3:Hid (i+1+runLen (fun c=>decide (digT c<b)) (dr r (i+1))=R):=qh (by simp only [if_true] at hr;omega)
    clear hr hs;go_wp2_with (go_at_call 136;((with_reducible refine (C2.out _).mono ?_);rintro e w3 ⟨rfl,n3,rfl⟩))
    go_roundw
    case rel=>exact ⟨i+1,_,by go_num,by omega,H3.out,rfl⟩
    case measure=>simp [intOf];omega
  ·have hz:¬ (i:Int)<r.size:=by omega
   have H3:Hid ((r.size:Int)=R):=qh (by rw [dr_end (by omega)] at hr;simp only [runLen] at hr;omega);clear hr;go_wp2_with fail
   go_ret
   exact ⟨by rw [←H3.out];rfl,_,rfl⟩
theorem val_mono {b:Nat} (hb:1≤b) (L:List Nat):∀ M:List Nat,val b L≤val b (L++M)
 | []=>by rw [List.append_nil];exact Nat.le_refl _
 | d::M=>by
  have h:=val_mono hb (L++[d]) M;rw [List.append_assoc] at h;refine Nat.le_trans ?_ h;rw [val_snoc];exact Nat.le_trans (Nat.le_mul_of_pos_right _ hb) (Nat.le_add_right _ _)
def valT (b:Nat) (l:List UInt8):Nat:=val b (l.map digT)
theorem valT_take {r:ByteArray} {i:Nat} (b:Nat) (h:i<r.size):valT b (r.data.toList.take (i+1))=valT b (r.data.toList.take i)*b+digT r[i]:=by
 unfold valT;have h2:i<r.data.toList.length:=by rw [size_len];exact h
 rw [List.take_succ_eq_append_getElem h2,List.map_append,List.map_singleton,val_snoc];rfl
theorem valT_le {b:Nat} (hb:1≤b) (l:List UInt8) (i:Nat):valT b (l.take i)≤valT b l:=by
 unfold valT;conv=>rhs;rw [←List.take_append_drop i l,List.map_append]
 exact val_mono hb _ _
theorem value_any (r:ByteArray) (hs:r.size≤60000) (b:Nat) (hb:1≤b) (hb2:b≤16) (w:World):Calls Tryz.prog 138 #[.string r,.int .i64 b] w fun e w'=>e=.returned (.tuple #[.int .i64 (if valT b r.data.toList≤9223372036854775807 then valT b r.data.toList else 0:Nat),.bool (decide (valT b r.data.toList≤9223372036854775807))])∧w=w':=by
 have HM:Hid (∀ (a:Nat),a≤9223372036854775807→∀ W,Calls Tryz.prog 153 #[.int .i64 a,.int .i64 b] W fun e w'=>e=.returned (.tuple #[.int .i64 (q.mulV a b),.bool (q.mulB a b)])∧W=w'):=qh fun a ha W=>q.mul_any a b (by omega) (by omega) (by omega) (by omega) W
 have HA:Hid (∀ (a d:Nat),a≤9223372036854775807→d≤16→∀ W,Calls Tryz.prog 154 #[.int .i64 a,.int .i64 d] W fun e w'=>e=.returned (.tuple #[.int .i64 (q.addV a d),.bool (q.addB a d)])∧W=w'):=qh fun a d ha hd W=>q.add_any a d (by omega) (by omega) (by omega) (by omega) W
 obtain ⟨V,hV⟩:∃ V,valT b r.data.toList=V:=⟨_,rfl⟩;have HV:=qh hV;have HS:=qh hs;have HB:=qh hb;rw [hV];clear hV hs hb hb2;have NO:Hid (9223372036854775807<V→(if V≤9223372036854775807 then V else 0)=0∧decide (V≤9223372036854775807)=false):=qh fun h=>⟨if_neg (by omega),decide_eq_false (by omega)⟩
 have YES:Hid (V≤9223372036854775807→(if V≤9223372036854775807 then V else 0)=V∧decide (V≤9223372036854775807)=true):=qh fun h=>⟨if_pos h,decide_eq_true h⟩
 generalize (if V≤9223372036854775807 then V else 0)=Z at *;generalize decide (V≤9223372036854775807)=K at *;go_enter Tryz.func138,Tryz.ntmps138
 go_wp2_with fail
 go_loopw [6,7,11] (fun s6 s7 s11 wr=>∃ i n:Nat,s6=.int .i64 n∧s7=.bool true∧s11=.int .i64 i∧i≤r.size∧n=valT b (r.data.toList.take i)∧n≤9223372036854775807∧w=wr) (fun _ _ i _=>r.size-(intOf i).toNat)
 case atStart=>exact ⟨0,0,rfl,rfl,rfl,Nat.zero_le _,rfl,by omega,rfl⟩
 case round=>
  obtain ⟨i,n,rfl,rfl,rfl,hi,hn,hmax,rfl⟩:=hrel;have hs:=HS.out;by_cases hlt:i<r.size
  ·obtain ⟨x,hx⟩:∃ x:UInt8,r[i]=x:=⟨_,rfl⟩
   obtain ⟨d,hd⟩:∃ d,digT x=d:=⟨_,rfl⟩;have hst:=valT_take b hlt;have hle:=valT_le HB.out r.data.toList (i+1);rw [HV.out] at hle;rw [←hn,hx,hd] at hst;have hd16:d≤16:=hd ▸ digT_le x;have DG:Hid (∀ W,Calls Tryz.prog 137 #[.int .u8 x.toNat] W fun e w'=>e=.returned (.int .i64 d)∧W=w'):=qh fun W=>hd ▸ tdigit_any x W
   have hz:(i:Int)<r.size:=by omega
   have w1:IntKind.i64.wrap ((i:Int)+1)=i+1:=by rw [IntKind.wrap_i64];omega
   have M1:=HM.out n hmax;obtain ⟨m,hm⟩:∃ m,n*b=m:=⟨_,rfl⟩;have hmz:(n:Int)*(b:Int)=(m:Int):=by rw [←hm];simp
   rw [hm] at hst;by_cases ho:m≤9223372036854775807
   ·have e1:q.mulV n b=m:=by unfold q.mulV;rw [hmz,q.rv_yes (q.rm_iff.2 (by omega))]
    have e2:q.mulB n b=true:=by unfold q.mulB;rw [hmz];exact q.rm_iff.2 (by omega)
    rw [e1,e2] at M1;have M2:=qh M1;have A1:=HA.out m d ho hd16;by_cases ho2:m+d≤9223372036854775807
    ·have e3:q.addV m d=(m+d:Nat):=by unfold q.addV;rw [q.rv_yes (q.rm_iff.2 (by omega))];simp
     have e4:q.addB m d=true:=by unfold q.addB;exact q.rm_iff.2 (by omega)
     rw [e3,e4] at A1;have A2:=qh A1;have HN:Hid (m+d=valT b (r.data.toList.take (i+1))∧m+d≤9223372036854775807):=qh ⟨hst.symm,ho2⟩;obtain ⟨y,hy⟩:∃ y,m+d=y:=⟨_,rfl⟩;rw [hy] at A2 HN;clear e1 e2 e3 e4 M1 A1 hst hn hm hmz ho ho2 hle hmax hd hd16 hy;go_wp2_with (first|(go_at_call 153;(with_reducible refine (M2.out _).mono ?_);rintro e w1 ⟨rfl,rfl⟩)|(go_at_call 137;(with_reducible refine (DG.out _).mono ?_);rintro e w1 ⟨rfl,rfl⟩)|(go_at_call 154;(with_reducible refine (A2.out _).mono ?_);rintro e w1 ⟨rfl,rfl⟩))
     go_roundw
     case rel=>exact ⟨i+1,y,rfl,rfl,by go_num,by omega,HN.out.1,HN.out.2,trivial⟩
     case measure=>simp [intOf];omega
    ·have e3:q.addV m d=0:=by unfold q.addV;rw [q.rv_no (fun h=>ho2 (by have:=q.rm_iff.1 h;omega))]
     have e4:q.addB m d=false:=by unfold q.addB;exact Bool.eq_false_iff.2 (fun h=>ho2 (by have:=q.rm_iff.1 h;omega))
     rw [e3,e4] at A1;have A2:=qh A1;have HN:=qh (NO.out (by omega));clear e1 e2 e3 e4 M1 A1 hst hn hm hmz ho ho2 hle hmax hd hd16;go_wp2_with (first|(go_at_call 153;(with_reducible refine (M2.out _).mono ?_);rintro e w1 ⟨rfl,rfl⟩)|(go_at_call 137;(with_reducible refine (DG.out _).mono ?_);rintro e w1 ⟨rfl,rfl⟩)|(go_at_call 154;(with_reducible refine (A2.out _).mono ?_);rintro e w1 ⟨rfl,rfl⟩))
     go_ret2
     exact ⟨by rw [HN.out.1,HN.out.2];rfl,rfl⟩
   ·have e1:q.mulV n b=0:=by unfold q.mulV;rw [hmz,q.rv_no (fun h=>ho (by have:=q.rm_iff.1 h;omega))]
    have e2:q.mulB n b=false:=by unfold q.mulB;rw [hmz];exact Bool.eq_false_iff.2 (fun h=>ho (by have:=q.rm_iff.1 h;omega))
    rw [e1,e2] at M1;have M2:=qh M1;have HN:=qh (NO.out (by omega));clear e1 e2 M1 hst hn hm hmz ho hle hmax hd hd16;go_wp2_with (first|(go_at_call 153;(with_reducible refine (M2.out _).mono ?_);rintro e w1 ⟨rfl,rfl⟩))
    go_ret2
    exact ⟨by rw [HN.out.1,HN.out.2];rfl,rfl⟩
  ·have hz:¬ (i:Int)<r.size:=by omega
   have hn2:n=V:=by rw [hn,List.take_of_length_le (by rw [size_len];omega)];exact HV.out
   subst hn2;have HN:=qh (YES.out hmax);clear hn hmax;go_wp2_with fail
   go_ret2
   exact ⟨by rw [HN.out.1,HN.out.2];rfl,rfl⟩
theorem told_any (kd:Int) (t:ByteArray) (hs:t.size≤60000) (w:World):Calls Tryz.prog 112 #[.int .i64 kd,.string t] w fun e w'=>e=.returned (.agg #[.int .i64 kd,.string t,.int .i64 0,.int .i64 0,.int .i64 0])∧Below w.heap.size w w':=by
 have C:=qh fun W=>clone_any t hs W
 have x4:=Box.new w #[.int .i64 0,.string ⟨#[]⟩,.int .i64 0,.int .i64 0,.int .i64 0] 34;have hb4:=(Below.refl w.heap.size w).alloc (Nat.le_refl _) (.cells #[.int .i64 0,.string ⟨#[]⟩,.int .i64 0,.int .i64 0,.int .i64 0] 34);have hz4:(w.alloc (.cells #[.int .i64 0,.string ⟨#[]⟩,.int .i64 0,.int .i64 0,.int .i64 0] 34)).heap.size=w.heap.size+1:=by simp
 have X4:=qh x4;have B4:=qh hb4;have Z4:=qh hz4;clear x4 hb4 hz4 hs;go_enter Tryz.func112,Tryz.ntmps112
 go_upto_region 1 with (fail)
 generalize w.alloc (.cells #[.int .i64 0,.string ⟨#[]⟩,.int .i64 0,.int .i64 0,.int .i64 0] 34)=w4 at *;go_wp2_with (go_at_call 139;(with_reducible refine (C.out _).mono ?_);rintro e w1 ⟨rfl,hb⟩;have HB:=qh hb;have XA:=qh (X4.out.below hb (by have:=Z4.out;omega));clear hb;have ⟨c0,f0,c1,f1,c2,f2,c3,f3,c4,f4,_⟩:=XA.out)
 obtain ⟨y,_,hB2⟩:=Box.puts (us:=[.int .i64 kd,.string t,.int .i64 0,.int .i64 0,.int .i64 0]) XA.out rfl;refine bodyPost_ret (results_cell rfl rfl (run_loadVar_mid _ w.heap.size 0 34 _ _ y.range rfl rfl (by kernel_rfl))) rfl ?_;exact ⟨rfl,(B4.out.trans (HB.out.mono B4.out.size)).trans (hB2 _ (Nat.le_refl _))⟩
def fst1 (l:List UInt8):Tk×Int:=let x:=sgn l;if x.1=0 then (⟨x.2.1,l.take x.2.2.2,x.2.2.1,0,0⟩,0) else (zeroT,x.1)
theorem fst1_yes {l:List UInt8} {k:Int} {v n:Nat} (h:sgn l=(0,k,v,n)):fst1 l=(⟨k,l.take n,v,0,0⟩,0):=by unfold fst1;rw [h];rfl
theorem fst1_no {l:List UInt8} {e:Int} {x:Int×Nat×Nat} (h:sgn l=(e,x)) (he:e≠0):fst1 l=(zeroT,e):=by unfold fst1;rw [h];simp only [if_neg he]
theorem words_short:(words.all fun w=>decide (w.length≤16))=true:=by kernel_rfl
theorem word_le {l:List UInt8} (h:isWord l=true):l.length≤16:=by
 unfold isWord at h;obtain ⟨w,hw,he⟩:=List.any_eq_true.1 h;have h2:=of_decide_eq_true (List.all_eq_true.1 words_short w hw);rw [←eq_of_beq he];exact h2
theorem mk_str (t:ByteArray):(⟨t.data.toList.toArray⟩:ByteArray)=t:=by
 apply ByteArray.ext
 simp
theorem run_same (r:ByteArray) (hs:r.size≤60000) (w:World):Calls Tryz.prog 132 #[.string r,.func (.func 133) #[] #[]] w fun e w'=>e=.returned (.int .i64 (bodyLen r.data.toList))∧∃ n,w'=w.drewN n:=by
 rw [←runLen_body];exact run_body r hs w
theorem name_any (r:ByteArray) (hs:r.size≤60000) {x:UInt8} {l:List UInt8} (hr:r.data.toList=x::l) (ha:alphaB x=true) (w:World):Calls Tryz.prog 108 #[.string r] w fun e w'=>e=.returned (.tuple #[.agg (tC (fst1 r.data.toList).1).toArray,.int .i64 (fst1 r.data.toList).2])∧Below w.heap.size w w':=by
 have x4:=Box.new w #[.int .i64 0,.string ⟨#[]⟩,.int .i64 0,.int .i64 0,.int .i64 0] 34;have hb4:=(Below.refl w.heap.size w).alloc (Nat.le_refl _) (.cells #[.int .i64 0,.string ⟨#[]⟩,.int .i64 0,.int .i64 0,.int .i64 0] 34);have hz4:(w.alloc (.cells #[.int .i64 0,.string ⟨#[]⟩,.int .i64 0,.int .i64 0,.int .i64 0] 34)).heap.size=w.heap.size+1:=by simp
 have X4:=qh x4;have B4:=qh hb4;have Z4:=qh hz4;clear x4 hb4 hz4;have RN:=run_same r hs;have hbl:=bodyLen_le r.data.toList;have hn1:=@sgn_long x l ha;have hn2:=@sgn_word x l ha;have hn3:=@sgn_name x l ha;rw [←hr] at hn1 hn2 hn3;obtain ⟨m,hm⟩:∃ m,bodyLen r.data.toList=m:=⟨_,rfl⟩;rw [hm] at RN hbl hn1 hn2 hn3;rw [size_len] at hbl;have RN:=qh RN;obtain ⟨T,hT⟩:∃ T:ByteArray,r.extract 0 m=T:=⟨_,rfl⟩;have hTl:T.data.toList=r.data.toList.take m:=by
  rw [←hT,extract_dr]
  show (dr r 0).take (m-0)=_
  rw [dr_zero,Nat.sub_zero]
 have hTs:T.size≤60000:=by rw [←size_len,hTl,List.length_take,size_len];omega
 have WD:=isword_any T;rw [hTl] at WD;have z1:(m:Int)≤r.size:=by omega
 have hTz:(⟨(r.data.toList.take m).toArray⟩:ByteArray)=T:=by rw [←hTl]
 by_cases hlong:16<m
 ·have hw:isWord (r.data.toList.take m)=false:=by
   cases h:isWord (r.data.toList.take m)
   ·rfl
   ·have:=word_le h
    rw [List.length_take,size_len] at this;omega
  have HR:Hid (fst1 r.data.toList=(zeroT,9)):=qh (fst1_no (hn1 hw hlong) (by simp));have hz:(16:Int)<m:=by omega
  clear hn1 hn2 hn3 WD hTl hTs hTz hm hbl hr ha hw hs hlong;go_enter Tryz.func108,Tryz.ntmps108
  go_upto_region 1 with (fail)
  generalize w.alloc (.cells #[.int .i64 0,.string ⟨#[]⟩,.int .i64 0,.int .i64 0,.int .i64 0] 34)=w4 at *;have ⟨c0,f0,c1,f1,c2,f2,c3,f3,c4,f4,_⟩:=X4.out;go_wp2_with (go_at_call 132;(with_reducible refine (RN.out _).mono ?_);rintro e w1 ⟨rfl,n1,rfl⟩)
  have XA:=qh (X4.out.drawn n1);obtain ⟨y,_,hB2⟩:=Box.puts (us:=[.int .i64 0,.string ⟨#[]⟩,.int .i64 0,.int .i64 0,.int .i64 0]) XA.out rfl;refine bodyPost_ret (k.results_cell_tmp rfl rfl (run_loadVar_mid _ w.heap.size 0 34 _ _ y.range rfl rfl (by kernel_rfl))) rfl ?_;exact ⟨by rw [HR.out];rfl,(below_drawn B4.out n1).trans (hB2 _ (Nat.le_refl _))⟩
 ·have hz:¬ (16:Int)<m:=by omega
  obtain ⟨iw,hiw⟩:∃ b,isWord (r.data.toList.take m)=b:=⟨_,rfl⟩;rw [hiw] at WD;have WD:Hid (∀ W,Calls Tryz.prog 134 #[.string T] W fun e w'=>e=.returned (.bool iw)∧W=w'):=qh WD;have T1:=qh fun W=>told_any 1 T hTs W
  have T2:=qh fun W=>told_any 2 T hTs W
  cases iw
  ·have HR:Hid (tC (fst1 r.data.toList).1=[.int .i64 1,.string T,.int .i64 0,.int .i64 0,.int .i64 0]∧(fst1 r.data.toList).2=0):=qh (by
    rw [fst1_yes (hn3 hiw hlong)];exact ⟨by simp only [tC,hTz];rfl,rfl⟩)
   clear hn1 hn2 hn3 hTl hTs hTz hm hbl hr ha hs hlong hiw;go_enter Tryz.func108,Tryz.ntmps108
   go_upto_region 1 with (fail)
   generalize w.alloc (.cells #[.int .i64 0,.string ⟨#[]⟩,.int .i64 0,.int .i64 0,.int .i64 0] 34)=w4 at *;go_wp2_with (first|(go_at_call 132;(with_reducible refine (RN.out _).mono ?_);rintro e w1 ⟨rfl,n1,rfl⟩)|(go_at_call 134;(with_reducible refine (WD.out _).mono ?_);rintro e w2 ⟨rfl,rfl⟩)|(go_at_call 112;(with_reducible refine (T1.out _).mono ?_);rintro e w3 ⟨rfl,hb⟩;have XA:=qh ((X4.out.drawn n1).below hb (Nat.lt_of_lt_of_eq (Nat.lt_succ_self _) Z4.out.symm));have BA:=qh ((below_drawn B4.out n1).trans (hb.mono (below_drawn B4.out n1).size));clear hb;have ⟨c0,f0,c1,f1,c2,f2,c3,f3,c4,f4,_⟩:=XA.out))
   obtain ⟨y,_,hB2⟩:=Box.puts (us:=[.int .i64 1,.string T,.int .i64 0,.int .i64 0,.int .i64 0]) XA.out rfl;refine bodyPost_ret (k.results_cell_tmp rfl rfl (run_loadVar_mid _ w.heap.size 0 34 _ _ y.range rfl rfl (by kernel_rfl))) rfl ?_;exact ⟨by rw [HR.out.1,HR.out.2];rfl,BA.out.trans (hB2 _ (Nat.le_refl _))⟩
  ·have HR:Hid (tC (fst1 r.data.toList).1=[.int .i64 2,.string T,.int .i64 0,.int .i64 0,.int .i64 0]∧(fst1 r.data.toList).2=0):=qh (by
    rw [fst1_yes (hn2 hiw)];exact ⟨by simp only [tC,hTz];rfl,rfl⟩)
   clear hn1 hn2 hn3 hTl hTs hTz hm hbl hr ha hs hlong hiw;go_enter Tryz.func108,Tryz.ntmps108
   go_upto_region 1 with (fail)
   generalize w.alloc (.cells #[.int .i64 0,.string ⟨#[]⟩,.int .i64 0,.int .i64 0,.int .i64 0] 34)=w4 at *;go_wp2_with (first|(go_at_call 132;(with_reducible refine (RN.out _).mono ?_);rintro e w1 ⟨rfl,n1,rfl⟩)|(go_at_call 134;(with_reducible refine (WD.out _).mono ?_);rintro e w2 ⟨rfl,rfl⟩)|(go_at_call 112;(with_reducible refine (T2.out _).mono ?_);rintro e w3 ⟨rfl,hb⟩;have XA:=qh ((X4.out.drawn n1).below hb (Nat.lt_of_lt_of_eq (Nat.lt_succ_self _) Z4.out.symm));have BA:=qh ((below_drawn B4.out n1).trans (hb.mono (below_drawn B4.out n1).size));clear hb;have ⟨c0,f0,c1,f1,c2,f2,c3,f3,c4,f4,_⟩:=XA.out))
   obtain ⟨y,_,hB2⟩:=Box.puts (us:=[.int .i64 2,.string T,.int .i64 0,.int .i64 0,.int .i64 0]) XA.out rfl;refine bodyPost_ret (k.results_cell_tmp rfl rfl (run_loadVar_mid _ w.heap.size 0 34 _ _ y.range rfl rfl (by kernel_rfl))) rfl ?_;exact ⟨by rw [HR.out.1,HR.out.2];rfl,BA.out.trans (hB2 _ (Nat.le_refl _))⟩
theorem base_pos (r:List UInt8):2≤(baseOf r).1:=by
 unfold baseOf;split
 ·simp
 ·split
  ·simp
  ·split<;>simp
theorem digs_run {b:Nat} (hb:b≤16):∀ l:List UInt8,digs b l=(l.take (runLen (fun c=>decide (digT c<b)) l)).map digT
 | []=>rfl
 | c::l=>by
  by_cases h:digT c<b
  ·rw [digs_yes ((digV_lt hb).1 h),runLen,if_pos (decide_eq_true h),List.take_succ_cons,List.map_cons,←digs_run hb l,digT_lt hb h]
  ·rw [digs_no (fun h2=>h ((digV_lt hb).2 h2)),runLen,if_neg (by simpa using h)]
   rfl
theorem number_none {r:List UInt8} {b h k:Nat} (hb:baseOf r=(b,h)) (hk:runLen (fun c=>decide (digT c<b)) (r.drop h)=k) (hb16:b≤16) (hs:k=0∨stuck (r.drop (h+k))=true) (hh:h≤r.length):(number r).1=5:=by
 have hl:=runLen_le (fun c=>decide (digT c<b)) (r.drop h);have hd:(digs b (r.drop h)).length=k:=by rw [digs_run hb16,hk,List.length_map,List.length_take,List.length_drop];rw [hk,List.length_drop] at hl;omega
 unfold number;rw [hb];simp only [hd];rw [if_pos];rcases hs with hs|hs
 ·subst hs
  rw [List.eq_nil_of_length_eq_zero hd];rfl
 ·rw [hs];simp
theorem number_some {r:List UInt8} {b h k:Nat} (hb:baseOf r=(b,h)) (hk:runLen (fun c=>decide (digT c<b)) (r.drop h)=k) (hb16:b≤16) (hs:k≠0) (hst:stuck (r.drop (h+k))=false) (hh:h≤r.length) :
  number r=if 9223372036854775807<valT b ((r.drop h).take k) then (2,0,h+k) else (0,valT b ((r.drop h).take k),h+k):=by
 have hl:=runLen_le (fun c=>decide (digT c<b)) (r.drop h);have he:=digs_run hb16 (r.drop h);rw [hk] at he;have hd:(digs b (r.drop h)).length=k:=by rw [he,List.length_map,List.length_take,List.length_drop];rw [hk,List.length_drop] at hl;omega
 have hne:(digs b (r.drop h)).isEmpty=false:=by
  cases hq:digs b (r.drop h) with
  | nil=>rw [hq] at hd;exact absurd hd.symm hs
  | cons _ _=>rfl
 unfold number;rw [hb];simp only [hd,hne,hst];rw [if_neg (by simp)];unfold valT;rw [he]
theorem tnumber_any (r:ByteArray) (hs:r.size≤60000) {x:UInt8} {l:List UInt8} (hr:r.data.toList=x::l) (ha:alphaB x=false) (hn:numB x=true) (w:World):Calls Tryz.prog 110 #[.string r] w fun e w'=>e=.returned (.tuple #[.agg (tC (fst1 r.data.toList).1).toArray,.int .i64 (fst1 r.data.toList).2])∧Below w.heap.size w w':=by
 have hb1:=base_pos r.data.toList;have hb2:=(base_16 r.data.toList).1;have hh:=base_len r.data.toList;have BO:=baseOf_any r;have hsy:=fun {e:Int} {v n:Nat}=>@sgn_nume x l e v n ha hn
 have hsn:=fun {v n:Nat}=>@sgn_num x l v n ha hn
 rw [←hr] at hsy hsn;obtain ⟨b,hb⟩:∃ b,(baseOf r.data.toList).1=b:=⟨_,rfl⟩;obtain ⟨h,hhd⟩:∃ h,(baseOf r.data.toList).2=h:=⟨_,rfl⟩;have hbh:baseOf r.data.toList=(b,h):=by rw [←hb,←hhd]
 rw [hb,hhd] at BO;rw [hb] at hb1 hb2;rw [hhd] at hh;have BO:=qh BO;obtain ⟨u,hk⟩:∃ u,runLen (fun c=>decide (digT c<b)) (r.data.toList.drop h)=u:=⟨_,rfl⟩;have hkl:=runLen_le (fun c=>decide (digT c<b)) (r.data.toList.drop h);rw [hk,List.length_drop,size_len] at hkl;have hhl:=hh;rw [size_len] at hh;obtain ⟨D,hD⟩:∃ D:ByteArray,r.extract h r.size=D:=⟨_,rfl⟩;have hDl:D.data.toList=r.data.toList.drop h:=by
  rw [←hD,extract_dr]
  show (dr r h).take (r.size-h)=_
  rw [List.take_of_length_le (by rw [dr_len];exact Nat.le_refl _)];rfl
 have hDs:D.size≤60000:=by rw [←size_len,hDl,List.length_drop,size_len];omega
 have RB:=fun W (hp:W.cell? ⟨w.heap.size+1,0,none⟩=some (.int .i64 b))=>run_base D hDs b ⟨w.heap.size+1,0,none⟩ W hp
 rw [hDl,hk] at RB;have RB:=qh RB;obtain ⟨m,hm⟩:∃ m,h+u=m:=⟨_,rfl⟩;have hmr:m≤r.size:=by omega
 have z1:(h:Int)≤r.size:=by omega
 have z2:(m:Int)≤r.size:=by omega
 have z3:(h:Int)≤m:=by omega
 have w1:IntKind.i64.wrap ((h:Int)+u)=m:=by rw [IntKind.wrap_i64];omega
 have x4:=Box.new w #[.int .i64 0,.string ⟨#[]⟩,.int .i64 0,.int .i64 0,.int .i64 0] 34;have x5:=Box.new (w.alloc (.cells #[.int .i64 0,.string ⟨#[]⟩,.int .i64 0,.int .i64 0,.int .i64 0] 34)) #[.int .i64 b] 2;have hb4:=(Below.refl w.heap.size w).alloc (Nat.le_refl _) (.cells #[.int .i64 0,.string ⟨#[]⟩,.int .i64 0,.int .i64 0,.int .i64 0] 34);have hz4:(w.alloc (.cells #[.int .i64 0,.string ⟨#[]⟩,.int .i64 0,.int .i64 0,.int .i64 0] 34)).heap.size=w.heap.size+1:=by simp
 have hb5:=(Below.refl (w.alloc (.cells #[.int .i64 0,.string ⟨#[]⟩,.int .i64 0,.int .i64 0,.int .i64 0] 34)).heap.size (w.alloc (.cells #[.int .i64 0,.string ⟨#[]⟩,.int .i64 0,.int .i64 0,.int .i64 0] 34))).alloc (Nat.le_refl _) (.cells #[.int .i64 b] 2);have y4:=x4.below hb5 (by omega);have h45:=hb4.trans (hb5.mono hb4.size);have hz5:((w.alloc (.cells #[.int .i64 0,.string ⟨#[]⟩,.int .i64 0,.int .i64 0,.int .i64 0] 34)).alloc (.cells #[.int .i64 b] 2)).heap.size=w.heap.size+2:=by simp
 rw [hz4] at x5;have X4:=qh y4;have X5:=qh x5;have B5:=qh h45;have Z5:=qh hz5;clear x4 x5 y4 hb4 hb5 h45 hz4 hz5 hb hhd;have BAD:Hid ((number r.data.toList).1=5→tC (fst1 r.data.toList).1=tC zeroT∧(fst1 r.data.toList).2=5):=qh fun h5=>by
  rcases hq:number r.data.toList with ⟨e,v,n⟩
  simp only [hq] at h5;subst h5;rw [fst1_no (hsy hq (by simp)) (by simp)];exact ⟨rfl,rfl⟩
 by_cases hk0:u=0
 ·have e1:((m:Int)==h)=true:=by rw [beq_iff_eq];omega
  have HR:=qh (BAD.out (number_none hbh hk hb2 (.inl hk0) hhl));clear BAD hsy hsn hbh hk hkl hDl hDs hk0 hm hb1 hb2 hhl hr ha hn;go_enter Tryz.func110,Tryz.ntmps110
  go_upto_region 2 with (go_at_call 135;(with_reducible refine (BO.out _).mono ?_);rintro e w1 ⟨rfl,rfl⟩)
  generalize ((w.alloc (.cells #[.int .i64 0,.string ⟨#[]⟩,.int .i64 0,.int .i64 0,.int .i64 0] 34)).alloc (.cells #[.int .i64 b] 2))=w5 at *;have HP:=X5.out.1;have ⟨c0,f0,c1,f1,c2,f2,c3,f3,c4,f4,_⟩:=X4.out;go_wp2_with (first|(go_at_call 132;(with_reducible refine (RB.out _ HP).mono ?_);rintro e w1 ⟨rfl,n1,rfl⟩))
  have XA:=qh (X4.out.drawn n1);obtain ⟨y,_,hB2⟩:=Box.puts (us:=[.int .i64 0,.string ⟨#[]⟩,.int .i64 0,.int .i64 0,.int .i64 0]) XA.out rfl;refine bodyPost_ret (k.results_cell_tmp rfl rfl (run_loadVar_mid _ w.heap.size 0 34 _ _ y.range rfl rfl (by kernel_rfl))) rfl ?_;exact ⟨by rw [HR.out.1,HR.out.2];rfl,(below_drawn B5.out n1).trans (hB2 _ (Nat.le_refl _))⟩
 ·have e1:((m:Int)==h)=false:=by rw [beq_eq_false_iff_ne];omega
  have ST:stuck (r.data.toList.drop (h+u))=stuck (dr r m):=by rw [hm];rfl
  by_cases hlt:m<r.size
  ·obtain ⟨y,hy⟩:∃ y:UInt8,r[m]=y:=⟨_,rfl⟩
   have hd:=dr_at hlt;rw [hy] at hd;rw [hd] at ST;have e2:(m:Int)<r.size:=by omega
   obtain ⟨ib,hib⟩:∃ t,bodyB y=t:=⟨_,rfl⟩;have IN:Hid (∀ W,Calls Tryz.prog 133 #[.int .u8 y.toNat] W fun e w'=>e=.returned (.bool ib)∧W=w'):=qh fun W=>hib ▸ inName_any y W
   have e3:=eq8n y 35 (by omega);rw [show (UInt8.ofNat 35)=35 from rfl,show ((35:Nat):Int)=35 from rfl] at e3;obtain ⟨i5,hi5⟩:∃ t,(y==35)=t:=⟨_,rfl⟩;rw [hi5] at e3;have ST2:stuck (r.data.toList.drop (h+u))=(ib||i5):=by rw [ST];show (bodyB y||y==35)=_;rw [hib,hi5]
   clear ST hd hib hi5;cases hst:(ib||i5)
   ·have hib:ib=false:=by cases ib<;>simp_all
    have hi5:i5=false:=by cases i5<;>simp_all
    subst hib hi5;rw [hst] at ST2;obtain ⟨E,hE⟩:∃ E:ByteArray,r.extract h m=E:=⟨_,rfl⟩;have hEl:E.data.toList=(r.data.toList.drop h).take u:=by
     rw [←hE,extract_dr]
     show (dr r h).take (m-h)=_
     rw [show m-h=u by omega];rfl
    have hEs:E.size≤60000:=by rw [←size_len,hEl,List.length_take,List.length_drop,size_len];omega
    obtain ⟨T,hT⟩:∃ T:ByteArray,r.extract 0 m=T:=⟨_,rfl⟩;have hTl:T.data.toList=r.data.toList.take m:=by
     rw [←hT,extract_dr]
     show (dr r 0).take (m-0)=_
     rw [dr_zero,Nat.sub_zero]
    have hTs:T.size≤60000:=by rw [←size_len,hTl,List.length_take,size_len];omega
    have hTz:(⟨(r.data.toList.take m).toArray⟩:ByteArray)=T:=by rw [←hTl]
    have VA:=value_any E hEs b (by omega) hb2;rw [hEl] at VA;have NS:=number_some hbh hk hb2 hk0 ST2 hhl;rw [hm] at NS;obtain ⟨V,hV⟩:∃ V,valT b ((r.data.toList.drop h).take u)=V:=⟨_,rfl⟩;rw [hV] at VA NS;by_cases hov:V≤9223372036854775807
    ·rw [if_neg (by omega)] at NS
     rw [if_pos hov,decide_eq_true hov] at VA;have HR:Hid (tC (fst1 r.data.toList).1=[.int .i64 3,.string T,.int .i64 V,.int .i64 0,.int .i64 0]∧(fst1 r.data.toList).2=0):=qh (by
      rw [fst1_yes (hsn NS)];exact ⟨by simp only [tC,hTz];rfl,rfl⟩)
     have VA:Hid (∀ W,Calls Tryz.prog 138 #[.string E,.int .i64 b] W fun e w'=>e=.returned (.tuple #[.int .i64 V,.bool true])∧W=w'):=qh VA;have T3:=qh fun W=>told_any 3 T hTs W
     clear BAD hsy hsn hbh hk hkl hDl hDs hk0 hm hb1 hb2 hhl hr ha hn ST2 NS hEl hEs hTl hTs hTz hV hov;go_enter Tryz.func110,Tryz.ntmps110
     go_upto_region 2 with (go_at_call 135;(with_reducible refine (BO.out _).mono ?_);rintro e w1 ⟨rfl,rfl⟩)
     generalize ((w.alloc (.cells #[.int .i64 0,.string ⟨#[]⟩,.int .i64 0,.int .i64 0,.int .i64 0] 34)).alloc (.cells #[.int .i64 b] 2))=w5 at *;have HP:=X5.out.1;have ⟨c0,f0,c1,f1,c2,f2,c3,f3,c4,f4,_⟩:=X4.out;go_upto_region 5 with (first|(go_at_call 132;(with_reducible refine (RB.out _ HP).mono ?_);rintro e w1 ⟨rfl,n1,rfl⟩)|(go_at_call 133;(with_reducible refine (IN.out _).mono ?_);rintro e w2 ⟨rfl,rfl⟩))
     have X6:=X4.out.drawn n1;have P6:=X5.out.drawn n1;have B6:=below_drawn B5.out n1;have S6:(w5.drewN n1).heap.size=w.heap.size+2:=Z5.out;clear HP c0 f0 c1 f1 c2 f2 c3 f3 c4 f4;generalize w5.drewN n1=w6 at *;have HP6:=P6.1;have X6:=qh X6;have B6:=qh B6;have S6:=qh S6;clear P6;go_quiet ((go_at_call 138;with_reducible exact Calls.quiet_of_same ((VA.out _).mono fun _ _ h=>⟨h.1,h.2.symm⟩)))
     rename_i nq;have X7:=X6.out.drawn nq;have B7:=below_drawn B6.out nq;have Z7:(w6.drewN nq).heap.size=w.heap.size+2:=S6.out;clear HP6;generalize w6.drewN nq=w7 at *;have X7:=qh X7;have B7:=qh B7;have Z7:=qh Z7;have ⟨c0,f0,c1,f1,c2,f2,c3,f3,c4,f4,_⟩:=X7.out;go_upto_region 9 with (go_at_call 112;(with_reducible refine (T3.out _).mono ?_);rintro e w8 ⟨rfl,hb⟩;have X8:=qh (X7.out.below hb (by have:=Z7.out;omega));have B8:=btr B7 hb;have Z8:=qh (show w.heap.size<w8.heap.size from Nat.lt_of_lt_of_le (by have:=Z7.out;omega) hb.size);clear hb)
     go_upto_region 10 with (fail)
     have hb10:=Below.alloc (Below.refl w8.heap.size w8) (Nat.le_refl _) (.cells #[.int .i64 3,.string T,.int .i64 V,.int .i64 0,.int .i64 0] 34);have N10:=Box.new w8 #[.int .i64 3,.string T,.int .i64 V,.int .i64 0,.int .i64 0] 34;have X10:=qh (X8.out.below hb10 Z8.out);have B10:=btr B8 hb10;clear hb10 c0 f0 c1 f1 c2 f2 c3 f3 c4 f4;generalize w8.alloc (.cells #[.int .i64 3,.string T,.int .i64 V,.int .i64 0,.int .i64 0] 34)=w10 at *;generalize w8.heap.size=g8 at *;have ⟨a0,_,a1,_,a2,_,a3,_,a4,_,_⟩:=N10;have ⟨c0,f0,c1,f1,c2,f2,c3,f3,c4,f4,_⟩:=X10.out;go_wp2_with fail
     obtain ⟨y,_,hB2⟩:=Box.puts (us:=[.int .i64 3,.string T,.int .i64 V,.int .i64 0,.int .i64 0]) X10.out rfl;refine bodyPost_ret (k.results_cell_tmp rfl rfl (run_loadVar_mid _ w.heap.size 0 34 _ _ y.range rfl rfl (by kernel_rfl))) rfl ?_;exact ⟨by rw [HR.out.1,HR.out.2];rfl,B10.out.trans (hB2 _ (Nat.le_refl _))⟩
    ·rw [if_pos (by omega)] at NS
     rw [if_neg hov,decide_eq_false hov] at VA;have HR:Hid (fst1 r.data.toList=(zeroT,2)):=qh (fst1_no (hsy NS (by simp)) (by simp));have VA:Hid (∀ W,Calls Tryz.prog 138 #[.string E,.int .i64 b] W fun e w'=>e=.returned (.tuple #[.int .i64 0,.bool false])∧W=w'):=qh VA;clear BAD hsy hsn hbh hk hkl hDl hDs hk0 hm hb1 hb2 hhl hr ha hn ST2 NS hEl hEs hTl hTs hTz hV hov;go_enter Tryz.func110,Tryz.ntmps110
     go_upto_region 2 with (go_at_call 135;(with_reducible refine (BO.out _).mono ?_);rintro e w1 ⟨rfl,rfl⟩)
     generalize ((w.alloc (.cells #[.int .i64 0,.string ⟨#[]⟩,.int .i64 0,.int .i64 0,.int .i64 0] 34)).alloc (.cells #[.int .i64 b] 2))=w5 at *;have HP:=X5.out.1;have ⟨c0,f0,c1,f1,c2,f2,c3,f3,c4,f4,_⟩:=X4.out;go_upto_region 5 with (first|(go_at_call 132;(with_reducible refine (RB.out _ HP).mono ?_);rintro e w1 ⟨rfl,n1,rfl⟩)|(go_at_call 133;(with_reducible refine (IN.out _).mono ?_);rintro e w2 ⟨rfl,rfl⟩))
     have X6:=X4.out.drawn n1;have P6:=X5.out.drawn n1;have B6:=below_drawn B5.out n1;have S6:(w5.drewN n1).heap.size=w.heap.size+2:=Z5.out;clear HP c0 f0 c1 f1 c2 f2 c3 f3 c4 f4;generalize w5.drewN n1=w6 at *;have HP6:=P6.1;have X6:=qh X6;have B6:=qh B6;have S6:=qh S6;clear P6;go_quiet ((go_at_call 138;with_reducible exact Calls.quiet_of_same ((VA.out _).mono fun _ _ h=>⟨h.1,h.2.symm⟩)))
     rename_i nq;have X7:=X6.out.drawn nq;have B7:=below_drawn B6.out nq;have Z7:(w6.drewN nq).heap.size=w.heap.size+2:=S6.out;clear HP6;generalize w6.drewN nq=w7 at *;have X7:=qh X7;have B7:=qh B7;have Z7:=qh Z7;have ⟨c0,f0,c1,f1,c2,f2,c3,f3,c4,f4,_⟩:=X7.out;go_wp2_with fail
     obtain ⟨y,_,hB2⟩:=Box.puts (us:=[.int .i64 0,.string ⟨#[]⟩,.int .i64 0,.int .i64 0,.int .i64 0]) X7.out rfl;refine bodyPost_ret (k.results_cell_tmp rfl rfl (run_loadVar_mid _ w.heap.size 0 34 _ _ y.range rfl rfl (by kernel_rfl))) rfl ?_;exact ⟨by rw [HR.out];rfl,B7.out.trans (hB2 _ (Nat.le_refl _))⟩
   ·rw [hst] at ST2
    have HR:=qh (BAD.out (number_none hbh hk hb2 (.inr ST2) hhl));clear BAD hsy hsn hbh hk hkl hDl hDs hk0 hm hb1 hb2 hhl hr ha hn ST2;cases ib
    ·have hi5:i5=true:=by simpa using hst
     subst hi5;clear hst;go_enter Tryz.func110,Tryz.ntmps110
     go_upto_region 2 with (go_at_call 135;(with_reducible refine (BO.out _).mono ?_);rintro e w1 ⟨rfl,rfl⟩)
     generalize ((w.alloc (.cells #[.int .i64 0,.string ⟨#[]⟩,.int .i64 0,.int .i64 0,.int .i64 0] 34)).alloc (.cells #[.int .i64 b] 2))=w5 at *;have HP:=X5.out.1;have ⟨c0,f0,c1,f1,c2,f2,c3,f3,c4,f4,_⟩:=X4.out;go_wp2_with (first|(go_at_call 132;(with_reducible refine (RB.out _ HP).mono ?_);rintro e w1 ⟨rfl,n1,rfl⟩)|(go_at_call 133;(with_reducible refine (IN.out _).mono ?_);rintro e w2 ⟨rfl,rfl⟩))
     have XA:=qh (X4.out.drawn n1);obtain ⟨y,_,hB2⟩:=Box.puts (us:=[.int .i64 0,.string ⟨#[]⟩,.int .i64 0,.int .i64 0,.int .i64 0]) XA.out rfl;refine bodyPost_ret (k.results_cell_tmp rfl rfl (run_loadVar_mid _ w.heap.size 0 34 _ _ y.range rfl rfl (by kernel_rfl))) rfl ?_;exact ⟨by rw [HR.out.1,HR.out.2];rfl,(below_drawn B5.out n1).trans (hB2 _ (Nat.le_refl _))⟩
    ·clear hst
     go_enter Tryz.func110,Tryz.ntmps110
     go_upto_region 2 with (go_at_call 135;(with_reducible refine (BO.out _).mono ?_);rintro e w1 ⟨rfl,rfl⟩)
     generalize ((w.alloc (.cells #[.int .i64 0,.string ⟨#[]⟩,.int .i64 0,.int .i64 0,.int .i64 0] 34)).alloc (.cells #[.int .i64 b] 2))=w5 at *;have HP:=X5.out.1;have ⟨c0,f0,c1,f1,c2,f2,c3,f3,c4,f4,_⟩:=X4.out;go_wp2_with (first|(go_at_call 132;(with_reducible refine (RB.out _ HP).mono ?_);rintro e w1 ⟨rfl,n1,rfl⟩)|(go_at_call 133;(with_reducible refine (IN.out _).mono ?_);rintro e w2 ⟨rfl,rfl⟩))
     have XA:=qh (X4.out.drawn n1);obtain ⟨y,_,hB2⟩:=Box.puts (us:=[.int .i64 0,.string ⟨#[]⟩,.int .i64 0,.int .i64 0,.int .i64 0]) XA.out rfl;refine bodyPost_ret (k.results_cell_tmp rfl rfl (run_loadVar_mid _ w.heap.size 0 34 _ _ y.range rfl rfl (by kernel_rfl))) rfl ?_;exact ⟨by rw [HR.out.1,HR.out.2];rfl,(below_drawn B5.out n1).trans (hB2 _ (Nat.le_refl _))⟩
  ·have hd:=dr_end (s:=r) (n:=m) (by omega)
   rw [hd] at ST;have ST2:stuck (r.data.toList.drop (h+u))=false:=ST;have e2:¬ (m:Int)<r.size:=by omega
   clear ST hd;obtain ⟨E,hE⟩:∃ E:ByteArray,r.extract h m=E:=⟨_,rfl⟩;have hEl:E.data.toList=(r.data.toList.drop h).take u:=by
    rw [←hE,extract_dr]
    show (dr r h).take (m-h)=_
    rw [show m-h=u by omega];rfl
   have hEs:E.size≤60000:=by rw [←size_len,hEl,List.length_take,List.length_drop,size_len];omega
   obtain ⟨T,hT⟩:∃ T:ByteArray,r.extract 0 m=T:=⟨_,rfl⟩;have hTl:T.data.toList=r.data.toList.take m:=by
    rw [←hT,extract_dr]
    show (dr r 0).take (m-0)=_
    rw [dr_zero,Nat.sub_zero]
   have hTs:T.size≤60000:=by rw [←size_len,hTl,List.length_take,size_len];omega
   have hTz:(⟨(r.data.toList.take m).toArray⟩:ByteArray)=T:=by rw [←hTl]
   have VA:=value_any E hEs b (by omega) hb2;rw [hEl] at VA;have NS:=number_some hbh hk hb2 hk0 ST2 hhl;rw [hm] at NS;obtain ⟨V,hV⟩:∃ V,valT b ((r.data.toList.drop h).take u)=V:=⟨_,rfl⟩;rw [hV] at VA NS;by_cases hov:V≤9223372036854775807
   ·rw [if_neg (by omega)] at NS
    rw [if_pos hov,decide_eq_true hov] at VA;have HR:Hid (tC (fst1 r.data.toList).1=[.int .i64 3,.string T,.int .i64 V,.int .i64 0,.int .i64 0]∧(fst1 r.data.toList).2=0):=qh (by
     rw [fst1_yes (hsn NS)];exact ⟨by simp only [tC,hTz];rfl,rfl⟩)
    have VA:Hid (∀ W,Calls Tryz.prog 138 #[.string E,.int .i64 b] W fun e w'=>e=.returned (.tuple #[.int .i64 V,.bool true])∧W=w'):=qh VA;have T3:=qh fun W=>told_any 3 T hTs W
    clear BAD hsy hsn hbh hk hkl hDl hDs hk0 hm hb1 hb2 hhl hr ha hn ST2 NS hEl hEs hTl hTs hTz hV hov;go_enter Tryz.func110,Tryz.ntmps110
    go_upto_region 2 with (go_at_call 135;(with_reducible refine (BO.out _).mono ?_);rintro e w1 ⟨rfl,rfl⟩)
    generalize ((w.alloc (.cells #[.int .i64 0,.string ⟨#[]⟩,.int .i64 0,.int .i64 0,.int .i64 0] 34)).alloc (.cells #[.int .i64 b] 2))=w5 at *;have HP:=X5.out.1;have ⟨c0,f0,c1,f1,c2,f2,c3,f3,c4,f4,_⟩:=X4.out;go_upto_region 5 with (first|(go_at_call 132;(with_reducible refine (RB.out _ HP).mono ?_);rintro e w1 ⟨rfl,n1,rfl⟩)|fail)
    have X6:=X4.out.drawn n1;have P6:=X5.out.drawn n1;have B6:=below_drawn B5.out n1;have S6:(w5.drewN n1).heap.size=w.heap.size+2:=Z5.out;clear HP c0 f0 c1 f1 c2 f2 c3 f3 c4 f4;generalize w5.drewN n1=w6 at *;have HP6:=P6.1;have X6:=qh X6;have B6:=qh B6;have S6:=qh S6;clear P6;go_quiet ((go_at_call 138;with_reducible exact Calls.quiet_of_same ((VA.out _).mono fun _ _ h=>⟨h.1,h.2.symm⟩)))
    rename_i nq;have X7:=X6.out.drawn nq;have B7:=below_drawn B6.out nq;have Z7:(w6.drewN nq).heap.size=w.heap.size+2:=S6.out;clear HP6;generalize w6.drewN nq=w7 at *;have X7:=qh X7;have B7:=qh B7;have Z7:=qh Z7;have ⟨c0,f0,c1,f1,c2,f2,c3,f3,c4,f4,_⟩:=X7.out;go_upto_region 9 with (go_at_call 112;(with_reducible refine (T3.out _).mono ?_);rintro e w8 ⟨rfl,hb⟩;have X8:=qh (X7.out.below hb (by have:=Z7.out;omega));have B8:=btr B7 hb;have Z8:=qh (show w.heap.size<w8.heap.size from Nat.lt_of_lt_of_le (by have:=Z7.out;omega) hb.size);clear hb)
    go_upto_region 10 with (fail)
    have hb10:=Below.alloc (Below.refl w8.heap.size w8) (Nat.le_refl _) (.cells #[.int .i64 3,.string T,.int .i64 V,.int .i64 0,.int .i64 0] 34);have N10:=Box.new w8 #[.int .i64 3,.string T,.int .i64 V,.int .i64 0,.int .i64 0] 34;have X10:=qh (X8.out.below hb10 Z8.out);have B10:=btr B8 hb10;clear hb10 c0 f0 c1 f1 c2 f2 c3 f3 c4 f4;generalize w8.alloc (.cells #[.int .i64 3,.string T,.int .i64 V,.int .i64 0,.int .i64 0] 34)=w10 at *;generalize w8.heap.size=g8 at *;have ⟨a0,_,a1,_,a2,_,a3,_,a4,_,_⟩:=N10;have ⟨c0,f0,c1,f1,c2,f2,c3,f3,c4,f4,_⟩:=X10.out;go_wp2_with fail
    obtain ⟨y,_,hB2⟩:=Box.puts (us:=[.int .i64 3,.string T,.int .i64 V,.int .i64 0,.int .i64 0]) X10.out rfl;refine bodyPost_ret (k.results_cell_tmp rfl rfl (run_loadVar_mid _ w.heap.size 0 34 _ _ y.range rfl rfl (by kernel_rfl))) rfl ?_;exact ⟨by rw [HR.out.1,HR.out.2];rfl,B10.out.trans (hB2 _ (Nat.le_refl _))⟩
   ·rw [if_pos (by omega)] at NS
    rw [if_neg hov,decide_eq_false hov] at VA;have HR:Hid (fst1 r.data.toList=(zeroT,2)):=qh (fst1_no (hsy NS (by simp)) (by simp));have VA:Hid (∀ W,Calls Tryz.prog 138 #[.string E,.int .i64 b] W fun e w'=>e=.returned (.tuple #[.int .i64 0,.bool false])∧W=w'):=qh VA;clear BAD hsy hsn hbh hk hkl hDl hDs hk0 hm hb1 hb2 hhl hr ha hn ST2 NS hEl hEs hTl hTs hTz hV hov;go_enter Tryz.func110,Tryz.ntmps110
    go_upto_region 2 with (go_at_call 135;(with_reducible refine (BO.out _).mono ?_);rintro e w1 ⟨rfl,rfl⟩)
    generalize ((w.alloc (.cells #[.int .i64 0,.string ⟨#[]⟩,.int .i64 0,.int .i64 0,.int .i64 0] 34)).alloc (.cells #[.int .i64 b] 2))=w5 at *;have HP:=X5.out.1;have ⟨c0,f0,c1,f1,c2,f2,c3,f3,c4,f4,_⟩:=X4.out;go_upto_region 5 with (first|(go_at_call 132;(with_reducible refine (RB.out _ HP).mono ?_);rintro e w1 ⟨rfl,n1,rfl⟩)|fail)
    have X6:=X4.out.drawn n1;have P6:=X5.out.drawn n1;have B6:=below_drawn B5.out n1;have S6:(w5.drewN n1).heap.size=w.heap.size+2:=Z5.out;clear HP c0 f0 c1 f1 c2 f2 c3 f3 c4 f4;generalize w5.drewN n1=w6 at *;have HP6:=P6.1;have X6:=qh X6;have B6:=qh B6;have S6:=qh S6;clear P6;go_quiet ((go_at_call 138;with_reducible exact Calls.quiet_of_same ((VA.out _).mono fun _ _ h=>⟨h.1,h.2.symm⟩)))
    rename_i nq;have X7:=X6.out.drawn nq;have B7:=below_drawn B6.out nq;have Z7:(w6.drewN nq).heap.size=w.heap.size+2:=S6.out;clear HP6;generalize w6.drewN nq=w7 at *;have X7:=qh X7;have B7:=qh B7;have Z7:=qh Z7;have ⟨c0,f0,c1,f1,c2,f2,c3,f3,c4,f4,_⟩:=X7.out;go_wp2_with fail
    obtain ⟨y,_,hB2⟩:=Box.puts (us:=[.int .i64 0,.string ⟨#[]⟩,.int .i64 0,.int .i64 0,.int .i64 0]) X7.out rfl;refine bodyPost_ret (k.results_cell_tmp rfl rfl (run_loadVar_mid _ w.heap.size 0 34 _ _ y.range rfl rfl (by kernel_rfl))) rfl ?_;exact ⟨by rw [HR.out];rfl,B7.out.trans (hB2 _ (Nat.le_refl _))⟩
end tk
end Go.Proofs.YtdefgghhkknnpaaGreatDoor

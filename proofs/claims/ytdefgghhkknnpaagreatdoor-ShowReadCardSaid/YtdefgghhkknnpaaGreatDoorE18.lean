/- The landed parser's statements: whether a word is among some. No condition but what each line says. -/
import Derived.Test.YtdefgghhkknnpaaGreatDoorE17
set_option linter.unusedVariables false
set_option linter.unusedSimpArgs false
set_option maxRecDepth 100000
set_option maxHeartbeats 40000000
namespace Go.Proofs.YtdefgghhkknnpaaGreatDoor
namespace tr
open ChangeShapes WideShapes ChangeAt RowKit k rr tk
theorem index_any (ends:List Str) (s:Str) {B n c:Nat} {A:Option Addr} {w:World} (hE:Rd tC1 1 w B A n c ends):Calls Tryz.prog 115 #[.slice A n c,sv s] w fun e w'=>∃ i:Int,e=.returned (.int .i64 i)∧decide (0≤i)=ends.contains s∧w'=w:=by
  obtain ⟨R,hR⟩:∃ R,ends.contains s=R:=⟨_,rfl⟩;rw [hR];have hnl:=hE.len_le;have hlen:=hE.1;have HE:=qh hE;have HR:=qh hR;have EQ:=qh fun x:Str=>sv_eq s x
  have LE:=qh hlen;unfold sv;obtain ⟨X,hX⟩:∃ X,(⟨s.toArray⟩:ByteArray)=X:=⟨_,rfl⟩;rw [hX] at EQ ⊢;clear hE hR hlen hX;go_enter Tryz.func115,Tryz.ntmps115
  go_upto_region 2 with (fail)
  go_loopw [8] (fun s8 wr=>∃ q:Nat,q≤n∧s8=.int .i64 q∧(ends.drop q).contains s=R∧wr=w) (fun i _=>n-(intOf i).toNat)
  case atStart=>exact ⟨0,Nat.zero_le _,rfl,HR.out,rfl⟩
  case round=>
    obtain ⟨q,hq,rfl,hd,rfl⟩:=hrel;by_cases hlt:q<n
    · obtain ⟨b,off,x,rfl,hb,hx,hc⟩:=HE.out.at hlt
      have hc0:wr.cell? ⟨b,off+q,none⟩=some (.string ⟨x.toArray⟩):=by
        have:=hc 0 _ rfl;simpa [sv] using this
      have eq:=EQ.out x;have hdr:ends.drop q=x::ends.drop (q+1):=by
        obtain ⟨h1,h2⟩:=List.getElem?_eq_some_iff.1 hx;rw [List.drop_eq_getElem_cons h1,h2]
      rw [hdr,List.contains_cons] at hd;have HD:=qh hd;have hz:(q:Int)<n:=by omega
      have w1:IntKind.i64.wrap ((q:Int)+1)=q+1:=by rw [IntKind.wrap_i64];omega
      obtain ⟨Y,hY⟩:∃ Y,(⟨x.toArray⟩:ByteArray)=Y:=⟨_,rfl⟩;rw [hY] at hc0 eq;obtain ⟨u,hu⟩:∃ u,(s==x)=u:=⟨_,rfl⟩;rw [hu] at eq HD;clear hd hdr hx hc hY hu;cases u
      · go_wp2_with fail
        go_roundw
        case rel=>exact ⟨q+1,by omega,by go_num,by simpa using HD.out,by first|rfl|trivial⟩
        case measure=>simp [intOf];omega
      · go_wp2_with fail
        go_ret
        exact ⟨q,rfl,by rw [←HD.out];simp,by first|rfl|trivial⟩
    · have hd0:ends.drop q=[]:=List.drop_eq_nil_of_le (by rw [LE.out];omega)
      rw [hd0] at hd;have HD:=qh hd;have hz:¬ (q:Int)<n:=by omega
      clear hd hd0;go_wp2_with fail
      go_ret
      exact ⟨-1,rfl,by rw [←HD.out];simp,by first|rfl|trivial⟩
theorem contains_any (ends:List Str) (s:Str) {B n c:Nat} {A:Option Addr} {w:World} (hE:Rd tC1 1 w B A n c ends):Calls Tryz.prog 78 #[.slice A n c,sv s] w fun e w'=>e=.returned (.bool (ends.contains s))∧w'=w:=by
  have IA:=qh (index_any ends s hE);obtain ⟨R,hR⟩:∃ R,ends.contains s=R:=⟨_,rfl⟩;rw [hR] at IA ⊢;unfold sv at IA ⊢;generalize (⟨s.toArray⟩:ByteArray)=X at *;clear hE hR;go_enter Tryz.func78,Tryz.ntmps78
  go_wp2_with (go_at_call 115;fail)
  refine IA.out.mono ?_;rintro e w1 ⟨i,rfl,hi,rfl⟩;go_wp2;go_ret
  exact ⟨ret_bool (by rw [←hi]),rfl⟩
def GotI (n:Int) (w w':World) (v:Value):Prop:=v=.int .i64 n
def GotL (l:List Int) (w w':World) (v:Value):Prop:=∃ s:Sl,v=s.v∧RB iC 1 w' (Nw w.heap.size w'.heap.size) s l
theorem row_n {r:Sg} (h:RowOk r) (hk:(hd r).kind=3):0≤(hd r).n∧(hd r).n≤9223372036854775807:=by
 rcases h.hd with h|⟨h,_⟩|h|⟨_,h1,h2⟩
 ·omega
 ·omega
 ·omega
 ·exact ⟨h1,h2⟩
theorem ints_slice:Tryz.prog.underlying 104=some (.slice 2):=by kernel_rfl
theorem int_info:(Tryz.prog.info? 2).map (fun i=>(i.zero,i.size,i.bytes))=some (some (.int .i64 0),1,8):=by kernel_rfl
theorem bs_I2 (a c:Int) (w:World):(Instr.buildSlice 104 2 #[(0,.int .i64 a),(1,.int .i64 c)]).run Tryz.prog w=.ok (.slice (some ⟨w.heap.size,0,none⟩) 2 2) (w.alloc (.cells (iC a++iC c).toArray 2)):=by kernel_rfl
section
variable {r:Sg} {V:Value} {d g:Nat} {w:World}
theorem signed_any (hP:Par w g r V d) (hr:RowOk r):Calls Tryz.prog 159 #[.pointer (some ⟨g,0,none⟩)] w (Gv g V d w GotI (intg r)):=by
 obtain ⟨R,hR⟩:∃ R:Res Int,(intg r)=R:=⟨_,rfl⟩;rw [hR];have HR:=qh hR;clear hR;have P1:=qh hP;have G1:=qh (gr_refl w (some g));have R1:=qh hr;have Z1:=qh (show g<w.heap.size from hP.lt);clear hP hr;have hq:=HR.out;unfold intg at hq;have HR2:=qh hq;clear hq HR;go_enter Tryz.func159,Tryz.ntmps159
 by_cases hw:txt r=[45]
 ·skip
  have hq:=HR2.out;rw [if_pos hw] at hq;have HR3:=qh hq;clear hq HR2;have R4:=qh (R1.out.drop (txt_kind hw (by decide)));go_wp2_with (go_at_call 76;fail)
  refine (take_yes P1.out R1.out (hyq R1 hw) (txt_kind hw (by decide))).mono ?_;rintro e w4 ⟨rfl,hp,hg⟩;have P5:=qh hp;clear P1;replace G1:=gtr G1 hg;have Z7:=hzz hg Z1;clear hg hp R1;generalize ((r).drop 1)=r8 at *;have WN:=qh (fun h=>row_n R4.out h);have f2:=tok_f2 (tr.hd r8);by_cases hs9:(tr.hd (r8)).kind=3
  rotate_left
  ·have hq:=HR3.out
   rw [want_badE hs9] at hq;go_wp2_with (go_at_call 47;fail)
   refine (need_no P5.out R4.out (mt (headS_kind R4.out).2.1.1 hs9)).mono ?_;rintro e w5 ⟨rfl,hb⟩;go_wp2;exact ⟨rfl,Gv.badOf hq.symm (gr_trans G1.out (gr_of hb))⟩
  have hq:=HR3.out;rw [want_okE hs9,bind_okE] at hq;have HR10:=qh hq;clear hq HR3;have R11:=qh (R4.out.drop (by rw [hs9];decide));go_wp2_with (go_at_call 47;fail)
  refine (need_yes P5.out R4.out ((headS_kind R4.out).2.1.2 hs9)).mono ?_;rintro e w5 ⟨rfl,hp,hg⟩;have P12:=qh hp;clear P5;replace G1:=gtr G1 hg;have Z14:=hzz hg Z7;clear hg hp R4;generalize ((r8).drop 1)=r15 at *;have wn:IntKind.i64.wrap (-(tr.hd (r8)).n)=-(tr.hd (r8)).n:=by rw [IntKind.wrap_i64];have:=WN.out (by assumption);omega
  go_wp2;go_ret
  exact Gv.okOf HR10.out.symm rfl P12.out R11.out G1.out
 ·skip
  have hq:=HR2.out;rw [if_neg hw] at hq;have HR3:=qh hq;clear hq HR2;go_wp2_with (go_at_call 76;fail)
  refine (take_no P1.out R1.out (hnq R1 hw)).mono ?_;rintro e w4 ⟨rfl,hb⟩;have hg:=gr_of (row:=some w.heap.size) hb;replace P1:=pgq hg Z1 P1;replace G1:=hgq hg G1 Z1;have Z6:=hzz hg Z1;clear hg hb;have f2:=tok_f2 (tr.hd r);by_cases hs7:(tr.hd (r)).kind=3
  rotate_left
  ·have hq:=HR3.out
   rw [want_badE hs7] at hq;go_wp2_with (go_at_call 47;fail)
   refine (need_no P1.out R1.out (mt (headS_kind R1.out).2.1.1 hs7)).mono ?_;rintro e w5 ⟨rfl,hb⟩;go_wp2;exact ⟨rfl,Gv.badOf hq.symm (gr_trans G1.out (gr_of hb))⟩
  have hq:=HR3.out;rw [want_okE hs7,bind_okE] at hq;have HR8:=qh hq;clear hq HR3;have R9:=qh (R1.out.drop (by rw [hs7];decide));go_wp2_with (go_at_call 47;fail)
  refine (need_yes P1.out R1.out ((headS_kind R1.out).2.1.2 hs7)).mono ?_;rintro e w5 ⟨rfl,hp,hg⟩;have P10:=qh hp;clear P1;replace G1:=gtr G1 hg;have Z12:=hzz hg Z6;clear hg hp R1;generalize ((r).drop 1)=r13 at *;go_wp2;go_ret
  exact Gv.okOf HR8.out.symm rfl P10.out R9.out G1.out
theorem labels_any (hP:Par w g r V d) (hr:RowOk r) (hl:r.length≤17000) {f:Nat} (hf:20*r.length+1≤f):Calls Tryz.prog 163 #[.pointer (some ⟨g,0,none⟩)] w (Gv g V d w GotL ((labelsF f r []).bind fun l r'=>(need [58] r').bind fun _ r'=>.ok l r')):=by
 obtain ⟨R,hR⟩:∃ R:Res (List Int),((labelsF f r []).bind fun l r'=>(need [58] r').bind fun _ r'=>.ok l r')=R:=⟨_,rfl⟩;rw [hR];have HR:=qh hR;clear hR;have HL:=qh hl;have HF:=qh hf;clear hl hf;have P1:=qh hP;have G1:=qh (gr_refl w (some g));have R1:=qh hr;have Z1:=qh (show g<w.heap.size from hP.lt);clear hP hr;go_enter Tryz.func163,Tryz.ntmps163
 go_upto_region 3 with (fail)
 go_loopw [3,4] (fun v s4 wr=>∃ (m:Bool) (acc:List Int) (r':Sg) (fc:Nat),s4=.bool m∧(m=true→(labelsF fc r' acc).bind (fun l r'=>(need [58] r').bind fun _ r'=>.ok l r')=R∧20*r'.length+1≤fc)∧(m=false→(need [58] r').bind (fun _ r'=>.ok acc r')=R)∧acc.length+2*r'.length≤2*r.length∧RowOk r'∧Par wr g r' V d∧Ow iC 1 2 wr w.heap.size v acc∧w.grownBy wr (some g)) (fun _ _ wr=>rowLen wr g)
 case atStart=>exact ⟨true,[],r,f,rfl,fun _=>⟨HR.out,HF.out⟩,(fun h=>by cases h),by simp,R1.out,P1.out,Ow.nil _ _ _ _ _,G1.out⟩
 case round=>
  obtain ⟨m,acc,r',fc,rfl,hm1,hm2,hlen,hr',hP',hO',hG'⟩:=hrel;clear P1 G1 R1 HR;have P1:=qh hP';have O1:=qh hO';have G1:=qh hG';have R1:=qh hr';have HLEN:=qh hlen;have ZS:=qh (And.intro hG'.size Z1.out);clear hP' hO' hG' hr' hlen;have NLEN:=qh P1.out.len;have OHD:=qh O1.out;cases m
  ·skip
   have HR:=qh (hm2 rfl);clear hm1 hm2;by_cases hs201:txt (r')=[58]
   rotate_left
   ·have hq:=HR.out
    rw [need_badE hs201] at hq;go_wp2_with (go_at_call 47;fail)
    refine (need_no P1.out R1.out (hnq R1 hs201)).mono ?_;rintro e w4 ⟨rfl,hb⟩;go_wp2;exact ⟨rfl,Gv.badOf hq.symm (gr_trans G1.out (gr_of hb))⟩
   have hq:=HR.out;rw [need_okE hs201,bind_okE] at hq;have HR202:=qh hq;clear hq HR;have R203:=qh (R1.out.drop (txt_kind hs201 (by decide)));go_wp2_with (go_at_call 47;fail)
   refine (need_yes P1.out R1.out (hyq R1 hs201)).mono ?_;rintro e w4 ⟨rfl,hp,hg⟩;have P204:=qh hp;replace O1:=oqq hg ZS O1;clear P1;replace G1:=gtr G1 hg;have Z207:=hzz hg ZS;clear hg hp R1;generalize ((r').drop 1)=r208 at *;obtain ⟨⟨A9,l9,c9⟩,hs9⟩:=Ow.sl iC_len O1.out;subst hs9;go_wp2;go_ret
   exact Gv.okOf HR202.out.symm ⟨⟨A9,l9,c9⟩,rfl,rb_own iC_len O1.out (Nat.le_refl _) (Nat.le_refl _)⟩ P204.out R203.out G1.out
  ·skip
   obtain ⟨hq,hfc⟩:=hm1 rfl;obtain ⟨f2,rfl⟩:∃ k,fc=k+1:=⟨fc-1,by omega⟩;rw [labelsF,bind_bind] at hq;have HR:=qh hq;have HFC:=qh hfc;clear hm1 hm2 hq hfc;have FI:=qh (fin_intg (r:=r'));have SG:=qh fun W (h:Par W g r' V d)=>signed_any h R1.out
   go_wp2_with (go_at_call 159;fail)
   refine (SG.out _ P1.out).mono ?_;rintro e w4 hgv;rcases hp:intg r' with ⟨a1,r1⟩|⟨n9,t9⟩
   rotate_left
   ·rw [hp] at hgv
    obtain ⟨rfl,hg⟩:=hgv;have hq:=HR.out;rw [hp] at hq;go_wp2;exact ⟨rfl,Gv.badOf hq.symm (gr_trans G1.out hg)⟩
   rw [hp] at hgv;obtain ⟨⟨v9,rfl,hG⟩,hP9,hr9,hg⟩:=hgv;have hq:=HR.out;rw [hp] at hq;try rw [bind_okE] at hq
   have HR201:=qh hq;clear hq HR;have P202:=qh hP9;have R203:=qh hr9;replace O1:=oqq hg ZS O1;clear P1;replace G1:=gtr G1 hg;have Z206:=hzz hg ZS;clear hg hP9 hr9 R1;have L1:Hid (r1.length<r'.length):=by
    have:=FI.out;rw [hp] at this;exact qh this
   obtain rfl:=hG;clear FI hp SG;by_cases hw:txt r1=[46,46]
   ·skip
    have hq:=HR201.out;rw [if_pos hw] at hq;have HR207:=qh hq;clear hq HR201;have hl1:=drop_len r1;have HL1:=qh hl1;clear hl1;have R208:=qh (R203.out.drop (txt_kind hw (by decide)));go_wp2_with (go_at_call 76;fail)
    refine (take_yes P202.out R203.out (hyq R203 hw) (txt_kind hw (by decide))).mono ?_;rintro e w5 ⟨rfl,hp,hg⟩;have P209:=qh hp;replace O1:=oqq hg Z206 O1;clear P202;replace G1:=gtr G1 hg;have Z212:=hzz hg Z206;clear hg hp R203;generalize ((r1).drop 1)=r213 at *;have FI:=qh (fin_intg (r:=r213));have SG:=qh fun W (h:Par W g r213 V d)=>signed_any h R208.out
    go_wp2_with (go_at_call 159;fail)
    refine (SG.out _ P209.out).mono ?_;rintro e w6 hgv;rcases hp:intg r213 with ⟨c1,r2⟩|⟨n9,t9⟩
    rotate_left
    ·rw [hp] at hgv
     obtain ⟨rfl,hg⟩:=hgv;have hq:=HR207.out;rw [hp] at hq;go_wp2;exact ⟨rfl,Gv.badOf hq.symm (gr_trans G1.out hg)⟩
    rw [hp] at hgv;obtain ⟨⟨v9,rfl,hG⟩,hP9,hr9,hg⟩:=hgv;have hq:=HR207.out;rw [hp] at hq;try rw [bind_okE] at hq
    have HR214:=qh hq;clear hq HR207;have P215:=qh hP9;have R216:=qh hr9;replace O1:=oqq hg Z212 O1;clear P209;replace G1:=gtr G1 hg;have Z219:=hzz hg Z212;clear hg hP9 hr9 R208;have LR:Hid (r2.length<r'.length):=by
     have:=FI.out;rw [hp] at this;have:=L1.out;have:=HL1.out;have h9:r2.length<r213.length:=by assumption
     exact qh (by omega)
    obtain rfl:=hG;clear FI hp SG HL1;have LM:=qh (show acc.length+[a1,c1].length≤60000 by have:=HLEN.out;have:=HL.out;simp;omega);have Z220:=qh (And.intro (show w.heap.size≤w6.heap.size from (qq Z219)) Z219.out);go_upto_region 4 with (first|((with_reducible refine m_slice2 (enc:=iC) (z:=1) iC_len a1 c1 104 2 18 19 (.int .i64 a1) (.int .i64 c1) (iC a1++iC c1).toArray ?_ ?_ ?_ ?_ (bs_I2 a1 c1) ?_ ?_);rfl;rfl;rfl;rfl;rfl;intro w7 hrb hb1 hz1;have HRB:=qh hrb;have HB1:=qh hb1;have HZ1:=qh hz1;clear hrb hb1 hz1)|(at_builtin;refine wpList_append_row iC_len (by decide) iC_one ints_slice int_info rfl (by decide) _ rfl (.tmp 17) (.tmp 20) rfl w.heap.size u3 acc rfl (O1.out.under HB1.out) (w6.heap.size+1) (some ⟨w6.heap.size,0,none⟩) 2 2 [a1,c1] rfl (RB.toAt (fun b hb=>hb.2) HRB.out) LM.out (Nat.le_trans Z220.out.1 HB1.out.size) ?_;intro v8 w8 hown hgA hat;have HOWN:=qh hown;have HGA:=qh hgA;have HAT:=qh hat;clear hown hgA hat))
    have hg:=gr_of (row:=some w6.heap.size) HB1.out;have Z221:=qh (And.intro HZ1.out Z220.out);have E222:=HRB;clear HZ1 HRB;replace O1:=oqq hg Z220 O1;replace P215:=pgq hg Z220 P215;replace G1:=hgq hg G1 Z220;have Z226:=hzz hg Z221;clear hg HB1;obtain ⟨v228,hv8⟩:∃ x,x=v8:=⟨_,rfl⟩;subst hv8;obtain ⟨q9,hq1,hq2,hg⟩:=grow_q O1.out (qq Z226) HGA.out;have HQ2:=qh hq2;have Z229:=qh (And.intro hq1 Z226.out);have Z230:=qh (And.intro (show q9<wr.heap.size∨w7.heap.size≤q9 from hq2.imp (fun e=>(Ow.lt OHD.out e).2) id) Z229.out);clear hq1 hq2;have HOB231:=qh (show ∀ q0,v228.ownBlock=some q0→q0<wr.heap.size∨w7.heap.size≤q0 from fun q0 e0=>HAT.out.elim (fun h=>.inl (Ow.lt OHD.out (h.symm.trans e0)).2) (fun h=>.inr (by rw [h] at e0;injection e0 with e0;omega)));have E232:=hrq hg Z230 E222;clear E222;replace P215:=pgq hg Z230 P215;have G234:=hgq hg G1 Z230;clear G1;have Z235:=hzz hg Z230;have O236:=HOWN;clear hg HOWN HGA HQ2 HAT O1;by_cases hw4:txt r2=[44]
    ·skip
     have hq:=HR214.out;rw [if_pos hw4] at hq;have HR237:=qh hq;clear hq HR214;have hl0:=drop_len r2;have HLR:=qh R216.out.len;have HL0:=qh hl0;clear hl0;have R238:=qh (R216.out.drop (txt_kind hw4 (by decide)));go_wp2_with (go_at_call 76;fail)
     refine (take_yes P215.out R216.out (hyq R216 hw4) (txt_kind hw4 (by decide))).mono ?_;rintro e w9 ⟨rfl,hp,hg⟩;have P239:=qh hp;have E240:=hrq hg Z235 E232;clear E232;replace O236:=oqq hg Z235 O236;clear P215;have G242:=gtr G234 hg;clear G234;have Z243:=hzz hg Z235;clear hg hp R216;generalize ((r2).drop 1)=r244 at *;go_wp2_with fail
     go_roundw
     case rel=>exact ⟨true,_,_,f2,rfl,fun _=>⟨HR237.out,(by have z:=Z243.out;have:=HL0.out;have:=HLR.out;have:=HFC.out;have:=LR.out;omega)⟩,(fun h=>by cases h),(by have z:=Z243.out;have:=HL0.out;have:=HLR.out;have:=HLEN.out;have:=LR.out;simp only [List.length_append,List.length_cons,List.length_nil];omega),R238.out,P239.out,O236.out,G242.out⟩
     case measure=>rw [NLEN.out,P239.out.len];have z:=Z243.out;have:=HL0.out;have:=HLR.out;have:=LR.out;omega
    ·skip
     have hq:=HR214.out;rw [if_neg hw4,bind_okE] at hq;have HR237:=qh hq;clear hq HR214;go_wp2_with (go_at_call 76;fail)
     refine (take_no P215.out R216.out (hnq R216 hw4)).mono ?_;rintro e w9 ⟨rfl,hb⟩;have hg:=gr_of (row:=some w8.heap.size) hb;have E238:=hrq hg Z235 E232;clear E232;replace O236:=oqq hg Z235 O236;replace P215:=pgq hg Z235 P215;have G241:=hgq hg G234 Z235;clear G234;have Z242:=hzz hg Z235;clear hg hb;go_wp2_with fail
     go_roundw
     case rel=>exact ⟨false,_,_,f2,rfl,(fun h=>by cases h),fun _=>HR237.out,(by have z:=Z242.out;have:=HLEN.out;have:=LR.out;simp only [List.length_append,List.length_cons,List.length_nil];omega),R216.out,P215.out,O236.out,G241.out⟩
     case measure=>rw [NLEN.out,P215.out.len];have z:=Z242.out;have:=LR.out;omega
   ·skip
    have hq:=HR201.out;rw [if_neg hw,bind_okE] at hq;have HR207:=qh hq;clear hq HR201;go_wp2_with (go_at_call 76;fail)
    refine (take_no P202.out R203.out (hnq R203 hw)).mono ?_;rintro e w5 ⟨rfl,hb⟩;have hg:=gr_of (row:=some w4.heap.size) hb;replace O1:=oqq hg Z206 O1;have P209:=pgq hg Z206 P202;clear P202;replace G1:=hgq hg G1 Z206;have Z211:=hzz hg Z206;clear hg hb;have LR:=L1;have LM:=qh (show acc.length+[a1,a1].length≤60000 by have:=HLEN.out;have:=HL.out;simp;omega);have Z212:=qh (And.intro (show w.heap.size≤w5.heap.size from (qq Z211)) Z211.out);go_upto_region 4 with (first|((with_reducible refine m_slice2 (enc:=iC) (z:=1) iC_len a1 a1 104 2 18 19 (.int .i64 a1) (.int .i64 a1) (iC a1++iC a1).toArray ?_ ?_ ?_ ?_ (bs_I2 a1 a1) ?_ ?_);rfl;rfl;rfl;rfl;rfl;intro w6 hrb hb1 hz1;have HRB:=qh hrb;have HB1:=qh hb1;have HZ1:=qh hz1;clear hrb hb1 hz1)|(at_builtin;refine wpList_append_row iC_len (by decide) iC_one ints_slice int_info rfl (by decide) _ rfl (.tmp 17) (.tmp 20) rfl w.heap.size u3 acc rfl (O1.out.under HB1.out) (w5.heap.size+1) (some ⟨w5.heap.size,0,none⟩) 2 2 [a1,a1] rfl (RB.toAt (fun b hb=>hb.2) HRB.out) LM.out (Nat.le_trans Z212.out.1 HB1.out.size) ?_;intro v8 w7 hown hgA hat;have HOWN:=qh hown;have HGA:=qh hgA;have HAT:=qh hat;clear hown hgA hat))
    have hg:=gr_of (row:=some w5.heap.size) HB1.out;have Z213:=qh (And.intro HZ1.out Z212.out);have E214:=HRB;clear HZ1 HRB;replace O1:=oqq hg Z212 O1;replace P209:=pgq hg Z212 P209;replace G1:=hgq hg G1 Z212;have Z218:=hzz hg Z213;clear hg HB1;obtain ⟨v220,hv8⟩:∃ x,x=v8:=⟨_,rfl⟩;subst hv8;obtain ⟨q9,hq1,hq2,hg⟩:=grow_q O1.out (qq Z218) HGA.out;have HQ2:=qh hq2;have Z221:=qh (And.intro hq1 Z218.out);have Z222:=qh (And.intro (show q9<wr.heap.size∨w6.heap.size≤q9 from hq2.imp (fun e=>(Ow.lt OHD.out e).2) id) Z221.out);clear hq1 hq2;have HOB223:=qh (show ∀ q0,v220.ownBlock=some q0→q0<wr.heap.size∨w6.heap.size≤q0 from fun q0 e0=>HAT.out.elim (fun h=>.inl (Ow.lt OHD.out (h.symm.trans e0)).2) (fun h=>.inr (by rw [h] at e0;injection e0 with e0;omega)));replace E214:=hrq hg Z222 E214;replace P209:=pgq hg Z222 P209;replace G1:=hgq hg G1 Z222;have Z227:=hzz hg Z222;have O228:=HOWN;clear hg HOWN HGA HQ2 HAT O1;by_cases hw4:txt r1=[44]
    ·skip
     have hq:=HR207.out;rw [if_pos hw4] at hq;have HR229:=qh hq;clear hq HR207;have hl0:=drop_len r1;have HLR:=qh R203.out.len;have HL0:=qh hl0;clear hl0;have R230:=qh (R203.out.drop (txt_kind hw4 (by decide)));go_wp2_with (go_at_call 76;fail)
     refine (take_yes P209.out R203.out (hyq R203 hw4) (txt_kind hw4 (by decide))).mono ?_;rintro e w8 ⟨rfl,hp,hg⟩;have P231:=qh hp;have E232:=hrq hg Z227 E214;clear E214;replace O228:=oqq hg Z227 O228;clear P209;have G234:=gtr G1 hg;clear G1;have Z235:=hzz hg Z227;clear hg hp R203;generalize ((r1).drop 1)=r236 at *;go_wp2_with fail
     go_roundw
     case rel=>exact ⟨true,_,_,f2,rfl,fun _=>⟨HR229.out,(by have z:=Z235.out;have:=HL0.out;have:=HLR.out;have:=HFC.out;have:=LR.out;omega)⟩,(fun h=>by cases h),(by have z:=Z235.out;have:=HL0.out;have:=HLR.out;have:=HLEN.out;have:=LR.out;simp only [List.length_append,List.length_cons,List.length_nil];omega),R230.out,P231.out,O228.out,G234.out⟩
     case measure=>rw [NLEN.out,P231.out.len];have z:=Z235.out;have:=HL0.out;have:=HLR.out;have:=LR.out;omega
    ·skip
     have hq:=HR207.out;rw [if_neg hw4,bind_okE] at hq;have HR229:=qh hq;clear hq HR207;go_wp2_with (go_at_call 76;fail)
     refine (take_no P209.out R203.out (hnq R203 hw4)).mono ?_;rintro e w8 ⟨rfl,hb⟩;have hg:=gr_of (row:=some w7.heap.size) hb;replace E214:=hrq hg Z227 E214;replace O228:=oqq hg Z227 O228;replace P209:=pgq hg Z227 P209;replace G1:=hgq hg G1 Z227;have Z234:=hzz hg Z227;clear hg hb;go_wp2_with fail
     go_roundw
     case rel=>exact ⟨false,_,_,f2,rfl,(fun h=>by cases h),fun _=>HR229.out,(by have z:=Z234.out;have:=HLEN.out;have:=LR.out;simp only [List.length_append,List.length_cons,List.length_nil];omega),R203.out,P209.out,O228.out,G1.out⟩
     case measure=>rw [NLEN.out,P209.out.len];have z:=Z234.out;have:=LR.out;omega
end
def GotS (x:St) (w w':World) (v:Value):Prop:=∃ h:SH,v=.agg (sC h).toArray∧StB w' (Nw w.heap.size w'.heap.size) x h
def GotB (l:List St) (w w':World) (v:Value):Prop:=∃ s:Sl,v=s.v∧StLB w' (Nw w.heap.size w'.heap.size) s l
def SCtr (P:Program) (fn:FuncId) (p:Res St) (d:Nat) (r:Sg):Prop:=∀ (V:Value) (g:Nat) (w:World),Par w g r V d→Calls P fn #[.pointer (some ⟨g,0,none⟩)] w (Gv g V d w GotS p)
def runF (stop:Sg→Bool):Nat→Nat→Sg→List St→Res (List St)
 | 0,_,r,_=>fail 99 r
 | f+1,d,r,acc=>if stop r=true then .ok acc r else (stmtF f d r).bind fun s r'=>runF stop f d r' (acc++[s])
theorem stmts_run (ends:List Str):∀ (f d:Nat) (r:Sg) (acc:List St),stmtsF f d ends r acc=runF (fun r=>oneOf (txt r) ends) f d r acc
 | 0,_,_,_=>by rw [stmtsF,runF]
 | f+1,d,r,acc=>by
  rw [stmtsF,runF];congr 2
  funext s r'
  exact stmts_run ends f d r' _
def caseEnd (r:Sg):Bool:=decide ((hd r).kind=3∨oneOf (txt r) [[45],[69,76,83,69],[69,78,68,95,67,65,83,69]]=true)
theorem block_run:∀ (f d:Nat) (r:Sg) (acc:List St),blockF f d r acc=runF caseEnd f d r acc
 | 0,_,_,_=>by rw [blockF,runF]
 | f+1,d,r,acc=>by
  rw [blockF,runF];have:caseEnd r=true↔((hd r).kind=3∨oneOf (txt r) [[45],[69,76,83,69],[69,78,68,95,67,65,83,69]]=true):=by unfold caseEnd;simp
  by_cases h:caseEnd r=true
  ·rw [if_pos (this.1 h),if_pos h]
  ·rw [if_neg (mt this.2 h),if_neg h]
   congr 1
   funext s r'
   exact block_run f d r' _
theorem stsB_len {w:World} {S:Nat→Prop}:∀ {L:List St} {H:List SH},StsB w S L H→H.length=L.length
 | [],_,e=>by
  unfold StsB at e;subst e;rfl
 | x::L,_,e=>by
  unfold StsB at e;obtain ⟨g,H',e,h1,h2⟩:=e;rw [e,List.length_cons,List.length_cons,stsB_len h2]
theorem stmts_slice:Tryz.prog.underlying 23=some (.slice 49):=by kernel_rfl
theorem stmt_info:(Tryz.prog.info? 49).map (fun i=>(i.zero,i.size,i.bytes))=some (some (.agg #[.int .i64 0,.string ⟨#[]⟩,.int .i64 0,.int .i64 0,.string ⟨#[]⟩,.string ⟨#[]⟩,.slice none 0 0,.int .i64 0,.int .i64 0,.int .i64 0,.string ⟨#[]⟩,.string ⟨#[]⟩,.slice none 0 0,.int .i64 0,.slice none 0 0,.slice none 0 0,.slice none 0 0,.slice none 0 0,.int .i64 0]),19,288):=by kernel_rfl
theorem bs_S (h:SH) (w:World):(Instr.buildSlice 23 1 #[(0,.agg (sC h).toArray)]).run Tryz.prog w=.ok (.slice (some ⟨w.heap.size,0,none⟩) 1 1) (w.alloc (.cells (sC h).toArray 49)):=by kernel_rfl
section
variable {r:Sg} {V:Value} {d g:Nat} {w:World}
theorem block_any (hP:Par w g r V d) (hr:RowOk r) (hl:r.length≤17000) {f:Nat} (hf:20*r.length+12≤f) (ends:List Str) (stop:Sg→Bool) (hst:∀ r,RowOk r→ends.contains (headS (tr.hd r))=stop r) {e n:Nat} (he1:g<e) (he2:e<w.heap.size) (hE:RB tC1 1 w (Nw e (e+1)) ⟨some ⟨e,0,none⟩,n,n⟩ ends)
  (HS:∀ f' r',f'<f→r'.length≤r.length→RowOk r'→20*r'.length+11≤f'→SCtr Tryz.prog 79 (stmtF f' d r') d r') :
  Calls Tryz.prog 49 #[.pointer (some ⟨g,0,none⟩),.slice (some ⟨e,0,none⟩) n n] w (Gv g V d w GotB (runF stop f d r [])):=by
 obtain ⟨R,hR⟩:∃ R:Res (List St),(runF stop f d r [])=R:=⟨_,rfl⟩;rw [hR];have HR:=qh hR;clear hR;have HL:=qh hl;have HF:=qh hf;have HST:=qh hst;have HSS:=qh HS;have E1:=qh hE;clear hl hf hst HS hE;have P1:=qh hP;have G1:=qh (gr_refl w (some g));have R1:=qh hr;have Z1:=qh (show g<w.heap.size from hP.lt);clear hP hr;have Z2:=qh (And.intro (show g<e from he1) Z1.out);have Z3:=qh (And.intro (show e<w.heap.size from he2) Z2.out);clear he1 he2;go_enter Tryz.func49,Tryz.ntmps49
 go_upto_region 2 with (fail)
 go_loopw [5] (fun v wr=>∃ (acc:List St) (H:List SH) (r':Sg) (fc:Nat),runF stop fc d r' acc=R∧fc≤f∧20*r'.length+12≤fc∧acc.length+r'.length≤r.length∧RowOk r'∧Par wr g r' V d∧RB tC1 1 wr (Nw e (e+1)) ⟨some ⟨e,0,none⟩,n,n⟩ ends∧Ow sC 19 49 wr w.heap.size v H∧StsB wr (Ny w.heap.size wr.heap.size [v]) acc H∧w.grownBy wr (some g)) (fun _ wr=>rowLen wr g)
 case atStart=>exact ⟨[],[],r,f,HR.out,Nat.le_refl _,HF.out,by simp,R1.out,P1.out,E1.out,Ow.nil _ _ _ _ _,StsB.nil,G1.out⟩
 case round=>
  obtain ⟨acc,H,r',fc,hR',hfc,hfu,hlen,hr',hP',hE',hO',hT',hG'⟩:=hrel;clear P1 G1 R1 HR E1;have P1:=qh hP';have O1:=qh hO';have OHD:=qh hO';have E1:=qh hE';have E2:=qh hT';have G1:=qh hG';have R1:=qh hr';have HLEN:=qh hlen;have HFU:=qh hfu;have HFC:=qh hfc;have ZS:=qh (And.intro hG'.size Z3.out);obtain ⟨f2,rfl⟩:∃ k,fc=k+1:=⟨fc-1,by omega⟩;rw [runF] at hR';have HR:=qh hR';clear hP' hO' hG' hr' hlen hE' hT' hfu hfc hR';have NLEN:=qh P1.out.len;have HA:=qh (head_any P1.out R1.out);have CA:=qh fun W (h:Rd tC1 1 W (e+1) (some ⟨e,0,none⟩) n n ends)=>contains_any ends (headS (tr.hd r')) h
  rw [HST.out r' R1.out] at CA;unfold sv at HA CA;generalize (⟨(headS (tr.hd r')).toArray⟩:ByteArray)=XH at *;obtain ⟨u,hu⟩:∃ u,stop r'=u:=⟨_,rfl⟩;rw [hu] at CA;go_wp2_with (go_at_call 72;fail)
  refine (HA.out).mono ?_;rintro e w4 ⟨rfl,hb⟩;have hg:=gr_of (row:=some wr.heap.size) hb;replace E1:=hrq hg ZS E1;have E202:=skq hg (qq ZS) (qq ZS) E2;clear E2;replace O1:=oqq hg ZS O1;replace P1:=pgq hg ZS P1;replace G1:=hgq hg G1 ZS;have Z206:=hzz hg ZS;clear hg hb;go_wp2_with (go_at_call 78;fail)
  refine (CA.out _ (RB.toAt (fun b hb=>hb.2) E1.out)).mono ?_;rintro e9 w5 ⟨rfl,rfl⟩;cases u
  ·skip
   have hq:=HR.out;rw [if_neg (by rw [hu];decide)] at hq;have HR207:=qh hq;clear hq HR;have SG:=qh (HSS.out f2 r' (by have:=HFC.out;omega) (by have:=HLEN.out;omega) R1.out (by have:=HFU.out;omega));have FI:=qh ((finS f2).2.1 d r' (by have:=HFU.out;omega));clear hu CA HA;go_wp2_with (go_at_call 79;fail)
   refine (SG.out _ _ _ P1.out).mono ?_;rintro e w6 hgv;rcases hp:stmtF f2 d r' with ⟨x1,r1⟩|⟨n9,t9⟩
   rotate_left
   ·rw [hp] at hgv
    obtain ⟨rfl,hg⟩:=hgv;have hq:=HR207.out;rw [hp] at hq;go_wp2;exact ⟨rfl,Gv.badOf hq.symm (gr_trans G1.out hg)⟩
   rw [hp] at hgv;obtain ⟨⟨v9,rfl,hG⟩,hP9,hr9,hg⟩:=hgv;have hq:=HR207.out;rw [hp] at hq;try rw [bind_okE] at hq
   have HR208:=qh hq;clear hq HR207;have P209:=qh hP9;have R210:=qh hr9;replace E1:=hrq hg Z206 E1;have E212:=skq hg (qq Z206) (qq Z206) E202;clear E202;replace O1:=oqq hg Z206 O1;clear P1;replace G1:=gtr G1 hg;have Z215:=hzz hg Z206;clear hg hP9 hr9 R1;have L1:Hid (r1.length<r'.length):=by
    have:=FI.out;rw [hp] at this;exact qh this
   obtain ⟨h1,rfl,hE9⟩:=hG;have E9:=qh hE9;clear FI hp SG hE9;have LM:=qh (show H.length+[h1].length≤60000 by have:=stsB_len E212.out;have:=HLEN.out;have:=HL.out;simp;omega);have Z216:=qh (And.intro (show w.heap.size≤w6.heap.size from (qq Z215)) Z215.out);go_wp2_with (first|((with_reducible refine m_slice1 (enc:=sC) (z:=19) h1 23 49 13 (.agg (sC h1).toArray) (sC h1).toArray ?_ ?_ ?_ (bs_S h1) ?_ ?_);rfl;rfl;rfl;rfl;intro w7 hrb hb1 hz1;have HRB:=qh hrb;have HB1:=qh hb1;have HZ1:=qh hz1;clear hrb hb1 hz1)|(at_builtin;refine wpList_append_row sC_len (by decide) sC_one stmts_slice stmt_info rfl (by decide) _ rfl (.tmp 11) (.tmp 14) rfl w.heap.size u5 H rfl (O1.out.under HB1.out) (w6.heap.size+1) (some ⟨w6.heap.size,0,none⟩) 1 1 [h1] rfl (RB.toAt (fun b hb=>hb.2) HRB.out) LM.out (Nat.le_trans Z216.out.1 HB1.out.size) ?_;intro v8 w8 hown hgA hat;have HOWN:=qh hown;have HGA:=qh hgA;have HAT:=qh hat;clear hown hgA hat))
   have hg:=gr_of (row:=some w6.heap.size) HB1.out;have Z217:=qh (And.intro HZ1.out Z216.out);have E218:=HRB;clear HZ1 HRB;replace E1:=hrq hg Z216 E1;have E220:=skq hg (qq Z216) (qq Z216) E212;clear E212;have E221:=qh (StB.kept (kept_nw hg (qq Z216) (qq Z216) (Nat.le_refl _) (Nat.le_refl _)) E9.out);clear E9;replace O1:=oqq hg Z216 O1;replace P209:=pgq hg Z216 P209;replace G1:=hgq hg G1 Z216;have Z225:=hzz hg Z217;clear hg HB1;obtain ⟨v227,hv8⟩:∃ x,x=v8:=⟨_,rfl⟩;subst hv8;obtain ⟨q9,hq1,hq2,hg⟩:=grow_q O1.out (qq Z225) HGA.out;have HQ2:=qh hq2;have Z228:=qh (And.intro hq1 Z225.out);have Z229:=qh (And.intro (show q9<wr.heap.size∨w7.heap.size≤q9 from hq2.imp (fun e=>(Ow.lt OHD.out e).2) id) Z228.out);clear hq1 hq2;have HOB230:=qh (show ∀ q0,v227.ownBlock=some q0→q0<wr.heap.size∨w7.heap.size≤q0 from fun q0 e0=>HAT.out.elim (fun h=>.inl (Ow.lt OHD.out (h.symm.trans e0)).2) (fun h=>.inr (by rw [h] at e0;injection e0 with e0;omega)));have E231:=qh (StsB.kept (kept_ny hg (HQ2.out.elim (fun e=>.inr (.inr ⟨u5,by simp,e⟩)) (fun h=>.inr (.inl (qq Z229)))) (qq Z229)) E220.out);have E232:=qh (StsB.kept (ny_ny (O:=[u5]) (O':=[v227]) (Nat.le_refl _) (Nat.le_refl _) (by
    intro v0 hv0 q0 e0 hq0;simp only [List.mem_cons,List.not_mem_nil,or_false] at hv0;subst hv0;rcases HAT.out with h|h
    ·exact ⟨_,by simp,h.symm.trans e0⟩
    ·rw [h] at e0;injection e0 with e0;exfalso;have z:=Z229.out;omega)) E231.out)
   clear E220 E231;replace E1:=hrq hg Z229 E1;have E234:=qh (StB.kept (kept_nw hg (qq Z229) (qq Z229) (Nat.le_refl _) (Nat.le_refl _)) E221.out);clear E221;replace E218:=hrq hg Z229 E218;replace P209:=pgq hg Z229 P209;replace G1:=hgq hg G1 Z229;have Z238:=hzz hg Z229;have O239:=HOWN;clear hg HOWN HGA HQ2 HAT O1;go_roundw
   case rel=>exact ⟨acc++[x1],_,r1,f2,HR208.out,(by have z:=Z238.out;have:=HFC.out;omega),(by have z:=Z238.out;have:=HFU.out;have:=L1.out;omega),(by have z:=Z238.out;have:=HLEN.out;have:=L1.out;simp only [List.length_append,List.length_cons,List.length_nil];omega),R210.out,P209.out,E1.out,O239.out,StsB.snoc (StB.kept (nw_ny (O:=[v227]) (qq Z238) (qq Z238) (by
    intro v0 hv0 q0 e0;simp only [List.mem_cons,List.not_mem_nil,or_false] at hv0;subst hv0;have h9:=HOB230.out q0 e0;have z:=Z238.out;omega)) E234.out) (StsB.kept (ny_ny (O:=[v227]) (O':=[v227]) (Nat.le_refl _) (qq Z238) (fun v hv q e hq=>⟨v,hv,e⟩)) E232.out),G1.out⟩
   case measure=>rw [NLEN.out,P209.out.len];have z:=Z238.out;have:=L1.out;omega
  ·skip
   have hq:=HR.out;rw [if_pos hu] at hq;have HR207:=qh hq;clear hq HR;obtain ⟨s9,hs9⟩:=Ow.sl sC_len O1.out;subst hs9;obtain ⟨A9,l9,c9⟩:=s9;go_wp2;go_ret
   exact Gv.okOf HR207.out.symm ⟨⟨A9,l9,c9⟩,rfl,H,rb_own sC_len O1.out (Nat.le_refl _) (Nat.le_refl _),(StsB.kept (ny_nw (qq Z206) (qq Z206)) E202.out)⟩ P1.out R1.out G1.out
end
def setLine:St→Int→St
 | .mk op nm dst val conds labels fields blocks _,ln=>.mk op nm dst val conds labels fields blocks ln
def GotW (s:Int→St) (w w':World) (v:Value):Prop:=(∀ ln,s ln=setLine (s 0) ln)∧GotS (s 0) w w' v
def WCtr (P:Program) (fn:FuncId) (p:Res (Int→St)) (d:Nat) (r:Sg):Prop:=∀ (V:Value) (g:Nat) (w:World),Par w g r V d→Calls P fn #[.pointer (some ⟨g,0,none⟩)] w (Gv g V d w GotW p)
def BCtr (P:Program) (fn:FuncId) (ends:List Str) (p:Res (List St)) (d:Nat) (r:Sg):Prop:=∀ (V:Value) (g:Nat) (w:World) (e:Nat),Par w g r V d→g<e→e<w.heap.size→RB tC1 1 w (Nw e (e+1)) ⟨some ⟨e,0,none⟩,ends.length,ends.length⟩ ends →
 Calls P fn #[.pointer (some ⟨g,0,none⟩),.slice (some ⟨e,0,none⟩) ends.length ends.length] w (Gv g V d w GotB p)
def wordsB (ends:List Str):Bool:=ends.all fun e=>e != nameS&&e != numS&&e != endS&&e != []
theorem stB_line {w:World} {S:Nat→Prop} {x:St} {h:SH} (hx:StB w S x h) (ln:Int):StB w S (setLine x ln) {h with line:=ln}:=by
 obtain ⟨op,nm,dst,val,conds,labels,fields,blocks,l0⟩:=x;unfold StB at hx
 show StB w S (.mk op nm dst val conds labels fields blocks ln) _
 unfold StB;exact ⟨hx.1,hx.2.1,rfl,hx.2.2.2⟩
theorem rb_many (w:World) (e:TypeId) (L:List Str) (cs:Array Value) (hc:cs.toList=L.map sv) {a b:Nat} (ha:a≤w.heap.size) (hb:w.heap.size+1≤b) (hl:L.length≤20:=by decide):RB tC1 1 (w.alloc (.cells cs e)) (Nw a b) ⟨some ⟨w.heap.size,0,none⟩,L.length,L.length⟩ L:=by
 refine ⟨rfl,Nat.le_refl _,by show L.length≤maxLen;unfold maxLen;omega,(fun h=>by cases h),fun _=>⟨_,0,rfl,⟨ha,by omega⟩,fun i u hu j v hv=>?_⟩⟩;have hj:j=0:=by
  have:=(List.getElem?_eq_some_iff.1 hv).1;rw [tC1_len] at this;omega
 subst hj;rw [World.cell?_alloc_mark];have hv:sv u=v:=by simpa [tC1] using hv
 have:cs[0+i*1+0]?=(L.map sv)[i]?:=by rw [←hc];simp
 rw [this,List.getElem?_map,hu,←hv];rfl
theorem bs_L (s:Sl) (w:World):(Instr.buildSlice 47 1 #[(0,s.v)]).run Tryz.prog w=.ok (.slice (some ⟨w.heap.size,0,none⟩) 1 1) (w.alloc (.cells (slC s).toArray 23)):=by kernel_rfl
theorem bd_val (o:Int) (h:EH) (w:World):(Instr.build 49 #[(0,.int .i64 o),(3,.agg (eC h).toArray)]).run Tryz.prog w=.ok (.agg (sC ⟨o,[],⟨0,0,[],[],⟨none,0,0⟩,0⟩,h,⟨none,0,0⟩,⟨none,0,0⟩,⟨none,0,0⟩,⟨none,0,0⟩,0⟩).toArray) w:=by kernel_rfl
theorem bd_set (o:Int) (h h':EH) (w:World):(Instr.build 49 #[(0,.int .i64 o),(2,.agg (eC h).toArray),(3,.agg (eC h').toArray)]).run Tryz.prog w=.ok (.agg (sC ⟨o,[],h,h',⟨none,0,0⟩,⟨none,0,0⟩,⟨none,0,0⟩,⟨none,0,0⟩,0⟩).toArray) w:=by kernel_rfl
def setsL (vs:List Value):Nat→List Value→List Value
 | _,[]=>vs
 | i,u::us=>setsL (vs.set i u) (i+1) us
theorem box_putsAt {g:Nat}:∀ (us:List Value) (i:Nat) (vs:List Value) (w:World),Box w g 0 vs→i+us.length≤vs.length→Box (k.puts w g i us) g 0 (setsL vs i us)
 | [],_,_,_,h,_=>h
 | u::us,i,vs,w,h,hl=>by
  rw [List.length_cons] at hl;exact box_putsAt us (i+1) _ _ (h.put i (by omega) u) (by rw [List.length_set];omega)
section
variable {P:Program} {ops:Array Oper} {rest:List Oper} {op:Oper} {a:Act} {w:World} {Q:Exit→Act→World→Prop}
theorem m_storeAt {g o:Nat} {vs:List Value} (hb:k.Box w g 0 vs) (T:TypeId) (t u:Nat) (ho:op.op=.store T (.tmp t) (.tmp u)) (hg:op.guard=none) (hd:op.dst=none) (cs:List Value) (hx:a.eval (.tmp t)=.pointer (some ⟨g,o,none⟩)) (hy:a.eval (.tmp u)=.agg cs.toArray)
  (hl:o+cs.length≤vs.length) (hi:(P.info? T).map (·.size)=some cs.length) (h1:∀ v∈cs,v.oneCell'=true)
  (h:∀ w',k.Box w' g 0 (setsL vs o cs)→w.grownBy w' (some g)→w'.heap.size=w.heap.size→wpList P ops Q rest a w'):wpList P ops Q (op::rest) a w:=by
 refine wpList_store_mid hg T (.tmp t) (.tmp u) ho g o cs.toArray hx hy ?_ (by rw [List.size_toArray];exact hi) (all_oneCell_toArray h1) ?_
 ·intro j hj
  rw [List.size_toArray] at hj;obtain ⟨v,hv⟩:∃ v,vs[o+j]?=some v:=⟨_,List.getElem?_eq_getElem (by omega)⟩;have:=cell_of hb hv;exact ⟨by rw [this.1];rfl,this.2⟩
 ·rw [hd]
  show wpList _ _ _ _ a (World.setCells _ _ _ cs)
  rw [k.setCells_puts];refine h _ (box_putsAt cs o vs w hb hl) (gr_puts cs o w) ?_;have:∀ (us:List Value) (o:Nat) (w:World),(k.puts w g o us).heap.size=w.heap.size:=by
   intro us;induction us with
   | nil=>intro o w;rfl
   | cons u us ih=>intro o w;exact (ih (o+1) _).trans (set_size _ _ _)
  exact this cs o w
theorem m_build2 (T i j:Nat) (x y:Operand) (X Y v:Value) (ho:op.op=.build T #[(i,x),(j,y)]) (hg:op.guard=none) (hx:a.eval x=X) (hy:a.eval y=Y) (hrun:∀ w,(Instr.build T #[(i,X),(j,Y)]).run P w=.ok v w)
  (h:wpList P ops Q rest (a.put op.dst v) w):wpList P ops Q (op::rest) a w:=by
 refine wpList_plain hg fun K hK=>?_
 unfold Oper.wp execOp;simp only [ho,List.map_toArray,List.map_cons,List.map_nil,hx,hy,hrun,Sem.run_bind,Result.andThen_ok];exact hK _ _ h
end
section
variable {r:Sg} {V:Value} {d g:Nat} {w:World}
theorem statement_any (hP:Par w g r V d) (hr:RowOk r) (hd:d≤32) (f:Nat) (HW:d<32→WCtr Tryz.prog 117 (whatF f (d+1) r) (d+1) r) :
  Calls Tryz.prog 79 #[.pointer (some ⟨g,0,none⟩)] w (Gv g V d w GotS (stmtF (f+1) d r)):=by
 obtain ⟨R,hR⟩:∃ R:Res St,(stmtF (f+1) d r)=R:=⟨_,rfl⟩;rw [hR];have HR:=qh hR;clear hR;have HWW:=qh HW;have f3:=tok_f3 (tr.hd r);clear HW;have P1:=qh hP;have G1:=qh (gr_refl w (some g));have R1:=qh hr;have Z1:=qh (show g<w.heap.size from hP.lt);clear hP hr;have hq:=HR.out;rw [stmtF] at hq;have HR2:=qh hq;clear hq HR;go_enter Tryz.func79,Tryz.ntmps79
 go_upto_region 1 with (fail)
 obtain ⟨hb,hx,hz⟩:=znew w #[.int .i64 0,.string ⟨#[]⟩,.int .i64 0,.int .i64 0,.string ⟨#[]⟩,.string ⟨#[]⟩,.slice none 0 0,.int .i64 0,.int .i64 0,.int .i64 0,.string ⟨#[]⟩,.string ⟨#[]⟩,.slice none 0 0,.int .i64 0,.slice none 0 0,.slice none 0 0,.slice none 0 0,.slice none 0 0,.int .i64 0] 49;generalize w.alloc (.cells #[.int .i64 0,.string ⟨#[]⟩,.int .i64 0,.int .i64 0,.string ⟨#[]⟩,.string ⟨#[]⟩,.slice none 0 0,.int .i64 0,.int .i64 0,.int .i64 0,.string ⟨#[]⟩,.string ⟨#[]⟩,.slice none 0 0,.int .i64 0,.slice none 0 0,.slice none 0 0,.slice none 0 0,.slice none 0 0,.int .i64 0] 49)=w4 at *;have hg:=gr_of (row:=some w.heap.size) hb;have Z3:=qh (And.intro hz Z1.out);have X4:=qh hx;clear hb hx hz;replace P1:=pgq hg Z1 P1;replace G1:=hgq hg G1 Z1;have Z7:=hzz hg Z3;clear hg;by_cases h32:d=32
 ·have hq:=HR2.out
  rw [if_pos (by omega)] at hq;go_wp2_with (go_at_call 116;fail)
  refine (enter_no P1.out R1.out h32).mono ?_;rintro e w5 ⟨rfl,hb⟩;go_wp2;exact ⟨rfl,Gv.badOf hq.symm (gr_trans G1.out (gr_of hb))⟩
 have hq:=HR2.out;rw [if_neg (by omega)] at hq;have HR8:=qh hq;clear hq HR2;go_wp2_with (go_at_call 116;fail)
 refine (enter_yes P1.out (by omega)).mono ?_;rintro e w5 ⟨rfl,hp,hg⟩;have P9:=qh hp;replace X4:=hbq hg Z7 X4;clear P1;replace G1:=gtr G1 hg;have Z12:=hzz hg Z7;clear hg hp;go_wp2_with (go_at_call 74;fail)
 refine (next_any P9.out R1.out).mono ?_;rintro e w6 ⟨rfl,hb⟩;have hg:=gr_of (row:=some w5.heap.size) hb;replace X4:=hbq hg Z12 X4;replace P9:=pgq hg Z12 P9;replace G1:=hgq hg G1 Z12;have Z16:=hzz hg Z12;clear hg hb;go_wp2_with (go_at_call 117;fail)
 refine (HWW.out (by omega) _ _ _ P9.out).mono ?_;rintro e w7 hgv;rcases hp:whatF f (d+1) r with ⟨x1,r1⟩|⟨n9,t9⟩
 rotate_left
 ·rw [hp] at hgv
  obtain ⟨rfl,hg⟩:=hgv;have hq:=HR8.out;rw [hp] at hq;go_wp2;exact ⟨rfl,Gv.badOf hq.symm (gr_trans G1.out hg)⟩
 rw [hp] at hgv;obtain ⟨⟨v9,rfl,hG⟩,hP9,hr9,hg⟩:=hgv;have hq:=HR8.out;rw [hp] at hq;try rw [bind_okE] at hq
 have HR17:=qh hq;clear hq HR8;have P18:=qh hP9;have R19:=qh hr9;replace X4:=hbq hg Z16 X4;clear P9;replace G1:=gtr G1 hg;have Z22:=hzz hg Z16;clear hg hP9 hr9 R1;obtain ⟨hlin,hG⟩:=hG;have HLIN:=qh hlin;clear hlin;obtain ⟨h23,rfl,hE9⟩:=hG;have E24:=qh hE9;clear hE9;go_upto_region 4 with ((with_reducible refine m_new 49 4 11 ?_ ?_ ?_ (sC h23) ?_ ?_ ?_ ?_ (sC_one _) ?_);rfl;rfl;rfl;rfl;rfl;rfl;kernel_rfl;intro w8 hx hb hz)
 have hg:=gr_of (row:=some w7.heap.size) hb;have Z26:=qh (And.intro hz Z22.out);have X27:=qh hx;clear hb hx hz;replace X4:=hbq hg Z22 X4;have E29:=qh (StB.kept (kept_nw hg (qq Z22) (qq Z22) (Nat.le_refl _) (Nat.le_refl _)) E24.out);clear E24;replace P18:=pgq hg Z22 P18;replace G1:=hgq hg G1 Z22;have Z32:=hzz hg Z26;clear hg;by_cases hs33:txt (r1)=[59]
 rotate_left
 ·have hq:=HR17.out
  rw [need_badE hs33] at hq;go_wp2_with (go_at_call 47;fail)
  refine (need_no P18.out R19.out (hnq R19 hs33)).mono ?_;rintro e w9 ⟨rfl,hb⟩;go_wp2;exact ⟨rfl,Gv.badOf hq.symm (gr_trans G1.out (gr_of hb))⟩
 have hq:=HR17.out;rw [need_okE hs33,bind_okE] at hq;have HR34:=qh hq;clear hq HR17;have R35:=qh (R19.out.drop (txt_kind hs33 (by decide)));go_wp2_with (go_at_call 47;fail)
 refine (need_yes P18.out R19.out (hyq R19 hs33)).mono ?_;rintro e w9 ⟨rfl,hp,hg⟩;have P36:=qh hp;replace X4:=hbq hg Z32 X4;replace X27:=hbq hg Z32 X27;have E39:=qh (StB.kept (kept_nw hg (qq Z32) (qq Z32) (Nat.le_refl _) (Nat.le_refl _)) E29.out);clear E29 P18;replace G1:=gtr G1 hg;have Z41:=hzz hg Z32;clear hg hp R19;generalize ((r1).drop 1)=r42 at *;go_wp2_with (go_at_call 118;fail)
 refine (leave_any P36.out (by omega)).mono ?_;rintro e w10 ⟨rfl,hp,hg⟩;have P43:=qh hp;replace X4:=hbq hg Z41 X4;replace X27:=hbq hg Z41 X27;have E46:=qh (StB.kept (kept_nw hg (qq Z41) (qq Z41) (Nat.le_refl _) (Nat.le_refl _)) E39.out);clear E39 P36;replace G1:=gtr G1 hg;have Z48:=hzz hg Z41;clear hg hp;have ⟨a18,k18⟩:=cell_of X27.out (i:=18) rfl;go_upto_region 7 with (fail)
 clear a18 k18;have hg:=gr_set w10 (w7.heap.size) 18 (.int .i64 (tr.hd r).line);have hx:Box (w10.setCell ⟨w7.heap.size,18,none⟩ (.int .i64 (tr.hd r).line)) (w7.heap.size) 0 (sC {h23 with line:=(tr.hd r).line}):=Box.put X27.out 18 (show 18<19 by decide) (.int .i64 (tr.hd r).line);have hs:(w10.setCell ⟨w7.heap.size,18,none⟩ (.int .i64 (tr.hd r).line)).heap.size=w10.heap.size:=set_size _ _ _;generalize w10.setCell ⟨w7.heap.size,18,none⟩ (.int .i64 (tr.hd r).line)=w11 at *;have X49:=qh hx;have Z50:=qh (And.intro hs Z48.out);clear hx hs X27;replace X4:=hbq hg Z48 X4;have E52:=qh (StB.kept (kept_nw hg (qq Z48) (qq Z48) (Nat.le_refl _) (Nat.le_refl _)) E46.out);clear E46;replace P43:=pgq hg Z48 P43;replace G1:=hgq hg G1 Z48;have Z55:=hzz hg Z50;clear hg;go_wp2_with (first|((with_reducible refine m_load X49.out 49 4 ?_ ?_ ?_ ?_ ?_ ?_);rfl;rfl;rfl;rfl;kernel_rfl)|((with_reducible refine m_store X4.out 49 2 18 ?_ ?_ ?_ (sC {h23 with line:=(tr.hd r).line}) ?_ ?_ ?_ ?_ (sC_one _) ?_);rfl;rfl;rfl;rfl;rfl;rfl;kernel_rfl;intro w12 hx hg hs))
 have X56:=qh hx;have Z57:=qh (And.intro hs Z55.out);clear hx hs X4;replace X49:=hbq hg Z55 X49;have E59:=qh (StB.kept (kept_nw hg (qq Z55) (qq Z55) (Nat.le_refl _) (Nat.le_refl _)) E52.out);clear E52;replace P43:=pgq hg Z55 P43;replace G1:=hgq hg G1 Z55;have Z62:=hzz hg Z57;clear hg;refine bodyPost_ret (k.results_cell rfl rfl (run_loadVar_mid _ w.heap.size 0 49 _ _ X56.out.range rfl rfl (by kernel_rfl))) rfl ?_;refine Gv.okOf HR34.out.symm ⟨{h23 with line:=(tr.hd r).line},rfl,?_⟩ P43.out R35.out G1.out;rw [HLIN.out];exact stB_line (StB.kept (more_nw (qq Z62) (qq Z62)) E59.out) _
theorem while_any (hP:Par w g r V d) (hr:RowOk r) (hd:d≤32) {f:Nat} (hf:20*r.length+12≤f) (HB:∀ ends r1,wordsB ends=true→RowOk r1→r1.length≤r.length→BCtr Tryz.prog 49 ends (stmtsF f d ends r1 []) d r1) :
  Calls Tryz.prog 146 #[.pointer (some ⟨g,0,none⟩)] w (Gv g V d w GotW ((expr f d r).bind fun x r'=>(need [68,79] r').bind fun _ r'=>(stmtsF f d [[69,78,68,95,87,72,73,76,69]] r' []).bind fun B r'=>(need [69,78,68,95,87,72,73,76,69] r').bind fun _ r'=>.ok (fun ln=>St.mk 5 [] zeroE x [] [] [] [B] ln) r')):=by
 obtain ⟨R,hR⟩:∃ R:Res (Int→St),((expr f d r).bind fun x r'=>(need [68,79] r').bind fun _ r'=>(stmtsF f d [[69,78,68,95,87,72,73,76,69]] r' []).bind fun B r'=>(need [69,78,68,95,87,72,73,76,69] r').bind fun _ r'=>.ok (fun ln=>St.mk 5 [] zeroE x [] [] [] [B] ln) r')=R:=⟨_,rfl⟩;rw [hR];have HR:=qh hR;clear hR;have HBB:=qh HB;have HF:=qh hf;clear HB hf;have P1:=qh hP;have G1:=qh (gr_refl w (some g));have R1:=qh hr;have Z1:=qh (show g<w.heap.size from hP.lt);clear hP hr;go_enter Tryz.func146,Tryz.ntmps146
 go_upto_region 1 with (fail)
 obtain ⟨hb,hx,hz⟩:=znew w #[.int .i64 0,.string ⟨#[]⟩,.int .i64 0,.int .i64 0,.string ⟨#[]⟩,.string ⟨#[]⟩,.slice none 0 0,.int .i64 0,.int .i64 0,.int .i64 0,.string ⟨#[]⟩,.string ⟨#[]⟩,.slice none 0 0,.int .i64 0,.slice none 0 0,.slice none 0 0,.slice none 0 0,.slice none 0 0,.int .i64 0] 49;generalize w.alloc (.cells #[.int .i64 0,.string ⟨#[]⟩,.int .i64 0,.int .i64 0,.string ⟨#[]⟩,.string ⟨#[]⟩,.slice none 0 0,.int .i64 0,.int .i64 0,.int .i64 0,.string ⟨#[]⟩,.string ⟨#[]⟩,.slice none 0 0,.int .i64 0,.slice none 0 0,.slice none 0 0,.slice none 0 0,.slice none 0 0,.int .i64 0] 49)=w4 at *;have hg:=gr_of (row:=some w.heap.size) hb;have Z2:=qh (And.intro hz Z1.out);have X3:=qh hx;clear hb hx hz;replace P1:=pgq hg Z1 P1;replace G1:=hgq hg G1 Z1;have Z6:=hzz hg Z2;clear hg;have FI:=qh (fin_expr (d:=d) (f:=f) (r:=r) (by have z:=Z6.out;have:=HF.out;omega));go_wp2_with (go_at_call 162;fail)
 refine (expr_gets (f:=f) (d:=d) hd R1.out (by have z:=Z6.out;have:=HF.out;omega) _ _ _ P1.out).mono ?_;rintro e w5 hgv;rcases hp:expr f d r with ⟨x1,r1⟩|⟨n9,t9⟩
 rotate_left
 ·rw [hp] at hgv
  obtain ⟨rfl,hg⟩:=hgv;have hq:=HR.out;rw [hp] at hq;go_wp2;exact ⟨rfl,Gv.badOf hq.symm (gr_trans G1.out hg)⟩
 rw [hp] at hgv;obtain ⟨⟨v9,rfl,hG⟩,hP9,hr9,hg⟩:=hgv;have hq:=HR.out;rw [hp] at hq;try rw [bind_okE] at hq
 have HR7:=qh hq;clear hq HR;have P8:=qh hP9;have R9:=qh hr9;replace X3:=hbq hg Z6 X3;clear P1;replace G1:=gtr G1 hg;have Z12:=hzz hg Z6;clear hg hP9 hr9 R1;obtain ⟨h13,rfl,hE9⟩:=hG;have E14:=qh hE9;clear hE9;have L16:Hid (r1.length<r.length):=by
  have:=FI.out;rw [hp] at this;exact qh this
 clear FI hp;have L17:=qh (show r1.length≤r.length by have:=L16.out;omega);go_upto_region 2 with (first|((with_reducible refine m_build2 49 0 3 (.const (.int .i64 5)) (.tmp 5) (.int .i64 5) (.agg (eC h13).toArray) (.agg (sC ⟨5,[],⟨0,0,[],[],⟨none,0,0⟩,0⟩,h13,⟨none,0,0⟩,⟨none,0,0⟩,⟨none,0,0⟩,⟨none,0,0⟩,0⟩).toArray) ?_ ?_ ?_ ?_ (bd_val 5 h13) ?_);rfl;rfl;rfl;rfl)|((with_reducible refine m_new 49 3 6 ?_ ?_ ?_ (sC ⟨5,[],⟨0,0,[],[],⟨none,0,0⟩,0⟩,h13,⟨none,0,0⟩,⟨none,0,0⟩,⟨none,0,0⟩,⟨none,0,0⟩,0⟩) ?_ ?_ ?_ ?_ (sC_one _) ?_);rfl;rfl;rfl;rfl;rfl;rfl;kernel_rfl;intro w6 hx hb hz))
 have hg:=gr_of (row:=some w5.heap.size) hb;have Z18:=qh (And.intro hz Z12.out);have X19:=qh hx;clear hb hx hz;replace X3:=hbq hg Z12 X3;replace E14:=heq hg Z12 E14;replace P8:=pgq hg Z12 P8;replace G1:=hgq hg G1 Z12;have Z24:=hzz hg Z18;clear hg;have L25:=qh (drop_len r1);by_cases hs26:txt (r1)=[68,79]
 rotate_left
 ·have hq:=HR7.out
  rw [need_badE hs26] at hq;go_wp2_with (go_at_call 47;fail)
  refine (need_no P8.out R9.out (hnq R9 hs26)).mono ?_;rintro e w7 ⟨rfl,hb⟩;go_wp2;exact ⟨rfl,Gv.badOf hq.symm (gr_trans G1.out (gr_of hb))⟩
 have hq:=HR7.out;rw [need_okE hs26,bind_okE] at hq;have HR27:=qh hq;clear hq HR7;have R28:=qh (R9.out.drop (txt_kind hs26 (by decide)));go_wp2_with (go_at_call 47;fail)
 refine (need_yes P8.out R9.out (hyq R9 hs26)).mono ?_;rintro e w7 ⟨rfl,hp,hg⟩;have P29:=qh hp;replace X3:=hbq hg Z24 X3;replace X19:=hbq hg Z24 X19;replace E14:=heq hg Z24 E14;clear P8;replace G1:=gtr G1 hg;have Z34:=hzz hg Z24;clear hg hp R9;generalize ((r1).drop 1)=r35 at *;have L36:=qh (show r35.length≤r.length by have:=L25.out;have:=L17.out;omega);have FI:=qh (fin_stmts (d:=d) (f:=f) (r:=r35) (ends:=[[69,78,68,95,87,72,73,76,69]]) (ac:=[]) (by have z:=Z34.out;have:=HF.out;have:=L36.out;omega));go_wp2_with (go_at_call 49;fail)
 have hb:=(Below.refl w7.heap.size w7).alloc (Nat.le_refl _) (.cells #[.string ⟨#[69,78,68,95,87,72,73,76,69]⟩] 9);have hR:RB tC1 1 (w7.alloc (.cells #[.string ⟨#[69,78,68,95,87,72,73,76,69]⟩] 9)) (Nw w7.heap.size (w7.heap.size+1)) ⟨some ⟨w7.heap.size,0,none⟩,1,1⟩ [[69,78,68,95,87,72,73,76,69]]:=rb_many w7 9 [[69,78,68,95,87,72,73,76,69]] #[.string ⟨#[69,78,68,95,87,72,73,76,69]⟩] rfl (Nat.le_refl _) (Nat.le_refl _);have hz:(w7.alloc (.cells #[.string ⟨#[69,78,68,95,87,72,73,76,69]⟩] 9)).heap.size=w7.heap.size+1:=by simp
 generalize w7.alloc (.cells #[.string ⟨#[69,78,68,95,87,72,73,76,69]⟩] 9)=w8 at *;have hg:=gr_of (row:=some w7.heap.size) hb;have HZ1:=qh hz;have HRB:=qh hR;clear hb hR hz;have Z37:=qh (And.intro HZ1.out Z34.out);have E38:=HRB;clear HZ1 HRB;replace X3:=hbq hg Z34 X3;replace X19:=hbq hg Z34 X19;replace E14:=heq hg Z34 E14;replace P29:=pgq hg Z34 P29;replace G1:=hgq hg G1 Z34;have Z44:=hzz hg Z37;clear hg;refine (HBB.out [[69,78,68,95,87,72,73,76,69]] r35 (by decide) R28.out L36.out _ _ _ _ P29.out (qq Z44) (qq Z44) E38.out).mono ?_;rintro e w9 hgv;rcases hp:stmtsF f d [[69,78,68,95,87,72,73,76,69]] r35 [] with ⟨B1,r2⟩|⟨n9,t9⟩
 rotate_left
 ·rw [hp] at hgv
  obtain ⟨rfl,hg⟩:=hgv;have hq:=HR27.out;rw [hp] at hq;go_wp2;exact ⟨rfl,Gv.badOf hq.symm (gr_trans G1.out hg)⟩
 rw [hp] at hgv;obtain ⟨⟨v9,rfl,hG⟩,hP9,hr9,hg⟩:=hgv;have hq:=HR27.out;rw [hp] at hq;try rw [bind_okE] at hq
 have HR46:=qh hq;clear hq HR27;have P47:=qh hP9;have R48:=qh hr9;replace X3:=hbq hg Z44 X3;replace X19:=hbq hg Z44 X19;replace E14:=heq hg Z44 E14;replace E38:=hrq hg Z44 E38;clear P29;replace G1:=gtr G1 hg;have Z54:=hzz hg Z44;clear hg hP9 hr9 R28;obtain ⟨s55,rfl,hE9⟩:=hG;have E56:=qh hE9;clear hE9 E38;have L58:Hid (r2.length<r35.length+1):=by
  have:=FI.out;rw [hp] at this;exact qh this
 clear FI hp;have L59:=qh (show r2.length≤r.length by have:=L58.out;have:=L36.out;omega);go_upto_region 4 with ((with_reducible refine m_slice1 (enc:=slC) (z:=1) s55 47 23 11 (Sl.v s55) (slC s55).toArray ?_ ?_ ?_ (bs_L s55) ?_ ?_);rfl;rfl;rfl;rfl;intro w10 hrb hb1 hz1;have HRB:=qh hrb;have HB1:=qh hb1;have HZ1:=qh hz1;have ⟨a17,k17⟩:=cell_of (X19.out.below hb1 (qq Z54)) (i:=17) rfl;clear hrb hb1 hz1)
 clear a17 k17;have hg:=gr_of (row:=some w9.heap.size) HB1.out;have Z60:=qh (And.intro HZ1.out Z54.out);have E61:=HRB;clear HZ1 HRB;replace X3:=hbq hg Z54 X3;replace X19:=hbq hg Z54 X19;replace E14:=heq hg Z54 E14;replace E56:=hsq hg Z54 E56;replace P47:=pgq hg Z54 P47;replace G1:=hgq hg G1 Z54;have Z68:=hzz hg Z60;clear hg HB1;have hg:=gr_set w10 (w5.heap.size) 17 (.slice (some ⟨w9.heap.size,0,none⟩) 1 1);have hx:Box (w10.setCell ⟨w5.heap.size,17,none⟩ (.slice (some ⟨w9.heap.size,0,none⟩) 1 1)) (w5.heap.size) 0 (sC ⟨5,[],⟨0,0,[],[],⟨none,0,0⟩,0⟩,h13,⟨none,0,0⟩,⟨none,0,0⟩,⟨none,0,0⟩,⟨some ⟨w9.heap.size,0,none⟩,1,1⟩,0⟩):=Box.put X19.out 17 (show 17<19 by decide) (.slice (some ⟨w9.heap.size,0,none⟩) 1 1);have hs:(w10.setCell ⟨w5.heap.size,17,none⟩ (.slice (some ⟨w9.heap.size,0,none⟩) 1 1)).heap.size=w10.heap.size:=set_size _ _ _;generalize w10.setCell ⟨w5.heap.size,17,none⟩ (.slice (some ⟨w9.heap.size,0,none⟩) 1 1)=w11 at *;have X70:=qh hx;have Z71:=qh (And.intro hs Z68.out);clear hx hs X19;replace X3:=hbq hg Z68 X3;replace E14:=heq hg Z68 E14;replace E56:=hsq hg Z68 E56;replace E61:=hrq hg Z68 E61;replace P47:=pgq hg Z68 P47;replace G1:=hgq hg G1 Z68;have Z78:=hzz hg Z71;clear hg;by_cases hs79:txt (r2)=[69,78,68,95,87,72,73,76,69]
 rotate_left
 ·have hq:=HR46.out
  rw [need_badE hs79] at hq;go_wp2_with (go_at_call 47;fail)
  refine (need_no P47.out R48.out (hnq R48 hs79)).mono ?_;rintro e w12 ⟨rfl,hb⟩;go_wp2;exact ⟨rfl,Gv.badOf hq.symm (gr_trans G1.out (gr_of hb))⟩
 have hq:=HR46.out;rw [need_okE hs79,bind_okE] at hq;have HR80:=qh hq;clear hq HR46;have R81:=qh (R48.out.drop (txt_kind hs79 (by decide)));go_wp2_with (go_at_call 47;fail)
 refine (need_yes P47.out R48.out (hyq R48 hs79)).mono ?_;rintro e w12 ⟨rfl,hp,hg⟩;have P82:=qh hp;replace X3:=hbq hg Z78 X3;replace X70:=hbq hg Z78 X70;replace E14:=heq hg Z78 E14;replace E56:=hsq hg Z78 E56;replace E61:=hrq hg Z78 E61;clear P47;replace G1:=gtr G1 hg;have Z89:=hzz hg Z78;clear hg hp R48;generalize ((r2).drop 1)=r90 at *;go_wp2_with (first|((with_reducible refine m_load X70.out 49 3 ?_ ?_ ?_ ?_ ?_ ?_);rfl;rfl;rfl;rfl;kernel_rfl)|((with_reducible refine m_store X3.out 49 2 16 ?_ ?_ ?_ (sC ⟨5,[],⟨0,0,[],[],⟨none,0,0⟩,0⟩,h13,⟨none,0,0⟩,⟨none,0,0⟩,⟨none,0,0⟩,⟨some ⟨w9.heap.size,0,none⟩,1,1⟩,0⟩) ?_ ?_ ?_ ?_ (sC_one _) ?_);rfl;rfl;rfl;rfl;rfl;rfl;kernel_rfl;intro w13 hx hg hs))
 have X91:=qh hx;have Z92:=qh (And.intro hs Z89.out);clear hx hs X3;replace X70:=hbq hg Z89 X70;replace E14:=heq hg Z89 E14;replace E56:=hsq hg Z89 E56;replace E61:=hrq hg Z89 E61;replace P82:=pgq hg Z89 P82;replace G1:=hgq hg G1 Z89;have Z99:=hzz hg Z92;clear hg;refine bodyPost_ret (k.results_cell rfl rfl (run_loadVar_mid _ w.heap.size 0 49 _ _ X91.out.range rfl rfl (by kernel_rfl))) rfl ?_;refine Gv.okOf HR80.out.symm ⟨fun _=>rfl,⟨5,[],⟨0,0,[],[],⟨none,0,0⟩,0⟩,h13,⟨none,0,0⟩,⟨none,0,0⟩,⟨none,0,0⟩,⟨some ⟨w9.heap.size,0,none⟩,1,1⟩,0⟩,rfl,?_⟩ P82.out R81.out G1.out;unfold StB;exact ⟨rfl,rfl,rfl,zeroE_B _ _,(ExB.kept (more_nw (qq Z99) (qq Z99)) E14.out),ExLB.none_ _ _,⟨[],RB.none_ _ _ _ _,rfl⟩,RB.none_ _ _ _ _,[s55],(RB.kept (more_nw (qq Z99) (qq Z99)) E61.out),BlksB.snoc (StLB.kept (more_nw (qq Z99) (qq Z99)) E56.out) BlksB.nil⟩
theorem repeat_any (hP:Par w g r V d) (hr:RowOk r) (hd:d≤32) {f:Nat} (hf:20*r.length+12≤f) (HB:∀ ends r1,wordsB ends=true→RowOk r1→r1.length≤r.length→BCtr Tryz.prog 49 ends (stmtsF f d ends r1 []) d r1) :
  Calls Tryz.prog 147 #[.pointer (some ⟨g,0,none⟩)] w (Gv g V d w GotW ((stmtsF f d [[85,78,84,73,76]] r []).bind fun B r'=>(need [85,78,84,73,76] r').bind fun _ r'=>(expr f d r').bind fun x r'=>(need [69,78,68,95,82,69,80,69,65,84] r').bind fun _ r'=>.ok (fun ln=>St.mk 6 [] zeroE x [] [] [] [B] ln) r')):=by
 obtain ⟨R,hR⟩:∃ R:Res (Int→St),((stmtsF f d [[85,78,84,73,76]] r []).bind fun B r'=>(need [85,78,84,73,76] r').bind fun _ r'=>(expr f d r').bind fun x r'=>(need [69,78,68,95,82,69,80,69,65,84] r').bind fun _ r'=>.ok (fun ln=>St.mk 6 [] zeroE x [] [] [] [B] ln) r')=R:=⟨_,rfl⟩;rw [hR];have HR:=qh hR;clear hR;have HBB:=qh HB;have HF:=qh hf;clear HB hf;have P1:=qh hP;have G1:=qh (gr_refl w (some g));have R1:=qh hr;have Z1:=qh (show g<w.heap.size from hP.lt);clear hP hr;go_enter Tryz.func147,Tryz.ntmps147
 go_upto_region 1 with (fail)
 obtain ⟨hb,hx,hz⟩:=znew w #[.int .i64 0,.string ⟨#[]⟩,.int .i64 0,.int .i64 0,.string ⟨#[]⟩,.string ⟨#[]⟩,.slice none 0 0,.int .i64 0,.int .i64 0,.int .i64 0,.string ⟨#[]⟩,.string ⟨#[]⟩,.slice none 0 0,.int .i64 0,.slice none 0 0,.slice none 0 0,.slice none 0 0,.slice none 0 0,.int .i64 0] 49;generalize w.alloc (.cells #[.int .i64 0,.string ⟨#[]⟩,.int .i64 0,.int .i64 0,.string ⟨#[]⟩,.string ⟨#[]⟩,.slice none 0 0,.int .i64 0,.int .i64 0,.int .i64 0,.string ⟨#[]⟩,.string ⟨#[]⟩,.slice none 0 0,.int .i64 0,.slice none 0 0,.slice none 0 0,.slice none 0 0,.slice none 0 0,.int .i64 0] 49)=w4 at *;have hg:=gr_of (row:=some w.heap.size) hb;have Z2:=qh (And.intro hz Z1.out);have X3:=qh hx;clear hb hx hz;replace P1:=pgq hg Z1 P1;replace G1:=hgq hg G1 Z1;have Z6:=hzz hg Z2;clear hg;have FI:=qh (fin_stmts (d:=d) (f:=f) (r:=r) (ends:=[[85,78,84,73,76]]) (ac:=[]) (by have z:=Z6.out;have:=HF.out;omega));go_wp2_with (go_at_call 49;fail)
 have hb:=(Below.refl w4.heap.size w4).alloc (Nat.le_refl _) (.cells #[.string ⟨#[85,78,84,73,76]⟩] 9);have hR:RB tC1 1 (w4.alloc (.cells #[.string ⟨#[85,78,84,73,76]⟩] 9)) (Nw w4.heap.size (w4.heap.size+1)) ⟨some ⟨w4.heap.size,0,none⟩,1,1⟩ [[85,78,84,73,76]]:=rb_many w4 9 [[85,78,84,73,76]] #[.string ⟨#[85,78,84,73,76]⟩] rfl (Nat.le_refl _) (Nat.le_refl _);have hz:(w4.alloc (.cells #[.string ⟨#[85,78,84,73,76]⟩] 9)).heap.size=w4.heap.size+1:=by simp
 generalize w4.alloc (.cells #[.string ⟨#[85,78,84,73,76]⟩] 9)=w5 at *;have hg:=gr_of (row:=some w4.heap.size) hb;have HZ1:=qh hz;have HRB:=qh hR;clear hb hR hz;have Z7:=qh (And.intro HZ1.out Z6.out);have E8:=HRB;clear HZ1 HRB;replace X3:=hbq hg Z6 X3;replace P1:=pgq hg Z6 P1;replace G1:=hgq hg G1 Z6;have Z12:=hzz hg Z7;clear hg;refine (HBB.out [[85,78,84,73,76]] r (by decide) R1.out (Nat.le_refl _) _ _ _ _ P1.out (qq Z12) (qq Z12) E8.out).mono ?_;rintro e w6 hgv;rcases hp:stmtsF f d [[85,78,84,73,76]] r [] with ⟨B1,r1⟩|⟨n9,t9⟩
 rotate_left
 ·rw [hp] at hgv
  obtain ⟨rfl,hg⟩:=hgv;have hq:=HR.out;rw [hp] at hq;go_wp2;exact ⟨rfl,Gv.badOf hq.symm (gr_trans G1.out hg)⟩
 rw [hp] at hgv;obtain ⟨⟨v9,rfl,hG⟩,hP9,hr9,hg⟩:=hgv;have hq:=HR.out;rw [hp] at hq;try rw [bind_okE] at hq
 have HR14:=qh hq;clear hq HR;have P15:=qh hP9;have R16:=qh hr9;replace X3:=hbq hg Z12 X3;replace E8:=hrq hg Z12 E8;clear P1;replace G1:=gtr G1 hg;have Z20:=hzz hg Z12;clear hg hP9 hr9 R1;obtain ⟨s21,rfl,hE9⟩:=hG;have E22:=qh hE9;clear hE9 E8;have L24:Hid (r1.length<r.length+1):=by
  have:=FI.out;rw [hp] at this;exact qh this
 clear FI hp;have L25:=qh (show r1.length≤r.length by have:=L24.out;omega);go_upto_region 2 with (first|((with_reducible refine m_slice1 (enc:=slC) (z:=1) s21 47 23 6 (Sl.v s21) (slC s21).toArray ?_ ?_ ?_ (bs_L s21) ?_ ?_);rfl;rfl;rfl;rfl;intro w7 hrb hb1 hz1;have HRB:=qh hrb;have HB1:=qh hb1;have HZ1:=qh hz1;clear hrb hb1 hz1)|((with_reducible refine m_new 49 3 8 ?_ ?_ ?_ (sC ⟨6,[],⟨0,0,[],[],⟨none,0,0⟩,0⟩,⟨0,0,[],[],⟨none,0,0⟩,0⟩,⟨none,0,0⟩,⟨none,0,0⟩,⟨none,0,0⟩,⟨some ⟨w6.heap.size,0,none⟩,1,1⟩,0⟩) ?_ ?_ ?_ ?_ (sC_one _) ?_);rfl;rfl;rfl;rfl;rfl;rfl;kernel_rfl;intro w8 hx hb hz))
 have HX9:=qh hx;have HB9:=qh hb;have HZ9:=qh hz;clear hx hb hz;have hg:=gr_of (row:=some w6.heap.size) HB1.out;have Z26:=qh (And.intro HZ1.out Z20.out);have E27:=HRB;clear HZ1 HRB;replace X3:=hbq hg Z20 X3;replace E22:=hsq hg Z20 E22;replace P15:=pgq hg Z20 P15;replace G1:=hgq hg G1 Z20;have Z32:=hzz hg Z26;clear hg HB1;have hx:=HX9.out;have hb:=HB9.out;have hz:=HZ9.out;clear HX9 HB9 HZ9;have hg:=gr_of (row:=some w7.heap.size) hb;have Z34:=qh (And.intro hz Z32.out);have X35:=qh hx;clear hb hx hz;replace X3:=hbq hg Z32 X3;replace E22:=hsq hg Z32 E22;replace E27:=hrq hg Z32 E27;replace P15:=pgq hg Z32 P15;replace G1:=hgq hg G1 Z32;have Z41:=hzz hg Z34;clear hg;have L42:=qh (drop_len r1);by_cases hs43:txt (r1)=[85,78,84,73,76]
 rotate_left
 ·have hq:=HR14.out
  rw [need_badE hs43] at hq;go_wp2_with (go_at_call 47;fail)
  refine (need_no P15.out R16.out (hnq R16 hs43)).mono ?_;rintro e w9 ⟨rfl,hb⟩;go_wp2;exact ⟨rfl,Gv.badOf hq.symm (gr_trans G1.out (gr_of hb))⟩
 have hq:=HR14.out;rw [need_okE hs43,bind_okE] at hq;have HR44:=qh hq;clear hq HR14;have R45:=qh (R16.out.drop (txt_kind hs43 (by decide)));go_wp2_with (go_at_call 47;fail)
 refine (need_yes P15.out R16.out (hyq R16 hs43)).mono ?_;rintro e w9 ⟨rfl,hp,hg⟩;have P46:=qh hp;replace X3:=hbq hg Z41 X3;replace X35:=hbq hg Z41 X35;replace E22:=hsq hg Z41 E22;replace E27:=hrq hg Z41 E27;clear P15;replace G1:=gtr G1 hg;have Z52:=hzz hg Z41;clear hg hp R16;generalize ((r1).drop 1)=r53 at *;have L54:=qh (show r53.length≤r.length by have:=L42.out;have:=L25.out;omega);have FI:=qh (fin_expr (d:=d) (f:=f) (r:=r53) (by have z:=Z52.out;have:=HF.out;have:=L54.out;omega));go_wp2_with (go_at_call 162;fail)
 refine (expr_gets (f:=f) (d:=d) hd R45.out (by have z:=Z52.out;have:=HF.out;have:=L54.out;omega) _ _ _ P46.out).mono ?_;rintro e w10 hgv;rcases hp:expr f d r53 with ⟨x1,r2⟩|⟨n9,t9⟩
 rotate_left
 ·rw [hp] at hgv
  obtain ⟨rfl,hg⟩:=hgv;have hq:=HR44.out;rw [hp] at hq;go_wp2;exact ⟨rfl,Gv.badOf hq.symm (gr_trans G1.out hg)⟩
 rw [hp] at hgv;obtain ⟨⟨v9,rfl,hG⟩,hP9,hr9,hg⟩:=hgv;have hq:=HR44.out;rw [hp] at hq;try rw [bind_okE] at hq
 have HR55:=qh hq;clear hq HR44;have P56:=qh hP9;have R57:=qh hr9;replace X3:=hbq hg Z52 X3;replace X35:=hbq hg Z52 X35;replace E22:=hsq hg Z52 E22;replace E27:=hrq hg Z52 E27;clear P46;replace G1:=gtr G1 hg;have Z63:=hzz hg Z52;clear hg hP9 hr9 R45;obtain ⟨h64,rfl,hE9⟩:=hG;have E65:=qh hE9;clear hE9;have L67:Hid (r2.length<r53.length):=by
  have:=FI.out;rw [hp] at this;exact qh this
 clear FI hp;have L68:=qh (show r2.length≤r.length by have:=L67.out;have:=L54.out;omega);go_upto_region 4 with ((with_reducible refine m_storeAt (o:=8) X35.out 44 13 12 ?_ ?_ ?_ (eC h64) ?_ ?_ ?_ ?_ (eC_one _) ?_);rfl;rfl;rfl;rfl;rfl;(show 8+6≤19;decide);kernel_rfl;intro w11 hx hg hs)
 have hx:Box w11 (w7.heap.size) 0 (sC ⟨6,[],⟨0,0,[],[],⟨none,0,0⟩,0⟩,h64,⟨none,0,0⟩,⟨none,0,0⟩,⟨none,0,0⟩,⟨some ⟨w6.heap.size,0,none⟩,1,1⟩,0⟩):=hx;have X69:=qh hx;have Z70:=qh (And.intro hs Z63.out);clear hx hs X35;replace X3:=hbq hg Z63 X3;replace E22:=hsq hg Z63 E22;replace E27:=hrq hg Z63 E27;replace E65:=heq hg Z63 E65;replace P56:=pgq hg Z63 P56;replace G1:=hgq hg G1 Z63;have Z77:=hzz hg Z70;clear hg;by_cases hs78:txt (r2)=[69,78,68,95,82,69,80,69,65,84]
 rotate_left
 ·have hq:=HR55.out
  rw [need_badE hs78] at hq;go_wp2_with (go_at_call 47;fail)
  refine (need_no P56.out R57.out (hnq R57 hs78)).mono ?_;rintro e w12 ⟨rfl,hb⟩;go_wp2;exact ⟨rfl,Gv.badOf hq.symm (gr_trans G1.out (gr_of hb))⟩
 have hq:=HR55.out;rw [need_okE hs78,bind_okE] at hq;have HR79:=qh hq;clear hq HR55;have R80:=qh (R57.out.drop (txt_kind hs78 (by decide)));go_wp2_with (go_at_call 47;fail)
 refine (need_yes P56.out R57.out (hyq R57 hs78)).mono ?_;rintro e w12 ⟨rfl,hp,hg⟩;have P81:=qh hp;replace X3:=hbq hg Z77 X3;replace X69:=hbq hg Z77 X69;replace E22:=hsq hg Z77 E22;replace E27:=hrq hg Z77 E27;replace E65:=heq hg Z77 E65;clear P56;replace G1:=gtr G1 hg;have Z88:=hzz hg Z77;clear hg hp R57;generalize ((r2).drop 1)=r89 at *;go_wp2_with (first|((with_reducible refine m_load X69.out 49 3 ?_ ?_ ?_ ?_ ?_ ?_);rfl;rfl;rfl;rfl;kernel_rfl)|((with_reducible refine m_store X3.out 49 2 16 ?_ ?_ ?_ (sC ⟨6,[],⟨0,0,[],[],⟨none,0,0⟩,0⟩,h64,⟨none,0,0⟩,⟨none,0,0⟩,⟨none,0,0⟩,⟨some ⟨w6.heap.size,0,none⟩,1,1⟩,0⟩) ?_ ?_ ?_ ?_ (sC_one _) ?_);rfl;rfl;rfl;rfl;rfl;rfl;kernel_rfl;intro w13 hx hg hs))
 have X90:=qh hx;have Z91:=qh (And.intro hs Z88.out);clear hx hs X3;replace X69:=hbq hg Z88 X69;replace E22:=hsq hg Z88 E22;replace E27:=hrq hg Z88 E27;replace E65:=heq hg Z88 E65;replace P81:=pgq hg Z88 P81;replace G1:=hgq hg G1 Z88;have Z98:=hzz hg Z91;clear hg;refine bodyPost_ret (k.results_cell rfl rfl (run_loadVar_mid _ w.heap.size 0 49 _ _ X90.out.range rfl rfl (by kernel_rfl))) rfl ?_;refine Gv.okOf HR79.out.symm ⟨fun _=>rfl,⟨6,[],⟨0,0,[],[],⟨none,0,0⟩,0⟩,h64,⟨none,0,0⟩,⟨none,0,0⟩,⟨none,0,0⟩,⟨some ⟨w6.heap.size,0,none⟩,1,1⟩,0⟩,rfl,?_⟩ P81.out R80.out G1.out;unfold StB;exact ⟨rfl,rfl,rfl,zeroE_B _ _,(ExB.kept (more_nw (qq Z98) (qq Z98)) E65.out),ExLB.none_ _ _,⟨[],RB.none_ _ _ _ _,rfl⟩,RB.none_ _ _ _ _,[s21],(RB.kept (more_nw (qq Z98) (qq Z98)) E27.out),BlksB.snoc (StLB.kept (more_nw (qq Z98) (qq Z98)) E22.out) BlksB.nil⟩
end
end tr
end Go.Proofs.YtdefgghhkknnpaaGreatDoor

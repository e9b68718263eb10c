/- The landed writer's program, and Show. Conditions: the library's variable MaxLen holds some number, its table of powers of ten lies as it lays it; the program has at most 2^40 parts, its numbers are numbers of 64 bits, its text has at most 2^47 bytes. The fixed answer of the layer show's laws: it is true; what was in memory is as it was. Conditions: the library's variable MaxLen holds some number, its table of powers of ten lies as it lays it. The document's words for a name: the given functions of names. No condition. The document's words for numbers and shapes: the given functions of them. No condition. The document's words for expressions: the given function of them. No condition. How many parts expressions have and how deep they are, as the document's given function counts, with its stop. Condition: at most 2^40 parts. How many parts statements have and how deep they are, as the document's given function counts, with its stop. No condition. What makes a statement right, as the document's given function asks it. No condition. A row of one expression, made under a guard. No condition beyond what each line says. What memory can hold of a statement. No condition. An element of a row that is a value: the signs of two. No condition. The document's text of an expression: the given function of it. Conditions: an expression such as a text could give; its text has at most 2^47 bytes. The given function's rows of statements, over what a statement gives. Conditions: statements such as a text could give; their text has at most 2^47 bytes. The count of statements' parts: the given function of it. Condition: at most 2^40 parts. How many parts a program has, whether it is short: the given functions. Condition: at most 2^40 parts. Texts made of blanks and signs, and what the lexer gives of them, but for places. No condition. Names, words and signs as they stand in a text. No condition but what may follow them. Numbers as they stand in a text. No condition but what may follow them. An expression's text as blanks and signs. Condition: an expression such as a text could give. An expression's text: each of its signs stands as it is. Condition: an expression such as a text could give. A statement's and a program's text as blanks and signs. No condition. Labels, arguments, IF and CASE parts: each sign of their text stands as it is. Conditions: as each line says. Statements: each sign of their text stands as it is. Condition: statements such as a text could give. -/
import Derived.Test.YtdefgghhkknnpaaGreatDoorB06
import Derived.Deep.CutBlock
set_option linter.unusedVariables false
set_option linter.unusedSimpArgs false
set_option maxRecDepth 100000
set_option maxHeartbeats 40000000
namespace Go.Proofs.YtdefgghhkknnpaaGreatDoor
namespace sh
open ChangeShapes WideShapes ChangeAt RowKit k rr tk tr
def inP (p:Pg):Prop:=(∀ v∈p.vars,InI v.init)∧inSs p.body
theorem vas_at {L:List Va} {q:Nat} {x:Va} (h:L[q]?=some x):vasS (L.drop q)=vaS x++vasS (L.drop (q+1)):=by rw [drop_at h,vasS]
theorem laid_lt {w:World} (h:Laid w):0<w.heap.size:=by
 unfold Laid Lib.TabIs World.var? at h;rw [gPow] at h;simp only [Option.bind_some] at h;rcases Nat.lt_or_ge 0 w.heap.size with h'|h'
 ·exact h'
 ·rw [Array.getElem?_eq_none h'] at h;simp at h
theorem program_any {p:Pg} {h:GH} {B g:Nat} {l:Str} {w:World} (hK:Wx B g l w) (hp:PgAt w B p h) (hv:p.vars.all vaB=true) (hb:stsB p.body=true) (hin:inP p) (hlen:l.length+(pgS p).length≤lim) :
  Calls Tryz.prog 15 #[.pointer (some ⟨g,0,none⟩),.agg (gC h).toArray] w (Put B g l (pgS p) w):=by
 obtain ⟨h1,h2,h3⟩:=hp;obtain ⟨nm,⟨A1,n,c1⟩,⟨A2,n2,c2⟩⟩:=h;simp only at h1 h2 h3;subst h1;have hR:Rd vC 8 w B A1 n c1 p.vars:=h2;have hn:=hR.1;have hnl:=hR.len_le;obtain ⟨T,hT⟩:∃ T,pgS p=T:=⟨_,rfl⟩;rw [hT] at hlen ⊢;have hT2:[80,82,79,71,82,65,77,32]++p.name++[10]++vasS p.vars++stsS p.body++[69,78,68,95,80,82,79,71,82,65,77,10]=T:=hT;have hl2:=hlen;rw [←hT2] at hl2;simp only [List.length_append,List.length_cons,List.length_nil] at hl2;obtain ⟨w1,e1,K1,H1,F1,ng⟩:=hK.box (gC ⟨p.name,⟨A1,n,c1⟩,⟨A2,n2,c2⟩⟩) 25;have BX:=qh fun W (hf:Fr B g w W) (l':Str) (hk:Wx B g l' W) hl=>block_any hb hin.2 hk (h3.below hf.1 (Nat.le_refl _)) (l:=l') hl
 have VB:=qh fun (q:Nat) (x:Va) (hq:p.vars[q]?=some x)=>(show vaB x=true∧InI x.init from by
  have hm:=List.mem_of_getElem? hq;rw [List.all_eq_true] at hv;exact ⟨hv x hm,hin.1 x hm⟩)
 have HR:=qh hR;have HN:=qh hn;have HT:=qh hT2;have HL:=qh hl2;have NG:=qh ng;have K1:=qh K1;have H1:=qh H1;have F1:=qh F1;clear hK hv hb hin hlen h2 h3 hR hn hT hT2 hl2 ng;simp only [Sl.v] at BX;go_enter Tryz.func15,Tryz.ntmps15
 go_upto_region 1 with (fail)
 subst e1;generalize w.alloc (.cells (gC ⟨p.name,⟨A1,n,c1⟩,⟨A2,n2,c2⟩⟩).toArray 25)=w1 at *;have ⟨c0,_,_,_,_,_,_⟩:=H1.out.box;simp only [sv] at c0;go_wp2_with (go_at_call 35;fail)
 refine (put_new [[80,82,79,71,82,65,77,32],p.name,[10]] (t:=[80,82,79,71,82,65,77,32]++p.name++[10]) (by simp) K1.out (by simp) (by have:=HL.out;simp only [List.length_append,List.length_cons,List.length_nil];omega)).mono ?_;rintro e w2 ⟨rfl,k9,f9⟩;have K2:=qh k9;have F2:=qh f9;clear k9 f9 K1 c0;have h2:=H1.out.fr F2.out NG.out (by decide);have ⟨_,_,c1',_,_,_,_⟩:=h2.box;simp only [Sl.v] at c1';clear h2;go_upto_region 3 with (fail)
 clear c1';go_loopw [14] (fun s14 wr=>∃ (q:Nat) (t1:Str),q≤n∧s14=.int .i64 q∧t1++vasS (p.vars.drop q)++stsS p.body++[69,78,68,95,80,82,79,71,82,65,77,10]=T∧Wx B g (l++t1) wr∧Fr B g w1 wr) (fun i _=>n-(intOf i).toNat)
 case atStart=>exact ⟨0,[80,82,79,71,82,65,77,32]++p.name++[10],Nat.zero_le _,rfl,by rw [List.drop_zero];exact HT.out,K2.out,F2.out⟩
 case round=>
  obtain ⟨q,t1,hq,rfl,ht,hk,hf⟩:=hrel;by_cases hlt:q<n
  rotate_left
  ·obtain rfl:q=n:=by omega
   have hz:¬ (q:Int)<q:=by omega
   rw [List.drop_of_length_le (by have:=HN.out;omega),vasS,List.append_nil] at ht;have hlt2:l.length+t1.length+(stsS p.body).length+12≤lim:=by
    have h1:=HL.out;have h2:=congrArg List.length (ht.trans HT.out.symm);simp only [List.length_append,List.length_cons,List.length_nil] at h2;omega
   have HTT:=qh ht;have HLT:=qh hlt2;have FF:=qh (F1.out.trans hf);have KK:=qh hk;have ⟨_,_,_,_,c2',_,_⟩:=(H1.out.fr hf NG.out (by decide)).box;simp only [Sl.v] at c2';clear hk hf ht hlt2;go_wp2_with (go_at_call 38;fail)
   refine (BX.out _ FF.out _ KK.out (by have:=HLT.out;simp only [List.length_append];omega)).mono ?_;rintro e w3 ⟨rfl,k9,f9⟩;have K3:=qh k9;have F3:=qh (FF.out.trans f9);clear k9 f9 FF KK c2';go_wp2_with (go_at_call 35;fail)
   refine (put_new [[69,78,68,95,80,82,79,71,82,65,77,10]] (t:=[69,78,68,95,80,82,79,71,82,65,77,10]) rfl K3.out (by decide) (by have:=HLT.out;simp only [List.length_append,List.length_cons,List.length_nil];omega)).mono ?_;rintro e w4 ⟨rfl,k9,f9⟩;have K4:=qh (show Wx B g (l++T) w4 by rw [←HTT.out];simpa only [List.append_assoc] using k9);have F4:=qh (F3.out.trans f9);clear k9 f9 K3 F3;go_wp2_with fail
   go_end0
   exact ⟨rfl,K4.out,F4.out⟩
  have r1:Rd vC 8 wr B A1 n c1 p.vars:=HR.out.below (F1.out.trans hf).1;obtain ⟨b1,o1,x,rfl,hb1,hp,hc1⟩:=r1.at hlt;obtain ⟨hxb,hxi⟩:=VB.out q x hp;rw [vas_at hp] at ht;have ht2:(t1++vaS x)++vasS (p.vars.drop (q+1))++stsS p.body++[69,78,68,95,80,82,79,71,82,65,77,10]=T:=by
   rw [←ht];simp only [List.append_assoc]
  have hlT:l.length+t1.length+(vaS x).length≤lim:=by
   have h1:=HL.out;have h2:=congrArg List.length (ht2.trans HT.out.symm);simp only [List.length_append,List.length_cons,List.length_nil] at h2;omega
  have hva:vaS x=(secS x.sect++[10])++(x.name++[32,58,32]++typeS x++[59,10])++[69,78,68,95,86,65,82,10]:=rfl;rw [hva] at hlT;simp only [List.length_append,List.length_cons,List.length_nil] at hlT;have w1':=nat_step q (by omega);have hci:=qh hc1;have KK:=qh hk;have FF:=qh hf;have HT2:=qh ht2;have HLX:=qh hlT;have LT:=qh hlt;have HVA:=qh hva;have W1:=qh w1';have TB:=qh (show typeB x=true by
   unfold vaB at hxb;simp only [Bool.and_eq_true] at hxb;exact hxb.2.2)
  have TI:=qh hxi;have NGX:=qh (show wr.heap.size≠g by have:=hk.wr.lt;omega);clear hc1 hk hf hxb hxi ht ht2 hlT r1 hp hb1 hva w1';go_upto_region 5 with (first|((with_reducible refine m_loadR hci.out 60 16 ?_ ?_ ?_ ?_ ?_ ?_);rfl;rfl;rfl;rfl;kernel_rfl)|((with_reducible refine m_newH 60 5 17 ?_ ?_ ?_ (vC x) ?_ ?_ ?_ ?_ (vC_one _) ?_);rfl;rfl;rfl;rfl;rfl;rfl;kernel_rfl;intro w4 hx hb hz))
  have X4:=qh hx;have K4:=qh (KK.out.below hb);have F4:=qh (FF.out.trans (Fr.of hb KK.out.le));clear hx hb hz hci KK FF hlt;have c2':=(cell_of X4.out.box (i:=2) rfl).1;go_wp2_with (go_at_call 36;fail)
  refine (section_any x.sect _).mono ?_;rintro e w5 ⟨rfl,rfl⟩;unfold sv;go_wp2_with (go_at_call 35;fail)
  refine (put_new [secS x.sect,[10]] (t:=secS x.sect++[10]) (by simp) K4.out (by simp) (by have:=HLX.out;simp only [List.length_append,List.length_cons,List.length_nil];omega)).mono ?_;rintro e w6 ⟨rfl,k9,f9⟩;have K6:=qh k9;have F6:=qh (F4.out.trans f9);have X6:=qh (X4.out.fr f9 NGX.out (by decide));clear k9 f9 K4 F4 X4 c2';go_upto_region 6 with (fail)
  refine wp_region_T (by kernel_rfl) (fun w'=>Hb w' wr.heap.size 60 (vC x)) [] X6.out (fun hHeld=>?_);have K7:=qh (K6.out.below (Below.drew (Below.refl w6.heap.size w6)));have F7:=qh (F6.out.trans (Fr.of (Below.drew (Below.refl w6.heap.size w6)) K6.out.le));have X7:Hid (Hb w6.drew wr.heap.size 60 (vC x)):=X6;clear K6 F6 X6;generalize w6.drew=w7 at *;refine tkr (i:=0) rfl ?_;try simp only [lq0,lq7,lq1,lq2,lq3,lq4,lq5,lq6]
  refine tkr (i:=1) rfl ?_;try simp only [lq0,lq7,lq1,lq2,lq3,lq4,lq5,lq6]
  refine tkq (i:=2) (v:=?_) rfl ?_ ?_;rotate_left 1
  ·intro w_ hSw;have hl:=(cell_of hSw.box (i:=0) (v:=sv x.name) rfl).1;unfold sv at hl;clear hSw;go_simp<;>(with_reducible rfl)
  try simp only [lq0,lq7,lq1,lq2,lq3,lq4,lq5,lq6]
  refine wpAnyT_take (i:=3) rfl (by kernel_rfl) (by kernel_rfl) (by kernel_rfl) (fun _ _ _ h=>h) (yieldsIf_load_mid (by rfl) 60 (.tmp 5) rfl wr.heap.size 0 rfl (vC x) _ (fun _ hb'=>hb'.box.range) rfl rfl (by kernel_rfl)) (by assumption) ?_;try simp only [lq0,lq7,lq1,lq2,lq3,lq4,lq5,lq6]
  refine wpAnyT_ready (rs:=[4]) (by kernel_rfl) (by simp) ?_;refine AllReadyT.cons rfl (fun K hK=>?_) AllReadyT.nil;go_simp;go_at_call 37
  refine (typeText_any x TB.out TI.out _ K7.out.laid).mono ?_;rintro e w8 ⟨rfl,hb⟩;have K8:=qh (K7.out.below hb);have F8:=qh (F7.out.trans (Fr.of hb K7.out.le));have X8:=qh (X7.out.below hb X7.out.lt);clear hb K7 F7 X7;unfold sv;go_wp2_with fail
  refine hK _ _ X8.out (fun hHeld=>?_);clear hK K;try simp only [lq0,lq7,lq1,lq2,lq3,lq4,lq5,lq6]
  refine wpAnyT_ready (rs:=[5]) (by kernel_rfl) (by simp) ?_;refine AllReadyT.cons rfl (fun K hK=>?_) AllReadyT.nil;go_simp;refine hK _ _ (X8.out.below (al1 w8 (.cells (List.map sv [x.name,[32,58,32],typeS x,[59,10]]).toArray 9)) X8.out.lt) (fun hHeld=>?_);clear hK K;try simp only [lq0,lq7,lq1,lq2,lq3,lq4,lq5,lq6]
  refine wpAnyT_ready (rs:=[6]) (by kernel_rfl) (by simp) ?_;refine AllReadyT.cons rfl (fun K hK=>?_) AllReadyT.nil;go_simp;go_at_call 35
  refine (put_new [x.name,[32,58,32],typeS x,[59,10]] (t:=x.name++[32,58,32]++typeS x++[59,10]) (by simp) K8.out (by simp) (by have:=HLX.out;simp only [List.length_append,List.length_cons,List.length_nil];omega)).mono ?_;rintro e w9 ⟨rfl,k9,f9⟩;have K9:=qh k9;have F9:=qh (F8.out.trans f9);have X9:=qh (X8.out.fr f9 NGX.out (by decide));clear k9 f9 K8 F8 X8;go_wp2_with fail
  refine hK _ _ X9.out (fun hHeld=>?_);clear hK K;try simp only [lq0,lq7,lq1,lq2,lq3,lq4,lq5,lq6]
  refine wpAnyT_done (by kernel_rfl) ?_ _;go_wp2_with (go_at_call 35;fail)
  refine (put_new [[69,78,68,95,86,65,82,10]] (t:=[69,78,68,95,86,65,82,10]) rfl K9.out (by decide) (by have:=HLX.out;simp only [List.length_append,List.length_cons,List.length_nil];omega)).mono ?_;rintro e w10 ⟨rfl,k9,f9⟩;have KA:=qh (show Wx B g (l++(t1++vaS x)) w10 by rw [HVA.out];simpa only [List.append_assoc] using k9);have FA:=qh (F9.out.trans f9);have w1':=W1.out;clear k9 f9 K9 F9 X9;go_wp2_with fail
  go_roundw
  case rel=>exact ⟨q+1,t1++vaS x,by have:=LT.out;omega,by go_num,HT2.out,KA.out,FA.out⟩
  case measure=>have:=LT.out;simp [intOf];omega
theorem show_any {p:Pg} {h:GH} {w:World} (hM:MaxL w) (hL:Laid w) (hp:PgAt w w.heap.size p h) (hin:inP p) (hW:wsS p.body≤big) (hlen:pgB p=true→(pgS p).length≤lim) :
  Calls Tryz.prog 8 #[.agg (gC h).toArray] w fun e w'=>e=.returned (.tuple #[sv (showP p).1,.int .i64 (showP p).2])∧Below w.heap.size w w':=by
 have RP:=qh fun W (hb:Below w.heap.size w W)=>rightProgram_any (hM.below hb) (PgAt.below hp hb hb.size) hW
 have HB:=qh (al1 w (.cells (gC h).toArray 25));have X1:=qh (Box.new w (gC h).toArray 25);have Z1:=qh (show (w.alloc (.cells (gC h).toArray 25)).heap.size=w.heap.size+1 by simp);have PP:=qh hp;have LL:=qh hL;have IN:=qh hin;have HLN:=qh hlen;have hbb:pgB p=true→p.vars.all vaB=true∧stsB p.body=true:=fun h=>by
  unfold pgB at h;simp only [Bool.and_eq_true] at h;exact h.2.2
 have BBB:=qh hbb;obtain ⟨R,hR⟩:∃ R,showP p=R:=⟨_,rfl⟩;rw [hR];have HR:=qh hR;have ht0:pgS p≠[]:=by unfold pgS;simp
 have HT0:=qh ht0;clear hM hL hp hin hW hlen hbb hR ht0;obtain ⟨u,hu⟩:∃ u,pgB p=u:=⟨_,rfl⟩;rw [hu] at RP;have HU:=qh hu;clear hu;go_enter Tryz.func8,Tryz.ntmps8
 go_upto_region 1 with (fail)
 generalize w.alloc (.cells (gC h).toArray 25)=w1 at *;have X1:Hid (Box w1 w.heap.size 0 (gC h)):=X1;go_wp2_with (first|((with_reducible refine m_load X1.out 25 1 ?_ ?_ ?_ ?_ ?_ ?_);rfl;rfl;rfl;rfl;kernel_rfl)|(go_at_call 14;fail))
 refine (RP.out _ HB.out).mono ?_;rintro e w2 ⟨rfl,hb⟩;have B2:=btr HB hb;have X2:=qh (X1.out.below hb (by have:=Z1.out;omega));have Z2:=qh (show w.heap.size<w2.heap.size by have:=Z1.out;have:=hb.size;omega);clear hb RP X1 HB Z1;cases u
 ·have hr:R=([],5):=by rw [←HR.out,showP,HU.out];rfl
  subst hr;go_wp2_with fail
  go_ret2
  exact ⟨rfl,B2.out⟩
 have K3:=qh (show Wx w2.heap.size w2.heap.size [] (w2.alloc (.cells #[.pointer none,.slice none 0 0] 55)) from
  ⟨Wr.new w2,by simp,(LL.out.below B2.out).below (al1 w2 _),laid_lt (LL.out.below B2.out)⟩)
 have B3:=qh (al1 w2 (.cells #[.pointer none,.slice none 0 0] 55));have P3:=qh (PgAt.below (PgAt.below PP.out B2.out B2.out.size) B3.out (Nat.le_refl _));have X3:=qh (X2.out.below B3.out Z2.out);have CP:=qh (program_any K3.out P3.out (BBB.out HU.out).1 (BBB.out HU.out).2 IN.out (by rw [List.length_nil];have:=HLN.out HU.out;omega));go_upto_region 4 with (fail)
 generalize w2.alloc (.cells #[.pointer none,.slice none 0 0] 55)=w3 at *;go_wp2_with (first|((with_reducible refine m_load X3.out 25 1 ?_ ?_ ?_ ?_ ?_ ?_);rfl;rfl;rfl;rfl;kernel_rfl)|(go_at_call 15;fail))
 refine CP.out.mono ?_;rintro e w4 ⟨rfl,k4,f4⟩;rw [List.nil_append] at k4;have K4:=qh k4;have B4:=qh (B2.out.trans ((B3.out.trans f4.1).mono B2.out.size));clear k4 f4 CP K3 B3 P3 X3 X2;go_wp2_with (go_at_call 16;fail)
 refine (len_any w2.heap.size w2.heap.size (pgS p) w4 K4.out.wr).mono ?_;rintro e w5 ⟨rfl,rfl⟩;by_cases h6:16384<(pgS p).length
 ·have h6':(16384:Int)<(pgS p).length:=by omega
  have hr:R=([],13):=by rw [←HR.out,showP,HU.out,if_pos rfl,if_pos h6]
  subst hr;clear h6;go_wp2_with fail
  go_ret2
  exact ⟨rfl,B4.out⟩
 have h6':¬ (16384:Int)<(pgS p).length:=by omega
 have hr:R=(pgS p,0):=by rw [←HR.out,showP,HU.out,if_pos rfl,if_neg h6]
 subst hr;clear h6;go_wp2_with (go_at_call 17;fail)
 refine (str_any w2.heap.size w2.heap.size (pgS p) w5 K4.out.wr HT0.out).mono ?_;rintro e w6 ⟨rfl,hb⟩;have B6:=qh (B4.out.trans (hb.mono B2.out.size));clear hb;go_wp2_with fail
 go_ret2
 exact ⟨rfl,B6.out⟩
theorem bs_SA (h:SH) (w:World):(Instr.buildSlice 23 1 #[(0,.agg (sC h).toArray)]).run Tryz.prog w=.ok (.slice (some ⟨w.heap.size,0,none⟩) 1 1) (w.alloc (.cells (sC h).toArray 49)):=by kernel_rfl
def awT:Str:=[80,82,79,71,82,65,77,32,112,10,97,32,58,61,32,40,49,32,43,32,40,45,98,41,41,59,10,69,78,68,95,80,82,79,71,82,65,77,10]
theorem awake_pgS:pgS awakeP=awT:=by kernel_rfl
theorem awake_show:showP awakeP=(awT,0):=by kernel_rfl
def hB:EH:=⟨3,0,[98],[],⟨none,0,0⟩,0⟩
def h1:EH:=⟨1,1,[],[],⟨none,0,0⟩,0⟩
def hN (g:Nat):EH:=⟨6,0,[],[],⟨some ⟨g,0,none⟩,1,1⟩,0⟩
def hA:EH:=⟨3,0,[97],[],⟨none,0,0⟩,0⟩
def hP (g:Nat):EH:=⟨8,0,[],[],⟨some ⟨g,0,none⟩,2,2⟩,0⟩
def hS (g:Nat):SH:=⟨1,[],hA,hP g,⟨none,0,0⟩,⟨none,0,0⟩,⟨none,0,0⟩,⟨none,0,0⟩,0⟩
theorem nil_rs {α:Type} {enc:α→List Value} {z:Nat} {w:World} {B:Nat}:RS enc z w B ⟨none,0,0⟩ []:=⟨rfl,Nat.le_refl _,(by show 0≤maxLen;unfold maxLen;omega),fun _=>rfl,fun h=>absurd h (by decide)⟩
theorem awake_any (w:World) (hM:MaxL w) (hL:Laid w):Calls Tryz.prog 6 #[] w fun e w'=>e=.returned (.bool true)∧Below w.heap.size w w':=by
 go_enter Tryz.func6,Tryz.ntmps6
 go_upto_region 2 with (first|((with_reducible refine m_slice1 (enc:=eC) (z:=6) hB 42 44 5 (.agg (eC hB).toArray) (eC hB).toArray ?_ ?_ ?_ (bs_E hB) ?_ ?_);rfl;rfl;rfl;rfl;intro w1 hrb hb1 hz1;have RB1:=qh hrb;have B1:=qh hb1;have Z1:=qh hz1;clear hrb hb1 hz1)|((with_reducible refine m_slice2 eC_len h1 (hN w.heap.size) 42 44 4 7 (.agg (eC h1).toArray) (.agg (eC (hN w.heap.size)).toArray) (eC h1++eC (hN w.heap.size)).toArray ?_ ?_ ?_ ?_ (bs_E2 h1 (hN w.heap.size)) ?_ ?_);rfl;rfl;rfl;rfl;rfl;intro w2 hrb hb1 hz1;have RB2:=qh hrb;have B2:=qh hb1;have Z2:=qh hz1;clear hrb hb1 hz1)|((with_reducible refine m_new 44 1 9 ?_ ?_ ?_ (eC (hP w1.heap.size)) ?_ ?_ ?_ ?_ (eC_one _) ?_);rfl;rfl;rfl;rfl;rfl;rfl;kernel_rfl;intro w3 hx hb hz;have X3:=qh hx;have B3:=qh hb;have Z3:=qh hz;clear hx hb hz))
 have X4:Hid (Box w3 w2.heap.size 0 [.int .i64 8,.int .i64 0,.string ⟨#[]⟩,.string ⟨#[]⟩,.slice (some ⟨w1.heap.size,0,none⟩) 2 2,.int .i64 0]):=X3;go_wp2_with (first|((with_reducible refine m_load X4.out 44 1 ?_ ?_ ?_ ?_ ?_ ?_);rfl;rfl;rfl;rfl;kernel_rfl)|((with_reducible refine m_slice1 (enc:=sC) (z:=19) (hS w1.heap.size) 23 49 13 (.agg (sC (hS w1.heap.size)).toArray) (sC (hS w1.heap.size)).toArray ?_ ?_ ?_ (bs_SA _) ?_ ?_);rfl;rfl;rfl;rfl;intro w4 hrb hb1 hz1;have RB4:=qh hrb;have B4:=qh hb1;have Z4:=qh hz1;clear hrb hb1 hz1)|(go_at_call 8;fail))
 have s1:=B1.out.size;have s2:=B2.out.size;have s3:=B3.out.size;have s4:=B4.out.size;have BA:=qh (((B1.out.trans (B2.out.mono s1)).trans (B3.out.mono (Nat.le_trans s1 s2))).trans (B4.out.mono (Nat.le_trans s1 (Nat.le_trans s2 s3))));have hp:PgAt w4 w4.heap.size awakeP ⟨[112],⟨none,0,0⟩,⟨some ⟨w3.heap.size,0,none⟩,1,1⟩⟩:=by
  have z1:=Z1.out;have z2:=Z2.out;have z3:=Z3.out;have z4:=Z4.out;have q14:=(B2.out.trans (B3.out.mono s2)).trans (B4.out.mono (Nat.le_trans s2 s3));have q24:=B3.out.trans (B4.out.mono s3);have e1:RS eC 6 w4 w4.heap.size ⟨some ⟨w.heap.size,0,none⟩,1,1⟩ [hB]:=(RS.below (RB1.out.toAt (B:=w1.heap.size) (fun b hb=>by rw [z1];exact hb.2)) q14 q14.size);have e2:RS eC 6 w4 w4.heap.size ⟨some ⟨w1.heap.size,0,none⟩,2,2⟩ [h1,hN w.heap.size]:=(RS.below (RB2.out.toAt (B:=w2.heap.size) (fun b hb=>by rw [z2];exact hb.2)) q24 q24.size);have e4:RS sC 19 w4 w4.heap.size ⟨some ⟨w3.heap.size,0,none⟩,1,1⟩ [hS w1.heap.size]:=RB4.out.toAt (B:=w4.heap.size) (fun b hb=>by rw [z4];exact hb.2);have n0:RS eC 6 w4 w4.heap.size ⟨none,0,0⟩ []:=nil_rs;refine ⟨rfl,nil_rs,[hS w1.heap.size],e4,hS w1.heap.size,[],rfl,?_,rfl⟩;refine ⟨rfl,rfl,rfl,⟨rfl,rfl,rfl,rfl,rfl,[],n0,rfl⟩,⟨rfl,rfl,rfl,rfl,rfl,[h1,hN w.heap.size],e2,h1,[hN w.heap.size],rfl,⟨rfl,rfl,rfl,rfl,rfl,[],n0,rfl⟩,hN w.heap.size,[],rfl,⟨rfl,rfl,rfl,rfl,rfl,[hB],e1,hB,[],rfl,⟨rfl,rfl,rfl,rfl,rfl,[],n0,rfl⟩,rfl⟩,rfl⟩,⟨[],n0,rfl⟩,⟨[],nil_rs,rfl⟩,nil_rs,⟨[],nil_rs,rfl⟩⟩
 have SX:=show_any (hM.below BA.out) (hL.below BA.out) hp (by constructor;(intro v hv;cases hv);exact ⟨⟨(by intro l hl;cases hl),trivial⟩,trivial⟩) (by decide) (fun _=>by rw [awake_pgS];decide);rw [awake_show] at SX;have SX:=qh SX;simp only [sv] at SX;clear hp s1 s2 s3 s4 RB1 RB2 RB4 X3 X4;refine SX.out.mono ?_;rintro e w9 ⟨rfl,hb⟩;have B9:=btr BA hb;clear hb SX BA;unfold awT;go_wp2_with fail
 go_ret
 exact ⟨rfl,B9.out⟩
end sh
namespace sh
open ChangeShapes WideShapes ChangeAt RowKit k rr tk tr

def InJ (n:Int):Prop:=-9223372036854775808≤n∧n≤9223372036854775807
theorem mem_size {α:Type} [SizeOf α] {L:List α} {i:Nat} {x:α} (h:L[i]?=some x):SizeOf.sizeOf x<SizeOf.sizeOf L:=List.sizeOf_lt_of_mem (List.mem_of_getElem? h)
abbrev rmx:Nat:=140737488355328
mutual
def rE:Ex→Prop
 | .mk _ n nm fd sub _=>InJ n∧nm.length≤rmx∧fd.length≤rmx∧rEs sub
def rEs:List Ex→Prop
 | []=>True
 | x::l=>rE x∧rEs l
end
end sh
namespace sh
open ChangeShapes WideShapes ChangeAt RowKit k rr tk tr
mutual
def zX (m:Int):Ex→Int×Int
 | .mk _ _ _ _ sub _=>zL m 0 0 sub
def zL (m n d:Int):List Ex→Int×Int
 | []=>(n,d)
 | x::l=>if n≤m then zL m (n+((zX (m-n) x).1+1)) (max d ((zX (m-n) x).2+1)) l else (n,d)
end
mutual
theorem zX_le:∀ (x:Ex) (m:Int),0≤(zX m x).1∧(zX m x).1+1≤wE x∧0≤(zX m x).2∧(zX m x).2+1≤wE x
 | .mk _ _ _ _ sub _,m=>by
  have:=zL_le sub m 0 0 (by omega) (by omega);rw [zX,wE];omega
theorem zL_le:∀ (L:List Ex) (m n d:Int),0≤n→0≤d→n≤(zL m n d L).1∧(zL m n d L).1≤n+wsE L∧d≤(zL m n d L).2∧(zL m n d L).2≤d+wsE L
 | [],m,n,d,hn,hd=>by rw [zL,wsE];simp
 | x::l,m,n,d,hn,hd=>by
  rw [zL,wsE];have h1:=zX_le x (m-n);split
  ·have h2:=zL_le l m (n+((zX (m-n) x).1+1)) (max d ((zX (m-n) x).2+1)) (by omega) (by omega)
   omega
  ·simp only
   omega
end
theorem wsE_drop {L:List Ex} {i:Nat} {x:Ex} (h:L[i]?=some x):wsE (L.drop i)=wE x+wsE (L.drop (i+1)):=by
 obtain ⟨h1,h2⟩:=List.getElem?_eq_some_iff.1 h;rw [List.drop_eq_getElem_cons h1,wsE,h2]
theorem zL_drop {L:List Ex} {i:Nat} {x:Ex} (h:L[i]?=some x) (m n d:Int):zL m n d (L.drop i)=if n≤m then zL m (n+((zX (m-n) x).1+1)) (max d ((zX (m-n) x).2+1)) (L.drop (i+1)) else (n,d):=by
 obtain ⟨h1,h2⟩:=List.getElem?_eq_some_iff.1 h;rw [List.drop_eq_getElem_cons h1,zL,h2]
def SzE (N:Nat):Prop:=∀ L:List Ex,SizeOf.sizeOf L<N→wsE L≤1099511627776→∀ (m:Int),-1099511627776≤m→m≤1099511627776→∀ (s:Sl) (w:World),ExL w w.heap.size s L→Calls Tryz.prog 50 #[s.v,.int .i64 m] w fun e w'=>e=.returned (.tuple #[.int .i64 (zL m 0 0 L).1,.int .i64 (zL m 0 0 L).2])∧Below w.heap.size w w'
theorem size_e_step {N:Nat} (IH:SzE N):SzE (N+1):=by
 intro L hN hW m hm1 hm2 s w hx;obtain ⟨H,hR,hE⟩:=hx;obtain ⟨A,n0,cap⟩:=s;have hR:Rd eC 6 w w.heap.size A n0 cap H:=hR;have hnl:=hR.len_le;have hl0:L.length=n0:=hE.len.symm.trans hR.1;obtain ⟨Z,hZ⟩:∃ Z,zL m 0 0 L=Z:=⟨_,rfl⟩;rw [hZ];obtain ⟨z1,z2⟩:=Z;have HZ:=qh hZ;have R1:=qh hR;have E1:=qh hE;have HL:=qh hl0;have HN:=qh hN;have HI:=qh IH;have HM:=qh (And.intro hm1 (And.intro hm2 hW));clear hZ hR hE hl0 hN IH hm1 hm2 hW;simp only [Sl.v];go_enter Tryz.func50,Tryz.ntmps50
 go_upto_region 3 with (fail)
 go_loopw [6,7,8] (fun s6 s7 s8 wr=>∃ (q:Nat) (n d:Int),q≤n0∧s6=.int .i64 n∧s7=.int .i64 d∧s8=.int .i64 q∧0≤n∧0≤d∧n+wsE (L.drop q)≤1099511627776∧d+wsE (L.drop q)≤1099511627776∧Below w.heap.size w wr∧zL m n d (L.drop q)=(z1,z2)) (fun _ _ i _=>n0-(intOf i).toNat)
 case atStart=>exact ⟨0,0,0,Nat.zero_le _,rfl,rfl,rfl,by omega,by omega,by have:=HM.out;rw [List.drop_zero];omega,by have:=HM.out;rw [List.drop_zero];omega,Below.refl _ _,HZ.out⟩
 case round=>
  obtain ⟨q,n,d,hq,rfl,rfl,rfl,hn,hd,hnw,hdw,hbw,hz⟩:=hrel;by_cases hlt:q<n0
  rotate_left
  ·obtain rfl:q=n0:=by omega
   have hzz:¬ (q:Int)<q:=by omega
   rw [List.drop_of_length_le (by have:=HL.out;omega),zL] at hz;injection hz with e1 e2
   subst e1 e2;have BB:=qh hbw;clear hnw hdw hbw hlt hq;go_wp2_with fail
   go_ret2
   exact ⟨rfl,BB.out⟩
  have r1:Rd eC 6 wr wr.heap.size A n0 cap H:=(R1.out.below hbw).more hbw.size;obtain ⟨b1,o1,h,rfl,hb1,hp,hc1⟩:=r1.at hlt;obtain ⟨x,hxL,hxa⟩:=E1.out.at hp;have hsz:=mem_size hxL;rw [zL_drop hxL] at hz;by_cases hnm:n≤m
  rotate_left
  ·rw [if_neg hnm] at hz
   injection hz with e1 e2
   subst e1 e2;have BB:=qh hbw;clear hnw hdw hbw hq hc1 hp hxL hxa hsz r1;go_wp2_with fail
   go_ret2
   exact ⟨rfl,BB.out⟩
  rw [if_pos hnm] at hz;rw [wsE_drop hxL] at hnw hdw;have hzx:=zX_le x (m-n);obtain ⟨xo,xn,xs,xf,xsub,xl⟩:=x;obtain ⟨o,nn,s,f,⟨A2,l,c⟩,ln⟩:=h;unfold ExAt at hxa;obtain ⟨rfl,rfl,rfl,rfl,rfl,H2,hR2,hE2⟩:=hxa;have hx2:ExL w w.heap.size ⟨A2,l,c⟩ xsub:=⟨H2,hR2,hE2⟩;simp only [Ex.mk.sizeOf_spec] at hsz;obtain ⟨Y,hY⟩:∃ Y,zX (m-n) (.mk o nn s f xsub ln)=Y:=⟨_,rfl⟩;rw [hY] at hz hzx;obtain ⟨y1,y2⟩:=Y;rw [zX] at hY;simp only at hz hzx;obtain ⟨v,hv⟩:∃ v,wE (.mk o nn s f xsub ln)=v:=⟨_,rfl⟩;rw [hv] at hzx hnw hdw;have hvs:v=wsE xsub+1:=by rw [←hv,wE]
  have hmm:=HM.out;obtain ⟨k,hk⟩:∃ k,m-n=k:=⟨_,rfl⟩;rw [hk] at hY;have SC:=qh (show ∀ W,Below w.heap.size w W→Calls Tryz.prog 50 #[.slice A2 l c,.int .i64 k] W fun e w'=>e=.returned (.tuple #[.int .i64 y1,.int .i64 y2])∧Below W.heap.size W w' from fun W hW=>by
   have h:=HI.out xsub (by have:=HN.out;omega) (by omega) k (by omega) (by omega) ⟨A2,l,c⟩ W (hx2.below hW hW.size);rw [hY] at h;exact h)
  have HQ:Hid (q+1≤n0):=qh hlt;have w1:wrap64 ((q:Int)+1)=q+1:=by unfold wrap64;omega
  have w2:wrap64 (m-n)=k:=by unfold wrap64;omega
  have w3:wrap64 (y1+1)=y1+1:=by unfold wrap64;omega
  have w4:wrap64 (n+(y1+1))=n+(y1+1):=by unfold wrap64;omega
  have w5:wrap64 (y2+1)=y2+1:=by unfold wrap64;omega
  have BB:=qh hbw;have HF:=qh (show 0≤n+(y1+1)∧0≤max d (y2+1)∧n+(y1+1)+wsE (L.drop (q+1))≤1099511627776∧max d (y2+1)+wsE (L.drop (q+1))≤1099511627776 by omega);have HZ2:=qh hz;have c4:=(hc1 4 _ rfl);simp only [eC,Sl.v] at c4;have HC:=qh c4;clear hz hzx hnw hdw hbw r1 hp hb1 hc1 hxL hsz hR2 hE2 hx2 hq hY hv hvs hmm hk;go_wp2_with (go_at_call 50;fail)
  refine (SC.out wr BB.out).mono ?_;rintro e w5 ⟨rfl,hb⟩;have B5:=btr BB hb;clear hb SC BB;go_wp2_with fail
  go_roundw
  case rel=>exact ⟨q+1,n+(y1+1),max d (y2+1),HQ.out,by rw [w4],rfl,by go_num,HF.out.1,HF.out.2.1,HF.out.2.2.1,HF.out.2.2.2,B5.out,HZ2.out⟩
  case measure=>have:=HQ.out;simp [intOf];omega
theorem size_e_all:∀ N,SzE N
 | 0=>fun _ h=>absurd h (by omega)
 | N+1=>size_e_step (size_e_all N)
theorem refsize_any {L:List Ex} (hW:wsE L≤1099511627776) {m:Int} (h1:-1099511627776≤m) (h2:m≤1099511627776) {s:Sl} {w:World} (hx:ExL w w.heap.size s L):Calls Tryz.prog 50 #[s.v,.int .i64 m] w fun e w'=>e=.returned (.tuple #[.int .i64 (zL m 0 0 L).1,.int .i64 (zL m 0 0 L).2])∧Below w.heap.size w w':=
 size_e_all (SizeOf.sizeOf L+1) L (by omega) hW m h1 h2 s w hx
def zc (m n d:Int):List (List Ex)→Int×Int
 | []=>(n,d)
 | x::l=>zc m (n+(zL (m-n) 0 0 x).1) (max d ((zL (m-n) 0 0 x).2+1)) l
def zlab (m n:Int):List (List Int)→Int
 | []=>n
 | x::l=>if n≤m then zlab m (n+min (x.length:Int) (m+1)) l else n
mutual
def zSt (m n d:Int):St→Int×Int
 | .mk _ _ dst val conds labels fields blocks _=>
  zB m (zlab m ((zc m n d [[dst,val],conds]).1+(min (labels.length:Int) (m+1)+min (fields.length:Int) (m+1))) labels) (zc m n d [[dst,val],conds]).2 blocks
def zLs (m n d:Int):List St→Int×Int
 | []=>(n,d)
 | x::l=>if n≤m then zLs m (zSt m (n+1) d x).1 (zSt m (n+1) d x).2 l else (n,d)
def zB (m n d:Int):List (List St)→Int×Int
 | []=>(n,d)
 | b::l=>if n≤m then zB m (n+((zLs (m-n) 0 0 b).1+1)) (max d ((zLs (m-n) 0 0 b).2+1)) l else (n,d)
end
def wc:List (List Ex)→Nat
 | []=>0
 | x::l=>wsE x+wc l
theorem zc_le:∀ (L:List (List Ex)) (m n d:Int),0≤d→n≤(zc m n d L).1∧(zc m n d L).1≤n+wc L∧d≤(zc m n d L).2∧(zc m n d L).2≤max d (wc L+1)
 | [],m,n,d,hd=>by
  rw [zc,wc];simp only;omega
 | x::l,m,n,d,hd=>by
  rw [zc,wc];have h1:=zL_le x (m-n) 0 0 (by omega) (by omega);have h2:=zc_le l m (n+(zL (m-n) 0 0 x).1) (max d ((zL (m-n) 0 0 x).2+1)) (by omega);omega
theorem zlab_le:∀ (L:List (List Int)) (m n:Int),0≤m→n≤zlab m n L∧zlab m n L+L.length≤n+wL L
 | [],m,n,hm=>by
  rw [zlab,wL];simp
 | x::l,m,n,hm=>by
  rw [zlab,wL,List.length_cons];have:=wL_len l;split
  ·have h2:=zlab_le l m (n+min (x.length:Int) (m+1)) hm
   omega
  ·omega
mutual
theorem zSt_le:∀ (x:St) (m n d:Int),0≤m→0≤n→0≤d→n≤(zSt m n d x).1∧(zSt m n d x).1+1≤n+wS x∧d≤(zSt m n d x).2∧(zSt m n d x).2≤d+wS x
 | .mk _ _ dst val conds labels fields blocks _,m,n,d,hm,hn,hd=>by
  rw [zSt,wS];have h1:=zc_le [[dst,val],conds] m n d hd;rw [wc,wc,wc,wsE,wsE,wsE] at h1;have h2:=zlab_le labels m ((zc m n d [[dst,val],conds]).1+(min (labels.length:Int) (m+1)+min (fields.length:Int) (m+1))) hm;have h3:=zB_le blocks m (zlab m ((zc m n d [[dst,val],conds]).1+(min (labels.length:Int) (m+1)+min (fields.length:Int) (m+1))) labels) (zc m n d [[dst,val],conds]).2 (by omega) (by omega);omega
theorem zLs_le:∀ (L:List St) (m n d:Int),0≤n→0≤d→n≤(zLs m n d L).1∧(zLs m n d L).1≤n+wsS L∧d≤(zLs m n d L).2∧(zLs m n d L).2≤d+wsS L
 | [],m,n,d,hn,hd=>by
  rw [zLs,wsS];simp
 | x::l,m,n,d,hn,hd=>by
  rw [zLs,wsS];split
  ·have h1:=zSt_le x m (n+1) d (by omega) (by omega) hd
   have h2:=zLs_le l m (zSt m (n+1) d x).1 (zSt m (n+1) d x).2 (by omega) (by omega);omega
  ·simp only
   omega
theorem zB_le:∀ (L:List (List St)) (m n d:Int),0≤n→0≤d→n≤(zB m n d L).1∧(zB m n d L).1≤n+wsB L∧d≤(zB m n d L).2∧(zB m n d L).2≤d+wsB L
 | [],m,n,d,hn,hd=>by
  rw [zB,wsB];simp
 | x::l,m,n,d,hn,hd=>by
  rw [zB,wsB];split
  ·have h1:=zLs_le x (m-n) 0 0 (by omega) (by omega)
   have h2:=zB_le l m (n+((zLs (m-n) 0 0 x).1+1)) (max d ((zLs (m-n) 0 0 x).2+1)) (by omega) (by omega);omega
  ·simp only
   omega
end
theorem wsS_drop {L:List St} {i:Nat} {x:St} (h:L[i]?=some x):wsS (L.drop i)=wS x+wsS (L.drop (i+1)):=by
 obtain ⟨h1,h2⟩:=List.getElem?_eq_some_iff.1 h;rw [List.drop_eq_getElem_cons h1,wsS,h2]
theorem zLs_drop {L:List St} {i:Nat} {x:St} (h:L[i]?=some x) (m n d:Int):zLs m n d (L.drop i)=if n≤m then zLs m (zSt m (n+1) d x).1 (zSt m (n+1) d x).2 (L.drop (i+1)) else (n,d):=by
 obtain ⟨h1,h2⟩:=List.getElem?_eq_some_iff.1 h;rw [List.drop_eq_getElem_cons h1,zLs,h2]
theorem zB_drop {L:List (List St)} {i:Nat} {x:List St} (h:L[i]?=some x) (m n d:Int):zB m n d (L.drop i)=if n≤m then zB m (n+((zLs (m-n) 0 0 x).1+1)) (max d ((zLs (m-n) 0 0 x).2+1)) (L.drop (i+1)) else (n,d):=by
 obtain ⟨h1,h2⟩:=List.getElem?_eq_some_iff.1 h;rw [List.drop_eq_getElem_cons h1,zB,h2]
theorem zlab_drop {L:List (List Int)} {i:Nat} {x:List Int} (h:L[i]?=some x) (m n:Int):zlab m n (L.drop i)=if n≤m then zlab m (n+min (x.length:Int) (m+1)) (L.drop (i+1)) else n:=by
 obtain ⟨h1,h2⟩:=List.getElem?_eq_some_iff.1 h;rw [List.drop_eq_getElem_cons h1,zlab,h2]
theorem zlab_stop {m n:Int} (h:¬ n≤m):∀ L:List (List Int),zlab m n L=n
 | []=>rfl
 | x::l=>by rw [zlab,if_neg h]
theorem zB_stop {m n d:Int} (h:¬ n≤m):∀ L:List (List St),zB m n d L=(n,d)
 | []=>by rw [zB]
 | x::l=>by rw [zB,if_neg h]
def inS9 (op:Int):Bool:=decide (1≤op)&&decide (op≤9)
def hasN (op:Int):Bool:=op==4||op==9
def hasD (op:Int):Bool:=op==1
def hasV (op:Int):Bool:=op==1||(op==3||(op==5||op==6))
def cntS (op:Int) (c l f:Nat):Nat×Nat×Nat×Nat×Nat:=
 if op=2 then (max 1 c,0,0,max 1 c,1) else if op=3 then (0,l,0,l,1) else if op=4 then (3,0,0,1,0)
 else if op=5∨op=6 then (0,0,0,1,0) else if op=9 then (f,0,f,0,0) else (0,0,0,0,0)
def cntB (k:Nat×Nat×Nat×Nat×Nat) (c l f b:Nat):Bool:=c==k.1&&(l==k.2.1&&(f==k.2.2.1&&(decide (k.2.2.2.1≤b)&&decide (b≤k.2.2.2.1+k.2.2.2.2))))
def dstB (h:Bool) (x:Ex):Bool:=if h=true then placeB x else noE x
def valB (h:Bool) (x:Ex):Bool:=if h=true then !noE x&&exB x else noE x
theorem nm_ne {s:Str} (h:nmB s=true):(s==[])=false:=by
 cases s with
 | nil=>exact absurd h (by decide)
 | cons _ _=>rfl
theorem place_no {x:Ex} (h:placeB x=true):noE x=false:=by
 obtain ⟨o,n,s,f,sub,l⟩:=x;simp only [placeB,opE,Bool.and_eq_true,Bool.or_eq_true,beq_iff_eq] at h
 show (o==0&&_)=false
 rw [neb (show o≠0 by omega)];rfl
theorem not_emp (s:Str):(s != [])=!(s==[]):=rfl
theorem stB_fit (op:Int) (nm:Str) (dst val:Ex) (conds:List Ex) (labels:List (List Int)) (fields:List Str) (blocks:List (List St)) (ln:Int) :
  stB (.mk op nm dst val conds labels fields blocks ln)=(inS9 op&&(nameB (hasN op) nm&&(dstB (hasD op) dst&&(valB (hasV op) val&&(exsB conds&&(cntB (cntS op conds.length labels.length fields.length) conds.length labels.length fields.length blocks.length&&(fields.all nmB&&(labels.all labB&&blksB blocks)))))))):=by
 rw [stB,not_emp];have h1:=@nm_ne nm;have h2:=@place_no dst;unfold nameB dstB valB;generalize nmB nm=b at *;generalize (nm==[])=a at *;generalize placeB dst=p at *;generalize noE dst=d at *;generalize noE val=v at *;generalize exB val=x at *;generalize exsB conds=y1 at *;generalize fields.all nmB=y2 at *;generalize labels.all labB=y3 at *;generalize blksB blocks=y4 at *;generalize conds.length=c at *;generalize labels.length=l at *;generalize fields.length=f at *;generalize blocks.length=k at *;have key:∀ A B C:Bool,(A=B)→(A&&C)=(B&&C):=fun A B C h=>by rw [h]
 rcases (show op=1∨op=2∨op=3∨op=4∨op=5∨op=6∨op=7∨op=8∨op=9∨(op<1∨9<op) by omega) with rfl|rfl|rfl|rfl|rfl|rfl|rfl|rfl|rfl|ho
 rotate_right 1
 ·have e:inS9 op=false:=by
   unfold inS9;rw [Bool.eq_false_iff];simp;omega
  rw [e,stOk,if_neg (by omega),if_neg (by omega),if_neg (by omega),if_neg (by omega),if_neg (by omega),if_neg (by omega),if_neg (by omega)];rfl
 all_goals
  simp only [inS9,hasN,hasD,hasV,stOk,cntS,cntB,elseB,Pt.mk.injEq,oneIf];clear key;rw [Bool.eq_iff_iff];cases a<;>cases b<;>cases p<;>cases d<;>cases v<;>cases x<;>(first|(exact absurd (h1 rfl) (by decide))|(exact absurd (h2 rfl) (by decide))|(simp;done)|(simp;exact ⟨fun h=>⟨h.2.1,(by have:=h.1;omega),h.2.2.2.1,h.2.2.1,h.2.2.2.2⟩,fun h=>⟨(by have:=h.2.1;omega),h.1,h.2.2.2.1,h.2.2.1,h.2.2.2.2⟩⟩))
section
variable {ops:Array Oper} {rest:List Oper} {op:Oper} {a:Act} {w:World} {Q:Exit→Act→World→Prop}
end
mutual
def rS:St→Prop
 | .mk _ _ dst val conds _ _ blocks _=>rE dst∧rE val∧rEs conds∧rBs blocks
def rSs:List St→Prop
 | []=>True
 | x::l=>rS x∧rSs l
def rBs:List (List St)→Prop
 | []=>True
 | x::l=>rSs x∧rBs l
end
section
variable {P:Program} {ops:Array Oper} {rest:List Oper} {op:Oper} {a:Act} {w:World} {Q:Exit→Act→World→Prop}
end

theorem blk_nth {w:World} {B:Nat} {s:Sl} {L:List (List St)} {H:List Sl} (h1:RS slC 1 w B s H) (h2:BlksAt w B L H) {q:Nat} {y:List St} (hq:L[q]?=some y):∃ b o h0,s.A=some ⟨b,o,none⟩∧b<B∧w.cell? ⟨b,o+q,none⟩=some (Sl.v h0)∧StL w B h0 y∧q<s.l:=by
 have hl:H.length=s.l:=h1.1;have hL:=h2.len;have hlt:q<s.l:=by have:=(List.getElem?_eq_some_iff.1 hq).1;omega
 obtain ⟨b,o,h0,hA,hb,hp,hc⟩:=Rd.at h1 hlt;obtain ⟨y',hy,hy2⟩:=h2.at hp;obtain rfl:y=y':=by rw [hq] at hy;injection hy
 have a0:=hc 0 _ rfl;rw [Nat.add_zero,Nat.mul_one] at a0;exact ⟨b,o,h0,hA,hb,a0,hy2,hlt⟩
theorem lab_nth {w:World} {B:Nat} {s:Sl} {L:List (List Int)} {H:List Sl} (h1:RS slC 1 w B s H) (h2:LabsAt w B L H) {q:Nat} {y:List Int} (hq:L[q]?=some y):∃ b o h0,s.A=some ⟨b,o,none⟩∧b<B∧w.cell? ⟨b,o+q,none⟩=some (Sl.v h0)∧RS iC 1 w B h0 y∧q<s.l:=by
 have hl:H.length=s.l:=h1.1;have hL:=h2.len;have hlt:q<s.l:=by have:=(List.getElem?_eq_some_iff.1 hq).1;omega
 obtain ⟨b,o,h0,hA,hb,hp,hc⟩:=Rd.at h1 hlt;obtain ⟨y',hy,hy2⟩:=h2.at hp;obtain rfl:y=y':=by rw [hq] at hy;injection hy
 have a0:=hc 0 _ rfl;rw [Nat.add_zero,Nat.mul_one] at a0;exact ⟨b,o,h0,hA,hb,a0,hy2,hlt⟩
theorem bs_LE (a b:Sl) (w:World):(Instr.buildSlice 102 2 #[(0,a.v),(1,b.v)]).run Tryz.prog w=.ok (.slice (some ⟨w.heap.size,0,none⟩) 2 2) (w.alloc (.cells (slC a++slC b).toArray 42)):=by kernel_rfl
theorem slC_len (s:Sl):(slC s).length=1:=rfl
theorem two_rows {w:World} {B:Nat} {A:Option Addr} {a b:Sl} {x y:List Ex} (h:Rd slC 1 w B A 2 2 [a,b]) (ha:ExL w B a x) (hb:ExL w B b y) {j:Nat} (hj:j<2):∃ b3 o3 s l,A=some ⟨b3,o3,none⟩∧b3<B∧w.cell? ⟨b3,o3+j,none⟩=some (Sl.v s)∧[x,y][j]?=some l∧ExL w B s l:=by
 obtain ⟨b3,o3,s,hA,hb3,hp,hc⟩:=h.at hj;have a0:=hc 0 _ rfl;rw [Nat.add_zero,Nat.mul_one] at a0;rcases (show j=0∨j=1 by omega) with rfl|rfl
 ·obtain rfl:a=s:=by simpa using hp
  exact ⟨b3,o3,a,x,hA,hb3,a0,rfl,ha⟩
 ·obtain rfl:b=s:=by simpa using hp
  exact ⟨b3,o3,b,y,hA,hb3,a0,rfl,hb⟩
theorem zc_drop {L:List (List Ex)} {i:Nat} {x:List Ex} (h:L[i]?=some x) (m n d:Int):zc m n d (L.drop i)=zc m (n+(zL (m-n) 0 0 x).1) (max d ((zL (m-n) 0 0 x).2+1)) (L.drop (i+1)):=by
 obtain ⟨h1,h2⟩:=List.getElem?_eq_some_iff.1 h;rw [List.drop_eq_getElem_cons h1,zc,h2]
def SzS (N:Nat):Prop:=∀ L:List St,SizeOf.sizeOf L<N→wsS L≤1099511627776→∀ (m:Int),-1099511627776≤m→m≤1099511627776→∀ (s:Sl) (w:World),StL w w.heap.size s L→Calls Tryz.prog 26 #[s.v,.int .i64 m] w fun e w'=>e=.returned (.tuple #[.int .i64 (zLs m 0 0 L).1,.int .i64 (zLs m 0 0 L).2])∧Below w.heap.size w w'
theorem wS_parts (xo:Int) (xnm:Str) (xd xv:Ex) (xcs:List Ex) (xls:List (List Int)) (xfs:List Str) (xbs:List (List St)) (xl:Int):wS (.mk xo xnm xd xv xcs xls xfs xbs xl)=1+(wE xd+wE xv)+wsE xcs+wL xls+xfs.length+wsB xbs:=by rw [wS]
theorem size_s_step {N:Nat} (IH:SzS N):SzS (N+1):=by
 intro L hN hW m hm1 hm2 s w hx;obtain ⟨H,hR,hE⟩:=hx;obtain ⟨A,n0,cap⟩:=s;have hR:Rd sC 19 w w.heap.size A n0 cap H:=hR;have hnl:=hR.len_le;have hl0:L.length=n0:=hE.len.symm.trans hR.1;obtain ⟨Z,hZ⟩:∃ Z,zLs m 0 0 L=Z:=⟨_,rfl⟩;rw [hZ];obtain ⟨z1,z2⟩:=Z;have HZ:=qh hZ;have R1:=qh hR;have E1:=qh hE;have HL:=qh hl0;have HN:=qh hN;have HI:=qh IH;have HM:=qh (And.intro hm1 (And.intro hm2 hW));clear hZ hR hE hl0 hN IH hm1 hm2 hW;simp only [Sl.v];go_enter Tryz.func26,Tryz.ntmps26
 go_upto_region 3 with (fail)
 go_loopw [6,7,8] (fun s6 s7 s8 wr=>∃ (q:Nat) (n d:Int),q≤n0∧s6=.int .i64 n∧s7=.int .i64 d∧s8=.int .i64 q∧0≤n∧0≤d∧n+wsS (L.drop q)≤1099511627776∧d+wsS (L.drop q)≤1099511627776∧Below w.heap.size w wr∧zLs m n d (L.drop q)=(z1,z2)) (fun _ _ i _=>n0-(intOf i).toNat)
 case atStart=>exact ⟨0,0,0,Nat.zero_le _,rfl,rfl,rfl,by omega,by omega,by have:=HM.out;rw [List.drop_zero];omega,by have:=HM.out;rw [List.drop_zero];omega,Below.refl _ _,HZ.out⟩
 case round=>
  obtain ⟨q,n,d,hq,rfl,rfl,rfl,hn,hd,hnw,hdw,hbw,hz⟩:=hrel;by_cases hlt:q<n0
  rotate_left
  ·obtain rfl:q=n0:=by omega
   have hzz:¬ (q:Int)<q:=by omega
   rw [List.drop_of_length_le (by have:=HL.out;omega),zLs] at hz;injection hz with e1 e2
   subst e1 e2;have BB:=qh hbw;clear hnw hdw hbw hlt hq;go_wp2_with fail
   go_ret2
   exact ⟨rfl,BB.out⟩
  have r1:Rd sC 19 wr wr.heap.size A n0 cap H:=(R1.out.below hbw).more hbw.size;obtain ⟨b1,o1,h,rfl,hb1,hp,hc1⟩:=r1.at hlt;obtain ⟨x,hxL,hxa⟩:=E1.out.at hp;have hsz:=mem_size hxL;rw [zLs_drop hxL] at hz;have hlt':(q:Int)<n0:=by omega
  by_cases hnm:n≤m
  rotate_left
  ·rw [if_neg hnm] at hz
   injection hz with e1 e2
   subst e1 e2;have BB:=qh hbw;clear hnw hdw hbw hq hc1 hp hxL hxa hsz r1;go_wp2_with fail
   go_ret2
   exact ⟨rfl,BB.out⟩
  rw [if_pos hnm] at hz;rw [wsS_drop hxL] at hnw hdw;have hm:=HM.out;have hzx:=zSt_le x m (n+1) d (by omega) (by omega) hd;obtain ⟨Y,hY⟩:∃ Y,zSt m (n+1) d x=Y:=⟨_,rfl⟩;rw [hY] at hz hzx;obtain ⟨y1,y2⟩:=Y;simp only at hz hzx;obtain ⟨xo,xnm,xd,xv,xcs,xls,xfs,xbs,xl⟩:=x;unfold StAt at hxa;obtain ⟨h1,h2,h3,h4,h5,h6,⟨LH,h7,h8⟩,h9,BH,h10,h11⟩:=hxa;have ll:xls.length=h.labels.l:=h8.len.symm.trans h7.1;have lf:xfs.length=h.fields.l:=h9.1;have lb:xbs.length=h.blocks.l:=h11.len.symm.trans h10.1;rw [zSt,ll,lf] at hY;simp only [St.mk.sizeOf_spec] at hsz;obtain ⟨C,hC⟩:∃ C,zc m (n+1) d [[xd,xv],xcs]=C:=⟨_,rfl⟩;have hcl:=zc_le [[xd,xv],xcs] m (n+1) d hd;rw [hC] at hY hcl;obtain ⟨c1,c2⟩:=C;simp only at hY hcl;obtain ⟨k3,hk3⟩:∃ k,zlab m (c1+(min (h.labels.l:Int) (m+1)+min (h.fields.l:Int) (m+1))) xls=k:=⟨_,rfl⟩;have hkl:=zlab_le xls m (c1+(min (h.labels.l:Int) (m+1)+min (h.fields.l:Int) (m+1))) (by omega);rw [hk3] at hY hkl;have hBl:=zB_le xbs m k3 c2 (by omega) (by omega);rw [hY] at hBl;simp only at hBl;have w1:wrap64 ((q:Int)+1)=q+1:=by unfold wrap64;omega
  have wn1:wrap64 (n+1)=n+1:=by unfold wrap64;omega
  have hc1l:c1≤1099511627776:=by omega
  have hc2l:c2≤1099511627776:=by omega
  have hk3l:k3≤1099511627776:=by omega
  have HB1:=qh (show 0≤n∧n≤m∧m≤1099511627776∧0≤d∧n+1≤c1∧d≤c2∧c1≤1099511627776∧c2≤1099511627776∧k3≤1099511627776∧y1≤1099511627776∧y2≤1099511627776 from ⟨hn,hnm,by omega,hd,by omega,by omega,hc1l,hc2l,hk3l,by omega,by omega⟩);have HF:=qh (show 0≤y1∧0≤y2∧y1+wsS (L.drop (q+1))≤1099511627776∧y2+wsS (L.drop (q+1))≤1099511627776 by omega);have hwx:=wS_parts xo xnm xd xv xcs xls xfs xbs xl;have HWW:=qh (show wsE [xd,xv]≤1099511627776∧wsE xcs≤1099511627776∧wsB xbs≤1099511627776∧SizeOf.sizeOf xbs≤N from ⟨by rw [wsE,wsE,wsE];omega,by omega,by omega,by have:=HN.out;omega⟩);have HC:=qh hC;have HK3:=qh hk3;have HY:=qh hY;have HZ2:=qh hz;have HQ:Hid (q+1≤n0):=qh hlt;have HW1:=qh w1;have HDX:=qh fun W (hW:Below w.heap.size w W)=>(h4.below hW hW.size:ExAt W W.heap.size xd h.dst)
  have HVX:=qh fun W (hW:Below w.heap.size w W)=>(h5.below hW hW.size:ExAt W W.heap.size xv h.val)
  have HCX:=qh fun W (hW:Below w.heap.size w W)=>(h6.below hW hW.size:ExL W W.heap.size h.conds xcs)
  have H7:=qh (And.intro h7 h8);have H10:=qh (And.intro h10 h11);have HLN:=qh (show (h.labels.l:Int)≤9223372036854775807∧(h.fields.l:Int)≤9223372036854775807∧(h.blocks.l:Int)≤9223372036854775807∧xls.length=h.labels.l∧xbs.length=h.blocks.l from ⟨Rd.len_le h7,Rd.len_le h9,Rd.len_le h10,ll,lb⟩);have BB:=qh hbw;have hci:=qh hc1;clear hz hzx hnw hdw hbw r1 hp hb1 hc1 hxL hsz h1 h2 h3 h4 h5 h6 h7 h8 h9 h10 h11 hq hY ll lf lb hC hcl hk3 hkl hBl hm hwx w1 hn hd hc1l hc2l hk3l;go_upto_region 6 with (fail)
  rw [wn1];clear wn1;go_upto_region 8 with (first|((with_reducible refine m_loadR hci.out 49 33 ?_ ?_ ?_ ?_ ?_ ?_);rfl;rfl;rfl;rfl;kernel_rfl)|((with_reducible refine m_new 49 9 34 ?_ ?_ ?_ (sC h) ?_ ?_ ?_ ?_ (sC_one _) ?_);rfl;rfl;rfl;rfl;rfl;rfl;kernel_rfl;intro wx hx hb hz;have XX0:=qh hx;have BX0:=btr BB hb;have ZX0:=qh (show wr.heap.size<wx.heap.size by omega);have c14:=(cell_of hx (i:=14) rfl).1;clear hx hb hz hci)|((with_reducible refine m_loadR (st_dst XX0.out) 44 35 ?_ ?_ ?_ ?_ ?_ ?_);rfl;rfl;rfl;rfl;kernel_rfl)|((with_reducible refine m_loadR (st_val XX0.out) 44 37 ?_ ?_ ?_ ?_ ?_ ?_);rfl;rfl;rfl;rfl;kernel_rfl)|((with_reducible refine m_slice2 eC_len h.dst h.val 42 44 36 38 (.agg (eC h.dst).toArray) (.agg (eC h.val).toArray) (eC h.dst++eC h.val).toArray ?_ ?_ ?_ ?_ (bs_E2 h.dst h.val) ?_ ?_);rfl;rfl;rfl;rfl;rfl;intro w2 hrb hb1 hz1;have RB1:=qh hrb;have HBB1:=qh hb1;have HZ1:=qh hz1;have c14:=(cell_of (XX0.out.below hb1 ZX0.out) (i:=14) rfl).1;clear hrb hb1 hz1)|((with_reducible refine m_slice2 slC_len ⟨some ⟨wx.heap.size,0,none⟩,2,2⟩ h.conds 102 42 39 41 (Sl.v ⟨some ⟨wx.heap.size,0,none⟩,2,2⟩) (Sl.v h.conds) (slC ⟨some ⟨wx.heap.size,0,none⟩,2,2⟩++slC h.conds).toArray ?_ ?_ ?_ ?_ (bs_LE _ _) ?_ ?_);rfl;rfl;rfl;rfl;rfl;intro wy hrb hb1 hz1;have RB2:=qh hrb;have HBB2:=qh hb1;have HZ3:=qh hz1;clear hrb hb1 hz1))
  have BY:=qh ((BX0.out.trans (HBB1.out.mono BX0.out.size)).trans (HBB2.out.mono (Nat.le_trans BX0.out.size HBB1.out.size)));have BX2:=BX0.out.trans (HBB1.out.mono BX0.out.size);have XY:=qh ((XX0.out.below HBB1.out ZX0.out).below HBB2.out (by have:=ZX0.out;have:=HBB1.out.size;omega));have RY:Hid (Rd slC 1 wy wy.heap.size (some ⟨w2.heap.size,0,none⟩) 2 2 [⟨some ⟨wx.heap.size,0,none⟩,2,2⟩,h.conds]):=qh (RB2.out.toAt (B:=wy.heap.size) (fun b hb=>by rw [HZ3.out];exact hb.2));have EY0:Hid (ExL wy wy.heap.size ⟨some ⟨wx.heap.size,0,none⟩,2,2⟩ [xd,xv]):=qh (ExL.below (show ExL w2 w2.heap.size ⟨some ⟨wx.heap.size,0,none⟩,2,2⟩ [xd,xv] from ⟨[h.dst,h.val],RB1.out.toAt (B:=w2.heap.size) (fun b hb=>by rw [HZ1.out];exact hb.2),⟨h.dst,[h.val],rfl,HDX.out _ BX2,⟨h.val,[],rfl,HVX.out _ BX2,rfl⟩⟩⟩) HBB2.out HBB2.out.size);have EY1:=qh (HCX.out _ BY.out);have ZG:=qh (show wr.heap.size<wy.heap.size∧w2.heap.size<wy.heap.size by have:=ZX0.out;have:=HZ1.out;have:=HZ3.out;omega);obtain ⟨g,hg⟩:∃ g,wr.heap.size=g:=⟨_,rfl⟩;obtain ⟨g2,hg2⟩:∃ g,w2.heap.size=g:=⟨_,rfl⟩;rw [hg] at XY ZG;rw [hg2] at RY ZG;rw [hg,hg2];clear hg hg2 BX2 XX0 BX0 ZX0 RB1 RB2 HBB1 HBB2 HZ1 HZ3 HDX HVX HCX c14;go_loopw [6,7,44] (fun s6 s7 s44 wl=>∃ (j:Nat) (n' d':Int),j≤2∧s6=.int .i64 n'∧s7=.int .i64 d'∧s44=.int .i64 j∧n+1≤n'∧d≤d'∧Below wy.heap.size wy wl∧zc m n' d' ([[xd,xv],xcs].drop j)=(c1,c2)) (fun _ _ i _=>2-(intOf i).toNat)
  case atStart=>exact ⟨0,n+1,d,by omega,rfl,rfl,rfl,by omega,by omega,Below.refl _ _,by rw [List.drop_zero];exact HC.out⟩
  case round=>
   obtain ⟨j,n',d',hj,rfl,rfl,rfl,hn',hd',hb,hz⟩:=hrel;have BL:=qh hb;have hh:=HB1.out;by_cases hlj:j<2
   ·have hlj':(j:Int)<2:=by clear hh hz hn' hd';omega
    have hj1:j+1≤2:=hlj;have w5:wrap64 ((j:Int)+1)=j+1:=by clear hh hz hn' hd';unfold wrap64;omega
    obtain ⟨b3,o3,s,l,hA,hb3,hc,hl,hE⟩:=two_rows RY.out EY0.out EY1.out hlj;injection hA with hA
    injection hA with e1 e2 _
    subst e1 e2;rw [zc_drop hl] at hz;have hzl:=zL_le l (m-n') 0 0 (by omega) (by omega);have hle:=zc_le ([[xd,xv],xcs].drop (j+1)) m (n'+(zL (m-n') 0 0 l).1) (max d' ((zL (m-n') 0 0 l).2+1)) (by omega);rw [hz] at hle;simp only at hle;have hwl:wsE l≤1099511627776:=by
     clear hle hzl hh hz hn' hd';rcases (show j=0∨j=1 by omega) with rfl|rfl
     ·obtain rfl:[xd,xv]=l:=by simpa using hl
      exact HWW.out.1
     ·obtain rfl:xcs=l:=by simpa using hl
      exact HWW.out.2.1
    have a0:=(hb.cell (p:=⟨g2,0+j,none⟩) hb3).trans hc;obtain ⟨As,ls,cs⟩:=s;simp only [Sl.v] at a0;obtain ⟨Y,hY⟩:∃ Y,zL (m-n') 0 0 l=Y:=⟨_,rfl⟩;rw [hY] at hz hzl hle;obtain ⟨k,e⟩:=Y;simp only at hz hzl hle;have hk0:0≤k:=hzl.1;have he0:0≤e:=hzl.2.2.1;have hle1:n'+k≤c1:=hle.1;have hle2:e+1≤c2:=Int.le_trans (Int.le_max_right _ _) hle.2.2.1;clear hle hzl;have hmn1:-1099511627776≤m-n':=by omega
    have hmn2:m-n'≤1099511627776:=by omega
    have SC:=refsize_any hwl hmn1 hmn2 (hE.below hb hb.size);rw [hY] at SC;simp only [Sl.v] at SC;have w1:wrap64 (m-n')=m-n':=by clear hz hn' hd';unfold wrap64;omega
    have w3:wrap64 (n'+k)=n'+k:=by clear hz;unfold wrap64;omega
    have w4:wrap64 (e+1)=e+1:=by clear hz;unfold wrap64;omega
    have HS:=qh SC;have HJ:=qh (show j+1≤2∧n+1≤n'+k∧d≤max d' (e+1) from ⟨hj1,Int.le_trans hn' (Int.le_add_of_nonneg_right hk0),Int.le_trans hd' (Int.le_max_left _ _)⟩);have HZZ:=qh hz;clear hz hwl hE hl hc hb3 SC hb hh hY hj hn' hd' hk0 he0 hle1 hle2 hmn1 hmn2 hj1;rw [Nat.zero_add] at a0;go_wp2_with (go_at_call 50;fail)
    refine HS.out.mono ?_;rintro e9 w9 ⟨rfl,hb⟩;have B9:=btr BL hb;clear hb HS a0 BL w1;go_wp2_with fail
    go_roundw
    case rel=>exact ⟨j+1,n'+k,max d' (e+1),HJ.out.1,by rw [w3],rfl,by go_num,HJ.out.2.1,HJ.out.2.2,B9.out,HZZ.out⟩
    case measure=>simp [intOf];omega
   ·obtain rfl:j=2:=by omega
    have hz:(n',d')=(c1,c2):=hz;injection hz with e1 e2
    subst e1 e2;have hzj:¬ ((2:Nat):Int)<2:=by omega
    have XA:=qh (XY.out.below BL.out ZG.out.1);have c15:=(cell_of XA.out (i:=15) rfl).1;have c16:=(cell_of XA.out (i:=16) rfl).1;simp only [Sl.v] at c15 c16;have w1:wrap64 (m+1)=m+1:=by unfold wrap64;omega
    have w3:wrap64 (min (h.labels.l:Int) (m+1)+min (h.fields.l:Int) (m+1))=min (h.labels.l:Int) (m+1)+min (h.fields.l:Int) (m+1):=by unfold wrap64;omega
    have w4:wrap64 (n'+(min (h.labels.l:Int) (m+1)+min (h.fields.l:Int) (m+1)))=n'+(min (h.labels.l:Int) (m+1)+min (h.fields.l:Int) (m+1)):=by unfold wrap64;omega
    have HN0:=qh (show 0≤n'+(min (h.labels.l:Int) (m+1)+min (h.fields.l:Int) (m+1)) by omega);clear hb hh hj hn' hd' hlj;go_upto_region 16 with (fail)
    try rw [w4]
    clear w1 w3 w4 c15 c16 hzj XA;go_loopw [6,14] (fun s6 s14 wl=>∃ (j:Nat) (n3:Int),j≤h.labels.l∧s6=.int .i64 n3∧s14=.int .i64 j∧0≤n3∧Below wy.heap.size wy wl∧zlab m n3 (xls.drop j)=k3) (fun _ i _=>h.labels.l-(intOf i).toNat)
    case atStart=>exact ⟨0,_,by omega,rfl,rfl,HN0.out,BL.out,by rw [List.drop_zero];exact HK3.out⟩
    case round=>
     obtain ⟨j,n3,hj,rfl,rfl,hn3,hb,hz⟩:=hrel;clear BL HN0;have BL:=qh hb;have XA:=qh (XY.out.below BL.out ZG.out.1);have c15:=(cell_of XA.out (i:=15) rfl).1;simp only [Sl.v] at c15;have hh:=HB1.out;have hln:=HLN.out;by_cases hgo:j<h.labels.l∧n3≤m
     ·have hlj':(j:Int)<h.labels.l:=Int.ofNat_lt.2 hgo.1
      have w5:wrap64 ((j:Int)+1)=j+1:=by have:=hln.1;clear hh hz hn3;unfold wrap64;omega
      have w1:wrap64 (m+1)=m+1:=by have:=hh.1;have:=hh.2.1;have:=hh.2.2.1;clear hh hz hln;unfold wrap64;omega
      obtain ⟨y,hy⟩:∃ y,xls[j]?=some y:=⟨_,List.getElem?_eq_getElem (Nat.lt_of_lt_of_eq hgo.1 hln.2.2.2.1.symm)⟩;obtain ⟨b4,o4,sl,hA,hb4,hc,hya,-⟩:=lab_nth H7.out.1 H7.out.2 hy;have BWL:=BY.out.trans (hb.mono BY.out.size);have a0:=(BWL.cell (p:=⟨b4,o4+j,none⟩) hb4).trans hc;rw [hA] at c15;have ly:y.length=sl.l:=hya.1;have lyl:=Rd.len_le hya;obtain ⟨As,lz,cs⟩:=sl;simp only [Sl.v] at a0 ly lyl;rw [zlab_drop hy,if_pos hgo.2,ly] at hz;have hk2:=(zlab_le (xls.drop (j+1)) m (n3+min (lz:Int) (m+1)) (Int.le_trans hh.1 hh.2.1)).1;rw [hz] at hk2;have hk3:=hh.2.2.2.2.2.2.2.2.1;have hmm:=Int.le_trans hh.1 hh.2.1;have hnn:=hgo.2;skip
      have w3:wrap64 (n3+min (lz:Int) (m+1))=n3+min (lz:Int) (m+1):=by clear hh hz;unfold wrap64;omega
      have hnm':=hgo.2;have HJ:=qh (show j+1≤h.labels.l∧0≤n3+min (lz:Int) (m+1) from ⟨hgo.1,by clear hk2 hh hln w1 w3 w5 hz;omega⟩);have HZZ:=qh hz;clear hz hk2 hk3 hmm hnn hgo hb hh hln hj hn3 hy hA hb4 hc hya BWL ly;go_wp2_with fail
      go_roundw
      case rel=>exact ⟨j+1,n3+min (lz:Int) (m+1),HJ.out.1,by rw [w3],by rw [w5]<;>rfl,HJ.out.2,BL.out,HZZ.out⟩
      case measure=>
       have hq:=HJ.out.1;rw [w5]
       show h.labels.l-(j+1)<h.labels.l-j
       omega
     ·have hcase:(n3=k3∧¬ (j:Int)<h.labels.l)∨(n3=k3∧(j:Int)<h.labels.l∧¬ n3≤m):=by
       by_cases hjl:j<h.labels.l
       ·have hnn:¬ n3≤m:=fun hc=>hgo ⟨hjl,hc⟩
        rw [zlab_stop hnn] at hz;exact Or.inr ⟨hz,by omega,hnn⟩
       ·rw [List.drop_of_length_le (by omega),zlab] at hz
        exact Or.inl ⟨hz,by omega⟩
      have hjl0:=hln.1;clear hz hgo hb hh hln hj;rcases hcase with ⟨rfl,hcc⟩|⟨rfl,hcc,hcd⟩
      all_goals
       go_upto_region 20 with (fail)
       clear c15 hcc hjl0;try clear hcd
       go_loopw [6,7,15] (fun s6 s7 s15 wl=>∃ (j:Nat) (n4 d4:Int),j≤h.blocks.l∧s6=.int .i64 n4∧s7=.int .i64 d4∧s15=.int .i64 j∧0≤n4∧0≤d4∧Below wy.heap.size wy wl∧zB m n4 d4 (xbs.drop j)=(y1,y2)) (fun _ _ i _=>h.blocks.l-(intOf i).toNat)
       case atStart=>exact ⟨0,_,_,by omega,rfl,rfl,rfl,hn3,by have:=HB1.out;omega,BL.out,by rw [List.drop_zero];exact HY.out⟩
       case round=>
        obtain ⟨j,n4,d4,hj,rfl,rfl,rfl,hn4,hd4,hb,hz⟩:=hrel;clear BL XA hn3;have BL:=qh hb;have XA:=qh (XY.out.below BL.out ZG.out.1);have c17:=(cell_of XA.out (i:=17) rfl).1;simp only [Sl.v] at c17;have hh:=HB1.out;have hln:=HLN.out;have hkj:=zB_le (xbs.drop j) m n4 d4 hn4 hd4;rw [hz] at hkj;simp only at hkj;by_cases hgo:j<h.blocks.l∧n4≤m
        ·have hlj':(j:Int)<h.blocks.l:=Int.ofNat_lt.2 hgo.1
         have w6:wrap64 ((j:Int)+1)=j+1:=by have:=hln.2.2.1;clear hh hz hkj hn4 hd4;unfold wrap64;omega
         obtain ⟨y,hy⟩:∃ y,xbs[j]?=some y:=⟨_,List.getElem?_eq_getElem (Nat.lt_of_lt_of_eq hgo.1 hln.2.2.2.2.symm)⟩;obtain ⟨b5,o5,bh,hA,hb5,hc,hya,-⟩:=blk_nth H10.out.1 H10.out.2 hy;have BWL:=BY.out.trans (hb.mono BY.out.size);have a0:=(BWL.cell (p:=⟨b5,o5+j,none⟩) hb5).trans hc;rw [hA] at c17;rw [zB_drop hy,if_pos hgo.2] at hz;have hwy:wsS y≤1099511627776:=by have:=wsB_mem (List.mem_of_getElem? hy);have:=HWW.out.2.2.1;clear hz hkj hh;omega
         have hzl:=zLs_le y (m-n4) 0 0 (by decide) (by decide);obtain ⟨Y,hY⟩:∃ Y,zLs (m-n4) 0 0 y=Y:=⟨_,rfl⟩;rw [hY] at hz hzl;obtain ⟨k,e⟩:=Y;simp only at hz hzl;have hk0:0≤k:=hzl.1;have he0:0≤e:=hzl.2.2.1;have hk1:k≤1099511627776:=by have:=hzl.2.1;clear hz hkj hh hzl;omega
         have he1:e≤1099511627776:=by have:=hzl.2.2.2;clear hz hkj hh hzl;omega
         clear hzl;have hmn1:-1099511627776≤m-n4:=by have:=hgo.2;clear hz hkj;omega
         have hmn2:m-n4≤1099511627776:=by clear hz hkj;omega
         have SC:=HI.out y (by have:=HWW.out.2.2.2;have:=mem_size hy;clear hz hkj hh;omega) hwy (m-n4) hmn1 hmn2 bh _ (StL.below hya BWL BWL.size);rw [hY] at SC;obtain ⟨As,lz,cs⟩:=bh;simp only [Sl.v] at a0 SC;have hn4l:n4≤1099511627776:=by have:=hgo.2;clear hz hkj;omega
         have w1:wrap64 (m-n4)=m-n4:=by clear hz hkj hh;unfold wrap64;omega
         have w3:wrap64 (k+1)=k+1:=by clear hz hkj hh;unfold wrap64;omega
         have w4:wrap64 (n4+(k+1))=n4+(k+1):=by clear hz hkj hh;unfold wrap64;omega
         have w5:wrap64 (e+1)=e+1:=by clear hz hkj hh;unfold wrap64;omega
         have hnm':=hgo.2;have HS:=qh SC;have HJ:=qh (show j+1≤h.blocks.l∧0≤n4+(k+1)∧0≤max d4 (e+1) from ⟨hgo.1,Int.add_nonneg hn4 (Int.add_nonneg hk0 (by decide)),Int.le_trans hd4 (Int.le_max_left _ _)⟩);have HZZ:=qh hz;clear hz hkj hgo hb hh hln hj hn4 hd4 hy hA hb5 hc hya BWL hwy SC hY hk0 he0 hk1 he1 hmn1 hmn2 hn4l;go_wp2_with (go_at_call 26;fail)
         refine HS.out.mono ?_;rintro e9 w9 ⟨rfl,hb⟩;have B9:=btr BL hb;clear hb HS a0 BL w1 c17;go_wp2_with fail
         go_roundw
         case rel=>exact ⟨j+1,n4+(k+1),max d4 (e+1),HJ.out.1,by rw [w4],rfl,by rw [w6]<;>rfl,HJ.out.2.1,HJ.out.2.2,B9.out,HZZ.out⟩
         case measure=>
          have hq:=HJ.out.1;rw [w6]
          show h.blocks.l-(j+1)<h.blocks.l-j
          omega
        ·have hcase:(((n4,d4):Int×Int)=(y1,y2)∧¬ (j:Int)<h.blocks.l)∨(((n4,d4):Int×Int)=(y1,y2)∧(j:Int)<h.blocks.l∧¬ n4≤m):=by
          by_cases hjl:j<h.blocks.l
          ·have hnn:¬ n4≤m:=fun hc=>hgo ⟨hjl,hc⟩
           rw [zB_stop hnn] at hz;exact Or.inr ⟨hz,by omega,hnn⟩
          ·rw [List.drop_of_length_le (by omega),zB] at hz
           exact Or.inl ⟨hz,by omega⟩
         have B9:=qh (BY.out.trans (BL.out.mono BY.out.size));have w1:=HW1.out;clear hz hkj hgo hb hh hln hj;rcases hcase with ⟨he,hcc⟩|⟨he,hcc,hcd⟩
         all_goals
          injection he with e1 e2
          subst e1 e2;go_wp2_with fail
          go_roundw
          case rel=>exact ⟨q+1,n4,d4,HQ.out,rfl,rfl,by go_num,HF.out.1,HF.out.2.1,HF.out.2.2.1,HF.out.2.2.2,B9.out,HZ2.out⟩
          case measure=>have:=HQ.out;simp [intOf];omega
theorem size_s_all:∀ N,SzS N
 | 0=>fun _ h=>absurd h (by omega)
 | N+1=>size_s_step (size_s_all N)
theorem refsizes_any {L:List St} (hW:wsS L≤1099511627776) {m:Int} (h1:-1099511627776≤m) (h2:m≤1099511627776) {s:Sl} {w:World} (hx:StL w w.heap.size s L):Calls Tryz.prog 26 #[s.v,.int .i64 m] w fun e w'=>e=.returned (.tuple #[.int .i64 (zLs m 0 0 L).1,.int .i64 (zLs m 0 0 L).2])∧Below w.heap.size w w':=
 size_s_all (SizeOf.sizeOf L+1) L (by omega) hW m h1 h2 s w hx
def zP (m:Int) (p:Pg):Int×Int:=((zLs m 0 0 p.body).1+p.vars.length,(zLs m 0 0 p.body).2)
def shortB (p:Pg):Bool:=decide ((zP 2000 p).1≤2000)&&decide ((p.vars.length:Int)≤100)
theorem refsizep_any {p:Pg} {h:GH} {w:World} (hp:PgAt w w.heap.size p h) (hW:wsS p.body≤1099511627776) (hV:p.vars.length≤1099511627776) {m:Int} (hm1:-1099511627776≤m) (hm2:m≤1099511627776):Calls Tryz.prog 11 #[.agg (gC h).toArray,.int .i64 m] w fun e w'=>e=.returned (.tuple #[.int .i64 (zP m p).1,.int .i64 (zP m p).2])∧Below w.heap.size w w':=by
 obtain ⟨h1,h2,h3⟩:=hp;have SC:=qh fun W (hb:Below w.heap.size w W)=>refsizes_any hW hm1 hm2 (StL.below h3 hb hb.size)
 have hvr:Rd vC 8 w w.heap.size h.vars.A h.vars.l h.vars.c p.vars:=h2;have lv:p.vars.length=h.vars.l:=hvr.1;have hmax:h.vars.l≤1099511627776:=by rw [←lv];exact hV
 have hz:=zLs_le p.body m 0 0 (by decide) (by decide);unfold zP;rw [lv];simp only;obtain ⟨Y,hY⟩:∃ Y,zLs m 0 0 p.body=Y:=⟨_,rfl⟩;rw [hY] at SC hz ⊢;obtain ⟨a,b⟩:=Y;simp only at SC hz ⊢;simp only [Sl.v] at SC;have w1:wrap64 (a+(h.vars.l:Int))=a+h.vars.l:=by unfold wrap64;omega
 have HB:=qh (al1 w (.cells (gC h).toArray 25));have X1:=qh (Box.new w (gC h).toArray 25);have Z1:=qh (show w.heap.size<(w.alloc (.cells (gC h).toArray 25)).heap.size by simp);have HW1:=qh w1;clear h1 h2 h3 hvr lv hmax hz hY w1 hW hV hm1 hm2;go_enter Tryz.func11,Tryz.ntmps11
 go_upto_region 1 with (fail)
 generalize w.alloc (.cells (gC h).toArray 25)=w1 at *;have X1:Hid (Box w1 w.heap.size 0 (gC h)):=X1;have c2:=(cell_of X1.out (i:=2) rfl).1;simp only [Sl.v] at c2;go_wp2_with (go_at_call 26;fail)
 refine (SC.out _ HB.out).mono ?_;rintro e w2 ⟨rfl,hb⟩;have B2:=btr HB hb;have X2:=qh (X1.out.below hb Z1.out);have c1:=(cell_of X2.out (i:=1) rfl).1;simp only [Sl.v] at c1;have w3:=HW1.out;clear hb SC c2 X1 HB;go_wp2_with fail
 go_ret2
 exact ⟨by rw [HW1.out]<;>rfl,B2.out⟩
theorem refshort_any {p:Pg} {h:GH} {w:World} (hp:PgAt w w.heap.size p h) (hW:wsS p.body≤1099511627776) (hV:p.vars.length≤1099511627776):Calls Tryz.prog 7 #[.agg (gC h).toArray] w fun e w'=>e=.returned (.bool (shortB p))∧Below w.heap.size w w':=by
 have SC:=qh fun W (hb:Below w.heap.size w W)=>refsizep_any (PgAt.below hp hb hb.size) hW hV (m:=2000) (by decide) (by decide)
 obtain ⟨h1,h2,h3⟩:=hp;have lv:p.vars.length=h.vars.l:=(show Rd vC 8 w w.heap.size h.vars.A h.vars.l h.vars.c p.vars from h2).1;unfold shortB;rw [lv];obtain ⟨Y,hY⟩:∃ Y,zP 2000 p=Y:=⟨_,rfl⟩;rw [hY] at SC ⊢;obtain ⟨a,b⟩:=Y;simp only at SC ⊢;have HB:=qh (al1 w (.cells (gC h).toArray 25));have X1:=qh (Box.new w (gC h).toArray 25);have Z1:=qh (show w.heap.size<(w.alloc (.cells (gC h).toArray 25)).heap.size by simp);clear h1 h2 h3 lv hY hW hV;go_enter Tryz.func7,Tryz.ntmps7
 go_upto_region 1 with (fail)
 generalize w.alloc (.cells (gC h).toArray 25)=w1 at *;have X1:Hid (Box w1 w.heap.size 0 (gC h)):=X1;go_wp2_with (first|((with_reducible refine m_load X1.out 25 1 ?_ ?_ ?_ ?_ ?_ ?_);rfl;rfl;rfl;rfl;kernel_rfl)|(go_at_call 11;fail))
 refine (SC.out _ HB.out).mono ?_;rintro e w2 ⟨rfl,hb⟩;have B2:=btr HB hb;have X2:=qh (X1.out.below hb Z1.out);have c1:=(cell_of X2.out (i:=1) rfl).1;simp only [Sl.v] at c1;clear hb SC X1 HB;by_cases ha:a≤2000
 ·by_cases hv:(h.vars.l:Int)≤100
  ·go_wp2_with fail
   go_ret
   exact ⟨by rw [decide_eq_true ha,decide_eq_true hv];rfl,B2.out⟩
  ·go_wp2_with fail
   go_ret
   exact ⟨by rw [decide_eq_true ha,decide_eq_false (show ¬ (h.vars.l:Int)≤100 by omega)];rfl,B2.out⟩
 ·go_wp2_with fail
  go_ret
  exact ⟨by rw [decide_eq_false (show ¬ a≤2000 by omega)];rfl,B2.out⟩
end sh
namespace sh
open ChangeShapes WideShapes ChangeAt RowKit k rr tk tr
inductive It
 | gap (c:UInt8)
 | sg (k:Int) (t:Str) (n:Nat)
def It.txt:It→Str
 | .gap c=>[c]
 | .sg _ t _=>t
def itS:List It→Str
 | []=>[]
 | i::l=>i.txt++itS l
def sgs:List It→List (Int×Str×Int)
 | []=>[]
 | .gap _::l=>sgs l
 | .sg k t n::l=>(k,t,(n:Int))::sgs l
def tk3 (t:Tk):Int×Str×Int:=(t.kind,t.text,t.n)
def Fits (k:Int) (t:Str) (n:Nat) (r:Str):Prop:=t≠[]∧past (t++r)=(true,t++r)∧sgn (t++r)=(0,k,n,t.length)
def ItOk:List It→Prop
 | []=>True
 | .gap c::l=>(c=32∨c=10)∧ItOk l
 | .sg k t n::l=>Fits k t n (itS l)∧ItOk l
theorem itS_append:∀ a b:List It,itS (a++b)=itS a++itS b
 | [],b=>rfl
 | i::a,b=>by rw [List.cons_append,itS,itS,itS_append a b,List.append_assoc]
theorem sgs_append:∀ a b:List It,sgs (a++b)=sgs a++sgs b
 | [],b=>rfl
 | .gap c::a,b=>by rw [List.cons_append,sgs,sgs,sgs_append a b]
 | .sg k t n::a,b=>by rw [List.cons_append,sgs,sgs,sgs_append a b,List.cons_append]
theorem past_gap {c:UInt8} {r:Str} (h:c=32∨c=10):past (c::r)=past r:=by
 unfold past
 show pastF ((c::r).length+1) (c::r)=_
 rw [List.length_cons,pastF,if_pos (by rcases h with h|h<;>simp [h])]
def gaps:List It→List It
 | .gap _::l=>gaps l
 | l=>l
theorem past_items:∀ {l:List It},ItOk l→past (itS l)=(true,itS (gaps l))
 | [],_=>rfl
 | .gap c::l,h=>by
  rw [itS,gaps]
  show past (c::itS l)=_
  rw [past_gap h.1];exact past_items h.2
 | .sg k t n::l,h=>h.1.2.1
theorem gaps_ok:∀ {l:List It},ItOk l→ItOk (gaps l)∧sgs (gaps l)=sgs l∧(gaps l).length≤l.length
 | [],_=>⟨trivial,rfl,Nat.le_refl _⟩
 | .gap c::l,h=>by
  obtain ⟨a,b,c⟩:=gaps_ok h.2;exact ⟨a,by rw [gaps,b,sgs],by rw [gaps,List.length_cons];omega⟩
 | .sg k t n::l,h=>⟨h,rfl,Nat.le_refl _⟩
theorem gaps_head:∀ l:List It,gaps l=[]∨∃ k t n m,gaps l=.sg k t n::m
 | []=>Or.inl rfl
 | .gap c::l=>by rw [gaps];exact gaps_head l
 | .sg k t n::l=>Or.inr ⟨k,t,n,l,rfl⟩
theorem lexF_items (s:Str):∀ (f:Nat) (l:List It) (acc:List Tk),ItOk l→l.length<f→∃ M e,lexF s f (itS l) acc=(0,acc++M++[e],zeroT)∧M.map tk3=sgs l∧e.kind=0∧e.text=[]∧e.n=0
 | 0,l,acc,h,hf=>absurd hf (by omega)
 | f+1,l,acc,h,hf=>by
  obtain ⟨h1,h2,h3⟩:=gaps_ok h;rw [lexF];simp only [past_items h];rcases gaps_head l with hg|⟨k,t,n,m,hg⟩
  ·rw [hg] at h2 ⊢
   rw [if_neg (by decide),if_pos (show itS []=[] from rfl)];exact ⟨[],atP (plAt s []),by rw [List.append_nil],h2,rfl,rfl,rfl⟩
  ·rw [hg] at h1 h2 h3 ⊢
   obtain ⟨⟨ht,hp,hs⟩,hm⟩:=h1;have hne:itS (.sg k t n::m)≠[]:=by
    rw [itS];intro h0;exact ht (List.append_eq_nil_iff.1 h0).1
   have hs2:sgn (itS (.sg k t n::m))=(0,k,n,t.length):=hs;rw [if_neg (by decide),if_neg hne,hs2];simp only [if_true];have hd:(itS (.sg k t n::m)).drop t.length=itS m:=by
    rw [itS];exact List.drop_left
   have htk:(itS (.sg k t n::m)).take t.length=t:=by
    rw [itS];exact List.take_left
   rw [hd,htk];obtain ⟨M,e,a,b,c⟩:=lexF_items s f m (acc++[⟨k,t,n,(plAt s (itS (.sg k t n::m))).1,(plAt s (itS (.sg k t n::m))).2⟩]) hm (by rw [List.length_cons] at h3;omega);refine ⟨⟨k,t,n,(plAt s (itS (.sg k t n::m))).1,(plAt s (itS (.sg k t n::m))).2⟩::M,e,?_,?_,c⟩
   ·rw [a]
    simp only [List.append_assoc,List.cons_append,List.nil_append]
   ·rw [List.map_cons,b,←h2,sgs]
    rfl
theorem len_items:∀ {l:List It},ItOk l→l.length≤(itS l).length
 | [],_=>Nat.le_refl _
 | .gap c::l,h=>by
  have:=len_items h.2;rw [itS,List.length_cons,List.length_append]
  show l.length+1≤1+_
  omega
 | .sg k t n::l,h=>by
  have:=len_items h.2;have h0:0<t.length:=List.length_pos_iff.2 h.1.1;rw [itS,List.length_cons,List.length_append]
  show l.length+1≤t.length+_
  omega
theorem lex_items {l:List It} (h:ItOk l) (hs:(itS l).length≤16384):∃ M e,lex (itS l)=(0,M++[e],zeroT)∧M.map tk3=sgs l∧e.kind=0∧e.text=[]∧e.n=0:=by
 obtain ⟨M,e,a,b⟩:=lexF_items (itS l) ((itS l).length+1) l [] h (by have:=len_items h;omega);refine ⟨M,e,?_,b⟩;unfold lex;rw [if_neg (by omega),a,List.nil_append]
def HdNo (p:UInt8→Bool) (r:Str):Prop:=∀ c l,r=c::l→p c=false
theorem bodyLen_app:∀ {s r:Str},s.all bodyB=true→HdNo bodyB r→bodyLen (s++r)=s.length
 | [],[],_,_=>rfl
 | [],c::l,_,hr=>by
  have:=hr c l rfl
  show bodyLen (c::l)=0
  rw [bodyLen,if_neg (by rw [this];decide)]
 | a::s,r,h,hr=>by
  rw [List.all_cons,Bool.and_eq_true] at h;rw [List.cons_append,bodyLen,if_pos h.1,bodyLen_app h.2 hr,List.length_cons]
theorem fits_name {s r:Str} (h:nmB s=true) (hr:HdNo bodyB r):Fits 1 s 0 r:=by
 obtain ⟨c,l,rfl⟩:∃ c l,s=c::l:=by
  cases s with
  | nil=>cases h
  | cons c l=>exact ⟨c,l,rfl⟩
 have h2:(alphaB c&&((c::l).all bodyB&&(decide ((c::l).length≤16)&&!isWord (c::l))))=true:=h;simp only [Bool.and_eq_true,decide_eq_true_eq,Bool.not_eq_true'] at h2;obtain ⟨ha,hb,hl,hw⟩:=h2;refine ⟨by simp,alpha_past ha,?_⟩;have e:=bodyLen_app hb hr;rw [List.cons_append] at e ⊢;unfold sgn;simp only [ha,if_true,e];have ht:(c::(l++r)).take (c::l).length=c::l:=by rw [←List.cons_append];exact List.take_left
 rw [ht,hw,if_neg (by decide),if_neg (by omega)]
theorem fits_word {s r:Str} (hs:isWord s=true) (ha:∀ c l,s=c::l→alphaB c=true) (hn:s≠[]) (hb:s.all bodyB=true) (hr:HdNo bodyB r):Fits 2 s 0 r:=by
 obtain ⟨c,l,rfl⟩:∃ c l,s=c::l:=by
  cases s with
  | nil=>exact absurd rfl hn
  | cons c l=>exact ⟨c,l,rfl⟩
 have ha:=ha c l rfl;refine ⟨hn,alpha_past ha,?_⟩;have e:=bodyLen_app hb hr;rw [List.cons_append] at e ⊢;unfold sgn;simp only [ha,if_true,e];have ht:(c::(l++r)).take (c::l).length=c::l:=by rw [←List.cons_append];exact List.take_left
 rw [ht,hs,if_pos rfl]
def wordB (s:Str):Bool:=isWord s&&(s.all bodyB&&match s with
 | []=>false
 | c::_=>alphaB c)
theorem fits_wd {s r:Str} (h:wordB s=true) (hr:HdNo bodyB r):Fits 2 s 0 r:=by
 unfold wordB at h;simp only [Bool.and_eq_true] at h;obtain ⟨h1,h2,h3⟩:=h;refine fits_word h1 (fun c l e=>?_) (fun e=>?_) h2 hr
 ·subst e;exact h3
 ·subst e;cases h3
def afterB (t c:UInt8):Bool:=
 if t=40 then c != 42 else if t=47 then c != 47 else if t=58 then c != 61 else if t=60 then (c != 61&&c != 62) else if t=62 then c != 61 else if t=46 then c != 46 else true
theorem sign_one {c:UInt8} {r:Str} (h1:¬ (c=32∨c=10∨c=9)) (t1:two (c::r) 47 47=false) (t2:two (c::r) 40 42=false) (ha:alphaB c=false) (hn:numB c=false)
  (t3:two (c::r) 58 61=false) (t4:two (c::r) 60 61=false) (t5:two (c::r) 62 61=false) (t6:two (c::r) 60 62=false) (t7:two (c::r) 46 46=false) (hs:singles.contains c=true):Fits 4 [c] 0 r:=by
 refine ⟨by simp,?_,?_⟩
 ·show past (c::r)=(true,c::r)
  unfold past;rw [List.length_cons,pastF,if_neg h1,t1,t2];simp
 ·show sgn (c::r)=(0,4,0,1)
  have hl:signLen (c::r)=1:=by
   unfold signLen;rw [t3,t4,t5,t6,t7];simp only [Bool.or_self,hs,if_true];rfl
  unfold sgn;simp only [ha,hn,hl];rfl
theorem two_no {c a b:UInt8} {r:Str} (h:(c==a)=false):two (c::r) a b=false:=by
 cases r with
 | nil=>rfl
 | cons d l=>show (c==a&&d==b)=false;rw [h];rfl
theorem two_no' {c a b:UInt8} {r:Str} (h:∀ d l,r=d::l→(d==b)=false):two (c::r) a b=false:=by
 cases r with
 | nil=>rfl
 | cons d l=>show (c==a&&d==b)=false;rw [h d l rfl,Bool.and_false]
theorem ne_of {d b:UInt8} (h:(d != b)=true):(d==b)=false:=by
 rw [bne] at h;simpa using h
theorem fits_sg {c:UInt8} {r:Str} (hs:singles.contains c=true) (hr:∀ d l,r=d::l→afterB c d=true):Fits 4 [c] 0 r:=by
 have hm:c=43∨c=45∨c=42∨c=47∨c=40∨c=41∨c=91∨c=93∨c=46∨c=44∨c=59∨c=58∨c=60∨c=62∨c=61:=by
  simpa [singles] using hs
 rcases hm with rfl|rfl|rfl|rfl|rfl|rfl|rfl|rfl|rfl|rfl|rfl|rfl|rfl|rfl|rfl
 ·exact sign_one (by decide) (two_no rfl) (two_no rfl) rfl rfl (two_no rfl) (two_no rfl) (two_no rfl) (two_no rfl) (two_no rfl) rfl
 ·exact sign_one (by decide) (two_no rfl) (two_no rfl) rfl rfl (two_no rfl) (two_no rfl) (two_no rfl) (two_no rfl) (two_no rfl) rfl
 ·exact sign_one (by decide) (two_no rfl) (two_no rfl) rfl rfl (two_no rfl) (two_no rfl) (two_no rfl) (two_no rfl) (two_no rfl) rfl
 ·exact sign_one (by decide) (two_no' fun d l e=>ne_of (hr d l e)) (two_no rfl) rfl rfl (two_no rfl) (two_no rfl) (two_no rfl) (two_no rfl) (two_no rfl) rfl
 ·exact sign_one (by decide) (two_no rfl) (two_no' fun d l e=>ne_of (hr d l e)) rfl rfl (two_no rfl) (two_no rfl) (two_no rfl) (two_no rfl) (two_no rfl) rfl
 ·exact sign_one (by decide) (two_no rfl) (two_no rfl) rfl rfl (two_no rfl) (two_no rfl) (two_no rfl) (two_no rfl) (two_no rfl) rfl
 ·exact sign_one (by decide) (two_no rfl) (two_no rfl) rfl rfl (two_no rfl) (two_no rfl) (two_no rfl) (two_no rfl) (two_no rfl) rfl
 ·exact sign_one (by decide) (two_no rfl) (two_no rfl) rfl rfl (two_no rfl) (two_no rfl) (two_no rfl) (two_no rfl) (two_no rfl) rfl
 ·exact sign_one (by decide) (two_no rfl) (two_no rfl) rfl rfl (two_no rfl) (two_no rfl) (two_no rfl) (two_no rfl) (two_no' fun d l e=>ne_of (hr d l e)) rfl
 ·exact sign_one (by decide) (two_no rfl) (two_no rfl) rfl rfl (two_no rfl) (two_no rfl) (two_no rfl) (two_no rfl) (two_no rfl) rfl
 ·exact sign_one (by decide) (two_no rfl) (two_no rfl) rfl rfl (two_no rfl) (two_no rfl) (two_no rfl) (two_no rfl) (two_no rfl) rfl
 ·exact sign_one (by decide) (two_no rfl) (two_no rfl) rfl rfl (two_no' fun d l e=>ne_of (hr d l e)) (two_no rfl) (two_no rfl) (two_no rfl) (two_no rfl) rfl
 ·have h2:∀ d l,r=d::l→(d==61)=false∧(d==62)=false:=fun d l e=>by
   have:(d != 61&&d != 62)=true:=hr d l e;rw [Bool.and_eq_true] at this;exact ⟨ne_of this.1,ne_of this.2⟩
  exact sign_one (by decide) (two_no rfl) (two_no rfl) rfl rfl (two_no rfl) (two_no' fun d l e=>(h2 d l e).1) (two_no rfl) (two_no' fun d l e=>(h2 d l e).2) (two_no rfl) rfl
 ·exact sign_one (by decide) (two_no rfl) (two_no rfl) rfl rfl (two_no rfl) (two_no rfl) (two_no' fun d l e=>ne_of (hr d l e)) (two_no rfl) (two_no rfl) rfl
 ·exact sign_one (by decide) (two_no rfl) (two_no rfl) rfl rfl (two_no rfl) (two_no rfl) (two_no rfl) (two_no rfl) (two_no rfl) rfl
theorem fits_sg2 {t:Str} {r:Str} (ht:t=[58,61]∨t=[46,46]∨t=[60,62]∨t=[60,61]∨t=[62,61]):Fits 4 t 0 r:=by
 rcases ht with rfl|rfl|rfl|rfl|rfl
 all_goals
  refine ⟨by simp,?_,?_⟩
  ·unfold past
   rfl
  ·rfl
theorem num_no_alpha {c:UInt8} (h:numB c=true):alphaB c=false:=by
 rw [numB_iff] at h;rw [Bool.eq_false_iff,Ne,alphaB_iff];omega
theorem num_body {c:UInt8} (h:numB c=true):bodyB c=true:=by
 unfold bodyB;rw [h];simp
theorem num_past {c:UInt8} {l:Str} (h:numB c=true):past (c::l)=(true,c::l):=by
 have hc:¬ (c=32∨c=10∨c=9)∧(c==47)=false∧(c==40)=false:=by
  refine ⟨?_,?_,?_⟩
  ·rintro (rfl|rfl|rfl)<;>exact absurd h (by decide)
  ·rw [beq_eq_false_iff_ne];rintro rfl;exact absurd h (by decide)
  ·rw [beq_eq_false_iff_ne];rintro rfl;exact absurd h (by decide)
 unfold past;rw [List.length_cons,pastF,if_neg hc.1,two_no hc.2.1,two_no hc.2.2];simp
theorem dig_num {c:UInt8} (h:numB c=true):dig c 10=some (c.toNat-48):=by
 unfold dig;rw [if_pos h];rw [numB_iff] at h;simp only;rw [if_pos (by omega)]
theorem dig_none {c:UInt8} (h:numB c=false):dig c 10=none:=by
 unfold dig;simp only [h,Bool.false_eq_true,if_false];by_cases h2:65≤c∧c≤70
 ·have h3:=UInt8.le_iff_toNat_le.1 h2.1
  have h3:65≤c.toNat:=h3;rw [if_pos h2,if_neg (by omega)]
 ·rw [if_neg h2,if_neg (by decide)]
theorem digs_app:∀ {l r:Str},l.all numB=true→HdNo numB r→digs 10 (l++r)=l.map (fun c=>c.toNat-48)
 | [],[],_,_=>rfl
 | [],c::r,_,hr=>by
  rw [List.nil_append,digs,dig_none (hr c r rfl)];rfl
 | c::l,r,h,hr=>by
  rw [List.all_cons,Bool.and_eq_true] at h;rw [List.cons_append,digs,dig_num h.1];simp only;rw [digs_app h.2 hr,List.map_cons]
theorem ofNat_digit {i:Nat} (h:i<10):(UInt8.ofNat (48+i)).toNat=48+i:=by
 simp;omega
theorem dec_all (u:Nat):(Lib.decDigits u).all numB=true∧val 10 ((Lib.decDigits u).map (fun c=>c.toNat-48))=u∧Lib.decDigits u≠[]:=by
 induction u using Nat.strongRecOn with
 | _ u ih=>
  rw [Lib.decDigits];have hd:∀ i,i<10→numB (UInt8.ofNat (48+i))=true:=fun i hi=>by
   rw [numB_iff,ofNat_digit hi];omega
  split
  ·rename_i h
   refine ⟨by rw [List.all_cons,hd u h];rfl,?_,by simp⟩
   show val 10 [(UInt8.ofNat (48+u)).toNat-48]=u
   rw [ofNat_digit h];simp [val]
  ·rename_i h
   obtain ⟨a,b,c⟩:=ih (u / 10) (by omega);have h10:u % 10<10:=by omega
   refine ⟨by rw [List.all_append,a,List.all_cons,hd _ h10];rfl,?_,by simp⟩;rw [List.map_append];unfold val at b ⊢;rw [List.foldl_append,b]
   show u / 10*10+((UInt8.ofNat (48+u % 10)).toNat-48)=u
   rw [ofNat_digit h10];omega
theorem two35:∀ {l r:Str} {a:UInt8},l.all numB=true→numB a=true→HdNo numB r→HdNo (fun c=>c==35) r→two (l++r) a 35=false
 | [],[],a,_,_,_,_=>rfl
 | [],c::r,a,_,ha,hr,_=>two_no (by
   rw [beq_eq_false_iff_ne];rintro rfl;rw [hr c r rfl] at ha;cases ha)
 | [x],r,a,_,_,_,hr=>two_no' fun d l e=>hr d l e
 | x::y::l,r,a,h,_,_,_=>two_no' fun d l e=>by
   have e:y=d:=(List.cons.inj e).1;subst e;simp only [List.all_cons,Bool.and_eq_true] at h;rw [beq_eq_false_iff_ne];rintro rfl;exact absurd h.2.1 (by decide)
theorem fits_num {n:Int} (h0:0≤n) (h1:n≤9223372036854775807) {r:Str} (hr:HdNo bodyB r) (hr2:HdNo (fun c=>c==35) r):Fits 3 (numS n) n.toNat r:=by
 have e:numS n=Lib.decDigits n.toNat:=by unfold numS Lib.itoa;rw [if_neg (by omega)]
 rw [e];obtain ⟨a,b,c⟩:=dec_all n.toNat;generalize Lib.decDigits n.toNat=l at *;have hrn:HdNo numB r:=fun d m hd=>by
  have:=hr d m hd;cases hnd:numB d with
  | false=>rfl
  | true=>rw [num_body hnd] at this;cases this
 have hD:=digs_app a hrn;obtain ⟨x,m,rfl⟩:∃ x m,l=x::m:=by
  cases l with
  | nil=>exact absurd rfl c
  | cons x m=>exact ⟨x,m,rfl⟩
 have hx:numB x=true:=by rw [List.all_cons,Bool.and_eq_true] at a;exact a.1
 have hm:m.all numB=true:=by rw [List.all_cons,Bool.and_eq_true] at a;exact a.2
 refine ⟨c,num_past hx,?_⟩;have hb:baseOf ((x::m)++r)=(10,0):=by
  unfold baseOf;rw [two35 a (by decide) hrn hr2,if_neg (by decide),two35 a (by decide) hrn hr2,if_neg (by decide)];have:two (((x::m)++r).drop 1) 54 35=false:=two35 (l:=m) hm (by decide) hrn hr2;rw [this,Bool.and_false,if_neg (by decide)]
 have hs:tk.stuck r=false:=by
  cases r with
  | nil=>rfl
  | cons d q=>
   show (bodyB d||d==35)=false
   rw [hr d q rfl,show (d==35)=false from hr2 d q rfl];rfl
 have hn:number ((x::m)++r)=(0,n.toNat,(x::m).length):=by
  unfold number;simp only [hb,List.drop_zero,hD];have hd:((x::m)++r).drop (0+((x::m).map (fun c=>c.toNat-48)).length)=r:=by
   rw [Nat.zero_add,List.length_map];exact List.drop_left
  rw [hd,hs,b,if_neg (by simp),if_neg (by omega),Nat.zero_add,List.length_map]
 rw [List.cons_append] at hn ⊢;unfold sgn;simp only [num_no_alpha hx,hx,hn];rfl
def opI (op:Int):It:=.sg (if op=12∨op=19∨op=20∨op=21 then 2 else 4) (opS op) 0
def exIt (op n:Int) (nm fd:Str) (T:List (List It)):List It:=
 if op=1 then [.sg 3 (numS n) n.toNat] else if op=2 then [.sg 2 (truthS n) 0] else if op=3 then [.sg 1 nm 0]
 else if op=4 then .sg 1 nm 0::.sg 4 [91] 0::(T.headD []++[.sg 4 [93] 0])
 else if op=5 then [.sg 1 nm 0,.sg 4 [46] 0,.sg 1 fd 0]
 else if op=6 then .sg 4 [40] 0::.sg 4 [45] 0::(T.headD []++[.sg 4 [41] 0])
 else if op=7 then .sg 4 [40] 0::.sg 2 [78,79,84] 0::.gap 32::(T.headD []++[.sg 4 [41] 0])
 else .sg 4 [40] 0::(T.headD []++(.gap 32::opI op::.gap 32::((T.drop 1).headD []++[.sg 4 [41] 0])))
mutual
def exI:Ex→List It
 | .mk op n nm fd sub _=>exIt op n nm fd (exsI sub)
def exsI:List Ex→List (List It)
 | []=>[]
 | x::l=>exI x::exsI l
end
theorem head_itS:∀ T:List (List It),itS (T.headD [])=(T.map itS).headD []
 | []=>rfl
 | x::l=>rfl
theorem exIt_txt (op n:Int) (nm fd:Str) (T:List (List It)):itS (exIt op n nm fd T)=exT op n nm fd (T.map itS):=by
 have h1:=head_itS T;have h2:=head_itS (T.drop 1);rw [List.map_drop] at h2;unfold exIt exT;repeat' split
 all_goals
  simp only [itS,It.txt,itS_append,h1,h2,opI,List.append_assoc,List.append_nil,List.cons_append,List.nil_append]
mutual
theorem exI_txt:∀ e:Ex,itS (exI e)=exS e
 | .mk op n nm fd sub _=>by rw [exI,exIt_txt,exsI_txt sub,exS]
theorem exsI_txt:∀ l:List Ex,(exsI l).map itS=exsS l
 | []=>rfl
 | x::l=>by rw [exsI,List.map_cons,exI_txt x,exsI_txt l,exsS]
end
def EndOk (r:Str):Prop:=HdNo bodyB r∧HdNo (fun c=>c==35) r
theorem end_cons {c:UInt8} {r:Str} (h1:bodyB c=false) (h2:(c==35)=false):EndOk (c::r):=
 ⟨fun d l e=>by rw [←(List.cons.inj e).1];exact h1,fun d l e=>by
  have e:=(List.cons.inj e).1;subst e;exact h2⟩
theorem truth_word (n:Int):wordB (truthS n)=true:=by
 unfold truthS;split<;>decide
theorem op_fits {op:Int} (h8:8≤op) (h21:op≤21) (r:Str):Fits (if op=12∨op=19∨op=20∨op=21 then 2 else 4) (opS op) 0 (32::r):=by
 have hb:HdNo bodyB (32::r):=(end_cons (by decide) (by decide)).1;have ha:∀ c:UInt8,(afterB c 32=true)→∀ d l,(32::r:Str)=d::l→afterB c d=true:=fun c hc d l e=>by rw [←(List.cons.inj e).1];exact hc
 rcases (show op=8∨op=9∨op=10∨op=11∨op=12∨op=13∨op=14∨op=15∨op=16∨op=17∨op=18∨op=19∨op=20∨op=21 by omega) with rfl|rfl|rfl|rfl|rfl|rfl|rfl|rfl|rfl|rfl|rfl|rfl|rfl|rfl
 ·exact fits_sg (c:=43) (by decide) (ha 43 (by decide))
 ·exact fits_sg (c:=45) (by decide) (ha 45 (by decide))
 ·exact fits_sg (c:=42) (by decide) (ha 42 (by decide))
 ·exact fits_sg (c:=47) (by decide) (ha 47 (by decide))
 ·exact fits_wd (s:=[77,79,68]) (by decide) hb
 ·exact fits_sg (c:=61) (by decide) (ha 61 (by decide))
 ·exact fits_sg2 (t:=[60,62]) (by decide)
 ·exact fits_sg (c:=60) (by decide) (ha 60 (by decide))
 ·exact fits_sg (c:=62) (by decide) (ha 62 (by decide))
 ·exact fits_sg2 (t:=[60,61]) (by decide)
 ·exact fits_sg2 (t:=[62,61]) (by decide)
 ·exact fits_wd (s:=[65,78,68]) (by decide) hb
 ·exact fits_wd (s:=[88,79,82]) (by decide) hb
 ·exact fits_wd (s:=[79,82]) (by decide) hb
theorem after_any {t:UInt8} (h:t≠40∧t≠47∧t≠58∧t≠60∧t≠62∧t≠46) (d:UInt8):afterB t d=true:=by
 unfold afterB;rw [if_neg h.1,if_neg h.2.1,if_neg h.2.2.1,if_neg h.2.2.2.1,if_neg h.2.2.2.2.1,if_neg h.2.2.2.2.2]
theorem fits_any {t:UInt8} (hs:singles.contains t=true) (h:t≠40∧t≠47∧t≠58∧t≠60∧t≠62∧t≠46) (r:Str):Fits 4 [t] 0 r:=fits_sg hs (fun d l _=>after_any h d)
theorem fits_hd {t c:UInt8} {r:Str} (hs:singles.contains t=true) (h:afterB t c=true):Fits 4 [t] 0 (c::r):=fits_sg hs (fun d l e=>by rw [←(List.cons.inj e).1];exact h)
def HdOk (s:Str):Prop:=∃ c l,s=c::l∧(alphaB c=true∨numB c=true∨c=40)
theorem name_hd {s:Str} (h:nmB s=true):∃ c l,s=c::l∧alphaB c=true:=by
 cases s with
 | nil=>cases h
 | cons c l=>
  have h2:(alphaB c&&_)=true:=h;rw [Bool.and_eq_true] at h2;exact ⟨c,l,rfl,h2.1⟩
theorem hd_after {c:UInt8} (h:alphaB c=true∨numB c=true∨c=40):afterB 40 c=true∧afterB 46 c=true:=by
 have h2:c≠42∧c≠46:=by
  rcases h with h|h|h
  ·exact ⟨fun e=>by rw [e] at h;exact absurd h (by decide),fun e=>by rw [e] at h;exact absurd h (by decide)⟩
  ·exact ⟨fun e=>by rw [e] at h;exact absurd h (by decide),fun e=>by rw [e] at h;exact absurd h (by decide)⟩
  ·rw [h];exact ⟨by decide,by decide⟩
 unfold afterB;rw [if_pos rfl,if_neg (by decide),if_neg (by decide),if_neg (by decide),if_neg (by decide),if_neg (by decide),if_pos rfl,bne_iff_ne,bne_iff_ne];exact h2
theorem exS_hd:∀ e:Ex,exB e=true→HdOk (exS e)
 | .mk op n nm fd sub ln,h=>by
  rw [exB,Bool.and_eq_true] at h;have h1:=h.1;unfold exOk at h1;simp only [Bool.and_eq_true,decide_eq_true_eq,beq_iff_eq] at h1;obtain ⟨⟨ho1,ho2⟩,hn1,hn2,hnm,hfd,hk⟩:=h1;rw [exS];rcases (show op=1∨op=2∨op=3∨op=4∨op=5∨op=6∨op=7∨8≤op by omega) with rfl|rfl|rfl|rfl|rfl|rfl|rfl|h8
  ·show HdOk (numS n)
   have e:numS n=Lib.decDigits n.toNat:=by unfold numS Lib.itoa;rw [if_neg (by omega)]
   rw [e];obtain ⟨a,b,c⟩:=dec_all n.toNat;cases hl:Lib.decDigits n.toNat with
   | nil=>exact absurd hl c
   | cons x m=>
    rw [hl,List.all_cons,Bool.and_eq_true] at a;exact ⟨x,m,rfl,Or.inr (Or.inl a.1)⟩
  ·show HdOk (truthS n)
   unfold truthS;split
   ·exact ⟨_,_,rfl,Or.inl (by decide)⟩
   ·exact ⟨_,_,rfl,Or.inl (by decide)⟩
  ·obtain ⟨c,l,e,a⟩:=name_hd (s:=nm) hnm
   exact ⟨c,l,e,Or.inl a⟩
  ·obtain ⟨c,l,e,a⟩:=name_hd (s:=nm) hnm
   subst e;exact ⟨c,_,rfl,Or.inl a⟩
  ·obtain ⟨c,l,e,a⟩:=name_hd (s:=nm) hnm
   subst e;exact ⟨c,_,rfl,Or.inl a⟩
  ·exact ⟨40,_,rfl,Or.inr (Or.inr rfl)⟩
  ·exact ⟨40,_,rfl,Or.inr (Or.inr rfl)⟩
  ·unfold exT
   rw [if_neg (by omega),if_neg (by omega),if_neg (by omega),if_neg (by omega),if_neg (by omega),if_neg (by omega),if_neg (by omega)];exact ⟨40,_,rfl,Or.inr (Or.inr rfl)⟩
theorem subs_e8 {o:Int} (h:8≤o):subsE o=2:=by unfold subsE;rw [if_neg (by omega),if_pos h]
theorem one_of {α:Type} {l:List α} (h:l.length=1):∃ a,l=[a]:=List.length_eq_one_iff.1 h
theorem two_of {α:Type} {l:List α} (h:l.length=2):∃ a b,l=[a,b]:=by
 match l,h with
 | [a,b],_=>exact ⟨a,b,rfl⟩
theorem par_ok {L:List It} (h:ItOk L):ItOk (.sg 4 [41] 0::L)∧EndOk (itS (.sg 4 [41] 0::L)):=
 ⟨⟨fits_any (by decide) (by decide) _,h⟩,end_cons (by decide) (by decide)⟩
def OkE (N:Nat):Prop:=∀ e:Ex,SizeOf.sizeOf e<N→exB e=true→∀ L:List It,ItOk L→EndOk (itS L)→ItOk (exI e++L)
theorem exI_step {N:Nat} (IH:OkE N):OkE (N+1):=by
 intro e hN h L hL hE;obtain ⟨op,n,nm,fd,sub,ln⟩:=e;simp only [Ex.mk.sizeOf_spec] at hN;rw [exB,Bool.and_eq_true] at h;obtain ⟨h1,hsb⟩:=h;unfold exOk at h1;simp only [Bool.and_eq_true,decide_eq_true_eq,beq_iff_eq] at h1;obtain ⟨⟨ho1,ho2⟩,hn1,hn2,hnm,hfd,hk⟩:=h1;rw [exI];rcases (show op=1∨op=2∨op=3∨op=4∨op=5∨op=6∨op=7∨8≤op by omega) with rfl|rfl|rfl|rfl|rfl|rfl|rfl|h8
 ·exact ⟨fits_num hn1 hn2 hE.1 hE.2,hL⟩
 ·exact ⟨fits_wd (truth_word n) hE.1,hL⟩
 ·exact ⟨fits_name hnm hE.1,hL⟩
 ·obtain ⟨y,rfl⟩:=one_of (show sub.length=1 from hk)
  rw [exsB,Bool.and_eq_true] at hsb
  show ItOk (.sg 1 nm 0::.sg 4 [91] 0::((exI y++[.sg 4 [93] 0])++L))
  rw [List.append_assoc];exact ⟨fits_name hnm (end_cons (by decide) (by decide)).1,fits_any (by decide) (by decide) _,IH y (by simp only [List.cons.sizeOf_spec] at hN;omega) hsb.1 _ ⟨fits_any (by decide) (by decide) _,hL⟩ (end_cons (by decide) (by decide))⟩
 ·obtain ⟨c,l,e,a⟩:=name_hd (s:=fd) hfd
  show ItOk (.sg 1 nm 0::.sg 4 [46] 0::.sg 1 fd 0::L)
  refine ⟨fits_name hnm (end_cons (by decide) (by decide)).1,?_,fits_name hfd hE.1,hL⟩
  show Fits 4 [46] 0 (fd++itS L)
  rw [e];exact fits_hd (by decide) (hd_after (Or.inl a)).2
 ·obtain ⟨y,rfl⟩:=one_of (show sub.length=1 from hk)
  rw [exsB,Bool.and_eq_true] at hsb
  show ItOk (.sg 4 [40] 0::.sg 4 [45] 0::((exI y++[.sg 4 [41] 0])++L))
  rw [List.append_assoc];exact ⟨fits_hd (by decide) (by decide),fits_any (by decide) (by decide) _,IH y (by simp only [List.cons.sizeOf_spec] at hN;omega) hsb.1 _ (par_ok hL).1 (par_ok hL).2⟩
 ·obtain ⟨y,rfl⟩:=one_of (show sub.length=1 from hk)
  rw [exsB,Bool.and_eq_true] at hsb
  show ItOk (.sg 4 [40] 0::.sg 2 [78,79,84] 0::.gap 32::((exI y++[.sg 4 [41] 0])++L))
  rw [List.append_assoc];exact ⟨fits_hd (by decide) (by decide),fits_wd (by decide) (end_cons (by decide) (by decide)).1,Or.inl rfl,IH y (by simp only [List.cons.sizeOf_spec] at hN;omega) hsb.1 _ (par_ok hL).1 (par_ok hL).2⟩
 ·obtain ⟨y,z,rfl⟩:=two_of (show sub.length=2 from hk.trans (subs_e8 h8))
  rw [exsB,exsB,Bool.and_eq_true,Bool.and_eq_true] at hsb;unfold exIt;rw [if_neg (by omega),if_neg (by omega),if_neg (by omega),if_neg (by omega),if_neg (by omega),if_neg (by omega),if_neg (by omega)]
  show ItOk (.sg 4 [40] 0::((exI y++(.gap 32::opI op::.gap 32::(exI z++[.sg 4 [41] 0])))++L))
  rw [List.append_assoc];have hz:ItOk ((exI z++[.sg 4 [41] 0])++L):=by
   rw [List.append_assoc];exact IH z (by simp only [List.cons.sizeOf_spec] at hN;omega) hsb.2.1 _ (par_ok hL).1 (par_ok hL).2
  refine ⟨?_,IH y (by simp only [List.cons.sizeOf_spec] at hN;omega) hsb.1 _ ⟨Or.inl rfl,op_fits h8 ho2 _,Or.inl rfl,hz⟩ (end_cons (by decide) (by decide))⟩;rw [itS_append,exI_txt];obtain ⟨c,l,e,a⟩:=exS_hd y hsb.1;rw [e];exact fits_hd (by decide) (hd_after a).1
theorem exI_all:∀ N,OkE N
 | 0=>fun _ h=>absurd h (by omega)
 | N+1=>exI_step (exI_all N)
theorem exI_ok {e:Ex} (h:exB e=true) {L:List It} (hL:ItOk L) (hE:EndOk (itS L)):ItOk (exI e++L):=exI_all (SizeOf.sizeOf e+1) e (by omega) h L hL hE
abbrev wdI (s:Str):It:=.sg 2 s 0
abbrev siI (c:UInt8):It:=.sg 4 [c] 0
def numI (n:Int):List It:=if n<0 then [siI 45,.sg 3 (numS (-n)) (-n).toNat] else [.sg 3 (numS n) n.toNat]
theorem numI_txt (n:Int):itS (numI n)=numS n:=by
 unfold numI;split
 ·rename_i h
  show 45::(numS (-n)++[])=numS n
  rw [List.append_nil];unfold numS Lib.itoa;rw [if_neg (show ¬ -n<0 by omega),if_pos h];rw [show (-n).toNat=n.natAbs by omega]
 ·show numS n++[]=numS n
  rw [List.append_nil]
def elseI:List (List It)→List It
 | []=>[]
 | b::l=>wdI [69,76,83,69]::.gap 10::(b++elseI l)
def ifI (w:Str):List (List It)→List (List It)→List It
 | [],bs=>elseI bs
 | c::cs,bs=>wdI w::.gap 32::(c++(.gap 32::wdI [84,72,69,78]::.gap 10::(bs.headD []++ifI [69,76,83,73,70] cs (bs.drop 1))))
def labI:Bool→List Int→List It
 | m,a::b::l=>(if m=true then [siI 44,.gap 32] else [])++numI a++(if b=a then [] else .sg 4 [46,46] 0::numI b)++labI true l
 | _,_=>[siI 58,.gap 10]
def caseI:List (List Int)→List (List It)→List It
 | [],bs=>elseI bs
 | l::ls,bs=>labI false l++bs.headD []++caseI ls (bs.drop 1)
def argI:Bool→List Str→List (List It)→List It
 | m,f::fs,cs=>(if m=true then [siI 44,.gap 32] else [])++[.sg 1 f 0,.gap 32,.sg 4 [58,61] 0,.gap 32]++cs.headD []++argI true fs (cs.drop 1)
 | _,[],_=>[]
theorem elseI_txt:∀ T:List (List It),itS (elseI T)=elseT (T.map itS)
 | []=>rfl
 | b::l=>by
  rw [elseI,List.map_cons,elseT,←elseI_txt l];simp only [itS,It.txt,itS_append,List.cons_append,List.nil_append]
theorem ifI_txt:∀ (C:List (List It)) (w:Str) (B:List (List It)),itS (ifI w C B)=ifT (w++[32]) (C.map itS) (B.map itS)
 | [],w,B=>by rw [ifI,List.map_nil,ifT,elseI_txt]
 | c::C,w,B=>by
  rw [ifI,List.map_cons,ifT,←head_itS,←List.map_drop,show ([69,76,83,73,70,32]:Str)=[69,76,83,73,70]++[32] from rfl,←ifI_txt C];simp only [itS,It.txt,itS_append,List.append_assoc,List.cons_append,List.nil_append]
theorem labI_txt:∀ (l:List Int) (m:Bool),itS (labI m l)=labT m l
 | [],m=>by cases m<;>rfl
 | [a],m=>by cases m<;>rfl
 | a::b::l,m=>by
  rw [labI,labT,itS_append,itS_append,itS_append,numI_txt,labI_txt l true];congr 1
  congr 1
  ·congr 1
   cases m<;>rfl
  ·split
   ·rfl
   ·show [46,46]++itS (numI b)=_
    rw [numI_txt]
theorem caseI_txt:∀ (ls:List (List Int)) (B:List (List It)),itS (caseI ls B)=caseT ls (B.map itS)
 | [],B=>by rw [caseI,caseT,elseI_txt]
 | l::ls,B=>by rw [caseI,caseT,itS_append,itS_append,labI_txt,head_itS,caseI_txt ls,List.map_drop]
theorem argI_txt:∀ (fs:List Str) (m:Bool) (C:List (List It)),itS (argI m fs C)=argT m fs (C.map itS)
 | [],m,C=>by rw [argI,argT];rfl
 | f::fs,m,C=>by
  rw [argI,argT,itS_append,itS_append,itS_append,head_itS,argI_txt fs true,List.map_drop];congr 1
  congr 1
  congr 1
  cases m<;>rfl
def stIt (op:Int) (nm:Str) (dst val:List It) (cs:List (List It)) (ls:List (List Int)) (fs:List Str) (bs:List (List It)):List It:=
 if op=1 then dst++(.gap 32::.sg 4 [58,61] 0::.gap 32::(val++[siI 59,.gap 10]))
 else if op=2 then ifI [73,70] cs bs++[wdI [69,78,68,95,73,70],siI 59,.gap 10]
 else if op=3 then wdI [67,65,83,69]::.gap 32::(val++(.gap 32::wdI [79,70]::.gap 10::(caseI ls bs++[wdI [69,78,68,95,67,65,83,69],siI 59,.gap 10])))
 else if op=4 then wdI [70,79,82]::.gap 32::.sg 1 nm 0::.gap 32::.sg 4 [58,61] 0::.gap 32::(cs.headD []++(.gap 32::wdI [84,79]::.gap 32::((cs.drop 1).headD []++(.gap 32::wdI [66,89]::.gap 32::((cs.drop 2).headD []++(.gap 32::wdI [68,79]::.gap 10::(bs.headD []++[wdI [69,78,68,95,70,79,82],siI 59,.gap 10])))))))
 else if op=5 then wdI [87,72,73,76,69]::.gap 32::(val++(.gap 32::wdI [68,79]::.gap 10::(bs.headD []++[wdI [69,78,68,95,87,72,73,76,69],siI 59,.gap 10])))
 else if op=6 then wdI [82,69,80,69,65,84]::.gap 10::(bs.headD []++(wdI [85,78,84,73,76]::.gap 32::(val++[.gap 32,wdI [69,78,68,95,82,69,80,69,65,84],siI 59,.gap 10])))
 else if op=7 then [wdI [69,88,73,84],siI 59,.gap 10]
 else if op=8 then [wdI [82,69,84,85,82,78],siI 59,.gap 10]
 else .sg 1 nm 0::siI 40::(argI false fs cs++[siI 41,siI 59,.gap 10])
theorem stIt_txt (op:Int) (nm:Str) (dst val:List It) (cs:List (List It)) (ls:List (List Int)) (fs:List Str) (bs:List (List It)) :
  itS (stIt op nm dst val cs ls fs bs)=stT op nm (itS dst) (itS val) (cs.map itS) ls fs (bs.map itS):=by
 have h0:=head_itS cs;have h1:=head_itS (cs.drop 1);have h2:=head_itS (cs.drop 2);have h3:=head_itS bs;rw [List.map_drop] at h1 h2;have e1:=ifI_txt cs [73,70] bs;have e2:=caseI_txt ls bs;have e3:=argI_txt fs false cs;unfold stIt stT;repeat' split
 all_goals
  simp only [itS,It.txt,itS_append,h0,h1,h2,h3,e1,e2,e3,List.append_assoc,List.append_nil,List.cons_append,List.nil_append]
mutual
def stI:St→List It
 | .mk op nm dst val conds labels fields blocks _=>stIt op nm (exI dst) (exI val) (exsI conds) labels fields (blksI blocks)
def stsI:List St→List It
 | []=>[]
 | x::l=>stI x++stsI l
def blksI:List (List St)→List (List It)
 | []=>[]
 | x::l=>stsI x::blksI l
end
mutual
theorem stI_txt:∀ x:St,itS (stI x)=stS x
 | .mk op nm dst val conds labels fields blocks _=>by rw [stI,stIt_txt,exI_txt,exI_txt,exsI_txt,blksI_txt blocks,stS]
theorem stsI_txt:∀ l:List St,itS (stsI l)=stsS l
 | []=>by rw [stsI,stsS];rfl
 | x::l=>by rw [stsI,itS_append,stI_txt x,stsI_txt l,stsS]
theorem blksI_txt:∀ l:List (List St),(blksI l).map itS=blksS l
 | []=>by rw [blksI,blksS];rfl
 | x::l=>by rw [blksI,List.map_cons,stsI_txt x,blksI_txt l,blksS]
end
def BlkOk (b:List It):Prop:=∀ L:List It,ItOk L→ItOk (b++L)
def CdOk (c:List It):Prop:=∀ L:List It,ItOk L→EndOk (itS L)→ItOk (c++L)
theorem numI_ok {n:Int} (h0:-9223372036854775808<n) (h1:n≤9223372036854775807):CdOk (numI n):=by
 intro L hL hE;unfold numI;split
 ·exact ⟨fits_any (by decide) (by decide) _,fits_num (by omega) (by omega) hE.1 hE.2,hL⟩
 ·exact ⟨fits_num (by omega) h1 hE.1 hE.2,hL⟩
theorem head_blk {T:List (List It)} (h:∀ b∈T,BlkOk b):BlkOk (T.headD []):=by
 cases T with
 | nil=>exact fun L hL=>hL
 | cons b l=>exact h b (List.mem_cons_self ..)
theorem head_cd {T:List (List It)} (h:∀ b∈T,CdOk b):CdOk (T.headD []):=by
 cases T with
 | nil=>exact fun L hL _=>hL
 | cons b l=>exact h b (List.mem_cons_self ..)
theorem mem_drop1 {α:Type} {P:α→Prop} {T:List α} (h:∀ b∈T,P b) (k:Nat):∀ b∈T.drop k,P b:=fun b hb=>h b (List.mem_of_mem_drop hb)
theorem elseI_ok:∀ {T:List (List It)},(∀ b∈T,BlkOk b)→BlkOk (elseI T)
 | [],_,L,hL=>hL
 | b::l,h,L,hL=>by
  rw [elseI,List.cons_append,List.cons_append,List.append_assoc];exact ⟨fits_wd (by decide) (end_cons (by decide) (by decide)).1,Or.inr rfl,h b (List.mem_cons_self ..) _ (elseI_ok (fun x hx=>h x (List.mem_cons_of_mem _ hx)) L hL)⟩
theorem ifI_ok:∀ {C:List (List It)} {w:Str} {B:List (List It)},wordB w=true→(∀ c∈C,CdOk c)→(∀ b∈B,BlkOk b)→BlkOk (ifI w C B)
 | [],w,B,_,_,hB,L,hL=>by rw [ifI];exact elseI_ok hB L hL
 | c::C,w,B,hw,hC,hB,L,hL=>by
  have h1:=ifI_ok (C:=C) (w:=[69,76,83,73,70]) (B:=B.drop 1) (by decide) (fun x hx=>hC x (List.mem_cons_of_mem _ hx)) (mem_drop1 hB 1) L hL;have h2:=head_blk hB _ h1;rw [ifI];simp only [List.cons_append,List.append_assoc];exact ⟨fits_wd hw (end_cons (by decide) (by decide)).1,Or.inl rfl,hC c (List.mem_cons_self ..) _ ⟨Or.inl rfl,fits_wd (by decide) (end_cons (by decide) (by decide)).1,Or.inr rfl,h2⟩ (end_cons (by decide) (by decide))⟩
def LabOk (l:List Int):Prop:=∀ n∈l,-9223372036854775808<n∧n≤9223372036854775807
theorem labI_end (l:List Int) (L:List It):EndOk (itS (labI true l++L)):=by
 match l with
 | []=>exact end_cons (by decide) (by decide)
 | [a]=>exact end_cons (by decide) (by decide)
 | a::b::l=>rw [labI];exact end_cons (by decide) (by decide)
theorem labI_ok:∀ {l:List Int} {m:Bool},LabOk l→BlkOk (labI m l)
 | [],m,_,L,hL=>by
  have:labI m []=[siI 58,.gap 10]:=by cases m<;>rfl
  rw [this];exact ⟨fits_hd (by decide) (by decide),Or.inr rfl,hL⟩
 | [a],m,_,L,hL=>by
  have:labI m [a]=[siI 58,.gap 10]:=by cases m<;>rfl
  rw [this];exact ⟨fits_hd (by decide) (by decide),Or.inr rfl,hL⟩
 | a::b::l,m,h,L,hL=>by
  have h1:=labI_ok (l:=l) (m:=true) (fun n hn=>h n (List.mem_cons_of_mem _ (List.mem_cons_of_mem _ hn))) L hL;have h2:=labI_end l L;have ha:=h a (List.mem_cons_self ..);have hb:=h b (List.mem_cons_of_mem _ (List.mem_cons_self ..));have h3:ItOk (numI a++((if b=a then [] else .sg 4 [46,46] 0::numI b)++(labI true l++L))):=by
   split
   ·exact numI_ok ha.1 ha.2 _ h1 h2
   ·refine numI_ok ha.1 ha.2 _ ⟨fits_sg2 (by decide),numI_ok hb.1 hb.2 _ h1 h2⟩ (end_cons (by decide) (by decide))
  rw [labI,List.append_assoc,List.append_assoc,List.append_assoc];cases m
  ·exact h3
  ·exact ⟨fits_any (by decide) (by decide) _,Or.inl rfl,h3⟩
theorem caseI_ok:∀ {ls:List (List Int)} {B:List (List It)},(∀ l∈ls,LabOk l)→(∀ b∈B,BlkOk b)→BlkOk (caseI ls B)
 | [],B,_,hB,L,hL=>by rw [caseI];exact elseI_ok hB L hL
 | l::ls,B,hl,hB,L,hL=>by
  rw [caseI,List.append_assoc,List.append_assoc];exact labI_ok (hl l (List.mem_cons_self ..)) _ (head_blk hB _ (caseI_ok (fun x hx=>hl x (List.mem_cons_of_mem _ hx)) (mem_drop1 hB 1) L hL))
theorem argI_end {fs:List Str} {C:List (List It)} {L:List It} (hE:EndOk (itS L)):EndOk (itS (argI true fs C++L)):=by
 cases fs with
 | nil=>rw [argI];exact hE
 | cons f fs=>rw [argI];exact end_cons (by decide) (by decide)
theorem argI_ok:∀ {fs:List Str} {m:Bool} {C:List (List It)},fs.all nmB=true→(∀ c∈C,CdOk c)→CdOk (argI m fs C)
 | [],m,C,_,_,L,hL,_=>by rw [argI];exact hL
 | f::fs,m,C,hf,hC,L,hL,hE=>by
  rw [List.all_cons,Bool.and_eq_true] at hf;have h1:=argI_ok (fs:=fs) (m:=true) (C:=C.drop 1) hf.2 (mem_drop1 hC 1) L hL hE;have h2:=head_cd hC _ h1 (argI_end hE);rw [argI,List.append_assoc,List.append_assoc,List.append_assoc];have h3:ItOk ([.sg 1 f 0,.gap 32,.sg 4 [58,61] 0,.gap 32]++(C.headD []++(argI true fs (C.drop 1)++L))):=⟨fits_name hf.1 (end_cons (by decide) (by decide)).1,Or.inl rfl,fits_sg2 (by decide),Or.inl rfl,h2⟩;cases m
  ·exact h3
  ·exact ⟨fits_any (by decide) (by decide) _,Or.inl rfl,h3⟩
end sh
namespace sh
open ChangeShapes WideShapes ChangeAt RowKit k rr tk tr
theorem ex_cd {e:Ex} (h:exB e=true):CdOk (exI e):=fun L hL hE=>exI_ok h hL hE
theorem exs_cd:∀ {l:List Ex},exsB l=true→∀ c∈exsI l,CdOk c
 | [],_,c,hc=>by rw [exsI] at hc;cases hc
 | x::l,h,c,hc=>by
  rw [exsB,Bool.and_eq_true] at h;rw [exsI] at hc;rcases List.mem_cons.1 hc with rfl|hc
  ·exact ex_cd h.1
  ·exact exs_cd h.2 c hc
theorem end_ok {s:Str} (hs:wordB s=true) {L:List It} (hL:ItOk L):ItOk (wdI s::siI 59::.gap 10::L):=⟨fits_wd hs (end_cons (by decide) (by decide)).1,fits_any (by decide) (by decide) _,Or.inr rfl,hL⟩
theorem semi_ok {L:List It} (hL:ItOk L):ItOk (siI 59::.gap 10::L)∧EndOk (itS (siI 59::.gap 10::L)):=⟨⟨fits_any (by decide) (by decide) _,Or.inr rfl,hL⟩,end_cons (by decide) (by decide)⟩
theorem gap_word {s:Str} {c:UInt8} (hs:wordB s=true) (hc:c=32∨c=10) {L:List It} (hL:ItOk L):ItOk (.gap 32::wdI s::.gap c::L)∧EndOk (itS (.gap 32::wdI s::.gap c::L)):=
 ⟨⟨Or.inl rfl,fits_wd hs (by rcases hc with rfl|rfl<;>exact (end_cons (by decide) (by decide)).1),hc,hL⟩,end_cons (by decide) (by decide)⟩
theorem lab_ok {l:List Int} (h:labB l=true) (hi:∀ n∈l,InI n):LabOk l:=by
 unfold labB at h;simp only [Bool.and_eq_true,List.all_eq_true] at h;intro n hn;have h1:=h.2.2 n hn;rw [bne_iff_ne] at h1;have h2:=hi n hn;unfold InI at h2;omega
def OkS (N:Nat):Prop:=∀ x:St,SizeOf.sizeOf x<N→stB x=true→inS x→BlkOk (stI x)
theorem sts_blk {N:Nat} (IH:OkS N):∀ {l:List St},SizeOf.sizeOf l≤N→stsB l=true→inSs l→BlkOk (stsI l)
 | [],_,_,_,L,hL=>by rw [stsI];exact hL
 | x::l,hN,h,hi,L,hL=>by
  simp only [List.cons.sizeOf_spec] at hN;rw [stsB,Bool.and_eq_true] at h;rw [inSs] at hi;rw [stsI,List.append_assoc];exact IH x (by omega) h.1 hi.1 _ (sts_blk IH (by omega) h.2 hi.2 L hL)
theorem blks_blk {N:Nat} (IH:OkS N):∀ {l:List (List St)},SizeOf.sizeOf l≤N→blksB l=true→inBs l→∀ b∈blksI l,BlkOk b
 | [],_,_,_,b,hb=>by rw [blksI] at hb;cases hb
 | x::l,hN,h,hi,b,hb=>by
  simp only [List.cons.sizeOf_spec] at hN;rw [blksB,Bool.and_eq_true] at h;rw [inBs] at hi;rw [blksI] at hb;rcases List.mem_cons.1 hb with rfl|hb
  ·exact sts_blk IH (by omega) h.1 hi.1
  ·exact blks_blk IH (by omega) h.2 hi.2 b hb
theorem stI_step {N:Nat} (IH:OkS N):OkS (N+1):=by
 intro x hN hb hi L hL;obtain ⟨op,nm,dst,val,cs,ls,fs,bs,ln⟩:=x;simp only [St.mk.sizeOf_spec] at hN;rw [stB_fit] at hb;simp only [Bool.and_eq_true] at hb;obtain ⟨hin,hnm,hd,hv,hc,hcn,hf,hlb,hbl⟩:=hb;rw [inS] at hi;obtain ⟨hi1,hi2⟩:=hi;have hC:=exs_cd hc;have hB:=blks_blk IH (l:=bs) (by omega) hbl hi2;have hL':∀ l∈ls,LabOk l:=fun l hl=>lab_ok (by rw [List.all_eq_true] at hlb;exact hlb l hl) (hi1 l hl)
 unfold inS9 at hin;simp only [Bool.and_eq_true,decide_eq_true_eq] at hin;rw [stI];rcases (show op=1∨op=2∨op=3∨op=4∨op=5∨op=6∨op=7∨op=8∨op=9 by omega) with rfl|rfl|rfl|rfl|rfl|rfl|rfl|rfl|rfl
 ·have hd:placeB dst=true:=hd
  have hv:(!noE val&&exB val)=true:=hv;unfold placeB at hd;rw [Bool.and_eq_true] at hd hv
  show ItOk ((exI dst++(.gap 32::.sg 4 [58,61] 0::.gap 32::(exI val++[siI 59,.gap 10])))++L)
  simp only [List.append_assoc,List.cons_append,List.nil_append];exact ex_cd hd.2 _ ⟨Or.inl rfl,fits_sg2 (by decide),Or.inl rfl,ex_cd hv.2 _ (semi_ok hL).1 (semi_ok hL).2⟩ (end_cons (by decide) (by decide))
 ·show ItOk ((ifI [73,70] (exsI cs) (blksI bs)++[wdI [69,78,68,95,73,70],siI 59,.gap 10])++L)
  simp only [List.append_assoc,List.cons_append,List.nil_append];exact ifI_ok (by decide) hC hB _ (end_ok (by decide) hL)
 ·have hv:(!noE val&&exB val)=true:=hv
  rw [Bool.and_eq_true] at hv
  show ItOk (wdI [67,65,83,69]::.gap 32::((exI val++(.gap 32::wdI [79,70]::.gap 10::(caseI ls (blksI bs)++[wdI [69,78,68,95,67,65,83,69],siI 59,.gap 10])))++L))
  simp only [List.append_assoc,List.cons_append,List.nil_append];have h1:=caseI_ok hL' hB _ (end_ok (s:=[69,78,68,95,67,65,83,69]) (by decide) hL);have h2:=gap_word (s:=[79,70]) (c:=10) (by decide) (Or.inr rfl) h1;exact ⟨fits_wd (by decide) (end_cons (by decide) (by decide)).1,Or.inl rfl,ex_cd hv.2 _ h2.1 h2.2⟩
 ·have hnm:nmB nm=true:=hnm
  show ItOk (wdI [70,79,82]::.gap 32::.sg 1 nm 0::.gap 32::.sg 4 [58,61] 0::.gap 32::(((exsI cs).headD []++(.gap 32::wdI [84,79]::.gap 32::(((exsI cs).drop 1).headD []++(.gap 32::wdI [66,89]::.gap 32::(((exsI cs).drop 2).headD []++(.gap 32::wdI [68,79]::.gap 10::((blksI bs).headD []++[wdI [69,78,68,95,70,79,82],siI 59,.gap 10])))))))++L))
  simp only [List.append_assoc,List.cons_append,List.nil_append];have h1:=head_blk hB _ (end_ok (s:=[69,78,68,95,70,79,82]) (by decide) hL);have h2:=gap_word (s:=[68,79]) (c:=10) (by decide) (Or.inr rfl) h1;have h3:=gap_word (s:=[66,89]) (c:=32) (by decide) (Or.inl rfl) (head_cd (mem_drop1 hC 2) _ h2.1 h2.2);have h4:=gap_word (s:=[84,79]) (c:=32) (by decide) (Or.inl rfl) (head_cd (mem_drop1 hC 1) _ h3.1 h3.2);exact ⟨fits_wd (by decide) (end_cons (by decide) (by decide)).1,Or.inl rfl,fits_name hnm (end_cons (by decide) (by decide)).1,Or.inl rfl,fits_sg2 (by decide),Or.inl rfl,head_cd hC _ h4.1 h4.2⟩
 ·have hv:(!noE val&&exB val)=true:=hv
  rw [Bool.and_eq_true] at hv
  show ItOk (wdI [87,72,73,76,69]::.gap 32::((exI val++(.gap 32::wdI [68,79]::.gap 10::((blksI bs).headD []++[wdI [69,78,68,95,87,72,73,76,69],siI 59,.gap 10])))++L))
  simp only [List.append_assoc,List.cons_append,List.nil_append];have h1:=head_blk hB _ (end_ok (s:=[69,78,68,95,87,72,73,76,69]) (by decide) hL);have h2:=gap_word (s:=[68,79]) (c:=10) (by decide) (Or.inr rfl) h1;exact ⟨fits_wd (by decide) (end_cons (by decide) (by decide)).1,Or.inl rfl,ex_cd hv.2 _ h2.1 h2.2⟩
 ·have hv:(!noE val&&exB val)=true:=hv
  rw [Bool.and_eq_true] at hv
  show ItOk (wdI [82,69,80,69,65,84]::.gap 10::(((blksI bs).headD []++(wdI [85,78,84,73,76]::.gap 32::(exI val++[.gap 32,wdI [69,78,68,95,82,69,80,69,65,84],siI 59,.gap 10])))++L))
  simp only [List.append_assoc,List.cons_append,List.nil_append];have h1:=ex_cd hv.2 (.gap 32::wdI [69,78,68,95,82,69,80,69,65,84]::siI 59::.gap 10::L) ⟨Or.inl rfl,end_ok (by decide) hL⟩ (end_cons (by decide) (by decide));exact ⟨fits_wd (by decide) (end_cons (by decide) (by decide)).1,Or.inr rfl,head_blk hB _ ⟨fits_wd (by decide) (end_cons (by decide) (by decide)).1,Or.inl rfl,h1⟩⟩
 ·exact end_ok (s:=[69,88,73,84]) (by decide) hL
 ·exact end_ok (s:=[82,69,84,85,82,78]) (by decide) hL
 ·have hnm:nmB nm=true:=hnm
  show ItOk (.sg 1 nm 0::siI 40::((argI false fs (exsI cs)++[siI 41,siI 59,.gap 10])++L))
  simp only [List.append_assoc,List.cons_append,List.nil_append];have h1:ItOk (siI 41::siI 59::.gap 10::L):=⟨fits_any (by decide) (by decide) _,(semi_ok hL).1⟩;have h2:=argI_ok (m:=false) hf hC _ h1 (end_cons (by decide) (by decide));refine ⟨fits_name hnm (end_cons (by decide) (by decide)).1,?_,h2⟩;cases fs with
  | nil=>rw [argI];exact fits_hd (by decide) (by decide)
  | cons f fs=>
   rw [List.all_cons,Bool.and_eq_true] at hf;obtain ⟨c,l,e,a⟩:=name_hd hf.1;rw [argI];simp only [List.append_assoc,Bool.false_eq_true,if_false,List.nil_append,List.cons_append,itS,It.txt];rw [e];exact fits_hd (by decide) (hd_after (Or.inl a)).1
theorem stI_all:∀ N,OkS N
 | 0=>fun _ h=>absurd h (by omega)
 | N+1=>stI_step (stI_all N)
theorem stsI_ok {l:List St} (h:stsB l=true) (hi:inSs l):BlkOk (stsI l):=sts_blk (stI_all _) (Nat.le_refl _) h hi
end sh
end Go.Proofs.YtdefgghhkknnpaaGreatDoor

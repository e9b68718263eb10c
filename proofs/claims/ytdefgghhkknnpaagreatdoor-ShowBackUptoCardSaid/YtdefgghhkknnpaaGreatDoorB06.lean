/- The landed writer's choices, cases, counts and calls, over what the blocks give. Conditions: the statements are such that a text could give; what the writer holds stays within 2^47 bytes. The landed writer's cases, over what the blocks give. Conditions: the statement is such that a text could give; what the writer holds stays within 2^47 bytes. The landed writer's counts and calls, and its statements whole. Conditions: the statement is such that a text could give; what the writer holds stays within 2^47 bytes. The landed writer's statements, whole. Conditions: the statement is such that a text could give; what the writer holds stays within 2^47 bytes. Rows of whole numbers as the layer std takes and gives them, and its blocks as functions of their cells. No condition but what each line says. The landed checks of variables and of programs. Conditions: the library's variable MaxLen holds some number; a program has at most 2^40 parts. The landed text of a variable's type. Conditions: the variable is such that a text could give; the table of powers of ten lies as the library lays it. -/
import Derived.Test.YtdefgghhkknnpaaGreatDoorB05
import Derived.Lib.ItoaLen
set_option linter.unusedVariables false
set_option linter.unusedSimpArgs false
set_option maxRecDepth 100000
set_option maxHeartbeats 40000000
namespace Go.Proofs.YtdefgghhkknnpaaGreatDoor
namespace sh
open ChangeShapes WideShapes ChangeAt RowKit k rr tk tr
theorem cut_row {α:Type} {enc:α→List Value} {z:Nat} {w:World} {B:Nat} {A:Option Addr} {n cap:Nat} {L:List α} (h:Rd enc z w B A n cap L) (j:Nat) (hj:j≤n) :
  ∃ A2 c2,sliced A j n cap z=.slice A2 (n-j) c2∧Rd enc z w B A2 (n-j) c2 (L.drop j):=by
 have hl:=h.1;have hc:=h.2.1;have hm:=h.2.2.1;refine ⟨_,_,rfl,?_⟩;refine ⟨by rw [List.length_drop];omega,by omega,by omega,fun e=>?_,fun hp=>?_⟩
 ·cases A with
  | none=>have:=h.2.2.2.1 rfl;omega
  | some a=>
   by_cases hcj:cap=j
   ·omega
   ·rw [if_neg hcj] at e;cases e
 ·obtain ⟨b,off,rfl,hb,hx⟩:=h.2.2.2.2 (by omega)
  refine ⟨b,off+j*z,?_,hb,fun i x hi=>?_⟩
  ·rw [if_neg (show ¬ cap=j by omega)]
   simp only [Option.map_some];unfold Addr.add;by_cases h0:j*z=0
   ·rw [if_pos h0,h0,Nat.add_zero]
   ·rw [if_neg h0]
  ·rw [List.getElem?_drop] at hi
   have:=hx (j+i) x hi;rwa [Nat.add_mul,←Nat.add_assoc] at this
theorem exs_at {L:List Ex} {q:Nat} {x:Ex} (h:L[q]?=some x):exsS (L.drop q)=exS x::exsS (L.drop (q+1)):=by rw [drop_at h,exsS]
theorem blks_at {L:List (List St)} {q:Nat} {x:List St} (h:L[q]?=some x):blksS (L.drop q)=stsS x::blksS (L.drop (q+1)):=by rw [drop_at h,blksS]
theorem choice_any {N:Nat} (IH:WrB N) {h:SH} {cs:List Ex} {bs:List (List St)} {CH:List EH} {BH:List Sl} {B g:Nat} {l:Str} {w:World} (hK:Wx B g l w)
  (hC:RS eC 6 w B h.conds CH) (hCE:ExsAt w B cs CH) (hR:RS slC 1 w B h.blocks BH) (hE:BlksAt w B bs BH) (hcb:exsB cs=true) (hbb:blksB bs=true) (hi:inBs bs) (hN:SizeOf.sizeOf bs≤N)
  (hle:cs.length≤bs.length) (hlen:l.length+(ifT [73,70,32] (exsS cs) (blksS bs)++[69,78,68,95,73,70,59,10]).length≤lim) :
  Calls Tryz.prog 101 #[.pointer (some ⟨g,0,none⟩),.agg (sC h).toArray] w (Put B g l (ifT [73,70,32] (exsS cs) (blksS bs)++[69,78,68,95,73,70,59,10]) w):=by
 obtain ⟨w1,e1,K1,H1,F1,ng⟩:=hK.box (sC h) 49;obtain ⟨T,hT⟩:∃ T,ifT [73,70,32] (exsS cs) (blksS bs)=T:=⟨_,rfl⟩;rw [hT] at hlen ⊢;obtain ⟨TT,hTT⟩:∃ TT,T++[69,78,68,95,73,70,59,10]=TT:=⟨_,rfl⟩;rw [hTT] at hlen ⊢;have hCX:∀ (x:List St) (q:Nat),bs[q]?=some x→BlkC x:=fun x q hx=>IH x (by have:=at_size hx;omega) (blksB_at' hbb hx) (inBs_at hi hx)
 obtain ⟨op,nm,hd,hv,⟨A1,n,c1⟩,sl2,sl3,⟨A4,m,c4⟩,ln⟩:=h;have hC:Rd eC 6 w B A1 n c1 CH:=hC;have hR:Rd slC 1 w B A4 m c4 BH:=hR;have hn1:CH.length=n:=hC.1;have hm1:BH.length=m:=hR.1;have hcl:=hCE.len;have hbl:=hE.len;have hnl:=hC.len_le;have hml:=hR.len_le;obtain ⟨A5,c5,hcut,hR5⟩:=cut_row hR n (by omega);have hmax:=hR.2.1;have hmax2:=hR.2.2.1;have ST:=qh fun (q:Nat) (h:Sl) (hq:BH[q]?=some h)=>hE.at hq
 have EL:=qh fun (l':Str) (W:World) (hf:Fr B g w W) (hW:Wx B g l' W) (hl:l'.length+(elseT (blksS (bs.drop n))).length≤lim)=>
  else_any (L:=bs.drop n) (s:=⟨A5,m-n,c5⟩) (H:=BH.drop n) (fun x q hx=>hCX x (n+q) (by rw [←List.getElem?_drop];exact hx)) hW (hR5.below hf.1)
   (fun q h hq=>by
    obtain ⟨x,hx,hxa⟩:=ST.out (n+q) h (by rw [←List.getElem?_drop];exact hq);exact ⟨x,by rw [List.getElem?_drop];exact hx,hxa.below hf.1 (Nat.le_refl _)⟩) (by rw [List.length_drop,List.length_drop,hbl]) hl
 have SLF:=qh (show ∀ w:World,(Instr.slice 47 (.slice A4 m c4) (some (.int .i64 (n:Int))) none none).run Tryz.prog w=.ok (.slice A5 (m-n) c5) w from fun w=>by
  rw [run_slice_l w _ A4 m c4 (by kernel_rfl) .i64 _ (by omega) (by omega),Int.toNat_natCast,hcut.symm];kernel_rfl)
 have CXE:=qh fun (q:Nat) (h:EH) (hq:CH[q]?=some h)=>hCE.at hq
 have CXB:=qh fun (q:Nat) (x:Ex) (hq:cs[q]?=some x)=>exsB_at' hcb hq
 have CX:=qh hCX;have HT:=qh hT;have HTT:=qh hTT;have HL:=qh hlen;have HC:=qh hC;have HR:=qh hR;have HN:=qh (show CH.length=n∧BH.length=m∧CH.length=cs.length∧BH.length=bs.length∧n≤m from ⟨hn1,hm1,hcl,hbl,by omega⟩);have NG:=qh ng;have K1:=qh K1;have H1:=qh H1;have F1:=qh F1;clear hK ng hC hR hn1 hm1 hcl hbl hml hcut hR5 hmax hmax2 hCX hE hCE hcb hbb hi hN hle hlen hT hTT IH;go_enter Tryz.func101,Tryz.ntmps101
 go_upto_region 1 with (fail)
 subst e1;generalize w.alloc (.cells (sC ⟨op,nm,hd,hv,⟨A1,n,c1⟩,sl2,sl3,⟨A4,m,c4⟩,ln⟩).toArray 49)=w1 at *;have c14:=(cell_of H1.out.box (i:=14) rfl).1;simp only [Sl.v] at c14;go_upto_region 3 with (fail)
 clear c14;go_loopw [4,10] (fun s4 s10 wr=>∃ (q:Nat) (t1 wd:Str),q≤n∧s10=.int .i64 q∧s4=.string ⟨wd.toArray⟩∧t1++ifT wd (exsS (cs.drop q)) (blksS (bs.drop q))=T∧Wx B g (l++t1) wr∧Fr B g w1 wr) (fun _ i _=>n-(intOf i).toNat)
 case atStart=>exact ⟨0,[],[73,70,32],Nat.zero_le _,rfl,rfl,by rw [List.drop_zero,List.drop_zero];exact HT.out,by rw [List.append_nil];exact K1.out,Fr.refl _ _ _⟩
 case round=>
  obtain ⟨q,t1,wd,hq,rfl,rfl,ht,hk,hf⟩:=hrel;have h2:=H1.out.fr hf NG.out (by decide);by_cases hlt:q<n
  rotate_left
  ·obtain rfl:q=n:=by omega
   have hz:¬ (q:Int)<q:=by omega
   rw [List.drop_of_length_le (l:=cs) (by have:=HN.out;omega),exsS,ifT] at ht;have hlT:l.length+t1.length+(elseT (blksS (bs.drop q))).length+8≤lim:=by
    have h1:=HL.out;rw [←HTT.out,←ht] at h1;simp only [List.length_append,List.length_cons,List.length_nil] at h1;omega
   have EX:=qh (EL.out (l++t1) wr (F1.out.trans hf) hk (by rw [List.length_append];omega));have HTE:=qh ht;have HLT:=qh hlT;have FF:=qh (F1.out.trans hf);have hsl:=SLF.out;have c14:=(cell_of h2.box (i:=14) rfl).1;have c17:=(cell_of h2.box (i:=17) rfl).1;simp only [Sl.v] at c14 c17 EX;clear hk hf ht hlT h2 EL;go_wp2_with (go_at_call 128;fail)
   refine EX.out.mono ?_;rintro e w3 ⟨rfl,k9,f9⟩;rw [List.append_assoc,HTE.out] at k9;have K3:=qh k9;have F3:=qh (FF.out.trans f9);clear k9 f9 EX FF c14 c17 hsl;go_wp2_with (go_at_call 35;fail)
   refine (put_new [[69,78,68,95,73,70,59,10]] (t:=[69,78,68,95,73,70,59,10]) rfl K3.out (by decide) (by have h1:=HL.out;rw [←HTT.out] at h1;simp only [List.length_append,List.length_cons,List.length_nil] at h1 ⊢;omega)).mono ?_;rintro e w4 ⟨rfl,k9,f9⟩;rw [List.append_assoc,HTT.out] at k9;have K4:=qh k9;have F4:=qh (F3.out.trans f9);clear k9 f9 K3 F3;go_wp2_with fail
   go_end0
   exact ⟨rfl,K4.out,F4.out⟩
  have r1:Rd eC 6 wr B A1 n c1 CH:=HC.out.below (F1.out.trans hf).1;obtain ⟨b1,o1,eh,rfl,hb1,hp,hc1⟩:=r1.at hlt;obtain ⟨x,hx,hxa⟩:=CXE.out q eh hp;have hxb:=CXB.out q x hx;have r2:Rd slC 1 wr B A4 m c4 BH:=HR.out.below (F1.out.trans hf).1;obtain ⟨b2,o2,bh,rfl,hb2,hp2,hc2⟩:=r2.at (i:=q) (by have:=HN.out;omega);obtain ⟨y,hy,hya⟩:=ST.out q bh hp2;rw [exs_at hx,blks_at hy,ifT] at ht;have ht2:(t1++(wd++exS x++[32,84,72,69,78,10]++stsS y))++ifT [69,76,83,73,70,32] (exsS (cs.drop (q+1))) (blksS (bs.drop (q+1)))=T:=by
   rw [←ht];simp only [List.append_assoc,List.headD_cons,List.drop_succ_cons,List.drop_zero]
  have hlT:l.length+t1.length+wd.length+(exS x).length+6+(stsS y).length≤lim:=by
   have h1:=HL.out;rw [←HTT.out,←ht2] at h1;simp only [List.length_append,List.length_cons,List.length_nil] at h1;omega
  have w1':=nat_step q (by omega);have hci:=qh hc1;have a0:wr.cell? ⟨b2,o2+q,none⟩=some bh.v:=by
   have a0:=hc2 0 _ rfl;rw [Nat.add_zero,Nat.mul_one] at a0;exact a0
  have BC:=qh fun W (hW:Fr B g wr W)=>(hW.1.cell (p:=⟨b2,o2+q,none⟩) hb2).trans a0
  clear a0;have KK:=qh hk;have FF:=qh hf;have H2:=qh h2;have XA:=qh hxa;have XB:=qh hxb;have YA:=qh hya;have HY:=qh hy;have HT2:=qh ht2;have HLX:=qh hlT;have LT:=qh hlt;have LM:=qh (show q<m by have:=HN.out;omega);clear hc1 hk hf hxa hxb hx ht ht2 hlT r1 r2 hp hp2 hb1 hb2 hc2 hy hya h2 EL SLF;go_upto_region 5 with (first|((with_reducible refine m_loadR hci.out 44 13 ?_ ?_ ?_ ?_ ?_ ?_);rfl;rfl;rfl;rfl;kernel_rfl)|((with_reducible refine m_new 44 6 14 ?_ ?_ ?_ (eC eh) ?_ ?_ ?_ ?_ (eC_one _) ?_);rfl;rfl;rfl;rfl;rfl;rfl;kernel_rfl;intro w4 hx hb hz))
  have X4:=qh hx;have K4:=qh (KK.out.below hb);have F4:=qh (FF.out.trans (Fr.of hb KK.out.le));have F4':=qh (Fr.of (B:=B) (g:=g) hb KK.out.le);clear hx hb hz hci KK FF hlt;go_wp2_with (first|((with_reducible refine m_load X4.out 44 6 ?_ ?_ ?_ ?_ ?_ ?_);rfl;rfl;rfl;rfl;kernel_rfl)|(go_at_call 100;fail))
  refine (around_any (a:=wd) (b:=[32,84,72,69,78,10]) K4.out (XA.out.below (F1.out.trans F4.out).1 (Nat.le_refl _)) XB.out (by have:=HLX.out;simp only [List.length_append,List.length_cons,List.length_nil];omega)).mono ?_;rintro e w5 ⟨rfl,k9,f9⟩;have K5:=qh k9;have F5:=qh (F4.out.trans f9);have F5':=qh (F4'.out.trans f9);clear k9 f9 K4 F4 F4' X4;have h5:=H1.out.fr F5.out NG.out (by decide);have c17:=(cell_of h5.box (i:=17) rfl).1;have a0:=BC.out _ F5'.out;have hlm:=LM.out;simp only [Sl.v] at c17 a0;have C2:=qh (CX.out y q HY.out bh B g _ w5 K5.out (YA.out.below (F1.out.trans F5.out).1 (Nat.le_refl _)) (by have h9:=HLX.out;simp only [List.length_append,List.length_cons,List.length_nil] at h9 ⊢;omega));simp only [Sl.v] at C2;clear h5;go_wp2_with (go_at_call 38;fail)
  refine C2.out.mono ?_;rintro e w6 ⟨rfl,k9,f9⟩;rw [List.append_assoc,List.append_assoc] at k9;have K6:=qh k9;have F6:=qh (F5.out.trans f9);clear k9 f9 K5 F5 C2 c17 a0 hlm;go_wp2_with fail
  go_roundw
  case rel=>exact ⟨q+1,t1++(wd++exS x++[32,84,72,69,78,10]++stsS y),[69,76,83,73,70,32],by have:=LT.out;omega,by go_num,rfl,HT2.out,K6.out,F6.out⟩
  case measure=>have:=LT.out;simp [intOf];omega
theorem cases_any {N:Nat} (IH:WrB N) {h:SH} {x:Ex} {ls:List (List Int)} {bs:List (List St)} {CH:List Sl} {BH:List Sl} {B g:Nat} {l:Str} {w:World} (hK:Wx B g l w)
  (hXA:ExAt w B x h.val) (hXB:exB x=true) (hC:RS slC 1 w B h.labels CH) (hCE:LabsAt w B ls CH) (hR:RS slC 1 w B h.blocks BH) (hE:BlksAt w B bs BH) (hcb:ls.all labB=true) (hci:∀ l∈ls,∀ n∈l,InI n) (hbb:blksB bs=true) (hi:inBs bs) (hN:SizeOf.sizeOf bs≤N)
  (hle:ls.length≤bs.length) (hlen:l.length+([67,65,83,69,32]++exS x++[32,79,70,10]++caseT ls (blksS bs)++[69,78,68,95,67,65,83,69,59,10]).length≤lim) :
  Calls Tryz.prog 102 #[.pointer (some ⟨g,0,none⟩),.agg (sC h).toArray] w (Put B g l ([67,65,83,69,32]++exS x++[32,79,70,10]++caseT ls (blksS bs)++[69,78,68,95,67,65,83,69,59,10]) w):=by
 obtain ⟨w1,e1,K1,H1,F1,ng⟩:=hK.box (sC h) 49;obtain ⟨T,hT⟩:∃ T,[67,65,83,69,32]++exS x++[32,79,70,10]++caseT ls (blksS bs)=T:=⟨_,rfl⟩;rw [hT] at hlen ⊢;obtain ⟨TT,hTT⟩:∃ TT,T++[69,78,68,95,67,65,83,69,59,10]=TT:=⟨_,rfl⟩;rw [hTT] at hlen ⊢;have hCX:∀ (x:List St) (q:Nat),bs[q]?=some x→BlkC x:=fun x q hx=>IH x (by have:=at_size hx;omega) (blksB_at' hbb hx) (inBs_at hi hx)
 obtain ⟨op,nm,hd,hv,sl1,⟨A1,n,c1⟩,sl3,⟨A4,m,c4⟩,ln⟩:=h;have hC:Rd slC 1 w B A1 n c1 CH:=hC;have hR:Rd slC 1 w B A4 m c4 BH:=hR;have hn1:CH.length=n:=hC.1;have hm1:BH.length=m:=hR.1;have hcl:=hCE.len;have hbl:=hE.len;have hnl:=hC.len_le;have hml:=hR.len_le;obtain ⟨A5,c5,hcut,hR5⟩:=cut_row hR n (by omega);have hmax:=hR.2.1;have hmax2:=hR.2.2.1;have ST:=qh fun (q:Nat) (h:Sl) (hq:BH[q]?=some h)=>hE.at hq
 have EL:=qh fun (l':Str) (W:World) (hf:Fr B g w W) (hW:Wx B g l' W) (hl:l'.length+(elseT (blksS (bs.drop n))).length≤lim)=>
  else_any (L:=bs.drop n) (s:=⟨A5,m-n,c5⟩) (H:=BH.drop n) (fun x q hx=>hCX x (n+q) (by rw [←List.getElem?_drop];exact hx)) hW (hR5.below hf.1)
   (fun q h hq=>by
    obtain ⟨x,hx,hxa⟩:=ST.out (n+q) h (by rw [←List.getElem?_drop];exact hq);exact ⟨x,by rw [List.getElem?_drop];exact hx,hxa.below hf.1 (Nat.le_refl _)⟩) (by rw [List.length_drop,List.length_drop,hbl]) hl
 have SLF:=qh (show ∀ w:World,(Instr.slice 47 (.slice A4 m c4) (some (.int .i64 (n:Int))) none none).run Tryz.prog w=.ok (.slice A5 (m-n) c5) w from fun w=>by
  rw [run_slice_l w _ A4 m c4 (by kernel_rfl) .i64 _ (by omega) (by omega),Int.toNat_natCast,hcut.symm];kernel_rfl)
 have CXE:=qh fun (q:Nat) (h:Sl) (hq:CH[q]?=some h)=>hCE.at hq
 have CXB:=qh fun (q:Nat) (x:List Int) (hq:ls[q]?=some x)=>(show x.length % 2=0∧∀ n∈x,InI n from by
  have hm:=List.mem_of_getElem? hq;refine ⟨?_,hci x hm⟩;rw [List.all_eq_true] at hcb;have:=hcb x hm;simp only [labB,Bool.and_eq_true,beq_iff_eq] at this;exact this.2.1)
 have hcs:([67,65,83,69,32]++exS x++[32,79,70,10]:Str).length+(caseT ls (blksS bs)).length+10=TT.length:=by
  rw [←hTT,←hT];simp only [List.length_append,List.length_cons,List.length_nil]
 have AR:=qh (around_any (x:=x) (a:=[67,65,83,69,32]) (b:=[32,79,70,10]) K1 (hXA.below F1.1 (Nat.le_refl _)) hXB (by omega));have CX:=qh hCX;have HT:=qh hT;have HTT:=qh hTT;have HL:=qh hlen;have HC:=qh hC;have HR:=qh hR;have HN:=qh (show CH.length=n∧BH.length=m∧CH.length=ls.length∧BH.length=bs.length∧n≤m from ⟨hn1,hm1,hcl,hbl,by omega⟩);have NG:=qh ng;have K1:=qh K1;have H1:=qh H1;have F1:=qh F1;clear hK ng hC hR hn1 hm1 hcl hbl hml hcut hR5 hmax hmax2 hCX hE hCE hcb hci hcs hbb hi hN hle hlen hT hTT IH hXA hXB;go_enter Tryz.func102,Tryz.ntmps102
 go_upto_region 1 with (fail)
 subst e1;generalize w.alloc (.cells (sC ⟨op,nm,hd,hv,sl1,⟨A1,n,c1⟩,sl3,⟨A4,m,c4⟩,ln⟩).toArray 49)=w1 at *;go_wp2_with (first|((with_reducible refine m_loadR (st_val H1.out.box) 44 7 ?_ ?_ ?_ ?_ ?_ ?_);rfl;rfl;rfl;rfl;kernel_rfl)|(go_at_call 100;fail))
 refine AR.out.mono ?_;rintro e w2 ⟨rfl,k9,f9⟩;have K2:=qh k9;have F2:=qh f9;clear k9 f9 AR;have h2:=H1.out.fr F2.out NG.out (by decide);have c15:=(cell_of h2.box (i:=15) rfl).1;simp only [Sl.v] at c15;clear h2;go_upto_region 3 with (fail)
 clear c15;go_loopw [13] (fun s13 wr=>∃ (q:Nat) (t1:Str),q≤n∧s13=.int .i64 q∧t1++caseT (ls.drop q) (blksS (bs.drop q))=T∧Wx B g (l++t1) wr∧Fr B g w1 wr) (fun i _=>n-(intOf i).toNat)
 case atStart=>exact ⟨0,[67,65,83,69,32]++exS x++[32,79,70,10],Nat.zero_le _,rfl,by rw [List.drop_zero,List.drop_zero];exact HT.out,K2.out,F2.out⟩
 case round=>
  obtain ⟨q,t1,hq,rfl,ht,hk,hf⟩:=hrel;have h2:=H1.out.fr hf NG.out (by decide);by_cases hlt:q<n
  rotate_left
  ·obtain rfl:q=n:=by omega
   have hz:¬ (q:Int)<q:=by omega
   rw [List.drop_of_length_le (l:=ls) (by have:=HN.out;omega),caseT] at ht;have hlT:l.length+t1.length+(elseT (blksS (bs.drop q))).length+10≤lim:=by
    have h1:=HL.out;rw [←HTT.out,←ht] at h1;simp only [List.length_append,List.length_cons,List.length_nil] at h1;omega
   have EX:=qh (EL.out (l++t1) wr (F1.out.trans hf) hk (by rw [List.length_append];omega));have HTE:=qh ht;have HLT:=qh hlT;have FF:=qh (F1.out.trans hf);have hsl:=SLF.out;have c14:=(cell_of h2.box (i:=15) rfl).1;have c17:=(cell_of h2.box (i:=17) rfl).1;simp only [Sl.v] at c14 c17 EX;clear hk hf ht hlT h2 EL;go_wp2_with (go_at_call 128;fail)
   refine EX.out.mono ?_;rintro e w3 ⟨rfl,k9,f9⟩;rw [List.append_assoc,HTE.out] at k9;have K3:=qh k9;have F3:=qh (FF.out.trans f9);clear k9 f9 EX FF c14 c17 hsl;go_wp2_with (go_at_call 35;fail)
   refine (put_new [[69,78,68,95,67,65,83,69,59,10]] (t:=[69,78,68,95,67,65,83,69,59,10]) rfl K3.out (by decide) (by have h1:=HL.out;rw [←HTT.out] at h1;simp only [List.length_append,List.length_cons,List.length_nil] at h1 ⊢;omega)).mono ?_;rintro e w4 ⟨rfl,k9,f9⟩;rw [List.append_assoc,HTT.out] at k9;have K4:=qh k9;have F4:=qh (F3.out.trans f9);clear k9 f9 K3 F3;go_wp2_with fail
   go_end0
   exact ⟨rfl,K4.out,F4.out⟩
  have r1:Rd slC 1 wr B A1 n c1 CH:=HC.out.below (F1.out.trans hf).1;obtain ⟨b1,o1,eh,rfl,hb1,hp,hc1⟩:=r1.at hlt;obtain ⟨y0,hx,hxa⟩:=CXE.out q eh hp;have hxb:=CXB.out q y0 hx;have r2:Rd slC 1 wr B A4 m c4 BH:=HR.out.below (F1.out.trans hf).1;obtain ⟨b2,o2,bh,rfl,hb2,hp2,hc2⟩:=r2.at (i:=q) (by have:=HN.out;omega);obtain ⟨y,hy,hya⟩:=ST.out q bh hp2;rw [drop_at hx,blks_at hy,caseT] at ht;have ht2:(t1++(labT false y0++stsS y))++caseT (ls.drop (q+1)) (blksS (bs.drop (q+1)))=T:=by
   rw [←ht];simp only [List.append_assoc,List.headD_cons,List.drop_succ_cons,List.drop_zero]
  have hlT:l.length+t1.length+(labT false y0).length+(stsS y).length≤lim:=by
   have h1:=HL.out;rw [←HTT.out,←ht2] at h1;simp only [List.length_append,List.length_cons,List.length_nil] at h1;omega
  have w1':=nat_step q (by omega);have a1:=hc1 0 _ rfl;rw [Nat.add_zero,Nat.mul_one] at a1;have a0:wr.cell? ⟨b2,o2+q,none⟩=some bh.v:=by
   have a0:=hc2 0 _ rfl;rw [Nat.add_zero,Nat.mul_one] at a0;exact a0
  have BC:=qh fun W (hW:Fr B g wr W)=>(hW.1.cell (p:=⟨b2,o2+q,none⟩) hb2).trans a0
  clear a0;have LB:=qh (labels_any hk (hxa.below (F1.out.trans hf).1 (Nat.le_refl _)) hxb.1 hxb.2 (by rw [List.length_append];omega));have FF:=qh hf;have YA:=qh hya;have HY:=qh hy;have HT2:=qh ht2;have HLX:=qh hlT;have LT:=qh hlt;have LM:=qh (show q<m by have:=HN.out;omega);unfold Sl.v at a1;simp only [Sl.v] at LB;clear hc1 hk hf hxa hxb hx ht ht2 hlT r1 r2 hp hp2 hb1 hb2 hc2 hy hya h2 EL SLF;go_wp2_with (go_at_call 129;fail)
  refine LB.out.mono ?_;rintro e w5 ⟨rfl,k9,f9⟩;have K5:=qh k9;have F5:=qh (FF.out.trans f9);have F5':=qh f9;clear k9 f9 FF LB a1 hlt;have h5:=H1.out.fr F5.out NG.out (by decide);have c17:=(cell_of h5.box (i:=17) rfl).1;have a0:=BC.out _ F5'.out;have hlm:=LM.out;simp only [Sl.v] at c17 a0;have C2:=qh (CX.out y q HY.out bh B g _ w5 K5.out (YA.out.below (F1.out.trans F5.out).1 (Nat.le_refl _)) (by have h9:=HLX.out;simp only [List.length_append] at h9 ⊢;omega));simp only [Sl.v] at C2;clear h5;go_wp2_with (go_at_call 38;fail)
  refine C2.out.mono ?_;rintro e w6 ⟨rfl,k9,f9⟩;rw [List.append_assoc,List.append_assoc] at k9;have K6:=qh k9;have F6:=qh (F5.out.trans f9);clear k9 f9 K5 F5 C2 c17 a0 hlm;go_wp2_with fail
  go_roundw
  case rel=>exact ⟨q+1,t1++(labT false y0++stsS y),by have:=LT.out;omega,by go_num,HT2.out,K6.out,F6.out⟩
  case measure=>have:=LT.out;simp [intOf];omega
theorem setCell_kind {w:World} {g i:Nat} {v:Value} {c:Array Value} {T:TypeId} (h:w.heap[g]?=some (.cells c T (0,0))):∃ c',(w.setCell ⟨g,i,none⟩ v).heap[g]?=some (.cells c' T (0,0))∧c'.size=c.size:=by
  refine ⟨c.setIfInBounds i v,?_,by simp⟩;simp [World.setCell,Array.getElem?_modify,h]
theorem puts_kind {g:Nat} {T:TypeId}:∀ (vs:List Value) (o:Nat) {w:World} {c:Array Value},w.heap[g]?=some (.cells c T (0,0))→∃ c',(k.puts w g o vs).heap[g]?=some (.cells c' T (0,0))∧c'.size=c.size
  | [],_,_,c,h=>⟨c,h,rfl⟩
  | v::vs,o,w,c,h=>by
    obtain ⟨c1,h1,e1⟩:=setCell_kind (i:=o) (v:=v) h;obtain ⟨c2,h2,e2⟩:=puts_kind vs (o+1) h1;exact ⟨c2,h2,e2.trans e1⟩
theorem hb_of {w:World} {g:Nat} {T:TypeId} {c:Array Value} {vs:List Value} (h:w.heap[g]?=some (.cells c T (0,0))) (hs:c.size=vs.length) (hb:Box w g 0 vs):Hb w g T vs:=by
  unfold Hb;rw [h];have:c.toList=vs:=by
    refine List.ext_getElem? fun i=>?_
    by_cases hi:i<vs.length
    · have h1:=(cell_of hb (i:=i) (v:=vs[i]) (List.getElem?_eq_getElem hi)).1
      rw [Lib.cell_of_heap h] at h1;rw [Array.getElem?_toList,h1,List.getElem?_eq_getElem hi]
    · rw [List.getElem?_eq_none (by simpa using by omega),List.getElem?_eq_none (by omega)]
  rw [←this]
theorem m_newH {P:Program} {ops:Array Oper} {rest:List Oper} {op:Oper} {a:Act} {w:World} {Q:Exit→Act→World→Prop} {Z:Array Value} (T:TypeId) (t u:Nat) (ho:op.op=.store T (.tmp t) (.tmp u)) (hg:op.guard=none) (hd:op.dst=none) (cs:List Value) (hx:a.eval (.tmp t)=.pointer (some ⟨w.heap.size,0,none⟩)) (hy:a.eval (.tmp u)=.agg cs.toArray)
    (hl:cs.length=Z.toList.length) (hi:(P.info? T).map (·.size)=some cs.length) (h1:∀ v∈cs,v.oneCell'=true)
    (h:∀ w',Hb w' w.heap.size T cs→Below w.heap.size w w'→w'.heap.size=w.heap.size+1→wpList P ops Q rest a w'):wpList P ops Q (op::rest) a (w.alloc (.cells Z T)):=by
  have hb:=k.Box.new w Z T;obtain ⟨W,e,hW,hs,_,_⟩:=k.stored (us:=cs) hb hl;refine wpList_store_mid hg T (.tmp t) (.tmp u) ho w.heap.size 0 cs.toArray hx hy (by rw [show cs.toArray.size=Z.toList.length by rw [←hl];simp];exact hb.there) (by rw [show cs.toArray.size=cs.length by simp];exact hi) (all_oneCell_toArray h1) ?_;rw [hd]
  show wpList _ _ _ _ a (World.setCells _ _ _ cs)
  have hk:∃ c',W.heap[w.heap.size]?=some (.cells c' T (0,0))∧c'.size=Z.size:=by
    rw [←e,k.setCells_puts];exact puts_kind cs 0 (heap_alloc_new w (.cells Z T))
  have hgr:(w.alloc (.cells Z T)).grownBy W (some w.heap.size):=by rw [←e,k.setCells_puts];exact gr_puts cs 0 _
  obtain ⟨c',hc',hcs⟩:=hk;rw [e];refine h W (hb_of hc' (by rw [hcs,hl];simp) hW) ?_ (by rw [hs];simp);exact (al1 w _).trans (gr_below hgr (Nat.le_refl _) (by simp))
theorem ex_row {w:World} {B:Nat} {A:Option Addr} {n c:Nat} {CH:List EH} {cs:List Ex} (h:Rd eC 6 w B A n c CH) (hE:ExsAt w B cs CH) {q:Nat} (hq:q<n):∃ x eh b o,cs[q]?=some x∧ExAt w B x eh∧A=some ⟨b,o,none⟩∧b<B∧w.rangeAt b (o+q*6) (eC eh):=by
  obtain ⟨b,o,eh,hA,hb,hp,hc⟩:=h.at hq;obtain ⟨x,hx,hxa⟩:=hE.at hp;exact ⟨x,eh,b,o,hx,hxa,hA,hb,hc⟩
theorem blk_row {w:World} {B:Nat} {A:Option Addr} {n c:Nat} {BH:List Sl} {bs:List (List St)} (h:Rd slC 1 w B A n c BH) (hE:BlksAt w B bs BH) {q:Nat} (hq:q<n):∃ x bh b o,bs[q]?=some x∧StL w B bh x∧A=some ⟨b,o,none⟩∧b<B∧w.cell? ⟨b,o+q,none⟩=some bh.v:=by
  obtain ⟨b,o,bh,hA,hb,hp,hc⟩:=h.at hq;obtain ⟨x,hx,hxa⟩:=hE.at hp;have a0:=hc 0 _ rfl;rw [Nat.add_zero,Nat.mul_one] at a0;exact ⟨x,bh,b,o,hx,hxa,hA,hb,a0⟩
theorem count_any {h:SH} {cs:List Ex} {b0:List St} {CH:List EH} {BH:List Sl} {B g:Nat} {l:Str} {w:World} (hK:Wx B g l w)
    (hC:RS eC 6 w B h.conds CH) (hCE:ExsAt w B cs CH) (hR:RS slC 1 w B h.blocks BH) (hE:BlksAt w B [b0] BH) (hcb:exsB cs=true) (hc3:cs.length=3) (hCX:BlkC b0)
    (hlen:l.length+(stT 4 h.name [] [] (exsS cs) [] [] (blksS [b0])).length≤lim) :
    Calls Tryz.prog 103 #[.pointer (some ⟨g,0,none⟩),.agg (sC h).toArray] w (Put B g l (stT 4 h.name [] [] (exsS cs) [] [] (blksS [b0])) w):=by
  obtain ⟨x0,x1,x2,rfl⟩:∃ a b c,cs=[a,b,c]:=by
    match cs,hc3 with
    | [a,b,c],_=>exact ⟨a,b,c,rfl⟩
  have hTx:stT 4 h.name [] [] (exsS [x0,x1,x2]) [] [] (blksS [b0])=[70,79,82,32]++h.name++([32,58,61,32]++exS x0++[])++([32,84,79,32]++exS x1++[])++([32,66,89,32]++exS x2++[32,68,79,10])++stsS b0++[69,78,68,95,70,79,82,59,10]:=by
    rw [stT,if_neg (by decide),if_neg (by decide),if_neg (by decide),if_pos rfl];simp [exsS,blksS]
  rw [hTx] at hlen ⊢;obtain ⟨T,hT⟩:∃ T,[70,79,82,32]++h.name++([32,58,61,32]++exS x0++[])++([32,84,79,32]++exS x1++[])++([32,66,89,32]++exS x2++[32,68,79,10])++stsS b0++[69,78,68,95,70,79,82,59,10]=T:=⟨_,rfl⟩;have hl2:=hlen;rw [hT] at hlen ⊢;simp only [List.length_append,List.length_cons,List.length_nil] at hl2;obtain ⟨w1,e1,K1,H1,F1,ng⟩:=hK.box (sC h) 49;obtain ⟨op,nm,hd,hv,⟨A1,n,c1⟩,sl2,sl3,⟨A4,m,c4⟩,ln⟩:=h;have hC:Rd eC 6 w B A1 n c1 CH:=hC;have hR:Rd slC 1 w B A4 m c4 BH:=hR;have hn1:CH.length=n:=hC.1;have hm1:BH.length=m:=hR.1;have hcl:=hCE.len;have hbl:=hE.len;simp only [List.length_cons,List.length_nil] at hcl hbl;obtain rfl:n=3:=by omega
  obtain rfl:m=1:=by omega
  simp only [exsB,Bool.and_eq_true,Bool.and_true] at hcb;obtain ⟨y0,g0,b1,o1,hy0,ha0,rfl,hb1,r0⟩:=ex_row hC hCE (q:=0) (show 0<3 by decide);obtain ⟨y1,g1,b1',o1',hy1,ha1,e3,_,r1⟩:=ex_row hC hCE (q:=1) (show 1<3 by decide);injection e3 with e3
  injection e3 with e4 e5 _
  subst e4 e5;obtain ⟨y2,g2,b1',o1',hy2,ha2,e3,_,r2⟩:=ex_row hC hCE (q:=2) (show 2<3 by decide);injection e3 with e3
  injection e3 with e4 e5 _
  subst e4 e5;obtain ⟨z0,bh,b2,o2,hz0,hza,rfl,hb2,rb⟩:=blk_row hR hE (q:=0) (show 0<1 by decide);obtain rfl:x0=y0:=by simpa using hy0
  obtain rfl:x1=y1:=by simpa using hy1
  obtain rfl:x2=y2:=by simpa using hy2
  obtain rfl:b0=z0:=by simpa using hz0
  simp only [Nat.zero_mul,Nat.one_mul,Nat.add_zero] at r0 r1 rb;have r2:w.rangeAt b1 (o1+12) (eC g2):=r2;have RR:=qh fun W (hW:Fr B g w W)=>And.intro (range_below r0 hW.1 hb1) (And.intro (range_below r1 hW.1 hb1) (And.intro (range_below r2 hW.1 hb1) ((hW.1.cell (p:=⟨b2,o2,none⟩) hb2).trans rb)))
  have X0:=qh fun W (hW:Fr B g w W) (l':Str) (hk:Wx B g l' W) hl=>around_any (a:=[32,58,61,32]) (b:=[]) hk (ha0.below hW.1 (Nat.le_refl _)) hcb.1 hl
  have X1:=qh fun W (hW:Fr B g w W) (l':Str) (hk:Wx B g l' W) hl=>around_any (a:=[32,84,79,32]) (b:=[]) hk (ha1.below hW.1 (Nat.le_refl _)) hcb.2.1 hl
  have X2:=qh fun W (hW:Fr B g w W) (l':Str) (hk:Wx B g l' W) hl=>around_any (a:=[32,66,89,32]) (b:=[32,68,79,10]) hk (ha2.below hW.1 (Nat.le_refl _)) hcb.2.2 hl
  have CB:=qh fun W (hW:Fr B g w W) (l':Str) (hk:Wx B g l' W) hl=>hCX bh B g l' W hk (hza.below hW.1 (Nat.le_refl _)) hl
  simp only [Sl.v] at CB;have HT:=qh hT;have HL:=qh hl2;have NG:=qh ng;have K1:=qh K1;have H1:=qh H1;have F1:=qh F1;clear hK ng hC hR hn1 hm1 hcl hbl hE hCE hcb hc3 hlen hl2 hT hTx hy0 hy1 hy2 hz0 ha0 ha1 ha2 hza r0 r1 r2 rb hb1 hb2 hCX;go_enter Tryz.func103,Tryz.ntmps103
  go_upto_region 1 with (fail)
  subst e1;generalize w.alloc (.cells (sC ⟨op,nm,hd,hv,⟨some ⟨b1,o1,none⟩,3,c1⟩,sl2,sl3,⟨some ⟨b2,o2,none⟩,1,c4⟩,ln⟩).toArray 49)=w1 at *;have c1:=(cell_of H1.out.box (i:=1) rfl).1;simp only [sv] at c1;go_wp2_with (go_at_call 35;fail)
  refine (put_new [[70,79,82,32],nm] (t:=[70,79,82,32]++nm) (by simp) K1.out (by simp) (by have:=HL.out;simp only [List.length_append,List.length_cons,List.length_nil];omega)).mono ?_;rintro e w2 ⟨rfl,k9,f9⟩;have K2:=qh k9;have F2:=qh (F1.out.trans f9);have H2:=qh (H1.out.fr f9 NG.out (by decide));clear k9 f9 K1 F1 H1 c1;have c14:=(cell_of H2.out.box (i:=14) rfl).1;simp only [Sl.v] at c14;have R9:=qh (RR.out _ F2.out).1;go_wp2_with (first|((with_reducible refine m_loadR R9.out 44 12 ?_ ?_ ?_ ?_ ?_ ?_);rfl;rfl;rfl;rfl;kernel_rfl)|(go_at_call 100;fail))
  refine (X0.out _ F2.out _ K2.out (by have:=HL.out;simp only [List.length_append,List.length_cons,List.length_nil];omega)).mono ?_;rintro e w3 ⟨rfl,k9,f9⟩;have K3:=qh k9;have F3:=qh (F2.out.trans f9);have H3:=qh (H2.out.fr f9 NG.out (by decide));clear k9 f9 K2 F2 H2 c14 R9 X0;have c14:=(cell_of H3.out.box (i:=14) rfl).1;simp only [Sl.v] at c14;have R9:=qh (RR.out _ F3.out).2.1;go_wp2_with (first|((with_reducible refine m_loadR R9.out 44 18 ?_ ?_ ?_ ?_ ?_ ?_);rfl;rfl;rfl;rfl;kernel_rfl)|(go_at_call 100;fail))
  refine (X1.out _ F3.out _ K3.out (by have:=HL.out;simp only [List.length_append,List.length_cons,List.length_nil];omega)).mono ?_;rintro e w4 ⟨rfl,k9,f9⟩;have K4:=qh k9;have F4:=qh (F3.out.trans f9);have H4:=qh (H3.out.fr f9 NG.out (by decide));clear k9 f9 K3 F3 H3 c14 R9 X1;have c14:=(cell_of H4.out.box (i:=14) rfl).1;simp only [Sl.v] at c14;have R9:=qh (RR.out _ F4.out).2.2.1;go_wp2_with (first|((with_reducible refine m_loadR R9.out 44 24 ?_ ?_ ?_ ?_ ?_ ?_);rfl;rfl;rfl;rfl;kernel_rfl)|(go_at_call 100;fail))
  refine (X2.out _ F4.out _ K4.out (by have:=HL.out;simp only [List.length_append,List.length_cons,List.length_nil];omega)).mono ?_;rintro e w5 ⟨rfl,k9,f9⟩;have K5:=qh k9;have F5:=qh (F4.out.trans f9);have H5:=qh (H4.out.fr f9 NG.out (by decide));clear k9 f9 K4 F4 H4 c14 R9 X2;have c17:=(cell_of H5.out.box (i:=17) rfl).1;simp only [Sl.v] at c17;have a0:=(RR.out _ F5.out).2.2.2;simp only [Sl.v] at a0;go_wp2_with (go_at_call 38;fail)
  refine (CB.out _ F5.out _ K5.out (by have:=HL.out;simp only [List.length_append,List.length_cons,List.length_nil];omega)).mono ?_;rintro e w6 ⟨rfl,k9,f9⟩;have K6:=qh k9;have F6:=qh (F5.out.trans f9);clear k9 f9 K5 F5 H5 c17 a0;go_wp2_with (go_at_call 35;fail)
  refine (put_new [[69,78,68,95,70,79,82,59,10]] (t:=[69,78,68,95,70,79,82,59,10]) rfl K6.out (by decide) (by have:=HL.out;simp only [List.length_append,List.length_cons,List.length_nil];omega)).mono ?_;rintro e w7 ⟨rfl,k9,f9⟩;have K7:=qh (show Wx B g (l++T) w7 by rw [←HT.out];simpa only [List.append_assoc] using k9);have F7:=qh (F6.out.trans f9);clear k9 f9 K6 F6;go_wp2_with fail
  go_end0
  exact ⟨rfl,K7.out,F7.out⟩
theorem str_row {w:World} {B:Nat} {A:Option Addr} {n c:Nat} {L:List Str} (h:Rd tC1 1 w B A n c L) {q:Nat} (hq:q<n):∃ x b o,L[q]?=some x∧A=some ⟨b,o,none⟩∧b<B∧w.cell? ⟨b,o+q,none⟩=some (sv x):=by
  obtain ⟨b,o,x,hA,hb,hp,hc⟩:=h.at hq;have a0:=hc 0 _ rfl;rw [Nat.add_zero,Nat.mul_one] at a0;exact ⟨x,b,o,hp,hA,hb,a0⟩
theorem call_any {h:SH} {cs:List Ex} {fs:List Str} {CH:List EH} {B g:Nat} {l:Str} {w:World} (hK:Wx B g l w)
    (hC:RS eC 6 w B h.conds CH) (hCE:ExsAt w B cs CH) (hF:RS tC1 1 w B h.fields fs) (hcb:exsB cs=true) (hfb:fs.all nmB=true) (hle:fs.length=cs.length)
    (hlen:l.length+(h.name++[40]++argT false fs (exsS cs)++[41,59,10]).length≤lim) :
    Calls Tryz.prog 104 #[.pointer (some ⟨g,0,none⟩),.agg (sC h).toArray] w (Put B g l (h.name++[40]++argT false fs (exsS cs)++[41,59,10]) w):=by
  obtain ⟨T,hT⟩:∃ T,h.name++[40]++argT false fs (exsS cs)=T:=⟨_,rfl⟩;rw [hT] at hlen ⊢;obtain ⟨TT,hTT⟩:∃ TT,T++[41,59,10]=TT:=⟨_,rfl⟩;rw [hTT] at hlen ⊢;obtain ⟨w1,e1,K1,H1,F1,ng⟩:=hK.box (sC h) 49;obtain ⟨op,nm,hd,hv,⟨A1,n,c1⟩,sl2,⟨A3,m,c3⟩,sl4,ln⟩:=h;have hC:Rd eC 6 w B A1 n c1 CH:=hC;have hF:Rd tC1 1 w B A3 m c3 fs:=hF;have hn1:CH.length=n:=hC.1;have hm1:fs.length=m:=hF.1;have hcl:=hCE.len;have hnl:=hC.len_le;obtain rfl:n=m:=by omega
  have hLT:l.length+T.length+3≤lim:=by
    rw [←hTT] at hlen;simp only [List.length_append,List.length_cons,List.length_nil] at hlen;omega
  have hln:l.length+nm.length+1≤lim:=by
    rw [←hT] at hLT;simp only [List.length_append,List.length_cons,List.length_nil] at hLT;omega
  have RC:=qh fun (q:Nat) (hq:q<n)=>ex_row hC hCE hq
  have RF:=qh fun (q:Nat) (hq:q<n)=>str_row hF hq
  have CXB:=qh fun (q:Nat) (x:Ex) (hq:cs[q]?=some x)=>exsB_at' hcb hq
  have FXB:=qh fun (q:Nat) (x:Str) (hq:fs[q]?=some x)=>(show nmB x=true from by
    rw [List.all_eq_true] at hfb;exact hfb x (List.mem_of_getElem? hq))
  have HT:=qh hT;have HTT:=qh hTT;have HL:=qh hLT;have HLN:=qh hln;have HN:=qh (And.intro hm1 (show cs.length=n by omega));have NG:=qh ng;have K1:=qh K1;have H1:=qh H1;have F1:=qh F1;clear hK ng hC hF hn1 hm1 hcl hCE hcb hfb hle hlen hT hTT hLT hln;go_enter Tryz.func104,Tryz.ntmps104
  go_upto_region 1 with (fail)
  subst e1;generalize w.alloc (.cells (sC ⟨op,nm,hd,hv,⟨A1,n,c1⟩,sl2,⟨A3,n,c3⟩,sl4,ln⟩).toArray 49)=w1 at *;have c1:=(cell_of H1.out.box (i:=1) rfl).1;simp only [sv] at c1;go_wp2_with (go_at_call 35;fail)
  refine (put_new [nm,[40]] (t:=nm++[40]) (by simp) K1.out (by simp) (by have:=HLN.out;simp only [List.length_append,List.length_cons,List.length_nil];omega)).mono ?_;rintro e w2 ⟨rfl,k9,f9⟩;have K2:=qh k9;have F2:=qh f9;clear k9 f9 K1 c1;have h2:=H1.out.fr F2.out NG.out (by decide);have c14:=(cell_of h2.box (i:=14) rfl).1;simp only [Sl.v] at c14;clear h2;go_upto_region 3 with (fail)
  clear c14;go_loopw [14] (fun s14 wr=>∃ (q:Nat) (t1:Str),q≤n∧s14=.int .i64 q∧t1++argT (decide (0<q)) (fs.drop q) (exsS (cs.drop q))=T∧Wx B g (l++t1) wr∧Fr B g w1 wr) (fun i _=>n-(intOf i).toNat)
  case atStart=>exact ⟨0,nm++[40],Nat.zero_le _,rfl,by rw [List.drop_zero,List.drop_zero];exact HT.out,K2.out,F2.out⟩
  case round=>
    obtain ⟨q,t1,hq,rfl,ht,hk,hf⟩:=hrel;by_cases hlt:q<n
    rotate_left
    · obtain rfl:q=n:=by omega
      have hz:¬ (q:Int)<q:=by omega
      rw [List.drop_of_length_le (l:=fs) (by have:=HN.out;omega),argT,List.append_nil] at ht;subst ht;have FF:=qh (F1.out.trans hf);have KK:=qh hk;clear hk hf;go_wp2_with (go_at_call 35;fail)
      refine (put_new [[41,59,10]] (t:=[41,59,10]) rfl KK.out (by decide) (by have h1:=HL.out;simp only [List.length_append,List.length_cons,List.length_nil];omega)).mono ?_;rintro e w4 ⟨rfl,k9,f9⟩;rw [List.append_assoc,HTT.out] at k9;have K4:=qh k9;have F4:=qh (FF.out.trans f9);clear k9 f9 FF KK;go_wp2_with fail
      go_end0
      exact ⟨rfl,K4.out,F4.out⟩
    obtain ⟨x,eh,b1,o1,hx,hxa,rfl,hb1,hc1⟩:=RC.out q hlt;obtain ⟨f,b3,o3,hfq,rfl,hb3,hc3⟩:=RF.out q hlt;have hxb:=CXB.out q x hx;have hfb:=FXB.out q f hfq;rw [drop_at hfq,exs_at hx,argT] at ht;obtain ⟨sp,hsp⟩:∃ sp:Str,(if decide (0<q)=true then [44,32] else [])=sp:=⟨_,rfl⟩;have ht2:(t1++(sp++(f++[32,58,61,32])++exS x))++argT (decide (0<q+1)) (fs.drop (q+1)) (exsS (cs.drop (q+1)))=T:=by
      rw [←ht,hsp,show decide (0<q+1)=true from decide_eq_true (by omega)];simp only [List.append_assoc,List.headD_cons,List.drop_succ_cons,List.drop_zero]
    have hlT:l.length+t1.length+sp.length+f.length+4+(exS x).length≤lim:=by
      have h1:=HL.out;rw [←ht2] at h1;simp only [List.length_append,List.length_cons,List.length_nil] at h1;omega
    have w1':=nat_step q (by omega);have hci:=qh (range_below hc1 (F1.out.trans hf).1 hb1);have FC:=qh fun W (hW:Fr B g w W)=>(hW.1.cell (p:=⟨b3,o3+q,none⟩) hb3).trans hc3
    have hcat0:¬ 9223372036854775807<(⟨f.toArray⟩:ByteArray).size+4:=by rw [sz_sv];have:=nm_len hfb;omega
    have HCAT:=qh hcat0;have KK:=qh hk;have FF:=qh hf;have XA:=qh hxa;have XB:=qh hxb;have HSP:=qh hsp;have HT2:=qh ht2;have HLX:=qh hlT;have LT:=qh hlt;have W1:=qh w1';obtain ⟨mm,hm⟩:∃ m,decide (0<q)=m:=⟨_,rfl⟩;have HM:=qh hm;clear hc1 hk hf hxa hxb hfb hx hfq ht ht2 hlT hb1 hb3 hc3 hsp hm hcat0 w1' RC RF;go_upto_region 5 with (first|((with_reducible refine m_loadR hci.out 44 17 ?_ ?_ ?_ ?_ ?_ ?_);rfl;rfl;rfl;rfl;kernel_rfl)|((with_reducible refine m_newH 44 5 18 ?_ ?_ ?_ (eC eh) ?_ ?_ ?_ ?_ (eC_one _) ?_);rfl;rfl;rfl;rfl;rfl;rfl;kernel_rfl;intro w4 hx hb hz))
    have ngx:=qh (show wr.heap.size≠g by have:=KK.out.wr.lt;omega);have X4:=qh hx;have K4:=qh (KK.out.below hb);have F4:=qh (FF.out.trans (Fr.of hb KK.out.le));clear hx hb hz hci KK FF hlt;cases mm
    all_goals
      first
        | (have hx:Hid (decide (0<q)=false):=HM
           have h0:¬ (0:Int)<q:=by have:=of_decide_eq_false HM.out;omega
           have K5:=qh (show Wx B g (l++(t1++sp)) w4 by rw [←HSP.out,HM.out,if_neg (by decide),List.append_nil];exact K4.out);have F5:=qh F4.out;have X5:=qh X4.out;clear K4 F4 X4 hx)
        | (have h0:(0:Int)<q:=by have:=of_decide_eq_true HM.out;omega
           have sp2:[44,32]=sp:=by rw [←HSP.out,HM.out];rfl
           have P1:=qh (put_new [[44,32]] (t:=[44,32]) rfl K4.out (by decide) (by have:=HLX.out;rw [←sp2] at this;simp only [List.length_append];simp only [List.length_cons,List.length_nil] at this ⊢;omega));have SP2:=qh sp2;clear sp2;go_wp2_with (go_at_call 35;fail)
           refine P1.out.mono ?_;rintro e w5 ⟨rfl,k9,f9⟩;have K5:=qh (show Wx B g (l++(t1++sp)) w5 by rw [←SP2.out,←List.append_assoc];exact k9);have F5:=qh (F4.out.trans f9);have X5:=qh (X4.out.fr f9 ngx.out (by decide));clear k9 f9 P1 K4 F4 X4)
      go_upto_region 7 with (fail)
      have ⟨r0,_,r1,_,r2,_,r3,_,r4,_,r5,_,_⟩:=X5.out.box;have c16:=(cell_of (H1.out.fr F5.out NG.out (by decide)).box (i:=16) rfl).1;have cf:=FC.out _ (F1.out.trans F5.out);simp only [sv,Sl.v] at r2 r3 r4 c16 cf;obtain ⟨xs,hxs⟩:∃ z,(⟨f.toArray⟩:ByteArray)=z:=⟨_,rfl⟩;have hcat0:=HCAT.out;have hlt:=LT.out;rw [hxs] at cf hcat0;have HX:=qh hxs;clear hxs;refine still_named 8 (by kernel_rfl) ?_;intro w6 hc2 _ hb2 _;rw [←hc2] at r0 r1 r2 r3 r4 r5 c16 cf;have K6:=qh (K5.out.drew hb2);have F6:=qh (F5.out.trans (Fr.of (hb2 _) K5.out.le));clear hc2 hb2 K5 F5 X5 h0;simp only [List.take_succ_cons,List.take_zero,List.drop_succ_cons,List.drop_zero];repeat still_step
      refine wpStill_nil ?_;rw [show xs++⟨#[32,58,61,32]⟩=⟨(f++[32,58,61,32]).toArray⟩ by rw [←HX.out];exact cat_sv f [32,58,61,32]];clear r0 r1 r2 r3 r4 r5 c16 cf hcat0 hlt;go_wp2_with (go_at_call 100;fail)
      refine (around_any (a:=f++[32,58,61,32]) (b:=[]) K6.out (XA.out.below (F1.out.trans F6.out).1 (Nat.le_refl _)) XB.out (by have:=HLX.out;simp only [List.length_append,List.length_cons,List.length_nil];omega)).mono ?_;rintro e w7 ⟨rfl,k9,f9⟩;have K7:=qh (show Wx B g (l++(t1++(sp++(f++[32,58,61,32])++exS x))) w7 by simpa only [List.append_assoc,List.append_nil] using k9);have F7:=qh (F6.out.trans f9);have w1':=W1.out;clear k9 f9 K6 F6;go_wp2_with fail
      go_roundw
      case rel=>exact ⟨q+1,t1++(sp++(f++[32,58,61,32])++exS x),by have:=LT.out;omega,by go_num,HT2.out,K7.out,F7.out⟩
      case measure=>have:=LT.out;simp [intOf];omega
theorem oneIf_eq {b:Bool}:(oneIf b=1↔b=true)∧(oneIf b=0↔b=false):=by cases b<;>decide
theorem stS_mk (op:Int) (nm:Str) (dst val:Ex) (cs:List Ex) (ls:List (List Int)) (fs:List Str) (bs:List (List St)) (ln:Int):stS (.mk op nm dst val cs ls fs bs ln)=stT op nm (exS dst) (exS val) (exsS cs) ls fs (blksS bs):=by rw [stS]
theorem stmt_step {N:Nat} (IH:WrB N):WrS (N+1):=by
 unfold WrS;intro x hN hxb hxi h B g l w hK hx hlen;obtain ⟨xo,xnm,xd,xv,xcs,xls,xfs,xbs,xl⟩:=x;unfold StAt at hx;obtain ⟨h1,h2,h3,hD,hV,⟨CH,hC,hCE⟩,⟨LH,hL,hLE⟩,hF,BH,hR,hE⟩:=hx;subst h1 h2 h3;rw [stB,Bool.and_eq_true] at hxb;obtain ⟨hok,hrest⟩:=hxb;simp only [Bool.and_eq_true,Bool.or_eq_true] at hrest;obtain ⟨hnm,hdb,hvb,hcb,hlb,hfb,hbb⟩:=hrest;obtain ⟨hli,hbi⟩:=hxi;rw [stS_mk] at hlen ⊢;have hNb:SizeOf.sizeOf xbs≤N:=by simp only [St.mk.sizeOf_spec] at hN;omega
 have hCX:∀ (x:List St) (q:Nat),xbs[q]?=some x→BlkC x:=fun x q hx=>IH x (by have:=at_size hx;omega) (blksB_at' hbb hx) (inBs_at hbi hx)
 have hpl:noE xd=false→exB xd=true:=fun h=>by
  rcases hdb with h'|h'
  ·rw [h] at h';cases h'
  ·unfold placeB at h';rw [Bool.and_eq_true] at h';exact h'.2
 have hvl:noE xv=false→exB xv=true:=fun h=>by
  rcases hvb with h'|h'
  ·rw [h] at h';cases h'
  ·exact h'
 obtain ⟨w1,e1,K1,H1,F1,ng⟩:=hK.box (sC h) 49;have NG:=qh ng;have K1:=qh K1;have H1:=qh H1;have F1:=qh F1;have hD1:=hD.below F1.out.1 (Nat.le_refl _);have hV1:=hV.below F1.out.1 (Nat.le_refl _);obtain ⟨op,nm,hd,hv,s1,s2,s3,s4,ln⟩:=h;simp only at hok hlen hD hV hC hL hF hR hD1 hV1 ⊢;unfold stOk at hok;rcases (show op=1∨op=2∨op=3∨op=4∨op=5∨op=6∨op=7∨op=8∨op=9∨¬ (1≤op∧op≤9) by omega) with rfl|rfl|rfl|rfl|rfl|rfl|rfl|rfl|rfl|hno
 ·rw [if_pos rfl] at hok
  simp only [Pt.mk.injEq,decide_eq_true_eq] at hok;obtain ⟨p1,p2,p3,p4,p5,p6,p7⟩:=hok;have hd1:=hpl (by simpa using oneIf_eq.1.1 p2);have hv1:=hvl (by simpa using oneIf_eq.1.1 p3);rw [stT,if_pos rfl] at hlen ⊢;have hl2:=hlen;simp only [List.length_append,List.length_cons,List.length_nil] at hl2;have C1:=qh (expr_any K1.out hD1 hd1 (by omega));have C2:=qh fun W (hf:Fr B g w W) (hk:Wx B g (l++exS xd) W)=>around_any (a:=[32,58,61,32]) (b:=[59,10]) hk (hV.below hf.1 (Nat.le_refl _)) hv1 (by simp only [List.length_append,List.length_cons,List.length_nil];omega)
  clear p1 p2 p3 p4 p5 p6 p7 hl2 hd1 hv1 hnm hdb hvb hcb hlb hfb hbb hli hbi hN hNb hD hV hC hCE hL hLE hF hR hE hD1 hV1 hpl hvl hK ng hlen IH hCX;go_enter Tryz.func63,Tryz.ntmps63
  go_upto_region 1 with (fail)
  subst e1;generalize w.alloc (.cells (sC ⟨1,nm,hd,hv,s1,s2,s3,s4,ln⟩).toArray 49)=w1 at *;have c0:=(cell_of H1.out.box (i:=0) rfl).1;go_wp2_with (first|((with_reducible refine m_loadR (st_dst H1.out.box) 44 9 ?_ ?_ ?_ ?_ ?_ ?_);rfl;rfl;rfl;rfl;kernel_rfl)|(go_at_call 99;fail))
  refine C1.out.mono ?_;rintro e w2 ⟨rfl,k9,f9⟩;have K2:=qh k9;have F2:=qh (F1.out.trans f9);have H2:=qh (H1.out.fr f9 NG.out (by decide));clear k9 f9 K1 F1 H1 C1 c0;go_wp2_with (first|((with_reducible refine m_loadR (st_val H2.out.box) 44 13 ?_ ?_ ?_ ?_ ?_ ?_);rfl;rfl;rfl;rfl;kernel_rfl)|(go_at_call 100;fail))
  refine (C2.out _ F2.out K2.out).mono ?_;rintro e w3 ⟨rfl,k9,f9⟩;have K9:=qh (show Wx B g (l++(exS xd++[32,58,61,32]++exS xv++[59,10])) w3 by simpa only [List.append_assoc] using k9);have F9:=qh (F2.out.trans f9);clear k9 f9;go_wp2_with fail
  go_end0
  exact ⟨rfl,K9.out,F9.out⟩
 ·rw [if_neg (by decide),if_pos rfl] at hok
  simp only [elseB,Bool.or_eq_true,decide_eq_true_eq,Pt.mk.injEq,Bool.and_eq_true] at hok;have hle:xcs.length≤xbs.length:=by omega
  rw [stT,if_neg (by decide),if_pos rfl] at hlen ⊢;have C1:=qh (choice_any (h:=⟨2,nm,hd,hv,s1,s2,s3,s4,ln⟩) IH K1.out (hC.below F1.out.1 (Nat.le_refl _)) (ExsAt.below F1.out.1 (Nat.le_refl _) hCE) (hR.below F1.out.1 (Nat.le_refl _)) (BlksAt.below F1.out.1 (Nat.le_refl _) hE) hcb hbb hbi hNb hle hlen);clear hok hle hnm hdb hvb hcb hlb hfb hbb hli hbi hN hNb hD hV hC hCE hL hLE hF hR hE hD1 hV1 hpl hvl hK ng hlen IH hCX;go_enter Tryz.func63,Tryz.ntmps63
  go_upto_region 1 with (fail)
  subst e1;generalize w.alloc (.cells (sC ⟨2,nm,hd,hv,s1,s2,s3,s4,ln⟩).toArray 49)=w1 at *;have c0:=(cell_of H1.out.box (i:=0) rfl).1;go_wp2_with (first|((with_reducible refine m_load H1.out.box 49 3 ?_ ?_ ?_ ?_ ?_ ?_);rfl;rfl;rfl;rfl;kernel_rfl)|(go_at_call 101;fail))
  refine C1.out.mono ?_;rintro e w2 ⟨rfl,k9,f9⟩;have K9:=qh k9;have F9:=qh (F1.out.trans f9);clear k9 f9 K1 F1 H1 C1 c0;go_wp2_with fail
  go_end0
  exact ⟨rfl,K9.out,F9.out⟩
 ·rw [if_neg (by decide),if_neg (by decide),if_pos rfl] at hok
  simp only [elseB,Bool.or_eq_true,decide_eq_true_eq,Pt.mk.injEq,Bool.and_eq_true] at hok;have hle:xls.length≤xbs.length:=by omega
  have hv1:=hvl (by
   have:oneIf (!noE xv)=1:=by omega
   simpa using oneIf_eq.1.1 this)
  rw [stT,if_neg (by decide),if_neg (by decide),if_pos rfl] at hlen ⊢;have C1:=qh (cases_any (h:=⟨3,nm,hd,hv,s1,s2,s3,s4,ln⟩) IH K1.out hV1 hv1 (hL.below F1.out.1 (Nat.le_refl _)) (LabsAt.below F1.out.1 (Nat.le_refl _) hLE) (hR.below F1.out.1 (Nat.le_refl _)) (BlksAt.below F1.out.1 (Nat.le_refl _) hE) hlb hli hbb hbi hNb hle hlen);clear hok hle hv1 hnm hdb hvb hcb hlb hfb hbb hli hbi hN hNb hD hV hC hCE hL hLE hF hR hE hD1 hV1 hpl hvl hK ng hlen IH hCX;go_enter Tryz.func63,Tryz.ntmps63
  go_upto_region 1 with (fail)
  subst e1;generalize w.alloc (.cells (sC ⟨3,nm,hd,hv,s1,s2,s3,s4,ln⟩).toArray 49)=w1 at *;have c0:=(cell_of H1.out.box (i:=0) rfl).1;go_wp2_with (first|((with_reducible refine m_load H1.out.box 49 3 ?_ ?_ ?_ ?_ ?_ ?_);rfl;rfl;rfl;rfl;kernel_rfl)|(go_at_call 102;fail))
  refine C1.out.mono ?_;rintro e w2 ⟨rfl,k9,f9⟩;have K9:=qh k9;have F9:=qh (F1.out.trans f9);clear k9 f9 K1 F1 H1 C1 c0;go_wp2_with fail
  go_end0
  exact ⟨rfl,K9.out,F9.out⟩
 ·rw [if_neg (by decide),if_neg (by decide),if_neg (by decide),if_pos rfl] at hok
  simp only [Pt.mk.injEq,decide_eq_true_eq] at hok;obtain ⟨p1,p2,p3,p4,p5,p6,p7⟩:=hok;obtain ⟨b0,rfl⟩:∃ b0,xbs=[b0]:=by
   match xbs,p7 with
   | [b0],_=>exact ⟨b0,rfl⟩
  have hTT:stT 4 nm (exS xd) (exS xv) (exsS xcs) xls xfs (blksS [b0])=stT 4 nm [] [] (exsS xcs) [] [] (blksS [b0]):=by
   rw [stT,if_neg (by decide),if_neg (by decide),if_neg (by decide),if_pos rfl,stT,if_neg (by decide),if_neg (by decide),if_neg (by decide),if_pos rfl]
  rw [hTT] at hlen ⊢;have C1:=qh (count_any (h:=⟨4,nm,hd,hv,s1,s2,s3,s4,ln⟩) K1.out (hC.below F1.out.1 (Nat.le_refl _)) (ExsAt.below F1.out.1 (Nat.le_refl _) hCE) (hR.below F1.out.1 (Nat.le_refl _)) (BlksAt.below F1.out.1 (Nat.le_refl _) hE) hcb p4 (hCX b0 0 rfl) hlen);obtain ⟨T,hT⟩:∃ T,stT 4 nm [] [] (exsS xcs) [] [] (blksS [b0])=T:=⟨_,rfl⟩;simp only at C1;rw [hT] at C1 ⊢;clear p1 p2 p3 p4 p5 p6 p7 hTT hT hnm hdb hvb hcb hlb hfb hbb hli hbi hN hNb hD hV hC hCE hL hLE hF hR hE hD1 hV1 hpl hvl hK ng hlen IH hCX;go_enter Tryz.func63,Tryz.ntmps63
  go_upto_region 1 with (fail)
  subst e1;generalize w.alloc (.cells (sC ⟨4,nm,hd,hv,s1,s2,s3,s4,ln⟩).toArray 49)=w1 at *;have c0:=(cell_of H1.out.box (i:=0) rfl).1;go_wp2_with (first|((with_reducible refine m_load H1.out.box 49 3 ?_ ?_ ?_ ?_ ?_ ?_);rfl;rfl;rfl;rfl;kernel_rfl)|(go_at_call 103;fail))
  refine C1.out.mono ?_;rintro e w2 ⟨rfl,k9,f9⟩;have K9:=qh k9;have F9:=qh (F1.out.trans f9);clear k9 f9 K1 F1 H1 C1 c0;go_wp2_with fail
  go_end0
  exact ⟨rfl,K9.out,F9.out⟩
 ·rw [if_neg (by decide),if_neg (by decide),if_neg (by decide),if_neg (by decide),if_pos (by decide)] at hok
  simp only [Pt.mk.injEq,decide_eq_true_eq] at hok;obtain ⟨p1,p2,p3,p4,p5,p6,p7⟩:=hok;obtain ⟨b0,rfl⟩:∃ b0,xbs=[b0]:=by
   match xbs,p7 with
   | [b0],_=>exact ⟨b0,rfl⟩
  obtain ⟨A4,m,c4⟩:=s4;have hRd:Rd slC 1 w B A4 m c4 BH:=hR;obtain rfl:m=1:=by have:=hE.len;have:=hRd.1;simp only [List.length_cons,List.length_nil] at *;omega
  obtain ⟨z0,bh,b2,o2,hz0,hza,rfl,hb2,rb⟩:=blk_row hRd hE (q:=0) (by decide);obtain rfl:b0=z0:=by simpa using hz0
  rw [Nat.add_zero] at rb;have hv1:=hvl (by simpa using oneIf_eq.1.1 p3);rw [stT,if_neg (by decide),if_neg (by decide),if_neg (by decide),if_neg (by decide),if_pos rfl] at hlen ⊢;have hl2:=hlen;simp only [List.length_append,List.length_cons,List.length_nil,blksS,List.headD_cons] at hl2;have CB:=qh fun W (hf:Fr B g w W) (l':Str) (hk:Wx B g l' W) hl=>hCX b0 0 rfl bh B g l' W hk (hza.below hf.1 (Nat.le_refl _)) hl
  have RB:=qh fun W (hf:Fr B g w W)=>(hf.1.cell (p:=⟨b2,o2,none⟩) hb2).trans rb
  simp only [Sl.v] at CB RB;rw [show (blksS [b0]).headD []=stsS b0 by rw [blksS];rfl];have C1:=qh (around_any (a:=[87,72,73,76,69,32]) (b:=[32,68,79,10]) K1.out hV1 hv1 (by simp only [List.length_append,List.length_cons,List.length_nil];omega));have HL:=qh hl2;clear p1 p2 p3 p4 p5 p6 p7 hl2 hv1 hz0 hza hb2 rb hRd hnm hdb hvb hcb hlb hfb hbb hli hbi hN hNb hD hV hC hCE hL hLE hF hR hE hD1 hV1 hpl hvl hK ng hlen IH hCX;go_enter Tryz.func63,Tryz.ntmps63
  go_upto_region 1 with (fail)
  subst e1;generalize w.alloc (.cells (sC ⟨5,nm,hd,hv,s1,s2,s3,⟨some ⟨b2,o2,none⟩,1,c4⟩,ln⟩).toArray 49)=w1 at *;have c0:=(cell_of H1.out.box (i:=0) rfl).1;go_wp2_with (first|((with_reducible refine m_loadR (st_val H1.out.box) 44 34 ?_ ?_ ?_ ?_ ?_ ?_);rfl;rfl;rfl;rfl;kernel_rfl)|(go_at_call 100;fail))
  refine C1.out.mono ?_;rintro e w2 ⟨rfl,k9,f9⟩;have K2:=qh k9;have F2:=qh (F1.out.trans f9);have H2:=qh (H1.out.fr f9 NG.out (by decide));clear k9 f9 K1 F1 H1 C1 c0;have c17:=(cell_of H2.out.box (i:=17) rfl).1;simp only [Sl.v] at c17;have a0:=RB.out _ F2.out;go_wp2_with (go_at_call 38;fail)
  refine (CB.out _ F2.out _ K2.out (by have:=HL.out;simp only [List.length_append,List.length_cons,List.length_nil];omega)).mono ?_;rintro e w3 ⟨rfl,k9,f9⟩;have K3:=qh k9;have F3:=qh (F2.out.trans f9);have H3:=qh (H2.out.fr f9 NG.out (by decide));clear k9 f9 c17 a0 K2 F2 H2;go_wp2_with (go_at_call 35;fail)
  refine (put_new [[69,78,68,95,87,72,73,76,69,59,10]] (t:=[69,78,68,95,87,72,73,76,69,59,10]) rfl K3.out (by decide) (by have:=HL.out;simp only [List.length_append,List.length_cons,List.length_nil];omega)).mono ?_;rintro e w4 ⟨rfl,k9,f9⟩;have K9:=qh (show Wx B g (l++([87,72,73,76,69,32]++exS xv++[32,68,79,10]++stsS b0++[69,78,68,95,87,72,73,76,69,59,10])) w4 by simpa only [List.append_assoc] using k9);have F9:=qh (F3.out.trans f9);clear k9 f9;go_wp2_with fail
  go_end0
  exact ⟨rfl,K9.out,F9.out⟩
 ·rw [if_neg (by decide),if_neg (by decide),if_neg (by decide),if_neg (by decide),if_pos (by decide)] at hok
  simp only [Pt.mk.injEq,decide_eq_true_eq] at hok;obtain ⟨p1,p2,p3,p4,p5,p6,p7⟩:=hok;obtain ⟨b0,rfl⟩:∃ b0,xbs=[b0]:=by
   match xbs,p7 with
   | [b0],_=>exact ⟨b0,rfl⟩
  obtain ⟨A4,m,c4⟩:=s4;have hRd:Rd slC 1 w B A4 m c4 BH:=hR;obtain rfl:m=1:=by have:=hE.len;have:=hRd.1;simp only [List.length_cons,List.length_nil] at *;omega
  obtain ⟨z0,bh,b2,o2,hz0,hza,rfl,hb2,rb⟩:=blk_row hRd hE (q:=0) (by decide);obtain rfl:b0=z0:=by simpa using hz0
  rw [Nat.add_zero] at rb;have hv1:=hvl (by simpa using oneIf_eq.1.1 p3);rw [stT,if_neg (by decide),if_neg (by decide),if_neg (by decide),if_neg (by decide),if_neg (by decide),if_pos rfl] at hlen ⊢;have hl2:=hlen;simp only [List.length_append,List.length_cons,List.length_nil,blksS,List.headD_cons] at hl2;have CB:=qh fun W (hf:Fr B g w W) (l':Str) (hk:Wx B g l' W) hl=>hCX b0 0 rfl bh B g l' W hk (hza.below hf.1 (Nat.le_refl _)) hl
  have RB:=qh fun W (hf:Fr B g w W)=>(hf.1.cell (p:=⟨b2,o2,none⟩) hb2).trans rb
  simp only [Sl.v] at CB RB;rw [show (blksS [b0]).headD []=stsS b0 by rw [blksS];rfl];have C1:=qh fun W (hf:Fr B g w W) (l':Str) (hk:Wx B g l' W) hl=>around_any (a:=[85,78,84,73,76,32]) (b:=[32,69,78,68,95,82,69,80,69,65,84,59,10]) hk (hV.below hf.1 (Nat.le_refl _)) hv1 hl
  have HL:=qh hl2;clear p1 p2 p3 p4 p5 p6 p7 hl2 hv1 hz0 hza hb2 rb hRd hnm hdb hvb hcb hlb hfb hbb hli hbi hN hNb hD hV hC hCE hL hLE hF hR hE hD1 hV1 hpl hvl hK ng hlen IH hCX;go_enter Tryz.func63,Tryz.ntmps63
  go_upto_region 1 with (fail)
  subst e1;generalize w.alloc (.cells (sC ⟨6,nm,hd,hv,s1,s2,s3,⟨some ⟨b2,o2,none⟩,1,c4⟩,ln⟩).toArray 49)=w1 at *;have c0:=(cell_of H1.out.box (i:=0) rfl).1;go_wp2_with (go_at_call 35;fail)
  refine (put_new [[82,69,80,69,65,84,10]] (t:=[82,69,80,69,65,84,10]) rfl K1.out (by decide) (by have:=HL.out;simp only [List.length_append,List.length_cons,List.length_nil];omega)).mono ?_;rintro e w2 ⟨rfl,k9,f9⟩;have K2:=qh k9;have F2:=qh (F1.out.trans f9);have H2:=qh (H1.out.fr f9 NG.out (by decide));clear k9 f9 K1 F1 H1 c0;have c17:=(cell_of H2.out.box (i:=17) rfl).1;simp only [Sl.v] at c17;have a0:=RB.out _ F2.out;go_wp2_with (go_at_call 38;fail)
  refine (CB.out _ F2.out _ K2.out (by have:=HL.out;simp only [List.length_append,List.length_cons,List.length_nil];omega)).mono ?_;rintro e w3 ⟨rfl,k9,f9⟩;have K3:=qh k9;have F3:=qh (F2.out.trans f9);have H3:=qh (H2.out.fr f9 NG.out (by decide));clear k9 f9 c17 a0 K2 F2 H2;go_wp2_with (first|((with_reducible refine m_loadR (st_val H3.out.box) 44 58 ?_ ?_ ?_ ?_ ?_ ?_);rfl;rfl;rfl;rfl;kernel_rfl)|(go_at_call 100;fail))
  refine (C1.out _ F3.out _ K3.out (by have:=HL.out;simp only [List.length_append,List.length_cons,List.length_nil];omega)).mono ?_;rintro e w4 ⟨rfl,k9,f9⟩;have K9:=qh (show Wx B g (l++([82,69,80,69,65,84,10]++stsS b0++[85,78,84,73,76,32]++exS xv++[32,69,78,68,95,82,69,80,69,65,84,59,10])) w4 by simpa only [List.append_assoc] using k9);have F9:=qh (F3.out.trans f9);clear k9 f9;go_wp2_with fail
  go_end0
  exact ⟨rfl,K9.out,F9.out⟩
 ·rw [stT,if_neg (by decide),if_neg (by decide),if_neg (by decide),if_neg (by decide),if_neg (by decide),if_neg (by decide),if_pos rfl] at hlen ⊢
  have HL:=qh hlen;clear hok hnm hdb hvb hcb hlb hfb hbb hli hbi hN hNb hD hV hC hCE hL hLE hF hR hE hD1 hV1 hpl hvl hK ng hlen IH hCX;go_enter Tryz.func63,Tryz.ntmps63
  go_upto_region 1 with (fail)
  subst e1;generalize w.alloc (.cells (sC ⟨7,nm,hd,hv,s1,s2,s3,s4,ln⟩).toArray 49)=w1 at *;have c0:=(cell_of H1.out.box (i:=0) rfl).1;go_wp2_with (go_at_call 35;fail)
  refine (put_new [[69,88,73,84,59,10]] (t:=[69,88,73,84,59,10]) rfl K1.out (by decide) HL.out).mono ?_;rintro e w2 ⟨rfl,k9,f9⟩;have K9:=qh k9;have F9:=qh (F1.out.trans f9);clear k9 f9;go_wp2_with fail
  go_end0
  exact ⟨rfl,K9.out,F9.out⟩
 ·rw [stT,if_neg (by decide),if_neg (by decide),if_neg (by decide),if_neg (by decide),if_neg (by decide),if_neg (by decide),if_neg (by decide),if_pos rfl] at hlen ⊢
  have HL:=qh hlen;clear hok hnm hdb hvb hcb hlb hfb hbb hli hbi hN hNb hD hV hC hCE hL hLE hF hR hE hD1 hV1 hpl hvl hK ng hlen IH hCX;go_enter Tryz.func63,Tryz.ntmps63
  go_upto_region 1 with (fail)
  subst e1;generalize w.alloc (.cells (sC ⟨8,nm,hd,hv,s1,s2,s3,s4,ln⟩).toArray 49)=w1 at *;have c0:=(cell_of H1.out.box (i:=0) rfl).1;go_wp2_with (go_at_call 35;fail)
  refine (put_new [[82,69,84,85,82,78,59,10]] (t:=[82,69,84,85,82,78,59,10]) rfl K1.out (by decide) HL.out).mono ?_;rintro e w2 ⟨rfl,k9,f9⟩;have K9:=qh k9;have F9:=qh (F1.out.trans f9);clear k9 f9;go_wp2_with fail
  go_end0
  exact ⟨rfl,K9.out,F9.out⟩
 ·rw [if_neg (by decide),if_neg (by decide),if_neg (by decide),if_neg (by decide),if_neg (by decide),if_neg (by decide),if_pos rfl] at hok
  simp only [Pt.mk.injEq,decide_eq_true_eq] at hok;have hle:xfs.length=xcs.length:=by omega
  rw [stT,if_neg (by decide),if_neg (by decide),if_neg (by decide),if_neg (by decide),if_neg (by decide),if_neg (by decide),if_neg (by decide),if_neg (by decide)] at hlen ⊢;have C1:=qh (call_any (h:=⟨9,nm,hd,hv,s1,s2,s3,s4,ln⟩) K1.out (hC.below F1.out.1 (Nat.le_refl _)) (ExsAt.below F1.out.1 (Nat.le_refl _) hCE) (hF.below F1.out.1 (Nat.le_refl _)) hcb hfb hle hlen);clear hok hle hnm hdb hvb hcb hlb hfb hbb hli hbi hN hNb hD hV hC hCE hL hLE hF hR hE hD1 hV1 hpl hvl hK ng hlen IH hCX;go_enter Tryz.func63,Tryz.ntmps63
  go_upto_region 1 with (fail)
  subst e1;generalize w.alloc (.cells (sC ⟨9,nm,hd,hv,s1,s2,s3,s4,ln⟩).toArray 49)=w1 at *;have c0:=(cell_of H1.out.box (i:=0) rfl).1;go_wp2_with (first|((with_reducible refine m_load H1.out.box 49 3 ?_ ?_ ?_ ?_ ?_ ?_);rfl;rfl;rfl;rfl;kernel_rfl)|(go_at_call 104;fail))
  refine C1.out.mono ?_;rintro e w2 ⟨rfl,k9,f9⟩;have K9:=qh k9;have F9:=qh (F1.out.trans f9);clear k9 f9 K1 F1 H1 C1 c0;go_wp2_with fail
  go_end0
  exact ⟨rfl,K9.out,F9.out⟩
 ·rw [if_neg (by omega),if_neg (by omega),if_neg (by omega),if_neg (by omega),if_neg (by omega),if_neg (by omega),if_neg (by omega)] at hok
  cases hok
theorem wrb_mono {N M:Nat} (h:WrB N) (hm:M≤N):WrB M:=fun L hL=>h L (Nat.lt_of_lt_of_le hL hm)
theorem stmt_all:∀ N,WrS N
 | 0=>fun _ h=>absurd h (by omega)
 | N+1=>stmt_step (wrb_mono (block_step (stmt_all N)) (by omega))
theorem block_any {L:List St} (hb:stsB L=true) (hi:inSs L) {s:Sl} {B g:Nat} {l:Str} {w:World} (hK:Wx B g l w) (hS:StL w B s L) (hlen:l.length+(stsS L).length≤lim) :
  Calls Tryz.prog 38 #[.pointer (some ⟨g,0,none⟩),s.v] w (Put B g l (stsS L) w):=
 block_step (stmt_all (SizeOf.sizeOf L)) L (by omega) hb hi s B g l w hK hS hlen
end sh
namespace sd
open ChangeShapes WideShapes ChangeAt RowKit k rr
def i1 (x:Int):List Value:=[.int .i64 x]
def GotB (n:Nat) (L:List Int) (w:World) (e:Ending) (w':World):Prop:=
  ∃ g cap,e=.returned (.slice (some ⟨g,0,none⟩) n cap)∧w.heap.size≤g∧g<w'.heap.size∧n≤cap∧cap≤maxLen∧L.length=n∧Box w' g 0 (L.map fun x=>.int .i64 x)∧Below w.heap.size w w'
def b2 (p:Prop) [Decidable p]:Int:=if p then 1 else 0
def up (et pt:Int):Int:=if et<pt then et+1 else et
structure Rw where
  kind:Int
  name:ByteArray
  pins:ByteArray
  its:List ByteArray
def table:List Rw:=[
    ⟨10,⟨#[84,79,78]⟩,⟨#[105,73,111,79]⟩,[⟨#[73,78]⟩,⟨#[80,84]⟩,⟨#[81]⟩,⟨#[69,84]⟩]⟩,
    ⟨11,⟨#[84,79,70]⟩,⟨#[105,73,111,79]⟩,[⟨#[73,78]⟩,⟨#[80,84]⟩,⟨#[81]⟩,⟨#[69,84]⟩]⟩,
    ⟨12,⟨#[84,80]⟩,⟨#[105,73,111,79,46,46]⟩,[⟨#[73,78]⟩,⟨#[80,84]⟩,⟨#[81]⟩,⟨#[69,84]⟩]⟩,
    ⟨13,⟨#[67,84,85]⟩,⟨#[105,105,73,111,79,46]⟩,[⟨#[67,85]⟩,⟨#[82]⟩,⟨#[80,86]⟩,⟨#[81]⟩,⟨#[67,86]⟩]⟩,
    ⟨14,⟨#[67,84,68]⟩,⟨#[105,105,73,111,79,46]⟩,[⟨#[67,68]⟩,⟨#[76,68]⟩,⟨#[80,86]⟩,⟨#[81]⟩,⟨#[67,86]⟩]⟩,
    ⟨15,⟨#[82,95,84,82,73,71]⟩,⟨#[105,111,46]⟩,[⟨#[67,76,75]⟩,⟨#[81]⟩]⟩,
    ⟨16,⟨#[70,95,84,82,73,71]⟩,⟨#[105,111,46]⟩,[⟨#[67,76,75]⟩,⟨#[81]⟩]⟩,
    ⟨17,⟨#[83,82]⟩,⟨#[105,105,111]⟩,[⟨#[83,49]⟩,⟨#[82]⟩,⟨#[81,49]⟩]⟩,
    ⟨18,⟨#[82,83]⟩,⟨#[105,105,111]⟩,[⟨#[83]⟩,⟨#[82,49]⟩,⟨#[81,49]⟩]⟩,
    ⟨20,⟨#[77,67,95,80,111,119,101,114]⟩,⟨#[73,105,111,111]⟩,[⟨#[65,120,105,115]⟩,⟨#[69,110,97,98,108,101]⟩,⟨#[83,116,97,116,117,115]⟩,⟨#[69,114,114,111,114]⟩]⟩,
    ⟨21,⟨#[77,67,95,72,111,109,101]⟩,⟨#[73,105,111,111,111,111,111,46,46]⟩,[⟨#[65,120,105,115]⟩,⟨#[69,120,101,99,117,116,101]⟩,⟨#[68,111,110,101]⟩,⟨#[66,117,115,121]⟩,⟨#[65,99,116,105,118,101]⟩,⟨#[67,111,109,109,97,110,100,65,98,111,114,116,101,100]⟩,⟨#[69,114,114,111,114]⟩]⟩,
    ⟨22,⟨#[77,67,95,83,116,111,112]⟩,⟨#[73,105,111,111,111,111,111,46,46]⟩,[⟨#[65,120,105,115]⟩,⟨#[69,120,101,99,117,116,101]⟩,⟨#[68,111,110,101]⟩,⟨#[66,117,115,121]⟩,⟨#[65,99,116,105,118,101]⟩,⟨#[67,111,109,109,97,110,100,65,98,111,114,116,101,100]⟩,⟨#[69,114,114,111,114]⟩]⟩,
    ⟨23,⟨#[77,67,95,72,97,108,116]⟩,⟨#[73,105,111,111,111,111,111,46,46]⟩,[⟨#[65,120,105,115]⟩,⟨#[69,120,101,99,117,116,101]⟩,⟨#[68,111,110,101]⟩,⟨#[66,117,115,121]⟩,⟨#[65,99,116,105,118,101]⟩,⟨#[67,111,109,109,97,110,100,65,98,111,114,116,101,100]⟩,⟨#[69,114,114,111,114]⟩]⟩,
    ⟨24,⟨#[77,67,95,77,111,118,101,65,98,115,111,108,117,116,101]⟩,⟨#[73,105,73,73,73,111,111,111,111,111,46,46]⟩,[⟨#[65,120,105,115]⟩,⟨#[69,120,101,99,117,116,101]⟩,⟨#[80,111,115,105,116,105,111,110]⟩,⟨#[86,101,108,111,99,105,116,121]⟩,⟨#[66,117,102,102,101,114,77,111,100,101]⟩,⟨#[68,111,110,101]⟩,⟨#[66,117,115,121]⟩,⟨#[65,99,116,105,118,101]⟩,⟨#[67,111,109,109,97,110,100,65,98,111,114,116,101,100]⟩,⟨#[69,114,114,111,114]⟩]⟩,
    ⟨25,⟨#[77,67,95,77,111,118,101,82,101,108,97,116,105,118,101]⟩,⟨#[73,105,73,73,73,111,111,111,111,111,46,46]⟩,[⟨#[65,120,105,115]⟩,⟨#[69,120,101,99,117,116,101]⟩,⟨#[68,105,115,116,97,110,99,101]⟩,⟨#[86,101,108,111,99,105,116,121]⟩,⟨#[66,117,102,102,101,114,77,111,100,101]⟩,⟨#[68,111,110,101]⟩,⟨#[66,117,115,121]⟩,⟨#[65,99,116,105,118,101]⟩,⟨#[67,111,109,109,97,110,100,65,98,111,114,116,101,100]⟩,⟨#[69,114,114,111,114]⟩]⟩,
    ⟨26,⟨#[77,67,95,77,111,118,101,65,100,100,105,116,105,118,101]⟩,⟨#[73,105,73,73,73,111,111,111,111,111,46,46]⟩,[⟨#[65,120,105,115]⟩,⟨#[69,120,101,99,117,116,101]⟩,⟨#[68,105,115,116,97,110,99,101]⟩,⟨#[86,101,108,111,99,105,116,121]⟩,⟨#[66,117,102,102,101,114,77,111,100,101]⟩,⟨#[68,111,110,101]⟩,⟨#[66,117,115,121]⟩,⟨#[65,99,116,105,118,101]⟩,⟨#[67,111,109,109,97,110,100,65,98,111,114,116,101,100]⟩,⟨#[69,114,114,111,114]⟩]⟩,
    ⟨27,⟨#[77,67,95,77,111,118,101,86,101,108,111,99,105,116,121]⟩,⟨#[73,105,73,111,111,111,111,111,46,46]⟩,[⟨#[65,120,105,115]⟩,⟨#[69,120,101,99,117,116,101]⟩,⟨#[86,101,108,111,99,105,116,121]⟩,⟨#[73,110,86,101,108,111,99,105,116,121]⟩,⟨#[66,117,115,121]⟩,⟨#[65,99,116,105,118,101]⟩,⟨#[67,111,109,109,97,110,100,65,98,111,114,116,101,100]⟩,⟨#[69,114,114,111,114]⟩]⟩,
    ⟨28,⟨#[77,67,95,71,101,97,114,73,110]⟩,⟨#[73,105,73,73,73,111,111,111,111,111,46,46]⟩,[⟨#[65,120,105,115]⟩,⟨#[69,120,101,99,117,116,101]⟩,⟨#[77,97,115,116,101,114]⟩,⟨#[78,117,109,101,114,97,116,111,114]⟩,⟨#[68,101,110,111,109,105,110,97,116,111,114]⟩,⟨#[73,110,71,101,97,114]⟩,⟨#[66,117,115,121]⟩,⟨#[65,99,116,105,118,101]⟩,⟨#[67,111,109,109,97,110,100,65,98,111,114,116,101,100]⟩,⟨#[69,114,114,111,114]⟩]⟩,
    ⟨29,⟨#[77,67,95,82,101,115,101,116]⟩,⟨#[73,105,111,111,46]⟩,[⟨#[65,120,105,115]⟩,⟨#[69,120,101,99,117,116,101]⟩,⟨#[68,111,110,101]⟩,⟨#[69,114,114,111,114]⟩]⟩,
    ⟨30,⟨#[77,67,95,83,101,116,80,111,115,105,116,105,111,110]⟩,⟨#[73,105,73,111,111,46]⟩,[⟨#[65,120,105,115]⟩,⟨#[69,120,101,99,117,116,101]⟩,⟨#[80,111,115,105,116,105,111,110]⟩,⟨#[68,111,110,101]⟩,⟨#[69,114,114,111,114]⟩]⟩,
    ⟨31,⟨#[77,67,95,83,101,116,79,118,101,114,114,105,100,101]⟩,⟨#[73,105,73,111]⟩,[⟨#[65,120,105,115]⟩,⟨#[69,110,97,98,108,101]⟩,⟨#[80,101,114,99,101,110,116]⟩,⟨#[69,110,97,98,108,101,100]⟩]⟩]
def kindIn:List Rw→ByteArray→Int
  | [],_=>0
  | r::l,s=>if r.name=s then r.kind else kindIn l s
structure Pn where
  name:ByteArray
  type:Int
  inp:Bool
def pC (p:Pn):List Value:=[.string p.name,.int .i64 p.type,.bool p.inp]
def kindOf (s:ByteArray):Int:=kindIn table s
def GotP (L:List Pn) (w:World) (e:Ending) (w':World):Prop:=
  ∃ A c,e=.returned (.slice A L.length c)∧rr.Rd pC 3 w' w'.heap.size A L.length c L∧Below w.heap.size w w'
structure Sh where
  name:ByteArray
  ins:ByteArray
  outs:ByteArray
  inner:Int
def shA:List (Int×Sh):=[
    (10,⟨⟨#[84,79,78]⟩,⟨#[73,78,32,80,84]⟩,⟨#[81,32,69,84]⟩,0⟩),
    (11,⟨⟨#[84,79,70]⟩,⟨#[73,78,32,80,84]⟩,⟨#[81,32,69,84]⟩,0⟩),
    (12,⟨⟨#[84,80]⟩,⟨#[73,78,32,80,84]⟩,⟨#[81,32,69,84]⟩,2⟩),
    (13,⟨⟨#[67,84,85]⟩,⟨#[67,85,32,82,32,80,86]⟩,⟨#[81,32,67,86]⟩,1⟩),
    (14,⟨⟨#[67,84,68]⟩,⟨#[67,68,32,76,68,32,80,86]⟩,⟨#[81,32,67,86]⟩,1⟩),
    (15,⟨⟨#[82,95,84,82,73,71]⟩,⟨#[67,76,75]⟩,⟨#[81]⟩,1⟩),
    (16,⟨⟨#[70,95,84,82,73,71]⟩,⟨#[67,76,75]⟩,⟨#[81]⟩,1⟩),
    (17,⟨⟨#[83,82]⟩,⟨#[83,49,32,82]⟩,⟨#[81,49]⟩,0⟩),
    (18,⟨⟨#[82,83]⟩,⟨#[83,32,82,49]⟩,⟨#[81,49]⟩,0⟩)]
def shM:List (Int×Sh):=[
    (20,⟨⟨#[77,67,95,80,111,119,101,114]⟩,⟨#[65,120,105,115,32,69,110,97,98,108,101]⟩,⟨#[83,116,97,116,117,115,32,69,114,114,111,114]⟩,0⟩),
    (21,⟨⟨#[77,67,95,72,111,109,101]⟩,⟨#[65,120,105,115,32,69,120,101,99,117,116,101]⟩,⟨#[68,111,110,101,32,66,117,115,121,32,65,99,116,105,118,101,32,67,111,109,109,97,110,100,65,98,111,114,116,101,100,32,69,114,114,111,114]⟩,2⟩),
    (22,⟨⟨#[77,67,95,83,116,111,112]⟩,⟨#[65,120,105,115,32,69,120,101,99,117,116,101]⟩,⟨#[68,111,110,101,32,66,117,115,121,32,65,99,116,105,118,101,32,67,111,109,109,97,110,100,65,98,111,114,116,101,100,32,69,114,114,111,114]⟩,2⟩),
    (23,⟨⟨#[77,67,95,72,97,108,116]⟩,⟨#[65,120,105,115,32,69,120,101,99,117,116,101]⟩,⟨#[68,111,110,101,32,66,117,115,121,32,65,99,116,105,118,101,32,67,111,109,109,97,110,100,65,98,111,114,116,101,100,32,69,114,114,111,114]⟩,2⟩),
    (24,⟨⟨#[77,67,95,77,111,118,101,65,98,115,111,108,117,116,101]⟩,⟨#[65,120,105,115,32,69,120,101,99,117,116,101,32,80,111,115,105,116,105,111,110,32,86,101,108,111,99,105,116,121,32,66,117,102,102,101,114,77,111,100,101]⟩,⟨#[68,111,110,101,32,66,117,115,121,32,65,99,116,105,118,101,32,67,111,109,109,97,110,100,65,98,111,114,116,101,100,32,69,114,114,111,114]⟩,2⟩),
    (25,⟨⟨#[77,67,95,77,111,118,101,82,101,108,97,116,105,118,101]⟩,⟨#[65,120,105,115,32,69,120,101,99,117,116,101,32,68,105,115,116,97,110,99,101,32,86,101,108,111,99,105,116,121,32,66,117,102,102,101,114,77,111,100,101]⟩,⟨#[68,111,110,101,32,66,117,115,121,32,65,99,116,105,118,101,32,67,111,109,109,97,110,100,65,98,111,114,116,101,100,32,69,114,114,111,114]⟩,2⟩),
    (26,⟨⟨#[77,67,95,77,111,118,101,65,100,100,105,116,105,118,101]⟩,⟨#[65,120,105,115,32,69,120,101,99,117,116,101,32,68,105,115,116,97,110,99,101,32,86,101,108,111,99,105,116,121,32,66,117,102,102,101,114,77,111,100,101]⟩,⟨#[68,111,110,101,32,66,117,115,121,32,65,99,116,105,118,101,32,67,111,109,109,97,110,100,65,98,111,114,116,101,100,32,69,114,114,111,114]⟩,2⟩),
    (27,⟨⟨#[77,67,95,77,111,118,101,86,101,108,111,99,105,116,121]⟩,⟨#[65,120,105,115,32,69,120,101,99,117,116,101,32,86,101,108,111,99,105,116,121]⟩,⟨#[73,110,86,101,108,111,99,105,116,121,32,66,117,115,121,32,65,99,116,105,118,101,32,67,111,109,109,97,110,100,65,98,111,114,116,101,100,32,69,114,114,111,114]⟩,2⟩),
    (28,⟨⟨#[77,67,95,71,101,97,114,73,110]⟩,⟨#[65,120,105,115,32,69,120,101,99,117,116,101,32,77,97,115,116,101,114,32,78,117,109,101,114,97,116,111,114,32,68,101,110,111,109,105,110,97,116,111,114]⟩,⟨#[73,110,71,101,97,114,32,66,117,115,121,32,65,99,116,105,118,101,32,67,111,109,109,97,110,100,65,98,111,114,116,101,100,32,69,114,114,111,114]⟩,2⟩),
    (29,⟨⟨#[77,67,95,82,101,115,101,116]⟩,⟨#[65,120,105,115,32,69,120,101,99,117,116,101]⟩,⟨#[68,111,110,101,32,69,114,114,111,114]⟩,1⟩),
    (30,⟨⟨#[77,67,95,83,101,116,80,111,115,105,116,105,111,110]⟩,⟨#[65,120,105,115,32,69,120,101,99,117,116,101,32,80,111,115,105,116,105,111,110]⟩,⟨#[68,111,110,101,32,69,114,114,111,114]⟩,1⟩),
    (31,⟨⟨#[77,67,95,83,101,116,79,118,101,114,114,105,100,101]⟩,⟨#[65,120,105,115,32,69,110,97,98,108,101,32,80,101,114,99,101,110,116]⟩,⟨#[69,110,97,98,108,101,100]⟩,0⟩)]
def shIn (d:Sh):List (Int×Sh)→Int→Sh
  | [],_=>d
  | r::l,k=>if (k==r.1)=true then r.2 else shIn d l k
def sh0:Sh:=⟨⟨#[]⟩,⟨#[]⟩,⟨#[]⟩,0⟩
def motionOf (k:Int):Sh:=shIn sh0 shM k
def shapeOf (k:Int):Sh:=shIn (motionOf k) shA k
theorem motion_any (n:Int) (w:World):Calls Tryz.prog 126 #[.int .i64 n] w fun e w'=>e=.returned (.agg #[.string (motionOf n).name,.string (motionOf n).ins,.string (motionOf n).outs,.int .i64 (motionOf n).inner])∧Below w.heap.size w w':=by
  go_enter Tryz.func126,Tryz.ntmps126
  go_wp2
  all_goals
    refine bodyPost_ret (k.results_cell rfl rfl (run_loadVar_mid _ w.heap.size 0 146 _ _ (Box.new w _ _).range rfl rfl (by kernel_rfl))) rfl ?_;refine ⟨?_,(Below.refl _ _).alloc (Nat.le_refl _) _⟩;simp [motionOf,shIn,shM,sh0, *]
theorem shape_any (n:Int) (w:World):Calls Tryz.prog 98 #[.int .i64 n] w fun e w'=>e=.returned (.agg #[.string (shapeOf n).name,.string (shapeOf n).ins,.string (shapeOf n).outs,.int .i64 (shapeOf n).inner])∧Below w.heap.size w w':=by
  have MM:=qh fun W=>motion_any n W
  go_enter Tryz.func98,Tryz.ntmps98
  go_wp2_with (go_at_call 126;fail)
  all_goals first
    | (refine bodyPost_ret (k.results_cell rfl rfl (run_loadVar_mid _ w.heap.size 0 146 _ _ (Box.new w _ _).range rfl rfl (by kernel_rfl))) rfl ?_
       refine ⟨?_,(Below.refl _ _).alloc (Nat.le_refl _) _⟩;simp [shapeOf,shIn,shA, *];done)
    | skip
  with_reducible refine (MM.out _).mono ?_
  rintro e w1 ⟨rfl,hb⟩;obtain ⟨x,hB,_⟩:=boxes1 hb;obtain ⟨y,z,hB2⟩:=Box.puts (us:=[.string (motionOf n).name,.string (motionOf n).ins,.string (motionOf n).outs,.int .i64 (motionOf n).inner]) x rfl;have HB:=qh (hB.trans (hB2 _ (Nat.le_refl _)));have HY:=qh y;obtain ⟨c0,f0,c1,f1,c2,f2,c3,f3,_⟩:=x;clear hb hB y z hB2;go_wp2;refine bodyPost_ret (k.results_cell rfl rfl (run_loadVar_mid _ w.heap.size 0 146 _ _ HY.out.range rfl rfl (by kernel_rfl))) rfl ?_;refine ⟨?_,HB.out⟩;simp [shapeOf,shIn,shA, *]
theorem sh_field (s:Sh) (w:World):(Instr.field 146 (.agg #[.string s.name,.string s.ins,.string s.outs,.int .i64 s.inner]) 0).run Tryz.prog w=.ok (.string s.name) w:=by kernel_rfl
theorem name_of (n:Int) (w:World):Calls Tryz.prog 62 #[.int .i64 n] w fun e w'=>e=.returned (.string (shapeOf n).name)∧Below w.heap.size w w':=by
  have SS:=qh fun W=>shape_any n W
  go_enter Tryz.func62,Tryz.ntmps62
  go_wp2_with (go_at_call 98;(with_reducible refine (SS.out _).mono ?_);rintro e w1 ⟨rfl,hb⟩;have HB:=qh hb;have q0:=sh_field (shapeOf n) w1;clear hb)
  go_ret
  exact ⟨rfl,HB.out⟩
theorem bytes_ne {a b:ByteArray} (h:a≠b):(a.toList==b.toList)=false:=by
  rw [beq_eq_false_iff_ne];intro e;rw [ByteArray.toList_eq,ByteArray.toList_eq] at e;exact h (ByteArray.ext (Array.toList_inj.1 e))
def kindFrom (s:ByteArray):Nat→Int→Int
  | 0,_=>0
  | m+1,n=>if (shapeOf n).name=s then n else kindFrom s m (n+1)
def kindS (s:ByteArray):Int:=if s=⟨#[]⟩ then 0 else kindFrom s 22 10
theorem kind_any (s:ByteArray) (w:World):Calls Tryz.prog 177 #[.string s] w fun e w'=>e=.returned (.int .i64 (kindS s))∧Below w.heap.size w w':=by
  have NN:=qh fun n W=>name_of n W
  by_cases hs:s=⟨#[]⟩
  · subst hs
    have hq:((⟨#[]⟩:ByteArray).toList==[])=true:=by kernel_rfl
    go_enter Tryz.func177,Tryz.ntmps177
    go_wp2_with fail
    go_ret
    exact ⟨rfl,Below.refl _ _⟩
  · have hq:(s.toList==[])=false:=by
      have:=bytes_ne hs;rwa [show (⟨#[]⟩:ByteArray).toList=[] by rw [ByteArray.toList_eq]] at this
    have HK:=qh (show kindS s=kindFrom s 22 10 from if_neg hs);go_enter Tryz.func177,Tryz.ntmps177
    go_wp2_with fail
    go_loopw [3] (fun s3 wq=>∃ (m:Nat) (q:Int),q=32-m∧m≤22∧s3=.int .i64 q∧kindFrom s m q=kindFrom s 22 10∧Below w.heap.size w wq) (fun i _=>32-(intOf i).toNat)
    case atStart=>exact ⟨22,10,rfl,Nat.le_refl _,rfl,rfl,Below.refl _ _⟩
    case round=>
      obtain ⟨m,q,hq2,hm,rfl,hk,hB⟩:=hrel;have HB:=qh hB;clear hB;cases m with
      | zero=>
        have hz:¬ (q≤31):=by omega
        have HE:=qh hk;clear hk hq2;go_wp2_with fail
        go_ret
        refine ⟨ret_int ?_,HB.out⟩;rw [HK.out,←HE.out];rfl
      | succ m=>
        have hz:q≤31:=by omega
        have hn1:-100≤q:=by omega
        have HQ:=qh hq2;clear hq2;rw [kindFrom] at hk;by_cases he:(shapeOf q).name=s
        · rw [if_pos he] at hk
          have HE:=qh hk;have h2:((shapeOf q).name.toList==s.toList)=true:=by rw [he];simp
          clear hk he;go_wp2_with (go_at_call 62;(with_reducible refine (NN.out _ _).mono ?_);rintro e w1 ⟨rfl,hb⟩;have HB1:=btr HB hb;clear hb)
          go_ret
          refine ⟨ret_int ?_,HB1.out⟩;rw [HK.out,←HE.out]
        · rw [if_neg he] at hk
          have HE:=qh hk;have h2:=bytes_ne he;clear hk he;go_wp2_with (go_at_call 62;(with_reducible refine (NN.out _ _).mono ?_);rintro e w1 ⟨rfl,hb⟩;have HB1:=btr HB hb;clear hb)
          go_roundw
          case rel=>exact ⟨m,q+1,by have:=HQ.out;omega,by omega,by go_num,HE.out,HB1.out⟩
          case measure=>have:=HQ.out;simp [intOf];omega
end sd
namespace sh
open ChangeShapes WideShapes ChangeAt RowKit k rr tk tr
def kindL:List Int:=[10,11,12,13,14,15,16,17,18,20,21,22,23,24,25,26,27,28,29,30,31]
theorem kind_all:kindL.all (fun n=>decide ((sd.shapeOf n).name=⟨(kindS n).toArray⟩)&&(kinds.any (fun k=>k.2==n)&&(!(kindS n==[]))))=true:=by kernel_rfl
theorem kind_none {n:Int} (h:n ∉ kindL):(sd.shapeOf n).name=⟨#[]⟩∧kindS n=[]∧kinds.any (fun k=>k.2==n)=false:=by
 have hk:∀ k∈kinds,k.2≠n:=fun k hk e=>h (by
  have:kinds.all (fun k=>kindL.contains k.2)=true:=by decide
  rw [List.all_eq_true] at this;have h2:=this k hk;rw [List.contains_iff_mem] at h2;exact e ▸ h2)
 have hf:kinds.any (fun k=>k.2==n)=false:=by
  rw [List.any_eq_false];intro k hk2;simpa using hk k hk2
 refine ⟨?_,?_,hf⟩
 ·have hs:∀ l:List (Int×sd.Sh),(∀ p∈l,p.1≠n)→∀ d,sd.shIn d l n=d:=by
   intro l;induction l with
   | nil=>intro _ d;rfl
   | cons p l ih=>
    intro hl d;obtain ⟨k,s⟩:=p;have h1:=hl _ (List.mem_cons_self ..);have h2:=ih (fun q hq=>hl q (List.mem_cons_of_mem _ hq)) d;simp only at h1;rw [sd.shIn,if_neg (by simpa using Ne.symm h1)];exact h2
  have a1:(sd.shA++sd.shM).all (fun p=>kindL.contains p.1)=true:=by decide
  rw [List.all_eq_true] at a1;have a2:∀ p∈sd.shA++sd.shM,p.1≠n:=fun p hp e=>h (by have:=a1 p hp;rw [List.contains_iff_mem] at this;exact e ▸ this)
  unfold sd.shapeOf sd.motionOf;rw [hs _ (fun p hp=>a2 p (List.mem_append_left _ hp)),hs _ (fun p hp=>a2 p (List.mem_append_right _ hp))];rfl
 ·unfold kindS
  have:kinds.find? (fun k=>k.2==n)=none:=by
   rw [List.find?_eq_none];intro k hk2;simpa using hk k hk2
  rw [this]
theorem kind_name (n:Int):(sd.shapeOf n).name=⟨(kindS n).toArray⟩∧kinds.any (fun k=>k.2==n)=!(kindS n==[]):=by
 by_cases h:n∈kindL
 ·have:=kind_all
  rw [List.all_eq_true] at this;have h2:=this n h;simp only [Bool.and_eq_true,decide_eq_true_eq] at h2;exact ⟨h2.1,by rw [h2.2.1,h2.2.2]⟩
 ·obtain ⟨a,b,c⟩:=kind_none h
  rw [a,b,c];exact ⟨rfl,rfl⟩
theorem stdName_any (n:Int) (w:World):Calls Tryz.prog 62 #[.int .i64 n] w fun e w'=>e=.returned (sv (kindS n))∧Below w.heap.size w w':=by
 have:=sd.name_of n w;rw [(kind_name n).1] at this;exact this
theorem section_any (n:Int) (w:World):Calls Tryz.prog 36 #[.int .i64 n] w fun e w'=>e=.returned (sv (secS n))∧w'=w:=by
 by_cases e0:n=0
 ·subst e0
  go_enter Tryz.func36,Tryz.ntmps36
  go_wp2;go_ret
  exact ⟨rfl,rfl⟩
 by_cases e1:n=1
 ·subst e1
  go_enter Tryz.func36,Tryz.ntmps36
  go_wp2;go_ret
  exact ⟨rfl,rfl⟩
 by_cases e2:n=2
 ·subst e2
  go_enter Tryz.func36,Tryz.ntmps36
  go_wp2;go_ret
  exact ⟨rfl,rfl⟩
 rw [secS,if_neg e0,if_neg e1,if_neg e2];have z0:=neb e0;have z1:=neb e1;have z2:=neb e2;clear e0 e1 e2;go_enter Tryz.func36,Tryz.ntmps36
 go_wp2;go_ret
 exact ⟨rfl,rfl⟩
theorem plain_any (n:Int) (w:World):Calls Tryz.prog 59 #[.int .i64 n] w fun e w'=>e=.returned (sv (plainS n))∧w'=w:=by
 by_cases e1:n=1
 ·subst e1
  go_enter Tryz.func59,Tryz.ntmps59
  go_wp2;go_ret
  exact ⟨rfl,rfl⟩
 by_cases e2:n=2
 ·subst e2
  go_enter Tryz.func59,Tryz.ntmps59
  go_wp2;go_ret
  exact ⟨rfl,rfl⟩
 rw [plainS,if_neg e1,if_neg e2];have z1:=neb e1;have z2:=neb e2;clear e1 e2;go_enter Tryz.func59,Tryz.ntmps59
 go_wp2;go_ret
 exact ⟨rfl,rfl⟩
theorem rightType_any (v:Va) (w:World):Calls Tryz.prog 55 #[.agg (vC v).toArray] w fun e w'=>e=.returned (.bool (typeB v))∧Below w.heap.size w w':=by
 have PL:=qh fun W=>plain_any v.type W
 have SG:=qh fun W=>signed_any v.init W
 have NM:=qh fun W=>stdName_any v.type W
 have KN:=(kind_name v.type).2;have k0:=str_no (kindS v.type) _ rfl;have p0:=str_no (plainS v.type) _ rfl;obtain ⟨nm,ty,se,ar,lo,hi,ini,ln⟩:=v;simp only at PL SG NM KN k0 p0;unfold typeB;simp only;rw [KN];have hp:(ty==1||ty==2)=!(plainS ty==[]):=by
  unfold plainS;by_cases h1:ty=1
  ·subst h1;rfl
  by_cases h2:ty=2
  ·subst h2;rfl
  rw [if_neg h1,if_neg h2,neb h1,neb h2];rfl
 rw [hp];simp only [vC,sv];unfold sv at PL NM;have HB:=qh (al1 w (.cells #[.string ⟨nm.toArray⟩,.int .i64 ty,.int .i64 se,.bool ar,.int .i64 lo,.int .i64 hi,.int .i64 ini,.int .i64 ln] 60));have X1:=qh (Box.new w #[.string ⟨nm.toArray⟩,.int .i64 ty,.int .i64 se,.bool ar,.int .i64 lo,.int .i64 hi,.int .i64 ini,.int .i64 ln] 60);have k1:(⟨(kindS ty).toArray⟩:ByteArray).toList.isEmpty=(kindS ty==[]):=by rw [←k0];cases (⟨(kindS ty).toArray⟩:ByteArray).toList<;>rfl
 have p1:(⟨(plainS ty).toArray⟩:ByteArray).toList.isEmpty=(plainS ty==[]):=by rw [←p0];cases (⟨(plainS ty).toArray⟩:ByteArray).toList<;>rfl
 clear KN hp k0 p0;generalize (⟨(kindS ty).toArray⟩:ByteArray)=xk at *;generalize (⟨(plainS ty).toArray⟩:ByteArray)=xp at *;generalize (⟨nm.toArray⟩:ByteArray)=xn at *;generalize (kindS ty==[])=uk at *;generalize (plainS ty==[])=up at *;obtain ⟨R,hR⟩:∃ R,(if ar=true then !up&&(decide (0≤lo)&&(decide (lo≤hi)&&(decide (hi≤255)&&ini==0))) else if lo≠0∨hi≠0 then false else if ty=1 then ini != -9223372036854775808 else if ty=2 then ini==0||ini==1 else !uk&&ini==0)=R:=⟨_,rfl⟩;rw [hR];have HR:=qh hR;clear hR;go_enter Tryz.func55,Tryz.ntmps55
 go_upto_region 1 with (fail)
 generalize w.alloc (.cells #[.string xn,.int .i64 ty,.int .i64 se,.bool ar,.int .i64 lo,.int .i64 hi,.int .i64 ini,.int .i64 ln] 60)=w1 at *;have ZZ:=qh (show w.heap.size<w1.heap.size from lt_of_cell X1.out.1);have ⟨_,_,c1,_,_,_,c3,_,c4,_,c5,_,c6,_,_⟩:=X1.out;cases ar
 rotate_left 1
 ·go_wp2_with (go_at_call 59;fail)
  refine (PL.out _).mono ?_;rintro e w2 ⟨rfl,rfl⟩;clear PL SG NM k1;cases up
  rotate_left 1
  ·have HF:=qh (show false=R by rw [←HR.out,if_pos trivial];rfl)
   go_wp2_with fail
   go_ret
   exact ⟨ret_bool HF.out,HB.out⟩
  by_cases h1:0≤lo
  rotate_left 1
  ·have HF:=qh (show false=R by rw [←HR.out,if_pos trivial,decide_eq_false h1];rfl)
   go_wp2_with fail
   go_ret
   exact ⟨ret_bool HF.out,HB.out⟩
  by_cases h2:lo≤hi
  rotate_left 1
  ·have HF:=qh (show false=R by rw [←HR.out,if_pos trivial,decide_eq_true h1,decide_eq_false h2];rfl)
   go_wp2_with fail
   go_ret
   exact ⟨ret_bool HF.out,HB.out⟩
  by_cases h3:hi≤255
  rotate_left 1
  ·have HF:=qh (show false=R by rw [←HR.out,if_pos trivial,decide_eq_true h1,decide_eq_true h2,decide_eq_false h3];rfl)
   go_wp2_with fail
   go_ret
   exact ⟨ret_bool HF.out,HB.out⟩
  have HF:=qh (show (ini==0)=R by rw [←HR.out,if_pos trivial,decide_eq_true h1,decide_eq_true h2,decide_eq_true h3];rfl);go_wp2_with fail
  go_ret
  exact ⟨ret_bool HF.out,HB.out⟩
 clear PL p1;by_cases h1:lo=0
 rotate_left 1
 ·have HF:=qh (show false=R by rw [←HR.out,if_neg (by decide),if_pos (Or.inl h1)])
  have z1:(lo != 0)=true:=by rw [bne_iff_ne];exact h1
  clear h1;go_wp2_with fail
  go_ret
  exact ⟨ret_bool HF.out,HB.out⟩
 by_cases h2:hi=0
 rotate_left 1
 ·have HF:=qh (show false=R by rw [←HR.out,if_neg (by decide),if_pos (Or.inr h2)])
  have z2:(hi != 0)=true:=by rw [bne_iff_ne];exact h2
  subst h1;clear h2;go_wp2_with fail
  go_ret
  exact ⟨ret_bool HF.out,HB.out⟩
 subst h1 h2;by_cases e1:ty=1
 ·subst e1
  have HF:=qh (show (ini != -9223372036854775808)=R by rw [←HR.out,if_neg (by decide),if_neg (by simp),if_pos rfl]);clear NM k1;go_wp2_with (go_at_call 86;fail)
  refine (SG.out _).mono ?_;rintro e w2 ⟨rfl,hb⟩;have B2:=btr HB hb;clear hb SG;go_wp2_with fail
  go_ret
  exact ⟨ret_bool HF.out,B2.out⟩
 clear SG;by_cases e2:ty=2
 ·subst e2
  clear NM k1;obtain ⟨u1,h1⟩:∃ u,(ini==0)=u:=⟨_,rfl⟩;obtain ⟨u2,h2⟩:∃ u,(ini==1)=u:=⟨_,rfl⟩;have HF:=qh (show (u1||u2)=R by rw [←HR.out,if_neg (by decide),if_neg (by simp),if_neg (by decide),if_pos rfl,h1,h2]);cases u1
  ·go_wp2_with fail
   go_ret
   exact ⟨ret_bool HF.out,HB.out⟩
  ·go_wp2_with fail
   go_ret
   exact ⟨ret_bool HF.out,HB.out⟩
 have HF:=qh (show (!uk&&ini==0)=R by rw [←HR.out,if_neg (by decide),if_neg (by simp),if_neg e1,if_neg e2]);have z1:=neb e1;have z2:=neb e2;clear e1 e2;have hbx:Box w1 w.heap.size 0 [.string xn,.int .i64 ty,.int .i64 se,.bool false,.int .i64 0,.int .i64 0,.int .i64 ini,.int .i64 ln]:=X1.out;have XB:=qh hbx;clear hbx;go_wp2_with (go_at_call 62;fail)
 refine (NM.out _).mono ?_;rintro e w2 ⟨rfl,hb⟩;have B2:=btr HB hb;have X2:=qh (XB.out.below hb (by have:=ZZ.out;omega));clear hb NM c1 c3 c4 c5 c6 XB;have ⟨_,_,c1,_,_,_,c3,_,c4,_,c5,_,c6,_,_⟩:=X2.out;cases uk
 ·go_wp2_with fail
  go_ret
  exact ⟨ret_bool HF.out,B2.out⟩
 ·go_wp2_with fail
  go_ret
  exact ⟨ret_bool HF.out,B2.out⟩
theorem sec_no (n:Int):(secS n==[])=!(n==0||(n==1||n==2)):=by
 unfold secS;by_cases h0:n=0
 ·subst h0;rfl
 by_cases h1:n=1
 ·subst h1;rfl
 by_cases h2:n=2
 ·subst h2;rfl
 rw [if_neg h0,if_neg h1,if_neg h2,neb h0,neb h1,neb h2];rfl
theorem rightVar_any (v:Va) (w:World) (hM:MaxL w):Calls Tryz.prog 33 #[.agg (vC v).toArray] w fun e w'=>e=.returned (.bool (vaB v))∧Below w.heap.size w w':=by
 have C1:=qh fun W (hW:Below w.heap.size w W)=>isName_any ⟨v.name.toArray⟩ W (hM.below hW)
 rw [sv_list] at C1;have C2:=qh fun W=>section_any v.sect W
 have C3:=qh fun W=>rightType_any v W
 have s0:=str_no (secS v.sect) _ rfl;have s1:(⟨(secS v.sect).toArray⟩:ByteArray).toList.isEmpty=(secS v.sect==[]):=by rw [←s0];cases (⟨(secS v.sect).toArray⟩:ByteArray).toList<;>rfl
 unfold vaB;rw [show (v.sect==0||(v.sect==1||v.sect==2))=!(secS v.sect==[]) by rw [sec_no,Bool.not_not]];unfold sv at C2;generalize (⟨(secS v.sect).toArray⟩:ByteArray)=xs at *;generalize (secS v.sect==[])=u2 at *;generalize nmB v.name=u1 at *;generalize typeB v=u3 at *;clear hM s0;have HB:=qh (al1 w (.cells (vC v).toArray 60));have X1:=qh (Box.new w (vC v).toArray 60);have Z1:=qh (show (w.alloc (.cells (vC v).toArray 60)).heap.size=w.heap.size+1 by simp);obtain ⟨R,hR⟩:∃ R,(u1&&(!u2&&u3))=R:=⟨_,rfl⟩;rw [hR];have HR:=qh hR;clear hR;go_enter Tryz.func33,Tryz.ntmps33
 go_upto_region 1 with (fail)
 generalize w.alloc (.cells (vC v).toArray 60)=w1 at *;have X1:Hid (Box w1 w.heap.size 0 (vC v)):=X1;have c0:=(cell_of X1.out (i:=0) rfl).1;simp only [sv] at c0;go_wp2_with (go_at_call 31;fail)
 refine (C1.out _ HB.out).mono ?_;rintro e w2 ⟨rfl,hb⟩;have X2:=qh (X1.out.below hb (by have:=Z1.out;omega));have B2:=btr HB hb;clear hb c0 C1;have c2:=(cell_of X2.out (i:=2) rfl).1;cases u1
 ·have HF:=qh (show false=R by rw [←HR.out];rfl)
  go_wp2_with fail
  go_ret
  exact ⟨ret_bool HF.out,B2.out⟩
 go_wp2_with (go_at_call 36;fail)
 refine (C2.out _).mono ?_;rintro e w3 ⟨rfl,rfl⟩;cases u2
 rotate_left 1
 ·have HF:=qh (show false=R by rw [←HR.out];rfl)
  go_wp2_with fail
  go_ret
  exact ⟨ret_bool HF.out,B2.out⟩
 have HF:=qh (show u3=R by rw [←HR.out];simp);go_wp2_with (first|((with_reducible refine m_load X2.out 60 1 ?_ ?_ ?_ ?_ ?_ ?_);rfl;rfl;rfl;rfl;kernel_rfl)|(go_at_call 55;fail))
 refine (C3.out _).mono ?_;rintro e w4 ⟨rfl,hb⟩;have B4:=btr B2 hb;clear hb;go_wp2_with fail
 go_ret
 exact ⟨ret_bool HF.out,B4.out⟩
theorem rightProgram_any {p:Pg} {h:GH} {w:World} (hM:MaxL w) (hp:PgAt w w.heap.size p h) (hW:wsS p.body≤big):Calls Tryz.prog 14 #[.agg (gC h).toArray] w fun e w'=>e=.returned (.bool (pgB p))∧Below w.heap.size w w':=by
 obtain ⟨h1,h2,h3⟩:=hp;obtain ⟨nm,⟨A1,l1,c1⟩,⟨A2,l2,c2⟩⟩:=h;simp only at h1 h2 h3;subst h1;have lv:p.vars.length=l1:=h2.1;have C1:=qh fun W (hW:Below w.heap.size w W)=>isName_any ⟨p.name.toArray⟩ W (hM.below hW)
 rw [sv_list] at C1;have C2:=qh fun W (hW:Below w.heap.size w W)=>(show Calls Tryz.prog 32 #[.slice A1 l1 c1,.func (.func 33) #[] #[]] W fun e w'=>e=.returned (.bool (p.vars.all vaB))∧Below W.heap.size W w' from
  all_v (h2.below hW hW.size) (fun i=>(p.vars.drop i).all vaB) (fun i=>(p.vars[i]?.map vaB).getD false) _ rfl (by show (p.vars.drop l1).all vaB=true;rw [List.drop_of_length_le (by omega)];rfl) (fun i hi=>row_all (by simp only at hi;omega) _)
   (fun i x hx W' hW'=>by rw [at_get hx];exact rightVar_any x W' ((hM.below hW).below hW')))
 have C3:=qh fun W (hW':Below w.heap.size w W)=>right_sl hW (hM.below hW') (h3.below hW' hW'.size)
 unfold pgB;rw [lv];have h64:decide ((l1:Int)≤64)=decide (l1≤64):=by simp only [decide_eq_decide];omega
 generalize nmB p.name=u1 at *;generalize p.vars.all vaB=u3 at *;generalize stsB p.body=u4 at *;clear hM hW h2 h3 lv;simp only [gC,sv,Sl.v] at C3 ⊢;generalize (⟨p.name.toArray⟩:ByteArray)=xs at *;have HB:=qh (al1 w (.cells #[.string xs,.slice A1 l1 c1,.slice A2 l2 c2] 25));have X1:=qh (Box.new w #[.string xs,.slice A1 l1 c1,.slice A2 l2 c2] 25);have Z1:=qh (show (w.alloc (.cells #[.string xs,.slice A1 l1 c1,.slice A2 l2 c2] 25)).heap.size=w.heap.size+1 by simp);obtain ⟨R,hR⟩:∃ R,(u1&&(decide (l1≤64)&&(u3&&u4)))=R:=⟨_,rfl⟩;rw [hR];have HR:=qh hR;clear hR;go_enter Tryz.func14,Tryz.ntmps14
 go_upto_region 1 with (fail)
 generalize w.alloc (.cells #[.string xs,.slice A1 l1 c1,.slice A2 l2 c2] 25)=w1 at *;have ⟨c0,_,_,_,_,_,_⟩:=X1.out;go_wp2_with (go_at_call 31;fail)
 refine (C1.out _ HB.out).mono ?_;rintro e w2 ⟨rfl,hb⟩;have X2:=qh (X1.out.below hb (by have:=Z1.out;omega));have B2:=btr HB hb;have Z2:=qh (show w.heap.size<w2.heap.size by have:=Z1.out;have:=hb.size;omega);clear hb c0 C1 X1;have ⟨c0,_,c1,_,c2,_,_⟩:=X2.out;cases u1
 ·have HF:=qh (show false=R by rw [←HR.out];rfl)
  go_wp2_with fail
  go_ret
  exact ⟨ret_bool HF.out,B2.out⟩
 by_cases h6:l1≤64
 rotate_left 1
 ·have HF:=qh (show false=R by rw [←HR.out,decide_eq_false h6];rfl)
  have h6':¬ (l1:Int)≤64:=by omega
  clear h6 h64;go_wp2_with fail
  go_ret
  exact ⟨ret_bool HF.out,B2.out⟩
 have HR2:=qh (show (u3&&u4)=R by rw [←HR.out,decide_eq_true h6];rfl);have h6':(l1:Int)≤64:=by omega
 clear h6 h64 HR;go_wp2_with (go_at_call 32;fail)
 refine (C2.out _ B2.out).mono ?_;rintro e w3 ⟨rfl,hb⟩;have X3:=qh (X2.out.below hb Z2.out);have B3:=btr B2 hb;clear hb c0 c1 c2 C2 X2;have ⟨c0,_,c1,_,c2,_,_⟩:=X3.out;cases u3
 ·have HF:=qh (show false=R by rw [←HR2.out];rfl)
  go_wp2_with fail
  go_ret
  exact ⟨ret_bool HF.out,B3.out⟩
 have HF:=qh (show u4=R by rw [←HR2.out];rfl);go_wp2_with (go_at_call 34;fail)
 refine (C3.out _ B3.out).mono ?_;rintro e w4 ⟨rfl,hb⟩;have B4:=btr B3 hb;clear hb c0 c1 c2 C3 X3;go_wp2_with fail
 go_ret
 exact ⟨ret_bool HF.out,B4.out⟩
end sh
namespace sh
open ChangeShapes WideShapes ChangeAt RowKit k rr tk tr
theorem num_len {n:Int} (h:InI n):(numS n).length≤21:=Lib.itoa_length_le n h.1 h.2
theorem typeText_any (v:Va) (hv:typeB v=true) (hi:InI v.init) (w:World) (hL:Laid w):Calls Tryz.prog 37 #[.agg (vC v).toArray] w fun e w'=>e=.returned (sv (typeS v))∧Below w.heap.size w w':=by
 have PL:=qh fun W=>plain_any v.type W
 have NM:=qh fun W=>stdName_any v.type W
 have LL:=qh fun W (hW:Below w.heap.size w W)=>hL.below hW
 obtain ⟨nm,ty,se,ar,lo,hi',ini,ln⟩:=v;simp only at PL NM hi;unfold typeS;simp only [vC,sv];unfold sv at PL NM;have HB:=qh (al1 w (.cells #[.string ⟨nm.toArray⟩,.int .i64 ty,.int .i64 se,.bool ar,.int .i64 lo,.int .i64 hi',.int .i64 ini,.int .i64 ln] 60));have X1:=qh (Box.new w #[.string ⟨nm.toArray⟩,.int .i64 ty,.int .i64 se,.bool ar,.int .i64 lo,.int .i64 hi',.int .i64 ini,.int .i64 ln] 60);have Z1:=qh (show (w.alloc (.cells #[.string ⟨nm.toArray⟩,.int .i64 ty,.int .i64 se,.bool ar,.int .i64 lo,.int .i64 hi',.int .i64 ini,.int .i64 ln] 60)).heap.size=w.heap.size+1 by simp);generalize (⟨nm.toArray⟩:ByteArray)=xn at *;have pl:(plainS ty).length≤4:=by
  unfold plainS;split
  ·decide
  ·split<;>decide
 unfold typeB at hv;simp only at hv;cases ar
 rotate_left 1
 ·rw [if_pos rfl] at hv ⊢
  simp only [Bool.and_eq_true,decide_eq_true_eq] at hv;have il:InI lo:=⟨by omega,by omega⟩;have ih:InI hi':=⟨by omega,by omega⟩;have IL:=qh il;have IH:=qh ih;have l1:=num_len il;have l2:=num_len ih;obtain ⟨T,hT⟩:∃ T,[65,82,82,65,89,91]++numS lo++[46,46]++numS hi'++[93,32,79,70,32]++plainS ty=T:=⟨_,rfl⟩;rw [hT];have HTX:Hid ((⟨#[65,82,82,65,89,91]⟩:ByteArray)++⟨(numS lo).toArray⟩++⟨#[46,46]⟩++⟨(numS hi').toArray⟩++⟨#[93,32,79,70,32]⟩++⟨(plainS ty).toArray⟩=⟨T.toArray⟩):=qh (by
   rw [←hT,show (⟨#[65,82,82,65,89,91]⟩:ByteArray)=⟨([65,82,82,65,89,91]:Str).toArray⟩ from rfl,show (⟨#[46,46]⟩:ByteArray)=⟨([46,46]:Str).toArray⟩ from rfl,show (⟨#[93,32,79,70,32]⟩:ByteArray)=⟨([93,32,79,70,32]:Str).toArray⟩ from rfl];simp only [cat_sv])
  have s1:(⟨(numS lo).toArray⟩:ByteArray).size≤21:=l1;have s2:(⟨(numS hi').toArray⟩:ByteArray).size≤21:=l2;have s3:(⟨(plainS ty).toArray⟩:ByteArray).size≤4:=pl;have DL:=qh fun W h=>decimal_any lo il W h
  have DH:=qh fun W h=>decimal_any hi' ih W h
  unfold sv at DL DH;generalize (⟨(numS lo).toArray⟩:ByteArray)=xlo at *;generalize (⟨(numS hi').toArray⟩:ByteArray)=xhi at *;generalize (⟨(plainS ty).toArray⟩:ByteArray)=xp at *;have q1:¬ 9223372036854775807<6+xlo.size:=by omega
  have q2:¬ 9223372036854775807<6+xlo.size+2:=by omega
  have q3:¬ 9223372036854775807<6+xlo.size+2+xhi.size:=by omega
  have q4:¬ 9223372036854775807<6+xlo.size+2+xhi.size+5:=by omega
  have q5:¬ 9223372036854775807<6+xlo.size+2+xhi.size+5+xp.size:=by omega
  have QQ:=qh (And.intro q1 (And.intro q2 (And.intro q3 (And.intro q4 q5))));clear hv il ih l1 l2 hT s1 s2 s3 hi hL NM pl q1 q2 q3 q4 q5;go_enter Tryz.func37,Tryz.ntmps37
  go_upto_region 1 with (fail)
  generalize w.alloc (.cells #[.string xn,.int .i64 ty,.int .i64 se,.bool true,.int .i64 lo,.int .i64 hi',.int .i64 ini,.int .i64 ln] 60)=w1 at *;have ⟨_,_,c1,_,_,_,c3,_,c4,_,c5,_,c6,_,_⟩:=X1.out;have C4:=qh c4;have C5:=qh c5;go_wp2_with (go_at_call 59;fail)
  refine (PL.out _).mono ?_;rintro e w2 ⟨rfl,rfl⟩;go_upto_region 3 with (fail)
  clear c1 c3 c4 c5 c6;refine wp_region_T (by kernel_rfl) (fun w'=>Below w2.heap.size w2 w') [] (Below.refl _ _).drew (fun hHeld=>?_);have BD:=qh (Below.drew (Below.refl w2.heap.size w2));generalize w2.drew=w3 at *;refine tkq (i:=0) (v:=?_) rfl ?_ ?_;rotate_left 1
  ·intro w_ hSw;clear hSw;have ⟨q1,q2,q3,q4,q5⟩:=QQ.out;go_simp<;>(with_reducible rfl)
  try simp only [lq0,lq7,lq1,lq2,lq3,lq4,lq5,lq6]
  refine tkq (i:=1) (v:=?_) rfl ?_ ?_;rotate_left 1
  ·intro w_ hSw;have hl:=(hSw.cell (p:=⟨w.heap.size,4,none⟩) (by have:=Z1.out;show w.heap.size<_;omega)).trans C4.out;clear hSw;go_simp<;>(with_reducible rfl)
  try simp only [lq0,lq7,lq1,lq2,lq3,lq4,lq5,lq6]
  refine tkq (i:=5) (v:=?_) rfl ?_ ?_;rotate_left 1
  ·intro w_ hSw;clear hSw;have ⟨q1,q2,q3,q4,q5⟩:=QQ.out;go_simp<;>(with_reducible rfl)
  try simp only [lq0,lq7,lq1,lq2,lq3,lq4,lq5,lq6]
  refine tkq (i:=6) (v:=?_) rfl ?_ ?_;rotate_left 1
  ·intro w_ hSw;have hl:=(hSw.cell (p:=⟨w.heap.size,5,none⟩) (by have:=Z1.out;show w.heap.size<_;omega)).trans C5.out;clear hSw;go_simp<;>(with_reducible rfl)
  try simp only [lq0,lq7,lq1,lq2,lq3,lq4,lq5,lq6]
  refine tkq (i:=10) (v:=?_) rfl ?_ ?_;rotate_left 1
  ·intro w_ hSw;clear hSw;have ⟨q1,q2,q3,q4,q5⟩:=QQ.out;go_simp<;>(with_reducible rfl)
  try simp only [lq0,lq7,lq1,lq2,lq3,lq4,lq5,lq6]
  refine wpAnyT_ready (rs:=[2]) (by kernel_rfl) (by simp) ?_;refine AllReadyT.cons rfl (fun K hK=>?_) AllReadyT.nil;go_simp;go_at_call 60
  refine (DL.out _ (LL.out _ (HB.out.trans (BD.out.mono HB.out.size)))).mono ?_;rintro e w4 ⟨rfl,hb⟩;have BE:=btr BD hb;clear hb;go_wp2_with fail
  refine hK _ _ BE.out (fun hHeld=>?_);clear hK K;try simp only [lq0,lq7,lq1,lq2,lq3,lq4,lq5,lq6]
  refine tkq (i:=3) (v:=?_) rfl ?_ ?_;rotate_left 1
  ·intro w_ hSw;clear hSw;have ⟨q1,q2,q3,q4,q5⟩:=QQ.out;go_simp<;>(with_reducible rfl)
  try simp only [lq0,lq7,lq1,lq2,lq3,lq4,lq5,lq6]
  refine tkq (i:=4) (v:=?_) rfl ?_ ?_;rotate_left 1
  ·intro w_ hSw;clear hSw;have ⟨q1,q2,q3,q4,q5⟩:=QQ.out;go_simp<;>(with_reducible rfl)
  try simp only [lq0,lq7,lq1,lq2,lq3,lq4,lq5,lq6]
  refine wpAnyT_ready (rs:=[7]) (by kernel_rfl) (by simp) ?_;refine AllReadyT.cons rfl (fun K hK=>?_) AllReadyT.nil;go_simp;go_at_call 60
  refine (DH.out _ (LL.out _ (HB.out.trans (BE.out.mono HB.out.size)))).mono ?_;rintro e w5 ⟨rfl,hb⟩;have BG:=btr BE hb;clear hb;go_wp2_with fail
  refine hK _ _ BG.out (fun hHeld=>?_);clear hK K;try simp only [lq0,lq7,lq1,lq2,lq3,lq4,lq5,lq6]
  refine tkq (i:=8) (v:=?_) rfl ?_ ?_;rotate_left 1
  ·intro w_ hSw;clear hSw;have ⟨q1,q2,q3,q4,q5⟩:=QQ.out;go_simp<;>(with_reducible rfl)
  try simp only [lq0,lq7,lq1,lq2,lq3,lq4,lq5,lq6]
  refine tkq (i:=9) (v:=?_) rfl ?_ ?_;rotate_left 1
  ·intro w_ hSw;clear hSw;have ⟨q1,q2,q3,q4,q5⟩:=QQ.out;go_simp<;>(with_reducible rfl)
  try simp only [lq0,lq7,lq1,lq2,lq3,lq4,lq5,lq6]
  refine tkq (i:=11) (v:=?_) rfl ?_ ?_;rotate_left 1
  ·intro w_ hSw;clear hSw;have ⟨q1,q2,q3,q4,q5⟩:=QQ.out;go_simp<;>(with_reducible rfl)
  try simp only [lq0,lq7,lq1,lq2,lq3,lq4,lq5,lq6]
  refine tkq (i:=12) (v:=?_) rfl ?_ ?_;rotate_left 1
  ·intro w_ hSw;clear hSw;have ⟨q1,q2,q3,q4,q5⟩:=QQ.out;go_simp<;>(with_reducible rfl)
  try simp only [lq0,lq7,lq1,lq2,lq3,lq4,lq5,lq6]
  refine wpAnyT_done (by kernel_rfl) ?_ _;go_wp2;go_ret
  rw [HTX.out];exact ⟨rfl,HB.out.trans (BG.out.mono HB.out.size)⟩
 have hv:(if lo≠0∨hi'≠0 then false else if ty=1 then ini != -9223372036854775808 else if ty=2 then ini==0||ini==1 else (kinds.any fun k=>k.2==ty)&&ini==0)=true:=by
  rw [if_neg (by decide)] at hv;exact hv
 clear hv;by_cases e1:ty=1
 ·subst e1
  rw [if_neg (by decide),if_pos rfl];obtain ⟨T,hT⟩:∃ T,plainS 1++[32,58,61,32]++numS ini=T:=⟨_,rfl⟩;rw [hT];have HTX:Hid ((⟨(plainS 1).toArray⟩:ByteArray)++⟨#[32,58,61,32]⟩++⟨(numS ini).toArray⟩=⟨T.toArray⟩):=qh (by
   rw [←hT,show (⟨#[32,58,61,32]⟩:ByteArray)=⟨([32,58,61,32]:Str).toArray⟩ from rfl];simp only [cat_sv])
  have s1:(⟨(numS ini).toArray⟩:ByteArray).size≤21:=num_len hi;have s3:(⟨(plainS 1).toArray⟩:ByteArray).size≤4:=pl;have DL:=qh fun W h=>decimal_any ini hi W h
  unfold sv at DL;generalize (⟨(numS ini).toArray⟩:ByteArray)=xlo at *;generalize (⟨(plainS 1).toArray⟩:ByteArray)=xp at *;have q1:¬ 9223372036854775807<xp.size+4:=by omega
  have q2:¬ 9223372036854775807<xp.size+4+xlo.size:=by omega
  clear hT s1 s3 hi hL NM pl;go_enter Tryz.func37,Tryz.ntmps37
  go_upto_region 1 with (fail)
  generalize w.alloc (.cells #[.string xn,.int .i64 1,.int .i64 se,.bool false,.int .i64 lo,.int .i64 hi',.int .i64 ini,.int .i64 ln] 60)=w1 at *;have ⟨_,_,c1,_,_,_,c3,_,c4,_,c5,_,c6,_,_⟩:=X1.out;go_wp2_with (go_at_call 59;fail)
  refine (PL.out _).mono ?_;rintro e w2 ⟨rfl,rfl⟩;go_wp2_with (go_at_call 60;fail)
  refine (DL.out _ (LL.out _ HB.out)).mono ?_;rintro e w3 ⟨rfl,hb⟩;have B3:=btr HB hb;clear hb c1 c3 c4 c5 c6;go_wp2_with fail
  go_ret
  rw [HTX.out];exact ⟨rfl,B3.out⟩
 by_cases e2:ty=2
 ·subst e2
  rw [if_neg (by decide),if_neg (by decide),if_pos rfl];obtain ⟨T,hT⟩:∃ T,plainS 2++[32,58,61,32]++truthS ini=T:=⟨_,rfl⟩;rw [hT];have HTX:Hid ((⟨(plainS 2).toArray⟩:ByteArray)++⟨#[32,58,61,32]⟩++⟨(truthS ini).toArray⟩=⟨T.toArray⟩):=qh (by
   rw [←hT,show (⟨#[32,58,61,32]⟩:ByteArray)=⟨([32,58,61,32]:Str).toArray⟩ from rfl];simp only [cat_sv])
  have s1:(⟨(truthS ini).toArray⟩:ByteArray).size≤5:=by
   show (truthS ini).length≤5
   unfold truthS;split<;>decide
  have s3:(⟨(plainS 2).toArray⟩:ByteArray).size≤4:=pl;have DL:=qh fun W=>truth_any ini W
  unfold sv at DL;generalize (⟨(truthS ini).toArray⟩:ByteArray)=xlo at *;generalize (⟨(plainS 2).toArray⟩:ByteArray)=xp at *;have q1:¬ 9223372036854775807<xp.size+4:=by omega
  have q2:¬ 9223372036854775807<xp.size+4+xlo.size:=by omega
  clear hT s1 s3 hi hL NM pl;go_enter Tryz.func37,Tryz.ntmps37
  go_upto_region 1 with (fail)
  generalize w.alloc (.cells #[.string xn,.int .i64 2,.int .i64 se,.bool false,.int .i64 lo,.int .i64 hi',.int .i64 ini,.int .i64 ln] 60)=w1 at *;have ⟨_,_,c1,_,_,_,c3,_,c4,_,c5,_,c6,_,_⟩:=X1.out;go_wp2_with (go_at_call 59;fail)
  refine (PL.out _).mono ?_;rintro e w2 ⟨rfl,rfl⟩;go_wp2_with (go_at_call 61;fail)
  refine (DL.out _).mono ?_;rintro e w3 ⟨rfl,rfl⟩;go_wp2_with fail
  go_ret
  rw [HTX.out];exact ⟨rfl,HB.out⟩
 rw [if_neg (by decide),if_neg e1,if_neg e2];have z1:=neb e1;have z2:=neb e2;clear e1 e2 hi hL pl;generalize (⟨(plainS ty).toArray⟩:ByteArray)=xp at *;generalize (⟨(kindS ty).toArray⟩:ByteArray)=xk at *;go_enter Tryz.func37,Tryz.ntmps37
 go_upto_region 1 with (fail)
 generalize w.alloc (.cells #[.string xn,.int .i64 ty,.int .i64 se,.bool false,.int .i64 lo,.int .i64 hi',.int .i64 ini,.int .i64 ln] 60)=w1 at *;have ⟨_,_,c1,_,_,_,c3,_,c4,_,c5,_,c6,_,_⟩:=X1.out;go_wp2_with (go_at_call 59;fail)
 refine (PL.out _).mono ?_;rintro e w2 ⟨rfl,rfl⟩;go_wp2_with (go_at_call 62;fail)
 refine (NM.out _).mono ?_;rintro e w3 ⟨rfl,hb⟩;have B3:=btr HB hb;clear hb c1 c3 c4 c5 c6;go_wp2_with fail
 go_ret
 exact ⟨rfl,B3.out⟩
end sh
end Go.Proofs.YtdefgghhkknnpaaGreatDoor

/- The landed writer's counts and calls, and its statements whole. Conditions: the statement is such that a text could give; what the writer holds stays within 2^47 bytes. The landed writer's statements, whole. Conditions: the statement is such that a text could give; what the writer holds stays within 2^47 bytes. Rows of whole numbers as the layer std takes and gives them, and its blocks as functions of their cells. No condition but what each line says. -/
import Derived.Test.YtdefgghhkknnpaaGreatDoorE10
set_option linter.unusedVariables false
set_option linter.unusedSimpArgs false
set_option maxRecDepth 100000
set_option maxHeartbeats 40000000
namespace Go.Proofs.YtdefgghhkknnpaaGreatDoor
namespace sh
open ChangeShapes WideShapes ChangeAt RowKit k rr tk tr
theorem setCell_kind {w:World} {g i:Nat} {v:Value} {c:Array Value} {T:TypeId} (h:w.heap[g]?=some (.cells c T (0,0))):∃ c',(w.setCell ⟨g,i,none⟩ v).heap[g]?=some (.cells c' T (0,0))∧c'.size=c.size:=by
  refine ⟨c.setIfInBounds i v,?_,by simp⟩;simp [World.setCell,Array.getElem?_modify,h]
theorem puts_kind {g:Nat} {T:TypeId}:∀ (vs:List Value) (o:Nat) {w:World} {c:Array Value},w.heap[g]?=some (.cells c T (0,0))→∃ c',(k.puts w g o vs).heap[g]?=some (.cells c' T (0,0))∧c'.size=c.size
  | [],_,_,c,h=>⟨c,h,rfl⟩
  | v::vs,o,w,c,h=>by
    obtain ⟨c1,h1,e1⟩:=setCell_kind (i:=o) (v:=v) h;obtain ⟨c2,h2,e2⟩:=puts_kind vs (o+1) h1;exact ⟨c2,h2,e2.trans e1⟩
theorem hb_of {w:World} {g:Nat} {T:TypeId} {c:Array Value} {vs:List Value} (h:w.heap[g]?=some (.cells c T (0,0))) (hs:c.size=vs.length) (hb:Box w g 0 vs):Hb w g T vs:=by
  unfold Hb;rw [h];have:c.toList=vs:=by
    refine List.ext_getElem? fun i=>?_
    by_cases hi:i<vs.length
    · have h1:=(cell_of hb (i:=i) (v:=vs[i]) (List.getElem?_eq_getElem hi)).1
      rw [Lib.cell_of_heap h] at h1;rw [Array.getElem?_toList,h1,List.getElem?_eq_getElem hi]
    · rw [List.getElem?_eq_none (by simpa using by omega),List.getElem?_eq_none (by omega)]
  rw [←this]
theorem m_newH {P:Program} {ops:Array Oper} {rest:List Oper} {op:Oper} {a:Act} {w:World} {Q:Exit→Act→World→Prop} {Z:Array Value} (T:TypeId) (t u:Nat) (ho:op.op=.store T (.tmp t) (.tmp u)) (hg:op.guard=none) (hd:op.dst=none) (cs:List Value) (hx:a.eval (.tmp t)=.pointer (some ⟨w.heap.size,0,none⟩)) (hy:a.eval (.tmp u)=.agg cs.toArray)
    (hl:cs.length=Z.toList.length) (hi:(P.info? T).map (·.size)=some cs.length) (h1:∀ v∈cs,v.oneCell'=true)
    (h:∀ w',Hb w' w.heap.size T cs→Below w.heap.size w w'→w'.heap.size=w.heap.size+1→wpList P ops Q rest a w'):wpList P ops Q (op::rest) a (w.alloc (.cells Z T)):=by
  have hb:=k.Box.new w Z T;obtain ⟨W,e,hW,hs,_,_⟩:=k.stored (us:=cs) hb hl;refine wpList_store_mid hg T (.tmp t) (.tmp u) ho w.heap.size 0 cs.toArray hx hy (by rw [show cs.toArray.size=Z.toList.length by rw [←hl];simp];exact hb.there) (by rw [show cs.toArray.size=cs.length by simp];exact hi) (all_oneCell_toArray h1) ?_;rw [hd]
  show wpList _ _ _ _ a (World.setCells _ _ _ cs)
  have hk:∃ c',W.heap[w.heap.size]?=some (.cells c' T (0,0))∧c'.size=Z.size:=by
    rw [←e,k.setCells_puts];exact puts_kind cs 0 (heap_alloc_new w (.cells Z T))
  have hgr:(w.alloc (.cells Z T)).grownBy W (some w.heap.size):=by rw [←e,k.setCells_puts];exact gr_puts cs 0 _
  obtain ⟨c',hc',hcs⟩:=hk;rw [e];refine h W (hb_of hc' (by rw [hcs,hl];simp) hW) ?_ (by rw [hs];simp);exact (al1 w _).trans (gr_below hgr (Nat.le_refl _) (by simp))
theorem ex_row {w:World} {B:Nat} {A:Option Addr} {n c:Nat} {CH:List EH} {cs:List Ex} (h:Rd eC 6 w B A n c CH) (hE:ExsAt w B cs CH) {q:Nat} (hq:q<n):∃ x eh b o,cs[q]?=some x∧ExAt w B x eh∧A=some ⟨b,o,none⟩∧b<B∧w.rangeAt b (o+q*6) (eC eh):=by
  obtain ⟨b,o,eh,hA,hb,hp,hc⟩:=h.at hq;obtain ⟨x,hx,hxa⟩:=hE.at hp;exact ⟨x,eh,b,o,hx,hxa,hA,hb,hc⟩
theorem blk_row {w:World} {B:Nat} {A:Option Addr} {n c:Nat} {BH:List Sl} {bs:List (List St)} (h:Rd slC 1 w B A n c BH) (hE:BlksAt w B bs BH) {q:Nat} (hq:q<n):∃ x bh b o,bs[q]?=some x∧StL w B bh x∧A=some ⟨b,o,none⟩∧b<B∧w.cell? ⟨b,o+q,none⟩=some bh.v:=by
  obtain ⟨b,o,bh,hA,hb,hp,hc⟩:=h.at hq;obtain ⟨x,hx,hxa⟩:=hE.at hp;have a0:=hc 0 _ rfl;rw [Nat.add_zero,Nat.mul_one] at a0;exact ⟨x,bh,b,o,hx,hxa,hA,hb,a0⟩
theorem count_any {h:SH} {cs:List Ex} {b0:List St} {CH:List EH} {BH:List Sl} {B g:Nat} {l:Str} {w:World} (hK:Wx B g l w)
    (hC:RS eC 6 w B h.conds CH) (hCE:ExsAt w B cs CH) (hR:RS slC 1 w B h.blocks BH) (hE:BlksAt w B [b0] BH) (hcb:exsB cs=true) (hc3:cs.length=3) (hCX:BlkC b0)
    (hlen:l.length+(stT 4 h.name [] [] (exsS cs) [] [] (blksS [b0])).length≤lim) :
    Calls Tryz.prog 103 #[.pointer (some ⟨g,0,none⟩),.agg (sC h).toArray] w (Put B g l (stT 4 h.name [] [] (exsS cs) [] [] (blksS [b0])) w):=by
  obtain ⟨x0,x1,x2,rfl⟩:∃ a b c,cs=[a,b,c]:=by
    match cs,hc3 with
    | [a,b,c],_=>exact ⟨a,b,c,rfl⟩
  have hTx:stT 4 h.name [] [] (exsS [x0,x1,x2]) [] [] (blksS [b0])=[70,79,82,32]++h.name++([32,58,61,32]++exS x0++[])++([32,84,79,32]++exS x1++[])++([32,66,89,32]++exS x2++[32,68,79,10])++stsS b0++[69,78,68,95,70,79,82,59,10]:=by
    rw [stT,if_neg (by decide),if_neg (by decide),if_neg (by decide),if_pos rfl];simp [exsS,blksS]
  rw [hTx] at hlen ⊢;obtain ⟨T,hT⟩:∃ T,[70,79,82,32]++h.name++([32,58,61,32]++exS x0++[])++([32,84,79,32]++exS x1++[])++([32,66,89,32]++exS x2++[32,68,79,10])++stsS b0++[69,78,68,95,70,79,82,59,10]=T:=⟨_,rfl⟩;have hl2:=hlen;rw [hT] at hlen ⊢;simp only [List.length_append,List.length_cons,List.length_nil] at hl2;obtain ⟨w1,e1,K1,H1,F1,ng⟩:=hK.box (sC h) 49;obtain ⟨op,nm,hd,hv,⟨A1,n,c1⟩,sl2,sl3,⟨A4,m,c4⟩,ln⟩:=h;have hC:Rd eC 6 w B A1 n c1 CH:=hC;have hR:Rd slC 1 w B A4 m c4 BH:=hR;have hn1:CH.length=n:=hC.1;have hm1:BH.length=m:=hR.1;have hcl:=hCE.len;have hbl:=hE.len;simp only [List.length_cons,List.length_nil] at hcl hbl;obtain rfl:n=3:=by omega
  obtain rfl:m=1:=by omega
  simp only [exsB,Bool.and_eq_true,Bool.and_true] at hcb;obtain ⟨y0,g0,b1,o1,hy0,ha0,rfl,hb1,r0⟩:=ex_row hC hCE (q:=0) (show 0<3 by decide);obtain ⟨y1,g1,b1',o1',hy1,ha1,e3,_,r1⟩:=ex_row hC hCE (q:=1) (show 1<3 by decide);injection e3 with e3
  injection e3 with e4 e5 _
  subst e4 e5;obtain ⟨y2,g2,b1',o1',hy2,ha2,e3,_,r2⟩:=ex_row hC hCE (q:=2) (show 2<3 by decide);injection e3 with e3
  injection e3 with e4 e5 _
  subst e4 e5;obtain ⟨z0,bh,b2,o2,hz0,hza,rfl,hb2,rb⟩:=blk_row hR hE (q:=0) (show 0<1 by decide);obtain rfl:x0=y0:=by simpa using hy0
  obtain rfl:x1=y1:=by simpa using hy1
  obtain rfl:x2=y2:=by simpa using hy2
  obtain rfl:b0=z0:=by simpa using hz0
  simp only [Nat.zero_mul,Nat.one_mul,Nat.add_zero] at r0 r1 rb;have r2:w.rangeAt b1 (o1+12) (eC g2):=r2;have RR:=qh fun W (hW:Fr B g w W)=>And.intro (range_below r0 hW.1 hb1) (And.intro (range_below r1 hW.1 hb1) (And.intro (range_below r2 hW.1 hb1) ((hW.1.cell (p:=⟨b2,o2,none⟩) hb2).trans rb)))
  have X0:=qh fun W (hW:Fr B g w W) (l':Str) (hk:Wx B g l' W) hl=>around_any (a:=[32,58,61,32]) (b:=[]) hk (ha0.below hW.1 (Nat.le_refl _)) hcb.1 hl
  have X1:=qh fun W (hW:Fr B g w W) (l':Str) (hk:Wx B g l' W) hl=>around_any (a:=[32,84,79,32]) (b:=[]) hk (ha1.below hW.1 (Nat.le_refl _)) hcb.2.1 hl
  have X2:=qh fun W (hW:Fr B g w W) (l':Str) (hk:Wx B g l' W) hl=>around_any (a:=[32,66,89,32]) (b:=[32,68,79,10]) hk (ha2.below hW.1 (Nat.le_refl _)) hcb.2.2 hl
  have CB:=qh fun W (hW:Fr B g w W) (l':Str) (hk:Wx B g l' W) hl=>hCX bh B g l' W hk (hza.below hW.1 (Nat.le_refl _)) hl
  simp only [Sl.v] at CB;have HT:=qh hT;have HL:=qh hl2;have NG:=qh ng;have K1:=qh K1;have H1:=qh H1;have F1:=qh F1;clear hK ng hC hR hn1 hm1 hcl hbl hE hCE hcb hc3 hlen hl2 hT hTx hy0 hy1 hy2 hz0 ha0 ha1 ha2 hza r0 r1 r2 rb hb1 hb2 hCX;go_enter Tryz.func103,Tryz.ntmps103
  go_upto_region 1 with (fail)
  subst e1;generalize w.alloc (.cells (sC ⟨op,nm,hd,hv,⟨some ⟨b1,o1,none⟩,3,c1⟩,sl2,sl3,⟨some ⟨b2,o2,none⟩,1,c4⟩,ln⟩).toArray 49)=w1 at *;have c1:=(cell_of H1.out.box (i:=1) rfl).1;simp only [sv] at c1;go_wp2_with (go_at_call 35;fail)
  refine (put_new [[70,79,82,32],nm] (t:=[70,79,82,32]++nm) (by simp) K1.out (by simp) (by have:=HL.out;simp only [List.length_append,List.length_cons,List.length_nil];omega)).mono ?_;rintro e w2 ⟨rfl,k9,f9⟩;have K2:=qh k9;have F2:=qh (F1.out.trans f9);have H2:=qh (H1.out.fr f9 NG.out (by decide));clear k9 f9 K1 F1 H1 c1;have c14:=(cell_of H2.out.box (i:=14) rfl).1;simp only [Sl.v] at c14;have R9:=qh (RR.out _ F2.out).1;go_wp2_with (first|((with_reducible refine m_loadR R9.out 44 12 ?_ ?_ ?_ ?_ ?_ ?_);rfl;rfl;rfl;rfl;kernel_rfl)|(go_at_call 100;fail))
  refine (X0.out _ F2.out _ K2.out (by have:=HL.out;simp only [List.length_append,List.length_cons,List.length_nil];omega)).mono ?_;rintro e w3 ⟨rfl,k9,f9⟩;have K3:=qh k9;have F3:=qh (F2.out.trans f9);have H3:=qh (H2.out.fr f9 NG.out (by decide));clear k9 f9 K2 F2 H2 c14 R9 X0;have c14:=(cell_of H3.out.box (i:=14) rfl).1;simp only [Sl.v] at c14;have R9:=qh (RR.out _ F3.out).2.1;go_wp2_with (first|((with_reducible refine m_loadR R9.out 44 18 ?_ ?_ ?_ ?_ ?_ ?_);rfl;rfl;rfl;rfl;kernel_rfl)|(go_at_call 100;fail))
  refine (X1.out _ F3.out _ K3.out (by have:=HL.out;simp only [List.length_append,List.length_cons,List.length_nil];omega)).mono ?_;rintro e w4 ⟨rfl,k9,f9⟩;have K4:=qh k9;have F4:=qh (F3.out.trans f9);have H4:=qh (H3.out.fr f9 NG.out (by decide));clear k9 f9 K3 F3 H3 c14 R9 X1;have c14:=(cell_of H4.out.box (i:=14) rfl).1;simp only [Sl.v] at c14;have R9:=qh (RR.out _ F4.out).2.2.1;go_wp2_with (first|((with_reducible refine m_loadR R9.out 44 24 ?_ ?_ ?_ ?_ ?_ ?_);rfl;rfl;rfl;rfl;kernel_rfl)|(go_at_call 100;fail))
  refine (X2.out _ F4.out _ K4.out (by have:=HL.out;simp only [List.length_append,List.length_cons,List.length_nil];omega)).mono ?_;rintro e w5 ⟨rfl,k9,f9⟩;have K5:=qh k9;have F5:=qh (F4.out.trans f9);have H5:=qh (H4.out.fr f9 NG.out (by decide));clear k9 f9 K4 F4 H4 c14 R9 X2;have c17:=(cell_of H5.out.box (i:=17) rfl).1;simp only [Sl.v] at c17;have a0:=(RR.out _ F5.out).2.2.2;simp only [Sl.v] at a0;go_wp2_with (go_at_call 38;fail)
  refine (CB.out _ F5.out _ K5.out (by have:=HL.out;simp only [List.length_append,List.length_cons,List.length_nil];omega)).mono ?_;rintro e w6 ⟨rfl,k9,f9⟩;have K6:=qh k9;have F6:=qh (F5.out.trans f9);clear k9 f9 K5 F5 H5 c17 a0;go_wp2_with (go_at_call 35;fail)
  refine (put_new [[69,78,68,95,70,79,82,59,10]] (t:=[69,78,68,95,70,79,82,59,10]) rfl K6.out (by decide) (by have:=HL.out;simp only [List.length_append,List.length_cons,List.length_nil];omega)).mono ?_;rintro e w7 ⟨rfl,k9,f9⟩;have K7:=qh (show Wx B g (l++T) w7 by rw [←HT.out];simpa only [List.append_assoc] using k9);have F7:=qh (F6.out.trans f9);clear k9 f9 K6 F6;go_wp2_with fail
  go_end0
  exact ⟨rfl,K7.out,F7.out⟩
theorem str_row {w:World} {B:Nat} {A:Option Addr} {n c:Nat} {L:List Str} (h:Rd tC1 1 w B A n c L) {q:Nat} (hq:q<n):∃ x b o,L[q]?=some x∧A=some ⟨b,o,none⟩∧b<B∧w.cell? ⟨b,o+q,none⟩=some (sv x):=by
  obtain ⟨b,o,x,hA,hb,hp,hc⟩:=h.at hq;have a0:=hc 0 _ rfl;rw [Nat.add_zero,Nat.mul_one] at a0;exact ⟨x,b,o,hp,hA,hb,a0⟩
theorem call_any {h:SH} {cs:List Ex} {fs:List Str} {CH:List EH} {B g:Nat} {l:Str} {w:World} (hK:Wx B g l w)
    (hC:RS eC 6 w B h.conds CH) (hCE:ExsAt w B cs CH) (hF:RS tC1 1 w B h.fields fs) (hcb:exsB cs=true) (hfb:fs.all nmB=true) (hle:fs.length=cs.length)
    (hlen:l.length+(h.name++[40]++argT false fs (exsS cs)++[41,59,10]).length≤lim) :
    Calls Tryz.prog 104 #[.pointer (some ⟨g,0,none⟩),.agg (sC h).toArray] w (Put B g l (h.name++[40]++argT false fs (exsS cs)++[41,59,10]) w):=by
  obtain ⟨T,hT⟩:∃ T,h.name++[40]++argT false fs (exsS cs)=T:=⟨_,rfl⟩;rw [hT] at hlen ⊢;obtain ⟨TT,hTT⟩:∃ TT,T++[41,59,10]=TT:=⟨_,rfl⟩;rw [hTT] at hlen ⊢;obtain ⟨w1,e1,K1,H1,F1,ng⟩:=hK.box (sC h) 49;obtain ⟨op,nm,hd,hv,⟨A1,n,c1⟩,sl2,⟨A3,m,c3⟩,sl4,ln⟩:=h;have hC:Rd eC 6 w B A1 n c1 CH:=hC;have hF:Rd tC1 1 w B A3 m c3 fs:=hF;have hn1:CH.length=n:=hC.1;have hm1:fs.length=m:=hF.1;have hcl:=hCE.len;have hnl:=hC.len_le;obtain rfl:n=m:=by omega
  have hLT:l.length+T.length+3≤lim:=by
    rw [←hTT] at hlen;simp only [List.length_append,List.length_cons,List.length_nil] at hlen;omega
  have hln:l.length+nm.length+1≤lim:=by
    rw [←hT] at hLT;simp only [List.length_append,List.length_cons,List.length_nil] at hLT;omega
  have RC:=qh fun (q:Nat) (hq:q<n)=>ex_row hC hCE hq
  have RF:=qh fun (q:Nat) (hq:q<n)=>str_row hF hq
  have CXB:=qh fun (q:Nat) (x:Ex) (hq:cs[q]?=some x)=>exsB_at' hcb hq
  have FXB:=qh fun (q:Nat) (x:Str) (hq:fs[q]?=some x)=>(show nmB x=true from by
    rw [List.all_eq_true] at hfb;exact hfb x (List.mem_of_getElem? hq))
  have HT:=qh hT;have HTT:=qh hTT;have HL:=qh hLT;have HLN:=qh hln;have HN:=qh (And.intro hm1 (show cs.length=n by omega));have NG:=qh ng;have K1:=qh K1;have H1:=qh H1;have F1:=qh F1;clear hK ng hC hF hn1 hm1 hcl hCE hcb hfb hle hlen hT hTT hLT hln;go_enter Tryz.func104,Tryz.ntmps104
  go_upto_region 1 with (fail)
  subst e1;generalize w.alloc (.cells (sC ⟨op,nm,hd,hv,⟨A1,n,c1⟩,sl2,⟨A3,n,c3⟩,sl4,ln⟩).toArray 49)=w1 at *;have c1:=(cell_of H1.out.box (i:=1) rfl).1;simp only [sv] at c1;go_wp2_with (go_at_call 35;fail)
  refine (put_new [nm,[40]] (t:=nm++[40]) (by simp) K1.out (by simp) (by have:=HLN.out;simp only [List.length_append,List.length_cons,List.length_nil];omega)).mono ?_;rintro e w2 ⟨rfl,k9,f9⟩;have K2:=qh k9;have F2:=qh f9;clear k9 f9 K1 c1;have h2:=H1.out.fr F2.out NG.out (by decide);have c14:=(cell_of h2.box (i:=14) rfl).1;simp only [Sl.v] at c14;clear h2;go_upto_region 3 with (fail)
  clear c14;go_loopw [14] (fun s14 wr=>∃ (q:Nat) (t1:Str),q≤n∧s14=.int .i64 q∧t1++argT (decide (0<q)) (fs.drop q) (exsS (cs.drop q))=T∧Wx B g (l++t1) wr∧Fr B g w1 wr) (fun i _=>n-(intOf i).toNat)
  case atStart=>exact ⟨0,nm++[40],Nat.zero_le _,rfl,by rw [List.drop_zero,List.drop_zero];exact HT.out,K2.out,F2.out⟩
  case round=>
    obtain ⟨q,t1,hq,rfl,ht,hk,hf⟩:=hrel;by_cases hlt:q<n
    rotate_left
    · obtain rfl:q=n:=by omega
      have hz:¬ (q:Int)<q:=by omega
      rw [List.drop_of_length_le (l:=fs) (by have:=HN.out;omega),argT,List.append_nil] at ht;subst ht;have FF:=qh (F1.out.trans hf);have KK:=qh hk;clear hk hf;go_wp2_with (go_at_call 35;fail)
      refine (put_new [[41,59,10]] (t:=[41,59,10]) rfl KK.out (by decide) (by have h1:=HL.out;simp only [List.length_append,List.length_cons,List.length_nil];omega)).mono ?_;rintro e w4 ⟨rfl,k9,f9⟩;rw [List.append_assoc,HTT.out] at k9;have K4:=qh k9;have F4:=qh (FF.out.trans f9);clear k9 f9 FF KK;go_wp2_with fail
      go_end0
      exact ⟨rfl,K4.out,F4.out⟩
    obtain ⟨x,eh,b1,o1,hx,hxa,rfl,hb1,hc1⟩:=RC.out q hlt;obtain ⟨f,b3,o3,hfq,rfl,hb3,hc3⟩:=RF.out q hlt;have hxb:=CXB.out q x hx;have hfb:=FXB.out q f hfq;rw [drop_at hfq,exs_at hx,argT] at ht;obtain ⟨sp,hsp⟩:∃ sp:Str,(if decide (0<q)=true then [44,32] else [])=sp:=⟨_,rfl⟩;have ht2:(t1++(sp++(f++[32,58,61,32])++exS x))++argT (decide (0<q+1)) (fs.drop (q+1)) (exsS (cs.drop (q+1)))=T:=by
      rw [←ht,hsp,show decide (0<q+1)=true from decide_eq_true (by omega)];simp only [List.append_assoc,List.headD_cons,List.drop_succ_cons,List.drop_zero]
    have hlT:l.length+t1.length+sp.length+f.length+4+(exS x).length≤lim:=by
      have h1:=HL.out;rw [←ht2] at h1;simp only [List.length_append,List.length_cons,List.length_nil] at h1;omega
    have w1':=nat_step q (by omega);have hci:=qh (range_below hc1 (F1.out.trans hf).1 hb1);have FC:=qh fun W (hW:Fr B g w W)=>(hW.1.cell (p:=⟨b3,o3+q,none⟩) hb3).trans hc3
    have hcat0:¬ 9223372036854775807<(⟨f.toArray⟩:ByteArray).size+4:=by rw [sz_sv];have:=nm_len hfb;omega
    have HCAT:=qh hcat0;have KK:=qh hk;have FF:=qh hf;have XA:=qh hxa;have XB:=qh hxb;have HSP:=qh hsp;have HT2:=qh ht2;have HLX:=qh hlT;have LT:=qh hlt;have W1:=qh w1';obtain ⟨mm,hm⟩:∃ m,decide (0<q)=m:=⟨_,rfl⟩;have HM:=qh hm;clear hc1 hk hf hxa hxb hfb hx hfq ht ht2 hlT hb1 hb3 hc3 hsp hm hcat0 w1' RC RF;go_upto_region 5 with (first|((with_reducible refine m_loadR hci.out 44 17 ?_ ?_ ?_ ?_ ?_ ?_);rfl;rfl;rfl;rfl;kernel_rfl)|((with_reducible refine m_newH 44 5 18 ?_ ?_ ?_ (eC eh) ?_ ?_ ?_ ?_ (eC_one _) ?_);rfl;rfl;rfl;rfl;rfl;rfl;kernel_rfl;intro w4 hx hb hz))
    have ngx:=qh (show wr.heap.size≠g by have:=KK.out.wr.lt;omega);have X4:=qh hx;have K4:=qh (KK.out.below hb);have F4:=qh (FF.out.trans (Fr.of hb KK.out.le));clear hx hb hz hci KK FF hlt;cases mm
    all_goals
      first
        | (have hx:Hid (decide (0<q)=false):=HM
           have h0:¬ (0:Int)<q:=by have:=of_decide_eq_false HM.out;omega
           have K5:=qh (show Wx B g (l++(t1++sp)) w4 by rw [←HSP.out,HM.out,if_neg (by decide),List.append_nil];exact K4.out);have F5:=qh F4.out;have X5:=qh X4.out;clear K4 F4 X4 hx)
        | (have h0:(0:Int)<q:=by have:=of_decide_eq_true HM.out;omega
           have sp2:[44,32]=sp:=by rw [←HSP.out,HM.out];rfl
           have P1:=qh (put_new [[44,32]] (t:=[44,32]) rfl K4.out (by decide) (by have:=HLX.out;rw [←sp2] at this;simp only [List.length_append];simp only [List.length_cons,List.length_nil] at this ⊢;omega));have SP2:=qh sp2;clear sp2;go_wp2_with (go_at_call 35;fail)
           refine P1.out.mono ?_;rintro e w5 ⟨rfl,k9,f9⟩;have K5:=qh (show Wx B g (l++(t1++sp)) w5 by rw [←SP2.out,←List.append_assoc];exact k9);have F5:=qh (F4.out.trans f9);have X5:=qh (X4.out.fr f9 ngx.out (by decide));clear k9 f9 P1 K4 F4 X4)
      go_upto_region 7 with (fail)
      have ⟨r0,_,r1,_,r2,_,r3,_,r4,_,r5,_,_⟩:=X5.out.box;have c16:=(cell_of (H1.out.fr F5.out NG.out (by decide)).box (i:=16) rfl).1;have cf:=FC.out _ (F1.out.trans F5.out);simp only [sv,Sl.v] at r2 r3 r4 c16 cf;obtain ⟨xs,hxs⟩:∃ z,(⟨f.toArray⟩:ByteArray)=z:=⟨_,rfl⟩;have hcat0:=HCAT.out;have hlt:=LT.out;rw [hxs] at cf hcat0;have HX:=qh hxs;clear hxs;refine still_named 8 (by kernel_rfl) ?_;intro w6 hc2 _ hb2 _;rw [←hc2] at r0 r1 r2 r3 r4 r5 c16 cf;have K6:=qh (K5.out.drew hb2);have F6:=qh (F5.out.trans (Fr.of (hb2 _) K5.out.le));clear hc2 hb2 K5 F5 X5 h0;simp only [List.take_succ_cons,List.take_zero,List.drop_succ_cons,List.drop_zero];repeat still_step
      refine wpStill_nil ?_;rw [show xs++⟨#[32,58,61,32]⟩=⟨(f++[32,58,61,32]).toArray⟩ by rw [←HX.out];exact cat_sv f [32,58,61,32]];clear r0 r1 r2 r3 r4 r5 c16 cf hcat0 hlt;go_wp2_with (go_at_call 100;fail)
      refine (around_any (a:=f++[32,58,61,32]) (b:=[]) K6.out (XA.out.below (F1.out.trans F6.out).1 (Nat.le_refl _)) XB.out (by have:=HLX.out;simp only [List.length_append,List.length_cons,List.length_nil];omega)).mono ?_;rintro e w7 ⟨rfl,k9,f9⟩;have K7:=qh (show Wx B g (l++(t1++(sp++(f++[32,58,61,32])++exS x))) w7 by simpa only [List.append_assoc,List.append_nil] using k9);have F7:=qh (F6.out.trans f9);have w1':=W1.out;clear k9 f9 K6 F6;go_wp2_with fail
      go_roundw
      case rel=>exact ⟨q+1,t1++(sp++(f++[32,58,61,32])++exS x),by have:=LT.out;omega,by go_num,HT2.out,K7.out,F7.out⟩
      case measure=>have:=LT.out;simp [intOf];omega
theorem oneIf_eq {b:Bool}:(oneIf b=1↔b=true)∧(oneIf b=0↔b=false):=by cases b<;>decide
theorem stS_mk (op:Int) (nm:Str) (dst val:Ex) (cs:List Ex) (ls:List (List Int)) (fs:List Str) (bs:List (List St)) (ln:Int):stS (.mk op nm dst val cs ls fs bs ln)=stT op nm (exS dst) (exS val) (exsS cs) ls fs (blksS bs):=by rw [stS]
theorem stmt_step {N:Nat} (IH:WrB N):WrS (N+1):=by
 unfold WrS;intro x hN hxb hxi h B g l w hK hx hlen;obtain ⟨xo,xnm,xd,xv,xcs,xls,xfs,xbs,xl⟩:=x;unfold StAt at hx;obtain ⟨h1,h2,h3,hD,hV,⟨CH,hC,hCE⟩,⟨LH,hL,hLE⟩,hF,BH,hR,hE⟩:=hx;subst h1 h2 h3;rw [stB,Bool.and_eq_true] at hxb;obtain ⟨hok,hrest⟩:=hxb;simp only [Bool.and_eq_true,Bool.or_eq_true] at hrest;obtain ⟨hnm,hdb,hvb,hcb,hlb,hfb,hbb⟩:=hrest;obtain ⟨hli,hbi⟩:=hxi;rw [stS_mk] at hlen ⊢;have hNb:SizeOf.sizeOf xbs≤N:=by simp only [St.mk.sizeOf_spec] at hN;omega
 have hCX:∀ (x:List St) (q:Nat),xbs[q]?=some x→BlkC x:=fun x q hx=>IH x (by have:=at_size hx;omega) (blksB_at' hbb hx) (inBs_at hbi hx)
 have hpl:noE xd=false→exB xd=true:=fun h=>by
  rcases hdb with h'|h'
  ·rw [h] at h';cases h'
  ·unfold placeB at h';rw [Bool.and_eq_true] at h';exact h'.2
 have hvl:noE xv=false→exB xv=true:=fun h=>by
  rcases hvb with h'|h'
  ·rw [h] at h';cases h'
  ·exact h'
 obtain ⟨w1,e1,K1,H1,F1,ng⟩:=hK.box (sC h) 49;have NG:=qh ng;have K1:=qh K1;have H1:=qh H1;have F1:=qh F1;have hD1:=hD.below F1.out.1 (Nat.le_refl _);have hV1:=hV.below F1.out.1 (Nat.le_refl _);obtain ⟨op,nm,hd,hv,s1,s2,s3,s4,ln⟩:=h;simp only at hok hlen hD hV hC hL hF hR hD1 hV1 ⊢;unfold stOk at hok;rcases (show op=1∨op=2∨op=3∨op=4∨op=5∨op=6∨op=7∨op=8∨op=9∨¬ (1≤op∧op≤9) by omega) with rfl|rfl|rfl|rfl|rfl|rfl|rfl|rfl|rfl|hno
 ·rw [if_pos rfl] at hok
  simp only [Pt.mk.injEq,decide_eq_true_eq] at hok;obtain ⟨p1,p2,p3,p4,p5,p6,p7⟩:=hok;have hd1:=hpl (by simpa using oneIf_eq.1.1 p2);have hv1:=hvl (by simpa using oneIf_eq.1.1 p3);rw [stT,if_pos rfl] at hlen ⊢;have hl2:=hlen;simp only [List.length_append,List.length_cons,List.length_nil] at hl2;have C1:=qh (expr_any K1.out hD1 hd1 (by omega));have C2:=qh fun W (hf:Fr B g w W) (hk:Wx B g (l++exS xd) W)=>around_any (a:=[32,58,61,32]) (b:=[59,10]) hk (hV.below hf.1 (Nat.le_refl _)) hv1 (by simp only [List.length_append,List.length_cons,List.length_nil];omega)
  clear p1 p2 p3 p4 p5 p6 p7 hl2 hd1 hv1 hnm hdb hvb hcb hlb hfb hbb hli hbi hN hNb hD hV hC hCE hL hLE hF hR hE hD1 hV1 hpl hvl hK ng hlen IH hCX;go_enter Tryz.func63,Tryz.ntmps63
  go_upto_region 1 with (fail)
  subst e1;generalize w.alloc (.cells (sC ⟨1,nm,hd,hv,s1,s2,s3,s4,ln⟩).toArray 49)=w1 at *;have c0:=(cell_of H1.out.box (i:=0) rfl).1;go_wp2_with (first|((with_reducible refine m_loadR (st_dst H1.out.box) 44 9 ?_ ?_ ?_ ?_ ?_ ?_);rfl;rfl;rfl;rfl;kernel_rfl)|(go_at_call 99;fail))
  refine C1.out.mono ?_;rintro e w2 ⟨rfl,k9,f9⟩;have K2:=qh k9;have F2:=qh (F1.out.trans f9);have H2:=qh (H1.out.fr f9 NG.out (by decide));clear k9 f9 K1 F1 H1 C1 c0;go_wp2_with (first|((with_reducible refine m_loadR (st_val H2.out.box) 44 13 ?_ ?_ ?_ ?_ ?_ ?_);rfl;rfl;rfl;rfl;kernel_rfl)|(go_at_call 100;fail))
  refine (C2.out _ F2.out K2.out).mono ?_;rintro e w3 ⟨rfl,k9,f9⟩;have K9:=qh (show Wx B g (l++(exS xd++[32,58,61,32]++exS xv++[59,10])) w3 by simpa only [List.append_assoc] using k9);have F9:=qh (F2.out.trans f9);clear k9 f9;go_wp2_with fail
  go_end0
  exact ⟨rfl,K9.out,F9.out⟩
 ·rw [if_neg (by decide),if_pos rfl] at hok
  simp only [elseB,Bool.or_eq_true,decide_eq_true_eq,Pt.mk.injEq,Bool.and_eq_true] at hok;have hle:xcs.length≤xbs.length:=by omega
  rw [stT,if_neg (by decide),if_pos rfl] at hlen ⊢;have C1:=qh (choice_any (h:=⟨2,nm,hd,hv,s1,s2,s3,s4,ln⟩) IH K1.out (hC.below F1.out.1 (Nat.le_refl _)) (ExsAt.below F1.out.1 (Nat.le_refl _) hCE) (hR.below F1.out.1 (Nat.le_refl _)) (BlksAt.below F1.out.1 (Nat.le_refl _) hE) hcb hbb hbi hNb hle hlen);clear hok hle hnm hdb hvb hcb hlb hfb hbb hli hbi hN hNb hD hV hC hCE hL hLE hF hR hE hD1 hV1 hpl hvl hK ng hlen IH hCX;go_enter Tryz.func63,Tryz.ntmps63
  go_upto_region 1 with (fail)
  subst e1;generalize w.alloc (.cells (sC ⟨2,nm,hd,hv,s1,s2,s3,s4,ln⟩).toArray 49)=w1 at *;have c0:=(cell_of H1.out.box (i:=0) rfl).1;go_wp2_with (first|((with_reducible refine m_load H1.out.box 49 3 ?_ ?_ ?_ ?_ ?_ ?_);rfl;rfl;rfl;rfl;kernel_rfl)|(go_at_call 101;fail))
  refine C1.out.mono ?_;rintro e w2 ⟨rfl,k9,f9⟩;have K9:=qh k9;have F9:=qh (F1.out.trans f9);clear k9 f9 K1 F1 H1 C1 c0;go_wp2_with fail
  go_end0
  exact ⟨rfl,K9.out,F9.out⟩
 ·rw [if_neg (by decide),if_neg (by decide),if_pos rfl] at hok
  simp only [elseB,Bool.or_eq_true,decide_eq_true_eq,Pt.mk.injEq,Bool.and_eq_true] at hok;have hle:xls.length≤xbs.length:=by omega
  have hv1:=hvl (by
   have:oneIf (!noE xv)=1:=by omega
   simpa using oneIf_eq.1.1 this)
  rw [stT,if_neg (by decide),if_neg (by decide),if_pos rfl] at hlen ⊢;have C1:=qh (cases_any (h:=⟨3,nm,hd,hv,s1,s2,s3,s4,ln⟩) IH K1.out hV1 hv1 (hL.below F1.out.1 (Nat.le_refl _)) (LabsAt.below F1.out.1 (Nat.le_refl _) hLE) (hR.below F1.out.1 (Nat.le_refl _)) (BlksAt.below F1.out.1 (Nat.le_refl _) hE) hlb hli hbb hbi hNb hle hlen);clear hok hle hv1 hnm hdb hvb hcb hlb hfb hbb hli hbi hN hNb hD hV hC hCE hL hLE hF hR hE hD1 hV1 hpl hvl hK ng hlen IH hCX;go_enter Tryz.func63,Tryz.ntmps63
  go_upto_region 1 with (fail)
  subst e1;generalize w.alloc (.cells (sC ⟨3,nm,hd,hv,s1,s2,s3,s4,ln⟩).toArray 49)=w1 at *;have c0:=(cell_of H1.out.box (i:=0) rfl).1;go_wp2_with (first|((with_reducible refine m_load H1.out.box 49 3 ?_ ?_ ?_ ?_ ?_ ?_);rfl;rfl;rfl;rfl;kernel_rfl)|(go_at_call 102;fail))
  refine C1.out.mono ?_;rintro e w2 ⟨rfl,k9,f9⟩;have K9:=qh k9;have F9:=qh (F1.out.trans f9);clear k9 f9 K1 F1 H1 C1 c0;go_wp2_with fail
  go_end0
  exact ⟨rfl,K9.out,F9.out⟩
 ·rw [if_neg (by decide),if_neg (by decide),if_neg (by decide),if_pos rfl] at hok
  simp only [Pt.mk.injEq,decide_eq_true_eq] at hok;obtain ⟨p1,p2,p3,p4,p5,p6,p7⟩:=hok;obtain ⟨b0,rfl⟩:∃ b0,xbs=[b0]:=by
   match xbs,p7 with
   | [b0],_=>exact ⟨b0,rfl⟩
  have hTT:stT 4 nm (exS xd) (exS xv) (exsS xcs) xls xfs (blksS [b0])=stT 4 nm [] [] (exsS xcs) [] [] (blksS [b0]):=by
   rw [stT,if_neg (by decide),if_neg (by decide),if_neg (by decide),if_pos rfl,stT,if_neg (by decide),if_neg (by decide),if_neg (by decide),if_pos rfl]
  rw [hTT] at hlen ⊢;have C1:=qh (count_any (h:=⟨4,nm,hd,hv,s1,s2,s3,s4,ln⟩) K1.out (hC.below F1.out.1 (Nat.le_refl _)) (ExsAt.below F1.out.1 (Nat.le_refl _) hCE) (hR.below F1.out.1 (Nat.le_refl _)) (BlksAt.below F1.out.1 (Nat.le_refl _) hE) hcb p4 (hCX b0 0 rfl) hlen);obtain ⟨T,hT⟩:∃ T,stT 4 nm [] [] (exsS xcs) [] [] (blksS [b0])=T:=⟨_,rfl⟩;simp only at C1;rw [hT] at C1 ⊢;clear p1 p2 p3 p4 p5 p6 p7 hTT hT hnm hdb hvb hcb hlb hfb hbb hli hbi hN hNb hD hV hC hCE hL hLE hF hR hE hD1 hV1 hpl hvl hK ng hlen IH hCX;go_enter Tryz.func63,Tryz.ntmps63
  go_upto_region 1 with (fail)
  subst e1;generalize w.alloc (.cells (sC ⟨4,nm,hd,hv,s1,s2,s3,s4,ln⟩).toArray 49)=w1 at *;have c0:=(cell_of H1.out.box (i:=0) rfl).1;go_wp2_with (first|((with_reducible refine m_load H1.out.box 49 3 ?_ ?_ ?_ ?_ ?_ ?_);rfl;rfl;rfl;rfl;kernel_rfl)|(go_at_call 103;fail))
  refine C1.out.mono ?_;rintro e w2 ⟨rfl,k9,f9⟩;have K9:=qh k9;have F9:=qh (F1.out.trans f9);clear k9 f9 K1 F1 H1 C1 c0;go_wp2_with fail
  go_end0
  exact ⟨rfl,K9.out,F9.out⟩
 ·rw [if_neg (by decide),if_neg (by decide),if_neg (by decide),if_neg (by decide),if_pos (by decide)] at hok
  simp only [Pt.mk.injEq,decide_eq_true_eq] at hok;obtain ⟨p1,p2,p3,p4,p5,p6,p7⟩:=hok;obtain ⟨b0,rfl⟩:∃ b0,xbs=[b0]:=by
   match xbs,p7 with
   | [b0],_=>exact ⟨b0,rfl⟩
  obtain ⟨A4,m,c4⟩:=s4;have hRd:Rd slC 1 w B A4 m c4 BH:=hR;obtain rfl:m=1:=by have:=hE.len;have:=hRd.1;simp only [List.length_cons,List.length_nil] at *;omega
  obtain ⟨z0,bh,b2,o2,hz0,hza,rfl,hb2,rb⟩:=blk_row hRd hE (q:=0) (by decide);obtain rfl:b0=z0:=by simpa using hz0
  rw [Nat.add_zero] at rb;have hv1:=hvl (by simpa using oneIf_eq.1.1 p3);rw [stT,if_neg (by decide),if_neg (by decide),if_neg (by decide),if_neg (by decide),if_pos rfl] at hlen ⊢;have hl2:=hlen;simp only [List.length_append,List.length_cons,List.length_nil,blksS,List.headD_cons] at hl2;have CB:=qh fun W (hf:Fr B g w W) (l':Str) (hk:Wx B g l' W) hl=>hCX b0 0 rfl bh B g l' W hk (hza.below hf.1 (Nat.le_refl _)) hl
  have RB:=qh fun W (hf:Fr B g w W)=>(hf.1.cell (p:=⟨b2,o2,none⟩) hb2).trans rb
  simp only [Sl.v] at CB RB;rw [show (blksS [b0]).headD []=stsS b0 by rw [blksS];rfl];have C1:=qh (around_any (a:=[87,72,73,76,69,32]) (b:=[32,68,79,10]) K1.out hV1 hv1 (by simp only [List.length_append,List.length_cons,List.length_nil];omega));have HL:=qh hl2;clear p1 p2 p3 p4 p5 p6 p7 hl2 hv1 hz0 hza hb2 rb hRd hnm hdb hvb hcb hlb hfb hbb hli hbi hN hNb hD hV hC hCE hL hLE hF hR hE hD1 hV1 hpl hvl hK ng hlen IH hCX;go_enter Tryz.func63,Tryz.ntmps63
  go_upto_region 1 with (fail)
  subst e1;generalize w.alloc (.cells (sC ⟨5,nm,hd,hv,s1,s2,s3,⟨some ⟨b2,o2,none⟩,1,c4⟩,ln⟩).toArray 49)=w1 at *;have c0:=(cell_of H1.out.box (i:=0) rfl).1;go_wp2_with (first|((with_reducible refine m_loadR (st_val H1.out.box) 44 34 ?_ ?_ ?_ ?_ ?_ ?_);rfl;rfl;rfl;rfl;kernel_rfl)|(go_at_call 100;fail))
  refine C1.out.mono ?_;rintro e w2 ⟨rfl,k9,f9⟩;have K2:=qh k9;have F2:=qh (F1.out.trans f9);have H2:=qh (H1.out.fr f9 NG.out (by decide));clear k9 f9 K1 F1 H1 C1 c0;have c17:=(cell_of H2.out.box (i:=17) rfl).1;simp only [Sl.v] at c17;have a0:=RB.out _ F2.out;go_wp2_with (go_at_call 38;fail)
  refine (CB.out _ F2.out _ K2.out (by have:=HL.out;simp only [List.length_append,List.length_cons,List.length_nil];omega)).mono ?_;rintro e w3 ⟨rfl,k9,f9⟩;have K3:=qh k9;have F3:=qh (F2.out.trans f9);have H3:=qh (H2.out.fr f9 NG.out (by decide));clear k9 f9 c17 a0 K2 F2 H2;go_wp2_with (go_at_call 35;fail)
  refine (put_new [[69,78,68,95,87,72,73,76,69,59,10]] (t:=[69,78,68,95,87,72,73,76,69,59,10]) rfl K3.out (by decide) (by have:=HL.out;simp only [List.length_append,List.length_cons,List.length_nil];omega)).mono ?_;rintro e w4 ⟨rfl,k9,f9⟩;have K9:=qh (show Wx B g (l++([87,72,73,76,69,32]++exS xv++[32,68,79,10]++stsS b0++[69,78,68,95,87,72,73,76,69,59,10])) w4 by simpa only [List.append_assoc] using k9);have F9:=qh (F3.out.trans f9);clear k9 f9;go_wp2_with fail
  go_end0
  exact ⟨rfl,K9.out,F9.out⟩
 ·rw [if_neg (by decide),if_neg (by decide),if_neg (by decide),if_neg (by decide),if_pos (by decide)] at hok
  simp only [Pt.mk.injEq,decide_eq_true_eq] at hok;obtain ⟨p1,p2,p3,p4,p5,p6,p7⟩:=hok;obtain ⟨b0,rfl⟩:∃ b0,xbs=[b0]:=by
   match xbs,p7 with
   | [b0],_=>exact ⟨b0,rfl⟩
  obtain ⟨A4,m,c4⟩:=s4;have hRd:Rd slC 1 w B A4 m c4 BH:=hR;obtain rfl:m=1:=by have:=hE.len;have:=hRd.1;simp only [List.length_cons,List.length_nil] at *;omega
  obtain ⟨z0,bh,b2,o2,hz0,hza,rfl,hb2,rb⟩:=blk_row hRd hE (q:=0) (by decide);obtain rfl:b0=z0:=by simpa using hz0
  rw [Nat.add_zero] at rb;have hv1:=hvl (by simpa using oneIf_eq.1.1 p3);rw [stT,if_neg (by decide),if_neg (by decide),if_neg (by decide),if_neg (by decide),if_neg (by decide),if_pos rfl] at hlen ⊢;have hl2:=hlen;simp only [List.length_append,List.length_cons,List.length_nil,blksS,List.headD_cons] at hl2;have CB:=qh fun W (hf:Fr B g w W) (l':Str) (hk:Wx B g l' W) hl=>hCX b0 0 rfl bh B g l' W hk (hza.below hf.1 (Nat.le_refl _)) hl
  have RB:=qh fun W (hf:Fr B g w W)=>(hf.1.cell (p:=⟨b2,o2,none⟩) hb2).trans rb
  simp only [Sl.v] at CB RB;rw [show (blksS [b0]).headD []=stsS b0 by rw [blksS];rfl];have C1:=qh fun W (hf:Fr B g w W) (l':Str) (hk:Wx B g l' W) hl=>around_any (a:=[85,78,84,73,76,32]) (b:=[32,69,78,68,95,82,69,80,69,65,84,59,10]) hk (hV.below hf.1 (Nat.le_refl _)) hv1 hl
  have HL:=qh hl2;clear p1 p2 p3 p4 p5 p6 p7 hl2 hv1 hz0 hza hb2 rb hRd hnm hdb hvb hcb hlb hfb hbb hli hbi hN hNb hD hV hC hCE hL hLE hF hR hE hD1 hV1 hpl hvl hK ng hlen IH hCX;go_enter Tryz.func63,Tryz.ntmps63
  go_upto_region 1 with (fail)
  subst e1;generalize w.alloc (.cells (sC ⟨6,nm,hd,hv,s1,s2,s3,⟨some ⟨b2,o2,none⟩,1,c4⟩,ln⟩).toArray 49)=w1 at *;have c0:=(cell_of H1.out.box (i:=0) rfl).1;go_wp2_with (go_at_call 35;fail)
  refine (put_new [[82,69,80,69,65,84,10]] (t:=[82,69,80,69,65,84,10]) rfl K1.out (by decide) (by have:=HL.out;simp only [List.length_append,List.length_cons,List.length_nil];omega)).mono ?_;rintro e w2 ⟨rfl,k9,f9⟩;have K2:=qh k9;have F2:=qh (F1.out.trans f9);have H2:=qh (H1.out.fr f9 NG.out (by decide));clear k9 f9 K1 F1 H1 c0;have c17:=(cell_of H2.out.box (i:=17) rfl).1;simp only [Sl.v] at c17;have a0:=RB.out _ F2.out;go_wp2_with (go_at_call 38;fail)
  refine (CB.out _ F2.out _ K2.out (by have:=HL.out;simp only [List.length_append,List.length_cons,List.length_nil];omega)).mono ?_;rintro e w3 ⟨rfl,k9,f9⟩;have K3:=qh k9;have F3:=qh (F2.out.trans f9);have H3:=qh (H2.out.fr f9 NG.out (by decide));clear k9 f9 c17 a0 K2 F2 H2;go_wp2_with (first|((with_reducible refine m_loadR (st_val H3.out.box) 44 58 ?_ ?_ ?_ ?_ ?_ ?_);rfl;rfl;rfl;rfl;kernel_rfl)|(go_at_call 100;fail))
  refine (C1.out _ F3.out _ K3.out (by have:=HL.out;simp only [List.length_append,List.length_cons,List.length_nil];omega)).mono ?_;rintro e w4 ⟨rfl,k9,f9⟩;have K9:=qh (show Wx B g (l++([82,69,80,69,65,84,10]++stsS b0++[85,78,84,73,76,32]++exS xv++[32,69,78,68,95,82,69,80,69,65,84,59,10])) w4 by simpa only [List.append_assoc] using k9);have F9:=qh (F3.out.trans f9);clear k9 f9;go_wp2_with fail
  go_end0
  exact ⟨rfl,K9.out,F9.out⟩
 ·rw [stT,if_neg (by decide),if_neg (by decide),if_neg (by decide),if_neg (by decide),if_neg (by decide),if_neg (by decide),if_pos rfl] at hlen ⊢
  have HL:=qh hlen;clear hok hnm hdb hvb hcb hlb hfb hbb hli hbi hN hNb hD hV hC hCE hL hLE hF hR hE hD1 hV1 hpl hvl hK ng hlen IH hCX;go_enter Tryz.func63,Tryz.ntmps63
  go_upto_region 1 with (fail)
  subst e1;generalize w.alloc (.cells (sC ⟨7,nm,hd,hv,s1,s2,s3,s4,ln⟩).toArray 49)=w1 at *;have c0:=(cell_of H1.out.box (i:=0) rfl).1;go_wp2_with (go_at_call 35;fail)
  refine (put_new [[69,88,73,84,59,10]] (t:=[69,88,73,84,59,10]) rfl K1.out (by decide) HL.out).mono ?_;rintro e w2 ⟨rfl,k9,f9⟩;have K9:=qh k9;have F9:=qh (F1.out.trans f9);clear k9 f9;go_wp2_with fail
  go_end0
  exact ⟨rfl,K9.out,F9.out⟩
 ·rw [stT,if_neg (by decide),if_neg (by decide),if_neg (by decide),if_neg (by decide),if_neg (by decide),if_neg (by decide),if_neg (by decide),if_pos rfl] at hlen ⊢
  have HL:=qh hlen;clear hok hnm hdb hvb hcb hlb hfb hbb hli hbi hN hNb hD hV hC hCE hL hLE hF hR hE hD1 hV1 hpl hvl hK ng hlen IH hCX;go_enter Tryz.func63,Tryz.ntmps63
  go_upto_region 1 with (fail)
  subst e1;generalize w.alloc (.cells (sC ⟨8,nm,hd,hv,s1,s2,s3,s4,ln⟩).toArray 49)=w1 at *;have c0:=(cell_of H1.out.box (i:=0) rfl).1;go_wp2_with (go_at_call 35;fail)
  refine (put_new [[82,69,84,85,82,78,59,10]] (t:=[82,69,84,85,82,78,59,10]) rfl K1.out (by decide) HL.out).mono ?_;rintro e w2 ⟨rfl,k9,f9⟩;have K9:=qh k9;have F9:=qh (F1.out.trans f9);clear k9 f9;go_wp2_with fail
  go_end0
  exact ⟨rfl,K9.out,F9.out⟩
 ·rw [if_neg (by decide),if_neg (by decide),if_neg (by decide),if_neg (by decide),if_neg (by decide),if_neg (by decide),if_pos rfl] at hok
  simp only [Pt.mk.injEq,decide_eq_true_eq] at hok;have hle:xfs.length=xcs.length:=by omega
  rw [stT,if_neg (by decide),if_neg (by decide),if_neg (by decide),if_neg (by decide),if_neg (by decide),if_neg (by decide),if_neg (by decide),if_neg (by decide)] at hlen ⊢;have C1:=qh (call_any (h:=⟨9,nm,hd,hv,s1,s2,s3,s4,ln⟩) K1.out (hC.below F1.out.1 (Nat.le_refl _)) (ExsAt.below F1.out.1 (Nat.le_refl _) hCE) (hF.below F1.out.1 (Nat.le_refl _)) hcb hfb hle hlen);clear hok hle hnm hdb hvb hcb hlb hfb hbb hli hbi hN hNb hD hV hC hCE hL hLE hF hR hE hD1 hV1 hpl hvl hK ng hlen IH hCX;go_enter Tryz.func63,Tryz.ntmps63
  go_upto_region 1 with (fail)
  subst e1;generalize w.alloc (.cells (sC ⟨9,nm,hd,hv,s1,s2,s3,s4,ln⟩).toArray 49)=w1 at *;have c0:=(cell_of H1.out.box (i:=0) rfl).1;go_wp2_with (first|((with_reducible refine m_load H1.out.box 49 3 ?_ ?_ ?_ ?_ ?_ ?_);rfl;rfl;rfl;rfl;kernel_rfl)|(go_at_call 104;fail))
  refine C1.out.mono ?_;rintro e w2 ⟨rfl,k9,f9⟩;have K9:=qh k9;have F9:=qh (F1.out.trans f9);clear k9 f9 K1 F1 H1 C1 c0;go_wp2_with fail
  go_end0
  exact ⟨rfl,K9.out,F9.out⟩
 ·rw [if_neg (by omega),if_neg (by omega),if_neg (by omega),if_neg (by omega),if_neg (by omega),if_neg (by omega),if_neg (by omega)] at hok
  cases hok
theorem wrb_mono {N M:Nat} (h:WrB N) (hm:M≤N):WrB M:=fun L hL=>h L (Nat.lt_of_lt_of_le hL hm)
theorem stmt_all:∀ N,WrS N
 | 0=>fun _ h=>absurd h (by omega)
 | N+1=>stmt_step (wrb_mono (block_step (stmt_all N)) (by omega))
theorem block_any {L:List St} (hb:stsB L=true) (hi:inSs L) {s:Sl} {B g:Nat} {l:Str} {w:World} (hK:Wx B g l w) (hS:StL w B s L) (hlen:l.length+(stsS L).length≤lim) :
  Calls Tryz.prog 38 #[.pointer (some ⟨g,0,none⟩),s.v] w (Put B g l (stsS L) w):=
 block_step (stmt_all (SizeOf.sizeOf L)) L (by omega) hb hi s B g l w hK hS hlen
end sh
namespace sd
open ChangeShapes WideShapes ChangeAt RowKit k rr
def i1 (x:Int):List Value:=[.int .i64 x]
def GotB (n:Nat) (L:List Int) (w:World) (e:Ending) (w':World):Prop:=
  ∃ g cap,e=.returned (.slice (some ⟨g,0,none⟩) n cap)∧w.heap.size≤g∧g<w'.heap.size∧n≤cap∧cap≤maxLen∧L.length=n∧Box w' g 0 (L.map fun x=>.int .i64 x)∧Below w.heap.size w w'
def b2 (p:Prop) [Decidable p]:Int:=if p then 1 else 0
def up (et pt:Int):Int:=if et<pt then et+1 else et
structure Rw where
  kind:Int
  name:ByteArray
  pins:ByteArray
  its:List ByteArray
def table:List Rw:=[
    ⟨10,⟨#[84,79,78]⟩,⟨#[105,73,111,79]⟩,[⟨#[73,78]⟩,⟨#[80,84]⟩,⟨#[81]⟩,⟨#[69,84]⟩]⟩,
    ⟨11,⟨#[84,79,70]⟩,⟨#[105,73,111,79]⟩,[⟨#[73,78]⟩,⟨#[80,84]⟩,⟨#[81]⟩,⟨#[69,84]⟩]⟩,
    ⟨12,⟨#[84,80]⟩,⟨#[105,73,111,79,46,46]⟩,[⟨#[73,78]⟩,⟨#[80,84]⟩,⟨#[81]⟩,⟨#[69,84]⟩]⟩,
    ⟨13,⟨#[67,84,85]⟩,⟨#[105,105,73,111,79,46]⟩,[⟨#[67,85]⟩,⟨#[82]⟩,⟨#[80,86]⟩,⟨#[81]⟩,⟨#[67,86]⟩]⟩,
    ⟨14,⟨#[67,84,68]⟩,⟨#[105,105,73,111,79,46]⟩,[⟨#[67,68]⟩,⟨#[76,68]⟩,⟨#[80,86]⟩,⟨#[81]⟩,⟨#[67,86]⟩]⟩,
    ⟨15,⟨#[82,95,84,82,73,71]⟩,⟨#[105,111,46]⟩,[⟨#[67,76,75]⟩,⟨#[81]⟩]⟩,
    ⟨16,⟨#[70,95,84,82,73,71]⟩,⟨#[105,111,46]⟩,[⟨#[67,76,75]⟩,⟨#[81]⟩]⟩,
    ⟨17,⟨#[83,82]⟩,⟨#[105,105,111]⟩,[⟨#[83,49]⟩,⟨#[82]⟩,⟨#[81,49]⟩]⟩,
    ⟨18,⟨#[82,83]⟩,⟨#[105,105,111]⟩,[⟨#[83]⟩,⟨#[82,49]⟩,⟨#[81,49]⟩]⟩,
    ⟨20,⟨#[77,67,95,80,111,119,101,114]⟩,⟨#[73,105,111,111]⟩,[⟨#[65,120,105,115]⟩,⟨#[69,110,97,98,108,101]⟩,⟨#[83,116,97,116,117,115]⟩,⟨#[69,114,114,111,114]⟩]⟩,
    ⟨21,⟨#[77,67,95,72,111,109,101]⟩,⟨#[73,105,111,111,111,111,111,46,46]⟩,[⟨#[65,120,105,115]⟩,⟨#[69,120,101,99,117,116,101]⟩,⟨#[68,111,110,101]⟩,⟨#[66,117,115,121]⟩,⟨#[65,99,116,105,118,101]⟩,⟨#[67,111,109,109,97,110,100,65,98,111,114,116,101,100]⟩,⟨#[69,114,114,111,114]⟩]⟩,
    ⟨22,⟨#[77,67,95,83,116,111,112]⟩,⟨#[73,105,111,111,111,111,111,46,46]⟩,[⟨#[65,120,105,115]⟩,⟨#[69,120,101,99,117,116,101]⟩,⟨#[68,111,110,101]⟩,⟨#[66,117,115,121]⟩,⟨#[65,99,116,105,118,101]⟩,⟨#[67,111,109,109,97,110,100,65,98,111,114,116,101,100]⟩,⟨#[69,114,114,111,114]⟩]⟩,
    ⟨23,⟨#[77,67,95,72,97,108,116]⟩,⟨#[73,105,111,111,111,111,111,46,46]⟩,[⟨#[65,120,105,115]⟩,⟨#[69,120,101,99,117,116,101]⟩,⟨#[68,111,110,101]⟩,⟨#[66,117,115,121]⟩,⟨#[65,99,116,105,118,101]⟩,⟨#[67,111,109,109,97,110,100,65,98,111,114,116,101,100]⟩,⟨#[69,114,114,111,114]⟩]⟩,
    ⟨24,⟨#[77,67,95,77,111,118,101,65,98,115,111,108,117,116,101]⟩,⟨#[73,105,73,73,73,111,111,111,111,111,46,46]⟩,[⟨#[65,120,105,115]⟩,⟨#[69,120,101,99,117,116,101]⟩,⟨#[80,111,115,105,116,105,111,110]⟩,⟨#[86,101,108,111,99,105,116,121]⟩,⟨#[66,117,102,102,101,114,77,111,100,101]⟩,⟨#[68,111,110,101]⟩,⟨#[66,117,115,121]⟩,⟨#[65,99,116,105,118,101]⟩,⟨#[67,111,109,109,97,110,100,65,98,111,114,116,101,100]⟩,⟨#[69,114,114,111,114]⟩]⟩,
    ⟨25,⟨#[77,67,95,77,111,118,101,82,101,108,97,116,105,118,101]⟩,⟨#[73,105,73,73,73,111,111,111,111,111,46,46]⟩,[⟨#[65,120,105,115]⟩,⟨#[69,120,101,99,117,116,101]⟩,⟨#[68,105,115,116,97,110,99,101]⟩,⟨#[86,101,108,111,99,105,116,121]⟩,⟨#[66,117,102,102,101,114,77,111,100,101]⟩,⟨#[68,111,110,101]⟩,⟨#[66,117,115,121]⟩,⟨#[65,99,116,105,118,101]⟩,⟨#[67,111,109,109,97,110,100,65,98,111,114,116,101,100]⟩,⟨#[69,114,114,111,114]⟩]⟩,
    ⟨26,⟨#[77,67,95,77,111,118,101,65,100,100,105,116,105,118,101]⟩,⟨#[73,105,73,73,73,111,111,111,111,111,46,46]⟩,[⟨#[65,120,105,115]⟩,⟨#[69,120,101,99,117,116,101]⟩,⟨#[68,105,115,116,97,110,99,101]⟩,⟨#[86,101,108,111,99,105,116,121]⟩,⟨#[66,117,102,102,101,114,77,111,100,101]⟩,⟨#[68,111,110,101]⟩,⟨#[66,117,115,121]⟩,⟨#[65,99,116,105,118,101]⟩,⟨#[67,111,109,109,97,110,100,65,98,111,114,116,101,100]⟩,⟨#[69,114,114,111,114]⟩]⟩,
    ⟨27,⟨#[77,67,95,77,111,118,101,86,101,108,111,99,105,116,121]⟩,⟨#[73,105,73,111,111,111,111,111,46,46]⟩,[⟨#[65,120,105,115]⟩,⟨#[69,120,101,99,117,116,101]⟩,⟨#[86,101,108,111,99,105,116,121]⟩,⟨#[73,110,86,101,108,111,99,105,116,121]⟩,⟨#[66,117,115,121]⟩,⟨#[65,99,116,105,118,101]⟩,⟨#[67,111,109,109,97,110,100,65,98,111,114,116,101,100]⟩,⟨#[69,114,114,111,114]⟩]⟩,
    ⟨28,⟨#[77,67,95,71,101,97,114,73,110]⟩,⟨#[73,105,73,73,73,111,111,111,111,111,46,46]⟩,[⟨#[65,120,105,115]⟩,⟨#[69,120,101,99,117,116,101]⟩,⟨#[77,97,115,116,101,114]⟩,⟨#[78,117,109,101,114,97,116,111,114]⟩,⟨#[68,101,110,111,109,105,110,97,116,111,114]⟩,⟨#[73,110,71,101,97,114]⟩,⟨#[66,117,115,121]⟩,⟨#[65,99,116,105,118,101]⟩,⟨#[67,111,109,109,97,110,100,65,98,111,114,116,101,100]⟩,⟨#[69,114,114,111,114]⟩]⟩,
    ⟨29,⟨#[77,67,95,82,101,115,101,116]⟩,⟨#[73,105,111,111,46]⟩,[⟨#[65,120,105,115]⟩,⟨#[69,120,101,99,117,116,101]⟩,⟨#[68,111,110,101]⟩,⟨#[69,114,114,111,114]⟩]⟩,
    ⟨30,⟨#[77,67,95,83,101,116,80,111,115,105,116,105,111,110]⟩,⟨#[73,105,73,111,111,46]⟩,[⟨#[65,120,105,115]⟩,⟨#[69,120,101,99,117,116,101]⟩,⟨#[80,111,115,105,116,105,111,110]⟩,⟨#[68,111,110,101]⟩,⟨#[69,114,114,111,114]⟩]⟩,
    ⟨31,⟨#[77,67,95,83,101,116,79,118,101,114,114,105,100,101]⟩,⟨#[73,105,73,111]⟩,[⟨#[65,120,105,115]⟩,⟨#[69,110,97,98,108,101]⟩,⟨#[80,101,114,99,101,110,116]⟩,⟨#[69,110,97,98,108,101,100]⟩]⟩]
def kindIn:List Rw→ByteArray→Int
  | [],_=>0
  | r::l,s=>if r.name=s then r.kind else kindIn l s
structure Pn where
  name:ByteArray
  type:Int
  inp:Bool
def pC (p:Pn):List Value:=[.string p.name,.int .i64 p.type,.bool p.inp]
def kindOf (s:ByteArray):Int:=kindIn table s
def GotP (L:List Pn) (w:World) (e:Ending) (w':World):Prop:=
  ∃ A c,e=.returned (.slice A L.length c)∧rr.Rd pC 3 w' w'.heap.size A L.length c L∧Below w.heap.size w w'
structure Sh where
  name:ByteArray
  ins:ByteArray
  outs:ByteArray
  inner:Int
def shA:List (Int×Sh):=[
    (10,⟨⟨#[84,79,78]⟩,⟨#[73,78,32,80,84]⟩,⟨#[81,32,69,84]⟩,0⟩),
    (11,⟨⟨#[84,79,70]⟩,⟨#[73,78,32,80,84]⟩,⟨#[81,32,69,84]⟩,0⟩),
    (12,⟨⟨#[84,80]⟩,⟨#[73,78,32,80,84]⟩,⟨#[81,32,69,84]⟩,2⟩),
    (13,⟨⟨#[67,84,85]⟩,⟨#[67,85,32,82,32,80,86]⟩,⟨#[81,32,67,86]⟩,1⟩),
    (14,⟨⟨#[67,84,68]⟩,⟨#[67,68,32,76,68,32,80,86]⟩,⟨#[81,32,67,86]⟩,1⟩),
    (15,⟨⟨#[82,95,84,82,73,71]⟩,⟨#[67,76,75]⟩,⟨#[81]⟩,1⟩),
    (16,⟨⟨#[70,95,84,82,73,71]⟩,⟨#[67,76,75]⟩,⟨#[81]⟩,1⟩),
    (17,⟨⟨#[83,82]⟩,⟨#[83,49,32,82]⟩,⟨#[81,49]⟩,0⟩),
    (18,⟨⟨#[82,83]⟩,⟨#[83,32,82,49]⟩,⟨#[81,49]⟩,0⟩)]
def shM:List (Int×Sh):=[
    (20,⟨⟨#[77,67,95,80,111,119,101,114]⟩,⟨#[65,120,105,115,32,69,110,97,98,108,101]⟩,⟨#[83,116,97,116,117,115,32,69,114,114,111,114]⟩,0⟩),
    (21,⟨⟨#[77,67,95,72,111,109,101]⟩,⟨#[65,120,105,115,32,69,120,101,99,117,116,101]⟩,⟨#[68,111,110,101,32,66,117,115,121,32,65,99,116,105,118,101,32,67,111,109,109,97,110,100,65,98,111,114,116,101,100,32,69,114,114,111,114]⟩,2⟩),
    (22,⟨⟨#[77,67,95,83,116,111,112]⟩,⟨#[65,120,105,115,32,69,120,101,99,117,116,101]⟩,⟨#[68,111,110,101,32,66,117,115,121,32,65,99,116,105,118,101,32,67,111,109,109,97,110,100,65,98,111,114,116,101,100,32,69,114,114,111,114]⟩,2⟩),
    (23,⟨⟨#[77,67,95,72,97,108,116]⟩,⟨#[65,120,105,115,32,69,120,101,99,117,116,101]⟩,⟨#[68,111,110,101,32,66,117,115,121,32,65,99,116,105,118,101,32,67,111,109,109,97,110,100,65,98,111,114,116,101,100,32,69,114,114,111,114]⟩,2⟩),
    (24,⟨⟨#[77,67,95,77,111,118,101,65,98,115,111,108,117,116,101]⟩,⟨#[65,120,105,115,32,69,120,101,99,117,116,101,32,80,111,115,105,116,105,111,110,32,86,101,108,111,99,105,116,121,32,66,117,102,102,101,114,77,111,100,101]⟩,⟨#[68,111,110,101,32,66,117,115,121,32,65,99,116,105,118,101,32,67,111,109,109,97,110,100,65,98,111,114,116,101,100,32,69,114,114,111,114]⟩,2⟩),
    (25,⟨⟨#[77,67,95,77,111,118,101,82,101,108,97,116,105,118,101]⟩,⟨#[65,120,105,115,32,69,120,101,99,117,116,101,32,68,105,115,116,97,110,99,101,32,86,101,108,111,99,105,116,121,32,66,117,102,102,101,114,77,111,100,101]⟩,⟨#[68,111,110,101,32,66,117,115,121,32,65,99,116,105,118,101,32,67,111,109,109,97,110,100,65,98,111,114,116,101,100,32,69,114,114,111,114]⟩,2⟩),
    (26,⟨⟨#[77,67,95,77,111,118,101,65,100,100,105,116,105,118,101]⟩,⟨#[65,120,105,115,32,69,120,101,99,117,116,101,32,68,105,115,116,97,110,99,101,32,86,101,108,111,99,105,116,121,32,66,117,102,102,101,114,77,111,100,101]⟩,⟨#[68,111,110,101,32,66,117,115,121,32,65,99,116,105,118,101,32,67,111,109,109,97,110,100,65,98,111,114,116,101,100,32,69,114,114,111,114]⟩,2⟩),
    (27,⟨⟨#[77,67,95,77,111,118,101,86,101,108,111,99,105,116,121]⟩,⟨#[65,120,105,115,32,69,120,101,99,117,116,101,32,86,101,108,111,99,105,116,121]⟩,⟨#[73,110,86,101,108,111,99,105,116,121,32,66,117,115,121,32,65,99,116,105,118,101,32,67,111,109,109,97,110,100,65,98,111,114,116,101,100,32,69,114,114,111,114]⟩,2⟩),
    (28,⟨⟨#[77,67,95,71,101,97,114,73,110]⟩,⟨#[65,120,105,115,32,69,120,101,99,117,116,101,32,77,97,115,116,101,114,32,78,117,109,101,114,97,116,111,114,32,68,101,110,111,109,105,110,97,116,111,114]⟩,⟨#[73,110,71,101,97,114,32,66,117,115,121,32,65,99,116,105,118,101,32,67,111,109,109,97,110,100,65,98,111,114,116,101,100,32,69,114,114,111,114]⟩,2⟩),
    (29,⟨⟨#[77,67,95,82,101,115,101,116]⟩,⟨#[65,120,105,115,32,69,120,101,99,117,116,101]⟩,⟨#[68,111,110,101,32,69,114,114,111,114]⟩,1⟩),
    (30,⟨⟨#[77,67,95,83,101,116,80,111,115,105,116,105,111,110]⟩,⟨#[65,120,105,115,32,69,120,101,99,117,116,101,32,80,111,115,105,116,105,111,110]⟩,⟨#[68,111,110,101,32,69,114,114,111,114]⟩,1⟩),
    (31,⟨⟨#[77,67,95,83,101,116,79,118,101,114,114,105,100,101]⟩,⟨#[65,120,105,115,32,69,110,97,98,108,101,32,80,101,114,99,101,110,116]⟩,⟨#[69,110,97,98,108,101,100]⟩,0⟩)]
def shIn (d:Sh):List (Int×Sh)→Int→Sh
  | [],_=>d
  | r::l,k=>if (k==r.1)=true then r.2 else shIn d l k
def sh0:Sh:=⟨⟨#[]⟩,⟨#[]⟩,⟨#[]⟩,0⟩
def motionOf (k:Int):Sh:=shIn sh0 shM k
def shapeOf (k:Int):Sh:=shIn (motionOf k) shA k
theorem motion_any (n:Int) (w:World):Calls Tryz.prog 126 #[.int .i64 n] w fun e w'=>e=.returned (.agg #[.string (motionOf n).name,.string (motionOf n).ins,.string (motionOf n).outs,.int .i64 (motionOf n).inner])∧Below w.heap.size w w':=by
  go_enter Tryz.func126,Tryz.ntmps126
  go_wp2
  all_goals
    refine bodyPost_ret (k.results_cell rfl rfl (run_loadVar_mid _ w.heap.size 0 146 _ _ (Box.new w _ _).range rfl rfl (by kernel_rfl))) rfl ?_;refine ⟨?_,(Below.refl _ _).alloc (Nat.le_refl _) _⟩;simp [motionOf,shIn,shM,sh0, *]
theorem shape_any (n:Int) (w:World):Calls Tryz.prog 98 #[.int .i64 n] w fun e w'=>e=.returned (.agg #[.string (shapeOf n).name,.string (shapeOf n).ins,.string (shapeOf n).outs,.int .i64 (shapeOf n).inner])∧Below w.heap.size w w':=by
  have MM:=qh fun W=>motion_any n W
  go_enter Tryz.func98,Tryz.ntmps98
  go_wp2_with (go_at_call 126;fail)
  all_goals first
    | (refine bodyPost_ret (k.results_cell rfl rfl (run_loadVar_mid _ w.heap.size 0 146 _ _ (Box.new w _ _).range rfl rfl (by kernel_rfl))) rfl ?_
       refine ⟨?_,(Below.refl _ _).alloc (Nat.le_refl _) _⟩;simp [shapeOf,shIn,shA, *];done)
    | skip
  with_reducible refine (MM.out _).mono ?_
  rintro e w1 ⟨rfl,hb⟩;obtain ⟨x,hB,_⟩:=boxes1 hb;obtain ⟨y,z,hB2⟩:=Box.puts (us:=[.string (motionOf n).name,.string (motionOf n).ins,.string (motionOf n).outs,.int .i64 (motionOf n).inner]) x rfl;have HB:=qh (hB.trans (hB2 _ (Nat.le_refl _)));have HY:=qh y;obtain ⟨c0,f0,c1,f1,c2,f2,c3,f3,_⟩:=x;clear hb hB y z hB2;go_wp2;refine bodyPost_ret (k.results_cell rfl rfl (run_loadVar_mid _ w.heap.size 0 146 _ _ HY.out.range rfl rfl (by kernel_rfl))) rfl ?_;refine ⟨?_,HB.out⟩;simp [shapeOf,shIn,shA, *]
theorem sh_field (s:Sh) (w:World):(Instr.field 146 (.agg #[.string s.name,.string s.ins,.string s.outs,.int .i64 s.inner]) 0).run Tryz.prog w=.ok (.string s.name) w:=by kernel_rfl
theorem name_of (n:Int) (w:World):Calls Tryz.prog 62 #[.int .i64 n] w fun e w'=>e=.returned (.string (shapeOf n).name)∧Below w.heap.size w w':=by
  have SS:=qh fun W=>shape_any n W
  go_enter Tryz.func62,Tryz.ntmps62
  go_wp2_with (go_at_call 98;(with_reducible refine (SS.out _).mono ?_);rintro e w1 ⟨rfl,hb⟩;have HB:=qh hb;have q0:=sh_field (shapeOf n) w1;clear hb)
  go_ret
  exact ⟨rfl,HB.out⟩
theorem bytes_ne {a b:ByteArray} (h:a≠b):(a.toList==b.toList)=false:=by
  rw [beq_eq_false_iff_ne];intro e;rw [ByteArray.toList_eq,ByteArray.toList_eq] at e;exact h (ByteArray.ext (Array.toList_inj.1 e))
def kindFrom (s:ByteArray):Nat→Int→Int
  | 0,_=>0
  | m+1,n=>if (shapeOf n).name=s then n else kindFrom s m (n+1)
def kindS (s:ByteArray):Int:=if s=⟨#[]⟩ then 0 else kindFrom s 22 10
theorem kind_any (s:ByteArray) (w:World):Calls Tryz.prog 177 #[.string s] w fun e w'=>e=.returned (.int .i64 (kindS s))∧Below w.heap.size w w':=by
  have NN:=qh fun n W=>name_of n W
  by_cases hs:s=⟨#[]⟩
  · subst hs
    have hq:((⟨#[]⟩:ByteArray).toList==[])=true:=by kernel_rfl
    go_enter Tryz.func177,Tryz.ntmps177
    go_wp2_with fail
    go_ret
    exact ⟨rfl,Below.refl _ _⟩
  · have hq:(s.toList==[])=false:=by
      have:=bytes_ne hs;rwa [show (⟨#[]⟩:ByteArray).toList=[] by rw [ByteArray.toList_eq]] at this
    have HK:=qh (show kindS s=kindFrom s 22 10 from if_neg hs);go_enter Tryz.func177,Tryz.ntmps177
    go_wp2_with fail
    go_loopw [3] (fun s3 wq=>∃ (m:Nat) (q:Int),q=32-m∧m≤22∧s3=.int .i64 q∧kindFrom s m q=kindFrom s 22 10∧Below w.heap.size w wq) (fun i _=>32-(intOf i).toNat)
    case atStart=>exact ⟨22,10,rfl,Nat.le_refl _,rfl,rfl,Below.refl _ _⟩
    case round=>
      obtain ⟨m,q,hq2,hm,rfl,hk,hB⟩:=hrel;have HB:=qh hB;clear hB;cases m with
      | zero=>
        have hz:¬ (q≤31):=by omega
        have HE:=qh hk;clear hk hq2;go_wp2_with fail
        go_ret
        refine ⟨ret_int ?_,HB.out⟩;rw [HK.out,←HE.out];rfl
      | succ m=>
        have hz:q≤31:=by omega
        have hn1:-100≤q:=by omega
        have HQ:=qh hq2;clear hq2;rw [kindFrom] at hk;by_cases he:(shapeOf q).name=s
        · rw [if_pos he] at hk
          have HE:=qh hk;have h2:((shapeOf q).name.toList==s.toList)=true:=by rw [he];simp
          clear hk he;go_wp2_with (go_at_call 62;(with_reducible refine (NN.out _ _).mono ?_);rintro e w1 ⟨rfl,hb⟩;have HB1:=btr HB hb;clear hb)
          go_ret
          refine ⟨ret_int ?_,HB1.out⟩;rw [HK.out,←HE.out]
        · rw [if_neg he] at hk
          have HE:=qh hk;have h2:=bytes_ne he;clear hk he;go_wp2_with (go_at_call 62;(with_reducible refine (NN.out _ _).mono ?_);rintro e w1 ⟨rfl,hb⟩;have HB1:=btr HB hb;clear hb)
          go_roundw
          case rel=>exact ⟨m,q+1,by have:=HQ.out;omega,by omega,by go_num,HE.out,HB1.out⟩
          case measure=>have:=HQ.out;simp [intOf];omega
end sd
end Go.Proofs.YtdefgghhkknnpaaGreatDoor

/- The parser over a statement's signs, kind by kind. Condition: a statement such as a text could give. The parser over a program's signs: its variables. Condition: variables such as a text could give, at most 64. What the parser gives of a shown program's text: the program, or too deep. Condition: a program such as a text could give; its text has at most 16384 bytes. How many parts expressions have and how deep they are, as the document's given function counts, with its stop. Condition: at most 2^40 parts. How many parts statements have and how deep they are, as the document's given function counts, with its stop. No condition. A row of one expression, made under a guard. No condition beyond what each line says. What memory can hold of a statement. No condition. An element of a row that is a value: the signs of two. No condition. The document's text of an expression: the given function of it. Conditions: an expression such as a text could give; its text has at most 2^47 bytes. The given function's rows of statements, over what a statement gives. Conditions: statements such as a text could give; their text has at most 2^47 bytes. The count of statements' parts: the given function of it. Condition: at most 2^40 parts. How many parts a program has, whether it is short: the given functions. Condition: at most 2^40 parts. How deep the parser goes in a program, by the document's given count of how deep it is. Condition: the count did not stop. -/
import Derived.Test.YtdefgghhkknnpaaGreatDoorE14
set_option linter.unusedVariables false
set_option linter.unusedSimpArgs false
set_option maxRecDepth 100000
set_option maxHeartbeats 40000000
namespace Go.Proofs.YtdefgghhkknnpaaGreatDoor
namespace sh
open ChangeShapes WideShapes ChangeAt RowKit k rr tk tr
theorem one_bs {B:List (List St)} (h:B.length=1):∃ b,B=[b]:=List.length_eq_one_iff.1 h
theorem three_of {α:Type} {l:List α} (h:l.length=3):∃ a b c,l=[a,b,c]:=by
 match l,h with
 | [a,b,c],_=>exact ⟨a,b,c,rfl⟩
theorem rows_to {N:Nat} (IH:PaS N) {w:Str} (he:EndsB [w]=true) (hw:oneOf w [w]=true) {d:Nat} {b:List St} (hN:SizeOf.sizeOf b≤N) (hb:stsB b=true) {S:List (Int×Str×Int)} {r q:Sg} (h:Rw r (sgs (stsI b)++((2,w,0)::S)) q) :
  ∃ ln cl m,Rw m S q∧∀ f,Give (32<d+dpSs b) (fun X=>stsSame b X=true) (⟨2,w,0,ln,cl⟩::m) (stmtsF f d [w] r []):=by
 obtain ⟨m,h1,h2⟩:=h.app;obtain ⟨ln,cl,m1,rfl,h3⟩:=h2.cons;exact ⟨ln,cl,m1,h3,fun f=>(stmts_p IH he (one_end hw) b hN hb r h1 f []).mono id (by rintro X ⟨l',rfl,hs⟩;exact hs)⟩
theorem ex_to {e:Ex} (he:exB e=true) {w:Str} (hw:w=[84,72,69,78]∨w=[79,70]∨w=[84,79]∨w=[66,89]∨w=[68,79]∨w=[69,78,68,95,82,69,80,69,65,84]) {d:Nat} {S:List (Int×Str×Int)} {r q:Sg} (h:Rw r (sgs (exI e)++((2,w,0)::S)) q) :
  ∃ ln cl m,Rw m S q∧∀ f,Give (32<d+dpE e) (fun x=>exSame e x=true) (⟨2,w,0,ln,cl⟩::m) (expr f d r):=by
 obtain ⟨m,h1,h2⟩:=h.app;obtain ⟨ln,cl,m1,rfl,h3⟩:=h2.cons;exact ⟨ln,cl,m1,h3,fun f=>parse_ex he h1 (nx_word hw) f⟩
theorem parse_s_step {N:Nat} (IH:PaS N):PaS (N+1):=by
 intro x hN hb d r q hr;obtain ⟨op,nm,dst,val,cs,ls,fs,bs,ln⟩:=x;simp only [St.mk.sizeOf_spec] at hN;rw [stB_fit] at hb;simp only [Bool.and_eq_true] at hb;obtain ⟨hin,hnm,hd,hv,hc,hcn,hf,hlb,hbl⟩:=hb;unfold inS9 at hin;simp only [Bool.and_eq_true,decide_eq_true_eq] at hin;rw [stI] at hr;obtain ⟨D,hD⟩:∃ D,dpS (.mk op nm dst val cs ls fs bs ln)=D:=⟨_,rfl⟩;have hD':1+max (max (dpE dst) (dpE val)) (max (dpEs cs) (dpBs bs))=D:=by rw [←hD,dpS]
 rcases (show op=1∨op=2∨op=3∨op=4∨op=5∨op=6∨op=7∨op=8∨op=9 by omega) with rfl|rfl|rfl|rfl|rfl|rfl|rfl|rfl|rfl
 ·
  obtain rfl:nm=[]:=by simpa [nameB,hasN] using hnm
  have hd:placeB dst=true:=hd;have hv:(!noE val&&exB val)=true:=hv;unfold placeB at hd;rw [Bool.and_eq_true] at hd hv;have hcn:cs.length=0∧ls.length=0∧fs.length=0∧bs.length=0:=by simpa [cntB,cntS] using hcn
  obtain ⟨k1,k2,k3,k4⟩:=hcn;obtain rfl:cs=[]:=List.eq_nil_of_length_eq_zero k1;obtain rfl:ls=[]:=List.eq_nil_of_length_eq_zero k2;obtain rfl:fs=[]:=List.eq_nil_of_length_eq_zero k3;obtain rfl:bs=[]:=List.eq_nil_of_length_eq_zero k4;replace hr:Rw r (sgs (exI dst++(.gap 32::.sg 4 [58,61] 0::.gap 32::(exI val++[siI 59])))) q:=by
   have:sgs (exI dst++(.gap 32::.sg 4 [58,61] 0::.gap 32::(exI val++[siI 59,.gap 10])))=sgs (exI dst++(.gap 32::.sg 4 [58,61] 0::.gap 32::(exI val++[siI 59]))):=by
    simp only [sgs_append,sgs]
   rw [←this];exact hr
  have h1:1≤dpS (.mk 1 [] dst val [] [] [] [] ln):=by rw [hD];omega
  obtain ⟨o,n,dn,df,sub,dl⟩:=dst;have ho:o=3∨o=4:=by simpa [opE] using hd.1
  have tail:∀ {m:Sg} {dp:Prop},(32<d+D→dp)→Rw m (sgs (.gap 32::.sg 4 [58,61] 0::.gap 32::(exI val++[siI 59]))) q→∃ l1 c1 m1,m=⟨4,[58,61],0,l1,c1⟩::m1∧∃ l2 c2,∀ f,Give (32<d+D) (fun x=>exSame val x=true) (⟨4,[59],0,l2,c2⟩::q) (expr f (d+1) m1):=by
   intro m dp _ hm;obtain ⟨l1,c1,m1,rfl,h2⟩:=Rw.cons (k:=4) (t:=[58,61]) (n:=0) (S:=sgs (exI val++[siI 59])) hm;rw [sgs_append] at h2;obtain ⟨m2,h3,h4⟩:=h2.app;obtain ⟨l2,c2,m3,rfl,h5⟩:=Rw.cons (k:=4) (t:=[59]) (n:=0) (S:=[]) h4;obtain rfl:=h5.nil;exact ⟨l1,c1,m1,rfl,l2,c2,fun f=>(parse_ex hv.2 h3 (nx_sign 1 (Or.inr rfl) (fun l _=>noop_of (by decide) l) (by decide) (by decide)) f).mono (by omega) (fun x hx=>hx)⟩
  rcases ho with rfl|rfl
  ·have hde:=hd.2
   rw [exB,Bool.and_eq_true] at hde;obtain ⟨h9,hsb⟩:=hde;unfold exOk at h9;simp only [Bool.and_eq_true,decide_eq_true_eq,beq_iff_eq] at h9;obtain ⟨-,hn1,hn2,hnm2,hfd,hk⟩:=h9;obtain rfl:sub=[]:=List.eq_nil_of_length_eq_zero hk;obtain rfl:df=[]:=by simpa [fieldE,nameB] using hfd
   obtain rfl:n=0:=by have:n≤0:=hn2;omega
   obtain ⟨a1,a2,r1,rfl,h2⟩:=Rw.cons (k:=1) (t:=dn) (n:=0) (S:=sgs (.gap 32::.sg 4 [58,61] 0::.gap 32::(exI val++[siI 59]))) hr;obtain ⟨l1,c1,m1,rfl,l2,c2,h3⟩:=tail (dp:=True) (fun _=>trivial) h2;refine st_wrap (ln:=l2) (cl:=c2) h1 (what_name fun f=>?_);rw [hD,txt_sign (Or.inr rfl),if_neg (by decide),if_neg (by decide)];refine Give.bind (Q:=fun y=>exSame (.mk 3 0 dn [] [] dl) y=true) ⟨by simp [exSame,exsSame],rfl⟩ (fun y hy=>?_);refine Give.bind (need_give (Or.inr rfl)) (fun _ _=>?_);refine Give.bind (h3 f) (fun z hz=>?_);exact ⟨fun _=>by simp [stSame,hy,hz,exsSame,blksSame],rfl⟩
  ·have hde:=hd.2
   rw [exB,Bool.and_eq_true] at hde;obtain ⟨h9,hsb⟩:=hde;unfold exOk at h9;simp only [Bool.and_eq_true,decide_eq_true_eq,beq_iff_eq] at h9;obtain ⟨-,hn1,hn2,hnm2,hfd,hk⟩:=h9;obtain ⟨y,rfl⟩:=one_of (show sub.length=1 from hk);obtain rfl:df=[]:=by simpa [fieldE,nameB] using hfd
   obtain rfl:n=0:=by have:n≤0:=hn2;omega
   rw [exsB,Bool.and_eq_true] at hsb;have hdy:dpE (.mk 4 0 dn [] [y] dl)=1+dpE y:=by rw [dpE,if_pos rfl,dpEs,dpEs,Nat.max_zero]
   replace hr:Rw r ((1,dn,0)::(4,[91],0)::sgs ((exI y++[siI 93])++(.gap 32::.sg 4 [58,61] 0::.gap 32::(exI val++[siI 59])))) q:=hr;obtain ⟨a1,a2,r1,rfl,h2⟩:=hr.cons;rw [sgs_append] at h2;obtain ⟨m,h3,h4⟩:=Rw.app (S:=(4,[91],0)::sgs (exI y++[siI 93])) h2;obtain ⟨l1,c1,m1,rfl,l2,c2,h5⟩:=tail (dp:=True) (fun _=>trivial) h4;have hi:=fun f=>index_p (d:=d+1) hsb.1 h3 f
   obtain ⟨a3,a4,r2,rfl,-⟩:=h3.cons;refine st_wrap (ln:=l2) (cl:=c2) h1 (what_name fun f=>?_);rw [hD,txt_sign (Or.inr rfl),if_neg (by decide),if_pos rfl];refine Give.bind (Q:=fun z=>exSame (.mk 4 0 dn [] [y] dl) z=true) (Give.bind ((hi f).mono (by omega) (fun x hx=>hx)) (fun x hx=>⟨by simp [exSame,exsSame,hx],rfl⟩)) (fun y' hy=>?_);refine Give.bind (need_give (Or.inr rfl)) (fun _ _=>?_);refine Give.bind (h5 f) (fun z hz=>?_);exact ⟨fun _=>by simp [stSame,hy,hz,exsSame,blksSame],rfl⟩
 ·
  obtain rfl:nm=[]:=by simpa [nameB,hasN] using hnm
  have hd:noE dst=true:=hd;have hv:noE val=true:=hv;have hcn:cntB (max 1 cs.length,0,0,max 1 cs.length,1) cs.length ls.length fs.length bs.length=true:=hcn;unfold cntB at hcn;simp only [Bool.and_eq_true,beq_iff_eq,decide_eq_true_eq] at hcn;have hcn:cs.length=max 1 cs.length∧ls.length=0∧fs.length=0∧max 1 cs.length≤bs.length∧bs.length≤max 1 cs.length+1:=by omega
  obtain ⟨k1,k2,k3,k4,k5⟩:=hcn;obtain rfl:ls=[]:=List.eq_nil_of_length_eq_zero k2;obtain rfl:fs=[]:=List.eq_nil_of_length_eq_zero k3;cases cs with
  | nil=>simp at k1
  | cons c cs=>
  cases bs with
  | nil=>simp at k4
  | cons b bs=>
   have hl:bs.length=cs.length∨bs.length=cs.length+1:=by simp only [List.length_cons] at k4 k5;omega
   have h1:1≤dpS (.mk 2 [] dst val (c::cs) [] [] (b::bs) ln):=by rw [hD];omega
   have e:sgs (stIt 2 [] (exI dst) (exI val) (exsI (c::cs)) [] [] (blksI (b::bs)))=((2,[73,70],0)::sgs (exI c++(.gap 32::wdI [84,72,69,78]::.gap 10::(stsI b++(ifI [69,76,83,73,70] (exsI cs) (blksI bs)++[wdI [69,78,68,95,73,70]])))))++[(4,[59],0)]:=by
    show (2,[73,70],0)::sgs ((exI c++(.gap 32::wdI [84,72,69,78]::.gap 10::(stsI b++ifI [69,76,83,73,70] (exsI cs) (blksI bs))))++[wdI [69,78,68,95,73,70],siI 59,.gap 10])=_
    simp only [sgs_append,sgs,List.append_assoc,List.cons_append,List.nil_append];rfl
   rw [e] at hr;obtain ⟨l1,c1,h2⟩:=semi_end hr;obtain ⟨a1,a2,r1,rfl,h3⟩:=h2.cons;refine st_wrap (ln:=l1) (cl:=c1) h1 (fun f=>?_);cases f with
   | zero=>rw [whatF];exact Or.inl rfl
   | succ f=>
    rw [hD,whatF,txt_sign (Or.inl rfl),if_pos rfl,List.drop_one,List.tail_cons];refine (if_p IH (d:=d+1) f cs bs c b [] [] r1 hl hc hbl (by omega) h3).mono (by omega) ?_;rintro g ⟨cs',bs',hg,hs1,hs2⟩;intro l;rw [hg];simp [stSame,no_same hd,no_same hv,hs1,hs2]
 ·
  obtain rfl:nm=[]:=by simpa [nameB,hasN] using hnm
  have hd:noE dst=true:=hd;have hv:(!noE val&&exB val)=true:=hv;rw [Bool.and_eq_true] at hv;have hcn:cntB (0,ls.length,0,ls.length,1) cs.length ls.length fs.length bs.length=true:=hcn;unfold cntB at hcn;simp only [Bool.and_eq_true,beq_iff_eq,decide_eq_true_eq] at hcn;have hcn:cs.length=0∧ls.length=ls.length∧fs.length=0∧ls.length≤bs.length∧bs.length≤ls.length+1:=by omega
  obtain ⟨k1,k2,k3,k4,k5⟩:=hcn;obtain rfl:cs=[]:=List.eq_nil_of_length_eq_zero k1;obtain rfl:fs=[]:=List.eq_nil_of_length_eq_zero k3;have h1:1≤dpS (.mk 3 [] dst val [] ls [] bs ln):=by rw [hD];omega
  have e:sgs (stIt 3 [] (exI dst) (exI val) (exsI []) ls [] (blksI bs))=((2,[67,65,83,69],0)::(sgs (exI val)++((2,[79,70],0)::sgs (caseI ls (blksI bs)++[wdI [69,78,68,95,67,65,83,69]]))))++[(4,[59],0)]:=by
   show (2,[67,65,83,69],0)::sgs (exI val++(.gap 32::wdI [79,70]::.gap 10::(caseI ls (blksI bs)++[wdI [69,78,68,95,67,65,83,69],siI 59,.gap 10])))=_
   simp only [sgs_append,sgs,List.append_assoc,List.cons_append,List.nil_append];rfl
  rw [e] at hr;obtain ⟨l1,c1,h2⟩:=semi_end hr;obtain ⟨a1,a2,r1,rfl,h3⟩:=h2.cons;obtain ⟨a3,a4,m,h4,h5⟩:=ex_to (d:=d+1) hv.2 (by simp) h3;refine st_wrap (ln:=l1) (cl:=c1) h1 (fun f=>?_);cases f with
  | zero=>rw [whatF];exact Or.inl rfl
  | succ f=>
   rw [hD,whatF,txt_sign (Or.inl rfl),if_neg (by decide),if_pos rfl,List.drop_one,List.tail_cons];refine Give.bind ((h5 f).mono (by omega) (fun x hx=>hx)) (fun x hx=>?_);refine Give.bind (need_give (Or.inl rfl)) (fun _ _=>?_);refine (case_p IH (d:=d+1) (x:=x) f ls bs [] [] m (by omega) hlb hbl (by omega) h4).mono (by omega) ?_;rintro g ⟨bs',hg,hs2⟩;intro l;rw [hg];simp [stSame,no_same hd,hx,hs2,exsSame]
 ·
  have hnm:nmB nm=true:=hnm;have hd:noE dst=true:=hd;have hv:noE val=true:=hv;have hcn:cntB (3,0,0,1,0) cs.length ls.length fs.length bs.length=true:=hcn;unfold cntB at hcn;simp only [Bool.and_eq_true,beq_iff_eq,decide_eq_true_eq] at hcn;have hcn:cs.length=3∧ls.length=0∧fs.length=0∧1≤bs.length∧bs.length≤1+0:=by omega
  obtain ⟨k1,k2,k3,k4,k5⟩:=hcn;obtain rfl:ls=[]:=List.eq_nil_of_length_eq_zero k2;obtain rfl:fs=[]:=List.eq_nil_of_length_eq_zero k3;obtain ⟨c1,c2,c3,rfl⟩:=three_of k1;obtain ⟨b,rfl⟩:=one_bs (show bs.length=1 by omega);have h1:1≤dpS (.mk 4 nm dst val [c1,c2,c3] [] [] [b] ln):=by rw [hD];omega
  have hE:dpEs [c1,c2,c3]=max (dpE c1) (max (dpE c2) (max (dpE c3) 0)):=by rw [dpEs,dpEs,dpEs,dpEs]
  have hB:dpBs [b]=max (dpSs b) 0:=by rw [dpBs,dpBs]
  rw [exsB,exsB,exsB,exsB] at hc;simp only [Bool.and_eq_true] at hc;rw [blksB,Bool.and_eq_true] at hbl;have e:sgs (stIt 4 nm (exI dst) (exI val) (exsI [c1,c2,c3]) [] [] (blksI [b]))=((2,[70,79,82],0)::(1,nm,0)::(4,[58,61],0)::(sgs (exI c1)++((2,[84,79],0)::(sgs (exI c2)++((2,[66,89],0)::(sgs (exI c3)++((2,[68,79],0)::(sgs (stsI b)++((2,[69,78,68,95,70,79,82],0)::[])))))))) )++[(4,[59],0)]:=by
   show (2,[70,79,82],0)::(1,nm,0)::(4,[58,61],0)::sgs (exI c1++(.gap 32::wdI [84,79]::.gap 32::(exI c2++(.gap 32::wdI [66,89]::.gap 32::(exI c3++(.gap 32::wdI [68,79]::.gap 10::(stsI b++[wdI [69,78,68,95,70,79,82],siI 59,.gap 10])))))))=_
   simp only [sgs_append,sgs,List.append_assoc,List.cons_append,List.nil_append];rfl
  rw [e] at hr;obtain ⟨l1,z1,h2⟩:=semi_end hr;obtain ⟨a1,a2,r1,rfl,h3⟩:=h2.cons;obtain ⟨a3,a4,r2,rfl,h4⟩:=h3.cons;obtain ⟨a5,a6,r3,rfl,h5⟩:=h4.cons;obtain ⟨a7,a8,m1,h6,g1⟩:=ex_to (d:=d+1) hc.1 (by simp) h5;obtain ⟨a9,b1,m2,h7,g2⟩:=ex_to (d:=d+1) hc.2.1 (by simp) h6;obtain ⟨b2,b3,m3,h8,g3⟩:=ex_to (d:=d+1) hc.2.2.1 (by simp) h7;simp only [List.cons.sizeOf_spec] at hN;obtain ⟨b4,b5,m4,h9,g4⟩:=rows_to IH (d:=d+1) (by decide) (by decide) (by omega) hbl.1 h8;obtain rfl:=h9.nil;refine st_wrap (ln:=l1) (cl:=z1) h1 (fun f=>?_);cases f with
  | zero=>rw [whatF];exact Or.inl rfl
  | succ f=>
   rw [hD,whatF,txt_sign (Or.inl rfl),if_neg (by decide),if_neg (by decide),if_pos rfl,List.drop_one,List.tail_cons,want_sign];refine Give.bind (Q:=fun t=>t.text=nm) (q:=_) ⟨rfl,rfl⟩ (fun t ht=>?_);refine Give.bind (need_give (Or.inr rfl)) (fun _ _=>?_);refine Give.bind ((g1 f).mono (by omega) (fun x hx=>hx)) (fun x1 hx1=>?_);refine Give.bind (need_give (Or.inl rfl)) (fun _ _=>?_);refine Give.bind ((g2 f).mono (by omega) (fun x hx=>hx)) (fun x2 hx2=>?_);rw [txt_sign (Or.inl rfl),if_pos rfl,List.drop_one,List.tail_cons];refine Give.bind ((g3 f).mono (by omega) (fun x hx=>hx)) (fun x3 hx3=>?_);refine Give.bind (need_give (Or.inl rfl)) (fun _ _=>?_);refine Give.bind ((g4 f).mono (by omega) (fun x hx=>hx)) (fun B hB=>?_);refine Give.bind (need_give (Or.inl rfl)) (fun _ _=>?_);exact ⟨fun _=>by simp [stSame,no_same hd,no_same hv,ht,hx1,hx2,hx3,exsSame,blksSame,hB],rfl⟩
 ·
  obtain rfl:nm=[]:=by simpa [nameB,hasN] using hnm
  have hd:noE dst=true:=hd;have hv:(!noE val&&exB val)=true:=hv;rw [Bool.and_eq_true] at hv;have hcn:cntB (0,0,0,1,0) cs.length ls.length fs.length bs.length=true:=hcn;unfold cntB at hcn;simp only [Bool.and_eq_true,beq_iff_eq,decide_eq_true_eq] at hcn;have hcn:cs.length=0∧ls.length=0∧fs.length=0∧1≤bs.length∧bs.length≤1+0:=by omega
  obtain ⟨k1,k2,k3,k4,k5⟩:=hcn;obtain rfl:cs=[]:=List.eq_nil_of_length_eq_zero k1;obtain rfl:ls=[]:=List.eq_nil_of_length_eq_zero k2;obtain rfl:fs=[]:=List.eq_nil_of_length_eq_zero k3;obtain ⟨b,rfl⟩:=one_bs (show bs.length=1 by omega);have h1:1≤dpS (.mk 5 [] dst val [] [] [] [b] ln):=by rw [hD];omega
  have hB:dpBs [b]=max (dpSs b) 0:=by rw [dpBs,dpBs]
  rw [blksB,Bool.and_eq_true] at hbl;have e:sgs (stIt 5 [] (exI dst) (exI val) (exsI []) [] [] (blksI [b]))=((2,[87,72,73,76,69],0)::(sgs (exI val)++((2,[68,79],0)::(sgs (stsI b)++((2,[69,78,68,95,87,72,73,76,69],0)::[])))))++[(4,[59],0)]:=by
   show (2,[87,72,73,76,69],0)::sgs (exI val++(.gap 32::wdI [68,79]::.gap 10::(stsI b++[wdI [69,78,68,95,87,72,73,76,69],siI 59,.gap 10])))=_
   simp only [sgs_append,sgs,List.append_assoc,List.cons_append,List.nil_append];rfl
  rw [e] at hr;obtain ⟨l1,z1,h2⟩:=semi_end hr;obtain ⟨a1,a2,r1,rfl,h3⟩:=h2.cons;obtain ⟨a7,a8,m1,h6,g1⟩:=ex_to (d:=d+1) hv.2 (by simp) h3;simp only [List.cons.sizeOf_spec] at hN;obtain ⟨b4,b5,m4,h9,g4⟩:=rows_to IH (d:=d+1) (by decide) (by decide) (by omega) hbl.1 h6;obtain rfl:=h9.nil;refine st_wrap (ln:=l1) (cl:=z1) h1 (fun f=>?_);cases f with
  | zero=>rw [whatF];exact Or.inl rfl
  | succ f=>
   rw [hD,whatF,txt_sign (Or.inl rfl),if_neg (by decide),if_neg (by decide),if_neg (by decide),if_pos rfl,List.drop_one,List.tail_cons];refine Give.bind ((g1 f).mono (by omega) (fun x hx=>hx)) (fun x1 hx1=>?_);refine Give.bind (need_give (Or.inl rfl)) (fun _ _=>?_);refine Give.bind ((g4 f).mono (by omega) (fun x hx=>hx)) (fun B hB=>?_);refine Give.bind (need_give (Or.inl rfl)) (fun _ _=>?_);exact ⟨fun _=>by simp [stSame,no_same hd,hx1,exsSame,blksSame,hB],rfl⟩
 ·
  obtain rfl:nm=[]:=by simpa [nameB,hasN] using hnm
  have hd:noE dst=true:=hd;have hv:(!noE val&&exB val)=true:=hv;rw [Bool.and_eq_true] at hv;have hcn:cntB (0,0,0,1,0) cs.length ls.length fs.length bs.length=true:=hcn;unfold cntB at hcn;simp only [Bool.and_eq_true,beq_iff_eq,decide_eq_true_eq] at hcn;have hcn:cs.length=0∧ls.length=0∧fs.length=0∧1≤bs.length∧bs.length≤1+0:=by omega
  obtain ⟨k1,k2,k3,k4,k5⟩:=hcn;obtain rfl:cs=[]:=List.eq_nil_of_length_eq_zero k1;obtain rfl:ls=[]:=List.eq_nil_of_length_eq_zero k2;obtain rfl:fs=[]:=List.eq_nil_of_length_eq_zero k3;obtain ⟨b,rfl⟩:=one_bs (show bs.length=1 by omega);have h1:1≤dpS (.mk 6 [] dst val [] [] [] [b] ln):=by rw [hD];omega
  have hB:dpBs [b]=max (dpSs b) 0:=by rw [dpBs,dpBs]
  rw [blksB,Bool.and_eq_true] at hbl;have e:sgs (stIt 6 [] (exI dst) (exI val) (exsI []) [] [] (blksI [b]))=((2,[82,69,80,69,65,84],0)::(sgs (stsI b)++((2,[85,78,84,73,76],0)::(sgs (exI val)++((2,[69,78,68,95,82,69,80,69,65,84],0)::[])))))++[(4,[59],0)]:=by
   show (2,[82,69,80,69,65,84],0)::sgs (stsI b++(wdI [85,78,84,73,76]::.gap 32::(exI val++[.gap 32,wdI [69,78,68,95,82,69,80,69,65,84],siI 59,.gap 10])))=_
   simp only [sgs_append,sgs,List.append_assoc,List.cons_append,List.nil_append];rfl
  rw [e] at hr;obtain ⟨l1,z1,h2⟩:=semi_end hr;obtain ⟨a1,a2,r1,rfl,h3⟩:=h2.cons;simp only [List.cons.sizeOf_spec] at hN;obtain ⟨b4,b5,m4,h9,g4⟩:=rows_to IH (d:=d+1) (by decide) (by decide) (by omega) hbl.1 h3;obtain ⟨a7,a8,m1,h6,g1⟩:=ex_to (d:=d+1) hv.2 (by simp) h9;obtain rfl:=h6.nil;refine st_wrap (ln:=l1) (cl:=z1) h1 (fun f=>?_);cases f with
  | zero=>rw [whatF];exact Or.inl rfl
  | succ f=>
   rw [hD,whatF,txt_sign (Or.inl rfl),if_neg (by decide),if_neg (by decide),if_neg (by decide),if_neg (by decide),if_pos rfl,List.drop_one,List.tail_cons];refine Give.bind ((g4 f).mono (by omega) (fun x hx=>hx)) (fun B hB=>?_);refine Give.bind (need_give (Or.inl rfl)) (fun _ _=>?_);refine Give.bind ((g1 f).mono (by omega) (fun x hx=>hx)) (fun x1 hx1=>?_);refine Give.bind (need_give (Or.inl rfl)) (fun _ _=>?_);exact ⟨fun _=>by simp [stSame,no_same hd,hx1,exsSame,blksSame,hB],rfl⟩
 ·
  obtain rfl:nm=[]:=by simpa [nameB,hasN] using hnm
  have hd:noE dst=true:=hd;have hv:noE val=true:=hv;have hcn:cs.length=0∧ls.length=0∧fs.length=0∧bs.length=0:=by simpa [cntB,cntS] using hcn
  obtain ⟨k1,k2,k3,k4⟩:=hcn;obtain rfl:cs=[]:=List.eq_nil_of_length_eq_zero k1;obtain rfl:ls=[]:=List.eq_nil_of_length_eq_zero k2;obtain rfl:fs=[]:=List.eq_nil_of_length_eq_zero k3;obtain rfl:bs=[]:=List.eq_nil_of_length_eq_zero k4;have h1:1≤dpS (.mk 7 [] dst val [] [] [] [] ln):=by rw [hD];omega
  replace hr:Rw r ([(2,[69,88,73,84],0)]++[(4,[59],0)]) q:=hr;obtain ⟨l1,z1,h2⟩:=semi_end hr;obtain ⟨a1,a2,r1,rfl,h3⟩:=h2.cons;obtain rfl:=h3.nil;refine st_wrap (ln:=l1) (cl:=z1) h1 (fun f=>?_);cases f with
  | zero=>rw [whatF];exact Or.inl rfl
  | succ f=>
   rw [whatF,txt_sign (Or.inl rfl),if_neg (by decide),if_neg (by decide),if_neg (by decide),if_neg (by decide),if_neg (by decide),if_pos rfl,List.drop_one,List.tail_cons];exact ⟨fun _=>by simp [stSame,no_same hd,no_same hv,exsSame,blksSame],rfl⟩
 ·
  obtain rfl:nm=[]:=by simpa [nameB,hasN] using hnm
  have hd:noE dst=true:=hd;have hv:noE val=true:=hv;have hcn:cs.length=0∧ls.length=0∧fs.length=0∧bs.length=0:=by simpa [cntB,cntS] using hcn
  obtain ⟨k1,k2,k3,k4⟩:=hcn;obtain rfl:cs=[]:=List.eq_nil_of_length_eq_zero k1;obtain rfl:ls=[]:=List.eq_nil_of_length_eq_zero k2;obtain rfl:fs=[]:=List.eq_nil_of_length_eq_zero k3;obtain rfl:bs=[]:=List.eq_nil_of_length_eq_zero k4;have h1:1≤dpS (.mk 8 [] dst val [] [] [] [] ln):=by rw [hD];omega
  replace hr:Rw r ([(2,[82,69,84,85,82,78],0)]++[(4,[59],0)]) q:=hr;obtain ⟨l1,z1,h2⟩:=semi_end hr;obtain ⟨a1,a2,r1,rfl,h3⟩:=h2.cons;obtain rfl:=h3.nil;refine st_wrap (ln:=l1) (cl:=z1) h1 (fun f=>?_);cases f with
  | zero=>rw [whatF];exact Or.inl rfl
  | succ f=>
   rw [whatF,txt_sign (Or.inl rfl),if_neg (by decide),if_neg (by decide),if_neg (by decide),if_neg (by decide),if_neg (by decide),if_neg (by decide),if_pos rfl,List.drop_one,List.tail_cons];exact ⟨fun _=>by simp [stSame,no_same hd,no_same hv,exsSame,blksSame],rfl⟩
 ·
  have hnm:nmB nm=true:=hnm;have hd:noE dst=true:=hd;have hv:noE val=true:=hv;have hcn:cs.length=fs.length∧ls.length=0∧bs.length=0:=by simpa [cntB,cntS] using hcn
  obtain ⟨k1,k2,k4⟩:=hcn;obtain rfl:ls=[]:=List.eq_nil_of_length_eq_zero k2;obtain rfl:bs=[]:=List.eq_nil_of_length_eq_zero k4;have h1:1≤dpS (.mk 9 nm dst val cs [] fs [] ln):=by rw [hD];omega
  have e:sgs (stIt 9 nm (exI dst) (exI val) (exsI cs) [] fs (blksI []))=((1,nm,0)::(4,[40],0)::(sgs (argI false fs (exsI cs))++[(4,[41],0)]))++[(4,[59],0)]:=by
   show (1,nm,0)::(4,[40],0)::sgs (argI false fs (exsI cs)++[siI 41,siI 59,.gap 10])=_
   simp only [sgs_append,sgs,List.append_assoc,List.cons_append,List.nil_append];rfl
  rw [e] at hr;obtain ⟨l1,z1,h2⟩:=semi_end hr;obtain ⟨a1,a2,r1,rfl,h3⟩:=h2.cons;obtain ⟨a3,a4,r2,rfl,h4⟩:=h3.cons;obtain ⟨m,h5,h6⟩:=h4.app;obtain ⟨a5,a6,m1,rfl,h7⟩:=h6.cons;obtain rfl:=h7.nil;refine st_wrap (ln:=l1) (cl:=z1) h1 (what_name fun f=>?_);rw [hD,txt_sign (Or.inr rfl),if_pos rfl,List.drop_one,List.tail_cons];cases fs with
  | nil=>
   obtain rfl:cs=[]:=List.eq_nil_of_length_eq_zero k1;rw [argI] at h5;obtain rfl:=Rw.nil h5;rw [txt_sign (Or.inr rfl),if_pos rfl];exact ⟨fun _=>by simp [stSame,no_same hd,no_same hv,exsSame,blksSame],rfl⟩
  | cons n2 fs=>
   have hne:txt r2≠[41]:=by
    cases cs with
    | nil=>simp at k1
    | cons c cs=>
     obtain ⟨_,_,r3,rfl,_⟩:=Rw.cons (k:=1) (t:=n2) (n:=0) (S:=sgs ([.gap 32,.sg 4 [58,61] 0,.gap 32]++exI c++argI true fs (exsI cs))) h5;rw [txt_none (Or.inl rfl)];decide
   rw [if_neg hne];refine Give.bind ((args_p (by rw [txt_sign (Or.inr rfl)]) (nx_sign 1 (Or.inr rfl) (fun l _=>noop_of (by decide) l) (by decide) (by decide)) f (n2::fs) cs [] [] r2 (by simp) k1 hc h5).mono (by omega) (fun x hx=>hx)) ?_;rintro z ⟨hz1,cs',hz2,hz3⟩;refine Give.bind (need_give (Or.inr rfl)) (fun _ _=>?_);exact ⟨fun _=>by simp [stSame,no_same hd,no_same hv,blksSame,hz1,hz2,hz3],rfl⟩
theorem parse_s_all:∀ N,PaS N
 | 0=>fun _ h=>absurd h (by omega)
 | N+1=>parse_s_step (parse_s_all N)
theorem names_p {dp:Prop} {nm:Str} {m:Nat} (hm:m+1≤64) {ln cl ln1 cl1:Nat} {r1:Sg}:∀ f,Give dp (fun ns=>∃ l c,ns=[⟨1,nm,0,l,c⟩]) (⟨4,[58],0,ln1,cl1⟩::r1) (namesF f m (⟨1,nm,0,ln,cl⟩::⟨4,[58],0,ln1,cl1⟩::r1) [])
 | 0=>by rw [namesF];exact Or.inl rfl
 | f+1=>by
  rw [namesF,if_neg (by simp only [List.length_nil];omega),want_sign];refine Give.bind (Q:=fun t=>t=⟨1,nm,0,ln,cl⟩) (q:=_) ⟨rfl,rfl⟩ (fun t ht=>?_);rw [txt_sign (Or.inr rfl),if_neg (by decide)];exact ⟨⟨ln,cl,by rw [ht];rfl⟩,rfl⟩
theorem simple_of {t:Str} {n:Int} {ln cl:Nat} {r:Sg} (T:Int) (hT:T=1∨T=2) (ht:t=plainS T):simpleT (⟨2,t,n,ln,cl⟩::r)=T:=by
 unfold simpleT;rw [txt_sign (Or.inl rfl),ht];rcases hT with rfl|rfl<;>decide
theorem kind_of {n:Int} (h:(kinds.any fun k=>k.2==n)=true):kindOf (kindS n)=n∧n≠0∧2<n:=by
 by_cases hm:n∈kindL
 ·have h2:kindL.all (fun n=>kindOf (kindS n)==n&&(n != 0&&decide (2<n)))=true:=by kernel_rfl
  rw [List.all_eq_true] at h2;have:=h2 n hm;simpa using this
 ·rw [(kind_none hm).2.2] at h
  cases h
theorem type_p {dp:Prop} {v:Va} (hv:typeB v=true) {r q:Sg} {ln cl:Nat} (h:Rw r (sgs (typeI v)) (⟨4,[59],0,ln,cl⟩::q)) :
  ∃ m,Give dp (fun ty=>ty=(v.type,v.array,v.lo,v.hi)) m (typeP r)∧∀ t0:Tk,Give dp (fun init=>init=v.init) (⟨4,[59],0,ln,cl⟩::q) (if txt m=[58,61] then (valueP (m.drop 1)).bind fun z r'=>
    if v.array=true∨2<v.type∨(z.1=true∧v.type=1)∨(z.1=false∧v.type=2) then .bad 1 t0 else .ok z.2 r'
   else .ok 0 m):=by
 unfold typeB at hv;unfold typeI at h;by_cases ha:v.array=true
 ·rw [if_pos ha] at h hv
  simp only [Bool.and_eq_true,Bool.or_eq_true,beq_iff_eq,decide_eq_true_eq] at hv;obtain ⟨h1,h2,h3,h4,h5⟩:=hv;rw [numI,numI,if_neg (by omega),if_neg (by omega)] at h;replace h:Rw r [(2,[65,82,82,65,89],0),(4,[91],0),(3,numS v.lo,((v.lo.toNat:Nat):Int)),(4,[46,46],0),(3,numS v.hi,((v.hi.toNat:Nat):Int)),(4,[93],0),(2,[79,70],0),(2,plainS v.type,0)] _:=h;obtain ⟨a1,b1,r1,rfl,k1⟩:=h.cons;obtain ⟨a2,b2,r2,rfl,k2⟩:=k1.cons;obtain ⟨a3,b3,r3,rfl,k3⟩:=k2.cons;obtain ⟨a4,b4,r4,rfl,k4⟩:=k3.cons;obtain ⟨a5,b5,r5,rfl,k5⟩:=k4.cons;obtain ⟨a6,b6,r6,rfl,k6⟩:=k5.cons;obtain ⟨a7,b7,r7,rfl,k7⟩:=k6.cons;obtain ⟨a8,b8,r8,rfl,k8⟩:=k7.cons;obtain rfl:=k8.nil;have hs:simpleT (⟨2,plainS v.type,0,a8,b8⟩::⟨4,[59],0,ln,cl⟩::q)=v.type:=simple_of v.type h1 rfl;have h0:v.type≠0:=by omega
  refine ⟨⟨4,[59],0,ln,cl⟩::q,?_,fun t0=>?_⟩
  ·unfold typeP
   rw [if_neg (show ¬ simpleT _≠0 from fun e=>e (by unfold simpleT;rw [txt_sign (Or.inl rfl)];decide)),txt_sign (Or.inl rfl),if_pos rfl,List.drop_one,List.tail_cons];refine Give.bind (need_give (Or.inr rfl)) (fun _ _=>?_);rw [want_sign];refine Give.bind (Q:=fun t=>t.n=v.lo) (q:=_) ⟨(by show ((v.lo.toNat:Nat):Int)=v.lo;omega),rfl⟩ (fun t ht=>?_);refine Give.bind (need_give (Or.inr rfl)) (fun _ _=>?_);rw [want_sign];refine Give.bind (Q:=fun t=>t.n=v.hi) (q:=_) ⟨(by show ((v.hi.toNat:Nat):Int)=v.hi;omega),rfl⟩ (fun t2 ht2=>?_);rw [if_neg (by omega)];refine Give.bind (need_give (Or.inr rfl)) (fun _ _=>?_);refine Give.bind (need_give (Or.inl rfl)) (fun _ _=>?_);rw [hs,if_pos h0,List.drop_one,List.tail_cons];exact ⟨by rw [ha,ht,ht2],rfl⟩
  ·rw [txt_sign (Or.inr rfl),if_neg (by decide)]
   exact ⟨h5.symm,rfl⟩
 ·rw [if_neg ha] at h hv
  have ha':v.array=false:=by simpa using ha
  by_cases h0:v.lo≠0∨v.hi≠0
  ·rw [if_pos h0] at hv;cases hv
  ·rw [if_neg h0] at hv
   have e1:v.lo=0:=by omega
   have e2:v.hi=0:=by omega
   by_cases t1:v.type=1
   ·rw [if_pos t1] at h hv
    replace h:Rw r ((2,plainS v.type,0)::(4,[58,61],0)::sgs (numI v.init)) _:=h;obtain ⟨a1,b1,r1,rfl,k1⟩:=h.cons;obtain ⟨a2,b2,r2,rfl,k2⟩:=k1.cons;have hs:simpleT (⟨2,plainS v.type,0,a1,b1⟩::⟨4,[58,61],0,a2,b2⟩::r2)=v.type:=simple_of v.type (Or.inl t1) rfl;refine ⟨⟨4,[58,61],0,a2,b2⟩::r2,?_,fun t0=>?_⟩
    ·unfold typeP
     rw [hs,if_pos (by omega),List.drop_one,List.tail_cons];exact ⟨by rw [ha',e1,e2],rfl⟩
    ·rw [txt_sign (Or.inr rfl),if_pos rfl,List.drop_one,List.tail_cons]
     refine Give.bind (Q:=fun z=>z=(false,v.init)) (q:=⟨4,[59],0,ln,cl⟩::q) ?_ (fun z hz=>?_)
     ·have hh:=num_hd k2
      have hn:txt r2≠[84,82,85,69]∧txt r2≠[70,65,76,83,69]:=by
       rcases hh with hh|hh
       ·have:txt r2=[]:=by
         cases r2 with
         | nil=>rfl
         | cons t r2=>
          unfold txt;have:t.kind=3:=hh;exact if_neg (by show ¬ (t.kind=2∨t.kind=4);omega)
        rw [this];decide
       ·rw [hh]
        decide
      unfold valueP;rw [if_neg hn.1,if_neg hn.2];refine Give.bind (int_num k2) (fun n hn=>?_);exact ⟨by rw [hn],rfl⟩
     ·rw [if_neg (by rw [hz,ha',t1];simp)]
      exact ⟨by rw [hz],rfl⟩
   ·rw [if_neg t1] at h hv
    by_cases t2:v.type=2
    ·rw [if_pos t2] at h hv
     replace h:Rw r [(2,plainS v.type,0),(4,[58,61],0),(2,truthS v.init,0)] _:=h;obtain ⟨a1,b1,r1,rfl,k1⟩:=h.cons;obtain ⟨a2,b2,r2,rfl,k2⟩:=k1.cons;obtain ⟨a3,b3,r3,rfl,k3⟩:=k2.cons;obtain rfl:=k3.nil;have hs:simpleT (⟨2,plainS v.type,0,a1,b1⟩::⟨4,[58,61],0,a2,b2⟩::⟨2,truthS v.init,0,a3,b3⟩::⟨4,[59],0,ln,cl⟩::q)=v.type:=simple_of v.type (Or.inr t2) rfl;refine ⟨⟨4,[58,61],0,a2,b2⟩::⟨2,truthS v.init,0,a3,b3⟩::⟨4,[59],0,ln,cl⟩::q,?_,fun t0=>?_⟩
     ·unfold typeP
      rw [hs,if_pos (by omega),List.drop_one,List.tail_cons];exact ⟨by rw [ha',e1,e2],rfl⟩
     ·rw [txt_sign (Or.inr rfl),if_pos rfl,List.drop_one,List.tail_cons]
      have hi:v.init=0∨v.init=1:=by simpa using hv
      refine Give.bind (Q:=fun z=>z=(true,v.init)) (q:=⟨4,[59],0,ln,cl⟩::q) ?_ (fun z hz=>?_)
      ·unfold valueP
       rcases hi with hi|hi
       ·rw [hi,txt_sign (Or.inl rfl),if_neg (by decide),if_pos (by decide)]
        exact ⟨rfl,rfl⟩
       ·rw [hi,txt_sign (Or.inl rfl),if_pos (by decide)]
        exact ⟨rfl,rfl⟩
      ·rw [if_neg (by rw [hz,ha',t2];simp)]
       exact ⟨by rw [hz],rfl⟩
    ·rw [if_neg t2] at h hv
     rw [Bool.and_eq_true] at hv;obtain ⟨g1,g2,g3⟩:=kind_of hv.1;have hi:v.init=0:=by simpa using hv.2
     replace h:Rw r [(1,kindS v.type,0)] _:=h;obtain ⟨a1,b1,r1,rfl,k1⟩:=h.cons;obtain rfl:=k1.nil;refine ⟨⟨4,[59],0,ln,cl⟩::q,?_,fun t0=>?_⟩
     ·unfold typeP
      rw [if_neg (show ¬ simpleT _≠0 from fun e=>e (by unfold simpleT;rw [txt_none (Or.inl rfl)];decide)),txt_none (Or.inl rfl),if_neg (by decide),want_sign];refine Give.bind (Q:=fun t=>t.text=kindS v.type) (q:=_) ⟨rfl,rfl⟩ (fun t ht=>?_);rw [ht,g1,if_neg g2];exact ⟨by rw [ha',e1,e2],rfl⟩
     ·rw [txt_sign (Or.inr rfl),if_neg (by decide)]
      exact ⟨hi.symm,rfl⟩
theorem line_p {dp:Prop} {v:Va} (hv:vaB v=true) {f:Nat} {vs:List Va} (hl:vs.length+1≤64) {r q:Sg} (h:Rw r ((1,v.name,0)::(4,[58],0)::(sgs (typeI v)++[(4,[59],0)])) q) :
  Give dp (fun X=>∃ v',X=vs++[v']∧vaSame v v'=true) q (lineP f v.sect r vs):=by
 unfold vaB at hv;simp only [Bool.and_eq_true] at hv;obtain ⟨h1,h2,h3⟩:=hv;obtain ⟨a1,b1,r1,rfl,k1⟩:=h.cons;obtain ⟨a2,b2,r2,rfl,k2⟩:=k1.cons;obtain ⟨m,k3,k4⟩:=k2.app;obtain ⟨a3,b3,r3,rfl,k5⟩:=k4.cons;obtain rfl:=k5.nil;obtain ⟨m2,g1,g2⟩:=type_p (dp:=dp) h3 k3;unfold lineP;refine Give.bind (names_p hl f) ?_;rintro ns ⟨l,c,rfl⟩;refine Give.bind (need_give (Or.inr rfl)) (fun _ _=>?_);refine Give.bind g1 ?_;rintro ty rfl;refine Give.bind (g2 (hd r2)) ?_;rintro init rfl;refine Give.bind (need_give (Or.inr rfl)) (fun _ _=>?_);exact ⟨⟨_,rfl,by simp [vaSame]⟩,rfl⟩
theorem lines_p {dp:Prop} {v:Va} (hv:vaB v=true) {vs:List Va} (hl:vs.length+1≤64) {r q:Sg} (h:Rw r ((1,v.name,0)::(4,[58],0)::(sgs (typeI v)++[(4,[59],0),(2,[69,78,68,95,86,65,82],0)])) q) :
  ∀ f,Give dp (fun X=>∃ v',X=vs++[v']∧vaSame v v'=true) q (linesF f v.sect r vs)
 | 0=>by rw [linesF];exact Or.inl rfl
 | f+1=>by
  have h':Rw r (((1,v.name,0)::(4,[58],0)::(sgs (typeI v)++[(4,[59],0)]))++[(2,[69,78,68,95,86,65,82],0)]) q:=by simpa using h
  obtain ⟨m,k1,k2⟩:=h'.app;obtain ⟨a1,b1,r1,rfl,k3⟩:=k2.cons;obtain rfl:=k3.nil;have hL:=line_p (dp:=dp) hv (f:=f) hl k1;obtain ⟨a2,b2,r2,rfl,-⟩:=k1.cons;rw [linesF,txt_none (Or.inl rfl),if_neg (by decide)];refine Give.bind hL (fun X hX=>?_);cases f with
  | zero=>rw [linesF];exact Or.inl rfl
  | succ f=>
   rw [linesF,txt_sign (Or.inl rfl),if_pos rfl];exact ⟨hX,rfl⟩
theorem sects_p {dp:Prop} {q:Sg} (hq:txt q≠[86,65,82,95,73,78,80,85,84]∧txt q≠[86,65,82,95,79,85,84,80,85,84]∧txt q≠[86,65,82]):∀ (f:Nat) (vl vs:List Va) (r:Sg),vl.all vaB=true→vs.length+vl.length≤64→Rw r (sgs (vasI vl)) q →
  Give dp (fun X=>∃ l',X=vs++l'∧vasSame vl l'=true) q (sectsF f r vs)
 | 0,_,_,_,_,_,_=>by rw [sectsF];exact Or.inl rfl
 | f+1,[],vs,r,_,_,h=>by
  rw [vasI] at h;obtain rfl:=Rw.nil h;rw [sectsF,if_neg hq.1,if_neg hq.2.1,if_neg hq.2.2];exact ⟨⟨[],by simp,by simp [vasSame]⟩,rfl⟩
 | f+1,v::vl,vs,r,hv,hl,h=>by
  rw [List.all_cons,Bool.and_eq_true] at hv;rw [List.length_cons] at hl;rw [vasI,sgs_append] at h;obtain ⟨m,k1,k2⟩:=h.app;have e:sgs (vaI v)=(2,secS v.sect,0)::((1,v.name,0)::(4,[58],0)::(sgs (typeI v)++[(4,[59],0),(2,[69,78,68,95,86,65,82],0)])):=by
   show (2,secS v.sect,0)::(1,v.name,0)::(4,[58],0)::sgs (typeI v++[siI 59,.gap 10,wdI [69,78,68,95,86,65,82],.gap 10])=_
   rw [sgs_append];rfl
  rw [e] at k1;obtain ⟨a1,b1,r1,rfl,k3⟩:=k1.cons;have hL:=lines_p (dp:=dp) hv.1 (vs:=vs) (by omega) k3 f;have next:∀ X,(∃ v',X=vs++[v']∧vaSame v v'=true)→Give dp (fun X=>∃ l',X=vs++l'∧vasSame (v::vl) l'=true) q (sectsF f m X):=by
   rintro X ⟨v',rfl,hs⟩;refine (sects_p hq f vl (vs++[v']) m hv.2 (by rw [List.length_append];simp only [List.length_cons,List.length_nil];omega) k2).mono id ?_;rintro Y ⟨l',rfl,hs2⟩;exact ⟨v'::l',by simp,by rw [vasSame,hs,hs2];rfl⟩
  have hv1:=hv.1;unfold vaB at hv1;simp only [Bool.and_eq_true,Bool.or_eq_true,beq_iff_eq] at hv1;rw [sectsF,txt_sign (Or.inl rfl),List.drop_one,List.tail_cons];rcases hv1.2.1 with hs|hs|hs
  ·rw [hs] at hL ⊢
   rw [if_neg (by decide),if_neg (by decide),if_pos (by decide)];exact Give.bind hL next
  ·rw [hs] at hL ⊢
   rw [if_pos (by decide)];exact Give.bind hL next
  ·rw [hs] at hL ⊢
   rw [if_neg (by decide),if_pos (by decide)];exact Give.bind hL next
theorem prog_p {p:Pg} (hb:pgB p=true) {e:Tk} (he:e.kind=0) {r:Sg} (h:Rw r (sgs (pgI p)) [e]) (f:Nat):Give (32<dpSs p.body) (fun p'=>pgSame p p'=true) [e] (progP f r):=by
 unfold pgB at hb;simp only [Bool.and_eq_true,decide_eq_true_eq] at hb;obtain ⟨h1,h2,h3,h4⟩:=hb;have e0:sgs (pgI p)=(2,[80,82,79,71,82,65,77],0)::(1,p.name,0)::(sgs (vasI p.vars)++(sgs (stsI p.body)++[(2,[69,78,68,95,80,82,79,71,82,65,77],0)])):=by
  show (2,[80,82,79,71,82,65,77],0)::(1,p.name,0)::sgs (vasI p.vars++(stsI p.body++[wdI [69,78,68,95,80,82,79,71,82,65,77],.gap 10]))=_
  rw [sgs_append,sgs_append];rfl
 rw [e0] at h;obtain ⟨a1,b1,r1,rfl,k1⟩:=h.cons;obtain ⟨a2,b2,r2,rfl,k2⟩:=k1.cons;obtain ⟨m,k3,k4⟩:=k2.app;obtain ⟨m2,k5,k6⟩:=k4.app;obtain ⟨a3,b3,r3,rfl,k7⟩:=k6.cons;obtain rfl:=k7.nil;have hm:txt m≠[86,65,82,95,73,78,80,85,84]∧txt m≠[86,65,82,95,79,85,84,80,85,84]∧txt m≠[86,65,82]:=by
  cases hB:p.body with
  | nil=>
   rw [hB,stsI] at k5;obtain rfl:=Rw.nil k5;rw [txt_sign (Or.inl rfl)];decide
  | cons x l=>
   rw [hB,stsI,sgs_append] at k5;rw [hB,stsB,Bool.and_eq_true] at h4;obtain ⟨m3,k8,-⟩:=k5.app;have:=(st_hd h4.1 k8).1;simp only [Hds,List.mem_cons,List.not_mem_nil,or_false] at this;rcases this with h|h|h|h|h|h|h|h<;>rw [h]<;>decide
 unfold progP;refine Give.bind (need_give (Or.inl rfl)) (fun _ _=>?_);rw [want_sign];refine Give.bind (Q:=fun t=>t.text=p.name) (q:=_) ⟨rfl,rfl⟩ (fun t ht=>?_);refine Give.bind (sects_p hm f p.vars [] r2 h3 (by simpa using h2) k3) ?_;rintro vs ⟨vs',rfl,hvs⟩;refine Give.bind ((stmts_p (parse_s_all (SizeOf.sizeOf p.body)) (d:=0) (ends:=[[69,78,68,95,80,82,79,71,82,65,77]]) (by decide) (one_end (by decide)) p.body (Nat.le_refl _) h4 m k5 f []).mono (by omega) (fun x hx=>hx)) ?_;rintro b ⟨b',rfl,hbs⟩;refine Give.bind (need_give (Or.inl rfl)) (fun _ _=>?_);rw [if_pos (show (hd [e]).kind=0 from he)];exact ⟨by show (p.name==t.text&&(vasSame p.vars vs&&stsSame p.body b))=true;rw [hvs,hbs,ht];simp,rfl⟩
theorem parse_pg {p:Pg} (hb:pgB p=true) (hi:inP p) (hs:(pgS p).length≤16384):((parse (pgS p)).2.1=0∧pgSame p (parse (pgS p)).1=true)∨((parse (pgS p)).2.1=13∧32<dpSs p.body):=by
 obtain ⟨M,e,hl,hM,he,-,-⟩:=lex_pg hb hi hs;have hp:=prog_p hb he (r:=M++[e]) ⟨M,rfl,hM⟩ (20*(M++[e]).length+20);have hf:=fin_prog (f:=20*(M++[e]).length+20) (r:=M++[e]) (Nat.le_refl _);unfold parse;rw [hl,if_pos rfl]
 show (_∧_)∨_
 simp only;generalize progP (20*(M++[e]).length+20) (M++[e])=R at hp hf ⊢;cases R with
 | ok q r=>exact Or.inl ⟨rfl,hp.1⟩
 | bad n t=>
  rcases hp with h|h
  ·exact absurd h hf
  ·exact Or.inr h
mutual
def zX (m:Int):Ex→Int×Int
 | .mk _ _ _ _ sub _=>zL m 0 0 sub
def zL (m n d:Int):List Ex→Int×Int
 | []=>(n,d)
 | x::l=>if n≤m then zL m (n+((zX (m-n) x).1+1)) (max d ((zX (m-n) x).2+1)) l else (n,d)
end
def zc (m n d:Int):List (List Ex)→Int×Int
 | []=>(n,d)
 | x::l=>zc m (n+(zL (m-n) 0 0 x).1) (max d ((zL (m-n) 0 0 x).2+1)) l
def wc:List (List Ex)→Nat
 | []=>0
 | x::l=>wsE x+wc l
section
variable {ops:Array Oper} {rest:List Oper} {op:Oper} {a:Act} {w:World} {Q:Exit→Act→World→Prop}
end

section
variable {P:Program} {ops:Array Oper} {rest:List Oper} {op:Oper} {a:Act} {w:World} {Q:Exit→Act→World→Prop}
end


theorem slC_len (s:Sl):(slC s).length=1:=rfl


end sh
end Go.Proofs.YtdefgghhkknnpaaGreatDoor

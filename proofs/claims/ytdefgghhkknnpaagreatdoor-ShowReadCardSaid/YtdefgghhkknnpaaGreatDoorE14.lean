/- The parser over an expression's signs. Condition: an expression such as a text could give. The parser over numbers, labels and arguments. Condition: a row that begins with their signs. The parser over rows of statements: what a statement begins with, how deep it goes, blocks. Condition: statements such as a text could give. The parser over a statement's signs. Condition: a statement such as a text could give. -/
import Derived.Test.YtdefgghhkknnpaaGreatDoorE13
set_option linter.unusedVariables false
set_option linter.unusedSimpArgs false
set_option maxRecDepth 100000
set_option maxHeartbeats 40000000
namespace Go.Proofs.YtdefgghhkknnpaaGreatDoor
namespace sh
open ChangeShapes WideShapes ChangeAt RowKit k rr tk tr
theorem un_paren {dp:Prop} {Q:Ex→Prop} {d ln cl ln1 cl1:Nat} {r1 q:Sg} (h:∀ f,Give dp Q (⟨4,[41],0,ln1,cl1⟩::q) (exprF f (d+1) 1 r1)) (hd0:32<d+1→dp):∀ f,Give dp Q q (unaryF f d (⟨4,[40],0,ln,cl⟩::r1))
 | 0=>by rw [unaryF];exact Or.inl rfl
 | f+1=>by
  rw [unaryF,txt_sign (Or.inr rfl),if_neg (by decide),if_neg (show ¬ (hd (⟨4,[40],0,ln,cl⟩::r1)).kind=3 from (by decide:¬ (4:Int)=3)),if_neg (by decide),if_neg (by decide),if_pos rfl];by_cases hb:32<d+1
  ·rw [if_pos hb];exact Or.inr ⟨rfl,hd0 hb⟩
  ·rw [if_neg hb,List.drop_one,List.tail_cons]
   refine Give.bind (h f) (fun x hx=>?_);rw [need_sign (Or.inr rfl)];exact ⟨hx,rfl⟩
theorem un_pre {dp:Prop} {Q Q':Ex→Prop} {k:Int} {t:Str} {d ln cl:Nat} {r1 q:Sg} (hk:k=2∨k=4) (ht:t=[45]∨t=[78,79,84]) (h:∀ f,Give dp Q q (unaryF f (d+1) r1)) (hd0:32<d+1→dp) (hq:∀ x,Q x→Q' (.mk (if t=[45] then 6 else 7) 0 [] [] [x] ln)):∀ f,Give dp Q' q (unaryF f d (⟨k,t,0,ln,cl⟩::r1))
 | 0=>by rw [unaryF];exact Or.inl rfl
 | f+1=>by
  rw [unaryF,txt_sign hk,if_pos ht];by_cases hb:32<d+1
  ·rw [if_pos hb];exact Or.inr ⟨rfl,hd0 hb⟩
  ·rw [if_neg hb,List.drop_one,List.tail_cons]
   exact Give.bind (h f) (fun x hx=>⟨hq x hx,rfl⟩)
def PaE (N:Nat):Prop:=∀ e:Ex,SizeOf.sizeOf e<N→exB e=true→∀ (d lv:Nat) (r q:Sg),1≤lv→lv≤7→Rw r (sgs (exI e)) q→Nx lv q→∀ f,Give (32<d+dpE e) (fun e'=>exSame e e'=true) q (exprF f d lv r)
theorem nx_sign {k n:Int} {t:Str} {ln cl:Nat} {r:Sg} (lv:Nat) (h:k=2∨k=4) (ht:∀ l,lv≤l→opOf l t=0) (h1:t≠[91]) (h2:t≠[46]):Nx lv (⟨k,t,n,ln,cl⟩::r):=
 ⟨fun l hl=>by rw [txt_sign h];exact ht l hl,by rw [txt_sign h];exact h1,by rw [txt_sign h];exact h2⟩
theorem parse_e_step {N:Nat} (IH:PaE N):PaE (N+1):=by
 intro e hN h d lv r q h1 h7 hr hq;suffices hu:∀ f,Give (32<d+dpE e) (fun e'=>exSame e e'=true) q (unaryF f d r) from climb hu (7-lv) lv (by omega) hq.1
 obtain ⟨op,n,nm,fd,sub,ln⟩:=e;simp only [Ex.mk.sizeOf_spec] at hN;rw [exB,Bool.and_eq_true] at h;obtain ⟨h9,hsb⟩:=h;unfold exOk at h9;simp only [Bool.and_eq_true,decide_eq_true_eq,beq_iff_eq] at h9;obtain ⟨⟨ho1,ho2⟩,hn1,hn2,hnm,hfd,hk⟩:=h9;rw [exI] at hr;rcases (show op=1∨op=2∨op=3∨op=4∨op=5∨op=6∨op=7∨8≤op by omega) with rfl|rfl|rfl|rfl|rfl|rfl|rfl|h8
 ·obtain rfl:sub=[]:=List.eq_nil_of_length_eq_zero hk
  obtain rfl:nm=[]:=by simpa [namedE,nameB] using hnm
  obtain rfl:fd=[]:=by simpa [fieldE,nameB] using hfd
  exact un_num hn1 hr
 ·obtain rfl:sub=[]:=List.eq_nil_of_length_eq_zero hk
  obtain rfl:nm=[]:=by simpa [namedE,nameB] using hnm
  obtain rfl:fd=[]:=by simpa [fieldE,nameB] using hfd
  exact un_truth hn1 hn2 hr
 ·obtain rfl:sub=[]:=List.eq_nil_of_length_eq_zero hk
  obtain rfl:fd=[]:=by simpa [fieldE,nameB] using hfd
  obtain rfl:n=0:=by have:n≤0:=hn2;omega
  exact un_name hq hr
 ·obtain ⟨y,rfl⟩:=one_of (show sub.length=1 from hk)
  obtain rfl:fd=[]:=by simpa [fieldE,nameB] using hfd
  obtain rfl:n=0:=by have:n≤0:=hn2;omega
  rw [exsB,Bool.and_eq_true] at hsb;replace hr:Rw r ((1,nm,0)::(4,[91],0)::sgs (exI y++[.sg 4 [93] 0])) q:=hr;obtain ⟨a1,a2,r1,rfl,hr1⟩:=hr.cons;obtain ⟨a3,a4,r2,rfl,hr2⟩:=hr1.cons;rw [sgs_append] at hr2;obtain ⟨m,hm,hr3⟩:=hr2.app;obtain ⟨a5,a6,r3,rfl,hr4⟩:=hr3.cons;obtain rfl:=hr4.nil;have hy:=IH y (by simp only [List.cons.sizeOf_spec] at hN;omega) hsb.1 (d+1) 1 r2 _ (by omega) (by omega) hm (nx_sign 1 (Or.inr rfl) (fun l _=>noop_of (by decide) l) (by decide) (by decide));have hdp:dpE (.mk 4 0 nm [] [y] ln)=1+dpE y:=by rw [dpE,if_pos rfl,dpEs,dpEs,Nat.max_zero]
  refine un_want fun f=>?_
  rw [txt_sign (Or.inr rfl),if_pos rfl];cases f with
  | zero=>rw [indexF];exact Or.inl rfl
  | succ f=>
   rw [indexF];by_cases hb:32<d+1
   ·rw [if_pos hb];exact Or.inr ⟨rfl,by rw [hdp];omega⟩
   ·rw [if_neg hb,List.drop_one,List.tail_cons]
    refine Give.bind (Q:=fun x=>exSame y x=true) (Give.bind ((hy f).mono (by rw [hdp];omega) (fun x hx=>hx)) (fun x hx=>by rw [need_sign (Or.inr rfl)];exact ⟨hx,rfl⟩)) (fun x hx=>⟨by simp [exSame,exsSame,hx],rfl⟩)
 ·obtain rfl:sub=[]:=List.eq_nil_of_length_eq_zero hk
  obtain rfl:n=0:=by have:n≤0:=hn2;omega
  exact un_field hr
 ·obtain ⟨y,rfl⟩:=one_of (show sub.length=1 from hk)
  obtain rfl:nm=[]:=by simpa [namedE,nameB] using hnm
  obtain rfl:fd=[]:=by simpa [fieldE,nameB] using hfd
  obtain rfl:n=0:=by have:n≤0:=hn2;omega
  rw [exsB,Bool.and_eq_true] at hsb;replace hr:Rw r ((4,[40],0)::(4,[45],0)::sgs (exI y++[.sg 4 [41] 0])) q:=hr;obtain ⟨a1,a2,r1,rfl,hr1⟩:=hr.cons;obtain ⟨a3,a4,r2,rfl,hr2⟩:=hr1.cons;rw [sgs_append] at hr2;obtain ⟨m,hm,hr3⟩:=hr2.app;obtain ⟨a5,a6,r3,rfl,hr4⟩:=hr3.cons;obtain rfl:=hr4.nil;have hdp:dpE (.mk 6 0 [] [] [y] ln)=2+dpE y:=by rw [dpE,if_neg (by decide),if_pos (Or.inl rfl),dpEs,dpEs,Nat.max_zero]
  rw [hdp];have hy:∀ f,Give (32<d+(2+dpE y)) (fun e'=>exSame y e'=true) (⟨4,[41],0,a5,a6⟩::r3) (unaryF f (d+1+1) r2):=fun f=>by
   have:=IH y (by simp only [List.cons.sizeOf_spec] at hN;omega) hsb.1 (d+1+1) 7 r2 _ (by omega) (by omega) hm (nx_sign 7 (Or.inr rfl) (fun l _=>noop_of (by decide) l) (by decide) (by decide)) (f+1);rw [exprF,if_pos rfl] at this;exact this.mono (by omega) (fun x hx=>hx)
  refine un_paren (climb (un_pre (Q':=fun e'=>exSame (.mk 6 0 [] [] [y] ln) e'=true) (Or.inr rfl) (Or.inl rfl) hy (by omega) (fun x hx=>by simp [exSame,exsSame,hx])) 6 1 (by omega) (nx_sign 1 (Or.inr rfl) (fun l _=>noop_of (by decide) l) (by decide) (by decide)).1) (by omega)
 ·obtain ⟨y,rfl⟩:=one_of (show sub.length=1 from hk)
  obtain rfl:nm=[]:=by simpa [namedE,nameB] using hnm
  obtain rfl:fd=[]:=by simpa [fieldE,nameB] using hfd
  obtain rfl:n=0:=by have:n≤0:=hn2;omega
  rw [exsB,Bool.and_eq_true] at hsb;replace hr:Rw r ((4,[40],0)::(2,[78,79,84],0)::sgs (exI y++[.sg 4 [41] 0])) q:=hr;obtain ⟨a1,a2,r1,rfl,hr1⟩:=hr.cons;obtain ⟨a3,a4,r2,rfl,hr2⟩:=hr1.cons;rw [sgs_append] at hr2;obtain ⟨m,hm,hr3⟩:=hr2.app;obtain ⟨a5,a6,r3,rfl,hr4⟩:=hr3.cons;obtain rfl:=hr4.nil;have hdp:dpE (.mk 7 0 [] [] [y] ln)=2+dpE y:=by rw [dpE,if_neg (by decide),if_pos (Or.inr rfl),dpEs,dpEs,Nat.max_zero]
  rw [hdp];have hy:∀ f,Give (32<d+(2+dpE y)) (fun e'=>exSame y e'=true) (⟨4,[41],0,a5,a6⟩::r3) (unaryF f (d+1+1) r2):=fun f=>by
   have:=IH y (by simp only [List.cons.sizeOf_spec] at hN;omega) hsb.1 (d+1+1) 7 r2 _ (by omega) (by omega) hm (nx_sign 7 (Or.inr rfl) (fun l _=>noop_of (by decide) l) (by decide) (by decide)) (f+1);rw [exprF,if_pos rfl] at this;exact this.mono (by omega) (fun x hx=>hx)
  refine un_paren (climb (un_pre (Q':=fun e'=>exSame (.mk 7 0 [] [] [y] ln) e'=true) (Or.inl rfl) (Or.inr rfl) hy (by omega) (fun x hx=>by simp [exSame,exsSame,hx])) 6 1 (by omega) (nx_sign 1 (Or.inr rfl) (fun l _=>noop_of (by decide) l) (by decide) (by decide)).1) (by omega)
 ·obtain ⟨y,z,rfl⟩:=two_of (show sub.length=2 from hk.trans (subs_e8 h8))
  have g1:namedE op=false:=by unfold namedE;simp;omega
  have g2:fieldE op=false:=by unfold fieldE;simp;omega
  rw [g1] at hnm;rw [g2] at hfd;obtain rfl:nm=[]:=by simpa [nameB] using hnm
  obtain rfl:fd=[]:=by simpa [nameB] using hfd
  unfold mostE at hn2;rw [if_neg (by omega),if_neg (by omega)] at hn2;obtain rfl:n=0:=by omega
  rw [exsB,exsB,Bool.and_eq_true,Bool.and_eq_true] at hsb;have e:exIt op 0 [] [] (exsI [y,z])=siI 40::(exI y++(.gap 32::opI op::.gap 32::(exI z++[siI 41]))):=by
   unfold exIt;rw [if_neg (by omega),if_neg (by omega),if_neg (by omega),if_neg (by omega),if_neg (by omega),if_neg (by omega),if_neg (by omega)];rfl
  rw [e] at hr;replace hr:Rw r ((4,[40],0)::sgs (exI y++(.gap 32::opI op::.gap 32::(exI z++[siI 41])))) q:=hr;obtain ⟨a1,a2,r1,rfl,hr1⟩:=hr.cons;rw [sgs_append] at hr1;obtain ⟨m,hm,hr2⟩:=hr1.app;obtain ⟨k,hkk⟩:∃ k:Int,(if op=12∨op=19∨op=20∨op=21 then 2 else 4)=k:=⟨_,rfl⟩;have hk2:k=2∨k=4:=by rw [←hkk];split<;>simp
  replace hr2:Rw m ((k,opS op,0)::sgs (exI z++[.sg 4 [41] 0])) q:=by rw [←hkk];exact hr2
  obtain ⟨a3,a4,m1,rfl,hr3⟩:=hr2.cons;rw [sgs_append] at hr3;obtain ⟨m2,hm2,hr4⟩:=hr3.app;obtain ⟨a5,a6,m3,rfl,hr5⟩:=hr4.cons;obtain rfl:=hr5.nil;obtain ⟨l1,l2,l3,l4⟩:=lev_op h8 ho2;have hdp:dpE (.mk op 0 [] [] [y,z] ln)=1+max (dpE y) (max (dpE z) 0):=by rw [dpE,if_neg (by omega),if_neg (by omega),if_pos h8,dpEs,dpEs,dpEs]
  rw [hdp];have hne:opS op≠[91]∧opS op≠[46]:=by
   rcases (show op=8∨op=9∨op=10∨op=11∨op=12∨op=13∨op=14∨op=15∨op=16∨op=17∨op=18∨op=19∨op=20∨op=21 by omega) with rfl|rfl|rfl|rfl|rfl|rfl|rfl|rfl|rfl|rfl|rfl|rfl|rfl|rfl<;>exact ⟨by decide,by decide⟩
  have ha:∀ f,Give (32<d+(1+max (dpE y) (max (dpE z) 0))) (fun e'=>exSame y e'=true) (⟨k,opS op,0,a3,a4⟩::m1) (exprF f (d+1) (levOf op+1) r1):=fun f=>
   (IH y (by simp only [List.cons.sizeOf_spec] at hN;omega) hsb.1 (d+1) (levOf op+1) r1 _ (by omega) (by omega) hm (nx_sign _ hk2 (fun l hl=>l4 l (by omega)) hne.1 hne.2) f).mono (by omega) (fun x hx=>hx)
  have hb:∀ f,Give (32<d+(1+max (dpE y) (max (dpE z) 0))) (fun e'=>exSame z e'=true) (⟨4,[41],0,a5,a6⟩::m3) (exprF f (d+1) (levOf op+1) m1):=fun f=>
   (IH z (by simp only [List.cons.sizeOf_spec] at hN;omega) hsb.2.1 (d+1) (levOf op+1) m1 _ (by omega) (by omega) hm2 (nx_sign _ (Or.inr rfl) (fun l _=>noop_of (by decide) l) (by decide) (by decide)) f).mono (by omega) (fun x hx=>hx)
  have ho:∀ lvl,NoOp lvl (⟨4,[41],0,a5,a6⟩::m3):=fun lvl=>(nx_sign lvl (Or.inr rfl) (fun l _=>noop_of (by decide) l) (by decide) (by decide)).1
  exact un_paren (climb_from (l0:=levOf op) (by omega) (one_op (Q:=fun e'=>exSame (.mk op 0 [] [] [y,z] ln) e'=true) l2 l3 ha hb (by rw [txt_sign hk2,l1];omega) (ho _) (fun x y' hx hy=>by rw [txt_sign hk2,l1];simp [exSame,exsSame,hx,hy])) (levOf op-1) 1 (by omega) (ho 1)) (by omega)
theorem parse_e_all:∀ N,PaE N
 | 0=>fun _ h=>absurd h (by omega)
 | N+1=>parse_e_step (parse_e_all N)
theorem parse_ex {e:Ex} (h:exB e=true) {d:Nat} {r q:Sg} (hr:Rw r (sgs (exI e)) q) (hq:Nx 1 q) (f:Nat):Give (32<d+dpE e) (fun e'=>exSame e e'=true) q (expr f d r):=
 parse_e_all (SizeOf.sizeOf e+1) e (by omega) h d 1 r q (by omega) (by omega) hr hq f
theorem int_num {dp:Prop} {n:Int} {r q:Sg} (h:Rw r (sgs (numI n)) q):Give dp (fun m=>m=n) q (intg r):=by
 unfold numI at h;unfold intg;split at h
 ·replace h:Rw r [(4,[45],0),(3,numS (-n),(((-n).toNat:Nat):Int))] q:=h
  obtain ⟨a1,a2,r1,rfl,h1⟩:=h.cons;obtain ⟨a3,a4,r2,rfl,h2⟩:=h1.cons;obtain rfl:=h2.nil;rw [txt_sign (Or.inr rfl),if_pos rfl,List.drop_one,List.tail_cons,want_sign];exact ⟨by show -(((-n).toNat:Nat):Int)=n;omega,rfl⟩
 ·replace h:Rw r [(3,numS n,((n.toNat:Nat):Int))] q:=h
  obtain ⟨a1,a2,r1,rfl,h1⟩:=h.cons;obtain rfl:=h1.nil;rw [txt_none (Or.inr rfl),if_neg (by decide),want_sign];exact ⟨by show ((n.toNat:Nat):Int)=n;omega,rfl⟩
theorem num_hd {n:Int} {r q:Sg} (h:Rw r (sgs (numI n)) q):(hd r).kind=3∨txt r=[45]:=by
 unfold numI at h;split at h
 ·replace h:Rw r [(4,[45],0),(3,numS (-n),(((-n).toNat:Nat):Int))] q:=h
  obtain ⟨a1,a2,r1,rfl,h1⟩:=h.cons;exact Or.inr rfl
 ·replace h:Rw r [(3,numS n,((n.toNat:Nat):Int))] q:=h
  obtain ⟨a1,a2,r1,rfl,h1⟩:=h.cons;exact Or.inl rfl
def labJ:Bool→List Int→List (Int×Str×Int)
 | m,a::b::l=>(if m=true then [(4,[44],0)] else [])++(sgs (numI a)++((if b=a then [] else (4,[46,46],0)::sgs (numI b))++labJ true l))
 | _,_=>[]
theorem lab_sgs:∀ (l:List Int) (m:Bool),sgs (labI m l)=labJ m l++[(4,[58],0)]
 | [],m=>by cases m<;>rfl
 | [a],m=>by cases m<;>rfl
 | a::b::l,m=>by
  rw [labI,labJ,sgs_append,sgs_append,sgs_append,lab_sgs l true];have h1:sgs (if m=true then [siI 44,.gap 32] else [])=(if m=true then [(4,[44],0)] else []):=by cases m<;>rfl
  have h2:sgs (if b=a then [] else .sg 4 [46,46] 0::numI b)=(if b=a then [] else (4,[46,46],0)::sgs (numI b)):=by
   split<;>rfl
  rw [h1,h2];simp only [List.append_assoc]
theorem lab_next {l:List Int} {r q:Sg} (hq:txt q=[58]) (h:Rw r (labJ true l) q):txt r=[58]∨txt r=[44]:=by
 match l with
 | []=>rw [show r=q from Rw.nil h];exact Or.inl hq
 | [a]=>rw [show r=q from Rw.nil h];exact Or.inl hq
 | a::b::l=>
  rw [labJ,if_pos rfl] at h;obtain ⟨_,_,r1,rfl,_⟩:=Rw.cons (S:=sgs (numI a)++((if b=a then [] else (4,[46,46],0)::sgs (numI b))++labJ true l)) h;exact Or.inr rfl
theorem labels_p {dp:Prop} {q:Sg} (hq:txt q=[58]):∀ (f:Nat) (l acc:List Int) (r:Sg),l.length % 2=0→l≠[]→Rw r (labJ false l) q→Give dp (fun x=>x=acc++l) q (labelsF f r acc)
 | 0,_,_,_,_,_,_=>by rw [labelsF];exact Or.inl rfl
 | f+1,[],_,_,_,h,_=>absurd rfl h
 | f+1,[a],_,_,h,_,_=>by simp at h
 | f+1,a::b::l,acc,r,h2,_,h=>by
  rw [labJ] at h;simp only [Bool.false_eq_true,if_false,List.nil_append] at h;obtain ⟨m1,h1,h3⟩:=h.app;obtain ⟨m2,h4,h5⟩:=h3.app;rw [labelsF];refine Give.bind (int_num h1) (fun x hx=>?_);subst hx;refine Give.bind (Q:=fun c=>c=b) (q:=m2) ?_ (fun c hc=>?_)
  ·by_cases e:b=x
   ·rw [if_pos e] at h4
    obtain rfl:=h4.nil;have hn:=lab_next hq h5;rw [if_neg (by rcases hn with hn|hn<;>rw [hn]<;>decide)];exact ⟨e.symm,rfl⟩
   ·rw [if_neg e] at h4
    obtain ⟨_,_,r1,rfl,h6⟩:=h4.cons;rw [txt_sign (Or.inr rfl),if_pos rfl,List.drop_one,List.tail_cons];exact int_num h6
  ·subst hc
   cases l with
   | nil=>
    obtain rfl:=Rw.nil h5;rw [hq,if_neg (by decide)];exact ⟨rfl,rfl⟩
   | cons y l=>
    cases l with
    | nil=>simp at h2
    | cons z l=>
     rw [labJ,if_pos rfl] at h5;obtain ⟨_,_,r2,rfl,h6⟩:=Rw.cons (S:=sgs (numI y)++((if z=y then [] else (4,[46,46],0)::sgs (numI z))++labJ true l)) h5;rw [txt_sign (Or.inr rfl),if_pos rfl,List.drop_one,List.tail_cons];have:=labels_p (dp:=dp) hq f (y::z::l) (acc++[x,c]) r2 (by simp only [List.length_cons] at h2 ⊢;omega) (by simp) (by rw [labJ];simpa using h6);simpa using this
theorem arg_next {fs:List Str} {C:List (List It)} {r q:Sg} (hq:Nx 1 q) (h:Rw r (sgs (argI true fs C)) q):Nx 1 r:=by
 cases fs with
 | nil=>
  rw [argI] at h;obtain rfl:=Rw.nil h;exact hq
 | cons f fs=>
  rw [argI] at h;obtain ⟨_,_,r1,rfl,_⟩:=Rw.cons (k:=4) (t:=[44]) (n:=0) (S:=sgs ([.gap 32,.sg 1 f 0,.gap 32,.sg 4 [58,61] 0,.gap 32]++C.headD []++argI true fs (C.drop 1))) h;exact nx_sign 1 (Or.inr rfl) (fun l _=>noop_of (by decide) l) (by decide) (by decide)
theorem args_p {d:Nat} {q:Sg} (hq:txt q=[41]) (hk:Nx 1 q):∀ (f:Nat) (fs:List Str) (cs:List Ex) (a1:List Str) (a2:List Ex) (r:Sg),fs≠[]→cs.length=fs.length→exsB cs=true→Rw r (sgs (argI false fs (exsI cs))) q →
  Give (32<d+dpEs cs) (fun x=>x.1=a1++fs∧∃ cs',x.2=a2++cs'∧exsSame cs cs'=true) q (argsF f d r a1 a2)
 | 0,_,_,_,_,_,_,_,_,_=>by rw [argsF];exact Or.inl rfl
 | f+1,[],_,_,_,_,h,_,_,_=>absurd rfl h
 | f+1,n::fs,[],_,_,_,_,h,_,_=>by simp at h
 | f+1,n::fs,x::cs,a1,a2,r,_,hl,hb,h=>by
  rw [exsB,Bool.and_eq_true] at hb;rw [exsI,argI] at h;replace h:Rw r ((1,n,0)::(4,[58,61],0)::sgs (exI x++argI true fs (exsI cs))) q:=h;obtain ⟨_,_,r1,rfl,h1⟩:=h.cons;obtain ⟨_,_,r2,rfl,h2⟩:=h1.cons;rw [sgs_append] at h2;obtain ⟨m,h3,h4⟩:=h2.app;have hd:dpEs (x::cs)=max (dpE x) (dpEs cs):=by rw [dpEs]
  rw [argsF,want_sign];refine Give.bind (Q:=fun t=>t.text=n) (q:=_) ⟨rfl,rfl⟩ (fun t ht=>?_);rw [need_sign (Or.inr rfl)];refine Give.bind (Q:=fun _=>True) (q:=_) ⟨trivial,rfl⟩ (fun _ _=>?_);refine Give.bind ((parse_ex hb.1 h3 (arg_next hk h4) f).mono (by omega) (fun x hx=>hx)) (fun y hy=>?_);cases fs with
  | nil=>
   obtain rfl:cs=[]:=by simpa using hl
   rw [argI] at h4;obtain rfl:=Rw.nil h4;rw [hq,if_neg (by decide)];exact ⟨⟨by rw [ht],[y],rfl,by simp [exsSame,hy]⟩,rfl⟩
  | cons n2 fs=>
   cases cs with
   | nil=>simp at hl
   | cons x2 cs=>
    rw [argI] at h4;replace h4:Rw m ((4,[44],0)::sgs (argI false (n2::fs) (exsI (x2::cs)))) q:=by rw [argI];exact h4
    obtain ⟨_,_,r3,rfl,h5⟩:=h4.cons;rw [txt_sign (Or.inr rfl),if_pos rfl,List.drop_one,List.tail_cons];refine (args_p hq hk f (n2::fs) (x2::cs) (a1++[t.text]) (a2++[y]) r3 (by simp) (by simpa using hl) hb.2 h5).mono (by omega) ?_;rintro z ⟨hz1,cs',hz2,hz3⟩;exact ⟨by rw [hz1,ht];simp,y::cs',by rw [hz2];simp,by rw [exsSame,hy,hz3];rfl⟩
mutual
def dpS:St→Nat
 | .mk _ _ dst val cs _ _ bs _=>1+max (max (dpE dst) (dpE val)) (max (dpEs cs) (dpBs bs))
def dpSs:List St→Nat
 | []=>0
 | x::l=>max (dpS x) (dpSs l)
def dpBs:List (List St)→Nat
 | []=>0
 | b::l=>max (dpSs b) (dpBs l)
end
def Hds:List Str:=[[],[73,70],[67,65,83,69],[70,79,82],[87,72,73,76,69],[82,69,80,69,65,84],[69,88,73,84],[82,69,84,85,82,78]]
theorem st_hd {x:St} (h:stB x=true) {r q:Sg} (hr:Rw r (sgs (stI x)) q):txt r∈Hds∧(hd r).kind≠3:=by
 obtain ⟨op,nm,dst,val,cs,ls,fs,bs,ln⟩:=x;rw [stB_fit] at h;simp only [Bool.and_eq_true] at h;obtain ⟨hin,hnm,hd,hv,hc,hcn,hf,hlb,hbl⟩:=h;unfold inS9 at hin;simp only [Bool.and_eq_true,decide_eq_true_eq] at hin;have key:∀ (k:Int) (t:Str) (n:Int) (S:List (Int×Str×Int)),Rw r ((k,t,n)::S) q→(k=1∨(k=2∧t∈Hds))→txt r∈Hds∧(tr.hd r).kind≠3:=by
  intro k t n S h1 h2;obtain ⟨_,_,r1,rfl,_⟩:=h1.cons;rcases h2 with rfl|⟨rfl,h2⟩
  ·exact ⟨by rw [txt_none (Or.inl rfl)];decide,(by decide:¬ (1:Int)=3)⟩
  ·exact ⟨by rw [txt_sign (Or.inl rfl)];exact h2,(by decide:¬ (2:Int)=3)⟩
 rw [stI] at hr;rcases (show op=1∨op=2∨op=3∨op=4∨op=5∨op=6∨op=7∨op=8∨op=9 by omega) with rfl|rfl|rfl|rfl|rfl|rfl|rfl|rfl|rfl
 ·have hd:placeB dst=true:=hd
  unfold placeB at hd;rw [Bool.and_eq_true] at hd;obtain ⟨o,n,dn,df,sub,dl⟩:=dst;have ho:o=3∨o=4:=by simpa [opE] using hd.1
  rcases ho with rfl|rfl
  ·exact key 1 dn 0 _ hr (Or.inl rfl)
  ·exact key 1 dn 0 _ hr (Or.inl rfl)
 ·cases cs with
  | nil=>exact absurd hcn (by simp [cntB,cntS])
  | cons c cs=>
   exact key 2 [73,70] 0 _ hr (Or.inr ⟨rfl,by decide⟩)
 ·exact key 2 [67,65,83,69] 0 _ hr (Or.inr ⟨rfl,by decide⟩)
 ·exact key 2 [70,79,82] 0 _ hr (Or.inr ⟨rfl,by decide⟩)
 ·exact key 2 [87,72,73,76,69] 0 _ hr (Or.inr ⟨rfl,by decide⟩)
 ·exact key 2 [82,69,80,69,65,84] 0 _ hr (Or.inr ⟨rfl,by decide⟩)
 ·exact key 2 [69,88,73,84] 0 _ hr (Or.inr ⟨rfl,by decide⟩)
 ·exact key 2 [82,69,84,85,82,78] 0 _ hr (Or.inr ⟨rfl,by decide⟩)
 ·exact key 1 nm 0 _ hr (Or.inl rfl)
def EndsB (ends:List Str):Bool:=Hds.all (fun s=>!oneOf s ends)
theorem ends_no {ends:List Str} (h:EndsB ends=true) {s:Str} (hs:s∈Hds):¬ oneOf s ends=true:=by
 unfold EndsB at h;rw [List.all_eq_true] at h;have:=h s hs;simpa using this
def PaS (N:Nat):Prop:=∀ x:St,SizeOf.sizeOf x<N→stB x=true→∀ (d:Nat) (r q:Sg),Rw r (sgs (stI x)) q→∀ f,Give (32<d+dpS x) (fun x'=>stSame x x'=true) q (stmtF f d r)
theorem stmts_p {N:Nat} (IH:PaS N) {ends:List Str} (he:EndsB ends=true) {d:Nat} {q:Sg} (hq:oneOf (txt q) ends=true):∀ (l:List St),SizeOf.sizeOf l≤N→stsB l=true→∀ (r:Sg),Rw r (sgs (stsI l)) q→∀ (f:Nat) (acc:List St),
  Give (32<d+dpSs l) (fun X=>∃ l',X=acc++l'∧stsSame l l'=true) q (stmtsF f d ends r acc)
 | _,_,_,_,_,0,_=>by rw [stmtsF];exact Or.inl rfl
 | [],_,_,r,h,f+1,acc=>by
  rw [stsI] at h;obtain rfl:=Rw.nil h;rw [stmtsF,if_pos hq];exact ⟨⟨[],by simp,by simp [stsSame]⟩,rfl⟩
 | x::l,hN,hb,r,h,f+1,acc=>by
  rw [stsB,Bool.and_eq_true] at hb;rw [stsI,sgs_append] at h;obtain ⟨m,h1,h2⟩:=h.app;have hdp:dpSs (x::l)=max (dpS x) (dpSs l):=by rw [dpSs]
  rw [stmtsF,if_neg (ends_no he (st_hd hb.1 h1).1)];simp only [List.cons.sizeOf_spec] at hN;refine Give.bind ((IH x (by omega) hb.1 d r m h1 f).mono (by omega) (fun y hy=>hy)) (fun y hy=>?_);refine (stmts_p IH he hq l (by omega) hb.2 m h2 f (acc++[y])).mono (by omega) ?_;rintro X ⟨l',rfl,hs⟩;exact ⟨y::l',by simp,by rw [stsSame,hy,hs];rfl⟩
abbrev cEnds:List Str:=[[45],[69,76,83,69],[69,78,68,95,67,65,83,69]]
theorem block_p {N:Nat} (IH:PaS N) {d:Nat} {q:Sg} (hq:(hd q).kind=3∨oneOf (txt q) cEnds=true):∀ (l:List St),SizeOf.sizeOf l≤N→stsB l=true→∀ (r:Sg),Rw r (sgs (stsI l)) q→∀ (f:Nat) (acc:List St),
  Give (32<d+dpSs l) (fun X=>∃ l',X=acc++l'∧stsSame l l'=true) q (blockF f d r acc)
 | _,_,_,_,_,0,_=>by rw [blockF];exact Or.inl rfl
 | [],_,_,r,h,f+1,acc=>by
  rw [stsI] at h;obtain rfl:=Rw.nil h;rw [blockF];rw [if_pos (show (hd r).kind=3∨oneOf (txt r) [[45],[69,76,83,69],[69,78,68,95,67,65,83,69]]=true from hq)];exact ⟨⟨[],by simp,by simp [stsSame]⟩,rfl⟩
 | x::l,hN,hb,r,h,f+1,acc=>by
  rw [stsB,Bool.and_eq_true] at hb;rw [stsI,sgs_append] at h;obtain ⟨m,h1,h2⟩:=h.app;have hdp:dpSs (x::l)=max (dpS x) (dpSs l):=by rw [dpSs]
  have hh:=st_hd hb.1 h1;have hno:¬ ((hd r).kind=3∨oneOf (txt r) [[45],[69,76,83,69],[69,78,68,95,67,65,83,69]]=true):=by
   intro hc;rcases hc with hc|hc
   ·exact hh.2 hc
   ·exact ends_no (ends:=cEnds) (by decide) hh.1 hc
  rw [blockF,if_neg hno];simp only [List.cons.sizeOf_spec] at hN;refine Give.bind ((IH x (by omega) hb.1 d r m h1 f).mono (by omega) (fun y hy=>hy)) (fun y hy=>?_);refine (block_p IH hq l (by omega) hb.2 m h2 f (acc++[y])).mono (by omega) ?_;rintro X ⟨l',rfl,hs⟩;exact ⟨y::l',by simp,by rw [stsSame,hy,hs];rfl⟩
theorem need_give {dp:Prop} {k n:Int} {t:Str} {ln cl:Nat} {r:Sg} (h:k=2∨k=4):Give dp (fun _=>True) r (need t (⟨k,t,n,ln,cl⟩::r)):=by
 rw [need_sign h];exact ⟨trivial,rfl⟩
theorem nx_word {t:Str} {n:Int} {ln cl:Nat} {r:Sg} (ht:t=[84,72,69,78]∨t=[79,70]∨t=[84,79]∨t=[66,89]∨t=[68,79]∨t=[69,78,68,95,82,69,80,69,65,84]):Nx 1 (⟨2,t,n,ln,cl⟩::r):=
 nx_sign 1 (Or.inl rfl) (fun l _=>noop_of (by rcases ht with h|h|h|h|h|h<;>simp [h]) l) (by rcases ht with rfl|rfl|rfl|rfl|rfl|rfl<;>decide) (by rcases ht with rfl|rfl|rfl|rfl|rfl|rfl<;>decide)
theorem one_end {t:Str} {n:Int} {ln cl:Nat} {r:Sg} {ends:List Str} (h:oneOf t ends=true):oneOf (txt (⟨2,t,n,ln,cl⟩::r)) ends=true:=by rw [txt_sign (Or.inl rfl)];exact h
def ifEnds:List Str:=[[69,76,83,73,70],[69,76,83,69],[69,78,68,95,73,70]]
theorem if_p {N:Nat} (IH:PaS N) {d:Nat} {q:Sg}:∀ (f:Nat) (C:List Ex) (B:List (List St)) (c:Ex) (b:List St) (cs:List Ex) (bs:List (List St)) (r:Sg),(B.length=C.length∨B.length=C.length+1)→exsB (c::C)=true→blksB (b::B)=true→SizeOf.sizeOf (b::B)≤N →
  Rw r (sgs (exI c++(.gap 32::wdI [84,72,69,78]::.gap 10::(stsI b++(ifI [69,76,83,73,70] (exsI C) (blksI B)++[wdI [69,78,68,95,73,70]]))))) q →
  Give (32<d+max (dpEs (c::C)) (dpBs (b::B))) (fun g=>∃ cs' bs',(∀ ln,g ln=.mk 2 [] zeroE zeroE (cs++cs') [] [] (bs++bs') ln)∧exsSame (c::C) cs'=true∧blksSame (b::B) bs'=true) q (ifF f d r cs bs)
 | 0,_,_,_,_,_,_,_,_,_,_,_,_=>by rw [ifF];exact Or.inl rfl
 | f+1,C,B,c,b,cs,bs,r,hl,hc,hb,hN,h=>by
  rw [exsB,Bool.and_eq_true] at hc;rw [blksB,Bool.and_eq_true] at hb;have hd1:dpEs (c::C)=max (dpE c) (dpEs C):=by rw [dpEs]
  have hd2:dpBs (b::B)=max (dpSs b) (dpBs B):=by rw [dpBs]
  rw [hd1,hd2];simp only [List.cons.sizeOf_spec] at hN;rw [sgs_append] at h;obtain ⟨m,h1,h2⟩:=h.app;replace h2:Rw m ((2,[84,72,69,78],0)::sgs (stsI b++(ifI [69,76,83,73,70] (exsI C) (blksI B)++[wdI [69,78,68,95,73,70]]))) q:=h2;obtain ⟨_,_,r1,rfl,h3⟩:=h2.cons;rw [sgs_append,sgs_append] at h3;obtain ⟨m2,h4,h5⟩:=h3.app;rw [ifF];refine Give.bind ((parse_ex hc.1 h1 (nx_word (by simp)) f).mono (by omega) (fun x hx=>hx)) (fun x hx=>?_);refine Give.bind (need_give (Or.inl rfl)) (fun _ _=>?_);have hS:oneOf (txt m2) ifEnds=true→Give (32<d+max (max (dpE c) (dpEs C)) (max (dpSs b) (dpBs B))) (fun X=>stsSame b X=true) m2 (stmtsF f d ifEnds r1 []):=fun hm=>
   (stmts_p IH (ends:=ifEnds) (by decide) hm b (by omega) hb.1 r1 h4 f []).mono (by omega) (by rintro X ⟨l',rfl,hs⟩;exact hs)
  cases C with
  | cons c2 C=>
   cases B with
   | nil=>exact absurd hl (by simp)
   | cons b2 B=>
    replace h5:Rw m2 ((2,[69,76,83,73,70],0)::(sgs (exI c2++(.gap 32::wdI [84,72,69,78]::.gap 10::(stsI b2++ifI [69,76,83,73,70] (exsI C) (blksI B))))++sgs [wdI [69,78,68,95,73,70]])) q:=h5;obtain ⟨_,_,r2,rfl,h6⟩:=h5.cons;rw [←sgs_append] at h6;simp only [List.append_assoc,List.cons_append] at h6;refine Give.bind (hS (one_end (by decide))) (fun Y hY=>?_);rw [txt_sign (Or.inl rfl),if_pos rfl,List.drop_one,List.tail_cons];refine (if_p IH f C B c2 b2 (cs++[x]) (bs++[Y]) r2 (by simpa using hl) hc.2 hb.2 (by simp only [List.cons.sizeOf_spec] at hN ⊢;omega) h6).mono (by omega) ?_;rintro g ⟨cs',bs',hg,hs1,hs2⟩;exact ⟨x::cs',Y::bs',fun ln=>by rw [hg];simp,by rw [exsSame,hx,hs1];rfl,by rw [blksSame,hY,hs2];rfl⟩
  | nil=>
   cases B with
   | nil=>
    replace h5:Rw m2 [(2,[69,78,68,95,73,70],0)] q:=h5;obtain ⟨_,_,r2,rfl,h6⟩:=h5.cons;obtain rfl:=h6.nil;refine Give.bind (hS (one_end (by decide))) (fun Y hY=>?_);rw [txt_sign (Or.inl rfl),if_neg (by decide),if_neg (by decide)];refine Give.bind (Q:=fun z=>z=bs++[Y]) ⟨rfl,rfl⟩ (fun z hz=>?_);refine Give.bind (need_give (Or.inl rfl)) (fun _ _=>?_);exact ⟨⟨[x],[Y],fun ln=>by rw [hz],by simp [exsSame,hx],by simp [blksSame,hY]⟩,rfl⟩
   | cons b2 B=>
    obtain rfl:B=[]:=by simpa using hl
    rw [blksB,Bool.and_eq_true] at hb;have hd3:dpBs [b2]=max (dpSs b2) 0:=by rw [dpBs,dpBs]
    rw [←sgs_append] at h5;replace h5:Rw m2 ((2,[69,76,83,69],0)::sgs ((stsI b2++[])++[wdI [69,78,68,95,73,70]])) q:=h5;rw [List.append_nil,sgs_append] at h5;obtain ⟨_,_,r2,rfl,h6⟩:=h5.cons;obtain ⟨m3,h7,h8⟩:=h6.app;replace h8:Rw m3 [(2,[69,78,68,95,73,70],0)] q:=h8;obtain ⟨a8,b8,r3,e8,h9⟩:=h8.cons;obtain rfl:=h9.nil;subst e8;refine Give.bind (hS (one_end (by decide))) (fun Y hY=>?_);rw [txt_sign (Or.inl rfl),if_neg (by decide),if_pos rfl,List.drop_one,List.tail_cons];refine Give.bind (Q:=fun z=>∃ Y2,z=bs++[Y]++[Y2]∧stsSame b2 Y2=true) (q:=⟨2,[69,78,68,95,73,70],0,a8,b8⟩::r3) (Give.bind ((stmts_p IH (ends:=[[69,78,68,95,73,70]]) (by decide) (one_end (by decide)) b2 (by simp only [List.cons.sizeOf_spec] at hN;omega) hb.2.1 r2 h7 f []).mono (by omega) (fun X hX=>hX)) ?_) ?_
    ·rintro X ⟨l',rfl,hs⟩
     exact ⟨⟨_,rfl,hs⟩,rfl⟩
    ·rintro z ⟨Y2,rfl,hs⟩
     refine Give.bind (need_give (Or.inl rfl)) (fun _ _=>?_);exact ⟨⟨[x],[Y,Y2],fun ln=>by simp,by simp [exsSame,hx],by simp [blksSame,hY,hs]⟩,rfl⟩
theorem no_same {e:Ex} (h:noE e=true):exSame e zeroE=true:=by
 obtain ⟨op,n,nm,fd,sub,ln⟩:=e;unfold noE at h;simp only [Bool.and_eq_true,beq_iff_eq] at h;obtain ⟨rfl,rfl,rfl,rfl,h5⟩:=h;obtain rfl:sub=[]:=List.eq_nil_of_length_eq_zero h5;simp [zeroE,exSame,exsSame]
theorem index_p {y:Ex} (hy:exB y=true) {d:Nat} {r q:Sg} (h:Rw r ((4,[91],0)::sgs (exI y++[siI 93])) q) (f:Nat):Give (32<d+(1+dpE y)) (fun x=>exSame y x=true) q (indexF f d r):=by
 obtain ⟨_,_,r1,rfl,h1⟩:=h.cons;rw [sgs_append] at h1;obtain ⟨m,hm,h2⟩:=h1.app;obtain ⟨_,_,r2,rfl,h3⟩:=Rw.cons (k:=4) (t:=[93]) (n:=0) (S:=[]) h2;obtain rfl:=h3.nil;cases f with
 | zero=>rw [indexF];exact Or.inl rfl
 | succ f=>
  rw [indexF];by_cases hb:32<d+1
  ·rw [if_pos hb];exact Or.inr ⟨rfl,by omega⟩
  ·rw [if_neg hb,List.drop_one,List.tail_cons]
   exact Give.bind ((parse_ex hy hm (nx_sign 1 (Or.inr rfl) (fun l _=>noop_of (by decide) l) (by decide) (by decide)) f).mono (by omega) (fun x hx=>hx)) (fun x hx=>by rw [need_sign (Or.inr rfl)];exact ⟨hx,rfl⟩)
theorem lab_ne {l:List Int} (h:labB l=true):l.length % 2=0∧l≠[]:=by
 unfold labB at h;simp only [Bool.and_eq_true,decide_eq_true_eq,beq_iff_eq] at h;exact ⟨h.2.1,fun e=>by rw [e] at h;simp at h⟩
theorem lab_hd {l:List Int} (h:labB l=true) {r q:Sg} (hr:Rw r (labJ false l) q):(hd r).kind=3∨txt r=[45]:=by
 obtain ⟨h1,h2⟩:=lab_ne h
 match l,h1,h2 with
 | a::b::l,_,_=>
  rw [labJ] at hr;simp only [Bool.false_eq_true,if_false,List.nil_append] at hr;obtain ⟨m,h3,_⟩:=hr.app;exact num_hd h3
 | [a],h1,_=>simp at h1
 | [],_,h2=>exact absurd rfl h2
theorem case_end {LS:List (List Int)} {B:List (List St)} (hl:B.length=LS.length∨B.length=LS.length+1) (hlb:LS.all labB=true) {r q:Sg} (h:Rw r (sgs (caseI LS (blksI B)++[wdI [69,78,68,95,67,65,83,69]])) q):(hd r).kind=3∨oneOf (txt r) cEnds=true:=by
 cases LS with
 | nil=>
  cases B with
  | nil=>
   obtain ⟨_,_,r1,rfl,_⟩:=Rw.cons (k:=2) (t:=[69,78,68,95,67,65,83,69]) (n:=0) (S:=[]) h;exact Or.inr (one_end (by decide))
  | cons b B=>
   obtain ⟨_,_,r1,rfl,_⟩:=Rw.cons (k:=2) (t:=[69,76,83,69]) (n:=0) (S:=sgs ((stsI b++elseI (blksI B))++[wdI [69,78,68,95,67,65,83,69]])) h;exact Or.inr (one_end (by decide))
 | cons l LS=>
  rw [List.all_cons,Bool.and_eq_true] at hlb;rw [caseI,List.append_assoc,List.append_assoc,sgs_append,lab_sgs,List.append_assoc] at h;obtain ⟨m,h1,_⟩:=h.app;rcases lab_hd hlb.1 h1 with h2|h2
  ·exact Or.inl h2
  ·exact Or.inr (by rw [h2];decide)
theorem case_p {N:Nat} (IH:PaS N) {d:Nat} {x:Ex} {q:Sg}:∀ (f:Nat) (LS:List (List Int)) (B:List (List St)) (ls:List (List Int)) (bs:List (List St)) (r:Sg),(B.length=LS.length∨B.length=LS.length+1)→LS.all labB=true→blksB B=true→SizeOf.sizeOf B≤N →
  Rw r (sgs (caseI LS (blksI B)++[wdI [69,78,68,95,67,65,83,69]])) q →
  Give (32<d+dpBs B) (fun g=>∃ bs',(∀ ln,g ln=.mk 3 [] zeroE x [] (ls++LS) [] (bs++bs') ln)∧blksSame B bs'=true) q (caseF f d x r ls bs)
 | 0,_,_,_,_,_,_,_,_,_,_=>by rw [caseF];exact Or.inl rfl
 | f+1,l::LS,[],_,_,_,hl,_,_,_,_=>absurd hl (by simp)
 | f+1,[],[],ls,bs,r,hl,hlb,hb,hN,h=>by
  obtain ⟨_,_,r1,rfl,h1⟩:=Rw.cons (k:=2) (t:=[69,78,68,95,67,65,83,69]) (n:=0) (S:=[]) h;obtain rfl:=h1.nil;rw [caseF,txt_sign (Or.inl rfl),if_neg (by
   intro hc;rcases hc with hc|hc
   ·exact absurd (show (2:Int)=3 from hc) (by decide)
   ·exact absurd hc (by decide)),if_neg (by decide)]
  refine Give.bind (Q:=fun z=>z=bs) ⟨rfl,rfl⟩ (fun z hz=>?_);refine Give.bind (need_give (Or.inl rfl)) (fun _ _=>?_);exact ⟨⟨[],fun ln=>by rw [hz];simp,by simp [blksSame]⟩,rfl⟩
 | f+1,[],b::B,ls,bs,r,hl,hlb,hb,hN,h=>by
  obtain rfl:B=[]:=by simpa using hl
  rw [blksB,Bool.and_eq_true] at hb;simp only [List.cons.sizeOf_spec] at hN;have hd3:dpBs [b]=max (dpSs b) 0:=by rw [dpBs,dpBs]
  replace h:Rw r ((2,[69,76,83,69],0)::sgs ((stsI b++[])++[wdI [69,78,68,95,67,65,83,69]])) q:=h;rw [List.append_nil,sgs_append] at h;obtain ⟨_,_,r2,rfl,h6⟩:=h.cons;obtain ⟨m3,h7,h8⟩:=h6.app;obtain ⟨a8,b8,r3,rfl,h9⟩:=Rw.cons (k:=2) (t:=[69,78,68,95,67,65,83,69]) (n:=0) (S:=[]) h8;obtain rfl:=h9.nil;rw [caseF,txt_sign (Or.inl rfl),if_neg (by
   intro hc;rcases hc with hc|hc
   ·exact absurd (show (2:Int)=3 from hc) (by decide)
   ·exact absurd hc (by decide)),if_pos rfl,List.drop_one,List.tail_cons]
  refine Give.bind (Q:=fun z=>∃ Y2,z=bs++[Y2]∧stsSame b Y2=true) (q:=⟨2,[69,78,68,95,67,65,83,69],0,a8,b8⟩::r3) (Give.bind ((stmts_p IH (ends:=[[69,78,68,95,67,65,83,69]]) (by decide) (one_end (by decide)) b (by omega) hb.1 r2 h7 f []).mono (by omega) (fun X hX=>hX)) ?_) ?_
  ·rintro X ⟨l',rfl,hs⟩
   exact ⟨⟨_,rfl,hs⟩,rfl⟩
  ·rintro z ⟨Y2,rfl,hs⟩
   refine Give.bind (need_give (Or.inl rfl)) (fun _ _=>?_);exact ⟨⟨[Y2],fun ln=>by simp,by simp [blksSame,hs]⟩,rfl⟩
 | f+1,l::LS,b::B,ls,bs,r,hl,hlb,hb,hN,h=>by
  rw [List.all_cons,Bool.and_eq_true] at hlb;rw [blksB,Bool.and_eq_true] at hb;simp only [List.cons.sizeOf_spec] at hN;have hd2:dpBs (b::B)=max (dpSs b) (dpBs B):=by rw [dpBs]
  have hl':B.length=LS.length∨B.length=LS.length+1:=by simpa using hl
  rw [caseI,List.append_assoc,List.append_assoc,sgs_append,lab_sgs,List.append_assoc] at h;obtain ⟨m,h1,h2⟩:=h.app;obtain ⟨_,_,r1,rfl,h3⟩:=Rw.cons (k:=4) (t:=[58]) (n:=0) (S:=sgs (stsI b++(caseI LS (blksI B)++[wdI [69,78,68,95,67,65,83,69]]))) h2;rw [sgs_append] at h3;obtain ⟨m3,h4,h5⟩:=h3.app;rw [caseF,if_pos (lab_hd hlb.1 h1)];obtain ⟨e1,e2⟩:=lab_ne hlb.1;refine Give.bind (labels_p (by rw [txt_sign (Or.inr rfl)]) f l [] r e1 e2 h1) (fun z hz=>?_);refine Give.bind (need_give (Or.inr rfl)) (fun _ _=>?_);refine Give.bind ((block_p IH (case_end hl' hlb.2 h5) b (by omega) hb.1 r1 h4 f []).mono (by omega) (fun X hX=>hX)) ?_;rintro Y ⟨l',hY,hs0⟩;have hs:stsSame b Y=true:=by rw [hY];exact hs0
  refine (case_p IH f LS B (ls++[z]) (bs++[Y]) m3 hl' hlb.2 hb.2 (by omega) h5).mono (by omega) ?_;rintro g ⟨bs',hg,hs2⟩;exact ⟨Y::bs',fun ln=>by rw [hg,hz];simp,by rw [blksSame,hs,hs2];rfl⟩
theorem st_wrap {x:St} {d ln cl:Nat} {r q:Sg} (h1:1≤dpS x) (hw:∀ f,Give (32<d+dpS x) (fun g=>∀ ln,stSame x (g ln)=true) (⟨4,[59],0,ln,cl⟩::q) (whatF f (d+1) r)):∀ f,Give (32<d+dpS x) (fun y=>stSame x y=true) q (stmtF f d r)
 | 0=>by rw [stmtF];exact Or.inl rfl
 | f+1=>by
  rw [stmtF];by_cases hb:32<d+1
  ·rw [if_pos hb];exact Or.inr ⟨rfl,by omega⟩
  ·rw [if_neg hb]
   refine Give.bind (hw f) (fun g hg=>?_);refine Give.bind (need_give (Or.inr rfl)) (fun _ _=>?_);exact ⟨hg _,rfl⟩
theorem semi_end {r q:Sg} {S:List (Int×Str×Int)} (h:Rw r (S++[(4,[59],0)]) q):∃ ln cl,Rw r S (⟨4,[59],0,ln,cl⟩::q):=by
 obtain ⟨m,h1,h2⟩:=h.app;obtain ⟨ln,cl,m1,rfl,h3⟩:=h2.cons;obtain rfl:=h3.nil;exact ⟨ln,cl,h1⟩
theorem what_name {dp:Prop} {Q:(Int→St)→Prop} {nm:Str} {ln cl d:Nat} {r1 q:Sg} (h:∀ f,Give dp Q q (if txt r1=[40] then
    if txt (r1.drop 1)=[41] then .ok (fun ln=>.mk 9 nm zeroE zeroE [] [] [] [] ln) (r1.drop 2)
    else (argsF f d (r1.drop 1) [] []).bind fun a r'=>(need [41] r').bind fun _ r'=>.ok (fun ln=>.mk 9 nm zeroE zeroE a.2 [] a.1 [] ln) r'
   else (if txt r1=[91] then (indexF f d r1).bind fun x r'=>.ok (Ex.mk 4 0 nm [] [x] ln) r' else .ok (Ex.mk 3 0 nm [] [] ln) r1).bind fun dst r'=>
    (need [58,61] r').bind fun _ r'=>(expr f d r').bind fun x r'=>.ok (fun ln=>.mk 1 [] dst x [] [] [] [] ln) r')):∀ f,Give dp Q q (whatF f d (⟨1,nm,0,ln,cl⟩::r1))
 | 0=>by rw [whatF];exact Or.inl rfl
 | f+1=>by
  rw [whatF,txt_none (Or.inl rfl),if_neg (by decide),if_neg (by decide),if_neg (by decide),if_neg (by decide),if_neg (by decide),if_neg (by decide),if_neg (by decide),want_sign];exact h f
end sh
end Go.Proofs.YtdefgghhkknnpaaGreatDoor

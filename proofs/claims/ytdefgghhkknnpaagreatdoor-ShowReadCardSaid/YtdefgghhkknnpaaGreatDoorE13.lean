/- Numbers as they stand in a text. No condition but what may follow them. An expression's text as blanks and signs. Condition: an expression such as a text could give. An expression's text: each of its signs stands as it is. Condition: an expression such as a text could give. A statement's and a program's text as blanks and signs. No condition. Labels, arguments, IF and CASE parts: each sign of their text stands as it is. Conditions: as each line says. The document's words for a name: the given functions of names. No condition. The document's words for numbers and shapes: the given functions of them. No condition. The document's words for expressions: the given function of them. No condition. What makes a statement right, as the document's given function asks it. No condition. Statements: each sign of their text stands as it is. Condition: statements such as a text could give. The signs of a program's text. Condition: a program such as a text could give; its text has at most 16384 bytes. Rows of signs that begin as a text's signs do: what the parser's small steps give. No condition. The levels of an expression: up from what stands alone, and over one operation. No condition but what each line says. The parser over an expression's signs. Condition: an expression such as a text could give. The parser over an expression's signs: what stands alone. Condition: an expression such as a text could give. -/
import Derived.Test.YtdefgghhkknnpaaGreatDoorE12
import Derived.Deep.CutBlock
set_option linter.unusedVariables false
set_option linter.unusedSimpArgs false
set_option maxRecDepth 100000
set_option maxHeartbeats 40000000
namespace Go.Proofs.YtdefgghhkknnpaaGreatDoor
namespace sh
open ChangeShapes WideShapes ChangeAt RowKit k rr tk tr
theorem num_no_alpha {c:UInt8} (h:numB c=true):alphaB c=false:=by
 rw [numB_iff] at h;rw [Bool.eq_false_iff,Ne,alphaB_iff];omega
theorem num_body {c:UInt8} (h:numB c=true):bodyB c=true:=by
 unfold bodyB;rw [h];simp
theorem num_past {c:UInt8} {l:Str} (h:numB c=true):past (c::l)=(true,c::l):=by
 have hc:¬ (c=32∨c=10∨c=9)∧(c==47)=false∧(c==40)=false:=by
  refine ⟨?_,?_,?_⟩
  ·rintro (rfl|rfl|rfl)<;>exact absurd h (by decide)
  ·rw [beq_eq_false_iff_ne];rintro rfl;exact absurd h (by decide)
  ·rw [beq_eq_false_iff_ne];rintro rfl;exact absurd h (by decide)
 unfold past;rw [List.length_cons,pastF,if_neg hc.1,two_no hc.2.1,two_no hc.2.2];simp
theorem dig_num {c:UInt8} (h:numB c=true):dig c 10=some (c.toNat-48):=by
 unfold dig;rw [if_pos h];rw [numB_iff] at h;simp only;rw [if_pos (by omega)]
theorem dig_none {c:UInt8} (h:numB c=false):dig c 10=none:=by
 unfold dig;simp only [h,Bool.false_eq_true,if_false];by_cases h2:65≤c∧c≤70
 ·have h3:=UInt8.le_iff_toNat_le.1 h2.1
  have h3:65≤c.toNat:=h3;rw [if_pos h2,if_neg (by omega)]
 ·rw [if_neg h2,if_neg (by decide)]
theorem digs_app:∀ {l r:Str},l.all numB=true→HdNo numB r→digs 10 (l++r)=l.map (fun c=>c.toNat-48)
 | [],[],_,_=>rfl
 | [],c::r,_,hr=>by
  rw [List.nil_append,digs,dig_none (hr c r rfl)];rfl
 | c::l,r,h,hr=>by
  rw [List.all_cons,Bool.and_eq_true] at h;rw [List.cons_append,digs,dig_num h.1];simp only;rw [digs_app h.2 hr,List.map_cons]
theorem ofNat_digit {i:Nat} (h:i<10):(UInt8.ofNat (48+i)).toNat=48+i:=by
 simp;omega
theorem dec_all (u:Nat):(Lib.decDigits u).all numB=true∧val 10 ((Lib.decDigits u).map (fun c=>c.toNat-48))=u∧Lib.decDigits u≠[]:=by
 induction u using Nat.strongRecOn with
 | _ u ih=>
  rw [Lib.decDigits];have hd:∀ i,i<10→numB (UInt8.ofNat (48+i))=true:=fun i hi=>by
   rw [numB_iff,ofNat_digit hi];omega
  split
  ·rename_i h
   refine ⟨by rw [List.all_cons,hd u h];rfl,?_,by simp⟩
   show val 10 [(UInt8.ofNat (48+u)).toNat-48]=u
   rw [ofNat_digit h];simp [val]
  ·rename_i h
   obtain ⟨a,b,c⟩:=ih (u / 10) (by omega);have h10:u % 10<10:=by omega
   refine ⟨by rw [List.all_append,a,List.all_cons,hd _ h10];rfl,?_,by simp⟩;rw [List.map_append];unfold val at b ⊢;rw [List.foldl_append,b]
   show u / 10*10+((UInt8.ofNat (48+u % 10)).toNat-48)=u
   rw [ofNat_digit h10];omega
theorem two35:∀ {l r:Str} {a:UInt8},l.all numB=true→numB a=true→HdNo numB r→HdNo (fun c=>c==35) r→two (l++r) a 35=false
 | [],[],a,_,_,_,_=>rfl
 | [],c::r,a,_,ha,hr,_=>two_no (by
   rw [beq_eq_false_iff_ne];rintro rfl;rw [hr c r rfl] at ha;cases ha)
 | [x],r,a,_,_,_,hr=>two_no' fun d l e=>hr d l e
 | x::y::l,r,a,h,_,_,_=>two_no' fun d l e=>by
   have e:y=d:=(List.cons.inj e).1;subst e;simp only [List.all_cons,Bool.and_eq_true] at h;rw [beq_eq_false_iff_ne];rintro rfl;exact absurd h.2.1 (by decide)
theorem fits_num {n:Int} (h0:0≤n) (h1:n≤9223372036854775807) {r:Str} (hr:HdNo bodyB r) (hr2:HdNo (fun c=>c==35) r):Fits 3 (numS n) n.toNat r:=by
 have e:numS n=Lib.decDigits n.toNat:=by unfold numS Lib.itoa;rw [if_neg (by omega)]
 rw [e];obtain ⟨a,b,c⟩:=dec_all n.toNat;generalize Lib.decDigits n.toNat=l at *;have hrn:HdNo numB r:=fun d m hd=>by
  have:=hr d m hd;cases hnd:numB d with
  | false=>rfl
  | true=>rw [num_body hnd] at this;cases this
 have hD:=digs_app a hrn;obtain ⟨x,m,rfl⟩:∃ x m,l=x::m:=by
  cases l with
  | nil=>exact absurd rfl c
  | cons x m=>exact ⟨x,m,rfl⟩
 have hx:numB x=true:=by rw [List.all_cons,Bool.and_eq_true] at a;exact a.1
 have hm:m.all numB=true:=by rw [List.all_cons,Bool.and_eq_true] at a;exact a.2
 refine ⟨c,num_past hx,?_⟩;have hb:baseOf ((x::m)++r)=(10,0):=by
  unfold baseOf;rw [two35 a (by decide) hrn hr2,if_neg (by decide),two35 a (by decide) hrn hr2,if_neg (by decide)];have:two (((x::m)++r).drop 1) 54 35=false:=two35 (l:=m) hm (by decide) hrn hr2;rw [this,Bool.and_false,if_neg (by decide)]
 have hs:tk.stuck r=false:=by
  cases r with
  | nil=>rfl
  | cons d q=>
   show (bodyB d||d==35)=false
   rw [hr d q rfl,show (d==35)=false from hr2 d q rfl];rfl
 have hn:number ((x::m)++r)=(0,n.toNat,(x::m).length):=by
  unfold number;simp only [hb,List.drop_zero,hD];have hd:((x::m)++r).drop (0+((x::m).map (fun c=>c.toNat-48)).length)=r:=by
   rw [Nat.zero_add,List.length_map];exact List.drop_left
  rw [hd,hs,b,if_neg (by simp),if_neg (by omega),Nat.zero_add,List.length_map]
 rw [List.cons_append] at hn ⊢;unfold sgn;simp only [num_no_alpha hx,hx,hn];rfl
def opI (op:Int):It:=.sg (if op=12∨op=19∨op=20∨op=21 then 2 else 4) (opS op) 0
def exIt (op n:Int) (nm fd:Str) (T:List (List It)):List It:=
 if op=1 then [.sg 3 (numS n) n.toNat] else if op=2 then [.sg 2 (truthS n) 0] else if op=3 then [.sg 1 nm 0]
 else if op=4 then .sg 1 nm 0::.sg 4 [91] 0::(T.headD []++[.sg 4 [93] 0])
 else if op=5 then [.sg 1 nm 0,.sg 4 [46] 0,.sg 1 fd 0]
 else if op=6 then .sg 4 [40] 0::.sg 4 [45] 0::(T.headD []++[.sg 4 [41] 0])
 else if op=7 then .sg 4 [40] 0::.sg 2 [78,79,84] 0::.gap 32::(T.headD []++[.sg 4 [41] 0])
 else .sg 4 [40] 0::(T.headD []++(.gap 32::opI op::.gap 32::((T.drop 1).headD []++[.sg 4 [41] 0])))
mutual
def exI:Ex→List It
 | .mk op n nm fd sub _=>exIt op n nm fd (exsI sub)
def exsI:List Ex→List (List It)
 | []=>[]
 | x::l=>exI x::exsI l
end
theorem head_itS:∀ T:List (List It),itS (T.headD [])=(T.map itS).headD []
 | []=>rfl
 | x::l=>rfl
theorem exIt_txt (op n:Int) (nm fd:Str) (T:List (List It)):itS (exIt op n nm fd T)=exT op n nm fd (T.map itS):=by
 have h1:=head_itS T;have h2:=head_itS (T.drop 1);rw [List.map_drop] at h2;unfold exIt exT;repeat' split
 all_goals
  simp only [itS,It.txt,itS_append,h1,h2,opI,List.append_assoc,List.append_nil,List.cons_append,List.nil_append]
mutual
theorem exI_txt:∀ e:Ex,itS (exI e)=exS e
 | .mk op n nm fd sub _=>by rw [exI,exIt_txt,exsI_txt sub,exS]
theorem exsI_txt:∀ l:List Ex,(exsI l).map itS=exsS l
 | []=>rfl
 | x::l=>by rw [exsI,List.map_cons,exI_txt x,exsI_txt l,exsS]
end
def EndOk (r:Str):Prop:=HdNo bodyB r∧HdNo (fun c=>c==35) r
theorem end_cons {c:UInt8} {r:Str} (h1:bodyB c=false) (h2:(c==35)=false):EndOk (c::r):=
 ⟨fun d l e=>by rw [←(List.cons.inj e).1];exact h1,fun d l e=>by
  have e:=(List.cons.inj e).1;subst e;exact h2⟩
theorem truth_word (n:Int):wordB (truthS n)=true:=by
 unfold truthS;split<;>decide
theorem op_fits {op:Int} (h8:8≤op) (h21:op≤21) (r:Str):Fits (if op=12∨op=19∨op=20∨op=21 then 2 else 4) (opS op) 0 (32::r):=by
 have hb:HdNo bodyB (32::r):=(end_cons (by decide) (by decide)).1;have ha:∀ c:UInt8,(afterB c 32=true)→∀ d l,(32::r:Str)=d::l→afterB c d=true:=fun c hc d l e=>by rw [←(List.cons.inj e).1];exact hc
 rcases (show op=8∨op=9∨op=10∨op=11∨op=12∨op=13∨op=14∨op=15∨op=16∨op=17∨op=18∨op=19∨op=20∨op=21 by omega) with rfl|rfl|rfl|rfl|rfl|rfl|rfl|rfl|rfl|rfl|rfl|rfl|rfl|rfl
 ·exact fits_sg (c:=43) (by decide) (ha 43 (by decide))
 ·exact fits_sg (c:=45) (by decide) (ha 45 (by decide))
 ·exact fits_sg (c:=42) (by decide) (ha 42 (by decide))
 ·exact fits_sg (c:=47) (by decide) (ha 47 (by decide))
 ·exact fits_wd (s:=[77,79,68]) (by decide) hb
 ·exact fits_sg (c:=61) (by decide) (ha 61 (by decide))
 ·exact fits_sg2 (t:=[60,62]) (by decide)
 ·exact fits_sg (c:=60) (by decide) (ha 60 (by decide))
 ·exact fits_sg (c:=62) (by decide) (ha 62 (by decide))
 ·exact fits_sg2 (t:=[60,61]) (by decide)
 ·exact fits_sg2 (t:=[62,61]) (by decide)
 ·exact fits_wd (s:=[65,78,68]) (by decide) hb
 ·exact fits_wd (s:=[88,79,82]) (by decide) hb
 ·exact fits_wd (s:=[79,82]) (by decide) hb
theorem after_any {t:UInt8} (h:t≠40∧t≠47∧t≠58∧t≠60∧t≠62∧t≠46) (d:UInt8):afterB t d=true:=by
 unfold afterB;rw [if_neg h.1,if_neg h.2.1,if_neg h.2.2.1,if_neg h.2.2.2.1,if_neg h.2.2.2.2.1,if_neg h.2.2.2.2.2]
theorem fits_any {t:UInt8} (hs:singles.contains t=true) (h:t≠40∧t≠47∧t≠58∧t≠60∧t≠62∧t≠46) (r:Str):Fits 4 [t] 0 r:=fits_sg hs (fun d l _=>after_any h d)
theorem fits_hd {t c:UInt8} {r:Str} (hs:singles.contains t=true) (h:afterB t c=true):Fits 4 [t] 0 (c::r):=fits_sg hs (fun d l e=>by rw [←(List.cons.inj e).1];exact h)
def HdOk (s:Str):Prop:=∃ c l,s=c::l∧(alphaB c=true∨numB c=true∨c=40)
theorem name_hd {s:Str} (h:nmB s=true):∃ c l,s=c::l∧alphaB c=true:=by
 cases s with
 | nil=>cases h
 | cons c l=>
  have h2:(alphaB c&&_)=true:=h;rw [Bool.and_eq_true] at h2;exact ⟨c,l,rfl,h2.1⟩
theorem hd_after {c:UInt8} (h:alphaB c=true∨numB c=true∨c=40):afterB 40 c=true∧afterB 46 c=true:=by
 have h2:c≠42∧c≠46:=by
  rcases h with h|h|h
  ·exact ⟨fun e=>by rw [e] at h;exact absurd h (by decide),fun e=>by rw [e] at h;exact absurd h (by decide)⟩
  ·exact ⟨fun e=>by rw [e] at h;exact absurd h (by decide),fun e=>by rw [e] at h;exact absurd h (by decide)⟩
  ·rw [h];exact ⟨by decide,by decide⟩
 unfold afterB;rw [if_pos rfl,if_neg (by decide),if_neg (by decide),if_neg (by decide),if_neg (by decide),if_neg (by decide),if_pos rfl,bne_iff_ne,bne_iff_ne];exact h2
theorem exS_hd:∀ e:Ex,exB e=true→HdOk (exS e)
 | .mk op n nm fd sub ln,h=>by
  rw [exB,Bool.and_eq_true] at h;have h1:=h.1;unfold exOk at h1;simp only [Bool.and_eq_true,decide_eq_true_eq,beq_iff_eq] at h1;obtain ⟨⟨ho1,ho2⟩,hn1,hn2,hnm,hfd,hk⟩:=h1;rw [exS];rcases (show op=1∨op=2∨op=3∨op=4∨op=5∨op=6∨op=7∨8≤op by omega) with rfl|rfl|rfl|rfl|rfl|rfl|rfl|h8
  ·show HdOk (numS n)
   have e:numS n=Lib.decDigits n.toNat:=by unfold numS Lib.itoa;rw [if_neg (by omega)]
   rw [e];obtain ⟨a,b,c⟩:=dec_all n.toNat;cases hl:Lib.decDigits n.toNat with
   | nil=>exact absurd hl c
   | cons x m=>
    rw [hl,List.all_cons,Bool.and_eq_true] at a;exact ⟨x,m,rfl,Or.inr (Or.inl a.1)⟩
  ·show HdOk (truthS n)
   unfold truthS;split
   ·exact ⟨_,_,rfl,Or.inl (by decide)⟩
   ·exact ⟨_,_,rfl,Or.inl (by decide)⟩
  ·obtain ⟨c,l,e,a⟩:=name_hd (s:=nm) hnm
   exact ⟨c,l,e,Or.inl a⟩
  ·obtain ⟨c,l,e,a⟩:=name_hd (s:=nm) hnm
   subst e;exact ⟨c,_,rfl,Or.inl a⟩
  ·obtain ⟨c,l,e,a⟩:=name_hd (s:=nm) hnm
   subst e;exact ⟨c,_,rfl,Or.inl a⟩
  ·exact ⟨40,_,rfl,Or.inr (Or.inr rfl)⟩
  ·exact ⟨40,_,rfl,Or.inr (Or.inr rfl)⟩
  ·unfold exT
   rw [if_neg (by omega),if_neg (by omega),if_neg (by omega),if_neg (by omega),if_neg (by omega),if_neg (by omega),if_neg (by omega)];exact ⟨40,_,rfl,Or.inr (Or.inr rfl)⟩
theorem subs_e8 {o:Int} (h:8≤o):subsE o=2:=by unfold subsE;rw [if_neg (by omega),if_pos h]
theorem one_of {α:Type} {l:List α} (h:l.length=1):∃ a,l=[a]:=List.length_eq_one_iff.1 h
theorem two_of {α:Type} {l:List α} (h:l.length=2):∃ a b,l=[a,b]:=by
 match l,h with
 | [a,b],_=>exact ⟨a,b,rfl⟩
theorem par_ok {L:List It} (h:ItOk L):ItOk (.sg 4 [41] 0::L)∧EndOk (itS (.sg 4 [41] 0::L)):=
 ⟨⟨fits_any (by decide) (by decide) _,h⟩,end_cons (by decide) (by decide)⟩
def OkE (N:Nat):Prop:=∀ e:Ex,SizeOf.sizeOf e<N→exB e=true→∀ L:List It,ItOk L→EndOk (itS L)→ItOk (exI e++L)
theorem exI_step {N:Nat} (IH:OkE N):OkE (N+1):=by
 intro e hN h L hL hE;obtain ⟨op,n,nm,fd,sub,ln⟩:=e;simp only [Ex.mk.sizeOf_spec] at hN;rw [exB,Bool.and_eq_true] at h;obtain ⟨h1,hsb⟩:=h;unfold exOk at h1;simp only [Bool.and_eq_true,decide_eq_true_eq,beq_iff_eq] at h1;obtain ⟨⟨ho1,ho2⟩,hn1,hn2,hnm,hfd,hk⟩:=h1;rw [exI];rcases (show op=1∨op=2∨op=3∨op=4∨op=5∨op=6∨op=7∨8≤op by omega) with rfl|rfl|rfl|rfl|rfl|rfl|rfl|h8
 ·exact ⟨fits_num hn1 hn2 hE.1 hE.2,hL⟩
 ·exact ⟨fits_wd (truth_word n) hE.1,hL⟩
 ·exact ⟨fits_name hnm hE.1,hL⟩
 ·obtain ⟨y,rfl⟩:=one_of (show sub.length=1 from hk)
  rw [exsB,Bool.and_eq_true] at hsb
  show ItOk (.sg 1 nm 0::.sg 4 [91] 0::((exI y++[.sg 4 [93] 0])++L))
  rw [List.append_assoc];exact ⟨fits_name hnm (end_cons (by decide) (by decide)).1,fits_any (by decide) (by decide) _,IH y (by simp only [List.cons.sizeOf_spec] at hN;omega) hsb.1 _ ⟨fits_any (by decide) (by decide) _,hL⟩ (end_cons (by decide) (by decide))⟩
 ·obtain ⟨c,l,e,a⟩:=name_hd (s:=fd) hfd
  show ItOk (.sg 1 nm 0::.sg 4 [46] 0::.sg 1 fd 0::L)
  refine ⟨fits_name hnm (end_cons (by decide) (by decide)).1,?_,fits_name hfd hE.1,hL⟩
  show Fits 4 [46] 0 (fd++itS L)
  rw [e];exact fits_hd (by decide) (hd_after (Or.inl a)).2
 ·obtain ⟨y,rfl⟩:=one_of (show sub.length=1 from hk)
  rw [exsB,Bool.and_eq_true] at hsb
  show ItOk (.sg 4 [40] 0::.sg 4 [45] 0::((exI y++[.sg 4 [41] 0])++L))
  rw [List.append_assoc];exact ⟨fits_hd (by decide) (by decide),fits_any (by decide) (by decide) _,IH y (by simp only [List.cons.sizeOf_spec] at hN;omega) hsb.1 _ (par_ok hL).1 (par_ok hL).2⟩
 ·obtain ⟨y,rfl⟩:=one_of (show sub.length=1 from hk)
  rw [exsB,Bool.and_eq_true] at hsb
  show ItOk (.sg 4 [40] 0::.sg 2 [78,79,84] 0::.gap 32::((exI y++[.sg 4 [41] 0])++L))
  rw [List.append_assoc];exact ⟨fits_hd (by decide) (by decide),fits_wd (by decide) (end_cons (by decide) (by decide)).1,Or.inl rfl,IH y (by simp only [List.cons.sizeOf_spec] at hN;omega) hsb.1 _ (par_ok hL).1 (par_ok hL).2⟩
 ·obtain ⟨y,z,rfl⟩:=two_of (show sub.length=2 from hk.trans (subs_e8 h8))
  rw [exsB,exsB,Bool.and_eq_true,Bool.and_eq_true] at hsb;unfold exIt;rw [if_neg (by omega),if_neg (by omega),if_neg (by omega),if_neg (by omega),if_neg (by omega),if_neg (by omega),if_neg (by omega)]
  show ItOk (.sg 4 [40] 0::((exI y++(.gap 32::opI op::.gap 32::(exI z++[.sg 4 [41] 0])))++L))
  rw [List.append_assoc];have hz:ItOk ((exI z++[.sg 4 [41] 0])++L):=by
   rw [List.append_assoc];exact IH z (by simp only [List.cons.sizeOf_spec] at hN;omega) hsb.2.1 _ (par_ok hL).1 (par_ok hL).2
  refine ⟨?_,IH y (by simp only [List.cons.sizeOf_spec] at hN;omega) hsb.1 _ ⟨Or.inl rfl,op_fits h8 ho2 _,Or.inl rfl,hz⟩ (end_cons (by decide) (by decide))⟩;rw [itS_append,exI_txt];obtain ⟨c,l,e,a⟩:=exS_hd y hsb.1;rw [e];exact fits_hd (by decide) (hd_after a).1
theorem exI_all:∀ N,OkE N
 | 0=>fun _ h=>absurd h (by omega)
 | N+1=>exI_step (exI_all N)
theorem exI_ok {e:Ex} (h:exB e=true) {L:List It} (hL:ItOk L) (hE:EndOk (itS L)):ItOk (exI e++L):=exI_all (SizeOf.sizeOf e+1) e (by omega) h L hL hE
abbrev wdI (s:Str):It:=.sg 2 s 0
abbrev siI (c:UInt8):It:=.sg 4 [c] 0
def numI (n:Int):List It:=if n<0 then [siI 45,.sg 3 (numS (-n)) (-n).toNat] else [.sg 3 (numS n) n.toNat]
theorem numI_txt (n:Int):itS (numI n)=numS n:=by
 unfold numI;split
 ·rename_i h
  show 45::(numS (-n)++[])=numS n
  rw [List.append_nil];unfold numS Lib.itoa;rw [if_neg (show ¬ -n<0 by omega),if_pos h];rw [show (-n).toNat=n.natAbs by omega]
 ·show numS n++[]=numS n
  rw [List.append_nil]
def elseI:List (List It)→List It
 | []=>[]
 | b::l=>wdI [69,76,83,69]::.gap 10::(b++elseI l)
def ifI (w:Str):List (List It)→List (List It)→List It
 | [],bs=>elseI bs
 | c::cs,bs=>wdI w::.gap 32::(c++(.gap 32::wdI [84,72,69,78]::.gap 10::(bs.headD []++ifI [69,76,83,73,70] cs (bs.drop 1))))
def labI:Bool→List Int→List It
 | m,a::b::l=>(if m=true then [siI 44,.gap 32] else [])++numI a++(if b=a then [] else .sg 4 [46,46] 0::numI b)++labI true l
 | _,_=>[siI 58,.gap 10]
def caseI:List (List Int)→List (List It)→List It
 | [],bs=>elseI bs
 | l::ls,bs=>labI false l++bs.headD []++caseI ls (bs.drop 1)
def argI:Bool→List Str→List (List It)→List It
 | m,f::fs,cs=>(if m=true then [siI 44,.gap 32] else [])++[.sg 1 f 0,.gap 32,.sg 4 [58,61] 0,.gap 32]++cs.headD []++argI true fs (cs.drop 1)
 | _,[],_=>[]
theorem elseI_txt:∀ T:List (List It),itS (elseI T)=elseT (T.map itS)
 | []=>rfl
 | b::l=>by
  rw [elseI,List.map_cons,elseT,←elseI_txt l];simp only [itS,It.txt,itS_append,List.cons_append,List.nil_append]
theorem ifI_txt:∀ (C:List (List It)) (w:Str) (B:List (List It)),itS (ifI w C B)=ifT (w++[32]) (C.map itS) (B.map itS)
 | [],w,B=>by rw [ifI,List.map_nil,ifT,elseI_txt]
 | c::C,w,B=>by
  rw [ifI,List.map_cons,ifT,←head_itS,←List.map_drop,show ([69,76,83,73,70,32]:Str)=[69,76,83,73,70]++[32] from rfl,←ifI_txt C];simp only [itS,It.txt,itS_append,List.append_assoc,List.cons_append,List.nil_append]
theorem labI_txt:∀ (l:List Int) (m:Bool),itS (labI m l)=labT m l
 | [],m=>by cases m<;>rfl
 | [a],m=>by cases m<;>rfl
 | a::b::l,m=>by
  rw [labI,labT,itS_append,itS_append,itS_append,numI_txt,labI_txt l true];congr 1
  congr 1
  ·congr 1
   cases m<;>rfl
  ·split
   ·rfl
   ·show [46,46]++itS (numI b)=_
    rw [numI_txt]
theorem caseI_txt:∀ (ls:List (List Int)) (B:List (List It)),itS (caseI ls B)=caseT ls (B.map itS)
 | [],B=>by rw [caseI,caseT,elseI_txt]
 | l::ls,B=>by rw [caseI,caseT,itS_append,itS_append,labI_txt,head_itS,caseI_txt ls,List.map_drop]
theorem argI_txt:∀ (fs:List Str) (m:Bool) (C:List (List It)),itS (argI m fs C)=argT m fs (C.map itS)
 | [],m,C=>by rw [argI,argT];rfl
 | f::fs,m,C=>by
  rw [argI,argT,itS_append,itS_append,itS_append,head_itS,argI_txt fs true,List.map_drop];congr 1
  congr 1
  congr 1
  cases m<;>rfl
def stIt (op:Int) (nm:Str) (dst val:List It) (cs:List (List It)) (ls:List (List Int)) (fs:List Str) (bs:List (List It)):List It:=
 if op=1 then dst++(.gap 32::.sg 4 [58,61] 0::.gap 32::(val++[siI 59,.gap 10]))
 else if op=2 then ifI [73,70] cs bs++[wdI [69,78,68,95,73,70],siI 59,.gap 10]
 else if op=3 then wdI [67,65,83,69]::.gap 32::(val++(.gap 32::wdI [79,70]::.gap 10::(caseI ls bs++[wdI [69,78,68,95,67,65,83,69],siI 59,.gap 10])))
 else if op=4 then wdI [70,79,82]::.gap 32::.sg 1 nm 0::.gap 32::.sg 4 [58,61] 0::.gap 32::(cs.headD []++(.gap 32::wdI [84,79]::.gap 32::((cs.drop 1).headD []++(.gap 32::wdI [66,89]::.gap 32::((cs.drop 2).headD []++(.gap 32::wdI [68,79]::.gap 10::(bs.headD []++[wdI [69,78,68,95,70,79,82],siI 59,.gap 10])))))))
 else if op=5 then wdI [87,72,73,76,69]::.gap 32::(val++(.gap 32::wdI [68,79]::.gap 10::(bs.headD []++[wdI [69,78,68,95,87,72,73,76,69],siI 59,.gap 10])))
 else if op=6 then wdI [82,69,80,69,65,84]::.gap 10::(bs.headD []++(wdI [85,78,84,73,76]::.gap 32::(val++[.gap 32,wdI [69,78,68,95,82,69,80,69,65,84],siI 59,.gap 10])))
 else if op=7 then [wdI [69,88,73,84],siI 59,.gap 10]
 else if op=8 then [wdI [82,69,84,85,82,78],siI 59,.gap 10]
 else .sg 1 nm 0::siI 40::(argI false fs cs++[siI 41,siI 59,.gap 10])
theorem stIt_txt (op:Int) (nm:Str) (dst val:List It) (cs:List (List It)) (ls:List (List Int)) (fs:List Str) (bs:List (List It)) :
  itS (stIt op nm dst val cs ls fs bs)=stT op nm (itS dst) (itS val) (cs.map itS) ls fs (bs.map itS):=by
 have h0:=head_itS cs;have h1:=head_itS (cs.drop 1);have h2:=head_itS (cs.drop 2);have h3:=head_itS bs;rw [List.map_drop] at h1 h2;have e1:=ifI_txt cs [73,70] bs;have e2:=caseI_txt ls bs;have e3:=argI_txt fs false cs;unfold stIt stT;repeat' split
 all_goals
  simp only [itS,It.txt,itS_append,h0,h1,h2,h3,e1,e2,e3,List.append_assoc,List.append_nil,List.cons_append,List.nil_append]
mutual
def stI:St→List It
 | .mk op nm dst val conds labels fields blocks _=>stIt op nm (exI dst) (exI val) (exsI conds) labels fields (blksI blocks)
def stsI:List St→List It
 | []=>[]
 | x::l=>stI x++stsI l
def blksI:List (List St)→List (List It)
 | []=>[]
 | x::l=>stsI x::blksI l
end
mutual
theorem stI_txt:∀ x:St,itS (stI x)=stS x
 | .mk op nm dst val conds labels fields blocks _=>by rw [stI,stIt_txt,exI_txt,exI_txt,exsI_txt,blksI_txt blocks,stS]
theorem stsI_txt:∀ l:List St,itS (stsI l)=stsS l
 | []=>by rw [stsI,stsS];rfl
 | x::l=>by rw [stsI,itS_append,stI_txt x,stsI_txt l,stsS]
theorem blksI_txt:∀ l:List (List St),(blksI l).map itS=blksS l
 | []=>by rw [blksI,blksS];rfl
 | x::l=>by rw [blksI,List.map_cons,stsI_txt x,blksI_txt l,blksS]
end
def BlkOk (b:List It):Prop:=∀ L:List It,ItOk L→ItOk (b++L)
def CdOk (c:List It):Prop:=∀ L:List It,ItOk L→EndOk (itS L)→ItOk (c++L)
theorem numI_ok {n:Int} (h0:-9223372036854775808<n) (h1:n≤9223372036854775807):CdOk (numI n):=by
 intro L hL hE;unfold numI;split
 ·exact ⟨fits_any (by decide) (by decide) _,fits_num (by omega) (by omega) hE.1 hE.2,hL⟩
 ·exact ⟨fits_num (by omega) h1 hE.1 hE.2,hL⟩
theorem head_blk {T:List (List It)} (h:∀ b∈T,BlkOk b):BlkOk (T.headD []):=by
 cases T with
 | nil=>exact fun L hL=>hL
 | cons b l=>exact h b (List.mem_cons_self ..)
theorem head_cd {T:List (List It)} (h:∀ b∈T,CdOk b):CdOk (T.headD []):=by
 cases T with
 | nil=>exact fun L hL _=>hL
 | cons b l=>exact h b (List.mem_cons_self ..)
theorem mem_drop1 {α:Type} {P:α→Prop} {T:List α} (h:∀ b∈T,P b) (k:Nat):∀ b∈T.drop k,P b:=fun b hb=>h b (List.mem_of_mem_drop hb)
theorem elseI_ok:∀ {T:List (List It)},(∀ b∈T,BlkOk b)→BlkOk (elseI T)
 | [],_,L,hL=>hL
 | b::l,h,L,hL=>by
  rw [elseI,List.cons_append,List.cons_append,List.append_assoc];exact ⟨fits_wd (by decide) (end_cons (by decide) (by decide)).1,Or.inr rfl,h b (List.mem_cons_self ..) _ (elseI_ok (fun x hx=>h x (List.mem_cons_of_mem _ hx)) L hL)⟩
theorem ifI_ok:∀ {C:List (List It)} {w:Str} {B:List (List It)},wordB w=true→(∀ c∈C,CdOk c)→(∀ b∈B,BlkOk b)→BlkOk (ifI w C B)
 | [],w,B,_,_,hB,L,hL=>by rw [ifI];exact elseI_ok hB L hL
 | c::C,w,B,hw,hC,hB,L,hL=>by
  have h1:=ifI_ok (C:=C) (w:=[69,76,83,73,70]) (B:=B.drop 1) (by decide) (fun x hx=>hC x (List.mem_cons_of_mem _ hx)) (mem_drop1 hB 1) L hL;have h2:=head_blk hB _ h1;rw [ifI];simp only [List.cons_append,List.append_assoc];exact ⟨fits_wd hw (end_cons (by decide) (by decide)).1,Or.inl rfl,hC c (List.mem_cons_self ..) _ ⟨Or.inl rfl,fits_wd (by decide) (end_cons (by decide) (by decide)).1,Or.inr rfl,h2⟩ (end_cons (by decide) (by decide))⟩
def LabOk (l:List Int):Prop:=∀ n∈l,-9223372036854775808<n∧n≤9223372036854775807
theorem labI_end (l:List Int) (L:List It):EndOk (itS (labI true l++L)):=by
 match l with
 | []=>exact end_cons (by decide) (by decide)
 | [a]=>exact end_cons (by decide) (by decide)
 | a::b::l=>rw [labI];exact end_cons (by decide) (by decide)
theorem labI_ok:∀ {l:List Int} {m:Bool},LabOk l→BlkOk (labI m l)
 | [],m,_,L,hL=>by
  have:labI m []=[siI 58,.gap 10]:=by cases m<;>rfl
  rw [this];exact ⟨fits_hd (by decide) (by decide),Or.inr rfl,hL⟩
 | [a],m,_,L,hL=>by
  have:labI m [a]=[siI 58,.gap 10]:=by cases m<;>rfl
  rw [this];exact ⟨fits_hd (by decide) (by decide),Or.inr rfl,hL⟩
 | a::b::l,m,h,L,hL=>by
  have h1:=labI_ok (l:=l) (m:=true) (fun n hn=>h n (List.mem_cons_of_mem _ (List.mem_cons_of_mem _ hn))) L hL;have h2:=labI_end l L;have ha:=h a (List.mem_cons_self ..);have hb:=h b (List.mem_cons_of_mem _ (List.mem_cons_self ..));have h3:ItOk (numI a++((if b=a then [] else .sg 4 [46,46] 0::numI b)++(labI true l++L))):=by
   split
   ·exact numI_ok ha.1 ha.2 _ h1 h2
   ·refine numI_ok ha.1 ha.2 _ ⟨fits_sg2 (by decide),numI_ok hb.1 hb.2 _ h1 h2⟩ (end_cons (by decide) (by decide))
  rw [labI,List.append_assoc,List.append_assoc,List.append_assoc];cases m
  ·exact h3
  ·exact ⟨fits_any (by decide) (by decide) _,Or.inl rfl,h3⟩
theorem caseI_ok:∀ {ls:List (List Int)} {B:List (List It)},(∀ l∈ls,LabOk l)→(∀ b∈B,BlkOk b)→BlkOk (caseI ls B)
 | [],B,_,hB,L,hL=>by rw [caseI];exact elseI_ok hB L hL
 | l::ls,B,hl,hB,L,hL=>by
  rw [caseI,List.append_assoc,List.append_assoc];exact labI_ok (hl l (List.mem_cons_self ..)) _ (head_blk hB _ (caseI_ok (fun x hx=>hl x (List.mem_cons_of_mem _ hx)) (mem_drop1 hB 1) L hL))
theorem argI_end {fs:List Str} {C:List (List It)} {L:List It} (hE:EndOk (itS L)):EndOk (itS (argI true fs C++L)):=by
 cases fs with
 | nil=>rw [argI];exact hE
 | cons f fs=>rw [argI];exact end_cons (by decide) (by decide)
theorem argI_ok:∀ {fs:List Str} {m:Bool} {C:List (List It)},fs.all nmB=true→(∀ c∈C,CdOk c)→CdOk (argI m fs C)
 | [],m,C,_,_,L,hL,_=>by rw [argI];exact hL
 | f::fs,m,C,hf,hC,L,hL,hE=>by
  rw [List.all_cons,Bool.and_eq_true] at hf;have h1:=argI_ok (fs:=fs) (m:=true) (C:=C.drop 1) hf.2 (mem_drop1 hC 1) L hL hE;have h2:=head_cd hC _ h1 (argI_end hE);rw [argI,List.append_assoc,List.append_assoc,List.append_assoc];have h3:ItOk ([.sg 1 f 0,.gap 32,.sg 4 [58,61] 0,.gap 32]++(C.headD []++(argI true fs (C.drop 1)++L))):=⟨fits_name hf.1 (end_cons (by decide) (by decide)).1,Or.inl rfl,fits_sg2 (by decide),Or.inl rfl,h2⟩;cases m
  ·exact h3
  ·exact ⟨fits_any (by decide) (by decide) _,Or.inl rfl,h3⟩

def InJ (n:Int):Prop:=-9223372036854775808≤n∧n≤9223372036854775807

end sh
namespace sh
open ChangeShapes WideShapes ChangeAt RowKit k rr tk tr
def inS9 (op:Int):Bool:=decide (1≤op)&&decide (op≤9)
def hasN (op:Int):Bool:=op==4||op==9
def hasD (op:Int):Bool:=op==1
def hasV (op:Int):Bool:=op==1||(op==3||(op==5||op==6))
def cntS (op:Int) (c l f:Nat):Nat×Nat×Nat×Nat×Nat:=
 if op=2 then (max 1 c,0,0,max 1 c,1) else if op=3 then (0,l,0,l,1) else if op=4 then (3,0,0,1,0)
 else if op=5∨op=6 then (0,0,0,1,0) else if op=9 then (f,0,f,0,0) else (0,0,0,0,0)
def cntB (k:Nat×Nat×Nat×Nat×Nat) (c l f b:Nat):Bool:=c==k.1&&(l==k.2.1&&(f==k.2.2.1&&(decide (k.2.2.2.1≤b)&&decide (b≤k.2.2.2.1+k.2.2.2.2))))
def dstB (h:Bool) (x:Ex):Bool:=if h=true then placeB x else noE x
def valB (h:Bool) (x:Ex):Bool:=if h=true then !noE x&&exB x else noE x
theorem nm_ne {s:Str} (h:nmB s=true):(s==[])=false:=by
 cases s with
 | nil=>exact absurd h (by decide)
 | cons _ _=>rfl
theorem place_no {x:Ex} (h:placeB x=true):noE x=false:=by
 obtain ⟨o,n,s,f,sub,l⟩:=x;simp only [placeB,opE,Bool.and_eq_true,Bool.or_eq_true,beq_iff_eq] at h
 show (o==0&&_)=false
 rw [neb (show o≠0 by omega)];rfl
theorem not_emp (s:Str):(s != [])=!(s==[]):=rfl
theorem stB_fit (op:Int) (nm:Str) (dst val:Ex) (conds:List Ex) (labels:List (List Int)) (fields:List Str) (blocks:List (List St)) (ln:Int) :
  stB (.mk op nm dst val conds labels fields blocks ln)=(inS9 op&&(nameB (hasN op) nm&&(dstB (hasD op) dst&&(valB (hasV op) val&&(exsB conds&&(cntB (cntS op conds.length labels.length fields.length) conds.length labels.length fields.length blocks.length&&(fields.all nmB&&(labels.all labB&&blksB blocks)))))))):=by
 rw [stB,not_emp];have h1:=@nm_ne nm;have h2:=@place_no dst;unfold nameB dstB valB;generalize nmB nm=b at *;generalize (nm==[])=a at *;generalize placeB dst=p at *;generalize noE dst=d at *;generalize noE val=v at *;generalize exB val=x at *;generalize exsB conds=y1 at *;generalize fields.all nmB=y2 at *;generalize labels.all labB=y3 at *;generalize blksB blocks=y4 at *;generalize conds.length=c at *;generalize labels.length=l at *;generalize fields.length=f at *;generalize blocks.length=k at *;have key:∀ A B C:Bool,(A=B)→(A&&C)=(B&&C):=fun A B C h=>by rw [h]
 rcases (show op=1∨op=2∨op=3∨op=4∨op=5∨op=6∨op=7∨op=8∨op=9∨(op<1∨9<op) by omega) with rfl|rfl|rfl|rfl|rfl|rfl|rfl|rfl|rfl|ho
 rotate_right 1
 ·have e:inS9 op=false:=by
   unfold inS9;rw [Bool.eq_false_iff];simp;omega
  rw [e,stOk,if_neg (by omega),if_neg (by omega),if_neg (by omega),if_neg (by omega),if_neg (by omega),if_neg (by omega),if_neg (by omega)];rfl
 all_goals
  simp only [inS9,hasN,hasD,hasV,stOk,cntS,cntB,elseB,Pt.mk.injEq,oneIf];clear key;rw [Bool.eq_iff_iff];cases a<;>cases b<;>cases p<;>cases d<;>cases v<;>cases x<;>(first|(exact absurd (h1 rfl) (by decide))|(exact absurd (h2 rfl) (by decide))|(simp;done)|(simp;exact ⟨fun h=>⟨h.2.1,(by have:=h.1;omega),h.2.2.2.1,h.2.2.1,h.2.2.2.2⟩,fun h=>⟨(by have:=h.2.1;omega),h.1,h.2.2.2.1,h.2.2.1,h.2.2.2.2⟩⟩))
theorem ex_cd {e:Ex} (h:exB e=true):CdOk (exI e):=fun L hL hE=>exI_ok h hL hE
theorem exs_cd:∀ {l:List Ex},exsB l=true→∀ c∈exsI l,CdOk c
 | [],_,c,hc=>by rw [exsI] at hc;cases hc
 | x::l,h,c,hc=>by
  rw [exsB,Bool.and_eq_true] at h;rw [exsI] at hc;rcases List.mem_cons.1 hc with rfl|hc
  ·exact ex_cd h.1
  ·exact exs_cd h.2 c hc
theorem end_ok {s:Str} (hs:wordB s=true) {L:List It} (hL:ItOk L):ItOk (wdI s::siI 59::.gap 10::L):=⟨fits_wd hs (end_cons (by decide) (by decide)).1,fits_any (by decide) (by decide) _,Or.inr rfl,hL⟩
theorem semi_ok {L:List It} (hL:ItOk L):ItOk (siI 59::.gap 10::L)∧EndOk (itS (siI 59::.gap 10::L)):=⟨⟨fits_any (by decide) (by decide) _,Or.inr rfl,hL⟩,end_cons (by decide) (by decide)⟩
theorem gap_word {s:Str} {c:UInt8} (hs:wordB s=true) (hc:c=32∨c=10) {L:List It} (hL:ItOk L):ItOk (.gap 32::wdI s::.gap c::L)∧EndOk (itS (.gap 32::wdI s::.gap c::L)):=
 ⟨⟨Or.inl rfl,fits_wd hs (by rcases hc with rfl|rfl<;>exact (end_cons (by decide) (by decide)).1),hc,hL⟩,end_cons (by decide) (by decide)⟩
theorem lab_ok {l:List Int} (h:labB l=true) (hi:∀ n∈l,InI n):LabOk l:=by
 unfold labB at h;simp only [Bool.and_eq_true,List.all_eq_true] at h;intro n hn;have h1:=h.2.2 n hn;rw [bne_iff_ne] at h1;have h2:=hi n hn;unfold InI at h2;omega
def OkS (N:Nat):Prop:=∀ x:St,SizeOf.sizeOf x<N→stB x=true→inS x→BlkOk (stI x)
theorem sts_blk {N:Nat} (IH:OkS N):∀ {l:List St},SizeOf.sizeOf l≤N→stsB l=true→inSs l→BlkOk (stsI l)
 | [],_,_,_,L,hL=>by rw [stsI];exact hL
 | x::l,hN,h,hi,L,hL=>by
  simp only [List.cons.sizeOf_spec] at hN;rw [stsB,Bool.and_eq_true] at h;rw [inSs] at hi;rw [stsI,List.append_assoc];exact IH x (by omega) h.1 hi.1 _ (sts_blk IH (by omega) h.2 hi.2 L hL)
theorem blks_blk {N:Nat} (IH:OkS N):∀ {l:List (List St)},SizeOf.sizeOf l≤N→blksB l=true→inBs l→∀ b∈blksI l,BlkOk b
 | [],_,_,_,b,hb=>by rw [blksI] at hb;cases hb
 | x::l,hN,h,hi,b,hb=>by
  simp only [List.cons.sizeOf_spec] at hN;rw [blksB,Bool.and_eq_true] at h;rw [inBs] at hi;rw [blksI] at hb;rcases List.mem_cons.1 hb with rfl|hb
  ·exact sts_blk IH (by omega) h.1 hi.1
  ·exact blks_blk IH (by omega) h.2 hi.2 b hb
theorem stI_step {N:Nat} (IH:OkS N):OkS (N+1):=by
 intro x hN hb hi L hL;obtain ⟨op,nm,dst,val,cs,ls,fs,bs,ln⟩:=x;simp only [St.mk.sizeOf_spec] at hN;rw [stB_fit] at hb;simp only [Bool.and_eq_true] at hb;obtain ⟨hin,hnm,hd,hv,hc,hcn,hf,hlb,hbl⟩:=hb;rw [inS] at hi;obtain ⟨hi1,hi2⟩:=hi;have hC:=exs_cd hc;have hB:=blks_blk IH (l:=bs) (by omega) hbl hi2;have hL':∀ l∈ls,LabOk l:=fun l hl=>lab_ok (by rw [List.all_eq_true] at hlb;exact hlb l hl) (hi1 l hl)
 unfold inS9 at hin;simp only [Bool.and_eq_true,decide_eq_true_eq] at hin;rw [stI];rcases (show op=1∨op=2∨op=3∨op=4∨op=5∨op=6∨op=7∨op=8∨op=9 by omega) with rfl|rfl|rfl|rfl|rfl|rfl|rfl|rfl|rfl
 ·have hd:placeB dst=true:=hd
  have hv:(!noE val&&exB val)=true:=hv;unfold placeB at hd;rw [Bool.and_eq_true] at hd hv
  show ItOk ((exI dst++(.gap 32::.sg 4 [58,61] 0::.gap 32::(exI val++[siI 59,.gap 10])))++L)
  simp only [List.append_assoc,List.cons_append,List.nil_append];exact ex_cd hd.2 _ ⟨Or.inl rfl,fits_sg2 (by decide),Or.inl rfl,ex_cd hv.2 _ (semi_ok hL).1 (semi_ok hL).2⟩ (end_cons (by decide) (by decide))
 ·show ItOk ((ifI [73,70] (exsI cs) (blksI bs)++[wdI [69,78,68,95,73,70],siI 59,.gap 10])++L)
  simp only [List.append_assoc,List.cons_append,List.nil_append];exact ifI_ok (by decide) hC hB _ (end_ok (by decide) hL)
 ·have hv:(!noE val&&exB val)=true:=hv
  rw [Bool.and_eq_true] at hv
  show ItOk (wdI [67,65,83,69]::.gap 32::((exI val++(.gap 32::wdI [79,70]::.gap 10::(caseI ls (blksI bs)++[wdI [69,78,68,95,67,65,83,69],siI 59,.gap 10])))++L))
  simp only [List.append_assoc,List.cons_append,List.nil_append];have h1:=caseI_ok hL' hB _ (end_ok (s:=[69,78,68,95,67,65,83,69]) (by decide) hL);have h2:=gap_word (s:=[79,70]) (c:=10) (by decide) (Or.inr rfl) h1;exact ⟨fits_wd (by decide) (end_cons (by decide) (by decide)).1,Or.inl rfl,ex_cd hv.2 _ h2.1 h2.2⟩
 ·have hnm:nmB nm=true:=hnm
  show ItOk (wdI [70,79,82]::.gap 32::.sg 1 nm 0::.gap 32::.sg 4 [58,61] 0::.gap 32::(((exsI cs).headD []++(.gap 32::wdI [84,79]::.gap 32::(((exsI cs).drop 1).headD []++(.gap 32::wdI [66,89]::.gap 32::(((exsI cs).drop 2).headD []++(.gap 32::wdI [68,79]::.gap 10::((blksI bs).headD []++[wdI [69,78,68,95,70,79,82],siI 59,.gap 10])))))))++L))
  simp only [List.append_assoc,List.cons_append,List.nil_append];have h1:=head_blk hB _ (end_ok (s:=[69,78,68,95,70,79,82]) (by decide) hL);have h2:=gap_word (s:=[68,79]) (c:=10) (by decide) (Or.inr rfl) h1;have h3:=gap_word (s:=[66,89]) (c:=32) (by decide) (Or.inl rfl) (head_cd (mem_drop1 hC 2) _ h2.1 h2.2);have h4:=gap_word (s:=[84,79]) (c:=32) (by decide) (Or.inl rfl) (head_cd (mem_drop1 hC 1) _ h3.1 h3.2);exact ⟨fits_wd (by decide) (end_cons (by decide) (by decide)).1,Or.inl rfl,fits_name hnm (end_cons (by decide) (by decide)).1,Or.inl rfl,fits_sg2 (by decide),Or.inl rfl,head_cd hC _ h4.1 h4.2⟩
 ·have hv:(!noE val&&exB val)=true:=hv
  rw [Bool.and_eq_true] at hv
  show ItOk (wdI [87,72,73,76,69]::.gap 32::((exI val++(.gap 32::wdI [68,79]::.gap 10::((blksI bs).headD []++[wdI [69,78,68,95,87,72,73,76,69],siI 59,.gap 10])))++L))
  simp only [List.append_assoc,List.cons_append,List.nil_append];have h1:=head_blk hB _ (end_ok (s:=[69,78,68,95,87,72,73,76,69]) (by decide) hL);have h2:=gap_word (s:=[68,79]) (c:=10) (by decide) (Or.inr rfl) h1;exact ⟨fits_wd (by decide) (end_cons (by decide) (by decide)).1,Or.inl rfl,ex_cd hv.2 _ h2.1 h2.2⟩
 ·have hv:(!noE val&&exB val)=true:=hv
  rw [Bool.and_eq_true] at hv
  show ItOk (wdI [82,69,80,69,65,84]::.gap 10::(((blksI bs).headD []++(wdI [85,78,84,73,76]::.gap 32::(exI val++[.gap 32,wdI [69,78,68,95,82,69,80,69,65,84],siI 59,.gap 10])))++L))
  simp only [List.append_assoc,List.cons_append,List.nil_append];have h1:=ex_cd hv.2 (.gap 32::wdI [69,78,68,95,82,69,80,69,65,84]::siI 59::.gap 10::L) ⟨Or.inl rfl,end_ok (by decide) hL⟩ (end_cons (by decide) (by decide));exact ⟨fits_wd (by decide) (end_cons (by decide) (by decide)).1,Or.inr rfl,head_blk hB _ ⟨fits_wd (by decide) (end_cons (by decide) (by decide)).1,Or.inl rfl,h1⟩⟩
 ·exact end_ok (s:=[69,88,73,84]) (by decide) hL
 ·exact end_ok (s:=[82,69,84,85,82,78]) (by decide) hL
 ·have hnm:nmB nm=true:=hnm
  show ItOk (.sg 1 nm 0::siI 40::((argI false fs (exsI cs)++[siI 41,siI 59,.gap 10])++L))
  simp only [List.append_assoc,List.cons_append,List.nil_append];have h1:ItOk (siI 41::siI 59::.gap 10::L):=⟨fits_any (by decide) (by decide) _,(semi_ok hL).1⟩;have h2:=argI_ok (m:=false) hf hC _ h1 (end_cons (by decide) (by decide));refine ⟨fits_name hnm (end_cons (by decide) (by decide)).1,?_,h2⟩;cases fs with
  | nil=>rw [argI];exact fits_hd (by decide) (by decide)
  | cons f fs=>
   rw [List.all_cons,Bool.and_eq_true] at hf;obtain ⟨c,l,e,a⟩:=name_hd hf.1;rw [argI];simp only [List.append_assoc,Bool.false_eq_true,if_false,List.nil_append,List.cons_append,itS,It.txt];rw [e];exact fits_hd (by decide) (hd_after (Or.inl a)).1
theorem stI_all:∀ N,OkS N
 | 0=>fun _ h=>absurd h (by omega)
 | N+1=>stI_step (stI_all N)
theorem stsI_ok {l:List St} (h:stsB l=true) (hi:inSs l):BlkOk (stsI l):=sts_blk (stI_all _) (Nat.le_refl _) h hi
def typeI (v:Va):List It:=
 if v.array=true then wdI [65,82,82,65,89]::siI 91::(numI v.lo++(.sg 4 [46,46] 0::(numI v.hi++[siI 93,.gap 32,wdI [79,70],.gap 32,wdI (plainS v.type)])))
 else if v.type=1 then wdI (plainS v.type)::.gap 32::.sg 4 [58,61] 0::.gap 32::numI v.init
 else if v.type=2 then [wdI (plainS v.type),.gap 32,.sg 4 [58,61] 0,.gap 32,wdI (truthS v.init)]
 else [.sg 1 (kindS v.type) 0]
def vaI (v:Va):List It:=wdI (secS v.sect)::.gap 10::.sg 1 v.name 0::.gap 32::siI 58::.gap 32::(typeI v++[siI 59,.gap 10,wdI [69,78,68,95,86,65,82],.gap 10])
def vasI:List Va→List It
 | []=>[]
 | v::l=>vaI v++vasI l
def pgI (p:Pg):List It:=wdI [80,82,79,71,82,65,77]::.gap 32::.sg 1 p.name 0::.gap 10::(vasI p.vars++(stsI p.body++[wdI [69,78,68,95,80,82,79,71,82,65,77],.gap 10]))
theorem typeI_txt (v:Va):itS (typeI v)=typeS v:=by
 unfold typeI typeS;repeat' split
 all_goals
  simp only [itS,It.txt,itS_append,numI_txt,List.append_assoc,List.append_nil,List.cons_append,List.nil_append]
theorem vaI_txt (v:Va):itS (vaI v)=vaS v:=by
 unfold vaI vaS;simp only [itS,It.txt,itS_append,typeI_txt,List.append_assoc,List.append_nil,List.cons_append,List.nil_append]
theorem vasI_txt:∀ l:List Va,itS (vasI l)=vasS l
 | []=>rfl
 | v::l=>by rw [vasI,vasS,itS_append,vaI_txt,vasI_txt l]
theorem pgI_txt (p:Pg):itS (pgI p)=pgS p:=by
 unfold pgI pgS;simp only [itS,It.txt,itS_append,vasI_txt,stsI_txt,List.append_assoc,List.append_nil,List.cons_append,List.nil_append]
theorem kind_nm {n:Int} (h:(kinds.any fun k=>k.2==n)=true):nmB (kindS n)=true:=by
 by_cases hm:n∈kindL
 ·have h2:kindL.all (fun n=>nmB (kindS n))=true:=by kernel_rfl
  rw [List.all_eq_true] at h2;exact h2 n hm
 ·rw [(kind_none hm).2.2] at h
  cases h
theorem plain_word {n:Int} (h:n=1∨n=2):wordB (plainS n)=true:=by
 rcases h with rfl|rfl<;>decide
theorem typeI_ok {v:Va} (h:typeB v=true) (hi:InI v.init):CdOk (typeI v):=by
 intro L hL hE;unfold typeB at h;unfold typeI;by_cases ha:v.array=true
 ·rw [if_pos ha] at h ⊢
  simp only [Bool.and_eq_true,Bool.or_eq_true,beq_iff_eq,decide_eq_true_eq] at h;obtain ⟨h1,h2,h3,h4,h5⟩:=h;simp only [List.append_assoc,List.cons_append,List.nil_append];have hw:=plain_word h1;have k1:ItOk (siI 93::.gap 32::wdI [79,70]::.gap 32::wdI (plainS v.type)::L):=⟨fits_any (by decide) (by decide) _,Or.inl rfl,fits_wd (by decide) (end_cons (by decide) (by decide)).1,Or.inl rfl,fits_wd hw hE.1,hL⟩;have k2:=numI_ok (n:=v.hi) (by omega) (by omega) _ k1 (end_cons (by decide) (by decide));have k3:=numI_ok (n:=v.lo) (by omega) (by omega) (.sg 4 [46,46] 0::(numI v.hi++(siI 93::.gap 32::wdI [79,70]::.gap 32::wdI (plainS v.type)::L))) ⟨fits_sg2 (by decide),k2⟩ (end_cons (by decide) (by decide));exact ⟨fits_wd (by decide) (end_cons (by decide) (by decide)).1,fits_any (by decide) (by decide) _,k3⟩
 ·rw [if_neg ha] at h ⊢
  split at h
  ·cases h
  ·by_cases t1:v.type=1
   ·rw [if_pos t1] at h ⊢
    rw [bne_iff_ne] at h;unfold InI at hi;exact ⟨fits_wd (plain_word (Or.inl t1)) (end_cons (by decide) (by decide)).1,Or.inl rfl,fits_sg2 (by decide),Or.inl rfl,numI_ok (by omega) (by omega) L hL hE⟩
   ·rw [if_neg t1] at h ⊢
    by_cases t2:v.type=2
    ·rw [if_pos t2]
     exact ⟨fits_wd (plain_word (Or.inr t2)) (end_cons (by decide) (by decide)).1,Or.inl rfl,fits_sg2 (by decide),Or.inl rfl,fits_wd (truth_word _) hE.1,hL⟩
    ·rw [if_neg t2] at h ⊢
     rw [Bool.and_eq_true] at h;exact ⟨fits_name (kind_nm h.1) hE.1,hL⟩
theorem sec_word {n:Int} (h:(n==0||(n==1||n==2))=true):wordB (secS n)=true:=by
 simp only [Bool.or_eq_true,beq_iff_eq] at h;rcases h with rfl|rfl|rfl<;>decide
theorem vaI_ok {v:Va} (h:vaB v=true) (hi:InI v.init):BlkOk (vaI v):=by
 intro L hL;unfold vaB at h;simp only [Bool.and_eq_true] at h;obtain ⟨h1,h2,h3⟩:=h;unfold vaI;simp only [List.append_assoc,List.cons_append,List.nil_append];have k1:ItOk (siI 59::.gap 10::wdI [69,78,68,95,86,65,82]::.gap 10::L):=⟨fits_any (by decide) (by decide) _,Or.inr rfl,fits_wd (by decide) (end_cons (by decide) (by decide)).1,Or.inr rfl,hL⟩;exact ⟨fits_wd (sec_word h2) (end_cons (by decide) (by decide)).1,Or.inr rfl,fits_name h1 (end_cons (by decide) (by decide)).1,Or.inl rfl,fits_hd (by decide) (by decide),Or.inl rfl,typeI_ok h3 hi _ k1 (end_cons (by decide) (by decide))⟩
theorem vasI_ok:∀ {l:List Va},l.all vaB=true→(∀ v∈l,InI v.init)→BlkOk (vasI l)
 | [],_,_,L,hL=>hL
 | v::l,h,hi,L,hL=>by
  rw [List.all_cons,Bool.and_eq_true] at h;rw [vasI,List.append_assoc];exact vaI_ok h.1 (hi v (List.mem_cons_self ..)) _ (vasI_ok h.2 (fun x hx=>hi x (List.mem_cons_of_mem _ hx)) L hL)
theorem pgI_ok {p:Pg} (h:pgB p=true) (hi:inP p):ItOk (pgI p):=by
 unfold pgB at h;simp only [Bool.and_eq_true] at h;obtain ⟨h1,-,h3,h4⟩:=h;have k1:ItOk [wdI [69,78,68,95,80,82,79,71,82,65,77],.gap 10]:=⟨fits_wd (by decide) (end_cons (by decide) (by decide)).1,Or.inr rfl,trivial⟩;exact ⟨fits_wd (by decide) (end_cons (by decide) (by decide)).1,Or.inl rfl,fits_name h1 (end_cons (by decide) (by decide)).1,Or.inr rfl,vasI_ok h3 hi.1 _ (stsI_ok h4 hi.2 _ k1)⟩
theorem lex_pg {p:Pg} (h:pgB p=true) (hi:inP p) (hs:(pgS p).length≤16384):∃ M e,lex (pgS p)=(0,M++[e],zeroT)∧M.map tk3=sgs (pgI p)∧e.kind=0∧e.text=[]∧e.n=0:=by
 rw [←pgI_txt] at hs ⊢;exact lex_items (pgI_ok h hi) hs
def Rw (r:Sg) (S:List (Int×Str×Int)) (q:Sg):Prop:=∃ M,r=M++q∧M.map tk3=S
theorem Rw.nil {r q:Sg} (h:Rw r [] q):r=q:=by
 obtain ⟨M,e,h⟩:=h;rw [List.map_eq_nil_iff] at h;rw [e,h,List.nil_append]
theorem Rw.cons {r q:Sg} {k n:Int} {t:Str} {S:List (Int×Str×Int)} (h:Rw r ((k,t,n)::S) q):∃ (ln cl:Nat) (r1:Sg),r=⟨k,t,n,ln,cl⟩::r1∧Rw r1 S q:=by
 obtain ⟨M,e,h⟩:=h;cases M with
 | nil=>cases h
 | cons x M=>
  rw [List.map_cons] at h;obtain ⟨h1,h2⟩:=List.cons.inj h;obtain ⟨k',t',n',ln,cl⟩:=x;have h1:(k',t',n')=(k,t,n):=h1;obtain ⟨rfl,h3⟩:=Prod.mk.inj h1;obtain ⟨rfl,rfl⟩:=Prod.mk.inj h3;exact ⟨ln,cl,M++q,by rw [e,List.cons_append],M,rfl,h2⟩
theorem Rw.app {r q:Sg} {S T:List (Int×Str×Int)} (h:Rw r (S++T) q):∃ m,Rw r S m∧Rw m T q:=by
 obtain ⟨M,e,h⟩:=h;obtain ⟨A,B,rfl,h1,h2⟩:=List.map_eq_append_iff.1 h;exact ⟨B++q,⟨A,by rw [e,List.append_assoc],h1⟩,B,rfl,h2⟩
theorem Rw.refl (r:Sg):Rw r [] r:=⟨[],rfl,rfl⟩
theorem txt_sign {k n:Int} {t:Str} {ln cl:Nat} {r:Sg} (h:k=2∨k=4):txt (⟨k,t,n,ln,cl⟩::r)=t:=by
 unfold txt;exact if_pos h
theorem txt_none {k n:Int} {t:Str} {ln cl:Nat} {r:Sg} (h:k=1∨k=3):txt (⟨k,t,n,ln,cl⟩::r)=[]:=by
 unfold txt;exact if_neg (by show ¬ (k=2∨k=4);omega)
theorem need_sign {k n:Int} {t:Str} {ln cl:Nat} {r:Sg} (h:k=2∨k=4):need t (⟨k,t,n,ln,cl⟩::r)=.ok () r:=by
 unfold need;rw [txt_sign h,if_pos rfl];rfl
theorem want_sign {k n:Int} {t:Str} {ln cl:Nat} {r:Sg}:want k (⟨k,t,n,ln,cl⟩::r)=.ok ⟨k,t,n,ln,cl⟩ r:=by
 unfold want;exact if_pos rfl
def NoOp (lv:Nat) (r:Sg):Prop:=∀ l,lv≤l→opOf l (txt r)=0
theorem NoOp.more {lv:Nat} {r:Sg} (h:NoOp lv r):NoOp (lv+1) r:=fun l hl=>h l (by omega)
def Give {α:Type} (deep:Prop) (Q:α→Prop) (q:Sg):Res α→Prop
 | .ok x r=>Q x∧r=q
 | .bad e _=>e=99∨(e=13∧deep)
theorem Give.bind {α β:Type} {dp:Prop} {Q:α→Prop} {Q':β→Prop} {q q':Sg} {p:Res α} {f:α→Sg→Res β} (h:Give dp Q q p) (hf:∀ x,Q x→Give dp Q' q' (f x q)):Give dp Q' q' (p.bind f):=by
 cases p with
 | ok x r=>
  obtain ⟨h1,rfl⟩:=h;exact hf x h1
 | bad e t=>exact h
theorem Give.mono {α:Type} {dp dp':Prop} {Q Q':α→Prop} {q:Sg} {p:Res α} (h:Give dp Q q p) (hd:dp→dp') (hq:∀ x,Q x→Q' x):Give dp' Q' q p:=by
 cases p with
 | ok x r=>exact ⟨hq x h.1,h.2⟩
 | bad e t=>exact h.imp id (fun h=>⟨h.1,hd h.2⟩)
theorem more_stop {dp:Prop} {Q:Ex→Prop} {q:Sg} {d lv:Nat} {x:Ex} (hn:opOf lv (txt q)=0) (hx:Q x):∀ f,Give dp Q q (moreF f d lv x q)
 | 0=>by rw [moreF];exact Or.inl rfl
 | f+1=>by rw [moreF,if_pos hn];exact ⟨hx,rfl⟩
theorem climb {dp:Prop} {Q:Ex→Prop} {r q:Sg} {d:Nat} (hu:∀ f,Give dp Q q (unaryF f d r)):∀ (k lv:Nat),lv+k=7→NoOp lv q→∀ f,Give dp Q q (exprF f d lv r)
 | _,_,_,_,0=>by rw [exprF];exact Or.inl rfl
 | 0,lv,h,hn,f+1=>by rw [exprF,if_pos (by omega)];exact hu f
 | k+1,lv,h,hn,f+1=>by
  rw [exprF,if_neg (by omega)];exact Give.bind (climb hu k (lv+1) (by omega) hn.more f) (fun x hx=>more_stop (hn lv (Nat.le_refl _)) hx f)
theorem climb_from {dp:Prop} {Q:Ex→Prop} {r q:Sg} {d l0:Nat} (h0:l0≤7) (hu:∀ f,Give dp Q q (exprF f d l0 r)):∀ (k lv:Nat),lv+k=l0→NoOp lv q→∀ f,Give dp Q q (exprF f d lv r)
 | 0,lv,h,hn,f=>by
  obtain rfl:lv=l0:=by omega
  exact hu f
 | _+1,_,_,_,0=>by rw [exprF];exact Or.inl rfl
 | k+1,lv,h,hn,f+1=>by
  rw [exprF,if_neg (by omega)];exact Give.bind (climb_from h0 hu k (lv+1) (by omega) hn.more f) (fun x hx=>more_stop (hn lv (Nat.le_refl _)) hx f)
theorem one_op {dp:Prop} {Qa Qb Q:Ex→Prop} {r m q:Sg} {d l0:Nat} {o:Tk} (h1:1≤l0) (h6:l0≤6) (ha:∀ f,Give dp Qa (o::m) (exprF f d (l0+1) r)) (hb:∀ f,Give dp Qb q (exprF f d (l0+1) m))
  (ho:opOf l0 (txt (o::m))≠0) (hn:NoOp l0 q) (hq:∀ x y,Qa x→Qb y→Q (.mk (opOf l0 (txt (o::m))) 0 [] [] [x,y] o.line)):∀ f,Give dp Q q (exprF f d l0 r)
 | 0=>by rw [exprF];exact Or.inl rfl
 | f+1=>by
  rw [exprF,if_neg (by omega)];refine Give.bind (ha f) (fun x hx=>?_);cases f with
  | zero=>rw [moreF];exact Or.inl rfl
  | succ f=>
   rw [moreF,if_neg ho];refine Give.bind (hb f) (fun y hy=>?_);have hz:=hq x y hx hy
   show Give dp Q q (if l0=4 then _ else _)
   split
   ·exact ⟨hz,rfl⟩
   ·exact more_stop (hn l0 (Nat.le_refl _)) hz f
mutual
def dpE:Ex→Nat
 | .mk op _ _ _ sub _=>if op=4 then 1+dpEs sub else if op=6∨op=7 then 2+dpEs sub else if 8≤op then 1+dpEs sub else 0
def dpEs:List Ex→Nat
 | []=>0
 | x::l=>max (dpE x) (dpEs l)
end
def levOf (op:Int):Nat:=if op=21 then 1 else if op=20 then 2 else if op=19 then 3 else if op=8∨op=9 then 5 else if op=10∨op=11∨op=12 then 6 else 4
theorem lev_op {op:Int} (h8:8≤op) (h21:op≤21):opOf (levOf op) (opS op)=op∧1≤levOf op∧levOf op≤6∧∀ l,levOf op<l→opOf l (opS op)=0:=by
 have big:∀ (s:Str) (l:Nat),7≤l→opOf l s=0:=fun s l h=>by
  match l,h with
  | l+7,_=>rfl
 rcases (show op=8∨op=9∨op=10∨op=11∨op=12∨op=13∨op=14∨op=15∨op=16∨op=17∨op=18∨op=19∨op=20∨op=21 by omega) with rfl|rfl|rfl|rfl|rfl|rfl|rfl|rfl|rfl|rfl|rfl|rfl|rfl|rfl
 all_goals
  refine ⟨by decide,by decide,by decide,fun l hl=>?_⟩;by_cases h7:7≤l
  ·exact big _ l h7
  ·rcases (show l=0∨l=1∨l=2∨l=3∨l=4∨l=5∨l=6 by omega) with rfl|rfl|rfl|rfl|rfl|rfl|rfl
   all_goals first|decide|exact absurd hl (by decide)
theorem noop_of {t:Str} (h:t=[41]∨t=[93]∨t=[59]∨t=[58,61]∨t=[44]∨t=[84,72,69,78]∨t=[79,70]∨t=[84,79]∨t=[66,89]∨t=[68,79]∨t=[69,78,68,95,82,69,80,69,65,84]) (l:Nat):opOf l t=0:=by
 by_cases h7:7≤l
 ·match l,h7 with
  | l+7,_=>rfl
 ·rcases (show l=0∨l=1∨l=2∨l=3∨l=4∨l=5∨l=6 by omega) with rfl|rfl|rfl|rfl|rfl|rfl|rfl
  all_goals rcases h with rfl|rfl|rfl|rfl|rfl|rfl|rfl|rfl|rfl|rfl|rfl<;>decide
def Nx (lv:Nat) (q:Sg):Prop:=NoOp lv q∧txt q≠[91]∧txt q≠[46]
theorem un_num {dp:Prop} {n:Int} (h0:0≤n) {ln0:Int} {d:Nat} {r q:Sg} (h:Rw r [(3,numS n,(n.toNat:Int))] q):∀ f,Give dp (fun e'=>exSame (.mk 1 n [] [] [] ln0) e'=true) q (unaryF f d r)
 | 0=>by rw [unaryF];exact Or.inl rfl
 | f+1=>by
  obtain ⟨ln,cl,r1,rfl,h1⟩:=h.cons;obtain rfl:=h1.nil;rw [unaryF,txt_none (Or.inr rfl),if_neg (by decide)];rw [if_pos (show (hd (⟨3,numS n,(n.toNat:Int),ln,cl⟩::r1)).kind=3 from rfl)];refine ⟨?_,rfl⟩
  show exSame _ (.mk 1 (n.toNat:Int) [] [] [] _)=true
  rw [Int.toNat_of_nonneg h0];simp [exSame,exsSame]
theorem un_truth {dp:Prop} {n:Int} (h0:0≤n) (h1:n≤1) {ln0:Int} {d:Nat} {r q:Sg} (h:Rw r [(2,truthS n,0)] q):∀ f,Give dp (fun e'=>exSame (.mk 2 n [] [] [] ln0) e'=true) q (unaryF f d r)
 | 0=>by rw [unaryF];exact Or.inl rfl
 | f+1=>by
  obtain ⟨ln,cl,r1,rfl,h2⟩:=h.cons;obtain rfl:=h2.nil;rcases (show n=0∨n=1 by omega) with rfl|rfl
  ·rw [unaryF,txt_sign (Or.inl rfl),if_neg (by decide)]
   rw [if_neg (show ¬ (hd (⟨2,truthS 0,0,ln,cl⟩::r1)).kind=3 from (by decide:¬ (2:Int)=3)),if_neg (by decide),if_pos (by decide)];exact ⟨by simp [exSame,exsSame],rfl⟩
  ·rw [unaryF,txt_sign (Or.inl rfl),if_neg (by decide)]
   rw [if_neg (show ¬ (hd (⟨2,truthS 1,0,ln,cl⟩::r1)).kind=3 from (by decide:¬ (2:Int)=3)),if_pos (by decide)];exact ⟨by simp [exSame,exsSame],rfl⟩
theorem un_want {dp:Prop} {Q:Ex→Prop} {nm:Str} {ln cl d:Nat} {r1 q:Sg} (h:∀ f,Give dp Q q (if txt r1=[91] then (indexF f d r1).bind fun x r'=>.ok (.mk 4 0 nm [] [x] ln) r' else if txt r1=[46] then (want 1 (r1.drop 1)).bind fun u r'=>.ok (.mk 5 0 nm u.text [] ln) r' else .ok (.mk 3 0 nm [] [] ln) r1)):∀ f,Give dp Q q (unaryF f d (⟨1,nm,0,ln,cl⟩::r1))
 | 0=>by rw [unaryF];exact Or.inl rfl
 | f+1=>by
  rw [unaryF,txt_none (Or.inl rfl),if_neg (by decide),if_neg (show ¬ (hd (⟨1,nm,0,ln,cl⟩::r1)).kind=3 from (by decide:¬ (1:Int)=3)),if_neg (by decide),if_neg (by decide),if_neg (by decide),want_sign];exact h f
theorem un_name {dp:Prop} {nm:Str} {ln0:Int} {d lv:Nat} {r q:Sg} (hq:Nx lv q) (h:Rw r [(1,nm,0)] q):∀ f,Give dp (fun e'=>exSame (.mk 3 0 nm [] [] ln0) e'=true) q (unaryF f d r):=by
 obtain ⟨ln,cl,r1,rfl,h1⟩:=h.cons;obtain rfl:=h1.nil;refine un_want fun f=>?_
 rw [if_neg hq.2.1,if_neg hq.2.2];exact ⟨by simp [exSame,exsSame],rfl⟩
theorem un_field {dp:Prop} {nm fd:Str} {ln0:Int} {d:Nat} {r q:Sg} (h:Rw r [(1,nm,0),(4,[46],0),(1,fd,0)] q):∀ f,Give dp (fun e'=>exSame (.mk 5 0 nm fd [] ln0) e'=true) q (unaryF f d r):=by
 obtain ⟨ln,cl,r1,rfl,h1⟩:=h.cons;obtain ⟨ln1,cl1,r2,rfl,h2⟩:=h1.cons;obtain ⟨ln2,cl2,r3,rfl,h3⟩:=h2.cons;obtain rfl:=h3.nil;refine un_want fun f=>?_
 rw [txt_sign (Or.inr rfl),if_neg (by decide),if_pos rfl,List.drop_one,List.tail_cons,want_sign];exact ⟨by simp [exSame,exsSame],rfl⟩
end sh
end Go.Proofs.YtdefgghhkknnpaaGreatDoor

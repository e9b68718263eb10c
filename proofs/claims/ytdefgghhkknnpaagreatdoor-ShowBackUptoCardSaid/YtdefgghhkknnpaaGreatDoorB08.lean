/- The signs of a program's text. Condition: a program such as a text could give; its text has at most 16384 bytes. Rows of signs that begin as a text's signs do: what the parser's small steps give. No condition. The levels of an expression: up from what stands alone, and over one operation. No condition but what each line says. The parser over an expression's signs. Condition: an expression such as a text could give. The parser over an expression's signs: what stands alone. Condition: an expression such as a text could give. The parser over an expression's signs. Condition: an expression such as a text could give. The parser over numbers, labels and arguments. Condition: a row that begins with their signs. The parser over rows of statements: what a statement begins with, how deep it goes, blocks. Condition: statements such as a text could give. The parser over a statement's signs. Condition: a statement such as a text could give. The parser over a statement's signs, kind by kind. Condition: a statement such as a text could give. The parser over a program's signs: its variables. Condition: variables such as a text could give, at most 64. What the parser gives of a shown program's text: the program, or too deep. Condition: a program such as a text could give; its text has at most 16384 bytes. How deep the parser goes in a program, by the document's given count of how deep it is. Condition: the count did not stop. -/
import Derived.Test.YtdefgghhkknnpaaGreatDoorB07
set_option linter.unusedVariables false
set_option linter.unusedSimpArgs false
set_option maxRecDepth 100000
set_option maxHeartbeats 40000000
namespace Go.Proofs.YtdefgghhkknnpaaGreatDoor
namespace sh
open ChangeShapes WideShapes ChangeAt RowKit k rr tk tr
def typeI (v:Va):List It:=
 if v.array=true then wdI [65,82,82,65,89]::siI 91::(numI v.lo++(.sg 4 [46,46] 0::(numI v.hi++[siI 93,.gap 32,wdI [79,70],.gap 32,wdI (plainS v.type)])))
 else if v.type=1 then wdI (plainS v.type)::.gap 32::.sg 4 [58,61] 0::.gap 32::numI v.init
 else if v.type=2 then [wdI (plainS v.type),.gap 32,.sg 4 [58,61] 0,.gap 32,wdI (truthS v.init)]
 else [.sg 1 (kindS v.type) 0]
def vaI (v:Va):List It:=wdI (secS v.sect)::.gap 10::.sg 1 v.name 0::.gap 32::siI 58::.gap 32::(typeI v++[siI 59,.gap 10,wdI [69,78,68,95,86,65,82],.gap 10])
def vasI:List Va→List It
 | []=>[]
 | v::l=>vaI v++vasI l
def pgI (p:Pg):List It:=wdI [80,82,79,71,82,65,77]::.gap 32::.sg 1 p.name 0::.gap 10::(vasI p.vars++(stsI p.body++[wdI [69,78,68,95,80,82,79,71,82,65,77],.gap 10]))
theorem typeI_txt (v:Va):itS (typeI v)=typeS v:=by
 unfold typeI typeS;repeat' split
 all_goals
  simp only [itS,It.txt,itS_append,numI_txt,List.append_assoc,List.append_nil,List.cons_append,List.nil_append]
theorem vaI_txt (v:Va):itS (vaI v)=vaS v:=by
 unfold vaI vaS;simp only [itS,It.txt,itS_append,typeI_txt,List.append_assoc,List.append_nil,List.cons_append,List.nil_append]
theorem vasI_txt:∀ l:List Va,itS (vasI l)=vasS l
 | []=>rfl
 | v::l=>by rw [vasI,vasS,itS_append,vaI_txt,vasI_txt l]
theorem pgI_txt (p:Pg):itS (pgI p)=pgS p:=by
 unfold pgI pgS;simp only [itS,It.txt,itS_append,vasI_txt,stsI_txt,List.append_assoc,List.append_nil,List.cons_append,List.nil_append]
theorem kind_nm {n:Int} (h:(kinds.any fun k=>k.2==n)=true):nmB (kindS n)=true:=by
 by_cases hm:n∈kindL
 ·have h2:kindL.all (fun n=>nmB (kindS n))=true:=by kernel_rfl
  rw [List.all_eq_true] at h2;exact h2 n hm
 ·rw [(kind_none hm).2.2] at h
  cases h
theorem plain_word {n:Int} (h:n=1∨n=2):wordB (plainS n)=true:=by
 rcases h with rfl|rfl<;>decide
theorem typeI_ok {v:Va} (h:typeB v=true) (hi:InI v.init):CdOk (typeI v):=by
 intro L hL hE;unfold typeB at h;unfold typeI;by_cases ha:v.array=true
 ·rw [if_pos ha] at h ⊢
  simp only [Bool.and_eq_true,Bool.or_eq_true,beq_iff_eq,decide_eq_true_eq] at h;obtain ⟨h1,h2,h3,h4,h5⟩:=h;simp only [List.append_assoc,List.cons_append,List.nil_append];have hw:=plain_word h1;have k1:ItOk (siI 93::.gap 32::wdI [79,70]::.gap 32::wdI (plainS v.type)::L):=⟨fits_any (by decide) (by decide) _,Or.inl rfl,fits_wd (by decide) (end_cons (by decide) (by decide)).1,Or.inl rfl,fits_wd hw hE.1,hL⟩;have k2:=numI_ok (n:=v.hi) (by omega) (by omega) _ k1 (end_cons (by decide) (by decide));have k3:=numI_ok (n:=v.lo) (by omega) (by omega) (.sg 4 [46,46] 0::(numI v.hi++(siI 93::.gap 32::wdI [79,70]::.gap 32::wdI (plainS v.type)::L))) ⟨fits_sg2 (by decide),k2⟩ (end_cons (by decide) (by decide));exact ⟨fits_wd (by decide) (end_cons (by decide) (by decide)).1,fits_any (by decide) (by decide) _,k3⟩
 ·rw [if_neg ha] at h ⊢
  split at h
  ·cases h
  ·by_cases t1:v.type=1
   ·rw [if_pos t1] at h ⊢
    rw [bne_iff_ne] at h;unfold InI at hi;exact ⟨fits_wd (plain_word (Or.inl t1)) (end_cons (by decide) (by decide)).1,Or.inl rfl,fits_sg2 (by decide),Or.inl rfl,numI_ok (by omega) (by omega) L hL hE⟩
   ·rw [if_neg t1] at h ⊢
    by_cases t2:v.type=2
    ·rw [if_pos t2]
     exact ⟨fits_wd (plain_word (Or.inr t2)) (end_cons (by decide) (by decide)).1,Or.inl rfl,fits_sg2 (by decide),Or.inl rfl,fits_wd (truth_word _) hE.1,hL⟩
    ·rw [if_neg t2] at h ⊢
     rw [Bool.and_eq_true] at h;exact ⟨fits_name (kind_nm h.1) hE.1,hL⟩
theorem sec_word {n:Int} (h:(n==0||(n==1||n==2))=true):wordB (secS n)=true:=by
 simp only [Bool.or_eq_true,beq_iff_eq] at h;rcases h with rfl|rfl|rfl<;>decide
theorem vaI_ok {v:Va} (h:vaB v=true) (hi:InI v.init):BlkOk (vaI v):=by
 intro L hL;unfold vaB at h;simp only [Bool.and_eq_true] at h;obtain ⟨h1,h2,h3⟩:=h;unfold vaI;simp only [List.append_assoc,List.cons_append,List.nil_append];have k1:ItOk (siI 59::.gap 10::wdI [69,78,68,95,86,65,82]::.gap 10::L):=⟨fits_any (by decide) (by decide) _,Or.inr rfl,fits_wd (by decide) (end_cons (by decide) (by decide)).1,Or.inr rfl,hL⟩;exact ⟨fits_wd (sec_word h2) (end_cons (by decide) (by decide)).1,Or.inr rfl,fits_name h1 (end_cons (by decide) (by decide)).1,Or.inl rfl,fits_hd (by decide) (by decide),Or.inl rfl,typeI_ok h3 hi _ k1 (end_cons (by decide) (by decide))⟩
theorem vasI_ok:∀ {l:List Va},l.all vaB=true→(∀ v∈l,InI v.init)→BlkOk (vasI l)
 | [],_,_,L,hL=>hL
 | v::l,h,hi,L,hL=>by
  rw [List.all_cons,Bool.and_eq_true] at h;rw [vasI,List.append_assoc];exact vaI_ok h.1 (hi v (List.mem_cons_self ..)) _ (vasI_ok h.2 (fun x hx=>hi x (List.mem_cons_of_mem _ hx)) L hL)
theorem pgI_ok {p:Pg} (h:pgB p=true) (hi:inP p):ItOk (pgI p):=by
 unfold pgB at h;simp only [Bool.and_eq_true] at h;obtain ⟨h1,-,h3,h4⟩:=h;have k1:ItOk [wdI [69,78,68,95,80,82,79,71,82,65,77],.gap 10]:=⟨fits_wd (by decide) (end_cons (by decide) (by decide)).1,Or.inr rfl,trivial⟩;exact ⟨fits_wd (by decide) (end_cons (by decide) (by decide)).1,Or.inl rfl,fits_name h1 (end_cons (by decide) (by decide)).1,Or.inr rfl,vasI_ok h3 hi.1 _ (stsI_ok h4 hi.2 _ k1)⟩
theorem lex_pg {p:Pg} (h:pgB p=true) (hi:inP p) (hs:(pgS p).length≤16384):∃ M e,lex (pgS p)=(0,M++[e],zeroT)∧M.map tk3=sgs (pgI p)∧e.kind=0∧e.text=[]∧e.n=0:=by
 rw [←pgI_txt] at hs ⊢;exact lex_items (pgI_ok h hi) hs
def Rw (r:Sg) (S:List (Int×Str×Int)) (q:Sg):Prop:=∃ M,r=M++q∧M.map tk3=S
theorem Rw.nil {r q:Sg} (h:Rw r [] q):r=q:=by
 obtain ⟨M,e,h⟩:=h;rw [List.map_eq_nil_iff] at h;rw [e,h,List.nil_append]
theorem Rw.cons {r q:Sg} {k n:Int} {t:Str} {S:List (Int×Str×Int)} (h:Rw r ((k,t,n)::S) q):∃ (ln cl:Nat) (r1:Sg),r=⟨k,t,n,ln,cl⟩::r1∧Rw r1 S q:=by
 obtain ⟨M,e,h⟩:=h;cases M with
 | nil=>cases h
 | cons x M=>
  rw [List.map_cons] at h;obtain ⟨h1,h2⟩:=List.cons.inj h;obtain ⟨k',t',n',ln,cl⟩:=x;have h1:(k',t',n')=(k,t,n):=h1;obtain ⟨rfl,h3⟩:=Prod.mk.inj h1;obtain ⟨rfl,rfl⟩:=Prod.mk.inj h3;exact ⟨ln,cl,M++q,by rw [e,List.cons_append],M,rfl,h2⟩
theorem Rw.app {r q:Sg} {S T:List (Int×Str×Int)} (h:Rw r (S++T) q):∃ m,Rw r S m∧Rw m T q:=by
 obtain ⟨M,e,h⟩:=h;obtain ⟨A,B,rfl,h1,h2⟩:=List.map_eq_append_iff.1 h;exact ⟨B++q,⟨A,by rw [e,List.append_assoc],h1⟩,B,rfl,h2⟩
theorem Rw.refl (r:Sg):Rw r [] r:=⟨[],rfl,rfl⟩
theorem txt_sign {k n:Int} {t:Str} {ln cl:Nat} {r:Sg} (h:k=2∨k=4):txt (⟨k,t,n,ln,cl⟩::r)=t:=by
 unfold txt;exact if_pos h
theorem txt_none {k n:Int} {t:Str} {ln cl:Nat} {r:Sg} (h:k=1∨k=3):txt (⟨k,t,n,ln,cl⟩::r)=[]:=by
 unfold txt;exact if_neg (by show ¬ (k=2∨k=4);omega)
theorem need_sign {k n:Int} {t:Str} {ln cl:Nat} {r:Sg} (h:k=2∨k=4):need t (⟨k,t,n,ln,cl⟩::r)=.ok () r:=by
 unfold need;rw [txt_sign h,if_pos rfl];rfl
theorem want_sign {k n:Int} {t:Str} {ln cl:Nat} {r:Sg}:want k (⟨k,t,n,ln,cl⟩::r)=.ok ⟨k,t,n,ln,cl⟩ r:=by
 unfold want;exact if_pos rfl
def NoOp (lv:Nat) (r:Sg):Prop:=∀ l,lv≤l→opOf l (txt r)=0
theorem NoOp.more {lv:Nat} {r:Sg} (h:NoOp lv r):NoOp (lv+1) r:=fun l hl=>h l (by omega)
def Give {α:Type} (deep:Prop) (Q:α→Prop) (q:Sg):Res α→Prop
 | .ok x r=>Q x∧r=q
 | .bad e _=>e=99∨(e=13∧deep)
theorem Give.bind {α β:Type} {dp:Prop} {Q:α→Prop} {Q':β→Prop} {q q':Sg} {p:Res α} {f:α→Sg→Res β} (h:Give dp Q q p) (hf:∀ x,Q x→Give dp Q' q' (f x q)):Give dp Q' q' (p.bind f):=by
 cases p with
 | ok x r=>
  obtain ⟨h1,rfl⟩:=h;exact hf x h1
 | bad e t=>exact h
theorem Give.mono {α:Type} {dp dp':Prop} {Q Q':α→Prop} {q:Sg} {p:Res α} (h:Give dp Q q p) (hd:dp→dp') (hq:∀ x,Q x→Q' x):Give dp' Q' q p:=by
 cases p with
 | ok x r=>exact ⟨hq x h.1,h.2⟩
 | bad e t=>exact h.imp id (fun h=>⟨h.1,hd h.2⟩)
theorem more_stop {dp:Prop} {Q:Ex→Prop} {q:Sg} {d lv:Nat} {x:Ex} (hn:opOf lv (txt q)=0) (hx:Q x):∀ f,Give dp Q q (moreF f d lv x q)
 | 0=>by rw [moreF];exact Or.inl rfl
 | f+1=>by rw [moreF,if_pos hn];exact ⟨hx,rfl⟩
theorem climb {dp:Prop} {Q:Ex→Prop} {r q:Sg} {d:Nat} (hu:∀ f,Give dp Q q (unaryF f d r)):∀ (k lv:Nat),lv+k=7→NoOp lv q→∀ f,Give dp Q q (exprF f d lv r)
 | _,_,_,_,0=>by rw [exprF];exact Or.inl rfl
 | 0,lv,h,hn,f+1=>by rw [exprF,if_pos (by omega)];exact hu f
 | k+1,lv,h,hn,f+1=>by
  rw [exprF,if_neg (by omega)];exact Give.bind (climb hu k (lv+1) (by omega) hn.more f) (fun x hx=>more_stop (hn lv (Nat.le_refl _)) hx f)
theorem climb_from {dp:Prop} {Q:Ex→Prop} {r q:Sg} {d l0:Nat} (h0:l0≤7) (hu:∀ f,Give dp Q q (exprF f d l0 r)):∀ (k lv:Nat),lv+k=l0→NoOp lv q→∀ f,Give dp Q q (exprF f d lv r)
 | 0,lv,h,hn,f=>by
  obtain rfl:lv=l0:=by omega
  exact hu f
 | _+1,_,_,_,0=>by rw [exprF];exact Or.inl rfl
 | k+1,lv,h,hn,f+1=>by
  rw [exprF,if_neg (by omega)];exact Give.bind (climb_from h0 hu k (lv+1) (by omega) hn.more f) (fun x hx=>more_stop (hn lv (Nat.le_refl _)) hx f)
theorem one_op {dp:Prop} {Qa Qb Q:Ex→Prop} {r m q:Sg} {d l0:Nat} {o:Tk} (h1:1≤l0) (h6:l0≤6) (ha:∀ f,Give dp Qa (o::m) (exprF f d (l0+1) r)) (hb:∀ f,Give dp Qb q (exprF f d (l0+1) m))
  (ho:opOf l0 (txt (o::m))≠0) (hn:NoOp l0 q) (hq:∀ x y,Qa x→Qb y→Q (.mk (opOf l0 (txt (o::m))) 0 [] [] [x,y] o.line)):∀ f,Give dp Q q (exprF f d l0 r)
 | 0=>by rw [exprF];exact Or.inl rfl
 | f+1=>by
  rw [exprF,if_neg (by omega)];refine Give.bind (ha f) (fun x hx=>?_);cases f with
  | zero=>rw [moreF];exact Or.inl rfl
  | succ f=>
   rw [moreF,if_neg ho];refine Give.bind (hb f) (fun y hy=>?_);have hz:=hq x y hx hy
   show Give dp Q q (if l0=4 then _ else _)
   split
   ·exact ⟨hz,rfl⟩
   ·exact more_stop (hn l0 (Nat.le_refl _)) hz f
mutual
def dpE:Ex→Nat
 | .mk op _ _ _ sub _=>if op=4 then 1+dpEs sub else if op=6∨op=7 then 2+dpEs sub else if 8≤op then 1+dpEs sub else 0
def dpEs:List Ex→Nat
 | []=>0
 | x::l=>max (dpE x) (dpEs l)
end
def levOf (op:Int):Nat:=if op=21 then 1 else if op=20 then 2 else if op=19 then 3 else if op=8∨op=9 then 5 else if op=10∨op=11∨op=12 then 6 else 4
theorem lev_op {op:Int} (h8:8≤op) (h21:op≤21):opOf (levOf op) (opS op)=op∧1≤levOf op∧levOf op≤6∧∀ l,levOf op<l→opOf l (opS op)=0:=by
 have big:∀ (s:Str) (l:Nat),7≤l→opOf l s=0:=fun s l h=>by
  match l,h with
  | l+7,_=>rfl
 rcases (show op=8∨op=9∨op=10∨op=11∨op=12∨op=13∨op=14∨op=15∨op=16∨op=17∨op=18∨op=19∨op=20∨op=21 by omega) with rfl|rfl|rfl|rfl|rfl|rfl|rfl|rfl|rfl|rfl|rfl|rfl|rfl|rfl
 all_goals
  refine ⟨by decide,by decide,by decide,fun l hl=>?_⟩;by_cases h7:7≤l
  ·exact big _ l h7
  ·rcases (show l=0∨l=1∨l=2∨l=3∨l=4∨l=5∨l=6 by omega) with rfl|rfl|rfl|rfl|rfl|rfl|rfl
   all_goals first|decide|exact absurd hl (by decide)
theorem noop_of {t:Str} (h:t=[41]∨t=[93]∨t=[59]∨t=[58,61]∨t=[44]∨t=[84,72,69,78]∨t=[79,70]∨t=[84,79]∨t=[66,89]∨t=[68,79]∨t=[69,78,68,95,82,69,80,69,65,84]) (l:Nat):opOf l t=0:=by
 by_cases h7:7≤l
 ·match l,h7 with
  | l+7,_=>rfl
 ·rcases (show l=0∨l=1∨l=2∨l=3∨l=4∨l=5∨l=6 by omega) with rfl|rfl|rfl|rfl|rfl|rfl|rfl
  all_goals rcases h with rfl|rfl|rfl|rfl|rfl|rfl|rfl|rfl|rfl|rfl|rfl<;>decide
def Nx (lv:Nat) (q:Sg):Prop:=NoOp lv q∧txt q≠[91]∧txt q≠[46]
theorem un_num {dp:Prop} {n:Int} (h0:0≤n) {ln0:Int} {d:Nat} {r q:Sg} (h:Rw r [(3,numS n,(n.toNat:Int))] q):∀ f,Give dp (fun e'=>exSame (.mk 1 n [] [] [] ln0) e'=true) q (unaryF f d r)
 | 0=>by rw [unaryF];exact Or.inl rfl
 | f+1=>by
  obtain ⟨ln,cl,r1,rfl,h1⟩:=h.cons;obtain rfl:=h1.nil;rw [unaryF,txt_none (Or.inr rfl),if_neg (by decide)];rw [if_pos (show (hd (⟨3,numS n,(n.toNat:Int),ln,cl⟩::r1)).kind=3 from rfl)];refine ⟨?_,rfl⟩
  show exSame _ (.mk 1 (n.toNat:Int) [] [] [] _)=true
  rw [Int.toNat_of_nonneg h0];simp [exSame,exsSame]
theorem un_truth {dp:Prop} {n:Int} (h0:0≤n) (h1:n≤1) {ln0:Int} {d:Nat} {r q:Sg} (h:Rw r [(2,truthS n,0)] q):∀ f,Give dp (fun e'=>exSame (.mk 2 n [] [] [] ln0) e'=true) q (unaryF f d r)
 | 0=>by rw [unaryF];exact Or.inl rfl
 | f+1=>by
  obtain ⟨ln,cl,r1,rfl,h2⟩:=h.cons;obtain rfl:=h2.nil;rcases (show n=0∨n=1 by omega) with rfl|rfl
  ·rw [unaryF,txt_sign (Or.inl rfl),if_neg (by decide)]
   rw [if_neg (show ¬ (hd (⟨2,truthS 0,0,ln,cl⟩::r1)).kind=3 from (by decide:¬ (2:Int)=3)),if_neg (by decide),if_pos (by decide)];exact ⟨by simp [exSame,exsSame],rfl⟩
  ·rw [unaryF,txt_sign (Or.inl rfl),if_neg (by decide)]
   rw [if_neg (show ¬ (hd (⟨2,truthS 1,0,ln,cl⟩::r1)).kind=3 from (by decide:¬ (2:Int)=3)),if_pos (by decide)];exact ⟨by simp [exSame,exsSame],rfl⟩
theorem un_want {dp:Prop} {Q:Ex→Prop} {nm:Str} {ln cl d:Nat} {r1 q:Sg} (h:∀ f,Give dp Q q (if txt r1=[91] then (indexF f d r1).bind fun x r'=>.ok (.mk 4 0 nm [] [x] ln) r' else if txt r1=[46] then (want 1 (r1.drop 1)).bind fun u r'=>.ok (.mk 5 0 nm u.text [] ln) r' else .ok (.mk 3 0 nm [] [] ln) r1)):∀ f,Give dp Q q (unaryF f d (⟨1,nm,0,ln,cl⟩::r1))
 | 0=>by rw [unaryF];exact Or.inl rfl
 | f+1=>by
  rw [unaryF,txt_none (Or.inl rfl),if_neg (by decide),if_neg (show ¬ (hd (⟨1,nm,0,ln,cl⟩::r1)).kind=3 from (by decide:¬ (1:Int)=3)),if_neg (by decide),if_neg (by decide),if_neg (by decide),want_sign];exact h f
theorem un_name {dp:Prop} {nm:Str} {ln0:Int} {d lv:Nat} {r q:Sg} (hq:Nx lv q) (h:Rw r [(1,nm,0)] q):∀ f,Give dp (fun e'=>exSame (.mk 3 0 nm [] [] ln0) e'=true) q (unaryF f d r):=by
 obtain ⟨ln,cl,r1,rfl,h1⟩:=h.cons;obtain rfl:=h1.nil;refine un_want fun f=>?_
 rw [if_neg hq.2.1,if_neg hq.2.2];exact ⟨by simp [exSame,exsSame],rfl⟩
theorem un_field {dp:Prop} {nm fd:Str} {ln0:Int} {d:Nat} {r q:Sg} (h:Rw r [(1,nm,0),(4,[46],0),(1,fd,0)] q):∀ f,Give dp (fun e'=>exSame (.mk 5 0 nm fd [] ln0) e'=true) q (unaryF f d r):=by
 obtain ⟨ln,cl,r1,rfl,h1⟩:=h.cons;obtain ⟨ln1,cl1,r2,rfl,h2⟩:=h1.cons;obtain ⟨ln2,cl2,r3,rfl,h3⟩:=h2.cons;obtain rfl:=h3.nil;refine un_want fun f=>?_
 rw [txt_sign (Or.inr rfl),if_neg (by decide),if_pos rfl,List.drop_one,List.tail_cons,want_sign];exact ⟨by simp [exSame,exsSame],rfl⟩
theorem un_paren {dp:Prop} {Q:Ex→Prop} {d ln cl ln1 cl1:Nat} {r1 q:Sg} (h:∀ f,Give dp Q (⟨4,[41],0,ln1,cl1⟩::q) (exprF f (d+1) 1 r1)) (hd0:32<d+1→dp):∀ f,Give dp Q q (unaryF f d (⟨4,[40],0,ln,cl⟩::r1))
 | 0=>by rw [unaryF];exact Or.inl rfl
 | f+1=>by
  rw [unaryF,txt_sign (Or.inr rfl),if_neg (by decide),if_neg (show ¬ (hd (⟨4,[40],0,ln,cl⟩::r1)).kind=3 from (by decide:¬ (4:Int)=3)),if_neg (by decide),if_neg (by decide),if_pos rfl];by_cases hb:32<d+1
  ·rw [if_pos hb];exact Or.inr ⟨rfl,hd0 hb⟩
  ·rw [if_neg hb,List.drop_one,List.tail_cons]
   refine Give.bind (h f) (fun x hx=>?_);rw [need_sign (Or.inr rfl)];exact ⟨hx,rfl⟩
theorem un_pre {dp:Prop} {Q Q':Ex→Prop} {k:Int} {t:Str} {d ln cl:Nat} {r1 q:Sg} (hk:k=2∨k=4) (ht:t=[45]∨t=[78,79,84]) (h:∀ f,Give dp Q q (unaryF f (d+1) r1)) (hd0:32<d+1→dp) (hq:∀ x,Q x→Q' (.mk (if t=[45] then 6 else 7) 0 [] [] [x] ln)):∀ f,Give dp Q' q (unaryF f d (⟨k,t,0,ln,cl⟩::r1))
 | 0=>by rw [unaryF];exact Or.inl rfl
 | f+1=>by
  rw [unaryF,txt_sign hk,if_pos ht];by_cases hb:32<d+1
  ·rw [if_pos hb];exact Or.inr ⟨rfl,hd0 hb⟩
  ·rw [if_neg hb,List.drop_one,List.tail_cons]
   exact Give.bind (h f) (fun x hx=>⟨hq x hx,rfl⟩)
def PaE (N:Nat):Prop:=∀ e:Ex,SizeOf.sizeOf e<N→exB e=true→∀ (d lv:Nat) (r q:Sg),1≤lv→lv≤7→Rw r (sgs (exI e)) q→Nx lv q→∀ f,Give (32<d+dpE e) (fun e'=>exSame e e'=true) q (exprF f d lv r)
theorem nx_sign {k n:Int} {t:Str} {ln cl:Nat} {r:Sg} (lv:Nat) (h:k=2∨k=4) (ht:∀ l,lv≤l→opOf l t=0) (h1:t≠[91]) (h2:t≠[46]):Nx lv (⟨k,t,n,ln,cl⟩::r):=
 ⟨fun l hl=>by rw [txt_sign h];exact ht l hl,by rw [txt_sign h];exact h1,by rw [txt_sign h];exact h2⟩
theorem parse_e_step {N:Nat} (IH:PaE N):PaE (N+1):=by
 intro e hN h d lv r q h1 h7 hr hq;suffices hu:∀ f,Give (32<d+dpE e) (fun e'=>exSame e e'=true) q (unaryF f d r) from climb hu (7-lv) lv (by omega) hq.1
 obtain ⟨op,n,nm,fd,sub,ln⟩:=e;simp only [Ex.mk.sizeOf_spec] at hN;rw [exB,Bool.and_eq_true] at h;obtain ⟨h9,hsb⟩:=h;unfold exOk at h9;simp only [Bool.and_eq_true,decide_eq_true_eq,beq_iff_eq] at h9;obtain ⟨⟨ho1,ho2⟩,hn1,hn2,hnm,hfd,hk⟩:=h9;rw [exI] at hr;rcases (show op=1∨op=2∨op=3∨op=4∨op=5∨op=6∨op=7∨8≤op by omega) with rfl|rfl|rfl|rfl|rfl|rfl|rfl|h8
 ·obtain rfl:sub=[]:=List.eq_nil_of_length_eq_zero hk
  obtain rfl:nm=[]:=by simpa [namedE,nameB] using hnm
  obtain rfl:fd=[]:=by simpa [fieldE,nameB] using hfd
  exact un_num hn1 hr
 ·obtain rfl:sub=[]:=List.eq_nil_of_length_eq_zero hk
  obtain rfl:nm=[]:=by simpa [namedE,nameB] using hnm
  obtain rfl:fd=[]:=by simpa [fieldE,nameB] using hfd
  exact un_truth hn1 hn2 hr
 ·obtain rfl:sub=[]:=List.eq_nil_of_length_eq_zero hk
  obtain rfl:fd=[]:=by simpa [fieldE,nameB] using hfd
  obtain rfl:n=0:=by have:n≤0:=hn2;omega
  exact un_name hq hr
 ·obtain ⟨y,rfl⟩:=one_of (show sub.length=1 from hk)
  obtain rfl:fd=[]:=by simpa [fieldE,nameB] using hfd
  obtain rfl:n=0:=by have:n≤0:=hn2;omega
  rw [exsB,Bool.and_eq_true] at hsb;replace hr:Rw r ((1,nm,0)::(4,[91],0)::sgs (exI y++[.sg 4 [93] 0])) q:=hr;obtain ⟨a1,a2,r1,rfl,hr1⟩:=hr.cons;obtain ⟨a3,a4,r2,rfl,hr2⟩:=hr1.cons;rw [sgs_append] at hr2;obtain ⟨m,hm,hr3⟩:=hr2.app;obtain ⟨a5,a6,r3,rfl,hr4⟩:=hr3.cons;obtain rfl:=hr4.nil;have hy:=IH y (by simp only [List.cons.sizeOf_spec] at hN;omega) hsb.1 (d+1) 1 r2 _ (by omega) (by omega) hm (nx_sign 1 (Or.inr rfl) (fun l _=>noop_of (by decide) l) (by decide) (by decide));have hdp:dpE (.mk 4 0 nm [] [y] ln)=1+dpE y:=by rw [dpE,if_pos rfl,dpEs,dpEs,Nat.max_zero]
  refine un_want fun f=>?_
  rw [txt_sign (Or.inr rfl),if_pos rfl];cases f with
  | zero=>rw [indexF];exact Or.inl rfl
  | succ f=>
   rw [indexF];by_cases hb:32<d+1
   ·rw [if_pos hb];exact Or.inr ⟨rfl,by rw [hdp];omega⟩
   ·rw [if_neg hb,List.drop_one,List.tail_cons]
    refine Give.bind (Q:=fun x=>exSame y x=true) (Give.bind ((hy f).mono (by rw [hdp];omega) (fun x hx=>hx)) (fun x hx=>by rw [need_sign (Or.inr rfl)];exact ⟨hx,rfl⟩)) (fun x hx=>⟨by simp [exSame,exsSame,hx],rfl⟩)
 ·obtain rfl:sub=[]:=List.eq_nil_of_length_eq_zero hk
  obtain rfl:n=0:=by have:n≤0:=hn2;omega
  exact un_field hr
 ·obtain ⟨y,rfl⟩:=one_of (show sub.length=1 from hk)
  obtain rfl:nm=[]:=by simpa [namedE,nameB] using hnm
  obtain rfl:fd=[]:=by simpa [fieldE,nameB] using hfd
  obtain rfl:n=0:=by have:n≤0:=hn2;omega
  rw [exsB,Bool.and_eq_true] at hsb;replace hr:Rw r ((4,[40],0)::(4,[45],0)::sgs (exI y++[.sg 4 [41] 0])) q:=hr;obtain ⟨a1,a2,r1,rfl,hr1⟩:=hr.cons;obtain ⟨a3,a4,r2,rfl,hr2⟩:=hr1.cons;rw [sgs_append] at hr2;obtain ⟨m,hm,hr3⟩:=hr2.app;obtain ⟨a5,a6,r3,rfl,hr4⟩:=hr3.cons;obtain rfl:=hr4.nil;have hdp:dpE (.mk 6 0 [] [] [y] ln)=2+dpE y:=by rw [dpE,if_neg (by decide),if_pos (Or.inl rfl),dpEs,dpEs,Nat.max_zero]
  rw [hdp];have hy:∀ f,Give (32<d+(2+dpE y)) (fun e'=>exSame y e'=true) (⟨4,[41],0,a5,a6⟩::r3) (unaryF f (d+1+1) r2):=fun f=>by
   have:=IH y (by simp only [List.cons.sizeOf_spec] at hN;omega) hsb.1 (d+1+1) 7 r2 _ (by omega) (by omega) hm (nx_sign 7 (Or.inr rfl) (fun l _=>noop_of (by decide) l) (by decide) (by decide)) (f+1);rw [exprF,if_pos rfl] at this;exact this.mono (by omega) (fun x hx=>hx)
  refine un_paren (climb (un_pre (Q':=fun e'=>exSame (.mk 6 0 [] [] [y] ln) e'=true) (Or.inr rfl) (Or.inl rfl) hy (by omega) (fun x hx=>by simp [exSame,exsSame,hx])) 6 1 (by omega) (nx_sign 1 (Or.inr rfl) (fun l _=>noop_of (by decide) l) (by decide) (by decide)).1) (by omega)
 ·obtain ⟨y,rfl⟩:=one_of (show sub.length=1 from hk)
  obtain rfl:nm=[]:=by simpa [namedE,nameB] using hnm
  obtain rfl:fd=[]:=by simpa [fieldE,nameB] using hfd
  obtain rfl:n=0:=by have:n≤0:=hn2;omega
  rw [exsB,Bool.and_eq_true] at hsb;replace hr:Rw r ((4,[40],0)::(2,[78,79,84],0)::sgs (exI y++[.sg 4 [41] 0])) q:=hr;obtain ⟨a1,a2,r1,rfl,hr1⟩:=hr.cons;obtain ⟨a3,a4,r2,rfl,hr2⟩:=hr1.cons;rw [sgs_append] at hr2;obtain ⟨m,hm,hr3⟩:=hr2.app;obtain ⟨a5,a6,r3,rfl,hr4⟩:=hr3.cons;obtain rfl:=hr4.nil;have hdp:dpE (.mk 7 0 [] [] [y] ln)=2+dpE y:=by rw [dpE,if_neg (by decide),if_pos (Or.inr rfl),dpEs,dpEs,Nat.max_zero]
  rw [hdp];have hy:∀ f,Give (32<d+(2+dpE y)) (fun e'=>exSame y e'=true) (⟨4,[41],0,a5,a6⟩::r3) (unaryF f (d+1+1) r2):=fun f=>by
   have:=IH y (by simp only [List.cons.sizeOf_spec] at hN;omega) hsb.1 (d+1+1) 7 r2 _ (by omega) (by omega) hm (nx_sign 7 (Or.inr rfl) (fun l _=>noop_of (by decide) l) (by decide) (by decide)) (f+1);rw [exprF,if_pos rfl] at this;exact this.mono (by omega) (fun x hx=>hx)
  refine un_paren (climb (un_pre (Q':=fun e'=>exSame (.mk 7 0 [] [] [y] ln) e'=true) (Or.inl rfl) (Or.inr rfl) hy (by omega) (fun x hx=>by simp [exSame,exsSame,hx])) 6 1 (by omega) (nx_sign 1 (Or.inr rfl) (fun l _=>noop_of (by decide) l) (by decide) (by decide)).1) (by omega)
 ·obtain ⟨y,z,rfl⟩:=two_of (show sub.length=2 from hk.trans (subs_e8 h8))
  have g1:namedE op=false:=by unfold namedE;simp;omega
  have g2:fieldE op=false:=by unfold fieldE;simp;omega
  rw [g1] at hnm;rw [g2] at hfd;obtain rfl:nm=[]:=by simpa [nameB] using hnm
  obtain rfl:fd=[]:=by simpa [nameB] using hfd
  unfold mostE at hn2;rw [if_neg (by omega),if_neg (by omega)] at hn2;obtain rfl:n=0:=by omega
  rw [exsB,exsB,Bool.and_eq_true,Bool.and_eq_true] at hsb;have e:exIt op 0 [] [] (exsI [y,z])=siI 40::(exI y++(.gap 32::opI op::.gap 32::(exI z++[siI 41]))):=by
   unfold exIt;rw [if_neg (by omega),if_neg (by omega),if_neg (by omega),if_neg (by omega),if_neg (by omega),if_neg (by omega),if_neg (by omega)];rfl
  rw [e] at hr;replace hr:Rw r ((4,[40],0)::sgs (exI y++(.gap 32::opI op::.gap 32::(exI z++[siI 41])))) q:=hr;obtain ⟨a1,a2,r1,rfl,hr1⟩:=hr.cons;rw [sgs_append] at hr1;obtain ⟨m,hm,hr2⟩:=hr1.app;obtain ⟨k,hkk⟩:∃ k:Int,(if op=12∨op=19∨op=20∨op=21 then 2 else 4)=k:=⟨_,rfl⟩;have hk2:k=2∨k=4:=by rw [←hkk];split<;>simp
  replace hr2:Rw m ((k,opS op,0)::sgs (exI z++[.sg 4 [41] 0])) q:=by rw [←hkk];exact hr2
  obtain ⟨a3,a4,m1,rfl,hr3⟩:=hr2.cons;rw [sgs_append] at hr3;obtain ⟨m2,hm2,hr4⟩:=hr3.app;obtain ⟨a5,a6,m3,rfl,hr5⟩:=hr4.cons;obtain rfl:=hr5.nil;obtain ⟨l1,l2,l3,l4⟩:=lev_op h8 ho2;have hdp:dpE (.mk op 0 [] [] [y,z] ln)=1+max (dpE y) (max (dpE z) 0):=by rw [dpE,if_neg (by omega),if_neg (by omega),if_pos h8,dpEs,dpEs,dpEs]
  rw [hdp];have hne:opS op≠[91]∧opS op≠[46]:=by
   rcases (show op=8∨op=9∨op=10∨op=11∨op=12∨op=13∨op=14∨op=15∨op=16∨op=17∨op=18∨op=19∨op=20∨op=21 by omega) with rfl|rfl|rfl|rfl|rfl|rfl|rfl|rfl|rfl|rfl|rfl|rfl|rfl|rfl<;>exact ⟨by decide,by decide⟩
  have ha:∀ f,Give (32<d+(1+max (dpE y) (max (dpE z) 0))) (fun e'=>exSame y e'=true) (⟨k,opS op,0,a3,a4⟩::m1) (exprF f (d+1) (levOf op+1) r1):=fun f=>
   (IH y (by simp only [List.cons.sizeOf_spec] at hN;omega) hsb.1 (d+1) (levOf op+1) r1 _ (by omega) (by omega) hm (nx_sign _ hk2 (fun l hl=>l4 l (by omega)) hne.1 hne.2) f).mono (by omega) (fun x hx=>hx)
  have hb:∀ f,Give (32<d+(1+max (dpE y) (max (dpE z) 0))) (fun e'=>exSame z e'=true) (⟨4,[41],0,a5,a6⟩::m3) (exprF f (d+1) (levOf op+1) m1):=fun f=>
   (IH z (by simp only [List.cons.sizeOf_spec] at hN;omega) hsb.2.1 (d+1) (levOf op+1) m1 _ (by omega) (by omega) hm2 (nx_sign _ (Or.inr rfl) (fun l _=>noop_of (by decide) l) (by decide) (by decide)) f).mono (by omega) (fun x hx=>hx)
  have ho:∀ lvl,NoOp lvl (⟨4,[41],0,a5,a6⟩::m3):=fun lvl=>(nx_sign lvl (Or.inr rfl) (fun l _=>noop_of (by decide) l) (by decide) (by decide)).1
  exact un_paren (climb_from (l0:=levOf op) (by omega) (one_op (Q:=fun e'=>exSame (.mk op 0 [] [] [y,z] ln) e'=true) l2 l3 ha hb (by rw [txt_sign hk2,l1];omega) (ho _) (fun x y' hx hy=>by rw [txt_sign hk2,l1];simp [exSame,exsSame,hx,hy])) (levOf op-1) 1 (by omega) (ho 1)) (by omega)
theorem parse_e_all:∀ N,PaE N
 | 0=>fun _ h=>absurd h (by omega)
 | N+1=>parse_e_step (parse_e_all N)
theorem parse_ex {e:Ex} (h:exB e=true) {d:Nat} {r q:Sg} (hr:Rw r (sgs (exI e)) q) (hq:Nx 1 q) (f:Nat):Give (32<d+dpE e) (fun e'=>exSame e e'=true) q (expr f d r):=
 parse_e_all (SizeOf.sizeOf e+1) e (by omega) h d 1 r q (by omega) (by omega) hr hq f
theorem int_num {dp:Prop} {n:Int} {r q:Sg} (h:Rw r (sgs (numI n)) q):Give dp (fun m=>m=n) q (intg r):=by
 unfold numI at h;unfold intg;split at h
 ·replace h:Rw r [(4,[45],0),(3,numS (-n),(((-n).toNat:Nat):Int))] q:=h
  obtain ⟨a1,a2,r1,rfl,h1⟩:=h.cons;obtain ⟨a3,a4,r2,rfl,h2⟩:=h1.cons;obtain rfl:=h2.nil;rw [txt_sign (Or.inr rfl),if_pos rfl,List.drop_one,List.tail_cons,want_sign];exact ⟨by show -(((-n).toNat:Nat):Int)=n;omega,rfl⟩
 ·replace h:Rw r [(3,numS n,((n.toNat:Nat):Int))] q:=h
  obtain ⟨a1,a2,r1,rfl,h1⟩:=h.cons;obtain rfl:=h1.nil;rw [txt_none (Or.inr rfl),if_neg (by decide),want_sign];exact ⟨by show ((n.toNat:Nat):Int)=n;omega,rfl⟩
theorem num_hd {n:Int} {r q:Sg} (h:Rw r (sgs (numI n)) q):(hd r).kind=3∨txt r=[45]:=by
 unfold numI at h;split at h
 ·replace h:Rw r [(4,[45],0),(3,numS (-n),(((-n).toNat:Nat):Int))] q:=h
  obtain ⟨a1,a2,r1,rfl,h1⟩:=h.cons;exact Or.inr rfl
 ·replace h:Rw r [(3,numS n,((n.toNat:Nat):Int))] q:=h
  obtain ⟨a1,a2,r1,rfl,h1⟩:=h.cons;exact Or.inl rfl
def labJ:Bool→List Int→List (Int×Str×Int)
 | m,a::b::l=>(if m=true then [(4,[44],0)] else [])++(sgs (numI a)++((if b=a then [] else (4,[46,46],0)::sgs (numI b))++labJ true l))
 | _,_=>[]
theorem lab_sgs:∀ (l:List Int) (m:Bool),sgs (labI m l)=labJ m l++[(4,[58],0)]
 | [],m=>by cases m<;>rfl
 | [a],m=>by cases m<;>rfl
 | a::b::l,m=>by
  rw [labI,labJ,sgs_append,sgs_append,sgs_append,lab_sgs l true];have h1:sgs (if m=true then [siI 44,.gap 32] else [])=(if m=true then [(4,[44],0)] else []):=by cases m<;>rfl
  have h2:sgs (if b=a then [] else .sg 4 [46,46] 0::numI b)=(if b=a then [] else (4,[46,46],0)::sgs (numI b)):=by
   split<;>rfl
  rw [h1,h2];simp only [List.append_assoc]
theorem lab_next {l:List Int} {r q:Sg} (hq:txt q=[58]) (h:Rw r (labJ true l) q):txt r=[58]∨txt r=[44]:=by
 match l with
 | []=>rw [show r=q from Rw.nil h];exact Or.inl hq
 | [a]=>rw [show r=q from Rw.nil h];exact Or.inl hq
 | a::b::l=>
  rw [labJ,if_pos rfl] at h;obtain ⟨_,_,r1,rfl,_⟩:=Rw.cons (S:=sgs (numI a)++((if b=a then [] else (4,[46,46],0)::sgs (numI b))++labJ true l)) h;exact Or.inr rfl
theorem labels_p {dp:Prop} {q:Sg} (hq:txt q=[58]):∀ (f:Nat) (l acc:List Int) (r:Sg),l.length % 2=0→l≠[]→Rw r (labJ false l) q→Give dp (fun x=>x=acc++l) q (labelsF f r acc)
 | 0,_,_,_,_,_,_=>by rw [labelsF];exact Or.inl rfl
 | f+1,[],_,_,_,h,_=>absurd rfl h
 | f+1,[a],_,_,h,_,_=>by simp at h
 | f+1,a::b::l,acc,r,h2,_,h=>by
  rw [labJ] at h;simp only [Bool.false_eq_true,if_false,List.nil_append] at h;obtain ⟨m1,h1,h3⟩:=h.app;obtain ⟨m2,h4,h5⟩:=h3.app;rw [labelsF];refine Give.bind (int_num h1) (fun x hx=>?_);subst hx;refine Give.bind (Q:=fun c=>c=b) (q:=m2) ?_ (fun c hc=>?_)
  ·by_cases e:b=x
   ·rw [if_pos e] at h4
    obtain rfl:=h4.nil;have hn:=lab_next hq h5;rw [if_neg (by rcases hn with hn|hn<;>rw [hn]<;>decide)];exact ⟨e.symm,rfl⟩
   ·rw [if_neg e] at h4
    obtain ⟨_,_,r1,rfl,h6⟩:=h4.cons;rw [txt_sign (Or.inr rfl),if_pos rfl,List.drop_one,List.tail_cons];exact int_num h6
  ·subst hc
   cases l with
   | nil=>
    obtain rfl:=Rw.nil h5;rw [hq,if_neg (by decide)];exact ⟨rfl,rfl⟩
   | cons y l=>
    cases l with
    | nil=>simp at h2
    | cons z l=>
     rw [labJ,if_pos rfl] at h5;obtain ⟨_,_,r2,rfl,h6⟩:=Rw.cons (S:=sgs (numI y)++((if z=y then [] else (4,[46,46],0)::sgs (numI z))++labJ true l)) h5;rw [txt_sign (Or.inr rfl),if_pos rfl,List.drop_one,List.tail_cons];have:=labels_p (dp:=dp) hq f (y::z::l) (acc++[x,c]) r2 (by simp only [List.length_cons] at h2 ⊢;omega) (by simp) (by rw [labJ];simpa using h6);simpa using this
theorem arg_next {fs:List Str} {C:List (List It)} {r q:Sg} (hq:Nx 1 q) (h:Rw r (sgs (argI true fs C)) q):Nx 1 r:=by
 cases fs with
 | nil=>
  rw [argI] at h;obtain rfl:=Rw.nil h;exact hq
 | cons f fs=>
  rw [argI] at h;obtain ⟨_,_,r1,rfl,_⟩:=Rw.cons (k:=4) (t:=[44]) (n:=0) (S:=sgs ([.gap 32,.sg 1 f 0,.gap 32,.sg 4 [58,61] 0,.gap 32]++C.headD []++argI true fs (C.drop 1))) h;exact nx_sign 1 (Or.inr rfl) (fun l _=>noop_of (by decide) l) (by decide) (by decide)
theorem args_p {d:Nat} {q:Sg} (hq:txt q=[41]) (hk:Nx 1 q):∀ (f:Nat) (fs:List Str) (cs:List Ex) (a1:List Str) (a2:List Ex) (r:Sg),fs≠[]→cs.length=fs.length→exsB cs=true→Rw r (sgs (argI false fs (exsI cs))) q →
  Give (32<d+dpEs cs) (fun x=>x.1=a1++fs∧∃ cs',x.2=a2++cs'∧exsSame cs cs'=true) q (argsF f d r a1 a2)
 | 0,_,_,_,_,_,_,_,_,_=>by rw [argsF];exact Or.inl rfl
 | f+1,[],_,_,_,_,h,_,_,_=>absurd rfl h
 | f+1,n::fs,[],_,_,_,_,h,_,_=>by simp at h
 | f+1,n::fs,x::cs,a1,a2,r,_,hl,hb,h=>by
  rw [exsB,Bool.and_eq_true] at hb;rw [exsI,argI] at h;replace h:Rw r ((1,n,0)::(4,[58,61],0)::sgs (exI x++argI true fs (exsI cs))) q:=h;obtain ⟨_,_,r1,rfl,h1⟩:=h.cons;obtain ⟨_,_,r2,rfl,h2⟩:=h1.cons;rw [sgs_append] at h2;obtain ⟨m,h3,h4⟩:=h2.app;have hd:dpEs (x::cs)=max (dpE x) (dpEs cs):=by rw [dpEs]
  rw [argsF,want_sign];refine Give.bind (Q:=fun t=>t.text=n) (q:=_) ⟨rfl,rfl⟩ (fun t ht=>?_);rw [need_sign (Or.inr rfl)];refine Give.bind (Q:=fun _=>True) (q:=_) ⟨trivial,rfl⟩ (fun _ _=>?_);refine Give.bind ((parse_ex hb.1 h3 (arg_next hk h4) f).mono (by omega) (fun x hx=>hx)) (fun y hy=>?_);cases fs with
  | nil=>
   obtain rfl:cs=[]:=by simpa using hl
   rw [argI] at h4;obtain rfl:=Rw.nil h4;rw [hq,if_neg (by decide)];exact ⟨⟨by rw [ht],[y],rfl,by simp [exsSame,hy]⟩,rfl⟩
  | cons n2 fs=>
   cases cs with
   | nil=>simp at hl
   | cons x2 cs=>
    rw [argI] at h4;replace h4:Rw m ((4,[44],0)::sgs (argI false (n2::fs) (exsI (x2::cs)))) q:=by rw [argI];exact h4
    obtain ⟨_,_,r3,rfl,h5⟩:=h4.cons;rw [txt_sign (Or.inr rfl),if_pos rfl,List.drop_one,List.tail_cons];refine (args_p hq hk f (n2::fs) (x2::cs) (a1++[t.text]) (a2++[y]) r3 (by simp) (by simpa using hl) hb.2 h5).mono (by omega) ?_;rintro z ⟨hz1,cs',hz2,hz3⟩;exact ⟨by rw [hz1,ht];simp,y::cs',by rw [hz2];simp,by rw [exsSame,hy,hz3];rfl⟩
mutual
def dpS:St→Nat
 | .mk _ _ dst val cs _ _ bs _=>1+max (max (dpE dst) (dpE val)) (max (dpEs cs) (dpBs bs))
def dpSs:List St→Nat
 | []=>0
 | x::l=>max (dpS x) (dpSs l)
def dpBs:List (List St)→Nat
 | []=>0
 | b::l=>max (dpSs b) (dpBs l)
end
def Hds:List Str:=[[],[73,70],[67,65,83,69],[70,79,82],[87,72,73,76,69],[82,69,80,69,65,84],[69,88,73,84],[82,69,84,85,82,78]]
theorem st_hd {x:St} (h:stB x=true) {r q:Sg} (hr:Rw r (sgs (stI x)) q):txt r∈Hds∧(hd r).kind≠3:=by
 obtain ⟨op,nm,dst,val,cs,ls,fs,bs,ln⟩:=x;rw [stB_fit] at h;simp only [Bool.and_eq_true] at h;obtain ⟨hin,hnm,hd,hv,hc,hcn,hf,hlb,hbl⟩:=h;unfold inS9 at hin;simp only [Bool.and_eq_true,decide_eq_true_eq] at hin;have key:∀ (k:Int) (t:Str) (n:Int) (S:List (Int×Str×Int)),Rw r ((k,t,n)::S) q→(k=1∨(k=2∧t∈Hds))→txt r∈Hds∧(tr.hd r).kind≠3:=by
  intro k t n S h1 h2;obtain ⟨_,_,r1,rfl,_⟩:=h1.cons;rcases h2 with rfl|⟨rfl,h2⟩
  ·exact ⟨by rw [txt_none (Or.inl rfl)];decide,(by decide:¬ (1:Int)=3)⟩
  ·exact ⟨by rw [txt_sign (Or.inl rfl)];exact h2,(by decide:¬ (2:Int)=3)⟩
 rw [stI] at hr;rcases (show op=1∨op=2∨op=3∨op=4∨op=5∨op=6∨op=7∨op=8∨op=9 by omega) with rfl|rfl|rfl|rfl|rfl|rfl|rfl|rfl|rfl
 ·have hd:placeB dst=true:=hd
  unfold placeB at hd;rw [Bool.and_eq_true] at hd;obtain ⟨o,n,dn,df,sub,dl⟩:=dst;have ho:o=3∨o=4:=by simpa [opE] using hd.1
  rcases ho with rfl|rfl
  ·exact key 1 dn 0 _ hr (Or.inl rfl)
  ·exact key 1 dn 0 _ hr (Or.inl rfl)
 ·cases cs with
  | nil=>exact absurd hcn (by simp [cntB,cntS])
  | cons c cs=>
   exact key 2 [73,70] 0 _ hr (Or.inr ⟨rfl,by decide⟩)
 ·exact key 2 [67,65,83,69] 0 _ hr (Or.inr ⟨rfl,by decide⟩)
 ·exact key 2 [70,79,82] 0 _ hr (Or.inr ⟨rfl,by decide⟩)
 ·exact key 2 [87,72,73,76,69] 0 _ hr (Or.inr ⟨rfl,by decide⟩)
 ·exact key 2 [82,69,80,69,65,84] 0 _ hr (Or.inr ⟨rfl,by decide⟩)
 ·exact key 2 [69,88,73,84] 0 _ hr (Or.inr ⟨rfl,by decide⟩)
 ·exact key 2 [82,69,84,85,82,78] 0 _ hr (Or.inr ⟨rfl,by decide⟩)
 ·exact key 1 nm 0 _ hr (Or.inl rfl)
def EndsB (ends:List Str):Bool:=Hds.all (fun s=>!oneOf s ends)
theorem ends_no {ends:List Str} (h:EndsB ends=true) {s:Str} (hs:s∈Hds):¬ oneOf s ends=true:=by
 unfold EndsB at h;rw [List.all_eq_true] at h;have:=h s hs;simpa using this
def PaS (N:Nat):Prop:=∀ x:St,SizeOf.sizeOf x<N→stB x=true→∀ (d:Nat) (r q:Sg),Rw r (sgs (stI x)) q→∀ f,Give (32<d+dpS x) (fun x'=>stSame x x'=true) q (stmtF f d r)
theorem stmts_p {N:Nat} (IH:PaS N) {ends:List Str} (he:EndsB ends=true) {d:Nat} {q:Sg} (hq:oneOf (txt q) ends=true):∀ (l:List St),SizeOf.sizeOf l≤N→stsB l=true→∀ (r:Sg),Rw r (sgs (stsI l)) q→∀ (f:Nat) (acc:List St),
  Give (32<d+dpSs l) (fun X=>∃ l',X=acc++l'∧stsSame l l'=true) q (stmtsF f d ends r acc)
 | _,_,_,_,_,0,_=>by rw [stmtsF];exact Or.inl rfl
 | [],_,_,r,h,f+1,acc=>by
  rw [stsI] at h;obtain rfl:=Rw.nil h;rw [stmtsF,if_pos hq];exact ⟨⟨[],by simp,by simp [stsSame]⟩,rfl⟩
 | x::l,hN,hb,r,h,f+1,acc=>by
  rw [stsB,Bool.and_eq_true] at hb;rw [stsI,sgs_append] at h;obtain ⟨m,h1,h2⟩:=h.app;have hdp:dpSs (x::l)=max (dpS x) (dpSs l):=by rw [dpSs]
  rw [stmtsF,if_neg (ends_no he (st_hd hb.1 h1).1)];simp only [List.cons.sizeOf_spec] at hN;refine Give.bind ((IH x (by omega) hb.1 d r m h1 f).mono (by omega) (fun y hy=>hy)) (fun y hy=>?_);refine (stmts_p IH he hq l (by omega) hb.2 m h2 f (acc++[y])).mono (by omega) ?_;rintro X ⟨l',rfl,hs⟩;exact ⟨y::l',by simp,by rw [stsSame,hy,hs];rfl⟩
abbrev cEnds:List Str:=[[45],[69,76,83,69],[69,78,68,95,67,65,83,69]]
theorem block_p {N:Nat} (IH:PaS N) {d:Nat} {q:Sg} (hq:(hd q).kind=3∨oneOf (txt q) cEnds=true):∀ (l:List St),SizeOf.sizeOf l≤N→stsB l=true→∀ (r:Sg),Rw r (sgs (stsI l)) q→∀ (f:Nat) (acc:List St),
  Give (32<d+dpSs l) (fun X=>∃ l',X=acc++l'∧stsSame l l'=true) q (blockF f d r acc)
 | _,_,_,_,_,0,_=>by rw [blockF];exact Or.inl rfl
 | [],_,_,r,h,f+1,acc=>by
  rw [stsI] at h;obtain rfl:=Rw.nil h;rw [blockF];rw [if_pos (show (hd r).kind=3∨oneOf (txt r) [[45],[69,76,83,69],[69,78,68,95,67,65,83,69]]=true from hq)];exact ⟨⟨[],by simp,by simp [stsSame]⟩,rfl⟩
 | x::l,hN,hb,r,h,f+1,acc=>by
  rw [stsB,Bool.and_eq_true] at hb;rw [stsI,sgs_append] at h;obtain ⟨m,h1,h2⟩:=h.app;have hdp:dpSs (x::l)=max (dpS x) (dpSs l):=by rw [dpSs]
  have hh:=st_hd hb.1 h1;have hno:¬ ((hd r).kind=3∨oneOf (txt r) [[45],[69,76,83,69],[69,78,68,95,67,65,83,69]]=true):=by
   intro hc;rcases hc with hc|hc
   ·exact hh.2 hc
   ·exact ends_no (ends:=cEnds) (by decide) hh.1 hc
  rw [blockF,if_neg hno];simp only [List.cons.sizeOf_spec] at hN;refine Give.bind ((IH x (by omega) hb.1 d r m h1 f).mono (by omega) (fun y hy=>hy)) (fun y hy=>?_);refine (block_p IH hq l (by omega) hb.2 m h2 f (acc++[y])).mono (by omega) ?_;rintro X ⟨l',rfl,hs⟩;exact ⟨y::l',by simp,by rw [stsSame,hy,hs];rfl⟩
theorem need_give {dp:Prop} {k n:Int} {t:Str} {ln cl:Nat} {r:Sg} (h:k=2∨k=4):Give dp (fun _=>True) r (need t (⟨k,t,n,ln,cl⟩::r)):=by
 rw [need_sign h];exact ⟨trivial,rfl⟩
theorem nx_word {t:Str} {n:Int} {ln cl:Nat} {r:Sg} (ht:t=[84,72,69,78]∨t=[79,70]∨t=[84,79]∨t=[66,89]∨t=[68,79]∨t=[69,78,68,95,82,69,80,69,65,84]):Nx 1 (⟨2,t,n,ln,cl⟩::r):=
 nx_sign 1 (Or.inl rfl) (fun l _=>noop_of (by rcases ht with h|h|h|h|h|h<;>simp [h]) l) (by rcases ht with rfl|rfl|rfl|rfl|rfl|rfl<;>decide) (by rcases ht with rfl|rfl|rfl|rfl|rfl|rfl<;>decide)
theorem one_end {t:Str} {n:Int} {ln cl:Nat} {r:Sg} {ends:List Str} (h:oneOf t ends=true):oneOf (txt (⟨2,t,n,ln,cl⟩::r)) ends=true:=by rw [txt_sign (Or.inl rfl)];exact h
def ifEnds:List Str:=[[69,76,83,73,70],[69,76,83,69],[69,78,68,95,73,70]]
theorem if_p {N:Nat} (IH:PaS N) {d:Nat} {q:Sg}:∀ (f:Nat) (C:List Ex) (B:List (List St)) (c:Ex) (b:List St) (cs:List Ex) (bs:List (List St)) (r:Sg),(B.length=C.length∨B.length=C.length+1)→exsB (c::C)=true→blksB (b::B)=true→SizeOf.sizeOf (b::B)≤N →
  Rw r (sgs (exI c++(.gap 32::wdI [84,72,69,78]::.gap 10::(stsI b++(ifI [69,76,83,73,70] (exsI C) (blksI B)++[wdI [69,78,68,95,73,70]]))))) q →
  Give (32<d+max (dpEs (c::C)) (dpBs (b::B))) (fun g=>∃ cs' bs',(∀ ln,g ln=.mk 2 [] zeroE zeroE (cs++cs') [] [] (bs++bs') ln)∧exsSame (c::C) cs'=true∧blksSame (b::B) bs'=true) q (ifF f d r cs bs)
 | 0,_,_,_,_,_,_,_,_,_,_,_,_=>by rw [ifF];exact Or.inl rfl
 | f+1,C,B,c,b,cs,bs,r,hl,hc,hb,hN,h=>by
  rw [exsB,Bool.and_eq_true] at hc;rw [blksB,Bool.and_eq_true] at hb;have hd1:dpEs (c::C)=max (dpE c) (dpEs C):=by rw [dpEs]
  have hd2:dpBs (b::B)=max (dpSs b) (dpBs B):=by rw [dpBs]
  rw [hd1,hd2];simp only [List.cons.sizeOf_spec] at hN;rw [sgs_append] at h;obtain ⟨m,h1,h2⟩:=h.app;replace h2:Rw m ((2,[84,72,69,78],0)::sgs (stsI b++(ifI [69,76,83,73,70] (exsI C) (blksI B)++[wdI [69,78,68,95,73,70]]))) q:=h2;obtain ⟨_,_,r1,rfl,h3⟩:=h2.cons;rw [sgs_append,sgs_append] at h3;obtain ⟨m2,h4,h5⟩:=h3.app;rw [ifF];refine Give.bind ((parse_ex hc.1 h1 (nx_word (by simp)) f).mono (by omega) (fun x hx=>hx)) (fun x hx=>?_);refine Give.bind (need_give (Or.inl rfl)) (fun _ _=>?_);have hS:oneOf (txt m2) ifEnds=true→Give (32<d+max (max (dpE c) (dpEs C)) (max (dpSs b) (dpBs B))) (fun X=>stsSame b X=true) m2 (stmtsF f d ifEnds r1 []):=fun hm=>
   (stmts_p IH (ends:=ifEnds) (by decide) hm b (by omega) hb.1 r1 h4 f []).mono (by omega) (by rintro X ⟨l',rfl,hs⟩;exact hs)
  cases C with
  | cons c2 C=>
   cases B with
   | nil=>exact absurd hl (by simp)
   | cons b2 B=>
    replace h5:Rw m2 ((2,[69,76,83,73,70],0)::(sgs (exI c2++(.gap 32::wdI [84,72,69,78]::.gap 10::(stsI b2++ifI [69,76,83,73,70] (exsI C) (blksI B))))++sgs [wdI [69,78,68,95,73,70]])) q:=h5;obtain ⟨_,_,r2,rfl,h6⟩:=h5.cons;rw [←sgs_append] at h6;simp only [List.append_assoc,List.cons_append] at h6;refine Give.bind (hS (one_end (by decide))) (fun Y hY=>?_);rw [txt_sign (Or.inl rfl),if_pos rfl,List.drop_one,List.tail_cons];refine (if_p IH f C B c2 b2 (cs++[x]) (bs++[Y]) r2 (by simpa using hl) hc.2 hb.2 (by simp only [List.cons.sizeOf_spec] at hN ⊢;omega) h6).mono (by omega) ?_;rintro g ⟨cs',bs',hg,hs1,hs2⟩;exact ⟨x::cs',Y::bs',fun ln=>by rw [hg];simp,by rw [exsSame,hx,hs1];rfl,by rw [blksSame,hY,hs2];rfl⟩
  | nil=>
   cases B with
   | nil=>
    replace h5:Rw m2 [(2,[69,78,68,95,73,70],0)] q:=h5;obtain ⟨_,_,r2,rfl,h6⟩:=h5.cons;obtain rfl:=h6.nil;refine Give.bind (hS (one_end (by decide))) (fun Y hY=>?_);rw [txt_sign (Or.inl rfl),if_neg (by decide),if_neg (by decide)];refine Give.bind (Q:=fun z=>z=bs++[Y]) ⟨rfl,rfl⟩ (fun z hz=>?_);refine Give.bind (need_give (Or.inl rfl)) (fun _ _=>?_);exact ⟨⟨[x],[Y],fun ln=>by rw [hz],by simp [exsSame,hx],by simp [blksSame,hY]⟩,rfl⟩
   | cons b2 B=>
    obtain rfl:B=[]:=by simpa using hl
    rw [blksB,Bool.and_eq_true] at hb;have hd3:dpBs [b2]=max (dpSs b2) 0:=by rw [dpBs,dpBs]
    rw [←sgs_append] at h5;replace h5:Rw m2 ((2,[69,76,83,69],0)::sgs ((stsI b2++[])++[wdI [69,78,68,95,73,70]])) q:=h5;rw [List.append_nil,sgs_append] at h5;obtain ⟨_,_,r2,rfl,h6⟩:=h5.cons;obtain ⟨m3,h7,h8⟩:=h6.app;replace h8:Rw m3 [(2,[69,78,68,95,73,70],0)] q:=h8;obtain ⟨a8,b8,r3,e8,h9⟩:=h8.cons;obtain rfl:=h9.nil;subst e8;refine Give.bind (hS (one_end (by decide))) (fun Y hY=>?_);rw [txt_sign (Or.inl rfl),if_neg (by decide),if_pos rfl,List.drop_one,List.tail_cons];refine Give.bind (Q:=fun z=>∃ Y2,z=bs++[Y]++[Y2]∧stsSame b2 Y2=true) (q:=⟨2,[69,78,68,95,73,70],0,a8,b8⟩::r3) (Give.bind ((stmts_p IH (ends:=[[69,78,68,95,73,70]]) (by decide) (one_end (by decide)) b2 (by simp only [List.cons.sizeOf_spec] at hN;omega) hb.2.1 r2 h7 f []).mono (by omega) (fun X hX=>hX)) ?_) ?_
    ·rintro X ⟨l',rfl,hs⟩
     exact ⟨⟨_,rfl,hs⟩,rfl⟩
    ·rintro z ⟨Y2,rfl,hs⟩
     refine Give.bind (need_give (Or.inl rfl)) (fun _ _=>?_);exact ⟨⟨[x],[Y,Y2],fun ln=>by simp,by simp [exsSame,hx],by simp [blksSame,hY,hs]⟩,rfl⟩
theorem no_same {e:Ex} (h:noE e=true):exSame e zeroE=true:=by
 obtain ⟨op,n,nm,fd,sub,ln⟩:=e;unfold noE at h;simp only [Bool.and_eq_true,beq_iff_eq] at h;obtain ⟨rfl,rfl,rfl,rfl,h5⟩:=h;obtain rfl:sub=[]:=List.eq_nil_of_length_eq_zero h5;simp [zeroE,exSame,exsSame]
theorem index_p {y:Ex} (hy:exB y=true) {d:Nat} {r q:Sg} (h:Rw r ((4,[91],0)::sgs (exI y++[siI 93])) q) (f:Nat):Give (32<d+(1+dpE y)) (fun x=>exSame y x=true) q (indexF f d r):=by
 obtain ⟨_,_,r1,rfl,h1⟩:=h.cons;rw [sgs_append] at h1;obtain ⟨m,hm,h2⟩:=h1.app;obtain ⟨_,_,r2,rfl,h3⟩:=Rw.cons (k:=4) (t:=[93]) (n:=0) (S:=[]) h2;obtain rfl:=h3.nil;cases f with
 | zero=>rw [indexF];exact Or.inl rfl
 | succ f=>
  rw [indexF];by_cases hb:32<d+1
  ·rw [if_pos hb];exact Or.inr ⟨rfl,by omega⟩
  ·rw [if_neg hb,List.drop_one,List.tail_cons]
   exact Give.bind ((parse_ex hy hm (nx_sign 1 (Or.inr rfl) (fun l _=>noop_of (by decide) l) (by decide) (by decide)) f).mono (by omega) (fun x hx=>hx)) (fun x hx=>by rw [need_sign (Or.inr rfl)];exact ⟨hx,rfl⟩)
theorem lab_ne {l:List Int} (h:labB l=true):l.length % 2=0∧l≠[]:=by
 unfold labB at h;simp only [Bool.and_eq_true,decide_eq_true_eq,beq_iff_eq] at h;exact ⟨h.2.1,fun e=>by rw [e] at h;simp at h⟩
theorem lab_hd {l:List Int} (h:labB l=true) {r q:Sg} (hr:Rw r (labJ false l) q):(hd r).kind=3∨txt r=[45]:=by
 obtain ⟨h1,h2⟩:=lab_ne h
 match l,h1,h2 with
 | a::b::l,_,_=>
  rw [labJ] at hr;simp only [Bool.false_eq_true,if_false,List.nil_append] at hr;obtain ⟨m,h3,_⟩:=hr.app;exact num_hd h3
 | [a],h1,_=>simp at h1
 | [],_,h2=>exact absurd rfl h2
theorem case_end {LS:List (List Int)} {B:List (List St)} (hl:B.length=LS.length∨B.length=LS.length+1) (hlb:LS.all labB=true) {r q:Sg} (h:Rw r (sgs (caseI LS (blksI B)++[wdI [69,78,68,95,67,65,83,69]])) q):(hd r).kind=3∨oneOf (txt r) cEnds=true:=by
 cases LS with
 | nil=>
  cases B with
  | nil=>
   obtain ⟨_,_,r1,rfl,_⟩:=Rw.cons (k:=2) (t:=[69,78,68,95,67,65,83,69]) (n:=0) (S:=[]) h;exact Or.inr (one_end (by decide))
  | cons b B=>
   obtain ⟨_,_,r1,rfl,_⟩:=Rw.cons (k:=2) (t:=[69,76,83,69]) (n:=0) (S:=sgs ((stsI b++elseI (blksI B))++[wdI [69,78,68,95,67,65,83,69]])) h;exact Or.inr (one_end (by decide))
 | cons l LS=>
  rw [List.all_cons,Bool.and_eq_true] at hlb;rw [caseI,List.append_assoc,List.append_assoc,sgs_append,lab_sgs,List.append_assoc] at h;obtain ⟨m,h1,_⟩:=h.app;rcases lab_hd hlb.1 h1 with h2|h2
  ·exact Or.inl h2
  ·exact Or.inr (by rw [h2];decide)
theorem case_p {N:Nat} (IH:PaS N) {d:Nat} {x:Ex} {q:Sg}:∀ (f:Nat) (LS:List (List Int)) (B:List (List St)) (ls:List (List Int)) (bs:List (List St)) (r:Sg),(B.length=LS.length∨B.length=LS.length+1)→LS.all labB=true→blksB B=true→SizeOf.sizeOf B≤N →
  Rw r (sgs (caseI LS (blksI B)++[wdI [69,78,68,95,67,65,83,69]])) q →
  Give (32<d+dpBs B) (fun g=>∃ bs',(∀ ln,g ln=.mk 3 [] zeroE x [] (ls++LS) [] (bs++bs') ln)∧blksSame B bs'=true) q (caseF f d x r ls bs)
 | 0,_,_,_,_,_,_,_,_,_,_=>by rw [caseF];exact Or.inl rfl
 | f+1,l::LS,[],_,_,_,hl,_,_,_,_=>absurd hl (by simp)
 | f+1,[],[],ls,bs,r,hl,hlb,hb,hN,h=>by
  obtain ⟨_,_,r1,rfl,h1⟩:=Rw.cons (k:=2) (t:=[69,78,68,95,67,65,83,69]) (n:=0) (S:=[]) h;obtain rfl:=h1.nil;rw [caseF,txt_sign (Or.inl rfl),if_neg (by
   intro hc;rcases hc with hc|hc
   ·exact absurd (show (2:Int)=3 from hc) (by decide)
   ·exact absurd hc (by decide)),if_neg (by decide)]
  refine Give.bind (Q:=fun z=>z=bs) ⟨rfl,rfl⟩ (fun z hz=>?_);refine Give.bind (need_give (Or.inl rfl)) (fun _ _=>?_);exact ⟨⟨[],fun ln=>by rw [hz];simp,by simp [blksSame]⟩,rfl⟩
 | f+1,[],b::B,ls,bs,r,hl,hlb,hb,hN,h=>by
  obtain rfl:B=[]:=by simpa using hl
  rw [blksB,Bool.and_eq_true] at hb;simp only [List.cons.sizeOf_spec] at hN;have hd3:dpBs [b]=max (dpSs b) 0:=by rw [dpBs,dpBs]
  replace h:Rw r ((2,[69,76,83,69],0)::sgs ((stsI b++[])++[wdI [69,78,68,95,67,65,83,69]])) q:=h;rw [List.append_nil,sgs_append] at h;obtain ⟨_,_,r2,rfl,h6⟩:=h.cons;obtain ⟨m3,h7,h8⟩:=h6.app;obtain ⟨a8,b8,r3,rfl,h9⟩:=Rw.cons (k:=2) (t:=[69,78,68,95,67,65,83,69]) (n:=0) (S:=[]) h8;obtain rfl:=h9.nil;rw [caseF,txt_sign (Or.inl rfl),if_neg (by
   intro hc;rcases hc with hc|hc
   ·exact absurd (show (2:Int)=3 from hc) (by decide)
   ·exact absurd hc (by decide)),if_pos rfl,List.drop_one,List.tail_cons]
  refine Give.bind (Q:=fun z=>∃ Y2,z=bs++[Y2]∧stsSame b Y2=true) (q:=⟨2,[69,78,68,95,67,65,83,69],0,a8,b8⟩::r3) (Give.bind ((stmts_p IH (ends:=[[69,78,68,95,67,65,83,69]]) (by decide) (one_end (by decide)) b (by omega) hb.1 r2 h7 f []).mono (by omega) (fun X hX=>hX)) ?_) ?_
  ·rintro X ⟨l',rfl,hs⟩
   exact ⟨⟨_,rfl,hs⟩,rfl⟩
  ·rintro z ⟨Y2,rfl,hs⟩
   refine Give.bind (need_give (Or.inl rfl)) (fun _ _=>?_);exact ⟨⟨[Y2],fun ln=>by simp,by simp [blksSame,hs]⟩,rfl⟩
 | f+1,l::LS,b::B,ls,bs,r,hl,hlb,hb,hN,h=>by
  rw [List.all_cons,Bool.and_eq_true] at hlb;rw [blksB,Bool.and_eq_true] at hb;simp only [List.cons.sizeOf_spec] at hN;have hd2:dpBs (b::B)=max (dpSs b) (dpBs B):=by rw [dpBs]
  have hl':B.length=LS.length∨B.length=LS.length+1:=by simpa using hl
  rw [caseI,List.append_assoc,List.append_assoc,sgs_append,lab_sgs,List.append_assoc] at h;obtain ⟨m,h1,h2⟩:=h.app;obtain ⟨_,_,r1,rfl,h3⟩:=Rw.cons (k:=4) (t:=[58]) (n:=0) (S:=sgs (stsI b++(caseI LS (blksI B)++[wdI [69,78,68,95,67,65,83,69]]))) h2;rw [sgs_append] at h3;obtain ⟨m3,h4,h5⟩:=h3.app;rw [caseF,if_pos (lab_hd hlb.1 h1)];obtain ⟨e1,e2⟩:=lab_ne hlb.1;refine Give.bind (labels_p (by rw [txt_sign (Or.inr rfl)]) f l [] r e1 e2 h1) (fun z hz=>?_);refine Give.bind (need_give (Or.inr rfl)) (fun _ _=>?_);refine Give.bind ((block_p IH (case_end hl' hlb.2 h5) b (by omega) hb.1 r1 h4 f []).mono (by omega) (fun X hX=>hX)) ?_;rintro Y ⟨l',hY,hs0⟩;have hs:stsSame b Y=true:=by rw [hY];exact hs0
  refine (case_p IH f LS B (ls++[z]) (bs++[Y]) m3 hl' hlb.2 hb.2 (by omega) h5).mono (by omega) ?_;rintro g ⟨bs',hg,hs2⟩;exact ⟨Y::bs',fun ln=>by rw [hg,hz];simp,by rw [blksSame,hs,hs2];rfl⟩
theorem st_wrap {x:St} {d ln cl:Nat} {r q:Sg} (h1:1≤dpS x) (hw:∀ f,Give (32<d+dpS x) (fun g=>∀ ln,stSame x (g ln)=true) (⟨4,[59],0,ln,cl⟩::q) (whatF f (d+1) r)):∀ f,Give (32<d+dpS x) (fun y=>stSame x y=true) q (stmtF f d r)
 | 0=>by rw [stmtF];exact Or.inl rfl
 | f+1=>by
  rw [stmtF];by_cases hb:32<d+1
  ·rw [if_pos hb];exact Or.inr ⟨rfl,by omega⟩
  ·rw [if_neg hb]
   refine Give.bind (hw f) (fun g hg=>?_);refine Give.bind (need_give (Or.inr rfl)) (fun _ _=>?_);exact ⟨hg _,rfl⟩
theorem semi_end {r q:Sg} {S:List (Int×Str×Int)} (h:Rw r (S++[(4,[59],0)]) q):∃ ln cl,Rw r S (⟨4,[59],0,ln,cl⟩::q):=by
 obtain ⟨m,h1,h2⟩:=h.app;obtain ⟨ln,cl,m1,rfl,h3⟩:=h2.cons;obtain rfl:=h3.nil;exact ⟨ln,cl,h1⟩
theorem what_name {dp:Prop} {Q:(Int→St)→Prop} {nm:Str} {ln cl d:Nat} {r1 q:Sg} (h:∀ f,Give dp Q q (if txt r1=[40] then
    if txt (r1.drop 1)=[41] then .ok (fun ln=>.mk 9 nm zeroE zeroE [] [] [] [] ln) (r1.drop 2)
    else (argsF f d (r1.drop 1) [] []).bind fun a r'=>(need [41] r').bind fun _ r'=>.ok (fun ln=>.mk 9 nm zeroE zeroE a.2 [] a.1 [] ln) r'
   else (if txt r1=[91] then (indexF f d r1).bind fun x r'=>.ok (Ex.mk 4 0 nm [] [x] ln) r' else .ok (Ex.mk 3 0 nm [] [] ln) r1).bind fun dst r'=>
    (need [58,61] r').bind fun _ r'=>(expr f d r').bind fun x r'=>.ok (fun ln=>.mk 1 [] dst x [] [] [] [] ln) r')):∀ f,Give dp Q q (whatF f d (⟨1,nm,0,ln,cl⟩::r1))
 | 0=>by rw [whatF];exact Or.inl rfl
 | f+1=>by
  rw [whatF,txt_none (Or.inl rfl),if_neg (by decide),if_neg (by decide),if_neg (by decide),if_neg (by decide),if_neg (by decide),if_neg (by decide),if_neg (by decide),want_sign];exact h f
theorem one_bs {B:List (List St)} (h:B.length=1):∃ b,B=[b]:=List.length_eq_one_iff.1 h
theorem three_of {α:Type} {l:List α} (h:l.length=3):∃ a b c,l=[a,b,c]:=by
 match l,h with
 | [a,b,c],_=>exact ⟨a,b,c,rfl⟩
theorem rows_to {N:Nat} (IH:PaS N) {w:Str} (he:EndsB [w]=true) (hw:oneOf w [w]=true) {d:Nat} {b:List St} (hN:SizeOf.sizeOf b≤N) (hb:stsB b=true) {S:List (Int×Str×Int)} {r q:Sg} (h:Rw r (sgs (stsI b)++((2,w,0)::S)) q) :
  ∃ ln cl m,Rw m S q∧∀ f,Give (32<d+dpSs b) (fun X=>stsSame b X=true) (⟨2,w,0,ln,cl⟩::m) (stmtsF f d [w] r []):=by
 obtain ⟨m,h1,h2⟩:=h.app;obtain ⟨ln,cl,m1,rfl,h3⟩:=h2.cons;exact ⟨ln,cl,m1,h3,fun f=>(stmts_p IH he (one_end hw) b hN hb r h1 f []).mono id (by rintro X ⟨l',rfl,hs⟩;exact hs)⟩
theorem ex_to {e:Ex} (he:exB e=true) {w:Str} (hw:w=[84,72,69,78]∨w=[79,70]∨w=[84,79]∨w=[66,89]∨w=[68,79]∨w=[69,78,68,95,82,69,80,69,65,84]) {d:Nat} {S:List (Int×Str×Int)} {r q:Sg} (h:Rw r (sgs (exI e)++((2,w,0)::S)) q) :
  ∃ ln cl m,Rw m S q∧∀ f,Give (32<d+dpE e) (fun x=>exSame e x=true) (⟨2,w,0,ln,cl⟩::m) (expr f d r):=by
 obtain ⟨m,h1,h2⟩:=h.app;obtain ⟨ln,cl,m1,rfl,h3⟩:=h2.cons;exact ⟨ln,cl,m1,h3,fun f=>parse_ex he h1 (nx_word hw) f⟩
theorem parse_s_step {N:Nat} (IH:PaS N):PaS (N+1):=by
 intro x hN hb d r q hr;obtain ⟨op,nm,dst,val,cs,ls,fs,bs,ln⟩:=x;simp only [St.mk.sizeOf_spec] at hN;rw [stB_fit] at hb;simp only [Bool.and_eq_true] at hb;obtain ⟨hin,hnm,hd,hv,hc,hcn,hf,hlb,hbl⟩:=hb;unfold inS9 at hin;simp only [Bool.and_eq_true,decide_eq_true_eq] at hin;rw [stI] at hr;obtain ⟨D,hD⟩:∃ D,dpS (.mk op nm dst val cs ls fs bs ln)=D:=⟨_,rfl⟩;have hD':1+max (max (dpE dst) (dpE val)) (max (dpEs cs) (dpBs bs))=D:=by rw [←hD,dpS]
 rcases (show op=1∨op=2∨op=3∨op=4∨op=5∨op=6∨op=7∨op=8∨op=9 by omega) with rfl|rfl|rfl|rfl|rfl|rfl|rfl|rfl|rfl
 ·
  obtain rfl:nm=[]:=by simpa [nameB,hasN] using hnm
  have hd:placeB dst=true:=hd;have hv:(!noE val&&exB val)=true:=hv;unfold placeB at hd;rw [Bool.and_eq_true] at hd hv;have hcn:cs.length=0∧ls.length=0∧fs.length=0∧bs.length=0:=by simpa [cntB,cntS] using hcn
  obtain ⟨k1,k2,k3,k4⟩:=hcn;obtain rfl:cs=[]:=List.eq_nil_of_length_eq_zero k1;obtain rfl:ls=[]:=List.eq_nil_of_length_eq_zero k2;obtain rfl:fs=[]:=List.eq_nil_of_length_eq_zero k3;obtain rfl:bs=[]:=List.eq_nil_of_length_eq_zero k4;replace hr:Rw r (sgs (exI dst++(.gap 32::.sg 4 [58,61] 0::.gap 32::(exI val++[siI 59])))) q:=by
   have:sgs (exI dst++(.gap 32::.sg 4 [58,61] 0::.gap 32::(exI val++[siI 59,.gap 10])))=sgs (exI dst++(.gap 32::.sg 4 [58,61] 0::.gap 32::(exI val++[siI 59]))):=by
    simp only [sgs_append,sgs]
   rw [←this];exact hr
  have h1:1≤dpS (.mk 1 [] dst val [] [] [] [] ln):=by rw [hD];omega
  obtain ⟨o,n,dn,df,sub,dl⟩:=dst;have ho:o=3∨o=4:=by simpa [opE] using hd.1
  have tail:∀ {m:Sg} {dp:Prop},(32<d+D→dp)→Rw m (sgs (.gap 32::.sg 4 [58,61] 0::.gap 32::(exI val++[siI 59]))) q→∃ l1 c1 m1,m=⟨4,[58,61],0,l1,c1⟩::m1∧∃ l2 c2,∀ f,Give (32<d+D) (fun x=>exSame val x=true) (⟨4,[59],0,l2,c2⟩::q) (expr f (d+1) m1):=by
   intro m dp _ hm;obtain ⟨l1,c1,m1,rfl,h2⟩:=Rw.cons (k:=4) (t:=[58,61]) (n:=0) (S:=sgs (exI val++[siI 59])) hm;rw [sgs_append] at h2;obtain ⟨m2,h3,h4⟩:=h2.app;obtain ⟨l2,c2,m3,rfl,h5⟩:=Rw.cons (k:=4) (t:=[59]) (n:=0) (S:=[]) h4;obtain rfl:=h5.nil;exact ⟨l1,c1,m1,rfl,l2,c2,fun f=>(parse_ex hv.2 h3 (nx_sign 1 (Or.inr rfl) (fun l _=>noop_of (by decide) l) (by decide) (by decide)) f).mono (by omega) (fun x hx=>hx)⟩
  rcases ho with rfl|rfl
  ·have hde:=hd.2
   rw [exB,Bool.and_eq_true] at hde;obtain ⟨h9,hsb⟩:=hde;unfold exOk at h9;simp only [Bool.and_eq_true,decide_eq_true_eq,beq_iff_eq] at h9;obtain ⟨-,hn1,hn2,hnm2,hfd,hk⟩:=h9;obtain rfl:sub=[]:=List.eq_nil_of_length_eq_zero hk;obtain rfl:df=[]:=by simpa [fieldE,nameB] using hfd
   obtain rfl:n=0:=by have:n≤0:=hn2;omega
   obtain ⟨a1,a2,r1,rfl,h2⟩:=Rw.cons (k:=1) (t:=dn) (n:=0) (S:=sgs (.gap 32::.sg 4 [58,61] 0::.gap 32::(exI val++[siI 59]))) hr;obtain ⟨l1,c1,m1,rfl,l2,c2,h3⟩:=tail (dp:=True) (fun _=>trivial) h2;refine st_wrap (ln:=l2) (cl:=c2) h1 (what_name fun f=>?_);rw [hD,txt_sign (Or.inr rfl),if_neg (by decide),if_neg (by decide)];refine Give.bind (Q:=fun y=>exSame (.mk 3 0 dn [] [] dl) y=true) ⟨by simp [exSame,exsSame],rfl⟩ (fun y hy=>?_);refine Give.bind (need_give (Or.inr rfl)) (fun _ _=>?_);refine Give.bind (h3 f) (fun z hz=>?_);exact ⟨fun _=>by simp [stSame,hy,hz,exsSame,blksSame],rfl⟩
  ·have hde:=hd.2
   rw [exB,Bool.and_eq_true] at hde;obtain ⟨h9,hsb⟩:=hde;unfold exOk at h9;simp only [Bool.and_eq_true,decide_eq_true_eq,beq_iff_eq] at h9;obtain ⟨-,hn1,hn2,hnm2,hfd,hk⟩:=h9;obtain ⟨y,rfl⟩:=one_of (show sub.length=1 from hk);obtain rfl:df=[]:=by simpa [fieldE,nameB] using hfd
   obtain rfl:n=0:=by have:n≤0:=hn2;omega
   rw [exsB,Bool.and_eq_true] at hsb;have hdy:dpE (.mk 4 0 dn [] [y] dl)=1+dpE y:=by rw [dpE,if_pos rfl,dpEs,dpEs,Nat.max_zero]
   replace hr:Rw r ((1,dn,0)::(4,[91],0)::sgs ((exI y++[siI 93])++(.gap 32::.sg 4 [58,61] 0::.gap 32::(exI val++[siI 59])))) q:=hr;obtain ⟨a1,a2,r1,rfl,h2⟩:=hr.cons;rw [sgs_append] at h2;obtain ⟨m,h3,h4⟩:=Rw.app (S:=(4,[91],0)::sgs (exI y++[siI 93])) h2;obtain ⟨l1,c1,m1,rfl,l2,c2,h5⟩:=tail (dp:=True) (fun _=>trivial) h4;have hi:=fun f=>index_p (d:=d+1) hsb.1 h3 f
   obtain ⟨a3,a4,r2,rfl,-⟩:=h3.cons;refine st_wrap (ln:=l2) (cl:=c2) h1 (what_name fun f=>?_);rw [hD,txt_sign (Or.inr rfl),if_neg (by decide),if_pos rfl];refine Give.bind (Q:=fun z=>exSame (.mk 4 0 dn [] [y] dl) z=true) (Give.bind ((hi f).mono (by omega) (fun x hx=>hx)) (fun x hx=>⟨by simp [exSame,exsSame,hx],rfl⟩)) (fun y' hy=>?_);refine Give.bind (need_give (Or.inr rfl)) (fun _ _=>?_);refine Give.bind (h5 f) (fun z hz=>?_);exact ⟨fun _=>by simp [stSame,hy,hz,exsSame,blksSame],rfl⟩
 ·
  obtain rfl:nm=[]:=by simpa [nameB,hasN] using hnm
  have hd:noE dst=true:=hd;have hv:noE val=true:=hv;have hcn:cntB (max 1 cs.length,0,0,max 1 cs.length,1) cs.length ls.length fs.length bs.length=true:=hcn;unfold cntB at hcn;simp only [Bool.and_eq_true,beq_iff_eq,decide_eq_true_eq] at hcn;have hcn:cs.length=max 1 cs.length∧ls.length=0∧fs.length=0∧max 1 cs.length≤bs.length∧bs.length≤max 1 cs.length+1:=by omega
  obtain ⟨k1,k2,k3,k4,k5⟩:=hcn;obtain rfl:ls=[]:=List.eq_nil_of_length_eq_zero k2;obtain rfl:fs=[]:=List.eq_nil_of_length_eq_zero k3;cases cs with
  | nil=>simp at k1
  | cons c cs=>
  cases bs with
  | nil=>simp at k4
  | cons b bs=>
   have hl:bs.length=cs.length∨bs.length=cs.length+1:=by simp only [List.length_cons] at k4 k5;omega
   have h1:1≤dpS (.mk 2 [] dst val (c::cs) [] [] (b::bs) ln):=by rw [hD];omega
   have e:sgs (stIt 2 [] (exI dst) (exI val) (exsI (c::cs)) [] [] (blksI (b::bs)))=((2,[73,70],0)::sgs (exI c++(.gap 32::wdI [84,72,69,78]::.gap 10::(stsI b++(ifI [69,76,83,73,70] (exsI cs) (blksI bs)++[wdI [69,78,68,95,73,70]])))))++[(4,[59],0)]:=by
    show (2,[73,70],0)::sgs ((exI c++(.gap 32::wdI [84,72,69,78]::.gap 10::(stsI b++ifI [69,76,83,73,70] (exsI cs) (blksI bs))))++[wdI [69,78,68,95,73,70],siI 59,.gap 10])=_
    simp only [sgs_append,sgs,List.append_assoc,List.cons_append,List.nil_append];rfl
   rw [e] at hr;obtain ⟨l1,c1,h2⟩:=semi_end hr;obtain ⟨a1,a2,r1,rfl,h3⟩:=h2.cons;refine st_wrap (ln:=l1) (cl:=c1) h1 (fun f=>?_);cases f with
   | zero=>rw [whatF];exact Or.inl rfl
   | succ f=>
    rw [hD,whatF,txt_sign (Or.inl rfl),if_pos rfl,List.drop_one,List.tail_cons];refine (if_p IH (d:=d+1) f cs bs c b [] [] r1 hl hc hbl (by omega) h3).mono (by omega) ?_;rintro g ⟨cs',bs',hg,hs1,hs2⟩;intro l;rw [hg];simp [stSame,no_same hd,no_same hv,hs1,hs2]
 ·
  obtain rfl:nm=[]:=by simpa [nameB,hasN] using hnm
  have hd:noE dst=true:=hd;have hv:(!noE val&&exB val)=true:=hv;rw [Bool.and_eq_true] at hv;have hcn:cntB (0,ls.length,0,ls.length,1) cs.length ls.length fs.length bs.length=true:=hcn;unfold cntB at hcn;simp only [Bool.and_eq_true,beq_iff_eq,decide_eq_true_eq] at hcn;have hcn:cs.length=0∧ls.length=ls.length∧fs.length=0∧ls.length≤bs.length∧bs.length≤ls.length+1:=by omega
  obtain ⟨k1,k2,k3,k4,k5⟩:=hcn;obtain rfl:cs=[]:=List.eq_nil_of_length_eq_zero k1;obtain rfl:fs=[]:=List.eq_nil_of_length_eq_zero k3;have h1:1≤dpS (.mk 3 [] dst val [] ls [] bs ln):=by rw [hD];omega
  have e:sgs (stIt 3 [] (exI dst) (exI val) (exsI []) ls [] (blksI bs))=((2,[67,65,83,69],0)::(sgs (exI val)++((2,[79,70],0)::sgs (caseI ls (blksI bs)++[wdI [69,78,68,95,67,65,83,69]]))))++[(4,[59],0)]:=by
   show (2,[67,65,83,69],0)::sgs (exI val++(.gap 32::wdI [79,70]::.gap 10::(caseI ls (blksI bs)++[wdI [69,78,68,95,67,65,83,69],siI 59,.gap 10])))=_
   simp only [sgs_append,sgs,List.append_assoc,List.cons_append,List.nil_append];rfl
  rw [e] at hr;obtain ⟨l1,c1,h2⟩:=semi_end hr;obtain ⟨a1,a2,r1,rfl,h3⟩:=h2.cons;obtain ⟨a3,a4,m,h4,h5⟩:=ex_to (d:=d+1) hv.2 (by simp) h3;refine st_wrap (ln:=l1) (cl:=c1) h1 (fun f=>?_);cases f with
  | zero=>rw [whatF];exact Or.inl rfl
  | succ f=>
   rw [hD,whatF,txt_sign (Or.inl rfl),if_neg (by decide),if_pos rfl,List.drop_one,List.tail_cons];refine Give.bind ((h5 f).mono (by omega) (fun x hx=>hx)) (fun x hx=>?_);refine Give.bind (need_give (Or.inl rfl)) (fun _ _=>?_);refine (case_p IH (d:=d+1) (x:=x) f ls bs [] [] m (by omega) hlb hbl (by omega) h4).mono (by omega) ?_;rintro g ⟨bs',hg,hs2⟩;intro l;rw [hg];simp [stSame,no_same hd,hx,hs2,exsSame]
 ·
  have hnm:nmB nm=true:=hnm;have hd:noE dst=true:=hd;have hv:noE val=true:=hv;have hcn:cntB (3,0,0,1,0) cs.length ls.length fs.length bs.length=true:=hcn;unfold cntB at hcn;simp only [Bool.and_eq_true,beq_iff_eq,decide_eq_true_eq] at hcn;have hcn:cs.length=3∧ls.length=0∧fs.length=0∧1≤bs.length∧bs.length≤1+0:=by omega
  obtain ⟨k1,k2,k3,k4,k5⟩:=hcn;obtain rfl:ls=[]:=List.eq_nil_of_length_eq_zero k2;obtain rfl:fs=[]:=List.eq_nil_of_length_eq_zero k3;obtain ⟨c1,c2,c3,rfl⟩:=three_of k1;obtain ⟨b,rfl⟩:=one_bs (show bs.length=1 by omega);have h1:1≤dpS (.mk 4 nm dst val [c1,c2,c3] [] [] [b] ln):=by rw [hD];omega
  have hE:dpEs [c1,c2,c3]=max (dpE c1) (max (dpE c2) (max (dpE c3) 0)):=by rw [dpEs,dpEs,dpEs,dpEs]
  have hB:dpBs [b]=max (dpSs b) 0:=by rw [dpBs,dpBs]
  rw [exsB,exsB,exsB,exsB] at hc;simp only [Bool.and_eq_true] at hc;rw [blksB,Bool.and_eq_true] at hbl;have e:sgs (stIt 4 nm (exI dst) (exI val) (exsI [c1,c2,c3]) [] [] (blksI [b]))=((2,[70,79,82],0)::(1,nm,0)::(4,[58,61],0)::(sgs (exI c1)++((2,[84,79],0)::(sgs (exI c2)++((2,[66,89],0)::(sgs (exI c3)++((2,[68,79],0)::(sgs (stsI b)++((2,[69,78,68,95,70,79,82],0)::[])))))))) )++[(4,[59],0)]:=by
   show (2,[70,79,82],0)::(1,nm,0)::(4,[58,61],0)::sgs (exI c1++(.gap 32::wdI [84,79]::.gap 32::(exI c2++(.gap 32::wdI [66,89]::.gap 32::(exI c3++(.gap 32::wdI [68,79]::.gap 10::(stsI b++[wdI [69,78,68,95,70,79,82],siI 59,.gap 10])))))))=_
   simp only [sgs_append,sgs,List.append_assoc,List.cons_append,List.nil_append];rfl
  rw [e] at hr;obtain ⟨l1,z1,h2⟩:=semi_end hr;obtain ⟨a1,a2,r1,rfl,h3⟩:=h2.cons;obtain ⟨a3,a4,r2,rfl,h4⟩:=h3.cons;obtain ⟨a5,a6,r3,rfl,h5⟩:=h4.cons;obtain ⟨a7,a8,m1,h6,g1⟩:=ex_to (d:=d+1) hc.1 (by simp) h5;obtain ⟨a9,b1,m2,h7,g2⟩:=ex_to (d:=d+1) hc.2.1 (by simp) h6;obtain ⟨b2,b3,m3,h8,g3⟩:=ex_to (d:=d+1) hc.2.2.1 (by simp) h7;simp only [List.cons.sizeOf_spec] at hN;obtain ⟨b4,b5,m4,h9,g4⟩:=rows_to IH (d:=d+1) (by decide) (by decide) (by omega) hbl.1 h8;obtain rfl:=h9.nil;refine st_wrap (ln:=l1) (cl:=z1) h1 (fun f=>?_);cases f with
  | zero=>rw [whatF];exact Or.inl rfl
  | succ f=>
   rw [hD,whatF,txt_sign (Or.inl rfl),if_neg (by decide),if_neg (by decide),if_pos rfl,List.drop_one,List.tail_cons,want_sign];refine Give.bind (Q:=fun t=>t.text=nm) (q:=_) ⟨rfl,rfl⟩ (fun t ht=>?_);refine Give.bind (need_give (Or.inr rfl)) (fun _ _=>?_);refine Give.bind ((g1 f).mono (by omega) (fun x hx=>hx)) (fun x1 hx1=>?_);refine Give.bind (need_give (Or.inl rfl)) (fun _ _=>?_);refine Give.bind ((g2 f).mono (by omega) (fun x hx=>hx)) (fun x2 hx2=>?_);rw [txt_sign (Or.inl rfl),if_pos rfl,List.drop_one,List.tail_cons];refine Give.bind ((g3 f).mono (by omega) (fun x hx=>hx)) (fun x3 hx3=>?_);refine Give.bind (need_give (Or.inl rfl)) (fun _ _=>?_);refine Give.bind ((g4 f).mono (by omega) (fun x hx=>hx)) (fun B hB=>?_);refine Give.bind (need_give (Or.inl rfl)) (fun _ _=>?_);exact ⟨fun _=>by simp [stSame,no_same hd,no_same hv,ht,hx1,hx2,hx3,exsSame,blksSame,hB],rfl⟩
 ·
  obtain rfl:nm=[]:=by simpa [nameB,hasN] using hnm
  have hd:noE dst=true:=hd;have hv:(!noE val&&exB val)=true:=hv;rw [Bool.and_eq_true] at hv;have hcn:cntB (0,0,0,1,0) cs.length ls.length fs.length bs.length=true:=hcn;unfold cntB at hcn;simp only [Bool.and_eq_true,beq_iff_eq,decide_eq_true_eq] at hcn;have hcn:cs.length=0∧ls.length=0∧fs.length=0∧1≤bs.length∧bs.length≤1+0:=by omega
  obtain ⟨k1,k2,k3,k4,k5⟩:=hcn;obtain rfl:cs=[]:=List.eq_nil_of_length_eq_zero k1;obtain rfl:ls=[]:=List.eq_nil_of_length_eq_zero k2;obtain rfl:fs=[]:=List.eq_nil_of_length_eq_zero k3;obtain ⟨b,rfl⟩:=one_bs (show bs.length=1 by omega);have h1:1≤dpS (.mk 5 [] dst val [] [] [] [b] ln):=by rw [hD];omega
  have hB:dpBs [b]=max (dpSs b) 0:=by rw [dpBs,dpBs]
  rw [blksB,Bool.and_eq_true] at hbl;have e:sgs (stIt 5 [] (exI dst) (exI val) (exsI []) [] [] (blksI [b]))=((2,[87,72,73,76,69],0)::(sgs (exI val)++((2,[68,79],0)::(sgs (stsI b)++((2,[69,78,68,95,87,72,73,76,69],0)::[])))))++[(4,[59],0)]:=by
   show (2,[87,72,73,76,69],0)::sgs (exI val++(.gap 32::wdI [68,79]::.gap 10::(stsI b++[wdI [69,78,68,95,87,72,73,76,69],siI 59,.gap 10])))=_
   simp only [sgs_append,sgs,List.append_assoc,List.cons_append,List.nil_append];rfl
  rw [e] at hr;obtain ⟨l1,z1,h2⟩:=semi_end hr;obtain ⟨a1,a2,r1,rfl,h3⟩:=h2.cons;obtain ⟨a7,a8,m1,h6,g1⟩:=ex_to (d:=d+1) hv.2 (by simp) h3;simp only [List.cons.sizeOf_spec] at hN;obtain ⟨b4,b5,m4,h9,g4⟩:=rows_to IH (d:=d+1) (by decide) (by decide) (by omega) hbl.1 h6;obtain rfl:=h9.nil;refine st_wrap (ln:=l1) (cl:=z1) h1 (fun f=>?_);cases f with
  | zero=>rw [whatF];exact Or.inl rfl
  | succ f=>
   rw [hD,whatF,txt_sign (Or.inl rfl),if_neg (by decide),if_neg (by decide),if_neg (by decide),if_pos rfl,List.drop_one,List.tail_cons];refine Give.bind ((g1 f).mono (by omega) (fun x hx=>hx)) (fun x1 hx1=>?_);refine Give.bind (need_give (Or.inl rfl)) (fun _ _=>?_);refine Give.bind ((g4 f).mono (by omega) (fun x hx=>hx)) (fun B hB=>?_);refine Give.bind (need_give (Or.inl rfl)) (fun _ _=>?_);exact ⟨fun _=>by simp [stSame,no_same hd,hx1,exsSame,blksSame,hB],rfl⟩
 ·
  obtain rfl:nm=[]:=by simpa [nameB,hasN] using hnm
  have hd:noE dst=true:=hd;have hv:(!noE val&&exB val)=true:=hv;rw [Bool.and_eq_true] at hv;have hcn:cntB (0,0,0,1,0) cs.length ls.length fs.length bs.length=true:=hcn;unfold cntB at hcn;simp only [Bool.and_eq_true,beq_iff_eq,decide_eq_true_eq] at hcn;have hcn:cs.length=0∧ls.length=0∧fs.length=0∧1≤bs.length∧bs.length≤1+0:=by omega
  obtain ⟨k1,k2,k3,k4,k5⟩:=hcn;obtain rfl:cs=[]:=List.eq_nil_of_length_eq_zero k1;obtain rfl:ls=[]:=List.eq_nil_of_length_eq_zero k2;obtain rfl:fs=[]:=List.eq_nil_of_length_eq_zero k3;obtain ⟨b,rfl⟩:=one_bs (show bs.length=1 by omega);have h1:1≤dpS (.mk 6 [] dst val [] [] [] [b] ln):=by rw [hD];omega
  have hB:dpBs [b]=max (dpSs b) 0:=by rw [dpBs,dpBs]
  rw [blksB,Bool.and_eq_true] at hbl;have e:sgs (stIt 6 [] (exI dst) (exI val) (exsI []) [] [] (blksI [b]))=((2,[82,69,80,69,65,84],0)::(sgs (stsI b)++((2,[85,78,84,73,76],0)::(sgs (exI val)++((2,[69,78,68,95,82,69,80,69,65,84],0)::[])))))++[(4,[59],0)]:=by
   show (2,[82,69,80,69,65,84],0)::sgs (stsI b++(wdI [85,78,84,73,76]::.gap 32::(exI val++[.gap 32,wdI [69,78,68,95,82,69,80,69,65,84],siI 59,.gap 10])))=_
   simp only [sgs_append,sgs,List.append_assoc,List.cons_append,List.nil_append];rfl
  rw [e] at hr;obtain ⟨l1,z1,h2⟩:=semi_end hr;obtain ⟨a1,a2,r1,rfl,h3⟩:=h2.cons;simp only [List.cons.sizeOf_spec] at hN;obtain ⟨b4,b5,m4,h9,g4⟩:=rows_to IH (d:=d+1) (by decide) (by decide) (by omega) hbl.1 h3;obtain ⟨a7,a8,m1,h6,g1⟩:=ex_to (d:=d+1) hv.2 (by simp) h9;obtain rfl:=h6.nil;refine st_wrap (ln:=l1) (cl:=z1) h1 (fun f=>?_);cases f with
  | zero=>rw [whatF];exact Or.inl rfl
  | succ f=>
   rw [hD,whatF,txt_sign (Or.inl rfl),if_neg (by decide),if_neg (by decide),if_neg (by decide),if_neg (by decide),if_pos rfl,List.drop_one,List.tail_cons];refine Give.bind ((g4 f).mono (by omega) (fun x hx=>hx)) (fun B hB=>?_);refine Give.bind (need_give (Or.inl rfl)) (fun _ _=>?_);refine Give.bind ((g1 f).mono (by omega) (fun x hx=>hx)) (fun x1 hx1=>?_);refine Give.bind (need_give (Or.inl rfl)) (fun _ _=>?_);exact ⟨fun _=>by simp [stSame,no_same hd,hx1,exsSame,blksSame,hB],rfl⟩
 ·
  obtain rfl:nm=[]:=by simpa [nameB,hasN] using hnm
  have hd:noE dst=true:=hd;have hv:noE val=true:=hv;have hcn:cs.length=0∧ls.length=0∧fs.length=0∧bs.length=0:=by simpa [cntB,cntS] using hcn
  obtain ⟨k1,k2,k3,k4⟩:=hcn;obtain rfl:cs=[]:=List.eq_nil_of_length_eq_zero k1;obtain rfl:ls=[]:=List.eq_nil_of_length_eq_zero k2;obtain rfl:fs=[]:=List.eq_nil_of_length_eq_zero k3;obtain rfl:bs=[]:=List.eq_nil_of_length_eq_zero k4;have h1:1≤dpS (.mk 7 [] dst val [] [] [] [] ln):=by rw [hD];omega
  replace hr:Rw r ([(2,[69,88,73,84],0)]++[(4,[59],0)]) q:=hr;obtain ⟨l1,z1,h2⟩:=semi_end hr;obtain ⟨a1,a2,r1,rfl,h3⟩:=h2.cons;obtain rfl:=h3.nil;refine st_wrap (ln:=l1) (cl:=z1) h1 (fun f=>?_);cases f with
  | zero=>rw [whatF];exact Or.inl rfl
  | succ f=>
   rw [whatF,txt_sign (Or.inl rfl),if_neg (by decide),if_neg (by decide),if_neg (by decide),if_neg (by decide),if_neg (by decide),if_pos rfl,List.drop_one,List.tail_cons];exact ⟨fun _=>by simp [stSame,no_same hd,no_same hv,exsSame,blksSame],rfl⟩
 ·
  obtain rfl:nm=[]:=by simpa [nameB,hasN] using hnm
  have hd:noE dst=true:=hd;have hv:noE val=true:=hv;have hcn:cs.length=0∧ls.length=0∧fs.length=0∧bs.length=0:=by simpa [cntB,cntS] using hcn
  obtain ⟨k1,k2,k3,k4⟩:=hcn;obtain rfl:cs=[]:=List.eq_nil_of_length_eq_zero k1;obtain rfl:ls=[]:=List.eq_nil_of_length_eq_zero k2;obtain rfl:fs=[]:=List.eq_nil_of_length_eq_zero k3;obtain rfl:bs=[]:=List.eq_nil_of_length_eq_zero k4;have h1:1≤dpS (.mk 8 [] dst val [] [] [] [] ln):=by rw [hD];omega
  replace hr:Rw r ([(2,[82,69,84,85,82,78],0)]++[(4,[59],0)]) q:=hr;obtain ⟨l1,z1,h2⟩:=semi_end hr;obtain ⟨a1,a2,r1,rfl,h3⟩:=h2.cons;obtain rfl:=h3.nil;refine st_wrap (ln:=l1) (cl:=z1) h1 (fun f=>?_);cases f with
  | zero=>rw [whatF];exact Or.inl rfl
  | succ f=>
   rw [whatF,txt_sign (Or.inl rfl),if_neg (by decide),if_neg (by decide),if_neg (by decide),if_neg (by decide),if_neg (by decide),if_neg (by decide),if_pos rfl,List.drop_one,List.tail_cons];exact ⟨fun _=>by simp [stSame,no_same hd,no_same hv,exsSame,blksSame],rfl⟩
 ·
  have hnm:nmB nm=true:=hnm;have hd:noE dst=true:=hd;have hv:noE val=true:=hv;have hcn:cs.length=fs.length∧ls.length=0∧bs.length=0:=by simpa [cntB,cntS] using hcn
  obtain ⟨k1,k2,k4⟩:=hcn;obtain rfl:ls=[]:=List.eq_nil_of_length_eq_zero k2;obtain rfl:bs=[]:=List.eq_nil_of_length_eq_zero k4;have h1:1≤dpS (.mk 9 nm dst val cs [] fs [] ln):=by rw [hD];omega
  have e:sgs (stIt 9 nm (exI dst) (exI val) (exsI cs) [] fs (blksI []))=((1,nm,0)::(4,[40],0)::(sgs (argI false fs (exsI cs))++[(4,[41],0)]))++[(4,[59],0)]:=by
   show (1,nm,0)::(4,[40],0)::sgs (argI false fs (exsI cs)++[siI 41,siI 59,.gap 10])=_
   simp only [sgs_append,sgs,List.append_assoc,List.cons_append,List.nil_append];rfl
  rw [e] at hr;obtain ⟨l1,z1,h2⟩:=semi_end hr;obtain ⟨a1,a2,r1,rfl,h3⟩:=h2.cons;obtain ⟨a3,a4,r2,rfl,h4⟩:=h3.cons;obtain ⟨m,h5,h6⟩:=h4.app;obtain ⟨a5,a6,m1,rfl,h7⟩:=h6.cons;obtain rfl:=h7.nil;refine st_wrap (ln:=l1) (cl:=z1) h1 (what_name fun f=>?_);rw [hD,txt_sign (Or.inr rfl),if_pos rfl,List.drop_one,List.tail_cons];cases fs with
  | nil=>
   obtain rfl:cs=[]:=List.eq_nil_of_length_eq_zero k1;rw [argI] at h5;obtain rfl:=Rw.nil h5;rw [txt_sign (Or.inr rfl),if_pos rfl];exact ⟨fun _=>by simp [stSame,no_same hd,no_same hv,exsSame,blksSame],rfl⟩
  | cons n2 fs=>
   have hne:txt r2≠[41]:=by
    cases cs with
    | nil=>simp at k1
    | cons c cs=>
     obtain ⟨_,_,r3,rfl,_⟩:=Rw.cons (k:=1) (t:=n2) (n:=0) (S:=sgs ([.gap 32,.sg 4 [58,61] 0,.gap 32]++exI c++argI true fs (exsI cs))) h5;rw [txt_none (Or.inl rfl)];decide
   rw [if_neg hne];refine Give.bind ((args_p (by rw [txt_sign (Or.inr rfl)]) (nx_sign 1 (Or.inr rfl) (fun l _=>noop_of (by decide) l) (by decide) (by decide)) f (n2::fs) cs [] [] r2 (by simp) k1 hc h5).mono (by omega) (fun x hx=>hx)) ?_;rintro z ⟨hz1,cs',hz2,hz3⟩;refine Give.bind (need_give (Or.inr rfl)) (fun _ _=>?_);exact ⟨fun _=>by simp [stSame,no_same hd,no_same hv,blksSame,hz1,hz2,hz3],rfl⟩
theorem parse_s_all:∀ N,PaS N
 | 0=>fun _ h=>absurd h (by omega)
 | N+1=>parse_s_step (parse_s_all N)
theorem names_p {dp:Prop} {nm:Str} {m:Nat} (hm:m+1≤64) {ln cl ln1 cl1:Nat} {r1:Sg}:∀ f,Give dp (fun ns=>∃ l c,ns=[⟨1,nm,0,l,c⟩]) (⟨4,[58],0,ln1,cl1⟩::r1) (namesF f m (⟨1,nm,0,ln,cl⟩::⟨4,[58],0,ln1,cl1⟩::r1) [])
 | 0=>by rw [namesF];exact Or.inl rfl
 | f+1=>by
  rw [namesF,if_neg (by simp only [List.length_nil];omega),want_sign];refine Give.bind (Q:=fun t=>t=⟨1,nm,0,ln,cl⟩) (q:=_) ⟨rfl,rfl⟩ (fun t ht=>?_);rw [txt_sign (Or.inr rfl),if_neg (by decide)];exact ⟨⟨ln,cl,by rw [ht];rfl⟩,rfl⟩
theorem simple_of {t:Str} {n:Int} {ln cl:Nat} {r:Sg} (T:Int) (hT:T=1∨T=2) (ht:t=plainS T):simpleT (⟨2,t,n,ln,cl⟩::r)=T:=by
 unfold simpleT;rw [txt_sign (Or.inl rfl),ht];rcases hT with rfl|rfl<;>decide
theorem kind_of {n:Int} (h:(kinds.any fun k=>k.2==n)=true):kindOf (kindS n)=n∧n≠0∧2<n:=by
 by_cases hm:n∈kindL
 ·have h2:kindL.all (fun n=>kindOf (kindS n)==n&&(n != 0&&decide (2<n)))=true:=by kernel_rfl
  rw [List.all_eq_true] at h2;have:=h2 n hm;simpa using this
 ·rw [(kind_none hm).2.2] at h
  cases h
theorem type_p {dp:Prop} {v:Va} (hv:typeB v=true) {r q:Sg} {ln cl:Nat} (h:Rw r (sgs (typeI v)) (⟨4,[59],0,ln,cl⟩::q)) :
  ∃ m,Give dp (fun ty=>ty=(v.type,v.array,v.lo,v.hi)) m (typeP r)∧∀ t0:Tk,Give dp (fun init=>init=v.init) (⟨4,[59],0,ln,cl⟩::q) (if txt m=[58,61] then (valueP (m.drop 1)).bind fun z r'=>
    if v.array=true∨2<v.type∨(z.1=true∧v.type=1)∨(z.1=false∧v.type=2) then .bad 1 t0 else .ok z.2 r'
   else .ok 0 m):=by
 unfold typeB at hv;unfold typeI at h;by_cases ha:v.array=true
 ·rw [if_pos ha] at h hv
  simp only [Bool.and_eq_true,Bool.or_eq_true,beq_iff_eq,decide_eq_true_eq] at hv;obtain ⟨h1,h2,h3,h4,h5⟩:=hv;rw [numI,numI,if_neg (by omega),if_neg (by omega)] at h;replace h:Rw r [(2,[65,82,82,65,89],0),(4,[91],0),(3,numS v.lo,((v.lo.toNat:Nat):Int)),(4,[46,46],0),(3,numS v.hi,((v.hi.toNat:Nat):Int)),(4,[93],0),(2,[79,70],0),(2,plainS v.type,0)] _:=h;obtain ⟨a1,b1,r1,rfl,k1⟩:=h.cons;obtain ⟨a2,b2,r2,rfl,k2⟩:=k1.cons;obtain ⟨a3,b3,r3,rfl,k3⟩:=k2.cons;obtain ⟨a4,b4,r4,rfl,k4⟩:=k3.cons;obtain ⟨a5,b5,r5,rfl,k5⟩:=k4.cons;obtain ⟨a6,b6,r6,rfl,k6⟩:=k5.cons;obtain ⟨a7,b7,r7,rfl,k7⟩:=k6.cons;obtain ⟨a8,b8,r8,rfl,k8⟩:=k7.cons;obtain rfl:=k8.nil;have hs:simpleT (⟨2,plainS v.type,0,a8,b8⟩::⟨4,[59],0,ln,cl⟩::q)=v.type:=simple_of v.type h1 rfl;have h0:v.type≠0:=by omega
  refine ⟨⟨4,[59],0,ln,cl⟩::q,?_,fun t0=>?_⟩
  ·unfold typeP
   rw [if_neg (show ¬ simpleT _≠0 from fun e=>e (by unfold simpleT;rw [txt_sign (Or.inl rfl)];decide)),txt_sign (Or.inl rfl),if_pos rfl,List.drop_one,List.tail_cons];refine Give.bind (need_give (Or.inr rfl)) (fun _ _=>?_);rw [want_sign];refine Give.bind (Q:=fun t=>t.n=v.lo) (q:=_) ⟨(by show ((v.lo.toNat:Nat):Int)=v.lo;omega),rfl⟩ (fun t ht=>?_);refine Give.bind (need_give (Or.inr rfl)) (fun _ _=>?_);rw [want_sign];refine Give.bind (Q:=fun t=>t.n=v.hi) (q:=_) ⟨(by show ((v.hi.toNat:Nat):Int)=v.hi;omega),rfl⟩ (fun t2 ht2=>?_);rw [if_neg (by omega)];refine Give.bind (need_give (Or.inr rfl)) (fun _ _=>?_);refine Give.bind (need_give (Or.inl rfl)) (fun _ _=>?_);rw [hs,if_pos h0,List.drop_one,List.tail_cons];exact ⟨by rw [ha,ht,ht2],rfl⟩
  ·rw [txt_sign (Or.inr rfl),if_neg (by decide)]
   exact ⟨h5.symm,rfl⟩
 ·rw [if_neg ha] at h hv
  have ha':v.array=false:=by simpa using ha
  by_cases h0:v.lo≠0∨v.hi≠0
  ·rw [if_pos h0] at hv;cases hv
  ·rw [if_neg h0] at hv
   have e1:v.lo=0:=by omega
   have e2:v.hi=0:=by omega
   by_cases t1:v.type=1
   ·rw [if_pos t1] at h hv
    replace h:Rw r ((2,plainS v.type,0)::(4,[58,61],0)::sgs (numI v.init)) _:=h;obtain ⟨a1,b1,r1,rfl,k1⟩:=h.cons;obtain ⟨a2,b2,r2,rfl,k2⟩:=k1.cons;have hs:simpleT (⟨2,plainS v.type,0,a1,b1⟩::⟨4,[58,61],0,a2,b2⟩::r2)=v.type:=simple_of v.type (Or.inl t1) rfl;refine ⟨⟨4,[58,61],0,a2,b2⟩::r2,?_,fun t0=>?_⟩
    ·unfold typeP
     rw [hs,if_pos (by omega),List.drop_one,List.tail_cons];exact ⟨by rw [ha',e1,e2],rfl⟩
    ·rw [txt_sign (Or.inr rfl),if_pos rfl,List.drop_one,List.tail_cons]
     refine Give.bind (Q:=fun z=>z=(false,v.init)) (q:=⟨4,[59],0,ln,cl⟩::q) ?_ (fun z hz=>?_)
     ·have hh:=num_hd k2
      have hn:txt r2≠[84,82,85,69]∧txt r2≠[70,65,76,83,69]:=by
       rcases hh with hh|hh
       ·have:txt r2=[]:=by
         cases r2 with
         | nil=>rfl
         | cons t r2=>
          unfold txt;have:t.kind=3:=hh;exact if_neg (by show ¬ (t.kind=2∨t.kind=4);omega)
        rw [this];decide
       ·rw [hh]
        decide
      unfold valueP;rw [if_neg hn.1,if_neg hn.2];refine Give.bind (int_num k2) (fun n hn=>?_);exact ⟨by rw [hn],rfl⟩
     ·rw [if_neg (by rw [hz,ha',t1];simp)]
      exact ⟨by rw [hz],rfl⟩
   ·rw [if_neg t1] at h hv
    by_cases t2:v.type=2
    ·rw [if_pos t2] at h hv
     replace h:Rw r [(2,plainS v.type,0),(4,[58,61],0),(2,truthS v.init,0)] _:=h;obtain ⟨a1,b1,r1,rfl,k1⟩:=h.cons;obtain ⟨a2,b2,r2,rfl,k2⟩:=k1.cons;obtain ⟨a3,b3,r3,rfl,k3⟩:=k2.cons;obtain rfl:=k3.nil;have hs:simpleT (⟨2,plainS v.type,0,a1,b1⟩::⟨4,[58,61],0,a2,b2⟩::⟨2,truthS v.init,0,a3,b3⟩::⟨4,[59],0,ln,cl⟩::q)=v.type:=simple_of v.type (Or.inr t2) rfl;refine ⟨⟨4,[58,61],0,a2,b2⟩::⟨2,truthS v.init,0,a3,b3⟩::⟨4,[59],0,ln,cl⟩::q,?_,fun t0=>?_⟩
     ·unfold typeP
      rw [hs,if_pos (by omega),List.drop_one,List.tail_cons];exact ⟨by rw [ha',e1,e2],rfl⟩
     ·rw [txt_sign (Or.inr rfl),if_pos rfl,List.drop_one,List.tail_cons]
      have hi:v.init=0∨v.init=1:=by simpa using hv
      refine Give.bind (Q:=fun z=>z=(true,v.init)) (q:=⟨4,[59],0,ln,cl⟩::q) ?_ (fun z hz=>?_)
      ·unfold valueP
       rcases hi with hi|hi
       ·rw [hi,txt_sign (Or.inl rfl),if_neg (by decide),if_pos (by decide)]
        exact ⟨rfl,rfl⟩
       ·rw [hi,txt_sign (Or.inl rfl),if_pos (by decide)]
        exact ⟨rfl,rfl⟩
      ·rw [if_neg (by rw [hz,ha',t2];simp)]
       exact ⟨by rw [hz],rfl⟩
    ·rw [if_neg t2] at h hv
     rw [Bool.and_eq_true] at hv;obtain ⟨g1,g2,g3⟩:=kind_of hv.1;have hi:v.init=0:=by simpa using hv.2
     replace h:Rw r [(1,kindS v.type,0)] _:=h;obtain ⟨a1,b1,r1,rfl,k1⟩:=h.cons;obtain rfl:=k1.nil;refine ⟨⟨4,[59],0,ln,cl⟩::q,?_,fun t0=>?_⟩
     ·unfold typeP
      rw [if_neg (show ¬ simpleT _≠0 from fun e=>e (by unfold simpleT;rw [txt_none (Or.inl rfl)];decide)),txt_none (Or.inl rfl),if_neg (by decide),want_sign];refine Give.bind (Q:=fun t=>t.text=kindS v.type) (q:=_) ⟨rfl,rfl⟩ (fun t ht=>?_);rw [ht,g1,if_neg g2];exact ⟨by rw [ha',e1,e2],rfl⟩
     ·rw [txt_sign (Or.inr rfl),if_neg (by decide)]
      exact ⟨hi.symm,rfl⟩
theorem line_p {dp:Prop} {v:Va} (hv:vaB v=true) {f:Nat} {vs:List Va} (hl:vs.length+1≤64) {r q:Sg} (h:Rw r ((1,v.name,0)::(4,[58],0)::(sgs (typeI v)++[(4,[59],0)])) q) :
  Give dp (fun X=>∃ v',X=vs++[v']∧vaSame v v'=true) q (lineP f v.sect r vs):=by
 unfold vaB at hv;simp only [Bool.and_eq_true] at hv;obtain ⟨h1,h2,h3⟩:=hv;obtain ⟨a1,b1,r1,rfl,k1⟩:=h.cons;obtain ⟨a2,b2,r2,rfl,k2⟩:=k1.cons;obtain ⟨m,k3,k4⟩:=k2.app;obtain ⟨a3,b3,r3,rfl,k5⟩:=k4.cons;obtain rfl:=k5.nil;obtain ⟨m2,g1,g2⟩:=type_p (dp:=dp) h3 k3;unfold lineP;refine Give.bind (names_p hl f) ?_;rintro ns ⟨l,c,rfl⟩;refine Give.bind (need_give (Or.inr rfl)) (fun _ _=>?_);refine Give.bind g1 ?_;rintro ty rfl;refine Give.bind (g2 (hd r2)) ?_;rintro init rfl;refine Give.bind (need_give (Or.inr rfl)) (fun _ _=>?_);exact ⟨⟨_,rfl,by simp [vaSame]⟩,rfl⟩
theorem lines_p {dp:Prop} {v:Va} (hv:vaB v=true) {vs:List Va} (hl:vs.length+1≤64) {r q:Sg} (h:Rw r ((1,v.name,0)::(4,[58],0)::(sgs (typeI v)++[(4,[59],0),(2,[69,78,68,95,86,65,82],0)])) q) :
  ∀ f,Give dp (fun X=>∃ v',X=vs++[v']∧vaSame v v'=true) q (linesF f v.sect r vs)
 | 0=>by rw [linesF];exact Or.inl rfl
 | f+1=>by
  have h':Rw r (((1,v.name,0)::(4,[58],0)::(sgs (typeI v)++[(4,[59],0)]))++[(2,[69,78,68,95,86,65,82],0)]) q:=by simpa using h
  obtain ⟨m,k1,k2⟩:=h'.app;obtain ⟨a1,b1,r1,rfl,k3⟩:=k2.cons;obtain rfl:=k3.nil;have hL:=line_p (dp:=dp) hv (f:=f) hl k1;obtain ⟨a2,b2,r2,rfl,-⟩:=k1.cons;rw [linesF,txt_none (Or.inl rfl),if_neg (by decide)];refine Give.bind hL (fun X hX=>?_);cases f with
  | zero=>rw [linesF];exact Or.inl rfl
  | succ f=>
   rw [linesF,txt_sign (Or.inl rfl),if_pos rfl];exact ⟨hX,rfl⟩
theorem sects_p {dp:Prop} {q:Sg} (hq:txt q≠[86,65,82,95,73,78,80,85,84]∧txt q≠[86,65,82,95,79,85,84,80,85,84]∧txt q≠[86,65,82]):∀ (f:Nat) (vl vs:List Va) (r:Sg),vl.all vaB=true→vs.length+vl.length≤64→Rw r (sgs (vasI vl)) q →
  Give dp (fun X=>∃ l',X=vs++l'∧vasSame vl l'=true) q (sectsF f r vs)
 | 0,_,_,_,_,_,_=>by rw [sectsF];exact Or.inl rfl
 | f+1,[],vs,r,_,_,h=>by
  rw [vasI] at h;obtain rfl:=Rw.nil h;rw [sectsF,if_neg hq.1,if_neg hq.2.1,if_neg hq.2.2];exact ⟨⟨[],by simp,by simp [vasSame]⟩,rfl⟩
 | f+1,v::vl,vs,r,hv,hl,h=>by
  rw [List.all_cons,Bool.and_eq_true] at hv;rw [List.length_cons] at hl;rw [vasI,sgs_append] at h;obtain ⟨m,k1,k2⟩:=h.app;have e:sgs (vaI v)=(2,secS v.sect,0)::((1,v.name,0)::(4,[58],0)::(sgs (typeI v)++[(4,[59],0),(2,[69,78,68,95,86,65,82],0)])):=by
   show (2,secS v.sect,0)::(1,v.name,0)::(4,[58],0)::sgs (typeI v++[siI 59,.gap 10,wdI [69,78,68,95,86,65,82],.gap 10])=_
   rw [sgs_append];rfl
  rw [e] at k1;obtain ⟨a1,b1,r1,rfl,k3⟩:=k1.cons;have hL:=lines_p (dp:=dp) hv.1 (vs:=vs) (by omega) k3 f;have next:∀ X,(∃ v',X=vs++[v']∧vaSame v v'=true)→Give dp (fun X=>∃ l',X=vs++l'∧vasSame (v::vl) l'=true) q (sectsF f m X):=by
   rintro X ⟨v',rfl,hs⟩;refine (sects_p hq f vl (vs++[v']) m hv.2 (by rw [List.length_append];simp only [List.length_cons,List.length_nil];omega) k2).mono id ?_;rintro Y ⟨l',rfl,hs2⟩;exact ⟨v'::l',by simp,by rw [vasSame,hs,hs2];rfl⟩
  have hv1:=hv.1;unfold vaB at hv1;simp only [Bool.and_eq_true,Bool.or_eq_true,beq_iff_eq] at hv1;rw [sectsF,txt_sign (Or.inl rfl),List.drop_one,List.tail_cons];rcases hv1.2.1 with hs|hs|hs
  ·rw [hs] at hL ⊢
   rw [if_neg (by decide),if_neg (by decide),if_pos (by decide)];exact Give.bind hL next
  ·rw [hs] at hL ⊢
   rw [if_pos (by decide)];exact Give.bind hL next
  ·rw [hs] at hL ⊢
   rw [if_neg (by decide),if_pos (by decide)];exact Give.bind hL next
theorem prog_p {p:Pg} (hb:pgB p=true) {e:Tk} (he:e.kind=0) {r:Sg} (h:Rw r (sgs (pgI p)) [e]) (f:Nat):Give (32<dpSs p.body) (fun p'=>pgSame p p'=true) [e] (progP f r):=by
 unfold pgB at hb;simp only [Bool.and_eq_true,decide_eq_true_eq] at hb;obtain ⟨h1,h2,h3,h4⟩:=hb;have e0:sgs (pgI p)=(2,[80,82,79,71,82,65,77],0)::(1,p.name,0)::(sgs (vasI p.vars)++(sgs (stsI p.body)++[(2,[69,78,68,95,80,82,79,71,82,65,77],0)])):=by
  show (2,[80,82,79,71,82,65,77],0)::(1,p.name,0)::sgs (vasI p.vars++(stsI p.body++[wdI [69,78,68,95,80,82,79,71,82,65,77],.gap 10]))=_
  rw [sgs_append,sgs_append];rfl
 rw [e0] at h;obtain ⟨a1,b1,r1,rfl,k1⟩:=h.cons;obtain ⟨a2,b2,r2,rfl,k2⟩:=k1.cons;obtain ⟨m,k3,k4⟩:=k2.app;obtain ⟨m2,k5,k6⟩:=k4.app;obtain ⟨a3,b3,r3,rfl,k7⟩:=k6.cons;obtain rfl:=k7.nil;have hm:txt m≠[86,65,82,95,73,78,80,85,84]∧txt m≠[86,65,82,95,79,85,84,80,85,84]∧txt m≠[86,65,82]:=by
  cases hB:p.body with
  | nil=>
   rw [hB,stsI] at k5;obtain rfl:=Rw.nil k5;rw [txt_sign (Or.inl rfl)];decide
  | cons x l=>
   rw [hB,stsI,sgs_append] at k5;rw [hB,stsB,Bool.and_eq_true] at h4;obtain ⟨m3,k8,-⟩:=k5.app;have:=(st_hd h4.1 k8).1;simp only [Hds,List.mem_cons,List.not_mem_nil,or_false] at this;rcases this with h|h|h|h|h|h|h|h<;>rw [h]<;>decide
 unfold progP;refine Give.bind (need_give (Or.inl rfl)) (fun _ _=>?_);rw [want_sign];refine Give.bind (Q:=fun t=>t.text=p.name) (q:=_) ⟨rfl,rfl⟩ (fun t ht=>?_);refine Give.bind (sects_p hm f p.vars [] r2 h3 (by simpa using h2) k3) ?_;rintro vs ⟨vs',rfl,hvs⟩;refine Give.bind ((stmts_p (parse_s_all (SizeOf.sizeOf p.body)) (d:=0) (ends:=[[69,78,68,95,80,82,79,71,82,65,77]]) (by decide) (one_end (by decide)) p.body (Nat.le_refl _) h4 m k5 f []).mono (by omega) (fun x hx=>hx)) ?_;rintro b ⟨b',rfl,hbs⟩;refine Give.bind (need_give (Or.inl rfl)) (fun _ _=>?_);rw [if_pos (show (hd [e]).kind=0 from he)];exact ⟨by show (p.name==t.text&&(vasSame p.vars vs&&stsSame p.body b))=true;rw [hvs,hbs,ht];simp,rfl⟩
theorem parse_pg {p:Pg} (hb:pgB p=true) (hi:inP p) (hs:(pgS p).length≤16384):((parse (pgS p)).2.1=0∧pgSame p (parse (pgS p)).1=true)∨((parse (pgS p)).2.1=13∧32<dpSs p.body):=by
 obtain ⟨M,e,hl,hM,he,-,-⟩:=lex_pg hb hi hs;have hp:=prog_p hb he (r:=M++[e]) ⟨M,rfl,hM⟩ (20*(M++[e]).length+20);have hf:=fin_prog (f:=20*(M++[e]).length+20) (r:=M++[e]) (Nat.le_refl _);unfold parse;rw [hl,if_pos rfl]
 show (_∧_)∨_
 simp only;generalize progP (20*(M++[e]).length+20) (M++[e])=R at hp hf ⊢;cases R with
 | ok q r=>exact Or.inl ⟨rfl,hp.1⟩
 | bad n t=>
  rcases hp with h|h
  ·exact absurd h hf
  ·exact Or.inr h
mutual
theorem dpX_le:∀ (x:Ex) (m:Int),(zX m x).1≤m→(dpE x:Int)≤2*(zX m x).2+2
 | .mk op n nm fd sub ln,m,h=>by
  rw [zX] at h ⊢;have h1:=dpL_le sub m 0 0 (by omega) (by omega) h;have h2:=zL_le sub m 0 0 (by omega) (by omega);rw [dpE];split
  ·omega
  ·split
   ·omega
   ·split<;>omega
theorem dpL_le:∀ (L:List Ex) (m n d:Int),0≤n→0≤d→(zL m n d L).1≤m→(dpEs L:Int)≤2*(zL m n d L).2
 | [],m,n,d,hn,hd,h=>by
  rw [zL,dpEs];simp only;omega
 | x::l,m,n,d,hn,hd,h=>by
  rw [zL] at h ⊢;by_cases hc:n≤m
  ·rw [if_pos hc] at h ⊢
   have hz:=zX_le x (m-n);have h2:=zL_le l m (n+((zX (m-n) x).1+1)) (max d ((zX (m-n) x).2+1)) (by omega) (by omega);have h3:=dpL_le l m _ _ (by omega) (by omega) h;have h4:=dpX_le x (m-n) (by omega);rw [dpEs];omega
  ·rw [if_neg hc] at h
   simp only at h;omega
end
theorem dpC_le {x y:Ex} {l:List Ex} {m n d:Int} (hn:0≤n) (hd:0≤d) (h:(zc m n d [[x,y],l]).1≤m):((max (max (dpE x) (dpE y)) (dpEs l):Nat):Int)+2≤2*(zc m n d [[x,y],l]).2:=by
 rw [zc,zc,zc] at h ⊢;simp only at h ⊢;have h1:=zL_le [x,y] (m-n) 0 0 (by omega) (by omega);have h2:=zL_le l (m-(n+(zL (m-n) 0 0 [x,y]).1)) 0 0 (by omega) (by omega);have h3:=dpL_le [x,y] (m-n) 0 0 (by omega) (by omega) (by omega);have h4:=dpL_le l (m-(n+(zL (m-n) 0 0 [x,y]).1)) 0 0 (by omega) (by omega) (by omega);rw [dpEs,dpEs,dpEs] at h3;omega
mutual
theorem dpS_le:∀ (x:St) (m n d:Int),0≤m→0≤n→0≤d→(zSt m n d x).1≤m→(dpS x:Int)≤2*(zSt m n d x).2
 | .mk op nm dst val conds labels fields blocks ln,m,n,d,hm,hn,hd,h=>by
  rw [zSt] at h ⊢;have a1:=zc_le [[dst,val],conds] m n d hd;have a2:=zlab_le labels m ((zc m n d [[dst,val],conds]).1+(min (labels.length:Int) (m+1)+min (fields.length:Int) (m+1))) hm;have a3:=zB_le blocks m (zlab m ((zc m n d [[dst,val],conds]).1+(min (labels.length:Int) (m+1)+min (fields.length:Int) (m+1))) labels) (zc m n d [[dst,val],conds]).2 (by omega) (by omega);have a4:=dpC_le (x:=dst) (y:=val) (l:=conds) (m:=m) hn hd (by omega);have a5:=dpB_le blocks m _ (zc m n d [[dst,val],conds]).2 (by omega) (by omega) h;rw [dpS];omega
theorem dpSs_le:∀ (L:List St) (m n d:Int),0≤n→0≤d→(zLs m n d L).1≤m→(dpSs L:Int)≤2*(zLs m n d L).2
 | [],m,n,d,hn,hd,h=>by
  rw [zLs,dpSs];simp only;omega
 | x::l,m,n,d,hn,hd,h=>by
  rw [zLs] at h ⊢;by_cases hc:n≤m
  ·rw [if_pos hc] at h ⊢
   have h1:=zSt_le x m (n+1) d (by omega) (by omega) hd;have h2:=zLs_le l m (zSt m (n+1) d x).1 (zSt m (n+1) d x).2 (by omega) (by omega);have h3:=dpSs_le l m _ _ (by omega) (by omega) h;have h4:=dpS_le x m (n+1) d (by omega) (by omega) hd (by omega);rw [dpSs];omega
  ·rw [if_neg hc] at h
   simp only at h;omega
theorem dpB_le:∀ (L:List (List St)) (m n d:Int),0≤n→1≤d→(zB m n d L).1≤m→(dpBs L:Int)+2≤2*(zB m n d L).2
 | [],m,n,d,hn,hd,h=>by
  rw [zB,dpBs];simp only;omega
 | x::l,m,n,d,hn,hd,h=>by
  rw [zB] at h ⊢;by_cases hc:n≤m
  ·rw [if_pos hc] at h ⊢
   have h1:=zLs_le x (m-n) 0 0 (by omega) (by omega);have h2:=zB_le l m (n+((zLs (m-n) 0 0 x).1+1)) (max d ((zLs (m-n) 0 0 x).2+1)) (by omega) (by omega);have h3:=dpB_le l m _ _ (by omega) (by omega) h;have h4:=dpSs_le x (m-n) 0 0 (by omega) (by omega) (by omega);rw [dpBs];omega
  ·rw [if_neg hc] at h
   simp only at h;omega
end
theorem deep_p {p:Pg} (h:shortB p=true) (hd:32<dpSs p.body):8<(zP 2000 p).2:=by
 unfold shortB zP at *;simp only [Bool.and_eq_true,decide_eq_true_eq] at h ⊢;have:=dpSs_le p.body 2000 0 0 (by omega) (by omega) (by omega);omega
end sh
end Go.Proofs.YtdefgghhkknnpaaGreatDoor

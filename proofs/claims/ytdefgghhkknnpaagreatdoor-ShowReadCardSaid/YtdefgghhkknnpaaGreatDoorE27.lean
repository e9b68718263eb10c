/- What the parser gives of such signs: expressions such as a text could give, no more parts than signs. No condition. What the parser gives of such signs: statements such as a text could give, no more than three parts a sign. No condition. What the parser gives of a text: a program such as a text could give, of few parts. No condition. How a row lies in memory, read out of what a claim says of its argument, with how much it holds. No condition. How an expression lies in memory, read out of what a claim says of its argument; how much it holds, how long its text is. No condition. How long a statement's text can be. No condition. How statements lie in memory, read out of what a claim says of its argument; how much they hold, how long their text is. No condition. How statements and programs lie in memory, read out of what a claim says of its argument; how much they hold, how long their text is. No condition. How a program lies in memory, read out of what a claim says of its argument; how much it holds, how long its text is. No condition. How long a shown program is, by its parts; programs that are the same but for lines have one text. Condition: a program such as a text could give. -/
import Derived.Test.YtdefgghhkknnpaaGreatDoorE26
import Derived.Deep.Slices
set_option linter.unusedVariables false
set_option linter.unusedSimpArgs false
set_option maxRecDepth 100000
set_option maxHeartbeats 40000000
namespace Go.Proofs.YtdefgghhkknnpaaGreatDoor
namespace sh
open ChangeShapes WideShapes ChangeAt RowKit k rr tk tr
theorem op_in {lv:Nat} {s:Str} (h:opOf lv s≠0):8≤opOf lv s∧opOf lv s≤21∧s≠[]:=by
 by_cases h7:7≤lv
 ·match lv,h7 with
  | l+7,_=>exact absurd rfl h
 ·have hs:s≠[]:=by
   rintro rfl;rcases (show lv=0∨lv=1∨lv=2∨lv=3∨lv=4∨lv=5∨lv=6 by omega) with rfl|rfl|rfl|rfl|rfl|rfl|rfl<;>exact h rfl
  rcases (show lv=0∨lv=1∨lv=2∨lv=3∨lv=4∨lv=5∨lv=6 by omega) with rfl|rfl|rfl|rfl|rfl|rfl|rfl
  ·exact absurd rfl h
  all_goals
   simp only [opOf] at h ⊢;refine ⟨?_,?_,hs⟩
   all_goals
    (repeat' split)<;>first|decide|(exfalso;simp_all)
theorem ex_num {n ln:Int} (h0:0≤n) (h1:n≤9223372036854775807):exB (.mk 1 n [] [] [] ln)=true:=by
 simp [exB,exsB,exOk,mostE,namedE,fieldE,nameB,subsE,h0,h1]
theorem ex_truth {n ln:Int} (h:n=0∨n=1):exB (.mk 2 n [] [] [] ln)=true:=by
 rcases h with rfl|rfl<;>simp [exB,exsB,exOk,mostE,namedE,fieldE,nameB,subsE]
theorem ex_name {nm:Str} {ln:Int} (h:nmB nm=true):exB (.mk 3 0 nm [] [] ln)=true:=by
 simp [exB,exsB,exOk,mostE,namedE,fieldE,nameB,subsE,h]
theorem ex_index {nm:Str} {x:Ex} {ln:Int} (h:nmB nm=true) (hx:exB x=true):exB (.mk 4 0 nm [] [x] ln)=true:=by
 simp [exB,exsB,exOk,mostE,namedE,fieldE,nameB,subsE,h,hx]
theorem ex_field {nm fd:Str} {ln:Int} (h:nmB nm=true) (h2:nmB fd=true):exB (.mk 5 0 nm fd [] ln)=true:=by
 simp [exB,exsB,exOk,mostE,namedE,fieldE,nameB,subsE,h,h2]
theorem ex_one {op:Int} {x:Ex} {ln:Int} (h:op=6∨op=7) (hx:exB x=true):exB (.mk op 0 [] [] [x] ln)=true:=by
 rcases h with rfl|rfl<;>simp [exB,exsB,exOk,mostE,namedE,fieldE,nameB,subsE,hx]
theorem ex_two {op:Int} {x y:Ex} {ln:Int} (h8:8≤op) (h21:op≤21) (hx:exB x=true) (hy:exB y=true):exB (.mk op 0 [] [] [x,y] ln)=true:=by
 have g1:namedE op=false:=by unfold namedE;simp;omega
 have g2:fieldE op=false:=by unfold fieldE;simp;omega
 have g3:mostE op=0:=by unfold mostE;rw [if_neg (by omega),if_neg (by omega)]
 rw [exB,exsB,exsB,exsB];unfold exOk;rw [g1,g2,g3,subs_e8 h8,hx,hy,decide_eq_true h21,decide_eq_true (show (1:Int)≤op by omega)];rfl
theorem w0 {op n:Int} {nm fd:Str} {ln:Int}:wE (.mk op n nm fd [] ln)=1:=by rw [wE,wsE]
theorem w1 {op n:Int} {nm fd:Str} {x:Ex} {ln:Int}:wE (.mk op n nm fd [x] ln)=wE x+1:=by rw [wE,wsE,wsE]
theorem w2 {op n:Int} {nm fd:Str} {x y:Ex} {ln:Int}:wE (.mk op n nm fd [x,y] ln)=wE x+wE y+1:=by rw [wE,wsE,wsE,wsE];omega
def FE (r:Sg):Ex→Nat→Prop:=fun x n=>exB x=true∧wE x+n≤r.length
theorem fitE:∀ f:Nat,(∀ (d lv:Nat) (r:Sg),AllG r→Fit (FE r) (exprF f d lv r))∧(∀ (d lv:Nat) (x:Ex) (r:Sg),AllG r→exB x=true→Fit (fun y n=>exB y=true∧wE y+n≤wE x+r.length) (moreF f d lv x r))∧(∀ (d:Nat) (r:Sg),AllG r→Fit (FE r) (unaryF f d r))∧(∀ (d:Nat) (r:Sg),AllG r→Fit (fun x n=>exB x=true∧wE x+n+1≤r.length) (indexF f d r)):=by
 intro f;induction f with
 | zero=>
  refine ⟨?_,?_,?_,?_⟩
  ·intro d lv r h
   rw [exprF];exact trivial
  ·intro d lv x r h hx
   rw [moreF];exact trivial
  ·intro d r h
   rw [unaryF];exact trivial
  ·intro d r h
   rw [indexF];exact trivial
 | succ f ih=>
  obtain ⟨i1,i2,i3,i4⟩:=ih;refine ⟨?_,?_,?_,?_⟩
  ·intro d lv r h
   rw [exprF];split
   ·exact i3 d r h
   ·refine Fit.bind (i1 d (lv+1) r h) (fun x r' h' hx=>?_)
    exact (i2 d lv x r' h' hx.1).mono fun y n hy=>⟨hy.1,by have:=hx.2;have:=hy.2;omega⟩
  ·intro d lv x r h hx
   rw [moreF];by_cases ho:opOf lv (txt r)=0
   ·rw [if_pos ho]
    exact ⟨h,hx,Nat.le_refl _⟩
   ·rw [if_neg ho]
    obtain ⟨o1,o2,o3⟩:=op_in ho;have hl:=txt_len (r:=r) rfl o3;refine Fit.bind (i1 d (lv+1) (r.drop 1) (h.drop 1)) (fun y r' h' hy=>?_);have hb:=ex_two (ln:=((hd r).line:Int)) o1 o2 hx hy.1;have hw:wE (.mk (opOf lv (txt r)) 0 [] [] [x,y] ((hd r).line:Int))+r'.length≤wE x+r.length:=by
     rw [w2];have:=hy.2;omega
    split
    ·exact ⟨h',hb,hw⟩
    ·exact (i2 d lv _ r' h' hb).mono fun z n hz=>⟨hz.1,by have:=hz.2;omega⟩
  ·intro d r h
   rw [unaryF];split
   ·rename_i hm
    have hl:(r.drop 1).length+1=r.length:=by
     rcases hm with hm|hm
     ·exact txt_len hm (by decide)
     ·exact txt_len hm (by decide)
    split
    ·exact trivial
    ·refine Fit.bind (i3 (d+1) (r.drop 1) (h.drop 1)) (fun x r' h' hx=>?_)
     refine ⟨h',ex_one (by split<;>simp) hx.1,?_⟩;rw [w1];have:=hx.2;omega
   ·split
    ·rename_i hk
     have hl:=kind_len hk (by decide);have hg:=h.hd.2 hk;exact ⟨h.drop 1,ex_num hg.1 hg.2,by rw [w0];omega⟩
    ·split
     ·rename_i ht
      have hl:=txt_len ht (by decide);exact ⟨h.drop 1,ex_truth (Or.inr rfl),by rw [w0];omega⟩
     ·split
      ·rename_i ht
       have hl:=txt_len ht (by decide);exact ⟨h.drop 1,ex_truth (Or.inl rfl),by rw [w0];omega⟩
      ·split
       ·rename_i ht
        have hl:=txt_len ht (by decide);split
        ·exact trivial
        ·refine Fit.bind (i1 (d+1) 1 (r.drop 1) (h.drop 1)) (fun x r' h' hx=>?_)
         refine Fit.bind (fit_need h' (by decide)) (fun _ r2 h2 hn=>?_);exact ⟨h2,hx.1,by have:=hx.2;omega⟩
       ·refine Fit.bind (fit_name h) (fun t r' h' ht=>?_)
        split
        ·refine Fit.bind (i4 d r' h') (fun x r2 h2 hx=>?_)
         exact ⟨h2,ex_index ht.1 hx.1,by rw [w1];have:=hx.2;have:=ht.2;omega⟩
        ·split
         ·refine Fit.bind (fit_name (h'.drop 1)) (fun u r2 h2 hu=>?_)
          have:=drop_le r' 1;exact ⟨h2,ex_field ht.1 hu.1,by rw [w0];have:=hu.2;have:=ht.2;omega⟩
         ·exact ⟨h',ex_name ht.1,by rw [w0];have:=ht.2;omega⟩
  ·intro d r h
   rw [indexF];split
   ·exact trivial
   ·refine Fit.bind (i1 (d+1) 1 (r.drop 1) (h.drop 1)) (fun x r' h' hx=>?_)
    refine Fit.bind (fit_need h' (by decide)) (fun _ r2 h2 hn=>?_);have:=drop_le r 1;exact ⟨h2,hx.1,by have:=hx.2;omega⟩
theorem fit_expr {f d:Nat} {r:Sg} (h:AllG r):Fit (FE r) (expr f d r):=(fitE f).1 d 1 r h
theorem fit_index {f d:Nat} {r:Sg} (h:AllG r):Fit (fun x n=>exB x=true∧wE x+n+1≤r.length) (indexF f d r):=(fitE f).2.2.2 d r h
def InM (n:Int):Prop:=-9223372036854775807≤n∧n≤9223372036854775807
theorem fit_intg {r:Sg} (h:AllG r):Fit (fun n k=>InM n∧k+1≤r.length) (intg r):=by
 unfold intg;split
 ·refine Fit.bind (fit_numb (h.drop 1)) (fun t r' h' ht=>?_)
  have:=drop_le r 1;exact ⟨h',⟨by have:=ht.1;omega,by have:=ht.1;omega⟩,by have:=ht.2;omega⟩
 ·refine Fit.bind (fit_numb h) (fun t r' h' ht=>?_)
  exact ⟨h',⟨by have:=ht.1;omega,by have:=ht.1;omega⟩,by have:=ht.2;omega⟩
def LabP (l:List Int):Prop:=l.length % 2=0∧∀ n∈l,InM n
theorem LabP.two {l:List Int} (h:LabP l) {a b:Int} (ha:InM a) (hb:InM b):LabP (l++[a,b]):=by
 refine ⟨by rw [List.length_append];have:=h.1;simp only [List.length_cons,List.length_nil];omega,fun n hn=>?_⟩;rcases List.mem_append.1 hn with hn|hn
 ·exact h.2 n hn
 ·simp only [List.mem_cons,List.not_mem_nil,or_false] at hn
  rcases hn with rfl|rfl
  ·exact ha
  ·exact hb
theorem fit_labels:∀ (f:Nat) (r:Sg) (acc:List Int),AllG r→LabP acc→Fit (fun l n=>LabP l∧0<l.length∧l.length+3*n≤acc.length+3*r.length) (labelsF f r acc)
 | 0,r,acc,_,_=>by rw [labelsF];exact trivial
 | f+1,r,acc,h,ha=>by
  rw [labelsF];refine Fit.bind (fit_intg h) (fun a r1 h1 h2=>?_);refine Fit.bind (P:=fun c n=>InM c∧n≤r1.length) ?_ (fun c r2 h3 h4=>?_)
  ·split
   ·refine (fit_intg (h1.drop 1)).mono fun c n hc=>⟨hc.1,?_⟩
    have:=drop_le r1 1;have:=hc.2;omega
   ·exact ⟨h1,h2.1,Nat.le_refl _⟩
  ·have hl:=ha.two h2.1 h4.1
   split
   ·have:=drop_le r2 1
    refine (fit_labels f (r2.drop 1) (acc++[a,c]) (h3.drop 1) hl).mono fun l n hn=>⟨hn.1,hn.2.1,?_⟩
    have h5:=hn.2.2;rw [List.length_append] at h5;simp only [List.length_cons,List.length_nil] at h5;have:=h2.2;have:=h4.2;omega
   ·refine ⟨h3,hl,by rw [List.length_append];simp,?_⟩
    rw [List.length_append];simp only [List.length_cons,List.length_nil];have:=h2.2;have:=h4.2;omega
theorem exsB_snoc:∀ {l:List Ex} {x:Ex},exsB l=true→exB x=true→exsB (l++[x])=true
 | [],x,_,hx=>by rw [List.nil_append,exsB,exsB,hx];rfl
 | y::l,x,h,hx=>by
  rw [exsB,Bool.and_eq_true] at h;rw [List.cons_append,exsB,h.1,exsB_snoc h.2 hx];rfl
theorem wsE_snoc:∀ (l:List Ex) (x:Ex),wsE (l++[x])=wsE l+wE x
 | [],x=>by rw [List.nil_append,wsE,wsE,wsE];omega
 | y::l,x=>by rw [List.cons_append,wsE,wsE,wsE_snoc l x];omega
theorem fit_args:∀ (f d:Nat) (r:Sg) (fs:List Str) (cs:List Ex),AllG r→fs.all nmB=true→exsB cs=true→cs.length=fs.length→Fit (fun a n=>a.1.all nmB=true∧exsB a.2=true∧a.2.length=a.1.length∧a.1.length+wsE a.2+n≤fs.length+wsE cs+r.length) (argsF f d r fs cs)
 | 0,_,_,_,_,_,_,_,_=>by rw [argsF];exact trivial
 | f+1,d,r,fs,cs,h,hf,hc,hl=>by
  rw [argsF];refine Fit.bind (fit_name h) (fun t r1 h1 ht=>?_);refine Fit.bind (fit_need h1 (by decide)) (fun _ r2 h2 hn=>?_);refine Fit.bind (fit_expr h2) (fun x r3 h3 hx=>?_);have hf':(fs++[t.text]).all nmB=true:=by rw [List.all_append,hf];simp [ht.1]
  have hc':=exsB_snoc hc hx.1;have hl':(cs++[x]).length=(fs++[t.text]).length:=by simp [hl]
  have hx2:=hx.2;have ht2:=ht.2;split
  ·have:=drop_le r3 1
   refine (fit_args f d (r3.drop 1) (fs++[t.text]) (cs++[x]) (h3.drop 1) hf' hc' hl').mono fun a n ha=>⟨ha.1,ha.2.1,ha.2.2.1,?_⟩
   have h5:=ha.2.2.2;rw [wsE_snoc,List.length_append] at h5;simp only [List.length_cons,List.length_nil] at h5;omega
  ·refine ⟨h3,hf',hc',hl',?_⟩
   show (fs++[t.text]).length+wsE (cs++[x])+r3.length≤_
   rw [wsE_snoc,List.length_append];simp only [List.length_cons,List.length_nil];omega
theorem ex_not_no {x:Ex} (h:exB x=true):noE x=false:=by
 obtain ⟨op,n,nm,fd,sub,ln⟩:=x;rw [exB,Bool.and_eq_true] at h;have h1:=h.1;unfold exOk at h1;simp only [Bool.and_eq_true,decide_eq_true_eq] at h1
 show (op==0&&(n==0&&(nm==[]&&(fd==[]&&sub.length==0))))=false
 rw [show (op==0)=false from by rw [beq_eq_false_iff_ne];omega];rfl
theorem st_ok {op:Int} {nm:Str} {dst val:Ex} {cs:List Ex} {ls:List (List Int)} {fs:List Str} {bs:List (List St)} {ln:Int} (h1:inS9 op=true) (h2:nameB (hasN op) nm=true) (h3:dstB (hasD op) dst=true) (h4:valB (hasV op) val=true) (h5:exsB cs=true)
  (h6:cntB (cntS op cs.length ls.length fs.length) cs.length ls.length fs.length bs.length=true) (h7:fs.all nmB=true) (h8:ls.all labB=true) (h9:blksB bs=true):stB (.mk op nm dst val cs ls fs bs ln)=true:=by
 rw [stB_fit,h1,h2,h3,h4,h5,h6,h7,h8,h9];rfl
theorem val_ok {x:Ex} (h:exB x=true):valB true x=true:=by
 unfold valB;rw [if_pos rfl,ex_not_no h,h];rfl
theorem no_zero:noE zeroE=true:=by decide
theorem exsB_two {x y:Ex} (hx:exB x=true) (hy:exB y=true) (z:Ex) (hz:exB z=true):exsB [x,y,z]=true:=by rw [exsB,exsB,exsB,exsB,hx,hy,hz];rfl
theorem stsB_snoc:∀ {l:List St} {x:St},stsB l=true→stB x=true→stsB (l++[x])=true
 | [],x,_,hx=>by rw [List.nil_append,stsB,stsB,hx];rfl
 | y::l,x,h,hx=>by
  rw [stsB,Bool.and_eq_true] at h;rw [List.cons_append,stsB,h.1,stsB_snoc h.2 hx];rfl
theorem blksB_snoc:∀ {l:List (List St)} {x:List St},blksB l=true→stsB x=true→blksB (l++[x])=true
 | [],x,_,hx=>by rw [List.nil_append,blksB,blksB,hx];rfl
 | y::l,x,h,hx=>by
  rw [blksB,Bool.and_eq_true] at h;rw [List.cons_append,blksB,h.1,blksB_snoc h.2 hx];rfl
theorem inSs_snoc:∀ {l:List St} {x:St},inSs l→inS x→inSs (l++[x])
 | [],x,_,hx=>by rw [List.nil_append,inSs,inSs];exact ⟨hx,trivial⟩
 | y::l,x,h,hx=>by
  rw [inSs] at h;rw [List.cons_append,inSs];exact ⟨h.1,inSs_snoc h.2 hx⟩
theorem inBs_snoc:∀ {l:List (List St)} {x:List St},inBs l→inSs x→inBs (l++[x])
 | [],x,_,hx=>by rw [List.nil_append,inBs,inBs];exact ⟨hx,trivial⟩
 | y::l,x,h,hx=>by
  rw [inBs] at h;rw [List.cons_append,inBs];exact ⟨h.1,inBs_snoc h.2 hx⟩
theorem wsS_snoc:∀ (l:List St) (x:St),wsS (l++[x])=wsS l+wS x
 | [],x=>by rw [List.nil_append,wsS,wsS,wsS];omega
 | y::l,x=>by rw [List.cons_append,wsS,wsS,wsS_snoc l x];omega
theorem wsB_snoc:∀ (l:List (List St)) (x:List St),wsB (l++[x])=wsB l+wsS x+1
 | [],x=>by rw [List.nil_append,wsB,wsB,wsB];omega
 | y::l,x=>by rw [List.cons_append,wsB,wsB,wsB_snoc l x];omega
theorem wL_snoc:∀ (l:List (List Int)) (x:List Int),wL (l++[x])=wL l+x.length+1
 | [],x=>by rw [List.nil_append,wL,wL,wL];omega
 | y::l,x=>by rw [List.cons_append,wL,wL,wL_snoc l x];omega
def LsP (ls:List (List Int)):Prop:=ls.all labB=true∧∀ l∈ls,∀ n∈l,InI n
theorem LsP.nil:LsP []:=⟨rfl,fun l hl=>by cases hl⟩
theorem LsP.snoc {ls:List (List Int)} {l:List Int} (h:LsP ls) (hl:LabP l) (h0:0<l.length):LsP (ls++[l]):=by
 have hb:labB l=true:=by
  unfold labB;rw [decide_eq_true h0,hl.1];simp only [Bool.true_and,beq_self_eq_true,List.all_eq_true,bne_iff_ne];intro n hn;have:=(hl.2 n hn).1;omega
 refine ⟨by rw [List.all_append,h.1];simp [hb],fun x hx n hn=>?_⟩;rcases List.mem_append.1 hx with hx|hx
 ·exact h.2 x hx n hn
 ·simp only [List.mem_cons,List.not_mem_nil,or_false] at hx
  subst hx;have:=hl.2 n hn;unfold InM at this;unfold InI;omega
def BsP (bs:List (List St)):Prop:=blksB bs=true∧inBs bs
theorem BsP.nil:BsP []:=⟨by rw [blksB],by rw [inBs];trivial⟩
theorem BsP.snoc {bs:List (List St)} {b:List St} (h:BsP bs) (hb:stsB b=true∧inSs b):BsP (bs++[b]):=⟨blksB_snoc h.1 hb.1,inBs_snoc h.2 hb.2⟩
theorem wz:wE zeroE=1:=rfl
theorem wS_mk {op:Int} {nm:Str} {dst val:Ex} {cs:List Ex} {ls:List (List Int)} {fs:List Str} {bs:List (List St)} {ln:Int}:wS (.mk op nm dst val cs ls fs bs ln)=1+(wE dst+wE val)+wsE cs+wL ls+fs.length+wsB bs:=by rw [wS]
def Q1 (r:Sg):List St→Nat→Prop:=fun X n=>(stsB X=true∧inSs X)∧wsS X+3*n≤3*r.length
theorem noL:(∀ l∈([]:List (List Int)),∀ n∈l,InI n):=fun l hl=>by cases hl
theorem fitS:∀ f:Nat,(∀ (d:Nat) (ends:List Str) (r:Sg) (ac:List St),AllG r→stsB ac=true∧inSs ac→Fit (fun X n=>(stsB X=true∧inSs X)∧wsS X+3*n≤wsS ac+3*r.length) (stmtsF f d ends r ac)) ∧
  (∀ (d:Nat) (r:Sg),AllG r→Fit (fun s n=>(stB s=true∧inS s)∧wS s+3*n≤3*r.length) (stmtF f d r)) ∧
  (∀ (d:Nat) (r:Sg),AllG r→Fit (fun (g:Int→St) n=>∀ ln,(stB (g ln)=true∧inS (g ln))∧wS (g ln)+3*n≤3*r.length) (whatF f d r)) ∧
  (∀ (d:Nat) (r:Sg) (cs:List Ex) (bs:List (List St)),AllG r→exsB cs=true→BsP bs→bs.length=cs.length→Fit (fun (g:Int→St) n=>∀ ln,(stB (g ln)=true∧inS (g ln))∧wS (g ln)+3*n≤3+wsE cs+wsB bs+3*r.length) (ifF f d r cs bs)) ∧
  (∀ (d:Nat) (x:Ex) (r:Sg) (ls:List (List Int)) (bs:List (List St)),AllG r→exB x=true→LsP ls→BsP bs→bs.length=ls.length→Fit (fun (g:Int→St) n=>∀ ln,(stB (g ln)=true∧inS (g ln))∧wS (g ln)+3*n≤2+wE x+wL ls+wsB bs+3*r.length) (caseF f d x r ls bs)) ∧
  (∀ (d:Nat) (r:Sg) (ac:List St),AllG r→stsB ac=true∧inSs ac→Fit (fun X n=>(stsB X=true∧inSs X)∧wsS X+3*n≤wsS ac+3*r.length) (blockF f d r ac)):=by
 intro f;induction f with
 | zero=>
  refine ⟨?_,?_,?_,?_,?_,?_⟩
  ·intro d ends r ac h hac
   rw [stmtsF];exact trivial
  ·intro d r h
   rw [stmtF];exact trivial
  ·intro d r h
   rw [whatF];exact trivial
  ·intro d r cs bs h hc hb hl
   rw [ifF];exact trivial
  ·intro d x r ls bs h hx hls hb hl
   rw [caseF];exact trivial
  ·intro d r ac h hac
   rw [blockF];exact trivial
 | succ f ih=>
  obtain ⟨i1,i2,i3,i4,i5,i6⟩:=ih;have nil0:stsB []=true∧inSs []:=⟨by rw [stsB],by rw [inSs];trivial⟩;have i1':∀ (d:Nat) (ends:List Str) (r:Sg),AllG r→Fit (Q1 r) (stmtsF f d ends r []):=fun d ends r h=>(i1 d ends r [] h nil0).mono fun X n hX=>⟨hX.1,by have:=hX.2;rw [wsS] at this;omega⟩
  refine ⟨?_,?_,?_,?_,?_,?_⟩
  ·intro d ends r ac h hac
   rw [stmtsF];split
   ·exact ⟨h,hac,Nat.le_refl _⟩
   ·refine Fit.bind (i2 d r h) (fun s r1 h1 hs=>?_)
    refine (i1 d ends r1 (ac++[s]) h1 ⟨stsB_snoc hac.1 hs.1.1,inSs_snoc hac.2 hs.1.2⟩).mono fun X n hX=>⟨hX.1,?_⟩
    have h2:=hX.2;rw [wsS_snoc] at h2;have:=hs.2;omega
  ·intro d r h
   rw [stmtF];split
   ·exact trivial
   ·refine Fit.bind (i3 (d+1) r h) (fun s r1 h1 hs=>?_)
    refine Fit.bind (fit_need h1 (by decide)) (fun _ r2 h2 hn=>?_);have:=hs (hd r).line;exact ⟨h2,this.1,by omega⟩
  ·intro d r h
   rw [whatF];split
   ·rename_i ht
    have hl:=txt_len ht (by decide);refine (i4 d (r.drop 1) [] [] (h.drop 1) (by rw [exsB]) BsP.nil rfl).mono fun g n hg ln=>⟨(hg ln).1,?_⟩
    have h2:=(hg ln).2;rw [wsE,wsB] at h2;omega
   ·split
    ·rename_i ht
     have hl:=txt_len ht (by decide);refine Fit.bind (fit_expr (h.drop 1)) (fun x r1 h1 hx=>?_);refine Fit.bind (fit_need h1 (by decide)) (fun _ r2 h2 hn=>?_);refine (i5 d x r2 [] [] h2 hx.1 LsP.nil BsP.nil rfl).mono fun g n hg ln=>⟨(hg ln).1,?_⟩
     have h3:=(hg ln).2;rw [wL,wsB] at h3;have:=hx.2;omega
    ·split
     ·rename_i ht
      have hl:=txt_len ht (by decide);refine Fit.bind (fit_name (h.drop 1)) (fun t r1 h1 ht1=>?_);refine Fit.bind (fit_need h1 (by decide)) (fun _ r2 h2 hn2=>?_);refine Fit.bind (fit_expr h2) (fun a r3 h3 ha=>?_);refine Fit.bind (fit_need h3 (by decide)) (fun _ r4 h4 hn4=>?_);refine Fit.bind (fit_expr h4) (fun c r5 h5 hc=>?_);refine Fit.bind (P:=fun y n=>exB y=true∧wE y+n≤r5.length+1) ?_ (fun y r6 h6 hy=>?_)
      ·split
       ·refine (fit_expr (h5.drop 1)).mono fun y n hy=>⟨hy.1,?_⟩
        have:=hy.2;have:=drop_le r5 1;omega
       ·exact ⟨h5,ex_num (by decide) (by decide),by rw [w0];omega⟩
      ·refine Fit.bind (fit_need h6 (by decide)) (fun _ r7 h7 hn7=>?_)
       refine Fit.bind (i1' d _ r7 h7) (fun B r8 h8 hB=>?_);refine Fit.bind (fit_need h8 (by decide)) (fun _ r9 h9 hn9=>?_);refine ⟨h9,fun ln=>⟨⟨st_ok (by decide) ht1.1 no_zero no_zero (exsB_two ha.1 hc.1 y hy.1) rfl rfl rfl (BsP.nil.snoc hB.1).1,?_⟩,?_⟩⟩
       ·rw [inS];exact ⟨noL,(BsP.nil.snoc hB.1).2⟩
       ·rw [wS_mk,wz,wsE,wsE,wsE,wsE,wL,wsB,wsB]
        simp only [List.length_nil];have:=hB.2;have:=hy.2;have:=hc.2;have:=ha.2;have:=ht1.2;omega
     ·split
      ·rename_i ht
       have hl:=txt_len ht (by decide);refine Fit.bind (fit_expr (h.drop 1)) (fun x r1 h1 hx=>?_);refine Fit.bind (fit_need h1 (by decide)) (fun _ r2 h2 hn2=>?_);refine Fit.bind (i1' d _ r2 h2) (fun B r3 h3 hB=>?_);refine Fit.bind (fit_need h3 (by decide)) (fun _ r4 h4 hn4=>?_);refine ⟨h4,fun ln=>⟨⟨st_ok (by decide) rfl no_zero (val_ok hx.1) (by rw [exsB]) rfl rfl rfl (BsP.nil.snoc hB.1).1,?_⟩,?_⟩⟩
       ·rw [inS];exact ⟨noL,(BsP.nil.snoc hB.1).2⟩
       ·rw [wS_mk,wz,wsE,wL,wsB,wsB]
        simp only [List.length_nil];have:=hB.2;have:=hx.2;omega
      ·split
       ·rename_i ht
        have hl:=txt_len ht (by decide);refine Fit.bind (i1' d _ (r.drop 1) (h.drop 1)) (fun B r1 h1 hB=>?_);refine Fit.bind (fit_need h1 (by decide)) (fun _ r2 h2 hn2=>?_);refine Fit.bind (fit_expr h2) (fun x r3 h3 hx=>?_);refine Fit.bind (fit_need h3 (by decide)) (fun _ r4 h4 hn4=>?_);refine ⟨h4,fun ln=>⟨⟨st_ok (by decide) rfl no_zero (val_ok hx.1) (by rw [exsB]) rfl rfl rfl (BsP.nil.snoc hB.1).1,?_⟩,?_⟩⟩
        ·rw [inS];exact ⟨noL,(BsP.nil.snoc hB.1).2⟩
        ·rw [wS_mk,wz,wsE,wL,wsB,wsB]
         simp only [List.length_nil];have:=hB.2;have:=hx.2;omega
       ·split
        ·rename_i ht
         have hl:=txt_len ht (by decide);refine ⟨h.drop 1,fun ln=>⟨⟨st_ok (by decide) rfl no_zero no_zero (by rw [exsB]) rfl rfl rfl BsP.nil.1,?_⟩,?_⟩⟩
         ·rw [inS];exact ⟨noL,BsP.nil.2⟩
         ·rw [wS_mk,wz,wsE,wL,wsB]
          simp only [List.length_nil];omega
        ·split
         ·rename_i ht
          have hl:=txt_len ht (by decide);refine ⟨h.drop 1,fun ln=>⟨⟨st_ok (by decide) rfl no_zero no_zero (by rw [exsB]) rfl rfl rfl BsP.nil.1,?_⟩,?_⟩⟩
          ·rw [inS];exact ⟨noL,BsP.nil.2⟩
          ·rw [wS_mk,wz,wsE,wL,wsB]
           simp only [List.length_nil];omega
         ·refine Fit.bind (fit_name h) (fun t r1 h1 ht=>?_)
          have ht2:=ht.2;split
          ·rename_i h40
           have hl40:=txt_len h40 (by decide);split
           ·refine ⟨h1.drop 2,fun ln=>⟨⟨st_ok (by decide) ht.1 no_zero no_zero (by rw [exsB]) rfl rfl rfl BsP.nil.1,?_⟩,?_⟩⟩
            ·rw [inS];exact ⟨noL,BsP.nil.2⟩
            ·rw [wS_mk,wz,wsE,wL,wsB]
             simp only [List.length_nil,List.length_drop] at hl40 ⊢;omega
           ·refine Fit.bind (fit_args f d (r1.drop 1) [] [] (h1.drop 1) rfl (by rw [exsB]) rfl) (fun a r2 h2 ha=>?_)
            refine Fit.bind (fit_need h2 (by decide)) (fun _ r3 h3 hn3=>?_);obtain ⟨a1,a2,a3,a4⟩:=ha;refine ⟨h3,fun ln=>⟨⟨st_ok (by decide) ht.1 no_zero no_zero a2 (by simp [cntB,cntS,a3]) a1 rfl BsP.nil.1,?_⟩,?_⟩⟩
            ·rw [inS];exact ⟨noL,BsP.nil.2⟩
            ·rw [wS_mk,wz,wL,wsB]
             rw [wsE] at a4;simp only [List.length_nil] at a4;omega
          ·refine Fit.bind (P:=fun y n=>placeB y=true∧wE y+n+1≤r.length+1∧n≤r1.length∧wE y+n≤r1.length+1) ?_ (fun y r2 h2 hy=>?_)
           ·split
            ·refine Fit.bind (fit_index h1) (fun x r2 h2 hx=>?_)
             have hx2:=hx.2;refine ⟨h2,?_,?_,?_,?_⟩
             ·unfold placeB
              rw [ex_index ht.1 hx.1];rfl
             ·rw [w1];omega
             ·omega
             ·rw [w1];omega
            ·refine ⟨h1,?_,?_,?_,?_⟩
             ·unfold placeB
              rw [ex_name ht.1];rfl
             ·rw [w0];omega
             ·omega
             ·rw [w0];omega
           ·refine Fit.bind (fit_need h2 (by decide)) (fun _ r3 h3 hn3=>?_)
            refine Fit.bind (fit_expr h3) (fun x r4 h4 hx=>?_);refine ⟨h4,fun ln=>⟨⟨st_ok (by decide) rfl hy.1 (val_ok hx.1) (by rw [exsB]) rfl rfl rfl BsP.nil.1,?_⟩,?_⟩⟩
            ·rw [inS];exact ⟨noL,BsP.nil.2⟩
            ·rw [wS_mk,wsE,wL,wsB]
             simp only [List.length_nil];have:=hy.2;have:=hx.2;omega
  ·intro d r cs bs h hc hb hl
   rw [ifF];refine Fit.bind (fit_expr h) (fun x r1 h1 hx=>?_);refine Fit.bind (fit_need h1 (by decide)) (fun _ r2 h2 hn2=>?_);refine Fit.bind (i1' d _ r2 h2) (fun B r3 h3 hB=>?_);have hc':=exsB_snoc hc hx.1;have hb':=hb.snoc hB.1;have hl':(bs++[B]).length=(cs++[x]).length:=by simp [hl]
   have hx2:=hx.2;have hB2:=hB.2;split
   ·have:=drop_le r3 1
    refine (i4 d (r3.drop 1) (cs++[x]) (bs++[B]) (h3.drop 1) hc' hb' hl').mono fun g n hg ln=>⟨(hg ln).1,?_⟩
    have h4:=(hg ln).2;rw [wsE_snoc,wsB_snoc] at h4;omega
   ·refine Fit.bind (P:=fun bs' n=>BsP bs'∧(bs'.length=bs.length+1∨bs'.length=bs.length+2)∧wsB bs'+3*n≤wsB bs+wsS B+2+3*r3.length) ?_ (fun bs' r4 h4 hb4=>?_)
    ·split
     ·rename_i he
      have hle:=txt_len he (by decide);refine Fit.bind (i1' d _ (r3.drop 1) (h3.drop 1)) (fun E r4 h4 hE=>?_);refine ⟨h4,hb'.snoc hE.1,Or.inr (by simp),?_⟩;rw [wsB_snoc,wsB_snoc];have:=hE.2;omega
     ·refine ⟨h3,hb',Or.inl (by simp),?_⟩
      rw [wsB_snoc];omega
    ·refine Fit.bind (fit_need h4 (by decide)) (fun _ r5 h5 hn5=>?_)
     obtain ⟨q1,q2,q3⟩:=hb4;refine ⟨h5,fun ln=>⟨⟨st_ok (by decide) rfl no_zero no_zero hc' ?_ rfl rfl q1.1,?_⟩,?_⟩⟩
     ·have e1:(cs++[x]).length=cs.length+1:=by simp
      rw [e1];unfold cntB cntS;rw [if_pos rfl];have e2:max 1 (cs.length+1)=cs.length+1:=by omega
      simp only [e2,List.length_nil,beq_self_eq_true,Bool.true_and,Bool.and_eq_true,decide_eq_true_eq];omega
     ·rw [inS];exact ⟨noL,q1.2⟩
     ·rw [wS_mk,wz,wsE_snoc,wL]
      simp only [List.length_nil];omega
  ·intro d x r ls bs h hx hls hb hl
   rw [caseF];split
   ·refine Fit.bind (fit_labels f r [] h ⟨rfl,fun n hn=>by cases hn⟩) (fun l r1 h1 hl1=>?_)
    refine Fit.bind (fit_need h1 (by decide)) (fun _ r2 h2 hn2=>?_);refine Fit.bind (i6 d r2 [] h2 nil0) (fun B r3 h3 hB=>?_);obtain ⟨l1,l2,l3⟩:=hl1;have hB2:=hB.2;rw [wsS] at hB2;simp only [List.length_nil] at l3;refine (i5 d x r3 (ls++[l]) (bs++[B]) h3 hx (hls.snoc l1 l2) (hb.snoc hB.1) (by simp [hl])).mono fun g n hg ln=>⟨(hg ln).1,?_⟩
    have h4:=(hg ln).2;rw [wL_snoc,wsB_snoc] at h4;omega
   ·refine Fit.bind (P:=fun bs' n=>BsP bs'∧(bs'.length=bs.length∨bs'.length=bs.length+1)∧wsB bs'+3*n≤wsB bs+3*r.length) ?_ (fun bs' r4 h4 hb4=>?_)
    ·split
     ·rename_i he
      have hle:=txt_len he (by decide);refine Fit.bind (i1' d _ (r.drop 1) (h.drop 1)) (fun E r4 h4 hE=>?_);refine ⟨h4,hb.snoc hE.1,Or.inr (by simp),?_⟩;rw [wsB_snoc];have:=hE.2;omega
     ·exact ⟨h,hb,Or.inl rfl,Nat.le_refl _⟩
    ·refine Fit.bind (fit_need h4 (by decide)) (fun _ r5 h5 hn5=>?_)
     obtain ⟨q1,q2,q3⟩:=hb4;refine ⟨h5,fun ln=>⟨⟨st_ok (by decide) rfl no_zero (val_ok hx) (by rw [exsB]) ?_ rfl hls.1 q1.1,?_⟩,?_⟩⟩
     ·unfold cntB cntS
      rw [if_neg (by decide),if_pos rfl];simp only [List.length_nil,beq_self_eq_true,Bool.true_and,Bool.and_eq_true,decide_eq_true_eq];omega
     ·rw [inS];exact ⟨hls.2,q1.2⟩
     ·rw [wS_mk,wz,wsE]
      simp only [List.length_nil];omega
  ·intro d r ac h hac
   rw [blockF];split
   ·exact ⟨h,hac,Nat.le_refl _⟩
   ·refine Fit.bind (i2 d r h) (fun s r1 h1 hs=>?_)
    refine (i6 d r1 (ac++[s]) h1 ⟨stsB_snoc hac.1 hs.1.1,inSs_snoc hac.2 hs.1.2⟩).mono fun X n hX=>⟨hX.1,?_⟩
    have h2:=hX.2;rw [wsS_snoc] at h2;have:=hs.2;omega
theorem fit_stmts {f d:Nat} {ends:List Str} {r:Sg} (h:AllG r):Fit (Q1 r) (stmtsF f d ends r []):=
 ((fitS f).1 d ends r [] h ⟨by rw [stsB],by rw [inSs];trivial⟩).mono fun X n hX=>⟨hX.1,by have:=hX.2;rw [wsS] at this;omega⟩
theorem fit_names:∀ (f m:Nat) (r:Sg) (acc:List Tk),AllG r→(∀ t∈acc,nmB t.text=true)→Fit (fun ns _=>(∀ t∈ns,nmB t.text=true)∧m+ns.length≤64) (namesF f m r acc)
 | 0,_,_,_,_,_=>by rw [namesF];exact trivial
 | f+1,m,r,acc,h,ha=>by
  rw [namesF];split
  ·exact trivial
  ·rename_i hm
   refine Fit.bind (fit_name h) (fun t r1 h1 ht=>?_);have ha':∀ u∈acc++[t],nmB u.text=true:=fun u hu=>by
    rcases List.mem_append.1 hu with hu|hu
    ·exact ha u hu
    ·simp only [List.mem_cons,List.not_mem_nil,or_false] at hu
     rw [hu];exact ht.1
   split
   ·exact fit_names f m (r1.drop 1) (acc++[t]) (h1.drop 1) ha'
   ·exact ⟨h1,ha',by rw [List.length_append];simp only [List.length_cons,List.length_nil];omega⟩
theorem simple_in (r:Sg):simpleT r=0∨simpleT r=1∨simpleT r=2:=by
 unfold simpleT;split
 ·exact Or.inr (Or.inl rfl)
 ·split
  ·exact Or.inr (Or.inr rfl)
  ·exact Or.inl rfl
theorem kind_in {s:Str} (h:kindOf s≠0):2<kindOf s∧(kinds.any fun k=>k.2==kindOf s)=true:=by
 unfold kindOf at h ⊢;cases hf:kinds.find? (fun k=>k.1==s) with
 | none=>rw [hf] at h;exact absurd rfl h
 | some k=>
  have hm:=List.mem_of_find?_eq_some hf;have h2:kinds.all (fun k=>decide (2<k.2))=true:=by kernel_rfl
  rw [List.all_eq_true] at h2;refine ⟨of_decide_eq_true (h2 k hm),?_⟩;rw [List.any_eq_true];exact ⟨k,hm,by simp⟩
def TyP (ty:Int×Bool×Int×Int):Prop:=
 (ty.2.1=true→(ty.1=1∨ty.1=2)∧0≤ty.2.2.1∧ty.2.2.1≤ty.2.2.2∧ty.2.2.2≤255) ∧
 (ty.2.1=false→ty.2.2.1=0∧ty.2.2.2=0∧(ty.1=1∨ty.1=2∨(2<ty.1∧(kinds.any fun k=>k.2==ty.1)=true)))
theorem fit_type {r:Sg} (h:AllG r):Fit (fun ty _=>TyP ty) (typeP r):=by
 unfold typeP;split
 ·rename_i hs
  refine ⟨h.drop 1,fun e=>absurd (show false=true from e) (by decide),fun _=>⟨rfl,rfl,?_⟩⟩
  show simpleT r=1∨simpleT r=2∨_
  have:=simple_in r;rcases this with e|e|e
  ·exact absurd e hs
  ·exact Or.inl e
  ·exact Or.inr (Or.inl e)
 ·split
  ·refine Fit.bind (fit_need (h.drop 1) (by decide)) (fun _ r1 h1 _=>?_)
   refine Fit.bind (fit_numb h1) (fun lo r2 h2 hlo=>?_);refine Fit.bind (fit_need h2 (by decide)) (fun _ r3 h3 _=>?_);refine Fit.bind (fit_numb h3) (fun hi r4 h4 hhi=>?_);split
   ·exact trivial
   ·rename_i hb
    refine Fit.bind (fit_need h4 (by decide)) (fun _ r5 h5 _=>?_);refine Fit.bind (fit_need h5 (by decide)) (fun _ r6 h6 _=>?_);split
    ·rename_i hs
     refine ⟨h6.drop 1,fun _=>⟨?_,hlo.1.1,?_,?_⟩,fun e=>absurd (show true=false from e) (by decide)⟩
     ·show simpleT r6=1∨simpleT r6=2
      rcases simple_in r6 with e|e|e
      ·exact absurd e hs
      ·exact Or.inl e
      ·exact Or.inr e
     ·show lo.n≤hi.n
      omega
     ·show hi.n≤255
      omega
    ·exact trivial
  ·refine Fit.bind (fit_name h) (fun t r1 h1 ht=>?_)
   split
   ·exact trivial
   ·rename_i hk
    have:=kind_in hk;exact ⟨h1,fun e=>absurd (show false=true from e) (by decide),fun _=>⟨rfl,rfl,Or.inr (Or.inr this)⟩⟩
theorem fit_value {r:Sg} (h:AllG r):Fit (fun z _=>InM z.2∧(z.1=true→z.2=0∨z.2=1)) (valueP r):=by
 unfold valueP;split
 ·exact ⟨h.drop 1,⟨by decide,by decide⟩,fun _=>Or.inr rfl⟩
 ·split
  ·exact ⟨h.drop 1,⟨by decide,by decide⟩,fun _=>Or.inl rfl⟩
  ·refine Fit.bind (fit_intg h) (fun n r1 h1 hn=>?_)
   exact ⟨h1,hn.1,fun e=>absurd (show false=true from e) (by decide)⟩
def VsP (vs:List Va):Prop:=vs.all vaB=true∧vs.length≤64∧∀ v∈vs,InI v.init
theorem type_ok {nm:Str} {ty:Int×Bool×Int×Int} {sec init ln:Int} (ht:TyP ty) (h1:ty.2.1=true→init=0) (h2:2<ty.1→init=0) (h3:InM init) (h4:ty.1=2→init=0∨init=1):typeB ⟨nm,ty.1,sec,ty.2.1,ty.2.2.1,ty.2.2.2,init,ln⟩=true:=by
 obtain ⟨T,a,lo,hi⟩:=ty;obtain ⟨g1,g2⟩:=ht;simp only at g1 g2 h1 h2 h4;unfold typeB;simp only;cases a with
 | true=>
  obtain ⟨k1,k2,k3,k4⟩:=g1 rfl;have k5:=h1 rfl;rw [if_pos rfl,decide_eq_true k2,decide_eq_true k3,decide_eq_true k4,k5];rcases k1 with e|e<;>rw [e]<;>rfl
 | false=>
  obtain ⟨k1,k2,k3⟩:=g2 rfl;rw [if_neg (by decide),if_neg (by omega)];unfold InM at h3;rcases k3 with e|e|⟨e,e2⟩
  ·rw [if_pos e,bne_iff_ne]
   omega
  ·rw [if_neg (by omega),if_pos e]
   rcases h4 e with h|h<;>rw [h]<;>rfl
  ·rw [if_neg (by omega),if_neg (by omega),e2,h2 e]
   rfl
theorem fit_line {f:Nat} {sec:Int} {r:Sg} {vs:List Va} (h:AllG r) (hs:sec=0∨sec=1∨sec=2) (hv:VsP vs):Fit (fun X _=>VsP X) (lineP f sec r vs):=by
 unfold lineP;refine Fit.bind (fit_names f vs.length r [] h (fun t ht=>by cases ht)) (fun ns r1 h1 hn=>?_);refine Fit.bind (fit_need h1 (by decide)) (fun _ r2 h2 _=>?_);refine Fit.bind (fit_type h2) (fun ty r3 h3 hty=>?_);refine Fit.bind (P:=fun init _=>(ty.2.1=true→init=0)∧(2<ty.1→init=0)∧InM init∧(ty.1=2→init=0∨init=1)) ?_ (fun init r4 h4 hi=>?_)
 ·split
  ·refine Fit.bind (fit_value (h3.drop 1)) (fun z r4 h4 hz=>?_)
   split
   ·exact trivial
   ·rename_i hc
    refine ⟨h4,fun e=>absurd (Or.inl e) hc,fun e=>absurd (Or.inr (Or.inl e)) hc,hz.1,fun e=>?_⟩;refine hz.2 ?_;cases hz1:z.1 with
    | true=>rfl
    | false=>exact absurd (Or.inr (Or.inr (Or.inr ⟨hz1,e⟩))) hc
  ·exact ⟨h3,fun _=>rfl,fun _=>rfl,⟨by decide,by decide⟩,fun _=>Or.inl rfl⟩
 ·refine Fit.bind (fit_need h4 (by decide)) (fun _ r5 h5 _=>?_)
  have hin:InI init:=⟨by have:=hi.2.2.1.1;omega,hi.2.2.1.2⟩;refine ⟨h5,?_,?_,?_⟩
  ·rw [List.all_append,hv.1,Bool.true_and,List.all_eq_true]
   intro v hvm;obtain ⟨t,ht,rfl⟩:=List.mem_map.1 hvm;unfold vaB;rw [type_ok hty hi.1 hi.2.1 hi.2.2.1 hi.2.2.2,hn.1 t ht];rcases hs with e|e|e<;>rw [e]<;>rfl
  ·rw [List.length_append,List.length_map]
   exact hn.2
  ·intro v hvm
   rcases List.mem_append.1 hvm with hvm|hvm
   ·exact hv.2.2 v hvm
   ·obtain ⟨t,ht,rfl⟩:=List.mem_map.1 hvm
    exact hin
theorem fit_lines:∀ (f:Nat) (sec:Int) (r:Sg) (vs:List Va),AllG r→(sec=0∨sec=1∨sec=2)→VsP vs→Fit (fun X n=>VsP X∧n≤n) (linesF f sec r vs)
 | 0,_,_,_,_,_,_=>by rw [linesF];exact trivial
 | f+1,sec,r,vs,h,hs,hv=>by
  rw [linesF];split
  ·exact ⟨h.drop 1,hv,Nat.le_refl _⟩
  ·exact Fit.bind (fit_line h hs hv) (fun X r1 h1 hX=>fit_lines f sec r1 X h1 hs hX)
theorem fit_sects:∀ (f:Nat) (r:Sg) (vs:List Va),AllG r→VsP vs→Fit (fun X _=>VsP X) (sectsF f r vs)
 | 0,_,_,_,_=>by rw [sectsF];exact trivial
 | f+1,r,vs,h,hv=>by
  rw [sectsF];split
  ·exact Fit.bind (fit_lines f 1 (r.drop 1) vs (h.drop 1) (by simp) hv) (fun X r1 h1 hX=>fit_sects f r1 X h1 hX.1)
  ·split
   ·exact Fit.bind (fit_lines f 2 (r.drop 1) vs (h.drop 1) (by simp) hv) (fun X r1 h1 hX=>fit_sects f r1 X h1 hX.1)
   ·split
    ·exact Fit.bind (fit_lines f 0 (r.drop 1) vs (h.drop 1) (by simp) hv) (fun X r1 h1 hX=>fit_sects f r1 X h1 hX.1)
    ·exact ⟨h,hv⟩
theorem suf_len {α:Type} {r:Sg} {p:Res α} {P:α→Nat→Prop} (h:Fit P p) (hg:tr.Good r p):Fit (fun x n=>P x n∧n≤r.length) p:=by
 cases p with
 | ok x r1=>exact ⟨h.1,h.2,List.IsSuffix.length_le hg⟩
 | bad e t=>trivial
theorem fit_prog {f:Nat} {r:Sg} (h:AllG r):Fit (fun p _=>pgB p=true∧inP p∧wsS p.body≤3*r.length) (progP f r):=by
 unfold progP;refine Fit.bind (fit_need h (by decide)) (fun _ r1 h1 hn1=>?_);refine Fit.bind (fit_name h1) (fun t r2 h2 ht=>?_);refine Fit.bind (suf_len (fit_sects f r2 [] h2 ⟨rfl,by decide,fun v hv=>by cases hv⟩) (good_sects f r2 r2 [] (List.suffix_refl _))) (fun vs r3 h3 hv=>?_);refine Fit.bind (fit_stmts h3) (fun b r4 h4 hb=>?_);refine Fit.bind (fit_need h4 (by decide)) (fun _ r5 h5 _=>?_);split
 ·obtain ⟨⟨v1,v2,v3⟩,v4⟩:=hv
  refine ⟨h5,?_,⟨v3,hb.1.2⟩,?_⟩
  ·unfold pgB
   rw [ht.1,decide_eq_true v2,v1,hb.1.1];rfl
  ·show wsS b≤_
   have:=hb.2;have:=ht.2;omega
 ·exact trivial
theorem parse_fit {s:Str} (h:(parse s).2.1=0):pgB (parse s).1=true∧inP (parse s).1∧wsS (parse s).1.body≤3*(s.length+1):=by
 unfold parse at h ⊢;by_cases h0:(lex s).1=0
 ·rw [if_pos h0] at h ⊢
  have hg:=lex_gs h0;have hl:=(lex_ok h0).2;have hf:=fit_prog (f:=20*(lex s).2.1.length+20) hg;have hgd:=good_prog (f:=20*(lex s).2.1.length+20) (List.suffix_refl (lex s).2.1);generalize progP (20*(lex s).2.1.length+20) (lex s).2.1=R at h hf hgd ⊢;cases R with
  | ok p r=>
   obtain ⟨-,a,b,c⟩:=hf;exact ⟨a,b,by show wsS p.body≤_;omega⟩
  | bad e t=>exact absurd h hgd.1
 ·rw [if_neg h0] at h
  exact absurd h h0
def All2 {α β:Type} (Q:α→β→Prop):List α→List β→Prop
 | [],[]=>True
 | a::l,b::m=>Q a b∧All2 Q l m
 | _,_=>False
theorem All2.len {α β:Type} {Q:α→β→Prop}:∀ {L:List α} {M:List β},All2 Q L M→L.length=M.length
 | [],[],_=>rfl
 | a::l,b::m,h=>by rw [List.length_cons,List.length_cons,h.2.len]
section
variable {H:Type} {enc:TypeId×Value→H} {w:World} {base:Nat} {held:Bool}
end
def sumE:List Ex→Nat
 | []=>0
 | x::l=>(exS x).length+sumE l
theorem head_le:∀ L:List Ex,((exsS L).headD []).length+(((exsS L).drop 1).headD []).length≤sumE L
 | []=>by simp [exsS,sumE]
 | [x]=>by simp [exsS,sumE]
 | x::y::l=>by simp [exsS,sumE]<;>omega
theorem opS_le (o:Int):(opS o).length≤3:=by
 by_cases h:8≤o∧o≤21
 ·rcases (show o=8∨o=9∨o=10∨o=11∨o=12∨o=13∨o=14∨o=15∨o=16∨o=17∨o=18∨o=19∨o=20∨o=21 by omega) with rfl|rfl|rfl|rfl|rfl|rfl|rfl|rfl|rfl|rfl|rfl|rfl|rfl|rfl<;>decide
 ·unfold opS
  rw [if_neg (by omega),if_neg (by omega),if_neg (by omega),if_neg (by omega),if_neg (by omega),if_neg (by omega),if_neg (by omega),if_neg (by omega),if_neg (by omega),if_neg (by omega),if_neg (by omega),if_neg (by omega),if_neg (by omega),if_neg (by omega)];decide
theorem truthS_le (n:Int):(truthS n).length≤5:=by
 unfold truthS;split<;>decide
theorem exS_le (op n:Int) (nm fd:Str) (sub:List Ex) (ln:Int) (hn:InJ n):(exS (.mk op n nm fd sub ln)).length≤21+nm.length+fd.length+sumE sub:=by
 have h1:=num_len (n:=n) hn;have h2:=truthS_le n;have h3:=opS_le op;have h4:=head_le sub;rw [exS];unfold exT;repeat' split
 all_goals
  try simp only [List.length_append,List.length_cons,List.length_nil]
  omega
section
variable {H:Type} {enc:TypeId×Value→H} {w:World} {base:Nat} {held:Bool}
end
def sumT (k:Nat):List Str→Nat
 | []=>0
 | b::l=>k+b.length+sumT k l
def sumL:List (List Int)→Nat
 | []=>0
 | l::m=>24*l.length+2+sumL m
theorem head_sum (k:Nat):∀ bs:List Str,(bs.headD []).length+sumT k (bs.drop 1)≤sumT k bs
 | []=>Nat.le_refl _
 | b::l=>by
  show b.length+sumT k l≤k+b.length+sumT k l
  omega
theorem three_sum (k:Nat) (bs:List Str):(bs.headD []).length+((bs.drop 1).headD []).length+((bs.drop 2).headD []).length≤sumT k bs:=by
 have h1:=head_sum k bs;have h2:=head_sum k (bs.drop 1);have h3:=head_sum k (bs.drop 2);rw [List.drop_drop,show 1+1=2 from rfl] at h2;omega
theorem elseT_le:∀ bs:List Str,(elseT bs).length≤sumT 5 bs
 | []=>Nat.le_refl _
 | b::l=>by
  have:=elseT_le l;rw [elseT,sumT];simp only [List.length_append,List.length_cons,List.length_nil];omega
theorem ifT_le:∀ (cs:List Str) (w:Str) (bs:List Str),w.length≤6→(ifT w cs bs).length≤sumT 12 cs+sumT 5 bs
 | [],w,bs,_=>by
  rw [ifT,sumT,Nat.zero_add];exact elseT_le bs
 | c::cs,w,bs,hw=>by
  have h1:=ifT_le cs [69,76,83,73,70,32] (bs.drop 1) (by decide);have h2:=head_sum 5 bs;rw [ifT,sumT];simp only [List.length_append,List.length_cons,List.length_nil];omega
theorem labT_le:∀ (l:List Int) (m:Bool),(∀ n∈l,InI n)→(labT m l).length≤24*l.length+2
 | [],m,_=>by cases m<;>decide
 | [a],m,_=>by
  rw [labT]
  ·simp
  ·intro _ _ _ h
   cases h
 | a::b::l,m,h=>by
  have h1:=labT_le l true (fun n hn=>h n (List.mem_cons_of_mem _ (List.mem_cons_of_mem _ hn)));have h2:=num_len (h a (List.mem_cons_self ..));have h3:=num_len (h b (List.mem_cons_of_mem _ (List.mem_cons_self ..)));rw [labT];simp only [List.length_append,List.length_cons];split<;>split<;>simp only [List.length_append,List.length_cons,List.length_nil]<;>omega
theorem caseT_le:∀ (ls:List (List Int)) (bs:List Str),(∀ l∈ls,∀ n∈l,InI n)→(caseT ls bs).length≤sumL ls+sumT 5 bs
 | [],bs,_=>by
  rw [caseT,sumL,Nat.zero_add];exact elseT_le bs
 | l::ls,bs,h=>by
  have h1:=caseT_le ls (bs.drop 1) (fun l hl=>h l (List.mem_cons_of_mem _ hl));have h2:=head_sum 5 bs;have h3:=labT_le l false (h l (List.mem_cons_self ..));rw [caseT,sumL];simp only [List.length_append];omega
theorem argT_le:∀ (fs:List Str) (m:Bool) (cs:List Str),(argT m fs cs).length≤sumT 6 fs+sumT 12 cs
 | [],m,cs=>by
  rw [argT];exact Nat.zero_le _
 | f::fs,m,cs=>by
  have h1:=argT_le fs true (cs.drop 1);have h2:=head_sum 12 cs;rw [argT,sumT];simp only [List.length_append,List.length_cons,List.length_nil];split<;>simp only [List.length_cons,List.length_nil]<;>omega
theorem stT_le (op:Int) (nm dst val:Str) (cs:List Str) (ls:List (List Int)) (fs bs:List Str) (hl:∀ l∈ls,∀ n∈l,InI n):(stT op nm dst val cs ls fs bs).length≤50+nm.length+dst.length+val.length+sumT 12 cs+sumL ls+sumT 6 fs+sumT 5 bs:=by
 have h1:=ifT_le cs [73,70,32] bs (by decide);have h2:=caseT_le ls bs hl;have h3:=argT_le fs false cs;have h4:=three_sum 12 cs;have h5:=head_sum 5 bs;unfold stT;by_cases e1:op=1
 ·rw [if_pos e1]
  simp only [List.length_append,List.length_cons,List.length_nil];omega
 rw [if_neg e1];by_cases e2:op=2
 ·rw [if_pos e2]
  simp only [List.length_append,List.length_cons,List.length_nil];omega
 rw [if_neg e2];by_cases e3:op=3
 ·rw [if_pos e3]
  simp only [List.length_append,List.length_cons,List.length_nil];omega
 rw [if_neg e3];by_cases e4:op=4
 ·rw [if_pos e4]
  simp only [List.length_append,List.length_cons,List.length_nil];omega
 rw [if_neg e4];by_cases e5:op=5
 ·rw [if_pos e5]
  simp only [List.length_append,List.length_cons,List.length_nil];omega
 rw [if_neg e5];by_cases e6:op=6
 ·rw [if_pos e6]
  simp only [List.length_append,List.length_cons,List.length_nil];omega
 rw [if_neg e6];by_cases e7:op=7
 ·rw [if_pos e7]
  simp only [List.length_cons,List.length_nil];omega
 rw [if_neg e7];by_cases e8:op=8
 ·rw [if_pos e8]
  simp only [List.length_cons,List.length_nil];omega
 rw [if_neg e8];simp only [List.length_append,List.length_cons,List.length_nil];omega
theorem sumT_exs (k:Nat):∀ L:List Ex,sumT k (exsS L)=k*L.length+sumE L
 | []=>rfl
 | x::l=>by
  have:=sumT_exs k l;rw [exsS,sumT,sumE,List.length_cons,Nat.mul_succ];omega
section
variable {H:Type} {enc:TypeId×Value→H} {w:World} {base:Nat} {held:Bool}
end
section
variable {H:Type} {enc:TypeId×Value→H} {w:World} {base:Nat} {held:Bool}
end
theorem kindS_le (n:Int):(kindS n).length≤20:=by
 by_cases h:n∈kindL
 ·have h2:kindL.all (fun n=>decide ((kindS n).length≤20))=true:=by kernel_rfl
  rw [List.all_eq_true] at h2;simpa using h2 n h
 ·rw [(kind_none h).2.1]
  decide
theorem secS_le (n:Int):(secS n).length≤10:=by
 unfold secS;repeat' split
 all_goals decide
theorem plainS_le (n:Int):(plainS n).length≤4:=by
 unfold plainS;repeat' split
 all_goals decide
theorem typeS_le (v:Va) (h1:InI v.lo) (h2:InI v.hi) (h3:InI v.init):(typeS v).length≤60:=by
 have a1:=num_len h1;have a2:=num_len h2;have a3:=num_len h3;have a4:=plainS_le v.type;have a5:=kindS_le v.type;have a6:=truthS_le v.init;unfold typeS;repeat' split
 all_goals
  try simp only [List.length_append,List.length_cons,List.length_nil]
  omega
theorem vaS_le (v:Va) (h1:InI v.lo) (h2:InI v.hi) (h3:InI v.init):(vaS v).length≤84+v.name.length:=by
 have a1:=typeS_le v h1 h2 h3;have a2:=secS_le v.sect;unfold vaS;simp only [List.length_append,List.length_cons,List.length_nil];omega
section
variable {H:Type} {enc:TypeId×Value→H} {w:World} {base:Nat} {held:Bool}
theorem three {α:Type} {l:List α} (h:l.length=3):∃ a b c,l=[a,b,c]:=by
 match l,h with
 | [a,b,c],_=>exact ⟨a,b,c,rfl⟩
end
theorem nm_le {s:Str} (h:nmB s=true):s.length≤16:=by
 cases s with
 | nil=>cases h
 | cons c l=>
  have h2:(alphaB c&&((c::l).all bodyB&&(decide ((c::l).length≤16)&&!isWord (c::l))))=true:=h;simp only [Bool.and_eq_true,decide_eq_true_eq] at h2;exact h2.2.2.1
theorem name_le {b:Bool} {s:Str} (h:nameB b s=true):s.length≤16:=by
 cases b with
 | true=>exact nm_le (show nmB s=true from h)
 | false=>
  have:s=[]:=by simpa [nameB] using h
  rw [this];decide
mutual
theorem exS_w:∀ x:Ex,exB x=true→(exS x).length≤60*wE x
 | .mk op n nm fd sub ln,h=>by
  rw [exB,Bool.and_eq_true] at h;obtain ⟨h9,hsb⟩:=h;unfold exOk at h9;simp only [Bool.and_eq_true,decide_eq_true_eq] at h9;obtain ⟨-,hn1,hn2,hnm,hfd,-⟩:=h9;have hj:InJ n:=by
   unfold InJ;unfold mostE at hn2;split at hn2
   ·omega
   ·split at hn2<;>omega
  have h1:=exS_le op n nm fd sub ln hj;have h2:=exsS_w sub hsb;have h3:=name_le hnm;have h4:=name_le hfd;rw [wE];omega
theorem exsS_w:∀ l:List Ex,exsB l=true→sumE l≤60*wsE l
 | [],_=>by rw [sumE,wsE];omega
 | x::l,h=>by
  rw [exsB,Bool.and_eq_true] at h;have h1:=exS_w x h.1;have h2:=exsS_w l h.2;rw [sumE,wsE];omega
end
theorem no_w {x:Ex} (h:noE x=true):(exS x).length≤60*wE x:=by
 obtain ⟨op,n,nm,fd,sub,ln⟩:=x;unfold noE at h;simp only [Bool.and_eq_true,beq_iff_eq] at h;obtain ⟨rfl,rfl,rfl,rfl,h5⟩:=h;obtain rfl:sub=[]:=List.eq_nil_of_length_eq_zero h5;have h1:=exS_le 0 0 [] [] [] ln (by unfold InJ;omega);rw [sumE] at h1;simp only [List.length_nil] at h1;rw [wE,wsE];omega
theorem sumL_w:∀ ls:List (List Int),sumL ls≤26*wL ls
 | []=>by rw [sumL,wL];omega
 | l::ls=>by
  have:=sumL_w ls;rw [sumL,wL];omega
theorem sumT_w:∀ fs:List Str,fs.all nmB=true→sumT 6 fs≤22*fs.length
 | [],_=>by rw [sumT];omega
 | f::fs,h=>by
  rw [List.all_cons,Bool.and_eq_true] at h;have h1:=nm_le h.1;have h2:=sumT_w fs h.2;rw [sumT,List.length_cons];omega
theorem cs_w {cs:List Ex} (h:exsB cs=true):sumT 12 (exsS cs)≤72*wsE cs:=by
 have h1:=sumT_exs 12 cs;have h2:=exsS_w cs h;have h3:=wsE_len cs;omega
mutual
theorem stS_w:∀ x:St,stB x=true→inS x→(stS x).length≤100*wS x
 | .mk op nm dst val cs ls fs bs ln,h,hi=>by
  rw [stB_fit] at h;simp only [Bool.and_eq_true] at h;obtain ⟨hin,hnm,hd,hv,hc,hcn,hf,hlb,hbl⟩:=h;rw [inS] at hi;have h1:=stT_le op nm (exS dst) (exS val) (exsS cs) ls fs (blksS bs) hi.1;have h2:=name_le hnm;have h3:(exS dst).length≤60*wE dst:=by
   unfold dstB at hd;split at hd
   ·unfold placeB at hd
    rw [Bool.and_eq_true] at hd;exact exS_w dst hd.2
   ·exact no_w hd
  have h4:(exS val).length≤60*wE val:=by
   unfold valB at hv;split at hv
   ·rw [Bool.and_eq_true] at hv
    exact exS_w val hv.2
   ·exact no_w hv
  have h5:=cs_w hc;have h6:=sumL_w ls;have h7:=sumT_w fs hf;have h8:=blksS_w bs hbl hi.2;rw [stS,wS];omega
theorem stsS_w:∀ l:List St,stsB l=true→inSs l→(stsS l).length≤100*wsS l
 | [],_,_=>by rw [stsS,wsS];simp
 | x::l,h,hi=>by
  rw [stsB,Bool.and_eq_true] at h;rw [inSs] at hi;have h1:=stS_w x h.1 hi.1;have h2:=stsS_w l h.2 hi.2;rw [stsS,wsS,List.length_append];omega
theorem blksS_w:∀ l:List (List St),blksB l=true→inBs l→sumT 5 (blksS l)≤100*wsB l
 | [],_,_=>by rw [blksS,sumT,wsB];omega
 | x::l,h,hi=>by
  rw [blksB,Bool.and_eq_true] at h;rw [inBs] at hi;have h1:=stsS_w x h.1 hi.1;have h2:=blksS_w l h.2 hi.2;rw [blksS,sumT,wsB];omega
end
theorem va_w {v:Va} (h:vaB v=true) (hi:InI v.init):(vaS v).length≤100:=by
 unfold vaB at h;simp only [Bool.and_eq_true] at h;obtain ⟨h1,h2,h3⟩:=h;have hl:=nm_le h1;have hb:InI v.lo∧InI v.hi:=by
  unfold typeB at h3;unfold InI;split at h3
  ·simp only [Bool.and_eq_true,decide_eq_true_eq] at h3
   omega
  ·split at h3
   ·cases h3
   ·omega
 have:=vaS_le v hb.1 hb.2 hi;omega
theorem vas_w:∀ l:List Va,l.all vaB=true→(∀ v∈l,InI v.init)→(vasS l).length≤100*l.length
 | [],_,_=>by rw [vasS];simp
 | v::l,h,hi=>by
  rw [List.all_cons,Bool.and_eq_true] at h;have h1:=va_w h.1 (hi v (List.mem_cons_self ..));have h2:=vas_w l h.2 (fun x hx=>hi x (List.mem_cons_of_mem _ hx));rw [vasS,List.length_append,List.length_cons];omega
theorem pg_w {p:Pg} (h:pgB p=true) (hi:inP p):(pgS p).length≤6500+100*wsS p.body:=by
 unfold pgB at h;simp only [Bool.and_eq_true,decide_eq_true_eq] at h;obtain ⟨h1,h2,h3,h4⟩:=h;have a1:=nm_le h1;have a2:=vas_w p.vars h3 hi.1;have a3:=stsS_w p.body h4 hi.2;unfold pgS;simp only [List.length_append,List.length_cons,List.length_nil];omega
mutual
theorem exS_same:∀ x y:Ex,exSame x y=true→exS x=exS y
 | .mk op n nm fd sub _,.mk op' n' nm' fd' sub' _,h=>by
  rw [exSame] at h;simp only [Bool.and_eq_true,beq_iff_eq] at h;obtain ⟨rfl,rfl,rfl,rfl,h⟩:=h;rw [exS,exS,exsS_same sub sub' h]
theorem exsS_same:∀ l m:List Ex,exsSame l m=true→exsS l=exsS m
 | [],[],_=>rfl
 | x::l,y::m,h=>by
  rw [exsSame,Bool.and_eq_true] at h;rw [exsS,exsS,exS_same x y h.1,exsS_same l m h.2]
 | [],_::_,h=>by simp [exsSame] at h
 | _::_,[],h=>by simp [exsSame] at h
end
mutual
theorem stS_same:∀ x y:St,stSame x y=true→stS x=stS y
 | .mk op nm dst val cs ls fs bs _,.mk op' nm' dst' val' cs' ls' fs' bs' _,h=>by
  rw [stSame] at h;simp only [Bool.and_eq_true,beq_iff_eq] at h;obtain ⟨rfl,rfl,h1,h2,h3,rfl,rfl,h4⟩:=h;rw [stS,stS,exS_same _ _ h1,exS_same _ _ h2,exsS_same _ _ h3,blksS_same bs bs' h4]
theorem stsS_same:∀ l m:List St,stsSame l m=true→stsS l=stsS m
 | [],[],_=>rfl
 | x::l,y::m,h=>by
  rw [stsSame,Bool.and_eq_true] at h;rw [stsS,stsS,stS_same x y h.1,stsS_same l m h.2]
 | [],_::_,h=>by simp [stsSame] at h
 | _::_,[],h=>by simp [stsSame] at h
theorem blksS_same:∀ l m:List (List St),blksSame l m=true→blksS l=blksS m
 | [],[],_=>rfl
 | x::l,y::m,h=>by
  rw [blksSame,Bool.and_eq_true] at h;rw [blksS,blksS,stsS_same x y h.1,blksS_same l m h.2]
 | [],_::_,h=>by simp [blksSame] at h
 | _::_,[],h=>by simp [blksSame] at h
end
theorem vasS_same:∀ l m:List Va,vasSame l m=true→vasS l=vasS m
 | [],[],_=>rfl
 | x::l,y::m,h=>by
  rw [vasSame,Bool.and_eq_true] at h;have h1:=h.1;unfold vaSame at h1;simp only [Bool.and_eq_true,beq_iff_eq] at h1;obtain ⟨e1,e2,e3,e4,e5,e6,e7⟩:=h1;have:vaS x=vaS y:=by
   unfold vaS typeS;rw [e1,e2,e3,e4,e5,e6,e7]
  rw [vasS,vasS,this,vasS_same l m h.2]
 | [],_::_,h=>by simp [vasSame] at h
 | _::_,[],h=>by simp [vasSame] at h
theorem pgS_same {p q:Pg} (h:pgSame p q=true):pgS p=pgS q:=by
 unfold pgSame at h;simp only [Bool.and_eq_true,beq_iff_eq] at h;unfold pgS;rw [h.1,vasS_same _ _ h.2.1,stsS_same _ _ h.2.2]
end sh
end Go.Proofs.YtdefgghhkknnpaaGreatDoor
